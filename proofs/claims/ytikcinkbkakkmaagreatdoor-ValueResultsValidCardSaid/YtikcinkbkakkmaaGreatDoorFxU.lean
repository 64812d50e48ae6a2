/- The remaining operations of package fixed and of the reference answer alike. -/
import Derived.Test.YtikcinkbkakkmaaGreatDoorFxQ
import Derived.Test.YtikcinkbkakkmaaGreatDoorFxT

namespace Go.Proofs.YtikcinkbkakkmaaGreatDoor.Fx
open Go.ChangeShapes Go.WideShapes Go.ChangeAt Go.RowKit
open Fr
set_option linter.unusedVariables false
set_option linter.unusedSimpArgs false
theorem neg_bad2 (K B F R O n0 d0 : Int) (bb0 : -9223372036854775808 ≤ B) (bb1 : B ≤ 9223372036854775807) (h : (ce K B F R O n0 d0 n0 d0 != 0) = true) :
    (∀ w, Calls Tryz.prog 70 #[T5 K B F R O, V2 n0 d0] w (Ret (Frac3 0 0 (ce K B F R O n0 d0 n0 d0)) w)) :=
  fun w => neg_any K B F R O n0 d0 _ _ _ w (Lib.hid fun w => comb61_bad K B F R O n0 d0 n0 d0 _ w h (Lib.hid fun w x hx c0 c1 c2 c3 => chk_any K B F R O n0 d0 n0 d0 x w bb0 bb1 hx c0 c1 c2 c3))
theorem neg_ok2 (K B F R O n0 d0 : Int) (h0 : fv K B F R O n0 d0 = true) :
    (∀ w, Calls Tryz.prog 70 #[T5 K B F R O, V2 n0 d0] w (Ret (Frac3 (Nx.nv (-n0) B O) 1 0) w)) := by
  obtain ⟨t, d0e, l0, m0, i0, i1⟩ := fv_parts h0
  obtain ⟨k1, k2, k3, k4, k5, k6, k7, k8⟩ := tv_parts t
  obtain ⟨p0, p1⟩ := two_pow F k4 k5
  have hce : ce K B F R O n0 d0 n0 d0 = 0 := by unfold ce; rw [if_pos t, if_pos ⟨h0, h0⟩]
  have CH := Lib.hid fun (w : World) (x : Nat) hx c0 c1 c2 c3 => chk_any K B F R O n0 d0 n0 d0 x w (by omega) (by omega) hx c0 c1 c2 c3
  rw [hce] at CH
  obtain ⟨p, hp⟩ : ∃ p, (2 : Int) ^ F.toNat = p := ⟨_, rfl⟩
  rw [hp] at p0 p1
  exact fun w => neg_any K B F R O n0 d0 _ _ _ w (Lib.hid fun w => comb61_ok K B F R O n0 d0 n0 d0 p _ w hp p0 p1 k4 k5 (by omega) (by omega) (by omega) (by omega) CH (Lib.hid fun w x h => cl61 K B F R O n0 n0 p w x h (by omega) (by omega) (by omega) (by omega)))
theorem div_bad2 (K B F R O n0 d0 n1 d1 : Int) (bb0 : -9223372036854775808 ≤ B) (bb1 : B ≤ 9223372036854775807) (h : (ce K B F R O n0 d0 n1 d1 != 0) = true) :
    (∀ w, Calls Tryz.prog 69 #[T5 K B F R O, V2 n0 d0, V2 n1 d1] w (Ret (Frac3 0 0 (ce K B F R O n0 d0 n1 d1)) w)) :=
  fun w => div_bad K B F R O n0 d0 n1 d1 _ _ _ _ w (by simpa using h) (Lib.hid fun w x hx c0 c1 c2 c3 => chk_any K B F R O n0 d0 n1 d1 x w bb0 bb1 hx c0 c1 c2 c3) (Lib.hid fun w => comb60_bad K B F R O n0 d0 n1 d1 _ w h (Lib.hid fun w x hx c0 c1 c2 c3 => chk_any K B F R O n0 d0 n1 d1 x w bb0 bb1 hx c0 c1 c2 c3))
theorem div_zero2 (K B F R O n0 d0 d1 : Int) (h0 : fv K B F R O n0 d0 = true) (h1 : fv K B F R O 0 d1 = true) :
    (∀ w, Calls Tryz.prog 69 #[T5 K B F R O, V2 n0 d0, V2 0 d1] w (Ret (Frac3 0 0 4) w)) := by
  obtain ⟨t, _⟩ := fv_parts h0
  obtain ⟨k1, k2, k3, k4, k5, k6, k7, k8⟩ := tv_parts t
  have hce : ce K B F R O n0 d0 0 d1 = 0 := by unfold ce; rw [if_pos t, if_pos ⟨h0, h1⟩]
  have CH := Lib.hid fun (w : World) (x : Nat) hx c0 c1 c2 c3 => chk_any K B F R O n0 d0 0 d1 x w (by omega) (by omega) hx c0 c1 c2 c3
  rw [hce] at CH
  exact fun w => div_zero K B F R O n0 d0 0 d1 0 0 0 0 w rfl CH
theorem div_ok2 (K B F R O n0 d0 n1 d1 : Int) (h0 : fv K B F R O n0 d0 = true) (h1 : fv K B F R O n1 d1 = true) (hz : n1 ≠ 0) :
    (∀ w, Calls Tryz.prog 69 #[T5 K B F R O, V2 n0 d0, V2 n1 d1] w (Ret (Frac3 (Nx.nv (Dv.dval R (n0 * 2 ^ F.toNat) n1) B O) 1 0) w)) := by
  obtain ⟨t, d0e, l0, m0, i0, i1⟩ := fv_parts h0
  obtain ⟨_, d1e, l1, m1, j0, j1⟩ := fv_parts h1
  obtain ⟨k1, k2, k3, k4, k5, k6, k7, k8⟩ := tv_parts t
  obtain ⟨p0, p1⟩ := two_pow F k4 k5
  have hce : ce K B F R O n0 d0 n1 d1 = 0 := by unfold ce; rw [if_pos t, if_pos ⟨h0, h1⟩]
  have CH := Lib.hid fun (w : World) (x : Nat) hx c0 c1 c2 c3 => chk_any K B F R O n0 d0 n1 d1 x w (by omega) (by omega) hx c0 c1 c2 c3
  rw [hce] at CH
  obtain ⟨p, hp⟩ : ∃ p, (2 : Int) ^ F.toNat = p := ⟨_, rfl⟩
  rw [hp] at p0 p1 ⊢
  obtain ⟨s0, s1⟩ := pb n0 p (by omega) (by omega)
  obtain ⟨s, hs⟩ : ∃ s, n0 * p = s := ⟨_, rfl⟩
  rw [hs] at s0 s1 ⊢
  obtain ⟨q0, q1⟩ := dval_bound R s n1 k6 k7 s0 s1 hz
  have hz' : (n1 == 0) = false := by simpa using hz
  exact fun w => div_go K B F R O n0 d0 n1 d1 _ _ _ 0 w hz' CH (Lib.hid fun w => comb60_ok K B F R O n0 d0 n1 d1 p _ w hp p0 p1 k4 k5 (by omega) (by omega) (by omega) (by omega) CH (Lib.hid fun w x h => cl60 K B F R O n0 n1 p s w x h h.lt hs (by omega) (by omega) p0 p1 (by omega) (by omega) (by omega) (by omega)))

theorem vld_parts {n d : Int} (h : vld n d = true) : 1 ≤ d ∧ d ≤ 2147483647 ∧ -2147483647 ≤ n ∧ n ≤ 2147483647 ∧ Int.gcd n d = 1 := by
  unfold vld at h
  simpa using h
theorem ff_tv2 (K B F R O n0 d0 : Int) (h : tv K B F R O = false) :
    (∀ w, Calls Tryz.prog 57 #[T5 K B F R O, V2 n0 d0] w (Ret (Frac3 0 0 10) w)) :=
  fun w => ff_tv K B F R O n0 d0 w (Lib.hid fun w => vt_bad K B F R O w h)
theorem ff_arg2 (K B F R O n0 d0 : Int) (h : tv K B F R O = true) (hv : vld n0 d0 = false) :
    (∀ w, Calls Tryz.prog 57 #[T5 K B F R O, V2 n0 d0] w (Ret (Frac3 0 0 1) w)) := by
  have hq : qok n0 d0 F R = false := by unfold qok; rw [hv]; rfl
  have V := Lib.hid fun w => bval_any n0 d0 w
  rw [hv] at V
  exact fun w => ff_arg K B F R O n0 d0 0 w (Lib.hid fun w => vt_ok K B F R O w h) (Lib.hid fun w => quant_bad n0 d0 F R w hq)
theorem ff_ok2 (K B F R O n0 d0 : Int) (h : tv K B F R O = true) (hv : vld n0 d0 = true) :
    (∀ w, Calls Tryz.prog 57 #[T5 K B F R O, V2 n0 d0] w (Ret (Frac3 (Nx.nv (Dv.dval R (n0 * 2 ^ F.toNat) d0) B O) 1 0) w)) := by
  obtain ⟨k1, k2, k3, k4, k5, k6, k7, k8⟩ := tv_parts h
  obtain ⟨p0, p1⟩ := two_pow F k4 k5
  obtain ⟨e1, e2, e3, e4, _⟩ := vld_parts hv
  have hq : qok n0 d0 F R = true := by
    unfold qok mdv
    rw [hv]
    simp
    omega
  have V := Lib.hid fun w => bval_any n0 d0 w
  rw [hv] at V
  obtain ⟨p, hp⟩ : ∃ p, (2 : Int) ^ F.toNat = p := ⟨_, rfl⟩
  rw [hp] at p0 p1 ⊢
  obtain ⟨s0, s1⟩ := pb n0 p (by omega) (by omega)
  obtain ⟨s, hs⟩ : ∃ s, n0 * p = s := ⟨_, rfl⟩
  rw [hs] at s0 s1 ⊢
  obtain ⟨q0, q1⟩ := dval_bound R s d0 k6 k7 s0 s1 (by omega)
  have D := Lib.hid fun w => Dv.div_any R s d0 w (by omega) (by omega) (by omega) (by omega)
  have he : Dv.derr R s d0 = 0 := by unfold Dv.derr; rw [if_neg (by omega), if_neg (by omega), if_neg (by omega)]
  rw [he] at D
  exact fun w => ff_ok K B F R O n0 d0 _ _ p w (Lib.hid fun w => vt_ok K B F R O w h) (Lib.hid fun w => quant_ok n0 d0 F R p s _ w hq hp p0 p1 hs s0 s1 D) (Lib.hid fun w => fo_any K B F R O p w hp p0 p1 k4 k5)
      (Lib.hid fun w x hx => fo2 K B F R O _ x w hx (by omega) (by omega) (by omega) (by omega))
/- New at a power of two. -/
theorem low_scale (b : Bool) (a c : Int) (ha : 0 ≤ a) (hc : 0 < c) : lowN b (2 * a) (2 * c) = lowN b a c ∧ lowD (2 * a) (2 * c) = lowD a c ∧ lowE (2 * a) (2 * c) = lowE a c := by
  have g : ((Int.gcd (2 * a) (2 * c) : Nat) : Int) = 2 * (Int.gcd a c : Nat) := by rw [Int.gcd_mul_left]; simp
  have e1 : 2 * a / ((Int.gcd (2 * a) (2 * c) : Nat) : Int) = a / (Int.gcd a c : Nat) := by rw [g]; exact Int.mul_ediv_mul_of_pos _ _ (by decide)
  have e2 : 2 * c / ((Int.gcd (2 * a) (2 * c) : Nat) : Int) = c / (Int.gcd a c : Nat) := by rw [g]; exact Int.mul_ediv_mul_of_pos _ _ (by decide)
  unfold lowN lowD lowE
  rw [e1, e2]
  exact ⟨rfl, rfl, rfl⟩
theorem low_one (b : Bool) (a c : Int) (h : Int.gcd a c = 1) (ha : a ≤ 2147483647) (hc : c ≤ 2147483647) : lowN b a c = (if b then -a else a) ∧ lowD a c = c ∧ lowE a c = 0 := by
  unfold lowN lowD lowE
  rw [h]
  have e : ((1 : Nat) : Int) = 1 := rfl
  have hb : ¬ (2147483647 < a ∨ 2147483647 < c) := by omega
  simp only [e, Int.ediv_one, if_neg hb]
  exact ⟨trivial, trivial, trivial⟩
theorem gcd_odd (n : Int) (m : Nat) (h : n % 2 ≠ 0) : Int.gcd n (2 ^ m) = 1 := by
  have h2 : Nat.gcd 2 n.natAbs = 1 := by
    rw [Nat.gcd_rec]
    have : n.natAbs % 2 = 1 := by omega
    rw [this]
    decide
  have h3 : Nat.gcd n.natAbs 2 = 1 := by rw [Nat.gcd_comm]; exact h2
  have h4 : Nat.gcd n.natAbs (2 ^ m) = 1 := Nat.Coprime.pow_right m h3
  unfold Int.gcd
  have h5 : ((2 : Int) ^ m).natAbs = 2 ^ m := by rw [Int.natAbs_pow]; rfl
  rw [h5]
  exact h4
theorem red_low (s : Bool) : ∀ (m : Nat) (a : Int), 0 ≤ a → a ≤ 2147483647 → m ≤ 30 → lowN s a (2 ^ m) = (if s then -(red a m).1 else (red a m).1) ∧ lowD a (2 ^ m) = 2 ^ (red a m).2 ∧ lowE a (2 ^ m) = 0
  | 0, a, h0, h1, hm => by
    have := low_one s a 1 (Int.gcd_one_right _) h1 (by decide)
    exact this
  | m + 1, a, h0, h1, hm => by
    by_cases he : a % 2 = 0
    · rw [red_even he]
      obtain ⟨c, hc⟩ : ∃ c, a / 2 = c := ⟨_, rfl⟩
      have ha : a = 2 * c := by omega
      rw [hc, ha]
      have hp : (2 : Int) ^ (m + 1) = 2 * 2 ^ m := by rw [Int.pow_succ]; omega
      rw [hp]
      have hpos : (0 : Int) < 2 ^ m := Int.pow_pos (by decide)
      obtain ⟨e1, e2, e3⟩ := low_scale s c (2 ^ m) (by omega) hpos
      rw [e1, e2, e3]
      exact red_low s m c (by omega) (by omega) (by omega)
    · rw [red_odd he]
      exact low_one s a _ (gcd_odd a (m + 1) he) h1 (by have := bnd2 (m + 1) hm; omega)
theorem red_neg : ∀ (m : Nat) (n : Int), (red (-n) m).1 = -(red n m).1 ∧ (red (-n) m).2 = (red n m).2
  | 0, n => ⟨rfl, rfl⟩
  | m + 1, n => by
    by_cases he : n % 2 = 0
    · rw [red_even he, red_even (by omega : -n % 2 = 0)]
      have : -n / 2 = -(n / 2) := by omega
      rw [this]
      exact red_neg m (n / 2)
    · rw [red_odd he, red_odd (by omega : -n % 2 ≠ 0)]
      exact ⟨rfl, rfl⟩
theorem new_red (n : Int) (m : Nat) (h0 : -2147483647 ≤ n) (h1 : n ≤ 2147483647) (hm : m ≤ 30) : newN n (2 ^ m) = (red n m).1 ∧ newD n (2 ^ m) = 2 ^ (red n m).2 ∧ newE n (2 ^ m) = 0 := by
  have hpos : (0 : Int) < 2 ^ m := Int.pow_pos (by decide)
  have hz : ¬ (2 : Int) ^ m = 0 := by omega
  have hl : ¬ (2 : Int) ^ m < 0 := by omega
  unfold newN newD newE
  simp only [if_neg hz, if_neg hl, decide_eq_false hl]
  by_cases hn : n < 0
  · rw [decide_eq_true hn, if_pos hn]
    obtain ⟨e1, e2, e3⟩ := red_low true m (-n) (by omega) (by omega) hm
    obtain ⟨r1, r2⟩ := red_neg m n
    rw [r1] at e1
    rw [r2] at e2
    exact ⟨by simpa using e1, e2, e3⟩
  · rw [decide_eq_false hn, if_neg hn]
    obtain ⟨e1, e2, e3⟩ := red_low false m n (by omega) h1 hm
    exact ⟨by simpa using e1, e2, e3⟩
theorem chk1_any (K B F R O n0 d0 : Int) (x : Nat) (w : World) (bb0 : -9223372036854775808 ≤ B) (bb1 : B ≤ 9223372036854775807) (hx : x < w.heap.size) (c0 : w.cell? ⟨x, 0, none⟩ = some (.int .i64 n0)) (c1 : w.cell? ⟨x, 1, none⟩ = some (.int .i64 d0)) :
    Calls Tryz.prog 102 #[T5 K B F R O, .slice (some ⟨x, 0, none⟩) 1 1] w (Ret (.int .i64 (ce K B F R O n0 d0 n0 d0)) w) := by
  unfold ce
  by_cases h : tv K B F R O = true
  · rw [if_pos h]
    have VT := Lib.hid fun w => vt_ok K B F R O w h
    have V0 := Lib.hid fun w => fval K B F R O n0 d0 w bb0 bb1
    by_cases h0 : fv K B F R O n0 d0 = true
    · rw [h0] at V0
      rw [if_pos ⟨h0, h0⟩]
      exact chk1_t K B F R O n0 d0 x w hx c0 c1 VT V0
    · rw [if_neg (fun h => h0 h.1)]
      rw [show fv K B F R O n0 d0 = false by simpa using h0] at V0
      exact chk1_f K B F R O n0 d0 x w hx c0 c1 VT V0
  · rw [if_neg h]
    have VT := Lib.hid fun w => vt_bad K B F R O w (by simpa using h)
    exact chk1_tv K B F R O n0 d0 x w hx c0 c1 VT
theorem tf_bad2 (K B F R O n0 d0 : Int) (bb0 : -9223372036854775808 ≤ B) (bb1 : B ≤ 9223372036854775807) (h : (ce K B F R O n0 d0 n0 d0 != 0) = true) :
    (∀ w, Calls Tryz.prog 90 #[T5 K B F R O, V2 n0 d0] w (Ret (Frac3 0 0 (ce K B F R O n0 d0 n0 d0)) w)) :=
  fun w => tf_bad K B F R O n0 d0 _ w h (Lib.hid fun w x hx c0 c1 => chk1_any K B F R O n0 d0 x w bb0 bb1 hx c0 c1)
theorem tf_ok2 (K B F R O n0 d0 : Int) (h0 : fv K B F R O n0 d0 = true) :
    (∀ w, Calls Tryz.prog 90 #[T5 K B F R O, V2 n0 d0] w (Ret (Frac3 (red n0 F.toNat).1 (2 ^ (red n0 F.toNat).2) 0) w)) := by
  obtain ⟨t, d0e, l0, m0, i0, i1⟩ := fv_parts h0
  obtain ⟨k1, k2, k3, k4, k5, k6, k7, k8⟩ := tv_parts t
  obtain ⟨p0, p1⟩ := two_pow F k4 k5
  have hce : ce K B F R O n0 d0 n0 d0 = 0 := by unfold ce; rw [if_pos t, if_pos ⟨h0, h0⟩]
  have CH := Lib.hid fun (w : World) (x : Nat) hx c0 c1 => chk1_any K B F R O n0 d0 x w (by omega) (by omega) hx c0 c1
  rw [hce] at CH
  have NW := Lib.hid fun w => new_any n0 (2 ^ F.toNat) w (by omega) (by omega) (by omega) (by omega)
  obtain ⟨e1, e2, e3⟩ := new_red n0 F.toNat (by omega) (by omega) (by omega)
  rw [e1, e2, e3] at NW
  exact fun w => tf_ok K B F R O n0 d0 _ _ _ _ w rfl p0 p1 k4 k5 CH NW
end Go.Proofs.YtikcinkbkakkmaaGreatDoor.Fx
