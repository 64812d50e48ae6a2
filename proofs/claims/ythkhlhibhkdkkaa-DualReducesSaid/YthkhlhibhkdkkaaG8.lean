/- The operations of package fixed and of the reference answer alike. -/
import Derived.Test.YthkhlhibhkdkkaaG4
import Derived.Test.YthkhlhibhkdkkaaG5
import Derived.Test.YthkhlhibhkdkkaaG6
import Derived.Test.YthkhlhibhkdkkaaG7
import Derived.Test.YthkhlhibhkdkkaaG3
import Derived.Test.YthkhlhibhkdkkaaG2
import Derived.Deep.RegionHeld3
import Derived.Deep.RegionWith

namespace Go.Proofs.Ythkhlhibhkdkkaa.Fx
open Go.ChangeShapes Go.WideShapes Go.ChangeAt Go.RowKit
open Fr
set_option linter.unusedVariables false
set_option linter.unusedSimpArgs false
abbrev V2 (n d : Int) : Value := .agg #[.int .i64 n, .int .i64 d]
abbrev T5 (K B F R O : Int) : Value := .agg #[.int .i64 K, .int .i64 B, .int .i64 F, .int .i64 R, .int .i64 O]
theorem two_pow (frac : Int) (f0 : 0 ≤ frac) (f1 : frac ≤ 30) : 1 ≤ (2 : Int) ^ frac.toNat ∧ (2 : Int) ^ frac.toNat ≤ 1073741824 := by
  have h : frac.toNat ≤ 30 := by omega
  have h1 : 0 < (2 : Nat) ^ frac.toNat := Nat.pow_pos (by decide)
  have h2 : (2 : Nat) ^ frac.toNat ≤ 2 ^ 30 := Nat.pow_le_pow_right (by decide) h
  have h3 : ((2 : Nat) ^ frac.toNat : Nat) = (2 : Int) ^ frac.toNat := by push_cast; rfl
  rw [← h3]
  have h4 : (2 : Nat) ^ 30 = 1073741824 := by decide
  omega
theorem pb (a b : Int) (ha : a.natAbs ≤ 2147483647) (hb : b.natAbs ≤ 1073741824) : -2305843009213693952 ≤ a * b ∧ a * b ≤ 2305843009213693952 := by
  have h := Int.natAbs_mul a b
  have h2 := Nat.mul_le_mul ha hb
  omega
theorem rnd_neg (how q r d : Int) (hd : d ≠ 0) : Plain.rnd how q (-r) (-d) = Plain.rnd how q r d := by
  unfold Plain.rnd
  by_cases h : r = 0
  · subst h; simp
  · rw [if_neg (by omega), if_neg h]
    have e : (-r < 0 ↔ -d < 0) ↔ (r < 0 ↔ d < 0) := by omega
    have e1 : (if -r < 0 then - -r else -r) = if r < 0 then -r else r := by split <;> split <;> omega
    have e2 : (if -d < 0 then - -d else -d) = if d < 0 then -d else d := by split <;> split <;> omega
    simp only [e, e1, e2]
theorem dval_neg (how t d : Int) (h : 1 ≤ how) (h' : how ≤ 4) (t0 : -4611686018427387904 ≤ t) (t1 : t ≤ 4611686018427387904) (hd : d ≠ 0) : Dv.dval how (-t) (-d) = Dv.dval how t d := by
  unfold Dv.dval
  rw [if_neg (by omega), if_neg (by omega), if_neg (by omega), if_neg (by omega), if_neg (by omega), if_neg (by omega)]
  rw [Int.neg_tdiv, Int.tdiv_neg, Int.neg_neg, Int.neg_tmod, Int.tmod_neg, rnd_neg _ _ _ _ hd]
theorem dval_bound (how t d : Int) (h : 1 ≤ how) (h' : how ≤ 4) (t0 : -2305843009213693952 ≤ t) (t1 : t ≤ 2305843009213693952) (hd : d ≠ 0) : -4611686018427387904 ≤ Dv.dval how t d ∧ Dv.dval how t d ≤ 4611686018427387904 := by
  unfold Dv.dval
  rw [if_neg (by omega), if_neg hd, if_neg (by omega)]
  obtain ⟨_, a, _, _, _⟩ := Plain.tfacts t d hd
  unfold Plain.rnd
  (repeat' split) <;> omega
theorem fv_parts {K B F R O n d : Int} (h : fv K B F R O n d = true) : tv K B F R O = true ∧ d = 1 ∧ - Nx.half B ≤ n ∧ n ≤ Nx.half B - 1 ∧ -1073741824 ≤ n ∧ n ≤ 1073741823 := by
  unfold fv at h
  rw [Bool.and_eq_true] at h
  obtain ⟨h1, h2⟩ := h
  obtain ⟨_, p2, p3, _⟩ := tv_parts h1
  obtain ⟨_, _, q3, _⟩ := half_of p2 p3
  have := of_decide_eq_true h2
  exact ⟨h1, this.1, this.2.1, this.2.2, by omega, by omega⟩
theorem nv_same {n B O : Int} (h0 : - Nx.half B ≤ n) (h1 : n ≤ Nx.half B - 1) (hb : 2 ≤ B) (hb' : B ≤ 31) (ho : O = 1 ∨ O = 2) : Nx.nv n B O = n := by
  have hg : ¬ Nx.nbad B O := by unfold Nx.nbad; omega
  unfold Nx.nv
  rw [if_neg hg, if_neg (by omega), if_neg (by omega)]
/-- What the check of two operands answers. -/
def ce (K B F R O n0 d0 n1 d1 : Int) : Int := if tv K B F R O = true then (if fv K B F R O n0 d0 = true ∧ fv K B F R O n1 d1 = true then 0 else 1) else 10
theorem chk_any (K B F R O n0 d0 n1 d1 : Int) (x : Nat) (w : World) (bb0 : -9223372036854775808 ≤ B) (bb1 : B ≤ 9223372036854775807) (hx : x < w.heap.size) (c0 : w.cell? ⟨x, 0, none⟩ = some (.int .i64 n0)) (c1 : w.cell? ⟨x, 1, none⟩ = some (.int .i64 d0)) (c2 : w.cell? ⟨x, 2, none⟩ = some (.int .i64 n1)) (c3 : w.cell? ⟨x, 3, none⟩ = some (.int .i64 d1)) :
    Calls Try.prog 79 #[T5 K B F R O, .slice (some ⟨x, 0, none⟩) 2 2] w (Ret (.int .i64 (ce K B F R O n0 d0 n1 d1)) w) := by
  unfold ce
  by_cases h : tv K B F R O = true
  · rw [if_pos h]
    have VT := Lib.hid fun w => vt_ok K B F R O w h
    have V0 := Lib.hid fun w => fval K B F R O n0 d0 w bb0 bb1
    have V1 := Lib.hid fun w => fval K B F R O n1 d1 w bb0 bb1
    by_cases h0 : fv K B F R O n0 d0 = true
    · rw [h0] at V0
      by_cases h1 : fv K B F R O n1 d1 = true
      · rw [h1] at V1
        rw [if_pos ⟨h0, h1⟩]
        exact chk2_tt K B F R O n0 d0 n1 d1 x w hx c0 c1 c2 c3 VT V0 V1
      · rw [if_neg (fun h => h1 h.2)]
        rw [show fv K B F R O n1 d1 = false by simpa using h1] at V1
        exact chk2_tf K B F R O n0 d0 n1 d1 x w hx c0 c1 c2 c3 VT V0 V1
    · rw [if_neg (fun h => h0 h.1)]
      rw [show fv K B F R O n0 d0 = false by simpa using h0] at V0
      exact chk2_f K B F R O n0 d0 n1 d1 x w hx c0 c1 c2 c3 VT V0
  · rw [if_neg h]
    have VT := Lib.hid fun w => vt_bad K B F R O w (by simpa using h)
    exact chk2_tv K B F R O n0 d0 n1 d1 x w hx c0 c1 c2 c3 VT
theorem ce_cases (K B F R O n0 d0 n1 d1 : Int) : (ce K B F R O n0 d0 n1 d1 = 0 ∧ fv K B F R O n0 d0 = true ∧ fv K B F R O n1 d1 = true) ∨ (ce K B F R O n0 d0 n1 d1 != 0) = true := by
  unfold ce
  by_cases h : tv K B F R O = true
  · rw [if_pos h]
    by_cases h2 : fv K B F R O n0 d0 = true ∧ fv K B F R O n1 d1 = true
    · rw [if_pos h2]; exact .inl ⟨rfl, h2⟩
    · rw [if_neg h2]; exact .inr rfl
  · rw [if_neg h]; exact .inr rfl
theorem TyAt.lt {K B F R O : Int} {x : Nat} {w : World} (h : TyAt K B F R O x w) : x < w.heap.size := by
  have := World.block_lt_of_cell? w _ h.1
  simpa using this
theorem add_bad2 (K B F R O n0 d0 n1 d1 : Int) (bb0 : -9223372036854775808 ≤ B) (bb1 : B ≤ 9223372036854775807) (h : (ce K B F R O n0 d0 n1 d1 != 0) = true) :
    (∀ w, Calls Try.prog 57 #[T5 K B F R O, V2 n0 d0, V2 n1 d1] w (Ret (Frac3 0 0 (ce K B F R O n0 d0 n1 d1)) w)) :=
  fun w => add_any K B F R O n0 d0 n1 d1 _ _ _ w (Lib.hid fun w => comb57_bad K B F R O n0 d0 n1 d1 _ w h (Lib.hid fun w x hx c0 c1 c2 c3 => chk_any K B F R O n0 d0 n1 d1 x w bb0 bb1 hx c0 c1 c2 c3))
theorem add_ok2 (K B F R O n0 d0 n1 d1 : Int) (h0 : fv K B F R O n0 d0 = true) (h1 : fv K B F R O n1 d1 = true) :
    (∀ w, Calls Try.prog 57 #[T5 K B F R O, V2 n0 d0, V2 n1 d1] w (Ret (Frac3 (Nx.nv (n0 + n1) B O) 1 0) w)) := by
  obtain ⟨t, d0e, l0, m0, i0, i1⟩ := fv_parts h0
  obtain ⟨_, d1e, l1, m1, j0, j1⟩ := fv_parts h1
  obtain ⟨k1, k2, k3, k4, k5, k6, k7, k8⟩ := tv_parts t
  obtain ⟨p0, p1⟩ := two_pow F k4 k5
  have hce : ce K B F R O n0 d0 n1 d1 = 0 := by unfold ce; rw [if_pos t, if_pos ⟨h0, h1⟩]
  have CH := Lib.hid fun (w : World) (x : Nat) hx c0 c1 c2 c3 => chk_any K B F R O n0 d0 n1 d1 x w (by omega) (by omega) hx c0 c1 c2 c3
  rw [hce] at CH
  obtain ⟨p, hp⟩ : ∃ p, (2 : Int) ^ F.toNat = p := ⟨_, rfl⟩
  rw [hp] at p0 p1 
  exact fun w => add_any K B F R O n0 d0 n1 d1 _ _ _ w (Lib.hid fun w => comb57_ok K B F R O n0 d0 n1 d1 p _ w hp p0 p1 k4 k5 (by omega) (by omega) (by omega) (by omega) CH (Lib.hid fun w x h => cl57 K B F R O n0 n1 p w x h (by omega) (by omega) (by omega) (by omega)))
theorem sub_bad2 (K B F R O n0 d0 n1 d1 : Int) (bb0 : -9223372036854775808 ≤ B) (bb1 : B ≤ 9223372036854775807) (h : (ce K B F R O n0 d0 n1 d1 != 0) = true) :
    (∀ w, Calls Try.prog 58 #[T5 K B F R O, V2 n0 d0, V2 n1 d1] w (Ret (Frac3 0 0 (ce K B F R O n0 d0 n1 d1)) w)) :=
  fun w => sub_any K B F R O n0 d0 n1 d1 _ _ _ w (Lib.hid fun w => comb58_bad K B F R O n0 d0 n1 d1 _ w h (Lib.hid fun w x hx c0 c1 c2 c3 => chk_any K B F R O n0 d0 n1 d1 x w bb0 bb1 hx c0 c1 c2 c3))
theorem sub_ok2 (K B F R O n0 d0 n1 d1 : Int) (h0 : fv K B F R O n0 d0 = true) (h1 : fv K B F R O n1 d1 = true) :
    (∀ w, Calls Try.prog 58 #[T5 K B F R O, V2 n0 d0, V2 n1 d1] w (Ret (Frac3 (Nx.nv (n0 - n1) B O) 1 0) w)) := by
  obtain ⟨t, d0e, l0, m0, i0, i1⟩ := fv_parts h0
  obtain ⟨_, d1e, l1, m1, j0, j1⟩ := fv_parts h1
  obtain ⟨k1, k2, k3, k4, k5, k6, k7, k8⟩ := tv_parts t
  obtain ⟨p0, p1⟩ := two_pow F k4 k5
  have hce : ce K B F R O n0 d0 n1 d1 = 0 := by unfold ce; rw [if_pos t, if_pos ⟨h0, h1⟩]
  have CH := Lib.hid fun (w : World) (x : Nat) hx c0 c1 c2 c3 => chk_any K B F R O n0 d0 n1 d1 x w (by omega) (by omega) hx c0 c1 c2 c3
  rw [hce] at CH
  obtain ⟨p, hp⟩ : ∃ p, (2 : Int) ^ F.toNat = p := ⟨_, rfl⟩
  rw [hp] at p0 p1 
  exact fun w => sub_any K B F R O n0 d0 n1 d1 _ _ _ w (Lib.hid fun w => comb58_ok K B F R O n0 d0 n1 d1 p _ w hp p0 p1 k4 k5 (by omega) (by omega) (by omega) (by omega) CH (Lib.hid fun w x h => cl58 K B F R O n0 n1 p w x h (by omega) (by omega) (by omega) (by omega)))
theorem mul_bad2 (K B F R O n0 d0 n1 d1 : Int) (bb0 : -9223372036854775808 ≤ B) (bb1 : B ≤ 9223372036854775807) (h : (ce K B F R O n0 d0 n1 d1 != 0) = true) :
    (∀ w, Calls Try.prog 59 #[T5 K B F R O, V2 n0 d0, V2 n1 d1] w (Ret (Frac3 0 0 (ce K B F R O n0 d0 n1 d1)) w)) :=
  fun w => mul_any K B F R O n0 d0 n1 d1 _ _ _ w (Lib.hid fun w => comb59_bad K B F R O n0 d0 n1 d1 _ w h (Lib.hid fun w x hx c0 c1 c2 c3 => chk_any K B F R O n0 d0 n1 d1 x w bb0 bb1 hx c0 c1 c2 c3))
theorem mul_ok2 (K B F R O n0 d0 n1 d1 : Int) (h0 : fv K B F R O n0 d0 = true) (h1 : fv K B F R O n1 d1 = true) :
    (∀ w, Calls Try.prog 59 #[T5 K B F R O, V2 n0 d0, V2 n1 d1] w (Ret (Frac3 (Nx.nv (Dv.dval R (n0 * n1) (2 ^ F.toNat)) B O) 1 0) w)) := by
  obtain ⟨t, d0e, l0, m0, i0, i1⟩ := fv_parts h0
  obtain ⟨_, d1e, l1, m1, j0, j1⟩ := fv_parts h1
  obtain ⟨k1, k2, k3, k4, k5, k6, k7, k8⟩ := tv_parts t
  obtain ⟨p0, p1⟩ := two_pow F k4 k5
  have hce : ce K B F R O n0 d0 n1 d1 = 0 := by unfold ce; rw [if_pos t, if_pos ⟨h0, h1⟩]
  have CH := Lib.hid fun (w : World) (x : Nat) hx c0 c1 c2 c3 => chk_any K B F R O n0 d0 n1 d1 x w (by omega) (by omega) hx c0 c1 c2 c3
  rw [hce] at CH
  obtain ⟨p, hp⟩ : ∃ p, (2 : Int) ^ F.toNat = p := ⟨_, rfl⟩
  rw [hp] at p0 p1 ⊢
  obtain ⟨s0, s1⟩ := pb n0 n1 (by omega) (by omega)
  obtain ⟨s, hs⟩ : ∃ s, n0 * n1 = s := ⟨_, rfl⟩
  rw [hs] at s0 s1 ⊢
  obtain ⟨q0, q1⟩ := dval_bound R s p k6 k7 s0 s1 (by omega)
  exact fun w => mul_any K B F R O n0 d0 n1 d1 _ _ _ w (Lib.hid fun w => comb59_ok K B F R O n0 d0 n1 d1 p _ w hp p0 p1 k4 k5 (by omega) (by omega) (by omega) (by omega) CH (Lib.hid fun w x h => cl59 K B F R O n0 n1 p s w x h h.lt hs (by omega) (by omega) p0 p1 (by omega) (by omega) (by omega) (by omega)))
end Go.Proofs.Ythkhlhibhkdkkaa.Fx


namespace Go.Proofs.Ythkhlhibhkdkkaa.Fr
open Go.ChangeShapes Go.WideShapes Go.ChangeAt Go.RowKit
set_option linter.unusedVariables false
set_option linter.unusedSimpArgs false
def newN (n d : Int) : Int := if d = 0 then 0 else lowN (decide (n < 0) != decide (d < 0)) (if n < 0 then -n else n) (if d < 0 then -d else d)
def newD (n d : Int) : Int := if d = 0 then 0 else lowD (if n < 0 then -n else n) (if d < 0 then -d else d)
def newE (n d : Int) : Int := if d = 0 then 4 else lowE (if n < 0 then -n else n) (if d < 0 then -d else d)
set_option maxHeartbeats 4000000 in
theorem new_any (n d : Int) (w : World) (n0 : -9223372036854775808 ≤ n) (n1 : n ≤ 9223372036854775807) (d0 : -9223372036854775808 ≤ d) (d1 : d ≤ 9223372036854775807) :
    Calls Try.prog 63 #[.int .i64 n, .int .i64 d] w (Ret (Frac3 (newN n d) (newD n d) (newE n d)) w) := by
  by_cases hd : d = 0
  · subst hd
    have e1 : newN n 0 = 0 := rfl
    have e2 : newD n 0 = 0 := rfl
    have e3 : newE n 0 = 4 := rfl
    rw [e1, e2, e3]
    clear e1 e2 e3
    go_enter Try.func63, Try.ntmps63
    go_wp2
    go_returns
    refine ⟨rfl, ?_⟩
    repeat' (first | (with_reducible exact Below.refl _ _) | (with_reducible refine below_drewN ?_ _) | (with_reducible refine Below.drew ?_) | (with_reducible refine Below.alloc ?_ ?_ _) | (with_reducible refine Below.setCell ?_ ?_ _) | (with_reducible assumption) | (simp; done) | (simp; omega) | omega)
  · have hz : (d == 0) = false := by simpa using hd
    obtain ⟨x, y, hx, hy⟩ : ∃ x y, decide (n < 0) = x ∧ decide (d < 0) = y := ⟨_, _, rfl, rfl⟩
    obtain ⟨m, hm, m0, m1⟩ : ∃ m, (if n < 0 then -n else n) = m ∧ 0 ≤ m ∧ m ≤ 9223372036854775808 := ⟨_, rfl, by split <;> omega, by split <;> omega⟩
    obtain ⟨c, hc, c0, c1⟩ : ∃ c, (if d < 0 then -d else d) = c ∧ 1 ≤ c ∧ c ≤ 9223372036854775808 := ⟨_, rfl, by split <;> omega, by split <;> omega⟩
    have e1 : newN n d = lowN (x != y) m c := by unfold newN; rw [if_neg hd, hx, hy, hm, hc]
    have e2 : newD n d = lowD m c := by unfold newD; rw [if_neg hd, hm, hc]
    have e3 : newE n d = lowE m c := by unfold newE; rw [if_neg hd, hm, hc]
    rw [e1, e2, e3]
    have hx1 : x = true → n < 0 ∧ m = -n := fun h => by
      have h1 : n < 0 := by rw [h] at hx; simpa using hx
      exact ⟨h1, by rw [if_pos h1] at hm; exact hm.symm⟩
    have hx2 : x = false → 0 ≤ n ∧ m = n := fun h => by
      have h1 : 0 ≤ n := by rw [h] at hx; simpa using hx
      exact ⟨h1, by rw [if_neg (by omega)] at hm; exact hm.symm⟩
    have hy1 : y = true → d < 0 ∧ c = -d := fun h => by
      have h1 : d < 0 := by rw [h] at hy; simpa using hy
      exact ⟨h1, by rw [if_pos h1] at hc; exact hc.symm⟩
    have hy2 : y = false → 0 < d ∧ c = d := fun h => by
      have h1 : 0 ≤ d := by rw [h] at hy; simpa using hy
      exact ⟨by omega, by rw [if_neg (by omega)] at hc; exact hc.symm⟩
    have LW := Lib.hid (fun b (w : World) => low_any b m c w m0 m1 c0 c1)
    clear e1 e2 e3 hm hc
    cases x <;> cases y
    all_goals
      (first | obtain ⟨h1, rfl⟩ := hx1 rfl | obtain ⟨h1, rfl⟩ := hx2 rfl)
      (first | obtain ⟨h2, rfl⟩ := hy1 rfl | obtain ⟨h2, rfl⟩ := hy2 rfl)
      clear hx1 hx2 hy1 hy2
      go_enter Try.func63, Try.ntmps63
      go_wp2_with (first | (go_at_call 51; refine (fmag_pos _ _ (by omega) (by omega)).mono ?_; rintro e w1 ⟨rfl, rfl⟩) | (go_at_call 51; refine (fmag_neg _ _ (by omega) (by omega)).mono ?_; rintro e w1 ⟨rfl, rfl⟩) | (go_at_call 84; refine (LW.out _ _).mono ?_; rintro e w1 ⟨rfl, hb⟩; have hc := (bcell hb).1; have hf := (bcell hb).2))
      refine bodyPost_ret (v := Frac3 _ _ _) (by simp [results, Try.results63, go_sem, hc]) rfl ⟨rfl, ?_⟩
      refine Below.setCell (Below.setCell ?_ (by simp) _) (by simp) _
      exact ((Below.refl _ _).alloc (Nat.le_refl _) _).trans (hb.mono (by simp))
end Go.Proofs.Ythkhlhibhkdkkaa.Fr


namespace Go.Proofs.Ythkhlhibhkdkkaa.Fx
open Go.ChangeShapes Go.WideShapes Go.ChangeAt Go.RowKit
open Fr
set_option maxRecDepth 8000
set_option linter.unusedVariables false
set_option linter.unusedSimpArgs false
set_option maxRecDepth 8000
set_option maxRecDepth 8000
/-- A number and a power of two, both halved as long as the number is even. -/
def red : Int → Nat → Int × Nat
  | n, 0 => (n, 0)
  | n, m + 1 => if n % 2 = 0 then red (n / 2) m else (n, m + 1)
theorem red_bound : ∀ (m : Nat) (n : Int), (red n m).1.natAbs ≤ n.natAbs
  | 0, n => Nat.le_refl _
  | m + 1, n => by
    unfold red
    split
    · have := red_bound m (n / 2); omega
    · exact Nat.le_refl _
theorem red_odd {n : Int} {m : Nat} (h : n % 2 ≠ 0) : red n m = (n, m) := by
  cases m with
  | zero => rfl
  | succ m => unfold red; rw [if_neg h]
theorem red_even {n : Int} {m : Nat} (h : n % 2 = 0) : red n (m + 1) = red (n / 2) m := by
  show (if n % 2 = 0 then red (n / 2) m else (n, m + 1)) = _
  rw [if_pos h]
theorem tdiv_even {M : Int} (h : M % 2 = 0) : M.tdiv 2 = M / 2 := by
  obtain ⟨q, hq⟩ : ∃ q, M / 2 = q := ⟨_, rfl⟩
  have e : M = 2 * q := by omega
  rw [hq, e, Int.mul_tdiv_cancel_left _ (by decide)]
theorem Frac3_eq {a b c a' b' c' : Int} (h : a = a') (h' : b = b') : Frac3 a b c = Frac3 a' b' c := by rw [h, h']
theorem bnd2 (m : Nat) (h : m ≤ 30) : 1 ≤ (2 : Int) ^ m ∧ (2 : Int) ^ m ≤ 1073741824 := by
  have h1 : 0 < (2 : Nat) ^ m := Nat.pow_pos (by decide)
  have h2 : (2 : Nat) ^ m ≤ 2 ^ 30 := Nat.pow_le_pow_right (by decide) h
  have h3 : ((2 : Nat) ^ m : Nat) = (2 : Int) ^ m := by push_cast; rfl
  have h4 : (2 : Nat) ^ 30 = 1073741824 := by decide
  omega
end Go.Proofs.Ythkhlhibhkdkkaa.Fx


namespace Go.Proofs.Ythkhlhibhkdkkaa.Fx
open Go.ChangeShapes Go.WideShapes Go.ChangeAt Go.RowKit
open Fr
set_option linter.unusedVariables false
set_option linter.unusedSimpArgs false
theorem neg_bad2 (K B F R O n0 d0 : Int) (bb0 : -9223372036854775808 ≤ B) (bb1 : B ≤ 9223372036854775807) (h : (ce K B F R O n0 d0 n0 d0 != 0) = true) :
    (∀ w, Calls Try.prog 61 #[T5 K B F R O, V2 n0 d0] w (Ret (Frac3 0 0 (ce K B F R O n0 d0 n0 d0)) w)) :=
  fun w => neg_any K B F R O n0 d0 _ _ _ w (Lib.hid fun w => comb61_bad K B F R O n0 d0 n0 d0 _ w h (Lib.hid fun w x hx c0 c1 c2 c3 => chk_any K B F R O n0 d0 n0 d0 x w bb0 bb1 hx c0 c1 c2 c3))
theorem neg_ok2 (K B F R O n0 d0 : Int) (h0 : fv K B F R O n0 d0 = true) :
    (∀ w, Calls Try.prog 61 #[T5 K B F R O, V2 n0 d0] w (Ret (Frac3 (Nx.nv (-n0) B O) 1 0) w)) := by
  obtain ⟨t, d0e, l0, m0, i0, i1⟩ := fv_parts h0
  obtain ⟨k1, k2, k3, k4, k5, k6, k7, k8⟩ := tv_parts t
  obtain ⟨p0, p1⟩ := two_pow F k4 k5
  have hce : ce K B F R O n0 d0 n0 d0 = 0 := by unfold ce; rw [if_pos t, if_pos ⟨h0, h0⟩]
  have CH := Lib.hid fun (w : World) (x : Nat) hx c0 c1 c2 c3 => chk_any K B F R O n0 d0 n0 d0 x w (by omega) (by omega) hx c0 c1 c2 c3
  rw [hce] at CH
  obtain ⟨p, hp⟩ : ∃ p, (2 : Int) ^ F.toNat = p := ⟨_, rfl⟩
  rw [hp] at p0 p1
  exact fun w => neg_any K B F R O n0 d0 _ _ _ w (Lib.hid fun w => comb61_ok K B F R O n0 d0 n0 d0 p _ w hp p0 p1 k4 k5 (by omega) (by omega) (by omega) (by omega) CH (Lib.hid fun w x h => cl61 K B F R O n0 n0 p w x h (by omega) (by omega) (by omega) (by omega)))
theorem div_bad2 (K B F R O n0 d0 n1 d1 : Int) (bb0 : -9223372036854775808 ≤ B) (bb1 : B ≤ 9223372036854775807) (h : (ce K B F R O n0 d0 n1 d1 != 0) = true) :
    (∀ w, Calls Try.prog 60 #[T5 K B F R O, V2 n0 d0, V2 n1 d1] w (Ret (Frac3 0 0 (ce K B F R O n0 d0 n1 d1)) w)) :=
  fun w => div_bad K B F R O n0 d0 n1 d1 _ _ _ _ w (by simpa using h) (Lib.hid fun w x hx c0 c1 c2 c3 => chk_any K B F R O n0 d0 n1 d1 x w bb0 bb1 hx c0 c1 c2 c3) (Lib.hid fun w => comb60_bad K B F R O n0 d0 n1 d1 _ w h (Lib.hid fun w x hx c0 c1 c2 c3 => chk_any K B F R O n0 d0 n1 d1 x w bb0 bb1 hx c0 c1 c2 c3))
theorem div_zero2 (K B F R O n0 d0 d1 : Int) (h0 : fv K B F R O n0 d0 = true) (h1 : fv K B F R O 0 d1 = true) :
    (∀ w, Calls Try.prog 60 #[T5 K B F R O, V2 n0 d0, V2 0 d1] w (Ret (Frac3 0 0 4) w)) := by
  obtain ⟨t, _⟩ := fv_parts h0
  obtain ⟨k1, k2, k3, k4, k5, k6, k7, k8⟩ := tv_parts t
  have hce : ce K B F R O n0 d0 0 d1 = 0 := by unfold ce; rw [if_pos t, if_pos ⟨h0, h1⟩]
  have CH := Lib.hid fun (w : World) (x : Nat) hx c0 c1 c2 c3 => chk_any K B F R O n0 d0 0 d1 x w (by omega) (by omega) hx c0 c1 c2 c3
  rw [hce] at CH
  exact fun w => div_zero K B F R O n0 d0 0 d1 0 0 0 0 w rfl CH
theorem div_ok2 (K B F R O n0 d0 n1 d1 : Int) (h0 : fv K B F R O n0 d0 = true) (h1 : fv K B F R O n1 d1 = true) (hz : n1 ≠ 0) :
    (∀ w, Calls Try.prog 60 #[T5 K B F R O, V2 n0 d0, V2 n1 d1] w (Ret (Frac3 (Nx.nv (Dv.dval R (n0 * 2 ^ F.toNat) n1) B O) 1 0) w)) := by
  obtain ⟨t, d0e, l0, m0, i0, i1⟩ := fv_parts h0
  obtain ⟨_, d1e, l1, m1, j0, j1⟩ := fv_parts h1
  obtain ⟨k1, k2, k3, k4, k5, k6, k7, k8⟩ := tv_parts t
  obtain ⟨p0, p1⟩ := two_pow F k4 k5
  have hce : ce K B F R O n0 d0 n1 d1 = 0 := by unfold ce; rw [if_pos t, if_pos ⟨h0, h1⟩]
  have CH := Lib.hid fun (w : World) (x : Nat) hx c0 c1 c2 c3 => chk_any K B F R O n0 d0 n1 d1 x w (by omega) (by omega) hx c0 c1 c2 c3
  rw [hce] at CH
  obtain ⟨p, hp⟩ : ∃ p, (2 : Int) ^ F.toNat = p := ⟨_, rfl⟩
  rw [hp] at p0 p1 ⊢
  obtain ⟨s0, s1⟩ := pb n0 p (by omega) (by omega)
  obtain ⟨s, hs⟩ : ∃ s, n0 * p = s := ⟨_, rfl⟩
  rw [hs] at s0 s1 ⊢
  obtain ⟨q0, q1⟩ := dval_bound R s n1 k6 k7 s0 s1 hz
  have hz' : (n1 == 0) = false := by simpa using hz
  exact fun w => div_go K B F R O n0 d0 n1 d1 _ _ _ 0 w hz' CH (Lib.hid fun w => comb60_ok K B F R O n0 d0 n1 d1 p _ w hp p0 p1 k4 k5 (by omega) (by omega) (by omega) (by omega) CH (Lib.hid fun w x h => cl60 K B F R O n0 n1 p s w x h h.lt hs (by omega) (by omega) p0 p1 (by omega) (by omega) (by omega) (by omega)))

theorem vld_parts {n d : Int} (h : vld n d = true) : 1 ≤ d ∧ d ≤ 2147483647 ∧ -2147483647 ≤ n ∧ n ≤ 2147483647 ∧ Int.gcd n d = 1 := by
  unfold vld at h
  simpa using h
theorem low_scale (b : Bool) (a c : Int) (ha : 0 ≤ a) (hc : 0 < c) : lowN b (2 * a) (2 * c) = lowN b a c ∧ lowD (2 * a) (2 * c) = lowD a c ∧ lowE (2 * a) (2 * c) = lowE a c := by
  have g : ((Int.gcd (2 * a) (2 * c) : Nat) : Int) = 2 * (Int.gcd a c : Nat) := by rw [Int.gcd_mul_left]; simp
  have e1 : 2 * a / ((Int.gcd (2 * a) (2 * c) : Nat) : Int) = a / (Int.gcd a c : Nat) := by rw [g]; exact Int.mul_ediv_mul_of_pos _ _ (by decide)
  have e2 : 2 * c / ((Int.gcd (2 * a) (2 * c) : Nat) : Int) = c / (Int.gcd a c : Nat) := by rw [g]; exact Int.mul_ediv_mul_of_pos _ _ (by decide)
  unfold lowN lowD lowE
  rw [e1, e2]
  exact ⟨rfl, rfl, rfl⟩
theorem low_one (b : Bool) (a c : Int) (h : Int.gcd a c = 1) (ha : a ≤ 2147483647) (hc : c ≤ 2147483647) : lowN b a c = (if b then -a else a) ∧ lowD a c = c ∧ lowE a c = 0 := by
  unfold lowN lowD lowE
  rw [h]
  have e : ((1 : Nat) : Int) = 1 := rfl
  have hb : ¬ (2147483647 < a ∨ 2147483647 < c) := by omega
  simp only [e, Int.ediv_one, if_neg hb]
  exact ⟨trivial, trivial, trivial⟩
theorem gcd_odd (n : Int) (m : Nat) (h : n % 2 ≠ 0) : Int.gcd n (2 ^ m) = 1 := by
  have h2 : Nat.gcd 2 n.natAbs = 1 := by
    rw [Nat.gcd_rec]
    have : n.natAbs % 2 = 1 := by omega
    rw [this]
    decide
  have h3 : Nat.gcd n.natAbs 2 = 1 := by rw [Nat.gcd_comm]; exact h2
  have h4 : Nat.gcd n.natAbs (2 ^ m) = 1 := Nat.Coprime.pow_right m h3
  unfold Int.gcd
  have h5 : ((2 : Int) ^ m).natAbs = 2 ^ m := by rw [Int.natAbs_pow]; rfl
  rw [h5]
  exact h4
theorem red_low (s : Bool) : ∀ (m : Nat) (a : Int), 0 ≤ a → a ≤ 2147483647 → m ≤ 30 → lowN s a (2 ^ m) = (if s then -(red a m).1 else (red a m).1) ∧ lowD a (2 ^ m) = 2 ^ (red a m).2 ∧ lowE a (2 ^ m) = 0
  | 0, a, h0, h1, hm => by
    have := low_one s a 1 (Int.gcd_one_right _) h1 (by decide)
    exact this
  | m + 1, a, h0, h1, hm => by
    by_cases he : a % 2 = 0
    · rw [red_even he]
      obtain ⟨c, hc⟩ : ∃ c, a / 2 = c := ⟨_, rfl⟩
      have ha : a = 2 * c := by omega
      rw [hc, ha]
      have hp : (2 : Int) ^ (m + 1) = 2 * 2 ^ m := by rw [Int.pow_succ]; omega
      rw [hp]
      have hpos : (0 : Int) < 2 ^ m := Int.pow_pos (by decide)
      obtain ⟨e1, e2, e3⟩ := low_scale s c (2 ^ m) (by omega) hpos
      rw [e1, e2, e3]
      exact red_low s m c (by omega) (by omega) (by omega)
    · rw [red_odd he]
      exact low_one s a _ (gcd_odd a (m + 1) he) h1 (by have := bnd2 (m + 1) hm; omega)
theorem red_neg : ∀ (m : Nat) (n : Int), (red (-n) m).1 = -(red n m).1 ∧ (red (-n) m).2 = (red n m).2
  | 0, n => ⟨rfl, rfl⟩
  | m + 1, n => by
    by_cases he : n % 2 = 0
    · rw [red_even he, red_even (by omega : -n % 2 = 0)]
      have : -n / 2 = -(n / 2) := by omega
      rw [this]
      exact red_neg m (n / 2)
    · rw [red_odd he, red_odd (by omega : -n % 2 ≠ 0)]
      exact ⟨rfl, rfl⟩
theorem new_red (n : Int) (m : Nat) (h0 : -2147483647 ≤ n) (h1 : n ≤ 2147483647) (hm : m ≤ 30) : newN n (2 ^ m) = (red n m).1 ∧ newD n (2 ^ m) = 2 ^ (red n m).2 ∧ newE n (2 ^ m) = 0 := by
  have hpos : (0 : Int) < 2 ^ m := Int.pow_pos (by decide)
  have hz : ¬ (2 : Int) ^ m = 0 := by omega
  have hl : ¬ (2 : Int) ^ m < 0 := by omega
  unfold newN newD newE
  simp only [if_neg hz, if_neg hl, decide_eq_false hl]
  by_cases hn : n < 0
  · rw [decide_eq_true hn, if_pos hn]
    obtain ⟨e1, e2, e3⟩ := red_low true m (-n) (by omega) (by omega) hm
    obtain ⟨r1, r2⟩ := red_neg m n
    rw [r1] at e1
    rw [r2] at e2
    exact ⟨by simpa using e1, e2, e3⟩
  · rw [decide_eq_false hn, if_neg hn]
    obtain ⟨e1, e2, e3⟩ := red_low false m n (by omega) h1 hm
    exact ⟨by simpa using e1, e2, e3⟩
theorem chk1_any (K B F R O n0 d0 : Int) (x : Nat) (w : World) (bb0 : -9223372036854775808 ≤ B) (bb1 : B ≤ 9223372036854775807) (hx : x < w.heap.size) (c0 : w.cell? ⟨x, 0, none⟩ = some (.int .i64 n0)) (c1 : w.cell? ⟨x, 1, none⟩ = some (.int .i64 d0)) :
    Calls Try.prog 79 #[T5 K B F R O, .slice (some ⟨x, 0, none⟩) 1 1] w (Ret (.int .i64 (ce K B F R O n0 d0 n0 d0)) w) := by
  unfold ce
  by_cases h : tv K B F R O = true
  · rw [if_pos h]
    have VT := Lib.hid fun w => vt_ok K B F R O w h
    have V0 := Lib.hid fun w => fval K B F R O n0 d0 w bb0 bb1
    by_cases h0 : fv K B F R O n0 d0 = true
    · rw [h0] at V0
      rw [if_pos ⟨h0, h0⟩]
      exact chk1_t K B F R O n0 d0 x w hx c0 c1 VT V0
    · rw [if_neg (fun h => h0 h.1)]
      rw [show fv K B F R O n0 d0 = false by simpa using h0] at V0
      exact chk1_f K B F R O n0 d0 x w hx c0 c1 VT V0
  · rw [if_neg h]
    have VT := Lib.hid fun w => vt_bad K B F R O w (by simpa using h)
    exact chk1_tv K B F R O n0 d0 x w hx c0 c1 VT
end Go.Proofs.Ythkhlhibhkdkkaa.Fx


namespace Go.Proofs.Ythkhlhibhkdkkaa.Fx
open Go.ChangeShapes Go.WideShapes Go.ChangeAt Go.RowKit
open Fr
set_option linter.unusedVariables false
set_option linter.unusedSimpArgs false
theorem red_spec : ∀ (m : Nat) (n : Int), ∃ j, (red n m).1 * 2 ^ j = n ∧ (red n m).2 + j = m ∧ ((red n m).2 = 0 ∨ (red n m).1 % 2 ≠ 0)
  | 0, n => ⟨0, by simp [red], rfl, .inl rfl⟩
  | m + 1, n => by
    by_cases he : n % 2 = 0
    · rw [red_even he]
      obtain ⟨j, h1, h2, h3⟩ := red_spec m (n / 2)
      refine ⟨j + 1, ?_, by omega, h3⟩
      rw [Int.pow_succ, ← Int.mul_assoc, h1]
      omega
    · rw [red_odd he]
      exact ⟨0, by simp, rfl, .inr he⟩
theorem dval_exact (how n d : Int) (h : 1 ≤ how) (h' : how ≤ 4) (hd : 1 ≤ d) : Dv.dval how (n * d) d = n := by
  unfold Dv.dval
  rw [if_neg (by omega), if_neg (by omega), if_neg (by omega), Int.mul_tmod_left, Int.mul_tdiv_cancel _ (by omega)]
  unfold Plain.rnd
  rw [if_pos rfl]
/-- What ToFrac answers is a fraction, and FromFrac of it is the number. -/
theorem back (K B F R O n : Int) (h : fv K B F R O n 1 = true) : vld (red n F.toNat).1 (2 ^ (red n F.toNat).2) = true ∧ Nx.nv (Dv.dval R ((red n F.toNat).1 * 2 ^ F.toNat) (2 ^ (red n F.toNat).2)) B O = n := by
  obtain ⟨t, _, l0, m0, i0, i1⟩ := fv_parts h
  obtain ⟨k1, k2, k3, k4, k5, k6, k7, k8⟩ := tv_parts t
  obtain ⟨j, h1, h2, h3⟩ := red_spec F.toNat n
  have hb := red_bound F.toNat n
  obtain ⟨N, hN⟩ : ∃ N, (red n F.toNat).1 = N := ⟨_, rfl⟩
  obtain ⟨m, hm⟩ : ∃ m, (red n F.toNat).2 = m := ⟨_, rfl⟩
  rw [hN] at h1 h3 hb ⊢
  rw [hm] at h2 h3 ⊢
  obtain ⟨b0, b1⟩ := bnd2 m (by omega)
  constructor
  · have hg : Int.gcd N (2 ^ m) = 1 := by
      rcases h3 with rfl | h3
      · exact Int.gcd_one_right _
      · exact gcd_odd N m h3
    unfold vld
    rw [hg]
    simp
    omega
  · have e : N * 2 ^ F.toNat = n * 2 ^ m := by
      rw [← h2, Int.pow_add, ← h1, Int.mul_assoc, Int.mul_comm (2 ^ m)]
    rw [e, dval_exact R n _ k6 k7 b0]
    exact nv_same l0 m0 k2 k3 k8
end Go.Proofs.Ythkhlhibhkdkkaa.Fx


namespace Go.Proofs.Ythkhlhibhkdkkaa.Fx
open Go.ChangeShapes Go.WideShapes Go.ChangeAt Go.RowKit
open Fr
set_option linter.unusedVariables false
set_option linter.unusedSimpArgs false
theorem rerr (how q r d : Int) (hd : 0 < d) (h0 : -d < r) (h1 : r < d) (m0 : 1 ≤ how) (m1 : how ≤ 4) :
    ∃ k X : Int, Plain.rnd how q r d = q + k ∧ ((k = 0 ∧ X = r) ∨ (k = 1 ∧ X = r - d) ∨ (k = -1 ∧ X = r + d)) ∧ -d < X ∧ X < d ∧ (how = 1 → 0 ≤ X) ∧ (how = 2 → X ≤ 0) ∧ (how = 3 → X = r) ∧
      (how = 4 → -d ≤ 2 * X ∧ 2 * X ≤ d ∧ ((2 * X = d ∨ 2 * X = -d) → (q + k) % 2 = 0)) := by
  unfold Plain.rnd
  (repeat' split)
  all_goals first
    | exact ⟨0, r, by omega, .inl ⟨rfl, rfl⟩, by omega, by omega, by omega, by omega, by omega, by omega⟩
    | exact ⟨1, r - d, by omega, .inr (.inl ⟨rfl, rfl⟩), by omega, by omega, by omega, by omega, by omega, by omega⟩
    | exact ⟨-1, r + d, by omega, .inr (.inr ⟨rfl, rfl⟩), by omega, by omega, by omega, by omega, by omega, by omega⟩
theorem dv_spec (how T d : Int) (hd : 0 < d) (m0 : 1 ≤ how) (m1 : how ≤ 4) :
    ∃ X, Dv.dval how T d * d + X = T ∧ -d < X ∧ X < d ∧ (how = 1 → 0 ≤ X) ∧ (how = 2 → X ≤ 0) ∧ (how = 3 → (0 ≤ T → 0 ≤ X) ∧ (T < 0 → X ≤ 0)) ∧
      (how = 4 → -d ≤ 2 * X ∧ 2 * X ≤ d ∧ ((2 * X = d ∨ 2 * X = -d) → Dv.dval how T d % 2 = 0)) := by
  rw [show Dv.dval how T d = Plain.rnd how (T.tdiv d) (T.tmod d) d from by unfold Dv.dval; rw [if_neg (by omega), if_neg (by omega), if_neg (by omega)]]
  have e := Int.mul_tdiv_add_tmod T d
  obtain ⟨f1, _, _, f4, f5⟩ := Plain.tfacts T d (by omega)
  obtain ⟨k, X, h1, h2, h3, h4, h5, h6, h7, h8⟩ := rerr how (T.tdiv d) (T.tmod d) d hd (by omega) (by omega) m0 m1
  rw [h1]
  have e2 : (T.tdiv d + k) * d = d * T.tdiv d + k * d := by rw [Int.add_mul, Int.mul_comm (T.tdiv d) d]
  refine ⟨X, ?_, h3, h4, h5, h6, fun h => ?_, h8⟩
  · rw [e2]
    rcases h2 with ⟨rfl, rfl⟩ | ⟨rfl, rfl⟩ | ⟨rfl, rfl⟩
    · omega
    · omega
    · omega
  · have := h7 h
    exact ⟨by omega, by omega⟩
theorem dv_mono (how T d T' d' : Int) (hd : 0 < d) (hd' : 0 < d') (m0 : 1 ≤ how) (m1 : how ≤ 4) (h : T * d' ≤ T' * d) : Dv.dval how T d ≤ Dv.dval how T' d' := by
  obtain ⟨X, x1, x2, x3, x4, x5, x6, x7⟩ := dv_spec how T d hd m0 m1
  obtain ⟨Y, y1, y2, y3, y4, y5, y6, y7⟩ := dv_spec how T' d' hd' m0 m1
  generalize Dv.dval how T d = v at *
  generalize Dv.dval how T' d' = v' at *
  have hP : 0 < d * d' := Int.mul_pos hd hd'
  have e1 : T * d' = v * (d * d') + X * d' := by rw [← x1, Int.add_mul, Int.mul_assoc]
  have e2 : T' * d = v' * (d * d') + Y * d := by rw [← y1, Int.add_mul, Int.mul_assoc, Int.mul_comm d' d]
  have a1 : X * d' < d * d' := Int.mul_lt_mul_of_pos_right x3 hd'
  have a2 : -d * d' < X * d' := Int.mul_lt_mul_of_pos_right x2 hd'
  have b1 : Y * d < d' * d := Int.mul_lt_mul_of_pos_right y3 hd
  have b2 : -d' * d < Y * d := Int.mul_lt_mul_of_pos_right y2 hd
  rw [Int.mul_comm d' d] at b1
  rw [Int.neg_mul, Int.mul_comm d' d] at b2
  rw [Int.neg_mul] at a2
  by_cases hle : v ≤ v'
  · exact hle
  · exfalso
    have g := Int.mul_nonneg (a := v - v' - 1) (b := d * d') (by omega) (by omega)
    rw [Int.sub_mul, Int.sub_mul, Int.one_mul] at g
    rcases (by omega : how = 1 ∨ how = 2 ∨ how = 3 ∨ how = 4) with rfl | rfl | rfl | rfl
    · have := Int.mul_nonneg (x4 rfl) (by omega : 0 ≤ d')
      omega
    · have := Int.mul_nonpos_of_nonpos_of_nonneg (y5 rfl) (by omega : 0 ≤ d)
      omega
    · obtain ⟨u1, u2⟩ := x6 rfl
      obtain ⟨w1, w2⟩ := y6 rfl
      by_cases hT : 0 ≤ T
      · have := Int.mul_nonneg (u1 hT) (by omega : 0 ≤ d')
        omega
      · by_cases hT' : 0 ≤ T'
        · have hv : v ≤ 0 := by
            by_cases h0 : v ≤ 0
            · exact h0
            · have := Int.mul_nonneg (a := v - 1) (b := d) (by omega) (by omega)
              rw [Int.sub_mul, Int.one_mul] at this
              omega
          have hv' : 0 ≤ v' := by
            by_cases h0 : 0 ≤ v'
            · exact h0
            · have := Int.mul_nonneg (a := -v' - 1) (b := d') (by omega) (by omega)
              rw [Int.sub_mul, Int.one_mul, Int.neg_mul] at this
              omega
          omega
        · have := Int.mul_nonpos_of_nonpos_of_nonneg (w2 (by omega)) (by omega : 0 ≤ d)
          omega
    · obtain ⟨u1, u2, u3⟩ := x7 rfl
      obtain ⟨w1, w2, w3⟩ := y7 rfl
      have c1 : 2 * Y * d ≤ d' * d := Int.mul_le_mul_of_nonneg_right w2 (by omega)
      have c2 : -d * d' ≤ 2 * X * d' := Int.mul_le_mul_of_nonneg_right u1 (by omega)
      rw [Int.mul_comm d' d, Int.mul_assoc] at c1
      rw [Int.neg_mul, Int.mul_assoc] at c2
      have q1 : 2 * (Y * d) = d * d' := by omega
      have q2 : 2 * (X * d') = -(d * d') := by omega
      have t1 : 2 * Y = d' := by
        have : (2 * Y) * d = d' * d := by rw [Int.mul_assoc, q1, Int.mul_comm]
        exact Int.eq_of_mul_eq_mul_right (by omega) this
      have t2 : 2 * X = -d := by
        have : (2 * X) * d' = (-d) * d' := by rw [Int.mul_assoc, q2, Int.neg_mul]
        exact Int.eq_of_mul_eq_mul_right (by omega) this
      have p1 := u3 (.inr t2)
      have p2 := w3 (.inl t1)
      have g2 := Int.mul_nonneg (a := v - v' - 2) (b := d * d') (by omega) (by omega)
      rw [Int.sub_mul, Int.sub_mul] at g2
      omega
theorem nv_mono (a b B : Int) (h : a ≤ b) (hb : 2 ≤ B) (hb' : B ≤ 31) : Nx.nv a B 1 ≤ Nx.nv b B 1 := by
  obtain ⟨_, h2, _, _⟩ := half_of hb hb'
  have hg : ¬ Nx.nbad B 1 := by unfold Nx.nbad; omega
  unfold Nx.nv
  simp only [if_neg hg, ↓reduceIte]
  (repeat' split) <;> omega
theorem nv_range (a B O : Int) (hb : 2 ≤ B) (hb' : B ≤ 31) (ho : O = 1 ∨ O = 2) : - Nx.half B ≤ Nx.nv a B O ∧ Nx.nv a B O ≤ Nx.half B - 1 := by
  obtain ⟨_, h2, _, h4⟩ := half_of hb hb'
  have hg : ¬ Nx.nbad B O := by unfold Nx.nbad; omega
  have p0 := Int.emod_nonneg (a + Nx.half B) (b := Nx.full B) (by omega)
  have p1 := Int.emod_lt_of_pos (a + Nx.half B) (b := Nx.full B) (by omega)
  unfold Nx.nv
  simp only [if_neg hg]
  (repeat' split) <;> omega
theorem nv_wrap (a B : Int) (hb : 2 ≤ B) (hb' : B ≤ 31) : Nx.nv a B 2 = (a + Nx.half B) % Nx.full B - Nx.half B := by
  obtain ⟨_, h2, _, h4⟩ := half_of hb hb'
  have hg : ¬ Nx.nbad B 2 := by unfold Nx.nbad; omega
  unfold Nx.nv
  simp only [if_neg hg]
  (repeat' split)
  all_goals first
    | omega
    | (rw [Int.emod_eq_of_lt (by omega) (by omega)]; omega)
theorem nv_nv (a c B : Int) (hb : 2 ≤ B) (hb' : B ≤ 31) : Nx.nv (Nx.nv a B 2 + c) B 2 = Nx.nv (a + c) B 2 := by
  rw [nv_wrap a B hb hb', nv_wrap _ B hb hb', nv_wrap (a + c) B hb hb']
  have e : (a + Nx.half B) % Nx.full B - Nx.half B + c + Nx.half B = (a + Nx.half B) % Nx.full B + c := by omega
  rw [e, Int.emod_add_emod]
  have e2 : a + Nx.half B + c = a + c + Nx.half B := by omega
  rw [e2]
theorem fv_nv (K B F R O a : Int) (t : tv K B F R O = true) : fv K B F R O (Nx.nv a B O) 1 = true := by
  obtain ⟨k1, k2, k3, k4, k5, k6, k7, k8⟩ := tv_parts t
  obtain ⟨h0, h1⟩ := nv_range a B O k2 k3 k8
  unfold fv
  rw [t, Bool.true_and]
  exact decide_eq_true ⟨rfl, h0, h1⟩
end Go.Proofs.Ythkhlhibhkdkkaa.Fx


namespace Go.Proofs.Ythkhlhibhkdkkaa.Fr
open Go.ChangeShapes Go.WideShapes Go.ChangeAt Go.RowKit
set_option linter.unusedVariables false
set_option linter.unusedSimpArgs false
theorem new_valid (n d : Int) (h : newE n d = 0) : vld (newN n d) (newD n d) = true := by
  have hd : d ≠ 0 := by
    intro h0; subst h0; revert h; unfold newE; rw [if_pos rfl]; decide
  unfold newE at h
  rw [if_neg hd] at h
  unfold newN newD
  rw [if_neg hd, if_neg hd]
  obtain ⟨m, hm, m0⟩ : ∃ m, (if n < 0 then -n else n) = m ∧ 0 ≤ m := ⟨_, rfl, by split <;> omega⟩
  obtain ⟨c, hc, c0⟩ : ∃ c, (if d < 0 then -d else d) = c ∧ 0 < c := ⟨_, rfl, by split <;> omega⟩
  rw [hm, hc] at h ⊢
  generalize (decide (n < 0) != decide (d < 0)) = s
  obtain ⟨g0, g1, a0, a1, b0, b1⟩ := gcd_facts m c m0 c0
  have hcop : Int.gcd (m / (Int.gcd m c : Int)) (c / (Int.gcd m c : Int)) = 1 := by
    rw [Int.gcd_ediv (Int.gcd_dvd_left m c) (Int.gcd_dvd_right m c), Int.natAbs_natCast, Nat.div_self (by omega)]
  unfold lowE at h
  unfold lowN lowD
  have hk : ¬ (2147483647 < m / (Int.gcd m c : Int) ∨ 2147483647 < c / (Int.gcd m c : Int)) := by
    intro hk; rw [if_pos hk] at h; revert h; decide
  rw [if_neg hk, if_neg hk]
  unfold vld
  rw [decide_eq_true_eq]
  cases s
  · exact ⟨by omega, by omega, by simp only [Bool.false_eq_true, ↓reduceIte]; omega, by simp only [Bool.false_eq_true, ↓reduceIte]; omega, by simpa using hcop⟩
  · exact ⟨by omega, by omega, by simp only [↓reduceIte]; omega, by simp only [↓reduceIte]; omega, by simp only [↓reduceIte]; rw [Int.neg_gcd]; exact hcop⟩

end Go.Proofs.Ythkhlhibhkdkkaa.Fr
