/- The operations of package fixed and of the reference answer alike. -/
import Derived.Test.YtikcinkbkakkmaaGreatDoorFxO
import Derived.Test.YtikcinkbkakkmaaGreatDoorFxL
import Derived.Test.YtikcinkbkakkmaaGreatDoorQuant
import Derived.Test.YtikcinkbkakkmaaGreatDoorGH
import Derived.Test.YtikcinkbkakkmaaGreatDoorGI

namespace Go.Proofs.YtikcinkbkakkmaaGreatDoor.Fx
open Go.ChangeShapes Go.WideShapes Go.ChangeAt Go.RowKit
open Fr
set_option linter.unusedVariables false
set_option linter.unusedSimpArgs false
abbrev V2 (n d : Int) : Value := .agg #[.int .i64 n, .int .i64 d]
abbrev T5 (K B F R O : Int) : Value := .agg #[.int .i64 K, .int .i64 B, .int .i64 F, .int .i64 R, .int .i64 O]
theorem two_pow (frac : Int) (f0 : 0 ≤ frac) (f1 : frac ≤ 30) : 1 ≤ (2 : Int) ^ frac.toNat ∧ (2 : Int) ^ frac.toNat ≤ 1073741824 := by
  have h : frac.toNat ≤ 30 := by omega
  have h1 : 0 < (2 : Nat) ^ frac.toNat := Nat.pow_pos (by decide)
  have h2 : (2 : Nat) ^ frac.toNat ≤ 2 ^ 30 := Nat.pow_le_pow_right (by decide) h
  have h3 : ((2 : Nat) ^ frac.toNat : Nat) = (2 : Int) ^ frac.toNat := by push_cast; rfl
  rw [← h3]
  have h4 : (2 : Nat) ^ 30 = 1073741824 := by decide
  omega
theorem pb (a b : Int) (ha : a.natAbs ≤ 2147483647) (hb : b.natAbs ≤ 1073741824) : -2305843009213693952 ≤ a * b ∧ a * b ≤ 2305843009213693952 := by
  have h := Int.natAbs_mul a b
  have h2 := Nat.mul_le_mul ha hb
  omega
theorem rnd_neg (how q r d : Int) (hd : d ≠ 0) : Plain.rnd how q (-r) (-d) = Plain.rnd how q r d := by
  unfold Plain.rnd
  by_cases h : r = 0
  · subst h; simp
  · rw [if_neg (by omega), if_neg h]
    have e : (-r < 0 ↔ -d < 0) ↔ (r < 0 ↔ d < 0) := by omega
    have e1 : (if -r < 0 then - -r else -r) = if r < 0 then -r else r := by split <;> split <;> omega
    have e2 : (if -d < 0 then - -d else -d) = if d < 0 then -d else d := by split <;> split <;> omega
    simp only [e, e1, e2]
theorem dval_neg (how t d : Int) (h : 1 ≤ how) (h' : how ≤ 4) (t0 : -4611686018427387904 ≤ t) (t1 : t ≤ 4611686018427387904) (hd : d ≠ 0) : Dv.dval how (-t) (-d) = Dv.dval how t d := by
  unfold Dv.dval
  rw [if_neg (by omega), if_neg (by omega), if_neg (by omega), if_neg (by omega), if_neg (by omega), if_neg (by omega)]
  rw [Int.neg_tdiv, Int.tdiv_neg, Int.neg_neg, Int.neg_tmod, Int.tmod_neg, rnd_neg _ _ _ _ hd]
theorem dval_bound (how t d : Int) (h : 1 ≤ how) (h' : how ≤ 4) (t0 : -2305843009213693952 ≤ t) (t1 : t ≤ 2305843009213693952) (hd : d ≠ 0) : -4611686018427387904 ≤ Dv.dval how t d ∧ Dv.dval how t d ≤ 4611686018427387904 := by
  unfold Dv.dval
  rw [if_neg (by omega), if_neg hd, if_neg (by omega)]
  obtain ⟨_, a, _, _, _⟩ := Plain.tfacts t d hd
  unfold Plain.rnd
  (repeat' split) <;> omega
theorem fv_parts {K B F R O n d : Int} (h : fv K B F R O n d = true) : tv K B F R O = true ∧ d = 1 ∧ - Nx.half B ≤ n ∧ n ≤ Nx.half B - 1 ∧ -1073741824 ≤ n ∧ n ≤ 1073741823 := by
  unfold fv at h
  rw [Bool.and_eq_true] at h
  obtain ⟨h1, h2⟩ := h
  obtain ⟨_, p2, p3, _⟩ := tv_parts h1
  obtain ⟨_, _, q3, _⟩ := half_of p2 p3
  have := of_decide_eq_true h2
  exact ⟨h1, this.1, this.2.1, this.2.2, by omega, by omega⟩
theorem nv_same {n B O : Int} (h0 : - Nx.half B ≤ n) (h1 : n ≤ Nx.half B - 1) (hb : 2 ≤ B) (hb' : B ≤ 31) (ho : O = 1 ∨ O = 2) : Nx.nv n B O = n := by
  have hg : ¬ Nx.nbad B O := by unfold Nx.nbad; omega
  unfold Nx.nv
  rw [if_neg hg, if_neg (by omega), if_neg (by omega)]
/-- What the check of two operands answers. -/
def ce (K B F R O n0 d0 n1 d1 : Int) : Int := if tv K B F R O = true then (if fv K B F R O n0 d0 = true ∧ fv K B F R O n1 d1 = true then 0 else 1) else 10
theorem chk_any (K B F R O n0 d0 n1 d1 : Int) (x : Nat) (w : World) (bb0 : -9223372036854775808 ≤ B) (bb1 : B ≤ 9223372036854775807) (hx : x < w.heap.size) (c0 : w.cell? ⟨x, 0, none⟩ = some (.int .i64 n0)) (c1 : w.cell? ⟨x, 1, none⟩ = some (.int .i64 d0)) (c2 : w.cell? ⟨x, 2, none⟩ = some (.int .i64 n1)) (c3 : w.cell? ⟨x, 3, none⟩ = some (.int .i64 d1)) :
    Calls Tryz.prog 102 #[T5 K B F R O, .slice (some ⟨x, 0, none⟩) 2 2] w (Ret (.int .i64 (ce K B F R O n0 d0 n1 d1)) w) := by
  unfold ce
  by_cases h : tv K B F R O = true
  · rw [if_pos h]
    have VT := Lib.hid fun w => vt_ok K B F R O w h
    have V0 := Lib.hid fun w => fval K B F R O n0 d0 w bb0 bb1
    have V1 := Lib.hid fun w => fval K B F R O n1 d1 w bb0 bb1
    by_cases h0 : fv K B F R O n0 d0 = true
    · rw [h0] at V0
      by_cases h1 : fv K B F R O n1 d1 = true
      · rw [h1] at V1
        rw [if_pos ⟨h0, h1⟩]
        exact chk2_tt K B F R O n0 d0 n1 d1 x w hx c0 c1 c2 c3 VT V0 V1
      · rw [if_neg (fun h => h1 h.2)]
        rw [show fv K B F R O n1 d1 = false by simpa using h1] at V1
        exact chk2_tf K B F R O n0 d0 n1 d1 x w hx c0 c1 c2 c3 VT V0 V1
    · rw [if_neg (fun h => h0 h.1)]
      rw [show fv K B F R O n0 d0 = false by simpa using h0] at V0
      exact chk2_f K B F R O n0 d0 n1 d1 x w hx c0 c1 c2 c3 VT V0
  · rw [if_neg h]
    have VT := Lib.hid fun w => vt_bad K B F R O w (by simpa using h)
    exact chk2_tv K B F R O n0 d0 n1 d1 x w hx c0 c1 c2 c3 VT
theorem ce_cases (K B F R O n0 d0 n1 d1 : Int) : (ce K B F R O n0 d0 n1 d1 = 0 ∧ fv K B F R O n0 d0 = true ∧ fv K B F R O n1 d1 = true) ∨ (ce K B F R O n0 d0 n1 d1 != 0) = true := by
  unfold ce
  by_cases h : tv K B F R O = true
  · rw [if_pos h]
    by_cases h2 : fv K B F R O n0 d0 = true ∧ fv K B F R O n1 d1 = true
    · rw [if_pos h2]; exact .inl ⟨rfl, h2⟩
    · rw [if_neg h2]; exact .inr rfl
  · rw [if_neg h]; exact .inr rfl
theorem TyAt.lt {K B F R O : Int} {x : Nat} {w : World} (h : TyAt K B F R O x w) : x < w.heap.size := by
  have := World.block_lt_of_cell? w _ h.1
  simpa using this
theorem add_bad2 (K B F R O n0 d0 n1 d1 : Int) (bb0 : -9223372036854775808 ≤ B) (bb1 : B ≤ 9223372036854775807) (h : (ce K B F R O n0 d0 n1 d1 != 0) = true) :
    (∀ w, Calls Tryz.prog 66 #[T5 K B F R O, V2 n0 d0, V2 n1 d1] w (Ret (Frac3 0 0 (ce K B F R O n0 d0 n1 d1)) w)) :=
  fun w => add_any K B F R O n0 d0 n1 d1 _ _ _ w (Lib.hid fun w => comb57_bad K B F R O n0 d0 n1 d1 _ w h (Lib.hid fun w x hx c0 c1 c2 c3 => chk_any K B F R O n0 d0 n1 d1 x w bb0 bb1 hx c0 c1 c2 c3))
theorem add_ok2 (K B F R O n0 d0 n1 d1 : Int) (h0 : fv K B F R O n0 d0 = true) (h1 : fv K B F R O n1 d1 = true) :
    (∀ w, Calls Tryz.prog 66 #[T5 K B F R O, V2 n0 d0, V2 n1 d1] w (Ret (Frac3 (Nx.nv (n0 + n1) B O) 1 0) w)) := by
  obtain ⟨t, d0e, l0, m0, i0, i1⟩ := fv_parts h0
  obtain ⟨_, d1e, l1, m1, j0, j1⟩ := fv_parts h1
  obtain ⟨k1, k2, k3, k4, k5, k6, k7, k8⟩ := tv_parts t
  obtain ⟨p0, p1⟩ := two_pow F k4 k5
  have hce : ce K B F R O n0 d0 n1 d1 = 0 := by unfold ce; rw [if_pos t, if_pos ⟨h0, h1⟩]
  have CH := Lib.hid fun (w : World) (x : Nat) hx c0 c1 c2 c3 => chk_any K B F R O n0 d0 n1 d1 x w (by omega) (by omega) hx c0 c1 c2 c3
  rw [hce] at CH
  obtain ⟨p, hp⟩ : ∃ p, (2 : Int) ^ F.toNat = p := ⟨_, rfl⟩
  rw [hp] at p0 p1 
  exact fun w => add_any K B F R O n0 d0 n1 d1 _ _ _ w (Lib.hid fun w => comb57_ok K B F R O n0 d0 n1 d1 p _ w hp p0 p1 k4 k5 (by omega) (by omega) (by omega) (by omega) CH (Lib.hid fun w x h => cl57 K B F R O n0 n1 p w x h (by omega) (by omega) (by omega) (by omega)))
theorem sub_bad2 (K B F R O n0 d0 n1 d1 : Int) (bb0 : -9223372036854775808 ≤ B) (bb1 : B ≤ 9223372036854775807) (h : (ce K B F R O n0 d0 n1 d1 != 0) = true) :
    (∀ w, Calls Tryz.prog 67 #[T5 K B F R O, V2 n0 d0, V2 n1 d1] w (Ret (Frac3 0 0 (ce K B F R O n0 d0 n1 d1)) w)) :=
  fun w => sub_any K B F R O n0 d0 n1 d1 _ _ _ w (Lib.hid fun w => comb58_bad K B F R O n0 d0 n1 d1 _ w h (Lib.hid fun w x hx c0 c1 c2 c3 => chk_any K B F R O n0 d0 n1 d1 x w bb0 bb1 hx c0 c1 c2 c3))
theorem sub_ok2 (K B F R O n0 d0 n1 d1 : Int) (h0 : fv K B F R O n0 d0 = true) (h1 : fv K B F R O n1 d1 = true) :
    (∀ w, Calls Tryz.prog 67 #[T5 K B F R O, V2 n0 d0, V2 n1 d1] w (Ret (Frac3 (Nx.nv (n0 - n1) B O) 1 0) w)) := by
  obtain ⟨t, d0e, l0, m0, i0, i1⟩ := fv_parts h0
  obtain ⟨_, d1e, l1, m1, j0, j1⟩ := fv_parts h1
  obtain ⟨k1, k2, k3, k4, k5, k6, k7, k8⟩ := tv_parts t
  obtain ⟨p0, p1⟩ := two_pow F k4 k5
  have hce : ce K B F R O n0 d0 n1 d1 = 0 := by unfold ce; rw [if_pos t, if_pos ⟨h0, h1⟩]
  have CH := Lib.hid fun (w : World) (x : Nat) hx c0 c1 c2 c3 => chk_any K B F R O n0 d0 n1 d1 x w (by omega) (by omega) hx c0 c1 c2 c3
  rw [hce] at CH
  obtain ⟨p, hp⟩ : ∃ p, (2 : Int) ^ F.toNat = p := ⟨_, rfl⟩
  rw [hp] at p0 p1 
  exact fun w => sub_any K B F R O n0 d0 n1 d1 _ _ _ w (Lib.hid fun w => comb58_ok K B F R O n0 d0 n1 d1 p _ w hp p0 p1 k4 k5 (by omega) (by omega) (by omega) (by omega) CH (Lib.hid fun w x h => cl58 K B F R O n0 n1 p w x h (by omega) (by omega) (by omega) (by omega)))
theorem mul_bad2 (K B F R O n0 d0 n1 d1 : Int) (bb0 : -9223372036854775808 ≤ B) (bb1 : B ≤ 9223372036854775807) (h : (ce K B F R O n0 d0 n1 d1 != 0) = true) :
    (∀ w, Calls Tryz.prog 68 #[T5 K B F R O, V2 n0 d0, V2 n1 d1] w (Ret (Frac3 0 0 (ce K B F R O n0 d0 n1 d1)) w)) :=
  fun w => mul_any K B F R O n0 d0 n1 d1 _ _ _ w (Lib.hid fun w => comb59_bad K B F R O n0 d0 n1 d1 _ w h (Lib.hid fun w x hx c0 c1 c2 c3 => chk_any K B F R O n0 d0 n1 d1 x w bb0 bb1 hx c0 c1 c2 c3))
theorem mul_ok2 (K B F R O n0 d0 n1 d1 : Int) (h0 : fv K B F R O n0 d0 = true) (h1 : fv K B F R O n1 d1 = true) :
    (∀ w, Calls Tryz.prog 68 #[T5 K B F R O, V2 n0 d0, V2 n1 d1] w (Ret (Frac3 (Nx.nv (Dv.dval R (n0 * n1) (2 ^ F.toNat)) B O) 1 0) w)) := by
  obtain ⟨t, d0e, l0, m0, i0, i1⟩ := fv_parts h0
  obtain ⟨_, d1e, l1, m1, j0, j1⟩ := fv_parts h1
  obtain ⟨k1, k2, k3, k4, k5, k6, k7, k8⟩ := tv_parts t
  obtain ⟨p0, p1⟩ := two_pow F k4 k5
  have hce : ce K B F R O n0 d0 n1 d1 = 0 := by unfold ce; rw [if_pos t, if_pos ⟨h0, h1⟩]
  have CH := Lib.hid fun (w : World) (x : Nat) hx c0 c1 c2 c3 => chk_any K B F R O n0 d0 n1 d1 x w (by omega) (by omega) hx c0 c1 c2 c3
  rw [hce] at CH
  obtain ⟨p, hp⟩ : ∃ p, (2 : Int) ^ F.toNat = p := ⟨_, rfl⟩
  rw [hp] at p0 p1 ⊢
  obtain ⟨s0, s1⟩ := pb n0 n1 (by omega) (by omega)
  obtain ⟨s, hs⟩ : ∃ s, n0 * n1 = s := ⟨_, rfl⟩
  rw [hs] at s0 s1 ⊢
  obtain ⟨q0, q1⟩ := dval_bound R s p k6 k7 s0 s1 (by omega)
  exact fun w => mul_any K B F R O n0 d0 n1 d1 _ _ _ w (Lib.hid fun w => comb59_ok K B F R O n0 d0 n1 d1 p _ w hp p0 p1 k4 k5 (by omega) (by omega) (by omega) (by omega) CH (Lib.hid fun w x h => cl59 K B F R O n0 n1 p s w x h h.lt hs (by omega) (by omega) p0 p1 (by omega) (by omega) (by omega) (by omega)))
end Go.Proofs.YtikcinkbkakkmaaGreatDoor.Fx
