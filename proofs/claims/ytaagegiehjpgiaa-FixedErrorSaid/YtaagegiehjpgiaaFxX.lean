/- The walks of the statements for every input. -/
import Derived.Test.YtaagegiehjpgiaaFxW
namespace Go.Proofs.Ytaagegiehjpgiaa.Fx
open Go.ChangeShapes Go.WideShapes Go.ChangeAt Go.RowKit
set_option linter.unusedVariables false

open Fr
theorem red_spec : ∀ (m : Nat) (n : Int), ∃ j, (red n m).1 * 2 ^ j = n ∧ (red n m).2 + j = m ∧ ((red n m).2 = 0 ∨ (red n m).1 % 2 ≠ 0)
  | 0, n => ⟨0, by simp [red], rfl, .inl rfl⟩
  | m + 1, n => by
    by_cases he : n % 2 = 0
    · rw [red_even he]
      obtain ⟨j, h1, h2, h3⟩ := red_spec m (n / 2)
      refine ⟨j + 1, ?_, by omega, h3⟩
      rw [Int.pow_succ, ← Int.mul_assoc, h1]
      omega
    · rw [red_odd he]
      exact ⟨0, by simp, rfl, .inr he⟩
theorem dval_exact (how n d : Int) (h : 1 ≤ how) (h' : how ≤ 4) (hd : 1 ≤ d) : Dv.dval how (n * d) d = n := by
  unfold Dv.dval
  rw [if_neg (by omega), if_neg (by omega), if_neg (by omega), Int.mul_tmod_left, Int.mul_tdiv_cancel _ (by omega)]
  unfold Plain.rnd
  rw [if_pos rfl]
/-- What ToFrac answers is a fraction, and FromFrac of it is the number. -/
theorem back (K B F R O n : Int) (h : fv K B F R O n 1 = true) : vld (red n F.toNat).1 (2 ^ (red n F.toNat).2) = true ∧ Nx.nv (Dv.dval R ((red n F.toNat).1 * 2 ^ F.toNat) (2 ^ (red n F.toNat).2)) B O = n := by
  obtain ⟨t, _, l0, m0, i0, i1⟩ := fv_parts h
  obtain ⟨k1, k2, k3, k4, k5, k6, k7, k8⟩ := tv_parts t
  obtain ⟨j, h1, h2, h3⟩ := red_spec F.toNat n
  have hb := red_bound F.toNat n
  obtain ⟨N, hN⟩ : ∃ N, (red n F.toNat).1 = N := ⟨_, rfl⟩
  obtain ⟨m, hm⟩ : ∃ m, (red n F.toNat).2 = m := ⟨_, rfl⟩
  rw [hN] at h1 h3 hb ⊢
  rw [hm] at h2 h3 ⊢
  obtain ⟨b0, b1⟩ := bnd2 m (by omega)
  constructor
  · have hg : Int.gcd N (2 ^ m) = 1 := by
      rcases h3 with rfl | h3
      · exact Int.gcd_one_right _
      · exact gcd_odd N m h3
    unfold vld
    rw [hg]
    simp
    omega
  · have e : N * 2 ^ F.toNat = n * 2 ^ m := by
      rw [← h2, Int.pow_add, ← h1, Int.mul_assoc, Int.mul_comm (2 ^ m)]
    rw [e, dval_exact R n _ k6 k7 b0]
    exact nv_same l0 m0 k2 k3 k8
theorem walk_ff (K B F R O n d : Int) (w : World) (hK : -9223372036854775808 ≤ K ∧ K ≤ 9223372036854775807) (hB : -9223372036854775808 ≤ B ∧ B ≤ 9223372036854775807) (hF : -9223372036854775808 ≤ F ∧ F ≤ 9223372036854775807) (hR : -9223372036854775808 ≤ R ∧ R ≤ 9223372036854775807) (hO : -9223372036854775808 ≤ O ∧ O ≤ 9223372036854775807) (hn : -9223372036854775808 ≤ n ∧ n ≤ 9223372036854775807) (hd : -9223372036854775808 ≤ d ∧ d ≤ 9223372036854775807) : Calls Try.prog 4 #[T5 K B F R O, V2 n d] w (Ret (.bool true) w) := by
  have EX := Lib.hid examples_true
  by_cases t : tv K B F R O = true
  · by_cases v : vld n d = true
    · obtain ⟨a, b⟩ := ff_ok2 K B F R O n d t v
      exact law_ff K B F R O n d _ _ _ w (Lib.hid a) (Lib.hid b) EX
    · obtain ⟨a, b⟩ := ff_arg2 K B F R O n d t (by simpa using v)
      exact law_ff K B F R O n d _ _ _ w (Lib.hid a) (Lib.hid b) EX
  · obtain ⟨a, b⟩ := ff_tv2 K B F R O n d (by simpa using t)
    exact law_ff K B F R O n d _ _ _ w (Lib.hid a) (Lib.hid b) EX
theorem walk_tf (K B F R O n d : Int) (w : World) (hK : -9223372036854775808 ≤ K ∧ K ≤ 9223372036854775807) (hB : -9223372036854775808 ≤ B ∧ B ≤ 9223372036854775807) (hF : -9223372036854775808 ≤ F ∧ F ≤ 9223372036854775807) (hR : -9223372036854775808 ≤ R ∧ R ≤ 9223372036854775807) (hO : -9223372036854775808 ≤ O ∧ O ≤ 9223372036854775807) (hn : -9223372036854775808 ≤ n ∧ n ≤ 9223372036854775807) (hd : -9223372036854775808 ≤ d ∧ d ≤ 9223372036854775807) : Calls Try.prog 5 #[T5 K B F R O, V2 n d] w (Ret (.bool true) w) := by
  have EX := Lib.hid examples_true
  rcases ce_cases K B F R O n d n d with ⟨_, h, _⟩ | h
  · obtain ⟨t, rfl, _⟩ := fv_parts h
    obtain ⟨a, b⟩ := tf_ok2 K B F R O n 1 h
    obtain ⟨v, e⟩ := back K B F R O n h
    have q := (ff_ok2 K B F R O _ _ t v).1
    rw [e] at q
    exact law_tf_ok K B F R O n 1 _ _ w (Lib.hid a) (Lib.hid b) (Lib.hid q) EX
  · obtain ⟨a, b⟩ := tf_bad2 K B F R O n d hB.1 hB.2 h
    exact law_tf_bad K B F R O n d _ _ _ w h (Lib.hid a) (Lib.hid b) EX
theorem ar_pick (K B F R O n0 d0 n1 d1 : Int) (hB : -9223372036854775808 ≤ B ∧ B ≤ 9223372036854775807) :
    (∃ x y e, (∀ w, Calls Try.prog 26 #[T5 K B F R O, V2 n0 d0, V2 n1 d1] w (Ret (Frac3 x y e) w)) ∧ (∀ w, Calls Try.prog 27 #[T5 K B F R O, V2 n0 d0, V2 n1 d1] w (Ret (Frac3 x y e) w))) ∧
    (∃ x y e, (∀ w, Calls Try.prog 28 #[T5 K B F R O, V2 n0 d0, V2 n1 d1] w (Ret (Frac3 x y e) w)) ∧ (∀ w, Calls Try.prog 29 #[T5 K B F R O, V2 n0 d0, V2 n1 d1] w (Ret (Frac3 x y e) w))) ∧
    (∃ x y e, (∀ w, Calls Try.prog 30 #[T5 K B F R O, V2 n0 d0, V2 n1 d1] w (Ret (Frac3 x y e) w)) ∧ (∀ w, Calls Try.prog 31 #[T5 K B F R O, V2 n0 d0, V2 n1 d1] w (Ret (Frac3 x y e) w))) ∧
    (∃ x y e, (∀ w, Calls Try.prog 32 #[T5 K B F R O, V2 n0 d0, V2 n1 d1] w (Ret (Frac3 x y e) w)) ∧ (∀ w, Calls Try.prog 33 #[T5 K B F R O, V2 n0 d0, V2 n1 d1] w (Ret (Frac3 x y e) w))) ∧
    (∃ x y e, (∀ w, Calls Try.prog 34 #[T5 K B F R O, V2 n0 d0] w (Ret (Frac3 x y e) w)) ∧ (∀ w, Calls Try.prog 35 #[T5 K B F R O, V2 n0 d0] w (Ret (Frac3 x y e) w))) := by
  have hneg : ∃ x y e, (∀ w, Calls Try.prog 34 #[T5 K B F R O, V2 n0 d0] w (Ret (Frac3 x y e) w)) ∧ (∀ w, Calls Try.prog 35 #[T5 K B F R O, V2 n0 d0] w (Ret (Frac3 x y e) w)) := by
    rcases ce_cases K B F R O n0 d0 n0 d0 with ⟨_, h, _⟩ | h
    · exact ⟨_, _, _, neg_ok2 K B F R O n0 d0 h⟩
    · exact ⟨_, _, _, neg_bad2 K B F R O n0 d0 hB.1 hB.2 h⟩
  rcases ce_cases K B F R O n0 d0 n1 d1 with ⟨_, h0, h1⟩ | h
  · refine ⟨⟨_, _, _, add_ok2 K B F R O n0 d0 n1 d1 h0 h1⟩, ⟨_, _, _, sub_ok2 K B F R O n0 d0 n1 d1 h0 h1⟩, ⟨_, _, _, mul_ok2 K B F R O n0 d0 n1 d1 h0 h1⟩, ?_, hneg⟩
    by_cases hz : n1 = 0
    · subst hz
      exact ⟨_, _, _, div_zero2 K B F R O n0 d0 d1 h0 h1⟩
    · exact ⟨_, _, _, div_ok2 K B F R O n0 d0 n1 d1 h0 h1 hz⟩
  · exact ⟨⟨_, _, _, add_bad2 K B F R O n0 d0 n1 d1 hB.1 hB.2 h⟩, ⟨_, _, _, sub_bad2 K B F R O n0 d0 n1 d1 hB.1 hB.2 h⟩, ⟨_, _, _, mul_bad2 K B F R O n0 d0 n1 d1 hB.1 hB.2 h⟩, ⟨_, _, _, div_bad2 K B F R O n0 d0 n1 d1 hB.1 hB.2 h⟩, hneg⟩
theorem walk_ar (K B F R O n0 d0 n1 d1 : Int) (w : World) (hK : -9223372036854775808 ≤ K ∧ K ≤ 9223372036854775807) (hB : -9223372036854775808 ≤ B ∧ B ≤ 9223372036854775807) (hF : -9223372036854775808 ≤ F ∧ F ≤ 9223372036854775807) (hR : -9223372036854775808 ≤ R ∧ R ≤ 9223372036854775807) (hO : -9223372036854775808 ≤ O ∧ O ≤ 9223372036854775807) (hn0 : -9223372036854775808 ≤ n0 ∧ n0 ≤ 9223372036854775807) (hd0 : -9223372036854775808 ≤ d0 ∧ d0 ≤ 9223372036854775807) (hn1 : -9223372036854775808 ≤ n1 ∧ n1 ≤ 9223372036854775807) (hd1 : -9223372036854775808 ≤ d1 ∧ d1 ≤ 9223372036854775807) : Calls Try.prog 6 #[T5 K B F R O, V2 n0 d0, V2 n1 d1] w (Ret (.bool true) w) := by
  obtain ⟨⟨_, _, _, a1, a2⟩, ⟨_, _, _, b1, b2⟩, ⟨_, _, _, c1, c2⟩, ⟨_, _, _, e1, e2⟩, ⟨_, _, _, f1, f2⟩⟩ := ar_pick K B F R O n0 d0 n1 d1 hB
  exact law_ar K B F R O n0 d0 n1 d1 _ _ _ _ _ _ _ _ _ _ _ _ _ _ _ w (Lib.hid a1) (Lib.hid a2) (Lib.hid b1) (Lib.hid b2) (Lib.hid c1) (Lib.hid c2) (Lib.hid e1) (Lib.hid e2) (Lib.hid f1) (Lib.hid f2) (Lib.hid examples_true)
theorem walk_va (K B F R O n d : Int) (w : World) (hK : -9223372036854775808 ≤ K ∧ K ≤ 9223372036854775807) (hB : -9223372036854775808 ≤ B ∧ B ≤ 9223372036854775807) (hF : -9223372036854775808 ≤ F ∧ F ≤ 9223372036854775807) (hR : -9223372036854775808 ≤ R ∧ R ≤ 9223372036854775807) (hO : -9223372036854775808 ≤ O ∧ O ≤ 9223372036854775807) (hn : -9223372036854775808 ≤ n ∧ n ≤ 9223372036854775807) (hd : -9223372036854775808 ≤ d ∧ d ≤ 9223372036854775807) : Calls Try.prog 3 #[T5 K B F R O, V2 n d] w (Ret (.bool true) w) := by
  have EX := Lib.hid examples_true
  have V3 := Lib.hid fun w => fval K B F R O n d w hB.1 hB.2
  have V4 := Lib.hid fun w => rval K B F R O n d w
  by_cases t : tv K B F R O = true
  · obtain ⟨a, b⟩ := res_ok2 K B F R O t
    exact law_va K B F R O n d _ _ _ 0 _ w (Lib.hid a) (Lib.hid b) (Lib.hid fun w => vt_ok K B F R O w t) (Lib.hid fun w => rvt_ok K B F R O w t) V3 V4 EX
  · have t' : tv K B F R O = false := by simpa using t
    obtain ⟨a, b⟩ := res_tv2 K B F R O t'
    exact law_va K B F R O n d _ _ _ 10 _ w (Lib.hid a) (Lib.hid b) (Lib.hid fun w => vt_bad K B F R O w t') (Lib.hid fun w => rvt_bad K B F R O w t') V3 V4 EX
end Go.Proofs.Ytaagegiehjpgiaa.Fx
