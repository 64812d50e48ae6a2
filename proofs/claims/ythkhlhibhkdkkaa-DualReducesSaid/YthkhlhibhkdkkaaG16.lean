/- ValidateType and Valid of package value. -/
import Derived.Test.YthkhlhibhkdkkaaG10
import Derived.Laws.StructEq

namespace Go.Proofs.Ythkhlhibhkdkkaa.Va
open Go.ChangeShapes Go.WideShapes Go.ChangeAt Go.RowKit
open Fr Fx
set_option maxRecDepth 8000
set_option linter.unusedVariables false
set_option linter.unusedSimpArgs false
set_option maxRecDepth 8000
set_option maxRecDepth 8000
theorem ret1' {k : IntKind} {a b : Int} (h : a = b) : Ending.returned (.int k a) = .returned (.int k b) := by rw [h]
theorem retb {a b : Bool} (h : a = b) : Ending.returned (.bool a) = .returned (.bool b) := by rw [h]
/-- ValidateType of package fixed. -/
theorem fvt (K B F R O : Int) (w : World) : Calls Try.prog 52 #[T5 K B F R O] w (Ret (.int .i64 (if tv K B F R O then 0 else 10)) w) := by
  by_cases h : tv K B F R O = true
  · rw [h]; exact vt_ok K B F R O w h
  · have h' : tv K B F R O = false := by simpa using h
    rw [h']; exact vt_bad K B F R O w h'
set_option maxHeartbeats 4000000 in
theorem c_vt (K B F R O : Int) (w : World) : Calls Try.prog 26 #[T5 K B F R O] w (Ret (.int .i64 (if ty K B F R O then 0 else 10)) w) := by
  have VT := Lib.hid fun w => fvt K B F R O w
  by_cases hk : K = 2
  · have e : ty K B F R O = tv K B F R O := by
      unfold ty
      rw [decide_eq_false (by omega), Bool.or_false]
    rw [e]
    clear e
    obtain ⟨r, hr⟩ : ∃ r, (if tv K B F R O = true then (0 : Int) else 10) = r := ⟨_, rfl⟩
    rw [hr] at VT ⊢
    have k1 : (K == 2) = true := by simpa using hk
    clear hk hr
    go_enter Try.func26, Try.ntmps26
    go_wp2_with (go_at_call 52; refine (VT.out _).mono ?_; rintro e w1 ⟨rfl, hb⟩)
    go_ret
    exact ⟨rfl, ((Below.refl _ _).alloc (Nat.le_refl _) _).trans (hb.mono (by simp))⟩
  · have hT : tv K B F R O = false := by
      unfold tv
      exact decide_eq_false (by omega)
    clear VT
    rw [show ty K B F R O = decide ((K = 1 ∨ K = 3) ∧ B = 0 ∧ F = 0 ∧ R = 0 ∧ O = 0) by unfold ty; rw [hT, Bool.false_or]]
    obtain ⟨r, hr⟩ : ∃ r, (if decide ((K = 1 ∨ K = 3) ∧ B = 0 ∧ F = 0 ∧ R = 0 ∧ O = 0) = true then (0 : Int) else 10) = r := ⟨_, rfl⟩
    rw [hr]
    have HR := Lib.hid hr
    clear hr
    have k1 : (K == 2) = false := by simpa using hk
    clear hk hT
    go_enter Try.func26, Try.ntmps26
    go_wp2
    all_goals
      go_ret
      refine ⟨ret1' ?_, by go_grown⟩
      have hr := HR.out
      rw [← hr]
      clear hr HR
      first | (simp_all; done) | (simp_all; omega)
theorem vtF {K B F R O : Int} (h : ty K B F R O = false) (w : World) : Calls Try.prog 26 #[T5 K B F R O] w (Ret (.int .i64 10) w) := by
  have := c_vt K B F R O w
  rw [h] at this
  exact this
theorem vtT {K B F R O : Int} (h : ty K B F R O = true) (w : World) : Calls Try.prog 26 #[T5 K B F R O] w (Ret (.int .i64 0) w) := by
  have := c_vt K B F R O w
  rw [h] at this
  exact this
theorem c_fits (n : Int) (w : World) : Calls Try.prog 53 #[.int .i64 n] w fun e w' => e = .returned (.bool (decide (-2147483647 ≤ n ∧ n ≤ 2147483647))) ∧ w = w' := by
  go_enter Try.func53, Try.ntmps53
  go_wp2
  all_goals
    go_ret
    refine ⟨retb ?_, rfl⟩
    first | (simp_all; done) | (simp_all; omega)
set_option maxHeartbeats 4000000 in
theorem c_va (K B F R O n d : Int) (w : World) (b0 : -9223372036854775808 ≤ B) (b1 : B ≤ 9223372036854775807) : Calls Try.prog 27 #[T5 K B F R O, V2 n d] w (Ret (.bool (vv K B F R O n d)) w) := by
  have FV := Lib.hid fun w => fval K B F R O n d w b0 b1
  have VA := Lib.hid fun w => valid_any n d w
  have FI := Lib.hid fun w => c_fits n w
  have HV1 := Lib.hid (vv_frac n d)
  have HV3 := Lib.hid (vv_int n d)
  have HF := Lib.hid (show ¬ ((K = 1 ∨ K = 3) ∧ B = 0 ∧ F = 0 ∧ R = 0 ∧ O = 0) → vv K B F R O n d = fv K B F R O n d by
    intro h
    by_cases h2 : K = 2
    · exact vv_fix h2
    · rcases ty_cases K B F R O with ⟨_, h3 | h3⟩ | ⟨h3, h4, _⟩
      · exact absurd h3.1 h2
      · exact absurd ⟨h3.1, h3.2.1, h3.2.2.1, h3.2.2.2.1, h3.2.2.2.2.1⟩ h
      · rw [vv_bad h3]; unfold fv; rw [h4]; rfl)
  clear b0 b1
  go_enter Try.func27, Try.ntmps27
  go_wp2_with fail
  all_goals (try subst_vars)
  all_goals try
     (with_reducible refine (VA.out _).mono ?_
      rintro e w1 ⟨rfl, hb⟩
      go_wp2
      go_ret
      refine ⟨retb ?_, (((Below.refl _ _).alloc (Nat.le_refl _) _).alloc (by simp) _).trans (hb.mono (by simp <;> omega))⟩
      exact HV1.out.symm)
  all_goals try
     (with_reducible refine (FV.out _).mono ?_
      rintro e w1 ⟨rfl, hb⟩
      go_wp2
      go_ret
      refine ⟨retb ?_, (((Below.refl _ _).alloc (Nat.le_refl _) _).alloc (by simp) _).trans (hb.mono (by simp <;> omega))⟩
      exact (HF.out (by omega)).symm)
  all_goals try
     (with_reducible refine (FI.out _).mono ?_
      rintro e w1 ⟨rfl, rfl⟩
      go_wp2
      go_ret
      refine ⟨retb ?_, by go_grown⟩
      rw [HV3.out]
      simp_all)
  all_goals
    go_ret
    refine ⟨retb ?_, by go_grown⟩
    rw [HV3.out]
    simp_all
end Go.Proofs.Ythkhlhibhkdkkaa.Va


namespace Go.Proofs.Ythkhlhibhkdkkaa.Va
open Go.ChangeShapes Go.WideShapes Go.ChangeAt Go.RowKit
open Fr Fx
set_option maxRecDepth 8000
set_option linter.unusedVariables false
set_option linter.unusedSimpArgs false
set_option maxRecDepth 8000
set_option maxRecDepth 8000
end Go.Proofs.Ythkhlhibhkdkkaa.Va


namespace Go.Proofs.Ythkhlhibhkdkkaa.Va
open Go.ChangeShapes Go.WideShapes Go.ChangeAt Go.RowKit
open Fr Fx
set_option maxRecDepth 8000
set_option linter.unusedVariables false
set_option linter.unusedSimpArgs false
set_option maxRecDepth 8000
set_option maxRecDepth 8000
theorem prod_bound {a b : Int} (h1 : -2147483647 ≤ a) (h2 : a ≤ 2147483647) (h3 : 0 ≤ b) (h4 : b ≤ 2147483647) : -4611686014132420609 ≤ a * b ∧ a * b ≤ 4611686014132420609 := by
  have e1 := Int.mul_le_mul_of_nonneg_right h2 h3
  have e2 := Int.mul_le_mul_of_nonneg_right h1 h3
  omega
theorem prod_bound2 {a b : Int} (h1 : -2147483647 ≤ a) (h2 : a ≤ 2147483647) (h3 : -2147483647 ≤ b) (h4 : b ≤ 2147483647) : -4611686014132420609 ≤ a * b ∧ a * b ≤ 4611686014132420609 := by
  by_cases h : 0 ≤ b
  · exact prod_bound h1 h2 h h4
  · have := prod_bound h1 h2 (b := -b) (by omega) (by omega)
    rw [Int.mul_neg] at this
    omega
theorem both_of {n1 d1 n2 d2 : Int} (v1 : vld n1 d1 = true) (v2 : vld n2 d2 = true) : both n1 d1 n2 d2 = true := by unfold both; rw [v1, v2]; rfl
theorem fr_add {n1 d1 n2 d2 : Int} (v1 : vld n1 d1 = true) (v2 : vld n2 d2 = true) (w : World) : Calls Try.prog 33 #[V2 n1 d1, V2 n2 d2] w (Ret (F3 (nw (n1 * d2 + n2 * d1) (d1 * d2))) w) := by
  obtain ⟨x0, x1, x2, x3, _⟩ := vld_of v1
  obtain ⟨y0, y1, y2, y3, _⟩ := vld_of v2
  obtain ⟨a0, a1⟩ := prod_bound x2 x3 (b := d2) (by omega) y1
  obtain ⟨b0, b1⟩ := prod_bound y2 y3 (b := d1) (by omega) x1
  obtain ⟨c0, c1⟩ := prod_bound (a := d1) (b := d2) (by omega) x1 (by omega) y1
  exact add_ok n1 d1 n2 d2 w (both_of v1 v2) rfl rfl rfl a0 a1 b0 b1 c0 c1
theorem fr_sub {n1 d1 n2 d2 : Int} (v1 : vld n1 d1 = true) (v2 : vld n2 d2 = true) (w : World) : Calls Try.prog 34 #[V2 n1 d1, V2 n2 d2] w (Ret (F3 (nw (n1 * d2 - n2 * d1) (d1 * d2))) w) := by
  have v3 : vld (-n2) d2 = true := by rw [vld_neg]; exact v2
  obtain ⟨y0, y1, y2, y3, _⟩ := vld_of v2
  have hm : wrap64 (-n2) = -n2 := by unfold wrap64; omega
  have A := Lib.hid fun w => fr_add v1 v3 w
  rw [Int.neg_mul, ← Int.sub_eq_add_neg] at A
  exact sub_any n1 d1 n2 d2 _ _ _ _ w hm A
theorem fr_mul {n1 d1 n2 d2 : Int} (v1 : vld n1 d1 = true) (v2 : vld n2 d2 = true) (w : World) : Calls Try.prog 35 #[V2 n1 d1, V2 n2 d2] w (Ret (F3 (nw (n1 * n2) (d1 * d2))) w) := by
  obtain ⟨x0, x1, x2, x3, _⟩ := vld_of v1
  obtain ⟨y0, y1, y2, y3, _⟩ := vld_of v2
  obtain ⟨a0, a1⟩ := prod_bound2 x2 x3 y2 y3
  obtain ⟨c0, c1⟩ := prod_bound (a := d1) (b := d2) (by omega) x1 (by omega) y1
  exact mul_ok n1 d1 n2 d2 w (both_of v1 v2) rfl rfl a0 a1 c0 c1
theorem fr_div {n1 d1 n2 d2 : Int} (v1 : vld n1 d1 = true) (v2 : vld n2 d2 = true) (w : World) : Calls Try.prog 36 #[V2 n1 d1, V2 n2 d2] w (Ret (F3 (nw (n1 * d2) (d1 * n2))) w) := by
  obtain ⟨x0, x1, x2, x3, _⟩ := vld_of v1
  obtain ⟨y0, y1, y2, y3, _⟩ := vld_of v2
  obtain ⟨a0, a1⟩ := prod_bound x2 x3 (b := d2) (by omega) y1
  obtain ⟨c0, c1⟩ := prod_bound2 (a := d1) (b := n2) (by omega) x1 y2 y3
  exact div_ok n1 d1 n2 d2 w (both_of v1 v2) rfl rfl a0 a1 c0 c1
theorem fr_neg {n1 d1 : Int} (v1 : vld n1 d1 = true) (w : World) : Calls Try.prog 37 #[V2 n1 d1] w (Ret (V2 (-n1) d1) w) := by
  have := Fr.neg_any n1 d1 w
  unfold ngN ngD at this
  rw [v1] at this
  exact this
theorem fr_cmp {n1 d1 n2 d2 : Int} (v1 : vld n1 d1 = true) (v2 : vld n2 d2 = true) (w : World) : Calls Try.prog 55 #[V2 n1 d1, V2 n2 d2] w (Ret (.int .i64 (cmpv (n1 * d2) (n2 * d1))) w) := by
  obtain ⟨x0, x1, x2, x3, _⟩ := vld_of v1
  obtain ⟨y0, y1, y2, y3, _⟩ := vld_of v2
  obtain ⟨a0, a1⟩ := prod_bound x2 x3 (b := d2) (by omega) y1
  obtain ⟨b0, b1⟩ := prod_bound y2 y3 (b := d1) (by omega) x1
  have := cmp_ok n1 d1 n2 d2 _ _ w (both_of v1 v2) rfl rfl a0 a1 b0 b1
  unfold cmpr at this
  rw [if_pos (both_of v1 v2)] at this
  exact this

set_option maxHeartbeats 4000000 in
theorem c_afr4 (op : Int) {n1 d1 n2 d2 : Int} (r : A3) (w : World) (f : Nat) (h : op = 4 ∨ op = 5 ∨ op = 6 ∨ op = 7)
    (CA : Hid (∀ w, op = 4 → Calls Try.prog 33 #[V2 n1 d1, V2 n2 d2] w (Ret (F3 r) w))) (CS : Hid (∀ w, op = 5 → Calls Try.prog 34 #[V2 n1 d1, V2 n2 d2] w (Ret (F3 r) w)))
    (CM : Hid (∀ w, op = 6 → Calls Try.prog 35 #[V2 n1 d1, V2 n2 d2] w (Ret (F3 r) w))) (CD : Hid (∀ w, op = 7 → Calls Try.prog 36 #[V2 n1 d1, V2 n2 d2] w (Ret (F3 r) w))) :
    Calls Try.prog 30 #[.int .i64 op, V2 n1 d1, V2 n2 d2] w (Ret (F3 r) w) := by
  obtain ⟨x, y, z⟩ := r
  rcases h with rfl | rfl | rfl | rfl
  · have C := Lib.hid fun w => CA.out w rfl
    clear CA CS CM CD
    go_enter Try.func30, Try.ntmps30
    go_wp2_with (first | (go_at_call 33; (with_reducible refine (C.out _).mono ?_); rintro e w1 ⟨rfl, hb1⟩; have hc1 := (bcell hb1).1; have hf1 := (bcell hb1).2; have z1_0 : w.heap.size < w1.heap.size := (by have hzz := hb1.size; (try simp at hzz); omega); have z1_1 : w.heap.size + 1 < w1.heap.size := (by have hzz := hb1.size; (try simp at hzz); omega); have z1_2 : w.heap.size + 1 + 1 < w1.heap.size := (by have hzz := hb1.size; (try simp at hzz); omega); have K1 : Below w.heap.size w w1 := Below.trans (b := _) (by (repeat' (first | (with_reducible exact Below.refl _ _) | (with_reducible refine Below.alloc ?_ ?_ _) | (with_reducible refine Below.setCell ?_ ?_ _) | (with_reducible refine below_drewN ?_ _) | (simp; done) | omega | (simp; omega)))) (hb1.mono (by have hzz := hb1.size; (try simp at hzz); first | omega | (simp; done) | (simp; omega)))))
    refine bodyPost_ret (v := Frac3 x y z) (by simp [results, Try.results30, go_sem, hc1, hf1, z1_0, Nat.lt_succ_of_lt z1_0, Nat.ne_of_lt z1_0, Nat.ne_of_gt z1_0, z1_1, Nat.lt_succ_of_lt z1_1, Nat.ne_of_lt z1_1, Nat.ne_of_gt z1_1, z1_2, Nat.lt_succ_of_lt z1_2, Nat.ne_of_lt z1_2, Nat.ne_of_gt z1_2]) rfl ⟨rfl, ?_⟩; (repeat' (first | (with_reducible exact Below.refl _ _) | (with_reducible exact K1) | (with_reducible refine Below.alloc ?_ ?_ _) | (with_reducible refine Below.setCell ?_ ?_ _) | (with_reducible refine below_drewN ?_ _) | (simp; done) | omega | (simp; omega)))
  · have C := Lib.hid fun w => CS.out w rfl
    clear CA CS CM CD
    go_enter Try.func30, Try.ntmps30
    go_wp2_with (first | (go_at_call 34; (with_reducible refine (C.out _).mono ?_); rintro e w1 ⟨rfl, hb1⟩; have hc1 := (bcell hb1).1; have hf1 := (bcell hb1).2; have z1_0 : w.heap.size < w1.heap.size := (by have hzz := hb1.size; (try simp at hzz); omega); have z1_1 : w.heap.size + 1 < w1.heap.size := (by have hzz := hb1.size; (try simp at hzz); omega); have z1_2 : w.heap.size + 1 + 1 < w1.heap.size := (by have hzz := hb1.size; (try simp at hzz); omega); have K1 : Below w.heap.size w w1 := Below.trans (b := _) (by (repeat' (first | (with_reducible exact Below.refl _ _) | (with_reducible refine Below.alloc ?_ ?_ _) | (with_reducible refine Below.setCell ?_ ?_ _) | (with_reducible refine below_drewN ?_ _) | (simp; done) | omega | (simp; omega)))) (hb1.mono (by have hzz := hb1.size; (try simp at hzz); first | omega | (simp; done) | (simp; omega)))))
    refine bodyPost_ret (v := Frac3 x y z) (by simp [results, Try.results30, go_sem, hc1, hf1, z1_0, Nat.lt_succ_of_lt z1_0, Nat.ne_of_lt z1_0, Nat.ne_of_gt z1_0, z1_1, Nat.lt_succ_of_lt z1_1, Nat.ne_of_lt z1_1, Nat.ne_of_gt z1_1, z1_2, Nat.lt_succ_of_lt z1_2, Nat.ne_of_lt z1_2, Nat.ne_of_gt z1_2]) rfl ⟨rfl, ?_⟩; (repeat' (first | (with_reducible exact Below.refl _ _) | (with_reducible exact K1) | (with_reducible refine Below.alloc ?_ ?_ _) | (with_reducible refine Below.setCell ?_ ?_ _) | (with_reducible refine below_drewN ?_ _) | (simp; done) | omega | (simp; omega)))
  · have C := Lib.hid fun w => CM.out w rfl
    clear CA CS CM CD
    go_enter Try.func30, Try.ntmps30
    go_wp2_with (first | (go_at_call 35; (with_reducible refine (C.out _).mono ?_); rintro e w1 ⟨rfl, hb1⟩; have hc1 := (bcell hb1).1; have hf1 := (bcell hb1).2; have z1_0 : w.heap.size < w1.heap.size := (by have hzz := hb1.size; (try simp at hzz); omega); have z1_1 : w.heap.size + 1 < w1.heap.size := (by have hzz := hb1.size; (try simp at hzz); omega); have z1_2 : w.heap.size + 1 + 1 < w1.heap.size := (by have hzz := hb1.size; (try simp at hzz); omega); have K1 : Below w.heap.size w w1 := Below.trans (b := _) (by (repeat' (first | (with_reducible exact Below.refl _ _) | (with_reducible refine Below.alloc ?_ ?_ _) | (with_reducible refine Below.setCell ?_ ?_ _) | (with_reducible refine below_drewN ?_ _) | (simp; done) | omega | (simp; omega)))) (hb1.mono (by have hzz := hb1.size; (try simp at hzz); first | omega | (simp; done) | (simp; omega)))))
    refine bodyPost_ret (v := Frac3 x y z) (by simp [results, Try.results30, go_sem, hc1, hf1, z1_0, Nat.lt_succ_of_lt z1_0, Nat.ne_of_lt z1_0, Nat.ne_of_gt z1_0, z1_1, Nat.lt_succ_of_lt z1_1, Nat.ne_of_lt z1_1, Nat.ne_of_gt z1_1, z1_2, Nat.lt_succ_of_lt z1_2, Nat.ne_of_lt z1_2, Nat.ne_of_gt z1_2]) rfl ⟨rfl, ?_⟩; (repeat' (first | (with_reducible exact Below.refl _ _) | (with_reducible exact K1) | (with_reducible refine Below.alloc ?_ ?_ _) | (with_reducible refine Below.setCell ?_ ?_ _) | (with_reducible refine below_drewN ?_ _) | (simp; done) | omega | (simp; omega)))
  · have C := Lib.hid fun w => CD.out w rfl
    clear CA CS CM CD
    go_enter Try.func30, Try.ntmps30
    go_wp2_with (first | (go_at_call 36; (with_reducible refine (C.out _).mono ?_); rintro e w1 ⟨rfl, hb1⟩; have hc1 := (bcell hb1).1; have hf1 := (bcell hb1).2; have z1_0 : w.heap.size < w1.heap.size := (by have hzz := hb1.size; (try simp at hzz); omega); have z1_1 : w.heap.size + 1 < w1.heap.size := (by have hzz := hb1.size; (try simp at hzz); omega); have z1_2 : w.heap.size + 1 + 1 < w1.heap.size := (by have hzz := hb1.size; (try simp at hzz); omega); have K1 : Below w.heap.size w w1 := Below.trans (b := _) (by (repeat' (first | (with_reducible exact Below.refl _ _) | (with_reducible refine Below.alloc ?_ ?_ _) | (with_reducible refine Below.setCell ?_ ?_ _) | (with_reducible refine below_drewN ?_ _) | (simp; done) | omega | (simp; omega)))) (hb1.mono (by have hzz := hb1.size; (try simp at hzz); first | omega | (simp; done) | (simp; omega)))))
    refine bodyPost_ret (v := Frac3 x y z) (by simp [results, Try.results30, go_sem, hc1, hf1, z1_0, Nat.lt_succ_of_lt z1_0, Nat.ne_of_lt z1_0, Nat.ne_of_gt z1_0, z1_1, Nat.lt_succ_of_lt z1_1, Nat.ne_of_lt z1_1, Nat.ne_of_gt z1_1, z1_2, Nat.lt_succ_of_lt z1_2, Nat.ne_of_lt z1_2, Nat.ne_of_gt z1_2]) rfl ⟨rfl, ?_⟩; (repeat' (first | (with_reducible exact Below.refl _ _) | (with_reducible exact K1) | (with_reducible refine Below.alloc ?_ ?_ _) | (with_reducible refine Below.setCell ?_ ?_ _) | (with_reducible refine below_drewN ?_ _) | (simp; done) | omega | (simp; omega)))
theorem c_afr8 (op : Int) {n1 d1 n2 d2 : Int} (w : World) (h : op = 8) (v1 : vld n1 d1 = true) : Calls Try.prog 30 #[.int .i64 op, V2 n1 d1, V2 n2 d2] w (Ret (F3 (-n1, d1, 0)) w) := by
  have C := Lib.hid fun w => fr_neg v1 w
  subst h
  clear v1
  go_enter Try.func30, Try.ntmps30
  go_wp2_with (first | (go_at_call 37; (with_reducible refine (C.out _).mono ?_); rintro e w1 ⟨rfl, hb1⟩; have hc1 := (bcell hb1).1; have hf1 := (bcell hb1).2; have z1_0 : w.heap.size < w1.heap.size := (by have hzz := hb1.size; (try simp at hzz); omega); have z1_1 : w.heap.size + 1 < w1.heap.size := (by have hzz := hb1.size; (try simp at hzz); omega); have z1_2 : w.heap.size + 1 + 1 < w1.heap.size := (by have hzz := hb1.size; (try simp at hzz); omega); have K1 : Below w.heap.size w w1 := Below.trans (b := _) (by (repeat' (first | (with_reducible exact Below.refl _ _) | (with_reducible refine Below.alloc ?_ ?_ _) | (with_reducible refine Below.setCell ?_ ?_ _) | (with_reducible refine below_drewN ?_ _) | (simp; done) | omega | (simp; omega)))) (hb1.mono (by have hzz := hb1.size; (try simp at hzz); first | omega | (simp; done) | (simp; omega)))))
  refine bodyPost_ret (v := Frac3 (-n1) d1 0) (by simp [results, Try.results30, go_sem, hc1, hf1, z1_0, Nat.lt_succ_of_lt z1_0, Nat.ne_of_lt z1_0, Nat.ne_of_gt z1_0, z1_1, Nat.lt_succ_of_lt z1_1, Nat.ne_of_lt z1_1, Nat.ne_of_gt z1_1, z1_2, Nat.lt_succ_of_lt z1_2, Nat.ne_of_lt z1_2, Nat.ne_of_gt z1_2]) rfl ⟨rfl, ?_⟩; (repeat' (first | (with_reducible exact Below.refl _ _) | (with_reducible exact K1) | (with_reducible refine Below.alloc ?_ ?_ _) | (with_reducible refine Below.setCell ?_ ?_ _) | (with_reducible refine below_drewN ?_ _) | (simp; done) | omega | (simp; omega)))
theorem c_afr (op : Int) {n1 d1 n2 d2 : Int} (w : World) (h0 : 4 ≤ op) (h1 : op ≤ 8) (v1 : vld n1 d1 = true) (v2 : op ≠ 8 → vld n2 d2 = true) : Calls Try.prog 30 #[.int .i64 op, V2 n1 d1, V2 n2 d2] w (Ret (F3 (frv op n1 d1 n2 d2)) w) := by
  by_cases h8 : op = 8
  · rw [show frv op n1 d1 n2 d2 = (-n1, d1, 0) by unfold frv; rw [if_neg (by omega), if_neg (by omega), if_neg (by omega), if_neg (by omega)]]
    exact c_afr8 op w h8 v1
  · refine c_afr4 op (frv op n1 d1 n2 d2) w 0 (by omega) (Lib.hid fun w h => ?_) (Lib.hid fun w h => ?_) (Lib.hid fun w h => ?_) (Lib.hid fun w h => ?_)
    · subst h; exact fr_add v1 (v2 h8) w
    · subst h; exact fr_sub v1 (v2 h8) w
    · subst h; exact fr_mul v1 (v2 h8) w
    · subst h; exact fr_div v1 (v2 h8) w

set_option maxHeartbeats 4000000 in
theorem c_afx4 (op K B F R O : Int) {n1 d1 n2 d2 : Int} (r : A3) (w : World) (h : op = 4 ∨ op = 5 ∨ op = 6 ∨ op = 7)
    (CA : Hid (∀ w, op = 4 → Calls Try.prog 57 #[T5 K B F R O, V2 n1 d1, V2 n2 d2] w (Ret (F3 r) w))) (CS : Hid (∀ w, op = 5 → Calls Try.prog 58 #[T5 K B F R O, V2 n1 d1, V2 n2 d2] w (Ret (F3 r) w)))
    (CM : Hid (∀ w, op = 6 → Calls Try.prog 59 #[T5 K B F R O, V2 n1 d1, V2 n2 d2] w (Ret (F3 r) w))) (CD : Hid (∀ w, op = 7 → Calls Try.prog 60 #[T5 K B F R O, V2 n1 d1, V2 n2 d2] w (Ret (F3 r) w))) :
    Calls Try.prog 31 #[.int .i64 op, T5 K B F R O, V2 n1 d1, V2 n2 d2] w (Ret (F3 r) w) := by
  obtain ⟨x, y, z⟩ := r
  rcases h with rfl | rfl | rfl | rfl
  · have C := Lib.hid fun w => CA.out w rfl
    clear CA CS CM CD
    go_enter Try.func31, Try.ntmps31
    go_wp2_with (first | (go_at_call 57; (with_reducible refine (C.out _).mono ?_); rintro e w1 ⟨rfl, hb1⟩; have hc1 := (bcell hb1).1; have hf1 := (bcell hb1).2; have z1_0 : w.heap.size < w1.heap.size := (by have hzz := hb1.size; (try simp at hzz); omega); have z1_1 : w.heap.size + 1 < w1.heap.size := (by have hzz := hb1.size; (try simp at hzz); omega); have z1_2 : w.heap.size + 1 + 1 < w1.heap.size := (by have hzz := hb1.size; (try simp at hzz); omega); have z1_3 : w.heap.size + 1 + 1 + 1 < w1.heap.size := (by have hzz := hb1.size; (try simp at hzz); omega); have K1 : Below w.heap.size w w1 := Below.trans (b := _) (by (repeat' (first | (with_reducible exact Below.refl _ _) | (with_reducible refine Below.alloc ?_ ?_ _) | (with_reducible refine Below.setCell ?_ ?_ _) | (with_reducible refine below_drewN ?_ _) | (simp; done) | omega | (simp; omega)))) (hb1.mono (by have hzz := hb1.size; (try simp at hzz); first | omega | (simp; done) | (simp; omega)))))
    refine bodyPost_ret (v := Frac3 x y z) (by simp [results, Try.results31, go_sem, hc1, hf1, z1_0, Nat.lt_succ_of_lt z1_0, Nat.ne_of_lt z1_0, Nat.ne_of_gt z1_0, z1_1, Nat.lt_succ_of_lt z1_1, Nat.ne_of_lt z1_1, Nat.ne_of_gt z1_1, z1_2, Nat.lt_succ_of_lt z1_2, Nat.ne_of_lt z1_2, Nat.ne_of_gt z1_2, z1_3, Nat.lt_succ_of_lt z1_3, Nat.ne_of_lt z1_3, Nat.ne_of_gt z1_3]) rfl ⟨rfl, ?_⟩; (repeat' (first | (with_reducible exact Below.refl _ _) | (with_reducible exact K1) | (with_reducible refine Below.alloc ?_ ?_ _) | (with_reducible refine Below.setCell ?_ ?_ _) | (with_reducible refine below_drewN ?_ _) | (simp; done) | omega | (simp; omega)))
  · have C := Lib.hid fun w => CS.out w rfl
    clear CA CS CM CD
    go_enter Try.func31, Try.ntmps31
    go_wp2_with (first | (go_at_call 58; (with_reducible refine (C.out _).mono ?_); rintro e w1 ⟨rfl, hb1⟩; have hc1 := (bcell hb1).1; have hf1 := (bcell hb1).2; have z1_0 : w.heap.size < w1.heap.size := (by have hzz := hb1.size; (try simp at hzz); omega); have z1_1 : w.heap.size + 1 < w1.heap.size := (by have hzz := hb1.size; (try simp at hzz); omega); have z1_2 : w.heap.size + 1 + 1 < w1.heap.size := (by have hzz := hb1.size; (try simp at hzz); omega); have z1_3 : w.heap.size + 1 + 1 + 1 < w1.heap.size := (by have hzz := hb1.size; (try simp at hzz); omega); have K1 : Below w.heap.size w w1 := Below.trans (b := _) (by (repeat' (first | (with_reducible exact Below.refl _ _) | (with_reducible refine Below.alloc ?_ ?_ _) | (with_reducible refine Below.setCell ?_ ?_ _) | (with_reducible refine below_drewN ?_ _) | (simp; done) | omega | (simp; omega)))) (hb1.mono (by have hzz := hb1.size; (try simp at hzz); first | omega | (simp; done) | (simp; omega)))))
    refine bodyPost_ret (v := Frac3 x y z) (by simp [results, Try.results31, go_sem, hc1, hf1, z1_0, Nat.lt_succ_of_lt z1_0, Nat.ne_of_lt z1_0, Nat.ne_of_gt z1_0, z1_1, Nat.lt_succ_of_lt z1_1, Nat.ne_of_lt z1_1, Nat.ne_of_gt z1_1, z1_2, Nat.lt_succ_of_lt z1_2, Nat.ne_of_lt z1_2, Nat.ne_of_gt z1_2, z1_3, Nat.lt_succ_of_lt z1_3, Nat.ne_of_lt z1_3, Nat.ne_of_gt z1_3]) rfl ⟨rfl, ?_⟩; (repeat' (first | (with_reducible exact Below.refl _ _) | (with_reducible exact K1) | (with_reducible refine Below.alloc ?_ ?_ _) | (with_reducible refine Below.setCell ?_ ?_ _) | (with_reducible refine below_drewN ?_ _) | (simp; done) | omega | (simp; omega)))
  · have C := Lib.hid fun w => CM.out w rfl
    clear CA CS CM CD
    go_enter Try.func31, Try.ntmps31
    go_wp2_with (first | (go_at_call 59; (with_reducible refine (C.out _).mono ?_); rintro e w1 ⟨rfl, hb1⟩; have hc1 := (bcell hb1).1; have hf1 := (bcell hb1).2; have z1_0 : w.heap.size < w1.heap.size := (by have hzz := hb1.size; (try simp at hzz); omega); have z1_1 : w.heap.size + 1 < w1.heap.size := (by have hzz := hb1.size; (try simp at hzz); omega); have z1_2 : w.heap.size + 1 + 1 < w1.heap.size := (by have hzz := hb1.size; (try simp at hzz); omega); have z1_3 : w.heap.size + 1 + 1 + 1 < w1.heap.size := (by have hzz := hb1.size; (try simp at hzz); omega); have K1 : Below w.heap.size w w1 := Below.trans (b := _) (by (repeat' (first | (with_reducible exact Below.refl _ _) | (with_reducible refine Below.alloc ?_ ?_ _) | (with_reducible refine Below.setCell ?_ ?_ _) | (with_reducible refine below_drewN ?_ _) | (simp; done) | omega | (simp; omega)))) (hb1.mono (by have hzz := hb1.size; (try simp at hzz); first | omega | (simp; done) | (simp; omega)))))
    refine bodyPost_ret (v := Frac3 x y z) (by simp [results, Try.results31, go_sem, hc1, hf1, z1_0, Nat.lt_succ_of_lt z1_0, Nat.ne_of_lt z1_0, Nat.ne_of_gt z1_0, z1_1, Nat.lt_succ_of_lt z1_1, Nat.ne_of_lt z1_1, Nat.ne_of_gt z1_1, z1_2, Nat.lt_succ_of_lt z1_2, Nat.ne_of_lt z1_2, Nat.ne_of_gt z1_2, z1_3, Nat.lt_succ_of_lt z1_3, Nat.ne_of_lt z1_3, Nat.ne_of_gt z1_3]) rfl ⟨rfl, ?_⟩; (repeat' (first | (with_reducible exact Below.refl _ _) | (with_reducible exact K1) | (with_reducible refine Below.alloc ?_ ?_ _) | (with_reducible refine Below.setCell ?_ ?_ _) | (with_reducible refine below_drewN ?_ _) | (simp; done) | omega | (simp; omega)))
  · have C := Lib.hid fun w => CD.out w rfl
    clear CA CS CM CD
    go_enter Try.func31, Try.ntmps31
    go_wp2_with (first | (go_at_call 60; (with_reducible refine (C.out _).mono ?_); rintro e w1 ⟨rfl, hb1⟩; have hc1 := (bcell hb1).1; have hf1 := (bcell hb1).2; have z1_0 : w.heap.size < w1.heap.size := (by have hzz := hb1.size; (try simp at hzz); omega); have z1_1 : w.heap.size + 1 < w1.heap.size := (by have hzz := hb1.size; (try simp at hzz); omega); have z1_2 : w.heap.size + 1 + 1 < w1.heap.size := (by have hzz := hb1.size; (try simp at hzz); omega); have z1_3 : w.heap.size + 1 + 1 + 1 < w1.heap.size := (by have hzz := hb1.size; (try simp at hzz); omega); have K1 : Below w.heap.size w w1 := Below.trans (b := _) (by (repeat' (first | (with_reducible exact Below.refl _ _) | (with_reducible refine Below.alloc ?_ ?_ _) | (with_reducible refine Below.setCell ?_ ?_ _) | (with_reducible refine below_drewN ?_ _) | (simp; done) | omega | (simp; omega)))) (hb1.mono (by have hzz := hb1.size; (try simp at hzz); first | omega | (simp; done) | (simp; omega)))))
    refine bodyPost_ret (v := Frac3 x y z) (by simp [results, Try.results31, go_sem, hc1, hf1, z1_0, Nat.lt_succ_of_lt z1_0, Nat.ne_of_lt z1_0, Nat.ne_of_gt z1_0, z1_1, Nat.lt_succ_of_lt z1_1, Nat.ne_of_lt z1_1, Nat.ne_of_gt z1_1, z1_2, Nat.lt_succ_of_lt z1_2, Nat.ne_of_lt z1_2, Nat.ne_of_gt z1_2, z1_3, Nat.lt_succ_of_lt z1_3, Nat.ne_of_lt z1_3, Nat.ne_of_gt z1_3]) rfl ⟨rfl, ?_⟩; (repeat' (first | (with_reducible exact Below.refl _ _) | (with_reducible exact K1) | (with_reducible refine Below.alloc ?_ ?_ _) | (with_reducible refine Below.setCell ?_ ?_ _) | (with_reducible refine below_drewN ?_ _) | (simp; done) | omega | (simp; omega)))
theorem c_afx8 (op K B F R O : Int) {n1 d1 n2 d2 : Int} (r : A3) (w : World) (h : op = 8) (C : Hid (∀ w, Calls Try.prog 61 #[T5 K B F R O, V2 n1 d1] w (Ret (F3 r) w))) : Calls Try.prog 31 #[.int .i64 op, T5 K B F R O, V2 n1 d1, V2 n2 d2] w (Ret (F3 r) w) := by
  obtain ⟨x, y, z⟩ := r
  subst h
  go_enter Try.func31, Try.ntmps31
  go_wp2_with (first | (go_at_call 61; (with_reducible refine (C.out _).mono ?_); rintro e w1 ⟨rfl, hb1⟩; have hc1 := (bcell hb1).1; have hf1 := (bcell hb1).2; have z1_0 : w.heap.size < w1.heap.size := (by have hzz := hb1.size; (try simp at hzz); omega); have z1_1 : w.heap.size + 1 < w1.heap.size := (by have hzz := hb1.size; (try simp at hzz); omega); have z1_2 : w.heap.size + 1 + 1 < w1.heap.size := (by have hzz := hb1.size; (try simp at hzz); omega); have z1_3 : w.heap.size + 1 + 1 + 1 < w1.heap.size := (by have hzz := hb1.size; (try simp at hzz); omega); have K1 : Below w.heap.size w w1 := Below.trans (b := _) (by (repeat' (first | (with_reducible exact Below.refl _ _) | (with_reducible refine Below.alloc ?_ ?_ _) | (with_reducible refine Below.setCell ?_ ?_ _) | (with_reducible refine below_drewN ?_ _) | (simp; done) | omega | (simp; omega)))) (hb1.mono (by have hzz := hb1.size; (try simp at hzz); first | omega | (simp; done) | (simp; omega)))))
  refine bodyPost_ret (v := Frac3 x y z) (by simp [results, Try.results31, go_sem, hc1, hf1, z1_0, Nat.lt_succ_of_lt z1_0, Nat.ne_of_lt z1_0, Nat.ne_of_gt z1_0, z1_1, Nat.lt_succ_of_lt z1_1, Nat.ne_of_lt z1_1, Nat.ne_of_gt z1_1, z1_2, Nat.lt_succ_of_lt z1_2, Nat.ne_of_lt z1_2, Nat.ne_of_gt z1_2, z1_3, Nat.lt_succ_of_lt z1_3, Nat.ne_of_lt z1_3, Nat.ne_of_gt z1_3]) rfl ⟨rfl, ?_⟩; (repeat' (first | (with_reducible exact Below.refl _ _) | (with_reducible exact K1) | (with_reducible refine Below.alloc ?_ ?_ _) | (with_reducible refine Below.setCell ?_ ?_ _) | (with_reducible refine below_drewN ?_ _) | (simp; done) | omega | (simp; omega)))
theorem c_afx (op K B F R O : Int) {n1 d1 n2 d2 : Int} (w : World) (h0 : 4 ≤ op) (h1 : op ≤ 8) (v1 : fv K B F R O n1 d1 = true) (v2 : op ≠ 8 → fv K B F R O n2 d2 = true) : Calls Try.prog 31 #[.int .i64 op, T5 K B F R O, V2 n1 d1, V2 n2 d2] w (Ret (F3 (fxv op B F R O n1 n2)) w) := by
  by_cases h8 : op = 8
  · refine c_afx8 op K B F R O _ w h8 (Lib.hid fun w => ?_)
    subst h8
    exact neg_ok2 K B F R O n1 d1 v1 w
  · have v3 := v2 h8
    refine c_afx4 op K B F R O _ w (by omega) (Lib.hid fun w h => ?_) (Lib.hid fun w h => ?_) (Lib.hid fun w h => ?_) (Lib.hid fun w h => ?_)
    · subst h; exact add_ok2 K B F R O n1 d1 n2 d2 v1 v3 w
    · subst h; exact sub_ok2 K B F R O n1 d1 n2 d2 v1 v3 w
    · subst h; exact mul_ok2 K B F R O n1 d1 n2 d2 v1 v3 w
    · subst h
      by_cases hz : n2 = 0
      · subst hz
        exact div_zero2 K B F R O n1 d1 d2 v1 v3 w
      · have e : fxv 7 B F R O n1 n2 = (Nx.nv (Dv.dval R (n1 * 2 ^ F.toNat) n2) B O, 1, 0) := by unfold fxv; rw [if_neg (by omega)]; rfl
        rw [e]
        exact div_ok2 K B F R O n1 d1 n2 d2 v1 v3 hz w
end Go.Proofs.Ythkhlhibhkdkkaa.Va
