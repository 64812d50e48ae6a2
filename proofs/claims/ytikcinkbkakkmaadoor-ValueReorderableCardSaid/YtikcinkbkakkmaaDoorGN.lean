/- ValidateType and Valid of package value. -/
import Derived.Test.YtikcinkbkakkmaaDoorGM
import Derived.Laws.StructEq

namespace Go.Proofs.YtikcinkbkakkmaaDoor.Va
open Go.ChangeShapes Go.WideShapes Go.ChangeAt Go.RowKit
open Fr Fx
set_option linter.unusedVariables false
set_option linter.unusedSimpArgs false

theorem ret1' {k : IntKind} {a b : Int} (h : a = b) : Ending.returned (.int k a) = .returned (.int k b) := by rw [h]
theorem retb {a b : Bool} (h : a = b) : Ending.returned (.bool a) = .returned (.bool b) := by rw [h]
/-- ValidateType of package fixed. -/
theorem fvt (K B F R O : Int) (w : World) : Calls Tryd.prog 25 #[T5 K B F R O] w (Ret (.int .i64 (if tv K B F R O then 0 else 10)) w) := by
  by_cases h : tv K B F R O = true
  · rw [h]; exact vt_ok K B F R O w h
  · have h' : tv K B F R O = false := by simpa using h
    rw [h']; exact vt_bad K B F R O w h'
set_option maxHeartbeats 4000000 in
theorem c_vt (K B F R O : Int) (w : World) : Calls Tryd.prog 9 #[T5 K B F R O] w (Ret (.int .i64 (if ty K B F R O then 0 else 10)) w) := by
  have VT := Lib.hid fun w => fvt K B F R O w
  by_cases hk : K = 2
  · have e : ty K B F R O = tv K B F R O := by
      unfold ty
      rw [decide_eq_false (by omega), Bool.or_false]
    rw [e]
    clear e
    obtain ⟨r, hr⟩ : ∃ r, (if tv K B F R O = true then (0 : Int) else 10) = r := ⟨_, rfl⟩
    rw [hr] at VT ⊢
    have k1 : (K == 2) = true := by simpa using hk
    clear hk hr
    go_enter Tryd.func9, Tryd.ntmps9
    go_wp2_with (go_at_call 25; refine (VT.out _).mono ?_; rintro e w1 ⟨rfl, hb⟩)
    go_ret
    exact ⟨rfl, ((Below.refl _ _).alloc (Nat.le_refl _) _).trans (hb.mono (by simp))⟩
  · have hT : tv K B F R O = false := by
      unfold tv
      exact decide_eq_false (by omega)
    clear VT
    rw [show ty K B F R O = decide ((K = 1 ∨ K = 3) ∧ B = 0 ∧ F = 0 ∧ R = 0 ∧ O = 0) by unfold ty; rw [hT, Bool.false_or]]
    obtain ⟨r, hr⟩ : ∃ r, (if decide ((K = 1 ∨ K = 3) ∧ B = 0 ∧ F = 0 ∧ R = 0 ∧ O = 0) = true then (0 : Int) else 10) = r := ⟨_, rfl⟩
    rw [hr]
    have HR := Lib.hid hr
    clear hr
    have k1 : (K == 2) = false := by simpa using hk
    clear hk hT
    go_enter Tryd.func9, Tryd.ntmps9
    go_wp2
    all_goals
      go_ret
      refine ⟨ret1' ?_, by go_grown⟩
      have hr := HR.out
      rw [← hr]
      clear hr HR
      first | (simp_all; done) | (simp_all; omega)
theorem vtF {K B F R O : Int} (h : ty K B F R O = false) (w : World) : Calls Tryd.prog 9 #[T5 K B F R O] w (Ret (.int .i64 10) w) := by
  have := c_vt K B F R O w
  rw [h] at this
  exact this
theorem vtT {K B F R O : Int} (h : ty K B F R O = true) (w : World) : Calls Tryd.prog 9 #[T5 K B F R O] w (Ret (.int .i64 0) w) := by
  have := c_vt K B F R O w
  rw [h] at this
  exact this
theorem c_fits (n : Int) (w : World) : Calls Tryd.prog 27 #[.int .i64 n] w fun e w' => e = .returned (.bool (decide (-2147483647 ≤ n ∧ n ≤ 2147483647))) ∧ w = w' := by
  go_enter Tryd.func27, Tryd.ntmps27
  go_wp2
  all_goals
    go_ret
    refine ⟨retb ?_, rfl⟩
    first | (simp_all; done) | (simp_all; omega)
set_option maxHeartbeats 4000000 in
theorem c_va (K B F R O n d : Int) (w : World) (b0 : -9223372036854775808 ≤ B) (b1 : B ≤ 9223372036854775807) : Calls Tryd.prog 11 #[T5 K B F R O, V2 n d] w (Ret (.bool (vv K B F R O n d)) w) := by
  have FV := Lib.hid fun w => fval K B F R O n d w b0 b1
  have VA := Lib.hid fun w => valid_any n d w
  have FI := Lib.hid fun w => c_fits n w
  have HV1 := Lib.hid (vv_frac n d)
  have HV3 := Lib.hid (vv_int n d)
  have HF := Lib.hid (show ¬ ((K = 1 ∨ K = 3) ∧ B = 0 ∧ F = 0 ∧ R = 0 ∧ O = 0) → vv K B F R O n d = fv K B F R O n d by
    intro h
    by_cases h2 : K = 2
    · exact vv_fix h2
    · rcases ty_cases K B F R O with ⟨_, h3 | h3⟩ | ⟨h3, h4, _⟩
      · exact absurd h3.1 h2
      · exact absurd ⟨h3.1, h3.2.1, h3.2.2.1, h3.2.2.2.1, h3.2.2.2.2.1⟩ h
      · rw [vv_bad h3]; unfold fv; rw [h4]; rfl)
  clear b0 b1
  go_enter Tryd.func11, Tryd.ntmps11
  go_wp2_with fail
  all_goals (try subst_vars)
  all_goals try
     (with_reducible refine (VA.out _).mono ?_
      rintro e w1 ⟨rfl, hb⟩
      go_wp2
      go_ret
      refine ⟨retb ?_, (((Below.refl _ _).alloc (Nat.le_refl _) _).alloc (by simp) _).trans (hb.mono (by simp <;> omega))⟩
      exact HV1.out.symm)
  all_goals try
     (with_reducible refine (FV.out _).mono ?_
      rintro e w1 ⟨rfl, hb⟩
      go_wp2
      go_ret
      refine ⟨retb ?_, (((Below.refl _ _).alloc (Nat.le_refl _) _).alloc (by simp) _).trans (hb.mono (by simp <;> omega))⟩
      exact (HF.out (by omega)).symm)
  all_goals try
     (with_reducible refine (FI.out _).mono ?_
      rintro e w1 ⟨rfl, rfl⟩
      go_wp2
      go_ret
      refine ⟨retb ?_, by go_grown⟩
      rw [HV3.out]
      simp_all)
  all_goals
    go_ret
    refine ⟨retb ?_, by go_grown⟩
    rw [HV3.out]
    simp_all
end Go.Proofs.YtikcinkbkakkmaaDoor.Va


namespace Go.Proofs.YtikcinkbkakkmaaDoor.Va
open Go.ChangeShapes Go.WideShapes Go.ChangeAt Go.RowKit
open Fr Fx
set_option linter.unusedVariables false
set_option linter.unusedSimpArgs false

theorem c_zero (K B F R O : Int) (w : World) : Calls Tryd.prog 13 #[T5 K B F R O] w (Ret (V2 0 (if ty K B F R O then 1 else 0)) w) := by
  cases h : ty K B F R O
  · have VT := Lib.hid fun w => vtF h w
    go_enter Tryd.func13, Tryd.ntmps13
    go_wp2_with (first | (go_at_call 9; (with_reducible refine (VT.out _).mono ?_); rintro e w1 ⟨rfl, hb1⟩; have hc1 := (bcell hb1).1; have hf1 := (bcell hb1).2; have z1_0 : w.heap.size < w1.heap.size := (by have hzz := hb1.size; simp at hzz; omega); have z1_1 : w.heap.size + 1 < w1.heap.size := (by have hzz := hb1.size; simp at hzz; omega); have K1 : Below w.heap.size w w1 := Below.trans (b := _) (by (repeat' (first | (with_reducible exact Below.refl _ _) | (with_reducible refine Below.alloc ?_ ?_ _) | (with_reducible refine Below.setCell ?_ ?_ _) | (with_reducible refine below_drewN ?_ _) | (simp; done) | omega | (simp; omega)))) (hb1.mono (by have hzz := hb1.size; simp <;> omega))))
    refine bodyPost_ret (v := V2 0 0) (by simp [results, Tryd.results13, go_sem, hc1, hf1, z1_0, Nat.lt_succ_of_lt z1_0, Nat.ne_of_lt z1_0, z1_1, Nat.lt_succ_of_lt z1_1, Nat.ne_of_lt z1_1]) rfl ⟨rfl, ?_⟩; (repeat' (first | (with_reducible exact Below.refl _ _) | (with_reducible exact K1) | (with_reducible refine Below.alloc ?_ ?_ _) | (with_reducible refine Below.setCell ?_ ?_ _) | (with_reducible refine below_drewN ?_ _) | (simp; done) | omega | (simp; omega)))
  · have VT := Lib.hid fun w => vtT h w
    go_enter Tryd.func13, Tryd.ntmps13
    go_wp2_with (first | (go_at_call 9; (with_reducible refine (VT.out _).mono ?_); rintro e w1 ⟨rfl, hb1⟩; have hc1 := (bcell hb1).1; have hf1 := (bcell hb1).2; have z1_0 : w.heap.size < w1.heap.size := (by have hzz := hb1.size; simp at hzz; omega); have z1_1 : w.heap.size + 1 < w1.heap.size := (by have hzz := hb1.size; simp at hzz; omega); have K1 : Below w.heap.size w w1 := Below.trans (b := _) (by (repeat' (first | (with_reducible exact Below.refl _ _) | (with_reducible refine Below.alloc ?_ ?_ _) | (with_reducible refine Below.setCell ?_ ?_ _) | (with_reducible refine below_drewN ?_ _) | (simp; done) | omega | (simp; omega)))) (hb1.mono (by have hzz := hb1.size; simp <;> omega))))
    refine bodyPost_ret (v := V2 0 1) (by simp [results, Tryd.results13, go_sem, hc1, hf1, z1_0, Nat.lt_succ_of_lt z1_0, Nat.ne_of_lt z1_0, z1_1, Nat.lt_succ_of_lt z1_1, Nat.ne_of_lt z1_1]) rfl ⟨rfl, ?_⟩; (repeat' (first | (with_reducible exact Below.refl _ _) | (with_reducible exact K1) | (with_reducible refine Below.alloc ?_ ?_ _) | (with_reducible refine Below.setCell ?_ ?_ _) | (with_reducible refine below_drewN ?_ _) | (simp; done) | omega | (simp; omega)))
set_option maxHeartbeats 4000000 in
theorem c_one (K B F R O : Int) (w : World) (b0 : -9223372036854775808 ≤ B) (b1 : B ≤ 9223372036854775807) : Calls Tryd.prog 7 #[T5 K B F R O] w (Ret (F3 (onv K B F R O)) w) := by
  have HV := Lib.hid fun n d w => c_va K B F R O n d w b0 b1
  cases h : ty K B F R O
  · have VT := Lib.hid fun w => vtF h w
    rw [show onv K B F R O = (0, 0, 10) by unfold onv; rw [h]; rfl]
    clear HV b0 b1 h
    go_enter Tryd.func7, Tryd.ntmps7
    go_wp2_with (first | (go_at_call 9; (with_reducible refine (VT.out _).mono ?_); rintro e w1 ⟨rfl, hb1⟩; have hc1 := (bcell hb1).1; have hf1 := (bcell hb1).2; have z1_0 : w.heap.size < w1.heap.size := (by have hzz := hb1.size; simp at hzz; omega); have z1_1 : w.heap.size + 1 < w1.heap.size := (by have hzz := hb1.size; simp at hzz; omega); have K1 : Below w.heap.size w w1 := Below.trans (b := _) (by (repeat' (first | (with_reducible exact Below.refl _ _) | (with_reducible refine Below.alloc ?_ ?_ _) | (with_reducible refine Below.setCell ?_ ?_ _) | (with_reducible refine below_drewN ?_ _) | (simp; done) | omega | (simp; omega)))) (hb1.mono (by have hzz := hb1.size; simp <;> omega))))
    refine bodyPost_ret (v := Frac3 0 0 10) (by simp [results, Tryd.results7, go_sem, hc1, hf1, z1_0, Nat.lt_succ_of_lt z1_0, Nat.ne_of_lt z1_0, z1_1, Nat.lt_succ_of_lt z1_1, Nat.ne_of_lt z1_1]) rfl ⟨rfl, ?_⟩; (repeat' (first | (with_reducible exact Below.refl _ _) | (with_reducible exact K1) | (with_reducible refine Below.alloc ?_ ?_ _) | (with_reducible refine Below.setCell ?_ ?_ _) | (with_reducible refine below_drewN ?_ _) | (simp; done) | omega | (simp; omega)))
  · have VT := Lib.hid fun w => vtT h w
    by_cases hk : K = 2
    · have ht : tv K B F R O = true := by
        rcases ty_cases K B F R O with ⟨_, h3 | h3⟩ | ⟨h3, _⟩
        · exact h3.2
        · exact absurd hk (by omega)
        · rw [h] at h3; cases h3
      obtain ⟨-, -, -, f0, f1, -, -, -⟩ := tv_parts ht
      obtain ⟨p0, p1⟩ := two_pow F f0 f1
      rw [show onv K B F R O = (if fv K B F R O (2 ^ F.toNat) 1 then (2 ^ F.toNat, 1, 0) else (0, 0, 3)) by unfold onv; rw [h, if_neg (by decide), if_pos hk]]
      have k1 : (K == 2) = true := by simpa using hk
      have VA := Lib.hid fun w => HV.out (2 ^ F.toNat) 1 w
      rw [vv_fix hk] at VA
      clear HV hk ht h b0 b1
      obtain ⟨p, hp⟩ : ∃ p, (2 : Int) ^ F.toNat = p := ⟨_, rfl⟩
      rw [hp] at p0 p1 VA ⊢
      cases h2 : fv K B F R O p 1
      · rw [h2] at VA
        clear h2
        go_enter Tryd.func7, Tryd.ntmps7
        go_wp2_with (first | (go_at_call 9; (with_reducible refine (VT.out _).mono ?_); rintro e w1 ⟨rfl, hb1⟩; have hc1 := (bcell hb1).1; have hf1 := (bcell hb1).2; have z1_0 : w.heap.size < w1.heap.size := (by have hzz := hb1.size; simp at hzz; omega); have z1_1 : w.heap.size + 1 < w1.heap.size := (by have hzz := hb1.size; simp at hzz; omega); have K1 : Below w.heap.size w w1 := Below.trans (b := _) (by (repeat' (first | (with_reducible exact Below.refl _ _) | (with_reducible refine Below.alloc ?_ ?_ _) | (with_reducible refine Below.setCell ?_ ?_ _) | (with_reducible refine below_drewN ?_ _) | (simp; done) | omega | (simp; omega)))) (hb1.mono (by have hzz := hb1.size; simp <;> omega))) | (go_at_call 11; (with_reducible refine (VA.out _).mono ?_); rintro e w2 ⟨rfl, hb2⟩; have hc2 := (bcell hb2).1; have hf2 := (bcell hb2).2; have z2_0 : w.heap.size < w2.heap.size := (by have hzz := hb2.size; simp at hzz; omega); have z2_1 : w.heap.size + 1 < w2.heap.size := (by have hzz := hb2.size; simp at hzz; omega); have K2 : Below w.heap.size w w2 := Below.trans (b := _) (by (repeat' (first | (with_reducible exact Below.refl _ _) | (with_reducible exact K1) | (with_reducible refine Below.alloc ?_ ?_ _) | (with_reducible refine Below.setCell ?_ ?_ _) | (with_reducible refine below_drewN ?_ _) | (simp; done) | omega | (simp; omega)))) (hb2.mono (by have hzz := hb2.size; simp <;> omega))))
        refine bodyPost_ret (v := Frac3 0 0 3) (by simp [results, Tryd.results7, go_sem, hc1, hf1, hc2, hf2, z1_0, Nat.lt_succ_of_lt z1_0, Nat.ne_of_lt z1_0, z1_1, Nat.lt_succ_of_lt z1_1, Nat.ne_of_lt z1_1, z2_0, Nat.lt_succ_of_lt z2_0, Nat.ne_of_lt z2_0, z2_1, Nat.lt_succ_of_lt z2_1, Nat.ne_of_lt z2_1]) rfl ⟨rfl, ?_⟩; (repeat' (first | (with_reducible exact Below.refl _ _) | (with_reducible exact K1) | (with_reducible exact K2) | (with_reducible refine Below.alloc ?_ ?_ _) | (with_reducible refine Below.setCell ?_ ?_ _) | (with_reducible refine below_drewN ?_ _) | (simp; done) | omega | (simp; omega)))
      · rw [h2] at VA
        clear h2
        go_enter Tryd.func7, Tryd.ntmps7
        go_wp2_with (first | (go_at_call 9; (with_reducible refine (VT.out _).mono ?_); rintro e w1 ⟨rfl, hb1⟩; have hc1 := (bcell hb1).1; have hf1 := (bcell hb1).2; have z1_0 : w.heap.size < w1.heap.size := (by have hzz := hb1.size; simp at hzz; omega); have z1_1 : w.heap.size + 1 < w1.heap.size := (by have hzz := hb1.size; simp at hzz; omega); have K1 : Below w.heap.size w w1 := Below.trans (b := _) (by (repeat' (first | (with_reducible exact Below.refl _ _) | (with_reducible refine Below.alloc ?_ ?_ _) | (with_reducible refine Below.setCell ?_ ?_ _) | (with_reducible refine below_drewN ?_ _) | (simp; done) | omega | (simp; omega)))) (hb1.mono (by have hzz := hb1.size; simp <;> omega))) | (go_at_call 11; (with_reducible refine (VA.out _).mono ?_); rintro e w2 ⟨rfl, hb2⟩; have hc2 := (bcell hb2).1; have hf2 := (bcell hb2).2; have z2_0 : w.heap.size < w2.heap.size := (by have hzz := hb2.size; simp at hzz; omega); have z2_1 : w.heap.size + 1 < w2.heap.size := (by have hzz := hb2.size; simp at hzz; omega); have K2 : Below w.heap.size w w2 := Below.trans (b := _) (by (repeat' (first | (with_reducible exact Below.refl _ _) | (with_reducible exact K1) | (with_reducible refine Below.alloc ?_ ?_ _) | (with_reducible refine Below.setCell ?_ ?_ _) | (with_reducible refine below_drewN ?_ _) | (simp; done) | omega | (simp; omega)))) (hb2.mono (by have hzz := hb2.size; simp <;> omega))))
        refine bodyPost_ret (v := Frac3 p 1 0) (by simp [results, Tryd.results7, go_sem, hc1, hf1, hc2, hf2, z1_0, Nat.lt_succ_of_lt z1_0, Nat.ne_of_lt z1_0, z1_1, Nat.lt_succ_of_lt z1_1, Nat.ne_of_lt z1_1, z2_0, Nat.lt_succ_of_lt z2_0, Nat.ne_of_lt z2_0, z2_1, Nat.lt_succ_of_lt z2_1, Nat.ne_of_lt z2_1]) rfl ⟨rfl, ?_⟩; (repeat' (first | (with_reducible exact Below.refl _ _) | (with_reducible exact K1) | (with_reducible exact K2) | (with_reducible refine Below.alloc ?_ ?_ _) | (with_reducible refine Below.setCell ?_ ?_ _) | (with_reducible refine below_drewN ?_ _) | (simp; done) | omega | (simp; omega)))
    · rw [show onv K B F R O = (1, 1, 0) by unfold onv; rw [h, if_neg (by decide), if_neg hk]]
      have hv : vv K B F R O 1 1 = true := by
        unfold vv
        rw [if_neg hk, h]
        split <;> decide
      have k1 : (K == 2) = false := by simpa using hk
      have VA := Lib.hid fun w => HV.out 1 1 w
      rw [hv] at VA
      clear HV hk h hv b0 b1
      go_enter Tryd.func7, Tryd.ntmps7
      go_wp2_with (first | (go_at_call 9; (with_reducible refine (VT.out _).mono ?_); rintro e w1 ⟨rfl, hb1⟩; have hc1 := (bcell hb1).1; have hf1 := (bcell hb1).2; have z1_0 : w.heap.size < w1.heap.size := (by have hzz := hb1.size; simp at hzz; omega); have z1_1 : w.heap.size + 1 < w1.heap.size := (by have hzz := hb1.size; simp at hzz; omega); have K1 : Below w.heap.size w w1 := Below.trans (b := _) (by (repeat' (first | (with_reducible exact Below.refl _ _) | (with_reducible refine Below.alloc ?_ ?_ _) | (with_reducible refine Below.setCell ?_ ?_ _) | (with_reducible refine below_drewN ?_ _) | (simp; done) | omega | (simp; omega)))) (hb1.mono (by have hzz := hb1.size; simp <;> omega))) | (go_at_call 11; (with_reducible refine (VA.out _).mono ?_); rintro e w2 ⟨rfl, hb2⟩; have hc2 := (bcell hb2).1; have hf2 := (bcell hb2).2; have z2_0 : w.heap.size < w2.heap.size := (by have hzz := hb2.size; simp at hzz; omega); have z2_1 : w.heap.size + 1 < w2.heap.size := (by have hzz := hb2.size; simp at hzz; omega); have K2 : Below w.heap.size w w2 := Below.trans (b := _) (by (repeat' (first | (with_reducible exact Below.refl _ _) | (with_reducible exact K1) | (with_reducible refine Below.alloc ?_ ?_ _) | (with_reducible refine Below.setCell ?_ ?_ _) | (with_reducible refine below_drewN ?_ _) | (simp; done) | omega | (simp; omega)))) (hb2.mono (by have hzz := hb2.size; simp <;> omega))))
      refine bodyPost_ret (v := Frac3 1 1 0) (by simp [results, Tryd.results7, go_sem, hc1, hf1, hc2, hf2, z1_0, Nat.lt_succ_of_lt z1_0, Nat.ne_of_lt z1_0, z1_1, Nat.lt_succ_of_lt z1_1, Nat.ne_of_lt z1_1, z2_0, Nat.lt_succ_of_lt z2_0, Nat.ne_of_lt z2_0, z2_1, Nat.lt_succ_of_lt z2_1, Nat.ne_of_lt z2_1]) rfl ⟨rfl, ?_⟩; (repeat' (first | (with_reducible exact Below.refl _ _) | (with_reducible exact K1) | (with_reducible exact K2) | (with_reducible refine Below.alloc ?_ ?_ _) | (with_reducible refine Below.setCell ?_ ?_ _) | (with_reducible refine below_drewN ?_ _) | (simp; done) | omega | (simp; omega)))
end Go.Proofs.YtikcinkbkakkmaaDoor.Va
