/- ValidateType and Valid of package value. -/
import Derived.Test.YtikcinkbkakkmaaGreatDoorGM
import Derived.Laws.StructEq

namespace Go.Proofs.YtikcinkbkakkmaaGreatDoor.Va
open Go.ChangeShapes Go.WideShapes Go.ChangeAt Go.RowKit
open Fr Fx
set_option maxRecDepth 8000
set_option linter.unusedVariables false
set_option linter.unusedSimpArgs false

theorem ret1' {k : IntKind} {a b : Int} (h : a = b) : Ending.returned (.int k a) = .returned (.int k b) := by rw [h]
theorem retb {a b : Bool} (h : a = b) : Ending.returned (.bool a) = .returned (.bool b) := by rw [h]
/-- ValidateType of package fixed. -/
theorem fvt (K B F R O : Int) (w : World) : Calls Tryz.prog 60 #[T5 K B F R O] w (Ret (.int .i64 (if tv K B F R O then 0 else 10)) w) := by
  by_cases h : tv K B F R O = true
  · rw [h]; exact vt_ok K B F R O w h
  · have h' : tv K B F R O = false := by simpa using h
    rw [h']; exact vt_bad K B F R O w h'
set_option maxHeartbeats 4000000 in
theorem c_vt (K B F R O : Int) (w : World) : Calls Tryz.prog 24 #[T5 K B F R O] w (Ret (.int .i64 (if ty K B F R O then 0 else 10)) w) := by
  have VT := Lib.hid fun w => fvt K B F R O w
  by_cases hk : K = 2
  · have e : ty K B F R O = tv K B F R O := by
      unfold ty
      rw [decide_eq_false (by omega), Bool.or_false]
    rw [e]
    clear e
    obtain ⟨r, hr⟩ : ∃ r, (if tv K B F R O = true then (0 : Int) else 10) = r := ⟨_, rfl⟩
    rw [hr] at VT ⊢
    have k1 : (K == 2) = true := by simpa using hk
    clear hk hr
    go_enter Tryz.func24, Tryz.ntmps24
    go_wp2_with (go_at_call 60; refine (VT.out _).mono ?_; rintro e w1 ⟨rfl, hb⟩)
    go_ret
    exact ⟨rfl, ((Below.refl _ _).alloc (Nat.le_refl _) _).trans (hb.mono (by simp))⟩
  · have hT : tv K B F R O = false := by
      unfold tv
      exact decide_eq_false (by omega)
    clear VT
    rw [show ty K B F R O = decide ((K = 1 ∨ K = 3) ∧ B = 0 ∧ F = 0 ∧ R = 0 ∧ O = 0) by unfold ty; rw [hT, Bool.false_or]]
    obtain ⟨r, hr⟩ : ∃ r, (if decide ((K = 1 ∨ K = 3) ∧ B = 0 ∧ F = 0 ∧ R = 0 ∧ O = 0) = true then (0 : Int) else 10) = r := ⟨_, rfl⟩
    rw [hr]
    have HR := Lib.hid hr
    clear hr
    have k1 : (K == 2) = false := by simpa using hk
    clear hk hT
    go_enter Tryz.func24, Tryz.ntmps24
    go_wp2
    all_goals
      go_ret
      refine ⟨ret1' ?_, by go_grown⟩
      have hr := HR.out
      rw [← hr]
      clear hr HR
      first | (simp_all; done) | (simp_all; omega)
theorem vtF {K B F R O : Int} (h : ty K B F R O = false) (w : World) : Calls Tryz.prog 24 #[T5 K B F R O] w (Ret (.int .i64 10) w) := by
  have := c_vt K B F R O w
  rw [h] at this
  exact this
theorem vtT {K B F R O : Int} (h : ty K B F R O = true) (w : World) : Calls Tryz.prog 24 #[T5 K B F R O] w (Ret (.int .i64 0) w) := by
  have := c_vt K B F R O w
  rw [h] at this
  exact this
theorem c_fits (n : Int) (w : World) : Calls Tryz.prog 59 #[.int .i64 n] w fun e w' => e = .returned (.bool (decide (-2147483647 ≤ n ∧ n ≤ 2147483647))) ∧ w = w' := by
  go_enter Tryz.func59, Tryz.ntmps59
  go_wp2
  all_goals
    go_ret
    refine ⟨retb ?_, rfl⟩
    first | (simp_all; done) | (simp_all; omega)
set_option maxHeartbeats 4000000 in
theorem c_va (K B F R O n d : Int) (w : World) (b0 : -9223372036854775808 ≤ B) (b1 : B ≤ 9223372036854775807) : Calls Tryz.prog 23 #[T5 K B F R O, V2 n d] w (Ret (.bool (vv K B F R O n d)) w) := by
  have FV := Lib.hid fun w => fval K B F R O n d w b0 b1
  have VA := Lib.hid fun w => valid_any n d w
  have FI := Lib.hid fun w => c_fits n w
  have HV1 := Lib.hid (vv_frac n d)
  have HV3 := Lib.hid (vv_int n d)
  have HF := Lib.hid (show ¬ ((K = 1 ∨ K = 3) ∧ B = 0 ∧ F = 0 ∧ R = 0 ∧ O = 0) → vv K B F R O n d = fv K B F R O n d by
    intro h
    by_cases h2 : K = 2
    · exact vv_fix h2
    · rcases ty_cases K B F R O with ⟨_, h3 | h3⟩ | ⟨h3, h4, _⟩
      · exact absurd h3.1 h2
      · exact absurd ⟨h3.1, h3.2.1, h3.2.2.1, h3.2.2.2.1, h3.2.2.2.2.1⟩ h
      · rw [vv_bad h3]; unfold fv; rw [h4]; rfl)
  clear b0 b1
  go_enter Tryz.func23, Tryz.ntmps23
  go_wp2_with fail
  all_goals (try subst_vars)
  all_goals try
     (with_reducible refine (VA.out _).mono ?_
      rintro e w1 ⟨rfl, hb⟩
      go_wp2
      go_ret
      refine ⟨retb ?_, (((Below.refl _ _).alloc (Nat.le_refl _) _).alloc (by simp) _).trans (hb.mono (by simp <;> omega))⟩
      exact HV1.out.symm)
  all_goals try
     (with_reducible refine (FV.out _).mono ?_
      rintro e w1 ⟨rfl, hb⟩
      go_wp2
      go_ret
      refine ⟨retb ?_, (((Below.refl _ _).alloc (Nat.le_refl _) _).alloc (by simp) _).trans (hb.mono (by simp <;> omega))⟩
      exact (HF.out (by omega)).symm)
  all_goals try
     (with_reducible refine (FI.out _).mono ?_
      rintro e w1 ⟨rfl, rfl⟩
      go_wp2
      go_ret
      refine ⟨retb ?_, by go_grown⟩
      rw [HV3.out]
      simp_all)
  all_goals
    go_ret
    refine ⟨retb ?_, by go_grown⟩
    rw [HV3.out]
    simp_all
end Go.Proofs.YtikcinkbkakkmaaGreatDoor.Va


namespace Go.Proofs.YtikcinkbkakkmaaGreatDoor.Va
open Go.ChangeShapes Go.WideShapes Go.ChangeAt Go.RowKit
open Fr Fx
set_option maxRecDepth 8000
set_option linter.unusedVariables false
set_option linter.unusedSimpArgs false

theorem c_zero (K B F R O : Int) (w : World) : Calls Tryz.prog 45 #[T5 K B F R O] w (Ret (V2 0 (if ty K B F R O then 1 else 0)) w) := by
  cases h : ty K B F R O
  · have VT := Lib.hid fun w => vtF h w
    go_enter Tryz.func45, Tryz.ntmps45
    go_wp2_with (first | (go_at_call 24; (with_reducible refine (VT.out _).mono ?_); rintro e w1 ⟨rfl, hb1⟩; have hc1 := (bcell hb1).1; have hf1 := (bcell hb1).2; have z1_0 : w.heap.size < w1.heap.size := (by have hzz := hb1.size; (try simp at hzz); omega); have z1_1 : w.heap.size + 1 < w1.heap.size := (by have hzz := hb1.size; (try simp at hzz); omega); have K1 : Below w.heap.size w w1 := Below.trans (b := _) (by (repeat' (first | (with_reducible exact Below.refl _ _) | (with_reducible refine Below.alloc ?_ ?_ _) | (with_reducible refine Below.setCell ?_ ?_ _) | (with_reducible refine below_drewN ?_ _) | (simp; done) | omega | (simp; omega)))) (hb1.mono (by have hzz := hb1.size; (try simp at hzz); first | omega | (simp; done) | (simp; omega)))))
    refine bodyPost_ret (v := V2 0 0) (by simp [results, Tryz.results45, go_sem, hc1, hf1, z1_0, Nat.lt_succ_of_lt z1_0, Nat.ne_of_lt z1_0, Nat.ne_of_gt z1_0, z1_1, Nat.lt_succ_of_lt z1_1, Nat.ne_of_lt z1_1, Nat.ne_of_gt z1_1]) rfl ⟨rfl, ?_⟩; (repeat' (first | (with_reducible exact Below.refl _ _) | (with_reducible exact K1) | (with_reducible refine Below.alloc ?_ ?_ _) | (with_reducible refine Below.setCell ?_ ?_ _) | (with_reducible refine below_drewN ?_ _) | (simp; done) | omega | (simp; omega)))
  · have VT := Lib.hid fun w => vtT h w
    go_enter Tryz.func45, Tryz.ntmps45
    go_wp2_with (first | (go_at_call 24; (with_reducible refine (VT.out _).mono ?_); rintro e w1 ⟨rfl, hb1⟩; have hc1 := (bcell hb1).1; have hf1 := (bcell hb1).2; have z1_0 : w.heap.size < w1.heap.size := (by have hzz := hb1.size; (try simp at hzz); omega); have z1_1 : w.heap.size + 1 < w1.heap.size := (by have hzz := hb1.size; (try simp at hzz); omega); have K1 : Below w.heap.size w w1 := Below.trans (b := _) (by (repeat' (first | (with_reducible exact Below.refl _ _) | (with_reducible refine Below.alloc ?_ ?_ _) | (with_reducible refine Below.setCell ?_ ?_ _) | (with_reducible refine below_drewN ?_ _) | (simp; done) | omega | (simp; omega)))) (hb1.mono (by have hzz := hb1.size; (try simp at hzz); first | omega | (simp; done) | (simp; omega)))))
    refine bodyPost_ret (v := V2 0 1) (by simp [results, Tryz.results45, go_sem, hc1, hf1, z1_0, Nat.lt_succ_of_lt z1_0, Nat.ne_of_lt z1_0, Nat.ne_of_gt z1_0, z1_1, Nat.lt_succ_of_lt z1_1, Nat.ne_of_lt z1_1, Nat.ne_of_gt z1_1]) rfl ⟨rfl, ?_⟩; (repeat' (first | (with_reducible exact Below.refl _ _) | (with_reducible exact K1) | (with_reducible refine Below.alloc ?_ ?_ _) | (with_reducible refine Below.setCell ?_ ?_ _) | (with_reducible refine below_drewN ?_ _) | (simp; done) | omega | (simp; omega)))
set_option maxHeartbeats 4000000 in
theorem c_one (K B F R O : Int) (w : World) (b0 : -9223372036854775808 ≤ B) (b1 : B ≤ 9223372036854775807) : Calls Tryz.prog 42 #[T5 K B F R O] w (Ret (F3 (onv K B F R O)) w) := by
  have HV := Lib.hid fun n d w => c_va K B F R O n d w b0 b1
  cases h : ty K B F R O
  · have VT := Lib.hid fun w => vtF h w
    rw [show onv K B F R O = (0, 0, 10) by unfold onv; rw [h]; rfl]
    clear HV b0 b1 h
    go_enter Tryz.func42, Tryz.ntmps42
    go_wp2_with (first | (go_at_call 24; (with_reducible refine (VT.out _).mono ?_); rintro e w1 ⟨rfl, hb1⟩; have hc1 := (bcell hb1).1; have hf1 := (bcell hb1).2; have z1_0 : w.heap.size < w1.heap.size := (by have hzz := hb1.size; (try simp at hzz); omega); have z1_1 : w.heap.size + 1 < w1.heap.size := (by have hzz := hb1.size; (try simp at hzz); omega); have K1 : Below w.heap.size w w1 := Below.trans (b := _) (by (repeat' (first | (with_reducible exact Below.refl _ _) | (with_reducible refine Below.alloc ?_ ?_ _) | (with_reducible refine Below.setCell ?_ ?_ _) | (with_reducible refine below_drewN ?_ _) | (simp; done) | omega | (simp; omega)))) (hb1.mono (by have hzz := hb1.size; (try simp at hzz); first | omega | (simp; done) | (simp; omega)))))
    refine bodyPost_ret (v := Frac3 0 0 10) (by simp [results, Tryz.results42, go_sem, hc1, hf1, z1_0, Nat.lt_succ_of_lt z1_0, Nat.ne_of_lt z1_0, Nat.ne_of_gt z1_0, z1_1, Nat.lt_succ_of_lt z1_1, Nat.ne_of_lt z1_1, Nat.ne_of_gt z1_1]) rfl ⟨rfl, ?_⟩; (repeat' (first | (with_reducible exact Below.refl _ _) | (with_reducible exact K1) | (with_reducible refine Below.alloc ?_ ?_ _) | (with_reducible refine Below.setCell ?_ ?_ _) | (with_reducible refine below_drewN ?_ _) | (simp; done) | omega | (simp; omega)))
  · have VT := Lib.hid fun w => vtT h w
    by_cases hk : K = 2
    · have ht : tv K B F R O = true := by
        rcases ty_cases K B F R O with ⟨_, h3 | h3⟩ | ⟨h3, _⟩
        · exact h3.2
        · exact absurd hk (by omega)
        · rw [h] at h3; cases h3
      obtain ⟨-, -, -, f0, f1, -, -, -⟩ := tv_parts ht
      obtain ⟨p0, p1⟩ := two_pow F f0 f1
      rw [show onv K B F R O = (if fv K B F R O (2 ^ F.toNat) 1 then (2 ^ F.toNat, 1, 0) else (0, 0, 3)) by unfold onv; rw [h, if_neg (by decide), if_pos hk]]
      have k1 : (K == 2) = true := by simpa using hk
      have VA := Lib.hid fun w => HV.out (2 ^ F.toNat) 1 w
      rw [vv_fix hk] at VA
      clear HV hk ht h b0 b1
      obtain ⟨p, hp⟩ : ∃ p, (2 : Int) ^ F.toNat = p := ⟨_, rfl⟩
      rw [hp] at p0 p1 VA ⊢
      cases h2 : fv K B F R O p 1
      · rw [h2] at VA
        clear h2
        go_enter Tryz.func42, Tryz.ntmps42
        go_wp2_with (first | (go_at_call 24; (with_reducible refine (VT.out _).mono ?_); rintro e w1 ⟨rfl, hb1⟩; have hc1 := (bcell hb1).1; have hf1 := (bcell hb1).2; have z1_0 : w.heap.size < w1.heap.size := (by have hzz := hb1.size; (try simp at hzz); omega); have z1_1 : w.heap.size + 1 < w1.heap.size := (by have hzz := hb1.size; (try simp at hzz); omega); have K1 : Below w.heap.size w w1 := Below.trans (b := _) (by (repeat' (first | (with_reducible exact Below.refl _ _) | (with_reducible refine Below.alloc ?_ ?_ _) | (with_reducible refine Below.setCell ?_ ?_ _) | (with_reducible refine below_drewN ?_ _) | (simp; done) | omega | (simp; omega)))) (hb1.mono (by have hzz := hb1.size; (try simp at hzz); first | omega | (simp; done) | (simp; omega)))) | (go_at_call 23; (with_reducible refine (VA.out _).mono ?_); rintro e w2 ⟨rfl, hb2⟩; have hc2 := (bcell hb2).1; have hf2 := (bcell hb2).2; have z2_0 : w.heap.size < w2.heap.size := (by have hzz := hb2.size; (try simp at hzz); omega); have z2_1 : w.heap.size + 1 < w2.heap.size := (by have hzz := hb2.size; (try simp at hzz); omega); have K2 : Below w.heap.size w w2 := Below.trans (b := _) (by (repeat' (first | (with_reducible exact Below.refl _ _) | (with_reducible exact K1) | (with_reducible refine Below.alloc ?_ ?_ _) | (with_reducible refine Below.setCell ?_ ?_ _) | (with_reducible refine below_drewN ?_ _) | (simp; done) | omega | (simp; omega)))) (hb2.mono (by have hzz := hb2.size; (try simp at hzz); first | omega | (simp; done) | (simp; omega)))))
        refine bodyPost_ret (v := Frac3 0 0 3) (by simp [results, Tryz.results42, go_sem, hc1, hf1, hc2, hf2, z1_0, Nat.lt_succ_of_lt z1_0, Nat.ne_of_lt z1_0, Nat.ne_of_gt z1_0, z1_1, Nat.lt_succ_of_lt z1_1, Nat.ne_of_lt z1_1, Nat.ne_of_gt z1_1, z2_0, Nat.lt_succ_of_lt z2_0, Nat.ne_of_lt z2_0, Nat.ne_of_gt z2_0, z2_1, Nat.lt_succ_of_lt z2_1, Nat.ne_of_lt z2_1, Nat.ne_of_gt z2_1]) rfl ⟨rfl, ?_⟩; (repeat' (first | (with_reducible exact Below.refl _ _) | (with_reducible exact K1) | (with_reducible exact K2) | (with_reducible refine Below.alloc ?_ ?_ _) | (with_reducible refine Below.setCell ?_ ?_ _) | (with_reducible refine below_drewN ?_ _) | (simp; done) | omega | (simp; omega)))
      · rw [h2] at VA
        clear h2
        go_enter Tryz.func42, Tryz.ntmps42
        go_wp2_with (first | (go_at_call 24; (with_reducible refine (VT.out _).mono ?_); rintro e w1 ⟨rfl, hb1⟩; have hc1 := (bcell hb1).1; have hf1 := (bcell hb1).2; have z1_0 : w.heap.size < w1.heap.size := (by have hzz := hb1.size; (try simp at hzz); omega); have z1_1 : w.heap.size + 1 < w1.heap.size := (by have hzz := hb1.size; (try simp at hzz); omega); have K1 : Below w.heap.size w w1 := Below.trans (b := _) (by (repeat' (first | (with_reducible exact Below.refl _ _) | (with_reducible refine Below.alloc ?_ ?_ _) | (with_reducible refine Below.setCell ?_ ?_ _) | (with_reducible refine below_drewN ?_ _) | (simp; done) | omega | (simp; omega)))) (hb1.mono (by have hzz := hb1.size; (try simp at hzz); first | omega | (simp; done) | (simp; omega)))) | (go_at_call 23; (with_reducible refine (VA.out _).mono ?_); rintro e w2 ⟨rfl, hb2⟩; have hc2 := (bcell hb2).1; have hf2 := (bcell hb2).2; have z2_0 : w.heap.size < w2.heap.size := (by have hzz := hb2.size; (try simp at hzz); omega); have z2_1 : w.heap.size + 1 < w2.heap.size := (by have hzz := hb2.size; (try simp at hzz); omega); have K2 : Below w.heap.size w w2 := Below.trans (b := _) (by (repeat' (first | (with_reducible exact Below.refl _ _) | (with_reducible exact K1) | (with_reducible refine Below.alloc ?_ ?_ _) | (with_reducible refine Below.setCell ?_ ?_ _) | (with_reducible refine below_drewN ?_ _) | (simp; done) | omega | (simp; omega)))) (hb2.mono (by have hzz := hb2.size; (try simp at hzz); first | omega | (simp; done) | (simp; omega)))))
        refine bodyPost_ret (v := Frac3 p 1 0) (by simp [results, Tryz.results42, go_sem, hc1, hf1, hc2, hf2, z1_0, Nat.lt_succ_of_lt z1_0, Nat.ne_of_lt z1_0, Nat.ne_of_gt z1_0, z1_1, Nat.lt_succ_of_lt z1_1, Nat.ne_of_lt z1_1, Nat.ne_of_gt z1_1, z2_0, Nat.lt_succ_of_lt z2_0, Nat.ne_of_lt z2_0, Nat.ne_of_gt z2_0, z2_1, Nat.lt_succ_of_lt z2_1, Nat.ne_of_lt z2_1, Nat.ne_of_gt z2_1]) rfl ⟨rfl, ?_⟩; (repeat' (first | (with_reducible exact Below.refl _ _) | (with_reducible exact K1) | (with_reducible exact K2) | (with_reducible refine Below.alloc ?_ ?_ _) | (with_reducible refine Below.setCell ?_ ?_ _) | (with_reducible refine below_drewN ?_ _) | (simp; done) | omega | (simp; omega)))
    · rw [show onv K B F R O = (1, 1, 0) by unfold onv; rw [h, if_neg (by decide), if_neg hk]]
      have hv : vv K B F R O 1 1 = true := by
        unfold vv
        rw [if_neg hk, h]
        split <;> decide
      have k1 : (K == 2) = false := by simpa using hk
      have VA := Lib.hid fun w => HV.out 1 1 w
      rw [hv] at VA
      clear HV hk h hv b0 b1
      go_enter Tryz.func42, Tryz.ntmps42
      go_wp2_with (first | (go_at_call 24; (with_reducible refine (VT.out _).mono ?_); rintro e w1 ⟨rfl, hb1⟩; have hc1 := (bcell hb1).1; have hf1 := (bcell hb1).2; have z1_0 : w.heap.size < w1.heap.size := (by have hzz := hb1.size; (try simp at hzz); omega); have z1_1 : w.heap.size + 1 < w1.heap.size := (by have hzz := hb1.size; (try simp at hzz); omega); have K1 : Below w.heap.size w w1 := Below.trans (b := _) (by (repeat' (first | (with_reducible exact Below.refl _ _) | (with_reducible refine Below.alloc ?_ ?_ _) | (with_reducible refine Below.setCell ?_ ?_ _) | (with_reducible refine below_drewN ?_ _) | (simp; done) | omega | (simp; omega)))) (hb1.mono (by have hzz := hb1.size; (try simp at hzz); first | omega | (simp; done) | (simp; omega)))) | (go_at_call 23; (with_reducible refine (VA.out _).mono ?_); rintro e w2 ⟨rfl, hb2⟩; have hc2 := (bcell hb2).1; have hf2 := (bcell hb2).2; have z2_0 : w.heap.size < w2.heap.size := (by have hzz := hb2.size; (try simp at hzz); omega); have z2_1 : w.heap.size + 1 < w2.heap.size := (by have hzz := hb2.size; (try simp at hzz); omega); have K2 : Below w.heap.size w w2 := Below.trans (b := _) (by (repeat' (first | (with_reducible exact Below.refl _ _) | (with_reducible exact K1) | (with_reducible refine Below.alloc ?_ ?_ _) | (with_reducible refine Below.setCell ?_ ?_ _) | (with_reducible refine below_drewN ?_ _) | (simp; done) | omega | (simp; omega)))) (hb2.mono (by have hzz := hb2.size; (try simp at hzz); first | omega | (simp; done) | (simp; omega)))))
      refine bodyPost_ret (v := Frac3 1 1 0) (by simp [results, Tryz.results42, go_sem, hc1, hf1, hc2, hf2, z1_0, Nat.lt_succ_of_lt z1_0, Nat.ne_of_lt z1_0, Nat.ne_of_gt z1_0, z1_1, Nat.lt_succ_of_lt z1_1, Nat.ne_of_lt z1_1, Nat.ne_of_gt z1_1, z2_0, Nat.lt_succ_of_lt z2_0, Nat.ne_of_lt z2_0, Nat.ne_of_gt z2_0, z2_1, Nat.lt_succ_of_lt z2_1, Nat.ne_of_lt z2_1, Nat.ne_of_gt z2_1]) rfl ⟨rfl, ?_⟩; (repeat' (first | (with_reducible exact Below.refl _ _) | (with_reducible exact K1) | (with_reducible exact K2) | (with_reducible refine Below.alloc ?_ ?_ _) | (with_reducible refine Below.setCell ?_ ?_ _) | (with_reducible refine below_drewN ?_ _) | (simp; done) | omega | (simp; omega)))
end Go.Proofs.YtikcinkbkakkmaaGreatDoor.Va


namespace Go.Proofs.YtikcinkbkakkmaaGreatDoor.Va
open Go.ChangeShapes Go.WideShapes Go.ChangeAt Go.RowKit
open Fr Fx
set_option maxRecDepth 8000
set_option linter.unusedVariables false
set_option linter.unusedSimpArgs false

set_option maxHeartbeats 4000000 in
theorem b_ty (K B F R O : Int) (w : World) : Calls Tryz.prog 29 #[T5 K B F R O] w (Ret (.bool (ty K B F R O)) w) := by
  by_cases hk : K = 2
  · have e : ty K B F R O = tv K B F R O := by
      unfold ty
      rw [decide_eq_false (by omega), Bool.or_false]
    rw [e]
    by_cases h : tv K B F R O = true
    · rw [h]; exact bt_ok K B F R O w h
    · have h' : tv K B F R O = false := by simpa using h
      rw [h']; exact bt_bad K B F R O w h' hk
  · have hT : tv K B F R O = false := by
      unfold tv
      exact decide_eq_false (by omega)
    rw [show ty K B F R O = decide ((K = 1 ∨ K = 3) ∧ B = 0 ∧ F = 0 ∧ R = 0 ∧ O = 0) by unfold ty; rw [hT, Bool.false_or]]
    obtain ⟨r, hr⟩ : ∃ r, decide ((K = 1 ∨ K = 3) ∧ B = 0 ∧ F = 0 ∧ R = 0 ∧ O = 0) = r := ⟨_, rfl⟩
    rw [hr]
    have HR := Lib.hid hr
    have k1 : (K == 2) = false := by simpa using hk
    clear hr hT hk
    go_enter Tryz.func29, Tryz.ntmps29
    go_wp2
    all_goals
      go_ret
      refine ⟨retb ?_, by go_grown⟩
      have hr := HR.out
      rw [← hr]
      clear hr HR
      first | (simp_all; done) | (refine Bool.eq_iff_iff.mpr ?_; simp_all)
set_option maxHeartbeats 4000000 in
theorem b_int (n d : Int) (w : World) : Calls Tryz.prog 30 #[T5 3 0 0 0 0, V2 n d] w (Ret (.bool (decide (d = 1 ∧ -2147483647 ≤ n ∧ n ≤ 2147483647))) w) := by
  obtain ⟨r, hr⟩ : ∃ r, decide (d = 1 ∧ -2147483647 ≤ n ∧ n ≤ 2147483647) = r := ⟨_, rfl⟩
  rw [hr]
  have HR := Lib.hid hr
  clear hr
  go_enter Tryz.func30, Tryz.ntmps30
  go_wp2_with fail
  all_goals
    go_ret
    refine ⟨retb ?_, by go_grown⟩
    have hr := HR.out
    rw [← hr]
    clear hr HR
    first | (simp_all; done) | (refine Bool.eq_iff_iff.mpr ?_; simp_all; done) | (refine Bool.eq_iff_iff.mpr ?_; simp_all; omega)
theorem b_vv (K B F R O n d : Int) (w : World) (h : ty K B F R O = true) : Calls Tryz.prog 30 #[T5 K B F R O, V2 n d] w (Ret (.bool (vv K B F R O n d)) w) := by
  rcases ty_cases K B F R O with ⟨_, ⟨h1, h2⟩ | ⟨h1, rfl, rfl, rfl, rfl, _⟩⟩ | ⟨h3, _⟩
  · rw [vv_fix h1]; exact bvk K B F R O n d w h2
  · rcases h1 with rfl | rfl
    · rw [vv_frac]; exact bval_any n d w
    · rw [vv_int]; exact b_int n d w
  · rw [h] at h3; cases h3

theorem step_any (K B F R O p : Int) (w : World) (f0 : 0 ≤ F) (f1 : F ≤ 30) (hp : (2 : Int) ^ F.toNat = p) (p0 : 1 ≤ p) (p1 : p ≤ 1073741824) : Calls Tryz.prog 51 #[T5 K B F R O] w (Ret (.int .i64 p) w) := by
  go_enter Tryz.func51, Tryz.ntmps51
  go_wp2
  go_ret
  exact ⟨rfl, by go_grown⟩
theorem r_va (K B F R O n d : Int) (w : World) : Calls Tryz.prog 40 #[T5 K B F R O, V2 n d] w (Ret (.bool (vv K B F R O n d)) w) := by
  have BT := Lib.hid fun w => b_ty K B F R O w
  cases h : ty K B F R O
  · rw [h] at BT
    rw [vv_bad h]
    clear h
    go_enter Tryz.func40, Tryz.ntmps40
    go_wp2_with (first | (go_at_call 29; (with_reducible refine (BT.out _).mono ?_); rintro e w1 ⟨rfl, hb1⟩; have hc1 := (bcell hb1).1; have hf1 := (bcell hb1).2; have z1_0 : w.heap.size < w1.heap.size := (by have hzz := hb1.size; (try simp at hzz); omega); have z1_1 : w.heap.size + 1 < w1.heap.size := (by have hzz := hb1.size; (try simp at hzz); omega); have K1 : Below w.heap.size w w1 := Below.trans (b := _) (by (repeat' (first | (with_reducible exact Below.refl _ _) | (with_reducible refine Below.alloc ?_ ?_ _) | (with_reducible refine Below.setCell ?_ ?_ _) | (with_reducible refine below_drewN ?_ _) | (simp; done) | omega | (simp; omega)))) (hb1.mono (by have hzz := hb1.size; (try simp at hzz); first | omega | (simp; done) | (simp; omega)))))
    go_ret
    exact ⟨rfl, K1⟩
  · rw [h] at BT
    have BV := Lib.hid fun w => b_vv K B F R O n d w h
    clear h
    go_enter Tryz.func40, Tryz.ntmps40
    go_wp2_with (first | (go_at_call 29; (with_reducible refine (BT.out _).mono ?_); rintro e w1 ⟨rfl, hb1⟩; have hc1 := (bcell hb1).1; have hf1 := (bcell hb1).2; have z1_0 : w.heap.size < w1.heap.size := (by have hzz := hb1.size; (try simp at hzz); omega); have z1_1 : w.heap.size + 1 < w1.heap.size := (by have hzz := hb1.size; (try simp at hzz); omega); have K1 : Below w.heap.size w w1 := Below.trans (b := _) (by (repeat' (first | (with_reducible exact Below.refl _ _) | (with_reducible refine Below.alloc ?_ ?_ _) | (with_reducible refine Below.setCell ?_ ?_ _) | (with_reducible refine below_drewN ?_ _) | (simp; done) | omega | (simp; omega)))) (hb1.mono (by have hzz := hb1.size; (try simp at hzz); first | omega | (simp; done) | (simp; omega)))) | (go_at_call 30; (with_reducible refine (BV.out _).mono ?_); rintro e w2 ⟨rfl, hb2⟩; have hc2 := (bcell hb2).1; have hf2 := (bcell hb2).2; have z2_0 : w.heap.size < w2.heap.size := (by have hzz := hb2.size; (try simp at hzz); omega); have z2_1 : w.heap.size + 1 < w2.heap.size := (by have hzz := hb2.size; (try simp at hzz); omega); have K2 : Below w.heap.size w w2 := Below.trans (b := _) (by (repeat' (first | (with_reducible exact Below.refl _ _) | (with_reducible exact K1) | (with_reducible refine Below.alloc ?_ ?_ _) | (with_reducible refine Below.setCell ?_ ?_ _) | (with_reducible refine below_drewN ?_ _) | (simp; done) | omega | (simp; omega)))) (hb2.mono (by have hzz := hb2.size; (try simp at hzz); first | omega | (simp; done) | (simp; omega)))))
    go_ret
    exact ⟨rfl, K2⟩
theorem r_zero (K B F R O : Int) (w : World) : Calls Tryz.prog 46 #[T5 K B F R O] w (Ret (V2 0 (if ty K B F R O then 1 else 0)) w) := by
  have VT := Lib.hid fun w => b_ty K B F R O w
  cases h : ty K B F R O
  · rw [h] at VT
    clear h
    go_enter Tryz.func46, Tryz.ntmps46
    go_wp2_with (first | (go_at_call 29; (with_reducible refine (VT.out _).mono ?_); rintro e w1 ⟨rfl, hb1⟩; have hc1 := (bcell hb1).1; have hf1 := (bcell hb1).2; have z1_0 : w.heap.size < w1.heap.size := (by have hzz := hb1.size; (try simp at hzz); omega); have z1_1 : w.heap.size + 1 < w1.heap.size := (by have hzz := hb1.size; (try simp at hzz); omega); have K1 : Below w.heap.size w w1 := Below.trans (b := _) (by (repeat' (first | (with_reducible exact Below.refl _ _) | (with_reducible refine Below.alloc ?_ ?_ _) | (with_reducible refine Below.setCell ?_ ?_ _) | (with_reducible refine below_drewN ?_ _) | (simp; done) | omega | (simp; omega)))) (hb1.mono (by have hzz := hb1.size; (try simp at hzz); first | omega | (simp; done) | (simp; omega)))))
    refine bodyPost_ret (v := V2 0 0) (by simp [results, Tryz.results46, go_sem, hc1, hf1, z1_0, Nat.lt_succ_of_lt z1_0, Nat.ne_of_lt z1_0, Nat.ne_of_gt z1_0, z1_1, Nat.lt_succ_of_lt z1_1, Nat.ne_of_lt z1_1, Nat.ne_of_gt z1_1]) rfl ⟨rfl, ?_⟩; (repeat' (first | (with_reducible exact Below.refl _ _) | (with_reducible exact K1) | (with_reducible refine Below.alloc ?_ ?_ _) | (with_reducible refine Below.setCell ?_ ?_ _) | (with_reducible refine below_drewN ?_ _) | (simp; done) | omega | (simp; omega)))
  · rw [h] at VT
    clear h
    go_enter Tryz.func46, Tryz.ntmps46
    go_wp2_with (first | (go_at_call 29; (with_reducible refine (VT.out _).mono ?_); rintro e w1 ⟨rfl, hb1⟩; have hc1 := (bcell hb1).1; have hf1 := (bcell hb1).2; have z1_0 : w.heap.size < w1.heap.size := (by have hzz := hb1.size; (try simp at hzz); omega); have z1_1 : w.heap.size + 1 < w1.heap.size := (by have hzz := hb1.size; (try simp at hzz); omega); have K1 : Below w.heap.size w w1 := Below.trans (b := _) (by (repeat' (first | (with_reducible exact Below.refl _ _) | (with_reducible refine Below.alloc ?_ ?_ _) | (with_reducible refine Below.setCell ?_ ?_ _) | (with_reducible refine below_drewN ?_ _) | (simp; done) | omega | (simp; omega)))) (hb1.mono (by have hzz := hb1.size; (try simp at hzz); first | omega | (simp; done) | (simp; omega)))))
    refine bodyPost_ret (v := V2 0 1) (by simp [results, Tryz.results46, go_sem, hc1, hf1, z1_0, Nat.lt_succ_of_lt z1_0, Nat.ne_of_lt z1_0, Nat.ne_of_gt z1_0, z1_1, Nat.lt_succ_of_lt z1_1, Nat.ne_of_lt z1_1, Nat.ne_of_gt z1_1]) rfl ⟨rfl, ?_⟩; (repeat' (first | (with_reducible exact Below.refl _ _) | (with_reducible exact K1) | (with_reducible refine Below.alloc ?_ ?_ _) | (with_reducible refine Below.setCell ?_ ?_ _) | (with_reducible refine below_drewN ?_ _) | (simp; done) | omega | (simp; omega)))
set_option maxHeartbeats 4000000 in
theorem r_one (K B F R O : Int) (w : World) : Calls Tryz.prog 47 #[T5 K B F R O] w (Ret (F3 (onv K B F R O)) w) := by
  have VT := Lib.hid fun w => b_ty K B F R O w
  cases h : ty K B F R O
  · rw [h] at VT
    rw [show onv K B F R O = (0, 0, 10) by unfold onv; rw [h]; rfl]
    clear h
    go_enter Tryz.func47, Tryz.ntmps47
    go_wp2_with (first | (go_at_call 29; (with_reducible refine (VT.out _).mono ?_); rintro e w1 ⟨rfl, hb1⟩; have hc1 := (bcell hb1).1; have hf1 := (bcell hb1).2; have z1_0 : w.heap.size < w1.heap.size := (by have hzz := hb1.size; (try simp at hzz); omega); have z1_1 : w.heap.size + 1 < w1.heap.size := (by have hzz := hb1.size; (try simp at hzz); omega); have K1 : Below w.heap.size w w1 := Below.trans (b := _) (by (repeat' (first | (with_reducible exact Below.refl _ _) | (with_reducible refine Below.alloc ?_ ?_ _) | (with_reducible refine Below.setCell ?_ ?_ _) | (with_reducible refine below_drewN ?_ _) | (simp; done) | omega | (simp; omega)))) (hb1.mono (by have hzz := hb1.size; (try simp at hzz); first | omega | (simp; done) | (simp; omega)))))
    refine bodyPost_ret (v := Frac3 0 0 10) (by simp [results, Tryz.results47, go_sem, hc1, hf1, z1_0, Nat.lt_succ_of_lt z1_0, Nat.ne_of_lt z1_0, Nat.ne_of_gt z1_0, z1_1, Nat.lt_succ_of_lt z1_1, Nat.ne_of_lt z1_1, Nat.ne_of_gt z1_1]) rfl ⟨rfl, ?_⟩; (repeat' (first | (with_reducible exact Below.refl _ _) | (with_reducible exact K1) | (with_reducible refine Below.alloc ?_ ?_ _) | (with_reducible refine Below.setCell ?_ ?_ _) | (with_reducible refine below_drewN ?_ _) | (simp; done) | omega | (simp; omega)))
  · rw [h] at VT
    have HV := Lib.hid fun n d w => b_vv K B F R O n d w h
    by_cases hk : K = 2
    · have ht : tv K B F R O = true := by
        rcases ty_cases K B F R O with ⟨_, h3 | h3⟩ | ⟨h3, _⟩
        · exact h3.2
        · exact absurd hk (by omega)
        · rw [h] at h3; cases h3
      obtain ⟨-, -, -, f0, f1, -, -, -⟩ := tv_parts ht
      obtain ⟨p0, p1⟩ := two_pow F f0 f1
      rw [show onv K B F R O = (if fv K B F R O (2 ^ F.toNat) 1 then (2 ^ F.toNat, 1, 0) else (0, 0, 3)) by unfold onv; rw [h, if_neg (by decide), if_pos hk]]
      have k1 : (K == 2) = true := by simpa using hk
      have VA := Lib.hid fun w => HV.out (2 ^ F.toNat) 1 w
      rw [vv_fix hk] at VA
      clear HV hk ht h
      obtain ⟨p, hp⟩ : ∃ p, (2 : Int) ^ F.toNat = p := ⟨_, rfl⟩
      rw [hp] at p0 p1 VA ⊢
      have SP := Lib.hid fun w => step_any K B F R O p w f0 f1 hp p0 p1
      clear hp f0 f1 p0 p1
      cases h2 : fv K B F R O p 1
      · rw [h2] at VA
        clear h2
        go_enter Tryz.func47, Tryz.ntmps47
        go_wp2_with (first | (go_at_call 29; (with_reducible refine (VT.out _).mono ?_); rintro e w1 ⟨rfl, hb1⟩; have hc1 := (bcell hb1).1; have hf1 := (bcell hb1).2; have z1_0 : w.heap.size < w1.heap.size := (by have hzz := hb1.size; (try simp at hzz); omega); have z1_1 : w.heap.size + 1 < w1.heap.size := (by have hzz := hb1.size; (try simp at hzz); omega); have K1 : Below w.heap.size w w1 := Below.trans (b := _) (by (repeat' (first | (with_reducible exact Below.refl _ _) | (with_reducible refine Below.alloc ?_ ?_ _) | (with_reducible refine Below.setCell ?_ ?_ _) | (with_reducible refine below_drewN ?_ _) | (simp; done) | omega | (simp; omega)))) (hb1.mono (by have hzz := hb1.size; (try simp at hzz); first | omega | (simp; done) | (simp; omega)))) | (go_at_call 51; (with_reducible refine (SP.out _).mono ?_); rintro e w2 ⟨rfl, hb2⟩; have hc2 := (bcell hb2).1; have hf2 := (bcell hb2).2; have z2_0 : w.heap.size < w2.heap.size := (by have hzz := hb2.size; (try simp at hzz); omega); have z2_1 : w.heap.size + 1 < w2.heap.size := (by have hzz := hb2.size; (try simp at hzz); omega); have z2_2 : w1.heap.size < w2.heap.size := (by have hzz := hb2.size; (try simp at hzz); omega); have K2 : Below w.heap.size w w2 := Below.trans (b := _) (by (repeat' (first | (with_reducible exact Below.refl _ _) | (with_reducible exact K1) | (with_reducible refine Below.alloc ?_ ?_ _) | (with_reducible refine Below.setCell ?_ ?_ _) | (with_reducible refine below_drewN ?_ _) | (simp; done) | omega | (simp; omega)))) (hb2.mono (by have hzz := hb2.size; (try simp at hzz); first | omega | (simp; done) | (simp; omega)))) | (go_at_call 30; (with_reducible refine (VA.out _).mono ?_); rintro e w3 ⟨rfl, hb3⟩; have hc3 := (bcell hb3).1; have hf3 := (bcell hb3).2; have z3_0 : w.heap.size < w3.heap.size := (by have hzz := hb3.size; (try simp at hzz); omega); have z3_1 : w.heap.size + 1 < w3.heap.size := (by have hzz := hb3.size; (try simp at hzz); omega); have z3_2 : w1.heap.size < w3.heap.size := (by have hzz := hb3.size; (try simp at hzz); omega); have K3 : Below w.heap.size w w3 := Below.trans (b := _) (by (repeat' (first | (with_reducible exact Below.refl _ _) | (with_reducible exact K1) | (with_reducible exact K2) | (with_reducible refine Below.alloc ?_ ?_ _) | (with_reducible refine Below.setCell ?_ ?_ _) | (with_reducible refine below_drewN ?_ _) | (simp; done) | omega | (simp; omega)))) (hb3.mono (by have hzz := hb3.size; (try simp at hzz); first | omega | (simp; done) | (simp; omega)))))
        refine bodyPost_ret (v := Frac3 0 0 3) (by simp [results, Tryz.results47, go_sem, hc1, hf1, hc2, hf2, hc3, hf3, z1_0, Nat.lt_succ_of_lt z1_0, Nat.ne_of_lt z1_0, Nat.ne_of_gt z1_0, z1_1, Nat.lt_succ_of_lt z1_1, Nat.ne_of_lt z1_1, Nat.ne_of_gt z1_1, z2_0, Nat.lt_succ_of_lt z2_0, Nat.ne_of_lt z2_0, Nat.ne_of_gt z2_0, z2_1, Nat.lt_succ_of_lt z2_1, Nat.ne_of_lt z2_1, Nat.ne_of_gt z2_1, z2_2, Nat.lt_succ_of_lt z2_2, Nat.ne_of_lt z2_2, Nat.ne_of_gt z2_2, z3_0, Nat.lt_succ_of_lt z3_0, Nat.ne_of_lt z3_0, Nat.ne_of_gt z3_0, z3_1, Nat.lt_succ_of_lt z3_1, Nat.ne_of_lt z3_1, Nat.ne_of_gt z3_1, z3_2, Nat.lt_succ_of_lt z3_2, Nat.ne_of_lt z3_2, Nat.ne_of_gt z3_2]) rfl ⟨rfl, ?_⟩; (repeat' (first | (with_reducible exact Below.refl _ _) | (with_reducible exact K1) | (with_reducible exact K2) | (with_reducible exact K3) | (with_reducible refine Below.alloc ?_ ?_ _) | (with_reducible refine Below.setCell ?_ ?_ _) | (with_reducible refine below_drewN ?_ _) | (simp; done) | omega | (simp; omega)))
      · rw [h2] at VA
        clear h2
        go_enter Tryz.func47, Tryz.ntmps47
        go_wp2_with (first | (go_at_call 29; (with_reducible refine (VT.out _).mono ?_); rintro e w1 ⟨rfl, hb1⟩; have hc1 := (bcell hb1).1; have hf1 := (bcell hb1).2; have z1_0 : w.heap.size < w1.heap.size := (by have hzz := hb1.size; (try simp at hzz); omega); have z1_1 : w.heap.size + 1 < w1.heap.size := (by have hzz := hb1.size; (try simp at hzz); omega); have K1 : Below w.heap.size w w1 := Below.trans (b := _) (by (repeat' (first | (with_reducible exact Below.refl _ _) | (with_reducible refine Below.alloc ?_ ?_ _) | (with_reducible refine Below.setCell ?_ ?_ _) | (with_reducible refine below_drewN ?_ _) | (simp; done) | omega | (simp; omega)))) (hb1.mono (by have hzz := hb1.size; (try simp at hzz); first | omega | (simp; done) | (simp; omega)))) | (go_at_call 51; (with_reducible refine (SP.out _).mono ?_); rintro e w2 ⟨rfl, hb2⟩; have hc2 := (bcell hb2).1; have hf2 := (bcell hb2).2; have z2_0 : w.heap.size < w2.heap.size := (by have hzz := hb2.size; (try simp at hzz); omega); have z2_1 : w.heap.size + 1 < w2.heap.size := (by have hzz := hb2.size; (try simp at hzz); omega); have z2_2 : w1.heap.size < w2.heap.size := (by have hzz := hb2.size; (try simp at hzz); omega); have K2 : Below w.heap.size w w2 := Below.trans (b := _) (by (repeat' (first | (with_reducible exact Below.refl _ _) | (with_reducible exact K1) | (with_reducible refine Below.alloc ?_ ?_ _) | (with_reducible refine Below.setCell ?_ ?_ _) | (with_reducible refine below_drewN ?_ _) | (simp; done) | omega | (simp; omega)))) (hb2.mono (by have hzz := hb2.size; (try simp at hzz); first | omega | (simp; done) | (simp; omega)))) | (go_at_call 30; (with_reducible refine (VA.out _).mono ?_); rintro e w3 ⟨rfl, hb3⟩; have hc3 := (bcell hb3).1; have hf3 := (bcell hb3).2; have z3_0 : w.heap.size < w3.heap.size := (by have hzz := hb3.size; (try simp at hzz); omega); have z3_1 : w.heap.size + 1 < w3.heap.size := (by have hzz := hb3.size; (try simp at hzz); omega); have z3_2 : w1.heap.size < w3.heap.size := (by have hzz := hb3.size; (try simp at hzz); omega); have K3 : Below w.heap.size w w3 := Below.trans (b := _) (by (repeat' (first | (with_reducible exact Below.refl _ _) | (with_reducible exact K1) | (with_reducible exact K2) | (with_reducible refine Below.alloc ?_ ?_ _) | (with_reducible refine Below.setCell ?_ ?_ _) | (with_reducible refine below_drewN ?_ _) | (simp; done) | omega | (simp; omega)))) (hb3.mono (by have hzz := hb3.size; (try simp at hzz); first | omega | (simp; done) | (simp; omega)))))
        refine bodyPost_ret (v := Frac3 p 1 0) (by simp [results, Tryz.results47, go_sem, hc1, hf1, hc2, hf2, hc3, hf3, z1_0, Nat.lt_succ_of_lt z1_0, Nat.ne_of_lt z1_0, Nat.ne_of_gt z1_0, z1_1, Nat.lt_succ_of_lt z1_1, Nat.ne_of_lt z1_1, Nat.ne_of_gt z1_1, z2_0, Nat.lt_succ_of_lt z2_0, Nat.ne_of_lt z2_0, Nat.ne_of_gt z2_0, z2_1, Nat.lt_succ_of_lt z2_1, Nat.ne_of_lt z2_1, Nat.ne_of_gt z2_1, z2_2, Nat.lt_succ_of_lt z2_2, Nat.ne_of_lt z2_2, Nat.ne_of_gt z2_2, z3_0, Nat.lt_succ_of_lt z3_0, Nat.ne_of_lt z3_0, Nat.ne_of_gt z3_0, z3_1, Nat.lt_succ_of_lt z3_1, Nat.ne_of_lt z3_1, Nat.ne_of_gt z3_1, z3_2, Nat.lt_succ_of_lt z3_2, Nat.ne_of_lt z3_2, Nat.ne_of_gt z3_2]) rfl ⟨rfl, ?_⟩; (repeat' (first | (with_reducible exact Below.refl _ _) | (with_reducible exact K1) | (with_reducible exact K2) | (with_reducible exact K3) | (with_reducible refine Below.alloc ?_ ?_ _) | (with_reducible refine Below.setCell ?_ ?_ _) | (with_reducible refine below_drewN ?_ _) | (simp; done) | omega | (simp; omega)))
    · rw [show onv K B F R O = (1, 1, 0) by unfold onv; rw [h, if_neg (by decide), if_neg hk]]
      have hv : vv K B F R O 1 1 = true := by
        unfold vv
        rw [if_neg hk, h]
        split <;> decide
      have k1 : (K == 2) = false := by simpa using hk
      have VA := Lib.hid fun w => HV.out 1 1 w
      rw [hv] at VA
      clear HV hk h hv
      go_enter Tryz.func47, Tryz.ntmps47
      go_wp2_with (first | (go_at_call 29; (with_reducible refine (VT.out _).mono ?_); rintro e w1 ⟨rfl, hb1⟩; have hc1 := (bcell hb1).1; have hf1 := (bcell hb1).2; have z1_0 : w.heap.size < w1.heap.size := (by have hzz := hb1.size; (try simp at hzz); omega); have z1_1 : w.heap.size + 1 < w1.heap.size := (by have hzz := hb1.size; (try simp at hzz); omega); have K1 : Below w.heap.size w w1 := Below.trans (b := _) (by (repeat' (first | (with_reducible exact Below.refl _ _) | (with_reducible refine Below.alloc ?_ ?_ _) | (with_reducible refine Below.setCell ?_ ?_ _) | (with_reducible refine below_drewN ?_ _) | (simp; done) | omega | (simp; omega)))) (hb1.mono (by have hzz := hb1.size; (try simp at hzz); first | omega | (simp; done) | (simp; omega)))) | (go_at_call 30; (with_reducible refine (VA.out _).mono ?_); rintro e w2 ⟨rfl, hb2⟩; have hc2 := (bcell hb2).1; have hf2 := (bcell hb2).2; have z2_0 : w.heap.size < w2.heap.size := (by have hzz := hb2.size; (try simp at hzz); omega); have z2_1 : w.heap.size + 1 < w2.heap.size := (by have hzz := hb2.size; (try simp at hzz); omega); have K2 : Below w.heap.size w w2 := Below.trans (b := _) (by (repeat' (first | (with_reducible exact Below.refl _ _) | (with_reducible exact K1) | (with_reducible refine Below.alloc ?_ ?_ _) | (with_reducible refine Below.setCell ?_ ?_ _) | (with_reducible refine below_drewN ?_ _) | (simp; done) | omega | (simp; omega)))) (hb2.mono (by have hzz := hb2.size; (try simp at hzz); first | omega | (simp; done) | (simp; omega)))))
      refine bodyPost_ret (v := Frac3 1 1 0) (by simp [results, Tryz.results47, go_sem, hc1, hf1, hc2, hf2, z1_0, Nat.lt_succ_of_lt z1_0, Nat.ne_of_lt z1_0, Nat.ne_of_gt z1_0, z1_1, Nat.lt_succ_of_lt z1_1, Nat.ne_of_lt z1_1, Nat.ne_of_gt z1_1, z2_0, Nat.lt_succ_of_lt z2_0, Nat.ne_of_lt z2_0, Nat.ne_of_gt z2_0, z2_1, Nat.lt_succ_of_lt z2_1, Nat.ne_of_lt z2_1, Nat.ne_of_gt z2_1]) rfl ⟨rfl, ?_⟩; (repeat' (first | (with_reducible exact Below.refl _ _) | (with_reducible exact K1) | (with_reducible exact K2) | (with_reducible refine Below.alloc ?_ ?_ _) | (with_reducible refine Below.setCell ?_ ?_ _) | (with_reducible refine below_drewN ?_ _) | (simp; done) | omega | (simp; omega)))
end Go.Proofs.YtikcinkbkakkmaaGreatDoor.Va
