/- Divide of package round, where the remainder and the divisor have the signs of this file's name: the rounded quotient. -/
import Derived.Test.YtikcinkbkakkmaaGreatDoorGC

namespace Go.Proofs.YtikcinkbkakkmaaGreatDoor.Dv
open Go.ChangeShapes Go.WideShapes Go.ChangeAt Go.RowKit
set_option linter.unusedVariables false
set_option linter.unusedSimpArgs false
set_option maxHeartbeats 4000000 in
theorem div_nn1 (n d q r : Int) (b : Bool) (w : World) (n0 : -9223372036854775808 ≤ n) (n1 : n ≤ 9223372036854775807) (hq : n.tdiv d = q) (hr : n.tmod d = r)
   (b1 : -4611686018427387904 ≤ q) (b2 : q ≤ 4611686018427387904) (b6 : -9223372036854775808 ≤ d) (b7 : d ≤ 9223372036854775807) (g0 : (n == -9223372036854775808) = b) (g1 : (d == -1) = false) (b3 : r < 0) (b4 : d < r) (b5 : 0 ≤ q) :
    Calls Tryz.prog 71 #[.int .i64 n, .int .i64 d, .int .i64 1] w fun e w' => e = .returned (.tuple #[.int .i64 (Plain.rnd 1 q r d), .int .i64 0]) ∧ ∃ k, w' = w.drewN k := by
  have d0 : (d == 0) = false := by simp; omega
  have r0 : (r == 0) = false := by simp; omega
  have r1 : (r != 0) = true := by simp; omega
  have r2 : decide (r < 0) = true := by simp; omega
  have d2 : decide (d < 0) = true := by simp; omega
  have z0 : ((-r) == 0) = false := by simp; omega
  have H := Lib.hid (Plain.rnd1_nn q r d b3 b4)
  cases b
  all_goals
    go_enter Tryz.func71, Tryz.ntmps71
    go_wp2_with (first | (go_at_call 105; refine (mode_ok _ _ (by omega) (by omega)).mono ?_; rintro e w' ⟨rfl, rfl⟩))
    go_step3
    go_wp2
    go_quiet (fail)
    go_wp2_with (first | (go_at_call 106; refine (mag_pos _ _ (by omega) (by omega)).mono ?_; rintro e w' ⟨rfl, rfl⟩) | (go_at_call 106; refine (mag_neg _ _ (by omega) (by omega)).mono ?_; rintro e w' ⟨rfl, rfl⟩))
    go_step3
    go_wp2
    refine wp_loop_rounds 2 ?_
    repeat any_goals (rw [rounds_succ]; go_wp2)
    try rw [Exit.noGoto_ret]
    go_ret2
    exact ⟨ret2 (by have h := H.out; omega), _, rfl⟩
set_option maxHeartbeats 4000000 in
theorem div_nn2 (n d q r : Int) (b : Bool) (w : World) (n0 : -9223372036854775808 ≤ n) (n1 : n ≤ 9223372036854775807) (hq : n.tdiv d = q) (hr : n.tmod d = r)
   (b1 : -4611686018427387904 ≤ q) (b2 : q ≤ 4611686018427387904) (b6 : -9223372036854775808 ≤ d) (b7 : d ≤ 9223372036854775807) (g0 : (n == -9223372036854775808) = b) (g1 : (d == -1) = false) (b3 : r < 0) (b4 : d < r) (b5 : 0 ≤ q) :
    Calls Tryz.prog 71 #[.int .i64 n, .int .i64 d, .int .i64 2] w fun e w' => e = .returned (.tuple #[.int .i64 (Plain.rnd 2 q r d), .int .i64 0]) ∧ ∃ k, w' = w.drewN k := by
  have d0 : (d == 0) = false := by simp; omega
  have r0 : (r == 0) = false := by simp; omega
  have r1 : (r != 0) = true := by simp; omega
  have r2 : decide (r < 0) = true := by simp; omega
  have d2 : decide (d < 0) = true := by simp; omega
  have z0 : ((-r) == 0) = false := by simp; omega
  have H := Lib.hid (Plain.rnd2_nn q r d b3 b4)
  cases b
  all_goals
    go_enter Tryz.func71, Tryz.ntmps71
    go_wp2_with (first | (go_at_call 105; refine (mode_ok _ _ (by omega) (by omega)).mono ?_; rintro e w' ⟨rfl, rfl⟩))
    go_step3
    go_wp2
    go_quiet (fail)
    go_wp2_with (first | (go_at_call 106; refine (mag_pos _ _ (by omega) (by omega)).mono ?_; rintro e w' ⟨rfl, rfl⟩) | (go_at_call 106; refine (mag_neg _ _ (by omega) (by omega)).mono ?_; rintro e w' ⟨rfl, rfl⟩))
    go_step3
    go_wp2
    refine wp_loop_rounds 2 ?_
    repeat any_goals (rw [rounds_succ]; go_wp2)
    try rw [Exit.noGoto_ret]
    go_ret2
    exact ⟨ret2 (by have h := H.out; omega), _, rfl⟩
set_option maxHeartbeats 4000000 in
theorem div_nn3 (n d q r : Int) (b : Bool) (w : World) (n0 : -9223372036854775808 ≤ n) (n1 : n ≤ 9223372036854775807) (hq : n.tdiv d = q) (hr : n.tmod d = r)
   (b1 : -4611686018427387904 ≤ q) (b2 : q ≤ 4611686018427387904) (b6 : -9223372036854775808 ≤ d) (b7 : d ≤ 9223372036854775807) (g0 : (n == -9223372036854775808) = b) (g1 : (d == -1) = false) (b3 : r < 0) (b4 : d < r) (b5 : 0 ≤ q) :
    Calls Tryz.prog 71 #[.int .i64 n, .int .i64 d, .int .i64 3] w fun e w' => e = .returned (.tuple #[.int .i64 (Plain.rnd 3 q r d), .int .i64 0]) ∧ ∃ k, w' = w.drewN k := by
  have d0 : (d == 0) = false := by simp; omega
  have r0 : (r == 0) = false := by simp; omega
  have r1 : (r != 0) = true := by simp; omega
  have r2 : decide (r < 0) = true := by simp; omega
  have d2 : decide (d < 0) = true := by simp; omega
  have z0 : ((-r) == 0) = false := by simp; omega
  have H := Lib.hid (Plain.rnd3_nn q r d b3 b4)
  cases b
  all_goals
    go_enter Tryz.func71, Tryz.ntmps71
    go_wp2_with (first | (go_at_call 105; refine (mode_ok _ _ (by omega) (by omega)).mono ?_; rintro e w' ⟨rfl, rfl⟩))
    go_step3
    go_wp2
    go_quiet (fail)
    go_wp2_with (first | (go_at_call 106; refine (mag_pos _ _ (by omega) (by omega)).mono ?_; rintro e w' ⟨rfl, rfl⟩) | (go_at_call 106; refine (mag_neg _ _ (by omega) (by omega)).mono ?_; rintro e w' ⟨rfl, rfl⟩))
    go_step3
    go_wp2
    refine wp_loop_rounds 2 ?_
    repeat any_goals (rw [rounds_succ]; go_wp2)
    try rw [Exit.noGoto_ret]
    go_ret2
    exact ⟨ret2 (by have h := H.out; omega), _, rfl⟩
set_option maxHeartbeats 4000000 in
theorem div_nn4 (n d q r : Int) (b : Bool) (w : World) (n0 : -9223372036854775808 ≤ n) (n1 : n ≤ 9223372036854775807) (hq : n.tdiv d = q) (hr : n.tmod d = r)
   (b1 : -4611686018427387904 ≤ q) (b2 : q ≤ 4611686018427387904) (b6 : -9223372036854775808 ≤ d) (b7 : d ≤ 9223372036854775807) (g0 : (n == -9223372036854775808) = b) (g1 : (d == -1) = false) (b3 : r < 0) (b4 : d < r) (b5 : 0 ≤ q) :
    Calls Tryz.prog 71 #[.int .i64 n, .int .i64 d, .int .i64 4] w fun e w' => e = .returned (.tuple #[.int .i64 (Plain.rnd 4 q r d), .int .i64 0]) ∧ ∃ k, w' = w.drewN k := by
  have d0 : (d == 0) = false := by simp; omega
  have r0 : (r == 0) = false := by simp; omega
  have r1 : (r != 0) = true := by simp; omega
  have r2 : decide (r < 0) = true := by simp; omega
  have d2 : decide (d < 0) = true := by simp; omega
  have z0 : ((-r) == 0) = false := by simp; omega
  obtain ⟨t0, H⟩ | ⟨t0, t1, t2, H⟩ | ⟨t0, t1, t2, H⟩ | ⟨t0, t1, H⟩ : (decide ((-r) < -d + r) = true ∧ Hid (Plain.rnd 4 q r d = q)) ∨ (decide ((-r) < -d + r) = false ∧ ((-r) == -d + r) = true ∧ (q % 2 == 0) = true ∧ Hid (Plain.rnd 4 q r d = q)) ∨ (decide ((-r) < -d + r) = false ∧ ((-r) == -d + r) = true ∧ (q % 2 == 0) = false ∧ Hid (Plain.rnd 4 q r d = q + 1)) ∨ (decide ((-r) < -d + r) = false ∧ ((-r) == -d + r) = false ∧ Hid (Plain.rnd 4 q r d = q + 1)) := by
    have hev := Plain.even_iff q
    by_cases c1 : (-r) < -d + r
    · exact .inl ⟨by simpa using c1, Lib.hid (Plain.rnd4_nn_lt q r d b3 b4 (by omega))⟩
    · by_cases c2 : (-r) = -d + r
      · by_cases c3 : q % 2 = 0
        · exact .inr (.inl ⟨by simp; omega, by simpa using c2, by simp; omega, Lib.hid (Plain.rnd4_nn_ev q r d b3 b4 (by omega) c3)⟩)
        · exact .inr (.inr (.inl ⟨by simp; omega, by simpa using c2, by simp; omega, Lib.hid (Plain.rnd4_nn_od q r d b3 b4 (by omega) (by omega))⟩))
      · exact .inr (.inr (.inr ⟨by simp; omega, by simpa using c2, Lib.hid (Plain.rnd4_nn_gt q r d b3 b4 (by omega))⟩))
  all_goals
    cases b
  all_goals
    go_enter Tryz.func71, Tryz.ntmps71
    go_wp2_with (first | (go_at_call 105; refine (mode_ok _ _ (by omega) (by omega)).mono ?_; rintro e w' ⟨rfl, rfl⟩))
    go_step3
    go_wp2
    go_quiet (fail)
    go_wp2_with (first | (go_at_call 106; refine (mag_pos _ _ (by omega) (by omega)).mono ?_; rintro e w' ⟨rfl, rfl⟩) | (go_at_call 106; refine (mag_neg _ _ (by omega) (by omega)).mono ?_; rintro e w' ⟨rfl, rfl⟩))
    go_step3
    go_wp2
    refine wp_loop_rounds 2 ?_
    repeat any_goals (rw [rounds_succ]; go_wp2)
    try rw [Exit.noGoto_ret]
    go_ret2
    exact ⟨ret2 (by have h := H.out; omega), _, rfl⟩
end Go.Proofs.YtikcinkbkakkmaaGreatDoor.Dv


namespace Go.Proofs.YtikcinkbkakkmaaGreatDoor.Dv
open Go.ChangeShapes Go.WideShapes Go.ChangeAt Go.RowKit
set_option linter.unusedVariables false
set_option linter.unusedSimpArgs false
set_option maxHeartbeats 4000000 in
theorem div_pn1 (n d q r : Int) (b : Bool) (w : World) (n0 : -9223372036854775808 ≤ n) (n1 : n ≤ 9223372036854775807) (hq : n.tdiv d = q) (hr : n.tmod d = r)
   (b1 : -4611686018427387904 ≤ q) (b2 : q ≤ 4611686018427387904) (b6 : -9223372036854775808 ≤ d) (b7 : d ≤ 9223372036854775807) (g0 : (n == -9223372036854775808) = b) (g1 : (d == -1) = false) (b3 : 0 < r) (b4 : r < -d) (b5 : q ≤ 0) :
    Calls Tryz.prog 71 #[.int .i64 n, .int .i64 d, .int .i64 1] w fun e w' => e = .returned (.tuple #[.int .i64 (Plain.rnd 1 q r d), .int .i64 0]) ∧ ∃ k, w' = w.drewN k := by
  have d0 : (d == 0) = false := by simp; omega
  have r0 : (r == 0) = false := by simp; omega
  have r1 : (r != 0) = true := by simp; omega
  have r2 : decide (r < 0) = false := by simp; omega
  have d2 : decide (d < 0) = true := by simp; omega
  have z0 : ((-(r + d)) == 0) = false := by simp; omega
  have H := Lib.hid (Plain.rnd1_pn q r d b3 b4)
  cases b
  all_goals
    go_enter Tryz.func71, Tryz.ntmps71
    go_wp2_with (first | (go_at_call 105; refine (mode_ok _ _ (by omega) (by omega)).mono ?_; rintro e w' ⟨rfl, rfl⟩))
    go_step3
    go_wp2
    go_quiet (fail)
    go_wp2_with (first | (go_at_call 106; refine (mag_pos _ _ (by omega) (by omega)).mono ?_; rintro e w' ⟨rfl, rfl⟩) | (go_at_call 106; refine (mag_neg _ _ (by omega) (by omega)).mono ?_; rintro e w' ⟨rfl, rfl⟩))
    go_step3
    go_wp2
    refine wp_loop_rounds 2 ?_
    repeat any_goals (rw [rounds_succ]; go_wp2)
    try rw [Exit.noGoto_ret]
    go_ret2
    exact ⟨ret2 (by have h := H.out; omega), _, rfl⟩
set_option maxHeartbeats 4000000 in
theorem div_pn2 (n d q r : Int) (b : Bool) (w : World) (n0 : -9223372036854775808 ≤ n) (n1 : n ≤ 9223372036854775807) (hq : n.tdiv d = q) (hr : n.tmod d = r)
   (b1 : -4611686018427387904 ≤ q) (b2 : q ≤ 4611686018427387904) (b6 : -9223372036854775808 ≤ d) (b7 : d ≤ 9223372036854775807) (g0 : (n == -9223372036854775808) = b) (g1 : (d == -1) = false) (b3 : 0 < r) (b4 : r < -d) (b5 : q ≤ 0) :
    Calls Tryz.prog 71 #[.int .i64 n, .int .i64 d, .int .i64 2] w fun e w' => e = .returned (.tuple #[.int .i64 (Plain.rnd 2 q r d), .int .i64 0]) ∧ ∃ k, w' = w.drewN k := by
  have d0 : (d == 0) = false := by simp; omega
  have r0 : (r == 0) = false := by simp; omega
  have r1 : (r != 0) = true := by simp; omega
  have r2 : decide (r < 0) = false := by simp; omega
  have d2 : decide (d < 0) = true := by simp; omega
  have z0 : ((-(r + d)) == 0) = false := by simp; omega
  have H := Lib.hid (Plain.rnd2_pn q r d b3 b4)
  cases b
  all_goals
    go_enter Tryz.func71, Tryz.ntmps71
    go_wp2_with (first | (go_at_call 105; refine (mode_ok _ _ (by omega) (by omega)).mono ?_; rintro e w' ⟨rfl, rfl⟩))
    go_step3
    go_wp2
    go_quiet (fail)
    go_wp2_with (first | (go_at_call 106; refine (mag_pos _ _ (by omega) (by omega)).mono ?_; rintro e w' ⟨rfl, rfl⟩) | (go_at_call 106; refine (mag_neg _ _ (by omega) (by omega)).mono ?_; rintro e w' ⟨rfl, rfl⟩))
    go_step3
    go_wp2
    refine wp_loop_rounds 2 ?_
    repeat any_goals (rw [rounds_succ]; go_wp2)
    try rw [Exit.noGoto_ret]
    go_ret2
    exact ⟨ret2 (by have h := H.out; omega), _, rfl⟩
set_option maxHeartbeats 4000000 in
theorem div_pn3 (n d q r : Int) (b : Bool) (w : World) (n0 : -9223372036854775808 ≤ n) (n1 : n ≤ 9223372036854775807) (hq : n.tdiv d = q) (hr : n.tmod d = r)
   (b1 : -4611686018427387904 ≤ q) (b2 : q ≤ 4611686018427387904) (b6 : -9223372036854775808 ≤ d) (b7 : d ≤ 9223372036854775807) (g0 : (n == -9223372036854775808) = b) (g1 : (d == -1) = false) (b3 : 0 < r) (b4 : r < -d) (b5 : q ≤ 0) :
    Calls Tryz.prog 71 #[.int .i64 n, .int .i64 d, .int .i64 3] w fun e w' => e = .returned (.tuple #[.int .i64 (Plain.rnd 3 q r d), .int .i64 0]) ∧ ∃ k, w' = w.drewN k := by
  have d0 : (d == 0) = false := by simp; omega
  have r0 : (r == 0) = false := by simp; omega
  have r1 : (r != 0) = true := by simp; omega
  have r2 : decide (r < 0) = false := by simp; omega
  have d2 : decide (d < 0) = true := by simp; omega
  have z0 : ((-(r + d)) == 0) = false := by simp; omega
  have H := Lib.hid (Plain.rnd3_pn q r d b3 b4)
  cases b
  all_goals
    go_enter Tryz.func71, Tryz.ntmps71
    go_wp2_with (first | (go_at_call 105; refine (mode_ok _ _ (by omega) (by omega)).mono ?_; rintro e w' ⟨rfl, rfl⟩))
    go_step3
    go_wp2
    go_quiet (fail)
    go_wp2_with (first | (go_at_call 106; refine (mag_pos _ _ (by omega) (by omega)).mono ?_; rintro e w' ⟨rfl, rfl⟩) | (go_at_call 106; refine (mag_neg _ _ (by omega) (by omega)).mono ?_; rintro e w' ⟨rfl, rfl⟩))
    go_step3
    go_wp2
    refine wp_loop_rounds 2 ?_
    repeat any_goals (rw [rounds_succ]; go_wp2)
    try rw [Exit.noGoto_ret]
    go_ret2
    exact ⟨ret2 (by have h := H.out; omega), _, rfl⟩
set_option maxHeartbeats 4000000 in
theorem div_pn4 (n d q r : Int) (b : Bool) (w : World) (n0 : -9223372036854775808 ≤ n) (n1 : n ≤ 9223372036854775807) (hq : n.tdiv d = q) (hr : n.tmod d = r)
   (b1 : -4611686018427387904 ≤ q) (b2 : q ≤ 4611686018427387904) (b6 : -9223372036854775808 ≤ d) (b7 : d ≤ 9223372036854775807) (g0 : (n == -9223372036854775808) = b) (g1 : (d == -1) = false) (b3 : 0 < r) (b4 : r < -d) (b5 : q ≤ 0) :
    Calls Tryz.prog 71 #[.int .i64 n, .int .i64 d, .int .i64 4] w fun e w' => e = .returned (.tuple #[.int .i64 (Plain.rnd 4 q r d), .int .i64 0]) ∧ ∃ k, w' = w.drewN k := by
  have d0 : (d == 0) = false := by simp; omega
  have r0 : (r == 0) = false := by simp; omega
  have r1 : (r != 0) = true := by simp; omega
  have r2 : decide (r < 0) = false := by simp; omega
  have d2 : decide (d < 0) = true := by simp; omega
  have z0 : ((-(r + d)) == 0) = false := by simp; omega
  obtain ⟨t0, H⟩ | ⟨t0, t1, t2, H⟩ | ⟨t0, t1, t2, H⟩ | ⟨t0, t1, H⟩ : (decide ((-(r + d)) < -d + (r + d)) = true ∧ Hid (Plain.rnd 4 q r d = (q - 1))) ∨ (decide ((-(r + d)) < -d + (r + d)) = false ∧ ((-(r + d)) == -d + (r + d)) = true ∧ ((q - 1).tmod 2 == 0) = true ∧ Hid (Plain.rnd 4 q r d = (q - 1))) ∨ (decide ((-(r + d)) < -d + (r + d)) = false ∧ ((-(r + d)) == -d + (r + d)) = true ∧ ((q - 1).tmod 2 == 0) = false ∧ Hid (Plain.rnd 4 q r d = (q - 1) + 1)) ∨ (decide ((-(r + d)) < -d + (r + d)) = false ∧ ((-(r + d)) == -d + (r + d)) = false ∧ Hid (Plain.rnd 4 q r d = (q - 1) + 1)) := by
    have hev := Plain.even_iff (q - 1)
    by_cases c1 : (-(r + d)) < -d + (r + d)
    · exact .inl ⟨by simpa using c1, Lib.hid (Plain.rnd4_pn_lt q r d b3 b4 (by omega))⟩
    · by_cases c2 : (-(r + d)) = -d + (r + d)
      · by_cases c3 : (q - 1) % 2 = 0
        · exact .inr (.inl ⟨by simp; omega, by simpa using c2, by simp; omega, Lib.hid (Plain.rnd4_pn_ev q r d b3 b4 (by omega) c3)⟩)
        · exact .inr (.inr (.inl ⟨by simp; omega, by simpa using c2, by simp; omega, Lib.hid (Plain.rnd4_pn_od q r d b3 b4 (by omega) (by omega))⟩))
      · exact .inr (.inr (.inr ⟨by simp; omega, by simpa using c2, Lib.hid (Plain.rnd4_pn_gt q r d b3 b4 (by omega))⟩))
  all_goals
    cases b
  all_goals
    go_enter Tryz.func71, Tryz.ntmps71
    go_wp2_with (first | (go_at_call 105; refine (mode_ok _ _ (by omega) (by omega)).mono ?_; rintro e w' ⟨rfl, rfl⟩))
    go_step3
    go_wp2
    go_quiet (fail)
    go_wp2_with (first | (go_at_call 106; refine (mag_pos _ _ (by omega) (by omega)).mono ?_; rintro e w' ⟨rfl, rfl⟩) | (go_at_call 106; refine (mag_neg _ _ (by omega) (by omega)).mono ?_; rintro e w' ⟨rfl, rfl⟩))
    go_step3
    go_wp2
    refine wp_loop_rounds 2 ?_
    repeat any_goals (rw [rounds_succ]; go_wp2)
    try rw [Exit.noGoto_ret]
    go_ret2
    exact ⟨ret2 (by have h := H.out; omega), _, rfl⟩
end Go.Proofs.YtikcinkbkakkmaaGreatDoor.Dv
