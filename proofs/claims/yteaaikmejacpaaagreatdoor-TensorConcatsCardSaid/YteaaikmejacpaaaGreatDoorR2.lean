/- Divide of package round, where the remainder and the divisor have the signs of this file's name: the rounded quotient. -/
import Derived.Test.YteaaikmejacpaaaGreatDoorR1
import Derived.Test.YteaaikmejacpaaaGreatDoorR0
import Derived.Laws.EntriesVeiled

namespace Go.Proofs.YteaaikmejacpaaaGreatDoor.Dv
open Go.ChangeShapes Go.WideShapes Go.ChangeAt Go.RowKit
set_option linter.unusedVariables false
set_option linter.unusedSimpArgs false
set_option maxHeartbeats 4000000 in
theorem div_np1 (n d q r : Int) (b : Bool) (w : World) (n0 : -9223372036854775808 <= n) (n1 : n <= 9223372036854775807) (hq : n.tdiv d = q) (hr : n.tmod d = r)
   (b1 : -4611686018427387904 <= q) (b2 : q <= 4611686018427387904) (b6 : -9223372036854775808 <= d) (b7 : d <= 9223372036854775807) (g0 : (n == -9223372036854775808) = b) (g1 : (d == -1) = false) (b3 : r < 0) (b4 : -r < d) (b5 : q <= 0) :
    Calls Tryz.prog 153 #[.int .i64 n, .int .i64 d, .int .i64 1] w fun e w' => e = .returned (.tuple #[.int .i64 (Plain.rnd 1 q r d), .int .i64 0]) /\ ∃ k, w' = w.drewN k := by
  have d0 : (d == 0) = false := by simp; omega
  have r0 : (r == 0) = false := by simp; omega
  have r1 : (r != 0) = true := by simp; omega
  have r2 : decide (r < 0) = true := by simp; omega
  have d2 : decide (d < 0) = false := by simp; omega
  have z0 : ((r + d) == 0) = false := by simp; omega
  have H := Lib.hid (Plain.rnd1_np q r d b3 b4)
  cases b
  all_goals
    go_enter Tryz.func153, Tryz.ntmps153
    go_wp2_with (first | (go_at_call 168; refine (mode_ok _ _ (by omega) (by omega)).mono ?_; rintro e w' ⟨rfl, rfl⟩))
    go_step3
    go_wp2
    go_quiet (fail)
    go_wp2_with (first | (go_at_call 169; refine (mag_pos _ _ (by omega) (by omega)).mono ?_; rintro e w' ⟨rfl, rfl⟩) | (go_at_call 169; refine (mag_neg _ _ (by omega) (by omega)).mono ?_; rintro e w' ⟨rfl, rfl⟩))
    go_step3
    go_wp2
    refine wp_loop_rounds 2 ?_
    repeat any_goals (rw [rounds_succ]; go_wp2)
    try rw [Exit.noGoto_ret]
    go_ret2
    exact ⟨ret2 (by have h := H.out; omega), _, rfl⟩
set_option maxHeartbeats 4000000 in
theorem div_np2 (n d q r : Int) (b : Bool) (w : World) (n0 : -9223372036854775808 <= n) (n1 : n <= 9223372036854775807) (hq : n.tdiv d = q) (hr : n.tmod d = r)
   (b1 : -4611686018427387904 <= q) (b2 : q <= 4611686018427387904) (b6 : -9223372036854775808 <= d) (b7 : d <= 9223372036854775807) (g0 : (n == -9223372036854775808) = b) (g1 : (d == -1) = false) (b3 : r < 0) (b4 : -r < d) (b5 : q <= 0) :
    Calls Tryz.prog 153 #[.int .i64 n, .int .i64 d, .int .i64 2] w fun e w' => e = .returned (.tuple #[.int .i64 (Plain.rnd 2 q r d), .int .i64 0]) /\ ∃ k, w' = w.drewN k := by
  have d0 : (d == 0) = false := by simp; omega
  have r0 : (r == 0) = false := by simp; omega
  have r1 : (r != 0) = true := by simp; omega
  have r2 : decide (r < 0) = true := by simp; omega
  have d2 : decide (d < 0) = false := by simp; omega
  have z0 : ((r + d) == 0) = false := by simp; omega
  have H := Lib.hid (Plain.rnd2_np q r d b3 b4)
  cases b
  all_goals
    go_enter Tryz.func153, Tryz.ntmps153
    go_wp2_with (first | (go_at_call 168; refine (mode_ok _ _ (by omega) (by omega)).mono ?_; rintro e w' ⟨rfl, rfl⟩))
    go_step3
    go_wp2
    go_quiet (fail)
    go_wp2_with (first | (go_at_call 169; refine (mag_pos _ _ (by omega) (by omega)).mono ?_; rintro e w' ⟨rfl, rfl⟩) | (go_at_call 169; refine (mag_neg _ _ (by omega) (by omega)).mono ?_; rintro e w' ⟨rfl, rfl⟩))
    go_step3
    go_wp2
    refine wp_loop_rounds 2 ?_
    repeat any_goals (rw [rounds_succ]; go_wp2)
    try rw [Exit.noGoto_ret]
    go_ret2
    exact ⟨ret2 (by have h := H.out; omega), _, rfl⟩
set_option maxHeartbeats 4000000 in
theorem div_np3 (n d q r : Int) (b : Bool) (w : World) (n0 : -9223372036854775808 <= n) (n1 : n <= 9223372036854775807) (hq : n.tdiv d = q) (hr : n.tmod d = r)
   (b1 : -4611686018427387904 <= q) (b2 : q <= 4611686018427387904) (b6 : -9223372036854775808 <= d) (b7 : d <= 9223372036854775807) (g0 : (n == -9223372036854775808) = b) (g1 : (d == -1) = false) (b3 : r < 0) (b4 : -r < d) (b5 : q <= 0) :
    Calls Tryz.prog 153 #[.int .i64 n, .int .i64 d, .int .i64 3] w fun e w' => e = .returned (.tuple #[.int .i64 (Plain.rnd 3 q r d), .int .i64 0]) /\ ∃ k, w' = w.drewN k := by
  have d0 : (d == 0) = false := by simp; omega
  have r0 : (r == 0) = false := by simp; omega
  have r1 : (r != 0) = true := by simp; omega
  have r2 : decide (r < 0) = true := by simp; omega
  have d2 : decide (d < 0) = false := by simp; omega
  have z0 : ((r + d) == 0) = false := by simp; omega
  have H := Lib.hid (Plain.rnd3_np q r d b3 b4)
  cases b
  all_goals
    go_enter Tryz.func153, Tryz.ntmps153
    go_wp2_with (first | (go_at_call 168; refine (mode_ok _ _ (by omega) (by omega)).mono ?_; rintro e w' ⟨rfl, rfl⟩))
    go_step3
    go_wp2
    go_quiet (fail)
    go_wp2_with (first | (go_at_call 169; refine (mag_pos _ _ (by omega) (by omega)).mono ?_; rintro e w' ⟨rfl, rfl⟩) | (go_at_call 169; refine (mag_neg _ _ (by omega) (by omega)).mono ?_; rintro e w' ⟨rfl, rfl⟩))
    go_step3
    go_wp2
    refine wp_loop_rounds 2 ?_
    repeat any_goals (rw [rounds_succ]; go_wp2)
    try rw [Exit.noGoto_ret]
    go_ret2
    exact ⟨ret2 (by have h := H.out; omega), _, rfl⟩
set_option maxHeartbeats 4000000 in
theorem div_np4 (n d q r : Int) (b : Bool) (w : World) (n0 : -9223372036854775808 <= n) (n1 : n <= 9223372036854775807) (hq : n.tdiv d = q) (hr : n.tmod d = r)
   (b1 : -4611686018427387904 <= q) (b2 : q <= 4611686018427387904) (b6 : -9223372036854775808 <= d) (b7 : d <= 9223372036854775807) (g0 : (n == -9223372036854775808) = b) (g1 : (d == -1) = false) (b3 : r < 0) (b4 : -r < d) (b5 : q <= 0) :
    Calls Tryz.prog 153 #[.int .i64 n, .int .i64 d, .int .i64 4] w fun e w' => e = .returned (.tuple #[.int .i64 (Plain.rnd 4 q r d), .int .i64 0]) /\ ∃ k, w' = w.drewN k := by
  have d0 : (d == 0) = false := by simp; omega
  have r0 : (r == 0) = false := by simp; omega
  have r1 : (r != 0) = true := by simp; omega
  have r2 : decide (r < 0) = true := by simp; omega
  have d2 : decide (d < 0) = false := by simp; omega
  have z0 : ((r + d) == 0) = false := by simp; omega
  obtain ⟨t0, H⟩ | ⟨t0, t1, t2, H⟩ | ⟨t0, t1, t2, H⟩ | ⟨t0, t1, H⟩ : (decide ((r + d) < d - (r + d)) = true /\ Hid (Plain.rnd 4 q r d = (q - 1))) \/ (decide ((r + d) < d - (r + d)) = false /\ ((r + d) == d - (r + d)) = true /\ ((q - 1).tmod 2 == 0) = true /\ Hid (Plain.rnd 4 q r d = (q - 1))) \/ (decide ((r + d) < d - (r + d)) = false /\ ((r + d) == d - (r + d)) = true /\ ((q - 1).tmod 2 == 0) = false /\ Hid (Plain.rnd 4 q r d = (q - 1) + 1)) \/ (decide ((r + d) < d - (r + d)) = false /\ ((r + d) == d - (r + d)) = false /\ Hid (Plain.rnd 4 q r d = (q - 1) + 1)) := by
    have hev := Plain.even_iff (q - 1)
    by_cases c1 : (r + d) < d - (r + d)
    · exact .inl ⟨by simpa using c1, Lib.hid (Plain.rnd4_np_lt q r d b3 b4 (by omega))⟩
    · by_cases c2 : (r + d) = d - (r + d)
      · by_cases c3 : (q - 1) % 2 = 0
        · exact .inr (.inl ⟨by simp; omega, by simpa using c2, by simp; omega, Lib.hid (Plain.rnd4_np_ev q r d b3 b4 (by omega) c3)⟩)
        · exact .inr (.inr (.inl ⟨by simp; omega, by simpa using c2, by simp; omega, Lib.hid (Plain.rnd4_np_od q r d b3 b4 (by omega) (by omega))⟩))
      · exact .inr (.inr (.inr ⟨by simp; omega, by simpa using c2, Lib.hid (Plain.rnd4_np_gt q r d b3 b4 (by omega))⟩))
  all_goals
    cases b
  all_goals
    go_enter Tryz.func153, Tryz.ntmps153
    go_wp2_with (first | (go_at_call 168; refine (mode_ok _ _ (by omega) (by omega)).mono ?_; rintro e w' ⟨rfl, rfl⟩))
    go_step3
    go_wp2
    go_quiet (fail)
    go_wp2_with (first | (go_at_call 169; refine (mag_pos _ _ (by omega) (by omega)).mono ?_; rintro e w' ⟨rfl, rfl⟩) | (go_at_call 169; refine (mag_neg _ _ (by omega) (by omega)).mono ?_; rintro e w' ⟨rfl, rfl⟩))
    go_step3
    go_wp2
    refine wp_loop_rounds 2 ?_
    repeat any_goals (rw [rounds_succ]; go_wp2)
    try rw [Exit.noGoto_ret]
    go_ret2
    exact ⟨ret2 (by have h := H.out; omega), _, rfl⟩
end Go.Proofs.YteaaikmejacpaaaGreatDoor.Dv


namespace Go.Proofs.YteaaikmejacpaaaGreatDoor.Dv
open Go.ChangeShapes Go.WideShapes Go.ChangeAt Go.RowKit
set_option linter.unusedVariables false
set_option linter.unusedSimpArgs false
set_option maxHeartbeats 4000000 in
theorem div_nn1 (n d q r : Int) (b : Bool) (w : World) (n0 : -9223372036854775808 <= n) (n1 : n <= 9223372036854775807) (hq : n.tdiv d = q) (hr : n.tmod d = r)
   (b1 : -4611686018427387904 <= q) (b2 : q <= 4611686018427387904) (b6 : -9223372036854775808 <= d) (b7 : d <= 9223372036854775807) (g0 : (n == -9223372036854775808) = b) (g1 : (d == -1) = false) (b3 : r < 0) (b4 : d < r) (b5 : 0 <= q) :
    Calls Tryz.prog 153 #[.int .i64 n, .int .i64 d, .int .i64 1] w fun e w' => e = .returned (.tuple #[.int .i64 (Plain.rnd 1 q r d), .int .i64 0]) /\ ∃ k, w' = w.drewN k := by
  have d0 : (d == 0) = false := by simp; omega
  have r0 : (r == 0) = false := by simp; omega
  have r1 : (r != 0) = true := by simp; omega
  have r2 : decide (r < 0) = true := by simp; omega
  have d2 : decide (d < 0) = true := by simp; omega
  have z0 : ((-r) == 0) = false := by simp; omega
  have H := Lib.hid (Plain.rnd1_nn q r d b3 b4)
  cases b
  all_goals
    go_enter Tryz.func153, Tryz.ntmps153
    go_wp2_with (first | (go_at_call 168; refine (mode_ok _ _ (by omega) (by omega)).mono ?_; rintro e w' ⟨rfl, rfl⟩))
    go_step3
    go_wp2
    go_quiet (fail)
    go_wp2_with (first | (go_at_call 169; refine (mag_pos _ _ (by omega) (by omega)).mono ?_; rintro e w' ⟨rfl, rfl⟩) | (go_at_call 169; refine (mag_neg _ _ (by omega) (by omega)).mono ?_; rintro e w' ⟨rfl, rfl⟩))
    go_step3
    go_wp2
    refine wp_loop_rounds 2 ?_
    repeat any_goals (rw [rounds_succ]; go_wp2)
    try rw [Exit.noGoto_ret]
    go_ret2
    exact ⟨ret2 (by have h := H.out; omega), _, rfl⟩
set_option maxHeartbeats 4000000 in
theorem div_nn2 (n d q r : Int) (b : Bool) (w : World) (n0 : -9223372036854775808 <= n) (n1 : n <= 9223372036854775807) (hq : n.tdiv d = q) (hr : n.tmod d = r)
   (b1 : -4611686018427387904 <= q) (b2 : q <= 4611686018427387904) (b6 : -9223372036854775808 <= d) (b7 : d <= 9223372036854775807) (g0 : (n == -9223372036854775808) = b) (g1 : (d == -1) = false) (b3 : r < 0) (b4 : d < r) (b5 : 0 <= q) :
    Calls Tryz.prog 153 #[.int .i64 n, .int .i64 d, .int .i64 2] w fun e w' => e = .returned (.tuple #[.int .i64 (Plain.rnd 2 q r d), .int .i64 0]) /\ ∃ k, w' = w.drewN k := by
  have d0 : (d == 0) = false := by simp; omega
  have r0 : (r == 0) = false := by simp; omega
  have r1 : (r != 0) = true := by simp; omega
  have r2 : decide (r < 0) = true := by simp; omega
  have d2 : decide (d < 0) = true := by simp; omega
  have z0 : ((-r) == 0) = false := by simp; omega
  have H := Lib.hid (Plain.rnd2_nn q r d b3 b4)
  cases b
  all_goals
    go_enter Tryz.func153, Tryz.ntmps153
    go_wp2_with (first | (go_at_call 168; refine (mode_ok _ _ (by omega) (by omega)).mono ?_; rintro e w' ⟨rfl, rfl⟩))
    go_step3
    go_wp2
    go_quiet (fail)
    go_wp2_with (first | (go_at_call 169; refine (mag_pos _ _ (by omega) (by omega)).mono ?_; rintro e w' ⟨rfl, rfl⟩) | (go_at_call 169; refine (mag_neg _ _ (by omega) (by omega)).mono ?_; rintro e w' ⟨rfl, rfl⟩))
    go_step3
    go_wp2
    refine wp_loop_rounds 2 ?_
    repeat any_goals (rw [rounds_succ]; go_wp2)
    try rw [Exit.noGoto_ret]
    go_ret2
    exact ⟨ret2 (by have h := H.out; omega), _, rfl⟩
set_option maxHeartbeats 4000000 in
theorem div_nn3 (n d q r : Int) (b : Bool) (w : World) (n0 : -9223372036854775808 <= n) (n1 : n <= 9223372036854775807) (hq : n.tdiv d = q) (hr : n.tmod d = r)
   (b1 : -4611686018427387904 <= q) (b2 : q <= 4611686018427387904) (b6 : -9223372036854775808 <= d) (b7 : d <= 9223372036854775807) (g0 : (n == -9223372036854775808) = b) (g1 : (d == -1) = false) (b3 : r < 0) (b4 : d < r) (b5 : 0 <= q) :
    Calls Tryz.prog 153 #[.int .i64 n, .int .i64 d, .int .i64 3] w fun e w' => e = .returned (.tuple #[.int .i64 (Plain.rnd 3 q r d), .int .i64 0]) /\ ∃ k, w' = w.drewN k := by
  have d0 : (d == 0) = false := by simp; omega
  have r0 : (r == 0) = false := by simp; omega
  have r1 : (r != 0) = true := by simp; omega
  have r2 : decide (r < 0) = true := by simp; omega
  have d2 : decide (d < 0) = true := by simp; omega
  have z0 : ((-r) == 0) = false := by simp; omega
  have H := Lib.hid (Plain.rnd3_nn q r d b3 b4)
  cases b
  all_goals
    go_enter Tryz.func153, Tryz.ntmps153
    go_wp2_with (first | (go_at_call 168; refine (mode_ok _ _ (by omega) (by omega)).mono ?_; rintro e w' ⟨rfl, rfl⟩))
    go_step3
    go_wp2
    go_quiet (fail)
    go_wp2_with (first | (go_at_call 169; refine (mag_pos _ _ (by omega) (by omega)).mono ?_; rintro e w' ⟨rfl, rfl⟩) | (go_at_call 169; refine (mag_neg _ _ (by omega) (by omega)).mono ?_; rintro e w' ⟨rfl, rfl⟩))
    go_step3
    go_wp2
    refine wp_loop_rounds 2 ?_
    repeat any_goals (rw [rounds_succ]; go_wp2)
    try rw [Exit.noGoto_ret]
    go_ret2
    exact ⟨ret2 (by have h := H.out; omega), _, rfl⟩
set_option maxHeartbeats 4000000 in
theorem div_nn4 (n d q r : Int) (b : Bool) (w : World) (n0 : -9223372036854775808 <= n) (n1 : n <= 9223372036854775807) (hq : n.tdiv d = q) (hr : n.tmod d = r)
   (b1 : -4611686018427387904 <= q) (b2 : q <= 4611686018427387904) (b6 : -9223372036854775808 <= d) (b7 : d <= 9223372036854775807) (g0 : (n == -9223372036854775808) = b) (g1 : (d == -1) = false) (b3 : r < 0) (b4 : d < r) (b5 : 0 <= q) :
    Calls Tryz.prog 153 #[.int .i64 n, .int .i64 d, .int .i64 4] w fun e w' => e = .returned (.tuple #[.int .i64 (Plain.rnd 4 q r d), .int .i64 0]) /\ ∃ k, w' = w.drewN k := by
  have d0 : (d == 0) = false := by simp; omega
  have r0 : (r == 0) = false := by simp; omega
  have r1 : (r != 0) = true := by simp; omega
  have r2 : decide (r < 0) = true := by simp; omega
  have d2 : decide (d < 0) = true := by simp; omega
  have z0 : ((-r) == 0) = false := by simp; omega
  obtain ⟨t0, H⟩ | ⟨t0, t1, t2, H⟩ | ⟨t0, t1, t2, H⟩ | ⟨t0, t1, H⟩ : (decide ((-r) < -d + r) = true /\ Hid (Plain.rnd 4 q r d = q)) \/ (decide ((-r) < -d + r) = false /\ ((-r) == -d + r) = true /\ (q % 2 == 0) = true /\ Hid (Plain.rnd 4 q r d = q)) \/ (decide ((-r) < -d + r) = false /\ ((-r) == -d + r) = true /\ (q % 2 == 0) = false /\ Hid (Plain.rnd 4 q r d = q + 1)) \/ (decide ((-r) < -d + r) = false /\ ((-r) == -d + r) = false /\ Hid (Plain.rnd 4 q r d = q + 1)) := by
    have hev := Plain.even_iff q
    by_cases c1 : (-r) < -d + r
    · exact .inl ⟨by simpa using c1, Lib.hid (Plain.rnd4_nn_lt q r d b3 b4 (by omega))⟩
    · by_cases c2 : (-r) = -d + r
      · by_cases c3 : q % 2 = 0
        · exact .inr (.inl ⟨by simp; omega, by simpa using c2, by simp; omega, Lib.hid (Plain.rnd4_nn_ev q r d b3 b4 (by omega) c3)⟩)
        · exact .inr (.inr (.inl ⟨by simp; omega, by simpa using c2, by simp; omega, Lib.hid (Plain.rnd4_nn_od q r d b3 b4 (by omega) (by omega))⟩))
      · exact .inr (.inr (.inr ⟨by simp; omega, by simpa using c2, Lib.hid (Plain.rnd4_nn_gt q r d b3 b4 (by omega))⟩))
  all_goals
    cases b
  all_goals
    go_enter Tryz.func153, Tryz.ntmps153
    go_wp2_with (first | (go_at_call 168; refine (mode_ok _ _ (by omega) (by omega)).mono ?_; rintro e w' ⟨rfl, rfl⟩))
    go_step3
    go_wp2
    go_quiet (fail)
    go_wp2_with (first | (go_at_call 169; refine (mag_pos _ _ (by omega) (by omega)).mono ?_; rintro e w' ⟨rfl, rfl⟩) | (go_at_call 169; refine (mag_neg _ _ (by omega) (by omega)).mono ?_; rintro e w' ⟨rfl, rfl⟩))
    go_step3
    go_wp2
    refine wp_loop_rounds 2 ?_
    repeat any_goals (rw [rounds_succ]; go_wp2)
    try rw [Exit.noGoto_ret]
    go_ret2
    exact ⟨ret2 (by have h := H.out; omega), _, rfl⟩
end Go.Proofs.YteaaikmejacpaaaGreatDoor.Dv


namespace Go.Proofs.YteaaikmejacpaaaGreatDoor.Dv
open Go.ChangeShapes Go.WideShapes Go.ChangeAt Go.RowKit
set_option linter.unusedVariables false
set_option linter.unusedSimpArgs false
set_option maxHeartbeats 4000000 in
theorem div_pn1 (n d q r : Int) (b : Bool) (w : World) (n0 : -9223372036854775808 <= n) (n1 : n <= 9223372036854775807) (hq : n.tdiv d = q) (hr : n.tmod d = r)
   (b1 : -4611686018427387904 <= q) (b2 : q <= 4611686018427387904) (b6 : -9223372036854775808 <= d) (b7 : d <= 9223372036854775807) (g0 : (n == -9223372036854775808) = b) (g1 : (d == -1) = false) (b3 : 0 < r) (b4 : r < -d) (b5 : q <= 0) :
    Calls Tryz.prog 153 #[.int .i64 n, .int .i64 d, .int .i64 1] w fun e w' => e = .returned (.tuple #[.int .i64 (Plain.rnd 1 q r d), .int .i64 0]) /\ ∃ k, w' = w.drewN k := by
  have d0 : (d == 0) = false := by simp; omega
  have r0 : (r == 0) = false := by simp; omega
  have r1 : (r != 0) = true := by simp; omega
  have r2 : decide (r < 0) = false := by simp; omega
  have d2 : decide (d < 0) = true := by simp; omega
  have z0 : ((-(r + d)) == 0) = false := by simp; omega
  have H := Lib.hid (Plain.rnd1_pn q r d b3 b4)
  cases b
  all_goals
    go_enter Tryz.func153, Tryz.ntmps153
    go_wp2_with (first | (go_at_call 168; refine (mode_ok _ _ (by omega) (by omega)).mono ?_; rintro e w' ⟨rfl, rfl⟩))
    go_step3
    go_wp2
    go_quiet (fail)
    go_wp2_with (first | (go_at_call 169; refine (mag_pos _ _ (by omega) (by omega)).mono ?_; rintro e w' ⟨rfl, rfl⟩) | (go_at_call 169; refine (mag_neg _ _ (by omega) (by omega)).mono ?_; rintro e w' ⟨rfl, rfl⟩))
    go_step3
    go_wp2
    refine wp_loop_rounds 2 ?_
    repeat any_goals (rw [rounds_succ]; go_wp2)
    try rw [Exit.noGoto_ret]
    go_ret2
    exact ⟨ret2 (by have h := H.out; omega), _, rfl⟩
set_option maxHeartbeats 4000000 in
theorem div_pn2 (n d q r : Int) (b : Bool) (w : World) (n0 : -9223372036854775808 <= n) (n1 : n <= 9223372036854775807) (hq : n.tdiv d = q) (hr : n.tmod d = r)
   (b1 : -4611686018427387904 <= q) (b2 : q <= 4611686018427387904) (b6 : -9223372036854775808 <= d) (b7 : d <= 9223372036854775807) (g0 : (n == -9223372036854775808) = b) (g1 : (d == -1) = false) (b3 : 0 < r) (b4 : r < -d) (b5 : q <= 0) :
    Calls Tryz.prog 153 #[.int .i64 n, .int .i64 d, .int .i64 2] w fun e w' => e = .returned (.tuple #[.int .i64 (Plain.rnd 2 q r d), .int .i64 0]) /\ ∃ k, w' = w.drewN k := by
  have d0 : (d == 0) = false := by simp; omega
  have r0 : (r == 0) = false := by simp; omega
  have r1 : (r != 0) = true := by simp; omega
  have r2 : decide (r < 0) = false := by simp; omega
  have d2 : decide (d < 0) = true := by simp; omega
  have z0 : ((-(r + d)) == 0) = false := by simp; omega
  have H := Lib.hid (Plain.rnd2_pn q r d b3 b4)
  cases b
  all_goals
    go_enter Tryz.func153, Tryz.ntmps153
    go_wp2_with (first | (go_at_call 168; refine (mode_ok _ _ (by omega) (by omega)).mono ?_; rintro e w' ⟨rfl, rfl⟩))
    go_step3
    go_wp2
    go_quiet (fail)
    go_wp2_with (first | (go_at_call 169; refine (mag_pos _ _ (by omega) (by omega)).mono ?_; rintro e w' ⟨rfl, rfl⟩) | (go_at_call 169; refine (mag_neg _ _ (by omega) (by omega)).mono ?_; rintro e w' ⟨rfl, rfl⟩))
    go_step3
    go_wp2
    refine wp_loop_rounds 2 ?_
    repeat any_goals (rw [rounds_succ]; go_wp2)
    try rw [Exit.noGoto_ret]
    go_ret2
    exact ⟨ret2 (by have h := H.out; omega), _, rfl⟩
set_option maxHeartbeats 4000000 in
theorem div_pn3 (n d q r : Int) (b : Bool) (w : World) (n0 : -9223372036854775808 <= n) (n1 : n <= 9223372036854775807) (hq : n.tdiv d = q) (hr : n.tmod d = r)
   (b1 : -4611686018427387904 <= q) (b2 : q <= 4611686018427387904) (b6 : -9223372036854775808 <= d) (b7 : d <= 9223372036854775807) (g0 : (n == -9223372036854775808) = b) (g1 : (d == -1) = false) (b3 : 0 < r) (b4 : r < -d) (b5 : q <= 0) :
    Calls Tryz.prog 153 #[.int .i64 n, .int .i64 d, .int .i64 3] w fun e w' => e = .returned (.tuple #[.int .i64 (Plain.rnd 3 q r d), .int .i64 0]) /\ ∃ k, w' = w.drewN k := by
  have d0 : (d == 0) = false := by simp; omega
  have r0 : (r == 0) = false := by simp; omega
  have r1 : (r != 0) = true := by simp; omega
  have r2 : decide (r < 0) = false := by simp; omega
  have d2 : decide (d < 0) = true := by simp; omega
  have z0 : ((-(r + d)) == 0) = false := by simp; omega
  have H := Lib.hid (Plain.rnd3_pn q r d b3 b4)
  cases b
  all_goals
    go_enter Tryz.func153, Tryz.ntmps153
    go_wp2_with (first | (go_at_call 168; refine (mode_ok _ _ (by omega) (by omega)).mono ?_; rintro e w' ⟨rfl, rfl⟩))
    go_step3
    go_wp2
    go_quiet (fail)
    go_wp2_with (first | (go_at_call 169; refine (mag_pos _ _ (by omega) (by omega)).mono ?_; rintro e w' ⟨rfl, rfl⟩) | (go_at_call 169; refine (mag_neg _ _ (by omega) (by omega)).mono ?_; rintro e w' ⟨rfl, rfl⟩))
    go_step3
    go_wp2
    refine wp_loop_rounds 2 ?_
    repeat any_goals (rw [rounds_succ]; go_wp2)
    try rw [Exit.noGoto_ret]
    go_ret2
    exact ⟨ret2 (by have h := H.out; omega), _, rfl⟩
set_option maxHeartbeats 4000000 in
theorem div_pn4 (n d q r : Int) (b : Bool) (w : World) (n0 : -9223372036854775808 <= n) (n1 : n <= 9223372036854775807) (hq : n.tdiv d = q) (hr : n.tmod d = r)
   (b1 : -4611686018427387904 <= q) (b2 : q <= 4611686018427387904) (b6 : -9223372036854775808 <= d) (b7 : d <= 9223372036854775807) (g0 : (n == -9223372036854775808) = b) (g1 : (d == -1) = false) (b3 : 0 < r) (b4 : r < -d) (b5 : q <= 0) :
    Calls Tryz.prog 153 #[.int .i64 n, .int .i64 d, .int .i64 4] w fun e w' => e = .returned (.tuple #[.int .i64 (Plain.rnd 4 q r d), .int .i64 0]) /\ ∃ k, w' = w.drewN k := by
  have d0 : (d == 0) = false := by simp; omega
  have r0 : (r == 0) = false := by simp; omega
  have r1 : (r != 0) = true := by simp; omega
  have r2 : decide (r < 0) = false := by simp; omega
  have d2 : decide (d < 0) = true := by simp; omega
  have z0 : ((-(r + d)) == 0) = false := by simp; omega
  obtain ⟨t0, H⟩ | ⟨t0, t1, t2, H⟩ | ⟨t0, t1, t2, H⟩ | ⟨t0, t1, H⟩ : (decide ((-(r + d)) < -d + (r + d)) = true /\ Hid (Plain.rnd 4 q r d = (q - 1))) \/ (decide ((-(r + d)) < -d + (r + d)) = false /\ ((-(r + d)) == -d + (r + d)) = true /\ ((q - 1).tmod 2 == 0) = true /\ Hid (Plain.rnd 4 q r d = (q - 1))) \/ (decide ((-(r + d)) < -d + (r + d)) = false /\ ((-(r + d)) == -d + (r + d)) = true /\ ((q - 1).tmod 2 == 0) = false /\ Hid (Plain.rnd 4 q r d = (q - 1) + 1)) \/ (decide ((-(r + d)) < -d + (r + d)) = false /\ ((-(r + d)) == -d + (r + d)) = false /\ Hid (Plain.rnd 4 q r d = (q - 1) + 1)) := by
    have hev := Plain.even_iff (q - 1)
    by_cases c1 : (-(r + d)) < -d + (r + d)
    · exact .inl ⟨by simpa using c1, Lib.hid (Plain.rnd4_pn_lt q r d b3 b4 (by omega))⟩
    · by_cases c2 : (-(r + d)) = -d + (r + d)
      · by_cases c3 : (q - 1) % 2 = 0
        · exact .inr (.inl ⟨by simp; omega, by simpa using c2, by simp; omega, Lib.hid (Plain.rnd4_pn_ev q r d b3 b4 (by omega) c3)⟩)
        · exact .inr (.inr (.inl ⟨by simp; omega, by simpa using c2, by simp; omega, Lib.hid (Plain.rnd4_pn_od q r d b3 b4 (by omega) (by omega))⟩))
      · exact .inr (.inr (.inr ⟨by simp; omega, by simpa using c2, Lib.hid (Plain.rnd4_pn_gt q r d b3 b4 (by omega))⟩))
  all_goals
    cases b
  all_goals
    go_enter Tryz.func153, Tryz.ntmps153
    go_wp2_with (first | (go_at_call 168; refine (mode_ok _ _ (by omega) (by omega)).mono ?_; rintro e w' ⟨rfl, rfl⟩))
    go_step3
    go_wp2
    go_quiet (fail)
    go_wp2_with (first | (go_at_call 169; refine (mag_pos _ _ (by omega) (by omega)).mono ?_; rintro e w' ⟨rfl, rfl⟩) | (go_at_call 169; refine (mag_neg _ _ (by omega) (by omega)).mono ?_; rintro e w' ⟨rfl, rfl⟩))
    go_step3
    go_wp2
    refine wp_loop_rounds 2 ?_
    repeat any_goals (rw [rounds_succ]; go_wp2)
    try rw [Exit.noGoto_ret]
    go_ret2
    exact ⟨ret2 (by have h := H.out; omega), _, rfl⟩
end Go.Proofs.YteaaikmejacpaaaGreatDoor.Dv


namespace Go.Proofs.YteaaikmejacpaaaGreatDoor.Dv
open Go.ChangeShapes Go.WideShapes Go.ChangeAt Go.RowKit
set_option linter.unusedVariables false
set_option linter.unusedSimpArgs false
def dval (how n d : Int) : Int :=
 if how < 1 \/ 4 < how then 0 else if d = 0 then 0 else if n = -9223372036854775808 /\ d = -1 then 0 else Plain.rnd how (n.tdiv d) (n.tmod d) d
def derr (how n d : Int) : Int :=
 if how < 1 \/ 4 < how then 1 else if d = 0 then 4 else if n = -9223372036854775808 /\ d = -1 then 3 else 0
set_option maxHeartbeats 4000000 in
theorem div_exact (n d q how : Int) (b c : Bool) (w : World) (n0 : -9223372036854775808 <= n) (n1 : n <= 9223372036854775807) (hq : n.tdiv d = q) (hr : n.tmod d = 0)
   (b1 : -9223372036854775808 <= q) (b2 : q <= 9223372036854775807) (b6 : -9223372036854775808 <= d) (b7 : d <= 9223372036854775807) (g0 : (n == -9223372036854775808) = b) (g1 : (d == -1) = c) (hbc : b = false \/ c = false) (hd : d < 0 \/ 0 < d) (h : 1 <= how) (h' : how <= 4) :
    Calls Tryz.prog 153 #[.int .i64 n, .int .i64 d, .int .i64 how] w fun e w' => e = .returned (.tuple #[.int .i64 q, .int .i64 0]) /\ ∃ k, w' = w.drewN k := by
  have d0 : (d == 0) = false := by simp; omega
  have m2 : decide (how <= 4) = true := by simp; omega
  have m1 : decide (1 <= how) = true := by simp; omega
  cases b <;> cases c <;> (first | (exfalso; simp at hbc; done) | skip)
  all_goals rcases hd with hd | hd
  all_goals
    clear hbc
    go_enter Tryz.func153, Tryz.ntmps153
    go_wp2_with (first | (go_at_call 168; refine (mode_ok _ _ (by omega) (by omega)).mono ?_; rintro e w' ⟨rfl, rfl⟩))
    go_step3
    go_wp2
    go_quiet (fail)
    go_wp2_with (first | (go_at_call 169; refine (mag_pos _ _ (by omega) (by omega)).mono ?_; rintro e w' ⟨rfl, rfl⟩) | (go_at_call 169; refine (mag_neg _ _ (by omega) (by omega)).mono ?_; rintro e w' ⟨rfl, rfl⟩))
    go_step3
    go_wp2
    refine wp_loop_rounds 2 ?_
    repeat any_goals (rw [rounds_succ]; go_wp2)
    try rw [Exit.noGoto_ret]
    go_ret2
    exact ⟨rfl, _, rfl⟩
theorem div_any (how n d : Int) (w : World) (n0 : -9223372036854775808 <= n) (n1 : n <= 9223372036854775807) (b6 : -9223372036854775808 <= d) (b7 : d <= 9223372036854775807) :
  Calls Tryz.prog 153 #[.int .i64 n, .int .i64 d, .int .i64 how] w fun e w' => e = .returned (.tuple #[.int .i64 (dval how n d), .int .i64 (derr how n d)]) /\ ∃ k, w' = w.drewN k := by
 by_cases hm : how < 1 \/ 4 < how
 ·rw [show dval how n d = 0 from by unfold dval; rw [if_pos hm], show derr how n d = 1 from by unfold derr; rw [if_pos hm]]
  exact div_bad n d how w hm
 ·by_cases hd : d = 0
  ·subst hd
   rw [show dval how n 0 = 0 from by unfold dval; rw [if_neg hm, if_pos rfl], show derr how n 0 = 4 from by unfold derr; rw [if_neg hm, if_pos rfl]]
   exact div_zero n how w (by omega) (by omega)
  ·by_cases hx : n = -9223372036854775808 /\ d = -1
   ·rw [show dval how n d = 0 from by unfold dval; rw [if_neg hm, if_neg hd, if_pos hx], show derr how n d = 3 from by unfold derr; rw [if_neg hm, if_neg hd, if_pos hx]]
    obtain ⟨rfl, rfl⟩ := hx
    exact div_min how w (by omega) (by omega)
   ·rw [show dval how n d = Plain.rnd how (n.tdiv d) (n.tmod d) d from by unfold dval; rw [if_neg hm, if_neg hd, if_neg hx], show derr how n d = 0 from by unfold derr; rw [if_neg hm, if_neg hd, if_neg hx]]
    have F := Plain.tfacts n d hd
    have S := Plain.tsign n d
    obtain ⟨q, hq⟩ : ∃ q, n.tdiv d = q := ⟨_, rfl⟩
    obtain ⟨r, hr⟩ : ∃ r, n.tmod d = r := ⟨_, rfl⟩
    rw [hq, hr] at F
    rw [hq] at S
    rw [hq, hr]
    obtain ⟨F1, F2, F3, F4, F5⟩ := F
    obtain ⟨S1, S2, S3, S4⟩ := S
    by_cases h0 : r = 0
    ·subst h0
     rw [show Plain.rnd how q 0 d = q from by unfold Plain.rnd; rw [if_pos rfl]]
     have hmax : q <= 9223372036854775807 := by
      by_cases hn : n = -9223372036854775808
      ·by_cases hdd : 0 < d
       ·have := S4 (by omega) hdd; omega
       ·have h2 : 2 <= d.natAbs := by
         have : d ≠ -1 := fun h => hx ⟨hn, h⟩
         omega
        have hq2 := congrArg Int.natAbs hq
        rw [Plain.natAbs_div] at hq2
        have h3 := Nat.div_mul_le_self n.natAbs d.natAbs
        have h4 := Nat.mul_le_mul_left (n.natAbs / d.natAbs) h2
        omega
      ·omega
     refine div_exact n d q how _ _ w n0 n1 hq hr (by omega) hmax b6 b7 rfl rfl ?_ (by omega) (by omega) (by omega)
     by_cases hn : n = -9223372036854775808
     ·exact .inr (by simp; exact fun h => hx ⟨hn, h⟩)
     ·exact .inl (by simpa using hn)
    ·have F3' := F3 h0
     have g1 : (d == -1) = false := by simp; omega
     rcases (by omega : how = 1 \/ how = 2 \/ how = 3 \/ how = 4) with rfl | rfl | rfl | rfl
     all_goals
      by_cases hr0 : 0 < r
      all_goals by_cases hd0 : 0 < d
     ·have hn := F4 hr0; exact div_pp1 n d q r _ w n0 n1 hq hr (by omega) (by omega) b6 b7 rfl g1 (by omega) (by omega) (S1 hn hd0)
     ·have hn := F4 hr0; exact div_pn1 n d q r _ w n0 n1 hq hr (by omega) (by omega) b6 b7 rfl g1 (by omega) (by omega) (S3 hn (by omega))
     ·have hn := F5 (by omega); exact div_np1 n d q r _ w n0 n1 hq hr (by omega) (by omega) b6 b7 rfl g1 (by omega) (by omega) (S4 hn hd0)
     ·have hn := F5 (by omega); exact div_nn1 n d q r _ w n0 n1 hq hr (by omega) (by omega) b6 b7 rfl g1 (by omega) (by omega) (S2 hn (by omega))
     ·have hn := F4 hr0; exact div_pp2 n d q r _ w n0 n1 hq hr (by omega) (by omega) b6 b7 rfl g1 (by omega) (by omega) (S1 hn hd0)
     ·have hn := F4 hr0; exact div_pn2 n d q r _ w n0 n1 hq hr (by omega) (by omega) b6 b7 rfl g1 (by omega) (by omega) (S3 hn (by omega))
     ·have hn := F5 (by omega); exact div_np2 n d q r _ w n0 n1 hq hr (by omega) (by omega) b6 b7 rfl g1 (by omega) (by omega) (S4 hn hd0)
     ·have hn := F5 (by omega); exact div_nn2 n d q r _ w n0 n1 hq hr (by omega) (by omega) b6 b7 rfl g1 (by omega) (by omega) (S2 hn (by omega))
     ·have hn := F4 hr0; exact div_pp3 n d q r _ w n0 n1 hq hr (by omega) (by omega) b6 b7 rfl g1 (by omega) (by omega) (S1 hn hd0)
     ·have hn := F4 hr0; exact div_pn3 n d q r _ w n0 n1 hq hr (by omega) (by omega) b6 b7 rfl g1 (by omega) (by omega) (S3 hn (by omega))
     ·have hn := F5 (by omega); exact div_np3 n d q r _ w n0 n1 hq hr (by omega) (by omega) b6 b7 rfl g1 (by omega) (by omega) (S4 hn hd0)
     ·have hn := F5 (by omega); exact div_nn3 n d q r _ w n0 n1 hq hr (by omega) (by omega) b6 b7 rfl g1 (by omega) (by omega) (S2 hn (by omega))
     ·have hn := F4 hr0; exact div_pp4 n d q r _ w n0 n1 hq hr (by omega) (by omega) b6 b7 rfl g1 (by omega) (by omega) (S1 hn hd0)
     ·have hn := F4 hr0; exact div_pn4 n d q r _ w n0 n1 hq hr (by omega) (by omega) b6 b7 rfl g1 (by omega) (by omega) (S3 hn (by omega))
     ·have hn := F5 (by omega); exact div_np4 n d q r _ w n0 n1 hq hr (by omega) (by omega) b6 b7 rfl g1 (by omega) (by omega) (S4 hn hd0)
     ·have hn := F5 (by omega); exact div_nn4 n d q r _ w n0 n1 hq hr (by omega) (by omega) b6 b7 rfl g1 (by omega) (by omega) (S2 hn (by omega))
end Go.Proofs.YteaaikmejacpaaaGreatDoor.Dv


namespace Go.Proofs.YteaaikmejacpaaaGreatDoor.Fx
open Go.ChangeShapes Go.WideShapes Go.ChangeAt Go.RowKit
open Fr
set_option linter.unusedVariables false
set_option linter.unusedSimpArgs false
theorem ret1 {k : IntKind} {a b : Int} (h : a = b) : Ending.returned (.int k a) = .returned (.int k b) := by rw [h]

end Go.Proofs.YteaaikmejacpaaaGreatDoor.Fx


namespace Go.Proofs.YteaaikmejacpaaaGreatDoor.Nx
open Go.ChangeShapes Go.WideShapes Go.ChangeAt Go.RowKit
set_option linter.unusedVariables false
set_option linter.unusedSimpArgs false
set_option maxHeartbeats 8000000 in
theorem cnar_bad (n bits over : Int) (w : World) (h0 : -9223372036854775808 <= bits) (h1 : bits <= 9223372036854775807) (hb : nbad bits over) :
  Calls Tryz.prog 180 #[.int .i64 n, .int .i64 bits, .int .i64 over] w fun e w' => e = .returned (.tuple #[.int .i64 0, .bool false]) /\ w = w' := by
 rcases hb with (hb | hb) | ⟨hb, hc⟩
 ·have k1 : decide (2 <= bits) = false := by simp; omega
  have k2 : decide (bits < 2) = true := by simp; omega
  go_enter Tryz.func180, Tryz.ntmps180
  go_wp2
  all_goals
   go_ret2
   exact ⟨rfl, rfl⟩
 ·have k1 : decide (2 <= bits) = true := by simp; omega
  have k2 : decide (bits < 2) = false := by simp; omega
  have k3 : decide (bits <= 31) = false := by simp; omega
  have k4 : decide (31 < bits) = true := by simp; omega
  go_enter Tryz.func180, Tryz.ntmps180
  go_wp2
  all_goals
   go_ret2
   exact ⟨rfl, rfl⟩
 ·have o1 : (over != 1) = true := by simpa using hb
  have o2 : (over != 2) = true := by simpa using hc
  clear hb hc
  obtain ⟨x1, x2, x3, x4, y1, y2, y3, y4⟩ : ∃ x1 x2 x3 x4, decide (2 <= bits) = x1 /\ decide (bits < 2) = x2 /\ decide (bits <= 31) = x3 /\ decide (31 < bits) = x4 := ⟨_, _, _, _, rfl, rfl, rfl, rfl⟩
  cases x1 <;> cases x2 <;> cases x3 <;> cases x4
  all_goals
   go_enter Tryz.func180, Tryz.ntmps180
   go_wp2
   all_goals
    go_ret2
    exact ⟨rfl, rfl⟩
end Go.Proofs.YteaaikmejacpaaaGreatDoor.Nx


namespace Go.Proofs.YteaaikmejacpaaaGreatDoor.Nx
open Go.ChangeShapes Go.WideShapes Go.ChangeAt Go.RowKit
set_option linter.unusedVariables false
set_option linter.unusedSimpArgs false
set_option maxHeartbeats 16000000 in
theorem cnar_1 (n bits : Int) (w : World) (n0 : -9223372036854775808 <= n) (n1 : n <= 9223372036854775807) (h0 : 2 <= bits) (h1 : bits <= 31) :
  Calls Tryz.prog 180 #[.int .i64 n, .int .i64 bits, .int .i64 1] w fun e w' => e = .returned (.tuple #[.int .i64 (nv n bits 1), .bool (nb n bits 1)]) /\ w = w' := by
 have hg : ¬ nbad bits 1 := by unfold nbad; omega
 rcases (by omega : n < - half bits \/ half bits - 1 < n \/ (- half bits <= n /\ n <= half bits - 1)) with c | c | ⟨c, c'⟩
 ·have Hn : nb n bits 1 = true := by unfold nb; rw [if_neg hg]; simp; omega
  have H : nv n bits 1 = - half bits := by unfold nv; rw [if_neg hg, if_pos c]; rw [if_pos rfl]
  rw [Hn]
  have HH := Lib.hid H
  clear H Hn hg
  rcases widths bits h0 h1 with ⟨rfl, hh, hf⟩ | ⟨rfl, hh, hf⟩ | ⟨rfl, hh, hf⟩ | ⟨rfl, hh, hf⟩ | ⟨rfl, hh, hf⟩ | ⟨rfl, hh, hf⟩ | ⟨rfl, hh, hf⟩ | ⟨rfl, hh, hf⟩ | ⟨rfl, hh, hf⟩ | ⟨rfl, hh, hf⟩ | ⟨rfl, hh, hf⟩ | ⟨rfl, hh, hf⟩ | ⟨rfl, hh, hf⟩ | ⟨rfl, hh, hf⟩ | ⟨rfl, hh, hf⟩ | ⟨rfl, hh, hf⟩ | ⟨rfl, hh, hf⟩ | ⟨rfl, hh, hf⟩ | ⟨rfl, hh, hf⟩ | ⟨rfl, hh, hf⟩ | ⟨rfl, hh, hf⟩ | ⟨rfl, hh, hf⟩ | ⟨rfl, hh, hf⟩ | ⟨rfl, hh, hf⟩ | ⟨rfl, hh, hf⟩ | ⟨rfl, hh, hf⟩ | ⟨rfl, hh, hf⟩ | ⟨rfl, hh, hf⟩ | ⟨rfl, hh, hf⟩ | ⟨rfl, hh, hf⟩
  all_goals
   rw [hh] at HH
   rw [hh] at c
   clear hh hf h0 h1
   go_enter Tryz.func180, Tryz.ntmps180
   go_wp2
   all_goals
    go_ret2
    exact ⟨ret2v (by have h := HH.out; omega) rfl, rfl⟩
 ·have Hn : nb n bits 1 = true := by unfold nb; rw [if_neg hg]; simp; omega
  have hl : 0 < half bits := by unfold half; exact Int.pow_pos (by decide)
  have H : nv n bits 1 = half bits - 1 := by unfold nv; rw [if_neg hg, if_neg (by omega), if_pos c]; rw [if_pos rfl]
  rw [Hn]
  have HH := Lib.hid H
  clear H Hn hg hl
  rcases widths bits h0 h1 with ⟨rfl, hh, hf⟩ | ⟨rfl, hh, hf⟩ | ⟨rfl, hh, hf⟩ | ⟨rfl, hh, hf⟩ | ⟨rfl, hh, hf⟩ | ⟨rfl, hh, hf⟩ | ⟨rfl, hh, hf⟩ | ⟨rfl, hh, hf⟩ | ⟨rfl, hh, hf⟩ | ⟨rfl, hh, hf⟩ | ⟨rfl, hh, hf⟩ | ⟨rfl, hh, hf⟩ | ⟨rfl, hh, hf⟩ | ⟨rfl, hh, hf⟩ | ⟨rfl, hh, hf⟩ | ⟨rfl, hh, hf⟩ | ⟨rfl, hh, hf⟩ | ⟨rfl, hh, hf⟩ | ⟨rfl, hh, hf⟩ | ⟨rfl, hh, hf⟩ | ⟨rfl, hh, hf⟩ | ⟨rfl, hh, hf⟩ | ⟨rfl, hh, hf⟩ | ⟨rfl, hh, hf⟩ | ⟨rfl, hh, hf⟩ | ⟨rfl, hh, hf⟩ | ⟨rfl, hh, hf⟩ | ⟨rfl, hh, hf⟩ | ⟨rfl, hh, hf⟩ | ⟨rfl, hh, hf⟩
  all_goals
   rw [hh] at HH
   rw [hh] at c
   clear hh hf h0 h1
   go_enter Tryz.func180, Tryz.ntmps180
   go_wp2
   all_goals
    go_ret2
    exact ⟨ret2v (by have h := HH.out; omega) rfl, rfl⟩
 ·have Hn : nb n bits 1 = false := by unfold nb; rw [if_neg hg]; simp; omega
  have H : nv n bits 1 = n := by unfold nv; rw [if_neg hg, if_neg (by omega), if_neg (by omega)]
  rw [Hn]
  have HH := Lib.hid H
  clear H Hn hg
  rcases widths bits h0 h1 with ⟨rfl, hh, hf⟩ | ⟨rfl, hh, hf⟩ | ⟨rfl, hh, hf⟩ | ⟨rfl, hh, hf⟩ | ⟨rfl, hh, hf⟩ | ⟨rfl, hh, hf⟩ | ⟨rfl, hh, hf⟩ | ⟨rfl, hh, hf⟩ | ⟨rfl, hh, hf⟩ | ⟨rfl, hh, hf⟩ | ⟨rfl, hh, hf⟩ | ⟨rfl, hh, hf⟩ | ⟨rfl, hh, hf⟩ | ⟨rfl, hh, hf⟩ | ⟨rfl, hh, hf⟩ | ⟨rfl, hh, hf⟩ | ⟨rfl, hh, hf⟩ | ⟨rfl, hh, hf⟩ | ⟨rfl, hh, hf⟩ | ⟨rfl, hh, hf⟩ | ⟨rfl, hh, hf⟩ | ⟨rfl, hh, hf⟩ | ⟨rfl, hh, hf⟩ | ⟨rfl, hh, hf⟩ | ⟨rfl, hh, hf⟩ | ⟨rfl, hh, hf⟩ | ⟨rfl, hh, hf⟩ | ⟨rfl, hh, hf⟩ | ⟨rfl, hh, hf⟩ | ⟨rfl, hh, hf⟩
  all_goals
   rw [hh] at c c'
   clear hh hf h0 h1
   go_enter Tryz.func180, Tryz.ntmps180
   go_wp2
   all_goals
    go_ret2
    exact ⟨ret2v HH.out.symm rfl, rfl⟩
end Go.Proofs.YteaaikmejacpaaaGreatDoor.Nx


namespace Go.Proofs.YteaaikmejacpaaaGreatDoor.Nx
open Go.ChangeShapes Go.WideShapes Go.ChangeAt Go.RowKit
set_option linter.unusedVariables false
set_option linter.unusedSimpArgs false
set_option maxHeartbeats 16000000 in
theorem cnar_2 (n bits : Int) (w : World) (n0 : -9223372036854775808 <= n) (n1 : n <= 9223372036854775807) (h0 : 2 <= bits) (h1 : bits <= 31) :
  Calls Tryz.prog 180 #[.int .i64 n, .int .i64 bits, .int .i64 2] w fun e w' => e = .returned (.tuple #[.int .i64 (nv n bits 2), .bool (nb n bits 2)]) /\ w = w' := by
 have hg : ¬ nbad bits 2 := by unfold nbad; omega
 rcases (by omega : n < - half bits \/ half bits - 1 < n \/ (- half bits <= n /\ n <= half bits - 1)) with c | c | ⟨c, c'⟩
 ·have Hn : nb n bits 2 = true := by unfold nb; rw [if_neg hg]; simp; omega
  have H : nv n bits 2 = (n + half bits) % full bits - half bits := by unfold nv; rw [if_neg hg, if_pos c]; rw [if_neg (by decide)]
  rw [Hn]
  have HH := Lib.hid H
  clear H Hn hg
  rcases widths bits h0 h1 with ⟨rfl, hh, hf⟩ | ⟨rfl, hh, hf⟩ | ⟨rfl, hh, hf⟩ | ⟨rfl, hh, hf⟩ | ⟨rfl, hh, hf⟩ | ⟨rfl, hh, hf⟩ | ⟨rfl, hh, hf⟩ | ⟨rfl, hh, hf⟩ | ⟨rfl, hh, hf⟩ | ⟨rfl, hh, hf⟩ | ⟨rfl, hh, hf⟩ | ⟨rfl, hh, hf⟩ | ⟨rfl, hh, hf⟩ | ⟨rfl, hh, hf⟩ | ⟨rfl, hh, hf⟩ | ⟨rfl, hh, hf⟩ | ⟨rfl, hh, hf⟩ | ⟨rfl, hh, hf⟩ | ⟨rfl, hh, hf⟩ | ⟨rfl, hh, hf⟩ | ⟨rfl, hh, hf⟩ | ⟨rfl, hh, hf⟩ | ⟨rfl, hh, hf⟩ | ⟨rfl, hh, hf⟩ | ⟨rfl, hh, hf⟩ | ⟨rfl, hh, hf⟩ | ⟨rfl, hh, hf⟩ | ⟨rfl, hh, hf⟩ | ⟨rfl, hh, hf⟩ | ⟨rfl, hh, hf⟩
  all_goals
   rw [hh, hf] at HH
   rw [hh] at c
   clear hh hf h0 h1
   go_enter Tryz.func180, Tryz.ntmps180
   go_wp2
   all_goals
    go_ret2
    exact ⟨ret2v (by have h := HH.out; simp only [wrap64]; omega) rfl, rfl⟩
 ·have Hn : nb n bits 2 = true := by unfold nb; rw [if_neg hg]; simp; omega
  have hl : 0 < half bits := by unfold half; exact Int.pow_pos (by decide)
  have H : nv n bits 2 = (n + half bits) % full bits - half bits := by unfold nv; rw [if_neg hg, if_neg (by omega), if_pos c]; rw [if_neg (by decide)]
  rw [Hn]
  have HH := Lib.hid H
  clear H Hn hg hl
  rcases widths bits h0 h1 with ⟨rfl, hh, hf⟩ | ⟨rfl, hh, hf⟩ | ⟨rfl, hh, hf⟩ | ⟨rfl, hh, hf⟩ | ⟨rfl, hh, hf⟩ | ⟨rfl, hh, hf⟩ | ⟨rfl, hh, hf⟩ | ⟨rfl, hh, hf⟩ | ⟨rfl, hh, hf⟩ | ⟨rfl, hh, hf⟩ | ⟨rfl, hh, hf⟩ | ⟨rfl, hh, hf⟩ | ⟨rfl, hh, hf⟩ | ⟨rfl, hh, hf⟩ | ⟨rfl, hh, hf⟩ | ⟨rfl, hh, hf⟩ | ⟨rfl, hh, hf⟩ | ⟨rfl, hh, hf⟩ | ⟨rfl, hh, hf⟩ | ⟨rfl, hh, hf⟩ | ⟨rfl, hh, hf⟩ | ⟨rfl, hh, hf⟩ | ⟨rfl, hh, hf⟩ | ⟨rfl, hh, hf⟩ | ⟨rfl, hh, hf⟩ | ⟨rfl, hh, hf⟩ | ⟨rfl, hh, hf⟩ | ⟨rfl, hh, hf⟩ | ⟨rfl, hh, hf⟩ | ⟨rfl, hh, hf⟩
  all_goals
   rw [hh, hf] at HH
   rw [hh] at c
   clear hh hf h0 h1
   go_enter Tryz.func180, Tryz.ntmps180
   go_wp2
   all_goals
    go_ret2
    exact ⟨ret2v (by have h := HH.out; simp only [wrap64]; omega) rfl, rfl⟩
 ·have Hn : nb n bits 2 = false := by unfold nb; rw [if_neg hg]; simp; omega
  have H : nv n bits 2 = n := by unfold nv; rw [if_neg hg, if_neg (by omega), if_neg (by omega)]
  rw [Hn]
  have HH := Lib.hid H
  clear H Hn hg
  rcases widths bits h0 h1 with ⟨rfl, hh, hf⟩ | ⟨rfl, hh, hf⟩ | ⟨rfl, hh, hf⟩ | ⟨rfl, hh, hf⟩ | ⟨rfl, hh, hf⟩ | ⟨rfl, hh, hf⟩ | ⟨rfl, hh, hf⟩ | ⟨rfl, hh, hf⟩ | ⟨rfl, hh, hf⟩ | ⟨rfl, hh, hf⟩ | ⟨rfl, hh, hf⟩ | ⟨rfl, hh, hf⟩ | ⟨rfl, hh, hf⟩ | ⟨rfl, hh, hf⟩ | ⟨rfl, hh, hf⟩ | ⟨rfl, hh, hf⟩ | ⟨rfl, hh, hf⟩ | ⟨rfl, hh, hf⟩ | ⟨rfl, hh, hf⟩ | ⟨rfl, hh, hf⟩ | ⟨rfl, hh, hf⟩ | ⟨rfl, hh, hf⟩ | ⟨rfl, hh, hf⟩ | ⟨rfl, hh, hf⟩ | ⟨rfl, hh, hf⟩ | ⟨rfl, hh, hf⟩ | ⟨rfl, hh, hf⟩ | ⟨rfl, hh, hf⟩ | ⟨rfl, hh, hf⟩ | ⟨rfl, hh, hf⟩
  all_goals
   rw [hh] at c c'
   clear hh hf h0 h1
   go_enter Tryz.func180, Tryz.ntmps180
   go_wp2
   all_goals
    go_ret2
    exact ⟨ret2v HH.out.symm rfl, rfl⟩
end Go.Proofs.YteaaikmejacpaaaGreatDoor.Nx


namespace Go.Proofs.YteaaikmejacpaaaGreatDoor.Nx
open Go.ChangeShapes Go.WideShapes Go.ChangeAt Go.RowKit
set_option linter.unusedVariables false
set_option linter.unusedSimpArgs false
theorem cnar_any (n bits over : Int) (w : World) (n0 : -9223372036854775808 <= n) (n1 : n <= 9223372036854775807) (h0 : -9223372036854775808 <= bits) (h1 : bits <= 9223372036854775807) :
  Calls Tryz.prog 180 #[.int .i64 n, .int .i64 bits, .int .i64 over] w fun e w' => e = .returned (.tuple #[.int .i64 (nv n bits over), .bool (nb n bits over)]) /\ w = w' := by
 by_cases hb : nbad bits over
 ·rw [show nv n bits over = 0 from by unfold nv; rw [if_pos hb], show nb n bits over = false from by unfold nb; rw [if_pos hb]]
  exact cnar_bad n bits over w h0 h1 hb
 ·have hb' := hb
  unfold nbad at hb'
  rcases (by omega : over = 1 \/ over = 2) with rfl | rfl
  ·exact cnar_1 n bits w n0 n1 (by omega) (by omega)
  ·exact cnar_2 n bits w n0 n1 (by omega) (by omega)
end Go.Proofs.YteaaikmejacpaaaGreatDoor.Nx


namespace Go.Proofs.YteaaikmejacpaaaGreatDoor.Fx
open Go.ChangeShapes Go.WideShapes Go.ChangeAt Go.RowKit
open Fr
set_option linter.unusedVariables false
set_option linter.unusedSimpArgs false
/-- The five cells of a type. -/
def TyAt (K B F R O : Int) (x : Nat) (w : World) : Prop := w.cell? ⟨x, 0, none⟩ = some (.int .i64 K) /\ w.cell? ⟨x, 1, none⟩ = some (.int .i64 B) /\ w.cell? ⟨x, 2, none⟩ = some (.int .i64 F) /\ w.cell? ⟨x, 3, none⟩ = some (.int .i64 R) /\ w.cell? ⟨x, 4, none⟩ = some (.int .i64 O)
theorem TyAt.keep {K B F R O : Int} {x : Nat} {y y' : World} (hy : Below y.heap.size y y') (hb : x < y.heap.size) (h : TyAt K B F R O x y) : TyAt K B F R O x y' :=
 ⟨Rg.keep hy hb h.1, Rg.keep hy hb h.2.1, Rg.keep hy hb h.2.2.1, Rg.keep hy hb h.2.2.2.1, Rg.keep hy hb h.2.2.2.2⟩
theorem TyAt.mk {K B F R O : Int} {x : Nat} {w : World} (h0 : w.cell? ⟨x, 0, none⟩ = some (.int .i64 K)) (h1 : w.cell? ⟨x, 1, none⟩ = some (.int .i64 B)) (h2 : w.cell? ⟨x, 2, none⟩ = some (.int .i64 F)) (h3 : w.cell? ⟨x, 3, none⟩ = some (.int .i64 R)) (h4 : w.cell? ⟨x, 4, none⟩ = some (.int .i64 O)) : TyAt K B F R O x w := ⟨h0, h1, h2, h3, h4⟩
abbrev Fo1 (x : Nat) : Value := .func (.func 178) #[] #[.pointer (some ⟨x, 0, none⟩)]
abbrev Fo2 (x : Nat) : Value := .func (.func 179) #[] #[.pointer (some ⟨x, 0, none⟩)]
set_option maxHeartbeats 4000000 in
theorem fo1 (K B F R O n d : Int) (x : Nat) (w : World) (h : TyAt K B F R O x w) (n0 : -9223372036854775808 <= n) (n1 : n <= 9223372036854775807) (b6 : -9223372036854775808 <= d) (b7 : d <= 9223372036854775807) :
  Calls Tryz.prog 178 #[.int .i64 n, .int .i64 d, .pointer (some ⟨x, 0, none⟩)] w (Val1 .i64 (Dv.dval R n d) w) := by
 obtain ⟨h0, h1, h2, h3, h4⟩ := h
 have D := Lib.hid fun w => Dv.div_any R n d w n0 n1 b6 b7
 generalize Dv.dval R n d = q at *
 go_enter Tryz.func178, Tryz.ntmps178
 go_wp2_with (go_at_call 153; refine (D.out _).mono ?_; rintro e w' ⟨rfl, k, rfl⟩)
 go_ret
 exact ⟨rfl, _, rfl⟩
set_option maxHeartbeats 4000000 in
theorem fo2 (K B F R O n : Int) (x : Nat) (w : World) (h : TyAt K B F R O x w) (n0 : -9223372036854775808 <= n) (n1 : n <= 9223372036854775807) (b6 : -9223372036854775808 <= B) (b7 : B <= 9223372036854775807) :
  Calls Tryz.prog 179 #[.int .i64 n, .pointer (some ⟨x, 0, none⟩)] w fun e w' => e = .returned (.int .i64 (Nx.nv n B O)) /\ w = w' := by
 obtain ⟨h0, h1, h2, h3, h4⟩ := h
 have D := Lib.hid fun w => Nx.cnar_any n B O w n0 n1 b6 b7
 generalize Nx.nv n B O = q at *
 generalize Nx.nb n B O = q' at *
 go_enter Tryz.func179, Tryz.ntmps179
 go_wp2_with (go_at_call 180; refine (D.out _).mono ?_; rintro e w' ⟨rfl, rfl⟩)
 go_ret
 exact ⟨rfl, rfl⟩
def FO (K B F R O p : Int) (w : World) (e : Ending) (w' : World) : Prop :=
 e = .returned (.agg #[Fo1 w.heap.size, Fo2 w.heap.size, .int .i64 p]) /\ Below w.heap.size w w' /\ w.heap.size < w'.heap.size /\ TyAt K B F R O w.heap.size w'
set_option maxHeartbeats 4000000 in
theorem fo_any (K B F R O p : Int) (w : World) (hp : (2 : Int) ^ F.toNat = p) (p0 : 1 <= p) (p1 : p <= 1073741824) (f0 : 0 <= F) (f1 : F <= 30) :
  Calls Tryz.prog 173 #[.agg #[.int .i64 K, .int .i64 B, .int .i64 F, .int .i64 R, .int .i64 O]] w (FO K B F R O p w) := by
 go_enter Tryz.func173, Tryz.ntmps173
 go_wp2
 refine bodyPost_ret (v := .agg #[Fo1 w.heap.size, Fo2 w.heap.size, .int .i64 p]) (by simp [results, Tryz.results173, go_sem]) rfl ⟨rfl, ?_, ?_, ?_, ?_, ?_, ?_, ?_⟩
 ·go_grown
 ·simp <;> omega
 all_goals go_cell
end Go.Proofs.YteaaikmejacpaaaGreatDoor.Fx


namespace Go.Proofs.YteaaikmejacpaaaGreatDoor.Fr
open Go.ChangeShapes Go.WideShapes Go.ChangeAt Go.RowKit
set_option linter.unusedVariables false
set_option linter.unusedSimpArgs false
/-- A fraction of a sign and two magnitudes, in lowest terms: numerator, denominator, error. -/
def lowN (neg : Bool) (n d : Int) : Int := if 2147483647 < n / Int.gcd n d \/ 2147483647 < d / Int.gcd n d then 0 else if neg then -(n / Int.gcd n d) else n / Int.gcd n d
def lowD (n d : Int) : Int := if 2147483647 < n / Int.gcd n d \/ 2147483647 < d / Int.gcd n d then 0 else d / Int.gcd n d
def lowE (n d : Int) : Int := if 2147483647 < n / Int.gcd n d \/ 2147483647 < d / Int.gcd n d then 3 else 0
abbrev Frac3 (a b c : Int) : Value := .tuple #[.agg #[.int .i64 a, .int .i64 b], .int .i64 c]
theorem gcd_facts (n d : Int) (hn : 0 <= n) (hd : 0 < d) : 0 < (Int.gcd n d : Int) /\ (Int.gcd n d : Int) <= d /\ 0 <= n / (Int.gcd n d : Int) /\ n / (Int.gcd n d : Int) <= n /\ 0 < d / (Int.gcd n d : Int) /\ d / (Int.gcd n d : Int) <= d := by
 have h1 : 0 < (Int.gcd n d : Int) := by
  have : Int.gcd n d ≠ 0 := by
   intro h; have := (Int.gcd_eq_zero_iff.1 h).2; omega
  omega
 have h2 : (Int.gcd n d : Int) ∣ d := Int.gcd_dvd_right n d
 have h3 := Int.le_of_dvd hd h2
 refine ⟨h1, h3, Int.ediv_nonneg hn (by omega), Int.ediv_le_self _ hn, ?_, Int.ediv_le_self _ (by omega)⟩
 obtain ⟨c, hc⟩ := h2
 have hq : d / (Int.gcd n d : Int) = c := by
  have h5 := congrArg (fun x => x / (Int.gcd n d : Int)) hc
  simpa [Int.mul_ediv_cancel_left _ (by omega : (Int.gcd n d : Int) ≠ 0)] using h5
 rw [hq]
 by_cases hc0 : 0 < c
 ·exact hc0
 ·have : (Int.gcd n d : Int) * c <= 0 := Int.mul_nonpos_of_nonneg_of_nonpos (by omega) (by omega)
  omega
set_option maxHeartbeats 4000000 in
theorem low_any (neg : Bool) (n d : Int) (w : World) (n0 : 0 <= n) (n1 : n <= 9223372036854775808) (d0 : 1 <= d) (d1 : d <= 9223372036854775808) :
  Calls Tryz.prog 172 #[.bool neg, .int .u64 n, .int .u64 d] w (Ret (Frac3 (lowN neg n d) (lowD n d) (lowE n d)) w) := by
 obtain ⟨g0, g1, q0, q1, r0, r1⟩ := gcd_facts n d n0 (by omega)
 obtain ⟨b, hb⟩ : ∃ b, decide (2147483647 < n / (Int.gcd n d : Int) \/ 2147483647 < d / (Int.gcd n d : Int)) = b := ⟨_, rfl⟩
 have HN : lowN neg n d = if b then 0 else if neg then -(n / (Int.gcd n d : Int)) else n / (Int.gcd n d : Int) := by unfold lowN; subst hb; simp
 have HD : lowD n d = if b then 0 else d / (Int.gcd n d : Int) := by unfold lowD; subst hb; simp
 have HE : lowE n d = if b then 3 else 0 := by unfold lowE; subst hb; simp
 rw [HN, HD, HE]
 clear HN HD HE
 obtain ⟨q, hq⟩ : ∃ q, n / (Int.gcd n d : Int) = q := ⟨_, rfl⟩
 obtain ⟨r, hr⟩ : ∃ r, d / (Int.gcd n d : Int) = r := ⟨_, rfl⟩
 rw [hq] at q0 q1 hb ⊢
 rw [hr] at r0 r1 hb ⊢
 have gz : ((Int.gcd n d : Int) == 0) = false := by simp; omega
 obtain ⟨x, y, hx, hy, hxy⟩ : ∃ x y, decide (2147483647 < q) = x /\ decide (2147483647 < r) = y /\ (x || y) = b := ⟨_, _, rfl, rfl, by rw [<- hb]; simp⟩
 clear hb
 have hx2 : x = false -> q <= 2147483647 := fun h => by rw [h] at hx; simpa using hx
 have hy2 : y = false -> r <= 2147483647 := fun h => by rw [h] at hy; simpa using hy
 cases x <;> cases y <;> simp only [Bool.or_false, Bool.or_true] at hxy <;> subst hxy
 all_goals cases neg
 all_goals
  try simp only [Bool.false_eq_true, ↓reduceIte]
  try have hx3 := hx2 rfl
  try have hy3 := hy2 rfl
  clear hx2 hy2
  go_enter Tryz.func172, Tryz.ntmps172
  go_wp2_with (go_at_call 109; refine (fgcd _ _ _ (by omega) (by omega) (by omega) (by omega)).mono ?_; rintro e w1 ⟨rfl, k, rfl⟩)
  go_quiet (fail)
  go_wp2
  go_returns
  refine ⟨rfl, ?_⟩
  repeat' (first | (with_reducible exact Below.refl _ _) | (with_reducible refine below_drewN ?_ _) | (with_reducible refine Below.drew ?_) | (with_reducible refine Below.alloc ?_ ?_ _) | (with_reducible refine Below.setCell ?_ ?_ _) | (with_reducible assumption) | (simp; done) | (simp; omega) | omega)
end Go.Proofs.YteaaikmejacpaaaGreatDoor.Fr
