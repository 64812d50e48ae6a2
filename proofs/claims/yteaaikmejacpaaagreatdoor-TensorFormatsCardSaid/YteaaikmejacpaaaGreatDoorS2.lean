/- Plain facts on Go's quotient and remainder of integers, and the rounded quotient as a plain function. -/
import Derived.Test.YteaaikmejacpaaaGreatDoorRows
import Derived.WalkKit
import Derived.ProofKit
import Derived.OpenShut
import Derived.WalkLawsBesides
import Derived.WalkSpells
import Derived.Outline
import Derived.Handy
import Derived.Deep.QuietTactic
import Derived.BigQuiet
import Derived.Lib.Hide
import Derived.Test.YteaaikmejacpaaaGreatDoorS0

namespace Go.Proofs.YteaaikmejacpaaaGreatDoor.Plain

set_option linter.unusedVariables false
set_option linter.unusedSimpArgs false
theorem tfacts (n d : Int) (hd : d ≠ 0) :
  (n.tmod d).natAbs < d.natAbs /\ (n.tdiv d).natAbs <= n.natAbs /\ (n.tmod d ≠ 0 -> 2 * (n.tdiv d).natAbs <= n.natAbs) /\
  (0 < n.tmod d -> 0 < n) /\ (n.tmod d < 0 -> n < 0) := by
 have hr : (n.tmod d).natAbs = n.natAbs % d.natAbs := by simp
 have hq : (n.tdiv d).natAbs = n.natAbs / d.natAbs := by rw [Int.natAbs_tdiv]; rfl
 have hdp : 0 < d.natAbs := by omega
 have hlt := Nat.mod_lt n.natAbs hdp
 refine ⟨by omega, by rw [hq]; exact Nat.div_le_self _ _, ?_, ?_, ?_⟩
 ·intro h
  have h2 : 2 <= d.natAbs := by
   by_cases h1 : d.natAbs = 1
   ·rw [h1, Nat.mod_one] at hr; omega
   ·omega
  rw [hq]
  have h3 := Nat.div_mul_le_self n.natAbs d.natAbs
  have h4 := Nat.mul_le_mul_left (n.natAbs / d.natAbs) h2
  omega
 ·intro h
  by_cases hn : n <= 0
  ·have := Int.tmod_nonneg (-d) (a := -n) (by omega)
   rw [Int.neg_tmod, Int.tmod_neg] at this; omega
  ·omega
 ·intro h
  by_cases hn : 0 <= n
  ·have := Int.tmod_nonneg d hn; omega
  ·omega

theorem natAbs_div (n d : Int) : (n.tdiv d).natAbs = n.natAbs / d.natAbs := by rw [Int.natAbs_tdiv]; rfl

theorem tsign (n d : Int) :
  (0 < n -> 0 < d -> 0 <= n.tdiv d) /\ (n < 0 -> d < 0 -> 0 <= n.tdiv d) /\ (0 < n -> d < 0 -> n.tdiv d <= 0) /\ (n < 0 -> 0 < d -> n.tdiv d <= 0) := by
 refine ⟨fun a b => Int.tdiv_nonneg (by omega) (by omega), fun a b => ?_, fun a b => ?_, fun a b => ?_⟩
 ·have := Int.tdiv_nonneg (a := -n) (b := -d) (by omega) (by omega)
  rwa [Int.neg_tdiv, Int.tdiv_neg, Int.neg_neg] at this
 ·have := Int.tdiv_nonneg (a := n) (b := -d) (by omega) (by omega)
  rw [Int.tdiv_neg] at this; omega
 ·have := Int.tdiv_nonneg (a := -n) (b := d) (by omega) (by omega)
  rw [Int.neg_tdiv] at this; omega

theorem even_iff (q : Int) : q.tmod 2 = 0 ↔ q % 2 = 0 := by
 rw [<- Int.dvd_iff_tmod_eq_zero, Int.dvd_iff_emod_eq_zero]

/-- The rounded quotient where it is defined: 1 down, 2 up, 3 toward zero, 4 to nearest, ties to even; q and r are Go's quotient and remainder. -/
def rnd (how q r d : Int) : Int :=
 if r = 0 then q
 else if how = 3 then q
 else if how = 1 then (if (r < 0 ↔ d < 0) then q else q - 1)
 else if how = 2 then (if (r < 0 ↔ d < 0) then q + 1 else q)
 else if 2 * (if r < 0 then -r else r) < (if d < 0 then -d else d) then q
 else if 2 * (if r < 0 then -r else r) = (if d < 0 then -d else d) /\ q % 2 = 0 then q
 else (if (r < 0 ↔ d < 0) then q + 1 else q - 1)

theorem rnd1_pp (q r d : Int) (b3 : 0 < r) (b4 : r < d) : rnd 1 q r d = q := by
 unfold rnd; (repeat' split) <;> omega
theorem rnd2_pp (q r d : Int) (b3 : 0 < r) (b4 : r < d) : rnd 2 q r d = q + 1 := by
 unfold rnd; (repeat' split) <;> omega
theorem rnd3_pp (q r d : Int) (b3 : 0 < r) (b4 : r < d) : rnd 3 q r d = q := by
 unfold rnd; (repeat' split) <;> omega
theorem rnd4_pp_lt (q r d : Int) (b3 : 0 < r) (b4 : r < d) (t : r < d - r) : rnd 4 q r d = q := by
 unfold rnd; (repeat' split) <;> omega
theorem rnd4_pp_ev (q r d : Int) (b3 : 0 < r) (b4 : r < d) (t : r = d - r) (e : q % 2 = 0) : rnd 4 q r d = q := by
 unfold rnd; (repeat' split) <;> omega
theorem rnd4_pp_od (q r d : Int) (b3 : 0 < r) (b4 : r < d) (t : r = d - r) (e : q % 2 = 1) : rnd 4 q r d = q + 1 := by
 unfold rnd; (repeat' split) <;> omega
theorem rnd4_pp_gt (q r d : Int) (b3 : 0 < r) (b4 : r < d) (t : d - r < r) : rnd 4 q r d = q + 1 := by
 unfold rnd; (repeat' split) <;> omega
theorem rnd1_np (q r d : Int) (b3 : r < 0) (b4 : -r < d) : rnd 1 q r d = (q - 1) := by
 unfold rnd; (repeat' split) <;> omega
theorem rnd2_np (q r d : Int) (b3 : r < 0) (b4 : -r < d) : rnd 2 q r d = (q - 1) + 1 := by
 unfold rnd; (repeat' split) <;> omega
theorem rnd3_np (q r d : Int) (b3 : r < 0) (b4 : -r < d) : rnd 3 q r d = q := by
 unfold rnd; (repeat' split) <;> omega
theorem rnd4_np_lt (q r d : Int) (b3 : r < 0) (b4 : -r < d) (t : (r + d) < d - (r + d)) : rnd 4 q r d = (q - 1) := by
 unfold rnd; (repeat' split) <;> omega
theorem rnd4_np_ev (q r d : Int) (b3 : r < 0) (b4 : -r < d) (t : (r + d) = d - (r + d)) (e : (q - 1) % 2 = 0) : rnd 4 q r d = (q - 1) := by
 unfold rnd; (repeat' split) <;> omega
theorem rnd4_np_od (q r d : Int) (b3 : r < 0) (b4 : -r < d) (t : (r + d) = d - (r + d)) (e : (q - 1) % 2 = 1) : rnd 4 q r d = (q - 1) + 1 := by
 unfold rnd; (repeat' split) <;> omega
theorem rnd4_np_gt (q r d : Int) (b3 : r < 0) (b4 : -r < d) (t : d - (r + d) < (r + d)) : rnd 4 q r d = (q - 1) + 1 := by
 unfold rnd; (repeat' split) <;> omega
theorem rnd1_nn (q r d : Int) (b3 : r < 0) (b4 : d < r) : rnd 1 q r d = q := by
 unfold rnd; (repeat' split) <;> omega
theorem rnd2_nn (q r d : Int) (b3 : r < 0) (b4 : d < r) : rnd 2 q r d = q + 1 := by
 unfold rnd; (repeat' split) <;> omega
theorem rnd3_nn (q r d : Int) (b3 : r < 0) (b4 : d < r) : rnd 3 q r d = q := by
 unfold rnd; (repeat' split) <;> omega
theorem rnd4_nn_lt (q r d : Int) (b3 : r < 0) (b4 : d < r) (t : (-r) < (-d) - (-r)) : rnd 4 q r d = q := by
 unfold rnd; (repeat' split) <;> omega
theorem rnd4_nn_ev (q r d : Int) (b3 : r < 0) (b4 : d < r) (t : (-r) = (-d) - (-r)) (e : q % 2 = 0) : rnd 4 q r d = q := by
 unfold rnd; (repeat' split) <;> omega
theorem rnd4_nn_od (q r d : Int) (b3 : r < 0) (b4 : d < r) (t : (-r) = (-d) - (-r)) (e : q % 2 = 1) : rnd 4 q r d = q + 1 := by
 unfold rnd; (repeat' split) <;> omega
theorem rnd4_nn_gt (q r d : Int) (b3 : r < 0) (b4 : d < r) (t : (-d) - (-r) < (-r)) : rnd 4 q r d = q + 1 := by
 unfold rnd; (repeat' split) <;> omega
theorem rnd1_pn (q r d : Int) (b3 : 0 < r) (b4 : r < -d) : rnd 1 q r d = (q - 1) := by
 unfold rnd; (repeat' split) <;> omega
theorem rnd2_pn (q r d : Int) (b3 : 0 < r) (b4 : r < -d) : rnd 2 q r d = (q - 1) + 1 := by
 unfold rnd; (repeat' split) <;> omega
theorem rnd3_pn (q r d : Int) (b3 : 0 < r) (b4 : r < -d) : rnd 3 q r d = q := by
 unfold rnd; (repeat' split) <;> omega
theorem rnd4_pn_lt (q r d : Int) (b3 : 0 < r) (b4 : r < -d) (t : (-(r + d)) < (-d) - (-(r + d))) : rnd 4 q r d = (q - 1) := by
 unfold rnd; (repeat' split) <;> omega
theorem rnd4_pn_ev (q r d : Int) (b3 : 0 < r) (b4 : r < -d) (t : (-(r + d)) = (-d) - (-(r + d))) (e : (q - 1) % 2 = 0) : rnd 4 q r d = (q - 1) := by
 unfold rnd; (repeat' split) <;> omega
theorem rnd4_pn_od (q r d : Int) (b3 : 0 < r) (b4 : r < -d) (t : (-(r + d)) = (-d) - (-(r + d))) (e : (q - 1) % 2 = 1) : rnd 4 q r d = (q - 1) + 1 := by
 unfold rnd; (repeat' split) <;> omega
theorem rnd4_pn_gt (q r d : Int) (b3 : 0 < r) (b4 : r < -d) (t : (-d) - (-(r + d)) < (-(r + d))) : rnd 4 q r d = (q - 1) + 1 := by
 unfold rnd; (repeat' split) <;> omega
end Go.Proofs.YteaaikmejacpaaaGreatDoor.Plain


namespace Go.Proofs.YteaaikmejacpaaaGreatDoor.Dv
open Go.ChangeShapes Go.WideShapes Go.ChangeAt Go.RowKit
set_option linter.unusedVariables false
set_option linter.unusedSimpArgs false
theorem ret_int {k : IntKind} {a b : Int} (h : a = b) : Ending.returned (.int k a) = .returned (.int k b) := by rw [h]
theorem mag_neg (n : Int) (w : World) (h : n < 0) (h' : -9223372036854775808 <= n) :
  Calls Tryz.prog 169 #[.int .i64 n] w fun e w' => e = .returned (.int .u64 (-n)) /\ w = w' := by
 have e : IntKind.u64.wrap (-IntKind.u64.wrap n) = -n := by go_arith
 go_enter Tryz.func169, Tryz.ntmps169
 go_wp2
 go_ret
 exact ⟨rfl, rfl⟩
theorem mag_pos (n : Int) (w : World) (h : 0 <= n) (h' : n <= 9223372036854775807) :
  Calls Tryz.prog 169 #[.int .i64 n] w fun e w' => e = .returned (.int .u64 n) /\ w = w' := by
 go_enter Tryz.func169, Tryz.ntmps169
 go_wp2
 go_ret
 exact ⟨rfl, rfl⟩
theorem mode_ok (n : Int) (w : World) (h : 1 <= n) (h' : n <= 4) :
  Calls Tryz.prog 168 #[.int .i64 n] w fun e w' => e = .returned (.bool true) /\ w = w' := by
 have h2 : decide (n <= 4) = true := by simp; omega
 go_enter Tryz.func168, Tryz.ntmps168
 go_wp2
 go_ret
 exact ⟨rfl, rfl⟩
theorem ret2 {k : IntKind} {a b : Int} {x : Value} (h : a = b) : Ending.returned (.tuple #[.int k a, x]) = .returned (.tuple #[.int k b, x]) := by rw [h]
end Go.Proofs.YteaaikmejacpaaaGreatDoor.Dv


namespace Go.Proofs.YteaaikmejacpaaaGreatDoor.Dv
open Go.ChangeShapes Go.WideShapes Go.ChangeAt Go.RowKit
set_option linter.unusedVariables false
set_option linter.unusedSimpArgs false
theorem mode_bad (n : Int) (w : World) (h : n < 1 \/ 4 < n) :
  Calls Tryz.prog 168 #[.int .i64 n] w fun e w' => e = .returned (.bool false) /\ w = w' := by
 rcases h with h | h
 ·have h1 : decide (1 <= n) = false := by simp; omega
  go_enter Tryz.func168, Tryz.ntmps168
  go_wp2
  go_ret
  exact ⟨rfl, rfl⟩
 ·have h2 : decide (n <= 4) = false := by simp; omega
  go_enter Tryz.func168, Tryz.ntmps168
  go_wp2
  go_ret
  exact ⟨rfl, rfl⟩
theorem div_bad (n d how : Int) (w : World) (h : how < 1 \/ 4 < how) :
  Calls Tryz.prog 153 #[.int .i64 n, .int .i64 d, .int .i64 how] w fun e w' => e = .returned (.tuple #[.int .i64 0, .int .i64 1]) /\ ∃ k, w' = w.drewN k := by
 go_enter Tryz.func153, Tryz.ntmps153
 go_wp2
 go_step3
 go_wp2_with (first | (go_at_call 168; refine (mode_bad _ _ h).mono ?_; rintro e w' ⟨rfl, rfl⟩))
 rw [Exit.noGoto_ret]
 go_ret2
 exact ⟨rfl, 0, rfl⟩
theorem div_zero (n how : Int) (w : World) (h : 1 <= how) (h' : how <= 4) :
  Calls Tryz.prog 153 #[.int .i64 n, .int .i64 0, .int .i64 how] w fun e w' => e = .returned (.tuple #[.int .i64 0, .int .i64 4]) /\ ∃ k, w' = w.drewN k := by
 go_enter Tryz.func153, Tryz.ntmps153
 go_wp2_with (first | (go_at_call 168; refine (mode_ok _ _ (by omega) (by omega)).mono ?_; rintro e w' ⟨rfl, rfl⟩))
 go_step3
 go_wp2
 rw [Exit.noGoto_ret]
 go_ret2
 exact ⟨rfl, 0, rfl⟩
theorem div_min (how : Int) (w : World) (h : 1 <= how) (h' : how <= 4) :
  Calls Tryz.prog 153 #[.int .i64 (-9223372036854775808), .int .i64 (-1), .int .i64 how] w fun e w' => e = .returned (.tuple #[.int .i64 0, .int .i64 3]) /\ ∃ k, w' = w.drewN k := by
 go_enter Tryz.func153, Tryz.ntmps153
 go_wp2_with (first | (go_at_call 168; refine (mode_ok _ _ (by omega) (by omega)).mono ?_; rintro e w' ⟨rfl, rfl⟩))
 go_step3
 go_wp2
 rw [Exit.noGoto_ret]
 go_ret2
 exact ⟨rfl, 0, rfl⟩
end Go.Proofs.YteaaikmejacpaaaGreatDoor.Dv


namespace Go.Proofs.YteaaikmejacpaaaGreatDoor.Dv
open Go.ChangeShapes Go.WideShapes Go.ChangeAt Go.RowKit
set_option linter.unusedVariables false
set_option linter.unusedSimpArgs false
set_option maxHeartbeats 4000000 in
theorem div_pp1 (n d q r : Int) (b : Bool) (w : World) (n0 : -9223372036854775808 <= n) (n1 : n <= 9223372036854775807) (hq : n.tdiv d = q) (hr : n.tmod d = r)
   (b1 : -4611686018427387904 <= q) (b2 : q <= 4611686018427387904) (b6 : -9223372036854775808 <= d) (b7 : d <= 9223372036854775807) (g0 : (n == -9223372036854775808) = b) (g1 : (d == -1) = false) (b3 : 0 < r) (b4 : r < d) (b5 : 0 <= q) :
    Calls Tryz.prog 153 #[.int .i64 n, .int .i64 d, .int .i64 1] w fun e w' => e = .returned (.tuple #[.int .i64 (Plain.rnd 1 q r d), .int .i64 0]) /\ ∃ k, w' = w.drewN k := by
  have d0 : (d == 0) = false := by simp; omega
  have r0 : (r == 0) = false := by simp; omega
  have r1 : (r != 0) = true := by simp; omega
  have r2 : decide (r < 0) = false := by simp; omega
  have d2 : decide (d < 0) = false := by simp; omega
  have z0 : (r == 0) = false := by simp; omega
  have H := Lib.hid (Plain.rnd1_pp q r d b3 b4)
  cases b
  all_goals
    go_enter Tryz.func153, Tryz.ntmps153
    go_wp2_with (first | (go_at_call 168; refine (mode_ok _ _ (by omega) (by omega)).mono ?_; rintro e w' ⟨rfl, rfl⟩))
    go_step3
    go_wp2
    go_quiet (fail)
    go_wp2_with (first | (go_at_call 169; refine (mag_pos _ _ (by omega) (by omega)).mono ?_; rintro e w' ⟨rfl, rfl⟩) | (go_at_call 169; refine (mag_neg _ _ (by omega) (by omega)).mono ?_; rintro e w' ⟨rfl, rfl⟩))
    go_step3
    go_wp2
    refine wp_loop_rounds 2 ?_
    repeat any_goals (rw [rounds_succ]; go_wp2)
    try rw [Exit.noGoto_ret]
    go_ret2
    exact ⟨ret2 (by have h := H.out; omega), _, rfl⟩
set_option maxHeartbeats 4000000 in
theorem div_pp2 (n d q r : Int) (b : Bool) (w : World) (n0 : -9223372036854775808 <= n) (n1 : n <= 9223372036854775807) (hq : n.tdiv d = q) (hr : n.tmod d = r)
   (b1 : -4611686018427387904 <= q) (b2 : q <= 4611686018427387904) (b6 : -9223372036854775808 <= d) (b7 : d <= 9223372036854775807) (g0 : (n == -9223372036854775808) = b) (g1 : (d == -1) = false) (b3 : 0 < r) (b4 : r < d) (b5 : 0 <= q) :
    Calls Tryz.prog 153 #[.int .i64 n, .int .i64 d, .int .i64 2] w fun e w' => e = .returned (.tuple #[.int .i64 (Plain.rnd 2 q r d), .int .i64 0]) /\ ∃ k, w' = w.drewN k := by
  have d0 : (d == 0) = false := by simp; omega
  have r0 : (r == 0) = false := by simp; omega
  have r1 : (r != 0) = true := by simp; omega
  have r2 : decide (r < 0) = false := by simp; omega
  have d2 : decide (d < 0) = false := by simp; omega
  have z0 : (r == 0) = false := by simp; omega
  have H := Lib.hid (Plain.rnd2_pp q r d b3 b4)
  cases b
  all_goals
    go_enter Tryz.func153, Tryz.ntmps153
    go_wp2_with (first | (go_at_call 168; refine (mode_ok _ _ (by omega) (by omega)).mono ?_; rintro e w' ⟨rfl, rfl⟩))
    go_step3
    go_wp2
    go_quiet (fail)
    go_wp2_with (first | (go_at_call 169; refine (mag_pos _ _ (by omega) (by omega)).mono ?_; rintro e w' ⟨rfl, rfl⟩) | (go_at_call 169; refine (mag_neg _ _ (by omega) (by omega)).mono ?_; rintro e w' ⟨rfl, rfl⟩))
    go_step3
    go_wp2
    refine wp_loop_rounds 2 ?_
    repeat any_goals (rw [rounds_succ]; go_wp2)
    try rw [Exit.noGoto_ret]
    go_ret2
    exact ⟨ret2 (by have h := H.out; omega), _, rfl⟩
set_option maxHeartbeats 4000000 in
theorem div_pp3 (n d q r : Int) (b : Bool) (w : World) (n0 : -9223372036854775808 <= n) (n1 : n <= 9223372036854775807) (hq : n.tdiv d = q) (hr : n.tmod d = r)
   (b1 : -4611686018427387904 <= q) (b2 : q <= 4611686018427387904) (b6 : -9223372036854775808 <= d) (b7 : d <= 9223372036854775807) (g0 : (n == -9223372036854775808) = b) (g1 : (d == -1) = false) (b3 : 0 < r) (b4 : r < d) (b5 : 0 <= q) :
    Calls Tryz.prog 153 #[.int .i64 n, .int .i64 d, .int .i64 3] w fun e w' => e = .returned (.tuple #[.int .i64 (Plain.rnd 3 q r d), .int .i64 0]) /\ ∃ k, w' = w.drewN k := by
  have d0 : (d == 0) = false := by simp; omega
  have r0 : (r == 0) = false := by simp; omega
  have r1 : (r != 0) = true := by simp; omega
  have r2 : decide (r < 0) = false := by simp; omega
  have d2 : decide (d < 0) = false := by simp; omega
  have z0 : (r == 0) = false := by simp; omega
  have H := Lib.hid (Plain.rnd3_pp q r d b3 b4)
  cases b
  all_goals
    go_enter Tryz.func153, Tryz.ntmps153
    go_wp2_with (first | (go_at_call 168; refine (mode_ok _ _ (by omega) (by omega)).mono ?_; rintro e w' ⟨rfl, rfl⟩))
    go_step3
    go_wp2
    go_quiet (fail)
    go_wp2_with (first | (go_at_call 169; refine (mag_pos _ _ (by omega) (by omega)).mono ?_; rintro e w' ⟨rfl, rfl⟩) | (go_at_call 169; refine (mag_neg _ _ (by omega) (by omega)).mono ?_; rintro e w' ⟨rfl, rfl⟩))
    go_step3
    go_wp2
    refine wp_loop_rounds 2 ?_
    repeat any_goals (rw [rounds_succ]; go_wp2)
    try rw [Exit.noGoto_ret]
    go_ret2
    exact ⟨ret2 (by have h := H.out; omega), _, rfl⟩
set_option maxHeartbeats 4000000 in
theorem div_pp4 (n d q r : Int) (b : Bool) (w : World) (n0 : -9223372036854775808 <= n) (n1 : n <= 9223372036854775807) (hq : n.tdiv d = q) (hr : n.tmod d = r)
   (b1 : -4611686018427387904 <= q) (b2 : q <= 4611686018427387904) (b6 : -9223372036854775808 <= d) (b7 : d <= 9223372036854775807) (g0 : (n == -9223372036854775808) = b) (g1 : (d == -1) = false) (b3 : 0 < r) (b4 : r < d) (b5 : 0 <= q) :
    Calls Tryz.prog 153 #[.int .i64 n, .int .i64 d, .int .i64 4] w fun e w' => e = .returned (.tuple #[.int .i64 (Plain.rnd 4 q r d), .int .i64 0]) /\ ∃ k, w' = w.drewN k := by
  have d0 : (d == 0) = false := by simp; omega
  have r0 : (r == 0) = false := by simp; omega
  have r1 : (r != 0) = true := by simp; omega
  have r2 : decide (r < 0) = false := by simp; omega
  have d2 : decide (d < 0) = false := by simp; omega
  have z0 : (r == 0) = false := by simp; omega
  obtain ⟨t0, H⟩ | ⟨t0, t1, t2, H⟩ | ⟨t0, t1, t2, H⟩ | ⟨t0, t1, H⟩ : (decide (r < d - r) = true /\ Hid (Plain.rnd 4 q r d = q)) \/ (decide (r < d - r) = false /\ (r == d - r) = true /\ (q % 2 == 0) = true /\ Hid (Plain.rnd 4 q r d = q)) \/ (decide (r < d - r) = false /\ (r == d - r) = true /\ (q % 2 == 0) = false /\ Hid (Plain.rnd 4 q r d = q + 1)) \/ (decide (r < d - r) = false /\ (r == d - r) = false /\ Hid (Plain.rnd 4 q r d = q + 1)) := by
    have hev := Plain.even_iff q
    by_cases c1 : r < d - r
    · exact .inl ⟨by simpa using c1, Lib.hid (Plain.rnd4_pp_lt q r d b3 b4 (by omega))⟩
    · by_cases c2 : r = d - r
      · by_cases c3 : q % 2 = 0
        · exact .inr (.inl ⟨by simp; omega, by simpa using c2, by simp; omega, Lib.hid (Plain.rnd4_pp_ev q r d b3 b4 (by omega) c3)⟩)
        · exact .inr (.inr (.inl ⟨by simp; omega, by simpa using c2, by simp; omega, Lib.hid (Plain.rnd4_pp_od q r d b3 b4 (by omega) (by omega))⟩))
      · exact .inr (.inr (.inr ⟨by simp; omega, by simpa using c2, Lib.hid (Plain.rnd4_pp_gt q r d b3 b4 (by omega))⟩))
  all_goals
    cases b
  all_goals
    go_enter Tryz.func153, Tryz.ntmps153
    go_wp2_with (first | (go_at_call 168; refine (mode_ok _ _ (by omega) (by omega)).mono ?_; rintro e w' ⟨rfl, rfl⟩))
    go_step3
    go_wp2
    go_quiet (fail)
    go_wp2_with (first | (go_at_call 169; refine (mag_pos _ _ (by omega) (by omega)).mono ?_; rintro e w' ⟨rfl, rfl⟩) | (go_at_call 169; refine (mag_neg _ _ (by omega) (by omega)).mono ?_; rintro e w' ⟨rfl, rfl⟩))
    go_step3
    go_wp2
    refine wp_loop_rounds 2 ?_
    repeat any_goals (rw [rounds_succ]; go_wp2)
    try rw [Exit.noGoto_ret]
    go_ret2
    exact ⟨ret2 (by have h := H.out; omega), _, rfl⟩
end Go.Proofs.YteaaikmejacpaaaGreatDoor.Dv


namespace Go.Proofs.YteaaikmejacpaaaGreatDoor.Dv
open Go.ChangeShapes Go.WideShapes Go.ChangeAt Go.RowKit
set_option linter.unusedVariables false
set_option linter.unusedSimpArgs false
set_option maxHeartbeats 4000000 in
theorem div_np1 (n d q r : Int) (b : Bool) (w : World) (n0 : -9223372036854775808 <= n) (n1 : n <= 9223372036854775807) (hq : n.tdiv d = q) (hr : n.tmod d = r)
   (b1 : -4611686018427387904 <= q) (b2 : q <= 4611686018427387904) (b6 : -9223372036854775808 <= d) (b7 : d <= 9223372036854775807) (g0 : (n == -9223372036854775808) = b) (g1 : (d == -1) = false) (b3 : r < 0) (b4 : -r < d) (b5 : q <= 0) :
    Calls Tryz.prog 153 #[.int .i64 n, .int .i64 d, .int .i64 1] w fun e w' => e = .returned (.tuple #[.int .i64 (Plain.rnd 1 q r d), .int .i64 0]) /\ ∃ k, w' = w.drewN k := by
  have d0 : (d == 0) = false := by simp; omega
  have r0 : (r == 0) = false := by simp; omega
  have r1 : (r != 0) = true := by simp; omega
  have r2 : decide (r < 0) = true := by simp; omega
  have d2 : decide (d < 0) = false := by simp; omega
  have z0 : ((r + d) == 0) = false := by simp; omega
  have H := Lib.hid (Plain.rnd1_np q r d b3 b4)
  cases b
  all_goals
    go_enter Tryz.func153, Tryz.ntmps153
    go_wp2_with (first | (go_at_call 168; refine (mode_ok _ _ (by omega) (by omega)).mono ?_; rintro e w' ⟨rfl, rfl⟩))
    go_step3
    go_wp2
    go_quiet (fail)
    go_wp2_with (first | (go_at_call 169; refine (mag_pos _ _ (by omega) (by omega)).mono ?_; rintro e w' ⟨rfl, rfl⟩) | (go_at_call 169; refine (mag_neg _ _ (by omega) (by omega)).mono ?_; rintro e w' ⟨rfl, rfl⟩))
    go_step3
    go_wp2
    refine wp_loop_rounds 2 ?_
    repeat any_goals (rw [rounds_succ]; go_wp2)
    try rw [Exit.noGoto_ret]
    go_ret2
    exact ⟨ret2 (by have h := H.out; omega), _, rfl⟩
set_option maxHeartbeats 4000000 in
theorem div_np2 (n d q r : Int) (b : Bool) (w : World) (n0 : -9223372036854775808 <= n) (n1 : n <= 9223372036854775807) (hq : n.tdiv d = q) (hr : n.tmod d = r)
   (b1 : -4611686018427387904 <= q) (b2 : q <= 4611686018427387904) (b6 : -9223372036854775808 <= d) (b7 : d <= 9223372036854775807) (g0 : (n == -9223372036854775808) = b) (g1 : (d == -1) = false) (b3 : r < 0) (b4 : -r < d) (b5 : q <= 0) :
    Calls Tryz.prog 153 #[.int .i64 n, .int .i64 d, .int .i64 2] w fun e w' => e = .returned (.tuple #[.int .i64 (Plain.rnd 2 q r d), .int .i64 0]) /\ ∃ k, w' = w.drewN k := by
  have d0 : (d == 0) = false := by simp; omega
  have r0 : (r == 0) = false := by simp; omega
  have r1 : (r != 0) = true := by simp; omega
  have r2 : decide (r < 0) = true := by simp; omega
  have d2 : decide (d < 0) = false := by simp; omega
  have z0 : ((r + d) == 0) = false := by simp; omega
  have H := Lib.hid (Plain.rnd2_np q r d b3 b4)
  cases b
  all_goals
    go_enter Tryz.func153, Tryz.ntmps153
    go_wp2_with (first | (go_at_call 168; refine (mode_ok _ _ (by omega) (by omega)).mono ?_; rintro e w' ⟨rfl, rfl⟩))
    go_step3
    go_wp2
    go_quiet (fail)
    go_wp2_with (first | (go_at_call 169; refine (mag_pos _ _ (by omega) (by omega)).mono ?_; rintro e w' ⟨rfl, rfl⟩) | (go_at_call 169; refine (mag_neg _ _ (by omega) (by omega)).mono ?_; rintro e w' ⟨rfl, rfl⟩))
    go_step3
    go_wp2
    refine wp_loop_rounds 2 ?_
    repeat any_goals (rw [rounds_succ]; go_wp2)
    try rw [Exit.noGoto_ret]
    go_ret2
    exact ⟨ret2 (by have h := H.out; omega), _, rfl⟩
set_option maxHeartbeats 4000000 in
theorem div_np3 (n d q r : Int) (b : Bool) (w : World) (n0 : -9223372036854775808 <= n) (n1 : n <= 9223372036854775807) (hq : n.tdiv d = q) (hr : n.tmod d = r)
   (b1 : -4611686018427387904 <= q) (b2 : q <= 4611686018427387904) (b6 : -9223372036854775808 <= d) (b7 : d <= 9223372036854775807) (g0 : (n == -9223372036854775808) = b) (g1 : (d == -1) = false) (b3 : r < 0) (b4 : -r < d) (b5 : q <= 0) :
    Calls Tryz.prog 153 #[.int .i64 n, .int .i64 d, .int .i64 3] w fun e w' => e = .returned (.tuple #[.int .i64 (Plain.rnd 3 q r d), .int .i64 0]) /\ ∃ k, w' = w.drewN k := by
  have d0 : (d == 0) = false := by simp; omega
  have r0 : (r == 0) = false := by simp; omega
  have r1 : (r != 0) = true := by simp; omega
  have r2 : decide (r < 0) = true := by simp; omega
  have d2 : decide (d < 0) = false := by simp; omega
  have z0 : ((r + d) == 0) = false := by simp; omega
  have H := Lib.hid (Plain.rnd3_np q r d b3 b4)
  cases b
  all_goals
    go_enter Tryz.func153, Tryz.ntmps153
    go_wp2_with (first | (go_at_call 168; refine (mode_ok _ _ (by omega) (by omega)).mono ?_; rintro e w' ⟨rfl, rfl⟩))
    go_step3
    go_wp2
    go_quiet (fail)
    go_wp2_with (first | (go_at_call 169; refine (mag_pos _ _ (by omega) (by omega)).mono ?_; rintro e w' ⟨rfl, rfl⟩) | (go_at_call 169; refine (mag_neg _ _ (by omega) (by omega)).mono ?_; rintro e w' ⟨rfl, rfl⟩))
    go_step3
    go_wp2
    refine wp_loop_rounds 2 ?_
    repeat any_goals (rw [rounds_succ]; go_wp2)
    try rw [Exit.noGoto_ret]
    go_ret2
    exact ⟨ret2 (by have h := H.out; omega), _, rfl⟩
set_option maxHeartbeats 4000000 in
theorem div_np4 (n d q r : Int) (b : Bool) (w : World) (n0 : -9223372036854775808 <= n) (n1 : n <= 9223372036854775807) (hq : n.tdiv d = q) (hr : n.tmod d = r)
   (b1 : -4611686018427387904 <= q) (b2 : q <= 4611686018427387904) (b6 : -9223372036854775808 <= d) (b7 : d <= 9223372036854775807) (g0 : (n == -9223372036854775808) = b) (g1 : (d == -1) = false) (b3 : r < 0) (b4 : -r < d) (b5 : q <= 0) :
    Calls Tryz.prog 153 #[.int .i64 n, .int .i64 d, .int .i64 4] w fun e w' => e = .returned (.tuple #[.int .i64 (Plain.rnd 4 q r d), .int .i64 0]) /\ ∃ k, w' = w.drewN k := by
  have d0 : (d == 0) = false := by simp; omega
  have r0 : (r == 0) = false := by simp; omega
  have r1 : (r != 0) = true := by simp; omega
  have r2 : decide (r < 0) = true := by simp; omega
  have d2 : decide (d < 0) = false := by simp; omega
  have z0 : ((r + d) == 0) = false := by simp; omega
  obtain ⟨t0, H⟩ | ⟨t0, t1, t2, H⟩ | ⟨t0, t1, t2, H⟩ | ⟨t0, t1, H⟩ : (decide ((r + d) < d - (r + d)) = true /\ Hid (Plain.rnd 4 q r d = (q - 1))) \/ (decide ((r + d) < d - (r + d)) = false /\ ((r + d) == d - (r + d)) = true /\ ((q - 1).tmod 2 == 0) = true /\ Hid (Plain.rnd 4 q r d = (q - 1))) \/ (decide ((r + d) < d - (r + d)) = false /\ ((r + d) == d - (r + d)) = true /\ ((q - 1).tmod 2 == 0) = false /\ Hid (Plain.rnd 4 q r d = (q - 1) + 1)) \/ (decide ((r + d) < d - (r + d)) = false /\ ((r + d) == d - (r + d)) = false /\ Hid (Plain.rnd 4 q r d = (q - 1) + 1)) := by
    have hev := Plain.even_iff (q - 1)
    by_cases c1 : (r + d) < d - (r + d)
    · exact .inl ⟨by simpa using c1, Lib.hid (Plain.rnd4_np_lt q r d b3 b4 (by omega))⟩
    · by_cases c2 : (r + d) = d - (r + d)
      · by_cases c3 : (q - 1) % 2 = 0
        · exact .inr (.inl ⟨by simp; omega, by simpa using c2, by simp; omega, Lib.hid (Plain.rnd4_np_ev q r d b3 b4 (by omega) c3)⟩)
        · exact .inr (.inr (.inl ⟨by simp; omega, by simpa using c2, by simp; omega, Lib.hid (Plain.rnd4_np_od q r d b3 b4 (by omega) (by omega))⟩))
      · exact .inr (.inr (.inr ⟨by simp; omega, by simpa using c2, Lib.hid (Plain.rnd4_np_gt q r d b3 b4 (by omega))⟩))
  all_goals
    cases b
  all_goals
    go_enter Tryz.func153, Tryz.ntmps153
    go_wp2_with (first | (go_at_call 168; refine (mode_ok _ _ (by omega) (by omega)).mono ?_; rintro e w' ⟨rfl, rfl⟩))
    go_step3
    go_wp2
    go_quiet (fail)
    go_wp2_with (first | (go_at_call 169; refine (mag_pos _ _ (by omega) (by omega)).mono ?_; rintro e w' ⟨rfl, rfl⟩) | (go_at_call 169; refine (mag_neg _ _ (by omega) (by omega)).mono ?_; rintro e w' ⟨rfl, rfl⟩))
    go_step3
    go_wp2
    refine wp_loop_rounds 2 ?_
    repeat any_goals (rw [rounds_succ]; go_wp2)
    try rw [Exit.noGoto_ret]
    go_ret2
    exact ⟨ret2 (by have h := H.out; omega), _, rfl⟩
end Go.Proofs.YteaaikmejacpaaaGreatDoor.Dv


namespace Go.Proofs.YteaaikmejacpaaaGreatDoor.Dv
open Go.ChangeShapes Go.WideShapes Go.ChangeAt Go.RowKit
set_option linter.unusedVariables false
set_option linter.unusedSimpArgs false
set_option maxHeartbeats 4000000 in
theorem div_nn1 (n d q r : Int) (b : Bool) (w : World) (n0 : -9223372036854775808 <= n) (n1 : n <= 9223372036854775807) (hq : n.tdiv d = q) (hr : n.tmod d = r)
   (b1 : -4611686018427387904 <= q) (b2 : q <= 4611686018427387904) (b6 : -9223372036854775808 <= d) (b7 : d <= 9223372036854775807) (g0 : (n == -9223372036854775808) = b) (g1 : (d == -1) = false) (b3 : r < 0) (b4 : d < r) (b5 : 0 <= q) :
    Calls Tryz.prog 153 #[.int .i64 n, .int .i64 d, .int .i64 1] w fun e w' => e = .returned (.tuple #[.int .i64 (Plain.rnd 1 q r d), .int .i64 0]) /\ ∃ k, w' = w.drewN k := by
  have d0 : (d == 0) = false := by simp; omega
  have r0 : (r == 0) = false := by simp; omega
  have r1 : (r != 0) = true := by simp; omega
  have r2 : decide (r < 0) = true := by simp; omega
  have d2 : decide (d < 0) = true := by simp; omega
  have z0 : ((-r) == 0) = false := by simp; omega
  have H := Lib.hid (Plain.rnd1_nn q r d b3 b4)
  cases b
  all_goals
    go_enter Tryz.func153, Tryz.ntmps153
    go_wp2_with (first | (go_at_call 168; refine (mode_ok _ _ (by omega) (by omega)).mono ?_; rintro e w' ⟨rfl, rfl⟩))
    go_step3
    go_wp2
    go_quiet (fail)
    go_wp2_with (first | (go_at_call 169; refine (mag_pos _ _ (by omega) (by omega)).mono ?_; rintro e w' ⟨rfl, rfl⟩) | (go_at_call 169; refine (mag_neg _ _ (by omega) (by omega)).mono ?_; rintro e w' ⟨rfl, rfl⟩))
    go_step3
    go_wp2
    refine wp_loop_rounds 2 ?_
    repeat any_goals (rw [rounds_succ]; go_wp2)
    try rw [Exit.noGoto_ret]
    go_ret2
    exact ⟨ret2 (by have h := H.out; omega), _, rfl⟩
set_option maxHeartbeats 4000000 in
theorem div_nn2 (n d q r : Int) (b : Bool) (w : World) (n0 : -9223372036854775808 <= n) (n1 : n <= 9223372036854775807) (hq : n.tdiv d = q) (hr : n.tmod d = r)
   (b1 : -4611686018427387904 <= q) (b2 : q <= 4611686018427387904) (b6 : -9223372036854775808 <= d) (b7 : d <= 9223372036854775807) (g0 : (n == -9223372036854775808) = b) (g1 : (d == -1) = false) (b3 : r < 0) (b4 : d < r) (b5 : 0 <= q) :
    Calls Tryz.prog 153 #[.int .i64 n, .int .i64 d, .int .i64 2] w fun e w' => e = .returned (.tuple #[.int .i64 (Plain.rnd 2 q r d), .int .i64 0]) /\ ∃ k, w' = w.drewN k := by
  have d0 : (d == 0) = false := by simp; omega
  have r0 : (r == 0) = false := by simp; omega
  have r1 : (r != 0) = true := by simp; omega
  have r2 : decide (r < 0) = true := by simp; omega
  have d2 : decide (d < 0) = true := by simp; omega
  have z0 : ((-r) == 0) = false := by simp; omega
  have H := Lib.hid (Plain.rnd2_nn q r d b3 b4)
  cases b
  all_goals
    go_enter Tryz.func153, Tryz.ntmps153
    go_wp2_with (first | (go_at_call 168; refine (mode_ok _ _ (by omega) (by omega)).mono ?_; rintro e w' ⟨rfl, rfl⟩))
    go_step3
    go_wp2
    go_quiet (fail)
    go_wp2_with (first | (go_at_call 169; refine (mag_pos _ _ (by omega) (by omega)).mono ?_; rintro e w' ⟨rfl, rfl⟩) | (go_at_call 169; refine (mag_neg _ _ (by omega) (by omega)).mono ?_; rintro e w' ⟨rfl, rfl⟩))
    go_step3
    go_wp2
    refine wp_loop_rounds 2 ?_
    repeat any_goals (rw [rounds_succ]; go_wp2)
    try rw [Exit.noGoto_ret]
    go_ret2
    exact ⟨ret2 (by have h := H.out; omega), _, rfl⟩
set_option maxHeartbeats 4000000 in
theorem div_nn3 (n d q r : Int) (b : Bool) (w : World) (n0 : -9223372036854775808 <= n) (n1 : n <= 9223372036854775807) (hq : n.tdiv d = q) (hr : n.tmod d = r)
   (b1 : -4611686018427387904 <= q) (b2 : q <= 4611686018427387904) (b6 : -9223372036854775808 <= d) (b7 : d <= 9223372036854775807) (g0 : (n == -9223372036854775808) = b) (g1 : (d == -1) = false) (b3 : r < 0) (b4 : d < r) (b5 : 0 <= q) :
    Calls Tryz.prog 153 #[.int .i64 n, .int .i64 d, .int .i64 3] w fun e w' => e = .returned (.tuple #[.int .i64 (Plain.rnd 3 q r d), .int .i64 0]) /\ ∃ k, w' = w.drewN k := by
  have d0 : (d == 0) = false := by simp; omega
  have r0 : (r == 0) = false := by simp; omega
  have r1 : (r != 0) = true := by simp; omega
  have r2 : decide (r < 0) = true := by simp; omega
  have d2 : decide (d < 0) = true := by simp; omega
  have z0 : ((-r) == 0) = false := by simp; omega
  have H := Lib.hid (Plain.rnd3_nn q r d b3 b4)
  cases b
  all_goals
    go_enter Tryz.func153, Tryz.ntmps153
    go_wp2_with (first | (go_at_call 168; refine (mode_ok _ _ (by omega) (by omega)).mono ?_; rintro e w' ⟨rfl, rfl⟩))
    go_step3
    go_wp2
    go_quiet (fail)
    go_wp2_with (first | (go_at_call 169; refine (mag_pos _ _ (by omega) (by omega)).mono ?_; rintro e w' ⟨rfl, rfl⟩) | (go_at_call 169; refine (mag_neg _ _ (by omega) (by omega)).mono ?_; rintro e w' ⟨rfl, rfl⟩))
    go_step3
    go_wp2
    refine wp_loop_rounds 2 ?_
    repeat any_goals (rw [rounds_succ]; go_wp2)
    try rw [Exit.noGoto_ret]
    go_ret2
    exact ⟨ret2 (by have h := H.out; omega), _, rfl⟩
set_option maxHeartbeats 4000000 in
theorem div_nn4 (n d q r : Int) (b : Bool) (w : World) (n0 : -9223372036854775808 <= n) (n1 : n <= 9223372036854775807) (hq : n.tdiv d = q) (hr : n.tmod d = r)
   (b1 : -4611686018427387904 <= q) (b2 : q <= 4611686018427387904) (b6 : -9223372036854775808 <= d) (b7 : d <= 9223372036854775807) (g0 : (n == -9223372036854775808) = b) (g1 : (d == -1) = false) (b3 : r < 0) (b4 : d < r) (b5 : 0 <= q) :
    Calls Tryz.prog 153 #[.int .i64 n, .int .i64 d, .int .i64 4] w fun e w' => e = .returned (.tuple #[.int .i64 (Plain.rnd 4 q r d), .int .i64 0]) /\ ∃ k, w' = w.drewN k := by
  have d0 : (d == 0) = false := by simp; omega
  have r0 : (r == 0) = false := by simp; omega
  have r1 : (r != 0) = true := by simp; omega
  have r2 : decide (r < 0) = true := by simp; omega
  have d2 : decide (d < 0) = true := by simp; omega
  have z0 : ((-r) == 0) = false := by simp; omega
  obtain ⟨t0, H⟩ | ⟨t0, t1, t2, H⟩ | ⟨t0, t1, t2, H⟩ | ⟨t0, t1, H⟩ : (decide ((-r) < -d + r) = true /\ Hid (Plain.rnd 4 q r d = q)) \/ (decide ((-r) < -d + r) = false /\ ((-r) == -d + r) = true /\ (q % 2 == 0) = true /\ Hid (Plain.rnd 4 q r d = q)) \/ (decide ((-r) < -d + r) = false /\ ((-r) == -d + r) = true /\ (q % 2 == 0) = false /\ Hid (Plain.rnd 4 q r d = q + 1)) \/ (decide ((-r) < -d + r) = false /\ ((-r) == -d + r) = false /\ Hid (Plain.rnd 4 q r d = q + 1)) := by
    have hev := Plain.even_iff q
    by_cases c1 : (-r) < -d + r
    · exact .inl ⟨by simpa using c1, Lib.hid (Plain.rnd4_nn_lt q r d b3 b4 (by omega))⟩
    · by_cases c2 : (-r) = -d + r
      · by_cases c3 : q % 2 = 0
        · exact .inr (.inl ⟨by simp; omega, by simpa using c2, by simp; omega, Lib.hid (Plain.rnd4_nn_ev q r d b3 b4 (by omega) c3)⟩)
        · exact .inr (.inr (.inl ⟨by simp; omega, by simpa using c2, by simp; omega, Lib.hid (Plain.rnd4_nn_od q r d b3 b4 (by omega) (by omega))⟩))
      · exact .inr (.inr (.inr ⟨by simp; omega, by simpa using c2, Lib.hid (Plain.rnd4_nn_gt q r d b3 b4 (by omega))⟩))
  all_goals
    cases b
  all_goals
    go_enter Tryz.func153, Tryz.ntmps153
    go_wp2_with (first | (go_at_call 168; refine (mode_ok _ _ (by omega) (by omega)).mono ?_; rintro e w' ⟨rfl, rfl⟩))
    go_step3
    go_wp2
    go_quiet (fail)
    go_wp2_with (first | (go_at_call 169; refine (mag_pos _ _ (by omega) (by omega)).mono ?_; rintro e w' ⟨rfl, rfl⟩) | (go_at_call 169; refine (mag_neg _ _ (by omega) (by omega)).mono ?_; rintro e w' ⟨rfl, rfl⟩))
    go_step3
    go_wp2
    refine wp_loop_rounds 2 ?_
    repeat any_goals (rw [rounds_succ]; go_wp2)
    try rw [Exit.noGoto_ret]
    go_ret2
    exact ⟨ret2 (by have h := H.out; omega), _, rfl⟩
end Go.Proofs.YteaaikmejacpaaaGreatDoor.Dv


namespace Go.Proofs.YteaaikmejacpaaaGreatDoor.Dv
open Go.ChangeShapes Go.WideShapes Go.ChangeAt Go.RowKit
set_option linter.unusedVariables false
set_option linter.unusedSimpArgs false
set_option maxHeartbeats 4000000 in
theorem div_pn1 (n d q r : Int) (b : Bool) (w : World) (n0 : -9223372036854775808 <= n) (n1 : n <= 9223372036854775807) (hq : n.tdiv d = q) (hr : n.tmod d = r)
   (b1 : -4611686018427387904 <= q) (b2 : q <= 4611686018427387904) (b6 : -9223372036854775808 <= d) (b7 : d <= 9223372036854775807) (g0 : (n == -9223372036854775808) = b) (g1 : (d == -1) = false) (b3 : 0 < r) (b4 : r < -d) (b5 : q <= 0) :
    Calls Tryz.prog 153 #[.int .i64 n, .int .i64 d, .int .i64 1] w fun e w' => e = .returned (.tuple #[.int .i64 (Plain.rnd 1 q r d), .int .i64 0]) /\ ∃ k, w' = w.drewN k := by
  have d0 : (d == 0) = false := by simp; omega
  have r0 : (r == 0) = false := by simp; omega
  have r1 : (r != 0) = true := by simp; omega
  have r2 : decide (r < 0) = false := by simp; omega
  have d2 : decide (d < 0) = true := by simp; omega
  have z0 : ((-(r + d)) == 0) = false := by simp; omega
  have H := Lib.hid (Plain.rnd1_pn q r d b3 b4)
  cases b
  all_goals
    go_enter Tryz.func153, Tryz.ntmps153
    go_wp2_with (first | (go_at_call 168; refine (mode_ok _ _ (by omega) (by omega)).mono ?_; rintro e w' ⟨rfl, rfl⟩))
    go_step3
    go_wp2
    go_quiet (fail)
    go_wp2_with (first | (go_at_call 169; refine (mag_pos _ _ (by omega) (by omega)).mono ?_; rintro e w' ⟨rfl, rfl⟩) | (go_at_call 169; refine (mag_neg _ _ (by omega) (by omega)).mono ?_; rintro e w' ⟨rfl, rfl⟩))
    go_step3
    go_wp2
    refine wp_loop_rounds 2 ?_
    repeat any_goals (rw [rounds_succ]; go_wp2)
    try rw [Exit.noGoto_ret]
    go_ret2
    exact ⟨ret2 (by have h := H.out; omega), _, rfl⟩
set_option maxHeartbeats 4000000 in
theorem div_pn2 (n d q r : Int) (b : Bool) (w : World) (n0 : -9223372036854775808 <= n) (n1 : n <= 9223372036854775807) (hq : n.tdiv d = q) (hr : n.tmod d = r)
   (b1 : -4611686018427387904 <= q) (b2 : q <= 4611686018427387904) (b6 : -9223372036854775808 <= d) (b7 : d <= 9223372036854775807) (g0 : (n == -9223372036854775808) = b) (g1 : (d == -1) = false) (b3 : 0 < r) (b4 : r < -d) (b5 : q <= 0) :
    Calls Tryz.prog 153 #[.int .i64 n, .int .i64 d, .int .i64 2] w fun e w' => e = .returned (.tuple #[.int .i64 (Plain.rnd 2 q r d), .int .i64 0]) /\ ∃ k, w' = w.drewN k := by
  have d0 : (d == 0) = false := by simp; omega
  have r0 : (r == 0) = false := by simp; omega
  have r1 : (r != 0) = true := by simp; omega
  have r2 : decide (r < 0) = false := by simp; omega
  have d2 : decide (d < 0) = true := by simp; omega
  have z0 : ((-(r + d)) == 0) = false := by simp; omega
  have H := Lib.hid (Plain.rnd2_pn q r d b3 b4)
  cases b
  all_goals
    go_enter Tryz.func153, Tryz.ntmps153
    go_wp2_with (first | (go_at_call 168; refine (mode_ok _ _ (by omega) (by omega)).mono ?_; rintro e w' ⟨rfl, rfl⟩))
    go_step3
    go_wp2
    go_quiet (fail)
    go_wp2_with (first | (go_at_call 169; refine (mag_pos _ _ (by omega) (by omega)).mono ?_; rintro e w' ⟨rfl, rfl⟩) | (go_at_call 169; refine (mag_neg _ _ (by omega) (by omega)).mono ?_; rintro e w' ⟨rfl, rfl⟩))
    go_step3
    go_wp2
    refine wp_loop_rounds 2 ?_
    repeat any_goals (rw [rounds_succ]; go_wp2)
    try rw [Exit.noGoto_ret]
    go_ret2
    exact ⟨ret2 (by have h := H.out; omega), _, rfl⟩
set_option maxHeartbeats 4000000 in
theorem div_pn3 (n d q r : Int) (b : Bool) (w : World) (n0 : -9223372036854775808 <= n) (n1 : n <= 9223372036854775807) (hq : n.tdiv d = q) (hr : n.tmod d = r)
   (b1 : -4611686018427387904 <= q) (b2 : q <= 4611686018427387904) (b6 : -9223372036854775808 <= d) (b7 : d <= 9223372036854775807) (g0 : (n == -9223372036854775808) = b) (g1 : (d == -1) = false) (b3 : 0 < r) (b4 : r < -d) (b5 : q <= 0) :
    Calls Tryz.prog 153 #[.int .i64 n, .int .i64 d, .int .i64 3] w fun e w' => e = .returned (.tuple #[.int .i64 (Plain.rnd 3 q r d), .int .i64 0]) /\ ∃ k, w' = w.drewN k := by
  have d0 : (d == 0) = false := by simp; omega
  have r0 : (r == 0) = false := by simp; omega
  have r1 : (r != 0) = true := by simp; omega
  have r2 : decide (r < 0) = false := by simp; omega
  have d2 : decide (d < 0) = true := by simp; omega
  have z0 : ((-(r + d)) == 0) = false := by simp; omega
  have H := Lib.hid (Plain.rnd3_pn q r d b3 b4)
  cases b
  all_goals
    go_enter Tryz.func153, Tryz.ntmps153
    go_wp2_with (first | (go_at_call 168; refine (mode_ok _ _ (by omega) (by omega)).mono ?_; rintro e w' ⟨rfl, rfl⟩))
    go_step3
    go_wp2
    go_quiet (fail)
    go_wp2_with (first | (go_at_call 169; refine (mag_pos _ _ (by omega) (by omega)).mono ?_; rintro e w' ⟨rfl, rfl⟩) | (go_at_call 169; refine (mag_neg _ _ (by omega) (by omega)).mono ?_; rintro e w' ⟨rfl, rfl⟩))
    go_step3
    go_wp2
    refine wp_loop_rounds 2 ?_
    repeat any_goals (rw [rounds_succ]; go_wp2)
    try rw [Exit.noGoto_ret]
    go_ret2
    exact ⟨ret2 (by have h := H.out; omega), _, rfl⟩
set_option maxHeartbeats 4000000 in
theorem div_pn4 (n d q r : Int) (b : Bool) (w : World) (n0 : -9223372036854775808 <= n) (n1 : n <= 9223372036854775807) (hq : n.tdiv d = q) (hr : n.tmod d = r)
   (b1 : -4611686018427387904 <= q) (b2 : q <= 4611686018427387904) (b6 : -9223372036854775808 <= d) (b7 : d <= 9223372036854775807) (g0 : (n == -9223372036854775808) = b) (g1 : (d == -1) = false) (b3 : 0 < r) (b4 : r < -d) (b5 : q <= 0) :
    Calls Tryz.prog 153 #[.int .i64 n, .int .i64 d, .int .i64 4] w fun e w' => e = .returned (.tuple #[.int .i64 (Plain.rnd 4 q r d), .int .i64 0]) /\ ∃ k, w' = w.drewN k := by
  have d0 : (d == 0) = false := by simp; omega
  have r0 : (r == 0) = false := by simp; omega
  have r1 : (r != 0) = true := by simp; omega
  have r2 : decide (r < 0) = false := by simp; omega
  have d2 : decide (d < 0) = true := by simp; omega
  have z0 : ((-(r + d)) == 0) = false := by simp; omega
  obtain ⟨t0, H⟩ | ⟨t0, t1, t2, H⟩ | ⟨t0, t1, t2, H⟩ | ⟨t0, t1, H⟩ : (decide ((-(r + d)) < -d + (r + d)) = true /\ Hid (Plain.rnd 4 q r d = (q - 1))) \/ (decide ((-(r + d)) < -d + (r + d)) = false /\ ((-(r + d)) == -d + (r + d)) = true /\ ((q - 1).tmod 2 == 0) = true /\ Hid (Plain.rnd 4 q r d = (q - 1))) \/ (decide ((-(r + d)) < -d + (r + d)) = false /\ ((-(r + d)) == -d + (r + d)) = true /\ ((q - 1).tmod 2 == 0) = false /\ Hid (Plain.rnd 4 q r d = (q - 1) + 1)) \/ (decide ((-(r + d)) < -d + (r + d)) = false /\ ((-(r + d)) == -d + (r + d)) = false /\ Hid (Plain.rnd 4 q r d = (q - 1) + 1)) := by
    have hev := Plain.even_iff (q - 1)
    by_cases c1 : (-(r + d)) < -d + (r + d)
    · exact .inl ⟨by simpa using c1, Lib.hid (Plain.rnd4_pn_lt q r d b3 b4 (by omega))⟩
    · by_cases c2 : (-(r + d)) = -d + (r + d)
      · by_cases c3 : (q - 1) % 2 = 0
        · exact .inr (.inl ⟨by simp; omega, by simpa using c2, by simp; omega, Lib.hid (Plain.rnd4_pn_ev q r d b3 b4 (by omega) c3)⟩)
        · exact .inr (.inr (.inl ⟨by simp; omega, by simpa using c2, by simp; omega, Lib.hid (Plain.rnd4_pn_od q r d b3 b4 (by omega) (by omega))⟩))
      · exact .inr (.inr (.inr ⟨by simp; omega, by simpa using c2, Lib.hid (Plain.rnd4_pn_gt q r d b3 b4 (by omega))⟩))
  all_goals
    cases b
  all_goals
    go_enter Tryz.func153, Tryz.ntmps153
    go_wp2_with (first | (go_at_call 168; refine (mode_ok _ _ (by omega) (by omega)).mono ?_; rintro e w' ⟨rfl, rfl⟩))
    go_step3
    go_wp2
    go_quiet (fail)
    go_wp2_with (first | (go_at_call 169; refine (mag_pos _ _ (by omega) (by omega)).mono ?_; rintro e w' ⟨rfl, rfl⟩) | (go_at_call 169; refine (mag_neg _ _ (by omega) (by omega)).mono ?_; rintro e w' ⟨rfl, rfl⟩))
    go_step3
    go_wp2
    refine wp_loop_rounds 2 ?_
    repeat any_goals (rw [rounds_succ]; go_wp2)
    try rw [Exit.noGoto_ret]
    go_ret2
    exact ⟨ret2 (by have h := H.out; omega), _, rfl⟩
end Go.Proofs.YteaaikmejacpaaaGreatDoor.Dv


namespace Go.Proofs.YteaaikmejacpaaaGreatDoor.Dv
open Go.ChangeShapes Go.WideShapes Go.ChangeAt Go.RowKit
set_option linter.unusedVariables false
set_option linter.unusedSimpArgs false
def dval (how n d : Int) : Int :=
 if how < 1 \/ 4 < how then 0 else if d = 0 then 0 else if n = -9223372036854775808 /\ d = -1 then 0 else Plain.rnd how (n.tdiv d) (n.tmod d) d
def derr (how n d : Int) : Int :=
 if how < 1 \/ 4 < how then 1 else if d = 0 then 4 else if n = -9223372036854775808 /\ d = -1 then 3 else 0
set_option maxHeartbeats 4000000 in
theorem div_exact (n d q how : Int) (b c : Bool) (w : World) (n0 : -9223372036854775808 <= n) (n1 : n <= 9223372036854775807) (hq : n.tdiv d = q) (hr : n.tmod d = 0)
   (b1 : -9223372036854775808 <= q) (b2 : q <= 9223372036854775807) (b6 : -9223372036854775808 <= d) (b7 : d <= 9223372036854775807) (g0 : (n == -9223372036854775808) = b) (g1 : (d == -1) = c) (hbc : b = false \/ c = false) (hd : d < 0 \/ 0 < d) (h : 1 <= how) (h' : how <= 4) :
    Calls Tryz.prog 153 #[.int .i64 n, .int .i64 d, .int .i64 how] w fun e w' => e = .returned (.tuple #[.int .i64 q, .int .i64 0]) /\ ∃ k, w' = w.drewN k := by
  have d0 : (d == 0) = false := by simp; omega
  have m2 : decide (how <= 4) = true := by simp; omega
  have m1 : decide (1 <= how) = true := by simp; omega
  cases b <;> cases c <;> (first | (exfalso; simp at hbc; done) | skip)
  all_goals rcases hd with hd | hd
  all_goals
    clear hbc
    go_enter Tryz.func153, Tryz.ntmps153
    go_wp2_with (first | (go_at_call 168; refine (mode_ok _ _ (by omega) (by omega)).mono ?_; rintro e w' ⟨rfl, rfl⟩))
    go_step3
    go_wp2
    go_quiet (fail)
    go_wp2_with (first | (go_at_call 169; refine (mag_pos _ _ (by omega) (by omega)).mono ?_; rintro e w' ⟨rfl, rfl⟩) | (go_at_call 169; refine (mag_neg _ _ (by omega) (by omega)).mono ?_; rintro e w' ⟨rfl, rfl⟩))
    go_step3
    go_wp2
    refine wp_loop_rounds 2 ?_
    repeat any_goals (rw [rounds_succ]; go_wp2)
    try rw [Exit.noGoto_ret]
    go_ret2
    exact ⟨rfl, _, rfl⟩
theorem div_any (how n d : Int) (w : World) (n0 : -9223372036854775808 <= n) (n1 : n <= 9223372036854775807) (b6 : -9223372036854775808 <= d) (b7 : d <= 9223372036854775807) :
  Calls Tryz.prog 153 #[.int .i64 n, .int .i64 d, .int .i64 how] w fun e w' => e = .returned (.tuple #[.int .i64 (dval how n d), .int .i64 (derr how n d)]) /\ ∃ k, w' = w.drewN k := by
 by_cases hm : how < 1 \/ 4 < how
 ·rw [show dval how n d = 0 from by unfold dval; rw [if_pos hm], show derr how n d = 1 from by unfold derr; rw [if_pos hm]]
  exact div_bad n d how w hm
 ·by_cases hd : d = 0
  ·subst hd
   rw [show dval how n 0 = 0 from by unfold dval; rw [if_neg hm, if_pos rfl], show derr how n 0 = 4 from by unfold derr; rw [if_neg hm, if_pos rfl]]
   exact div_zero n how w (by omega) (by omega)
  ·by_cases hx : n = -9223372036854775808 /\ d = -1
   ·rw [show dval how n d = 0 from by unfold dval; rw [if_neg hm, if_neg hd, if_pos hx], show derr how n d = 3 from by unfold derr; rw [if_neg hm, if_neg hd, if_pos hx]]
    obtain ⟨rfl, rfl⟩ := hx
    exact div_min how w (by omega) (by omega)
   ·rw [show dval how n d = Plain.rnd how (n.tdiv d) (n.tmod d) d from by unfold dval; rw [if_neg hm, if_neg hd, if_neg hx], show derr how n d = 0 from by unfold derr; rw [if_neg hm, if_neg hd, if_neg hx]]
    have F := Plain.tfacts n d hd
    have S := Plain.tsign n d
    obtain ⟨q, hq⟩ : ∃ q, n.tdiv d = q := ⟨_, rfl⟩
    obtain ⟨r, hr⟩ : ∃ r, n.tmod d = r := ⟨_, rfl⟩
    rw [hq, hr] at F
    rw [hq] at S
    rw [hq, hr]
    obtain ⟨F1, F2, F3, F4, F5⟩ := F
    obtain ⟨S1, S2, S3, S4⟩ := S
    by_cases h0 : r = 0
    ·subst h0
     rw [show Plain.rnd how q 0 d = q from by unfold Plain.rnd; rw [if_pos rfl]]
     have hmax : q <= 9223372036854775807 := by
      by_cases hn : n = -9223372036854775808
      ·by_cases hdd : 0 < d
       ·have := S4 (by omega) hdd; omega
       ·have h2 : 2 <= d.natAbs := by
         have : d ≠ -1 := fun h => hx ⟨hn, h⟩
         omega
        have hq2 := congrArg Int.natAbs hq
        rw [Plain.natAbs_div] at hq2
        have h3 := Nat.div_mul_le_self n.natAbs d.natAbs
        have h4 := Nat.mul_le_mul_left (n.natAbs / d.natAbs) h2
        omega
      ·omega
     refine div_exact n d q how _ _ w n0 n1 hq hr (by omega) hmax b6 b7 rfl rfl ?_ (by omega) (by omega) (by omega)
     by_cases hn : n = -9223372036854775808
     ·exact .inr (by simp; exact fun h => hx ⟨hn, h⟩)
     ·exact .inl (by simpa using hn)
    ·have F3' := F3 h0
     have g1 : (d == -1) = false := by simp; omega
     rcases (by omega : how = 1 \/ how = 2 \/ how = 3 \/ how = 4) with rfl | rfl | rfl | rfl
     all_goals
      by_cases hr0 : 0 < r
      all_goals by_cases hd0 : 0 < d
     ·have hn := F4 hr0; exact div_pp1 n d q r _ w n0 n1 hq hr (by omega) (by omega) b6 b7 rfl g1 (by omega) (by omega) (S1 hn hd0)
     ·have hn := F4 hr0; exact div_pn1 n d q r _ w n0 n1 hq hr (by omega) (by omega) b6 b7 rfl g1 (by omega) (by omega) (S3 hn (by omega))
     ·have hn := F5 (by omega); exact div_np1 n d q r _ w n0 n1 hq hr (by omega) (by omega) b6 b7 rfl g1 (by omega) (by omega) (S4 hn hd0)
     ·have hn := F5 (by omega); exact div_nn1 n d q r _ w n0 n1 hq hr (by omega) (by omega) b6 b7 rfl g1 (by omega) (by omega) (S2 hn (by omega))
     ·have hn := F4 hr0; exact div_pp2 n d q r _ w n0 n1 hq hr (by omega) (by omega) b6 b7 rfl g1 (by omega) (by omega) (S1 hn hd0)
     ·have hn := F4 hr0; exact div_pn2 n d q r _ w n0 n1 hq hr (by omega) (by omega) b6 b7 rfl g1 (by omega) (by omega) (S3 hn (by omega))
     ·have hn := F5 (by omega); exact div_np2 n d q r _ w n0 n1 hq hr (by omega) (by omega) b6 b7 rfl g1 (by omega) (by omega) (S4 hn hd0)
     ·have hn := F5 (by omega); exact div_nn2 n d q r _ w n0 n1 hq hr (by omega) (by omega) b6 b7 rfl g1 (by omega) (by omega) (S2 hn (by omega))
     ·have hn := F4 hr0; exact div_pp3 n d q r _ w n0 n1 hq hr (by omega) (by omega) b6 b7 rfl g1 (by omega) (by omega) (S1 hn hd0)
     ·have hn := F4 hr0; exact div_pn3 n d q r _ w n0 n1 hq hr (by omega) (by omega) b6 b7 rfl g1 (by omega) (by omega) (S3 hn (by omega))
     ·have hn := F5 (by omega); exact div_np3 n d q r _ w n0 n1 hq hr (by omega) (by omega) b6 b7 rfl g1 (by omega) (by omega) (S4 hn hd0)
     ·have hn := F5 (by omega); exact div_nn3 n d q r _ w n0 n1 hq hr (by omega) (by omega) b6 b7 rfl g1 (by omega) (by omega) (S2 hn (by omega))
     ·have hn := F4 hr0; exact div_pp4 n d q r _ w n0 n1 hq hr (by omega) (by omega) b6 b7 rfl g1 (by omega) (by omega) (S1 hn hd0)
     ·have hn := F4 hr0; exact div_pn4 n d q r _ w n0 n1 hq hr (by omega) (by omega) b6 b7 rfl g1 (by omega) (by omega) (S3 hn (by omega))
     ·have hn := F5 (by omega); exact div_np4 n d q r _ w n0 n1 hq hr (by omega) (by omega) b6 b7 rfl g1 (by omega) (by omega) (S4 hn hd0)
     ·have hn := F5 (by omega); exact div_nn4 n d q r _ w n0 n1 hq hr (by omega) (by omega) b6 b7 rfl g1 (by omega) (by omega) (S2 hn (by omega))
end Go.Proofs.YteaaikmejacpaaaGreatDoor.Dv


namespace Go.Proofs.YteaaikmejacpaaaGreatDoor.Fx
open Go.ChangeShapes Go.WideShapes Go.ChangeAt Go.RowKit
open Fr
set_option linter.unusedVariables false
set_option linter.unusedSimpArgs false
theorem ret1 {k : IntKind} {a b : Int} (h : a = b) : Ending.returned (.int k a) = .returned (.int k b) := by rw [h]

end Go.Proofs.YteaaikmejacpaaaGreatDoor.Fx


namespace Go.Proofs.YteaaikmejacpaaaGreatDoor.Nx
open Go.ChangeShapes Go.WideShapes Go.ChangeAt Go.RowKit
set_option linter.unusedVariables false
set_option linter.unusedSimpArgs false
set_option maxHeartbeats 8000000 in
theorem cnar_bad (n bits over : Int) (w : World) (h0 : -9223372036854775808 <= bits) (h1 : bits <= 9223372036854775807) (hb : nbad bits over) :
  Calls Tryz.prog 180 #[.int .i64 n, .int .i64 bits, .int .i64 over] w fun e w' => e = .returned (.tuple #[.int .i64 0, .bool false]) /\ w = w' := by
 rcases hb with (hb | hb) | ⟨hb, hc⟩
 ·have k1 : decide (2 <= bits) = false := by simp; omega
  have k2 : decide (bits < 2) = true := by simp; omega
  go_enter Tryz.func180, Tryz.ntmps180
  go_wp2
  all_goals
   go_ret2
   exact ⟨rfl, rfl⟩
 ·have k1 : decide (2 <= bits) = true := by simp; omega
  have k2 : decide (bits < 2) = false := by simp; omega
  have k3 : decide (bits <= 31) = false := by simp; omega
  have k4 : decide (31 < bits) = true := by simp; omega
  go_enter Tryz.func180, Tryz.ntmps180
  go_wp2
  all_goals
   go_ret2
   exact ⟨rfl, rfl⟩
 ·have o1 : (over != 1) = true := by simpa using hb
  have o2 : (over != 2) = true := by simpa using hc
  clear hb hc
  obtain ⟨x1, x2, x3, x4, y1, y2, y3, y4⟩ : ∃ x1 x2 x3 x4, decide (2 <= bits) = x1 /\ decide (bits < 2) = x2 /\ decide (bits <= 31) = x3 /\ decide (31 < bits) = x4 := ⟨_, _, _, _, rfl, rfl, rfl, rfl⟩
  cases x1 <;> cases x2 <;> cases x3 <;> cases x4
  all_goals
   go_enter Tryz.func180, Tryz.ntmps180
   go_wp2
   all_goals
    go_ret2
    exact ⟨rfl, rfl⟩
end Go.Proofs.YteaaikmejacpaaaGreatDoor.Nx


namespace Go.Proofs.YteaaikmejacpaaaGreatDoor.Nx
open Go.ChangeShapes Go.WideShapes Go.ChangeAt Go.RowKit
set_option linter.unusedVariables false
set_option linter.unusedSimpArgs false
set_option maxHeartbeats 16000000 in
theorem cnar_1 (n bits : Int) (w : World) (n0 : -9223372036854775808 <= n) (n1 : n <= 9223372036854775807) (h0 : 2 <= bits) (h1 : bits <= 31) :
  Calls Tryz.prog 180 #[.int .i64 n, .int .i64 bits, .int .i64 1] w fun e w' => e = .returned (.tuple #[.int .i64 (nv n bits 1), .bool (nb n bits 1)]) /\ w = w' := by
 have hg : ¬ nbad bits 1 := by unfold nbad; omega
 rcases (by omega : n < - half bits \/ half bits - 1 < n \/ (- half bits <= n /\ n <= half bits - 1)) with c | c | ⟨c, c'⟩
 ·have Hn : nb n bits 1 = true := by unfold nb; rw [if_neg hg]; simp; omega
  have H : nv n bits 1 = - half bits := by unfold nv; rw [if_neg hg, if_pos c]; rw [if_pos rfl]
  rw [Hn]
  have HH := Lib.hid H
  clear H Hn hg
  rcases widths bits h0 h1 with ⟨rfl, hh, hf⟩ | ⟨rfl, hh, hf⟩ | ⟨rfl, hh, hf⟩ | ⟨rfl, hh, hf⟩ | ⟨rfl, hh, hf⟩ | ⟨rfl, hh, hf⟩ | ⟨rfl, hh, hf⟩ | ⟨rfl, hh, hf⟩ | ⟨rfl, hh, hf⟩ | ⟨rfl, hh, hf⟩ | ⟨rfl, hh, hf⟩ | ⟨rfl, hh, hf⟩ | ⟨rfl, hh, hf⟩ | ⟨rfl, hh, hf⟩ | ⟨rfl, hh, hf⟩ | ⟨rfl, hh, hf⟩ | ⟨rfl, hh, hf⟩ | ⟨rfl, hh, hf⟩ | ⟨rfl, hh, hf⟩ | ⟨rfl, hh, hf⟩ | ⟨rfl, hh, hf⟩ | ⟨rfl, hh, hf⟩ | ⟨rfl, hh, hf⟩ | ⟨rfl, hh, hf⟩ | ⟨rfl, hh, hf⟩ | ⟨rfl, hh, hf⟩ | ⟨rfl, hh, hf⟩ | ⟨rfl, hh, hf⟩ | ⟨rfl, hh, hf⟩ | ⟨rfl, hh, hf⟩
  all_goals
   rw [hh] at HH
   rw [hh] at c
   clear hh hf h0 h1
   go_enter Tryz.func180, Tryz.ntmps180
   go_wp2
   all_goals
    go_ret2
    exact ⟨ret2v (by have h := HH.out; omega) rfl, rfl⟩
 ·have Hn : nb n bits 1 = true := by unfold nb; rw [if_neg hg]; simp; omega
  have hl : 0 < half bits := by unfold half; exact Int.pow_pos (by decide)
  have H : nv n bits 1 = half bits - 1 := by unfold nv; rw [if_neg hg, if_neg (by omega), if_pos c]; rw [if_pos rfl]
  rw [Hn]
  have HH := Lib.hid H
  clear H Hn hg hl
  rcases widths bits h0 h1 with ⟨rfl, hh, hf⟩ | ⟨rfl, hh, hf⟩ | ⟨rfl, hh, hf⟩ | ⟨rfl, hh, hf⟩ | ⟨rfl, hh, hf⟩ | ⟨rfl, hh, hf⟩ | ⟨rfl, hh, hf⟩ | ⟨rfl, hh, hf⟩ | ⟨rfl, hh, hf⟩ | ⟨rfl, hh, hf⟩ | ⟨rfl, hh, hf⟩ | ⟨rfl, hh, hf⟩ | ⟨rfl, hh, hf⟩ | ⟨rfl, hh, hf⟩ | ⟨rfl, hh, hf⟩ | ⟨rfl, hh, hf⟩ | ⟨rfl, hh, hf⟩ | ⟨rfl, hh, hf⟩ | ⟨rfl, hh, hf⟩ | ⟨rfl, hh, hf⟩ | ⟨rfl, hh, hf⟩ | ⟨rfl, hh, hf⟩ | ⟨rfl, hh, hf⟩ | ⟨rfl, hh, hf⟩ | ⟨rfl, hh, hf⟩ | ⟨rfl, hh, hf⟩ | ⟨rfl, hh, hf⟩ | ⟨rfl, hh, hf⟩ | ⟨rfl, hh, hf⟩ | ⟨rfl, hh, hf⟩
  all_goals
   rw [hh] at HH
   rw [hh] at c
   clear hh hf h0 h1
   go_enter Tryz.func180, Tryz.ntmps180
   go_wp2
   all_goals
    go_ret2
    exact ⟨ret2v (by have h := HH.out; omega) rfl, rfl⟩
 ·have Hn : nb n bits 1 = false := by unfold nb; rw [if_neg hg]; simp; omega
  have H : nv n bits 1 = n := by unfold nv; rw [if_neg hg, if_neg (by omega), if_neg (by omega)]
  rw [Hn]
  have HH := Lib.hid H
  clear H Hn hg
  rcases widths bits h0 h1 with ⟨rfl, hh, hf⟩ | ⟨rfl, hh, hf⟩ | ⟨rfl, hh, hf⟩ | ⟨rfl, hh, hf⟩ | ⟨rfl, hh, hf⟩ | ⟨rfl, hh, hf⟩ | ⟨rfl, hh, hf⟩ | ⟨rfl, hh, hf⟩ | ⟨rfl, hh, hf⟩ | ⟨rfl, hh, hf⟩ | ⟨rfl, hh, hf⟩ | ⟨rfl, hh, hf⟩ | ⟨rfl, hh, hf⟩ | ⟨rfl, hh, hf⟩ | ⟨rfl, hh, hf⟩ | ⟨rfl, hh, hf⟩ | ⟨rfl, hh, hf⟩ | ⟨rfl, hh, hf⟩ | ⟨rfl, hh, hf⟩ | ⟨rfl, hh, hf⟩ | ⟨rfl, hh, hf⟩ | ⟨rfl, hh, hf⟩ | ⟨rfl, hh, hf⟩ | ⟨rfl, hh, hf⟩ | ⟨rfl, hh, hf⟩ | ⟨rfl, hh, hf⟩ | ⟨rfl, hh, hf⟩ | ⟨rfl, hh, hf⟩ | ⟨rfl, hh, hf⟩ | ⟨rfl, hh, hf⟩
  all_goals
   rw [hh] at c c'
   clear hh hf h0 h1
   go_enter Tryz.func180, Tryz.ntmps180
   go_wp2
   all_goals
    go_ret2
    exact ⟨ret2v HH.out.symm rfl, rfl⟩
end Go.Proofs.YteaaikmejacpaaaGreatDoor.Nx
