/- Divide of the reference for fixed-point numbers: the rounded quotient. -/
import Derived.Test.YtaagegiehjpgiaaFxTy
import Derived.Test.YtaagegiehjpgiaaDivAll
namespace Go.Proofs.Ytaagegiehjpgiaa.Fx
open Go.ChangeShapes Go.WideShapes Go.ChangeAt Go.RowKit
set_option linter.unusedVariables false

open Fr
theorem ret1 {k : IntKind} {a b : Int} (h : a = b) : Ending.returned (.int k a) = .returned (.int k b) := by rw [h]
theorem emod_tmod (x m : Int) (h : 0 < m) : x % m = if x.tmod m < 0 then x.tmod m + m else x.tmod m := by
  have e := Int.mul_tdiv_add_tmod x m
  have F := Plain.tfacts x m (by omega)
  obtain ⟨f, _, _, _, _⟩ := F
  have e2 : x % m = (x.tmod m) % m := by
    have e3 : x % m = (x.tmod m + m * x.tdiv m) % m := congrArg (· % m) (by omega)
    rw [e3, Int.add_mul_emod_self_left]
  rw [e2]
  split
  · rw [← Int.add_emod_right, Int.emod_eq_of_lt (by omega) (by omega)]
  · rw [Int.emod_eq_of_lt (by omega) (by omega)]
set_option maxHeartbeats 4000000 in
theorem rd_np1 (n d q r : Int) (w : World) (hq : n.tdiv d = q) (hr : n.tmod d = r) (q0 : -4611686018427387904 ≤ q) (q1 : q ≤ 4611686018427387904) (d0 : 1 ≤ d) (d1 : d ≤ 2305843009213693952) (b3 : r < 0) (b4 : -r < d) (nb : n < 0) (q2 : q ≤ 0) :
    Calls Try.prog 37 #[.int .i64 n, .int .i64 d, .int .i64 1] w fun e w' => e = .returned (.int .i64 (Plain.rnd 1 q r d)) ∧ w = w' := by
  have dz : (d == 0) = false := by simp <;> omega
  have r2 : decide (r < 0) = true := by simp <;> omega
  have rz : (r + d == 0) = false := by simp <;> omega
  have r3 : (r == 0) = false := by simp <;> omega
  have n2 : decide (n < 0) = true := by simp <;> omega
  have H := Lib.hid (Plain.rnd1_np q r d b3 b4)
  clear nb
  go_enter Try.func37, Try.ntmps37
  go_wp2
  go_ret
  exact ⟨ret1 (by have h := H.out; omega), rfl⟩
set_option maxHeartbeats 4000000 in
theorem rd_np2 (n d q r : Int) (w : World) (hq : n.tdiv d = q) (hr : n.tmod d = r) (q0 : -4611686018427387904 ≤ q) (q1 : q ≤ 4611686018427387904) (d0 : 1 ≤ d) (d1 : d ≤ 2305843009213693952) (b3 : r < 0) (b4 : -r < d) (nb : n < 0) (q2 : q ≤ 0) :
    Calls Try.prog 37 #[.int .i64 n, .int .i64 d, .int .i64 2] w fun e w' => e = .returned (.int .i64 (Plain.rnd 2 q r d)) ∧ w = w' := by
  have dz : (d == 0) = false := by simp <;> omega
  have r2 : decide (r < 0) = true := by simp <;> omega
  have rz : (r + d == 0) = false := by simp <;> omega
  have r3 : (r == 0) = false := by simp <;> omega
  have n2 : decide (n < 0) = true := by simp <;> omega
  have H := Lib.hid (Plain.rnd2_np q r d b3 b4)
  clear nb
  go_enter Try.func37, Try.ntmps37
  go_wp2
  go_ret
  exact ⟨ret1 (by have h := H.out; omega), rfl⟩
set_option maxHeartbeats 4000000 in
theorem rd_np3 (n d q r : Int) (w : World) (hq : n.tdiv d = q) (hr : n.tmod d = r) (q0 : -4611686018427387904 ≤ q) (q1 : q ≤ 4611686018427387904) (d0 : 1 ≤ d) (d1 : d ≤ 2305843009213693952) (b3 : r < 0) (b4 : -r < d) (nb : n < 0) (q2 : q ≤ 0) :
    Calls Try.prog 37 #[.int .i64 n, .int .i64 d, .int .i64 3] w fun e w' => e = .returned (.int .i64 (Plain.rnd 3 q r d)) ∧ w = w' := by
  have dz : (d == 0) = false := by simp <;> omega
  have r2 : decide (r < 0) = true := by simp <;> omega
  have rz : (r + d == 0) = false := by simp <;> omega
  have r3 : (r == 0) = false := by simp <;> omega
  have n2 : decide (n < 0) = true := by simp <;> omega
  have H := Lib.hid (Plain.rnd3_np q r d b3 b4)
  clear nb
  go_enter Try.func37, Try.ntmps37
  go_wp2
  go_ret
  exact ⟨ret1 (by have h := H.out; omega), rfl⟩
set_option maxHeartbeats 4000000 in
theorem rd_np4lt (n d q r : Int) (w : World) (hq : n.tdiv d = q) (hr : n.tmod d = r) (q0 : -4611686018427387904 ≤ q) (q1 : q ≤ 4611686018427387904) (d0 : 1 ≤ d) (d1 : d ≤ 2305843009213693952) (b3 : r < 0) (b4 : -r < d) (nb : n < 0) (q2 : q ≤ 0) (t : (r + d) < d - (r + d)) :
    Calls Try.prog 37 #[.int .i64 n, .int .i64 d, .int .i64 4] w fun e w' => e = .returned (.int .i64 (Plain.rnd 4 q r d)) ∧ w = w' := by
  have dz : (d == 0) = false := by simp <;> omega
  have r2 : decide (r < 0) = true := by simp <;> omega
  have rz : (r + d == 0) = false := by simp <;> omega
  have r3 : (r == 0) = false := by simp <;> omega
  have n2 : decide (n < 0) = true := by simp <;> omega
  have H := Lib.hid (Plain.rnd4_np_lt q r d b3 b4 t)
  have t0 : decide (d < 2 * (r + d)) = false := by simp <;> omega
  have t1 : (2 * (r + d) == d) = false := by simp <;> omega
  clear nb t
  go_enter Try.func37, Try.ntmps37
  go_wp2
  go_ret
  exact ⟨ret1 (by have h := H.out; omega), rfl⟩
set_option maxHeartbeats 4000000 in
theorem rd_np4ev (n d q r : Int) (w : World) (hq : n.tdiv d = q) (hr : n.tmod d = r) (q0 : -4611686018427387904 ≤ q) (q1 : q ≤ 4611686018427387904) (d0 : 1 ≤ d) (d1 : d ≤ 2305843009213693952) (b3 : r < 0) (b4 : -r < d) (nb : n < 0) (q2 : q ≤ 0) (t : (r + d) = d - (r + d)) (e : (q - 1) % 2 = 0) :
    Calls Try.prog 37 #[.int .i64 n, .int .i64 d, .int .i64 4] w fun e w' => e = .returned (.int .i64 (Plain.rnd 4 q r d)) ∧ w = w' := by
  have dz : (d == 0) = false := by simp <;> omega
  have r2 : decide (r < 0) = true := by simp <;> omega
  have rz : (r + d == 0) = false := by simp <;> omega
  have r3 : (r == 0) = false := by simp <;> omega
  have n2 : decide (n < 0) = true := by simp <;> omega
  have H := Lib.hid (Plain.rnd4_np_ev q r d b3 b4 t e)
  have hev := Plain.even_iff (q - 1)
  have t0 : decide (d < 2 * (r + d)) = false := by simp <;> omega
  have t1 : (2 * (r + d) == d) = true := by simp <;> omega
  have t2 : ((q - 1).tmod 2 != 0) = false := by simp <;> omega
  clear nb t e hev
  go_enter Try.func37, Try.ntmps37
  go_wp2
  go_ret
  exact ⟨ret1 (by have h := H.out; omega), rfl⟩
set_option maxHeartbeats 4000000 in
theorem rd_np4od (n d q r : Int) (w : World) (hq : n.tdiv d = q) (hr : n.tmod d = r) (q0 : -4611686018427387904 ≤ q) (q1 : q ≤ 4611686018427387904) (d0 : 1 ≤ d) (d1 : d ≤ 2305843009213693952) (b3 : r < 0) (b4 : -r < d) (nb : n < 0) (q2 : q ≤ 0) (t : (r + d) = d - (r + d)) (e : (q - 1) % 2 = 1) :
    Calls Try.prog 37 #[.int .i64 n, .int .i64 d, .int .i64 4] w fun e w' => e = .returned (.int .i64 (Plain.rnd 4 q r d)) ∧ w = w' := by
  have dz : (d == 0) = false := by simp <;> omega
  have r2 : decide (r < 0) = true := by simp <;> omega
  have rz : (r + d == 0) = false := by simp <;> omega
  have r3 : (r == 0) = false := by simp <;> omega
  have n2 : decide (n < 0) = true := by simp <;> omega
  have H := Lib.hid (Plain.rnd4_np_od q r d b3 b4 t e)
  have hev := Plain.even_iff (q - 1)
  have t0 : decide (d < 2 * (r + d)) = false := by simp <;> omega
  have t1 : (2 * (r + d) == d) = true := by simp <;> omega
  have t2 : ((q - 1).tmod 2 != 0) = true := by simp <;> omega
  clear nb t e hev
  go_enter Try.func37, Try.ntmps37
  go_wp2
  go_ret
  exact ⟨ret1 (by have h := H.out; omega), rfl⟩
set_option maxHeartbeats 4000000 in
theorem rd_np4gt (n d q r : Int) (w : World) (hq : n.tdiv d = q) (hr : n.tmod d = r) (q0 : -4611686018427387904 ≤ q) (q1 : q ≤ 4611686018427387904) (d0 : 1 ≤ d) (d1 : d ≤ 2305843009213693952) (b3 : r < 0) (b4 : -r < d) (nb : n < 0) (q2 : q ≤ 0) (t : d - (r + d) < (r + d)) :
    Calls Try.prog 37 #[.int .i64 n, .int .i64 d, .int .i64 4] w fun e w' => e = .returned (.int .i64 (Plain.rnd 4 q r d)) ∧ w = w' := by
  have dz : (d == 0) = false := by simp <;> omega
  have r2 : decide (r < 0) = true := by simp <;> omega
  have rz : (r + d == 0) = false := by simp <;> omega
  have r3 : (r == 0) = false := by simp <;> omega
  have n2 : decide (n < 0) = true := by simp <;> omega
  have H := Lib.hid (Plain.rnd4_np_gt q r d b3 b4 t)
  have t0 : decide (d < 2 * (r + d)) = true := by simp <;> omega
  clear nb t
  go_enter Try.func37, Try.ntmps37
  go_wp2
  go_ret
  exact ⟨ret1 (by have h := H.out; omega), rfl⟩
set_option maxHeartbeats 4000000 in
theorem rd_pp1 (n d q r : Int) (w : World) (hq : n.tdiv d = q) (hr : n.tmod d = r) (q0 : -4611686018427387904 ≤ q) (q1 : q ≤ 4611686018427387904) (d0 : 1 ≤ d) (d1 : d ≤ 2305843009213693952) (b3 : 0 < r) (b4 : r < d) (nb : 0 < n) (q2 : 0 ≤ q) :
    Calls Try.prog 37 #[.int .i64 n, .int .i64 d, .int .i64 1] w fun e w' => e = .returned (.int .i64 (Plain.rnd 1 q r d)) ∧ w = w' := by
  have dz : (d == 0) = false := by simp <;> omega
  have r2 : decide (r < 0) = false := by simp <;> omega
  have rz : (r == 0) = false := by simp <;> omega
  have n2 : decide (n < 0) = false := by simp <;> omega
  have H := Lib.hid (Plain.rnd1_pp q r d b3 b4)
  clear nb
  go_enter Try.func37, Try.ntmps37
  go_wp2
  go_ret
  exact ⟨ret1 (by have h := H.out; omega), rfl⟩
set_option maxHeartbeats 4000000 in
theorem rd_pp2 (n d q r : Int) (w : World) (hq : n.tdiv d = q) (hr : n.tmod d = r) (q0 : -4611686018427387904 ≤ q) (q1 : q ≤ 4611686018427387904) (d0 : 1 ≤ d) (d1 : d ≤ 2305843009213693952) (b3 : 0 < r) (b4 : r < d) (nb : 0 < n) (q2 : 0 ≤ q) :
    Calls Try.prog 37 #[.int .i64 n, .int .i64 d, .int .i64 2] w fun e w' => e = .returned (.int .i64 (Plain.rnd 2 q r d)) ∧ w = w' := by
  have dz : (d == 0) = false := by simp <;> omega
  have r2 : decide (r < 0) = false := by simp <;> omega
  have rz : (r == 0) = false := by simp <;> omega
  have n2 : decide (n < 0) = false := by simp <;> omega
  have H := Lib.hid (Plain.rnd2_pp q r d b3 b4)
  clear nb
  go_enter Try.func37, Try.ntmps37
  go_wp2
  go_ret
  exact ⟨ret1 (by have h := H.out; omega), rfl⟩
set_option maxHeartbeats 4000000 in
theorem rd_pp3 (n d q r : Int) (w : World) (hq : n.tdiv d = q) (hr : n.tmod d = r) (q0 : -4611686018427387904 ≤ q) (q1 : q ≤ 4611686018427387904) (d0 : 1 ≤ d) (d1 : d ≤ 2305843009213693952) (b3 : 0 < r) (b4 : r < d) (nb : 0 < n) (q2 : 0 ≤ q) :
    Calls Try.prog 37 #[.int .i64 n, .int .i64 d, .int .i64 3] w fun e w' => e = .returned (.int .i64 (Plain.rnd 3 q r d)) ∧ w = w' := by
  have dz : (d == 0) = false := by simp <;> omega
  have r2 : decide (r < 0) = false := by simp <;> omega
  have rz : (r == 0) = false := by simp <;> omega
  have n2 : decide (n < 0) = false := by simp <;> omega
  have H := Lib.hid (Plain.rnd3_pp q r d b3 b4)
  clear nb
  go_enter Try.func37, Try.ntmps37
  go_wp2
  go_ret
  exact ⟨ret1 (by have h := H.out; omega), rfl⟩
set_option maxHeartbeats 4000000 in
theorem rd_pp4lt (n d q r : Int) (w : World) (hq : n.tdiv d = q) (hr : n.tmod d = r) (q0 : -4611686018427387904 ≤ q) (q1 : q ≤ 4611686018427387904) (d0 : 1 ≤ d) (d1 : d ≤ 2305843009213693952) (b3 : 0 < r) (b4 : r < d) (nb : 0 < n) (q2 : 0 ≤ q) (t : r < d - r) :
    Calls Try.prog 37 #[.int .i64 n, .int .i64 d, .int .i64 4] w fun e w' => e = .returned (.int .i64 (Plain.rnd 4 q r d)) ∧ w = w' := by
  have dz : (d == 0) = false := by simp <;> omega
  have r2 : decide (r < 0) = false := by simp <;> omega
  have rz : (r == 0) = false := by simp <;> omega
  have n2 : decide (n < 0) = false := by simp <;> omega
  have H := Lib.hid (Plain.rnd4_pp_lt q r d b3 b4 t)
  have t0 : decide (d < 2 * r) = false := by simp <;> omega
  have t1 : (2 * r == d) = false := by simp <;> omega
  clear nb t
  go_enter Try.func37, Try.ntmps37
  go_wp2
  go_ret
  exact ⟨ret1 (by have h := H.out; omega), rfl⟩
set_option maxHeartbeats 4000000 in
theorem rd_pp4ev (n d q r : Int) (w : World) (hq : n.tdiv d = q) (hr : n.tmod d = r) (q0 : -4611686018427387904 ≤ q) (q1 : q ≤ 4611686018427387904) (d0 : 1 ≤ d) (d1 : d ≤ 2305843009213693952) (b3 : 0 < r) (b4 : r < d) (nb : 0 < n) (q2 : 0 ≤ q) (t : r = d - r) (e : q % 2 = 0) :
    Calls Try.prog 37 #[.int .i64 n, .int .i64 d, .int .i64 4] w fun e w' => e = .returned (.int .i64 (Plain.rnd 4 q r d)) ∧ w = w' := by
  have dz : (d == 0) = false := by simp <;> omega
  have r2 : decide (r < 0) = false := by simp <;> omega
  have rz : (r == 0) = false := by simp <;> omega
  have n2 : decide (n < 0) = false := by simp <;> omega
  have H := Lib.hid (Plain.rnd4_pp_ev q r d b3 b4 t e)
  have hev := Plain.even_iff q
  have t0 : decide (d < 2 * r) = false := by simp <;> omega
  have t1 : (2 * r == d) = true := by simp <;> omega
  have t2 : (q % 2 != 0) = false := by simp <;> omega
  clear nb t e hev
  go_enter Try.func37, Try.ntmps37
  go_wp2
  go_ret
  exact ⟨ret1 (by have h := H.out; omega), rfl⟩
set_option maxHeartbeats 4000000 in
theorem rd_pp4od (n d q r : Int) (w : World) (hq : n.tdiv d = q) (hr : n.tmod d = r) (q0 : -4611686018427387904 ≤ q) (q1 : q ≤ 4611686018427387904) (d0 : 1 ≤ d) (d1 : d ≤ 2305843009213693952) (b3 : 0 < r) (b4 : r < d) (nb : 0 < n) (q2 : 0 ≤ q) (t : r = d - r) (e : q % 2 = 1) :
    Calls Try.prog 37 #[.int .i64 n, .int .i64 d, .int .i64 4] w fun e w' => e = .returned (.int .i64 (Plain.rnd 4 q r d)) ∧ w = w' := by
  have dz : (d == 0) = false := by simp <;> omega
  have r2 : decide (r < 0) = false := by simp <;> omega
  have rz : (r == 0) = false := by simp <;> omega
  have n2 : decide (n < 0) = false := by simp <;> omega
  have H := Lib.hid (Plain.rnd4_pp_od q r d b3 b4 t e)
  have hev := Plain.even_iff q
  have t0 : decide (d < 2 * r) = false := by simp <;> omega
  have t1 : (2 * r == d) = true := by simp <;> omega
  have t2 : (q % 2 != 0) = true := by simp <;> omega
  clear nb t e hev
  go_enter Try.func37, Try.ntmps37
  go_wp2
  go_ret
  exact ⟨ret1 (by have h := H.out; omega), rfl⟩
set_option maxHeartbeats 4000000 in
theorem rd_pp4gt (n d q r : Int) (w : World) (hq : n.tdiv d = q) (hr : n.tmod d = r) (q0 : -4611686018427387904 ≤ q) (q1 : q ≤ 4611686018427387904) (d0 : 1 ≤ d) (d1 : d ≤ 2305843009213693952) (b3 : 0 < r) (b4 : r < d) (nb : 0 < n) (q2 : 0 ≤ q) (t : d - r < r) :
    Calls Try.prog 37 #[.int .i64 n, .int .i64 d, .int .i64 4] w fun e w' => e = .returned (.int .i64 (Plain.rnd 4 q r d)) ∧ w = w' := by
  have dz : (d == 0) = false := by simp <;> omega
  have r2 : decide (r < 0) = false := by simp <;> omega
  have rz : (r == 0) = false := by simp <;> omega
  have n2 : decide (n < 0) = false := by simp <;> omega
  have H := Lib.hid (Plain.rnd4_pp_gt q r d b3 b4 t)
  have t0 : decide (d < 2 * r) = true := by simp <;> omega
  clear nb t
  go_enter Try.func37, Try.ntmps37
  go_wp2
  go_ret
  exact ⟨ret1 (by have h := H.out; omega), rfl⟩
set_option maxHeartbeats 4000000 in
theorem rd_ex (n d q how : Int) (w : World) (hq : n.tdiv d = q) (hr : n.tmod d = 0) (d0 : 1 ≤ d) (q0 : -4611686018427387904 ≤ q) (q1 : q ≤ 4611686018427387904) :
    Calls Try.prog 37 #[.int .i64 n, .int .i64 d, .int .i64 how] w fun e w' => e = .returned (.int .i64 q) ∧ w = w' := by
  have dz : (d == 0) = false := by simp <;> omega
  go_enter Try.func37, Try.ntmps37
  go_wp2
  go_ret
  exact ⟨rfl, rfl⟩
theorem rd_any (how n d : Int) (w : World) (m0 : 1 ≤ how) (m1 : how ≤ 4) (n0 : -4611686018427387904 ≤ n) (n1 : n ≤ 4611686018427387904) (d0 : 1 ≤ d) (d1 : d ≤ 2305843009213693952) :
    Calls Try.prog 37 #[.int .i64 n, .int .i64 d, .int .i64 how] w fun e w' => e = .returned (.int .i64 (Dv.dval how n d)) ∧ w = w' := by
  rw [show Dv.dval how n d = Plain.rnd how (n.tdiv d) (n.tmod d) d from by unfold Dv.dval; rw [if_neg (by omega), if_neg (by omega), if_neg (by omega)]]
  have F := Plain.tfacts n d (by omega)
  have S := Plain.tsign n d
  obtain ⟨q, hq⟩ : ∃ q, n.tdiv d = q := ⟨_, rfl⟩
  obtain ⟨r, hr⟩ : ∃ r, n.tmod d = r := ⟨_, rfl⟩
  rw [hq, hr] at F
  rw [hq] at S
  rw [hq, hr]
  obtain ⟨F1, F2, F3, F4, F5⟩ := F
  obtain ⟨S1, S2, S3, S4⟩ := S
  by_cases h0 : r = 0
  · subst h0
    rw [show Plain.rnd how q 0 d = q from by unfold Plain.rnd; rw [if_pos rfl]]
    exact rd_ex n d q how w hq hr d0 (by omega) (by omega)
  · by_cases hp : 0 < r
    · have hn := F4 hp
      have hq2 := S1 hn (by omega)
      rcases (by omega : how = 1 ∨ how = 2 ∨ how = 3 ∨ how = 4) with rfl | rfl | rfl | rfl
      · exact rd_pp1 n d q r w hq hr (by omega) (by omega) d0 d1 hp (by omega) hn hq2
      · exact rd_pp2 n d q r w hq hr (by omega) (by omega) d0 d1 hp (by omega) hn hq2
      · exact rd_pp3 n d q r w hq hr (by omega) (by omega) d0 d1 hp (by omega) hn hq2
      · rcases (by omega : r < d - r ∨ (r = d - r ∧ q % 2 = 0) ∨ (r = d - r ∧ q % 2 = 1) ∨ d - r < r) with t | ⟨t, e⟩ | ⟨t, e⟩ | t
        · exact rd_pp4lt n d q r w hq hr (by omega) (by omega) d0 d1 hp (by omega) hn hq2 t
        · exact rd_pp4ev n d q r w hq hr (by omega) (by omega) d0 d1 hp (by omega) hn hq2 t e
        · exact rd_pp4od n d q r w hq hr (by omega) (by omega) d0 d1 hp (by omega) hn hq2 t e
        · exact rd_pp4gt n d q r w hq hr (by omega) (by omega) d0 d1 hp (by omega) hn hq2 t
    · have hn := F5 (by omega)
      have hq2 := S4 hn (by omega)
      rcases (by omega : how = 1 ∨ how = 2 ∨ how = 3 ∨ how = 4) with rfl | rfl | rfl | rfl
      · exact rd_np1 n d q r w hq hr (by omega) (by omega) d0 d1 (by omega) (by omega) hn hq2
      · exact rd_np2 n d q r w hq hr (by omega) (by omega) d0 d1 (by omega) (by omega) hn hq2
      · exact rd_np3 n d q r w hq hr (by omega) (by omega) d0 d1 (by omega) (by omega) hn hq2
      · rcases (by omega : (r + d) < d - (r + d) ∨ ((r + d) = d - (r + d) ∧ (q - 1) % 2 = 0) ∨ ((r + d) = d - (r + d) ∧ (q - 1) % 2 = 1) ∨ d - (r + d) < (r + d)) with t | ⟨t, e⟩ | ⟨t, e⟩ | t
        · exact rd_np4lt n d q r w hq hr (by omega) (by omega) d0 d1 (by omega) (by omega) hn hq2 t
        · exact rd_np4ev n d q r w hq hr (by omega) (by omega) d0 d1 (by omega) (by omega) hn hq2 t e
        · exact rd_np4od n d q r w hq hr (by omega) (by omega) d0 d1 (by omega) (by omega) hn hq2 t e
        · exact rd_np4gt n d q r w hq hr (by omega) (by omega) d0 d1 (by omega) (by omega) hn hq2 t
end Go.Proofs.Ytaagegiehjpgiaa.Fx
