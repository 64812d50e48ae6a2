/- Boxes: addProduct. -/
import Derived.Test.YtkdfidjoighknaaB13
namespace Go.Proofs.Ytkdfidjoighknaa.Bx
open Go.ChangeShapes Go.WideShapes Go.ChangeAt Go.RowKit
set_option linter.unusedVariables false
set_option linter.unusedSimpArgs false
set_option maxRecDepth 100000 in
set_option maxHeartbeats 16000000 in
theorem apP (n by' last A sz H Lw P SM : Int) (b1 b2 b4 c1 c2 c3 : Bool) (w : World) (hA : IntKind.u64.wrap by' = A) (hL : IntKind.u64.wrap last = last) (hsz : A = sz)
    (M : Hid (∀ w, Calls Try.prog 87 #[.int .u64 sz, .int .u64 last] w fun e w' => e = .returned (.tuple #[.int .u64 H, .int .u64 Lw]) ∧ w = w'))
    (hP : IntKind.i64.wrap (by' * last) = P) (hP2 : wrap64 (by' * last) = P) (hS : IntKind.i64.wrap (n + P) = SM) (hS2 : wrap64 (n + P) = SM)
    (q1 : (H == 0) = b1) (q2 : decide (Lw < 9223372036854775808) = b2) (q3 : decide (by' < 0) = false) (q4 : (Lw == 9223372036854775808) = b4) (o1 : decide (n < 0) = c1) (o2 : decide (P < 0) = c2) (o3 : decide (SM < 0) = c3) :
    Calls Try.prog 57 #[.int .i64 n, .int .i64 by', .int .i64 last] w fun e w' => e = .returned (.tuple #[.int .i64 SM, .bool ((b1 && (b2 || (false && b4))) && !((c1 == c2) && (c3 != c1)))]) ∧ w = w' := by
  cases b1 <;> cases b2 <;> cases b4 <;> cases c1 <;> cases c2 <;> cases c3 <;>
  (go_enter Try.func57, Try.ntmps57
   go_wp2_with fail
   refine (M.out w).mono ?_
   rintro e w' ⟨rfl, rfl⟩
   go_wp2
   refine bodyPost_ret (v := .tuple #[.int .i64 SM, .bool _]) (by simp [results, Try.results57, go_sem]; first | done | rfl) rfl ⟨rfl, rfl⟩)
set_option maxRecDepth 100000 in
set_option maxHeartbeats 16000000 in
theorem apN (n by' last A sz H Lw P SM : Int) (b1 b2 b4 c1 c2 c3 : Bool) (w : World) (hA : IntKind.u64.wrap by' = A) (hL : IntKind.u64.wrap last = last) (hsz : IntKind.u64.wrap (-A) = sz)
    (M : Hid (∀ w, Calls Try.prog 87 #[.int .u64 sz, .int .u64 last] w fun e w' => e = .returned (.tuple #[.int .u64 H, .int .u64 Lw]) ∧ w = w'))
    (hP : IntKind.i64.wrap (by' * last) = P) (hP2 : wrap64 (by' * last) = P) (hS : IntKind.i64.wrap (n + P) = SM) (hS2 : wrap64 (n + P) = SM)
    (q1 : (H == 0) = b1) (q2 : decide (Lw < 9223372036854775808) = b2) (q3 : decide (by' < 0) = true) (q4 : (Lw == 9223372036854775808) = b4) (o1 : decide (n < 0) = c1) (o2 : decide (P < 0) = c2) (o3 : decide (SM < 0) = c3) :
    Calls Try.prog 57 #[.int .i64 n, .int .i64 by', .int .i64 last] w fun e w' => e = .returned (.tuple #[.int .i64 SM, .bool ((b1 && (b2 || (true && b4))) && !((c1 == c2) && (c3 != c1)))]) ∧ w = w' := by
  cases b1 <;> cases b2 <;> cases b4 <;> cases c1 <;> cases c2 <;> cases c3 <;>
  (go_enter Try.func57, Try.ntmps57
   go_wp2_with fail
   refine (M.out w).mono ?_
   rintro e w' ⟨rfl, rfl⟩
   go_wp2
   refine bodyPost_ret (v := .tuple #[.int .i64 SM, .bool _]) (by simp [results, Try.results57, go_sem]; first | done | rfl) rfl ⟨rfl, rfl⟩)
end Go.Proofs.Ytkdfidjoighknaa.Bx
