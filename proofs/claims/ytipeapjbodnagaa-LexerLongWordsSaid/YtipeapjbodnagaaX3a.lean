/- The lexer: what tells bytes apart. -/
import Derived.Test.YtipeapjbodnagaaX2
namespace Go.Proofs.Ytipeapjbodnagaa.Lx
open Go.ChangeShapes Go.WideShapes Go.ChangeAt Go.RowKit
open Go.Proofs.Ytipeapjbodnagaa.Nm
set_option linter.unusedVariables false

theorem isLetter (c : Int) (w : World) (h0 : 0 ≤ c) (h1 : c ≤ 255) : Calls Try.prog 91 #[.int .i32 c] w fun e w' => e = .returned (.bool (let1 c)) ∧ w = w' := by
  go_enter Try.func91, Try.ntmps91
  go_wp2
  all_goals
    go_ret
    refine ⟨ret_bool ?_, rfl⟩
    unfold let1
    rw [Bool.eq_iff_iff]
    simp
    omega
theorem isDigit (c : Int) (w : World) (h0 : 0 ≤ c) (h1 : c ≤ 255) : Calls Try.prog 93 #[.int .i32 c] w fun e w' => e = .returned (.bool (dg c)) ∧ w = w' := by
  go_enter Try.func93, Try.ntmps93
  go_wp2
  all_goals
    go_ret
    refine ⟨ret_bool ?_, rfl⟩
    unfold dg
    rw [Bool.eq_iff_iff]
    simp
    omega
set_option maxRecDepth 100000 in
set_option maxHeartbeats 4000000 in
theorem isSymbol (c : Int) (w : World) (h0 : 0 ≤ c) (h1 : c ≤ 255) : Calls Try.prog 94 #[.int .i32 c] w fun e w' => e = .returned (.bool (sy c)) ∧ w = w' := by
  have HK : Hid (sy c = (c == 40 || (c == 41 || (c == 91 || (c == 93 || (c == 123 || (c == 125 || (c == 44 || (c == 59 || (c == 58 || (c == 43 || (c == 45 || (c == 42 || (c == 47 || (c == 60 || (c == 61 || (c == 38 || (c == 124 || (c == 33 || (c == 46 || (c == 64))))))))))))))))))))) := Lib.hid (by unfold sy syL; simp only [List.contains_cons, List.contains_nil, Bool.or_false])
  go_enter Try.func94, Try.ntmps94
  go_wp2
  all_goals
    first
    | (exfalso; simp_all; done)
    | (go_ret; refine ⟨ret_bool ?_, rfl⟩; rw [HK.out]; simp_all)
end Go.Proofs.Ytipeapjbodnagaa.Lx
