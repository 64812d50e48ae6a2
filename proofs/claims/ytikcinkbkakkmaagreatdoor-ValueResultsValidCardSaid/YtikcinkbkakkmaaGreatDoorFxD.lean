/- Divide of the reference for fixed-point numbers: the rounded quotient. -/
import Derived.Test.YtikcinkbkakkmaaGreatDoorFxTy
import Derived.Test.YtikcinkbkakkmaaGreatDoorDivAll

namespace Go.Proofs.YtikcinkbkakkmaaGreatDoor.Fx
open Go.ChangeShapes Go.WideShapes Go.ChangeAt Go.RowKit
open Fr
set_option linter.unusedVariables false
set_option linter.unusedSimpArgs false
theorem ret1 {k : IntKind} {a b : Int} (h : a = b) : Ending.returned (.int k a) = .returned (.int k b) := by rw [h]
theorem emod_tmod (x m : Int) (h : 0 < m) : x % m = if x.tmod m < 0 then x.tmod m + m else x.tmod m := by
  have e := Int.mul_tdiv_add_tmod x m
  have F := Plain.tfacts x m (by omega)
  obtain ⟨f, _, _, _, _⟩ := F
  have e2 : x % m = (x.tmod m) % m := by
    have e3 : x % m = (x.tmod m + m * x.tdiv m) % m := congrArg (· % m) (by omega)
    rw [e3, Int.add_mul_emod_self_left]
  rw [e2]
  split
  · rw [← Int.add_emod_right, Int.emod_eq_of_lt (by omega) (by omega)]
  · rw [Int.emod_eq_of_lt (by omega) (by omega)]
end Go.Proofs.YtikcinkbkakkmaaGreatDoor.Fx
