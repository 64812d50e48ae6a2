/- Narrow of package round for every three integers. -/
import Derived.Test.YtikcinkbkakkmaaGreatDoorGF
import Derived.Test.YtikcinkbkakkmaaGreatDoorNarc1
import Derived.Test.YtikcinkbkakkmaaGreatDoorNarc2

namespace Go.Proofs.YtikcinkbkakkmaaGreatDoor.Nx
open Go.ChangeShapes Go.WideShapes Go.ChangeAt Go.RowKit
set_option linter.unusedVariables false
set_option linter.unusedSimpArgs false
theorem cnar_any (n bits over : Int) (w : World) (n0 : -9223372036854775808 ≤ n) (n1 : n ≤ 9223372036854775807) (h0 : -9223372036854775808 ≤ bits) (h1 : bits ≤ 9223372036854775807) :
    Calls Tryz.prog 117 #[.int .i64 n, .int .i64 bits, .int .i64 over] w fun e w' => e = .returned (.tuple #[.int .i64 (nv n bits over), .bool (nb n bits over)]) ∧ w = w' := by
  by_cases hb : nbad bits over
  · rw [show nv n bits over = 0 from by unfold nv; rw [if_pos hb], show nb n bits over = false from by unfold nb; rw [if_pos hb]]
    exact cnar_bad n bits over w h0 h1 hb
  · have hb' := hb
    unfold nbad at hb'
    rcases (by omega : over = 1 ∨ over = 2) with rfl | rfl
    · exact cnar_1 n bits w n0 n1 (by omega) (by omega)
    · exact cnar_2 n bits w n0 n1 (by omega) (by omega)
end Go.Proofs.YtikcinkbkakkmaaGreatDoor.Nx
