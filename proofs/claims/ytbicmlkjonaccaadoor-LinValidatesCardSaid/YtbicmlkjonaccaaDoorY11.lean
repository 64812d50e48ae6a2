/- Linear forms: Validate of the reference. -/
import Derived.Test.YtbicmlkjonaccaaDoorY10
namespace Go.Proofs.YtbicmlkjonaccaaDoor.Ln
open Go.ChangeShapes Go.WideShapes Go.ChangeAt Go.RowKit
set_option linter.unusedVariables false
set_option linter.unusedSimpArgs false
set_option maxRecDepth 100000 in
set_option maxHeartbeats 4000000 in
theorem val2 (k : Int) (p : Option Addr) (xs : List Mo) (c : Nat) (w : World) (hn : xs.length ≤ maxLen) (RA : Hid (SlM w p xs)) (RS : Hid (∀ i, i < xs.length → (xs.getD i mo0).1.size ≤ maxLen)) :
    Calls Tryd.prog 17 #[Lv k p xs.length c] w fun e w' => e = .returned (.int .i64 (vL xs)) ∧ Below w.heap.size w w' := by
  have C := Lib.hid fun w R1 => right k p xs c w hn R1 RS
  have B0 : Below w.heap.size w (w.alloc (Obj.cells #[Value.int .i64 k, Value.slice p xs.length c] 24)) := (Below.refl _ _).alloc (Nat.le_refl _) _
  unfold vL
  generalize okL xs = v at *
  unfold Lv at *
  cases v
  all_goals
    go_enter Tryd.func17, Tryd.ntmps17
    go_wp2_with fail
    refine (C.out _ (Lib.hid (SlM.keep B0 RA.out))).mono ?_
    rintro e w1 ⟨rfl, hb⟩
    go_wp2
    go_ret
    exact ⟨rfl, B0.trans (hb.mono B0.size)⟩
end Go.Proofs.YtbicmlkjonaccaaDoor.Ln
