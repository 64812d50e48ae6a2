/- The statement on the checks: as its frame calls it. -/
import Derived.Test.YtndmpoomdoojpaaK21
namespace Go.Proofs.Ytndmpoomdoojpaa.Ck
open Go.ChangeShapes Go.WideShapes Go.ChangeAt Go.RowKit
set_option linter.unusedVariables false

theorem law_checks' (n s : Int) (p : Option Addr) (xs : List Act3) (c : Nat) (w : World) {X Y : Prop} (_ : X) (_ : Y) (hl : xs.length ≤ c) (hm : c ≤ maxLen) (RA : Hid (SlA w p xs)) (RB : ∀ z ∈ xs, (-9223372036854775808 ≤ z.2.1 ∧ z.2.1 ≤ 9223372036854775807) ∧ (-9223372036854775808 ≤ z.2.2 ∧ z.2.2 ≤ 9223372036854775807)) :
    Calls Try.prog 9 #[.int .i64 n, .int .i64 s, .slice p xs.length c] w fun e w' => e = .returned (.bool true) ∧ Below w.heap.size w w' :=
  law_checks n s p xs c w (Nat.le_trans hl hm) RA (Lib.hid fun i hi => by
    rw [List.getD, List.getElem?_eq_getElem hi]
    exact RB _ (List.getElem_mem hi))
end Go.Proofs.Ytndmpoomdoojpaa.Ck
