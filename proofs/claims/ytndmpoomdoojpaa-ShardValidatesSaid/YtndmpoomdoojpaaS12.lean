/- Specs: the statement on validity. -/
import Derived.Test.YtndmpoomdoojpaaS11
namespace Go.Proofs.Ytndmpoomdoojpaa.Sh
open Go.ChangeShapes Go.WideShapes Go.ChangeAt Go.RowKit
set_option linter.unusedVariables false
set_option linter.unusedSimpArgs false
theorem law12w (p : Option Addr) (ms : List Int) (c : Nat) (q : Option Addr) (ss : List Int) (d : Nat) (p2 : Option Addr) (zs : List Int) (c2 : Nat) (w : World) (h1 : ms.length ≤ c) (h2 : c ≤ maxLen) (RM : Hid (SlI w p ms)) (h3 : ss.length ≤ d) (h4 : d ≤ maxLen) (RS : Hid (SlI w q ss)) (h5 : zs.length ≤ c2) (h6 : c2 ≤ maxLen) (RZ : Hid (SlI w p2 zs)) (_ : ∀ z ∈ zs, -9223372036854775808 ≤ z ∧ z ≤ 9223372036854775807) :
    Calls Try.prog 12 #[.agg #[.slice p ms.length c, .slice q ss.length d], .slice p2 zs.length c2] w (Ret (.bool true) w) :=
  law12 p q p2 ms ss zs c d c2 w (Nat.le_trans h1 h2) (Nat.le_trans h3 h4) (Nat.le_trans h5 h6) h3 RM RS RZ
end Go.Proofs.Ytndmpoomdoojpaa.Sh
