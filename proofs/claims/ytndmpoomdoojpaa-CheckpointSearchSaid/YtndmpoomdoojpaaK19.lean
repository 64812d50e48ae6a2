/- Do of the reference, for every action. -/
import Derived.Test.YtndmpoomdoojpaaK14
import Derived.Test.YtndmpoomdoojpaaK15
import Derived.Test.YtndmpoomdoojpaaK16
import Derived.Test.YtndmpoomdoojpaaK17
import Derived.Test.YtndmpoomdoojpaaK18
namespace Go.Proofs.Ytndmpoomdoojpaa.Ck
open Go.ChangeShapes Go.WideShapes Go.ChangeAt Go.RowKit
set_option linter.unusedVariables false

theorem rdo (n : Int) (s : Nat) (t : St) (a : Act3) (v : Value) (w : World) (base : Nat) (hb : base ≤ w.heap.size) (hn : 0 ≤ n ∧ n ≤ 64) (hs : s ≤ 64) (hnow : 0 ≤ t.now ∧ t.now ≤ 64) (hleft : 0 ≤ t.left ∧ t.left ≤ 64) (hA0 : -9223372036854775808 ≤ a.2.1) (hl : t.held.length = 64) (hO : Hid (w.ownsRow base 3 1 v s ((t.held.take s).map (Value.int .i64)))) :
    Calls Try.prog 52 #[rv t.now t.left v, .int .i64 n, .agg #[.int .i64 a.1, .int .i64 a.2.1, .int .i64 a.2.2]] w (DW n s t a base v w) := by
  obtain ⟨held, now, left, cost⟩ := t
  obtain ⟨op, A, z⟩ := a
  by_cases o1 : op = 1
  · subst o1; exact do1 n s held now left cost A z v w base hb hn hs hnow hleft hA0 hl hO
  · by_cases o2 : op = 2
    · subst o2; exact do2 n s held now left cost A z v w base hb hn hs hnow hleft hA0 hl hO
    · by_cases o3 : op = 3
      · subst o3; exact do3 n s held now left cost A z v w base hb hn hs hnow hleft hA0 hl hO
      · by_cases o4 : op = 4
        · subst o4; exact do4 n s held now left cost A z v w base hb hn hs hnow hleft hA0 hl hO
        · exact do0 n s held now left cost op A z v w base hb hn hs hnow hleft hA0 hl hO o1 o2 o3 o4
end Go.Proofs.Ytndmpoomdoojpaa.Ck
