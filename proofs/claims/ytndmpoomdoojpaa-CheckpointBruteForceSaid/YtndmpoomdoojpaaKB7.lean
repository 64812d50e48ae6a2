/- The number of a position. -/
import Derived.Test.YtndmpoomdoojpaaRows
import Derived.WalkKit
import Derived.ProofKit
import Derived.OpenShut
import Derived.WalkLawsBesides
import Derived.WalkSpells
import Derived.Outline
import Derived.Handy
import Derived.IntWalk
import Derived.Deep.QuietTactic
import Derived.BigQuiet
import Derived.Lib.Hide
import Derived.Test.YtndmpoomdoojpaaKB6
namespace Go.Proofs.Ytndmpoomdoojpaa.Ck.Bf
open Go.ChangeShapes Go.WideShapes Go.ChangeAt Go.RowKit Go.Proofs.Ytndmpoomdoojpaa.Ck
set_option linter.unusedVariables false


set_option maxRecDepth 100000 in
theorem number (a l st : Nat) (w : World) (ha : a ≤ 12) (hl : l ≤ 12) (hs : st ≤ 4096) : Calls Try.prog 48 #[.agg #[.int .i64 (a : Int), .int .i64 (l : Int), .int .i64 (st : Int)]] w fun e w' => e = .returned (.int .i64 ((nm (a, l, st) : Nat) : Int)) ∧ Below w.heap.size w w' := by
  have K1 := Lib.hid ((Below.refl w.heap.size w).alloc (Nat.le_refl _) (Obj.cells #[Value.int .i64 (a : Int), Value.int .i64 (l : Int), Value.int .i64 (st : Int)] 69))
  have e : ((nm (a, l, st) : Nat) : Int) = ((st : Int) * 13 + (a : Int)) * 13 + (l : Int) := by unfold nm; push_cast; rfl
  rw [e]
  have h0 : (0 : Int) ≤ st := by omega
  have h1 : (st : Int) ≤ 4096 := by omega
  have h2 : (a : Int) ≤ 12 := by omega
  have h3 : (l : Int) ≤ 12 := by omega
  clear e
  go_enter Try.func48, Try.ntmps48
  go_wp2
  go_ret
  exact ⟨rfl, K1.out⟩
end Go.Proofs.Ytndmpoomdoojpaa.Ck.Bf
