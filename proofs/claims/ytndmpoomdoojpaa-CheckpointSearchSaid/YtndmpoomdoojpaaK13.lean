/- Do of the reference: what it answers. -/
import Derived.Test.YtndmpoomdoojpaaK12
namespace Go.Proofs.Ytndmpoomdoojpaa.Ck
open Go.ChangeShapes Go.WideShapes Go.ChangeAt Go.RowKit
set_option linter.unusedVariables false

def DW (n : Int) (s : Nat) (t : St) (a : Act3) (base : Nat) (v : Value) (w : World) (e : Ending) (w' : World) : Prop :=
  Below w.heap.size w w' ∧ ((val n s t a = false ∧ e = .returned (.tuple #[rv t.now t.left v, .bool false])) ∨ (val n s t a = true ∧ ∃ v', e = .returned (.tuple #[rv (nxt t a).now (nxt t a).left v', .bool true]) ∧ w'.ownsRow base 3 1 v' s (((nxt t a).held.take s).map (Value.int .i64))))
/-- How a slot compares. -/
def Slot (s : Nat) (z : Int) : Prop := (sl s z = true ∧ 0 ≤ z ∧ z < s) ∨ (sl s z = false ∧ decide (0 ≤ z) = false) ∨ (sl s z = false ∧ 0 ≤ z ∧ decide (z < s) = false)
theorem slot (s : Nat) (z : Int) : Slot s z := by
  by_cases h : 0 ≤ z
  · by_cases h2 : z < s
    · exact .inl ⟨decide_eq_true ⟨h, h2⟩, h, h2⟩
    · exact .inr (.inr ⟨decide_eq_false (by omega), h, decide_eq_false h2⟩)
  · exact .inr (.inl ⟨decide_eq_false (by omega), decide_eq_false h⟩)
end Go.Proofs.Ytndmpoomdoojpaa.Ck
