/- The planner: its table. -/
import Derived.Test.YtndmpoomdoojpaaRows
import Derived.WalkKit
import Derived.ProofKit
import Derived.OpenShut
import Derived.WalkLawsBesides
import Derived.WalkSpells
import Derived.Outline
import Derived.Handy
import Derived.IntWalk
import Derived.Deep.QuietTactic
import Derived.BigQuiet
import Derived.Lib.Hide
import Derived.Test.YtndmpoomdoojpaaK28
namespace Go.Proofs.Ytndmpoomdoojpaa.Ck
open Go.ChangeShapes Go.WideShapes Go.ChangeAt Go.RowKit
set_option linter.unusedVariables false

/-- The table as far as it is filled: all rows before i, row i before j. -/
def Tc (arr : Array Value) (n i j : Nat) : Prop := ∀ a b : Nat, b ≤ n → (a < i ∨ (a = i ∧ b < j)) → arr[a * 65 + b]? = some (.int .i64 (co (b : Int) (a : Int)))
def PT (w0 : World) (b n i j : Nat) (A : World) : Prop := Below w0.heap.size w0 A ∧ ∃ arr, PL A b arr ∧ arr.size = 4226 ∧ Tc arr n i j ∧ arr[4225]? = some (.slice none 0 0)
theorem PT.start (w : World) (n : Nat) : PT w w.heap.size n 0 0 (w.alloc (.cells Z84 84)) := ⟨(Below.refl _ _).alloc (Nat.le_refl _) _, Z84, heap_alloc_new w _, Z84_size, fun a b _ h => by omega, Z84_last⟩
theorem PT.put {w0 A : World} {b n i j : Nat} (h : PT w0 b n i j A) (hb : w0.heap.size ≤ b) (hn : n ≤ 64) (hi : i ≤ 64) (hj : j ≤ n) : PT w0 b n i (j + 1) (A.setCell ⟨b, i * 65 + j, none⟩ (.int .i64 (co (j : Int) (i : Int)))) := by
  obtain ⟨hB, arr, hP, hs, hT, hl⟩ := h
  refine ⟨Below.setCell hB hb _, _, hP.set _ _, by simpa using hs, fun a c hc hac => ?_, ?_⟩
  · by_cases he : a = i ∧ c = j
    · obtain ⟨rfl, rfl⟩ := he
      rw [Array.getElem?_setIfInBounds_self_of_lt (by omega)]
    · rw [Array.getElem?_setIfInBounds_ne (by omega)]
      exact hT a c hc (by omega)
  · rw [Array.getElem?_setIfInBounds_ne (by omega)]
    exact hl
theorem PT.next {w0 A : World} {b n i : Nat} (h : PT w0 b n i (n + 1) A) : PT w0 b n (i + 1) 0 A := by
  obtain ⟨hB, arr, hP, hs, hT, hl⟩ := h
  exact ⟨hB, arr, hP, hs, fun a c hc hac => hT a c hc (by omega), hl⟩
theorem PT.done {w0 A : World} {b n s : Nat} (h : PT w0 b n (s + 1) 0 A) (hb : w0.heap.size ≤ b) : PS w0 b n s [] A := by
  obtain ⟨hB, arr, hP, hs, hT, hl⟩ := h
  exact ⟨hB, hb, arr, _, hP, hs, fun i j hi hj => hT i j hj (by omega), hl, World.ownsRow_nil _ _ _ _⟩
theorem PT.drewN {w0 A : World} {b n i j : Nat} (h : PT w0 b n i j A) (m : Nat) : PT w0 b n i j (A.drewN m) := ⟨⟨h.1.os, h.1.tape, h.1.output, h.1.size, h.1.block⟩, h.2⟩
end Go.Proofs.Ytndmpoomdoojpaa.Ck
