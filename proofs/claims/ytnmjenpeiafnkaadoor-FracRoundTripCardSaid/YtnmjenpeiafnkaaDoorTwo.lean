/- Cells behind three new blocks; both operands valid. -/
import Derived.Test.YtnmjenpeiafnkaaDoorRNew
import Derived.Test.YtnmjenpeiafnkaaDoorValid
namespace Go.Proofs.YtnmjenpeiafnkaaDoor.Fr
open Go.ChangeShapes Go.WideShapes Go.ChangeAt Go.RowKit
set_option linter.unusedVariables false

theorem step {k : Nat} {W w1 w2 : World} (B : Below k W w1) (hb : Below w1.heap.size w1 w2) (hk : k ≤ W.heap.size) : Below k W w2 := B.trans (hb.mono (Nat.le_trans hk B.size))
theorem cells3 {w w1 : World} {n1 d1 n2 d2 n3 d3 : Int} (h : Below (w.heap.size + 3) (((w.alloc (.cells #[.int .i64 n1, .int .i64 d1] 23)).alloc (.cells #[.int .i64 n2, .int .i64 d2] 23)).alloc (.cells #[.int .i64 n3, .int .i64 d3] 23)) w1) :
    w1.cell? ⟨w.heap.size, 0, none⟩ = some (.int .i64 n1) ∧ w1.cell? ⟨w.heap.size, 1, none⟩ = some (.int .i64 d1) ∧ w1.cell? ⟨w.heap.size + 1, 0, none⟩ = some (.int .i64 n2) ∧ w1.cell? ⟨w.heap.size + 1, 1, none⟩ = some (.int .i64 d2) ∧
    w1.cell? ⟨w.heap.size + 2, 0, none⟩ = some (.int .i64 n3) ∧ w1.cell? ⟨w.heap.size + 2, 1, none⟩ = some (.int .i64 d3) ∧ w1.frozen? ⟨w.heap.size + 2, 0, none⟩ = false ∧ w1.frozen? ⟨w.heap.size + 2, 1, none⟩ = false ∧ w.heap.size + 3 ≤ w1.heap.size := by
  have s := h.size
  simp at s
  refine ⟨?_, ?_, ?_, ?_, ?_, ?_, ?_, ?_, by omega⟩
  · rw [h.cell (p := ⟨w.heap.size, 0, none⟩) (show w.heap.size < w.heap.size + 3 by omega)]; go_cell
  · rw [h.cell (p := ⟨w.heap.size, 1, none⟩) (show w.heap.size < w.heap.size + 3 by omega)]; go_cell
  · rw [h.cell (p := ⟨w.heap.size + 1, 0, none⟩) (show w.heap.size + 1 < w.heap.size + 3 by omega)]; go_cell
  · rw [h.cell (p := ⟨w.heap.size + 1, 1, none⟩) (show w.heap.size + 1 < w.heap.size + 3 by omega)]; go_cell
  · rw [h.cell (p := ⟨w.heap.size + 2, 0, none⟩) (show w.heap.size + 2 < w.heap.size + 3 by omega)]; go_cell
  · rw [h.cell (p := ⟨w.heap.size + 2, 1, none⟩) (show w.heap.size + 2 < w.heap.size + 3 by omega)]; go_cell
  · rw [h.frozen (p := ⟨w.heap.size + 2, 0, none⟩) (show w.heap.size + 2 < w.heap.size + 3 by omega)]; go_cell
  · rw [h.frozen (p := ⟨w.heap.size + 2, 1, none⟩) (show w.heap.size + 2 < w.heap.size + 3 by omega)]; go_cell
theorem below3 (w : World) (a b c : Obj) : Below w.heap.size w (((w.alloc a).alloc b).alloc c) := (((Below.refl _ _).alloc (Nat.le_refl _) _).alloc (by simp) _).alloc (by simp; omega) _
/-- Both operands are valid fractions. -/
def both (n1 d1 n2 d2 : Int) : Bool := vld n1 d1 && vld n2 d2
end Go.Proofs.YtnmjenpeiafnkaaDoor.Fr
