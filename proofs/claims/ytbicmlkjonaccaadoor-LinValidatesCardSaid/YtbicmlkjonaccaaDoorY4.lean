/- Linear forms: lists of monomials in memory. -/
import Derived.Test.YtbicmlkjonaccaaDoorRows
import Derived.WalkKit
import Derived.ProofKit
import Derived.OpenShut
import Derived.WalkLawsBesides
import Derived.WalkSpells
import Derived.Outline
import Derived.Handy
import Derived.IntWalk
import Derived.Deep.QuietTactic
import Derived.BigQuiet
import Derived.Lib.Hide
import Derived.Test.YtbicmlkjonaccaaDoorY0
import Derived.Test.YtbicmlkjonaccaaDoorN3
import Derived.Test.YtbicmlkjonaccaaDoorShelf
import Derived.WalkSmall
import Derived.OwnWalk
import Derived.Deep.RegionHeld
import Derived.Deep.RegionHeld3
import Derived.Deep.RegionWith
namespace Go.Proofs.YtbicmlkjonaccaaDoor.Ln
open Go.ChangeShapes Go.WideShapes Go.ChangeAt Go.RowKit
set_option linter.unusedVariables false
set_option linter.unusedSimpArgs false
theorem kp {y y' : World} {b o : Nat} {v : Value} (hy : Below y.heap.size y y') (hb : b < y.heap.size) (h : y.cell? ⟨b, o, none⟩ = some v) : y'.cell? ⟨b, o, none⟩ = some v := (hy.cell (p := ⟨b, o, none⟩) hb).trans h
def SlM (w : World) (p : Option Addr) (xs : List Mo) : Prop := ∀ i, i < xs.length → ∃ b o, p = some ⟨b, o, none⟩ ∧ w.cell? ⟨b, o + i * 2, none⟩ = some (.string (xs.getD i mo0).1) ∧ w.cell? ⟨b, o + i * 2 + 1, none⟩ = some (.int .i64 (xs.getD i mo0).2)
theorem SlM.keep {w w' : World} {p : Option Addr} {xs : List Mo} (hB : Below w.heap.size w w') (h : SlM w p xs) : SlM w' p xs := fun i hi => by
  obtain ⟨b, o, rfl, c0, c1⟩ := h i hi
  have hb : b < w.heap.size := by have := World.block_lt_of_cell? w _ c0; simpa using this
  exact ⟨b, o, rfl, kp hB hb c0, kp hB hb c1⟩
theorem ret_int {a b : Int} (h : a = b) : Ending.returned (.int .i64 a) = .returned (.int .i64 b) := by rw [h]
theorem ret_bool {a b : Bool} (h : a = b) : Ending.returned (.bool a) = .returned (.bool b) := by rw [h]
def Lv (k : Int) (p : Option Addr) (n c : Nat) : Value := .agg #[.int .i64 k, .slice p n c]
theorem below_drewN {B : Nat} {a w : World} (h : Below B a w) (n : Nat) : Below B a (w.drewN n) := ⟨h.os, h.tape, h.output, h.size, h.block⟩
theorem two_below {w : World} (o o' : Obj) : Below w.heap.size w ((w.alloc o).alloc o') := ((Below.refl _ _).alloc (Nat.le_refl _) _).alloc (by simp) _
theorem two_size {w : World} (o o' : Obj) : w.heap.size < ((w.alloc o).alloc o').heap.size ∧ w.heap.size + 1 < ((w.alloc o).alloc o').heap.size := by
  constructor <;> (simp <;> omega)
end Go.Proofs.YtbicmlkjonaccaaDoor.Ln
