/- Steps through a region that draws its order: an operation is taken by its place, be it carried out or left out by its guard. -/
import Derived.Test.YtghnigmmkenddaaRows
import Derived.WalkKit
import Derived.ProofKit
import Derived.OpenShut
import Derived.WalkLawsBesides
import Derived.WalkSpells
import Derived.Outline
import Derived.Handy
import Derived.Deep.QuietTactic
import Derived.BigQuiet
import Derived.Lib.Hide
import Derived.Deep.RegionHeld3
namespace Go.Proofs.Ytghnigmmkenddaa.Rg
open Go.ChangeShapes Go.WideShapes Go.ChangeAt Go.RowKit
set_option linter.unusedVariables false

section
variable {P : Program} {ops : Array Oper} {Q : Exit → Act → World → Prop} {md : Region.Mode} {S : World → Prop}
theorem at_of {i : Nat} {oi : Oper} (h : ops.toList[i]? = some oi) : ops[i]? = some oi := by rw [← Array.getElem?_toList]; exact h
/-- An operation that is carried out, or left out, first. -/
theorem take {i : Nat} {oi : Oper} {v : Value} {fuel : Nat} {listed : Array Bool} {a : Act} {w : World} (hi : ops.toList[i]? = some oi)
    (hs : Region.noSelect ops = true) (hf : Region.free md ops listed i = true) (hr : (Region.ready md ops listed).contains i = true)
    (hQ : ∀ c a w, Q (.panic c) (a.put oi.dst v) w → Q (.panic c) a w) (hy : YieldsIf P ops S oi v a) (hS : S w)
    (h : wpAnyH P md ops Q S fuel (listed.setIfInBounds i true) (a.put oi.dst v) w) : wpAnyH P md ops Q S (fuel + 1) listed a w :=
  wpAnyH_take (at_of hi) hs hf hr hQ hy hS h
/-- The one operation that may come up. -/
theorem one {i : Nat} {o : Oper} {fuel : Nat} {listed : Array Bool} {a : Act} {w : World} (hr : Region.ready md ops listed = [i]) (ho : ops.toList[i]? = some o)
    (h : ∀ K' : Act → World → Prop, Shut (∀ a w, S w → (S w → wpAnyH P md ops Q S fuel (listed.setIfInBounds i true) a w) → K' a w) → if Region.wanted o (yielded ops a.tmps) = true then Oper.wp P o a w K' Q else K' (a.put o.dst undef) w) :
    wpAnyH P md ops Q S (fuel + 1) listed a w :=
  wpAnyH_ready hr (by simp) (AllReadyH.cons (at_of ho) h AllReadyH.nil)
end
/-- Two cells of a result, whatever they hold. -/
def RC (r : Nat) (w : World) : Prop := (∃ a, w.cell? ⟨r, 0, none⟩ = some (.int .i64 a)) ∧ (∃ b, w.cell? ⟨r, 1, none⟩ = some (.int .i64 b)) ∧ w.frozen? ⟨r, 0, none⟩ = false ∧ w.frozen? ⟨r, 1, none⟩ = false
theorem keep {y y' : World} {b o : Nat} {v : Value} (hy : Below y.heap.size y y') (hb : b < y.heap.size) (h : y.cell? ⟨b, o, none⟩ = some v) : y'.cell? ⟨b, o, none⟩ = some v := (hy.cell (p := ⟨b, o, none⟩) hb).trans h
theorem keepF {y y' : World} {b o : Nat} {v : Bool} (hy : Below y.heap.size y y') (hb : b < y.heap.size) (h : y.frozen? ⟨b, o, none⟩ = v) : y'.frozen? ⟨b, o, none⟩ = v := (hy.frozen (p := ⟨b, o, none⟩) hb).trans h
theorem notFrozen {w : World} {b o : Nat} (h : w.heap.size ≤ b) : w.frozen? ⟨b, o, none⟩ = false := by
  unfold World.frozen?
  rw [Array.getElem?_eq_none (by simpa using h)]
theorem RC.keep {y y' : World} {r : Nat} (hy : Below y.heap.size y y') (hb : r < y.heap.size) (h : RC r y) : RC r y' := by
  obtain ⟨⟨a, ha⟩, ⟨b, hb'⟩, f, g⟩ := h
  exact ⟨⟨a, Rg.keep hy hb ha⟩, ⟨b, Rg.keep hy hb hb'⟩, keepF hy hb f, keepF hy hb g⟩
theorem RC.store {u : World} {r : Nat} {x y : Int} (h : RC r u) : RC r ((u.setCell ⟨r, 0, none⟩ (.int .i64 x)).setCell ⟨r, 1, none⟩ (.int .i64 y)) := by
  obtain ⟨⟨a, ha⟩, ⟨b, hb⟩, f, g⟩ := h
  have h0 : (u.setCell ⟨r, 0, none⟩ (.int .i64 x)).cell? ⟨r, 0, none⟩ = some (.int .i64 x) := World.cell?_setCell_same _ _ _ ha
  have h1 : (u.setCell ⟨r, 0, none⟩ (.int .i64 x)).cell? ⟨r, 1, none⟩ = some (.int .i64 b) := (World.cell?_setCell_other _ _ _ _ (by simp)).trans hb
  exact ⟨⟨x, (World.cell?_setCell_other _ _ _ _ (by simp)).trans h0⟩, ⟨y, World.cell?_setCell_same _ _ _ h1⟩, by simpa [World.frozen?_setCell] using f, by simpa [World.frozen?_setCell] using g⟩
theorem RC.read0 {u : World} {r : Nat} {x y : Int} (h : RC r u) : ((u.setCell ⟨r, 0, none⟩ (.int .i64 x)).setCell ⟨r, 1, none⟩ (.int .i64 y)).cell? ⟨r, 0, none⟩ = some (.int .i64 x) := by
  obtain ⟨⟨a, ha⟩, _, f, g⟩ := h
  exact (World.cell?_setCell_other _ _ _ _ (by simp)).trans (World.cell?_setCell_same _ _ _ ha)
theorem RC.read00 {u : World} {r : Nat} {x : Int} (h : RC r u) : (u.setCell ⟨r, 0, none⟩ (.int .i64 x)).cell? ⟨r, 0, none⟩ = some (.int .i64 x) := by
  obtain ⟨⟨a, ha⟩, _, f, g⟩ := h
  exact World.cell?_setCell_same _ _ _ ha
theorem RC.read1 {u : World} {r : Nat} {x y : Int} (h : RC r u) : ((u.setCell ⟨r, 0, none⟩ (.int .i64 x)).setCell ⟨r, 1, none⟩ (.int .i64 y)).cell? ⟨r, 1, none⟩ = some (.int .i64 y) := by
  obtain ⟨_, ⟨b, hb⟩, f, g⟩ := h
  have h1 : (u.setCell ⟨r, 0, none⟩ (.int .i64 x)).cell? ⟨r, 1, none⟩ = some (.int .i64 b) := (World.cell?_setCell_other _ _ _ _ (by simp)).trans hb
  exact World.cell?_setCell_same _ _ _ h1
theorem RC.far {u : World} {r b : Nat} {x y : Value} (h : r ≠ b) (hc : RC b u) : RC b ((u.setCell ⟨r, 0, none⟩ x).setCell ⟨r, 1, none⟩ y) := by
  obtain ⟨⟨a, ha⟩, ⟨c, hb⟩, f, g⟩ := hc
  refine ⟨⟨a, ?_⟩, ⟨c, ?_⟩, by simpa [World.frozen?_setCell] using f, by simpa [World.frozen?_setCell] using g⟩
  · rw [World.cell?_setCell_far _ _ _ _ h, World.cell?_setCell_far _ _ _ _ h]; exact ha
  · rw [World.cell?_setCell_far _ _ _ _ h, World.cell?_setCell_far _ _ _ _ h]; exact hb
theorem RC.mk {u : World} {r : Nat} {a b : Int} (ha : u.cell? ⟨r, 0, none⟩ = some (.int .i64 a)) (hb : u.cell? ⟨r, 1, none⟩ = some (.int .i64 b)) (f : u.frozen? ⟨r, 0, none⟩ = false) (g : u.frozen? ⟨r, 1, none⟩ = false) : RC r u := ⟨⟨a, ha⟩, ⟨b, hb⟩, f, g⟩
theorem far {u : World} {r b o : Nat} {v x y : Value} (h : r ≠ b) (hc : u.cell? ⟨b, o, none⟩ = some v) : ((u.setCell ⟨r, 0, none⟩ x).setCell ⟨r, 1, none⟩ y).cell? ⟨b, o, none⟩ = some v := by
  rw [World.cell?_setCell_far _ _ _ _ h, World.cell?_setCell_far _ _ _ _ h]
  exact hc
theorem size2 {u : World} {r : Nat} {x y : Value} : ((u.setCell ⟨r, 0, none⟩ x).setCell ⟨r, 1, none⟩ y).heap.size = u.heap.size := by simp
theorem bcell {W w1 : World} (hb : Below W.heap.size W w1) : (∀ b o, b < W.heap.size → w1.cell? ⟨b, o, none⟩ = W.cell? ⟨b, o, none⟩) ∧ (∀ b o, b < W.heap.size → w1.frozen? ⟨b, o, none⟩ = W.frozen? ⟨b, o, none⟩) :=
  ⟨fun b o h => hb.cell (p := ⟨b, o, none⟩) h, fun b o h => hb.frozen (p := ⟨b, o, none⟩) h⟩
end Go.Proofs.Ytghnigmmkenddaa.Rg
