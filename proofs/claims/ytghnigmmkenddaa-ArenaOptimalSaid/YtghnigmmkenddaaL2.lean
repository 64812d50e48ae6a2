/- Lifetimes: Overlap, and MaxLive of the reference. -/
import Derived.Test.YtghnigmmkenddaaRows
import Derived.WalkKit
import Derived.ProofKit
import Derived.OpenShut
import Derived.WalkLawsBesides
import Derived.WalkSpells
import Derived.Outline
import Derived.Handy
import Derived.IntWalk
import Derived.Deep.QuietTactic
import Derived.BigQuiet
import Derived.Lib.Hide
import Derived.Test.YtghnigmmkenddaaL1
import Derived.WalkSmall
import Derived.OwnWalk
import Derived.Deep.RegionHeld
namespace Go.Proofs.Ytghnigmmkenddaa.Lv
open Go.ChangeShapes Go.WideShapes Go.ChangeAt Go.RowKit
set_option linter.unusedVariables false
set_option linter.unusedSimpArgs false
theorem ret_bool {a b : Bool} (h : a = b) : Ending.returned (.bool a) = .returned (.bool b) := by rw [h]
theorem ret_int {a b : Int} (h : a = b) : Ending.returned (.int .i64 a) = .returned (.int .i64 b) := by rw [h]
abbrev lf0 : Lf := (ByteArray.empty, 0, 0, 0)
def SlL (w : World) (p : Option Addr) (xs : List Lf) : Prop := ∀ i, i < xs.length → ∃ b o, p = some ⟨b, o, none⟩ ∧ w.cell? ⟨b, o + i * 4, none⟩ = some (.string (xs.getD i lf0).1) ∧ w.cell? ⟨b, o + i * 4 + 1, none⟩ = some (.int .i64 (xs.getD i lf0).2.1) ∧ w.cell? ⟨b, o + i * 4 + 2, none⟩ = some (.int .i64 (xs.getD i lf0).2.2.1) ∧ w.cell? ⟨b, o + i * 4 + 3, none⟩ = some (.int .i64 (xs.getD i lf0).2.2.2)
theorem kp {y y' : World} {b o : Nat} {v : Value} (hy : Below y.heap.size y y') (hb : b < y.heap.size) (h : y.cell? ⟨b, o, none⟩ = some v) : y'.cell? ⟨b, o, none⟩ = some v := (hy.cell (p := ⟨b, o, none⟩) hb).trans h
theorem SlL.keep {w w' : World} {p : Option Addr} {xs : List Lf} (hB : Below w.heap.size w w') (h : SlL w p xs) : SlL w' p xs := fun i hi => by
  obtain ⟨b, o, rfl, c0, c1, c2, c3⟩ := h i hi
  have hb : b < w.heap.size := by have := World.block_lt_of_cell? w _ c0; simpa using this
  exact ⟨b, o, rfl, kp hB hb c0, kp hB hb c1, kp hB hb c2, kp hB hb c3⟩
theorem getD_lf {xs : List Lf} {k : Nat} (h : k < xs.length) : xs.getD k lf0 = xs[k] := by
  unfold List.getD
  rw [List.getElem?_eq_getElem h]
  rfl
def ov (a b : Lf) : Bool := decide (a.2.1 ≤ b.2.2.1) && decide (b.2.1 ≤ a.2.2.1)
def Lv4 (a : Lf) : Value := .agg #[.string a.1, .int .i64 a.2.1, .int .i64 a.2.2.1, .int .i64 a.2.2.2]
set_option maxHeartbeats 4000000 in
theorem over1 (a b : Lf) (w : World) : Calls Try.prog 26 #[Lv4 a, Lv4 b] w fun e w' => e = .returned (.bool (ov a b)) ∧ Below w.heap.size w w' := by
  obtain ⟨s, f, t, z⟩ := a
  obtain ⟨s', f', t', z'⟩ := b
  unfold Lv4 ov
  simp only
  by_cases h1 : f ≤ t'
  · have e1 : decide (f ≤ t') = true := decide_eq_true h1
    rw [e1, Bool.true_and]
    go_enter Try.func26, Try.ntmps26
    go_wp2
    go_ret
    exact ⟨rfl, ((Below.refl _ _).alloc (Nat.le_refl _) _).alloc (by simp) _⟩
  · have e1 : decide (f ≤ t') = false := decide_eq_false h1
    rw [e1, Bool.false_and]
    go_enter Try.func26, Try.ntmps26
    go_wp2
    go_ret
    exact ⟨rfl, ((Below.refl _ _).alloc (Nat.le_refl _) _).alloc (by simp) _⟩
set_option maxHeartbeats 4000000 in
theorem over2 (a b : Lf) (w : World) : Calls Try.prog 40 #[Lv4 a, Lv4 b] w fun e w' => e = .returned (.bool (ov a b)) ∧ Below w.heap.size w w' := by
  obtain ⟨s, f, t, z⟩ := a
  obtain ⟨s', f', t', z'⟩ := b
  unfold Lv4 ov
  simp only
  by_cases h1 : f ≤ t'
  · have e1 : decide (f ≤ t') = true := decide_eq_true h1
    rw [e1, Bool.true_and]
    go_enter Try.func40, Try.ntmps40
    go_wp2
    go_ret
    exact ⟨rfl, ((Below.refl _ _).alloc (Nat.le_refl _) _).alloc (by simp) _⟩
  · have e1 : decide (f ≤ t') = false := decide_eq_false h1
    rw [e1, Bool.false_and]
    go_enter Try.func40, Try.ntmps40
    go_wp2
    go_ret
    exact ⟨rfl, ((Below.refl _ _).alloc (Nat.le_refl _) _).alloc (by simp) _⟩
end Go.Proofs.Ytghnigmmkenddaa.Lv
