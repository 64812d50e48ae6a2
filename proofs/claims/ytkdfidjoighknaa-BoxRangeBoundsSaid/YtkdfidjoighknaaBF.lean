/- Contracts carried from another seat. -/
import Derived.Test.YtkdfidjoighknaaRows
import Derived.OwnWalk
import Derived.WalkSmall
import Derived.Deep.RegionHeld
import Derived.WalkKit
import Derived.ProofKit
import Derived.OpenShut
import Derived.Lib.Bytealg
import Derived.WalkLawsBesides
import Derived.WalkSpells
import Derived.Outline
import Derived.Handy
import Derived.IntWalk
import Derived.Deep.QuietTactic
import Derived.BigQuiet
import Derived.Lib.Hide
import Derived.Deep.RegionHeld3
import Derived.Deep.RegionWith
import Derived.Laws.Externs
import Derived.Shelf.Spec.BitsCarry
import Derived.Deep.Quiet
import Derived.Laws.AppendOwn
import Derived.Laws.OwnMore
import Derived.OneCell
import Derived.Deep.Onto
import Derived.Laws.Rows
import Derived.Test.YtkdfidjoighknaaBE
open Go.Proofs.Ytkdfidjoighknaa.Nm
namespace Go.Proofs.Ytkdfidjoighknaa.Ln
open Go.ChangeShapes Go.WideShapes Go.ChangeAt Go.RowKit
open Go.Proofs.Ytkdfidjoighknaa.Nm
set_option linter.unusedVariables false
set_option linter.unusedSimpArgs false
instance (a b : ByteArray) : Decidable (slt a b) := inferInstanceAs (Decidable (cs a b < 0))
theorem cb_less : ∀ a b : List UInt8, Op.bytesLess a b = decide (Lib.compareBytes a b < 0)
  | [], [] => rfl
  | [], _ :: _ => rfl
  | _ :: _, [] => rfl
  | a :: a1s, b :: bs => by
    have ih := cb_less a1s bs
    unfold Lib.compareBytes Op.bytesLess
    rw [ih]
    by_cases h1 : a < b
    · simp [h1]
    · by_cases h2 : b < a
      · have : ¬ a = b := fun h => by subst h; exact h1 h2
        simp [h1, h2, this]
      · obtain rfl : a = b := UInt8.le_antisymm (UInt8.not_lt.1 h2) (UInt8.not_lt.1 h1)
        simp
theorem cs_less (a b : ByteArray) : Op.bytesLess a.toList b.toList = decide (cs a b < 0) := by
  rw [ByteArray.toList_eq, ByteArray.toList_eq]; exact cb_less _ _
/-- Monomials in a row of the call's own. -/
def moC (m : Mo) : List Value := [.string m.1, .int .i64 m.2]
def moCs (l : List Mo) : List Value := l.flatMap moC
theorem moCs_snoc (l : List Mo) (m : Mo) : moCs (l ++ [m]) = moCs l ++ moC m := by unfold moCs; rw [List.flatMap_append]; simp
theorem moCs_get : ∀ (l : List Mo) (i : Nat), i < l.length → (moCs l)[i * 2]? = some (.string (l.getD i mo0).1) ∧ (moCs l)[i * 2 + 1]? = some (.int .i64 (l.getD i mo0).2)
  | [], i, h => absurd h (by simp)
  | m :: l, 0, h => ⟨rfl, rfl⟩
  | m :: l, i + 1, h => by
    obtain ⟨h1, h2⟩ := moCs_get l i (by simpa using h)
    unfold moCs at h1 h2 ⊢
    rw [List.flatMap_cons]
    have e1 : (i + 1) * 2 = (i * 2 + 1) + 1 := by omega
    have e2 : (i + 1) * 2 + 1 = (i * 2 + 1 + 1) + 1 := by omega
    refine ⟨?_, ?_⟩
    · rw [e1]; show (_ :: _ :: _)[_]? = _; rw [List.getElem?_cons_succ, List.getElem?_cons_succ]; exact h1
    · rw [e2]; show (_ :: _ :: _)[_]? = _; rw [List.getElem?_cons_succ, List.getElem?_cons_succ]; exact h2
theorem addr_add (g k : Nat) : (⟨g, 0, none⟩ : Addr).add k = ⟨g, k, none⟩ := by
  unfold Addr.add
  split <;> simp_all
theorem own_sl {w : World} {base : Nat} {v : Value} {l : List Mo} (h : w.ownsRow base 51 2 v l.length (moCs l)) : ∃ p c, v = .slice p l.length c ∧ SlM w p l := by
  obtain ⟨h1, h2⟩ := h
  rcases h2 with ⟨rfl, hn⟩ | ⟨g, cap, cur, rfl, hb, hh, hc, hm, hs, ht⟩
  · exact ⟨none, 0, by rw [hn], fun i hi => absurd hi (by omega)⟩
  · refine ⟨some ⟨g, 0, none⟩, cap, rfl, fun i hi => ⟨g, 0, rfl, ?_⟩⟩
    have hO : w.ownsRow base 51 2 (.slice (some ⟨g, 0, none⟩) l.length cap) l.length (moCs l) := ⟨h1, .inr ⟨g, cap, cur, rfl, hb, hh, hc, hm, hs, ht⟩⟩
    obtain ⟨c1, c2⟩ := moCs_get l i hi
    have d1 := hO.cells (g := g) rfl _ _ c1
    have d2 := hO.cells (g := g) rfl _ _ c2
    rw [addr_add] at d1 d2
    exact ⟨by rw [Nat.zero_add]; exact d1, by rw [Nat.zero_add]; exact d2⟩
theorem own_sl' {w : World} {base n : Nat} {v : Value} {l : List Mo} (h : w.ownsRow base 51 2 v n (moCs l)) (hn : n = l.length) : ∃ p c, v = .slice p n c ∧ SlM w p l := by
  subst hn
  exact own_sl h
def LR (k : Int) (ys : List Mo) (er : Int) (w : World) (e : Ending) (w' : World) : Prop := ∃ p c, e = .returned (.tuple #[Lv k p ys.length c, .int .i64 er]) ∧ SlM w' p ys ∧ Below w.heap.size w w'
theorem LR.zero {er : Int} {w w' : World} {e : Ending} (h : e = .returned (.tuple #[.agg #[.int .i64 0, .slice none 0 0], .int .i64 er])) (hb : Below w.heap.size w w') : LR 0 [] er w e w' := ⟨none, 0, h, fun i hi => absurd hi (by simp), hb⟩
theorem infoMo : (Try.prog.info? 51).map (fun i => (i.zero, i.size, i.bytes)) = some (some (.agg #[.string ⟨#[]⟩, .int .i64 0]), 2, 24) := by kernel_rfl
theorem slt_less (a b : ByteArray) : Op.bytesLess a.toList b.toList = decide (slt a b) := cs_less a b
/-- The names of a valid form ascend. -/
theorem okL_iff {xs : List Mo} : okL xs = true ↔ (Srt (xs.map (·.1)) ∧ ∀ m ∈ xs, nmB m.1 = true ∧ m.2 ≠ 0) := by
  unfold okL
  rw [List.all_eq_true]
  have getE : ∀ j (h : j < xs.length), xs.getD j mo0 = xs[j] := fun j h => by unfold List.getD; rw [List.getElem?_eq_getElem h]; rfl
  constructor
  · intro h
    have hb : ∀ j, j < xs.length → nmB (xs.getD j mo0).1 = true ∧ (xs.getD j mo0).2 ≠ 0 ∧ (0 < j → slt (xs.getD (j - 1) mo0).1 (xs.getD j mo0).1) := fun j hj => by
      have h1 := h j (List.mem_range.2 hj)
      unfold bd at h1
      rw [slt_less] at h1
      simp only [Bool.not_eq_true', Bool.or_eq_false_iff, Bool.not_eq_false', beq_eq_false_iff_ne, Bool.and_eq_false_imp, decide_eq_true_eq] at h1
      exact ⟨h1.1, h1.2.1, fun h0 => by simpa using h1.2.2 h0⟩
    refine ⟨?_, ?_⟩
    · unfold Srt
      rw [List.pairwise_iff_getElem]
      intro i j hi hj hij
      have key : ∀ d i (hi : i + d + 1 < xs.length), slt (xs.getD i mo0).1 (xs.getD (i + d + 1) mo0).1 := by
        intro d
        induction d with
        | zero => intro i hi; exact (hb (i + 0 + 1) hi).2.2 (by omega)
        | succ d ih =>
          intro i hi
          exact slt_trans (ih i (by omega)) ((hb (i + (d + 1) + 1) hi).2.2 (by omega))
      simp only [List.length_map] at hi hj
      have := key (j - i - 1) i (by omega)
      rw [show i + (j - i - 1) + 1 = j by omega, getE i hi, getE j hj] at this
      simpa using this
    · intro m hm
      obtain ⟨j, hj, rfl⟩ := List.getElem_of_mem hm
      have := hb j hj
      rw [getE j hj] at this
      exact ⟨this.1, this.2.1⟩
  · intro h j hj
    have hj := List.mem_range.1 hj
    unfold bd
    rw [slt_less]
    have h1 := h.2 (xs.getD j mo0) (getD_mem hj)
    rw [h1.1, beq_false_of_ne h1.2]
    have hs : 0 < j → slt (xs.getD (j - 1) mo0).1 (xs.getD j mo0).1 := fun h0 => by
      have := (List.pairwise_iff_getElem.1 h.1) (j - 1) j (by simp; omega) (by simpa using hj) (by omega)
      rw [getE j hj, getE (j - 1) (by omega)]
      simpa using this
    generalize (xs.getD (j - 1) mo0).1 = A at *
    generalize (xs.getD j mo0).1 = B at *
    by_cases h0 : 0 < j
    · rw [decide_eq_true (hs h0)]; simp
    · rw [decide_eq_false h0]; rfl
end Go.Proofs.Ytkdfidjoighknaa.Ln
