/- Linear forms: ascending lists of strings. -/
import Derived.Test.YthdeaneffnlffaaY21
import Derived.Lib.SlicesCompact
namespace Go.Proofs.Ythdeaneffnlffaa.Ln
open Go.ChangeShapes Go.WideShapes Go.ChangeAt Go.RowKit
set_option linter.unusedVariables false
set_option linter.unusedSimpArgs false
theorem cb_lt : ∀ a b : List UInt8, Lib.compareBytes a b < 0 ↔ a < b
  | [], [] => by simp [Lib.compareBytes]
  | [], _ :: _ => by simp [Lib.compareBytes]
  | _ :: _, [] => by simp [Lib.compareBytes]
  | a :: x, b :: y => by
    have ih := cb_lt x y
    unfold Lib.compareBytes
    rw [List.cons_lt_cons_iff]
    by_cases h1 : a < b
    · simp [h1]
    · by_cases h2 : b < a
      · have : ¬ a = b := fun h => by subst h; exact h1 h2
        simp [h1, h2, this]
      · obtain rfl : a = b := UInt8.le_antisymm (UInt8.not_lt.1 h2) (UInt8.not_lt.1 h1)
        simp [ih]
/-- A string out of its bytes. -/
def ofL (l : List UInt8) : ByteArray := ⟨l.toArray⟩
def dl (b : ByteArray) : List UInt8 := b.data.toList
theorem ofL_dl (b : ByteArray) : ofL (dl b) = b := by cases b; simp [ofL, dl]
theorem dl_ofL (l : List UInt8) : dl (ofL l) = l := by simp [ofL, dl]
theorem slt_of {a b : List UInt8} (h : a < b) : slt (ofL a) (ofL b) := by
  unfold slt cs
  have := (cb_lt a b).2 h
  simpa [ofL] using this
theorem keepsI {d : Array (List UInt8)} {m : Nat} : Lib.keeps d m = (decide (m = 0) || decide (d[m]! ≠ d[m - 1]!)) := by
  unfold Lib.keeps
  by_cases h : m = 0 <;> simp [h]
theorem get!_eq {l : List (List UInt8)} {i : Nat} (h : i < l.length) : l.toArray[i]! = l[i] := by simp [h]
/-- Of an ascending list compact leaves a strictly ascending one with the same members. -/
theorem compact_mem {l : List (List UInt8)} (x : List UInt8) : x ∈ Lib.compact l ↔ x ∈ l := by
  unfold Lib.compact Lib.compactUpTo
  rw [List.mem_map]
  constructor
  · rintro ⟨i, hi, rfl⟩
    have h := (List.mem_filter.1 hi).1
    rw [List.mem_range] at h
    rw [get!_eq h]
    exact List.getElem_mem h
  · intro hx
    obtain ⟨i, hi, rfl⟩ := List.getElem_of_mem hx
    -- the least index that holds the same
    have key : ∀ n i, i ≤ n → (hi : i < l.length) → ∃ j, j ∈ (List.range l.length).filter (Lib.keeps l.toArray) ∧ l.toArray[j]! = l[i] := by
      intro n
      induction n with
      | zero =>
        intro i h0 hi
        obtain rfl : i = 0 := by omega
        exact ⟨0, List.mem_filter.2 ⟨List.mem_range.2 hi, by rw [keepsI]; simp⟩, get!_eq hi⟩
      | succ n ih =>
        intro i hin hi
        by_cases hk : Lib.keeps l.toArray i = true
        · exact ⟨i, List.mem_filter.2 ⟨List.mem_range.2 hi, hk⟩, get!_eq hi⟩
        · rw [keepsI] at hk
          simp only [Bool.or_eq_true, decide_eq_true_eq, not_or, Classical.not_not] at hk
          have hi0 : i - 1 < l.length := by omega
          obtain ⟨j, hj, e⟩ := ih (i - 1) (by omega) hi0
          refine ⟨j, hj, ?_⟩
          rw [e, ← get!_eq hi0, ← hk.2, get!_eq hi]
    obtain ⟨j, hj, e⟩ := key i i (Nat.le_refl _) hi
    exact ⟨j, hj, e⟩
theorem compact_lt {l : List (List UInt8)} (hs : l.Pairwise (· ≤ ·)) : (Lib.compact l).Pairwise (· < ·) := by
  unfold Lib.compact Lib.compactUpTo
  rw [List.pairwise_map]
  have hr : ((List.range l.length).filter (Lib.keeps l.toArray)).Pairwise (· < ·) := List.Pairwise.filter _ List.pairwise_lt_range
  refine List.Pairwise.imp_of_mem (fun {i j} hi hj hij => ?_) hr
  have h1 := List.mem_filter.1 hi
  have h2 := List.mem_filter.1 hj
  have hil := List.mem_range.1 h1.1
  have hjl := List.mem_range.1 h2.1
  have hk := h2.2
  rw [keepsI] at hk
  simp only [Bool.or_eq_true, decide_eq_true_eq] at hk
  have hne : l.toArray[j]! ≠ l.toArray[j - 1]! := hk.resolve_left (by omega)
  have hj1 : j - 1 < l.length := by omega
  rw [get!_eq hjl, get!_eq hj1] at hne
  rw [get!_eq hil, get!_eq hjl]
  have hle1 : l[j - 1] ≤ l[j] := (List.pairwise_iff_getElem.1 hs) (j - 1) j hj1 hjl (by omega)
  have hlt : l[j - 1] < l[j] := by
    by_cases h : l[j - 1] < l[j]
    · exact h
    · exact absurd (List.le_antisymm (List.not_lt.1 h) hle1) hne
  by_cases e : i = j - 1
  · subst e; exact hlt
  · have hle2 : l[i] ≤ l[j - 1] := (List.pairwise_iff_getElem.1 hs) i (j - 1) hil hj1 (by omega)
    exact List.lt_of_le_of_lt hle2 hlt
end Go.Proofs.Ythdeaneffnlffaa.Ln
