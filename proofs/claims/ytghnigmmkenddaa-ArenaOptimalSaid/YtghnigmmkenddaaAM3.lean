/- First fit: the sweep over the slots in the order of their offsets finds the least offset that is free. -/
import Derived.Test.YtghnigmmkenddaaAM2
namespace Go.Proofs.Ytghnigmmkenddaa.Ar
set_option linter.unusedVariables false
/-- The sweep over slots (offset, length). -/
def ffs (size : Int) : List (Int × Int) → Int → Int
  | [], x => x
  | s :: r, x => ffs size r (if s.1 < x + size then max x (s.1 + s.2) else x)
/-- An offset is free of a slot. -/
def off (size x : Int) (s : Int × Int) : Prop := ¬ (x < s.1 + s.2 ∧ s.1 < x + size)
theorem ffs_ge (size : Int) : ∀ (l : List (Int × Int)) (x : Int), x ≤ ffs size l x
  | [], x => Int.le_refl _
  | s :: r, x => by
    have := ffs_ge size r (if s.1 < x + size then max x (s.1 + s.2) else x)
    have h2 : x ≤ (if s.1 < x + size then max x (s.1 + s.2) else x) := by split <;> omega
    exact Int.le_trans h2 this
/-- No free offset lies ahead of the one that is found. -/
theorem ffs_least (size : Int) : ∀ (l : List (Int × Int)) (x y : Int), x ≤ y → (∀ s ∈ l, off size y s) → ffs size l x ≤ y
  | [], x, y, h, _ => h
  | s :: r, x, y, h, hf => by
    refine ffs_least size r _ y ?_ fun t ht => hf t (List.mem_cons_of_mem _ ht)
    have h1 := hf s List.mem_cons_self
    unfold off at h1
    split <;> omega
theorem ffs_stop (size : Int) : ∀ (l : List (Int × Int)) (x : Int), (∀ s ∈ l, x + size ≤ s.1) → ffs size l x = x
  | [], x, _ => rfl
  | s :: r, x, h => by
    have h1 := h s List.mem_cons_self
    show ffs size r (if s.1 < x + size then max x (s.1 + s.2) else x) = x
    rw [if_neg (by omega)]
    exact ffs_stop size r x fun t ht => h t (List.mem_cons_of_mem _ ht)
/-- The offset that is found is free. -/
theorem ffs_free (size : Int) : ∀ (l : List (Int × Int)) (x : Int), (l.Pairwise fun s t => s.1 ≤ t.1) → ∀ s ∈ l, off size (ffs size l x) s
  | [], x, _, s, hs => absurd hs (by simp)
  | a :: r, x, hp, s, hs => by
    obtain ⟨h1, h2⟩ := List.pairwise_cons.1 hp
    show off size (ffs size r (if a.1 < x + size then max x (a.1 + a.2) else x)) s
    by_cases hc : a.1 < x + size
    · rw [if_pos hc]
      rcases List.mem_cons.1 hs with rfl | hs
      · have := ffs_ge size r (max x (s.1 + s.2))
        unfold off
        omega
      · exact ffs_free size r _ h2 s hs
    · rw [if_neg hc]
      have e : ffs size r x = x := ffs_stop size r x fun t ht => by have := h1 t ht; omega
      rw [e]
      rcases List.mem_cons.1 hs with rfl | hs
      · unfold off; omega
      · have := h1 s hs
        unfold off
        omega
/-- It is the first offset, or the end of a slot. -/
theorem ffs_cand (size : Int) : ∀ (l : List (Int × Int)) (x : Int), ffs size l x = x ∨ ∃ s ∈ l, ffs size l x = s.1 + s.2
  | [], x => .inl rfl
  | a :: r, x => by
    show ffs size r (if a.1 < x + size then max x (a.1 + a.2) else x) = x ∨ ∃ s ∈ a :: r, ffs size r (if a.1 < x + size then max x (a.1 + a.2) else x) = s.1 + s.2
    have h := ffs_cand size r (if a.1 < x + size then max x (a.1 + a.2) else x)
    rcases h with h | ⟨s, hs, h⟩
    · rw [h]
      split
      · rcases (by omega : max x (a.1 + a.2) = x ∨ max x (a.1 + a.2) = a.1 + a.2) with e | e
        · exact .inl e
        · exact .inr ⟨a, List.mem_cons_self, e⟩
      · exact .inl rfl
    · exact .inr ⟨s, List.mem_cons_of_mem _ hs, h⟩
/-- The least of some candidates that are free, as the definition looks for it, is the offset that the sweep finds, if that fits below a limit. -/
theorem ffs_best {size M : Int} {l : List (Int × Int)} {C : List Int} (hp : l.Pairwise fun s t => s.1 ≤ t.1) (h0 : ∀ s ∈ l, 0 ≤ s.1 + s.2) (hc0 : (0 : Int) ∈ C) (hc : ∀ s ∈ l, s.1 + s.2 ∈ C) (hC : ∀ x ∈ C, 0 ≤ x) {found : Bool} {best : Int} (hb : found = true → best ∈ C ∧ best ≤ M - size ∧ ∀ s ∈ l, off size best s) (hl : ∀ x ∈ C, x ≤ M - size → (∀ s ∈ l, off size x s) → found = true ∧ best ≤ x) : (found = true ↔ ffs size l 0 ≤ M - size) ∧ (found = true → best = ffs size l 0) := by
  have hf := ffs_free size l 0 hp
  have hin : ffs size l 0 ∈ C := by
    rcases ffs_cand size l 0 with h | ⟨s, hs, h⟩
    · rw [h]; exact hc0
    · rw [h]; exact hc s hs
  refine ⟨⟨fun h => ?_, fun h => (hl _ hin h hf).1⟩, fun h => ?_⟩
  · obtain ⟨h1, h2, h3⟩ := hb h
    have := ffs_least size l 0 best (hC _ h1) h3
    omega
  · obtain ⟨h1, h2, h3⟩ := hb h
    have h4 := ffs_least size l 0 best (hC _ h1) h3
    have h5 := (hl _ hin (by omega) hf).2
    omega
end Go.Proofs.Ytghnigmmkenddaa.Ar
