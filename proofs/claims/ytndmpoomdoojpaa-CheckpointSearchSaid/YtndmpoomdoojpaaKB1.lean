/- The search over states with a set of stored states: what it costs at least and at most. -/
import Derived.Test.YtndmpoomdoojpaaKM3
namespace Go.Proofs.Ytndmpoomdoojpaa.Ck
open Go.ChangeShapes Go.WideShapes Go.ChangeAt Go.RowKit
set_option linter.unusedVariables false
/-- A position of the search: the state, the steps left, the set of stored states. -/
abbrev Nd := Nat × Nat × Nat
/-- The stored states below a number. -/
def HS (s n : Nat) : List Nat := (List.range n).filter fun j => decide (1 ≤ j) && s.testBit j
theorem mem_HS {s n i : Nat} : i ∈ HS s n ↔ i < n ∧ 1 ≤ i ∧ s.testBit i = true := by
  unfold HS
  rw [List.mem_filter, List.mem_range, Bool.and_eq_true, decide_eq_true_eq]
theorem HS_succ (s n : Nat) : HS s (n + 1) = HS s n ++ if 1 ≤ n ∧ s.testBit n = true then [n] else [] := by
  unfold HS
  rw [List.range_succ, List.filter_append]
  congr 1
  by_cases h : 1 ≤ n ∧ s.testBit n = true
  · rw [if_pos h, List.filter_cons_of_pos (by rw [Bool.and_eq_true, decide_eq_true_eq]; exact h)]; rfl
  · rw [if_neg h, List.filter_cons_of_neg (by rw [Bool.and_eq_true, decide_eq_true_eq]; exact h)]; rfl
/-- One state more: at most one more stored. -/
theorem HS_add {s s' a : Nat} (h : ∀ j, s'.testBit j = true → s.testBit j = true ∨ j = a) : ∀ n, (HS s' n).length ≤ (HS s n).length + (if a < n then 1 else 0)
  | 0 => by simp [HS]
  | n + 1 => by
    have ih := HS_add h n
    rw [HS_succ, HS_succ, List.length_append, List.length_append]
    have hn := h n
    by_cases h1 : 1 ≤ n ∧ s'.testBit n = true
    · rw [if_pos h1]
      rcases hn h1.2 with h2 | rfl
      · rw [if_pos ⟨h1.1, h2⟩]
        simp only [List.length_singleton]
        have e : (if a < n then 1 else 0) ≤ (if a < n + 1 then 1 else 0) := by split <;> split <;> omega
        omega
      · rw [if_neg (Nat.lt_irrefl _)] at ih
        rw [if_pos (Nat.lt_succ_self _)]
        simp only [List.length_singleton]
        omega
    · rw [if_neg h1]
      simp only [List.length_nil]
      have e : (if a < n then 1 else 0) ≤ (if a < n + 1 then 1 else 0) := by split <;> split <;> omega
      omega
theorem HS_le {s s' : Nat} (h : ∀ j, s'.testBit j = true → s.testBit j = true) : ∀ n, (HS s' n).length ≤ (HS s n).length
  | 0 => by simp [HS]
  | n + 1 => by
    have ih := HS_le h n
    rw [HS_succ, HS_succ, List.length_append, List.length_append]
    by_cases h1 : 1 ≤ n ∧ s'.testBit n = true
    · rw [if_pos h1, if_pos ⟨h1.1, h n h1.2⟩]
      simp only [List.length_singleton]
      omega
    · rw [if_neg h1]
      simp only [List.length_nil]
      omega
theorem tb_or {s a j : Nat} : (s ||| 2 ^ a).testBit j = (s.testBit j || decide (a = j)) := by rw [Nat.testBit_or, Nat.testBit_two_pow]
theorem tb_xor {s a j : Nat} : (s ^^^ 2 ^ a).testBit j = (s.testBit j ^^ decide (a = j)) := by rw [Nat.testBit_xor, Nat.testBit_two_pow]
/-- What free appends for the stored states from 1 up to a number. -/
def nbL (a l s : Nat) : Nat → List Nd
  | 0 => []
  | n + 1 => nbL a l s n ++ if 1 ≤ n ∧ s.testBit n = true then [(n, l, s), (a, l, s ^^^ 2 ^ n)] else []
/-- What is reached without an advance. -/
def nb (N S : Nat) (x : Nd) : List Nd := (((0, x.2.1, x.2.2) :: if x.1 + 1 = x.2.1 then [(x.1, x.2.1 - 1, x.2.2)] else []) ++ nbL x.1 x.2.1 x.2.2 N) ++ if (HS x.2.2 N).length < S ∧ 0 < x.1 ∧ x.1 < N then [(x.1, x.2.1, x.2.2 ||| 2 ^ x.1)] else []
theorem mem_nbL {a l s : Nat} {y : Nd} : ∀ {n : Nat}, y ∈ nbL a l s n ↔ ∃ i, i < n ∧ 1 ≤ i ∧ s.testBit i = true ∧ (y = (i, l, s) ∨ y = (a, l, s ^^^ 2 ^ i))
  | 0 => by simp [nbL]
  | n + 1 => by
    unfold nbL
    rw [List.mem_append, mem_nbL]
    constructor
    · rintro (⟨i, h1, h2, h3, h4⟩ | h)
      · exact ⟨i, by omega, h2, h3, h4⟩
      · by_cases hc : 1 ≤ n ∧ s.testBit n = true
        · rw [if_pos hc] at h
          simp only [List.mem_cons, List.not_mem_nil, or_false] at h
          exact ⟨n, by omega, hc.1, hc.2, h⟩
        · rw [if_neg hc] at h; exact absurd h (by simp)
    · rintro ⟨i, h1, h2, h3, h4⟩
      by_cases hi : i = n
      · subst hi
        rw [if_pos ⟨h2, h3⟩]
        simp only [List.mem_cons, List.not_mem_nil, or_false]
        exact .inr h4
      · exact .inl ⟨i, by omega, h2, h3, h4⟩
theorem mem_nb {N S : Nat} {x y : Nd} : y ∈ nb N S x ↔ y = (0, x.2.1, x.2.2) ∨ (x.1 + 1 = x.2.1 ∧ y = (x.1, x.2.1 - 1, x.2.2)) ∨ (∃ i, i < N ∧ 1 ≤ i ∧ x.2.2.testBit i = true ∧ (y = (i, x.2.1, x.2.2) ∨ y = (x.1, x.2.1, x.2.2 ^^^ 2 ^ i))) ∨ ((HS x.2.2 N).length < S ∧ 0 < x.1 ∧ x.1 < N ∧ y = (x.1, x.2.1, x.2.2 ||| 2 ^ x.1)) := by
  unfold nb
  rw [List.mem_append, List.mem_append, List.mem_cons, mem_nbL]
  constructor
  · rintro (((h | h) | h) | h)
    · exact .inl h
    · by_cases hc : x.1 + 1 = x.2.1
      · rw [if_pos hc, List.mem_singleton] at h
        exact .inr (.inl ⟨hc, h⟩)
      · rw [if_neg hc] at h; exact absurd h (by simp)
    · exact .inr (.inr (.inl h))
    · by_cases hc : (HS x.2.2 N).length < S ∧ 0 < x.1 ∧ x.1 < N
      · rw [if_pos hc, List.mem_singleton] at h
        exact .inr (.inr (.inr ⟨hc.1, hc.2.1, hc.2.2, h⟩))
      · rw [if_neg hc] at h; exact absurd h (by simp)
  · rintro (h | ⟨hc, h⟩ | h | ⟨h1, h2, h3, h⟩)
    · exact .inl (.inl (.inl h))
    · rw [if_pos hc, List.mem_singleton]; exact .inl (.inl (.inr h))
    · exact .inl (.inr h)
    · refine .inr ?_
      rw [if_pos ⟨h1, h2, h3⟩, List.mem_singleton]
      exact h
/-- A position as the search reaches it. -/
def Wf (N S : Nat) (x : Nd) : Prop := x.1 ≤ N ∧ x.2.1 ≤ N ∧ (∀ j, x.2.2.testBit j = true → 1 ≤ j ∧ j < N) ∧ (HS x.2.2 N).length ≤ S
theorem Wf.free {N S : Nat} {x y : Nd} (h : Wf N S x) (hy : y ∈ nb N S x) : Wf N S y := by
  obtain ⟨a, l, s⟩ := x
  obtain ⟨h1, h2, h3, h4⟩ := h
  simp only at h1 h2 h3 h4
  rcases mem_nb.1 hy with rfl | ⟨hc, rfl⟩ | ⟨i, i1, i2, i3, rfl | rfl⟩ | ⟨c1, c2, c3, rfl⟩
  · exact ⟨Nat.zero_le _, h2, h3, h4⟩
  · exact ⟨h1, by simp only at hc ⊢; omega, h3, h4⟩
  · exact ⟨by simp only; omega, h2, h3, h4⟩
  · simp only at i3
    have hs : ∀ j, (s ^^^ 2 ^ i).testBit j = true → s.testBit j = true := fun j hj => by
      rw [tb_xor] at hj
      by_cases e : i = j
      · subst e; exact i3
      · simpa [e] using hj
    exact ⟨h1, h2, fun j hj => h3 j (hs j hj), Nat.le_trans (HS_le hs N) h4⟩
  · simp only at c1 c2 c3
    have hs : ∀ j, (s ||| 2 ^ a).testBit j = true → s.testBit j = true ∨ j = a := fun j hj => by
      rw [tb_or, Bool.or_eq_true, decide_eq_true_eq] at hj
      exact hj.imp id fun e => e.symm
    refine ⟨h1, h2, fun j hj => ?_, ?_⟩
    · rcases hs j hj with h | rfl
      · exact h3 j h
      · exact ⟨c2, c3⟩
    · have := HS_add hs N
      rw [if_pos c3] at this
      simp only
      omega
theorem Wf.adv {N S : Nat} {x : Nd} (h : Wf N S x) (ha : x.1 < N) : Wf N S (x.1 + 1, x.2.1, x.2.2) := ⟨ha, h.2.1, h.2.2.1, h.2.2.2⟩
/-- What is still to pay from a position, at least. -/
def Lw (N S : Nat) (x : Nd) (T : Int) : Prop := Low (S + 1) (x.1 :: HS x.2.2 N) x.2.1 T
theorem Lw.free {N S : Nat} {x y : Nd} {T : Int} (hN : N ≤ 63) (hS : S ≤ 64) (w : Wf N S x) (h : Lw N S x T) (hy : y ∈ nb N S x) : Lw N S y T := by
  obtain ⟨a, l, s⟩ := x
  obtain ⟨h1, h2, h3, h4⟩ := w
  unfold Lw at h ⊢
  simp only at h1 h2 h3 h4 h
  rcases mem_nb.1 hy with rfl | ⟨hc, rfl⟩ | ⟨i, i1, i2, i3, rfl | rfl⟩ | ⟨c1, c2, c3, rfl⟩
  · refine h.anti fun j hj => ?_
    rcases List.mem_cons.1 hj with rfl | hj
    · exact .inl rfl
    · exact .inr (List.mem_cons_of_mem _ hj)
  · simp only at hc ⊢
    subst hc
    rw [Nat.add_sub_cancel]
    exact h.rev (by omega) (by omega) (by omega)
  · refine h.anti fun j hj => ?_
    rcases List.mem_cons.1 hj with rfl | hj
    · exact .inr (List.mem_cons_of_mem _ (mem_HS.2 ⟨i1, i2, i3⟩))
    · exact .inr (List.mem_cons_of_mem _ hj)
  · simp only at i3
    refine h.anti fun j hj => ?_
    rcases List.mem_cons.1 hj with rfl | hj
    · exact .inr List.mem_cons_self
    · obtain ⟨g1, g2, g3⟩ := mem_HS.1 hj
      rw [tb_xor] at g3
      refine .inr (List.mem_cons_of_mem _ (mem_HS.2 ⟨g1, g2, ?_⟩))
      by_cases e : i = j
      · subst e; exact i3
      · simpa [e] using g3
  · simp only at c1 c2 c3
    refine h.anti fun j hj => ?_
    rcases List.mem_cons.1 hj with rfl | hj
    · exact .inr List.mem_cons_self
    · obtain ⟨g1, g2, g3⟩ := mem_HS.1 hj
      rw [tb_or, Bool.or_eq_true, decide_eq_true_eq] at g3
      rcases g3 with g3 | rfl
      · exact .inr (List.mem_cons_of_mem _ (mem_HS.2 ⟨g1, g2, g3⟩))
      · exact .inr List.mem_cons_self
theorem Lw.adv {N S : Nat} {x : Nd} {T : Int} (h : Lw N S x T) : Lw N S (x.1 + 1, x.2.1, x.2.2) (T - 1) := Low.adv h
theorem Lw.done {N S : Nat} {x : Nd} {T : Int} (h : Lw N S x T) (h0 : x.2.1 = 0) : T ≤ 0 := by
  have h9 : Low (S + 1) (x.1 :: HS x.2.2 N) x.2.1 T := h
  exact h9.2 h0
theorem HS_none (N : Nat) : HS 0 N = [] := by
  unfold HS
  rw [List.filter_eq_nil_iff]
  intro j _
  simp
theorem start_Lw {N S : Nat} (hN : N ≤ 64) (hS : S ≤ 64) : Wf N S (0, N, 0) ∧ Lw N S (0, N, 0) (co N S) := by
  refine ⟨⟨Nat.zero_le _, Nat.le_refl _, fun j hj => absurd hj (by simp), by rw [HS_none]; exact Nat.zero_le _⟩, ?_⟩
  have h := Low.start (c := S + 1) (n := N) (C := 0 :: HS 0 N) (fun x hx => by rw [HS_none] at hx; simpa using hx) (by omega) hN
  exact h
end Go.Proofs.Ytndmpoomdoojpaa.Ck
