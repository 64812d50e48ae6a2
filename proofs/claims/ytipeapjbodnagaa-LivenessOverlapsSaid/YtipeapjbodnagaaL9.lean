/- Lifetimes: the extremes. -/
import Derived.Test.YtipeapjbodnagaaL8
namespace Go.Proofs.Ytipeapjbodnagaa.Lv
open Go.ChangeShapes Go.WideShapes Go.ChangeAt Go.RowKit
set_option linter.unusedVariables false

theorem ex1 (xs : List Lf) : ml xs ≤ (xs.length : Int) := ml_le (by omega) (fun y _ => by have : cnt xs y.2.1 ≤ xs.length := List.countP_le_length; omega)
theorem countP_pw {p : Lf → Bool} : ∀ {l : List Lf}, l.Pairwise (fun a b => ¬ (p a = true ∧ p b = true)) → l.countP p ≤ 1
  | [], _ => by simp
  | x :: l, h => by
    obtain ⟨h1, h2⟩ := List.pairwise_cons.1 h
    by_cases hx : p x = true
    · have : l.countP p = 0 := List.countP_eq_zero.2 fun y hy hp => h1 y hy ⟨hx, hp⟩
      rw [List.countP_cons_of_pos hx, this]; omega
    · rw [List.countP_cons_of_neg hx]; exact countP_pw h2
def noR (xs : List Lf) (i k : Nat) : Bool := (List.range k).all fun b => !ov (xs.getD i lf0) (xs.getD b lf0)
def noB (xs : List Lf) (i : Nat) : Bool := (List.range i).all fun a => noR xs a a
def alR (xs : List Lf) (i k : Nat) : Bool := (List.range k).all fun b => ov (xs.getD i lf0) (xs.getD b lf0)
def alB (xs : List Lf) (i : Nat) : Bool := (List.range i).all fun a => alR xs a a
theorem noR_step (xs : List Lf) (i k : Nat) : noR xs i (k + 1) = (noR xs i k && !ov (xs.getD i lf0) (xs.getD k lf0)) := by unfold noR; rw [List.range_succ, List.all_append]; simp
theorem alR_step (xs : List Lf) (i k : Nat) : alR xs i (k + 1) = (alR xs i k && ov (xs.getD i lf0) (xs.getD k lf0)) := by unfold alR; rw [List.range_succ, List.all_append]; simp
theorem noB_step (xs : List Lf) (i : Nat) : noB xs (i + 1) = (noB xs i && noR xs i i) := by unfold noB; rw [List.range_succ, List.all_append]; simp
theorem alB_step (xs : List Lf) (i : Nat) : alB xs (i + 1) = (alB xs i && alR xs i i) := by unfold alB; rw [List.range_succ, List.all_append]; simp
theorem noB_at {xs : List Lf} {n a b : Nat} (h : noB xs n = true) (ha : a < n) (hb : b < a) : ov (xs.getD a lf0) (xs.getD b lf0) = false := by
  have h1 := List.all_eq_true.1 (List.all_eq_true.1 h a (List.mem_range.2 ha)) b (List.mem_range.2 hb)
  simpa using h1
theorem alB_at {xs : List Lf} {n a b : Nat} (h : alB xs n = true) (ha : a < n) (hb : b < a) : ov (xs.getD a lf0) (xs.getD b lf0) = true :=
  List.all_eq_true.1 (List.all_eq_true.1 h a (List.mem_range.2 ha)) b (List.mem_range.2 hb)
theorem ex2 {xs : List Lf} (h : noB xs xs.length = true) : ml xs ≤ 1 := by
  refine ml_le (by omega) fun y _ => ?_
  have hp : xs.Pairwise (fun a b => ¬ (inn y.2.1 a = true ∧ inn y.2.1 b = true)) := by
    rw [List.pairwise_iff_getElem]
    intro i j hi hj hij ⟨h1, h2⟩
    have h3 := noB_at h hj hij
    rw [getD_lf hi, getD_lf hj] at h3
    unfold inn at h1 h2
    unfold ov at h3
    simp at h1 h2 h3
    have := h3 (by omega)
    omega
  have : cnt xs y.2.1 ≤ 1 := countP_pw hp
  omega
theorem vgo_zero : ∀ {r pre : List Lf}, vgo pre r = 0 → ∀ x ∈ r, x.2.1 ≤ x.2.2.1
  | [], _, _, x, hx => by cases hx
  | y :: r, pre, h, x, hx => by
    unfold vgo at h
    have hv : vs pre y = 0 := by split at h <;> assumption
    rw [if_pos hv] at h
    rcases List.mem_cons.1 hx with rfl | hx
    · unfold vs at hv
      split at hv
      · cases hv
      · split at hv
        · cases hv
        · split at hv
          · cases hv
          · rename_i hb
            unfold bad at hb
            simp at hb
            omega
    · exact vgo_zero h x hx
theorem max_from : ∀ {xs : List Lf}, xs ≠ [] → ∃ i, i < xs.length ∧ ∀ j, j < xs.length → (xs.getD j lf0).2.1 ≤ (xs.getD i lf0).2.1
  | [x], _ => ⟨0, by simp, fun j hj => by obtain rfl : j = 0 := by simp at hj; omega
                                          exact Int.le_refl _⟩
  | x :: y :: l, _ => by
    obtain ⟨i, hi, hm⟩ := max_from (xs := y :: l) (by simp)
    by_cases h : (((y :: l).getD i lf0).2.1) ≤ x.2.1
    · refine ⟨0, by simp, fun j hj => ?_⟩
      cases j with
      | zero => exact Int.le_refl _
      | succ j => exact Int.le_trans (hm j (by simpa using hj)) h
    · refine ⟨i + 1, by simpa using hi, fun j hj => ?_⟩
      cases j with
      | zero => show x.2.1 ≤ ((y :: l).getD i lf0).2.1; omega
      | succ j => exact hm j (by simpa using hj)
theorem ex3 {xs : List Lf} (hv : vE xs = 0) (h : alB xs xs.length = true) : ml xs = (xs.length : Int) := by
  apply Int.le_antisymm (ex1 xs)
  by_cases h0 : xs = []
  · subst h0; decide
  · obtain ⟨i, hi, hm⟩ := max_from h0
    have hc : cnt xs (xs.getD i lf0).2.1 = xs.length := by
      unfold cnt
      rw [List.countP_eq_length]
      intro z hz
      obtain ⟨j, hj, rfl⟩ := List.getElem_of_mem hz
      have h1 := hm j hj
      rw [getD_lf hj] at h1
      have h2 : (xs.getD i lf0).2.1 ≤ xs[j].2.2.1 := by
        rcases (by omega : i < j ∨ i = j ∨ j < i) with hlt | rfl | hlt
        · have h3 := alB_at h hj hlt
          rw [getD_lf hj] at h3
          unfold ov at h3
          rw [Bool.and_eq_true, decide_eq_true_eq, decide_eq_true_eq] at h3
          omega
        · have := vgo_zero hv xs[i] (List.getElem_mem hi)
          rw [getD_lf hi]; exact this
        · have h3 := alB_at h hi hlt
          rw [getD_lf hj] at h3
          unfold ov at h3
          rw [Bool.and_eq_true, decide_eq_true_eq, decide_eq_true_eq] at h3
          omega
      unfold inn
      simp
      exact ⟨h1, h2⟩
    have := ml_ge (xs := xs) (y := xs.getD i lf0) (by rw [getD_lf hi]; exact List.getElem_mem hi)
    rw [hc] at this
    exact this
end Go.Proofs.Ytipeapjbodnagaa.Lv
