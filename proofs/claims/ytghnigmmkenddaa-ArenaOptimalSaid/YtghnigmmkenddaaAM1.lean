/- The sweep of LowerBound: the greatest sum of sizes at one time. -/
import Derived.WalkKit
namespace Go.Proofs.Ytghnigmmkenddaa.Ar
set_option linter.unusedVariables false
/-- The sum of sizes of some lifetimes. -/
def sm (sz : Nat → Int) : List Nat → Int
  | [] => 0
  | i :: r => sz i + sm sz r
theorem sm_app (sz : Nat → Int) : ∀ a b : List Nat, sm sz (a ++ b) = sm sz a + sm sz b
  | [], b => by simp [sm]
  | i :: r, b => by
    show sz i + sm sz (r ++ b) = sz i + sm sz r + sm sz b
    rw [sm_app sz r b]; omega
theorem sm_perm (sz : Nat → Int) {a b : List Nat} (h : a.Perm b) : sm sz a = sm sz b := by
  induction h with
  | nil => rfl
  | cons x _ ih => show sz x + _ = sz x + _; rw [ih]
  | swap x y l => show sz y + (sz x + _) = sz x + (sz y + _); omega
  | trans _ _ h1 h2 => rw [h1, h2]
theorem sm_split (sz : Nat → Int) (p : Nat → Bool) : ∀ l : List Nat, sm sz l = sm sz (l.filter p) + sm sz (l.filter fun i => !p i)
  | [] => rfl
  | i :: r => by
    have ih := sm_split sz p r
    cases h : p i with
    | true =>
      rw [List.filter_cons_of_pos h, List.filter_cons_of_neg (by simp [h])]
      show sz i + sm sz r = sz i + sm sz (r.filter p) + _
      omega
    | false =>
      rw [List.filter_cons_of_neg (by simp [h]), List.filter_cons_of_pos (by simp [h])]
      show sz i + sm sz r = _ + (sz i + sm sz (r.filter fun i => !p i))
      omega
theorem sm_nonneg {sz : Nat → Int} : ∀ {l : List Nat}, (∀ i ∈ l, 0 ≤ sz i) → 0 ≤ sm sz l
  | [], _ => Int.le_refl _
  | i :: r, h => by
    have h1 := h i List.mem_cons_self
    have h2 := sm_nonneg (l := r) fun j hj => h j (List.mem_cons_of_mem _ hj)
    show 0 ≤ sz i + sm sz r
    omega
section
variable (fr to' sz : Nat → Int)
/-- The lifetimes in the order of their starts. -/
def Asc (k : Nat → Int) (l : List Nat) : Prop := l.Pairwise fun i j => k i ≤ k j
/-- What lives at the start of a lifetime. -/
def at' (i j : Nat) : Bool := decide (fr j ≤ fr i) && decide (fr i ≤ to' j)
variable {fr to' sz}
/-- What is counted behind a start: of those that have started, the ones that have not ended. -/
theorem tot_eq {P R : List Nat} {i : Nat} (hs : Asc fr (P ++ i :: R)) (hft : ∀ j ∈ P ++ i :: R, fr j ≤ to' j) :
    sm sz (P ++ [i]) - sm sz ((P ++ i :: R).filter fun j => decide (to' j < fr i)) = sm sz ((P ++ [i]).filter fun j => decide (fr i ≤ to' j)) := by
  have hR : (i :: R).filter (fun j => decide (to' j < fr i)) = [] := by
    rw [List.filter_eq_nil_iff]
    intro j hj
    have h1 := (List.pairwise_append.1 hs).2.1
    have h2 := hft j (List.mem_append_right _ hj)
    have h3 : fr i ≤ fr j := by
      rcases List.mem_cons.1 hj with rfl | hj
      · exact Int.le_refl _
      · exact (List.pairwise_cons.1 h1).1 j hj
    simp
    omega
  have hi : [i].filter (fun j => decide (to' j < fr i)) = [] := by
    rw [List.filter_eq_nil_iff]
    intro j hj
    rw [List.mem_singleton] at hj
    subst hj
    have := hft j (List.mem_append_right _ List.mem_cons_self)
    simp
    omega
  have h1 := sm_split sz (fun j => decide (to' j < fr i)) (P ++ [i])
  have e : ∀ j, (!decide (to' j < fr i)) = decide (fr i ≤ to' j) := fun j => by
    by_cases h : to' j < fr i
    · rw [decide_eq_true h, decide_eq_false (by omega)]; rfl
    · rw [decide_eq_false h, decide_eq_true (by omega)]; rfl
  simp only [e] at h1
  rw [List.filter_append, hi, List.append_nil] at h1
  rw [List.filter_append, hR, List.append_nil]
  omega
/-- At most what lives at that time. -/
theorem tot_le {P R : List Nat} {i : Nat} (hs : Asc fr (P ++ i :: R)) (hz : ∀ j ∈ P ++ i :: R, 0 ≤ sz j) :
    sm sz ((P ++ [i]).filter fun j => decide (fr i ≤ to' j)) ≤ sm sz ((P ++ i :: R).filter (at' fr to' i)) := by
  have hP : ∀ j ∈ P ++ [i], fr j ≤ fr i := fun j hj => by
    rcases List.mem_append.1 hj with h | h
    · exact (List.pairwise_append.1 hs).2.2 j h i List.mem_cons_self
    · rw [List.mem_singleton] at h; subst h; exact Int.le_refl _
  have e : (P ++ [i]).filter (at' fr to' i) = (P ++ [i]).filter fun j => decide (fr i ≤ to' j) := by
    refine List.filter_congr fun j hj => ?_
    unfold at'
    rw [decide_eq_true (hP j hj)]
    rfl
  have e2 : P ++ i :: R = (P ++ [i]) ++ R := by simp
  rw [e2, List.filter_append (P ++ [i]) R, sm_app, e]
  have := sm_nonneg (sz := sz) (l := R.filter (at' fr to' i)) fun j hj => hz j (List.mem_append_right _ (List.mem_cons_of_mem _ (List.mem_filter.1 hj).1))
  omega
/-- Behind the last of those that start together all that lives is counted. -/
theorem tot_last {P R : List Nat} {i : Nat} (hs : Asc fr (P ++ i :: R)) (hR : ∀ j ∈ R, fr i < fr j) :
    sm sz ((P ++ [i]).filter fun j => decide (fr i ≤ to' j)) = sm sz ((P ++ i :: R).filter (at' fr to' i)) := by
  have hP : ∀ j ∈ P ++ [i], fr j ≤ fr i := fun j hj => by
    rcases List.mem_append.1 hj with h | h
    · exact (List.pairwise_append.1 hs).2.2 j h i List.mem_cons_self
    · rw [List.mem_singleton] at h; subst h; exact Int.le_refl _
  have e : (P ++ [i]).filter (at' fr to' i) = (P ++ [i]).filter fun j => decide (fr i ≤ to' j) := by
    refine List.filter_congr fun j hj => ?_
    unfold at'
    rw [decide_eq_true (hP j hj)]
    rfl
  have e2 : P ++ i :: R = (P ++ [i]) ++ R := by simp
  have e3 : R.filter (at' fr to' i) = [] := by
    rw [List.filter_eq_nil_iff]
    intro j hj
    have := hR j hj
    unfold at'
    simp
    omega
  rw [e2, List.filter_append (P ++ [i]) R, e3, List.append_nil, e]
/-- The last of those that start with a lifetime. -/
theorem last_of : ∀ {l : List Nat} {x : Int}, Asc fr l → (∃ j ∈ l, fr j = x) → ∃ P i R, l = P ++ i :: R ∧ fr i = x ∧ ∀ j ∈ R, x < fr j
  | [], x, _, h => by obtain ⟨j, hj, _⟩ := h; exact absurd hj (by simp)
  | a :: r, x, hs, h => by
    obtain ⟨h1, h2⟩ := List.pairwise_cons.1 hs
    by_cases hr : ∃ j ∈ r, fr j = x
    · obtain ⟨P, i, R, rfl, k1, k2⟩ := last_of h2 hr
      exact ⟨a :: P, i, R, rfl, k1, k2⟩
    · obtain ⟨j, hj, hx⟩ := h
      rcases List.mem_cons.1 hj with rfl | hj
      · refine ⟨[], j, r, rfl, hx, fun k hk => ?_⟩
        have := h1 k hk
        have hne : fr k ≠ x := fun e => hr ⟨k, hk, e⟩
        omega
      · exact absurd ⟨j, hj, hx⟩ hr
end
end Go.Proofs.Ytghnigmmkenddaa.Ar
