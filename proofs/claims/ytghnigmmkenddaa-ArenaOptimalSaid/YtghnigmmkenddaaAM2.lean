/- The sweep of LowerBound and its definition give the same number. -/
import Derived.Test.YtghnigmmkenddaaAM1
namespace Go.Proofs.Ytghnigmmkenddaa.Ar
set_option linter.unusedVariables false
section
variable {fr to' sz : Nat → Int}
/-- What the sweep counts behind a start. -/
def Tt (fr to' sz : Nat → Int) (P : List Nat) (i : Nat) : Int := sm sz ((P ++ [i]).filter fun j => decide (fr i ≤ to' j))
/-- What lives at the start of a lifetime. -/
def Ss (fr to' sz : Nat → Int) (l : List Nat) (i : Nat) : Int := sm sz (l.filter (at' fr to' i))
theorem Ss_same {l : List Nat} {i k : Nat} (h : fr i = fr k) : Ss fr to' sz l i = Ss fr to' sz l k := by
  have e : at' fr to' i = at' fr to' k := by
    funext j
    unfold at'
    rw [h]
  unfold Ss
  rw [e]
theorem Ss_perm {l l' : List Nat} (h : l.Perm l') (i : Nat) : Ss fr to' sz l i = Ss fr to' sz l' i := sm_perm sz (h.filter _)
theorem sweep_eq {σ : List Nat} (hs : Asc fr σ) (hz : ∀ j ∈ σ, 0 ≤ sz j) {g m : Int} (g0 : 0 ≤ g) (m0 : 0 ≤ m) (hg : ∀ P i R, σ = P ++ i :: R → Tt fr to' sz P i ≤ g) (hg2 : g = 0 ∨ ∃ P i R, σ = P ++ i :: R ∧ g = Tt fr to' sz P i) (hm : ∀ i ∈ σ, Ss fr to' sz σ i ≤ m) (hm2 : m = 0 ∨ ∃ i, i ∈ σ ∧ m = Ss fr to' sz σ i) : g = m := by
  refine Int.le_antisymm ?_ ?_
  · rcases hg2 with h | ⟨P, i, R, e, h⟩
    · omega
    · have h1 : Tt fr to' sz P i ≤ Ss fr to' sz σ i := by
        unfold Tt Ss
        rw [e]
        exact tot_le (R := R) (by rw [← e]; exact hs) (by rw [← e]; exact hz)
      have h2 := hm i (by rw [e]; exact List.mem_append_right _ List.mem_cons_self)
      omega
  · rcases hm2 with h | ⟨i, hi, h⟩
    · omega
    · obtain ⟨P, k, R, e, k1, k2⟩ := last_of hs ⟨i, hi, rfl⟩
      have h1 : Tt fr to' sz P k = Ss fr to' sz σ k := by
        unfold Tt Ss
        rw [e]
        exact tot_last (by rw [← e]; exact hs) (fun j hj => by rw [k1]; exact k2 j hj)
      have h2 := hg P k R e
      rw [h, ← Ss_same k1, ← h1]
      exact h2
/-- Those that have ended are the first in the order of their ends. -/
theorem ended_take : ∀ {τ : List Nat} {x : Int}, Asc to' τ → τ.take (τ.filter fun j => decide (to' j < x)).length = τ.filter fun j => decide (to' j < x)
  | [], x, _ => rfl
  | a :: r, x, hs => by
    obtain ⟨h1, h2⟩ := List.pairwise_cons.1 hs
    by_cases ha : to' a < x
    · rw [List.filter_cons_of_pos (by simpa using ha), List.length_cons, List.take_succ_cons, ended_take h2]
    · have e : r.filter (fun j => decide (to' j < x)) = [] := by
        rw [List.filter_eq_nil_iff]
        intro j hj
        have := h1 j hj
        simp
        omega
      rw [List.filter_cons_of_neg (by simpa using ha), e]
      rfl
/-- The next end, and whether it lies ahead of a time. -/
theorem ended_next {τ : List Nat} {x : Int} (hs : Asc to' τ) {e j : Nat} (hj : τ[e]? = some j) : to' j < x ↔ e < (τ.filter fun j => decide (to' j < x)).length := by
  have ht := ended_take (x := x) hs
  constructor
  · intro h
    rcases Nat.lt_or_ge e (τ.filter fun j => decide (to' j < x)).length with h1 | h1
    · exact h1
    · exfalso
      have hm : j ∈ τ.drop (τ.filter fun j => decide (to' j < x)).length := by
        refine List.mem_of_getElem? (i := e - (τ.filter fun j => decide (to' j < x)).length) ?_
        rw [List.getElem?_drop, Nat.add_sub_cancel' h1]
        exact hj
      have e1 : τ.filter (fun j => decide (to' j < x)) = (τ.take (τ.filter fun j => decide (to' j < x)).length).filter (fun j => decide (to' j < x)) ++ (τ.drop (τ.filter fun j => decide (to' j < x)).length).filter fun j => decide (to' j < x) := by
        rw [← List.filter_append, List.take_append_drop]
      have e2 : (τ.take (τ.filter fun j => decide (to' j < x)).length).filter (fun j => decide (to' j < x)) = τ.filter fun j => decide (to' j < x) := by
        rw [ht, List.filter_filter]
        congr 1
        funext j
        simp
      rw [e2] at e1
      have e3 := congrArg List.length e1
      rw [List.length_append] at e3
      have h4 : ((τ.drop (τ.filter fun j => decide (to' j < x)).length).filter fun j => decide (to' j < x)).length = 0 := by omega
      have h5 : j ∈ (τ.drop (τ.filter fun j => decide (to' j < x)).length).filter fun j => decide (to' j < x) := List.mem_filter.2 ⟨hm, by simpa using h⟩
      rw [List.length_eq_zero_iff.1 h4] at h5
      exact absurd h5 (by simp)
  · intro h
    have hm : j ∈ τ.take (τ.filter fun j => decide (to' j < x)).length := by
      refine List.mem_of_getElem? (i := e) ?_
      rw [List.getElem?_take_of_lt h]
      exact hj
    rw [ht] at hm
    simpa using (List.mem_filter.1 hm).2
/-- The definition's sums stop at a limit. -/
def sat (M : Int) (sz : Nat → Int) : List Nat → Int → Int
  | [], n => n
  | i :: r, n => sat M sz r (min (n + min (sz i) M) M)
theorem sat_eq {M : Int} (h0 : 0 ≤ M) {sz : Nat → Int} : ∀ {l : List Nat} {n : Int}, (∀ i ∈ l, 0 ≤ sz i) → 0 ≤ n → sat M sz l (min n M) = min (n + sm sz l) M
  | [], n, _, _ => by show min n M = min (n + 0) M; rw [Int.add_zero]
  | i :: r, n, h, hn => by
    have h1 := h i List.mem_cons_self
    have ih := sat_eq h0 (l := r) (n := n + sz i) (fun j hj => h j (List.mem_cons_of_mem _ hj)) (by omega)
    have e : min (min n M + min (sz i) M) M = min (n + sz i) M := by omega
    show sat M sz r (min (min n M + min (sz i) M) M) = min (n + (sz i + sm sz r)) M
    rw [e, ih, Int.add_assoc]
end
end Go.Proofs.Ytghnigmmkenddaa.Ar
