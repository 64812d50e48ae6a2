/- How many states the exhaustive search can meet. -/
import Derived.Test.YtndmpoomdoojpaaKS1
namespace Go.Proofs.Ytndmpoomdoojpaa.Ck.Sr
open Go.ChangeShapes Go.WideShapes Go.ChangeAt Go.RowKit Go.Proofs.Ytndmpoomdoojpaa.Ck Go.Proofs.Ytndmpoomdoojpaa.Ck.Bf
set_option linter.unusedVariables false
theorem pigeon : ∀ (U : Nat) (l : List Nat), l.Nodup → (∀ x ∈ l, x < U) → l.length ≤ U
  | 0, l, _, h => by
    cases l with
    | nil => exact Nat.le_refl _
    | cons x r => exact absurd (h x List.mem_cons_self) (by omega)
  | U + 1, l, hn, h => by
    have h1 := pigeon U (l.erase U) (hn.erase U) (fun x hx => by
      have h2 := (List.Nodup.mem_erase_iff hn).1 hx
      have := h x h2.2
      have := h2.1
      omega)
    have h2 := List.length_erase (a := U) (l := l)
    split at h2 <;> omega
/-- The number of a state. -/
def nmS (x : Sd) : Nat := ((x.1 * 6 + x.2.1) * 7 + (x.2.2.getD 0 0 + 1).toNat) * 7 + (x.2.2.getD 1 0 + 1).toNat
theorem nmS_lt {N S : Nat} {x : Sd} (hN : N ≤ 5) (hS : S ≤ 2) (h : WfS N S x) : nmS x < 1764 := by
  obtain ⟨a, l, s⟩ := x
  obtain ⟨h1, h2, h3, h4⟩ := h
  simp only at h1 h2 h3 h4
  have g : ∀ k, (s.getD k 0 + 1).toNat ≤ 6 := fun k => by
    by_cases hk : k < s.length
    · have := h4 _ (getD_mem hk)
      omega
    · rw [List.getD_eq_getElem?_getD, List.getElem?_eq_none (by omega)]
      simp
  have g0 := g 0
  have g1 := g 1
  unfold nmS
  simp only
  omega
theorem nmS_inj {N S : Nat} {x y : Sd} (hN : N ≤ 5) (hS : S ≤ 2) (hx : WfS N S x) (hy : WfS N S y) (h : nmS x = nmS y) : x = y := by
  obtain ⟨a, l, s⟩ := x
  obtain ⟨b, k, t⟩ := y
  obtain ⟨h1, h2, h3, h4⟩ := hx
  obtain ⟨g1, g2, g3, g4⟩ := hy
  simp only at h1 h2 h3 h4 g1 g2 g3 g4
  have bd : ∀ {s : List Int}, (∀ v ∈ s, -1 ≤ v ∧ v ≤ (N : Int)) → ∀ k, -1 ≤ s.getD k 0 ∧ s.getD k 0 ≤ 5 := fun {s} h k => by
    by_cases hk : k < s.length
    · have := h _ (getD_mem hk)
      omega
    · rw [List.getD_eq_getElem?_getD, List.getElem?_eq_none (by omega)]
      simp
  have s0 := bd h4 0
  have s1 := bd h4 1
  have t0 := bd g4 0
  have t1 := bd g4 1
  unfold nmS at h
  simp only at h
  have e0 : s.getD 0 0 = t.getD 0 0 := by omega
  have e1 : s.getD 1 0 = t.getD 1 0 := by omega
  have e2 : a = b := by omega
  have e3 : l = k := by omega
  have e4 : s = t := by
    refine List.ext_getElem (by omega) fun i hi hj => ?_
    have e : s.getD i 0 = t.getD i 0 := by
      rcases (by omega : i = 0 ∨ i = 1) with rfl | rfl
      · exact e0
      · exact e1
    rw [List.getD_eq_getElem?_getD, List.getD_eq_getElem?_getD, List.getElem?_eq_getElem hi, List.getElem?_eq_getElem hj] at e
    exact e
  rw [e2, e3, e4]
/-- The states that the search can hold are few. -/
theorem few {N S : Nat} {l : List Sd} (hN : N ≤ 5) (hS : S ≤ 2) (hn : l.Nodup) (h : ∀ x ∈ l, WfS N S x) : l.length ≤ 1764 := by
  have h1 : (l.map nmS).Nodup := by
    unfold List.Nodup
    rw [List.pairwise_map]
    exact List.Pairwise.imp_of_mem (fun ha hb hne e => hne (nmS_inj hN hS (h _ ha) (h _ hb) e)) hn
  have h2 := pigeon 1764 (l.map nmS) h1 (fun x hx => by
    obtain ⟨y, hy, rfl⟩ := List.mem_map.1 hx
    exact nmS_lt hN hS (h y hy))
  rwa [List.length_map] at h2
/-- A state put in, unless it is there. -/
def adS (l : List Sd) (x : Sd) : List Sd := if x ∈ l then l else l ++ [x]
theorem adS_nd {l : List Sd} {x : Sd} (h : l.Nodup) : (adS l x).Nodup := by
  unfold adS
  split
  · exact h
  · rename_i hx
    rw [List.nodup_append]
    refine ⟨h, by simp, fun a ha b hb e => ?_⟩
    rw [List.mem_singleton] at hb
    subst hb e
    exact hx ha
theorem adS_up {l : List Sd} {x y : Sd} (h : y ∈ l) : y ∈ adS l x := by
  unfold adS
  split
  · exact h
  · exact List.mem_append_left _ h
theorem adS_me {l : List Sd} {x : Sd} : x ∈ adS l x := by
  unfold adS
  split
  · assumption
  · exact List.mem_append_right _ (List.mem_singleton.2 rfl)
theorem adS_mem {l : List Sd} {x y : Sd} (h : y ∈ adS l x) : y ∈ l ∨ y = x := by
  unfold adS at h
  split at h
  · exact .inl h
  · rcases List.mem_append.1 h with h | h
    · exact .inl h
    · exact .inr (List.mem_singleton.1 h)
theorem adS_get {l : List Sd} {x y : Sd} {i : Nat} (h : l[i]? = some y) : (adS l x)[i]? = some y := by
  unfold adS
  split
  · exact h
  · rw [List.getElem?_append_left (List.getElem?_eq_some_iff.1 h).1]; exact h
theorem adS_len {l : List Sd} {x : Sd} : l.length ≤ (adS l x).length := by
  unfold adS
  split
  · exact Nat.le_refl _
  · rw [List.length_append]; omega
end Go.Proofs.Ytndmpoomdoojpaa.Ck.Sr
