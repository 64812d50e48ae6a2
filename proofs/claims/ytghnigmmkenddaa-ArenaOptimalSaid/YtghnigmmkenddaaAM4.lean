/- All orders: what a search through all orders of a list finds. -/
import Derived.Test.YtghnigmmkenddaaAM3
namespace Go.Proofs.Ytghnigmmkenddaa.Ar
set_option linter.unusedVariables false
/-- An element put at a place, the place's own left out. -/
theorem set_perm {a : Nat} : ∀ {r : List Nat} {i : Nat}, i < r.length → (r.set i a).Perm (a :: r.eraseIdx i)
  | [], i, h => absurd h (by simp)
  | x :: r, 0, h => by simp
  | x :: r, i + 1, h => by
    have ih := set_perm (a := a) (r := r) (i := i) (by simpa using h)
    rw [List.set_cons_succ, List.eraseIdx_cons_succ]
    exact (List.Perm.cons x ih).trans (List.Perm.swap a x _)
theorem erase_perm {l : List Nat} {i x : Nat} (h : l[i]? = some x) : l.Perm (x :: l.eraseIdx i) := by
  induction l generalizing i with
  | nil => simp at h
  | cons y r ih =>
    cases i with
    | zero =>
      have : y = x := by simpa using h
      subst this
      simp
    | succ i =>
      have h1 := ih (i := i) (by simpa using h)
      rw [List.eraseIdx_cons_succ]
      exact (List.Perm.cons y h1).trans (List.Perm.swap x y _)
/-- The least of what the orders give that begin with some elements; less than 0: none yet. -/
def Le (f : List Nat → Int) (pre suf : List Nat) (b b' : Int) : Prop := (∀ s, s.Perm suf → 0 ≤ b' ∧ b' ≤ f (pre ++ s)) ∧ (b' = b ∨ ∃ s, s.Perm suf ∧ b' = f (pre ++ s)) ∧ (0 ≤ b → b' ≤ b)
/-- The same for the first choices of the next element. -/
def LeK (f : List Nat → Int) (pre suf : List Nat) (k : Nat) (b b' : Int) : Prop := (∀ j x s, j < k → suf[j]? = some x → s.Perm (suf.eraseIdx j) → 0 ≤ b' ∧ b' ≤ f (pre ++ x :: s)) ∧ (b' = b ∨ ∃ s, s.Perm suf ∧ b' = f (pre ++ s)) ∧ (0 ≤ b → b' ≤ b)
theorem LeK.start (f : List Nat → Int) (pre suf : List Nat) (b : Int) : LeK f pre suf 0 b b := ⟨fun j x s h => absurd h (Nat.not_lt_zero _), .inl rfl, fun _ => Int.le_refl _⟩
theorem LeK.next {f : List Nat → Int} (hf : ∀ s, 0 ≤ f s) {pre suf t : List Nat} {k x : Nat} {b b' b'' : Int} (h : LeK f pre suf k b b') (hx : suf[k]? = some x) (ht : t.Perm (suf.eraseIdx k)) (hn : Le f (pre ++ [x]) t b' b'') : LeK f pre suf (k + 1) b b'' := by
  obtain ⟨h1, h2, h3⟩ := h
  obtain ⟨g1, g2, g3⟩ := hn
  have hb : 0 ≤ b' → 0 ≤ b'' ∧ b'' ≤ b' := fun h0 => ⟨(g1 t (List.Perm.refl _)).1, g3 h0⟩
  refine ⟨fun j y s hj hy hs => ?_, ?_, fun h0 => ?_⟩
  · by_cases e : j = k
    · subst e
      rw [hx] at hy
      cases hy
      have := g1 s (hs.trans ht.symm)
      rw [List.append_assoc] at this
      exact this
    · have := h1 j y s (by omega) hy hs
      have := hb this.1
      omega
  · rcases g2 with g | ⟨s, hs, g⟩
    · rcases h2 with e | e
      · exact .inl (g.trans e)
      · obtain ⟨s, hs, e⟩ := e
        exact .inr ⟨s, hs, g.trans e⟩
    · exact .inr ⟨x :: s, ((List.Perm.cons x (hs.trans ht)).trans (erase_perm hx).symm), by rw [g, List.append_assoc]; rfl⟩
  · have h6 : 0 ≤ b' := by
      rcases h2 with e | ⟨s, _, e⟩
      · omega
      · rw [e]; exact hf _
    have h4 := h3 h0
    have := hb h6
    omega
/-- All choices of the next element are all orders. -/
theorem LeK.all {f : List Nat → Int} {pre suf : List Nat} {b b' : Int} (hs : suf ≠ []) (h : LeK f pre suf suf.length b b') : Le f pre suf b b' := by
  obtain ⟨h1, h2, h3⟩ := h
  refine ⟨fun s hp => ?_, h2, h3⟩
  cases s with
  | nil => exact absurd hp.symm.eq_nil hs
  | cons x r =>
    obtain ⟨j, hj⟩ := List.getElem?_of_mem (hp.mem_iff.1 List.mem_cons_self)
    have h4 := erase_perm hj
    exact h1 j x r (List.getElem?_eq_some_iff.1 hj).1 hj (List.Perm.cons_inv (hp.trans h4))
/-- One order is left. -/
theorem Le.one {f : List Nat → Int} (hf : ∀ s, 0 ≤ f s) {pre : List Nat} {b : Int} : Le f pre [] b (if b < 0 ∨ f pre < b then f pre else b) := by
  refine ⟨fun s hs => ?_, ?_, fun h0 => ?_⟩
  · rw [hs.eq_nil, List.append_nil]
    have := hf pre
    split <;> omega
  · split
    · exact .inr ⟨[], List.Perm.refl _, by rw [List.append_nil]⟩
    · exact .inl rfl
  · split <;> omega
/-- The least over all orders is one number. -/
theorem Le.uniq {f : List Nat → Int} (hf : ∀ s, 0 ≤ f s) {pre suf : List Nat} {b x y : Int} (hb : b < 0) (hx : Le f pre suf b x) (hy : Le f pre suf b y) : x = y := by
  have x0 := (hx.1 suf (List.Perm.refl _)).1
  have y0 := (hy.1 suf (List.Perm.refl _)).1
  rcases hx.2.1 with e | ⟨s, hs, e⟩
  · omega
  · rcases hy.2.1 with e2 | ⟨t, ht, e2⟩
    · omega
    · have h1 := (hx.1 t ht).2
      have h2 := (hy.1 s hs).2
      omega
end Go.Proofs.Ytghnigmmkenddaa.Ar
