/- What sorting leaves. -/
import Derived.Test.YtghnigmmkenddaaS2
namespace Go.Proofs.Ytghnigmmkenddaa.Ar
open Go.ChangeShapes Go.WideShapes Go.ChangeAt Go.RowKit

set_option linter.unusedVariables false
set_option linter.unusedSimpArgs false
theorem swE_lt_perm {L : List Int} {i j : Nat} (hij : i < j) (hj : j < L.length) : (swE L i j).Perm L := by
  have e0 : L = L.take i ++ L.getD i e50 :: ((L.drop (i + 1)).take (j - (i + 1)) ++ L.getD j e50 :: L.drop (j + 1)) := by
    have a1 : L.drop i = L.getD i e50 :: L.drop (i + 1) := by
      rw [List.drop_eq_getElem_cons (by omega)]; simp [List.getD, List.getElem?_eq_getElem (show i < L.length by omega)]
    have a2 : L.drop j = L.getD j e50 :: L.drop (j + 1) := by
      rw [List.drop_eq_getElem_cons hj]; simp [List.getD, List.getElem?_eq_getElem hj]
    have a3 : L.drop (i + 1) = (L.drop (i + 1)).take (j - (i + 1)) ++ L.drop j := by
      conv => lhs; rw [← List.take_append_drop (j - (i + 1)) (L.drop (i + 1))]
      rw [List.drop_drop, show i + 1 + (j - (i + 1)) = j by omega]
    rw [a2] at a3
    conv => lhs; rw [← List.take_append_drop i L, a1, a3]
  have h := swE_mid (L.take i) (L.getD i e50) ((L.drop (i + 1)).take (j - (i + 1))) (L.getD j e50) (L.drop (j + 1))
  rw [← e0, show (L.take i).length = i by simp; omega, show i + 1 + ((L.drop (i + 1)).take (j - (i + 1))).length = j by simp; omega] at h
  rw [h]
  conv => rhs; rw [e0]
  refine List.Perm.append_left _ ?_
  refine (List.Perm.trans (List.Perm.cons _ List.perm_middle) ?_)
  refine (List.Perm.swap _ _ _).trans ?_
  exact List.Perm.cons _ List.perm_middle.symm
theorem swE_comm {L : List Int} {i j : Nat} (hi : i < L.length) (hj : j < L.length) : swE L i j = swE L j i := by
  apply List.ext_getElem?
  intro k
  unfold swE
  simp only [List.getElem?_set, List.length_set]
  by_cases h1 : j = k
  · subst h1
    by_cases h2 : i = j
    · subst h2; simp
    · simp [h2, hj]
  · by_cases h2 : i = k
    · subst h2; simp [h1, hi]
    · simp [h1, h2]
theorem swE_self {L : List Int} {i : Nat} (hi : i < L.length) : swE L i i = L := by
  apply List.ext_getElem?
  intro k
  unfold swE
  simp only [List.getElem?_set, List.length_set]
  by_cases h1 : i = k
  · subst h1; simp [hi, List.getD]
  · simp [h1]
theorem swE_perm {L : List Int} {i j : Nat} (hi : i < L.length) (hj : j < L.length) : (swE L i j).Perm L := by
  rcases Nat.lt_trichotomy i j with h | rfl | h
  · exact swE_lt_perm h hj
  · rw [swE_self hi]
  · rw [swE_comm hi hj]; exact swE_lt_perm h hi
/-- What a comparison keeps. -/
structure OrdC (cf : Int → Int → Int) : Prop where
  asym : ∀ x y, cf x y < 0 → ¬ cf y x < 0
  trans : ∀ x y z, ¬ cf y x < 0 → ¬ cf z y < 0 → ¬ cf z x < 0
/-- Sorted from a up to b. -/
def SrtC (cf : Int → Int → Int) (a b : Nat) (L : List Int) : Prop := ∀ i j, a ≤ i → i < j → j < b → ¬ cf (L.getD j e50) (L.getD i e50) < 0
/-- Only what lies from a up to b is laid in another order. -/
structure RngC (a b : Nat) (L L' : List Int) : Prop where
  perm : L'.Perm L
  out : ∀ k, ¬ (a ≤ k ∧ k < b) → L'.getD k e50 = L.getD k e50
  into : ∀ k, a ≤ k → k < b → ∃ k', a ≤ k' ∧ k' < b ∧ L'.getD k e50 = L.getD k' e50
theorem RngC.refl (a b : Nat) (L : List Int) : RngC a b L L := ⟨List.Perm.refl _, fun _ _ => rfl, fun k h1 h2 => ⟨k, h1, h2, rfl⟩⟩
theorem RngC.trans {a b : Nat} {L L' L'' : List Int} (h : RngC a b L L') (h2 : RngC a b L' L'') : RngC a b L L'' :=
  ⟨h2.perm.trans h.perm, fun k hk => (h2.out k hk).trans (h.out k hk), fun k k1 k2 => by
    obtain ⟨x, x1, x2, x3⟩ := h2.into k k1 k2
    obtain ⟨y, y1, y2, y3⟩ := h.into x x1 x2
    exact ⟨y, y1, y2, x3.trans y3⟩⟩
theorem RngC.mono {a b a' b' : Nat} {L L' : List Int} (h : RngC a b L L') (h1 : a' ≤ a) (h2 : b ≤ b') : RngC a' b' L L' :=
  ⟨h.perm, fun k hk => h.out k (by omega), fun k k1 k2 => by
    by_cases hk : a ≤ k ∧ k < b
    · obtain ⟨x, x1, x2, x3⟩ := h.into k hk.1 hk.2
      exact ⟨x, by omega, by omega, x3⟩
    · exact ⟨k, k1, k2, h.out k hk⟩⟩
theorem RngC.len {a b : Nat} {L L' : List Int} (h : RngC a b L L') : L'.length = L.length := h.perm.length_eq
theorem RngC.swE {a b i j : Nat} {L : List Int} (hi : i < L.length) (hj : j < L.length) (i1 : a ≤ i) (i2 : i < b) (j1 : a ≤ j) (j2 : j < b) : RngC a b L (swE L i j) := by
  refine ⟨swE_perm hi hj, fun k hk => ?_, fun k k1 k2 => ?_⟩
  · rw [swE_get hi hj, if_neg (by omega), if_neg (by omega)]
  · rw [swE_get hi hj]
    by_cases h1 : k = j
    · rw [if_pos h1]; exact ⟨i, i1, i2, rfl⟩
    · rw [if_neg h1]
      by_cases h2 : k = i
      · rw [if_pos h2]; exact ⟨j, j1, j2, rfl⟩
      · rw [if_neg h2]; exact ⟨k, k1, k2, rfl⟩
/-- A sorted part stays so where what is laid anew lies elsewhere. -/
theorem SrtC.keep {cf : Int → Int → Int} {a b c d : Nat} {L L' : List Int} (h : SrtC cf a b L) (r : RngC c d L L') (hd : b ≤ c ∨ d ≤ a) : SrtC cf a b L' := by
  intro i j h1 h2 h3
  rw [r.out i (by omega), r.out j (by omega)]
  exact h i j h1 h2 h3
theorem insJ_ok {cf : Int → Int → Int} (O : OrdC cf) (a i : Nat) : ∀ (j : Nat) (L : List Int), a ≤ j → j ≤ i → i < L.length → (∀ p q, a ≤ p → p < q → q ≤ i → q ≠ j → ¬ cf (L.getD q e50) (L.getD p e50) < 0) → RngC a (i + 1) L (insJ cf a j L) ∧ SrtC cf a (i + 1) (insJ cf a j L)
  | 0, L, ha, hj, hi, H => by
    rw [insJ_stop (Nat.zero_le _)]
    exact ⟨RngC.refl _ _ _, fun p q h1 h2 h3 => H p q h1 h2 (by omega) (by omega)⟩
  | j + 1, L, ha, hj, hi, H => by
    by_cases hs : j + 1 ≤ a
    · rw [insJ_stop hs]
      exact ⟨RngC.refl _ _ _, fun p q h1 h2 h3 => H p q h1 h2 (by omega) (by omega)⟩
    · by_cases hn : cf (L.getD (j + 1) e50) (L.getD j e50) < 0
      · rw [insJ_go (by omega) hn]
        have l1 : j + 1 < L.length := by omega
        have l0 : j < L.length := by omega
        have ih := insJ_ok O a i j (swE L (j + 1) j) (by omega) (by omega) (by rw [swE_len]; exact hi) (by
          intro p q h1 h2 h3 h4
          rw [swE_get l1 l0, swE_get l1 l0, if_neg h4]
          by_cases q1 : q = j + 1
          · rw [if_pos q1]
            by_cases p1 : p = j
            · rw [if_pos p1]; exact O.asym _ _ hn
            · rw [if_neg p1, if_neg (by omega)]
              exact H p j h1 (by omega) (by omega) (by omega)
          · rw [if_neg q1]
            by_cases p1 : p = j
            · rw [if_pos p1]; exact H (j + 1) q (by omega) (by omega) h3 q1
            · rw [if_neg p1]
              by_cases p2 : p = j + 1
              · rw [if_pos p2]; exact H j q (by omega) (by omega) h3 q1
              · rw [if_neg p2]; exact H p q h1 h2 h3 q1)
        exact ⟨(RngC.swE l1 l0 (by omega) (by omega) (by omega) (by omega)).trans ih.1, ih.2⟩
      · rw [insJ_no hn]
        refine ⟨RngC.refl _ _ _, fun p q h1 h2 h3 => ?_⟩
        by_cases q1 : q = j + 1
        · subst q1
          by_cases p1 : p = j
          · rw [p1]; exact hn
          · exact O.trans _ _ _ (H p j h1 (by omega) (by omega) (by omega)) hn
        · exact H p q h1 h2 (by omega) q1
theorem insI_ok {cf : Int → Int → Int} (O : OrdC cf) (a : Nat) : ∀ (c i : Nat) (L : List Int), a ≤ i → i + c ≤ L.length → SrtC cf a i L → RngC a (i + c) L (insI cf a c i L) ∧ SrtC cf a (i + c) (insI cf a c i L)
  | 0, i, L, _, _, S => ⟨RngC.refl _ _ _, S⟩
  | c + 1, i, L, ha, hl, S => by
    have h := insJ_ok O a i i L ha (Nat.le_refl _) (by omega) (fun p q h1 h2 h3 h4 => S p q h1 h2 (by omega))
    have ih := insI_ok O a c (i + 1) (insJ cf a i L) (by omega) (by rw [h.1.len]; omega) h.2
    unfold insI
    rw [show i + (c + 1) = i + 1 + c by omega]
    exact ⟨(h.1.mono (Nat.le_refl _) (by omega)).trans ih.1, ih.2⟩
/-- The insertion sort sorts. -/
theorem ins_sorts {cf : Int → Int → Int} (O : OrdC cf) {a b : Nat} {L : List Int} (h1 : a < b) (h2 : b ≤ L.length) : RngC a b L (insI cf a (b - (a + 1)) (a + 1) L) ∧ SrtC cf a b (insI cf a (b - (a + 1)) (a + 1) L) := by
  have h := insI_ok O a (b - (a + 1)) (a + 1) L (by omega) (by omega) (fun i j h1 h2 h3 => absurd h1 (by omega))
  rw [show a + 1 + (b - (a + 1)) = b by omega] at h
  exact h
theorem ins_empty (cf : Int → Int → Int) (a b : Nat) (L : List Int) (h : b ≤ a + 1) : insI cf a (b - (a + 1)) (a + 1) L = L := by
  rw [show b - (a + 1) = 0 by omega]; rfl
end Go.Proofs.Ytghnigmmkenddaa.Ar
