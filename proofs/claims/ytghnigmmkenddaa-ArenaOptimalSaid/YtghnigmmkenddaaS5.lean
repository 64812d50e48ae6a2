/- An element put in its place, and three searches. -/
import Derived.Test.YtghnigmmkenddaaS4
namespace Go.Proofs.Ytghnigmmkenddaa.Ar
open Go.ChangeShapes Go.WideShapes Go.ChangeAt Go.RowKit

set_option linter.unusedVariables false
set_option linter.unusedSimpArgs false

/-- An element moves up, step by step. -/
def shU : Nat → Nat → List Int → List Int
  | 0, _, L => L
  | c + 1, k, L => shU c (k + 1) (swE L k (k + 1))
theorem shU_ok : ∀ (c k : Nat) (L : List Int), k + c < L.length → RngC k (k + c + 1) L (shU c k L) ∧ ∀ t, (shU c k L).getD t e50 = if k ≤ t ∧ t < k + c then L.getD (t + 1) e50 else if t = k + c then L.getD k e50 else L.getD t e50
  | 0, k, L, _ => ⟨RngC.refl _ _ _, fun t => by
      unfold shU
      rw [if_neg (by omega)]
      by_cases h : t = k + 0
      · rw [if_pos h, h]; rfl
      · rw [if_neg h]⟩
  | c + 1, k, L, h => by
    have l0 : k < L.length := by omega
    have l1 : k + 1 < L.length := by omega
    have ih := shU_ok c (k + 1) (swE L k (k + 1)) (by rw [swE_len]; omega)
    unfold shU
    refine ⟨(RngC.swE l0 l1 (by omega) (by omega) (by omega) (by omega)).trans (ih.1.mono (by omega) (by omega)), fun t => ?_⟩
    rw [ih.2 t, swE_get l0 l1, swE_get l0 l1, swE_get l0 l1]
    by_cases h1 : k + 1 ≤ t ∧ t < k + 1 + c
    · rw [if_pos h1, if_neg (by omega), if_neg (by omega), if_pos (by omega)]
    · rw [if_neg h1]
      by_cases h2 : t = k + 1 + c
      · rw [if_pos h2, if_pos rfl, if_neg (by omega), if_pos (by omega)]
      · rw [if_neg h2]
        by_cases h3 : t = k
        · rw [if_neg (by omega), if_pos h3, if_pos (by omega), h3]
        · rw [if_neg (by omega), if_neg h3, if_neg (by omega), if_neg (by omega)]
/-- An element moves down, step by step. -/
def shD : Nat → Nat → List Int → List Int
  | 0, _, L => L
  | c + 1, k, L => shD c (k - 1) (swE L k (k - 1))
theorem shD_ok : ∀ (c k : Nat) (L : List Int), c ≤ k → k < L.length → RngC (k - c) (k + 1) L (shD c k L) ∧ ∀ t, (shD c k L).getD t e50 = if k - c < t ∧ t ≤ k then L.getD (t - 1) e50 else if t = k - c then L.getD k e50 else L.getD t e50
  | 0, k, L, _, _ => ⟨RngC.refl _ _ _, fun t => by
      unfold shD
      rw [if_neg (by omega)]
      by_cases h : t = k - 0
      · rw [if_pos h, h]; rfl
      · rw [if_neg h]⟩
  | c + 1, k, L, hc, h => by
    have l1 : k - 1 < L.length := by omega
    have ih := shD_ok c (k - 1) (swE L k (k - 1)) (by omega) (by rw [swE_len]; omega)
    unfold shD
    refine ⟨(RngC.swE h l1 (by omega) (by omega) (by omega) (by omega)).trans (ih.1.mono (by omega) (by omega)), fun t => ?_⟩
    rw [ih.2 t, swE_get h l1, swE_get h l1, swE_get h l1]
    by_cases h1 : k - 1 - c < t ∧ t ≤ k - 1
    · rw [if_pos h1, if_neg (by omega), if_neg (by omega), if_pos (by omega)]
    · rw [if_neg h1]
      by_cases h2 : t = k - 1 - c
      · rw [if_pos h2, if_pos rfl, if_neg (by omega), if_pos (by omega)]
      · rw [if_neg h2]
        by_cases h3 : t = k
        · rw [if_neg (by omega), if_pos h3, if_pos (by omega), h3]
        · rw [if_neg (by omega), if_neg h3, if_neg (by omega), if_neg (by omega)]
variable {cf : Int → Int → Int}
/-- The first element is put in its place. -/
theorem put_first (O : OrdC cf) {a i b : Nat} {L : List Int} (hb : b ≤ L.length) (h1 : a + 1 ≤ i) (h2 : i ≤ b) (S : SrtC cf (a + 1) b L) (lo : ∀ h, a + 1 ≤ h → h < i → cf (L.getD h e50) (L.getD a e50) < 0) (hi : ∀ h, i ≤ h → h < b → ¬ cf (L.getD h e50) (L.getD a e50) < 0) : RngC a b L (shU (i - 1 - a) a L) ∧ SrtC cf a b (shU (i - 1 - a) a L) := by
  have h := shU_ok (i - 1 - a) a L (by omega)
  refine ⟨h.1.mono (Nat.le_refl _) (by omega), fun p q p1 pq q1 => ?_⟩
  rw [h.2 p, h.2 q, show a + (i - 1 - a) = i - 1 by omega]
  by_cases c1 : p < i - 1
  · rw [if_pos (show a ≤ p ∧ p < i - 1 by omega)]
    by_cases c2 : q < i - 1
    · rw [if_pos (show a ≤ q ∧ q < i - 1 by omega)]; exact S _ _ (by omega) (by omega) (by omega)
    · rw [if_neg (show ¬ (a ≤ q ∧ q < i - 1) by omega)]
      by_cases c3 : q = i - 1
      · rw [if_pos c3]; exact O.asym _ _ (lo _ (by omega) (by omega))
      · rw [if_neg c3]; exact S _ _ (by omega) (by omega) (by omega)
  · rw [if_neg (show ¬ (a ≤ p ∧ p < i - 1) by omega), if_neg (show ¬ (a ≤ q ∧ q < i - 1) by omega), if_neg (show ¬ q = i - 1 by omega)]
    by_cases c3 : p = i - 1
    · rw [if_pos c3]; exact hi _ (by omega) (by omega)
    · rw [if_neg c3]; exact S _ _ (by omega) (by omega) (by omega)
/-- The last element is put in its place. -/
theorem put_last (O : OrdC cf) {a i m : Nat} {L : List Int} (hb : m < L.length) (h1 : a ≤ i) (h2 : i ≤ m) (S : SrtC cf a m L) (lo : ∀ h, a ≤ h → h < i → ¬ cf (L.getD m e50) (L.getD h e50) < 0) (hi : ∀ h, i ≤ h → h < m → cf (L.getD m e50) (L.getD h e50) < 0) : RngC a (m + 1) L (shD (m - i) m L) ∧ SrtC cf a (m + 1) (shD (m - i) m L) := by
  have h := shD_ok (m - i) m L (by omega) hb
  refine ⟨h.1.mono (by omega) (Nat.le_refl _), fun p q p1 pq q1 => ?_⟩
  rw [h.2 p, h.2 q, show m - (m - i) = i by omega]
  by_cases c1 : i < p
  · rw [if_pos (show i < p ∧ p ≤ m by omega), if_pos (show i < q ∧ q ≤ m by omega)]
    exact S _ _ (by omega) (by omega) (by omega)
  · rw [if_neg (show ¬ (i < p ∧ p ≤ m) by omega)]
    by_cases c2 : p = i
    · rw [if_pos c2, if_pos (show i < q ∧ q ≤ m by omega)]
      exact O.asym _ _ (hi _ (by omega) (by omega))
    · rw [if_neg c2]
      by_cases c3 : i < q
      · rw [if_pos (show i < q ∧ q ≤ m by omega)]; exact S _ _ (by omega) (by omega) (by omega)
      · rw [if_neg (show ¬ (i < q ∧ q ≤ m) by omega)]
        by_cases c4 : q = i
        · rw [if_pos c4]; exact lo _ (by omega) (by omega)
        · rw [if_neg c4]; exact S _ _ (by omega) (by omega) (by omega)
/-- A search: below i the elements from c on are less than x. -/
structure BisU (cf : Int → Int → Int) (L : List Int) (x : Int) (lo hi i j : Nat) : Prop where
  a1 : lo ≤ i
  a2 : i ≤ j
  a3 : j ≤ hi
  below : ∀ h, lo ≤ h → h < i → cf (L.getD h e50) x < 0
  above : ∀ h, j ≤ h → h < hi → ¬ cf (L.getD h e50) x < 0
theorem BisU.up (O : OrdC cf) {L : List Int} {x : Int} {lo hi i j h : Nat} (B : BisU cf L x lo hi i j) (S : SrtC cf lo hi L) (h1 : i ≤ h) (h2 : h < j) (hc : cf (L.getD h e50) x < 0) : BisU cf L x lo hi (h + 1) j :=
  ⟨by have := B.a1; omega, h2, B.a3, fun k k1 k2 => by
    by_cases hk : k = h
    · rw [hk]; exact hc
    · exact Decidable.byContradiction fun hn => O.trans _ _ _ hn (S k h k1 (by omega) (by have := B.a3; omega)) hc, B.above⟩
theorem BisU.down (O : OrdC cf) {L : List Int} {x : Int} {lo hi i j h : Nat} (B : BisU cf L x lo hi i j) (S : SrtC cf lo hi L) (h1 : i ≤ h) (h2 : h < j) (hc : ¬ cf (L.getD h e50) x < 0) : BisU cf L x lo hi i h :=
  ⟨B.a1, h1, by have := B.a3; omega, B.below, fun k k1 k2 => by
    by_cases hk : k = h
    · rw [hk]; exact hc
    · exact O.trans _ _ _ hc (S h k (by have := B.a1; omega) (by omega) k2)⟩
/-- A search: below i the elements are not above x. -/
structure BisD (cf : Int → Int → Int) (L : List Int) (x : Int) (lo hi i j : Nat) : Prop where
  a1 : lo ≤ i
  a2 : i ≤ j
  a3 : j ≤ hi
  below : ∀ h, lo ≤ h → h < i → ¬ cf x (L.getD h e50) < 0
  above : ∀ h, j ≤ h → h < hi → cf x (L.getD h e50) < 0
theorem BisD.up (O : OrdC cf) {L : List Int} {x : Int} {lo hi i j h : Nat} (B : BisD cf L x lo hi i j) (S : SrtC cf lo hi L) (h1 : i ≤ h) (h2 : h < j) (hc : ¬ cf x (L.getD h e50) < 0) : BisD cf L x lo hi (h + 1) j :=
  ⟨by have := B.a1; omega, h2, B.a3, fun k k1 k2 => by
    by_cases hk : k = h
    · rw [hk]; exact hc
    · exact O.trans _ _ _ (S k h k1 (by omega) (by have := B.a3; omega)) hc, B.above⟩
theorem BisD.down (O : OrdC cf) {L : List Int} {x : Int} {lo hi i j h : Nat} (B : BisD cf L x lo hi i j) (S : SrtC cf lo hi L) (h1 : i ≤ h) (h2 : h < j) (hc : cf x (L.getD h e50) < 0) : BisD cf L x lo hi i h :=
  ⟨B.a1, h1, by have := B.a3; omega, B.below, fun k k1 k2 => by
    by_cases hk : k = h
    · rw [hk]; exact hc
    · exact Decidable.byContradiction fun hn => O.trans _ _ _ (S h k (by have := B.a1; omega) (by omega) k2) hn hc⟩
/-- The search for where two sorted parts are cut: c of the one goes with p - c of the other. -/
structure BisP (cf : Int → Int → Int) (L : List Int) (p lo hi i j : Nat) : Prop where
  a1 : lo ≤ i
  a2 : i ≤ j
  a3 : j ≤ hi
  below : ∀ h, lo ≤ h → h < i → ¬ cf (L.getD (p - h) e50) (L.getD h e50) < 0
  above : ∀ h, j ≤ h → h < hi → cf (L.getD (p - h) e50) (L.getD h e50) < 0
theorem BisP.up (O : OrdC cf) {L : List Int} {a m b p lo hi i j h : Nat} (B : BisP cf L p lo hi i j) (S1 : SrtC cf a m L) (S2 : SrtC cf m b L) (l1 : a ≤ lo) (l2 : hi ≤ m) (l3 : hi ≤ p + 1) (l4 : m ≤ p + 1 - hi) (l5 : p - lo < b) (h1 : i ≤ h) (h2 : h < j) (hc : ¬ cf (L.getD (p - h) e50) (L.getD h e50) < 0) : BisP cf L p lo hi (h + 1) j :=
  ⟨by have := B.a1; omega, h2, B.a3, fun k k1 k2 => by
    have := B.a3
    by_cases hk : k = h
    · rw [hk]; exact hc
    · exact O.trans _ _ _ (O.trans _ _ _ (S1 k h (by omega) (by omega) (by omega)) hc) (S2 (p - h) (p - k) (by omega) (by omega) (by omega)), B.above⟩
theorem BisP.down (O : OrdC cf) {L : List Int} {a m b p lo hi i j h : Nat} (B : BisP cf L p lo hi i j) (S1 : SrtC cf a m L) (S2 : SrtC cf m b L) (l1 : a ≤ lo) (l2 : hi ≤ m) (l3 : hi ≤ p + 1) (l4 : m ≤ p + 1 - hi) (l5 : p - lo < b) (h1 : i ≤ h) (h2 : h < j) (hc : cf (L.getD (p - h) e50) (L.getD h e50) < 0) : BisP cf L p lo hi i h :=
  ⟨B.a1, h1, by have := B.a3; omega, B.below, fun k k1 k2 => by
    have := B.a1
    by_cases hk : k = h
    · rw [hk]; exact hc
    · exact Decidable.byContradiction fun hn => O.trans _ _ _ (O.trans _ _ _ (S1 h k (by omega) (by omega) (by omega)) hn) (S2 (p - k) (p - h) (by omega) (by omega) (by omega)) hc⟩
end Go.Proofs.Ytghnigmmkenddaa.Ar
