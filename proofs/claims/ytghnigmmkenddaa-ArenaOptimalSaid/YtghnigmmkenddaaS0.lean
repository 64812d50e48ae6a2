/- Rows of integers, insertion sort. -/
import Derived.Test.YtghnigmmkenddaaRk
import Derived.OneCell
import Derived.Laws.OwnMore
namespace Go.Proofs.Ytghnigmmkenddaa.Ar
open Go.ChangeShapes Go.WideShapes Go.ChangeAt Go.RowKit

set_option linter.unusedVariables false
set_option linter.unusedSimpArgs false

/-- All blocks but one are as they were. -/
def KG (g : Nat) (w w' : World) : Prop := w.heap.size ≤ w'.heap.size ∧ ∀ b, b ≠ g → b < w.heap.size → w'.heap[b]? = w.heap[b]?
theorem KG.refl (g : Nat) (w : World) : KG g w w := ⟨Nat.le_refl _, fun _ _ _ => rfl⟩
theorem KG.trans {g : Nat} {a b c : World} (h : KG g a b) (k : KG g b c) : KG g a c := ⟨Nat.le_trans h.1 k.1, fun x hx hl => (k.2 x hx (Nat.lt_of_lt_of_le hl h.1)).trans (h.2 x hx hl)⟩
theorem KG.below {g : Nat} {w w' : World} (h : Below w.heap.size w w') : KG g w w' := ⟨h.size, fun b _ hl => h.block b hl⟩
theorem KG.own {g cap n sz : Nat} {w w' : World} {base m : Nat} {e : TypeId} {cs : List Value} (h : w.ownsRow base e sz (.slice (some ⟨g, 0, none⟩) n cap) m cs) (hg : w.grownBy w' (Value.slice (some ⟨g, 0, none⟩) n cap).ownBlock) : KG g w w' := ⟨hg.size, fun b hb hl => hg.block b hl (fun hh => hb (by simp only [Value.ownBlock, Option.some.injEq] at hh; exact hh))⟩
theorem own_belowE {w w' : World} {B : Nat} {e : TypeId} {size : Nat} {v : Value} {n : Nat} {xs : List Value} (h : w.ownsRow B e size v n xs) (hb : Below w.heap.size w w') : w'.ownsRow B e size v n xs := by
  obtain ⟨hl, h0 | ⟨g, cap, cur, hv, hb', hh, r⟩⟩ := h
  · exact ⟨hl, .inl h0⟩
  · have hg : g < w.heap.size := by
      rcases Nat.lt_or_ge g w.heap.size with h1 | h1
      · exact h1
      · rw [Array.getElem?_eq_none h1] at hh
        cases hh
    exact ⟨hl, .inr ⟨g, cap, cur, hv, hb', by rw [hb.block g hg]; exact hh, r⟩⟩
theorem below_drewN {B : Nat} {a w : World} (h : Below B a w) (n : Nat) : Below B a (w.drewN n) := ⟨h.os, h.tape, h.output, h.size, h.block⟩

def e50 : Int := 0
def rowE (L : List Int) : List Value := L.map (Value.int .i64)
theorem rowE_len (L : List Int) : (rowE L).length = L.length := List.length_map ..
theorem rowE_get (L : List Int) (i : Nat) (h : i < L.length) : (rowE L)[i]? = some (.int .i64 (L.getD i e50)) := by
  unfold rowE List.getD
  rw [List.getElem?_map, List.getElem?_eq_getElem h]
  rfl
theorem rowE_set (L : List Int) (i : Nat) (e : Int) : (rowE L).set i (.int .i64 e) = rowE (L.set i e) := by
  unfold rowE
  rw [List.map_set]
/-- Two elements change places. -/
def swE (L : List Int) (i j : Nat) : List Int := (L.set i (L.getD j e50)).set j (L.getD i e50)
theorem swE_len (L : List Int) (i j : Nat) : (swE L i j).length = L.length := by simp [swE]
theorem getD_mem5 {L : List Int} {i : Nat} (h : i < L.length) : L.getD i e50 ∈ L := by
  have e1 : L.getD i e50 = L[i] := by unfold List.getD; rw [List.getElem?_eq_getElem h]; rfl
  rw [e1]
  exact List.getElem_mem h
theorem swE_mem {L : List Int} {i j : Nat} (hi : i < L.length) (hj : j < L.length) {x : Int} (h : x ∈ swE L i j) : x ∈ L := by
  unfold swE at h
  rcases List.mem_or_eq_of_mem_set h with h | rfl
  · rcases List.mem_or_eq_of_mem_set h with h | rfl
    · exact h
    · exact getD_mem5 hj
  · exact getD_mem5 hi
/-- The inner loop of the insertion sort. -/
def insJ (cf : Int → Int → Int) (a : Nat) : Nat → List Int → List Int
  | 0, L => L
  | j + 1, L => if a < j + 1 ∧ cf (L.getD (j + 1) e50) (L.getD j e50) < 0 then insJ cf a j (swE L (j + 1) j) else L
theorem insJ_stop {cf : Int → Int → Int} {a j : Nat} {L : List Int} (h : j ≤ a) : insJ cf a j L = L := by
  cases j with
  | zero => rfl
  | succ j => unfold insJ; rw [if_neg (by omega)]
theorem insJ_no {cf : Int → Int → Int} {a j : Nat} {L : List Int} (h : ¬ cf (L.getD (j + 1) e50) (L.getD j e50) < 0) : insJ cf a (j + 1) L = L := by
  unfold insJ; rw [if_neg (fun h2 => h h2.2)]
theorem insJ_go {cf : Int → Int → Int} {a j : Nat} {L : List Int} (h1 : a < j + 1) (h : cf (L.getD (j + 1) e50) (L.getD j e50) < 0) : insJ cf a (j + 1) L = insJ cf a j (swE L (j + 1) j) := by
  conv => lhs; unfold insJ
  rw [if_pos ⟨h1, h⟩]
/-- The insertion sort from i on. -/
def insI (cf : Int → Int → Int) (a : Nat) : Nat → Nat → List Int → List Int
  | 0, _, L => L
  | n + 1, i, L => insI cf a n (i + 1) (insJ cf a i L)
/-- What lies from j on ascends, and the element at j lies above all before it. -/
def ASC (a b i j : Nat) (L : List Int) : Prop := (∀ p, a ≤ p → p < j → L.getD p e50 < L.getD j e50) ∧ ∀ p q, a ≤ p → p < q → i < q → q < b → L.getD p e50 < L.getD q e50
def ASO (a b i : Nat) (L : List Int) : Prop := ∀ p q, a ≤ p → p < q → i ≤ q → q < b → L.getD p e50 < L.getD q e50
theorem swE_get {L : List Int} {i j : Nat} (hi : i < L.length) (hj : j < L.length) (k : Nat) : (swE L i j).getD k e50 = if k = j then L.getD i e50 else if k = i then L.getD j e50 else L.getD k e50 := by
  unfold swE
  simp only [List.getD_eq_getElem?_getD, List.getElem?_set, List.length_set]
  by_cases h1 : k = j
  · subst h1; simp [hj]
  · rw [if_neg (fun h => h1 h.symm), if_neg h1]
    by_cases h2 : k = i
    · subst h2; simp [hi]
    · rw [if_neg (fun h => h2 h.symm), if_neg h2]
theorem ASC.swap {a b i m : Nat} {L : List Int} (H : ASC a b i (m + 1) L) (h : m + 1 < L.length) (am : a ≤ m) (mi : m + 1 ≤ i) : ASC a b i m (swE L (m + 1) m) := by
  have h0 : m < L.length := by omega
  refine ⟨fun p p1 p2 => ?_, fun p q p1 pq q1 q2 => ?_⟩
  · rw [swE_get h h0, swE_get h h0, if_neg (by omega), if_neg (by omega), if_pos rfl]
    exact H.1 p p1 (by omega)
  · rw [swE_get h h0, swE_get h h0, if_neg (show ¬ q = m by omega), if_neg (show ¬ q = m + 1 by omega)]
    by_cases c1 : p = m
    · rw [if_pos c1]; exact H.2 _ _ (by omega) (by omega) q1 q2
    · rw [if_neg c1]
      by_cases c2 : p = m + 1
      · rw [if_pos c2]; exact H.2 _ _ am (by omega) q1 q2
      · rw [if_neg c2]; exact H.2 p q p1 pq q1 q2
end Go.Proofs.Ytghnigmmkenddaa.Ar
