/- Linear forms: each name once. -/
import Derived.Test.YthdeaneffnlffaaY41
namespace Go.Proofs.Ythdeaneffnlffaa.Ln
open Go.ChangeShapes Go.WideShapes Go.ChangeAt Go.RowKit
set_option linter.unusedVariables false
set_option linter.unusedSimpArgs false
open Go.Sort
theorem own_cut {w : World} {base n m : Nat} {E : TypeId} {p : Option Addr} {c : Nat} {xs : List Value} (h : w.ownsRow base E 1 (.slice p n c) n xs) (hm : m ≤ n) (hm0 : 0 < m) : w.ownsRow base E 1 (.slice p m c) m (xs.take m) := by
  rcases h.2 with ⟨e, hn⟩ | ⟨g, cap, cur, e, hg, hb, h1, h2, h3, h4⟩
  · omega
  · injection e with e1 e2 e3
    subst e1 e3
    refine ⟨by rw [List.length_take, h.1]; omega, .inr ⟨g, c, cur, rfl, hg, hb, by omega, h2, h3, ?_⟩⟩
    rw [← h4, List.take_take]
    congr 1
    omega
theorem grow_none (w : World) : grow w #[] = w := by
  cases w
  simp [grow]
theorem compact_len (l : List (List UInt8)) : (Lib.compact l).length ≤ l.length := by
  unfold Lib.compact Lib.compactUpTo
  rw [List.length_map]
  exact Nat.le_trans (List.length_filter_le _ _) (by simp)
theorem compact_pos {l : List (List UInt8)} (h : l ≠ []) : Lib.compact l ≠ [] := fun e => by
  cases l with
  | nil => exact h rfl
  | cons x l =>
    have : x ∈ Lib.compact (x :: l) := (compact_mem x).2 (by simp)
    rw [e] at this
    cases this
def CSW (L : List (List UInt8)) (base : Nat) (v : Value) (w : World) (e : Ending) (w' : World) : Prop := ∃ v', e = .returned v' ∧ w'.ownsRow base 9 1 v' (Lib.compact L).length ((Lib.compact L).map encStr) ∧ w.grownBy w' v.ownBlock
theorem compS (v : Value) (L : List (List UInt8)) (base : Nat) (w : World) (hO : w.ownsRow base 9 1 v L.length (L.map encStr)) (hz : L.length ≤ 4611686018427387903) :
    Calls Try.prog 55 #[v] w (CSW L base v w) := by
  rcases hO.2 with ⟨rfl, h0⟩ | ⟨g, cap, cur, rfl, hg, hb, h1, h2, h3, h4⟩
  · obtain rfl : L = [] := List.eq_nil_of_length_eq_zero h0
    refine (Try.slices_Compact_string_empty none 0 w).mono ?_
    rintro e w' ⟨rfl, rfl⟩
    exact ⟨_, rfl, hO, rfl, rfl, rfl, Nat.le_refl _, fun k _ _ => rfl⟩
  · by_cases hL : L = []
    · subst hL
      refine (Try.slices_Compact_string_empty _ cap w).mono ?_
      rintro e w' ⟨rfl, rfl⟩
      exact ⟨_, rfl, hO, rfl, rfl, rfl, Nat.le_refl _, fun k _ _ => rfl⟩
    · have hh := holds_of_block (ss := L) hb (by rw [Nat.mul_one] at h4; exact h4)
      have C := Try.slices_Compact_string g 0 cap L w hh (by omega) h1
      refine C.mono ?_
      rintro e w' ⟨rfl, q, rfl⟩
      have hcl := compact_len L
      have hR := ownsRow_sorted (ss := L) (ts := Lib.compact L ++ List.replicate (L.length - (Lib.compact L).length) []) (n := q) (os := #[]) (by rw [List.length_append, List.length_replicate]; omega) hg hb h1 h2 h3
      have hG := grownBy_sorted (w := w) (g := g) (n := q) (os := #[]) (Lib.compact L ++ List.replicate (L.length - (Lib.compact L).length) []).toArray
      rw [grow_none] at hR hG
      have hpos : 0 < (Lib.compact L).length := List.length_pos_iff.2 (compact_pos hL)
      have hC := own_cut hR hcl hpos
      rw [← List.map_take, List.take_left'  rfl] at hC
      exact ⟨_, rfl, hC, hG⟩
end Go.Proofs.Ythdeaneffnlffaa.Ln
