/- Lifetimes: two rows of the call's own, and their sorting. -/
import Derived.Test.YtghnigmmkenddaaL2
import Derived.Laws.OwnMore
import Derived.Laws.AppendOwn
import Derived.OneCell
import Derived.Deep.Onto
import Derived.Deep.AppendLies
import Derived.Deep.RegionHeldLaw
import Derived.Lib.Builder
import Derived.Lib.Hide
namespace Go.Proofs.Ytghnigmmkenddaa.Lv
open Go.ChangeShapes Go.WideShapes Go.ChangeAt Go.RowKit
set_option linter.unusedVariables false
set_option linter.unusedSimpArgs false
theorem info3 : (Try.prog.info? 3).map (fun i => (i.zero, i.size, i.bytes)) = some (some (.int .i64 0), 1, 8) := by kernel_rfl
/-- Two rows of integers of the call's own, in different blocks. -/
def Pr (base : Nat) (w : World) (a b : Value) (n m : Nat) (la lb : List Int) : Prop :=
  w.ownsRow base 3 1 a n (la.map (Value.int .i64)) ∧ w.ownsRow base 3 1 b m (lb.map (Value.int .i64)) ∧ ∀ g, a.ownBlock = some g → b.ownBlock = some g → False
theorem Pr.nil (base : Nat) (w : World) : Pr base w (.slice none 0 0) (.slice none 0 0) 0 0 [] [] := ⟨World.ownsRow_nil _ _ _ _, World.ownsRow_nil _ _ _ _, fun g h => by cases h⟩
theorem Pr.alloc {base : Nat} {w : World} {a b : Value} {n m : Nat} {la lb : List Int} (h : Pr base w a b n m la lb) (o : Obj) : Pr base (w.alloc o) a b n m la lb := ⟨h.1.alloc o, h.2.1.alloc o, h.2.2⟩
theorem Pr.drew {base : Nat} {w : World} {a b : Value} {n m : Nat} {la lb : List Int} (h : Pr base w a b n m la lb) : Pr base w.drew a b n m la lb := h
theorem Pr.swap {base : Nat} {w : World} {a b : Value} {n m : Nat} {la lb : List Int} (h : Pr base w a b n m la lb) : Pr base w b a m n lb la := ⟨h.2.1, h.1, fun g h1 h2 => h.2.2 g h2 h1⟩
theorem Pr.other {base : Nat} {w : World} {a b : Value} {n m : Nat} {la lb : List Int} (h : Pr base w a b n m la lb) : b.ownBlock = none ∨ b.ownBlock ≠ a.ownBlock := by
  cases hb : b.ownBlock with
  | none => exact .inl rfl
  | some g => exact .inr fun e => h.2.2 g e.symm hb
theorem Pr.stepA {base : Nat} {w w' : World} {a b : Value} {n m : Nat} {la lb : List Int} {x : Int} {g cap H : Nat} (h : Pr base w a b n m la lb) (hown : w'.ownsRow base 3 1 (.slice (some ⟨g, 0, none⟩) (n + 1) cap) (n + 1) (la.map (Value.int .i64) ++ [.int .i64 x]))
    (hg : w.grownBy w' a.ownBlock) (hat : a.ownBlock = some g ∨ g = H) (hH : w.heap.size = H) : Pr base w' (.slice (some ⟨g, 0, none⟩) (n + 1) cap) b (n + 1) m (la ++ [x]) lb := by
  refine ⟨by rw [List.map_append]; exact hown, h.2.1.kept hg h.other, fun j h1 h2 => ?_⟩
  cases h1
  rcases hat with h3 | h3
  · exact h.2.2 g h3 h2
  · have := (h.2.1.lt g h2).2; omega
theorem Pr.sortA {base : Nat} {w w' : World} {a b : Value} {n m : Nat} {la lb la' : List Int} (h : Pr base w a b n m la lb) (hown : w'.ownsRow base 3 1 a n (la'.map (Value.int .i64))) (hg : w.grownBy w' a.ownBlock) : Pr base w' a b n m la' lb :=
  ⟨hown, h.2.1.kept hg h.other, h.2.2⟩
theorem below_grown {B : Nat} {w0 w w' : World} {a : Value} {n : Nat} {xs : List Value} {base : Nat} (hB : Below B w0 w) (hO : w.ownsRow base 3 1 a n xs) (hb : B ≤ base) (hg : w.grownBy w' a.ownBlock) (hs : B ≤ w.heap.size) : Below B w0 w' :=
  hB.grown hg hs (fun j hj => by have := (hO.lt j hj).1; omega)
theorem sts_step {xs : List Lf} {k : Nat} (h : k < xs.length) : (vd xs[k] = true → sts (xs.take (k + 1)) = sts (xs.take k) ++ [xs[k].2.1] ∧ eds (xs.take (k + 1)) = eds (xs.take k) ++ [xs[k].2.2.1]) ∧ (vd xs[k] = false → sts (xs.take (k + 1)) = sts (xs.take k) ∧ eds (xs.take (k + 1)) = eds (xs.take k)) := by
  unfold sts eds
  rw [List.take_succ_eq_append_getElem h, List.filter_append]
  refine ⟨fun hv => ?_, fun hv => ?_⟩
  · rw [List.filter_cons_of_pos hv]; simp
  · rw [List.filter_cons_of_neg (by rw [hv]; simp)]; simp
theorem sts_le (xs : List Lf) (k : Nat) : (sts (xs.take k)).length ≤ k ∧ (eds (xs.take k)).length = (sts (xs.take k)).length := by
  refine ⟨?_, sts_len _⟩
  unfold sts
  rw [List.length_map]
  exact Nat.le_trans (List.length_filter_le _ _) (by simp; omega)
end Go.Proofs.Ytghnigmmkenddaa.Lv
