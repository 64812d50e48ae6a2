/- Worlds that differ in one row only. -/
import Derived.Test.YtndmpoomdoojpaaKB4
import Derived.WalkKit
namespace Go.Proofs.Ytndmpoomdoojpaa.Ck.Bf
open Go.ChangeShapes Go.WideShapes Go.ChangeAt Go.RowKit Go.Proofs.Ytndmpoomdoojpaa.Ck
set_option linter.unusedVariables false
theorem gx_refl (w : World) (r : Option Nat) : w.grownBy w r := ⟨rfl, rfl, rfl, Nat.le_refl _, fun _ _ _ => rfl⟩
theorem gx_trans {w w1 w2 : World} {r r1 : Option Nat} (h1 : w.grownBy w1 r) (h2 : w1.grownBy w2 r1) (hr : r1 = r ∨ ∀ k, r1 = some k → w.heap.size ≤ k) : w.grownBy w2 r :=
  ⟨h2.os.trans h1.os, h2.tape.trans h1.tape, h2.output.trans h1.output, Nat.le_trans h1.size h2.size, fun k hk hne => by
    have h3 : some k ≠ r1 := by
      rcases hr with rfl | hr
      · exact hne
      · intro e; have := hr k e.symm; omega
    exact (h2.block k (Nat.lt_of_lt_of_le hk h1.size) h3).trans (h1.block k hk hne)⟩
theorem gx_below {w w' : World} (h : Below w.heap.size w w') (r : Option Nat) : w.grownBy w' r := ⟨h.os, h.tape, h.output, h.size, fun k hk _ => h.block k hk⟩
/-- Where a row lies that was lengthened: where it lay, or in fresh memory. -/
def Nw (B : Nat) (v v' : Value) : Prop := v'.ownBlock = v.ownBlock ∨ ∀ k, v'.ownBlock = some k → B ≤ k
theorem Nw.refl (B : Nat) (v : Value) : Nw B v v := .inl rfl
theorem Nw.trans {B B' : Nat} {v v1 v2 : Value} (h1 : Nw B v v1) (h2 : Nw B' v1 v2) (hB : B ≤ B') : Nw B v v2 := by
  rcases h2 with h2 | h2
  · rcases h1 with h1 | h1
    · exact .inl (h2.trans h1)
    · exact .inr fun k e => h1 k (h2 ▸ e)
  · exact .inr fun k e => Nat.le_trans hB (h2 k e)
theorem Nw.gx {w w1 w2 : World} {v v1 : Value} (h : Nw w.heap.size v v1) (h1 : w.grownBy w1 v.ownBlock) (h2 : w1.grownBy w2 v1.ownBlock) : w.grownBy w2 v.ownBlock := gx_trans h1 h2 h
theorem Nw.of {B : Nat} {v v' : Value} {s : Nat} (h : v'.ownBlock = v.ownBlock ∨ v'.ownBlock = some s) (hs : B ≤ s) : Nw B v v' := by
  rcases h with h | h
  · exact .inl h
  · exact .inr fun k e => by rw [h] at e; cases e; exact hs
/-- Two rows apart stay apart when one is lengthened. -/
theorem Nw.apart {B : Nat} {u v v' : Value} (h : Nw B v v') (ha : u.ownBlock = none ∨ u.ownBlock ≠ v.ownBlock) (hu : ∀ k, u.ownBlock = some k → k < B) : u.ownBlock = none ∨ u.ownBlock ≠ v'.ownBlock := by
  rcases h with h | h
  · rw [h]; exact ha
  · cases hq : u.ownBlock with
    | none => exact .inl rfl
    | some k => exact .inr fun e => by have := h k e.symm; have := hu k hq; omega
theorem Nw.apart' {B : Nat} {u v v' : Value} (h : Nw B v v') (ha : v.ownBlock = none ∨ v.ownBlock ≠ u.ownBlock) (hu : ∀ k, u.ownBlock = some k → k < B) : v'.ownBlock = none ∨ v'.ownBlock ≠ u.ownBlock := by
  rcases h with h | h
  · rw [h]; exact ha
  · cases hq : v'.ownBlock with
    | none => exact .inl rfl
    | some k => exact .inr fun e => by have := h k hq; have := hu k e.symm; omega
theorem apart_symm {u v : Value} (h : u.ownBlock = none ∨ u.ownBlock ≠ v.ownBlock) : v.ownBlock = none ∨ v.ownBlock ≠ u.ownBlock := by
  rcases h with h | h
  · cases hq : v.ownBlock with
    | none => exact .inl rfl
    | some k => exact .inr (by rw [h]; simp)
  · exact .inr fun e => h e.symm
theorem gx_alloc (w : World) (ob : Obj) (r : Option Nat) : w.grownBy (w.alloc ob) r := gx_below ((Below.refl _ _).alloc (Nat.le_refl _) ob) r
theorem gx_drew {w w' : World} {r : Option Nat} (h : w.grownBy w' r) : w.grownBy w'.drew r := ⟨h.os, h.tape, h.output, h.size, h.block⟩
end Go.Proofs.Ytndmpoomdoojpaa.Ck.Bf
