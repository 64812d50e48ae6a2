/- Linear forms: their order. -/
import Derived.WalkKit
import Derived.ProofKit
import Derived.OpenShut
import Derived.Lib.Bytealg
namespace Go.Proofs.YtbicmlkjonaccaaDoor.Ln
open Go.ChangeShapes Go.WideShapes Go.ChangeAt Go.RowKit
set_option linter.unusedVariables false
set_option linter.unusedSimpArgs false
abbrev Mo := ByteArray × Int
abbrev mo0 : Mo := (ByteArray.empty, 0)
def ic (a b : Int) : Int := if a < b then -1 else if b < a then 1 else 0
def cs (a b : ByteArray) : Int := Lib.compareBytes a.data.toList b.data.toList
theorem cb_swap : ∀ a b : List UInt8, Lib.compareBytes b a = - Lib.compareBytes a b
  | [], [] => rfl
  | [], _ :: _ => rfl
  | _ :: _, [] => rfl
  | a :: as, b :: bs => by
    have ih := cb_swap as bs
    unfold Lib.compareBytes
    simp only [UInt8.lt_iff_toNat_lt]
    split <;> split <;> (try split) <;> omega
theorem cb_less : ∀ a b : List UInt8, Op.bytesLess a b = decide (Lib.compareBytes a b < 0)
  | [], [] => rfl
  | [], _ :: _ => rfl
  | _ :: _, [] => rfl
  | a :: as, b :: bs => by
    have ih := cb_less as bs
    unfold Lib.compareBytes Op.bytesLess
    rw [ih]
    by_cases h1 : a < b
    · simp [h1]
    · by_cases h2 : b < a
      · have : ¬ a = b := fun h => by subst h; exact h1 h2
        simp [h1, h2, this]
      · obtain rfl : a = b := UInt8.le_antisymm (UInt8.not_lt.1 h2) (UInt8.not_lt.1 h1)
        simp
theorem cb_zero : ∀ a b : List UInt8, Lib.compareBytes a b = 0 ↔ a = b
  | [], [] => by simp [Lib.compareBytes]
  | [], _ :: _ => by simp [Lib.compareBytes]
  | _ :: _, [] => by simp [Lib.compareBytes]
  | a :: as, b :: bs => by
    have ih := cb_zero as bs
    unfold Lib.compareBytes
    by_cases h1 : a < b
    · have : ¬ a = b := fun h => by subst h; exact UInt8.lt_irrefl _ h1
      simp [h1, this]
    · by_cases h2 : b < a
      · have : ¬ a = b := fun h => by subst h; exact h1 h2
        simp [h1, h2, this]
      · obtain rfl : a = b := UInt8.le_antisymm (UInt8.not_lt.1 h2) (UInt8.not_lt.1 h1)
        simp [ih]
theorem cb_bd : ∀ a b : List UInt8, -1 ≤ Lib.compareBytes a b ∧ Lib.compareBytes a b ≤ 1
  | [], [] => by simp [Lib.compareBytes]
  | [], _ :: _ => by simp [Lib.compareBytes]
  | _ :: _, [] => by simp [Lib.compareBytes]
  | a :: as, b :: bs => by
    have ih := cb_bd as bs
    unfold Lib.compareBytes
    split
    · omega
    · split <;> omega
theorem cs_zero {a b : ByteArray} : cs a b = 0 ↔ a = b := by
  unfold cs
  rw [cb_zero]
  exact ⟨fun h => ByteArray.ext (Array.toList_inj.1 h), fun h => by rw [h]⟩
theorem cs_swap (a b : ByteArray) : cs b a = - cs a b := cb_swap _ _
theorem cs_bd (a b : ByteArray) : -1 ≤ cs a b ∧ cs a b ≤ 1 := cb_bd _ _
theorem cs_less (a b : ByteArray) : Op.bytesLess a.toList b.toList = decide (cs a b < 0) := by
  rw [ByteArray.toList_eq, ByteArray.toList_eq]; exact cb_less _ _
theorem cs_eq (a b : ByteArray) : (a.toList == b.toList) = decide (cs a b = 0) := by
  rw [ByteArray.toList_eq, ByteArray.toList_eq, Bool.eq_iff_iff, beq_iff_eq, decide_eq_true_eq]
  exact (cb_zero _ _).symm
theorem ic_swap (a b : Int) : ic b a = - ic a b := by unfold ic; split <;> (try split) <;> (try split) <;> omega
theorem ic_zero {a b : Int} : ic a b = 0 ↔ a = b := by unfold ic; split <;> (try split) <;> omega
theorem ic_bd (a b : Int) : -1 ≤ ic a b ∧ ic a b ≤ 1 := by unfold ic; split <;> (try split) <;> omega
def mc (x y : Mo) : Int := if cs x.1 y.1 = 0 then ic x.2 y.2 else cs x.1 y.1
theorem mc_swap (x y : Mo) : mc y x = - mc x y := by
  unfold mc
  rw [cs_swap x.1 y.1, ic_swap x.2 y.2]
  split <;> split <;> omega
theorem mc_zero {x y : Mo} : mc x y = 0 ↔ x = y := by
  unfold mc
  split
  · rename_i h
    rw [ic_zero]
    exact ⟨fun h2 => Prod.ext (cs_zero.1 h) h2, fun h2 => by rw [h2]⟩
  · rename_i h
    exact ⟨fun h2 => absurd h2 h, fun h2 => absurd (cs_zero.2 (by rw [h2])) h⟩
theorem mc_bd (x y : Mo) : -1 ≤ mc x y ∧ mc x y ≤ 1 := by
  unfold mc
  split
  · exact ic_bd _ _
  · exact cs_bd _ _
def lc : List Mo → List Mo → Int
  | [], [] => 0
  | [], _ :: _ => -1
  | _ :: _, [] => 1
  | x :: r, y :: s => if mc x y = 0 then lc r s else mc x y
theorem lc_swap : ∀ xs ys : List Mo, lc ys xs = - lc xs ys
  | [], [] => rfl
  | [], _ :: _ => rfl
  | _ :: _, [] => rfl
  | x :: r, y :: s => by
    have ih := lc_swap r s
    unfold lc
    rw [mc_swap x y]
    split <;> split <;> omega
theorem lc_zero : ∀ xs ys : List Mo, lc xs ys = 0 ↔ xs = ys
  | [], [] => by simp [lc]
  | [], _ :: _ => by simp [lc]
  | _ :: _, [] => by simp [lc]
  | x :: r, y :: s => by
    have ih := lc_zero r s
    unfold lc
    split
    · rename_i h
      rw [ih, mc_zero.1 h]
      simp
    · rename_i h
      refine ⟨fun h2 => absurd h2 h, fun h2 => absurd (mc_zero.2 ?_) h⟩
      simp at h2
      exact h2.1
theorem lc_bd : ∀ xs ys : List Mo, -1 ≤ lc xs ys ∧ lc xs ys ≤ 1
  | [], [] => by simp [lc]
  | [], _ :: _ => by simp [lc]
  | _ :: _, [] => by simp [lc]
  | x :: r, y :: s => by
    have ih := lc_bd r s
    unfold lc
    split
    · exact ih
    · exact mc_bd _ _
theorem lc_step {xs ys : List Mo} {k : Nat} (h1 : k < xs.length) (h2 : k < ys.length) : lc (xs.drop k) (ys.drop k) = if mc (xs.getD k mo0) (ys.getD k mo0) = 0 then lc (xs.drop (k + 1)) (ys.drop (k + 1)) else mc (xs.getD k mo0) (ys.getD k mo0) := by
  rw [List.drop_eq_getElem_cons h1, List.drop_eq_getElem_cons h2]
  have e1 : xs.getD k mo0 = xs[k] := by unfold List.getD; rw [List.getElem?_eq_getElem h1]; rfl
  have e2 : ys.getD k mo0 = ys[k] := by unfold List.getD; rw [List.getElem?_eq_getElem h2]; rfl
  rw [e1, e2]
  rfl
theorem lc_long {xs ys : List Mo} {k : Nat} (h1 : k < xs.length) (h2 : k = ys.length) : lc (xs.drop k) (ys.drop k) = 1 := by
  rw [List.drop_eq_getElem_cons h1, List.drop_of_length_le (Nat.le_of_eq h2.symm)]
  rfl
theorem lc_short {xs ys : List Mo} {k : Nat} (h1 : k = xs.length) (h2 : k < ys.length) : lc (xs.drop k) (ys.drop k) = -1 := by
  rw [List.drop_eq_getElem_cons h2, List.drop_of_length_le (Nat.le_of_eq h1.symm)]
  rfl
theorem lc_same {xs ys : List Mo} {k : Nat} (h1 : k = xs.length) (h2 : k = ys.length) : lc (xs.drop k) (ys.drop k) = 0 := by
  rw [List.drop_of_length_le (Nat.le_of_eq h1.symm), List.drop_of_length_le (Nat.le_of_eq h2.symm)]
  rfl
def cl (k : Int) (xs : List Mo) (k' : Int) (ys : List Mo) : Int := if lc xs ys = 0 then ic k k' else lc xs ys
theorem cl_swap (k : Int) (xs : List Mo) (k' : Int) (ys : List Mo) : cl k' ys k xs = - cl k xs k' ys := by
  unfold cl
  rw [lc_swap xs ys, ic_swap k k']
  split <;> split <;> omega
theorem cl_zero {k : Int} {xs : List Mo} {k' : Int} {ys : List Mo} : cl k xs k' ys = 0 ↔ k = k' ∧ xs = ys := by
  unfold cl
  split
  · rename_i h
    rw [ic_zero]
    exact ⟨fun h2 => ⟨h2, (lc_zero _ _).1 h⟩, fun h2 => h2.1⟩
  · rename_i h
    exact ⟨fun h2 => absurd h2 h, fun h2 => absurd ((lc_zero _ _).2 h2.2) h⟩
theorem cl_bd (k : Int) (xs : List Mo) (k' : Int) (ys : List Mo) : -1 ≤ cl k xs k' ys ∧ cl k xs k' ys ≤ 1 := by
  unfold cl
  split
  · exact ic_bd _ _
  · exact lc_bd _ _
end Go.Proofs.YtbicmlkjonaccaaDoor.Ln
