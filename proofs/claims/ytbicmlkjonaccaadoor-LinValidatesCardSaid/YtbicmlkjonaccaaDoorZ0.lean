/- Linear forms: their texts. -/
import Derived.Test.YtbicmlkjonaccaaDoorY9
import Derived.Lib.ItoaNum
namespace Go.Proofs.YtbicmlkjonaccaaDoor.Ln
open Go.ChangeShapes Go.WideShapes Go.ChangeAt Go.RowKit
open Go.Proofs.YtbicmlkjonaccaaDoor.Nm
set_option linter.unusedVariables false
set_option linter.unusedSimpArgs false
set_option maxRecDepth 8000

/-- What stands between two terms. -/
def sgn (a : List UInt8) (neg : Bool) : List UInt8 := if a = [] then (if neg then [45] else []) else if neg then [32, 45, 32] else [32, 43, 32]
/-- A monomial without its sign. -/
def tmt (m : Mo) : List UInt8 := (if m.2.natAbs = 1 then [] else Lib.decDigits m.2.natAbs ++ [42]) ++ m.1.data.toList
/-- The text of the first k monomials. -/
def fl (xs : List Mo) : Nat → List UInt8
  | 0 => []
  | k + 1 => fl xs k ++ sgn (fl xs k) (decide ((xs.getD k mo0).2 < 0)) ++ tmt (xs.getD k mo0)
/-- The text of a valid form. -/
def fmL (k : Int) (xs : List Mo) : List UInt8 :=
  if k ≠ 0 ∨ xs.length = 0 then fl xs xs.length ++ sgn (fl xs xs.length) (decide (k < 0)) ++ Lib.decDigits k.natAbs else fl xs xs.length
theorem dec_len : ∀ (m k : Nat), k < 10 ^ (m + 1) → (Lib.decDigits k).length ≤ m + 1
  | 0, k, h => by rw [Lib.decDigits, dif_pos (by simpa using h)]; simp
  | m + 1, k, h => by
    by_cases hk : k < 10
    · rw [Lib.decDigits, dif_pos hk]; simp
    · rw [Lib.decDigits, dif_neg hk, List.length_append]
      have := dec_len m (k / 10) (by rw [Nat.pow_succ] at h; omega)
      simp; omega
theorem dec20 (k : Nat) (h : k < 18446744073709551616) : (Lib.decDigits k).length ≤ 20 := by
  have e : (10 : Nat) ^ (19 + 1) = 100000000000000000000 := by decide
  exact dec_len 19 k (by omega)
theorem sgn_len (a : List UInt8) (b : Bool) : (sgn a b).length ≤ 3 := by unfold sgn; split <;> split <;> simp
theorem tmt_len (m : Mo) (h : -9223372036854775808 ≤ m.2 ∧ m.2 ≤ 9223372036854775807) : (tmt m).length ≤ 21 + m.1.size := by
  unfold tmt
  have h1 := dec20 m.2.natAbs (by omega)
  rw [List.length_append]
  have : m.1.data.toList.length = m.1.size := by simp
  rw [this]
  split
  · simp
  · simp; omega
theorem fl_len {xs : List Mo} {B : Nat} (hb : ∀ i, i < xs.length → (xs.getD i mo0).1.size ≤ B ∧ -9223372036854775808 ≤ (xs.getD i mo0).2 ∧ (xs.getD i mo0).2 ≤ 9223372036854775807) : ∀ k, k ≤ xs.length → (fl xs k).length ≤ k * (24 + B)
  | 0, _ => by simp [fl]
  | k + 1, h => by
    have h1 := fl_len hb k (by omega)
    obtain ⟨h2, h3⟩ := hb k (by omega)
    have h4 := sgn_len (fl xs k) (decide ((xs.getD k mo0).2 < 0))
    have h5 := tmt_len (xs.getD k mo0) h3
    rw [fl, List.length_append, List.length_append, Nat.succ_mul]
    omega
end Go.Proofs.YtbicmlkjonaccaaDoor.Ln
