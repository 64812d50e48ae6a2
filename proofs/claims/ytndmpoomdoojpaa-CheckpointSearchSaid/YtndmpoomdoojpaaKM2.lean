/- The recurrence over the first stored state, checked for every number of steps and slots. -/
import Derived.Test.YtndmpoomdoojpaaKM1
namespace Go.Proofs.Ytndmpoomdoojpaa.Ck
open Go.ChangeShapes Go.WideShapes Go.ChangeAt Go.RowKit
set_option linter.unusedVariables false

/-- The costs with a number of slots. -/
def R (s : Nat) : List Int := (List.range 65).map fun (n : Nat) => co n s
/-- The least sum over the splits up to a state, with the two rows at hand. -/
def bl (prev row : List Int) (n : Nat) : Nat → Int
  | 0 => (n : Int) * (n - 1) / 2
  | m + 1 => min (bl prev row n m) (((m + 1 : Nat) : Int) + prev.getD (n - (m + 1)) 0 + row.getD (m + 1) 0)
def okrow (prev row : List Int) : Bool := (List.range 65).all fun n => bl prev row n (n - 1) == row.getD n 0
def okt : List (List Int) → Bool
  | a :: b :: r => okrow a b && okt (b :: r)
  | _ => true
theorem okt_tab : okt ((List.range 65).map R) = true := by decide +kernel
theorem okt_at : ∀ (l : List (List Int)) (k : Nat), okt l = true → k + 1 < l.length → okrow (l.getD k []) (l.getD (k + 1) []) = true
  | [], k, _, h => by simp at h
  | [a], k, _, h => by simp at h
  | a :: b :: r, 0, h, _ => by
    unfold okt at h
    rw [Bool.and_eq_true] at h
    exact h.1
  | a :: b :: r, k + 1, h, hk => by
    unfold okt at h
    rw [Bool.and_eq_true] at h
    exact okt_at (b :: r) k h.2 (by simpa using hk)
theorem R_get {s i : Nat} (h : i < 65) : (R s).getD i 0 = co i s := by
  simp [R, List.getD, h]
theorem rec_ok {k n : Nat} (hk : k + 1 < 65) (hn : n < 65) : bl (R k) (R (k + 1)) n (n - 1) = co n ((k + 1 : Nat) : Int) := by
  have h := okt_at _ k okt_tab (by simpa using hk)
  rw [show ((List.range 65).map R).getD k [] = R k by simp [List.getD, show k < 65 by omega], show ((List.range 65).map R).getD (k + 1) [] = R (k + 1) by simp [List.getD, hk]] at h
  have h2 := beq_iff_eq.1 (List.all_eq_true.1 h n (List.mem_range.2 hn))
  rw [h2, R_get hn]
theorem rec_zero {n : Nat} (hn : n < 65) : (n : Int) * (n - 1) / 2 = co n 0 := (co_ext (n := n) (s := 0) (by omega) (by omega) (by omega) (by omega)).1.symm
end Go.Proofs.Ytndmpoomdoojpaa.Ck
