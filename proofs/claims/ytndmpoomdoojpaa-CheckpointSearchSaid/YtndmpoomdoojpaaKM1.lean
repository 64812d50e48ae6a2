/- The binomial costs: plain mathematics, checked for every number of steps and slots. -/
import Derived.WalkKit
import Derived.ProofKit
import Derived.OpenShut
namespace Go.Proofs.Ytndmpoomdoojpaa.Ck
open Go.ChangeShapes Go.WideShapes Go.ChangeAt Go.RowKit
set_option linter.unusedVariables false

/-- The loop of Cost: rounds and reach, as long as the reach is less than the steps. -/
def lo (c n : Int) : Nat → Int → Int → Int × Int
  | 0, r, x => (r, x)
  | f + 1, r, x => if x < n then lo c n f (r + 1) (x * (c + (r + 1)) / (r + 1)) else (r, x)
def co (n s : Int) : Int := (lo (s + 1) n 65 0 1).1 * n - (lo (s + 1) n 65 0 1).2 * (lo (s + 1) n 65 0 1).1 / (s + 1 + 1)
/-- The loop of the reference's binomial. -/
def chl (d b : Int) : Nat → Int → Int → Int
  | 0, _, x => x
  | f + 1, i, x => if i ≤ b ∧ x ≤ 10000 then chl d b f (i + 1) (x * (d + i) / i) else x
def cho (a b : Int) : Int := chl (a - b) b 70 1 1
def lor (c n : Int) : Nat → Int → Int
  | 0, r => r
  | f + 1, r => if cho (c + r) r < n then lor c n f (r + 1) else r
def cr (n s : Int) : Int := if lor (s + 1) n 65 0 = 0 then 0 else lor (s + 1) n 65 0 * n - cho (s + 1 + lor (s + 1) n 65 0) (lor (s + 1) n 65 0 - 1)
theorem ck1_ok : ((List.range 65).all fun (s : Nat) => (List.range 65).all fun (n : Nat) => co n s == cr n s) = true := by decide +kernel
theorem ck2_ok : ((List.range 66).all fun (s : Nat) => decide (64 ≤ cho ((s : Int) + 1 + 64) 64)) = true := by decide +kernel
theorem ck3_ok : ((List.range 65).all fun (n : Nat) => co n 0 == (n : Int) * (n - 1) / 2 && (co n (max 0 ((n : Int) - 1)) == max 0 ((n : Int) - 1) && (List.range 64).all fun (s : Nat) => decide (co n ((s : Int) + 1) ≤ co n s) && (decide (co n s ≤ co n 0) && decide (co n (max 0 ((n : Int) - 1)) ≤ co n s)))) = true := by decide +kernel
theorem ck5_ok : ((List.range 65).all fun (s : Nat) => (List.range 65).all fun (n : Nat) => decide (0 ≤ co n s) && decide (co n s ≤ 2016)) = true := by decide +kernel
theorem nat_of {n : Int} (h0 : 0 ≤ n) (h : n ≤ 64) : ∃ m : Nat, (m : Int) = n ∧ m < 65 := ⟨n.toNat, by omega, by omega⟩
theorem co_cr {n s : Int} (h0 : 0 ≤ n) (h1 : n ≤ 64) (h2 : 0 ≤ s) (h3 : s ≤ 64) : co n s = cr n s := by
  obtain ⟨a, rfl, ha⟩ := nat_of h0 h1
  obtain ⟨b, rfl, hb⟩ := nat_of h2 h3
  exact beq_iff_eq.1 (List.all_eq_true.1 (List.all_eq_true.1 ck1_ok b (List.mem_range.2 hb)) a (List.mem_range.2 ha))
theorem co_bd {n s : Int} (h0 : 0 ≤ n) (h1 : n ≤ 64) (h2 : 0 ≤ s) (h3 : s ≤ 64) : 0 ≤ co n s ∧ co n s ≤ 2016 := by
  obtain ⟨a, rfl, ha⟩ := nat_of h0 h1
  obtain ⟨b, rfl, hb⟩ := nat_of h2 h3
  have := List.all_eq_true.1 (List.all_eq_true.1 ck5_ok b (List.mem_range.2 hb)) a (List.mem_range.2 ha)
  simpa using this
theorem cho_big {c : Int} (h0 : 1 ≤ c) (h : c ≤ 65) : 64 ≤ cho (c + 64) 64 := by
  have := of_decide_eq_true (List.all_eq_true.1 ck2_ok (c - 1).toNat (List.mem_range.2 (by omega)))
  rw [show (((c - 1).toNat : Nat) : Int) + 1 = c by omega] at this
  exact this
theorem co_ext {n s : Int} (h0 : 0 ≤ n) (h1 : n ≤ 64) (h2 : 0 ≤ s) (h3 : s ≤ 63) : co n 0 = n * (n - 1) / 2 ∧ co n (max 0 (n - 1)) = max 0 (n - 1) ∧ co n (s + 1) ≤ co n s ∧ co n s ≤ co n 0 ∧ co n (max 0 (n - 1)) ≤ co n s := by
  obtain ⟨a, rfl, ha⟩ := nat_of h0 h1
  have h := List.all_eq_true.1 ck3_ok a (List.mem_range.2 ha)
  simp only [Bool.and_eq_true] at h
  have h4 := List.all_eq_true.1 h.2.2 s.toNat (List.mem_range.2 (by omega))
  rw [Int.toNat_of_nonneg h2] at h4
  simp only [Bool.and_eq_true, decide_eq_true_eq] at h4
  exact ⟨beq_iff_eq.1 h.1, beq_iff_eq.1 h.2.1, h4.1, h4.2.1, h4.2.2⟩
theorem reach_step {c r x : Int} (hc : 1 ≤ c) (hr : 0 ≤ r) (hx : r + 1 ≤ x) : r + 2 ≤ x * (c + (r + 1)) / (r + 1) := by
  refine (Int.le_ediv_iff_mul_le (by omega)).2 ?_
  have h1 : (r + 1) * (r + 2) ≤ x * (c + (r + 1)) := Int.mul_le_mul hx (by omega) (by omega) (by omega)
  rw [Int.mul_comm]
  exact h1
end Go.Proofs.Ytndmpoomdoojpaa.Ck
