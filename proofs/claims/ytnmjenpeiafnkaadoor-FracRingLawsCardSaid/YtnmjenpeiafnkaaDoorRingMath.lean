/- Plain facts on lowest terms: what New returns depends on the quotient alone. -/
import Derived.Test.YtnmjenpeiafnkaaDoorFracNew
namespace Go.Proofs.YtnmjenpeiafnkaaDoor.Fr
set_option linter.unusedVariables false

theorem uniq (X Y n d : Int) (hY : 0 < Y) (hd : 0 < d) (hc : Int.gcd n d = 1) (h : X * d = n * Y) : ∃ k, 0 < k ∧ X = k * n ∧ Y = k * d := by
  have h1 : d.natAbs ∣ n.natAbs * Y.natAbs := by
    rw [← Int.natAbs_mul]
    exact Int.natAbs_dvd_natAbs.2 ⟨X, by rw [← h, Int.mul_comm]⟩
  have h2 : d.natAbs ∣ Y.natAbs := Nat.Coprime.dvd_of_dvd_mul_left (by rw [Nat.Coprime, Nat.gcd_comm]; exact hc) h1
  obtain ⟨k, hk⟩ := Int.natAbs_dvd_natAbs.1 h2
  have hk0 : 0 < k := by
    rcases (by omega : k ≤ 0 ∨ 0 < k) with h0 | h0
    · have := Int.mul_nonpos_of_nonneg_of_nonpos (by omega : 0 ≤ d) h0
      omega
    · exact h0
  refine ⟨k, hk0, ?_, by rw [hk, Int.mul_comm]⟩
  have h3 : X * d = k * n * d := by rw [h, hk]; grind
  exact Int.eq_of_mul_eq_mul_right (by omega) h3
/-- New at a multiple of a pair in lowest terms. -/
theorem new_mult (k n d : Int) (hk : 0 < k) (hd : 0 < d) (hc : Int.gcd n d = 1) :
    newN (k * n) (k * d) = (if 2147483647 < (if n < 0 then -n else n) ∨ 2147483647 < d then 0 else n) ∧
    newD (k * n) (k * d) = (if 2147483647 < (if n < 0 then -n else n) ∨ 2147483647 < d then 0 else d) ∧
    newE (k * n) (k * d) = (if 2147483647 < (if n < 0 then -n else n) ∨ 2147483647 < d then 3 else 0) := by
  have hkd : 0 < k * d := Int.mul_pos hk hd
  have hneg : k * n < 0 ↔ n < 0 := by
    constructor
    · intro h
      rcases (by omega : n < 0 ∨ 0 ≤ n) with h0 | h0
      · exact h0
      · have := Int.mul_nonneg (by omega : 0 ≤ k) h0; omega
    · intro h; exact Int.mul_neg_of_pos_of_neg hk h
  obtain ⟨m, hm, m0, hmc⟩ : ∃ m, (if n < 0 then -n else n) = m ∧ 0 ≤ m ∧ Int.gcd m d = 1 := by
    refine ⟨_, rfl, by split <;> omega, ?_⟩
    split
    · rw [Int.neg_gcd]; exact hc
    · exact hc
  have habs : (if k * n < 0 then -(k * n) else k * n) = k * m := by
    by_cases h : n < 0
    · rw [if_pos (hneg.2 h)]; rw [if_pos h] at hm; rw [← hm, Int.mul_neg]
    · rw [if_neg (fun h' => h (hneg.1 h'))]; rw [if_neg h] at hm; rw [← hm]
  have hg : (Int.gcd (k * m) (k * d) : Int) = k := by
    rw [Int.gcd_mul_left, hmc]; omega
  have q1 : k * m / k = m := Int.mul_ediv_cancel_left _ (by omega)
  have q2 : k * d / k = d := Int.mul_ediv_cancel_left _ (by omega)
  have hs : (decide (k * n < 0) != decide (k * d < 0)) = decide (n < 0) := by
    rw [decide_eq_false (by omega : ¬ k * d < 0)]
    simp [hneg]
  unfold newN newD newE
  have e0 : ¬ k * d = 0 := by omega
  have e1 : ¬ k * d < 0 := by omega
  rw [if_neg e0, if_neg e0, if_neg e0, habs, if_neg e1, hs, hm]
  unfold lowN lowD lowE
  rw [hg, q1, q2]
  refine ⟨?_, rfl, rfl⟩
  by_cases h : n < 0
  · rw [if_pos h] at hm
    simp only [decide_eq_true h, ↓reduceIte]
    split <;> omega
  · rw [if_neg h] at hm
    simp only [decide_eq_false h, Bool.false_eq_true, ↓reduceIte]
    split <;> omega
theorem lowest_of (X Y : Int) (hY : 0 < Y) : ∃ k n d, 0 < k ∧ 0 < d ∧ Int.gcd n d = 1 ∧ X = k * n ∧ Y = k * d := by
  have g0 : 0 < (Int.gcd X Y : Int) := by
    have : Int.gcd X Y ≠ 0 := by
      intro h; have := (Int.gcd_eq_zero_iff.1 h).2; omega
    omega
  have e1 := Int.mul_ediv_cancel' (Int.gcd_dvd_left X Y)
  have e2 := Int.mul_ediv_cancel' (Int.gcd_dvd_right X Y)
  refine ⟨(Int.gcd X Y : Int), X / (Int.gcd X Y : Int), Y / (Int.gcd X Y : Int), g0, ?_, ?_, e1.symm, e2.symm⟩
  · rcases (by omega : Y / (Int.gcd X Y : Int) ≤ 0 ∨ 0 < Y / (Int.gcd X Y : Int)) with h0 | h0
    · have := Int.mul_nonpos_of_nonneg_of_nonpos (by omega : 0 ≤ (Int.gcd X Y : Int)) h0
      omega
    · exact h0
  · rw [Int.gcd_ediv (Int.gcd_dvd_left X Y) (Int.gcd_dvd_right X Y), Int.natAbs_natCast, Nat.div_self (by omega)]
theorem new_same (X Y X' Y' : Int) (hY : 0 < Y) (hY' : 0 < Y') (h : X * Y' = X' * Y) : newN X Y = newN X' Y' ∧ newD X Y = newD X' Y' ∧ newE X Y = newE X' Y' := by
  obtain ⟨k, n, d, k0, d0, hc, rfl, rfl⟩ := lowest_of X Y hY
  have h2 : X' * d = n * Y' := by
    have : k * (X' * d) = k * (n * Y') := by grind
    exact Int.eq_of_mul_eq_mul_left (by omega) this
  obtain ⟨j, j0, rfl, rfl⟩ := uniq X' Y' n d hY' d0 hc h2
  obtain ⟨a1, a2, a3⟩ := new_mult k n d k0 d0 hc
  obtain ⟨b1, b2, b3⟩ := new_mult j n d j0 d0 hc
  exact ⟨a1.trans b1.symm, a2.trans b2.symm, a3.trans b3.symm⟩
theorem new_back (X Y n d : Int) (hY : 0 < Y) (hv : vld n d = true) (h : X * d = n * Y) : newN X Y = n ∧ newD X Y = d ∧ newE X Y = 0 := by
  obtain ⟨d0, d1, n0, n1, hc⟩ := vld_of hv
  obtain ⟨k, k0, rfl, rfl⟩ := uniq X Y n d hY (by omega) hc h
  obtain ⟨a1, a2, a3⟩ := new_mult k n d k0 (by omega) hc
  have hk : ¬ (2147483647 < (if n < 0 then -n else n) ∨ 2147483647 < d) := by split <;> omega
  rw [if_neg hk] at a1 a2 a3
  exact ⟨a1, a2, a3⟩
theorem new_red (X Y : Int) (hY : 0 < Y) (he : newE X Y = 0) : newN X Y * Y = X * newD X Y := by
  obtain ⟨k, n, d, k0, d0, hc, rfl, rfl⟩ := lowest_of X Y hY
  obtain ⟨a1, a2, a3⟩ := new_mult k n d k0 d0 hc
  have hk : ¬ (2147483647 < (if n < 0 then -n else n) ∨ 2147483647 < d) := by
    intro hk; rw [a3, if_pos hk] at he; revert he; decide
  rw [if_neg hk] at a1 a2
  rw [a1, a2]; grind
end Go.Proofs.YtnmjenpeiafnkaaDoor.Fr
