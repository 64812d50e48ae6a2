/- What Quantize and Residual answer, as plain facts. -/
import Derived.Test.YtnmjenpeiafnkabRes0
namespace Go.Proofs.Ytnmjenpeiafnkab.Fr
open Go.ChangeShapes Go.WideShapes Go.ChangeAt Go.RowKit
set_option linter.unusedVariables false

theorem qok_parts {n d frac how : Int} (h : qok n d frac how = true) : vld n d = true ∧ 0 ≤ frac ∧ frac ≤ 30 ∧ 1 ≤ how ∧ how ≤ 4 := by
  unfold qok mdv at h
  simp only [Bool.and_eq_true, Bool.not_eq_true', decide_eq_false_iff_not, decide_eq_true_eq] at h
  obtain ⟨⟨⟨a, b⟩, c⟩, d, e⟩ := h
  exact ⟨a, by omega, by omega, d, e⟩
theorem vld_parts {n d : Int} (h : vld n d = true) : 1 ≤ d ∧ d ≤ 2147483647 ∧ -2147483647 ≤ n ∧ n ≤ 2147483647 ∧ Int.gcd n d = 1 := by
  unfold vld at h
  simpa using h
theorem two_pow (frac : Int) (f0 : 0 ≤ frac) (f1 : frac ≤ 30) : 1 ≤ (2 : Int) ^ frac.toNat ∧ (2 : Int) ^ frac.toNat ≤ 1073741824 := by
  have h : frac.toNat ≤ 30 := by omega
  have h1 : 0 < (2 : Nat) ^ frac.toNat := Nat.pow_pos (by decide)
  have h2 : (2 : Nat) ^ frac.toNat ≤ 2 ^ 30 := Nat.pow_le_pow_right (by decide) h
  have h3 : ((2 : Nat) ^ frac.toNat : Nat) = (2 : Int) ^ frac.toNat := by push_cast; rfl
  rw [← h3]
  have h4 : (2 : Nat) ^ 30 = 1073741824 := by decide
  omega
/-- What Quantize and Residual answer where all is well: the quotient q, the error as a fraction of X and Y. -/
theorem facts (n d frac how : Int) (h : qok n d frac how = true) : ∃ p T q S X Y : Int, 0 ≤ frac ∧ frac ≤ 30 ∧ 1 ≤ how ∧ how ≤ 4 ∧ (2 : Int) ^ frac.toNat = p ∧ 1 ≤ p ∧ p ≤ 1073741824 ∧ n * p = T ∧ -2305843009213693952 ≤ T ∧ T ≤ 2305843009213693952 ∧
    q * d = S ∧ -2305843011361177600 ≤ S ∧ S ≤ 2305843011361177600 ∧ d * p = Y ∧ 1 ≤ Y ∧ Y ≤ 2305843009213693952 ∧ T - S = X ∧ Dv.dval how T d = q ∧ Dv.derr how T d = 0 ∧ 1 ≤ d ∧ d ≤ 2147483647 ∧ -d < X ∧ X < d ∧
      (how = 1 → 0 ≤ X) ∧ (how = 2 → X ≤ 0) ∧ (how = 4 → -d ≤ 2 * X ∧ 2 * X ≤ d) := by
  obtain ⟨hv, f0, f1, m0, m1⟩ := qok_parts h
  obtain ⟨d0, d1, n0, n1, _⟩ := vld_parts hv
  obtain ⟨p0, p1⟩ := two_pow frac f0 f1
  obtain ⟨p, hp⟩ : ∃ p, (2 : Int) ^ frac.toNat = p := ⟨_, rfl⟩
  rw [hp] at p0 p1
  obtain ⟨T, hT⟩ : ∃ T, n * p = T := ⟨_, rfl⟩
  obtain ⟨Y, hY⟩ : ∃ Y, d * p = Y := ⟨_, rfl⟩
  have t0 : -2305843009213693952 ≤ T := by
    have := Int.mul_le_mul_of_nonneg_right n0 (by omega : 0 ≤ p)
    rw [hT] at this; omega
  have t1 : T ≤ 2305843009213693952 := by
    have := Int.mul_le_mul_of_nonneg_right n1 (by omega : 0 ≤ p)
    rw [hT] at this; omega
  have y0 : 1 ≤ Y := by
    have := Int.mul_le_mul_of_nonneg_right d0 (by omega : 0 ≤ p)
    rw [hY] at this; omega
  have y1 : Y ≤ 2305843009213693952 := by
    have := Int.mul_le_mul_of_nonneg_right d1 (by omega : 0 ≤ p)
    rw [hY] at this; omega
  obtain ⟨e, q0, q1, x0, x1, m1', m2', m4'⟩ := qerr how T d m0 m1 d0 t0 t1
  obtain ⟨S, hS⟩ : ∃ S, Dv.dval how T d * d = S := ⟨_, rfl⟩
  rw [hS] at x0 x1 m1' m2' m4'
  exact ⟨p, T, _, S, T - S, Y, f0, f1, m0, m1, hp, p0, p1, hT, t0, t1, hS, by omega, by omega, hY, y0, y1, rfl, rfl, e, d0, d1, x0, x1, m1', m2', m4'⟩
end Go.Proofs.Ytnmjenpeiafnkab.Fr
