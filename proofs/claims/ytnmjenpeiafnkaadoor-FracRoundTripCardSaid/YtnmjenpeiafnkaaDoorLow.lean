/- lowest and New of package frac. -/
import Derived.Test.YtnmjenpeiafnkaaDoorGcd
namespace Go.Proofs.YtnmjenpeiafnkaaDoor.Fr
open Go.ChangeShapes Go.WideShapes Go.ChangeAt Go.RowKit
set_option linter.unusedVariables false

/-- A fraction of a sign and two magnitudes, in lowest terms: numerator, denominator, error. -/
def lowN (neg : Bool) (n d : Int) : Int := if 2147483647 < n / Int.gcd n d ∨ 2147483647 < d / Int.gcd n d then 0 else if neg then -(n / Int.gcd n d) else n / Int.gcd n d
def lowD (n d : Int) : Int := if 2147483647 < n / Int.gcd n d ∨ 2147483647 < d / Int.gcd n d then 0 else d / Int.gcd n d
def lowE (n d : Int) : Int := if 2147483647 < n / Int.gcd n d ∨ 2147483647 < d / Int.gcd n d then 3 else 0
abbrev Frac3 (a b c : Int) : Value := .tuple #[.agg #[.int .i64 a, .int .i64 b], .int .i64 c]
theorem gcd_facts (n d : Int) (hn : 0 ≤ n) (hd : 0 < d) : 0 < (Int.gcd n d : Int) ∧ (Int.gcd n d : Int) ≤ d ∧ 0 ≤ n / (Int.gcd n d : Int) ∧ n / (Int.gcd n d : Int) ≤ n ∧ 0 < d / (Int.gcd n d : Int) ∧ d / (Int.gcd n d : Int) ≤ d := by
  have h1 : 0 < (Int.gcd n d : Int) := by
    have : Int.gcd n d ≠ 0 := by
      intro h; have := (Int.gcd_eq_zero_iff.1 h).2; omega
    omega
  have h2 : (Int.gcd n d : Int) ∣ d := Int.gcd_dvd_right n d
  have h3 := Int.le_of_dvd hd h2
  refine ⟨h1, h3, Int.ediv_nonneg hn (by omega), Int.ediv_le_self _ hn, ?_, Int.ediv_le_self _ (by omega)⟩
  obtain ⟨c, hc⟩ := h2
  have hq : d / (Int.gcd n d : Int) = c := by
    have h5 := congrArg (fun x => x / (Int.gcd n d : Int)) hc
    simpa [Int.mul_ediv_cancel_left _ (by omega : (Int.gcd n d : Int) ≠ 0)] using h5
  rw [hq]
  by_cases hc0 : 0 < c
  · exact hc0
  · have : (Int.gcd n d : Int) * c ≤ 0 := Int.mul_nonpos_of_nonneg_of_nonpos (by omega) (by omega)
    omega
set_option maxHeartbeats 4000000 in
theorem low_any (neg : Bool) (n d : Int) (w : World) (n0 : 0 ≤ n) (n1 : n ≤ 9223372036854775808) (d0 : 1 ≤ d) (d1 : d ≤ 9223372036854775808) :
    Calls Tryd.prog 39 #[.bool neg, .int .u64 n, .int .u64 d] w (Ret (Frac3 (lowN neg n d) (lowD n d) (lowE n d)) w) := by
  obtain ⟨g0, g1, q0, q1, r0, r1⟩ := gcd_facts n d n0 (by omega)
  obtain ⟨b, hb⟩ : ∃ b, decide (2147483647 < n / (Int.gcd n d : Int) ∨ 2147483647 < d / (Int.gcd n d : Int)) = b := ⟨_, rfl⟩
  have HN : lowN neg n d = if b then 0 else if neg then -(n / (Int.gcd n d : Int)) else n / (Int.gcd n d : Int) := by unfold lowN; subst hb; simp
  have HD : lowD n d = if b then 0 else d / (Int.gcd n d : Int) := by unfold lowD; subst hb; simp
  have HE : lowE n d = if b then 3 else 0 := by unfold lowE; subst hb; simp
  rw [HN, HD, HE]
  clear HN HD HE
  obtain ⟨q, hq⟩ : ∃ q, n / (Int.gcd n d : Int) = q := ⟨_, rfl⟩
  obtain ⟨r, hr⟩ : ∃ r, d / (Int.gcd n d : Int) = r := ⟨_, rfl⟩
  rw [hq] at q0 q1 hb ⊢
  rw [hr] at r0 r1 hb ⊢
  have gz : ((Int.gcd n d : Int) == 0) = false := by simp; omega
  obtain ⟨x, y, hx, hy, hxy⟩ : ∃ x y, decide (2147483647 < q) = x ∧ decide (2147483647 < r) = y ∧ (x || y) = b := ⟨_, _, rfl, rfl, by rw [← hb]; simp⟩
  clear hb
  have hx2 : x = false → q ≤ 2147483647 := fun h => by rw [h] at hx; simpa using hx
  have hy2 : y = false → r ≤ 2147483647 := fun h => by rw [h] at hy; simpa using hy
  cases x <;> cases y <;> simp only [Bool.or_false, Bool.or_true] at hxy <;> subst hxy
  all_goals cases neg
  all_goals
    try simp only [Bool.false_eq_true, ↓reduceIte]
    try have hx3 := hx2 rfl
    try have hy3 := hy2 rfl
    clear hx2 hy2
    go_enter Tryd.func39, Tryd.ntmps39
    go_wp2_with (go_at_call 43; refine (fgcd _ _ _ (by omega) (by omega) (by omega) (by omega)).mono ?_; rintro e w1 ⟨rfl, k, rfl⟩)
    go_quiet (fail)
    go_wp2
    go_returns
    refine ⟨rfl, ?_⟩
    repeat' (first | (with_reducible exact Below.refl _ _) | (with_reducible refine below_drewN ?_ _) | (with_reducible refine Below.drew ?_) | (with_reducible refine Below.alloc ?_ ?_ _) | (with_reducible refine Below.setCell ?_ ?_ _) | (with_reducible assumption) | (simp; done) | (simp; omega) | omega)
end Go.Proofs.YtnmjenpeiafnkaaDoor.Fr
