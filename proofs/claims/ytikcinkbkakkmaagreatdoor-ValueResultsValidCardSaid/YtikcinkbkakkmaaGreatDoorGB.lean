/- lowest and New of package frac. -/
import Derived.Test.YtikcinkbkakkmaaGreatDoorGcd
import Derived.Deep.RegionHeld3
import Derived.Deep.RegionWith

namespace Go.Proofs.YtikcinkbkakkmaaGreatDoor.Fr
open Go.ChangeShapes Go.WideShapes Go.ChangeAt Go.RowKit
set_option linter.unusedVariables false
set_option linter.unusedSimpArgs false
/-- A fraction of a sign and two magnitudes, in lowest terms: numerator, denominator, error. -/
def lowN (neg : Bool) (n d : Int) : Int := if 2147483647 < n / Int.gcd n d ∨ 2147483647 < d / Int.gcd n d then 0 else if neg then -(n / Int.gcd n d) else n / Int.gcd n d
def lowD (n d : Int) : Int := if 2147483647 < n / Int.gcd n d ∨ 2147483647 < d / Int.gcd n d then 0 else d / Int.gcd n d
def lowE (n d : Int) : Int := if 2147483647 < n / Int.gcd n d ∨ 2147483647 < d / Int.gcd n d then 3 else 0
abbrev Frac3 (a b c : Int) : Value := .tuple #[.agg #[.int .i64 a, .int .i64 b], .int .i64 c]
theorem gcd_facts (n d : Int) (hn : 0 ≤ n) (hd : 0 < d) : 0 < (Int.gcd n d : Int) ∧ (Int.gcd n d : Int) ≤ d ∧ 0 ≤ n / (Int.gcd n d : Int) ∧ n / (Int.gcd n d : Int) ≤ n ∧ 0 < d / (Int.gcd n d : Int) ∧ d / (Int.gcd n d : Int) ≤ d := by
  have h1 : 0 < (Int.gcd n d : Int) := by
    have : Int.gcd n d ≠ 0 := by
      intro h; have := (Int.gcd_eq_zero_iff.1 h).2; omega
    omega
  have h2 : (Int.gcd n d : Int) ∣ d := Int.gcd_dvd_right n d
  have h3 := Int.le_of_dvd hd h2
  refine ⟨h1, h3, Int.ediv_nonneg hn (by omega), Int.ediv_le_self _ hn, ?_, Int.ediv_le_self _ (by omega)⟩
  obtain ⟨c, hc⟩ := h2
  have hq : d / (Int.gcd n d : Int) = c := by
    have h5 := congrArg (fun x => x / (Int.gcd n d : Int)) hc
    simpa [Int.mul_ediv_cancel_left _ (by omega : (Int.gcd n d : Int) ≠ 0)] using h5
  rw [hq]
  by_cases hc0 : 0 < c
  · exact hc0
  · have : (Int.gcd n d : Int) * c ≤ 0 := Int.mul_nonpos_of_nonneg_of_nonpos (by omega) (by omega)
    omega
set_option maxHeartbeats 4000000 in
theorem low_any (neg : Bool) (n d : Int) (w : World) (n0 : 0 ≤ n) (n1 : n ≤ 9223372036854775808) (d0 : 1 ≤ d) (d1 : d ≤ 9223372036854775808) :
    Calls Tryz.prog 118 #[.bool neg, .int .u64 n, .int .u64 d] w (Ret (Frac3 (lowN neg n d) (lowD n d) (lowE n d)) w) := by
  obtain ⟨g0, g1, q0, q1, r0, r1⟩ := gcd_facts n d n0 (by omega)
  obtain ⟨b, hb⟩ : ∃ b, decide (2147483647 < n / (Int.gcd n d : Int) ∨ 2147483647 < d / (Int.gcd n d : Int)) = b := ⟨_, rfl⟩
  have HN : lowN neg n d = if b then 0 else if neg then -(n / (Int.gcd n d : Int)) else n / (Int.gcd n d : Int) := by unfold lowN; subst hb; simp
  have HD : lowD n d = if b then 0 else d / (Int.gcd n d : Int) := by unfold lowD; subst hb; simp
  have HE : lowE n d = if b then 3 else 0 := by unfold lowE; subst hb; simp
  rw [HN, HD, HE]
  clear HN HD HE
  obtain ⟨q, hq⟩ : ∃ q, n / (Int.gcd n d : Int) = q := ⟨_, rfl⟩
  obtain ⟨r, hr⟩ : ∃ r, d / (Int.gcd n d : Int) = r := ⟨_, rfl⟩
  rw [hq] at q0 q1 hb ⊢
  rw [hr] at r0 r1 hb ⊢
  have gz : ((Int.gcd n d : Int) == 0) = false := by simp; omega
  obtain ⟨x, y, hx, hy, hxy⟩ : ∃ x y, decide (2147483647 < q) = x ∧ decide (2147483647 < r) = y ∧ (x || y) = b := ⟨_, _, rfl, rfl, by rw [← hb]; simp⟩
  clear hb
  have hx2 : x = false → q ≤ 2147483647 := fun h => by rw [h] at hx; simpa using hx
  have hy2 : y = false → r ≤ 2147483647 := fun h => by rw [h] at hy; simpa using hy
  cases x <;> cases y <;> simp only [Bool.or_false, Bool.or_true] at hxy <;> subst hxy
  all_goals cases neg
  all_goals
    try simp only [Bool.false_eq_true, ↓reduceIte]
    try have hx3 := hx2 rfl
    try have hy3 := hy2 rfl
    clear hx2 hy2
    go_enter Tryz.func118, Tryz.ntmps118
    go_wp2_with (go_at_call 95; refine (fgcd _ _ _ (by omega) (by omega) (by omega) (by omega)).mono ?_; rintro e w1 ⟨rfl, k, rfl⟩)
    go_quiet (fail)
    go_wp2
    go_returns
    refine ⟨rfl, ?_⟩
    repeat' (first | (with_reducible exact Below.refl _ _) | (with_reducible refine below_drewN ?_ _) | (with_reducible refine Below.drew ?_) | (with_reducible refine Below.alloc ?_ ?_ _) | (with_reducible refine Below.setCell ?_ ?_ _) | (with_reducible assumption) | (simp; done) | (simp; omega) | omega)
end Go.Proofs.YtikcinkbkakkmaaGreatDoor.Fr


namespace Go.Proofs.YtikcinkbkakkmaaGreatDoor.Fr
open Go.ChangeShapes Go.WideShapes Go.ChangeAt Go.RowKit
set_option linter.unusedVariables false
set_option linter.unusedSimpArgs false
def newN (n d : Int) : Int := if d = 0 then 0 else lowN (decide (n < 0) != decide (d < 0)) (if n < 0 then -n else n) (if d < 0 then -d else d)
def newD (n d : Int) : Int := if d = 0 then 0 else lowD (if n < 0 then -n else n) (if d < 0 then -d else d)
def newE (n d : Int) : Int := if d = 0 then 4 else lowE (if n < 0 then -n else n) (if d < 0 then -d else d)
set_option maxHeartbeats 4000000 in
theorem new_any (n d : Int) (w : World) (n0 : -9223372036854775808 ≤ n) (n1 : n ≤ 9223372036854775807) (d0 : -9223372036854775808 ≤ d) (d1 : d ≤ 9223372036854775807) :
    Calls Tryz.prog 97 #[.int .i64 n, .int .i64 d] w (Ret (Frac3 (newN n d) (newD n d) (newE n d)) w) := by
  by_cases hd : d = 0
  · subst hd
    have e1 : newN n 0 = 0 := rfl
    have e2 : newD n 0 = 0 := rfl
    have e3 : newE n 0 = 4 := rfl
    rw [e1, e2, e3]
    clear e1 e2 e3
    go_enter Tryz.func97, Tryz.ntmps97
    go_wp2
    go_returns
    refine ⟨rfl, ?_⟩
    repeat' (first | (with_reducible exact Below.refl _ _) | (with_reducible refine below_drewN ?_ _) | (with_reducible refine Below.drew ?_) | (with_reducible refine Below.alloc ?_ ?_ _) | (with_reducible refine Below.setCell ?_ ?_ _) | (with_reducible assumption) | (simp; done) | (simp; omega) | omega)
  · have hz : (d == 0) = false := by simpa using hd
    obtain ⟨x, y, hx, hy⟩ : ∃ x y, decide (n < 0) = x ∧ decide (d < 0) = y := ⟨_, _, rfl, rfl⟩
    obtain ⟨m, hm, m0, m1⟩ : ∃ m, (if n < 0 then -n else n) = m ∧ 0 ≤ m ∧ m ≤ 9223372036854775808 := ⟨_, rfl, by split <;> omega, by split <;> omega⟩
    obtain ⟨c, hc, c0, c1⟩ : ∃ c, (if d < 0 then -d else d) = c ∧ 1 ≤ c ∧ c ≤ 9223372036854775808 := ⟨_, rfl, by split <;> omega, by split <;> omega⟩
    have e1 : newN n d = lowN (x != y) m c := by unfold newN; rw [if_neg hd, hx, hy, hm, hc]
    have e2 : newD n d = lowD m c := by unfold newD; rw [if_neg hd, hm, hc]
    have e3 : newE n d = lowE m c := by unfold newE; rw [if_neg hd, hm, hc]
    rw [e1, e2, e3]
    have hx1 : x = true → n < 0 ∧ m = -n := fun h => by
      have h1 : n < 0 := by rw [h] at hx; simpa using hx
      exact ⟨h1, by rw [if_pos h1] at hm; exact hm.symm⟩
    have hx2 : x = false → 0 ≤ n ∧ m = n := fun h => by
      have h1 : 0 ≤ n := by rw [h] at hx; simpa using hx
      exact ⟨h1, by rw [if_neg (by omega)] at hm; exact hm.symm⟩
    have hy1 : y = true → d < 0 ∧ c = -d := fun h => by
      have h1 : d < 0 := by rw [h] at hy; simpa using hy
      exact ⟨h1, by rw [if_pos h1] at hc; exact hc.symm⟩
    have hy2 : y = false → 0 < d ∧ c = d := fun h => by
      have h1 : 0 ≤ d := by rw [h] at hy; simpa using hy
      exact ⟨by omega, by rw [if_neg (by omega)] at hc; exact hc.symm⟩
    have LW := Lib.hid (fun b (w : World) => low_any b m c w m0 m1 c0 c1)
    clear e1 e2 e3 hm hc
    cases x <;> cases y
    all_goals
      (first | obtain ⟨h1, rfl⟩ := hx1 rfl | obtain ⟨h1, rfl⟩ := hx2 rfl)
      (first | obtain ⟨h2, rfl⟩ := hy1 rfl | obtain ⟨h2, rfl⟩ := hy2 rfl)
      clear hx1 hx2 hy1 hy2
      go_enter Tryz.func97, Tryz.ntmps97
      go_wp2_with (first | (go_at_call 96; refine (fmag_pos _ _ (by omega) (by omega)).mono ?_; rintro e w1 ⟨rfl, rfl⟩) | (go_at_call 96; refine (fmag_neg _ _ (by omega) (by omega)).mono ?_; rintro e w1 ⟨rfl, rfl⟩) | (go_at_call 118; refine (LW.out _ _).mono ?_; rintro e w1 ⟨rfl, hb⟩; have hc := (bcell hb).1; have hf := (bcell hb).2))
      refine bodyPost_ret (v := Frac3 _ _ _) (by simp [results, Tryz.results97, go_sem, hc]) rfl ⟨rfl, ?_⟩
      refine Below.setCell (Below.setCell ?_ (by simp) _) (by simp) _
      exact ((Below.refl _ _).alloc (Nat.le_refl _) _).trans (hb.mono (by simp))
end Go.Proofs.YtikcinkbkakkmaaGreatDoor.Fr


namespace Go.Proofs.YtikcinkbkakkmaaGreatDoor.Fr
open Go.ChangeShapes Go.WideShapes Go.ChangeAt Go.RowKit
set_option linter.unusedVariables false
set_option linter.unusedSimpArgs false
theorem new_valid (n d : Int) (h : newE n d = 0) : vld (newN n d) (newD n d) = true := by
  have hd : d ≠ 0 := by
    intro h0; subst h0; revert h; unfold newE; rw [if_pos rfl]; decide
  unfold newE at h
  rw [if_neg hd] at h
  unfold newN newD
  rw [if_neg hd, if_neg hd]
  obtain ⟨m, hm, m0⟩ : ∃ m, (if n < 0 then -n else n) = m ∧ 0 ≤ m := ⟨_, rfl, by split <;> omega⟩
  obtain ⟨c, hc, c0⟩ : ∃ c, (if d < 0 then -d else d) = c ∧ 0 < c := ⟨_, rfl, by split <;> omega⟩
  rw [hm, hc] at h ⊢
  generalize (decide (n < 0) != decide (d < 0)) = s
  obtain ⟨g0, g1, a0, a1, b0, b1⟩ := gcd_facts m c m0 c0
  have hcop : Int.gcd (m / (Int.gcd m c : Int)) (c / (Int.gcd m c : Int)) = 1 := by
    rw [Int.gcd_ediv (Int.gcd_dvd_left m c) (Int.gcd_dvd_right m c), Int.natAbs_natCast, Nat.div_self (by omega)]
  unfold lowE at h
  unfold lowN lowD
  have hk : ¬ (2147483647 < m / (Int.gcd m c : Int) ∨ 2147483647 < c / (Int.gcd m c : Int)) := by
    intro hk; rw [if_pos hk] at h; revert h; decide
  rw [if_neg hk, if_neg hk]
  unfold vld
  rw [decide_eq_true_eq]
  cases s
  · exact ⟨by omega, by omega, by simp only [Bool.false_eq_true, ↓reduceIte]; omega, by simp only [Bool.false_eq_true, ↓reduceIte]; omega, by simpa using hcop⟩
  · exact ⟨by omega, by omega, by simp only [↓reduceIte]; omega, by simp only [↓reduceIte]; omega, by simp only [↓reduceIte]; rw [Int.neg_gcd]; exact hcop⟩

end Go.Proofs.YtikcinkbkakkmaaGreatDoor.Fr
