/- Plain facts on Go's quotient and remainder of integers, and the rounded quotient as a plain function. -/


namespace Go.Proofs.YtikcinkbkakkmaaGreatDoor.Plain

set_option linter.unusedVariables false
set_option linter.unusedSimpArgs false
theorem tfacts (n d : Int) (hd : d ≠ 0) :
    (n.tmod d).natAbs < d.natAbs ∧ (n.tdiv d).natAbs ≤ n.natAbs ∧ (n.tmod d ≠ 0 → 2 * (n.tdiv d).natAbs ≤ n.natAbs) ∧
    (0 < n.tmod d → 0 < n) ∧ (n.tmod d < 0 → n < 0) := by
  have hr : (n.tmod d).natAbs = n.natAbs % d.natAbs := by simp
  have hq : (n.tdiv d).natAbs = n.natAbs / d.natAbs := by rw [Int.natAbs_tdiv]; rfl
  have hdp : 0 < d.natAbs := by omega
  have hlt := Nat.mod_lt n.natAbs hdp
  refine ⟨by omega, by rw [hq]; exact Nat.div_le_self _ _, ?_, ?_, ?_⟩
  · intro h
    have h2 : 2 ≤ d.natAbs := by
      by_cases h1 : d.natAbs = 1
      · rw [h1, Nat.mod_one] at hr; omega
      · omega
    rw [hq]
    have h3 := Nat.div_mul_le_self n.natAbs d.natAbs
    have h4 := Nat.mul_le_mul_left (n.natAbs / d.natAbs) h2
    omega
  · intro h
    by_cases hn : n ≤ 0
    · have := Int.tmod_nonneg (-d) (a := -n) (by omega)
      rw [Int.neg_tmod, Int.tmod_neg] at this; omega
    · omega
  · intro h
    by_cases hn : 0 ≤ n
    · have := Int.tmod_nonneg d hn; omega
    · omega

theorem natAbs_div (n d : Int) : (n.tdiv d).natAbs = n.natAbs / d.natAbs := by rw [Int.natAbs_tdiv]; rfl

theorem tsign (n d : Int) :
    (0 < n → 0 < d → 0 ≤ n.tdiv d) ∧ (n < 0 → d < 0 → 0 ≤ n.tdiv d) ∧ (0 < n → d < 0 → n.tdiv d ≤ 0) ∧ (n < 0 → 0 < d → n.tdiv d ≤ 0) := by
  refine ⟨fun a b => Int.tdiv_nonneg (by omega) (by omega), fun a b => ?_, fun a b => ?_, fun a b => ?_⟩
  · have := Int.tdiv_nonneg (a := -n) (b := -d) (by omega) (by omega)
    rwa [Int.neg_tdiv, Int.tdiv_neg, Int.neg_neg] at this
  · have := Int.tdiv_nonneg (a := n) (b := -d) (by omega) (by omega)
    rw [Int.tdiv_neg] at this; omega
  · have := Int.tdiv_nonneg (a := -n) (b := d) (by omega) (by omega)
    rw [Int.neg_tdiv] at this; omega

theorem even_iff (q : Int) : q.tmod 2 = 0 ↔ q % 2 = 0 := by
  rw [← Int.dvd_iff_tmod_eq_zero, Int.dvd_iff_emod_eq_zero]

/-- The rounded quotient where it is defined: 1 down, 2 up, 3 toward zero, 4 to nearest, ties to even; q and r are Go's quotient and remainder. -/
def rnd (how q r d : Int) : Int :=
  if r = 0 then q
  else if how = 3 then q
  else if how = 1 then (if (r < 0 ↔ d < 0) then q else q - 1)
  else if how = 2 then (if (r < 0 ↔ d < 0) then q + 1 else q)
  else if 2 * (if r < 0 then -r else r) < (if d < 0 then -d else d) then q
  else if 2 * (if r < 0 then -r else r) = (if d < 0 then -d else d) ∧ q % 2 = 0 then q
  else (if (r < 0 ↔ d < 0) then q + 1 else q - 1)

theorem rnd1_pp (q r d : Int) (b3 : 0 < r) (b4 : r < d) : rnd 1 q r d = q := by
  unfold rnd; (repeat' split) <;> omega
theorem rnd2_pp (q r d : Int) (b3 : 0 < r) (b4 : r < d) : rnd 2 q r d = q + 1 := by
  unfold rnd; (repeat' split) <;> omega
theorem rnd3_pp (q r d : Int) (b3 : 0 < r) (b4 : r < d) : rnd 3 q r d = q := by
  unfold rnd; (repeat' split) <;> omega
theorem rnd4_pp_lt (q r d : Int) (b3 : 0 < r) (b4 : r < d) (t : r < d - r) : rnd 4 q r d = q := by
  unfold rnd; (repeat' split) <;> omega
theorem rnd4_pp_ev (q r d : Int) (b3 : 0 < r) (b4 : r < d) (t : r = d - r) (e : q % 2 = 0) : rnd 4 q r d = q := by
  unfold rnd; (repeat' split) <;> omega
theorem rnd4_pp_od (q r d : Int) (b3 : 0 < r) (b4 : r < d) (t : r = d - r) (e : q % 2 = 1) : rnd 4 q r d = q + 1 := by
  unfold rnd; (repeat' split) <;> omega
theorem rnd4_pp_gt (q r d : Int) (b3 : 0 < r) (b4 : r < d) (t : d - r < r) : rnd 4 q r d = q + 1 := by
  unfold rnd; (repeat' split) <;> omega
theorem rnd1_np (q r d : Int) (b3 : r < 0) (b4 : -r < d) : rnd 1 q r d = (q - 1) := by
  unfold rnd; (repeat' split) <;> omega
theorem rnd2_np (q r d : Int) (b3 : r < 0) (b4 : -r < d) : rnd 2 q r d = (q - 1) + 1 := by
  unfold rnd; (repeat' split) <;> omega
theorem rnd3_np (q r d : Int) (b3 : r < 0) (b4 : -r < d) : rnd 3 q r d = q := by
  unfold rnd; (repeat' split) <;> omega
theorem rnd4_np_lt (q r d : Int) (b3 : r < 0) (b4 : -r < d) (t : (r + d) < d - (r + d)) : rnd 4 q r d = (q - 1) := by
  unfold rnd; (repeat' split) <;> omega
theorem rnd4_np_ev (q r d : Int) (b3 : r < 0) (b4 : -r < d) (t : (r + d) = d - (r + d)) (e : (q - 1) % 2 = 0) : rnd 4 q r d = (q - 1) := by
  unfold rnd; (repeat' split) <;> omega
theorem rnd4_np_od (q r d : Int) (b3 : r < 0) (b4 : -r < d) (t : (r + d) = d - (r + d)) (e : (q - 1) % 2 = 1) : rnd 4 q r d = (q - 1) + 1 := by
  unfold rnd; (repeat' split) <;> omega
theorem rnd4_np_gt (q r d : Int) (b3 : r < 0) (b4 : -r < d) (t : d - (r + d) < (r + d)) : rnd 4 q r d = (q - 1) + 1 := by
  unfold rnd; (repeat' split) <;> omega
theorem rnd1_nn (q r d : Int) (b3 : r < 0) (b4 : d < r) : rnd 1 q r d = q := by
  unfold rnd; (repeat' split) <;> omega
theorem rnd2_nn (q r d : Int) (b3 : r < 0) (b4 : d < r) : rnd 2 q r d = q + 1 := by
  unfold rnd; (repeat' split) <;> omega
theorem rnd3_nn (q r d : Int) (b3 : r < 0) (b4 : d < r) : rnd 3 q r d = q := by
  unfold rnd; (repeat' split) <;> omega
theorem rnd4_nn_lt (q r d : Int) (b3 : r < 0) (b4 : d < r) (t : (-r) < (-d) - (-r)) : rnd 4 q r d = q := by
  unfold rnd; (repeat' split) <;> omega
theorem rnd4_nn_ev (q r d : Int) (b3 : r < 0) (b4 : d < r) (t : (-r) = (-d) - (-r)) (e : q % 2 = 0) : rnd 4 q r d = q := by
  unfold rnd; (repeat' split) <;> omega
theorem rnd4_nn_od (q r d : Int) (b3 : r < 0) (b4 : d < r) (t : (-r) = (-d) - (-r)) (e : q % 2 = 1) : rnd 4 q r d = q + 1 := by
  unfold rnd; (repeat' split) <;> omega
theorem rnd4_nn_gt (q r d : Int) (b3 : r < 0) (b4 : d < r) (t : (-d) - (-r) < (-r)) : rnd 4 q r d = q + 1 := by
  unfold rnd; (repeat' split) <;> omega
theorem rnd1_pn (q r d : Int) (b3 : 0 < r) (b4 : r < -d) : rnd 1 q r d = (q - 1) := by
  unfold rnd; (repeat' split) <;> omega
theorem rnd2_pn (q r d : Int) (b3 : 0 < r) (b4 : r < -d) : rnd 2 q r d = (q - 1) + 1 := by
  unfold rnd; (repeat' split) <;> omega
theorem rnd3_pn (q r d : Int) (b3 : 0 < r) (b4 : r < -d) : rnd 3 q r d = q := by
  unfold rnd; (repeat' split) <;> omega
theorem rnd4_pn_lt (q r d : Int) (b3 : 0 < r) (b4 : r < -d) (t : (-(r + d)) < (-d) - (-(r + d))) : rnd 4 q r d = (q - 1) := by
  unfold rnd; (repeat' split) <;> omega
theorem rnd4_pn_ev (q r d : Int) (b3 : 0 < r) (b4 : r < -d) (t : (-(r + d)) = (-d) - (-(r + d))) (e : (q - 1) % 2 = 0) : rnd 4 q r d = (q - 1) := by
  unfold rnd; (repeat' split) <;> omega
theorem rnd4_pn_od (q r d : Int) (b3 : 0 < r) (b4 : r < -d) (t : (-(r + d)) = (-d) - (-(r + d))) (e : (q - 1) % 2 = 1) : rnd 4 q r d = (q - 1) + 1 := by
  unfold rnd; (repeat' split) <;> omega
theorem rnd4_pn_gt (q r d : Int) (b3 : 0 < r) (b4 : r < -d) (t : (-d) - (-(r + d)) < (-(r + d))) : rnd 4 q r d = (q - 1) + 1 := by
  unfold rnd; (repeat' split) <;> omega
end Go.Proofs.YtikcinkbkakkmaaGreatDoor.Plain
