/- Plain facts on lowest terms: what New returns depends on the quotient alone. -/
import Derived.Test.YtikcinkbkakkmaaGreatDoorGB
import Derived.Test.YtikcinkbkakkmaaGreatDoorFlo
import Derived.Test.YtikcinkbkakkmaaGreatDoorGJ
import Derived.Test.YtikcinkbkakkmaaGreatDoorCmp
import Derived.Test.YtikcinkbkakkmaaGreatDoorGL

namespace Go.Proofs.YtikcinkbkakkmaaGreatDoor.Fr

set_option linter.unusedVariables false
set_option linter.unusedSimpArgs false
theorem uniq (X Y n d : Int) (hY : 0 < Y) (hd : 0 < d) (hc : Int.gcd n d = 1) (h : X * d = n * Y) : ∃ k, 0 < k ∧ X = k * n ∧ Y = k * d := by
  have h1 : d.natAbs ∣ n.natAbs * Y.natAbs := by
    rw [← Int.natAbs_mul]
    exact Int.natAbs_dvd_natAbs.2 ⟨X, by rw [← h, Int.mul_comm]⟩
  have h2 : d.natAbs ∣ Y.natAbs := Nat.Coprime.dvd_of_dvd_mul_left (by rw [Nat.Coprime, Nat.gcd_comm]; exact hc) h1
  obtain ⟨k, hk⟩ := Int.natAbs_dvd_natAbs.1 h2
  have hk0 : 0 < k := by
    rcases (by omega : k ≤ 0 ∨ 0 < k) with h0 | h0
    · have := Int.mul_nonpos_of_nonneg_of_nonpos (by omega : 0 ≤ d) h0
      omega
    · exact h0
  refine ⟨k, hk0, ?_, by rw [hk, Int.mul_comm]⟩
  have h3 : X * d = k * n * d := by rw [h, hk]; grind
  exact Int.eq_of_mul_eq_mul_right (by omega) h3
/-- New at a multiple of a pair in lowest terms. -/
theorem new_mult (k n d : Int) (hk : 0 < k) (hd : 0 < d) (hc : Int.gcd n d = 1) :
    newN (k * n) (k * d) = (if 2147483647 < (if n < 0 then -n else n) ∨ 2147483647 < d then 0 else n) ∧
    newD (k * n) (k * d) = (if 2147483647 < (if n < 0 then -n else n) ∨ 2147483647 < d then 0 else d) ∧
    newE (k * n) (k * d) = (if 2147483647 < (if n < 0 then -n else n) ∨ 2147483647 < d then 3 else 0) := by
  have hkd : 0 < k * d := Int.mul_pos hk hd
  have hneg : k * n < 0 ↔ n < 0 := by
    constructor
    · intro h
      rcases (by omega : n < 0 ∨ 0 ≤ n) with h0 | h0
      · exact h0
      · have := Int.mul_nonneg (by omega : 0 ≤ k) h0; omega
    · intro h; exact Int.mul_neg_of_pos_of_neg hk h
  obtain ⟨m, hm, m0, hmc⟩ : ∃ m, (if n < 0 then -n else n) = m ∧ 0 ≤ m ∧ Int.gcd m d = 1 := by
    refine ⟨_, rfl, by split <;> omega, ?_⟩
    split
    · rw [Int.neg_gcd]; exact hc
    · exact hc
  have habs : (if k * n < 0 then -(k * n) else k * n) = k * m := by
    by_cases h : n < 0
    · rw [if_pos (hneg.2 h)]; rw [if_pos h] at hm; rw [← hm, Int.mul_neg]
    · rw [if_neg (fun h' => h (hneg.1 h'))]; rw [if_neg h] at hm; rw [← hm]
  have hg : (Int.gcd (k * m) (k * d) : Int) = k := by
    rw [Int.gcd_mul_left, hmc]; omega
  have q1 : k * m / k = m := Int.mul_ediv_cancel_left _ (by omega)
  have q2 : k * d / k = d := Int.mul_ediv_cancel_left _ (by omega)
  have hs : (decide (k * n < 0) != decide (k * d < 0)) = decide (n < 0) := by
    rw [decide_eq_false (by omega : ¬ k * d < 0)]
    simp [hneg]
  unfold newN newD newE
  have e0 : ¬ k * d = 0 := by omega
  have e1 : ¬ k * d < 0 := by omega
  rw [if_neg e0, if_neg e0, if_neg e0, habs, if_neg e1, hs, hm]
  unfold lowN lowD lowE
  rw [hg, q1, q2]
  refine ⟨?_, rfl, rfl⟩
  by_cases h : n < 0
  · rw [if_pos h] at hm
    simp only [decide_eq_true h, ↓reduceIte]
    split <;> omega
  · rw [if_neg h] at hm
    simp only [decide_eq_false h, Bool.false_eq_true, ↓reduceIte]
    split <;> omega
theorem lowest_of (X Y : Int) (hY : 0 < Y) : ∃ k n d, 0 < k ∧ 0 < d ∧ Int.gcd n d = 1 ∧ X = k * n ∧ Y = k * d := by
  have g0 : 0 < (Int.gcd X Y : Int) := by
    have : Int.gcd X Y ≠ 0 := by
      intro h; have := (Int.gcd_eq_zero_iff.1 h).2; omega
    omega
  have e1 := Int.mul_ediv_cancel' (Int.gcd_dvd_left X Y)
  have e2 := Int.mul_ediv_cancel' (Int.gcd_dvd_right X Y)
  refine ⟨(Int.gcd X Y : Int), X / (Int.gcd X Y : Int), Y / (Int.gcd X Y : Int), g0, ?_, ?_, e1.symm, e2.symm⟩
  · rcases (by omega : Y / (Int.gcd X Y : Int) ≤ 0 ∨ 0 < Y / (Int.gcd X Y : Int)) with h0 | h0
    · have := Int.mul_nonpos_of_nonneg_of_nonpos (by omega : 0 ≤ (Int.gcd X Y : Int)) h0
      omega
    · exact h0
  · rw [Int.gcd_ediv (Int.gcd_dvd_left X Y) (Int.gcd_dvd_right X Y), Int.natAbs_natCast, Nat.div_self (by omega)]
theorem new_same (X Y X' Y' : Int) (hY : 0 < Y) (hY' : 0 < Y') (h : X * Y' = X' * Y) : newN X Y = newN X' Y' ∧ newD X Y = newD X' Y' ∧ newE X Y = newE X' Y' := by
  obtain ⟨k, n, d, k0, d0, hc, rfl, rfl⟩ := lowest_of X Y hY
  have h2 : X' * d = n * Y' := by
    have : k * (X' * d) = k * (n * Y') := by grind
    exact Int.eq_of_mul_eq_mul_left (by omega) this
  obtain ⟨j, j0, rfl, rfl⟩ := uniq X' Y' n d hY' d0 hc h2
  obtain ⟨a1, a2, a3⟩ := new_mult k n d k0 d0 hc
  obtain ⟨b1, b2, b3⟩ := new_mult j n d j0 d0 hc
  exact ⟨a1.trans b1.symm, a2.trans b2.symm, a3.trans b3.symm⟩
theorem new_back (X Y n d : Int) (hY : 0 < Y) (hv : vld n d = true) (h : X * d = n * Y) : newN X Y = n ∧ newD X Y = d ∧ newE X Y = 0 := by
  obtain ⟨d0, d1, n0, n1, hc⟩ := vld_of hv
  obtain ⟨k, k0, rfl, rfl⟩ := uniq X Y n d hY (by omega) hc h
  obtain ⟨a1, a2, a3⟩ := new_mult k n d k0 (by omega) hc
  have hk : ¬ (2147483647 < (if n < 0 then -n else n) ∨ 2147483647 < d) := by split <;> omega
  rw [if_neg hk] at a1 a2 a3
  exact ⟨a1, a2, a3⟩
theorem new_red (X Y : Int) (hY : 0 < Y) (he : newE X Y = 0) : newN X Y * Y = X * newD X Y := by
  obtain ⟨k, n, d, k0, d0, hc, rfl, rfl⟩ := lowest_of X Y hY
  obtain ⟨a1, a2, a3⟩ := new_mult k n d k0 d0 hc
  have hk : ¬ (2147483647 < (if n < 0 then -n else n) ∨ 2147483647 < d) := by
    intro hk; rw [a3, if_pos hk] at he; revert he; decide
  rw [if_neg hk] at a1 a2
  rw [a1, a2]; grind
end Go.Proofs.YtikcinkbkakkmaaGreatDoor.Fr


namespace Go.Proofs.YtikcinkbkakkmaaGreatDoor.Va
open Fr Fx
open Go.ChangeShapes Go.WideShapes Go.ChangeAt Go.RowKit
set_option linter.unusedVariables false
/-- The element types. -/
def ty (K B F R O : Int) : Bool := tv K B F R O || decide ((K = 1 ∨ K = 3) ∧ B = 0 ∧ F = 0 ∧ R = 0 ∧ O = 0)
/-- The numbers of a type. -/
def vv (K B F R O n d : Int) : Bool :=
  if K = 2 then fv K B F R O n d else ty K B F R O && (if K = 1 then vld n d else decide (d = 1 ∧ -2147483647 ≤ n ∧ n ≤ 2147483647))
abbrev A3 := Int × Int × Int
abbrev F3 (r : A3) : Value := Frac3 r.1 r.2.1 r.2.2
def nw (n d : Int) : A3 := (newN n d, newD n d, newE n d)
/-- The operators on fractions. -/
def frv (op n1 d1 n2 d2 : Int) : A3 :=
  if op = 4 then nw (n1 * d2 + n2 * d1) (d1 * d2) else if op = 5 then nw (n1 * d2 - n2 * d1) (d1 * d2) else if op = 6 then nw (n1 * n2) (d1 * d2)
  else if op = 7 then nw (n1 * d2) (d1 * n2) else (-n1, d1, 0)
/-- The operators on fixed-point numbers. -/
def fxv (op B F R O n1 n2 : Int) : A3 :=
  if op = 7 ∧ n2 = 0 then (0, 0, 4) else (Nx.nv (if op = 4 then n1 + n2 else if op = 5 then n1 - n2 else if op = 6 then Dv.dval R (n1 * n2) (2 ^ F.toNat) else if op = 7 then Dv.dval R (n1 * 2 ^ F.toNat) n2 else -n1) B O, 1, 0)
def whn (op a b : Int) : Int := if op = 4 then a + b else if op = 5 then a - b else if op = 6 then a * b else if op = 7 then Dv.dval 1 a b else -a
/-- The operators on integers. -/
def whv (op a b : Int) : A3 :=
  if op = 7 ∧ b = 0 then (0, 0, 4) else if -2147483647 ≤ whn op a b ∧ whn op a b ≤ 2147483647 then (whn op a b, 1, 0) else (0, 0, 3)
/-- The order of two numbers of a type. -/
def cpv (K B F R O n1 d1 n2 d2 : Int) : Int :=
  if vv K B F R O n1 d1 && vv K B F R O n2 d2 then cmpv (n1 * d2) (n2 * d1) else 0
/-- The answer of Apply. -/
def apv (op K B F R O n1 d1 n2 d2 : Int) : A3 :=
  if op < 4 ∨ 10 < op then (0, 0, 1) else if ty K B F R O = false then (0, 0, 10)
  else if vv K B F R O n1 d1 = false ∨ (op ≠ 8 ∧ vv K B F R O n2 d2 = false) then (0, 0, 1)
  else if op = 9 then (if cpv K B F R O n1 d1 n2 d2 ≤ 0 then (n1, d1, 0) else (n2, d2, 0))
  else if op = 10 then (if 0 ≤ cpv K B F R O n1 d1 n2 d2 then (n1, d1, 0) else (n2, d2, 0))
  else if K = 1 then frv op n1 d1 n2 d2 else if K = 2 then fxv op B F R O n1 n2 else whv op n1 n2
/-- The answer of One. -/
def onv (K B F R O : Int) : A3 :=
  if ty K B F R O = false then (0, 0, 10) else if K = 2 then (if fv K B F R O (2 ^ F.toNat) 1 then (2 ^ F.toNat, 1, 0) else (0, 0, 3)) else (1, 1, 0)
/-- The value of a number as a fraction. -/
def rat (K F n d : Int) : Int × Int := if K = 2 then ((red n F.toNat).1, 2 ^ (red n F.toNat).2) else (n, d)
/-- The answer of Cast. -/
def cav (K B F R O K' B' F' R' O' n d : Int) : A3 :=
  if ty K B F R O = false ∨ ty K' B' F' R' O' = false then (0, 0, 10) else if vv K B F R O n d = false then (0, 0, 1)
  else if K' = 3 then ((rat K F n d).1 / (rat K F n d).2, 1, 0)
  else if K' = 2 then (Nx.nv (Dv.dval R' ((rat K F n d).1 * 2 ^ F'.toNat) (rat K F n d).2) B' O', 1, 0) else ((rat K F n d).1, (rat K F n d).2, 0)

theorem ty_cases (K B F R O : Int) : (ty K B F R O = true ∧ ((K = 2 ∧ tv K B F R O = true) ∨ ((K = 1 ∨ K = 3) ∧ B = 0 ∧ F = 0 ∧ R = 0 ∧ O = 0 ∧ tv K B F R O = false))) ∨
    (ty K B F R O = false ∧ tv K B F R O = false ∧ (K = 2 ∨ (K ≠ 1 ∧ K ≠ 2 ∧ K ≠ 3) ∨ ((K = 1 ∨ K = 3) ∧ (B ≠ 0 ∨ F ≠ 0 ∨ R ≠ 0 ∨ O ≠ 0)))) := by
  unfold ty
  by_cases h : tv K B F R O = true
  · left
    obtain ⟨k, _⟩ := tv_parts h
    exact ⟨by rw [h]; rfl, .inl ⟨k, h⟩⟩
  · have h' : tv K B F R O = false := by simpa using h
    rw [h', Bool.false_or]
    by_cases g : (K = 1 ∨ K = 3) ∧ B = 0 ∧ F = 0 ∧ R = 0 ∧ O = 0
    · left
      exact ⟨decide_eq_true g, .inr ⟨g.1, g.2.1, g.2.2.1, g.2.2.2.1, g.2.2.2.2, rfl⟩⟩
    · right
      refine ⟨decide_eq_false g, rfl, ?_⟩
      omega
theorem vv_ty {K B F R O n d : Int} (h : vv K B F R O n d = true) : ty K B F R O = true := by
  unfold vv at h
  split at h
  · obtain ⟨t, _⟩ := fv_parts h
    unfold ty; rw [t]; rfl
  · simp only [Bool.and_eq_true] at h
    exact h.1
theorem vv_fix {K B F R O n d : Int} (h : K = 2) : vv K B F R O n d = fv K B F R O n d := by unfold vv; rw [if_pos h]
theorem ty_frac : ty 1 0 0 0 0 = true := by decide
theorem ty_int : ty 3 0 0 0 0 = true := by decide
theorem vv_frac (n d : Int) : vv 1 0 0 0 0 n d = vld n d := by unfold vv; rw [if_neg (by decide), ty_frac, if_pos rfl, Bool.true_and]
theorem vv_int (n d : Int) : vv 3 0 0 0 0 n d = decide (d = 1 ∧ -2147483647 ≤ n ∧ n ≤ 2147483647) := by unfold vv; rw [if_neg (by decide), ty_int, if_neg (by decide), Bool.true_and]
theorem vv_bad {K B F R O n d : Int} (h : ty K B F R O = false) : vv K B F R O n d = false := by
  cases e : vv K B F R O n d with
  | false => rfl
  | true => rw [vv_ty e] at h; cases h
/-- What is valid lies within 31 bits, and its denominator is positive. -/
theorem vv_small {K B F R O n d : Int} (h : vv K B F R O n d = true) : 1 ≤ d ∧ d ≤ 2147483647 ∧ -2147483647 ≤ n ∧ n ≤ 2147483647 ∧ (K ≠ 1 → d = 1) := by
  unfold vv at h
  split at h
  · obtain ⟨t, e, _, _, x, y⟩ := fv_parts h
    omega
  · simp only [Bool.and_eq_true] at h
    obtain ⟨_, h⟩ := h
    split at h
    · obtain ⟨a, b, c, e, _⟩ := vld_parts h
      omega
    · have := of_decide_eq_true h
      omega
theorem vld_one {n : Int} (h : -2147483647 ≤ n) (h' : n ≤ 2147483647) : vld n 1 = true := by
  rw [vld_in (by decide) (by decide) h h']
  simp
/-- Rounding, by the quotient rounded down and what is left. -/
theorem rnd_floor (how n d q : Int) (hd : 0 < d) (m0 : 1 ≤ how) (m1 : how ≤ 4) (hq : Dv.dval 1 n d = q) (n0 : -9223372036854775808 ≤ n) :
    0 ≤ n - q * d ∧ n - q * d < d ∧ Dv.dval how n d = (if n - q * d = 0 ∨ how = 1 then q else if how = 2 then q + 1 else if how = 3 then (if n < 0 then q + 1 else q)
      else if d - (n - q * d) < n - q * d ∨ (n - q * d = d - (n - q * d) ∧ q % 2 ≠ 0) then q + 1 else q) := by
  have e1 : Dv.dval 1 n d = Plain.rnd 1 (n.tdiv d) (n.tmod d) d := by unfold Dv.dval; rw [if_neg (by omega), if_neg (by omega), if_neg (by omega)]
  have e2 : Dv.dval how n d = Plain.rnd how (n.tdiv d) (n.tmod d) d := by unfold Dv.dval; rw [if_neg (by omega), if_neg (by omega), if_neg (by omega)]
  rw [e1] at hq
  rw [e2]
  have F := Plain.tfacts n d (by omega)
  have S := Plain.tsign n d
  have E := Int.mul_tdiv_add_tmod n d
  generalize n.tdiv d = a at *
  generalize n.tmod d = r at *
  obtain ⟨F1, F2, F3, F4, F5⟩ := F
  have hq1 : r < 0 → q = a - 1 := by
    intro h
    rw [← hq]; unfold Plain.rnd; rw [if_neg (by omega), if_neg (by omega), if_pos rfl, if_neg (by omega)]
  have hq2 : 0 ≤ r → q = a := by
    intro h
    rw [← hq]; unfold Plain.rnd
    by_cases h0 : r = 0
    · rw [if_pos h0]
    · rw [if_neg h0, if_neg (by omega), if_pos rfl, if_pos (by omega)]
  clear hq e1 e2
  have hP : (r < 0 → q = a - 1 ∧ q * d = a * d - d) ∧ (0 ≤ r → q = a ∧ q * d = a * d) := by
    constructor
    · intro h
      refine ⟨hq1 h, ?_⟩
      rw [hq1 h, Int.sub_mul, Int.one_mul]
    · intro h
      refine ⟨hq2 h, ?_⟩
      rw [hq2 h]
  rw [Int.mul_comm d a] at E
  generalize q * d = P at *
  generalize a * d = Q at *
  clear hq1 hq2
  refine ⟨?_, ?_, ?_⟩
  · by_cases h : r < 0
    · have := hP.1 h; omega
    · have := hP.2 (by omega); omega
  · by_cases h : r < 0
    · have := hP.1 h; omega
    · have := hP.2 (by omega); omega
  · unfold Plain.rnd
    by_cases h : r < 0
    · obtain ⟨h1, h2⟩ := hP.1 h
      subst h1
      (repeat' split) <;> omega
    · obtain ⟨h1, h2⟩ := hP.2 (by omega)
      subst h1
      (repeat' split) <;> omega
end Go.Proofs.YtikcinkbkakkmaaGreatDoor.Va
