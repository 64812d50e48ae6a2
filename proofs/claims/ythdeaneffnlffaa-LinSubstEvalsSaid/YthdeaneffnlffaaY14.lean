/- Linear forms: sums in 192 bits. -/
import Derived.WalkKit
import Derived.ProofKit
import Derived.OpenShut
namespace Go.Proofs.Ythdeaneffnlffaa.Ln
open Go.ChangeShapes Go.WideShapes Go.ChangeAt Go.RowKit
set_option linter.unusedVariables false

/-- The three limbs of a number in two's complement. -/
def l0 (V : Int) : Int := V % 18446744073709551616
def l1 (V : Int) : Int := V / 18446744073709551616 % 18446744073709551616
def l2 (V : Int) : Int := V / 340282366920938463463374607431768211456 % 18446744073709551616
theorem l0_add (V X : Int) : (l0 V + l0 X) % 18446744073709551616 = l0 (V + X) := by unfold l0; omega
theorem l1_add (V X : Int) : (l1 V + l1 X + (l0 V + l0 X) / 18446744073709551616) % 18446744073709551616 = l1 (V + X) := by unfold l1 l0; omega
theorem l2_add (V X : Int) : (l2 V + l2 X + (l1 V + l1 X + (l0 V + l0 X) / 18446744073709551616) / 18446744073709551616) % 18446744073709551616 = l2 (V + X) := by
  have e : ∀ Y : Int, Y / 340282366920938463463374607431768211456 = Y / 18446744073709551616 / 18446744073709551616 := fun Y => by omega
  unfold l2 l1 l0
  rw [e V, e X, e (V + X)]
  obtain ⟨q, hq⟩ : ∃ q, V / 18446744073709551616 = q := ⟨_, rfl⟩
  obtain ⟨r, hr⟩ : ∃ r, X / 18446744073709551616 = r := ⟨_, rfl⟩
  obtain ⟨u, hu⟩ : ∃ u, (V + X) / 18446744073709551616 = u := ⟨_, rfl⟩
  have hc : u = q + r + (V % 18446744073709551616 + X % 18446744073709551616) / 18446744073709551616 := by omega
  rw [hq, hr, hu, hc]
  generalize (V % 18446744073709551616 + X % 18446744073709551616) / 18446744073709551616 = c
  clear hq hr hu hc e
  omega
theorem l_bd (V : Int) : (0 ≤ l0 V ∧ l0 V < 18446744073709551616) ∧ (0 ≤ l1 V ∧ l1 V < 18446744073709551616) ∧ (0 ≤ l2 V ∧ l2 V < 18446744073709551616) := by unfold l2 l1 l0; omega
/-- The two limbs that the unsigned product gives. -/
theorem mul_pp {a b : Int} (ha : 0 ≤ a) (ha2 : a ≤ 9223372036854775807) (hb : 0 ≤ b) (hb2 : b ≤ 9223372036854775807) : (a % 18446744073709551616) * (b % 18446744073709551616) = a * b := by
  rw [Int.emod_eq_of_lt ha (by omega), Int.emod_eq_of_lt hb (by omega)]
theorem neg_mod {a : Int} (ha : a < 0) (ha2 : -9223372036854775808 ≤ a) : a % 18446744073709551616 = a + 18446744073709551616 := by omega
theorem pos_mod {a : Int} (ha : 0 ≤ a) (ha2 : a ≤ 9223372036854775807) : a % 18446744073709551616 = a := by omega
theorem lo_eq {a b : Int} (ha1 : -9223372036854775808 ≤ a) (ha2 : a ≤ 9223372036854775807) (hb1 : -9223372036854775808 ≤ b) (hb2 : b ≤ 9223372036854775807) : (a % 18446744073709551616) * (b % 18446744073709551616) % 18446744073709551616 = l0 (a * b) := by
  unfold l0
  rw [← Int.mul_emod]
theorem hi_eq {a b : Int} (ha1 : -9223372036854775808 ≤ a) (ha2 : a ≤ 9223372036854775807) (hb1 : -9223372036854775808 ≤ b) (hb2 : b ≤ 9223372036854775807) :
    ((a % 18446744073709551616) * (b % 18446744073709551616) / 18446744073709551616 - (if a < 0 then b % 18446744073709551616 else 0) - (if b < 0 then a % 18446744073709551616 else 0)) % 18446744073709551616 = l1 (a * b) := by
  unfold l1
  by_cases h1 : a < 0
  · by_cases h2 : b < 0
    · rw [if_pos h1, if_pos h2, neg_mod h1 ha1, neg_mod h2 hb1]
      have e : (a + 18446744073709551616) * (b + 18446744073709551616) = a * b + 18446744073709551616 * a + 18446744073709551616 * b + 340282366920938463463374607431768211456 := by grind
      rw [e]
      generalize a * b = X
      omega
    · rw [if_pos h1, if_neg h2, neg_mod h1 ha1, pos_mod (by omega) hb2]
      have e : (a + 18446744073709551616) * b = a * b + 18446744073709551616 * b := by grind
      rw [e]
      generalize a * b = X
      omega
  · by_cases h2 : b < 0
    · rw [if_neg h1, if_pos h2, pos_mod (by omega) ha2, neg_mod h2 hb1]
      have e : a * (b + 18446744073709551616) = a * b + 18446744073709551616 * a := by grind
      rw [e]
      generalize a * b = X
      omega
    · rw [if_neg h1, if_neg h2, pos_mod (by omega) ha2, pos_mod (by omega) hb2]
      generalize a * b = X
      omega
theorem prod_bd {a b : Int} (ha1 : -9223372036854775808 ≤ a) (ha2 : a ≤ 9223372036854775807) (hb1 : -9223372036854775808 ≤ b) (hb2 : b ≤ 9223372036854775807) : -85070591730234615865843651857942052864 ≤ a * b ∧ a * b ≤ 85070591730234615865843651857942052864 := by
  have h : (a * b).natAbs ≤ 9223372036854775808 * 9223372036854775808 := by
    rw [Int.natAbs_mul]
    exact Nat.mul_le_mul (by omega) (by omega)
  omega
theorem sg_eq {X : Int} (h1 : -85070591730234615865843651857942052864 ≤ X) (h2 : X ≤ 85070591730234615865843651857942052864) : (if l1 X < 9223372036854775808 then 0 else 18446744073709551615) = l2 X := by
  unfold l1 l2
  split <;> omega
/-- A sum in 192 bits that fits in 64: both upper limbs repeat the lower one's sign. -/
theorem fits_iff {V : Int} (h1 : -1569275433846670190958947355801916604025588861116008628224 ≤ V) (h2 : V ≤ 1569275433846670190958947355801916604025588861116008628224) :
    (l1 V = (if l0 V < 9223372036854775808 then 0 else 18446744073709551615) ∧ l2 V = (if l0 V < 9223372036854775808 then 0 else 18446744073709551615)) ↔ (-9223372036854775808 ≤ V ∧ V ≤ 9223372036854775807) := by
  unfold l0 l1 l2
  constructor
  · intro h
    split at h <;> omega
  · intro h
    split <;> omega
end Go.Proofs.Ythdeaneffnlffaa.Ln
