/- The sum over the strides, the offset of an index. -/
import Derived.Test.YtjpcpdaokgkaoaaV19
namespace Go.Proofs.Ytjpcpdaokgkaoaa.Sh
open Go.ChangeShapes Go.WideShapes Go.ChangeAt Go.RowKit
set_option linter.unusedVariables false

theorem emod_two (a s z : Int) (hs : 1 ≤ s) : a % (s * z) = a % s + ((a / s) % z) * s := by
  rw [Int.emod_def a (s * z), Int.emod_def a s, Int.emod_def (a / s) z, ← pt_step hs, Int.sub_mul]
  rw [show s * z * (a / s / z) = z * (a / s / z) * s by rw [Int.mul_comm s z, Int.mul_assoc, Int.mul_assoc, Int.mul_comm s]]
  rw [Int.mul_comm (a / s) s]
  omega
/-- One step of the sum over the strides. -/
theorem sum_step {zs : List Int} {a : Int} {k : Nat} (hv : vE zs = 0) (ha : 0 ≤ a) (hk : k < zs.length) :
    0 ≤ (pt zs a).getD k 0 ∧ (pt zs a).getD k 0 ≤ 4096 ∧ 1 ≤ (st zs).getD k 0 ∧ (st zs).getD k 0 ≤ 4096 ∧ 0 ≤ (pt zs a).getD k 0 * (st zs).getD k 0 ∧
    (a - a % sp (zs.drop k)) + (pt zs a).getD k 0 * (st zs).getD k 0 = a - a % sp (zs.drop (k + 1)) ∧ 0 ≤ a - a % sp (zs.drop k) ∧ a - a % sp (zs.drop (k + 1)) ≤ a := by
  obtain ⟨_, hl, _, _, hD⟩ := valid_of hv
  have hz := pos_of hl hk
  have hz2 := el_le hv hk
  obtain ⟨s0, s1⟩ := hD (k + 1)
  obtain ⟨q0, q1⟩ := hD k
  rw [pt_get hk, st_get hk, drop_cons hk] at *
  change 1 ≤ sp (zs.drop (k + 1)) * zs.getD k 0 at q0
  change sp (zs.drop (k + 1)) * zs.getD k 0 ≤ 4096 at q1
  show _ ∧ _ ∧ _ ∧ _ ∧ _ ∧ a - a % (sp (zs.drop (k + 1)) * zs.getD k 0) + _ = _ ∧ 0 ≤ a - a % (sp (zs.drop (k + 1)) * zs.getD k 0) ∧ _
  generalize zs.getD k 0 = z at *
  generalize sp (zs.drop (k + 1)) = s at *
  have m := emod_two a s z s0
  have x0 := Int.emod_nonneg (a / s) (by omega : z ≠ 0)
  have x1 := Int.emod_lt_of_pos (a / s) (by omega : 0 < z)
  have r0 := Int.emod_nonneg a (by omega : s ≠ 0)
  have p0 : 0 ≤ (a / s % z) * s := Int.mul_nonneg x0 (by omega)
  have l0 : a % (s * z) ≤ a := by
    have h1 := Int.emod_def a (s * z)
    have h2 := Int.mul_nonneg (by omega : 0 ≤ s * z) (Int.ediv_nonneg ha (by omega : 0 ≤ s * z))
    omega
  exact ⟨x0, by omega, s0, s1, p0, by omega, by omega, by omega⟩
/-- The offset of an index is the number that the index came from. -/
theorem of_pt {zs : List Int} {a : Int} (hv : vE zs = 0) (ha : 0 ≤ a) (ha2 : a < sp zs) : oA zs (pt zs a) = some a := by
  obtain ⟨_, hl, _, _, hD⟩ := valid_of hv
  rw [oA_ok hv (pt_length zs a)]
  have key : ∀ k, k ≤ zs.length → of 0 zs (pt zs a) = of (a / sp (zs.drop k)) (zs.drop k) ((pt zs a).drop k) := by
    intro k
    induction k with
    | zero =>
      intro _
      rw [List.drop_zero, List.drop_zero, Int.ediv_eq_zero_of_lt ha ha2]
    | succ k ih =>
      intro hk
      rw [ih (by omega), drop_cons (zs := zs) (by omega), drop_cons (zs := pt zs a) (by rw [pt_length]; omega), pt_get (by omega)]
      have hz := pos_of hl (k := k) (by omega)
      have s0 := (hD (k + 1)).1
      change of (a / (sp (zs.drop (k + 1)) * zs.getD k 0)) _ _ = _
      generalize zs.getD k 0 = z at *
      generalize sp (zs.drop (k + 1)) = s at *
      rw [of_go ⟨Int.emod_nonneg _ (by omega), Int.emod_lt_of_pos _ (by omega)⟩, ← pt_step s0]
      congr 1
      have := Int.emod_def (a / s) z
      rw [Int.mul_comm] at this
      omega
  rw [key zs.length (Nat.le_refl _), List.drop_of_length_le (Nat.le_refl _), List.drop_of_length_le (by rw [pt_length]; exact Nat.le_refl _)]
  show some (a / 1) = some a
  rw [Int.ediv_one]
theorem pA_ok {zs : List Int} {a : Int} (hv : vE zs = 0) (ha : 0 ≤ a) (ha2 : a < sp zs) : pA zs a = true := by
  unfold pA
  rw [sz_ok hv]
  exact decide_eq_true ⟨ha, ha2⟩
end Go.Proofs.Ytjpcpdaokgkaoaa.Sh
