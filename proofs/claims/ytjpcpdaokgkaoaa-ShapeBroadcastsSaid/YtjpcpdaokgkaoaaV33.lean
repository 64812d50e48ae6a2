/- Broadcast in the other order. -/
import Derived.Test.YtjpcpdaokgkaoaaV32
namespace Go.Proofs.Ytjpcpdaokgkaoaa.Sh
open Go.ChangeShapes Go.WideShapes Go.ChangeAt Go.RowKit
set_option linter.unusedVariables false

theorem bE_zero {a b : List Int} : bE a b = 0 ↔ vE a = 0 ∧ vE b = 0 ∧ bok a b ∧ vE (bc a b) = 0 := by
  unfold bE
  constructor
  · intro h
    by_cases h1 : (vE a != 0) = true
    · rw [if_pos h1] at h; rw [h] at h1; simp at h1
    rw [if_neg h1] at h
    by_cases h2 : (vE b != 0) = true
    · rw [if_pos h2] at h; rw [h] at h2; simp at h2
    rw [if_neg h2] at h
    by_cases h3 : bok a b
    · rw [if_pos h3] at h; exact ⟨by simpa using h1, by simpa using h2, h3, h⟩
    · rw [if_neg h3] at h; cases h
  · rintro ⟨h1, h2, h3, h4⟩
    rw [if_neg (by rw [h1]; decide : ¬ (vE a != 0) = true), if_neg (by rw [h2]; decide : ¬ (vE b != 0) = true), if_pos h3, h4]
theorem bE_comm0 {a b : List Int} : bE a b = 0 ↔ bE b a = 0 := by
  rw [bE_zero, bE_zero, bc_comm a b, bok_comm (a := a)]
  exact ⟨fun ⟨h1, h2, h3⟩ => ⟨h2, h1, h3⟩, fun ⟨h1, h2, h3⟩ => ⟨h2, h1, h3⟩⟩
theorem bL_ok {a b : List Int} (h : bE a b = 0) : bL a b = bc a b := by
  obtain ⟨h1, h2, h3, h4⟩ := bE_zero.1 h
  unfold bL
  rw [if_neg (by rw [h1]; decide : ¬ (vE a != 0) = true), if_neg (by rw [h2]; decide : ¬ (vE b != 0) = true), if_pos h3, if_pos h4]
theorem bL_comm {a b : List Int} (h : bE a b = 0) : bL b a = bL a b := by
  rw [bL_ok h, bL_ok (bE_comm0.1 h), bc_comm]
theorem bL_len {a b : List Int} (ha : a.length ≤ maxLen) (hb : b.length ≤ maxLen) : (bL a b).length ≤ maxLen := by
  unfold bL
  repeat' split
  all_goals first | (simp; done) | (rw [bc_length]; unfold bn; omega)
end Go.Proofs.Ytjpcpdaokgkaoaa.Sh
