/- Broadcast of the reference for every two lists; a shape with itself. -/
import Derived.Test.YtjpcpdaokgkaoaaV31
namespace Go.Proofs.Ytjpcpdaokgkaoaa.Sh
open Go.ChangeShapes Go.WideShapes Go.ChangeAt Go.RowKit
set_option linter.unusedVariables false

theorem c26 (p q : Option Addr) (xs ys : List Int) (c d : Nat) (w : World) (hn : xs.length ≤ maxLen) (hm : ys.length ≤ maxLen) (RA : Hid (SlI w p xs)) (RB : Hid (SlI w q ys)) :
    Calls Try.prog 26 #[.slice p xs.length c, .slice q ys.length d] w (QW (bL xs ys) (bE xs ys) w) := by
  by_cases h1 : (vE xs != 0) = true
  · unfold bL bE
    rw [if_pos h1, if_pos h1]
    exact c26_v p q xs ys c d w hn hm RA RB h1
  have h1' : vE xs = 0 := by simpa using h1
  by_cases h2 : (vE ys != 0) = true
  · unfold bL bE
    rw [if_neg h1, if_neg h1, if_pos h2, if_pos h2]
    exact c26_v2 p q xs ys c d w hn hm RA RB h1' h2
  have h2' : vE ys = 0 := by simpa using h2
  exact (c26_ok p q xs ys c d w RA RB h1' h2').mono fun e w' h => BW_out h1' h2' h
/-- A valid shape with itself: itself. -/
theorem bc_self (a : List Int) : bc a a = a := by
  have e : bn a a = a.length := Nat.max_self _
  refine List.ext_getElem (by rw [bc_length, e]) fun j h1 h2 => ?_
  rw [← getD_at h1, ← getD_at h2, bc_get (by rw [e]; exact h2), ga_long (Nat.le_refl _)]
  exact Int.max_self _
theorem bok_self (a : List Int) : bok a a := fun j _ => Or.inl rfl
theorem bE_self {a : List Int} (h : vE a = 0) : bE a a = 0 ∧ bL a a = a := by
  unfold bE bL
  have ea : ¬ (vE a != 0) = true := by rw [h]; decide
  rw [if_neg ea, if_neg ea, if_neg ea, if_neg ea, if_pos (bok_self a), if_pos (bok_self a), bc_self, if_pos h]
  exact ⟨h, rfl⟩
end Go.Proofs.Ytjpcpdaokgkaoaa.Sh
