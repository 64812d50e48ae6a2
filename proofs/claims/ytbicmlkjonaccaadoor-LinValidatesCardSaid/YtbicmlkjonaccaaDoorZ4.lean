/- The reference: a signed term is appended. -/
import Derived.Test.YtbicmlkjonaccaaDoorZ3
namespace Go.Proofs.YtbicmlkjonaccaaDoor.Ln
open Go.ChangeShapes Go.WideShapes Go.ChangeAt Go.RowKit

set_option linter.unusedVariables false
set_option linter.unusedSimpArgs false
set_option maxRecDepth 8000

def ns (neg : Bool) : ByteArray := if neg then ⟨#[32, 45, 32]⟩ else ⟨#[32, 43, 32]⟩
/-- term of the reference. -/
def trm (s : ByteArray) (neg : Bool) (t : ByteArray) : ByteArray := if s.size = 0 then (if neg then (⟨#[45]⟩ : ByteArray) ++ t else t) else s ++ ns neg ++ t
theorem trm_list (s : ByteArray) (neg : Bool) (t : ByteArray) : (trm s neg t).data.toList = s.data.toList ++ sgn s.data.toList neg ++ t.data.toList := by
  unfold trm sgn ns
  by_cases h : s.size = 0
  · have e : s.data.toList = [] := List.eq_nil_of_length_eq_zero (by simpa using h)
    rw [if_pos h, if_pos e, e]
    cases neg <;> simp
  · have e : s.data.toList ≠ [] := fun e => h (by rw [Lib.size_eq, e]; rfl)
    rw [if_neg h, if_neg e]
    cases neg <;> simp
set_option maxRecDepth 100000 in
theorem term1 (s : ByteArray) (neg : Bool) (t : ByteArray) (w : World) (hs : s.size ≤ 100000) (ht : t.size ≤ 100000) : Calls Tryd.prog 52 #[.string s, .bool neg, .string t] w fun e w' => e = .returned (.string (trm s neg t)) ∧ w = w' := by
  have h3 : ∀ b, (ns b).size = 3 := fun b => by cases b <;> rfl
  have h1 : (⟨#[45]⟩ : ByteArray).size = 1 := rfl
  by_cases h : s.size = 0
  · obtain rfl : s = ⟨#[]⟩ := ByteArray.ext (Array.eq_empty_of_size_eq_zero h)
    cases neg
    · rw [show trm ⟨#[]⟩ false t = t from rfl]
      go_enter Tryd.func52, Tryd.ntmps52
      go_wp2
      go_ret
      exact ⟨rfl, rfl⟩
    · rw [show trm ⟨#[]⟩ true t = (⟨#[45]⟩ : ByteArray) ++ t from rfl]
      go_enter Tryd.func52, Tryd.ntmps52
      go_wp2
      go_ret
      exact ⟨rfl, rfl⟩
  · have e : trm s neg t = s ++ ns neg ++ t := by unfold trm; rw [if_neg h]
    rw [e]
    have g : s.toList.isEmpty = false := by
      rw [ByteArray.toList_eq]
      cases hh : s.data.toList with
      | nil => exact absurd (by rw [Lib.size_eq, hh]; rfl) h
      | cons a r => rfl
    have h4 : ∀ b, (s ++ ns b).size = s.size + 3 := fun b => by rw [ByteArray.size_append, h3]
    clear e
    cases neg
    · have e3 : (⟨#[32, 43, 32]⟩ : ByteArray) = ns false := rfl
      have q := h4 false
      have q3 := h3 false
      go_enter Tryd.func52, Tryd.ntmps52
      go_wp2
      go_ret
      exact ⟨rfl, rfl⟩
    · have e3 : (⟨#[32, 45, 32]⟩ : ByteArray) = ns true := rfl
      have q := h4 true
      have q3 := h3 true
      go_enter Tryd.func52, Tryd.ntmps52
      go_wp2
      go_ret
      exact ⟨rfl, rfl⟩
end Go.Proofs.YtbicmlkjonaccaaDoor.Ln
