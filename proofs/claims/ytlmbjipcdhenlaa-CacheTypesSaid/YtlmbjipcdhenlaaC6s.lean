/- The cache: what every statement checks besides. -/
import Derived.Test.YtlmbjipcdhenlaaC5s
namespace Go.Proofs.Ytlmbjipcdhenlaa.Cs
open Go.ChangeShapes Go.WideShapes Go.ChangeAt Go.RowKit
open Go.Proofs.Ytlmbjipcdhenlaa.Ca
set_option linter.unusedVariables false
set_option linter.unusedSimpArgs false
theorem alive (w : World) : Calls Try.prog 13 #[] w fun e w' => e = .returned (.bool true) ∧ Below w.heap.size w w' := by
  have CN := Lib.hid (newV 1 w (by decide) (by decide))
  go_enter Try.func13, Try.ntmps13
  go_wp2_with fail
  refine CN.out.mono ?_
  rintro e w1 ⟨b, rfl, C1, B1⟩
  have P1 := Lib.hid (putV b w.heap.size 1 [] 0 0 0 ⟨#[97]⟩ ⟨#[120]⟩ w1 C1 (by unfold maxLen; decide) (by decide) (by decide))
  clear C1
  go_wp2_with fail
  refine P1.out.mono ?_
  rintro e w2 ⟨B2, ⟨_, rfl, C2⟩ | ⟨h, _, _⟩⟩
  rotate_left
  · exact absurd h (by decide)
  have C2 : CV w2 b w.heap.size 1 [(⟨#[97]⟩, ⟨#[120]⟩)] 0 0 1 := C2
  have G1 := Lib.hid (getV b w.heap.size 1 _ 0 0 1 ⟨#[97]⟩ w2 C2 (by unfold maxLen; decide) (by decide))
  clear C2 P1
  go_wp2_with fail
  refine G1.out.mono ?_
  rintro e w3 ⟨B3, ⟨h, _, _⟩ | ⟨v, hv, rfl, C3⟩⟩
  · rw [lkv_cons, if_pos rfl] at h; cases h
  rw [lkv_cons, if_pos rfl] at hv
  cases hv
  have C3 : CV w3 b w.heap.size 1 [(⟨#[97]⟩, ⟨#[120]⟩)] 1 0 2 := by
    have h : rml [((⟨#[97]⟩ : ByteArray), (⟨#[120]⟩ : ByteArray))] ⟨#[97]⟩ = [] := by unfold rml; simp
    rw [h] at C3
    exact C3
  have P2 := Lib.hid (putV b w.heap.size 1 _ 1 0 2 ⟨#[98]⟩ ⟨#[121]⟩ w3 C3 (by unfold maxLen; decide) (by decide) (by decide))
  have hr : rml [((⟨#[97]⟩ : ByteArray), (⟨#[120]⟩ : ByteArray))] ⟨#[98]⟩ = [(⟨#[97]⟩, ⟨#[120]⟩)] := rml_none (by simp)
  clear C3 G1
  have HR := Lib.hid hr
  clear hr
  go_wp2_with fail
  refine P2.out.mono ?_
  rintro e w4 ⟨B4, h4⟩
  rw [HR.out] at h4
  rcases h4 with ⟨h, _, _⟩ | ⟨_, rfl, C4⟩
  · exact absurd h (by decide)
  have L1 := Lib.hid (lenV1 b w.heap.size 1 _ 1 0 3 w4 C4)
  clear C4 P2 HR
  go_wp2_with fail
  refine L1.out.mono ?_
  rintro e w5 ⟨rfl, rfl⟩
  go_wp2
  go_ret
  exact ⟨rfl, ((B1.trans B2).trans B3).trans B4⟩
end Go.Proofs.Ytlmbjipcdhenlaa.Cs
