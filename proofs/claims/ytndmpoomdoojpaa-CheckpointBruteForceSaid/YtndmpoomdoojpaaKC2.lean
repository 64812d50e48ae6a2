/- The statement on the search by costs: its walk. -/
import Derived.Test.YtndmpoomdoojpaaKC1
import Derived.Test.YtndmpoomdoojpaaK6
namespace Go.Proofs.Ytndmpoomdoojpaa.Ck
open Go.ChangeShapes Go.WideShapes Go.ChangeAt Go.RowKit
set_option linter.unusedVariables false


set_option maxRecDepth 100000 in
set_option maxHeartbeats 4000000 in
theorem law_bf (n s : Int) (w : World) (_ : -9223372036854775808 ≤ n ∧ n ≤ 9223372036854775807) (_ : -9223372036854775808 ≤ s ∧ s ≤ 9223372036854775807) : Calls Try.prog 6 #[.int .i64 n, .int .i64 s] w fun e w' => e = .returned (.bool true) ∧ Below w.heap.size w w' := by
  have EX := Lib.hid ex28
  have BF := Bf.bfc n s w
  have C := Lib.hid fun u => cost n s u
  unfold NE at C BF
  by_cases h : 0 ≤ n ∧ n ≤ 64 ∧ 0 ≤ s ∧ s ≤ 64
  · have e1 : ask n s = 0 := by unfold ask; rw [inr_ok h]; rfl
    have e2 : cv n s = co n s := by unfold cv; rw [inr_ok h]; rfl
    obtain ⟨V, hV⟩ : ∃ V, co n s = V := ⟨_, rfl⟩
    rw [e1, e2, hV] at C
    by_cases h12 : 12 < n
    · have e3 : Bf.bfE n s = 2 := by unfold Bf.bfE; rw [if_pos (inr_ok h), if_pos h12]
      have e4 : Bf.bfV n s = 0 := by unfold Bf.bfV; rw [if_neg (fun g => by omega)]
      rw [e3, e4] at BF
      have g1 : decide ((12 : Int) < n) = true := decide_eq_true h12
      have HB := Lib.hid BF
      clear e1 e2 e3 e4 BF hV
      obtain ⟨n0, n1, s0, s1⟩ := h
      go_enter Try.func6, Try.ntmps6
      go_wp2_with fail
      refine (HB.out).mono ?_
      rintro e w1 ⟨rfl, hb⟩
      go_wp2_with (first | (go_at_call 20; refine (C.out _).mono ?_; rintro e w2 ⟨rfl, rfl⟩) | (go_at_call 22; refine (EX.out _).mono ?_; rintro e w3 ⟨rfl, hb2⟩))
      go_ret
      exact ⟨rfl, hb.trans (hb2.mono hb.size)⟩
    · have e3 : Bf.bfE n s = 0 := by unfold Bf.bfE; rw [if_pos (inr_ok h), if_neg h12]
      have e4 : Bf.bfV n s = co n s := by unfold Bf.bfV; rw [if_pos ⟨inr_ok h, by omega⟩]
      rw [e3, e4, hV] at BF
      have g1 : decide ((12 : Int) < n) = false := decide_eq_false h12
      have HB := Lib.hid BF
      clear e1 e2 e3 e4 BF hV
      obtain ⟨n0, n1, s0, s1⟩ := h
      go_enter Try.func6, Try.ntmps6
      go_wp2_with fail
      refine (HB.out).mono ?_
      rintro e w1 ⟨rfl, hb⟩
      go_wp2_with (first | (go_at_call 20; refine (C.out _).mono ?_; rintro e w2 ⟨rfl, rfl⟩) | (go_at_call 22; refine (EX.out _).mono ?_; rintro e w3 ⟨rfl, hb2⟩))
      go_ret
      exact ⟨rfl, hb.trans (hb2.mono hb.size)⟩
  · have e1 : ask n s = 1 := by unfold ask; rw [inr_no h]; rfl
    have e2 : cv n s = 0 := by unfold cv; rw [inr_no h]; rfl
    have e3 : Bf.bfE n s = 1 := by unfold Bf.bfE; rw [inr_no h]; rfl
    have e4 : Bf.bfV n s = 0 := by unfold Bf.bfV; rw [inr_no h]; rfl
    rw [e1, e2] at C
    rw [e3, e4] at BF
    have HB := Lib.hid BF
    clear e1 e2 e3 e4 BF h
    go_enter Try.func6, Try.ntmps6
    go_wp2_with fail
    refine (HB.out).mono ?_
    rintro e w1 ⟨rfl, hb⟩
    go_wp2_with (first | (go_at_call 20; refine (C.out _).mono ?_; rintro e w2 ⟨rfl, rfl⟩) | (go_at_call 22; refine (EX.out _).mono ?_; rintro e w3 ⟨rfl, hb2⟩))
    go_ret
    exact ⟨rfl, hb.trans (hb2.mono hb.size)⟩
end Go.Proofs.Ytndmpoomdoojpaa.Ck
