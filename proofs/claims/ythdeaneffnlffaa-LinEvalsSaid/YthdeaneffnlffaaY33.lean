/- Linear forms: the order of numbers of 192 bits, in the reference. -/
import Derived.Test.YthdeaneffnlffaaY32
namespace Go.Proofs.Ythdeaneffnlffaa.Ln
open Go.ChangeShapes Go.WideShapes Go.ChangeAt Go.RowKit
set_option linter.unusedVariables false
set_option linter.unusedSimpArgs false
set_option maxRecDepth 100000 in
set_option maxHeartbeats 32000000 in
theorem less1 (b0 b1 b2 b3 b4 b5 a0 a1 a2 a3 a4 a5 : Int) (w : World) (hA : ((0 ≤ a0 ∧ a0 < 4294967296) ∧ (0 ≤ a1 ∧ a1 < 4294967296) ∧ (0 ≤ a2 ∧ a2 < 4294967296) ∧ (0 ≤ a3 ∧ a3 < 4294967296) ∧ (0 ≤ a4 ∧ a4 < 4294967296) ∧ (0 ≤ a5 ∧ a5 < 4294967296))) (hB : ((0 ≤ b0 ∧ b0 < 4294967296) ∧ (0 ≤ b1 ∧ b1 < 4294967296) ∧ (0 ≤ b2 ∧ b2 < 4294967296) ∧ (0 ≤ b3 ∧ b3 < 4294967296) ∧ (0 ≤ b4 ∧ b4 < 4294967296) ∧ (0 ≤ b5 ∧ b5 < 4294967296))) :
    Calls Try.prog 52 #[.agg #[.int .u64 a0, .int .u64 a1, .int .u64 a2, .int .u64 a3, .int .u64 a4, .int .u64 a5], .agg #[.int .u64 b0, .int .u64 b1, .int .u64 b2, .int .u64 b3, .int .u64 b4, .int .u64 b5]] w fun e w' => e = .returned (.bool (decide (dval a0 a1 a2 a3 a4 a5 < dval b0 b1 b2 b3 b4 b5))) ∧ Below w.heap.size w w' := by
  by_cases h5 : b5 = a5
  · subst h5
    by_cases h4 : b4 = a4
    · subst h4
      by_cases h3 : b3 = a3
      · subst h3
        by_cases h2 : b2 = a2
        · subst h2
          by_cases h1 : b1 = a1
          · subst h1
            by_cases h0 : b0 = a0
            · subst h0
              have HR : Hid (false = decide (dval b0 b1 b2 b3 b4 b5 < dval b0 b1 b2 b3 b4 b5)) := Lib.hid (by rw [decide_eq_false (by omega)])
              clear hA hB
              go_enter Try.func52, Try.ntmps52
              go_wp2
              refine wp_loop_rounds 7 ?_
              rw [rounds_succ]
              go_wp2
              go_quiet (fail)
              go_wp2
              rw [rounds_succ]
              go_wp2
              go_quiet (fail)
              go_wp2
              rw [rounds_succ]
              go_wp2
              go_quiet (fail)
              go_wp2
              rw [rounds_succ]
              go_wp2
              go_quiet (fail)
              go_wp2
              rw [rounds_succ]
              go_wp2
              go_quiet (fail)
              go_wp2
              rw [rounds_succ]
              go_wp2
              go_quiet (fail)
              go_wp2
              rw [rounds_succ]
              go_wp2
              go_ret
              exact ⟨ret_bool HR.out, by (repeat (refine below_drewN ?_ _)); exact two_below _ _⟩
            · have hb0 : (a0 == b0) = false := beq_false_of_ne (fun e => h0 e.symm)
              have hn0 : (a0 != b0) = true := by rw [bne, hb0]; rfl
              have HR : Hid (decide (a0 < b0) = decide (dval a0 b1 b2 b3 b4 b5 < dval b0 b1 b2 b3 b4 b5)) := Lib.hid (by rw [Bool.eq_iff_iff, decide_eq_true_eq, decide_eq_true_eq]; unfold dval; omega)
              clear hA hB h0
              go_enter Try.func52, Try.ntmps52
              go_wp2
              refine wp_loop_rounds 7 ?_
              rw [rounds_succ]
              go_wp2
              go_quiet (fail)
              go_wp2
              rw [rounds_succ]
              go_wp2
              go_quiet (fail)
              go_wp2
              rw [rounds_succ]
              go_wp2
              go_quiet (fail)
              go_wp2
              rw [rounds_succ]
              go_wp2
              go_quiet (fail)
              go_wp2
              rw [rounds_succ]
              go_wp2
              go_quiet (fail)
              go_wp2
              rw [rounds_succ]
              go_wp2
              go_quiet (fail)
              go_wp2
              go_quiet (fail)
              go_wp2
              go_ret
              exact ⟨ret_bool HR.out, by (repeat (refine below_drewN ?_ _)); exact two_below _ _⟩
          · have hb1 : (a1 == b1) = false := beq_false_of_ne (fun e => h1 e.symm)
            have hn1 : (a1 != b1) = true := by rw [bne, hb1]; rfl
            have HR : Hid (decide (a1 < b1) = decide (dval a0 a1 b2 b3 b4 b5 < dval b0 b1 b2 b3 b4 b5)) := Lib.hid (by rw [Bool.eq_iff_iff, decide_eq_true_eq, decide_eq_true_eq]; unfold dval; omega)
            clear hA hB h1
            go_enter Try.func52, Try.ntmps52
            go_wp2
            refine wp_loop_rounds 7 ?_
            rw [rounds_succ]
            go_wp2
            go_quiet (fail)
            go_wp2
            rw [rounds_succ]
            go_wp2
            go_quiet (fail)
            go_wp2
            rw [rounds_succ]
            go_wp2
            go_quiet (fail)
            go_wp2
            rw [rounds_succ]
            go_wp2
            go_quiet (fail)
            go_wp2
            rw [rounds_succ]
            go_wp2
            go_quiet (fail)
            go_wp2
            go_quiet (fail)
            go_wp2
            go_ret
            exact ⟨ret_bool HR.out, by (repeat (refine below_drewN ?_ _)); exact two_below _ _⟩
        · have hb2 : (a2 == b2) = false := beq_false_of_ne (fun e => h2 e.symm)
          have hn2 : (a2 != b2) = true := by rw [bne, hb2]; rfl
          have HR : Hid (decide (a2 < b2) = decide (dval a0 a1 a2 b3 b4 b5 < dval b0 b1 b2 b3 b4 b5)) := Lib.hid (by rw [Bool.eq_iff_iff, decide_eq_true_eq, decide_eq_true_eq]; unfold dval; omega)
          clear hA hB h2
          go_enter Try.func52, Try.ntmps52
          go_wp2
          refine wp_loop_rounds 7 ?_
          rw [rounds_succ]
          go_wp2
          go_quiet (fail)
          go_wp2
          rw [rounds_succ]
          go_wp2
          go_quiet (fail)
          go_wp2
          rw [rounds_succ]
          go_wp2
          go_quiet (fail)
          go_wp2
          rw [rounds_succ]
          go_wp2
          go_quiet (fail)
          go_wp2
          go_quiet (fail)
          go_wp2
          go_ret
          exact ⟨ret_bool HR.out, by (repeat (refine below_drewN ?_ _)); exact two_below _ _⟩
      · have hb3 : (a3 == b3) = false := beq_false_of_ne (fun e => h3 e.symm)
        have hn3 : (a3 != b3) = true := by rw [bne, hb3]; rfl
        have HR : Hid (decide (a3 < b3) = decide (dval a0 a1 a2 a3 b4 b5 < dval b0 b1 b2 b3 b4 b5)) := Lib.hid (by rw [Bool.eq_iff_iff, decide_eq_true_eq, decide_eq_true_eq]; unfold dval; omega)
        clear hA hB h3
        go_enter Try.func52, Try.ntmps52
        go_wp2
        refine wp_loop_rounds 7 ?_
        rw [rounds_succ]
        go_wp2
        go_quiet (fail)
        go_wp2
        rw [rounds_succ]
        go_wp2
        go_quiet (fail)
        go_wp2
        rw [rounds_succ]
        go_wp2
        go_quiet (fail)
        go_wp2
        go_quiet (fail)
        go_wp2
        go_ret
        exact ⟨ret_bool HR.out, by (repeat (refine below_drewN ?_ _)); exact two_below _ _⟩
    · have hb4 : (a4 == b4) = false := beq_false_of_ne (fun e => h4 e.symm)
      have hn4 : (a4 != b4) = true := by rw [bne, hb4]; rfl
      have HR : Hid (decide (a4 < b4) = decide (dval a0 a1 a2 a3 a4 b5 < dval b0 b1 b2 b3 b4 b5)) := Lib.hid (by rw [Bool.eq_iff_iff, decide_eq_true_eq, decide_eq_true_eq]; unfold dval; omega)
      clear hA hB h4
      go_enter Try.func52, Try.ntmps52
      go_wp2
      refine wp_loop_rounds 7 ?_
      rw [rounds_succ]
      go_wp2
      go_quiet (fail)
      go_wp2
      rw [rounds_succ]
      go_wp2
      go_quiet (fail)
      go_wp2
      go_quiet (fail)
      go_wp2
      go_ret
      exact ⟨ret_bool HR.out, by (repeat (refine below_drewN ?_ _)); exact two_below _ _⟩
  · have hb5 : (a5 == b5) = false := beq_false_of_ne (fun e => h5 e.symm)
    have hn5 : (a5 != b5) = true := by rw [bne, hb5]; rfl
    have HR : Hid (decide (a5 < b5) = decide (dval a0 a1 a2 a3 a4 a5 < dval b0 b1 b2 b3 b4 b5)) := Lib.hid (by rw [Bool.eq_iff_iff, decide_eq_true_eq, decide_eq_true_eq]; unfold dval; omega)
    clear hA hB h5
    go_enter Try.func52, Try.ntmps52
    go_wp2
    refine wp_loop_rounds 7 ?_
    rw [rounds_succ]
    go_wp2
    go_quiet (fail)
    go_wp2
    go_quiet (fail)
    go_wp2
    go_ret
    exact ⟨ret_bool HR.out, by (repeat (refine below_drewN ?_ _)); exact two_below _ _⟩
end Go.Proofs.Ythdeaneffnlffaa.Ln
