/- Contracts: the reference's magnitude and test of a mode; both Divides where they answer an error. -/
import Derived.Test.YtaagegiehjpgiaaDiv
namespace Go.Proofs.Ytaagegiehjpgiaa.Dv
open Go.ChangeShapes Go.WideShapes Go.ChangeAt Go.RowKit
set_option linter.unusedVariables false
theorem mode_bad (n : Int) (w : World) (h : n < 1 ∨ 4 < n) :
    Calls Try.prog 72 #[.int .i64 n] w fun e w' => e = .returned (.bool false) ∧ w = w' := by
  rcases h with h | h
  · have h1 : decide (1 ≤ n) = false := by simp; omega
    go_enter Try.func72, Try.ntmps72
    go_wp2
    go_ret
    exact ⟨rfl, rfl⟩
  · have h2 : decide (n ≤ 4) = false := by simp; omega
    go_enter Try.func72, Try.ntmps72
    go_wp2
    go_ret
    exact ⟨rfl, rfl⟩
theorem div_bad (n d how : Int) (w : World) (h : how < 1 ∨ 4 < how) :
    Calls Try.prog 73 #[.int .i64 n, .int .i64 d, .int .i64 how] w fun e w' => e = .returned (.tuple #[.int .i64 0, .int .i64 1]) ∧ ∃ k, w' = w.drewN k := by
  go_enter Try.func73, Try.ntmps73
  go_wp2
  go_step3
  go_wp2_with (first | (go_at_call 72; refine (mode_bad _ _ h).mono ?_; rintro e w' ⟨rfl, rfl⟩))
  rw [Exit.noGoto_ret]
  go_ret2
  exact ⟨rfl, 0, rfl⟩
theorem div_zero (n how : Int) (w : World) (h : 1 ≤ how) (h' : how ≤ 4) :
    Calls Try.prog 73 #[.int .i64 n, .int .i64 0, .int .i64 how] w fun e w' => e = .returned (.tuple #[.int .i64 0, .int .i64 4]) ∧ ∃ k, w' = w.drewN k := by
  go_enter Try.func73, Try.ntmps73
  go_wp2_with (first | (go_at_call 72; refine (mode_ok _ _ (by omega) (by omega)).mono ?_; rintro e w' ⟨rfl, rfl⟩))
  go_step3
  go_wp2
  rw [Exit.noGoto_ret]
  go_ret2
  exact ⟨rfl, 0, rfl⟩
theorem div_min (how : Int) (w : World) (h : 1 ≤ how) (h' : how ≤ 4) :
    Calls Try.prog 73 #[.int .i64 (-9223372036854775808), .int .i64 (-1), .int .i64 how] w fun e w' => e = .returned (.tuple #[.int .i64 0, .int .i64 3]) ∧ ∃ k, w' = w.drewN k := by
  go_enter Try.func73, Try.ntmps73
  go_wp2_with (first | (go_at_call 72; refine (mode_ok _ _ (by omega) (by omega)).mono ?_; rintro e w' ⟨rfl, rfl⟩))
  go_step3
  go_wp2
  rw [Exit.noGoto_ret]
  go_ret2
  exact ⟨rfl, 0, rfl⟩
end Go.Proofs.Ytaagegiehjpgiaa.Dv
