/- Narrow where it answers zero. -/
import Derived.Test.YtaagegiehjpgiaaNar
namespace Go.Proofs.Ytaagegiehjpgiaa.Nx
open Go.ChangeShapes Go.WideShapes Go.ChangeAt Go.RowKit
set_option linter.unusedVariables false
set_option maxHeartbeats 8000000 in
theorem cnar_bad (n bits over : Int) (w : World) (h0 : -9223372036854775808 ≤ bits) (h1 : bits ≤ 9223372036854775807) (hb : nbad bits over) :
    Calls Try.prog 76 #[.int .i64 n, .int .i64 bits, .int .i64 over] w fun e w' => e = .returned (.tuple #[.int .i64 0, .bool false]) ∧ w = w' := by
  rcases hb with (hb | hb) | ⟨hb, hc⟩
  · have k1 : decide (2 ≤ bits) = false := by simp; omega
    have k2 : decide (bits < 2) = true := by simp; omega
    go_enter Try.func76, Try.ntmps76
    go_wp2
    all_goals
      go_ret2
      exact ⟨rfl, rfl⟩
  · have k1 : decide (2 ≤ bits) = true := by simp; omega
    have k2 : decide (bits < 2) = false := by simp; omega
    have k3 : decide (bits ≤ 31) = false := by simp; omega
    have k4 : decide (31 < bits) = true := by simp; omega
    go_enter Try.func76, Try.ntmps76
    go_wp2
    all_goals
      go_ret2
      exact ⟨rfl, rfl⟩
  · have o1 : (over != 1) = true := by simpa using hb
    have o2 : (over != 2) = true := by simpa using hc
    clear hb hc
    obtain ⟨x1, x2, x3, x4, y1, y2, y3, y4⟩ : ∃ x1 x2 x3 x4, decide (2 ≤ bits) = x1 ∧ decide (bits < 2) = x2 ∧ decide (bits ≤ 31) = x3 ∧ decide (31 < bits) = x4 := ⟨_, _, _, _, rfl, rfl, rfl, rfl⟩
    cases x1 <;> cases x2 <;> cases x3 <;> cases x4
    all_goals
      go_enter Try.func76, Try.ntmps76
      go_wp2
      all_goals
        go_ret2
        exact ⟨rfl, rfl⟩
end Go.Proofs.Ytaagegiehjpgiaa.Nx
