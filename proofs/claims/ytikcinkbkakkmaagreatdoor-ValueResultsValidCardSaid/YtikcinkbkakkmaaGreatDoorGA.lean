/- Valid of package frac: whether a pair is a valid fraction. -/
import Derived.Test.YtikcinkbkakkmaaGreatDoorGcd

namespace Go.Proofs.YtikcinkbkakkmaaGreatDoor.Fr
open Go.ChangeShapes Go.WideShapes Go.ChangeAt Go.RowKit
set_option linter.unusedVariables false
set_option linter.unusedSimpArgs false
set_option maxHeartbeats 2000000 in
theorem valid_out (n d : Int) (w : World) (h : d < 1 ∨ 2147483647 < d ∨ n < -2147483647 ∨ 2147483647 < n) :
    Calls Tryz.prog 58 #[.agg #[.int .i64 n, .int .i64 d]] w (Ret (.bool false) w) := by
  obtain ⟨x1, x2, x3, x4, y1, y2, y3, y4⟩ : ∃ x1 x2 x3 x4, decide (d < 1) = x1 ∧ decide (2147483647 < d) = x2 ∧ decide (n < -2147483647) = x3 ∧ decide (2147483647 < n) = x4 := ⟨_, _, _, _, rfl, rfl, rfl, rfl⟩
  have hx : (x1 || x2 || x3 || x4) = true := by subst y1 y2 y3 y4; simp; omega
  clear h
  cases x1 <;> cases x2 <;> cases x3 <;> cases x4 <;> (first | (exfalso; simp at hx; done) | skip)
  all_goals
    clear hx
    go_enter Tryz.func58, Tryz.ntmps58
    go_wp2
    go_ret
    exact ⟨rfl, by go_grown⟩
set_option maxHeartbeats 2000000 in
theorem valid_in (n d : Int) (w : World) (h1 : 1 ≤ d) (h2 : d ≤ 2147483647) (h3 : -2147483647 ≤ n) (h4 : n ≤ 2147483647) :
    Calls Tryz.prog 58 #[.agg #[.int .i64 n, .int .i64 d]] w (Ret (.bool (vld n d)) w) := by
  have HV := Lib.hid (vld_in h1 h2 h3 h4)
  have c1 : decide (d < 1) = false := by simp; omega
  have c2 : decide (2147483647 < d) = false := by simp; omega
  have c3 : decide (n < -2147483647) = false := by simp; omega
  have c4 : decide (2147483647 < n) = false := by simp; omega
  rcases (by omega : n < 0 ∨ 0 ≤ n) with hn | hn
  · have hg := gcd_abs n d
    go_enter Tryz.func58, Tryz.ntmps58
    go_wp2
    go_quiet ((first | (go_at_call 96; exact Calls.quiet_of_same ((fmag_neg n _ (by omega) (by omega)).mono fun _ _ h => ⟨h.1, h.2.symm⟩)) | (go_at_call 95; exact Calls.quiet_of (fgcd _ _ _ (by omega) (by omega) (by omega) (by omega)))))
    go_wp2
    go_ret
    exact ⟨by rw [HV.out]; rfl, below_drewN (by go_grown) _⟩
  · go_enter Tryz.func58, Tryz.ntmps58
    go_wp2
    go_quiet ((first | (go_at_call 96; exact Calls.quiet_of_same ((fmag_pos n _ (by omega) (by omega)).mono fun _ _ h => ⟨h.1, h.2.symm⟩)) | (go_at_call 95; exact Calls.quiet_of (fgcd _ _ _ (by omega) (by omega) (by omega) (by omega)))))
    go_wp2
    go_ret
    exact ⟨by rw [HV.out]; rfl, below_drewN (by go_grown) _⟩
theorem valid_any (n d : Int) (w : World) : Calls Tryz.prog 58 #[.agg #[.int .i64 n, .int .i64 d]] w (Ret (.bool (vld n d)) w) := by
  by_cases h : d < 1 ∨ 2147483647 < d ∨ n < -2147483647 ∨ 2147483647 < n
  · rw [vld_out h]; exact valid_out n d w h
  · exact valid_in n d w (by omega) (by omega) (by omega) (by omega)
end Go.Proofs.YtikcinkbkakkmaaGreatDoor.Fr


namespace Go.Proofs.YtikcinkbkakkmaaGreatDoor.Fr
open Go.ChangeShapes Go.WideShapes Go.ChangeAt Go.RowKit
set_option linter.unusedVariables false
set_option linter.unusedSimpArgs false
set_option maxHeartbeats 2000000 in
theorem bval_out (n d : Int) (w : World) (h : d < 1 ∨ 2147483647 < d ∨ n < -2147483647 ∨ 2147483647 < n) :
    Calls Tryz.prog 30 #[.agg #[.int .i64 1, .int .i64 0, .int .i64 0, .int .i64 0, .int .i64 0], .agg #[.int .i64 n, .int .i64 d]] w (Ret (.bool false) w) := by
  obtain ⟨x1, x2, x3, x4, y1, y2, y3, y4⟩ : ∃ x1 x2 x3 x4, decide (d < 1) = x1 ∧ decide (2147483647 < d) = x2 ∧ decide (n < -2147483647) = x3 ∧ decide (2147483647 < n) = x4 := ⟨_, _, _, _, rfl, rfl, rfl, rfl⟩
  have hx : (x1 || x2 || x3 || x4) = true := by subst y1 y2 y3 y4; simp; omega
  clear h
  cases x1 <;> cases x2 <;> cases x3 <;> cases x4 <;> (first | (exfalso; simp at hx; done) | skip)
  all_goals
    clear hx
    go_enter Tryz.func30, Tryz.ntmps30
    go_wp2
    go_ret
    exact ⟨rfl, by go_grown⟩
set_option maxHeartbeats 2000000 in
theorem bval_in (n d : Int) (w : World) (h1 : 1 ≤ d) (h2 : d ≤ 2147483647) (h3 : -2147483647 ≤ n) (h4 : n ≤ 2147483647) :
    Calls Tryz.prog 30 #[.agg #[.int .i64 1, .int .i64 0, .int .i64 0, .int .i64 0, .int .i64 0], .agg #[.int .i64 n, .int .i64 d]] w (Ret (.bool (vld n d)) w) := by
  have HV := Lib.hid (vld_in h1 h2 h3 h4)
  have c1 : decide (d < 1) = false := by simp; omega
  have c2 : decide (2147483647 < d) = false := by simp; omega
  have c3 : decide (n < -2147483647) = false := by simp; omega
  have c4 : decide (2147483647 < n) = false := by simp; omega
  rcases (by omega : n < 0 ∨ 0 ≤ n) with hn | hn
  · have hg := gcd_abs n d
    have hm : max n (-n) = -n := by omega
    have hm2 : decide (n < -n) = true := by simp; omega
    have hm3 : decide (-n < n) = false := by simp; omega
    go_enter Tryz.func30, Tryz.ntmps30
    go_wp2_with (go_at_call 72; refine (bgcd _ _ _ (by omega) (by omega) (by omega) (by omega)).mono ?_; rintro e w1 ⟨rfl, k, rfl⟩)
    go_ret
    exact ⟨by rw [HV.out]; rfl, below_drewN (by go_grown) _⟩
  · have hm : max n (-n) = n := by omega
    have hm2 : decide (n < -n) = false := by simp; omega
    go_enter Tryz.func30, Tryz.ntmps30
    go_wp2_with (go_at_call 72; refine (bgcd _ _ _ (by omega) (by omega) (by omega) (by omega)).mono ?_; rintro e w1 ⟨rfl, k, rfl⟩)
    go_ret
    exact ⟨by rw [HV.out]; rfl, below_drewN (by go_grown) _⟩
theorem bval_any (n d : Int) (w : World) : Calls Tryz.prog 30 #[.agg #[.int .i64 1, .int .i64 0, .int .i64 0, .int .i64 0, .int .i64 0], .agg #[.int .i64 n, .int .i64 d]] w (Ret (.bool (vld n d)) w) := by
  by_cases h : d < 1 ∨ 2147483647 < d ∨ n < -2147483647 ∨ 2147483647 < n
  · rw [vld_out h]; exact bval_out n d w h
  · exact bval_in n d w (by omega) (by omega) (by omega) (by omega)
end Go.Proofs.YtikcinkbkakkmaaGreatDoor.Fr
