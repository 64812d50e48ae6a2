/- The statement on the extremes: its walk. -/
import Derived.Test.YtndmpoomdoojpaaK5
namespace Go.Proofs.Ytndmpoomdoojpaa.Ck
open Go.ChangeShapes Go.WideShapes Go.ChangeAt Go.RowKit
set_option linter.unusedVariables false

theorem cost_ok {n s : Int} (h : 0 ≤ n ∧ n ≤ 64 ∧ 0 ≤ s ∧ s ≤ 64) (w : World) : Calls Try.prog 20 #[.int .i64 n, .int .i64 s] w fun e w' => e = .returned (.tuple #[.int .i64 (co n s), .int .i64 0]) ∧ w = w' := by
  have C := cost n s w
  rw [show ask n s = 0 by unfold ask; rw [inr_ok h]; rfl, show cv n s = co n s by unfold cv; rw [inr_ok h]; rfl] at C
  exact C
set_option maxRecDepth 100000 in
set_option maxHeartbeats 8000000 in
theorem ext_go (a b n s m : Int) (w : World) (ha : 0 ≤ a ∧ a ≤ 255) (hb : 0 ≤ b ∧ b ≤ 255) (hn : a % 65 = n) (hs : b % 64 = s) (hm : (0 < n - 1 ∧ m = n - 1) ∨ (¬ 0 < n - 1 ∧ m = 0)) : Calls Try.prog 11 #[.int .u8 a, .int .u8 b] w fun e w' => e = .returned (.bool true) ∧ Below w.heap.size w w' := by
  have n0 : 0 ≤ n ∧ n ≤ 64 := by omega
  have s0 : 0 ≤ s ∧ s ≤ 63 := by omega
  have em : max 0 (n - 1) = m := by omega
  have m0 : 0 ≤ m ∧ m ≤ 64 := by omega
  obtain ⟨x1, x2, x3, x4, x5⟩ := co_ext n0.1 n0.2 s0.1 s0.2
  rw [em] at x2 x5
  have C1 := Lib.hid fun w => cost_ok (n := n) (s := 0) (by omega) w
  have C2 := Lib.hid fun w => cost_ok (n := n) (s := m) (by omega) w
  have C3 := Lib.hid fun w => cost_ok (n := n) (s := s) (by omega) w
  have C4 := Lib.hid fun w => cost_ok (n := n) (s := s + 1) (by omega) w
  have EX := Lib.hid ex28
  have p0 : 0 ≤ n * (n - 1) := by
    rcases (by omega : n = 0 ∨ 1 ≤ n) with rfl | h
    · decide
    · exact Int.mul_nonneg (by omega) (by omega)
  have p1 : n * (n - 1) ≤ 4096 := by
    rcases (by omega : n = 0 ∨ 1 ≤ n) with rfl | h
    · decide
    · have := Int.mul_le_mul (by omega : n ≤ 64) (by omega : n - 1 ≤ 64) (by omega) (by omega)
      omega
  obtain ⟨P, hP⟩ : ∃ P, n * (n - 1) = P := ⟨_, rfl⟩
  rw [hP] at p0 p1 x1
  obtain ⟨c1, hc1⟩ : ∃ c, co n 0 = c := ⟨_, rfl⟩
  obtain ⟨c3, hc3⟩ : ∃ c, co n s = c := ⟨_, rfl⟩
  obtain ⟨c4, hc4⟩ : ∃ c, co n (s + 1) = c := ⟨_, rfl⟩
  rw [hc1] at C1 x1 x4
  rw [x2] at C2 x5
  rw [hc3] at C3 x3 x4 x5
  rw [hc4] at C4 x3
  clear x2 hc1 hc3 hc4 em
  have q0 : (c1 == P / 2) = true := beq_iff_eq.2 x1
  have q1 : decide (c4 ≤ c3) = true := decide_eq_true x3
  have q2 : decide (c3 ≤ c1) = true := decide_eq_true x4
  have q3 : decide (m ≤ c3) = true := decide_eq_true x5
  clear x1 x3 x4 x5
  have n1 : 0 ≤ n := n0.1
  have n2 : n ≤ 64 := n0.2
  have s1 : 0 ≤ s := s0.1
  have s2 : s ≤ 63 := s0.2
  obtain ⟨a0, a1⟩ := ha
  obtain ⟨b0, b1⟩ := hb
  subst hn hs
  rcases hm with ⟨h, rfl⟩ | ⟨h, rfl⟩
  all_goals
    first | have d1 : decide (0 < a % 65 - 1) = true := decide_eq_true h | have d1 : decide (0 < a % 65 - 1) = false := decide_eq_false h
    first | have d2 : decide (1 < a % 65) = true := decide_eq_true (by omega) | have d2 : decide (1 < a % 65) = false := decide_eq_false (by omega)
    first | have h2 : 1 < a % 65 := by omega | have h2 : a % 65 ≤ 1 := by omega
    clear h m0 n0 s0
    go_enter Try.func11, Try.ntmps11
    go_wp2_with fail
    refine (C1.out _).mono ?_
    rintro e w' ⟨rfl, rfl⟩
    clear C1
    go_wp2_with fail
    all_goals
      first | (exfalso; omega) | skip
      refine (C2.out _).mono ?_
      rintro e w' ⟨rfl, rfl⟩
      clear C2
      go_wp2_with fail
      refine (C3.out _).mono ?_
      rintro e w' ⟨rfl, rfl⟩
      clear C3
      go_wp2_with fail
      refine (C4.out _).mono ?_
      rintro e w' ⟨rfl, rfl⟩
      clear C4
      go_wp2_with fail
      all_goals
        first | (exfalso; omega) | skip
        refine (EX.out _).mono ?_
        rintro e w' ⟨rfl, hb⟩
        go_wp2
        go_ret
        exact ⟨rfl, hb⟩
theorem law_ext (a b : Int) (w : World) (ha : 0 ≤ a ∧ a ≤ 255) (hb : 0 ≤ b ∧ b ≤ 255) : Calls Try.prog 11 #[.int .u8 a, .int .u8 b] w fun e w' => e = .returned (.bool true) ∧ Below w.heap.size w w' := by
  by_cases h : 0 < a % 65 - 1
  · exact ext_go a b _ _ _ w ha hb rfl rfl (.inl ⟨h, rfl⟩)
  · exact ext_go a b _ _ 0 w ha hb rfl rfl (.inr ⟨h, rfl⟩)
theorem law_cost' (n s : Int) (w : World) (_ : -9223372036854775808 ≤ n ∧ n ≤ 9223372036854775807) (_ : -9223372036854775808 ≤ s ∧ s ≤ 9223372036854775807) : Calls Try.prog 4 #[.int .i64 n, .int .i64 s] w fun e w' => e = .returned (.bool true) ∧ Below w.heap.size w w' := law_cost n s w
end Go.Proofs.Ytndmpoomdoojpaa.Ck
