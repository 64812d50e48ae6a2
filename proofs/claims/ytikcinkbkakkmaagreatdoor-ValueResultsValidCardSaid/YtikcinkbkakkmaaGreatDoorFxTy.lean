/- ValidateType of package fixed and Type of the base, at a fixed-point kind. -/
import Derived.Test.YtikcinkbkakkmaaGreatDoorGcd

namespace Go.Proofs.YtikcinkbkakkmaaGreatDoor.Fx
open Go.ChangeShapes Go.WideShapes Go.ChangeAt Go.RowKit
open Fr
set_option linter.unusedVariables false
set_option linter.unusedSimpArgs false
abbrev Ty (K B F R O : Int) : Value := .agg #[.int .i64 K, .int .i64 B, .int .i64 F, .int .i64 R, .int .i64 O]
abbrev Vl (n d : Int) : Value := .agg #[.int .i64 n, .int .i64 d]
/-- The fixed-point types. -/
def tv (K B F R O : Int) : Bool := decide (K = 2 ∧ 2 ≤ B ∧ B ≤ 31 ∧ 0 ≤ F ∧ F ≤ 30 ∧ 1 ≤ R ∧ R ≤ 4 ∧ (O = 1 ∨ O = 2))
theorem tv_parts {K B F R O : Int} (h : tv K B F R O = true) : K = 2 ∧ 2 ≤ B ∧ B ≤ 31 ∧ 0 ≤ F ∧ F ≤ 30 ∧ 1 ≤ R ∧ R ≤ 4 ∧ (O = 1 ∨ O = 2) := by
  unfold tv at h; exact of_decide_eq_true h
theorem tv_cases {K B F R O : Int} (h : tv K B F R O = false) : K ≠ 2 ∨ (K = 2 ∧ B < 2) ∨ (K = 2 ∧ 2 ≤ B ∧ 31 < B) ∨ (K = 2 ∧ 2 ≤ B ∧ B ≤ 31 ∧ F < 0) ∨ (K = 2 ∧ 2 ≤ B ∧ B ≤ 31 ∧ 0 ≤ F ∧ 30 < F) ∨
    (K = 2 ∧ 2 ≤ B ∧ B ≤ 31 ∧ 0 ≤ F ∧ F ≤ 30 ∧ R < 1) ∨ (K = 2 ∧ 2 ≤ B ∧ B ≤ 31 ∧ 0 ≤ F ∧ F ≤ 30 ∧ 1 ≤ R ∧ 4 < R) ∨ (K = 2 ∧ 2 ≤ B ∧ B ≤ 31 ∧ 0 ≤ F ∧ F ≤ 30 ∧ 1 ≤ R ∧ R ≤ 4 ∧ O ≠ 1 ∧ O ≠ 2) := by
  unfold tv at h
  have := of_decide_eq_false h
  omega
set_option maxHeartbeats 4000000 in
theorem vt_bad (K B F R O : Int) (w : World) (h : tv K B F R O = false) : Calls Tryz.prog 60 #[.agg #[.int .i64 K, .int .i64 B, .int .i64 F, .int .i64 R, .int .i64 O]] w (Ret (.int .i64 10) w) := by
  rcases tv_cases h with h | h | h | h | h | h | h | h
  · have K2a : (K == 2) = false := by simp <;> omega
    have K2b : (K != 2) = true := by simp <;> omega
    clear h
    go_enter Tryz.func60, Tryz.ntmps60
    go_wp2
    go_ret
    exact ⟨rfl, by go_grown⟩
  · have K2a : (K == 2) = true := by simp <;> omega
    have K2b : (K != 2) = false := by simp <;> omega
    have B0a : decide (2 ≤ B) = false := by simp <;> omega
    have B0b : decide (B < 2) = true := by simp <;> omega
    clear h
    go_enter Tryz.func60, Tryz.ntmps60
    go_wp2
    go_ret
    exact ⟨rfl, by go_grown⟩
  · have K2a : (K == 2) = true := by simp <;> omega
    have K2b : (K != 2) = false := by simp <;> omega
    have B0a : decide (2 ≤ B) = true := by simp <;> omega
    have B0b : decide (B < 2) = false := by simp <;> omega
    have B1a : decide (B ≤ 31) = false := by simp <;> omega
    have B1b : decide (31 < B) = true := by simp <;> omega
    clear h
    go_enter Tryz.func60, Tryz.ntmps60
    go_wp2
    go_ret
    exact ⟨rfl, by go_grown⟩
  · have K2a : (K == 2) = true := by simp <;> omega
    have K2b : (K != 2) = false := by simp <;> omega
    have B0a : decide (2 ≤ B) = true := by simp <;> omega
    have B0b : decide (B < 2) = false := by simp <;> omega
    have B1a : decide (B ≤ 31) = true := by simp <;> omega
    have B1b : decide (31 < B) = false := by simp <;> omega
    have F0a : decide (0 ≤ F) = false := by simp <;> omega
    have F0b : decide (F < 0) = true := by simp <;> omega
    clear h
    go_enter Tryz.func60, Tryz.ntmps60
    go_wp2
    go_ret
    exact ⟨rfl, by go_grown⟩
  · have K2a : (K == 2) = true := by simp <;> omega
    have K2b : (K != 2) = false := by simp <;> omega
    have B0a : decide (2 ≤ B) = true := by simp <;> omega
    have B0b : decide (B < 2) = false := by simp <;> omega
    have B1a : decide (B ≤ 31) = true := by simp <;> omega
    have B1b : decide (31 < B) = false := by simp <;> omega
    have F0a : decide (0 ≤ F) = true := by simp <;> omega
    have F0b : decide (F < 0) = false := by simp <;> omega
    have F1a : decide (F ≤ 30) = false := by simp <;> omega
    have F1b : decide (30 < F) = true := by simp <;> omega
    clear h
    go_enter Tryz.func60, Tryz.ntmps60
    go_wp2
    go_ret
    exact ⟨rfl, by go_grown⟩
  · have K2a : (K == 2) = true := by simp <;> omega
    have K2b : (K != 2) = false := by simp <;> omega
    have B0a : decide (2 ≤ B) = true := by simp <;> omega
    have B0b : decide (B < 2) = false := by simp <;> omega
    have B1a : decide (B ≤ 31) = true := by simp <;> omega
    have B1b : decide (31 < B) = false := by simp <;> omega
    have F0a : decide (0 ≤ F) = true := by simp <;> omega
    have F0b : decide (F < 0) = false := by simp <;> omega
    have F1a : decide (F ≤ 30) = true := by simp <;> omega
    have F1b : decide (30 < F) = false := by simp <;> omega
    have R0a : decide (1 ≤ R) = false := by simp <;> omega
    have R0b : decide (R < 1) = true := by simp <;> omega
    clear h
    go_enter Tryz.func60, Tryz.ntmps60
    go_wp2
    go_ret
    exact ⟨rfl, by go_grown⟩
  · have K2a : (K == 2) = true := by simp <;> omega
    have K2b : (K != 2) = false := by simp <;> omega
    have B0a : decide (2 ≤ B) = true := by simp <;> omega
    have B0b : decide (B < 2) = false := by simp <;> omega
    have B1a : decide (B ≤ 31) = true := by simp <;> omega
    have B1b : decide (31 < B) = false := by simp <;> omega
    have F0a : decide (0 ≤ F) = true := by simp <;> omega
    have F0b : decide (F < 0) = false := by simp <;> omega
    have F1a : decide (F ≤ 30) = true := by simp <;> omega
    have F1b : decide (30 < F) = false := by simp <;> omega
    have R0a : decide (1 ≤ R) = true := by simp <;> omega
    have R0b : decide (R < 1) = false := by simp <;> omega
    have R1a : decide (R ≤ 4) = false := by simp <;> omega
    have R1b : decide (4 < R) = true := by simp <;> omega
    clear h
    go_enter Tryz.func60, Tryz.ntmps60
    go_wp2
    go_ret
    exact ⟨rfl, by go_grown⟩
  · have K2a : (K == 2) = true := by simp <;> omega
    have K2b : (K != 2) = false := by simp <;> omega
    have B0a : decide (2 ≤ B) = true := by simp <;> omega
    have B0b : decide (B < 2) = false := by simp <;> omega
    have B1a : decide (B ≤ 31) = true := by simp <;> omega
    have B1b : decide (31 < B) = false := by simp <;> omega
    have F0a : decide (0 ≤ F) = true := by simp <;> omega
    have F0b : decide (F < 0) = false := by simp <;> omega
    have F1a : decide (F ≤ 30) = true := by simp <;> omega
    have F1b : decide (30 < F) = false := by simp <;> omega
    have R0a : decide (1 ≤ R) = true := by simp <;> omega
    have R0b : decide (R < 1) = false := by simp <;> omega
    have R1a : decide (R ≤ 4) = true := by simp <;> omega
    have R1b : decide (4 < R) = false := by simp <;> omega
    have O1a : (O == 1) = false := by simp <;> omega
    have O1b : (O != 1) = true := by simp <;> omega
    have O2a : (O == 2) = false := by simp <;> omega
    have O2b : (O != 2) = true := by simp <;> omega
    clear h
    go_enter Tryz.func60, Tryz.ntmps60
    go_wp2
    go_ret
    exact ⟨rfl, by go_grown⟩
set_option maxHeartbeats 4000000 in
theorem vt_ok (K B F R O : Int) (w : World) (h : tv K B F R O = true) : Calls Tryz.prog 60 #[.agg #[.int .i64 K, .int .i64 B, .int .i64 F, .int .i64 R, .int .i64 O]] w (Ret (.int .i64 0) w) := by
  obtain ⟨h1, h2, h3, h4, h5, h6, h7, h8⟩ := tv_parts h
  rcases h8 with h8 | h8
  · have K2a : (K == 2) = true := by simp <;> omega
    have K2b : (K != 2) = false := by simp <;> omega
    have B0a : decide (2 ≤ B) = true := by simp <;> omega
    have B0b : decide (B < 2) = false := by simp <;> omega
    have B1a : decide (B ≤ 31) = true := by simp <;> omega
    have B1b : decide (31 < B) = false := by simp <;> omega
    have F0a : decide (0 ≤ F) = true := by simp <;> omega
    have F0b : decide (F < 0) = false := by simp <;> omega
    have F1a : decide (F ≤ 30) = true := by simp <;> omega
    have F1b : decide (30 < F) = false := by simp <;> omega
    have R0a : decide (1 ≤ R) = true := by simp <;> omega
    have R0b : decide (R < 1) = false := by simp <;> omega
    have R1a : decide (R ≤ 4) = true := by simp <;> omega
    have R1b : decide (4 < R) = false := by simp <;> omega
    have O1a : (O == 1) = true := by simp <;> omega
    have O1b : (O != 1) = false := by simp <;> omega
    have O2a : (O == 2) = false := by simp <;> omega
    have O2b : (O != 2) = true := by simp <;> omega
    clear h h1 h2 h3 h4 h5 h6 h7 h8
    go_enter Tryz.func60, Tryz.ntmps60
    go_wp2
    go_ret
    exact ⟨rfl, by go_grown⟩
  · have K2a : (K == 2) = true := by simp <;> omega
    have K2b : (K != 2) = false := by simp <;> omega
    have B0a : decide (2 ≤ B) = true := by simp <;> omega
    have B0b : decide (B < 2) = false := by simp <;> omega
    have B1a : decide (B ≤ 31) = true := by simp <;> omega
    have B1b : decide (31 < B) = false := by simp <;> omega
    have F0a : decide (0 ≤ F) = true := by simp <;> omega
    have F0b : decide (F < 0) = false := by simp <;> omega
    have F1a : decide (F ≤ 30) = true := by simp <;> omega
    have F1b : decide (30 < F) = false := by simp <;> omega
    have R0a : decide (1 ≤ R) = true := by simp <;> omega
    have R0b : decide (R < 1) = false := by simp <;> omega
    have R1a : decide (R ≤ 4) = true := by simp <;> omega
    have R1b : decide (4 < R) = false := by simp <;> omega
    have O1a : (O == 1) = false := by simp <;> omega
    have O1b : (O != 1) = true := by simp <;> omega
    have O2a : (O == 2) = true := by simp <;> omega
    have O2b : (O != 2) = false := by simp <;> omega
    clear h h1 h2 h3 h4 h5 h6 h7 h8
    go_enter Tryz.func60, Tryz.ntmps60
    go_wp2
    go_ret
    exact ⟨rfl, by go_grown⟩
set_option maxHeartbeats 4000000 in
theorem bt_bad (K B F R O : Int) (w : World) (h : tv K B F R O = false) (hk : K = 2) : Calls Tryz.prog 29 #[.agg #[.int .i64 K, .int .i64 B, .int .i64 F, .int .i64 R, .int .i64 O]] w (Ret (.bool false) w) := by
  rcases tv_cases h with h | h | h | h | h | h | h | h
  · exact absurd hk h
  · have K2a : (K == 2) = true := by simp <;> omega
    have K1a : (K == 1) = false := by simp <;> omega
    have K3a : (K == 3) = false := by simp <;> omega
    have K2b : (K != 2) = false := by simp <;> omega
    have B0a : decide (2 ≤ B) = false := by simp <;> omega
    have B0b : decide (B < 2) = true := by simp <;> omega
    clear h
    go_enter Tryz.func29, Tryz.ntmps29
    go_wp2
    go_ret
    exact ⟨rfl, by go_grown⟩
  · have K2a : (K == 2) = true := by simp <;> omega
    have K1a : (K == 1) = false := by simp <;> omega
    have K3a : (K == 3) = false := by simp <;> omega
    have K2b : (K != 2) = false := by simp <;> omega
    have B0a : decide (2 ≤ B) = true := by simp <;> omega
    have B0b : decide (B < 2) = false := by simp <;> omega
    have B1a : decide (B ≤ 31) = false := by simp <;> omega
    have B1b : decide (31 < B) = true := by simp <;> omega
    clear h
    go_enter Tryz.func29, Tryz.ntmps29
    go_wp2
    go_ret
    exact ⟨rfl, by go_grown⟩
  · have K2a : (K == 2) = true := by simp <;> omega
    have K1a : (K == 1) = false := by simp <;> omega
    have K3a : (K == 3) = false := by simp <;> omega
    have K2b : (K != 2) = false := by simp <;> omega
    have B0a : decide (2 ≤ B) = true := by simp <;> omega
    have B0b : decide (B < 2) = false := by simp <;> omega
    have B1a : decide (B ≤ 31) = true := by simp <;> omega
    have B1b : decide (31 < B) = false := by simp <;> omega
    have F0a : decide (0 ≤ F) = false := by simp <;> omega
    have F0b : decide (F < 0) = true := by simp <;> omega
    clear h
    go_enter Tryz.func29, Tryz.ntmps29
    go_wp2
    go_ret
    exact ⟨rfl, by go_grown⟩
  · have K2a : (K == 2) = true := by simp <;> omega
    have K1a : (K == 1) = false := by simp <;> omega
    have K3a : (K == 3) = false := by simp <;> omega
    have K2b : (K != 2) = false := by simp <;> omega
    have B0a : decide (2 ≤ B) = true := by simp <;> omega
    have B0b : decide (B < 2) = false := by simp <;> omega
    have B1a : decide (B ≤ 31) = true := by simp <;> omega
    have B1b : decide (31 < B) = false := by simp <;> omega
    have F0a : decide (0 ≤ F) = true := by simp <;> omega
    have F0b : decide (F < 0) = false := by simp <;> omega
    have F1a : decide (F ≤ 30) = false := by simp <;> omega
    have F1b : decide (30 < F) = true := by simp <;> omega
    clear h
    go_enter Tryz.func29, Tryz.ntmps29
    go_wp2
    go_ret
    exact ⟨rfl, by go_grown⟩
  · have K2a : (K == 2) = true := by simp <;> omega
    have K1a : (K == 1) = false := by simp <;> omega
    have K3a : (K == 3) = false := by simp <;> omega
    have K2b : (K != 2) = false := by simp <;> omega
    have B0a : decide (2 ≤ B) = true := by simp <;> omega
    have B0b : decide (B < 2) = false := by simp <;> omega
    have B1a : decide (B ≤ 31) = true := by simp <;> omega
    have B1b : decide (31 < B) = false := by simp <;> omega
    have F0a : decide (0 ≤ F) = true := by simp <;> omega
    have F0b : decide (F < 0) = false := by simp <;> omega
    have F1a : decide (F ≤ 30) = true := by simp <;> omega
    have F1b : decide (30 < F) = false := by simp <;> omega
    have R0a : decide (1 ≤ R) = false := by simp <;> omega
    have R0b : decide (R < 1) = true := by simp <;> omega
    clear h
    go_enter Tryz.func29, Tryz.ntmps29
    go_wp2
    go_ret
    exact ⟨rfl, by go_grown⟩
  · have K2a : (K == 2) = true := by simp <;> omega
    have K1a : (K == 1) = false := by simp <;> omega
    have K3a : (K == 3) = false := by simp <;> omega
    have K2b : (K != 2) = false := by simp <;> omega
    have B0a : decide (2 ≤ B) = true := by simp <;> omega
    have B0b : decide (B < 2) = false := by simp <;> omega
    have B1a : decide (B ≤ 31) = true := by simp <;> omega
    have B1b : decide (31 < B) = false := by simp <;> omega
    have F0a : decide (0 ≤ F) = true := by simp <;> omega
    have F0b : decide (F < 0) = false := by simp <;> omega
    have F1a : decide (F ≤ 30) = true := by simp <;> omega
    have F1b : decide (30 < F) = false := by simp <;> omega
    have R0a : decide (1 ≤ R) = true := by simp <;> omega
    have R0b : decide (R < 1) = false := by simp <;> omega
    have R1a : decide (R ≤ 4) = false := by simp <;> omega
    have R1b : decide (4 < R) = true := by simp <;> omega
    clear h
    go_enter Tryz.func29, Tryz.ntmps29
    go_wp2
    go_ret
    exact ⟨rfl, by go_grown⟩
  · have K2a : (K == 2) = true := by simp <;> omega
    have K1a : (K == 1) = false := by simp <;> omega
    have K3a : (K == 3) = false := by simp <;> omega
    have K2b : (K != 2) = false := by simp <;> omega
    have B0a : decide (2 ≤ B) = true := by simp <;> omega
    have B0b : decide (B < 2) = false := by simp <;> omega
    have B1a : decide (B ≤ 31) = true := by simp <;> omega
    have B1b : decide (31 < B) = false := by simp <;> omega
    have F0a : decide (0 ≤ F) = true := by simp <;> omega
    have F0b : decide (F < 0) = false := by simp <;> omega
    have F1a : decide (F ≤ 30) = true := by simp <;> omega
    have F1b : decide (30 < F) = false := by simp <;> omega
    have R0a : decide (1 ≤ R) = true := by simp <;> omega
    have R0b : decide (R < 1) = false := by simp <;> omega
    have R1a : decide (R ≤ 4) = true := by simp <;> omega
    have R1b : decide (4 < R) = false := by simp <;> omega
    have O1a : (O == 1) = false := by simp <;> omega
    have O1b : (O != 1) = true := by simp <;> omega
    have O2a : (O == 2) = false := by simp <;> omega
    have O2b : (O != 2) = true := by simp <;> omega
    clear h
    go_enter Tryz.func29, Tryz.ntmps29
    go_wp2
    go_ret
    exact ⟨rfl, by go_grown⟩
set_option maxHeartbeats 4000000 in
theorem bt_ok (K B F R O : Int) (w : World) (h : tv K B F R O = true) : Calls Tryz.prog 29 #[.agg #[.int .i64 K, .int .i64 B, .int .i64 F, .int .i64 R, .int .i64 O]] w (Ret (.bool true) w) := by
  obtain ⟨h1, h2, h3, h4, h5, h6, h7, h8⟩ := tv_parts h
  rcases h8 with h8 | h8
  · have K2a : (K == 2) = true := by simp <;> omega
    have K1a : (K == 1) = false := by simp <;> omega
    have K3a : (K == 3) = false := by simp <;> omega
    have K2b : (K != 2) = false := by simp <;> omega
    have B0a : decide (2 ≤ B) = true := by simp <;> omega
    have B0b : decide (B < 2) = false := by simp <;> omega
    have B1a : decide (B ≤ 31) = true := by simp <;> omega
    have B1b : decide (31 < B) = false := by simp <;> omega
    have F0a : decide (0 ≤ F) = true := by simp <;> omega
    have F0b : decide (F < 0) = false := by simp <;> omega
    have F1a : decide (F ≤ 30) = true := by simp <;> omega
    have F1b : decide (30 < F) = false := by simp <;> omega
    have R0a : decide (1 ≤ R) = true := by simp <;> omega
    have R0b : decide (R < 1) = false := by simp <;> omega
    have R1a : decide (R ≤ 4) = true := by simp <;> omega
    have R1b : decide (4 < R) = false := by simp <;> omega
    have O1a : (O == 1) = true := by simp <;> omega
    have O1b : (O != 1) = false := by simp <;> omega
    have O2a : (O == 2) = false := by simp <;> omega
    have O2b : (O != 2) = true := by simp <;> omega
    clear h h1 h2 h3 h4 h5 h6 h7 h8
    go_enter Tryz.func29, Tryz.ntmps29
    go_wp2
    go_ret
    exact ⟨rfl, by go_grown⟩
  · have K2a : (K == 2) = true := by simp <;> omega
    have K1a : (K == 1) = false := by simp <;> omega
    have K3a : (K == 3) = false := by simp <;> omega
    have K2b : (K != 2) = false := by simp <;> omega
    have B0a : decide (2 ≤ B) = true := by simp <;> omega
    have B0b : decide (B < 2) = false := by simp <;> omega
    have B1a : decide (B ≤ 31) = true := by simp <;> omega
    have B1b : decide (31 < B) = false := by simp <;> omega
    have F0a : decide (0 ≤ F) = true := by simp <;> omega
    have F0b : decide (F < 0) = false := by simp <;> omega
    have F1a : decide (F ≤ 30) = true := by simp <;> omega
    have F1b : decide (30 < F) = false := by simp <;> omega
    have R0a : decide (1 ≤ R) = true := by simp <;> omega
    have R0b : decide (R < 1) = false := by simp <;> omega
    have R1a : decide (R ≤ 4) = true := by simp <;> omega
    have R1b : decide (4 < R) = false := by simp <;> omega
    have O1a : (O == 1) = false := by simp <;> omega
    have O1b : (O != 1) = true := by simp <;> omega
    have O2a : (O == 2) = true := by simp <;> omega
    have O2b : (O != 2) = false := by simp <;> omega
    clear h h1 h2 h3 h4 h5 h6 h7 h8
    go_enter Tryz.func29, Tryz.ntmps29
    go_wp2
    go_ret
    exact ⟨rfl, by go_grown⟩
end Go.Proofs.YtikcinkbkakkmaaGreatDoor.Fx
