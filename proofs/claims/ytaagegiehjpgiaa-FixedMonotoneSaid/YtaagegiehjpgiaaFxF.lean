/- fit of the reference: a number brought into the range of a fixed-point type. -/
import Derived.Test.YtaagegiehjpgiaaFxVb
import Derived.Test.YtaagegiehjpgiaaFxD
namespace Go.Proofs.Ytaagegiehjpgiaa.Fx
open Go.ChangeShapes Go.WideShapes Go.ChangeAt Go.RowKit
set_option linter.unusedVariables false

open Fr
set_option maxHeartbeats 8000000 in
theorem fit_any (K B F R O n : Int) (w : World) (h : tv K B F R O = true) (n0 : -4611686018427387904 ≤ n) (n1 : n ≤ 4611686018427387904) :
    Calls Try.prog 53 #[.agg #[.int .i64 K, .int .i64 B, .int .i64 F, .int .i64 R, .int .i64 O], .int .i64 n] w (Ret (.agg #[.int .i64 (Nx.nv n B O), .int .i64 1]) w) := by
  obtain ⟨h1, h2, h3, h4, h5, h6, h7, h8⟩ := tv_parts h
  obtain ⟨H1, H2, H3, H4⟩ := half_of h2 h3
  have hg : ¬ Nx.nbad B O := by unfold Nx.nbad; omega
  have HV : Nx.nv n B O = if n < - Nx.half B then (if O = 1 then - Nx.half B else (n + Nx.half B) % (2 * Nx.half B) - Nx.half B)
      else if Nx.half B - 1 < n then (if O = 1 then Nx.half B - 1 else (n + Nx.half B) % (2 * Nx.half B) - Nx.half B) else n := by
    unfold Nx.nv; rw [if_neg hg, H4]
  rw [HV]
  clear HV hg H4
  have HM := emod_tmod (n + Nx.half B) (2 * Nx.half B) (by omega)
  have HT := Plain.tfacts (n + Nx.half B) (2 * Nx.half B) (by omega)
  generalize Nx.half B = H at *
  obtain ⟨m, hm⟩ : ∃ m, (n + H).tmod (2 * H) = m := ⟨_, rfl⟩
  rw [hm] at HM HT
  obtain ⟨T1, _, _, _, _⟩ := HT
  have g1 : 0 ≤ B - 1 := by omega
  have z1 : (2 * H == 0) = false := by simp <;> omega
  by_cases c1 : - H ≤ n
  · by_cases c2 : n < H
    · rw [if_neg (by omega), if_neg (by omega)]
      have k1 : decide (-H ≤ n) = true := by simpa using c1
      have k2 : decide (n < H) = true := by simpa using c2
      clear h h1 h4 h5 h6 h7 h8 HM
      go_enter Try.func53, Try.ntmps53
      go_wp2
      go_returns
      exact ⟨rfl, by go_grown⟩
    · rw [if_neg (by omega), if_pos (by omega)]
      have k1 : decide (-H ≤ n) = true := by simpa using c1
      have k2 : decide (n < H) = false := by simpa using c2
      have k3 : decide (n < 0) = false := by simp <;> omega
      rcases h8 with h8 | h8
      · rw [if_pos h8]
        have k4 : (O == 1) = true := by simpa using h8
        clear h h1 h4 h5 h6 h7 h8 HM
        go_enter Try.func53, Try.ntmps53
        go_wp2
        go_returns
        exact ⟨rfl, by go_grown⟩
      · rw [if_neg (by omega)]
        have k4 : (O == 1) = false := by simp <;> omega
        have p0 := Int.emod_nonneg (n + H) (b := 2 * H) (by omega)
        have p1 := Int.emod_lt_of_pos (n + H) (b := 2 * H) (by omega)
        obtain ⟨p, hp⟩ : ∃ p, (n + H) % (2 * H) = p := ⟨_, rfl⟩
        rw [hp] at p0 p1 ⊢
        have k5 : decide (p < 0) = false := by simp <;> omega
        clear h h1 h4 h5 h6 h7 h8 HM hm T1
        go_enter Try.func53, Try.ntmps53
        go_wp2
        go_returns
        exact ⟨rfl, by go_grown⟩
  · rw [if_pos (by omega)]
    have k1 : decide (-H ≤ n) = false := by simp <;> omega
    have k3 : decide (n < 0) = true := by simp <;> omega
    rcases h8 with h8 | h8
    · rw [if_pos h8]
      have k4 : (O == 1) = true := by simpa using h8
      clear h h1 h4 h5 h6 h7 h8 HM
      go_enter Try.func53, Try.ntmps53
      go_wp2
      go_returns
      exact ⟨rfl, by go_grown⟩
    · rw [if_neg (by omega), HM]
      have k4 : (O == 1) = false := by simp <;> omega
      clear h h1 h4 h5 h6 h7 h8 HM
      by_cases c3 : m < 0
      · rw [if_pos c3]
        have k5 : decide (m < 0) = true := by simpa using c3
        go_enter Try.func53, Try.ntmps53
        go_wp2
        go_returns
        exact ⟨rfl, by go_grown⟩
      · rw [if_neg c3]
        have k5 : decide (m < 0) = false := by simpa using c3
        go_enter Try.func53, Try.ntmps53
        go_wp2
        go_returns
        exact ⟨rfl, by go_grown⟩
end Go.Proofs.Ytaagegiehjpgiaa.Fx
