/- Valid of package fixed and of the reference; Val of the base at a fixed-point kind. -/
import Derived.Test.YtaagegiehjpgiaaFxVa
namespace Go.Proofs.Ytaagegiehjpgiaa.Fx
open Go.ChangeShapes Go.WideShapes Go.ChangeAt Go.RowKit
set_option linter.unusedVariables false

open Fr
/-- The values of a fixed-point type. -/
def fv (K B F R O n d : Int) : Bool := tv K B F R O && decide (d = 1 ∧ - Nx.half B ≤ n ∧ n ≤ Nx.half B - 1)
theorem half_of {B : Int} (h : 2 ≤ B) (h' : B ≤ 31) : (2 : Int) ^ (B.toNat - 1) = Nx.half B ∧ 2 ≤ Nx.half B ∧ Nx.half B ≤ 1073741824 ∧ Nx.full B = 2 * Nx.half B := by
  rcases Nx.widths B h h' with ⟨rfl, hh, hf⟩ | ⟨rfl, hh, hf⟩ | ⟨rfl, hh, hf⟩ | ⟨rfl, hh, hf⟩ | ⟨rfl, hh, hf⟩ | ⟨rfl, hh, hf⟩ | ⟨rfl, hh, hf⟩ | ⟨rfl, hh, hf⟩ | ⟨rfl, hh, hf⟩ | ⟨rfl, hh, hf⟩ | ⟨rfl, hh, hf⟩ | ⟨rfl, hh, hf⟩ | ⟨rfl, hh, hf⟩ | ⟨rfl, hh, hf⟩ | ⟨rfl, hh, hf⟩ | ⟨rfl, hh, hf⟩ | ⟨rfl, hh, hf⟩ | ⟨rfl, hh, hf⟩ | ⟨rfl, hh, hf⟩ | ⟨rfl, hh, hf⟩ | ⟨rfl, hh, hf⟩ | ⟨rfl, hh, hf⟩ | ⟨rfl, hh, hf⟩ | ⟨rfl, hh, hf⟩ | ⟨rfl, hh, hf⟩ | ⟨rfl, hh, hf⟩ | ⟨rfl, hh, hf⟩ | ⟨rfl, hh, hf⟩ | ⟨rfl, hh, hf⟩ | ⟨rfl, hh, hf⟩
  all_goals exact ⟨rfl, by omega, by omega, by omega⟩
theorem fval (K B F R O n d : Int) (w : World) (b0 : -9223372036854775808 ≤ B) (b1 : B ≤ 9223372036854775807) : Calls Try.prog 19 #[.agg #[.int .i64 K, .int .i64 B, .int .i64 F, .int .i64 R, .int .i64 O], .agg #[.int .i64 n, .int .i64 d]] w (Ret (.bool (fv K B F R O n d)) w) := by
  have MN := Lib.hid fun w => Nx.min_any B w b0 b1
  have MX := Lib.hid fun w => Nx.max_any B w b0 b1
  by_cases h : tv K B F R O = true
  · obtain ⟨h1, h2, h3, h4, h5, h6, h7, h8⟩ := tv_parts h
    have VT := Lib.hid fun w => vt_ok K B F R O w h
    have e1 : Nx.mnv B = - Nx.half B := by unfold Nx.mnv; rw [if_neg (by omega)]
    have e2 : Nx.mxv B = Nx.half B - 1 := by unfold Nx.mxv; rw [if_neg (by omega)]
    rw [e1] at MN
    rw [e2] at MX
    unfold fv
    rw [h, Bool.true_and]
    by_cases hd : d = 1
    · by_cases hl : - Nx.half B ≤ n
      · exact fval_hi K B F R O n d _ _ w VT MN MX _ (by simpa using hd) (by simpa using hl) (by simp [hd, hl])
      · rw [decide_eq_false (by omega)]
        exact fval_lo K B F R O n d _ _ w VT MN MX (by simpa using hd) (by simp; omega)
    · rw [decide_eq_false (by omega)]
      exact fval_d K B F R O n d _ _ w VT MN MX (by simpa using hd)
  · have h' : tv K B F R O = false := by simpa using h
    have VT := Lib.hid fun w => vt_bad K B F R O w h'
    unfold fv
    rw [h', Bool.false_and]
    exact fval_tv K B F R O n d _ _ w VT MN MX
set_option maxHeartbeats 4000000 in
theorem bvk (K B F R O n d : Int) (w : World) (h : tv K B F R O = true) : Calls Try.prog 50 #[.agg #[.int .i64 K, .int .i64 B, .int .i64 F, .int .i64 R, .int .i64 O], .agg #[.int .i64 n, .int .i64 d]] w (Ret (.bool (fv K B F R O n d)) w) := by
  obtain ⟨h1, h2, h3, h4, h5, h6, h7, h8⟩ := tv_parts h
  unfold fv
  rw [h, Bool.true_and]
  obtain ⟨H1, H2, H3, _⟩ := half_of h2 h3
  generalize Nx.half B = H at *
  have k1 : (K == 2) = true := by simpa using h1
  have g1 : 0 ≤ B - 1 := by omega
  clear h h1 h4 h5 h6 h7 h8
  by_cases hd : d = 1
  · by_cases hl : - H ≤ n
    · obtain ⟨x, hx⟩ : ∃ x, decide (n < H) = x := ⟨_, rfl⟩
      have e : decide (d = 1 ∧ -H ≤ n ∧ n ≤ H - 1) = x := by rw [← hx]; simp [hd, hl]; omega
      rw [e]
      have k2 : (d == 1) = true := by simpa using hd
      have k3 : decide (-H ≤ n) = true := by simpa using hl
      clear e hd hl
      cases x
      all_goals
        go_enter Try.func50, Try.ntmps50
        go_wp2
        go_ret
        exact ⟨rfl, by go_grown⟩
    · rw [decide_eq_false (by omega)]
      have k2 : (d == 1) = true := by simpa using hd
      have k3 : decide (-H ≤ n) = false := by simp; omega
      clear hd hl
      go_enter Try.func50, Try.ntmps50
      go_wp2
      go_ret
      exact ⟨rfl, by go_grown⟩
  · rw [decide_eq_false (by omega)]
    have k2 : (d == 1) = false := by simpa using hd
    clear hd
    go_enter Try.func50, Try.ntmps50
    go_wp2
    go_ret
    exact ⟨rfl, by go_grown⟩
set_option maxHeartbeats 4000000 in
theorem rval (K B F R O n d : Int) (w : World) : Calls Try.prog 20 #[.agg #[.int .i64 K, .int .i64 B, .int .i64 F, .int .i64 R, .int .i64 O], .agg #[.int .i64 n, .int .i64 d]] w (Ret (.bool (fv K B F R O n d)) w) := by
  by_cases h : tv K B F R O = true
  · have VT := Lib.hid fun w => rvt_ok K B F R O w h
    have VV := Lib.hid fun w => bvk K B F R O n d w h
    generalize fv K B F R O n d = x at *
    clear h
    cases x
    all_goals
      go_enter Try.func20, Try.ntmps20
      go_wp2_with (first | (go_at_call 18; refine (VT.out _).mono ?_; rintro e w1 ⟨rfl, hb⟩; have hc := (bcell hb).1; have hf := (bcell hb).2; have hz : w.heap.size + 1 < w1.heap.size := by have := hb.size; simp at this; omega) | (go_at_call 50; refine (VV.out _).mono ?_; rintro e w2 ⟨rfl, hb2⟩))
      go_ret
      exact ⟨rfl, ((below2 _ _ _).trans (hb.mono (by simp; omega))).trans (hb2.mono (by omega))⟩
  · have h' : tv K B F R O = false := by simpa using h
    have VT := Lib.hid fun w => rvt_bad K B F R O w h'
    unfold fv
    rw [h', Bool.false_and]
    clear h h'
    go_enter Try.func20, Try.ntmps20
    go_wp2_with (first | (go_at_call 18; refine (VT.out _).mono ?_; rintro e w1 ⟨rfl, hb⟩))
    go_ret
    exact ⟨rfl, (below2 _ _ _).trans (hb.mono (by simp; omega))⟩
end Go.Proofs.Ytaagegiehjpgiaa.Fx
