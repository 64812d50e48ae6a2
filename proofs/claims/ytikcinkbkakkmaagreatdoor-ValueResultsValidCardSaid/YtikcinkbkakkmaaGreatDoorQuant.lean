/- Quantize of package round and of the reference. -/
import Derived.Test.YtikcinkbkakkmaaGreatDoorGA
import Derived.Test.YtikcinkbkakkmaaGreatDoorGC

namespace Go.Proofs.YtikcinkbkakkmaaGreatDoor.Fr
open Go.ChangeShapes Go.WideShapes Go.ChangeAt Go.RowKit
set_option linter.unusedVariables false
set_option linter.unusedSimpArgs false
def mdv (how : Int) : Bool := decide (1 ≤ how ∧ how ≤ 4)
theorem mode_any (how : Int) (w : World) : Calls Tryz.prog 105 #[.int .i64 how] w fun e w' => e = .returned (.bool (mdv how)) ∧ w = w' := by
  by_cases h : how < 1 ∨ 4 < how
  · rw [show mdv how = false from by unfold mdv; rw [decide_eq_false_iff_not]; omega]
    exact Dv.mode_bad how w h
  · rw [show mdv how = true from by unfold mdv; rw [decide_eq_true_eq]; omega]
    exact Dv.mode_ok how w (by omega) (by omega)
theorem isfr_any (n d : Int) (w : World) : Calls Tryz.prog 114 #[.agg #[.int .i64 n, .int .i64 d]] w (Ret (.bool (vld n d)) w) := by
  go_enter Tryz.func114, Tryz.ntmps114
  go_wp2_with (go_at_call 58; refine (valid_any _ _ _).mono ?_; rintro e w1 ⟨rfl, hb⟩)
  go_ret
  exact ⟨rfl, ((Below.refl _ _).alloc (Nat.le_refl _) _).trans (hb.mono (by simp))⟩
/-- All is well with the arguments of Quantize. -/
def qok (n d frac how : Int) : Bool := vld n d && !decide (frac < 0) && !decide (30 < frac) && mdv how
set_option maxHeartbeats 4000000 in
theorem quant_bad (n d frac how : Int) (w : World) (h : qok n d frac how = false) :
    Calls Tryz.prog 93 #[.agg #[.int .i64 n, .int .i64 d], .int .i64 frac, .int .i64 how] w (Ret (.tuple #[.int .i64 0, .int .i64 1]) w) := by
  unfold qok at h
  obtain ⟨x1, x2, x3, x4, y1, y2, y3, y4⟩ : ∃ x1 x2 x3 x4, vld n d = x1 ∧ decide (frac < 0) = x2 ∧ decide (30 < frac) = x3 ∧ mdv how = x4 := ⟨_, _, _, _, rfl, rfl, rfl, rfl⟩
  rw [y1, y2, y3, y4] at h
  cases x1 <;> cases x2 <;> cases x3 <;> cases x4 <;> (first | (exfalso; simp at h; done) | skip)
  all_goals
    clear h
    go_enter Tryz.func93, Tryz.ntmps93
    go_wp2_with (first | (go_at_call 114; refine (isfr_any _ _ _).mono ?_; rintro e w1 ⟨rfl, hb⟩; have hc := (bcell hb).1; have hf := (bcell hb).2) | (go_at_call 105; refine (mode_any _ _).mono ?_; rintro e w2 ⟨rfl, rfl⟩))
    go_ret2
    exact ⟨rfl, ((Below.refl _ _).alloc (Nat.le_refl _) _).trans (hb.mono (by simp))⟩
set_option maxHeartbeats 4000000 in
theorem quant_ok (n d frac how p T q : Int) (w : World) (h : qok n d frac how = true) (hp : (2 : Int) ^ frac.toNat = p) (p0 : 1 ≤ p) (p1 : p ≤ 1073741824) (hT : n * p = T) (t0 : -2305843009213693952 ≤ T) (t1 : T ≤ 2305843009213693952)
    (D : Hid (∀ w, Calls Tryz.prog 71 #[.int .i64 T, .int .i64 d, .int .i64 how] w fun e w' => e = .returned (.tuple #[.int .i64 q, .int .i64 0]) ∧ ∃ k, w' = w.drewN k)) :
    Calls Tryz.prog 93 #[.agg #[.int .i64 n, .int .i64 d], .int .i64 frac, .int .i64 how] w (Ret (.tuple #[.int .i64 q, .int .i64 0]) w) := by
  unfold qok at h
  obtain ⟨x1, x2, x3, x4, y1, y2, y3, y4⟩ : ∃ x1 x2 x3 x4, vld n d = x1 ∧ decide (frac < 0) = x2 ∧ decide (30 < frac) = x3 ∧ mdv how = x4 := ⟨_, _, _, _, rfl, rfl, rfl, rfl⟩
  rw [y1, y2, y3, y4] at h
  have f0 : 0 ≤ frac := by have : x2 = false := by revert h; cases x1 <;> cases x2 <;> simp
                           rw [this] at y2; simpa using y2
  have f1 : frac ≤ 30 := by have : x3 = false := by revert h; cases x1 <;> cases x2 <;> cases x3 <;> simp
                            rw [this] at y3; simpa using y3
  cases x1 <;> cases x2 <;> cases x3 <;> cases x4 <;> (first | (exfalso; simp at h; done) | skip)
  clear h
  go_enter Tryz.func93, Tryz.ntmps93
  go_wp2_with (first | (go_at_call 114; refine (isfr_any _ _ _).mono ?_; rintro e w1 ⟨rfl, hb⟩; have hc := (bcell hb).1; have hf := (bcell hb).2) | (go_at_call 105; refine (mode_any _ _).mono ?_; rintro e w2 ⟨rfl, rfl⟩))
  have hc0 := hc w.heap.size 0 (by simp)
  have hc1 := hc w.heap.size 1 (by simp)
  clear hc hf
  go_quiet ((go_at_call 71; exact Calls.quiet_of (D.out _)))
  go_wp2
  go_ret2
  exact ⟨rfl, below_drewN (((Below.refl _ _).alloc (Nat.le_refl _) _).trans (hb.mono (by simp))) _⟩
end Go.Proofs.YtikcinkbkakkmaaGreatDoor.Fr
