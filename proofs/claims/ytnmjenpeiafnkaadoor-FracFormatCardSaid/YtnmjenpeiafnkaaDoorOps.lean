/- The operations of two fractions: package frac. -/
import Derived.Test.YtnmjenpeiafnkaaDoorTwo
namespace Go.Proofs.YtnmjenpeiafnkaaDoor.Fr
open Go.ChangeShapes Go.WideShapes Go.ChangeAt Go.RowKit
set_option linter.unusedVariables false

set_option maxHeartbeats 2000000 in
theorem add_bad (n1 d1 n2 d2 : Int) (w : World) (h : both n1 d1 n2 d2 = false) :
    Calls Tryd.prog 17 #[.agg #[.int .i64 n1, .int .i64 d1], .agg #[.int .i64 n2, .int .i64 d2]] w (Ret (Frac3 0 0 1) w) := by
  unfold both at h
  obtain ⟨x1, x2, y1, y2⟩ : ∃ x1 x2, vld n1 d1 = x1 ∧ vld n2 d2 = x2 := ⟨_, _, rfl, rfl⟩
  rw [y1, y2] at h
  cases x1
  · clear h
    go_enter Tryd.func17, Tryd.ntmps17
    go_wp2_with fail
    refine (valid_any _ _ _).mono ?_
    rintro e w1 ⟨rfl, hb1⟩
    have Bt := hb1.mono (B' := w.heap.size + 3) (by simp)
    obtain ⟨c0, c1, c2, c3, c4, c5, c6, c7, c8⟩ := cells3 Bt
    go_wp2
    refine bodyPost_ret (v := Frac3 0 0 1) (by simp [results, Tryd.results17, go_sem, c4, c5]) rfl ⟨rfl, ?_⟩
    refine Below.setCell (Below.setCell ?_ (by simp <;> omega) _) (by simp <;> omega) _
    exact (below3 _ _ _ _).trans (Bt.mono (by omega))
  · cases x2
    · clear h
      go_enter Tryd.func17, Tryd.ntmps17
      go_wp2_with fail
      refine (valid_any _ _ _).mono ?_
      rintro e w1 ⟨rfl, hb1⟩
      have Bt := hb1.mono (B' := w.heap.size + 3) (by simp)
      obtain ⟨c0, c1, c2, c3, c4, c5, c6, c7, c8⟩ := cells3 Bt
      go_wp2_with fail
      refine (valid_any _ _ _).mono ?_
      rintro e w2 ⟨rfl, hb2⟩
      have Bu := step Bt hb2 (by simp)
      clear c0 c1 c2 c3 c4 c5 c6 c7 c8
      obtain ⟨c0, c1, c2, c3, c4, c5, c6, c7, c8⟩ := cells3 Bu
      go_wp2
      refine bodyPost_ret (v := Frac3 0 0 1) (by simp [results, Tryd.results17, go_sem, c4, c5]) rfl ⟨rfl, ?_⟩
      refine Below.setCell (Below.setCell ?_ (by simp <;> omega) _) (by simp <;> omega) _
      exact (below3 _ _ _ _).trans (Bu.mono (by omega))
    · simp at h
set_option maxHeartbeats 2000000 in
theorem add_ok (n1 d1 n2 d2 : Int) (w : World) (h : both n1 d1 n2 d2 = true) {a b c : Int} (hA : n1 * d2 = a) (hB : n2 * d1 = b) (hC : d1 * d2 = c) (p0 : -4611686014132420609 ≤ a) (p1 : a ≤ 4611686014132420609) (q0 : -4611686014132420609 ≤ b) (q1 : b ≤ 4611686014132420609) (r0 : -4611686014132420609 ≤ c) (r1 : c ≤ 4611686014132420609) :
    Calls Tryd.prog 17 #[.agg #[.int .i64 n1, .int .i64 d1], .agg #[.int .i64 n2, .int .i64 d2]] w (Ret (Frac3 (newN (a + b) c) (newD (a + b) c) (newE (a + b) c)) w) := by
  unfold both at h
  simp only [Bool.and_eq_true] at h
  obtain ⟨v1, v2⟩ := h
  have NW := Lib.hid (fun w => new_any (a + b) c w (by omega) (by omega) (by omega) (by omega))
  go_enter Tryd.func17, Tryd.ntmps17
  go_wp2_with fail
  refine (valid_any _ _ _).mono ?_
  rintro e w1 ⟨rfl, hb1⟩
  have Bt := hb1.mono (B' := w.heap.size + 3) (by simp)
  obtain ⟨c0, c1, c2, c3, c4, c5, c6, c7, c8⟩ := cells3 Bt
  go_wp2_with fail
  refine (valid_any _ _ _).mono ?_
  rintro e w2 ⟨rfl, hb2⟩
  have Bu := step Bt hb2 (by simp)
  clear c0 c1 c2 c3 c4 c5 c6 c7 c8
  obtain ⟨c0, c1, c2, c3, c4, c5, c6, c7, c8⟩ := cells3 Bu
  go_wp2_with fail
  refine (NW.out _).mono ?_
  rintro e w3 ⟨rfl, hb3⟩
  have Bv := step Bu hb3 (by simp)
  clear c0 c1 c2 c3 c4 c5 c6 c7 c8
  obtain ⟨c0, c1, c2, c3, c4, c5, c6, c7, c8⟩ := cells3 Bv
  go_wp2
  refine bodyPost_ret (v := Frac3 _ _ _) (by simp [results, Tryd.results17, go_sem, c4, c5]) rfl ⟨rfl, ?_⟩
  refine Below.setCell (Below.setCell ?_ (by simp <;> omega) _) (by simp <;> omega) _
  exact (below3 _ _ _ _).trans (Bv.mono (by omega))
set_option maxHeartbeats 2000000 in
theorem mul_bad (n1 d1 n2 d2 : Int) (w : World) (h : both n1 d1 n2 d2 = false) :
    Calls Tryd.prog 21 #[.agg #[.int .i64 n1, .int .i64 d1], .agg #[.int .i64 n2, .int .i64 d2]] w (Ret (Frac3 0 0 1) w) := by
  unfold both at h
  obtain ⟨x1, x2, y1, y2⟩ : ∃ x1 x2, vld n1 d1 = x1 ∧ vld n2 d2 = x2 := ⟨_, _, rfl, rfl⟩
  rw [y1, y2] at h
  cases x1
  · clear h
    go_enter Tryd.func21, Tryd.ntmps21
    go_wp2_with fail
    refine (valid_any _ _ _).mono ?_
    rintro e w1 ⟨rfl, hb1⟩
    have Bt := hb1.mono (B' := w.heap.size + 3) (by simp)
    obtain ⟨c0, c1, c2, c3, c4, c5, c6, c7, c8⟩ := cells3 Bt
    go_wp2
    refine bodyPost_ret (v := Frac3 0 0 1) (by simp [results, Tryd.results21, go_sem, c4, c5]) rfl ⟨rfl, ?_⟩
    refine Below.setCell (Below.setCell ?_ (by simp <;> omega) _) (by simp <;> omega) _
    exact (below3 _ _ _ _).trans (Bt.mono (by omega))
  · cases x2
    · clear h
      go_enter Tryd.func21, Tryd.ntmps21
      go_wp2_with fail
      refine (valid_any _ _ _).mono ?_
      rintro e w1 ⟨rfl, hb1⟩
      have Bt := hb1.mono (B' := w.heap.size + 3) (by simp)
      obtain ⟨c0, c1, c2, c3, c4, c5, c6, c7, c8⟩ := cells3 Bt
      go_wp2_with fail
      refine (valid_any _ _ _).mono ?_
      rintro e w2 ⟨rfl, hb2⟩
      have Bu := step Bt hb2 (by simp)
      clear c0 c1 c2 c3 c4 c5 c6 c7 c8
      obtain ⟨c0, c1, c2, c3, c4, c5, c6, c7, c8⟩ := cells3 Bu
      go_wp2
      refine bodyPost_ret (v := Frac3 0 0 1) (by simp [results, Tryd.results21, go_sem, c4, c5]) rfl ⟨rfl, ?_⟩
      refine Below.setCell (Below.setCell ?_ (by simp <;> omega) _) (by simp <;> omega) _
      exact (below3 _ _ _ _).trans (Bu.mono (by omega))
    · simp at h
set_option maxHeartbeats 2000000 in
theorem mul_ok (n1 d1 n2 d2 : Int) (w : World) (h : both n1 d1 n2 d2 = true) {a c : Int} (hA : n1 * n2 = a) (hC : d1 * d2 = c) (p0 : -4611686014132420609 ≤ a) (p1 : a ≤ 4611686014132420609) (r0 : -4611686014132420609 ≤ c) (r1 : c ≤ 4611686014132420609) :
    Calls Tryd.prog 21 #[.agg #[.int .i64 n1, .int .i64 d1], .agg #[.int .i64 n2, .int .i64 d2]] w (Ret (Frac3 (newN a c) (newD a c) (newE a c)) w) := by
  unfold both at h
  simp only [Bool.and_eq_true] at h
  obtain ⟨v1, v2⟩ := h
  have NW := Lib.hid (fun w => new_any a c w (by omega) (by omega) (by omega) (by omega))
  go_enter Tryd.func21, Tryd.ntmps21
  go_wp2_with fail
  refine (valid_any _ _ _).mono ?_
  rintro e w1 ⟨rfl, hb1⟩
  have Bt := hb1.mono (B' := w.heap.size + 3) (by simp)
  obtain ⟨c0, c1, c2, c3, c4, c5, c6, c7, c8⟩ := cells3 Bt
  go_wp2_with fail
  refine (valid_any _ _ _).mono ?_
  rintro e w2 ⟨rfl, hb2⟩
  have Bu := step Bt hb2 (by simp)
  clear c0 c1 c2 c3 c4 c5 c6 c7 c8
  obtain ⟨c0, c1, c2, c3, c4, c5, c6, c7, c8⟩ := cells3 Bu
  go_wp2_with fail
  refine (NW.out _).mono ?_
  rintro e w3 ⟨rfl, hb3⟩
  have Bv := step Bu hb3 (by simp)
  clear c0 c1 c2 c3 c4 c5 c6 c7 c8
  obtain ⟨c0, c1, c2, c3, c4, c5, c6, c7, c8⟩ := cells3 Bv
  go_wp2
  refine bodyPost_ret (v := Frac3 _ _ _) (by simp [results, Tryd.results21, go_sem, c4, c5]) rfl ⟨rfl, ?_⟩
  refine Below.setCell (Below.setCell ?_ (by simp <;> omega) _) (by simp <;> omega) _
  exact (below3 _ _ _ _).trans (Bv.mono (by omega))
set_option maxHeartbeats 2000000 in
theorem div_bad (n1 d1 n2 d2 : Int) (w : World) (h : both n1 d1 n2 d2 = false) :
    Calls Tryd.prog 23 #[.agg #[.int .i64 n1, .int .i64 d1], .agg #[.int .i64 n2, .int .i64 d2]] w (Ret (Frac3 0 0 1) w) := by
  unfold both at h
  obtain ⟨x1, x2, y1, y2⟩ : ∃ x1 x2, vld n1 d1 = x1 ∧ vld n2 d2 = x2 := ⟨_, _, rfl, rfl⟩
  rw [y1, y2] at h
  cases x1
  · clear h
    go_enter Tryd.func23, Tryd.ntmps23
    go_wp2_with fail
    refine (valid_any _ _ _).mono ?_
    rintro e w1 ⟨rfl, hb1⟩
    have Bt := hb1.mono (B' := w.heap.size + 3) (by simp)
    obtain ⟨c0, c1, c2, c3, c4, c5, c6, c7, c8⟩ := cells3 Bt
    go_wp2
    refine bodyPost_ret (v := Frac3 0 0 1) (by simp [results, Tryd.results23, go_sem, c4, c5]) rfl ⟨rfl, ?_⟩
    refine Below.setCell (Below.setCell ?_ (by simp <;> omega) _) (by simp <;> omega) _
    exact (below3 _ _ _ _).trans (Bt.mono (by omega))
  · cases x2
    · clear h
      go_enter Tryd.func23, Tryd.ntmps23
      go_wp2_with fail
      refine (valid_any _ _ _).mono ?_
      rintro e w1 ⟨rfl, hb1⟩
      have Bt := hb1.mono (B' := w.heap.size + 3) (by simp)
      obtain ⟨c0, c1, c2, c3, c4, c5, c6, c7, c8⟩ := cells3 Bt
      go_wp2_with fail
      refine (valid_any _ _ _).mono ?_
      rintro e w2 ⟨rfl, hb2⟩
      have Bu := step Bt hb2 (by simp)
      clear c0 c1 c2 c3 c4 c5 c6 c7 c8
      obtain ⟨c0, c1, c2, c3, c4, c5, c6, c7, c8⟩ := cells3 Bu
      go_wp2
      refine bodyPost_ret (v := Frac3 0 0 1) (by simp [results, Tryd.results23, go_sem, c4, c5]) rfl ⟨rfl, ?_⟩
      refine Below.setCell (Below.setCell ?_ (by simp <;> omega) _) (by simp <;> omega) _
      exact (below3 _ _ _ _).trans (Bu.mono (by omega))
    · simp at h
set_option maxHeartbeats 2000000 in
theorem div_ok (n1 d1 n2 d2 : Int) (w : World) (h : both n1 d1 n2 d2 = true) {a c : Int} (hA : n1 * d2 = a) (hC : d1 * n2 = c) (p0 : -4611686014132420609 ≤ a) (p1 : a ≤ 4611686014132420609) (r0 : -4611686014132420609 ≤ c) (r1 : c ≤ 4611686014132420609) :
    Calls Tryd.prog 23 #[.agg #[.int .i64 n1, .int .i64 d1], .agg #[.int .i64 n2, .int .i64 d2]] w (Ret (Frac3 (newN a c) (newD a c) (newE a c)) w) := by
  unfold both at h
  simp only [Bool.and_eq_true] at h
  obtain ⟨v1, v2⟩ := h
  have NW := Lib.hid (fun w => new_any a c w (by omega) (by omega) (by omega) (by omega))
  go_enter Tryd.func23, Tryd.ntmps23
  go_wp2_with fail
  refine (valid_any _ _ _).mono ?_
  rintro e w1 ⟨rfl, hb1⟩
  have Bt := hb1.mono (B' := w.heap.size + 3) (by simp)
  obtain ⟨c0, c1, c2, c3, c4, c5, c6, c7, c8⟩ := cells3 Bt
  go_wp2_with fail
  refine (valid_any _ _ _).mono ?_
  rintro e w2 ⟨rfl, hb2⟩
  have Bu := step Bt hb2 (by simp)
  clear c0 c1 c2 c3 c4 c5 c6 c7 c8
  obtain ⟨c0, c1, c2, c3, c4, c5, c6, c7, c8⟩ := cells3 Bu
  go_wp2_with fail
  refine (NW.out _).mono ?_
  rintro e w3 ⟨rfl, hb3⟩
  have Bv := step Bu hb3 (by simp)
  clear c0 c1 c2 c3 c4 c5 c6 c7 c8
  obtain ⟨c0, c1, c2, c3, c4, c5, c6, c7, c8⟩ := cells3 Bv
  go_wp2
  refine bodyPost_ret (v := Frac3 _ _ _) (by simp [results, Tryd.results23, go_sem, c4, c5]) rfl ⟨rfl, ?_⟩
  refine Below.setCell (Below.setCell ?_ (by simp <;> omega) _) (by simp <;> omega) _
  exact (below3 _ _ _ _).trans (Bv.mono (by omega))
end Go.Proofs.YtnmjenpeiafnkaaDoor.Fr
