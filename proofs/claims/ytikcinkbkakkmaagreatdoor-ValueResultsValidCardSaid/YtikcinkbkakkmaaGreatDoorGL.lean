/- The operations of two fractions: the reference. -/
import Derived.Test.YtikcinkbkakkmaaGreatDoorGK

namespace Go.Proofs.YtikcinkbkakkmaaGreatDoor.Fr
open Go.ChangeShapes Go.WideShapes Go.ChangeAt Go.RowKit
set_option linter.unusedVariables false
set_option linter.unusedSimpArgs false
set_option maxHeartbeats 2000000 in
theorem radd_bad (n1 d1 n2 d2 : Int) (w : World) (h : both n1 d1 n2 d2 = false) :
    Calls Tryz.prog 33 #[.agg #[.int .i64 n1, .int .i64 d1], .agg #[.int .i64 n2, .int .i64 d2]] w (Ret (Frac3 0 0 1) w) := by
  unfold both at h
  obtain ⟨x1, x2, y1, y2⟩ : ∃ x1 x2, vld n1 d1 = x1 ∧ vld n2 d2 = x2 := ⟨_, _, rfl, rfl⟩
  rw [y1, y2] at h
  cases x1
  · clear h
    go_enter Tryz.func33, Tryz.ntmps33
    go_wp2_with fail
    refine (rvalid_any _ _ _).mono ?_
    rintro e w1 ⟨rfl, hb1⟩
    have Bt := hb1.mono (B' := w.heap.size + 3) (by simp)
    obtain ⟨c0, c1, c2, c3, c4, c5, c6, c7, c8⟩ := cells3 Bt
    go_wp2
    refine bodyPost_ret (v := Frac3 0 0 1) (by simp [results, Tryz.results33, go_sem, c4, c5]) rfl ⟨rfl, ?_⟩
    refine Below.setCell (Below.setCell ?_ (by simp <;> omega) _) (by simp <;> omega) _
    exact (below3 _ _ _ _).trans (Bt.mono (by omega))
  · cases x2
    · clear h
      go_enter Tryz.func33, Tryz.ntmps33
      go_wp2_with fail
      refine (rvalid_any _ _ _).mono ?_
      rintro e w1 ⟨rfl, hb1⟩
      have Bt := hb1.mono (B' := w.heap.size + 3) (by simp)
      obtain ⟨c0, c1, c2, c3, c4, c5, c6, c7, c8⟩ := cells3 Bt
      go_wp2_with fail
      refine (rvalid_any _ _ _).mono ?_
      rintro e w2 ⟨rfl, hb2⟩
      have Bu := step Bt hb2 (by simp)
      clear c0 c1 c2 c3 c4 c5 c6 c7 c8
      obtain ⟨c0, c1, c2, c3, c4, c5, c6, c7, c8⟩ := cells3 Bu
      go_wp2
      refine bodyPost_ret (v := Frac3 0 0 1) (by simp [results, Tryz.results33, go_sem, c4, c5]) rfl ⟨rfl, ?_⟩
      refine Below.setCell (Below.setCell ?_ (by simp <;> omega) _) (by simp <;> omega) _
      exact (below3 _ _ _ _).trans (Bu.mono (by omega))
    · simp at h
set_option maxHeartbeats 2000000 in
theorem radd_ok (n1 d1 n2 d2 : Int) (w : World) (h : both n1 d1 n2 d2 = true) {a b c : Int} (hA : n1 * d2 = a) (hB : n2 * d1 = b) (hC : d1 * d2 = c) (p0 : -4611686014132420609 ≤ a) (p1 : a ≤ 4611686014132420609) (q0 : -4611686014132420609 ≤ b) (q1 : b ≤ 4611686014132420609) (r0 : -4611686014132420609 ≤ c) (r1 : c ≤ 4611686014132420609) :
    Calls Tryz.prog 33 #[.agg #[.int .i64 n1, .int .i64 d1], .agg #[.int .i64 n2, .int .i64 d2]] w (Ret (Frac3 (newN (a + b) c) (newD (a + b) c) (newE (a + b) c)) w) := by
  unfold both at h
  simp only [Bool.and_eq_true] at h
  obtain ⟨v1, v2⟩ := h
  have NW := Lib.hid (fun w => rnew_any (a + b) c w (by omega) (by omega) (by omega) (by omega))
  go_enter Tryz.func33, Tryz.ntmps33
  go_wp2_with fail
  refine (rvalid_any _ _ _).mono ?_
  rintro e w1 ⟨rfl, hb1⟩
  have Bt := hb1.mono (B' := w.heap.size + 3) (by simp)
  obtain ⟨c0, c1, c2, c3, c4, c5, c6, c7, c8⟩ := cells3 Bt
  go_wp2_with fail
  refine (rvalid_any _ _ _).mono ?_
  rintro e w2 ⟨rfl, hb2⟩
  have Bu := step Bt hb2 (by simp)
  clear c0 c1 c2 c3 c4 c5 c6 c7 c8
  obtain ⟨c0, c1, c2, c3, c4, c5, c6, c7, c8⟩ := cells3 Bu
  go_wp2_with fail
  refine (NW.out _).mono ?_
  rintro e w3 ⟨rfl, hb3⟩
  have Bv := step Bu hb3 (by simp)
  clear c0 c1 c2 c3 c4 c5 c6 c7 c8
  obtain ⟨c0, c1, c2, c3, c4, c5, c6, c7, c8⟩ := cells3 Bv
  go_wp2
  refine bodyPost_ret (v := Frac3 _ _ _) (by simp [results, Tryz.results33, go_sem, c4, c5]) rfl ⟨rfl, ?_⟩
  refine Below.setCell (Below.setCell ?_ (by simp <;> omega) _) (by simp <;> omega) _
  exact (below3 _ _ _ _).trans (Bv.mono (by omega))
set_option maxHeartbeats 2000000 in
theorem rmul_bad (n1 d1 n2 d2 : Int) (w : World) (h : both n1 d1 n2 d2 = false) :
    Calls Tryz.prog 35 #[.agg #[.int .i64 n1, .int .i64 d1], .agg #[.int .i64 n2, .int .i64 d2]] w (Ret (Frac3 0 0 1) w) := by
  unfold both at h
  obtain ⟨x1, x2, y1, y2⟩ : ∃ x1 x2, vld n1 d1 = x1 ∧ vld n2 d2 = x2 := ⟨_, _, rfl, rfl⟩
  rw [y1, y2] at h
  cases x1
  · clear h
    go_enter Tryz.func35, Tryz.ntmps35
    go_wp2_with fail
    refine (rvalid_any _ _ _).mono ?_
    rintro e w1 ⟨rfl, hb1⟩
    have Bt := hb1.mono (B' := w.heap.size + 3) (by simp)
    obtain ⟨c0, c1, c2, c3, c4, c5, c6, c7, c8⟩ := cells3 Bt
    go_wp2
    refine bodyPost_ret (v := Frac3 0 0 1) (by simp [results, Tryz.results35, go_sem, c4, c5]) rfl ⟨rfl, ?_⟩
    refine Below.setCell (Below.setCell ?_ (by simp <;> omega) _) (by simp <;> omega) _
    exact (below3 _ _ _ _).trans (Bt.mono (by omega))
  · cases x2
    · clear h
      go_enter Tryz.func35, Tryz.ntmps35
      go_wp2_with fail
      refine (rvalid_any _ _ _).mono ?_
      rintro e w1 ⟨rfl, hb1⟩
      have Bt := hb1.mono (B' := w.heap.size + 3) (by simp)
      obtain ⟨c0, c1, c2, c3, c4, c5, c6, c7, c8⟩ := cells3 Bt
      go_wp2_with fail
      refine (rvalid_any _ _ _).mono ?_
      rintro e w2 ⟨rfl, hb2⟩
      have Bu := step Bt hb2 (by simp)
      clear c0 c1 c2 c3 c4 c5 c6 c7 c8
      obtain ⟨c0, c1, c2, c3, c4, c5, c6, c7, c8⟩ := cells3 Bu
      go_wp2
      refine bodyPost_ret (v := Frac3 0 0 1) (by simp [results, Tryz.results35, go_sem, c4, c5]) rfl ⟨rfl, ?_⟩
      refine Below.setCell (Below.setCell ?_ (by simp <;> omega) _) (by simp <;> omega) _
      exact (below3 _ _ _ _).trans (Bu.mono (by omega))
    · simp at h
set_option maxHeartbeats 2000000 in
theorem rmul_ok (n1 d1 n2 d2 : Int) (w : World) (h : both n1 d1 n2 d2 = true) {a c : Int} (hA : n1 * n2 = a) (hC : d1 * d2 = c) (p0 : -4611686014132420609 ≤ a) (p1 : a ≤ 4611686014132420609) (r0 : -4611686014132420609 ≤ c) (r1 : c ≤ 4611686014132420609) :
    Calls Tryz.prog 35 #[.agg #[.int .i64 n1, .int .i64 d1], .agg #[.int .i64 n2, .int .i64 d2]] w (Ret (Frac3 (newN a c) (newD a c) (newE a c)) w) := by
  unfold both at h
  simp only [Bool.and_eq_true] at h
  obtain ⟨v1, v2⟩ := h
  have NW := Lib.hid (fun w => rnew_any a c w (by omega) (by omega) (by omega) (by omega))
  go_enter Tryz.func35, Tryz.ntmps35
  go_wp2_with fail
  refine (rvalid_any _ _ _).mono ?_
  rintro e w1 ⟨rfl, hb1⟩
  have Bt := hb1.mono (B' := w.heap.size + 3) (by simp)
  obtain ⟨c0, c1, c2, c3, c4, c5, c6, c7, c8⟩ := cells3 Bt
  go_wp2_with fail
  refine (rvalid_any _ _ _).mono ?_
  rintro e w2 ⟨rfl, hb2⟩
  have Bu := step Bt hb2 (by simp)
  clear c0 c1 c2 c3 c4 c5 c6 c7 c8
  obtain ⟨c0, c1, c2, c3, c4, c5, c6, c7, c8⟩ := cells3 Bu
  go_wp2_with fail
  refine (NW.out _).mono ?_
  rintro e w3 ⟨rfl, hb3⟩
  have Bv := step Bu hb3 (by simp)
  clear c0 c1 c2 c3 c4 c5 c6 c7 c8
  obtain ⟨c0, c1, c2, c3, c4, c5, c6, c7, c8⟩ := cells3 Bv
  go_wp2
  refine bodyPost_ret (v := Frac3 _ _ _) (by simp [results, Tryz.results35, go_sem, c4, c5]) rfl ⟨rfl, ?_⟩
  refine Below.setCell (Below.setCell ?_ (by simp <;> omega) _) (by simp <;> omega) _
  exact (below3 _ _ _ _).trans (Bv.mono (by omega))
set_option maxHeartbeats 2000000 in
theorem rdiv_bad (n1 d1 n2 d2 : Int) (w : World) (h : both n1 d1 n2 d2 = false) :
    Calls Tryz.prog 36 #[.agg #[.int .i64 n1, .int .i64 d1], .agg #[.int .i64 n2, .int .i64 d2]] w (Ret (Frac3 0 0 1) w) := by
  unfold both at h
  obtain ⟨x1, x2, y1, y2⟩ : ∃ x1 x2, vld n1 d1 = x1 ∧ vld n2 d2 = x2 := ⟨_, _, rfl, rfl⟩
  rw [y1, y2] at h
  cases x1
  · clear h
    go_enter Tryz.func36, Tryz.ntmps36
    go_wp2_with fail
    refine (rvalid_any _ _ _).mono ?_
    rintro e w1 ⟨rfl, hb1⟩
    have Bt := hb1.mono (B' := w.heap.size + 3) (by simp)
    obtain ⟨c0, c1, c2, c3, c4, c5, c6, c7, c8⟩ := cells3 Bt
    go_wp2
    refine bodyPost_ret (v := Frac3 0 0 1) (by simp [results, Tryz.results36, go_sem, c4, c5]) rfl ⟨rfl, ?_⟩
    refine Below.setCell (Below.setCell ?_ (by simp <;> omega) _) (by simp <;> omega) _
    exact (below3 _ _ _ _).trans (Bt.mono (by omega))
  · cases x2
    · clear h
      go_enter Tryz.func36, Tryz.ntmps36
      go_wp2_with fail
      refine (rvalid_any _ _ _).mono ?_
      rintro e w1 ⟨rfl, hb1⟩
      have Bt := hb1.mono (B' := w.heap.size + 3) (by simp)
      obtain ⟨c0, c1, c2, c3, c4, c5, c6, c7, c8⟩ := cells3 Bt
      go_wp2_with fail
      refine (rvalid_any _ _ _).mono ?_
      rintro e w2 ⟨rfl, hb2⟩
      have Bu := step Bt hb2 (by simp)
      clear c0 c1 c2 c3 c4 c5 c6 c7 c8
      obtain ⟨c0, c1, c2, c3, c4, c5, c6, c7, c8⟩ := cells3 Bu
      go_wp2
      refine bodyPost_ret (v := Frac3 0 0 1) (by simp [results, Tryz.results36, go_sem, c4, c5]) rfl ⟨rfl, ?_⟩
      refine Below.setCell (Below.setCell ?_ (by simp <;> omega) _) (by simp <;> omega) _
      exact (below3 _ _ _ _).trans (Bu.mono (by omega))
    · simp at h
set_option maxHeartbeats 2000000 in
theorem rdiv_ok (n1 d1 n2 d2 : Int) (w : World) (h : both n1 d1 n2 d2 = true) {a c : Int} (hA : n1 * d2 = a) (hC : d1 * n2 = c) (p0 : -4611686014132420609 ≤ a) (p1 : a ≤ 4611686014132420609) (r0 : -4611686014132420609 ≤ c) (r1 : c ≤ 4611686014132420609) :
    Calls Tryz.prog 36 #[.agg #[.int .i64 n1, .int .i64 d1], .agg #[.int .i64 n2, .int .i64 d2]] w (Ret (Frac3 (newN a c) (newD a c) (newE a c)) w) := by
  unfold both at h
  simp only [Bool.and_eq_true] at h
  obtain ⟨v1, v2⟩ := h
  have NW := Lib.hid (fun w => rnew_any a c w (by omega) (by omega) (by omega) (by omega))
  go_enter Tryz.func36, Tryz.ntmps36
  go_wp2_with fail
  refine (rvalid_any _ _ _).mono ?_
  rintro e w1 ⟨rfl, hb1⟩
  have Bt := hb1.mono (B' := w.heap.size + 3) (by simp)
  obtain ⟨c0, c1, c2, c3, c4, c5, c6, c7, c8⟩ := cells3 Bt
  go_wp2_with fail
  refine (rvalid_any _ _ _).mono ?_
  rintro e w2 ⟨rfl, hb2⟩
  have Bu := step Bt hb2 (by simp)
  clear c0 c1 c2 c3 c4 c5 c6 c7 c8
  obtain ⟨c0, c1, c2, c3, c4, c5, c6, c7, c8⟩ := cells3 Bu
  go_wp2_with fail
  refine (NW.out _).mono ?_
  rintro e w3 ⟨rfl, hb3⟩
  have Bv := step Bu hb3 (by simp)
  clear c0 c1 c2 c3 c4 c5 c6 c7 c8
  obtain ⟨c0, c1, c2, c3, c4, c5, c6, c7, c8⟩ := cells3 Bv
  go_wp2
  refine bodyPost_ret (v := Frac3 _ _ _) (by simp [results, Tryz.results36, go_sem, c4, c5]) rfl ⟨rfl, ?_⟩
  refine Below.setCell (Below.setCell ?_ (by simp <;> omega) _) (by simp <;> omega) _
  exact (below3 _ _ _ _).trans (Bv.mono (by omega))
set_option maxHeartbeats 2000000 in
theorem rsub_bad (n1 d1 n2 d2 : Int) (w : World) (h : both n1 d1 n2 d2 = false) :
    Calls Tryz.prog 34 #[.agg #[.int .i64 n1, .int .i64 d1], .agg #[.int .i64 n2, .int .i64 d2]] w (Ret (Frac3 0 0 1) w) := by
  unfold both at h
  obtain ⟨x1, x2, y1, y2⟩ : ∃ x1 x2, vld n1 d1 = x1 ∧ vld n2 d2 = x2 := ⟨_, _, rfl, rfl⟩
  rw [y1, y2] at h
  cases x1
  · clear h
    go_enter Tryz.func34, Tryz.ntmps34
    go_wp2_with fail
    refine (rvalid_any _ _ _).mono ?_
    rintro e w1 ⟨rfl, hb1⟩
    have Bt := hb1.mono (B' := w.heap.size + 3) (by simp)
    obtain ⟨c0, c1, c2, c3, c4, c5, c6, c7, c8⟩ := cells3 Bt
    go_wp2
    refine bodyPost_ret (v := Frac3 0 0 1) (by simp [results, Tryz.results34, go_sem, c4, c5]) rfl ⟨rfl, ?_⟩
    refine Below.setCell (Below.setCell ?_ (by simp <;> omega) _) (by simp <;> omega) _
    exact (below3 _ _ _ _).trans (Bt.mono (by omega))
  · cases x2
    · clear h
      go_enter Tryz.func34, Tryz.ntmps34
      go_wp2_with fail
      refine (rvalid_any _ _ _).mono ?_
      rintro e w1 ⟨rfl, hb1⟩
      have Bt := hb1.mono (B' := w.heap.size + 3) (by simp)
      obtain ⟨c0, c1, c2, c3, c4, c5, c6, c7, c8⟩ := cells3 Bt
      go_wp2_with fail
      refine (rvalid_any _ _ _).mono ?_
      rintro e w2 ⟨rfl, hb2⟩
      have Bu := step Bt hb2 (by simp)
      clear c0 c1 c2 c3 c4 c5 c6 c7 c8
      obtain ⟨c0, c1, c2, c3, c4, c5, c6, c7, c8⟩ := cells3 Bu
      go_wp2
      refine bodyPost_ret (v := Frac3 0 0 1) (by simp [results, Tryz.results34, go_sem, c4, c5]) rfl ⟨rfl, ?_⟩
      refine Below.setCell (Below.setCell ?_ (by simp <;> omega) _) (by simp <;> omega) _
      exact (below3 _ _ _ _).trans (Bu.mono (by omega))
    · simp at h
set_option maxHeartbeats 2000000 in
theorem rsub_ok (n1 d1 n2 d2 : Int) (w : World) (h : both n1 d1 n2 d2 = true) {a b c : Int} (hA : n1 * d2 = a) (hB : n2 * d1 = b) (hC : d1 * d2 = c) (p0 : -4611686014132420609 ≤ a) (p1 : a ≤ 4611686014132420609) (q0 : -4611686014132420609 ≤ b) (q1 : b ≤ 4611686014132420609) (r0 : -4611686014132420609 ≤ c) (r1 : c ≤ 4611686014132420609) :
    Calls Tryz.prog 34 #[.agg #[.int .i64 n1, .int .i64 d1], .agg #[.int .i64 n2, .int .i64 d2]] w (Ret (Frac3 (newN (a - b) c) (newD (a - b) c) (newE (a - b) c)) w) := by
  unfold both at h
  simp only [Bool.and_eq_true] at h
  obtain ⟨v1, v2⟩ := h
  have NW := Lib.hid (fun w => rnew_any (a - b) c w (by omega) (by omega) (by omega) (by omega))
  go_enter Tryz.func34, Tryz.ntmps34
  go_wp2_with fail
  refine (rvalid_any _ _ _).mono ?_
  rintro e w1 ⟨rfl, hb1⟩
  have Bt := hb1.mono (B' := w.heap.size + 3) (by simp)
  obtain ⟨c0, c1, c2, c3, c4, c5, c6, c7, c8⟩ := cells3 Bt
  go_wp2_with fail
  refine (rvalid_any _ _ _).mono ?_
  rintro e w2 ⟨rfl, hb2⟩
  have Bu := step Bt hb2 (by simp)
  clear c0 c1 c2 c3 c4 c5 c6 c7 c8
  obtain ⟨c0, c1, c2, c3, c4, c5, c6, c7, c8⟩ := cells3 Bu
  go_wp2_with fail
  refine (NW.out _).mono ?_
  rintro e w3 ⟨rfl, hb3⟩
  have Bv := step Bu hb3 (by simp)
  clear c0 c1 c2 c3 c4 c5 c6 c7 c8
  obtain ⟨c0, c1, c2, c3, c4, c5, c6, c7, c8⟩ := cells3 Bv
  go_wp2
  refine bodyPost_ret (v := Frac3 _ _ _) (by simp [results, Tryz.results34, go_sem, c4, c5]) rfl ⟨rfl, ?_⟩
  refine Below.setCell (Below.setCell ?_ (by simp <;> omega) _) (by simp <;> omega) _
  exact (below3 _ _ _ _).trans (Bv.mono (by omega))
end Go.Proofs.YtikcinkbkakkmaaGreatDoor.Fr


namespace Go.Proofs.YtikcinkbkakkmaaGreatDoor.Fr
open Go.ChangeShapes Go.WideShapes Go.ChangeAt Go.RowKit
set_option linter.unusedVariables false
set_option linter.unusedSimpArgs false
set_option maxHeartbeats 2000000 in
theorem add_bad (n1 d1 n2 d2 : Int) (w : World) (h : both n1 d1 n2 d2 = false) :
    Calls Tryz.prog 61 #[.agg #[.int .i64 n1, .int .i64 d1], .agg #[.int .i64 n2, .int .i64 d2]] w (Ret (Frac3 0 0 1) w) := by
  unfold both at h
  obtain ⟨x1, x2, y1, y2⟩ : ∃ x1 x2, vld n1 d1 = x1 ∧ vld n2 d2 = x2 := ⟨_, _, rfl, rfl⟩
  rw [y1, y2] at h
  cases x1
  · clear h
    go_enter Tryz.func61, Tryz.ntmps61
    go_wp2_with fail
    refine (valid_any _ _ _).mono ?_
    rintro e w1 ⟨rfl, hb1⟩
    have Bt := hb1.mono (B' := w.heap.size + 3) (by simp)
    obtain ⟨c0, c1, c2, c3, c4, c5, c6, c7, c8⟩ := cells3 Bt
    go_wp2
    refine bodyPost_ret (v := Frac3 0 0 1) (by simp [results, Tryz.results61, go_sem, c4, c5]) rfl ⟨rfl, ?_⟩
    refine Below.setCell (Below.setCell ?_ (by simp <;> omega) _) (by simp <;> omega) _
    exact (below3 _ _ _ _).trans (Bt.mono (by omega))
  · cases x2
    · clear h
      go_enter Tryz.func61, Tryz.ntmps61
      go_wp2_with fail
      refine (valid_any _ _ _).mono ?_
      rintro e w1 ⟨rfl, hb1⟩
      have Bt := hb1.mono (B' := w.heap.size + 3) (by simp)
      obtain ⟨c0, c1, c2, c3, c4, c5, c6, c7, c8⟩ := cells3 Bt
      go_wp2_with fail
      refine (valid_any _ _ _).mono ?_
      rintro e w2 ⟨rfl, hb2⟩
      have Bu := step Bt hb2 (by simp)
      clear c0 c1 c2 c3 c4 c5 c6 c7 c8
      obtain ⟨c0, c1, c2, c3, c4, c5, c6, c7, c8⟩ := cells3 Bu
      go_wp2
      refine bodyPost_ret (v := Frac3 0 0 1) (by simp [results, Tryz.results61, go_sem, c4, c5]) rfl ⟨rfl, ?_⟩
      refine Below.setCell (Below.setCell ?_ (by simp <;> omega) _) (by simp <;> omega) _
      exact (below3 _ _ _ _).trans (Bu.mono (by omega))
    · simp at h
set_option maxHeartbeats 2000000 in
theorem add_ok (n1 d1 n2 d2 : Int) (w : World) (h : both n1 d1 n2 d2 = true) {a b c : Int} (hA : n1 * d2 = a) (hB : n2 * d1 = b) (hC : d1 * d2 = c) (p0 : -4611686014132420609 ≤ a) (p1 : a ≤ 4611686014132420609) (q0 : -4611686014132420609 ≤ b) (q1 : b ≤ 4611686014132420609) (r0 : -4611686014132420609 ≤ c) (r1 : c ≤ 4611686014132420609) :
    Calls Tryz.prog 61 #[.agg #[.int .i64 n1, .int .i64 d1], .agg #[.int .i64 n2, .int .i64 d2]] w (Ret (Frac3 (newN (a + b) c) (newD (a + b) c) (newE (a + b) c)) w) := by
  unfold both at h
  simp only [Bool.and_eq_true] at h
  obtain ⟨v1, v2⟩ := h
  have NW := Lib.hid (fun w => new_any (a + b) c w (by omega) (by omega) (by omega) (by omega))
  go_enter Tryz.func61, Tryz.ntmps61
  go_wp2_with fail
  refine (valid_any _ _ _).mono ?_
  rintro e w1 ⟨rfl, hb1⟩
  have Bt := hb1.mono (B' := w.heap.size + 3) (by simp)
  obtain ⟨c0, c1, c2, c3, c4, c5, c6, c7, c8⟩ := cells3 Bt
  go_wp2_with fail
  refine (valid_any _ _ _).mono ?_
  rintro e w2 ⟨rfl, hb2⟩
  have Bu := step Bt hb2 (by simp)
  clear c0 c1 c2 c3 c4 c5 c6 c7 c8
  obtain ⟨c0, c1, c2, c3, c4, c5, c6, c7, c8⟩ := cells3 Bu
  go_wp2_with fail
  refine (NW.out _).mono ?_
  rintro e w3 ⟨rfl, hb3⟩
  have Bv := step Bu hb3 (by simp)
  clear c0 c1 c2 c3 c4 c5 c6 c7 c8
  obtain ⟨c0, c1, c2, c3, c4, c5, c6, c7, c8⟩ := cells3 Bv
  go_wp2
  refine bodyPost_ret (v := Frac3 _ _ _) (by simp [results, Tryz.results61, go_sem, c4, c5]) rfl ⟨rfl, ?_⟩
  refine Below.setCell (Below.setCell ?_ (by simp <;> omega) _) (by simp <;> omega) _
  exact (below3 _ _ _ _).trans (Bv.mono (by omega))
set_option maxHeartbeats 2000000 in
theorem mul_bad (n1 d1 n2 d2 : Int) (w : World) (h : both n1 d1 n2 d2 = false) :
    Calls Tryz.prog 63 #[.agg #[.int .i64 n1, .int .i64 d1], .agg #[.int .i64 n2, .int .i64 d2]] w (Ret (Frac3 0 0 1) w) := by
  unfold both at h
  obtain ⟨x1, x2, y1, y2⟩ : ∃ x1 x2, vld n1 d1 = x1 ∧ vld n2 d2 = x2 := ⟨_, _, rfl, rfl⟩
  rw [y1, y2] at h
  cases x1
  · clear h
    go_enter Tryz.func63, Tryz.ntmps63
    go_wp2_with fail
    refine (valid_any _ _ _).mono ?_
    rintro e w1 ⟨rfl, hb1⟩
    have Bt := hb1.mono (B' := w.heap.size + 3) (by simp)
    obtain ⟨c0, c1, c2, c3, c4, c5, c6, c7, c8⟩ := cells3 Bt
    go_wp2
    refine bodyPost_ret (v := Frac3 0 0 1) (by simp [results, Tryz.results63, go_sem, c4, c5]) rfl ⟨rfl, ?_⟩
    refine Below.setCell (Below.setCell ?_ (by simp <;> omega) _) (by simp <;> omega) _
    exact (below3 _ _ _ _).trans (Bt.mono (by omega))
  · cases x2
    · clear h
      go_enter Tryz.func63, Tryz.ntmps63
      go_wp2_with fail
      refine (valid_any _ _ _).mono ?_
      rintro e w1 ⟨rfl, hb1⟩
      have Bt := hb1.mono (B' := w.heap.size + 3) (by simp)
      obtain ⟨c0, c1, c2, c3, c4, c5, c6, c7, c8⟩ := cells3 Bt
      go_wp2_with fail
      refine (valid_any _ _ _).mono ?_
      rintro e w2 ⟨rfl, hb2⟩
      have Bu := step Bt hb2 (by simp)
      clear c0 c1 c2 c3 c4 c5 c6 c7 c8
      obtain ⟨c0, c1, c2, c3, c4, c5, c6, c7, c8⟩ := cells3 Bu
      go_wp2
      refine bodyPost_ret (v := Frac3 0 0 1) (by simp [results, Tryz.results63, go_sem, c4, c5]) rfl ⟨rfl, ?_⟩
      refine Below.setCell (Below.setCell ?_ (by simp <;> omega) _) (by simp <;> omega) _
      exact (below3 _ _ _ _).trans (Bu.mono (by omega))
    · simp at h
set_option maxHeartbeats 2000000 in
theorem mul_ok (n1 d1 n2 d2 : Int) (w : World) (h : both n1 d1 n2 d2 = true) {a c : Int} (hA : n1 * n2 = a) (hC : d1 * d2 = c) (p0 : -4611686014132420609 ≤ a) (p1 : a ≤ 4611686014132420609) (r0 : -4611686014132420609 ≤ c) (r1 : c ≤ 4611686014132420609) :
    Calls Tryz.prog 63 #[.agg #[.int .i64 n1, .int .i64 d1], .agg #[.int .i64 n2, .int .i64 d2]] w (Ret (Frac3 (newN a c) (newD a c) (newE a c)) w) := by
  unfold both at h
  simp only [Bool.and_eq_true] at h
  obtain ⟨v1, v2⟩ := h
  have NW := Lib.hid (fun w => new_any a c w (by omega) (by omega) (by omega) (by omega))
  go_enter Tryz.func63, Tryz.ntmps63
  go_wp2_with fail
  refine (valid_any _ _ _).mono ?_
  rintro e w1 ⟨rfl, hb1⟩
  have Bt := hb1.mono (B' := w.heap.size + 3) (by simp)
  obtain ⟨c0, c1, c2, c3, c4, c5, c6, c7, c8⟩ := cells3 Bt
  go_wp2_with fail
  refine (valid_any _ _ _).mono ?_
  rintro e w2 ⟨rfl, hb2⟩
  have Bu := step Bt hb2 (by simp)
  clear c0 c1 c2 c3 c4 c5 c6 c7 c8
  obtain ⟨c0, c1, c2, c3, c4, c5, c6, c7, c8⟩ := cells3 Bu
  go_wp2_with fail
  refine (NW.out _).mono ?_
  rintro e w3 ⟨rfl, hb3⟩
  have Bv := step Bu hb3 (by simp)
  clear c0 c1 c2 c3 c4 c5 c6 c7 c8
  obtain ⟨c0, c1, c2, c3, c4, c5, c6, c7, c8⟩ := cells3 Bv
  go_wp2
  refine bodyPost_ret (v := Frac3 _ _ _) (by simp [results, Tryz.results63, go_sem, c4, c5]) rfl ⟨rfl, ?_⟩
  refine Below.setCell (Below.setCell ?_ (by simp <;> omega) _) (by simp <;> omega) _
  exact (below3 _ _ _ _).trans (Bv.mono (by omega))
set_option maxHeartbeats 2000000 in
theorem div_bad (n1 d1 n2 d2 : Int) (w : World) (h : both n1 d1 n2 d2 = false) :
    Calls Tryz.prog 64 #[.agg #[.int .i64 n1, .int .i64 d1], .agg #[.int .i64 n2, .int .i64 d2]] w (Ret (Frac3 0 0 1) w) := by
  unfold both at h
  obtain ⟨x1, x2, y1, y2⟩ : ∃ x1 x2, vld n1 d1 = x1 ∧ vld n2 d2 = x2 := ⟨_, _, rfl, rfl⟩
  rw [y1, y2] at h
  cases x1
  · clear h
    go_enter Tryz.func64, Tryz.ntmps64
    go_wp2_with fail
    refine (valid_any _ _ _).mono ?_
    rintro e w1 ⟨rfl, hb1⟩
    have Bt := hb1.mono (B' := w.heap.size + 3) (by simp)
    obtain ⟨c0, c1, c2, c3, c4, c5, c6, c7, c8⟩ := cells3 Bt
    go_wp2
    refine bodyPost_ret (v := Frac3 0 0 1) (by simp [results, Tryz.results64, go_sem, c4, c5]) rfl ⟨rfl, ?_⟩
    refine Below.setCell (Below.setCell ?_ (by simp <;> omega) _) (by simp <;> omega) _
    exact (below3 _ _ _ _).trans (Bt.mono (by omega))
  · cases x2
    · clear h
      go_enter Tryz.func64, Tryz.ntmps64
      go_wp2_with fail
      refine (valid_any _ _ _).mono ?_
      rintro e w1 ⟨rfl, hb1⟩
      have Bt := hb1.mono (B' := w.heap.size + 3) (by simp)
      obtain ⟨c0, c1, c2, c3, c4, c5, c6, c7, c8⟩ := cells3 Bt
      go_wp2_with fail
      refine (valid_any _ _ _).mono ?_
      rintro e w2 ⟨rfl, hb2⟩
      have Bu := step Bt hb2 (by simp)
      clear c0 c1 c2 c3 c4 c5 c6 c7 c8
      obtain ⟨c0, c1, c2, c3, c4, c5, c6, c7, c8⟩ := cells3 Bu
      go_wp2
      refine bodyPost_ret (v := Frac3 0 0 1) (by simp [results, Tryz.results64, go_sem, c4, c5]) rfl ⟨rfl, ?_⟩
      refine Below.setCell (Below.setCell ?_ (by simp <;> omega) _) (by simp <;> omega) _
      exact (below3 _ _ _ _).trans (Bu.mono (by omega))
    · simp at h
set_option maxHeartbeats 2000000 in
theorem div_ok (n1 d1 n2 d2 : Int) (w : World) (h : both n1 d1 n2 d2 = true) {a c : Int} (hA : n1 * d2 = a) (hC : d1 * n2 = c) (p0 : -4611686014132420609 ≤ a) (p1 : a ≤ 4611686014132420609) (r0 : -4611686014132420609 ≤ c) (r1 : c ≤ 4611686014132420609) :
    Calls Tryz.prog 64 #[.agg #[.int .i64 n1, .int .i64 d1], .agg #[.int .i64 n2, .int .i64 d2]] w (Ret (Frac3 (newN a c) (newD a c) (newE a c)) w) := by
  unfold both at h
  simp only [Bool.and_eq_true] at h
  obtain ⟨v1, v2⟩ := h
  have NW := Lib.hid (fun w => new_any a c w (by omega) (by omega) (by omega) (by omega))
  go_enter Tryz.func64, Tryz.ntmps64
  go_wp2_with fail
  refine (valid_any _ _ _).mono ?_
  rintro e w1 ⟨rfl, hb1⟩
  have Bt := hb1.mono (B' := w.heap.size + 3) (by simp)
  obtain ⟨c0, c1, c2, c3, c4, c5, c6, c7, c8⟩ := cells3 Bt
  go_wp2_with fail
  refine (valid_any _ _ _).mono ?_
  rintro e w2 ⟨rfl, hb2⟩
  have Bu := step Bt hb2 (by simp)
  clear c0 c1 c2 c3 c4 c5 c6 c7 c8
  obtain ⟨c0, c1, c2, c3, c4, c5, c6, c7, c8⟩ := cells3 Bu
  go_wp2_with fail
  refine (NW.out _).mono ?_
  rintro e w3 ⟨rfl, hb3⟩
  have Bv := step Bu hb3 (by simp)
  clear c0 c1 c2 c3 c4 c5 c6 c7 c8
  obtain ⟨c0, c1, c2, c3, c4, c5, c6, c7, c8⟩ := cells3 Bv
  go_wp2
  refine bodyPost_ret (v := Frac3 _ _ _) (by simp [results, Tryz.results64, go_sem, c4, c5]) rfl ⟨rfl, ?_⟩
  refine Below.setCell (Below.setCell ?_ (by simp <;> omega) _) (by simp <;> omega) _
  exact (below3 _ _ _ _).trans (Bv.mono (by omega))
end Go.Proofs.YtikcinkbkakkmaaGreatDoor.Fr


namespace Go.Proofs.YtikcinkbkakkmaaGreatDoor.Fr
open Go.ChangeShapes Go.WideShapes Go.ChangeAt Go.RowKit
set_option linter.unusedVariables false
set_option linter.unusedSimpArgs false
/-- Go's negation of an int64. -/
def neg64 (n : Int) : Int := if n = -9223372036854775808 then n else -n
set_option maxHeartbeats 4000000 in
theorem sub_any (n1 d1 n2 d2 x y e m : Int) (w : World) (hm : wrap64 (-n2) = m)
    (AD : Hid (∀ w, Calls Tryz.prog 61 #[.agg #[.int .i64 n1, .int .i64 d1], .agg #[.int .i64 m, .int .i64 d2]] w (Ret (Frac3 x y e) w))) :
    Calls Tryz.prog 62 #[.agg #[.int .i64 n1, .int .i64 d1], .agg #[.int .i64 n2, .int .i64 d2]] w (Ret (Frac3 x y e) w) := by

  go_enter Tryz.func62, Tryz.ntmps62
  go_wp2_with fail
  refine (AD.out _).mono ?_
  rintro e w1 ⟨rfl, hb1⟩
  have Bt := hb1.mono (B' := w.heap.size + 3) (by simp)
  obtain ⟨c0, c1, c2, c3, c4, c5, c6, c7, c8⟩ := cells3 Bt
  go_wp2
  refine bodyPost_ret (v := Frac3 _ _ _) (by simp [results, Tryz.results62, go_sem, c4, c5]) rfl ⟨rfl, ?_⟩
  refine Below.setCell (Below.setCell ?_ (by simp <;> omega) _) (by simp <;> omega) _
  exact (below3 _ _ _ _).trans (Bt.mono (by omega))
end Go.Proofs.YtikcinkbkakkmaaGreatDoor.Fr
