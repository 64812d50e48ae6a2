/- The operations of two fractions: the reference. -/
import Derived.Test.YthkhlhibhkdkkaaG9
import Derived.Test.YthkhlhibhkdkkaaG8

namespace Go.Proofs.Ythkhlhibhkdkkaa.Fr
open Go.ChangeShapes Go.WideShapes Go.ChangeAt Go.RowKit
set_option linter.unusedVariables false
set_option linter.unusedSimpArgs false
set_option maxHeartbeats 2000000 in
theorem radd_bad (n1 d1 n2 d2 : Int) (w : World) (h : both n1 d1 n2 d2 = false) :
    Calls Try.prog 44 #[.agg #[.int .i64 n1, .int .i64 d1], .agg #[.int .i64 n2, .int .i64 d2]] w (Ret (Frac3 0 0 1) w) := by
  unfold both at h
  obtain ⟨x1, x2, y1, y2⟩ : ∃ x1 x2, vld n1 d1 = x1 ∧ vld n2 d2 = x2 := ⟨_, _, rfl, rfl⟩
  rw [y1, y2] at h
  cases x1
  · clear h
    go_enter Try.func44, Try.ntmps44
    go_wp2_with fail
    refine (rvalid_any _ _ _).mono ?_
    rintro e w1 ⟨rfl, hb1⟩
    have Bt := hb1.mono (B' := w.heap.size + 3) (by simp)
    obtain ⟨c0, c1, c2, c3, c4, c5, c6, c7, c8⟩ := cells3 Bt
    go_wp2
    refine bodyPost_ret (v := Frac3 0 0 1) (by simp [results, Try.results44, go_sem, c4, c5]) rfl ⟨rfl, ?_⟩
    refine Below.setCell (Below.setCell ?_ (by simp <;> omega) _) (by simp <;> omega) _
    exact (below3 _ _ _ _).trans (Bt.mono (by omega))
  · cases x2
    · clear h
      go_enter Try.func44, Try.ntmps44
      go_wp2_with fail
      refine (rvalid_any _ _ _).mono ?_
      rintro e w1 ⟨rfl, hb1⟩
      have Bt := hb1.mono (B' := w.heap.size + 3) (by simp)
      obtain ⟨c0, c1, c2, c3, c4, c5, c6, c7, c8⟩ := cells3 Bt
      go_wp2_with fail
      refine (rvalid_any _ _ _).mono ?_
      rintro e w2 ⟨rfl, hb2⟩
      have Bu := step Bt hb2 (by simp)
      clear c0 c1 c2 c3 c4 c5 c6 c7 c8
      obtain ⟨c0, c1, c2, c3, c4, c5, c6, c7, c8⟩ := cells3 Bu
      go_wp2
      refine bodyPost_ret (v := Frac3 0 0 1) (by simp [results, Try.results44, go_sem, c4, c5]) rfl ⟨rfl, ?_⟩
      refine Below.setCell (Below.setCell ?_ (by simp <;> omega) _) (by simp <;> omega) _
      exact (below3 _ _ _ _).trans (Bu.mono (by omega))
    · simp at h
set_option maxHeartbeats 2000000 in
theorem radd_ok (n1 d1 n2 d2 : Int) (w : World) (h : both n1 d1 n2 d2 = true) {a b c : Int} (hA : n1 * d2 = a) (hB : n2 * d1 = b) (hC : d1 * d2 = c) (p0 : -4611686014132420609 ≤ a) (p1 : a ≤ 4611686014132420609) (q0 : -4611686014132420609 ≤ b) (q1 : b ≤ 4611686014132420609) (r0 : -4611686014132420609 ≤ c) (r1 : c ≤ 4611686014132420609) :
    Calls Try.prog 44 #[.agg #[.int .i64 n1, .int .i64 d1], .agg #[.int .i64 n2, .int .i64 d2]] w (Ret (Frac3 (newN (a + b) c) (newD (a + b) c) (newE (a + b) c)) w) := by
  unfold both at h
  simp only [Bool.and_eq_true] at h
  obtain ⟨v1, v2⟩ := h
  have NW := Lib.hid (fun w => rnew_any (a + b) c w (by omega) (by omega) (by omega) (by omega))
  go_enter Try.func44, Try.ntmps44
  go_wp2_with fail
  refine (rvalid_any _ _ _).mono ?_
  rintro e w1 ⟨rfl, hb1⟩
  have Bt := hb1.mono (B' := w.heap.size + 3) (by simp)
  obtain ⟨c0, c1, c2, c3, c4, c5, c6, c7, c8⟩ := cells3 Bt
  go_wp2_with fail
  refine (rvalid_any _ _ _).mono ?_
  rintro e w2 ⟨rfl, hb2⟩
  have Bu := step Bt hb2 (by simp)
  clear c0 c1 c2 c3 c4 c5 c6 c7 c8
  obtain ⟨c0, c1, c2, c3, c4, c5, c6, c7, c8⟩ := cells3 Bu
  go_wp2_with fail
  refine (NW.out _).mono ?_
  rintro e w3 ⟨rfl, hb3⟩
  have Bv := step Bu hb3 (by simp)
  clear c0 c1 c2 c3 c4 c5 c6 c7 c8
  obtain ⟨c0, c1, c2, c3, c4, c5, c6, c7, c8⟩ := cells3 Bv
  go_wp2
  refine bodyPost_ret (v := Frac3 _ _ _) (by simp [results, Try.results44, go_sem, c4, c5]) rfl ⟨rfl, ?_⟩
  refine Below.setCell (Below.setCell ?_ (by simp <;> omega) _) (by simp <;> omega) _
  exact (below3 _ _ _ _).trans (Bv.mono (by omega))
set_option maxHeartbeats 2000000 in
theorem rmul_bad (n1 d1 n2 d2 : Int) (w : World) (h : both n1 d1 n2 d2 = false) :
    Calls Try.prog 46 #[.agg #[.int .i64 n1, .int .i64 d1], .agg #[.int .i64 n2, .int .i64 d2]] w (Ret (Frac3 0 0 1) w) := by
  unfold both at h
  obtain ⟨x1, x2, y1, y2⟩ : ∃ x1 x2, vld n1 d1 = x1 ∧ vld n2 d2 = x2 := ⟨_, _, rfl, rfl⟩
  rw [y1, y2] at h
  cases x1
  · clear h
    go_enter Try.func46, Try.ntmps46
    go_wp2_with fail
    refine (rvalid_any _ _ _).mono ?_
    rintro e w1 ⟨rfl, hb1⟩
    have Bt := hb1.mono (B' := w.heap.size + 3) (by simp)
    obtain ⟨c0, c1, c2, c3, c4, c5, c6, c7, c8⟩ := cells3 Bt
    go_wp2
    refine bodyPost_ret (v := Frac3 0 0 1) (by simp [results, Try.results46, go_sem, c4, c5]) rfl ⟨rfl, ?_⟩
    refine Below.setCell (Below.setCell ?_ (by simp <;> omega) _) (by simp <;> omega) _
    exact (below3 _ _ _ _).trans (Bt.mono (by omega))
  · cases x2
    · clear h
      go_enter Try.func46, Try.ntmps46
      go_wp2_with fail
      refine (rvalid_any _ _ _).mono ?_
      rintro e w1 ⟨rfl, hb1⟩
      have Bt := hb1.mono (B' := w.heap.size + 3) (by simp)
      obtain ⟨c0, c1, c2, c3, c4, c5, c6, c7, c8⟩ := cells3 Bt
      go_wp2_with fail
      refine (rvalid_any _ _ _).mono ?_
      rintro e w2 ⟨rfl, hb2⟩
      have Bu := step Bt hb2 (by simp)
      clear c0 c1 c2 c3 c4 c5 c6 c7 c8
      obtain ⟨c0, c1, c2, c3, c4, c5, c6, c7, c8⟩ := cells3 Bu
      go_wp2
      refine bodyPost_ret (v := Frac3 0 0 1) (by simp [results, Try.results46, go_sem, c4, c5]) rfl ⟨rfl, ?_⟩
      refine Below.setCell (Below.setCell ?_ (by simp <;> omega) _) (by simp <;> omega) _
      exact (below3 _ _ _ _).trans (Bu.mono (by omega))
    · simp at h
set_option maxHeartbeats 2000000 in
theorem rmul_ok (n1 d1 n2 d2 : Int) (w : World) (h : both n1 d1 n2 d2 = true) {a c : Int} (hA : n1 * n2 = a) (hC : d1 * d2 = c) (p0 : -4611686014132420609 ≤ a) (p1 : a ≤ 4611686014132420609) (r0 : -4611686014132420609 ≤ c) (r1 : c ≤ 4611686014132420609) :
    Calls Try.prog 46 #[.agg #[.int .i64 n1, .int .i64 d1], .agg #[.int .i64 n2, .int .i64 d2]] w (Ret (Frac3 (newN a c) (newD a c) (newE a c)) w) := by
  unfold both at h
  simp only [Bool.and_eq_true] at h
  obtain ⟨v1, v2⟩ := h
  have NW := Lib.hid (fun w => rnew_any a c w (by omega) (by omega) (by omega) (by omega))
  go_enter Try.func46, Try.ntmps46
  go_wp2_with fail
  refine (rvalid_any _ _ _).mono ?_
  rintro e w1 ⟨rfl, hb1⟩
  have Bt := hb1.mono (B' := w.heap.size + 3) (by simp)
  obtain ⟨c0, c1, c2, c3, c4, c5, c6, c7, c8⟩ := cells3 Bt
  go_wp2_with fail
  refine (rvalid_any _ _ _).mono ?_
  rintro e w2 ⟨rfl, hb2⟩
  have Bu := step Bt hb2 (by simp)
  clear c0 c1 c2 c3 c4 c5 c6 c7 c8
  obtain ⟨c0, c1, c2, c3, c4, c5, c6, c7, c8⟩ := cells3 Bu
  go_wp2_with fail
  refine (NW.out _).mono ?_
  rintro e w3 ⟨rfl, hb3⟩
  have Bv := step Bu hb3 (by simp)
  clear c0 c1 c2 c3 c4 c5 c6 c7 c8
  obtain ⟨c0, c1, c2, c3, c4, c5, c6, c7, c8⟩ := cells3 Bv
  go_wp2
  refine bodyPost_ret (v := Frac3 _ _ _) (by simp [results, Try.results46, go_sem, c4, c5]) rfl ⟨rfl, ?_⟩
  refine Below.setCell (Below.setCell ?_ (by simp <;> omega) _) (by simp <;> omega) _
  exact (below3 _ _ _ _).trans (Bv.mono (by omega))
set_option maxHeartbeats 2000000 in
theorem rdiv_bad (n1 d1 n2 d2 : Int) (w : World) (h : both n1 d1 n2 d2 = false) :
    Calls Try.prog 47 #[.agg #[.int .i64 n1, .int .i64 d1], .agg #[.int .i64 n2, .int .i64 d2]] w (Ret (Frac3 0 0 1) w) := by
  unfold both at h
  obtain ⟨x1, x2, y1, y2⟩ : ∃ x1 x2, vld n1 d1 = x1 ∧ vld n2 d2 = x2 := ⟨_, _, rfl, rfl⟩
  rw [y1, y2] at h
  cases x1
  · clear h
    go_enter Try.func47, Try.ntmps47
    go_wp2_with fail
    refine (rvalid_any _ _ _).mono ?_
    rintro e w1 ⟨rfl, hb1⟩
    have Bt := hb1.mono (B' := w.heap.size + 3) (by simp)
    obtain ⟨c0, c1, c2, c3, c4, c5, c6, c7, c8⟩ := cells3 Bt
    go_wp2
    refine bodyPost_ret (v := Frac3 0 0 1) (by simp [results, Try.results47, go_sem, c4, c5]) rfl ⟨rfl, ?_⟩
    refine Below.setCell (Below.setCell ?_ (by simp <;> omega) _) (by simp <;> omega) _
    exact (below3 _ _ _ _).trans (Bt.mono (by omega))
  · cases x2
    · clear h
      go_enter Try.func47, Try.ntmps47
      go_wp2_with fail
      refine (rvalid_any _ _ _).mono ?_
      rintro e w1 ⟨rfl, hb1⟩
      have Bt := hb1.mono (B' := w.heap.size + 3) (by simp)
      obtain ⟨c0, c1, c2, c3, c4, c5, c6, c7, c8⟩ := cells3 Bt
      go_wp2_with fail
      refine (rvalid_any _ _ _).mono ?_
      rintro e w2 ⟨rfl, hb2⟩
      have Bu := step Bt hb2 (by simp)
      clear c0 c1 c2 c3 c4 c5 c6 c7 c8
      obtain ⟨c0, c1, c2, c3, c4, c5, c6, c7, c8⟩ := cells3 Bu
      go_wp2
      refine bodyPost_ret (v := Frac3 0 0 1) (by simp [results, Try.results47, go_sem, c4, c5]) rfl ⟨rfl, ?_⟩
      refine Below.setCell (Below.setCell ?_ (by simp <;> omega) _) (by simp <;> omega) _
      exact (below3 _ _ _ _).trans (Bu.mono (by omega))
    · simp at h
set_option maxHeartbeats 2000000 in
theorem rdiv_ok (n1 d1 n2 d2 : Int) (w : World) (h : both n1 d1 n2 d2 = true) {a c : Int} (hA : n1 * d2 = a) (hC : d1 * n2 = c) (p0 : -4611686014132420609 ≤ a) (p1 : a ≤ 4611686014132420609) (r0 : -4611686014132420609 ≤ c) (r1 : c ≤ 4611686014132420609) :
    Calls Try.prog 47 #[.agg #[.int .i64 n1, .int .i64 d1], .agg #[.int .i64 n2, .int .i64 d2]] w (Ret (Frac3 (newN a c) (newD a c) (newE a c)) w) := by
  unfold both at h
  simp only [Bool.and_eq_true] at h
  obtain ⟨v1, v2⟩ := h
  have NW := Lib.hid (fun w => rnew_any a c w (by omega) (by omega) (by omega) (by omega))
  go_enter Try.func47, Try.ntmps47
  go_wp2_with fail
  refine (rvalid_any _ _ _).mono ?_
  rintro e w1 ⟨rfl, hb1⟩
  have Bt := hb1.mono (B' := w.heap.size + 3) (by simp)
  obtain ⟨c0, c1, c2, c3, c4, c5, c6, c7, c8⟩ := cells3 Bt
  go_wp2_with fail
  refine (rvalid_any _ _ _).mono ?_
  rintro e w2 ⟨rfl, hb2⟩
  have Bu := step Bt hb2 (by simp)
  clear c0 c1 c2 c3 c4 c5 c6 c7 c8
  obtain ⟨c0, c1, c2, c3, c4, c5, c6, c7, c8⟩ := cells3 Bu
  go_wp2_with fail
  refine (NW.out _).mono ?_
  rintro e w3 ⟨rfl, hb3⟩
  have Bv := step Bu hb3 (by simp)
  clear c0 c1 c2 c3 c4 c5 c6 c7 c8
  obtain ⟨c0, c1, c2, c3, c4, c5, c6, c7, c8⟩ := cells3 Bv
  go_wp2
  refine bodyPost_ret (v := Frac3 _ _ _) (by simp [results, Try.results47, go_sem, c4, c5]) rfl ⟨rfl, ?_⟩
  refine Below.setCell (Below.setCell ?_ (by simp <;> omega) _) (by simp <;> omega) _
  exact (below3 _ _ _ _).trans (Bv.mono (by omega))
set_option maxHeartbeats 2000000 in
theorem rsub_bad (n1 d1 n2 d2 : Int) (w : World) (h : both n1 d1 n2 d2 = false) :
    Calls Try.prog 45 #[.agg #[.int .i64 n1, .int .i64 d1], .agg #[.int .i64 n2, .int .i64 d2]] w (Ret (Frac3 0 0 1) w) := by
  unfold both at h
  obtain ⟨x1, x2, y1, y2⟩ : ∃ x1 x2, vld n1 d1 = x1 ∧ vld n2 d2 = x2 := ⟨_, _, rfl, rfl⟩
  rw [y1, y2] at h
  cases x1
  · clear h
    go_enter Try.func45, Try.ntmps45
    go_wp2_with fail
    refine (rvalid_any _ _ _).mono ?_
    rintro e w1 ⟨rfl, hb1⟩
    have Bt := hb1.mono (B' := w.heap.size + 3) (by simp)
    obtain ⟨c0, c1, c2, c3, c4, c5, c6, c7, c8⟩ := cells3 Bt
    go_wp2
    refine bodyPost_ret (v := Frac3 0 0 1) (by simp [results, Try.results45, go_sem, c4, c5]) rfl ⟨rfl, ?_⟩
    refine Below.setCell (Below.setCell ?_ (by simp <;> omega) _) (by simp <;> omega) _
    exact (below3 _ _ _ _).trans (Bt.mono (by omega))
  · cases x2
    · clear h
      go_enter Try.func45, Try.ntmps45
      go_wp2_with fail
      refine (rvalid_any _ _ _).mono ?_
      rintro e w1 ⟨rfl, hb1⟩
      have Bt := hb1.mono (B' := w.heap.size + 3) (by simp)
      obtain ⟨c0, c1, c2, c3, c4, c5, c6, c7, c8⟩ := cells3 Bt
      go_wp2_with fail
      refine (rvalid_any _ _ _).mono ?_
      rintro e w2 ⟨rfl, hb2⟩
      have Bu := step Bt hb2 (by simp)
      clear c0 c1 c2 c3 c4 c5 c6 c7 c8
      obtain ⟨c0, c1, c2, c3, c4, c5, c6, c7, c8⟩ := cells3 Bu
      go_wp2
      refine bodyPost_ret (v := Frac3 0 0 1) (by simp [results, Try.results45, go_sem, c4, c5]) rfl ⟨rfl, ?_⟩
      refine Below.setCell (Below.setCell ?_ (by simp <;> omega) _) (by simp <;> omega) _
      exact (below3 _ _ _ _).trans (Bu.mono (by omega))
    · simp at h
set_option maxHeartbeats 2000000 in
theorem rsub_ok (n1 d1 n2 d2 : Int) (w : World) (h : both n1 d1 n2 d2 = true) {a b c : Int} (hA : n1 * d2 = a) (hB : n2 * d1 = b) (hC : d1 * d2 = c) (p0 : -4611686014132420609 ≤ a) (p1 : a ≤ 4611686014132420609) (q0 : -4611686014132420609 ≤ b) (q1 : b ≤ 4611686014132420609) (r0 : -4611686014132420609 ≤ c) (r1 : c ≤ 4611686014132420609) :
    Calls Try.prog 45 #[.agg #[.int .i64 n1, .int .i64 d1], .agg #[.int .i64 n2, .int .i64 d2]] w (Ret (Frac3 (newN (a - b) c) (newD (a - b) c) (newE (a - b) c)) w) := by
  unfold both at h
  simp only [Bool.and_eq_true] at h
  obtain ⟨v1, v2⟩ := h
  have NW := Lib.hid (fun w => rnew_any (a - b) c w (by omega) (by omega) (by omega) (by omega))
  go_enter Try.func45, Try.ntmps45
  go_wp2_with fail
  refine (rvalid_any _ _ _).mono ?_
  rintro e w1 ⟨rfl, hb1⟩
  have Bt := hb1.mono (B' := w.heap.size + 3) (by simp)
  obtain ⟨c0, c1, c2, c3, c4, c5, c6, c7, c8⟩ := cells3 Bt
  go_wp2_with fail
  refine (rvalid_any _ _ _).mono ?_
  rintro e w2 ⟨rfl, hb2⟩
  have Bu := step Bt hb2 (by simp)
  clear c0 c1 c2 c3 c4 c5 c6 c7 c8
  obtain ⟨c0, c1, c2, c3, c4, c5, c6, c7, c8⟩ := cells3 Bu
  go_wp2_with fail
  refine (NW.out _).mono ?_
  rintro e w3 ⟨rfl, hb3⟩
  have Bv := step Bu hb3 (by simp)
  clear c0 c1 c2 c3 c4 c5 c6 c7 c8
  obtain ⟨c0, c1, c2, c3, c4, c5, c6, c7, c8⟩ := cells3 Bv
  go_wp2
  refine bodyPost_ret (v := Frac3 _ _ _) (by simp [results, Try.results45, go_sem, c4, c5]) rfl ⟨rfl, ?_⟩
  refine Below.setCell (Below.setCell ?_ (by simp <;> omega) _) (by simp <;> omega) _
  exact (below3 _ _ _ _).trans (Bv.mono (by omega))
end Go.Proofs.Ythkhlhibhkdkkaa.Fr


namespace Go.Proofs.Ythkhlhibhkdkkaa.Fr
open Go.ChangeShapes Go.WideShapes Go.ChangeAt Go.RowKit
set_option linter.unusedVariables false
set_option linter.unusedSimpArgs false
set_option maxHeartbeats 2000000 in
theorem add_bad (n1 d1 n2 d2 : Int) (w : World) (h : both n1 d1 n2 d2 = false) :
    Calls Try.prog 33 #[.agg #[.int .i64 n1, .int .i64 d1], .agg #[.int .i64 n2, .int .i64 d2]] w (Ret (Frac3 0 0 1) w) := by
  unfold both at h
  obtain ⟨x1, x2, y1, y2⟩ : ∃ x1 x2, vld n1 d1 = x1 ∧ vld n2 d2 = x2 := ⟨_, _, rfl, rfl⟩
  rw [y1, y2] at h
  cases x1
  · clear h
    go_enter Try.func33, Try.ntmps33
    go_wp2_with fail
    refine (valid_any _ _ _).mono ?_
    rintro e w1 ⟨rfl, hb1⟩
    have Bt := hb1.mono (B' := w.heap.size + 3) (by simp)
    obtain ⟨c0, c1, c2, c3, c4, c5, c6, c7, c8⟩ := cells3 Bt
    go_wp2
    refine bodyPost_ret (v := Frac3 0 0 1) (by simp [results, Try.results33, go_sem, c4, c5]) rfl ⟨rfl, ?_⟩
    refine Below.setCell (Below.setCell ?_ (by simp <;> omega) _) (by simp <;> omega) _
    exact (below3 _ _ _ _).trans (Bt.mono (by omega))
  · cases x2
    · clear h
      go_enter Try.func33, Try.ntmps33
      go_wp2_with fail
      refine (valid_any _ _ _).mono ?_
      rintro e w1 ⟨rfl, hb1⟩
      have Bt := hb1.mono (B' := w.heap.size + 3) (by simp)
      obtain ⟨c0, c1, c2, c3, c4, c5, c6, c7, c8⟩ := cells3 Bt
      go_wp2_with fail
      refine (valid_any _ _ _).mono ?_
      rintro e w2 ⟨rfl, hb2⟩
      have Bu := step Bt hb2 (by simp)
      clear c0 c1 c2 c3 c4 c5 c6 c7 c8
      obtain ⟨c0, c1, c2, c3, c4, c5, c6, c7, c8⟩ := cells3 Bu
      go_wp2
      refine bodyPost_ret (v := Frac3 0 0 1) (by simp [results, Try.results33, go_sem, c4, c5]) rfl ⟨rfl, ?_⟩
      refine Below.setCell (Below.setCell ?_ (by simp <;> omega) _) (by simp <;> omega) _
      exact (below3 _ _ _ _).trans (Bu.mono (by omega))
    · simp at h
set_option maxHeartbeats 2000000 in
theorem add_ok (n1 d1 n2 d2 : Int) (w : World) (h : both n1 d1 n2 d2 = true) {a b c : Int} (hA : n1 * d2 = a) (hB : n2 * d1 = b) (hC : d1 * d2 = c) (p0 : -4611686014132420609 ≤ a) (p1 : a ≤ 4611686014132420609) (q0 : -4611686014132420609 ≤ b) (q1 : b ≤ 4611686014132420609) (r0 : -4611686014132420609 ≤ c) (r1 : c ≤ 4611686014132420609) :
    Calls Try.prog 33 #[.agg #[.int .i64 n1, .int .i64 d1], .agg #[.int .i64 n2, .int .i64 d2]] w (Ret (Frac3 (newN (a + b) c) (newD (a + b) c) (newE (a + b) c)) w) := by
  unfold both at h
  simp only [Bool.and_eq_true] at h
  obtain ⟨v1, v2⟩ := h
  have NW := Lib.hid (fun w => new_any (a + b) c w (by omega) (by omega) (by omega) (by omega))
  go_enter Try.func33, Try.ntmps33
  go_wp2_with fail
  refine (valid_any _ _ _).mono ?_
  rintro e w1 ⟨rfl, hb1⟩
  have Bt := hb1.mono (B' := w.heap.size + 3) (by simp)
  obtain ⟨c0, c1, c2, c3, c4, c5, c6, c7, c8⟩ := cells3 Bt
  go_wp2_with fail
  refine (valid_any _ _ _).mono ?_
  rintro e w2 ⟨rfl, hb2⟩
  have Bu := step Bt hb2 (by simp)
  clear c0 c1 c2 c3 c4 c5 c6 c7 c8
  obtain ⟨c0, c1, c2, c3, c4, c5, c6, c7, c8⟩ := cells3 Bu
  go_wp2_with fail
  refine (NW.out _).mono ?_
  rintro e w3 ⟨rfl, hb3⟩
  have Bv := step Bu hb3 (by simp)
  clear c0 c1 c2 c3 c4 c5 c6 c7 c8
  obtain ⟨c0, c1, c2, c3, c4, c5, c6, c7, c8⟩ := cells3 Bv
  go_wp2
  refine bodyPost_ret (v := Frac3 _ _ _) (by simp [results, Try.results33, go_sem, c4, c5]) rfl ⟨rfl, ?_⟩
  refine Below.setCell (Below.setCell ?_ (by simp <;> omega) _) (by simp <;> omega) _
  exact (below3 _ _ _ _).trans (Bv.mono (by omega))
set_option maxHeartbeats 2000000 in
theorem mul_bad (n1 d1 n2 d2 : Int) (w : World) (h : both n1 d1 n2 d2 = false) :
    Calls Try.prog 35 #[.agg #[.int .i64 n1, .int .i64 d1], .agg #[.int .i64 n2, .int .i64 d2]] w (Ret (Frac3 0 0 1) w) := by
  unfold both at h
  obtain ⟨x1, x2, y1, y2⟩ : ∃ x1 x2, vld n1 d1 = x1 ∧ vld n2 d2 = x2 := ⟨_, _, rfl, rfl⟩
  rw [y1, y2] at h
  cases x1
  · clear h
    go_enter Try.func35, Try.ntmps35
    go_wp2_with fail
    refine (valid_any _ _ _).mono ?_
    rintro e w1 ⟨rfl, hb1⟩
    have Bt := hb1.mono (B' := w.heap.size + 3) (by simp)
    obtain ⟨c0, c1, c2, c3, c4, c5, c6, c7, c8⟩ := cells3 Bt
    go_wp2
    refine bodyPost_ret (v := Frac3 0 0 1) (by simp [results, Try.results35, go_sem, c4, c5]) rfl ⟨rfl, ?_⟩
    refine Below.setCell (Below.setCell ?_ (by simp <;> omega) _) (by simp <;> omega) _
    exact (below3 _ _ _ _).trans (Bt.mono (by omega))
  · cases x2
    · clear h
      go_enter Try.func35, Try.ntmps35
      go_wp2_with fail
      refine (valid_any _ _ _).mono ?_
      rintro e w1 ⟨rfl, hb1⟩
      have Bt := hb1.mono (B' := w.heap.size + 3) (by simp)
      obtain ⟨c0, c1, c2, c3, c4, c5, c6, c7, c8⟩ := cells3 Bt
      go_wp2_with fail
      refine (valid_any _ _ _).mono ?_
      rintro e w2 ⟨rfl, hb2⟩
      have Bu := step Bt hb2 (by simp)
      clear c0 c1 c2 c3 c4 c5 c6 c7 c8
      obtain ⟨c0, c1, c2, c3, c4, c5, c6, c7, c8⟩ := cells3 Bu
      go_wp2
      refine bodyPost_ret (v := Frac3 0 0 1) (by simp [results, Try.results35, go_sem, c4, c5]) rfl ⟨rfl, ?_⟩
      refine Below.setCell (Below.setCell ?_ (by simp <;> omega) _) (by simp <;> omega) _
      exact (below3 _ _ _ _).trans (Bu.mono (by omega))
    · simp at h
set_option maxHeartbeats 2000000 in
theorem mul_ok (n1 d1 n2 d2 : Int) (w : World) (h : both n1 d1 n2 d2 = true) {a c : Int} (hA : n1 * n2 = a) (hC : d1 * d2 = c) (p0 : -4611686014132420609 ≤ a) (p1 : a ≤ 4611686014132420609) (r0 : -4611686014132420609 ≤ c) (r1 : c ≤ 4611686014132420609) :
    Calls Try.prog 35 #[.agg #[.int .i64 n1, .int .i64 d1], .agg #[.int .i64 n2, .int .i64 d2]] w (Ret (Frac3 (newN a c) (newD a c) (newE a c)) w) := by
  unfold both at h
  simp only [Bool.and_eq_true] at h
  obtain ⟨v1, v2⟩ := h
  have NW := Lib.hid (fun w => new_any a c w (by omega) (by omega) (by omega) (by omega))
  go_enter Try.func35, Try.ntmps35
  go_wp2_with fail
  refine (valid_any _ _ _).mono ?_
  rintro e w1 ⟨rfl, hb1⟩
  have Bt := hb1.mono (B' := w.heap.size + 3) (by simp)
  obtain ⟨c0, c1, c2, c3, c4, c5, c6, c7, c8⟩ := cells3 Bt
  go_wp2_with fail
  refine (valid_any _ _ _).mono ?_
  rintro e w2 ⟨rfl, hb2⟩
  have Bu := step Bt hb2 (by simp)
  clear c0 c1 c2 c3 c4 c5 c6 c7 c8
  obtain ⟨c0, c1, c2, c3, c4, c5, c6, c7, c8⟩ := cells3 Bu
  go_wp2_with fail
  refine (NW.out _).mono ?_
  rintro e w3 ⟨rfl, hb3⟩
  have Bv := step Bu hb3 (by simp)
  clear c0 c1 c2 c3 c4 c5 c6 c7 c8
  obtain ⟨c0, c1, c2, c3, c4, c5, c6, c7, c8⟩ := cells3 Bv
  go_wp2
  refine bodyPost_ret (v := Frac3 _ _ _) (by simp [results, Try.results35, go_sem, c4, c5]) rfl ⟨rfl, ?_⟩
  refine Below.setCell (Below.setCell ?_ (by simp <;> omega) _) (by simp <;> omega) _
  exact (below3 _ _ _ _).trans (Bv.mono (by omega))
set_option maxHeartbeats 2000000 in
theorem div_bad (n1 d1 n2 d2 : Int) (w : World) (h : both n1 d1 n2 d2 = false) :
    Calls Try.prog 36 #[.agg #[.int .i64 n1, .int .i64 d1], .agg #[.int .i64 n2, .int .i64 d2]] w (Ret (Frac3 0 0 1) w) := by
  unfold both at h
  obtain ⟨x1, x2, y1, y2⟩ : ∃ x1 x2, vld n1 d1 = x1 ∧ vld n2 d2 = x2 := ⟨_, _, rfl, rfl⟩
  rw [y1, y2] at h
  cases x1
  · clear h
    go_enter Try.func36, Try.ntmps36
    go_wp2_with fail
    refine (valid_any _ _ _).mono ?_
    rintro e w1 ⟨rfl, hb1⟩
    have Bt := hb1.mono (B' := w.heap.size + 3) (by simp)
    obtain ⟨c0, c1, c2, c3, c4, c5, c6, c7, c8⟩ := cells3 Bt
    go_wp2
    refine bodyPost_ret (v := Frac3 0 0 1) (by simp [results, Try.results36, go_sem, c4, c5]) rfl ⟨rfl, ?_⟩
    refine Below.setCell (Below.setCell ?_ (by simp <;> omega) _) (by simp <;> omega) _
    exact (below3 _ _ _ _).trans (Bt.mono (by omega))
  · cases x2
    · clear h
      go_enter Try.func36, Try.ntmps36
      go_wp2_with fail
      refine (valid_any _ _ _).mono ?_
      rintro e w1 ⟨rfl, hb1⟩
      have Bt := hb1.mono (B' := w.heap.size + 3) (by simp)
      obtain ⟨c0, c1, c2, c3, c4, c5, c6, c7, c8⟩ := cells3 Bt
      go_wp2_with fail
      refine (valid_any _ _ _).mono ?_
      rintro e w2 ⟨rfl, hb2⟩
      have Bu := step Bt hb2 (by simp)
      clear c0 c1 c2 c3 c4 c5 c6 c7 c8
      obtain ⟨c0, c1, c2, c3, c4, c5, c6, c7, c8⟩ := cells3 Bu
      go_wp2
      refine bodyPost_ret (v := Frac3 0 0 1) (by simp [results, Try.results36, go_sem, c4, c5]) rfl ⟨rfl, ?_⟩
      refine Below.setCell (Below.setCell ?_ (by simp <;> omega) _) (by simp <;> omega) _
      exact (below3 _ _ _ _).trans (Bu.mono (by omega))
    · simp at h
set_option maxHeartbeats 2000000 in
theorem div_ok (n1 d1 n2 d2 : Int) (w : World) (h : both n1 d1 n2 d2 = true) {a c : Int} (hA : n1 * d2 = a) (hC : d1 * n2 = c) (p0 : -4611686014132420609 ≤ a) (p1 : a ≤ 4611686014132420609) (r0 : -4611686014132420609 ≤ c) (r1 : c ≤ 4611686014132420609) :
    Calls Try.prog 36 #[.agg #[.int .i64 n1, .int .i64 d1], .agg #[.int .i64 n2, .int .i64 d2]] w (Ret (Frac3 (newN a c) (newD a c) (newE a c)) w) := by
  unfold both at h
  simp only [Bool.and_eq_true] at h
  obtain ⟨v1, v2⟩ := h
  have NW := Lib.hid (fun w => new_any a c w (by omega) (by omega) (by omega) (by omega))
  go_enter Try.func36, Try.ntmps36
  go_wp2_with fail
  refine (valid_any _ _ _).mono ?_
  rintro e w1 ⟨rfl, hb1⟩
  have Bt := hb1.mono (B' := w.heap.size + 3) (by simp)
  obtain ⟨c0, c1, c2, c3, c4, c5, c6, c7, c8⟩ := cells3 Bt
  go_wp2_with fail
  refine (valid_any _ _ _).mono ?_
  rintro e w2 ⟨rfl, hb2⟩
  have Bu := step Bt hb2 (by simp)
  clear c0 c1 c2 c3 c4 c5 c6 c7 c8
  obtain ⟨c0, c1, c2, c3, c4, c5, c6, c7, c8⟩ := cells3 Bu
  go_wp2_with fail
  refine (NW.out _).mono ?_
  rintro e w3 ⟨rfl, hb3⟩
  have Bv := step Bu hb3 (by simp)
  clear c0 c1 c2 c3 c4 c5 c6 c7 c8
  obtain ⟨c0, c1, c2, c3, c4, c5, c6, c7, c8⟩ := cells3 Bv
  go_wp2
  refine bodyPost_ret (v := Frac3 _ _ _) (by simp [results, Try.results36, go_sem, c4, c5]) rfl ⟨rfl, ?_⟩
  refine Below.setCell (Below.setCell ?_ (by simp <;> omega) _) (by simp <;> omega) _
  exact (below3 _ _ _ _).trans (Bv.mono (by omega))
end Go.Proofs.Ythkhlhibhkdkkaa.Fr


namespace Go.Proofs.Ythkhlhibhkdkkaa.Fr
open Go.ChangeShapes Go.WideShapes Go.ChangeAt Go.RowKit
set_option linter.unusedVariables false
set_option linter.unusedSimpArgs false
/-- Go's negation of an int64. -/
def neg64 (n : Int) : Int := if n = -9223372036854775808 then n else -n
set_option maxHeartbeats 4000000 in
theorem sub_any (n1 d1 n2 d2 x y e m : Int) (w : World) (hm : wrap64 (-n2) = m)
    (AD : Hid (∀ w, Calls Try.prog 33 #[.agg #[.int .i64 n1, .int .i64 d1], .agg #[.int .i64 m, .int .i64 d2]] w (Ret (Frac3 x y e) w))) :
    Calls Try.prog 34 #[.agg #[.int .i64 n1, .int .i64 d1], .agg #[.int .i64 n2, .int .i64 d2]] w (Ret (Frac3 x y e) w) := by

  go_enter Try.func34, Try.ntmps34
  go_wp2_with fail
  refine (AD.out _).mono ?_
  rintro e w1 ⟨rfl, hb1⟩
  have Bt := hb1.mono (B' := w.heap.size + 3) (by simp)
  obtain ⟨c0, c1, c2, c3, c4, c5, c6, c7, c8⟩ := cells3 Bt
  go_wp2
  refine bodyPost_ret (v := Frac3 _ _ _) (by simp [results, Try.results34, go_sem, c4, c5]) rfl ⟨rfl, ?_⟩
  refine Below.setCell (Below.setCell ?_ (by simp <;> omega) _) (by simp <;> omega) _
  exact (below3 _ _ _ _).trans (Bt.mono (by omega))
end Go.Proofs.Ythkhlhibhkdkkaa.Fr


namespace Go.Proofs.Ythkhlhibhkdkkaa.Va
open Fr Fx
open Go.ChangeShapes Go.WideShapes Go.ChangeAt Go.RowKit
set_option linter.unusedVariables false
set_option linter.unusedSimpArgs false
/-- The element types. -/
def ty (K B F R O : Int) : Bool := tv K B F R O || decide ((K = 1 ∨ K = 3) ∧ B = 0 ∧ F = 0 ∧ R = 0 ∧ O = 0)
/-- The numbers of a type. -/
def vv (K B F R O n d : Int) : Bool :=
  if K = 2 then fv K B F R O n d else ty K B F R O && (if K = 1 then vld n d else decide (d = 1 ∧ -2147483647 ≤ n ∧ n ≤ 2147483647))
abbrev A3 := Int × Int × Int
abbrev F3 (r : A3) : Value := Frac3 r.1 r.2.1 r.2.2
def nw (n d : Int) : A3 := (newN n d, newD n d, newE n d)
/-- The operators on fractions. -/
def frv (op n1 d1 n2 d2 : Int) : A3 :=
  if op = 4 then nw (n1 * d2 + n2 * d1) (d1 * d2) else if op = 5 then nw (n1 * d2 - n2 * d1) (d1 * d2) else if op = 6 then nw (n1 * n2) (d1 * d2)
  else if op = 7 then nw (n1 * d2) (d1 * n2) else (-n1, d1, 0)
/-- The operators on fixed-point numbers. -/
def fxv (op B F R O n1 n2 : Int) : A3 :=
  if op = 7 ∧ n2 = 0 then (0, 0, 4) else (Nx.nv (if op = 4 then n1 + n2 else if op = 5 then n1 - n2 else if op = 6 then Dv.dval R (n1 * n2) (2 ^ F.toNat) else if op = 7 then Dv.dval R (n1 * 2 ^ F.toNat) n2 else -n1) B O, 1, 0)
def whn (op a b : Int) : Int := if op = 4 then a + b else if op = 5 then a - b else if op = 6 then a * b else if op = 7 then Dv.dval 1 a b else -a
/-- The operators on integers. -/
def whv (op a b : Int) : A3 :=
  if op = 7 ∧ b = 0 then (0, 0, 4) else if -2147483647 ≤ whn op a b ∧ whn op a b ≤ 2147483647 then (whn op a b, 1, 0) else (0, 0, 3)
/-- The order of two numbers of a type. -/
def cpv (K B F R O n1 d1 n2 d2 : Int) : Int :=
  if vv K B F R O n1 d1 && vv K B F R O n2 d2 then cmpv (n1 * d2) (n2 * d1) else 0
/-- The answer of Apply. -/
def apv (op K B F R O n1 d1 n2 d2 : Int) : A3 :=
  if op < 4 ∨ 10 < op then (0, 0, 1) else if ty K B F R O = false then (0, 0, 10)
  else if vv K B F R O n1 d1 = false ∨ (op ≠ 8 ∧ vv K B F R O n2 d2 = false) then (0, 0, 1)
  else if op = 9 then (if cpv K B F R O n1 d1 n2 d2 ≤ 0 then (n1, d1, 0) else (n2, d2, 0))
  else if op = 10 then (if 0 ≤ cpv K B F R O n1 d1 n2 d2 then (n1, d1, 0) else (n2, d2, 0))
  else if K = 1 then frv op n1 d1 n2 d2 else if K = 2 then fxv op B F R O n1 n2 else whv op n1 n2
/-- The answer of One. -/
def onv (K B F R O : Int) : A3 :=
  if ty K B F R O = false then (0, 0, 10) else if K = 2 then (if fv K B F R O (2 ^ F.toNat) 1 then (2 ^ F.toNat, 1, 0) else (0, 0, 3)) else (1, 1, 0)
/-- The value of a number as a fraction. -/
def rat (K F n d : Int) : Int × Int := if K = 2 then ((red n F.toNat).1, 2 ^ (red n F.toNat).2) else (n, d)
/-- The answer of Cast. -/
def cav (K B F R O K' B' F' R' O' n d : Int) : A3 :=
  if ty K B F R O = false ∨ ty K' B' F' R' O' = false then (0, 0, 10) else if vv K B F R O n d = false then (0, 0, 1)
  else if K' = 3 then ((rat K F n d).1 / (rat K F n d).2, 1, 0)
  else if K' = 2 then (Nx.nv (Dv.dval R' ((rat K F n d).1 * 2 ^ F'.toNat) (rat K F n d).2) B' O', 1, 0) else ((rat K F n d).1, (rat K F n d).2, 0)

theorem ty_cases (K B F R O : Int) : (ty K B F R O = true ∧ ((K = 2 ∧ tv K B F R O = true) ∨ ((K = 1 ∨ K = 3) ∧ B = 0 ∧ F = 0 ∧ R = 0 ∧ O = 0 ∧ tv K B F R O = false))) ∨
    (ty K B F R O = false ∧ tv K B F R O = false ∧ (K = 2 ∨ (K ≠ 1 ∧ K ≠ 2 ∧ K ≠ 3) ∨ ((K = 1 ∨ K = 3) ∧ (B ≠ 0 ∨ F ≠ 0 ∨ R ≠ 0 ∨ O ≠ 0)))) := by
  unfold ty
  by_cases h : tv K B F R O = true
  · left
    obtain ⟨k, _⟩ := tv_parts h
    exact ⟨by rw [h]; rfl, .inl ⟨k, h⟩⟩
  · have h' : tv K B F R O = false := by simpa using h
    rw [h', Bool.false_or]
    by_cases g : (K = 1 ∨ K = 3) ∧ B = 0 ∧ F = 0 ∧ R = 0 ∧ O = 0
    · left
      exact ⟨decide_eq_true g, .inr ⟨g.1, g.2.1, g.2.2.1, g.2.2.2.1, g.2.2.2.2, rfl⟩⟩
    · right
      refine ⟨decide_eq_false g, rfl, ?_⟩
      omega
theorem vv_ty {K B F R O n d : Int} (h : vv K B F R O n d = true) : ty K B F R O = true := by
  unfold vv at h
  split at h
  · obtain ⟨t, _⟩ := fv_parts h
    unfold ty; rw [t]; rfl
  · simp only [Bool.and_eq_true] at h
    exact h.1
theorem vv_fix {K B F R O n d : Int} (h : K = 2) : vv K B F R O n d = fv K B F R O n d := by unfold vv; rw [if_pos h]
theorem ty_frac : ty 1 0 0 0 0 = true := by decide
theorem ty_int : ty 3 0 0 0 0 = true := by decide
theorem vv_frac (n d : Int) : vv 1 0 0 0 0 n d = vld n d := by unfold vv; rw [if_neg (by decide), ty_frac, if_pos rfl, Bool.true_and]
theorem vv_int (n d : Int) : vv 3 0 0 0 0 n d = decide (d = 1 ∧ -2147483647 ≤ n ∧ n ≤ 2147483647) := by unfold vv; rw [if_neg (by decide), ty_int, if_neg (by decide), Bool.true_and]
theorem vv_bad {K B F R O n d : Int} (h : ty K B F R O = false) : vv K B F R O n d = false := by
  cases e : vv K B F R O n d with
  | false => rfl
  | true => rw [vv_ty e] at h; cases h
/-- What is valid lies within 31 bits, and its denominator is positive. -/
theorem vv_small {K B F R O n d : Int} (h : vv K B F R O n d = true) : 1 ≤ d ∧ d ≤ 2147483647 ∧ -2147483647 ≤ n ∧ n ≤ 2147483647 ∧ (K ≠ 1 → d = 1) := by
  unfold vv at h
  split at h
  · obtain ⟨t, e, _, _, x, y⟩ := fv_parts h
    omega
  · simp only [Bool.and_eq_true] at h
    obtain ⟨_, h⟩ := h
    split at h
    · obtain ⟨a, b, c, e, _⟩ := vld_parts h
      omega
    · have := of_decide_eq_true h
      omega
theorem vld_one {n : Int} (h : -2147483647 ≤ n) (h' : n ≤ 2147483647) : vld n 1 = true := by
  rw [vld_in (by decide) (by decide) h h']
  simp
/-- Rounding, by the quotient rounded down and what is left. -/
theorem rnd_floor (how n d q : Int) (hd : 0 < d) (m0 : 1 ≤ how) (m1 : how ≤ 4) (hq : Dv.dval 1 n d = q) (n0 : -9223372036854775808 ≤ n) :
    0 ≤ n - q * d ∧ n - q * d < d ∧ Dv.dval how n d = (if n - q * d = 0 ∨ how = 1 then q else if how = 2 then q + 1 else if how = 3 then (if n < 0 then q + 1 else q)
      else if d - (n - q * d) < n - q * d ∨ (n - q * d = d - (n - q * d) ∧ q % 2 ≠ 0) then q + 1 else q) := by
  have e1 : Dv.dval 1 n d = Plain.rnd 1 (n.tdiv d) (n.tmod d) d := by unfold Dv.dval; rw [if_neg (by omega), if_neg (by omega), if_neg (by omega)]
  have e2 : Dv.dval how n d = Plain.rnd how (n.tdiv d) (n.tmod d) d := by unfold Dv.dval; rw [if_neg (by omega), if_neg (by omega), if_neg (by omega)]
  rw [e1] at hq
  rw [e2]
  have F := Plain.tfacts n d (by omega)
  have S := Plain.tsign n d
  have E := Int.mul_tdiv_add_tmod n d
  generalize n.tdiv d = a at *
  generalize n.tmod d = r at *
  obtain ⟨F1, F2, F3, F4, F5⟩ := F
  have hq1 : r < 0 → q = a - 1 := by
    intro h
    rw [← hq]; unfold Plain.rnd; rw [if_neg (by omega), if_neg (by omega), if_pos rfl, if_neg (by omega)]
  have hq2 : 0 ≤ r → q = a := by
    intro h
    rw [← hq]; unfold Plain.rnd
    by_cases h0 : r = 0
    · rw [if_pos h0]
    · rw [if_neg h0, if_neg (by omega), if_pos rfl, if_pos (by omega)]
  clear hq e1 e2
  have hP : (r < 0 → q = a - 1 ∧ q * d = a * d - d) ∧ (0 ≤ r → q = a ∧ q * d = a * d) := by
    constructor
    · intro h
      refine ⟨hq1 h, ?_⟩
      rw [hq1 h, Int.sub_mul, Int.one_mul]
    · intro h
      refine ⟨hq2 h, ?_⟩
      rw [hq2 h]
  rw [Int.mul_comm d a] at E
  generalize q * d = P at *
  generalize a * d = Q at *
  clear hq1 hq2
  refine ⟨?_, ?_, ?_⟩
  · by_cases h : r < 0
    · have := hP.1 h; omega
    · have := hP.2 (by omega); omega
  · by_cases h : r < 0
    · have := hP.1 h; omega
    · have := hP.2 (by omega); omega
  · unfold Plain.rnd
    by_cases h : r < 0
    · obtain ⟨h1, h2⟩ := hP.1 h
      subst h1
      (repeat' split) <;> omega
    · obtain ⟨h1, h2⟩ := hP.2 (by omega)
      subst h1
      (repeat' split) <;> omega
end Go.Proofs.Ythkhlhibhkdkkaa.Va


namespace Go.Proofs.Ythkhlhibhkdkkaa.Va
open Go.ChangeShapes Go.WideShapes Go.ChangeAt Go.RowKit
open Fr Fx
set_option maxRecDepth 8000
set_option linter.unusedVariables false
set_option linter.unusedSimpArgs false

theorem nw_neg (X Y : Int) : newN X Y = newN (-X) (-Y) ∧ newD X Y = newD (-X) (-Y) ∧ newE X Y = newE (-X) (-Y) := by
  by_cases hY : Y = 0
  · subst hY
    unfold newN newD newE
    simp
  unfold newN newD newE
  have hY' : -Y ≠ 0 := by omega
  rw [if_neg hY, if_neg hY, if_neg hY, if_neg hY', if_neg hY', if_neg hY']
  have e2 : (if -Y < 0 then - -Y else -Y) = (if Y < 0 then -Y else Y) := by split <;> split <;> omega
  have e1 : (if -X < 0 then - -X else -X) = (if X < 0 then -X else X) := by split <;> split <;> omega
  rw [e1, e2]
  refine ⟨?_, rfl, rfl⟩
  by_cases hX : X = 0
  · subst hX
    have z : ∀ s m, lowN s 0 m = 0 := by
      intro s m
      unfold lowN
      cases s <;> simp
    simp [z]
  have h1 : decide (-X < 0) = !decide (X < 0) := by
    by_cases a : X < 0
    · rw [decide_eq_true a, decide_eq_false (by omega)]; rfl
    · rw [decide_eq_false a, decide_eq_true (by omega)]; rfl
  have h2 : decide (-Y < 0) = !decide (Y < 0) := by
    by_cases a : Y < 0
    · rw [decide_eq_true a, decide_eq_false (by omega)]; rfl
    · rw [decide_eq_false a, decide_eq_true (by omega)]; rfl
  rw [h1, h2]
  cases decide (X < 0) <;> cases decide (Y < 0) <;> rfl

/-- x, and if it is no error, what k makes of it. -/
def thn (x : A3) (k : Int → Int → A3) : A3 := if x.2.2 = 0 then k x.1 x.2.1 else (0, 0, x.2.2)
/-- The tangent of an operator; (vn, vd) is the value. -/
def dtn (op n1 d1 t1 u1 n2 d2 t2 u2 vn vd : Int) : A3 :=
  if op = 4 then nw (t1 * u2 + t2 * u1) (u1 * u2) else if op = 5 then nw (t1 * u2 - t2 * u1) (u1 * u2)
  else if op = 6 then thn (nw (t1 * n2) (u1 * d2)) fun a b => thn (nw (n1 * t2) (d1 * u2)) fun c d => nw (a * d + c * b) (b * d)
  else if op = 7 then thn (nw (vn * t2) (vd * u2)) fun a b => thn (nw (t1 * b - a * u1) (u1 * b)) fun c d => nw (c * d2) (d * n2)
  else if op = 8 then (-t1, u1, 0) else if vn = n1 ∧ vd = d1 then (t1, u1, 0) else (t2, u2, 0)
abbrev A5 := Int × Int × Int × Int × Int
abbrev D4 (a b c d : Int) : Value := .agg #[.int .i64 a, .int .i64 b, .int .i64 c, .int .i64 d]
abbrev F5 (r : A5) : Value := .tuple #[.agg #[.int .i64 r.1, .int .i64 r.2.1, .int .i64 r.2.2.1, .int .i64 r.2.2.2.1], .int .i64 r.2.2.2.2]
/-- The answer of Apply on dual numbers. -/
def dav (op n1 d1 t1 u1 n2 d2 t2 u2 : Int) : A5 :=
  if op < 4 ∨ 10 < op ∨ (vld n1 d1 && vld t1 u1) = false ∨ (op ≠ 8 ∧ (vld n2 d2 && vld t2 u2) = false) then (0, 0, 0, 0, 1)
  else
    let v := apv op 1 0 0 0 0 n1 d1 n2 d2
    if v.2.2 ≠ 0 then (0, 0, 0, 0, v.2.2) else
      let t := dtn op n1 d1 t1 u1 n2 d2 t2 u2 v.1 v.2.1
      if t.2.2 ≠ 0 then (0, 0, 0, 0, t.2.2) else (v.1, v.2.1, t.1, t.2.1, 0)
theorem thn_ok {x : A3} {k : Int → Int → A3} (h : x.2.2 = 0) : thn x k = k x.1 x.2.1 := if_pos h
theorem thn_no {x : A3} {k : Int → Int → A3} (h : x.2.2 ≠ 0) : thn x k = (0, 0, x.2.2) := if_neg h
theorem nw_vld {n d : Int} (h : (nw n d).2.2 = 0) : vld (nw n d).1 (nw n d).2.1 = true := new_valid n d h
theorem nw_zero {n : Int} : nw n 0 = (0, 0, 4) := by
  unfold nw newN newD newE
  simp
theorem nw_back {X Y n d : Int} (hY : Y ≠ 0) (hv : vld n d = true) (h : X * d = n * Y) : nw X Y = (n, d, 0) := by
  rcases Int.lt_or_gt_of_ne hY with h0 | h0
  · have e : newN X Y = newN (-X) (-Y) ∧ newD X Y = newD (-X) (-Y) ∧ newE X Y = newE (-X) (-Y) := nw_neg X Y
    obtain ⟨a, b, c⟩ := new_back (-X) (-Y) n d (by omega) hv (by rw [Int.neg_mul, Int.mul_neg, h])
    unfold nw
    rw [e.1, e.2.1, e.2.2, a, b, c]
  · obtain ⟨a, b, c⟩ := new_back X Y n d h0 hv h
    unfold nw
    rw [a, b, c]
theorem nw_red {X Y : Int} (he : (nw X Y).2.2 = 0) : Y ≠ 0 ∧ (nw X Y).1 * Y = X * (nw X Y).2.1 := by
  have hY : Y ≠ 0 := by
    intro h
    subst h
    rw [nw_zero] at he
    cases he
  refine ⟨hY, ?_⟩
  rcases Int.lt_or_gt_of_ne hY with h0 | h0
  · have e : newN X Y = newN (-X) (-Y) ∧ newD X Y = newD (-X) (-Y) ∧ newE X Y = newE (-X) (-Y) := nw_neg X Y
    have he' : newE (-X) (-Y) = 0 := by rw [← e.2.2]; exact he
    have := new_red (-X) (-Y) (by omega) he'
    show newN X Y * Y = X * newD X Y
    rw [e.1, e.2.1]
    rw [Int.mul_neg, Int.neg_mul] at this
    omega
  · exact new_red X Y h0 he

theorem vld_ne {n d : Int} (h : vld n d = true) : d ≠ 0 := by
  obtain ⟨x1, _⟩ := vld_parts h
  omega
theorem ap_frac (op : Int) {a b c d : Int} (ho : op = 6 ∨ op = 7) (hv : vld a b = true) (hw : vld c d = true) : apv op 1 0 0 0 0 a b c d = frv op a b c d := by
  unfold apv
  rw [if_neg (by omega), if_neg (by rw [ty_frac]; decide), if_neg (by rw [vv_frac, vv_frac, hv, hw]; simp), if_neg (by omega), if_neg (by omega), if_pos rfl]
theorem thn_inv {x : A3} {k : Int → Int → A3} (h : (thn x k).2.2 = 0) : x.2.2 = 0 ∧ thn x k = k x.1 x.2.1 := by
  by_cases g : x.2.2 = 0
  · exact ⟨g, thn_ok g⟩
  · rw [thn_no g] at h; exact absurd h g
theorem dtn_six (n1 d1 t1 u1 n2 d2 t2 u2 vn vd : Int) : dtn 6 n1 d1 t1 u1 n2 d2 t2 u2 vn vd = thn (nw (t1 * n2) (u1 * d2)) fun a b => thn (nw (n1 * t2) (d1 * u2)) fun c d => nw (a * d + c * b) (b * d) := by
  unfold dtn
  rw [if_neg (by decide), if_neg (by decide), if_pos rfl]
theorem dtn_seven (n1 d1 t1 u1 n2 d2 t2 u2 vn vd : Int) : dtn 7 n1 d1 t1 u1 n2 d2 t2 u2 vn vd = thn (nw (vn * t2) (vd * u2)) fun a b => thn (nw (t1 * b - a * u1) (u1 * b)) fun c d => nw (c * d2) (d * n2) := by
  unfold dtn
  rw [if_neg (by decide), if_neg (by decide), if_neg (by decide), if_pos rfl]
/-- Apply at valid numbers. -/
theorem dav_ok (op : Int) {n1 d1 t1 u1 n2 d2 t2 u2 : Int} (ho : op = 6 ∨ op = 7) (w1 : vld n1 d1 = true) (w2 : vld t1 u1 = true) (w3 : vld n2 d2 = true) (w4 : vld t2 u2 = true) :
    dav op n1 d1 t1 u1 n2 d2 t2 u2 = if (frv op n1 d1 n2 d2).2.2 ≠ 0 then (0, 0, 0, 0, (frv op n1 d1 n2 d2).2.2) else
      if (dtn op n1 d1 t1 u1 n2 d2 t2 u2 (frv op n1 d1 n2 d2).1 (frv op n1 d1 n2 d2).2.1).2.2 ≠ 0 then (0, 0, 0, 0, (dtn op n1 d1 t1 u1 n2 d2 t2 u2 (frv op n1 d1 n2 d2).1 (frv op n1 d1 n2 d2).2.1).2.2)
      else ((frv op n1 d1 n2 d2).1, (frv op n1 d1 n2 d2).2.1, (dtn op n1 d1 t1 u1 n2 d2 t2 u2 (frv op n1 d1 n2 d2).1 (frv op n1 d1 n2 d2).2.1).1, (dtn op n1 d1 t1 u1 n2 d2 t2 u2 (frv op n1 d1 n2 d2).1 (frv op n1 d1 n2 d2).2.1).2.1, 0) := by
  unfold dav
  rw [if_neg (by rw [w1, w2, w3, w4]; simp; omega)]
  simp only [ap_frac op ho w1 w3]
theorem dav_valid {op n1 d1 t1 u1 n2 d2 t2 u2 : Int} (h : (dav op n1 d1 t1 u1 n2 d2 t2 u2).2.2.2.2 = 0) : (vld n1 d1 = true ∧ vld t1 u1 = true) ∧ (op ≠ 8 → vld n2 d2 = true ∧ vld t2 u2 = true) := by
  unfold dav at h
  by_cases hb : op < 4 ∨ 10 < op ∨ (vld n1 d1 && vld t1 u1) = false ∨ (op ≠ 8 ∧ (vld n2 d2 && vld t2 u2) = false)
  · rw [if_pos hb] at h; simp at h
  · simp only [not_or, not_and] at hb
    obtain ⟨_, _, b1, b2⟩ := hb
    refine ⟨?_, fun ho => ?_⟩
    · simpa using b1
    · simpa using b2 ho
/-- A quotient of dual numbers, multiplied by its divisor, is the dividend (P25.6). -/
theorem dav_back {n1 d1 t1 u1 n2 d2 t2 u2 x y z s : Int} (h : dav 7 n1 d1 t1 u1 n2 d2 t2 u2 = (x, y, z, s, 0)) : dav 6 x y z s n2 d2 t2 u2 = (n1, d1, t1, u1, 0) := by
  obtain ⟨⟨w1, w2⟩, w34⟩ := dav_valid (by rw [h] : (dav 7 n1 d1 t1 u1 n2 d2 t2 u2).2.2.2.2 = 0)
  obtain ⟨w3, w4⟩ := w34 (by decide)
  rw [dav_ok 7 (.inr rfl) w1 w2 w3 w4] at h
  have f7 : frv 7 n1 d1 n2 d2 = nw (n1 * d2) (d1 * n2) := by unfold frv; simp
  rw [f7] at h
  by_cases hv : (nw (n1 * d2) (d1 * n2)).2.2 ≠ 0
  · rw [if_pos hv] at h
    exact absurd (by simpa using congrArg (fun r : A5 => r.2.2.2.2) h) hv
  rw [if_neg hv] at h
  have hv0 : (nw (n1 * d2) (d1 * n2)).2.2 = 0 := by simpa using hv
  have V := nw_vld hv0
  obtain ⟨Y1, E1⟩ := nw_red hv0
  clear hv hv0 f7
  generalize nw (n1 * d2) (d1 * n2) = v at *
  obtain ⟨vn, vd, ve⟩ := v
  dsimp only at *
  rw [dtn_seven] at h
  by_cases ht : (thn (nw (vn * t2) (vd * u2)) fun a b => thn (nw (t1 * b - a * u1) (u1 * b)) fun c d => nw (c * d2) (d * n2)).2.2 ≠ 0
  · rw [if_pos ht] at h
    exact absurd (by simpa using congrArg (fun r : A5 => r.2.2.2.2) h) ht
  rw [if_neg ht] at h
  obtain ⟨P0, e1⟩ := thn_inv (by simpa using ht)
  rw [e1] at h ht
  have PV := nw_vld P0
  have e2 := thn_ok P0 (k := fun a b => thn (nw (n1 * t2) (d1 * u2)) fun c d => nw (a * d + c * b) (b * d))
  obtain ⟨YP, EP⟩ := nw_red P0
  generalize hP : nw (vn * t2) (vd * u2) = P at *
  obtain ⟨a, b, pe⟩ := P
  dsimp only at *
  subst P0
  obtain ⟨R0, e3⟩ := thn_inv (by simpa using ht)
  rw [e3] at h ht
  have RV := nw_vld R0
  obtain ⟨YR, ER⟩ := nw_red R0
  generalize nw (t1 * b - a * u1) (u1 * b) = R at *
  obtain ⟨c, d, re⟩ := R
  dsimp only at *
  subst R0
  have Z0 : (nw (c * d2) (d * n2)).2.2 = 0 := by simpa using ht
  have ZV := nw_vld Z0
  obtain ⟨YZ, EZ⟩ := nw_red Z0
  generalize nw (c * d2) (d * n2) = Z at *
  obtain ⟨zn, zd, ze⟩ := Z
  dsimp only at *
  subst Z0
  simp only [Prod.mk.injEq, and_true] at h
  obtain ⟨rfl, rfl, rfl, rfl⟩ := h
  clear e1 e2 e3 ht w34
  have f6 : frv 6 vn vd n2 d2 = (n1, d1, 0) := by
    have : frv 6 vn vd n2 d2 = nw (vn * n2) (vd * d2) := by unfold frv; simp
    rw [this]
    exact nw_back (Int.mul_ne_zero (vld_ne V) (vld_ne w3)) w1 (by grind)
  rw [dav_ok 6 (.inl rfl) V ZV w3 w4, f6]
  dsimp only
  rw [if_neg (by simp), dtn_six]
  have h1 : nw (zn * n2) (zd * d2) = (c, d, 0) := nw_back (Int.mul_ne_zero (vld_ne ZV) (vld_ne w3)) RV (by grind)
  have h2 : nw (c * b + a * d) (d * b) = (t1, u1, 0) := nw_back (Int.mul_ne_zero (vld_ne RV) (vld_ne PV)) w2 (by grind)
  rw [h1, hP]
  rw [thn_ok rfl]
  dsimp only
  rw [thn_ok rfl]
  dsimp only
  rw [h2]
  rfl
end Go.Proofs.Ythkhlhibhkdkkaa.Va
