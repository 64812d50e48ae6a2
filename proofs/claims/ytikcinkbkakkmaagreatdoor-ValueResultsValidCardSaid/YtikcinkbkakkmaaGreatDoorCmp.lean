/- Compare of package frac and of the reference. -/
import Derived.Test.YtikcinkbkakkmaaGreatDoorFlo

namespace Go.Proofs.YtikcinkbkakkmaaGreatDoor.Fr
open Go.ChangeShapes Go.WideShapes Go.ChangeAt Go.RowKit
set_option linter.unusedVariables false
set_option linter.unusedSimpArgs false
def cmpv (x y : Int) : Int := if x < y then -1 else if y < x then 1 else 0
def cmpr (n1 d1 n2 d2 : Int) : Int := if both n1 d1 n2 d2 then cmpv (n1 * d2) (n2 * d1) else if n1 = n2 then cmpv d1 d2 else cmpv n1 n2
theorem cmpv_cases (x y : Int) : (x < y ∧ cmpv x y = -1) ∨ (y < x ∧ cmpv x y = 1) ∨ (x = y ∧ cmpv x y = 0) := by
  unfold cmpv
  by_cases h : x < y
  · exact .inl ⟨h, if_pos h⟩
  · by_cases h' : y < x
    · exact .inr (.inl ⟨h', by rw [if_neg h, if_pos h']⟩)
    · exact .inr (.inr ⟨by omega, by rw [if_neg h, if_neg h']⟩)
theorem cmp45 (x y : Int) (w : World) : Calls Tryz.prog 39 #[.int .i64 x, .int .i64 y] w fun e w' => e = .returned (.int .i64 (cmpv x y)) ∧ w = w' := by
  rcases cmpv_cases x y with ⟨h, e⟩ | ⟨h, e⟩ | ⟨h, e⟩
  · rw [e]
    have h1 : decide (x < y) = true := by simpa using h
    clear e h
    go_enter Tryz.func39, Tryz.ntmps39
    go_wp2
    go_ret
    exact ⟨rfl, rfl⟩
  · rw [e]
    have h1 : decide (x < y) = false := by simp; omega
    have h2 : decide (y < x) = true := by simpa using h
    clear e
    go_enter Tryz.func39, Tryz.ntmps39
    go_wp2
    go_ret
    exact ⟨rfl, rfl⟩
  · subst h
    rw [e]
    clear e
    go_enter Tryz.func39, Tryz.ntmps39
    go_wp2
    go_ret
    exact ⟨rfl, rfl⟩
theorem ord46 (x y : Int) (w : World) : Calls Tryz.prog 79 #[.int .i64 x, .int .i64 y] w fun e w' => e = .returned (.int .i64 (cmpv x y)) ∧ w = w' := by
  rcases cmpv_cases x y with ⟨h, e⟩ | ⟨h, e⟩ | ⟨h, e⟩
  · rw [e]
    have h1 : decide (x < y) = true := by simpa using h
    clear e h
    go_enter Tryz.func79, Tryz.ntmps79
    go_wp2
    go_ret
    exact ⟨rfl, rfl⟩
  · rw [e]
    have h1 : decide (x < y) = false := by simp; omega
    have h2 : decide (y < x) = true := by simpa using h
    clear e
    go_enter Tryz.func79, Tryz.ntmps79
    go_wp2
    go_ret
    exact ⟨rfl, rfl⟩
  · subst h
    rw [e]
    clear e
    go_enter Tryz.func79, Tryz.ntmps79
    go_wp2
    go_ret
    exact ⟨rfl, rfl⟩
theorem cells2 {w w1 : World} {n1 d1 n2 d2 : Int} (h : Below (w.heap.size + 2) ((w.alloc (.cells #[.int .i64 n1, .int .i64 d1] 25)).alloc (.cells #[.int .i64 n2, .int .i64 d2] 25)) w1) :
    w1.cell? ⟨w.heap.size, 0, none⟩ = some (.int .i64 n1) ∧ w1.cell? ⟨w.heap.size, 1, none⟩ = some (.int .i64 d1) ∧ w1.cell? ⟨w.heap.size + 1, 0, none⟩ = some (.int .i64 n2) ∧ w1.cell? ⟨w.heap.size + 1, 1, none⟩ = some (.int .i64 d2) ∧ w.heap.size + 2 ≤ w1.heap.size := by
  have s := h.size
  simp at s
  refine ⟨?_, ?_, ?_, ?_, by omega⟩
  · rw [h.cell (p := ⟨w.heap.size, 0, none⟩) (show w.heap.size < w.heap.size + 2 by omega)]; go_cell
  · rw [h.cell (p := ⟨w.heap.size, 1, none⟩) (show w.heap.size < w.heap.size + 2 by omega)]; go_cell
  · rw [h.cell (p := ⟨w.heap.size + 1, 0, none⟩) (show w.heap.size + 1 < w.heap.size + 2 by omega)]; go_cell
  · rw [h.cell (p := ⟨w.heap.size + 1, 1, none⟩) (show w.heap.size + 1 < w.heap.size + 2 by omega)]; go_cell
theorem below2 (w : World) (a b : Obj) : Below w.heap.size w ((w.alloc a).alloc b) := ((Below.refl _ _).alloc (Nat.le_refl _) _).alloc (by simp) _
set_option maxHeartbeats 8000000 in
theorem cmp_ok (n1 d1 n2 d2 a b : Int) (w : World) (h : both n1 d1 n2 d2 = true) (hA : n1 * d2 = a) (hB : n2 * d1 = b) (p0 : -4611686014132420609 ≤ a) (p1 : a ≤ 4611686014132420609) (q0 : -4611686014132420609 ≤ b) (q1 : b ≤ 4611686014132420609) :
    Calls Tryz.prog 38 #[.agg #[.int .i64 n1, .int .i64 d1], .agg #[.int .i64 n2, .int .i64 d2]] w (Ret (.int .i64 (cmpr n1 d1 n2 d2)) w) := by
  have HV : Hid (cmpr n1 d1 n2 d2 = cmpv a b) := Lib.hid (by unfold cmpr; rw [if_pos h, hA, hB])
  unfold both at h
  simp only [Bool.and_eq_true] at h
  obtain ⟨v1, v2⟩ := h
  · go_enter Tryz.func38, Tryz.ntmps38
    go_wp2_with fail
    refine (valid_any _ _ _).mono ?_
    rintro e w1 ⟨rfl, hb1⟩
    have Bt := hb1.mono (B' := w.heap.size + 2) (by simp)
    obtain ⟨c0, c1, c2, c3, c4⟩ := cells2 Bt
    go_wp2_with fail
    refine (valid_any _ _ _).mono ?_
    rintro e w2 ⟨rfl, hb2⟩
    have Bt := step Bt hb2 (by simp)
    clear c0 c1 c2 c3 c4
    obtain ⟨c0, c1, c2, c3, c4⟩ := cells2 Bt
    go_wp2_with (go_at_call 39; refine (cmp45 _ _ _).mono ?_; rintro e w5 ⟨rfl, rfl⟩)
    go_ret
    exact ⟨by first | (rw [HV.out]; done) | (rw [HV.out]; rfl), (below2 _ _ _).trans (Bt.mono (by omega))⟩
set_option maxHeartbeats 8000000 in
theorem cmp_bad (n1 d1 n2 d2 : Int) (w : World) (h : both n1 d1 n2 d2 = false) :
    Calls Tryz.prog 38 #[.agg #[.int .i64 n1, .int .i64 d1], .agg #[.int .i64 n2, .int .i64 d2]] w (Ret (.int .i64 (cmpr n1 d1 n2 d2)) w) := by
  have HV : cmpr n1 d1 n2 d2 = if n1 = n2 then cmpv d1 d2 else cmpv n1 n2 := by unfold cmpr; rw [if_neg (by rw [h]; decide)]
  unfold both at h
  obtain ⟨x1, x2, y1, y2⟩ : ∃ x1 x2, vld n1 d1 = x1 ∧ vld n2 d2 = x2 := ⟨_, _, rfl, rfl⟩
  rw [y1, y2] at h
  obtain ⟨cv, hcv⟩ : ∃ cv, cmpv n1 n2 = cv := ⟨_, rfl⟩
  have hcc := cmpv_cases n1 n2
  rw [hcv] at hcc
  by_cases hn : n1 = n2
  · have hc0 : (cv != 0) = false := by simp; omega
    have hne : (n1 != n2) = false := by simpa using hn
    rw [if_pos hn] at HV
    have HV := Lib.hid HV
    clear hn hcc
    cases x1
    · clear h
      go_enter Tryz.func38, Tryz.ntmps38
      go_wp2_with fail
      refine (valid_any _ _ _).mono ?_
      rintro e w1 ⟨rfl, hb1⟩
      have Bt := hb1.mono (B' := w.heap.size + 2) (by simp)
      obtain ⟨c0, c1, c2, c3, c4⟩ := cells2 Bt
      go_wp2_with (go_at_call 39; refine (cmp45 _ _ _).mono ?_; rintro e w5 ⟨rfl, rfl⟩)
      go_ret
      exact ⟨by first | (rw [HV.out]; done) | (rw [HV.out]; rfl), (below2 _ _ _).trans (Bt.mono (by omega))⟩
    · cases x2
      · clear h
        go_enter Tryz.func38, Tryz.ntmps38
        go_wp2_with fail
        refine (valid_any _ _ _).mono ?_
        rintro e w1 ⟨rfl, hb1⟩
        have Bt := hb1.mono (B' := w.heap.size + 2) (by simp)
        obtain ⟨c0, c1, c2, c3, c4⟩ := cells2 Bt
        go_wp2_with fail
        refine (valid_any _ _ _).mono ?_
        rintro e w2 ⟨rfl, hb2⟩
        have Bt := step Bt hb2 (by simp)
        clear c0 c1 c2 c3 c4
        obtain ⟨c0, c1, c2, c3, c4⟩ := cells2 Bt
        go_wp2_with (go_at_call 39; refine (cmp45 _ _ _).mono ?_; rintro e w5 ⟨rfl, rfl⟩)
        go_ret
        exact ⟨by first | (rw [HV.out]; done) | (rw [HV.out]; rfl), (below2 _ _ _).trans (Bt.mono (by omega))⟩
      · simp at h
  · have hc0 : (cv != 0) = true := by simp; omega
    have hne : (n1 != n2) = true := by simpa using hn
    rw [if_neg hn, hcv] at HV
    have HV := Lib.hid HV
    clear hn hcc
    cases x1
    · clear h
      go_enter Tryz.func38, Tryz.ntmps38
      go_wp2_with fail
      refine (valid_any _ _ _).mono ?_
      rintro e w1 ⟨rfl, hb1⟩
      have Bt := hb1.mono (B' := w.heap.size + 2) (by simp)
      obtain ⟨c0, c1, c2, c3, c4⟩ := cells2 Bt
      go_wp2_with (go_at_call 39; refine (cmp45 _ _ _).mono ?_; rintro e w5 ⟨rfl, rfl⟩)
      go_ret
      exact ⟨by first | (rw [HV.out]; done) | (rw [HV.out]; rfl), (below2 _ _ _).trans (Bt.mono (by omega))⟩
    · cases x2
      · clear h
        go_enter Tryz.func38, Tryz.ntmps38
        go_wp2_with fail
        refine (valid_any _ _ _).mono ?_
        rintro e w1 ⟨rfl, hb1⟩
        have Bt := hb1.mono (B' := w.heap.size + 2) (by simp)
        obtain ⟨c0, c1, c2, c3, c4⟩ := cells2 Bt
        go_wp2_with fail
        refine (valid_any _ _ _).mono ?_
        rintro e w2 ⟨rfl, hb2⟩
        have Bt := step Bt hb2 (by simp)
        clear c0 c1 c2 c3 c4
        obtain ⟨c0, c1, c2, c3, c4⟩ := cells2 Bt
        go_wp2_with (go_at_call 39; refine (cmp45 _ _ _).mono ?_; rintro e w5 ⟨rfl, rfl⟩)
        go_ret
        exact ⟨by first | (rw [HV.out]; done) | (rw [HV.out]; rfl), (below2 _ _ _).trans (Bt.mono (by omega))⟩
      · simp at h
set_option maxHeartbeats 8000000 in
theorem rcmp_ok (n1 d1 n2 d2 a b : Int) (w : World) (h : both n1 d1 n2 d2 = true) (hA : n1 * d2 = a) (hB : n2 * d1 = b) (p0 : -4611686014132420609 ≤ a) (p1 : a ≤ 4611686014132420609) (q0 : -4611686014132420609 ≤ b) (q1 : b ≤ 4611686014132420609) :
    Calls Tryz.prog 41 #[.agg #[.int .i64 n1, .int .i64 d1], .agg #[.int .i64 n2, .int .i64 d2]] w (Ret (.int .i64 (cmpr n1 d1 n2 d2)) w) := by
  have HV : Hid (cmpr n1 d1 n2 d2 = cmpv a b) := Lib.hid (by unfold cmpr; rw [if_pos h, hA, hB])
  unfold both at h
  simp only [Bool.and_eq_true] at h
  obtain ⟨v1, v2⟩ := h
  · go_enter Tryz.func41, Tryz.ntmps41
    go_wp2_with fail
    refine (rvalid_any _ _ _).mono ?_
    rintro e w1 ⟨rfl, hb1⟩
    have Bt := hb1.mono (B' := w.heap.size + 2) (by simp)
    obtain ⟨c0, c1, c2, c3, c4⟩ := cells2 Bt
    go_wp2_with fail
    refine (rvalid_any _ _ _).mono ?_
    rintro e w2 ⟨rfl, hb2⟩
    have Bt := step Bt hb2 (by simp)
    clear c0 c1 c2 c3 c4
    obtain ⟨c0, c1, c2, c3, c4⟩ := cells2 Bt
    go_wp2_with (go_at_call 79; refine (ord46 _ _ _).mono ?_; rintro e w5 ⟨rfl, rfl⟩)
    go_ret
    exact ⟨by first | (rw [HV.out]; done) | (rw [HV.out]; rfl), (below2 _ _ _).trans (Bt.mono (by omega))⟩
set_option maxHeartbeats 8000000 in
theorem rcmp_bad (n1 d1 n2 d2 : Int) (w : World) (h : both n1 d1 n2 d2 = false) :
    Calls Tryz.prog 41 #[.agg #[.int .i64 n1, .int .i64 d1], .agg #[.int .i64 n2, .int .i64 d2]] w (Ret (.int .i64 (cmpr n1 d1 n2 d2)) w) := by
  have HV : cmpr n1 d1 n2 d2 = if n1 = n2 then cmpv d1 d2 else cmpv n1 n2 := by unfold cmpr; rw [if_neg (by rw [h]; decide)]
  unfold both at h
  obtain ⟨x1, x2, y1, y2⟩ : ∃ x1 x2, vld n1 d1 = x1 ∧ vld n2 d2 = x2 := ⟨_, _, rfl, rfl⟩
  rw [y1, y2] at h
  obtain ⟨cv, hcv⟩ : ∃ cv, cmpv n1 n2 = cv := ⟨_, rfl⟩
  have hcc := cmpv_cases n1 n2
  rw [hcv] at hcc
  by_cases hn : n1 = n2
  · have hc0 : (cv != 0) = false := by simp; omega
    have hne : (n1 != n2) = false := by simpa using hn
    rw [if_pos hn] at HV
    have HV := Lib.hid HV
    clear hn hcc
    cases x1
    · clear h
      go_enter Tryz.func41, Tryz.ntmps41
      go_wp2_with fail
      refine (rvalid_any _ _ _).mono ?_
      rintro e w1 ⟨rfl, hb1⟩
      have Bt := hb1.mono (B' := w.heap.size + 2) (by simp)
      obtain ⟨c0, c1, c2, c3, c4⟩ := cells2 Bt
      go_wp2_with (go_at_call 79; refine (ord46 _ _ _).mono ?_; rintro e w5 ⟨rfl, rfl⟩)
      go_ret
      exact ⟨by first | (rw [HV.out]; done) | (rw [HV.out]; rfl), (below2 _ _ _).trans (Bt.mono (by omega))⟩
    · cases x2
      · clear h
        go_enter Tryz.func41, Tryz.ntmps41
        go_wp2_with fail
        refine (rvalid_any _ _ _).mono ?_
        rintro e w1 ⟨rfl, hb1⟩
        have Bt := hb1.mono (B' := w.heap.size + 2) (by simp)
        obtain ⟨c0, c1, c2, c3, c4⟩ := cells2 Bt
        go_wp2_with fail
        refine (rvalid_any _ _ _).mono ?_
        rintro e w2 ⟨rfl, hb2⟩
        have Bt := step Bt hb2 (by simp)
        clear c0 c1 c2 c3 c4
        obtain ⟨c0, c1, c2, c3, c4⟩ := cells2 Bt
        go_wp2_with (go_at_call 79; refine (ord46 _ _ _).mono ?_; rintro e w5 ⟨rfl, rfl⟩)
        go_ret
        exact ⟨by first | (rw [HV.out]; done) | (rw [HV.out]; rfl), (below2 _ _ _).trans (Bt.mono (by omega))⟩
      · simp at h
  · have hc0 : (cv != 0) = true := by simp; omega
    have hne : (n1 != n2) = true := by simpa using hn
    rw [if_neg hn, hcv] at HV
    have HV := Lib.hid HV
    clear hn hcc
    cases x1
    · clear h
      go_enter Tryz.func41, Tryz.ntmps41
      go_wp2_with fail
      refine (rvalid_any _ _ _).mono ?_
      rintro e w1 ⟨rfl, hb1⟩
      have Bt := hb1.mono (B' := w.heap.size + 2) (by simp)
      obtain ⟨c0, c1, c2, c3, c4⟩ := cells2 Bt
      go_wp2_with (go_at_call 79; refine (ord46 _ _ _).mono ?_; rintro e w5 ⟨rfl, rfl⟩)
      go_ret
      exact ⟨by first | (rw [HV.out]; done) | (rw [HV.out]; rfl), (below2 _ _ _).trans (Bt.mono (by omega))⟩
    · cases x2
      · clear h
        go_enter Tryz.func41, Tryz.ntmps41
        go_wp2_with fail
        refine (rvalid_any _ _ _).mono ?_
        rintro e w1 ⟨rfl, hb1⟩
        have Bt := hb1.mono (B' := w.heap.size + 2) (by simp)
        obtain ⟨c0, c1, c2, c3, c4⟩ := cells2 Bt
        go_wp2_with fail
        refine (rvalid_any _ _ _).mono ?_
        rintro e w2 ⟨rfl, hb2⟩
        have Bt := step Bt hb2 (by simp)
        clear c0 c1 c2 c3 c4
        obtain ⟨c0, c1, c2, c3, c4⟩ := cells2 Bt
        go_wp2_with (go_at_call 79; refine (ord46 _ _ _).mono ?_; rintro e w5 ⟨rfl, rfl⟩)
        go_ret
        exact ⟨by first | (rw [HV.out]; done) | (rw [HV.out]; rfl), (below2 _ _ _).trans (Bt.mono (by omega))⟩
      · simp at h
end Go.Proofs.YtikcinkbkakkmaaGreatDoor.Fr
