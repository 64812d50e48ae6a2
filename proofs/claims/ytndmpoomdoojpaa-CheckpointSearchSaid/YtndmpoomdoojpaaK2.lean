/- The reference's binomial and cost. -/
import Derived.Test.YtndmpoomdoojpaaK1
namespace Go.Proofs.Ytndmpoomdoojpaa.Ck
open Go.ChangeShapes Go.WideShapes Go.ChangeAt Go.RowKit
set_option linter.unusedVariables false

theorem chl_go {d b : Int} {f : Nat} {i x : Int} (h : i ≤ b ∧ x ≤ 10000) : chl d b (f + 1) i x = chl d b f (i + 1) (x * (d + i) / i) := if_pos h
theorem chl_end {d b : Int} {f : Nat} {i x : Int} (h : ¬ (i ≤ b ∧ x ≤ 10000)) : chl d b f i x = x := by
  cases f with
  | zero => rfl
  | succ f => exact if_neg h
set_option maxHeartbeats 4000000 in
theorem choose (a b : Int) (w : World) (b0 : 0 ≤ b) (b1 : b ≤ 65) (d0 : 0 ≤ a - b) (d1 : a - b ≤ 67) : Calls Try.prog 47 #[.int .i64 a, .int .i64 b] w fun e w' => e = .returned (.int .i64 (cho a b)) ∧ w = w' := by
  obtain ⟨V, hV⟩ : ∃ V, cho a b = V := ⟨_, rfl⟩
  rw [hV]
  have HV := Lib.hid hV
  clear hV
  have q0 : decide (a < b) = false := decide_eq_false (by omega)
  go_enter Try.func47, Try.ntmps47
  go_wp2
  go_loop [5, 6] (fun x i => ∃ (f : Nat) (y j : Int), x = .int .i64 y ∧ i = .int .i64 j ∧ j + f = 71 ∧ 1 ≤ j ∧ 0 ≤ y ∧ y ≤ 1350000 ∧ Hid (chl (a - b) b f j y = V)) (fun _ i => (71 - intOf i).toNat)
  case atStart => exact ⟨70, 1, 1, rfl, rfl, by omega, by omega, by omega, by omega, HV⟩
  case round =>
    obtain ⟨f, y, j, rfl, rfl, hf, j1, y0, y1, hL⟩ := hrel
    by_cases h1 : j ≤ b
    · by_cases h2 : y ≤ 10000
      · cases f with
        | zero => omega
        | succ f =>
          have hL2 := Lib.hid ((chl_go ⟨h1, h2⟩).symm.trans hL.out)
          have t0 : 0 ≤ y * (a - b + j) := Int.mul_nonneg (by omega) (by omega)
          have t1 : y * (a - b + j) ≤ 10000 * 135 := Int.mul_le_mul (by omega) (by omega) (by omega) (by omega)
          have t2 : y * (a - b + j) / j ≤ y * (a - b + j) := Int.ediv_le_self _ t0
          have t3 : 0 ≤ y * (a - b + j) / j := Int.ediv_nonneg t0 (by omega)
          obtain ⟨u, hu⟩ : ∃ u, y * (a - b + j) = u := ⟨_, rfl⟩
          rw [hu] at t0 t1 t2 t3 hL2
          obtain ⟨z, hz⟩ : ∃ z, u / j = z := ⟨_, rfl⟩
          rw [hz] at t2 t3 hL2
          have jz : (j == 0) = false := beq_false_of_ne (by omega)
          clear hL
          go_wp2
          go_round
          case rel => exact ⟨f, z, j + 1, by first | rfl | rw [hz], rfl, by omega, by omega, by omega, by omega, hL2⟩
          case measure => simp [intOf]; omega
      · have d2 : decide (y ≤ 10000) = false := decide_eq_false h2
        have e : y = V := (chl_end (fun h => h2 h.2)).symm.trans hL.out
        have HE := Lib.hid e
        clear e hL
        go_wp2
        go_ret
        exact ⟨ret_int HE.out, rfl⟩
    · have d1 : decide (j ≤ b) = false := decide_eq_false h1
      have e : y = V := (chl_end (fun h => h1 h.1)).symm.trans hL.out
      have HE := Lib.hid e
      clear e hL
      go_wp2
      go_ret
      exact ⟨ret_int HE.out, rfl⟩
theorem chl_bd {d b : Int} (d0 : 0 ≤ d) (d1 : d ≤ 66) (b1 : b ≤ 68) : ∀ (f : Nat) (j y : Int), 1 ≤ j → 0 ≤ y → y ≤ 1350000 → 0 ≤ chl d b f j y ∧ chl d b f j y ≤ 1350000
  | 0, j, y, _, y0, y1 => ⟨y0, y1⟩
  | f + 1, j, y, j1, y0, y1 => by
    by_cases h : j ≤ b ∧ y ≤ 10000
    · rw [chl_go h]
      have t0 : 0 ≤ y * (d + j) := Int.mul_nonneg (by omega) (by omega)
      have t1 : y * (d + j) ≤ 10000 * 135 := Int.mul_le_mul (by omega) (by omega) (by omega) (by omega)
      have t2 : y * (d + j) / j ≤ y * (d + j) := Int.ediv_le_self _ t0
      have t3 : 0 ≤ y * (d + j) / j := Int.ediv_nonneg t0 (by omega)
      exact chl_bd d0 d1 b1 f (j + 1) _ (by omega) t3 (by omega)
    · rw [chl_end h]; exact ⟨y0, y1⟩
theorem lor_go {c n : Int} {f : Nat} {r : Int} (h : cho (c + r) r < n) : lor c n (f + 1) r = lor c n f (r + 1) := if_pos h
theorem lor_end {c n : Int} {f : Nat} {r : Int} (h : ¬ cho (c + r) r < n) : lor c n f r = r := by
  cases f with
  | zero => rfl
  | succ f => exact if_neg h
set_option maxHeartbeats 4000000 in
theorem rcost (n s : Int) (w : World) : Calls Try.prog 21 #[.int .i64 n, .int .i64 s] w fun e w' => e = NE (cv n s) (ask n s) ∧ w = w' := by
  have C := Lib.hid (asked n s)
  by_cases h : 0 ≤ n ∧ n ≤ 64 ∧ 0 ≤ s ∧ s ≤ 64
  · rw [show cv n s = cr n s by unfold cv; rw [inr_ok h]; exact co_cr h.1 h.2.1 h.2.2.1 h.2.2.2]
    rw [show ask n s = 0 by unfold ask; rw [inr_ok h]; rfl] at C ⊢
    obtain ⟨n0, n1, s0, s1⟩ := h
    have BG := cho_big (c := s + 1) (by omega) (by omega)
    obtain ⟨V, hV⟩ : ∃ V, cr n s = V := ⟨_, rfl⟩
    rw [hV]
    have HV := Lib.hid hV
    have HB := Lib.hid BG
    clear hV BG
    go_enter Try.func21, Try.ntmps21
    go_wp2_with (go_at_call 27; refine (C.out _).mono ?_; rintro e w' ⟨rfl, rfl⟩)
    go_loop [8] (fun a => ∃ (f : Nat) (r : Int), a = .int .i64 r ∧ r + f = 65 ∧ 0 ≤ r ∧ r ≤ 64 ∧ Hid (lor (s + 1) n 65 0 = lor (s + 1) n f r)) (fun a => (66 - intOf a).toNat)
    case atStart => exact ⟨65, 0, rfl, by omega, by omega, by omega, Lib.hid rfl⟩
    case round =>
      obtain ⟨f, r, rfl, hf, r0, r1, hL⟩ := hrel
      have D := Lib.hid (choose (s + 1 + r) r w r0 (by omega) (by omega) (by omega))
      by_cases hlt : cho (s + 1 + r) r < n
      · cases f with
        | zero => omega
        | succ f =>
          have r2 : r ≠ 64 := fun e => by have := HB.out; rw [e] at hlt; omega
          have r3 : r + 1 ≤ 64 := by omega
          have hL2 := Lib.hid (hL.out.trans (lor_go hlt))
          generalize cho (s + 1 + r) r = y at D hlt
          clear hL r2
          go_wp2_with (go_at_call 47; refine (D.out).mono ?_; rintro e w' ⟨rfl, rfl⟩)
          go_round
          case rel => exact ⟨f, r + 1, rfl, by omega, by omega, by omega, hL2⟩
          case measure => simp [intOf]; omega
      · have hE := hL.out.trans (lor_end hlt)
        have d0 : decide (cho (s + 1 + r) r < n) = false := decide_eq_false hlt
        by_cases hr : r = 0
        · have e : V = 0 := by rw [← HV.out]; unfold cr; rw [hE, if_pos hr]
          have rz : (r == 0) = true := beq_iff_eq.2 hr
          have HE := Lib.hid e
          generalize cho (s + 1 + r) r = y at D d0
          clear hE hlt hL e hr
          go_wp2_with (go_at_call 47; refine (D.out).mono ?_; rintro e w' ⟨rfl, rfl⟩)
          exact bodyPost_ret (v := .tuple #[.int .i64 0, .int .i64 0]) (by simp [results, Try.results21, go_sem]) rfl ⟨by rw [HE.out]; rfl, rfl⟩
        · have e : V = r * n - cho (s + 1 + r) (r - 1) := by rw [← HV.out]; unfold cr; rw [hE, if_neg hr]
          have rz : (r == 0) = false := beq_false_of_ne hr
          have D2 := Lib.hid (choose (s + 1 + r) (r - 1) w (by omega) (by omega) (by omega) (by omega))
          have HE := Lib.hid e
          have B2 : 0 ≤ cho (s + 1 + r) (r - 1) ∧ cho (s + 1 + r) (r - 1) ≤ 1350000 := chl_bd (by omega) (by omega) (by omega) 70 1 1 (by omega) (by omega) (by omega)
          obtain ⟨b0, b1⟩ := B2
          have a1 : 0 ≤ r * n := Int.mul_nonneg (by omega) (by omega)
          have a2 : r * n ≤ 65 * 64 := Int.mul_le_mul (by omega) (by omega) (by omega) (by omega)
          obtain ⟨u, hu⟩ : ∃ u, r * n = u := ⟨_, rfl⟩
          rw [hu] at a1 a2 HE
          generalize cho (s + 1 + r) (r - 1) = z at D2 HE b0 b1
          generalize cho (s + 1 + r) r = y at D d0
          clear hE hlt hL e hr
          go_wp2_with fail
          refine (D.out).mono ?_
          rintro e w' ⟨rfl, rfl⟩
          clear D
          go_wp2_with fail
          refine (D2.out).mono ?_
          rintro e w' ⟨rfl, rfl⟩
          go_wp2
          exact bodyPost_ret (v := .tuple #[.int .i64 (u - z), .int .i64 0]) (by simp [results, Try.results21, go_sem]) rfl ⟨by rw [HE.out]; rfl, rfl⟩
  · rw [show cv n s = 0 by unfold cv; rw [inr_no h]; rfl]
    rw [show ask n s = 1 by unfold ask; rw [inr_no h]; rfl] at C ⊢
    clear h
    go_enter Try.func21, Try.ntmps21
    go_wp2_with (go_at_call 27; refine (C.out _).mono ?_; rintro e w' ⟨rfl, rfl⟩)
    exact bodyPost_ret (v := .tuple #[.int .i64 0, .int .i64 1]) (by simp [results, Try.results21, go_sem]) rfl ⟨rfl, rfl⟩
end Go.Proofs.Ytndmpoomdoojpaa.Ck
