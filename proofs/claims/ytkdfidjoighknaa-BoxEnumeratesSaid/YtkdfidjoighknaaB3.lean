/- Boxes: Count of both. -/
import Derived.Test.YtkdfidjoighknaaB2
namespace Go.Proofs.Ytkdfidjoighknaa.Bx
open Go.ChangeShapes Go.WideShapes Go.ChangeAt Go.RowKit
set_option linter.unusedVariables false
set_option linter.unusedSimpArgs false
/-- slices.Index of a number. -/
def IDX (zs : List Int) (x : Int) (w : World) (e : Ending) (w' : World) : Prop := w = w' ∧ ((x ∉ zs ∧ e = .returned (.int .i64 (-1))) ∨ ∃ i : Nat, x ∈ zs ∧ e = .returned (.int .i64 (i : Int)))
set_option maxHeartbeats 4000000 in
theorem index1 (p : Option Addr) (zs : List Int) (c : Nat) (x : Int) (w : World) (hn : zs.length ≤ maxLen) (RA : Hid (SlI w p zs)) :
    Calls Try.prog 82 #[.slice p zs.length c, .int .i64 x] w (IDX zs x w) := by
  unfold maxLen at hn
  go_enter Try.func82, Try.ntmps82
  go_wp2
  go_loop [8] (fun i => ∃ (k : Nat), i = .int .i64 k ∧ k ≤ zs.length ∧ Hid (∀ j, j < k → zs.getD j 0 ≠ x)) (fun i => zs.length - (intOf i).toNat)
  case atStart => exact ⟨0, rfl, by omega, Lib.hid fun j hj => by omega⟩
  case round =>
    obtain ⟨k, rfl, hk, hL⟩ := hrel
    by_cases hlt : k < zs.length
    · obtain ⟨b, o, rfl, hc⟩ := RA.out k hlt
      obtain ⟨z, hz⟩ : ∃ z, zs.getD k 0 = z := ⟨_, rfl⟩
      rw [hz] at hc
      have HZ := Lib.hid hz
      clear hz
      by_cases he : x = z
      · have q2 : (x == z) = true := beq_iff_eq.2 he
        have HE := Lib.hid he
        clear he
        go_wp2
        go_ret
        exact ⟨rfl, .inr ⟨k, by rw [HE.out, ← HZ.out, getD_at hlt]; exact List.getElem_mem hlt, rfl⟩⟩
      · have q2 : (x == z) = false := beq_false_of_ne he
        have HL2 : Hid (∀ j, j < k + 1 → zs.getD j 0 ≠ x) := Lib.hid fun j hj => by
          rcases Nat.lt_or_ge j k with h | h
          · exact hL.out j h
          · obtain rfl : j = k := by omega
            rw [HZ.out]; exact fun e => he e.symm
        clear he
        go_wp2
        go_round
        case rel => exact ⟨k + 1, by go_num, by omega, HL2⟩
        case measure => simp [intOf]; omega
    · have HN : Hid (x ∉ zs) := Lib.hid fun h => by
        obtain ⟨j, hj, e⟩ := List.getElem_of_mem h
        exact hL.out j (by omega) (by rw [getD_at hj]; exact e)
      go_wp2
      go_ret
      exact ⟨rfl, .inl ⟨HN.out, rfl⟩⟩
theorem contains1 (p : Option Addr) (zs : List Int) (c : Nat) (x : Int) (w : World) (hn : zs.length ≤ maxLen) (RA : Hid (SlI w p zs)) :
    Calls Try.prog 50 #[.slice p zs.length c, .int .i64 x] w fun e w' => e = .returned (.bool (decide (x ∈ zs))) ∧ w = w' := by
  have C := Lib.hid (index1 p zs c x w hn RA)
  go_enter Try.func50, Try.ntmps50
  go_wp2_with fail
  refine C.out.mono ?_
  rintro e w' ⟨rfl, ⟨h, rfl⟩ | ⟨i, h, rfl⟩⟩
  · have H := Lib.hid h
    clear h
    go_wp2
    go_ret
    exact ⟨by rw [decide_eq_false H.out]; rfl, rfl⟩
  · have H := Lib.hid h
    have i0 : (0 : Int) ≤ i := by omega
    clear h
    go_wp2
    go_ret
    exact ⟨by rw [decide_eq_true H.out]; rfl, rfl⟩
theorem zr_mem (zs : List Int) : decide ((0 : Int) ∈ zs) = zs.any zr := by
  rw [Bool.eq_iff_iff, decide_eq_true_iff, List.any_eq_true]
  constructor
  · exact fun h => ⟨0, h, rfl⟩
  · rintro ⟨x, hx, h⟩
    have : x = 0 := by unfold zr at h; simpa using h
    rw [← this]; exact hx
/-- An answer that is a value alone, in a world that has at most drawn. -/
def DR (v : Value) (w : World) (e : Ending) (w' : World) : Prop := e = .returned v ∧ ∃ m, w' = w.drewN m
theorem bV_zero_full {zs : List Int} (h : bV zs = 0) (hz : zs.any zr = false) : zs.any low = false ∧ 1 ≤ sp zs ∧ sp zs ≤ 65536 := (bV_facts h).2.2 hz
/-- A part of a product of positive numbers. -/
theorem part_le {zs : List Int} {k : Nat} {S : Int} (hl : zs.any low = false) (s0 : 1 ≤ S) (hS : S * sp (zs.drop k) = sp zs) : S ≤ sp zs := by
  have h1 := sp_pos (any_drop hl k)
  have := Int.mul_le_mul_of_nonneg_left h1 (by omega : 0 ≤ S)
  omega
set_option maxHeartbeats 8000000 in
theorem count1 (p : Option Addr) (zs : List Int) (c : Nat) (w : World) (hn : zs.length ≤ maxLen) (RA : Hid (SlI w p zs)) :
    Calls Try.prog 17 #[.slice p zs.length c] w fun e w' => e = .returned (.int .i64 (cnt zs)) ∧ w = w' := by
  have CV := Lib.hid (bval1 p zs c w hn RA)
  have CC := Lib.hid (contains1 p zs c 0 w hn RA)
  rw [zr_mem] at CC
  unfold maxLen at hn
  by_cases hb : bV zs = 0
  · cases hz : zs.any zr with
    | true =>
      have e : cnt zs = 0 := by unfold cnt; rw [if_pos hb]; exact sp_zero hz
      rw [e]
      rw [hb] at CV
      rw [hz] at CC
      clear e hb hz
      go_enter Try.func17, Try.ntmps17
      go_wp2_with fail
      refine CV.out.mono ?_
      rintro e w' ⟨rfl, rfl⟩
      go_wp2_with fail
      refine CC.out.mono ?_
      rintro e w' ⟨rfl, rfl⟩
      go_wp2
      go_ret
      exact ⟨rfl, rfl⟩
    | false =>
      have e : cnt zs = sp zs := if_pos hb
      obtain ⟨hl, p0, p1⟩ := bV_zero_full hb hz
      have HLO := Lib.hid hl
      rw [e]
      rw [hb] at CV
      rw [hz] at CC
      obtain ⟨P, hP⟩ : ∃ P, sp zs = P := ⟨_, rfl⟩
      have HP := Lib.hid hP
      rw [hP] at p0 p1 ⊢
      clear e hb hz hl hP
      go_enter Try.func17, Try.ntmps17
      go_wp2_with fail
      refine CV.out.mono ?_
      rintro e w' ⟨rfl, rfl⟩
      go_wp2_with fail
      refine CC.out.mono ?_
      rintro e w' ⟨rfl, rfl⟩
      go_wp2
      go_loop [3, 15] (fun s i => ∃ (k : Nat) (S : Int), s = .int .i64 S ∧ i = .int .i64 k ∧ k ≤ zs.length ∧ 1 ≤ S ∧ S ≤ P ∧ Hid (S * sp (zs.drop k) = sp zs)) (fun _ i => zs.length - (intOf i).toNat)
      case atStart => exact ⟨0, 1, rfl, rfl, by omega, by omega, by omega, Lib.hid (by rw [Int.one_mul]; rfl)⟩
      case round =>
        obtain ⟨j, S, rfl, rfl, hj, s0, s1, hS⟩ := hrel
        have j0 : (0 : Int) ≤ j := by omega
        by_cases hjl : j < zs.length
        · obtain ⟨b, o, rfl, hc⟩ := RA.out j hjl
          have hpos := pos_of HLO.out hjl
          have hst := fun z hz => mul_step (z := z) hjl hz hS.out
          obtain ⟨z, hz⟩ : ∃ z, zs.getD j 0 = z := ⟨_, rfl⟩
          have HST := Lib.hid (hst z hz)
          rw [hz] at hc hpos
          have j1 : (j : Int) < zs.length := by omega
          obtain ⟨T, hT⟩ : ∃ T, S * z = T := ⟨_, rfl⟩
          have t0 : 0 < T := by rw [← hT]; exact Int.mul_pos (by omega) (by omega)
          rw [hT] at HST
          have t1 : T ≤ P := by rw [← HP.out]; exact part_le HLO.out (by omega) HST.out
          clear hz hst
          go_wp2
          go_round
          case rel => exact ⟨j + 1, T, by first | rfl | rw [hT], by go_num, by omega, by omega, by omega, HST⟩
          case measure => simp [intOf]; omega
        · have j1 : ¬ (j : Int) < zs.length := by omega
          have HE : Hid (P = S) := Lib.hid (by rw [← HP.out]; exact mul_end (k := j) (by omega) hS.out)
          go_wp2
          go_ret
          exact ⟨ret_int HE.out.symm, rfl⟩
  · have e : cnt zs = 0 := if_neg hb
    rw [e]
    obtain ⟨V, hV⟩ : ∃ V, bV zs = V := ⟨_, rfl⟩
    rw [hV] at CV hb
    have q6 : (V == 0) = false := beq_false_of_ne hb
    clear e hV
    go_enter Try.func17, Try.ntmps17
    go_wp2_with fail
    refine CV.out.mono ?_
    rintro e w' ⟨rfl, rfl⟩
    go_wp2
    go_ret
    exact ⟨rfl, rfl⟩
set_option maxHeartbeats 8000000 in
theorem rcount1 (p : Option Addr) (zs : List Int) (c : Nat) (w : World) (hn : zs.length ≤ maxLen) (RA : Hid (SlI w p zs)) :
    Calls Try.prog 18 #[.slice p zs.length c] w (DR (.int .i64 (cnt zs)) w) := by
  have CV := Lib.hid (rbval1 p zs c w hn RA)
  unfold maxLen at hn
  by_cases hb : bV zs = 0
  · cases hz : zs.any zr with
    | true =>
      have e : cnt zs = 0 := by unfold cnt; rw [if_pos hb]; exact sp_zero hz
      have HZR := Lib.hid hz
      rw [e]
      rw [hb] at CV
      clear e hb hz
      go_enter Try.func18, Try.ntmps18
      go_wp2_with fail
      refine CV.out.mono ?_
      rintro e w' ⟨rfl, md, rfl⟩
      go_wp2
      go_loop [3, 4] (fun s i => ∃ (k : Nat) (S : Int), s = .int .i64 S ∧ i = .int .i64 k ∧ k ≤ zs.length ∧ Hid (∀ j, j < k → zr (zs.getD j 0) = false)) (fun _ i => zs.length - (intOf i).toNat)
      case atStart => exact ⟨0, 1, rfl, rfl, by omega, Lib.hid fun j hj => by omega⟩
      case round =>
        obtain ⟨j, S, rfl, rfl, hj, hL⟩ := hrel
        have j0 : (0 : Int) ≤ j := by omega
        by_cases hjl : j < zs.length
        · obtain ⟨b, o, rfl, hc⟩ := RA.out j hjl
          obtain ⟨z, hz⟩ : ∃ z, zs.getD j 0 = z := ⟨_, rfl⟩
          rw [hz] at hc
          have HZ := Lib.hid hz
          have j1 : (j : Int) < zs.length := by omega
          clear hz
          by_cases h0 : z = 0
          · have q : (z == 0) = true := beq_iff_eq.2 h0
            clear h0
            go_wp2
            go_ret
            exact ⟨rfl, _, rfl⟩
          · have q : (z == 0) = false := beq_false_of_ne h0
            have HL2 : Hid (∀ i, i < j + 1 → zr (zs.getD i 0) = false) := Lib.hid fun i hi => by
              rcases Nat.lt_or_ge i j with h | h
              · exact hL.out i h
              · obtain rfl : i = j := by omega
                rw [HZ.out]; exact q
            go_wp2
            go_round
            case rel => exact ⟨j + 1, _, rfl, by go_num, by omega, HL2⟩
            case measure => simp [intOf]; omega
        · exfalso
          have := any_take hL.out (by omega : j = zs.length)
          rw [HZR.out] at this
          cases this
    | false =>
      have e : cnt zs = sp zs := if_pos hb
      obtain ⟨hl, p0, p1⟩ := bV_zero_full hb hz
      have HLO := Lib.hid hl
      rw [e]
      rw [hb] at CV
      obtain ⟨P, hP⟩ : ∃ P, sp zs = P := ⟨_, rfl⟩
      have HP := Lib.hid hP
      rw [hP] at p0 p1 ⊢
      clear e hb hz hl hP
      go_enter Try.func18, Try.ntmps18
      go_wp2_with fail
      refine CV.out.mono ?_
      rintro e w' ⟨rfl, md, rfl⟩
      go_wp2
      go_loop [3, 4] (fun s i => ∃ (k : Nat) (S : Int), s = .int .i64 S ∧ i = .int .i64 k ∧ k ≤ zs.length ∧ 1 ≤ S ∧ S ≤ P ∧ Hid (S * sp (zs.drop k) = sp zs)) (fun _ i => zs.length - (intOf i).toNat)
      case atStart => exact ⟨0, 1, rfl, rfl, by omega, by omega, by omega, Lib.hid (by rw [Int.one_mul]; rfl)⟩
      case round =>
        obtain ⟨j, S, rfl, rfl, hj, s0, s1, hS⟩ := hrel
        have j0 : (0 : Int) ≤ j := by omega
        by_cases hjl : j < zs.length
        · obtain ⟨b, o, rfl, hc⟩ := RA.out j hjl
          have hpos := pos_of HLO.out hjl
          have hst := fun z hz => mul_step (z := z) hjl hz hS.out
          obtain ⟨z, hz⟩ : ∃ z, zs.getD j 0 = z := ⟨_, rfl⟩
          have HST := Lib.hid (hst z hz)
          rw [hz] at hc hpos
          have j1 : (j : Int) < zs.length := by omega
          have zq : (z == 0) = false := beq_false_of_ne (by omega)
          obtain ⟨T, hT⟩ : ∃ T, S * z = T := ⟨_, rfl⟩
          have t0 : 0 < T := by rw [← hT]; exact Int.mul_pos (by omega) (by omega)
          rw [hT] at HST
          have t1 : T ≤ P := by rw [← HP.out]; exact part_le HLO.out (by omega) HST.out
          clear hz hst
          go_wp2
          go_round
          case rel => exact ⟨j + 1, T, by first | rfl | rw [hT], by go_num, by omega, by omega, by omega, HST⟩
          case measure => simp [intOf]; omega
        · have j1 : ¬ (j : Int) < zs.length := by omega
          have HE : Hid (P = S) := Lib.hid (by rw [← HP.out]; exact mul_end (k := j) (by omega) hS.out)
          go_wp2
          go_ret
          exact ⟨ret_int HE.out.symm, _, rfl⟩
  · have e : cnt zs = 0 := if_neg hb
    rw [e]
    obtain ⟨V, hV⟩ : ∃ V, bV zs = V := ⟨_, rfl⟩
    rw [hV] at CV hb
    have q6 : (V == 0) = false := beq_false_of_ne hb
    clear e hV
    go_enter Try.func18, Try.ntmps18
    go_wp2_with fail
    refine CV.out.mono ?_
    rintro e w' ⟨rfl, md, rfl⟩
    go_wp2
    go_ret
    exact ⟨rfl, _, rfl⟩
end Go.Proofs.Ytkdfidjoighknaa.Bx
