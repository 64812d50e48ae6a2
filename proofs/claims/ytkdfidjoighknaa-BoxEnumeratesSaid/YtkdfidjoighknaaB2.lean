/- Boxes: the reference's Validate. -/
import Derived.Test.YtkdfidjoighknaaB1
namespace Go.Proofs.Ytkdfidjoighknaa.Bx
open Go.ChangeShapes Go.WideShapes Go.ChangeAt Go.RowKit
set_option linter.unusedVariables false
set_option linter.unusedSimpArgs false
set_option maxHeartbeats 8000000 in
theorem rbval1 (p : Option Addr) (zs : List Int) (c : Nat) (w : World) (hn : zs.length ≤ maxLen) (RA : Hid (SlI w p zs)) :
    Calls Try.prog 16 #[.slice p zs.length c] w fun e w' => e = .returned (.int .i64 (bV zs)) ∧ ∃ m, w' = w.drewN m := by
  unfold maxLen at hn
  by_cases h16 : 16 < zs.length
  · have k3 : decide (16 < (zs.length : Int)) = true := decide_eq_true (by omega)
    have k4 : decide (16 < zs.length) = true := decide_eq_true (by omega)
    rw [bV_long h16]
    go_enter Try.func16, Try.ntmps16
    go_wp2
    go_ret
    exact ⟨rfl, 0, rfl⟩
  · have k3 : decide (16 < (zs.length : Int)) = false := decide_eq_false (by omega)
    have k4 : decide (16 < zs.length) = false := decide_eq_false (by omega)
    have H16 := Lib.hid h16
    obtain ⟨V, hV⟩ : ∃ V, bV zs = V := ⟨_, rfl⟩
    rw [hV]
    have HV := Lib.hid hV
    clear hV h16
    go_enter Try.func16, Try.ntmps16
    go_wp2
    go_loop [3, 4] (fun b i => ∃ (k : Nat) (B : Bool), b = .bool B ∧ i = .int .i64 k ∧ k ≤ zs.length ∧ Hid (∀ j, j < k → 0 ≤ zs.getD j 0) ∧ Hid (B = (zs.take k).any zr)) (fun _ i => zs.length - (intOf i).toNat)
    case atStart => exact ⟨0, false, rfl, rfl, by omega, Lib.hid fun j hj => by omega, Lib.hid (by simp)⟩
    case round =>
      obtain ⟨k, B, rfl, rfl, hk, hL, hB⟩ := hrel
      have k0 : (0 : Int) ≤ k := by omega
      by_cases hlt : k < zs.length
      · obtain ⟨b, o, rfl, hc⟩ := RA.out k hlt
        have hs := any_take_succ zr hlt
        rw [← hB.out] at hs
        obtain ⟨z, hz⟩ : ∃ z, zs.getD k 0 = z := ⟨_, rfl⟩
        rw [hz] at hc hs
        have HZ := Lib.hid hz
        have HS := Lib.hid hs
        have k1 : (k : Int) < zs.length := by omega
        clear hz hs
        by_cases h1 : z < 0
        · have HE : Hid (V = 1) := Lib.hid (by rw [← HV.out]; exact bV_neg H16.out hlt (by rw [HZ.out]; exact h1))
          go_wp2
          go_ret
          exact ⟨ret_int HE.out.symm, 0, rfl⟩
        · have HL2 : Hid (∀ j, j < k + 1 → 0 ≤ zs.getD j 0) := Lib.hid fun j hj => by
            rcases Nat.lt_or_ge j k with h | h
            · exact hL.out j h
            · obtain rfl : j = k := by omega
              rw [HZ.out]; omega
          cases B
          · obtain ⟨C, hC⟩ : ∃ C, (z == 0) = C := ⟨_, rfl⟩
            have HB2 : Hid (C = (zs.take (k + 1)).any zr) := Lib.hid (by rw [HS.out, ← hC]; rfl)
            go_wp2
            go_round
            case rel => exact ⟨k + 1, C, by first | rfl | rw [hC], by go_num, by omega, HL2, HB2⟩
            case measure => simp [intOf]; omega
          · have HB2 : Hid (true = (zs.take (k + 1)).any zr) := Lib.hid (by rw [HS.out]; rfl)
            go_wp2
            go_round
            case rel => exact ⟨k + 1, true, rfl, by go_num, by omega, HL2, HB2⟩
            case measure => simp [intOf]; omega
      · have k1 : ¬ (k : Int) < zs.length := by omega
        have HN := Lib.hid (no_neg (k := k) hL.out (by omega))
        have hB2 : B = zs.any zr := by rw [hB.out, List.take_of_length_le (by omega)]
        cases B
        · have HZ0 := Lib.hid hB2.symm
          have HF := Lib.hid (bV_full H16.out HN.out HZ0.out)
          have HLO := Lib.hid (low_of HN.out HZ0.out)
          clear hB2 hB hL
          go_wp2
          go_loopw [5, 6] (fun s i wr => ∃ (k : Nat) (S : Int) (m : Nat), wr = w.drewN m ∧ s = .int .i64 S ∧ i = .int .i64 k ∧ k ≤ zs.length ∧ 1 ≤ S ∧ S ≤ 65536 ∧ Hid (S * sp (zs.drop k) = sp zs)) (fun _ i _ => zs.length - (intOf i).toNat)
          case atStart => exact ⟨0, 1, 0, rfl, rfl, rfl, by omega, by omega, by omega, Lib.hid (by rw [Int.one_mul]; rfl)⟩
          case round =>
            obtain ⟨j, S, m, rfl, rfl, rfl, hj, s0, s1, hS⟩ := hrel
            have j0 : (0 : Int) ≤ j := by omega
            have szz : (S == 0) = false := beq_false_of_ne (by omega)
            by_cases hjl : j < zs.length
            · obtain ⟨b, o, rfl, hc⟩ := RA.out j hjl
              have hpos := pos_of HLO.out hjl
              have hst := fun z hz => mul_step (z := z) hjl hz hS.out
              have hbg := fun z hz => mul_big (z := z) HLO.out hjl hz s0 hS.out
              obtain ⟨z, hz⟩ : ∃ z, zs.getD j 0 = z := ⟨_, rfl⟩
              have HST := Lib.hid (hst z hz)
              have HBG := Lib.hid (hbg z hz)
              rw [hz] at hc hpos
              have j1 : (j : Int) < zs.length := by omega
              have hq := quo64 S z s0
              obtain ⟨q, hQ⟩ : ∃ q, 65536 / S = q := ⟨_, rfl⟩
              rw [hQ] at hq
              obtain ⟨T, hT⟩ : ∃ T, S * z = T := ⟨_, rfl⟩
              have t0 : 0 < T := by rw [← hT]; exact Int.mul_pos (by omega) (by omega)
              rw [hT] at HST HBG hq
              clear hz hst hbg
              by_cases hb : 65536 < T
              · have k1 : decide (q < z) = true := decide_eq_true (by omega)
                have HE : Hid (V = 2) := Lib.hid (by rw [← HV.out, HF.out, if_pos (HBG.out hb)])
                clear hq hT
                go_wp2
                go_quiet (fail)
                go_wp2
                go_ret
                exact ⟨ret_int HE.out.symm, _, by first | rfl | rw [World.drewN_drewN]⟩
              · have k1 : decide (q < z) = false := decide_eq_false (by omega)
                have t1 : T ≤ 65536 := by omega
                clear hq hb
                go_wp2
                go_quiet (fail)
                go_wp2
                go_roundw
                case rel => exact ⟨j + 1, T, m + nq, by first | rfl | rw [World.drewN_drewN], by first | rfl | rw [hT], by go_num, by omega, by omega, by omega, HST⟩
                case measure => simp [intOf]; omega
            · have j1 : ¬ (j : Int) < zs.length := by omega
              have HE : Hid (V = 0) := Lib.hid (by rw [← HV.out, HF.out, mul_end (k := j) (by omega) hS.out, if_neg (by omega)])
              go_wp2
              go_ret
              exact ⟨ret_int HE.out.symm, m, rfl⟩
        · have HE : Hid (V = 0) := Lib.hid (by rw [← HV.out]; exact bV_empty H16.out HN.out hB2.symm)
          clear hB2 hB hL
          go_wp2
          go_loop [6] (fun i => ∃ (j : Nat), i = .int .i64 j ∧ j ≤ zs.length) (fun i => zs.length - (intOf i).toNat)
          case atStart => exact ⟨0, rfl, by omega⟩
          case round =>
            obtain ⟨j, rfl, hj⟩ := hrel
            have j0 : (0 : Int) ≤ j := by omega
            by_cases hjl : j < zs.length
            · obtain ⟨b, o, rfl, hc⟩ := RA.out j hjl
              have j1 : (j : Int) < zs.length := by omega
              go_wp2
              go_ret
              exact ⟨ret_int HE.out.symm, 0, rfl⟩
            · have j1 : ¬ (j : Int) < zs.length := by omega
              go_wp2
              go_ret
              exact ⟨ret_int HE.out.symm, 0, rfl⟩
end Go.Proofs.Ytkdfidjoighknaa.Bx
