/- Validate of package shape and of the reference. -/
import Derived.Test.YtjpcpdaokgkaoaaV1
namespace Go.Proofs.Ytjpcpdaokgkaoaa.Sh
open Go.ChangeShapes Go.WideShapes Go.ChangeAt Go.RowKit
set_option linter.unusedVariables false

theorem vE_long {zs : List Int} (h : 6 < zs.length) : vE zs = 2 := by unfold vE; rw [if_pos h]
theorem vE_low {zs : List Int} (h : ¬ 6 < zs.length) (h1 : zs.any low = true) : vE zs = 1 := by unfold vE; rw [if_neg h, if_pos h1]
theorem vE_none {zs : List Int} (h : ¬ 6 < zs.length) (h1 : zs.any low = false) (h2 : pr 1 zs = none) : vE zs = 2 := by unfold vE; rw [if_neg h, h1, if_neg (by decide), if_pos h2]
theorem vE_some {zs : List Int} {s : Int} (h : ¬ 6 < zs.length) (h1 : zs.any low = false) (h2 : pr 1 zs = some s) : vE zs = 0 := by unfold vE; rw [if_neg h, h1, if_neg (by decide), h2, if_neg (by simp)]
theorem pr_none {s z : Int} {zs : List Int} (h : 4096 < s * z) : pr s (z :: zs) = none := by unfold pr; rw [if_pos h]
theorem pr_go {s z : Int} {zs : List Int} (h : ¬ 4096 < s * z) : pr s (z :: zs) = pr (s * z) zs := by
  show (if 4096 < s * z then none else pr (s * z) zs) = _
  rw [if_neg h]
set_option maxHeartbeats 4000000 in
theorem c14 (p : Option Addr) (zs : List Int) (c : Nat) (w : World) (hn : zs.length ≤ maxLen) (RA : Hid (SlI w p zs)) :
    Calls Try.prog 14 #[.slice p zs.length c] w fun e w' => e = .returned (.int .i64 (vE zs)) ∧ w = w' := by
  have C := Lib.hid (c46 p zs c w hn RA)
  unfold maxLen at hn
  by_cases h6 : 6 < zs.length
  · rw [vE_long h6]
    have l1 : decide ((6 : Int) < zs.length) = true := by simp <;> omega
    go_enter Try.func14, Try.ntmps14
    go_wp2
    go_ret
    exact ⟨rfl, rfl⟩
  · have l1 : decide ((6 : Int) < zs.length) = false := by simp <;> omega
    have l2 : decide (6 < zs.length) = false := by simp <;> omega
    obtain ⟨x, hx⟩ : ∃ x, zs.any low = x := ⟨_, rfl⟩
    rw [hx] at C
    have HX := Lib.hid hx
    have H6 := Lib.hid h6
    clear h6 hx
    cases x
    · obtain ⟨V, hV⟩ : ∃ V, vE zs = V := ⟨_, rfl⟩
      rw [hV]
      have HV := Lib.hid hV
      clear hV
      go_enter Try.func14, Try.ntmps14
      go_wp2_with (go_at_call 46; refine (C.out).mono ?_; rintro e w' ⟨rfl, rfl⟩)
      go_loop [3, 13] (fun s i => ∃ (k : Nat) (S : Int), s = .int .i64 S ∧ i = .int .i64 k ∧ k ≤ zs.length ∧ 1 ≤ S ∧ S ≤ 4096 ∧ Hid (pr 1 zs = pr S (zs.drop k))) (fun _ i => zs.length - (intOf i).toNat)
      case atStart => exact ⟨0, 1, rfl, rfl, by omega, by omega, by omega, Lib.hid rfl⟩
      case round =>
        obtain ⟨k, S, rfl, rfl, hk, s0, s1, hP⟩ := hrel
        have sz : (S == 0) = false := by simp <;> omega
        by_cases hlt : k < zs.length
        · obtain ⟨b, o, rfl, hc⟩ := RA.out k hlt
          have z1 := pos_of HX.out hlt
          have hd := drop_cons hlt
          have hq := quo_lt S (zs.getD k 0) s0 s1
          obtain ⟨z, hz⟩ : ∃ z, zs.getD k 0 = z := ⟨_, rfl⟩
          rw [hz] at hc z1 hd hq
          obtain ⟨T, hT⟩ : ∃ T, S * z = T := ⟨_, rfl⟩
          rw [hT] at hq
          obtain ⟨q, hQ⟩ : ∃ q, 4096 / S = q := ⟨_, rfl⟩
          rw [hQ] at hq
          have t0 : 0 < T := by rw [← hT]; exact Int.mul_pos (by omega) (by omega)
          have HT := Lib.hid hT
          have HD := Lib.hid hd
          clear hz hd
          by_cases hb : 4096 < T
          · have k1 : decide (q < z) = true := by simp <;> omega
            have e : V = 2 := by rw [← HV.out]; exact vE_none H6.out HX.out (by rw [hP.out, HD.out]; exact pr_none (by rw [HT.out]; exact hb))
            have HE := Lib.hid e
            clear e hq hT
            go_wp2
            go_ret
            exact ⟨ret_int HE.out.symm, rfl⟩
          · have k1 : decide (q < z) = false := by simp <;> omega
            have t1 : T ≤ 4096 := by omega
            have hP2 : Hid (pr 1 zs = pr T (zs.drop (k + 1))) := Lib.hid (by rw [hP.out, HD.out, pr_go (by rw [HT.out]; exact hb), HT.out])
            clear hq hb
            go_wp2
            go_round
            case rel => exact ⟨k + 1, T, rfl, by go_num, by omega, by omega, by omega, hP2⟩
            case measure => simp [intOf]; omega
        · have e : V = 0 := by
            rw [← HV.out]
            have h := hP.out
            rw [List.drop_of_length_le (by omega)] at h
            exact vE_some H6.out HX.out h
          have HE := Lib.hid e
          clear e
          go_wp2
          go_ret
          exact ⟨ret_int HE.out.symm, rfl⟩
    · rw [vE_low H6.out HX.out]
      go_enter Try.func14, Try.ntmps14
      go_wp2_with (go_at_call 46; refine (C.out).mono ?_; rintro e w' ⟨rfl, rfl⟩)
      go_ret
      exact ⟨rfl, rfl⟩
set_option maxHeartbeats 4000000 in
theorem c15 (p : Option Addr) (zs : List Int) (c : Nat) (w : World) (hn : zs.length ≤ maxLen) (RA : Hid (SlI w p zs)) :
    Calls Try.prog 15 #[.slice p zs.length c] w fun e w' => e = .returned (.int .i64 (vE zs)) ∧ w = w' := by
  unfold maxLen at hn
  by_cases h6 : 6 < zs.length
  · rw [vE_long h6]
    have l1 : decide ((6 : Int) < zs.length) = true := by simp <;> omega
    go_enter Try.func15, Try.ntmps15
    go_wp2
    go_ret
    exact ⟨rfl, rfl⟩
  · have l1 : decide ((6 : Int) < zs.length) = false := by simp <;> omega
    have l2 : decide (6 < zs.length) = false := by simp <;> omega
    have H6 := Lib.hid h6
    clear h6
    obtain ⟨V, hV⟩ : ∃ V, vE zs = V := ⟨_, rfl⟩
    rw [hV]
    have HV := Lib.hid hV
    clear hV
    go_enter Try.func15, Try.ntmps15
    go_wp2
    go_loop [3] (fun i => ∃ (k : Nat), i = .int .i64 k ∧ k ≤ zs.length ∧ Hid (∀ j, j < k → low (zs.getD j 0) = false)) (fun i => zs.length - (intOf i).toNat)
    case atStart => exact ⟨0, rfl, by omega, Lib.hid fun j hj => by omega⟩
    case round =>
      obtain ⟨k, rfl, hk, hL⟩ := hrel
      by_cases hlt : k < zs.length
      · obtain ⟨b, o, rfl, hc⟩ := RA.out k hlt
        obtain ⟨z, hz⟩ : ∃ z, zs.getD k 0 = z := ⟨_, rfl⟩
        rw [hz] at hc
        have HZ := Lib.hid hz
        clear hz
        by_cases hz1 : z < 1
        · have k1 : decide (z < 1) = true := by simpa using hz1
          have e : V = 1 := by rw [← HV.out]; exact vE_low H6.out (any_at (k := k) (by rw [HZ.out]; exact k1) hlt)
          have HE := Lib.hid e
          clear e hz1
          go_wp2
          go_ret
          exact ⟨ret_int HE.out.symm, rfl⟩
        · have k1 : decide (z < 1) = false := by simpa using hz1
          have hL2 : Hid (∀ j, j < k + 1 → low (zs.getD j 0) = false) := Lib.hid fun j hj => by
            rcases (by omega : j < k ∨ j = k) with h | rfl
            · exact hL.out j h
            · rw [HZ.out]; exact k1
          clear hz1
          go_wp2
          go_round
          case rel => exact ⟨k + 1, by go_num, by omega, hL2⟩
          case measure => simp [intOf]; omega
      · have HX : Hid (zs.any low = false) := Lib.hid (any_take (k := k) hL.out (by omega))
        clear hL
        go_wp2
        go_loop [4, 5] (fun s i => ∃ (k : Nat) (S : Int), s = .int .i64 S ∧ i = .int .i64 k ∧ k ≤ zs.length ∧ 1 ≤ S ∧ S ≤ 4096 ∧ Hid (pr 1 zs = pr S (zs.drop k))) (fun _ i => zs.length - (intOf i).toNat)
        case atStart => exact ⟨0, 1, rfl, rfl, by omega, by omega, by omega, Lib.hid rfl⟩
        case round =>
          obtain ⟨m, S, rfl, rfl, hm, s0, s1, hP⟩ := hrel
          by_cases hlt : m < zs.length
          · obtain ⟨b, o, rfl, hc⟩ := RA.out m hlt
            have z1 := pos_of HX.out hlt
            have hd := drop_cons hlt
            obtain ⟨z, hz⟩ : ∃ z, zs.getD m 0 = z := ⟨_, rfl⟩
            rw [hz] at hc z1 hd
            have HD := Lib.hid hd
            clear hz hd
            by_cases hz2 : 4096 < z
            · have k1 : decide (4096 < z) = true := by simpa using hz2
              have e : V = 2 := by
                rw [← HV.out]
                refine vE_none H6.out HX.out ?_
                rw [hP.out, HD.out]
                refine pr_none ?_
                have := Int.mul_le_mul_of_nonneg_right s0 (by omega : 0 ≤ z)
                omega
              have HE := Lib.hid e
              clear e hz2
              go_wp2
              go_ret
              exact ⟨ret_int HE.out.symm, rfl⟩
            · have k1 : decide (4096 < z) = false := by simpa using hz2
              obtain ⟨T, hT⟩ : ∃ T, S * z = T := ⟨_, rfl⟩
              have t0 : 0 < T := by rw [← hT]; exact Int.mul_pos (by omega) (by omega)
              have t2 : T ≤ 16777216 := by
                have h1 := Int.mul_le_mul_of_nonneg_right s1 (by omega : 0 ≤ z)
                omega
              have HT := Lib.hid hT
              by_cases hb : 4096 < T
              · have k2 : decide (4096 < T) = true := by simpa using hb
                have e : V = 2 := by rw [← HV.out]; exact vE_none H6.out HX.out (by rw [hP.out, HD.out]; exact pr_none (by rw [HT.out]; exact hb))
                have HE := Lib.hid e
                clear e hz2 hb
                go_wp2
                go_ret
                exact ⟨ret_int HE.out.symm, rfl⟩
              · have k2 : decide (4096 < T) = false := by simpa using hb
                have t1 : T ≤ 4096 := by omega
                have hP2 : Hid (pr 1 zs = pr T (zs.drop (m + 1))) := Lib.hid (by rw [hP.out, HD.out, pr_go (by rw [HT.out]; exact hb), HT.out])
                clear hz2 hb
                go_wp2
                go_round
                case rel => exact ⟨m + 1, T, rfl, by go_num, by omega, by omega, by omega, hP2⟩
                case measure => simp [intOf]; omega
          · have e : V = 0 := by
              rw [← HV.out]
              have h := hP.out
              rw [List.drop_of_length_le (by omega)] at h
              exact vE_some H6.out HX.out h
            have HE := Lib.hid e
            clear e
            go_wp2
            go_ret
            exact ⟨ret_int HE.out.symm, rfl⟩
end Go.Proofs.Ytjpcpdaokgkaoaa.Sh
