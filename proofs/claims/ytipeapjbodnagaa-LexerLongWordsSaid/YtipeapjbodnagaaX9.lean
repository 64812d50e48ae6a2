/- The lexer: Skip of the reference. -/
import Derived.Test.YtipeapjbodnagaaX3
namespace Go.Proofs.Ytipeapjbodnagaa.Lx
open Go.ChangeShapes Go.WideShapes Go.ChangeAt Go.RowKit
open Go.Proofs.Ytipeapjbodnagaa.Nm
set_option linter.unusedVariables false

theorem space (c : Int) (w : World) (h0 : 0 ≤ c) (h1 : c ≤ 255) : Calls Try.prog 79 #[.int .u8 c] w fun e w' => e = .returned (.bool (sp c)) ∧ w = w' := by
  have HK : Hid (sp c = (c == 9 || (c == 10 || (c == 13 || c == 32)))) := Lib.hid rfl
  go_enter Try.func79, Try.ntmps79
  go_wp2
  all_goals
    first
    | (exfalso; simp_all; done)
    | (go_ret; refine ⟨ret_bool ?_, rfl⟩; rw [HK.out]; (first | rfl | (simp_all; done) | (rw [Bool.eq_iff_iff]; simp; omega) | (rw [Bool.eq_iff_iff]; simp; done)))
set_option maxRecDepth 100000 in
set_option maxHeartbeats 8000000 in
theorem rskip (s : ByteArray) (k : Nat) (w : World) (hs : s.size ≤ maxLen) (hk : k ≤ s.size) : Calls Try.prog 40 #[.string s, .int .i64 (k : Int)] w fun e w' => e = .returned (.int .i64 ((skp s.data.toList k : Nat) : Int)) ∧ w = w' := by
  unfold maxLen at hs
  go_enter Try.func40, Try.ntmps40
  go_wp2
  go_loop [1] (fun a => ∃ j : Nat, a = .int .i64 (j : Int) ∧ j ≤ s.size ∧ Hid (skp s.data.toList j = skp s.data.toList k)) (fun a => s.size - (intOf a).toNat)
  case atStart => exact ⟨k, rfl, hk, Lib.hid rfl⟩
  case round =>
    obtain ⟨j, rfl, hj, hV⟩ := hrel
    by_cases hlt : j < s.size
    · have hl : j < s.data.toList.length := by rw [len_data]; exact hlt
      have j0 : (0 : Int) ≤ j := by omega
      have j1 : (j : Int) < s.size := by omega
      have hb := by1_at hlt
      obtain ⟨bd0, bd1⟩ := by1_bd s.data.toList j
      have CS := Lib.hid fun w => (by have h := space (by1 s.data.toList j) w bd0 bd1; rw [hb] at h; exact h)
      by_cases h1 : sp (by1 s.data.toList j) = true
      · have HV2 : Hid (skp s.data.toList (j + 1) = skp s.data.toList k) := Lib.hid (by rw [← skp_sp hl h1]; exact hV.out)
        rw [hb] at h1
        rw [h1] at CS
        clear h1 hb hl hV bd0 bd1
        go_wp2_with (go_at_call 79; refine (CS.out _).mono ?_; rintro e w' ⟨rfl, rfl⟩)
        go_round
        case rel => exact ⟨j + 1, by go_num, by omega, HV2⟩
        case measure => simp [intOf]; omega
      · have h1 : sp (by1 s.data.toList j) = false := by simpa using h1
        have h1' := h1
        rw [hb] at h1'
        rw [h1'] at CS
        clear h1'
        by_cases h2 : by1 s.data.toList j = 35
        · have HV2 : Hid (skc s.data.toList (j + 1) = skp s.data.toList k) := Lib.hid (by rw [← skc_go hl (by rw [h2]; decide), ← skp_hash hl h2]; exact hV.out)
          have h3 : 35 ≤ ((s[j]'hlt).toNat : Int) := by omega
          have h4 : ((s[j]'hlt).toNat : Int) ≤ 35 := by omega
          clear h1 h2 hb bd0 bd1 hV hl
          go_wp2_with (go_at_call 79; refine (CS.out _).mono ?_; rintro e w' ⟨rfl, rfl⟩)
          go_loop [1] (fun a => ∃ i : Nat, a = .int .i64 (i : Int) ∧ j ≤ i ∧ i ≤ s.size ∧ (i = j ∨ (j < i ∧ Hid (skc s.data.toList i = skp s.data.toList k)))) (fun a => s.size - (intOf a).toNat)
          case atStart => exact ⟨j, rfl, by omega, hj, .inl rfl⟩
          case round =>
            obtain ⟨i, rfl, hi0, hi, hor⟩ := hrel
            rcases hor with rfl | ⟨hji, hVi⟩
            · go_wp2
              go_round
              case rel => exact ⟨i + 1, by go_num, by omega, by omega, .inr ⟨by omega, HV2⟩⟩
              case measure => simp [intOf]; omega
            · by_cases hlt2 : i < s.size
              · have hl2 : i < s.data.toList.length := by rw [len_data]; exact hlt2
                have hb2 := by1_at hlt2
                have i0 : (0 : Int) ≤ i := by omega
                have i1 : (i : Int) < s.size := by omega
                by_cases h10 : by1 s.data.toList i = 10
                · have HVe : Hid (skp s.data.toList i = skp s.data.toList k) := Lib.hid (by rw [← skc_nl hl2 h10]; exact hVi.out)
                  have g3 : 10 ≤ ((s[i]'hlt2).toNat : Int) := by omega
                  have g4 : ((s[i]'hlt2).toNat : Int) ≤ 10 := by omega
                  clear h10 hb2 hl2 hVi HV2
                  go_wp2
                  go_round
                  case rel => exact ⟨i, rfl, by omega, HVe⟩
                  case measure => simp [intOf]; omega
                · have HVn : Hid (skc s.data.toList (i + 1) = skp s.data.toList k) := Lib.hid (by rw [← skc_go hl2 h10]; exact hVi.out)
                  have g3 : ((s[i]'hlt2).toNat : Int) < 10 ∨ 10 < ((s[i]'hlt2).toNat : Int) := by omega
                  clear h10 hb2 hl2 hVi HV2
                  rcases g3 with g3 | g3
                  all_goals
                    go_wp2
                    go_round
                    case rel => exact ⟨i + 1, by go_num, by omega, by omega, .inr ⟨by omega, HVn⟩⟩
                    case measure => simp [intOf]; omega
              · have HVe : Hid (skp s.data.toList i = skp s.data.toList k) := Lib.hid (by
                  rw [skp_end (by rw [len_data]; omega), ← skc_end (l := s.data.toList) (k := i) (by rw [len_data]; omega)]; exact hVi.out)
                clear hVi HV2
                go_wp2
                go_round
                case rel => exact ⟨i, rfl, by omega, HVe⟩
                case measure => simp [intOf]; omega
        · have E := Lib.hid ((skp_no hl h1 h2).symm.trans hV.out)
          have h3 : ((s[j]'hlt).toNat : Int) < 35 ∨ 35 < ((s[j]'hlt).toNat : Int) := by omega
          clear h1 h2 hb hl hV bd0 bd1
          rcases h3 with h3 | h3
          all_goals
            go_wp2_with (go_at_call 79; refine (CS.out _).mono ?_; rintro e w' ⟨rfl, rfl⟩)
            go_ret
            exact ⟨ret_int (by rw [E.out]), rfl⟩
    · have E := Lib.hid ((skp_end (l := s.data.toList) (k := j) (by rw [len_data]; omega)).symm.trans hV.out)
      clear hV
      go_wp2
      go_ret
      exact ⟨ret_int (by rw [E.out]), rfl⟩
end Go.Proofs.Ytipeapjbodnagaa.Lx
