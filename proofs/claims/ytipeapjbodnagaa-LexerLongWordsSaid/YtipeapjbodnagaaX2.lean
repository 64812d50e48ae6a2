/- The lexer: skip. -/
import Derived.Test.YtipeapjbodnagaaX1
import Derived.Test.YtipeapjbodnagaaShelf
namespace Go.Proofs.Ytipeapjbodnagaa.Lx
open Go.ChangeShapes Go.WideShapes Go.ChangeAt Go.RowKit
open Go.Proofs.Ytipeapjbodnagaa.Nm
set_option linter.unusedVariables false

theorem ret_int {a b : Int} (h : a = b) : Ending.returned (.int .i64 a) = .returned (.int .i64 b) := by rw [h]
theorem index_ge : ∀ l : List UInt8, -1 ≤ Lib.indexByte l 10
  | [] => Int.le_refl _
  | a :: l => by
    have ih := index_ge l
    unfold Lib.indexByte
    split
    · omega
    · split <;> omega
theorem len_data (s : ByteArray) : s.data.toList.length = s.size := by simp
theorem ext_list (s : ByteArray) (a b : Nat) : (s.extract a b).data.toList = (s.data.toList.drop a).take (b - a) := by
  simp [ByteArray.data_extract, Array.toList_extract, List.extract_eq_take_drop]
theorem ext_size (s : ByteArray) (a b : Nat) (h : b ≤ s.size) : (s.extract a b).size = b - a := by simp; omega
theorem ext_all (s : ByteArray) (a : Nat) : (s.extract a s.size).data.toList = s.data.toList.drop a := by
  rw [ext_list, List.take_of_length_le (by simp)]
theorem sp_ranges {c : Int} (h : sp c = true) : (9 ≤ c ∧ c ≤ 9) ∨ (10 ≤ c ∧ c ≤ 10) ∨ (13 ≤ c ∧ c ≤ 13) ∨ (32 ≤ c ∧ c ≤ 32) := by
  unfold sp at h; simp at h; omega
theorem no_ranges {c : Int} (h : sp c = false) (h2 : c ≠ 35) : c < 9 ∨ (11 ≤ c ∧ c ≤ 12) ∨ (14 ≤ c ∧ c ≤ 31) ∨ (33 ≤ c ∧ c ≤ 34) ∨ 36 ≤ c := by
  unfold sp at h; simp at h; omega
set_option maxRecDepth 100000 in
set_option maxHeartbeats 8000000 in
theorem skip (s : ByteArray) (k : Nat) (w : World) (hs : s.size ≤ maxLen) (hk : k ≤ s.size) : Calls Try.prog 67 #[.string s, .int .i64 (k : Int)] w fun e w' => e = .returned (.int .i64 ((skp s.data.toList k : Nat) : Int)) ∧ w = w' := by
  have HI := Lib.hid fun (t : ByteArray) w => Try.strings_IndexByte t 10 w
  unfold maxLen at hs
  go_enter Try.func67, Try.ntmps67
  go_wp2
  go_loop [1] (fun a => ∃ j : Nat, a = .int .i64 (j : Int) ∧ j ≤ s.size ∧ Hid (skp s.data.toList j = skp s.data.toList k)) (fun a => s.size - (intOf a).toNat)
  case atStart => exact ⟨k, rfl, hk, Lib.hid rfl⟩
  case round =>
    obtain ⟨j, rfl, hj, hV⟩ := hrel
    by_cases hlt : j < s.size
    · have hl : j < s.data.toList.length := by rw [len_data]; exact hlt
      have j0 : (0 : Int) ≤ j := by omega
      have j1 : (j : Int) < s.size := by omega
      have hb := by1_at hlt
      by_cases h1 : sp (by1 s.data.toList j) = true
      · have HV2 : Hid (skp s.data.toList (j + 1) = skp s.data.toList k) := Lib.hid (by rw [← skp_sp hl h1]; exact hV.out)
        rw [hb] at h1
        clear hb hl hV
        rcases sp_ranges h1 with ⟨a, b⟩ | ⟨a, b⟩ | ⟨a, b⟩ | ⟨a, b⟩
        all_goals
          clear h1
          go_wp2
          go_round
          case rel => exact ⟨j + 1, by go_num, by omega, HV2⟩
          case measure => simp [intOf]; omega
      · have h1 : sp (by1 s.data.toList j) = false := by simpa using h1
        by_cases h2 : by1 s.data.toList j = 35
        · obtain ⟨V, hV3⟩ : ∃ V, Lib.indexByte (s.data.toList.drop j) 10 = V := ⟨_, rfl⟩
          have h3 : 35 ≤ ((s[j]'hlt).toNat : Int) := by omega
          have h4 : ((s[j]'hlt).toNat : Int) ≤ 35 := by omega
          have HI2 := Lib.hid fun w => (show Calls Try.prog 90 #[.string (s.extract j s.size), .int .u8 10] w fun e w' => e = .returned (.int .i64 V) ∧ w' = w from by
            have h := HI.out (s.extract j s.size) w
            rw [ext_all] at h
            rw [← hV3]
            exact h)
          by_cases hneg : V = -1
          · have E := Lib.hid ((skp_none hl h2 (hV3.trans hneg)).symm.trans hV.out)
            rw [len_data] at E
            subst hneg
            rw [hb] at h1 h2
            clear h1 h2 hb hl hV hV3
            go_wp2_with (go_at_call 90; refine (HI2.out _).mono ?_; rintro e w' ⟨rfl, rfl⟩)
            go_ret
            exact ⟨ret_int (by rw [E.out]), rfl⟩
          · have hge : -1 ≤ V := hV3 ▸ index_ge _
            obtain ⟨i, rfl⟩ : ∃ i : Nat, V = i := ⟨V.toNat, by omega⟩
            obtain ⟨hi1, hi2, hi3⟩ := skp_some hl h2 hV3
            rw [len_data] at hi1
            have HV2 : Hid (skp s.data.toList (j + i) = skp s.data.toList k) := Lib.hid (by rw [← hi3]; exact hV.out)
            have h5 : (0 : Int) ≤ i := by omega
            have h6 : (j : Int) + i < s.size := by omega
            rw [hb] at h1 h2
            clear h1 h2 hb hl hV hV3 hi3 hneg
            go_wp2_with (go_at_call 90; refine (HI2.out _).mono ?_; rintro e w' ⟨rfl, rfl⟩)
            go_round
            case rel => exact ⟨j + i, by go_num, by omega, HV2⟩
            case measure => simp [intOf]; omega
        · have E := Lib.hid ((skp_no hl h1 h2).symm.trans hV.out)
          rw [hb] at h1 h2
          clear hb hl hV
          rcases no_ranges h1 h2 with h | ⟨h, h'⟩ | ⟨h, h'⟩ | ⟨h, h'⟩ | h
          all_goals
            clear h1 h2
            go_wp2
            go_ret
            exact ⟨ret_int (by rw [E.out]), rfl⟩
    · have E := Lib.hid ((skp_end (l := s.data.toList) (k := j) (by rw [len_data]; omega)).symm.trans hV.out)
      clear hV
      go_wp2
      go_ret
      exact ⟨ret_int (by rw [E.out]), rfl⟩
end Go.Proofs.Ytipeapjbodnagaa.Lx
