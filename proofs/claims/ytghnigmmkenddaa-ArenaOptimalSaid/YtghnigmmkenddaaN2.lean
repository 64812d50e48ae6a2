/- Names of package ident. -/
import Derived.Test.YtghnigmmkenddaaN1
namespace Go.Proofs.Ytghnigmmkenddaa.Nm
open Go.ChangeShapes Go.WideShapes Go.ChangeAt Go.RowKit
set_option linter.unusedVariables false
set_option linter.unusedSimpArgs false
/-- A letter; a byte with which a word goes on. -/
def let1 (c : Int) : Bool := decide (97 ≤ c) && decide (c ≤ 122)
def wd (c : Int) : Bool := let1 c || ((decide (48 ≤ c) && decide (c ≤ 57)) || (c == 95))
theorem wordByte (c : Int) (w : World) (h0 : 0 ≤ c) (h1 : c ≤ 255) : Calls Try.prog 47 #[.int .u8 c] w fun e w' => e = .returned (.bool (wd c)) ∧ w = w' := by
  go_enter Try.func47, Try.ntmps47
  go_wp2
  all_goals
    go_ret
    refine ⟨ret_bool ?_, rfl⟩
    unfold wd let1
    rw [Bool.eq_iff_iff]
    simp
    omega
def SlT (w : World) (p : Option Addr) (ls : List ByteArray) : Prop := ∀ i, i < ls.length → ∃ b o, p = some ⟨b, o, none⟩ ∧ w.cell? ⟨b, o + i, none⟩ = some (.string (ls.getD i ByteArray.empty))
set_option maxHeartbeats 4000000 in
theorem hasT (p : Option Addr) (ls : List ByteArray) (c : Nat) (s : ByteArray) (w : World) (hn : ls.length ≤ maxLen) (RA : Hid (SlT w p ls)) : Calls Try.prog 45 #[.slice p ls.length c, .string s] w fun e w' => e = .returned (.bool (ls.any fun k => k.toList == s.toList)) ∧ w = w' := by
  unfold maxLen at hn
  go_enter Try.func45, Try.ntmps45
  go_wp2
  go_loop [5] (fun i => ∃ k : Nat, i = .int .i64 k ∧ k ≤ ls.length ∧ Hid (∀ j, j < k → ((ls.getD j ByteArray.empty).toList == s.toList) = false)) (fun i => ls.length - (intOf i).toNat)
  case atStart => exact ⟨0, rfl, by omega, Lib.hid fun j hj => by omega⟩
  case round =>
    obtain ⟨k, rfl, hk, hL⟩ := hrel
    by_cases hlt : k < ls.length
    · obtain ⟨b, o, rfl, hc⟩ := RA.out k hlt
      obtain ⟨x, hx⟩ : ∃ x, ls.getD k ByteArray.empty = x := ⟨_, rfl⟩
      rw [hx] at hc
      have HX := Lib.hid hx
      clear hx
      obtain ⟨t, ht⟩ : ∃ t, (x.toList == s.toList) = t := ⟨_, rfl⟩
      cases t
      · have hL2 : Hid (∀ j, j < k + 1 → ((ls.getD j ByteArray.empty).toList == s.toList) = false) := Lib.hid fun j hj => by
          rcases (by omega : j < k ∨ j = k) with h | rfl
          · exact hL.out j h
          · rw [HX.out]; exact ht
        go_wp2
        go_round
        case rel => exact ⟨k + 1, by go_num, by omega, hL2⟩
        case measure => simp [intOf]; omega
      · have e : (ls.any fun k => k.toList == s.toList) = true := by
          rw [List.any_eq_true]
          refine ⟨ls[k], List.getElem_mem hlt, ?_⟩
          have h2 := HX.out
          rw [List.getD, List.getElem?_eq_getElem hlt] at h2
          have h2 : ls[k] = x := h2
          rw [h2]; exact ht
        have E := Lib.hid e
        clear e
        go_wp2
        go_ret
        exact ⟨ret_bool E.out.symm, rfl⟩
    · have e : (ls.any fun k => k.toList == s.toList) = false := by
        rw [List.any_eq_false]
        intro y hy
        obtain ⟨j, hj, rfl⟩ := List.getElem_of_mem hy
        have h := hL.out j (by omega)
        rw [List.getD, List.getElem?_eq_getElem hj] at h
        have h : (ls[j].toList == s.toList) = false := h
        rw [h]; simp
      have E := Lib.hid e
      clear e
      go_wp2
      go_ret
      exact ⟨ret_bool E.out.symm, rfl⟩
def bt (s : ByteArray) (k : Nat) : Int := if h : k < s.size then (s[k].toNat : Int) else 0
theorem bt_at {s : ByteArray} {k : Nat} (h : k < s.size) : bt s k = (s[k].toNat : Int) := dif_pos h
theorem bt_bd (s : ByteArray) (k : Nat) : 0 ≤ bt s k ∧ bt s k ≤ 255 := by
  unfold bt
  split
  · have := s[k].toNat_lt; omega
  · omega
def nmB (s : ByteArray) : Bool := decide (1 ≤ s.size ∧ s.size ≤ 16) && (let1 (bt s 0) && ((List.range s.size).all (fun k => wd (bt s k)) && !kwB s.toList))
set_option maxHeartbeats 4000000 in
theorem isName (s : ByteArray) (w : World) (hs : s.size ≤ maxLen) : Calls Try.prog 41 #[.string s] w fun e w' => e = .returned (.bool (nmB s)) ∧ w = w' := by
  have KW := Lib.hid (isKeyword s)
  unfold maxLen at hs
  by_cases h1 : 1 ≤ s.size ∧ s.size ≤ 16
  · obtain ⟨h1, h2⟩ := h1
    have hx := bt_at (s := s) (k := 0) (by omega)
    have n1 : decide ((16 : Int) < s.size) = false := decide_eq_false (by omega)
    have n2 : decide (16 < s.size) = false := decide_eq_false (by omega)
    have n3 : ((s.size : Int) == 0) = false := beq_false_of_ne (by omega)
    have n4 : (s.size == 0) = false := beq_false_of_ne (by omega)
    have hpos : 0 < s.size := by omega
    by_cases hl : let1 (bt s 0) = true
    · have hV : nmB s = ((List.range s.size).all (fun k => wd (bt s k)) && !kwB s.toList) := by unfold nmB; rw [decide_eq_true ⟨h1, h2⟩, hl]; rfl
      rw [hV]
      have hl2 : 97 ≤ bt s 0 ∧ bt s 0 ≤ 122 := by unfold let1 at hl; simpa using hl
      rw [hx] at hl2
      obtain ⟨hl3, hl4⟩ := hl2
      have WB : Hid (∀ (k : Nat) (hk : k < s.size) (w : World), Calls Try.prog 47 #[.int .u8 (s[k].toNat : Int)] w fun e w' => e = .returned (.bool (wd (bt s k))) ∧ w = w') := Lib.hid fun (k : Nat) (hk : k < s.size) (w : World) => by
        rw [bt_at hk]
        exact wordByte (s[k].toNat : Int) w (by omega) (by have := s[k].toNat_lt; omega)
      clear hV hl hx
      go_enter Try.func41, Try.ntmps41
      go_wp2
      go_loop [24] (fun i => ∃ k : Nat, i = .int .i64 k ∧ k ≤ s.size ∧ Hid (∀ j, j < k → wd (bt s j) = true)) (fun i => s.size - (intOf i).toNat)
      case atStart => exact ⟨0, rfl, by omega, Lib.hid fun j hj => by omega⟩
      case round =>
        obtain ⟨k, rfl, hk, hL⟩ := hrel
        have kk : (0 : Int) ≤ k := by omega
        by_cases hlt : k < s.size
        · have kn : (k : Int) < s.size := by omega
          have W1 := WB.out k hlt
          obtain ⟨t, ht⟩ : ∃ t, wd (bt s k) = t := ⟨_, rfl⟩
          rw [ht] at W1
          have W1 := Lib.hid W1
          have HT := Lib.hid ht
          clear ht
          cases t
          · have e : ((List.range s.size).all (fun k => wd (bt s k)) && !kwB s.toList) = false := by
              rw [Bool.and_eq_false_iff]
              left
              rw [List.all_eq_false]
              exact ⟨k, List.mem_range.2 hlt, by rw [HT.out]; simp⟩
            have E := Lib.hid e
            clear e
            go_wp2_with (go_at_call 47; refine (W1.out _).mono ?_; rintro e w' ⟨rfl, rfl⟩)
            go_ret
            exact ⟨ret_bool E.out.symm, rfl⟩
          · have hL2 : Hid (∀ j, j < k + 1 → wd (bt s j) = true) := Lib.hid fun j hj => by
              rcases (by omega : j < k ∨ j = k) with h | rfl
              · exact hL.out j h
              · exact HT.out
            go_wp2_with (go_at_call 47; refine (W1.out _).mono ?_; rintro e w' ⟨rfl, rfl⟩)
            go_round
            case rel => exact ⟨k + 1, by go_num, by omega, hL2⟩
            case measure => simp [intOf]; omega
        · have e : ((List.range s.size).all (fun k => wd (bt s k)) && !kwB s.toList) = !kwB s.toList := by
            have : (List.range s.size).all (fun k => wd (bt s k)) = true := by
              rw [List.all_eq_true]
              intro j hj
              exact hL.out j (by have := List.mem_range.1 hj; omega)
            rw [this]; rfl
          have E := Lib.hid e
          clear e
          go_wp2_with (go_at_call 48; refine (KW.out _).mono ?_; rintro e w' ⟨rfl, rfl⟩)
          go_ret
          exact ⟨ret_bool E.out.symm, rfl⟩
    · have e : nmB s = false := by unfold nmB; simp [hl]
      rw [e]
      have hl2 : ¬ (97 ≤ bt s 0 ∧ bt s 0 ≤ 122) := fun h => hl (by unfold let1; simpa using h)
      rw [hx] at hl2
      clear e hl hx
      go_enter Try.func41, Try.ntmps41
      go_wp2
      all_goals
        go_ret
        exact ⟨rfl, rfl⟩
  · have e : nmB s = false := by unfold nmB; rw [decide_eq_false h1]; rfl
    rw [e]
    clear e
    by_cases h0 : s.size = 0
    · have n3 : ((s.size : Int) == 0) = true := beq_iff_eq.2 (by omega)
      have n4 : (s.size == 0) = true := beq_iff_eq.2 h0
      clear h1
      have H0 := Lib.hid h0
      clear h0
      go_enter Try.func41, Try.ntmps41
      go_wp2
      go_ret
      exact ⟨rfl, rfl⟩
    · have n1 : decide ((16 : Int) < s.size) = true := decide_eq_true (by omega)
      have n2 : decide (16 < s.size) = true := decide_eq_true (by omega)
      have n3 : ((s.size : Int) == 0) = false := beq_false_of_ne (by omega)
      have n4 : (s.size == 0) = false := beq_false_of_ne h0
      clear h1
      go_enter Try.func41, Try.ntmps41
      go_wp2
      go_ret
      exact ⟨rfl, rfl⟩
end Go.Proofs.Ytghnigmmkenddaa.Nm
