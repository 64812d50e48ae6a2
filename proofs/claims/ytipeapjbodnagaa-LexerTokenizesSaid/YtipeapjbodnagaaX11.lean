/- The lexer: run of the reference. -/
import Derived.Test.YtipeapjbodnagaaX4
import Derived.Test.YtipeapjbodnagaaX9
namespace Go.Proofs.Ytipeapjbodnagaa.Lx
open Go.ChangeShapes Go.WideShapes Go.ChangeAt Go.RowKit
open Go.Proofs.Ytipeapjbodnagaa.Nm
set_option linter.unusedVariables false

theorem rletter (c : Int) (w : World) (h0 : 0 ≤ c) (h1 : c ≤ 255) : Calls Try.prog 95 #[.int .u8 c] w fun e w' => e = .returned (.bool (let1 c)) ∧ w = w' := by
  go_enter Try.func95, Try.ntmps95
  go_wp2
  all_goals
    go_ret
    refine ⟨ret_bool ?_, rfl⟩
    unfold let1
    rw [Bool.eq_iff_iff]
    simp
    omega
theorem rdigit (c : Int) (w : World) (h0 : 0 ≤ c) (h1 : c ≤ 255) : Calls Try.prog 96 #[.int .u8 c] w fun e w' => e = .returned (.bool (dg c)) ∧ w = w' := by
  go_enter Try.func96, Try.ntmps96
  go_wp2
  all_goals
    go_ret
    refine ⟨ret_bool ?_, rfl⟩
    unfold dg
    rw [Bool.eq_iff_iff]
    simp
    omega
/-- The length and the kind of the word or number at the start. -/
def rr (l : List UInt8) : Nat × Int := if l.length = 0 then (0, 0) else if let1 (by1 l 0) = true then (rn wd l 0, 1) else if dg (by1 l 0) = true then (rn dg l 0, 2) else (0, 0)
def RW (a : Nat × Int) : Ending := .returned (.tuple #[.int .i64 (a.1 : Int), .int .i64 a.2])
theorem wd_of {c : Int} : wd c = (let1 c || (dg c || (c == 95))) := rfl
set_option maxRecDepth 100000 in
set_option maxHeartbeats 8000000 in
theorem rrun (s : ByteArray) (w : World) (hs : s.size ≤ maxLen) : Calls Try.prog 69 #[.string s] w fun e w' => e = RW (rr s.data.toList) ∧ w = w' := by
  have hld := len_data s
  unfold maxLen at hs
  by_cases h0 : s.size = 0
  · have e : rr s.data.toList = (0, 0) := by unfold rr; rw [if_pos (by rw [hld]; exact h0)]
    have hse : s = ⟨#[]⟩ := by
      have : s.data = #[] := Array.eq_empty_of_size_eq_zero h0
      cases s; simp at this; rw [this]
    rw [e]
    subst hse
    unfold RW
    clear e h0 hld hs
    go_enter Try.func69, Try.ntmps69
    go_wp2
    go_ret2
    exact ⟨rfl, rfl⟩
  have hpos : 0 < s.size := by omega
  have hnl : s.toList ≠ [] := fun h => h0 (by rw [ByteArray.toList_eq] at h; rw [← hld, h]; rfl)
  have n1 : (s.toList == []) = false := by simpa using hnl
  have n2 : s.toList.isEmpty = false := by simpa using hnl
  have hb := by1_at hpos
  obtain ⟨bd0, bd1⟩ := by1_bd s.data.toList 0
  have CL := Lib.hid fun w => (by have h := rletter (by1 s.data.toList 0) w bd0 bd1; rw [hb] at h; exact h)
  have CD := Lib.hid fun w => (by have h := rdigit (by1 s.data.toList 0) w bd0 bd1; rw [hb] at h; exact h)
  by_cases h1 : let1 (by1 s.data.toList 0) = true
  · have e : rr s.data.toList = (rn wd s.data.toList 0, 1) := by unfold rr; rw [if_neg (by rw [hld]; exact h0), if_pos h1]
    rw [e]
    rw [hb] at h1
    rw [h1] at CL
    obtain ⟨V, hV0⟩ : ∃ V, rn wd s.data.toList 0 = V := ⟨_, rfl⟩
    rw [hV0]
    have HV0 := Lib.hid hV0
    clear e h1 hb bd0 bd1 hV0 hld h0 hnl
    unfold RW
    go_enter Try.func69, Try.ntmps69
    go_wp2_with (first | (go_at_call 95; refine (CL.out _).mono ?_; rintro e w' ⟨rfl, rfl⟩) | (go_at_call 96; refine (CD.out _).mono ?_; rintro e w' ⟨rfl, rfl⟩))
    go_loop [5] (fun a => ∃ j : Nat, a = .int .i64 (j : Int) ∧ j ≤ s.size ∧ Hid (rn wd s.data.toList j = V)) (fun a => s.size - (intOf a).toNat)
    case atStart => exact ⟨0, rfl, by omega, HV0⟩
    case round =>
      obtain ⟨j, rfl, hj, hV⟩ := hrel
      by_cases hlt : j < s.size
      · have hl2 : j < s.data.toList.length := by rw [len_data]; exact hlt
        have j0 : (0 : Int) ≤ j := by omega
        have j1 : (j : Int) < s.size := by omega
        have hb2 := by1_at hlt
        obtain ⟨be0, be1⟩ := by1_bd s.data.toList j
        have CL2 := Lib.hid fun w => (by have h := rletter (by1 s.data.toList j) w be0 be1; rw [hb2] at h; exact h)
        have CD2 := Lib.hid fun w => (by have h := rdigit (by1 s.data.toList j) w be0 be1; rw [hb2] at h; exact h)
        obtain ⟨q1, hq1⟩ : ∃ q, let1 (((s[j]'hlt).toNat : Int)) = q := ⟨_, rfl⟩
        obtain ⟨q2, hq2⟩ : ∃ q, dg (((s[j]'hlt).toNat : Int)) = q := ⟨_, rfl⟩
        rw [hq1] at CL2
        rw [hq2] at CD2
        have hwd : wd (by1 s.data.toList j) = (q1 || (q2 || (((s[j]'hlt).toNat : Int) == 95))) := by rw [hb2, wd_of, hq1, hq2]
        have HG := Lib.hid fun h => (rn_go hl2 h).symm.trans hV.out
        have HN := Lib.hid fun h => (rn_no hl2 h).symm.trans hV.out
        rw [hwd] at HG HN
        clear hwd hq1 hq2 hb2 be0 be1 hl2 hV
        rcases (by omega : ((s[j]'hlt).toNat : Int) < 95 ∨ (95 ≤ ((s[j]'hlt).toNat : Int) ∧ ((s[j]'hlt).toNat : Int) ≤ 95) ∨ 95 < ((s[j]'hlt).toNat : Int)) with g | ⟨g, g'⟩ | g
        all_goals
          cases q1 <;> cases q2
          all_goals
            first
            | (have hx : (((s[j]'hlt).toNat : Int) == 95) = false := beq_false_of_ne (by omega)
               have HN2 := Lib.hid (HN.out (by rw [hx]; rfl))
               clear HG HN hx
               go_wp2_with (first | (go_at_call 95; refine (CL2.out _).mono ?_; rintro e w' ⟨rfl, rfl⟩) | (go_at_call 96; refine (CD2.out _).mono ?_; rintro e w' ⟨rfl, rfl⟩))
               go_ret2
               exact ⟨by rw [← HN2.out]; rfl, rfl⟩)
            | (have HV2 := Lib.hid (HG.out (by first | rfl | (rw [beq_iff_eq.2 (show ((s[j]'hlt).toNat : Int) = 95 by omega)]; rfl)))
               clear HG HN
               go_wp2_with (first | (go_at_call 95; refine (CL2.out _).mono ?_; rintro e w' ⟨rfl, rfl⟩) | (go_at_call 96; refine (CD2.out _).mono ?_; rintro e w' ⟨rfl, rfl⟩))
               go_round
               case rel => exact ⟨j + 1, by go_num, by omega, HV2⟩
               case measure => simp [intOf]; omega)
      · have E := Lib.hid ((rn_end (f := wd) (l := s.data.toList) (k := j) (by rw [len_data]; omega)).symm.trans hV.out)
        clear hV
        go_wp2
        go_ret2
        exact ⟨by rw [← E.out]; rfl, rfl⟩
  have h1 : let1 (by1 s.data.toList 0) = false := by simpa using h1
  by_cases h2 : dg (by1 s.data.toList 0) = true
  · have e : rr s.data.toList = (rn dg s.data.toList 0, 2) := by unfold rr; rw [if_neg (by rw [hld]; exact h0), if_neg (by rw [h1]; decide), if_pos h2]
    rw [e]
    rw [hb] at h1 h2
    rw [h1] at CL
    rw [h2] at CD
    obtain ⟨V, hV0⟩ : ∃ V, rn dg s.data.toList 0 = V := ⟨_, rfl⟩
    rw [hV0]
    have HV0 := Lib.hid hV0
    clear e h1 h2 hb bd0 bd1 hV0 hld h0 hnl
    unfold RW
    go_enter Try.func69, Try.ntmps69
    go_wp2_with (first | (go_at_call 95; refine (CL.out _).mono ?_; rintro e w' ⟨rfl, rfl⟩) | (go_at_call 96; refine (CD.out _).mono ?_; rintro e w' ⟨rfl, rfl⟩))
    go_loop [5] (fun a => ∃ j : Nat, a = .int .i64 (j : Int) ∧ j ≤ s.size ∧ Hid (rn dg s.data.toList j = V)) (fun a => s.size - (intOf a).toNat)
    case atStart => exact ⟨0, rfl, by omega, HV0⟩
    case round =>
      obtain ⟨j, rfl, hj, hV⟩ := hrel
      by_cases hlt : j < s.size
      · have hl2 : j < s.data.toList.length := by rw [len_data]; exact hlt
        have j0 : (0 : Int) ≤ j := by omega
        have j1 : (j : Int) < s.size := by omega
        have hb2 := by1_at hlt
        obtain ⟨be0, be1⟩ := by1_bd s.data.toList j
        have CD2 := Lib.hid fun w => (by have h := rdigit (by1 s.data.toList j) w be0 be1; rw [hb2] at h; exact h)
        obtain ⟨q2, hq2⟩ : ∃ q, dg (((s[j]'hlt).toNat : Int)) = q := ⟨_, rfl⟩
        rw [hq2] at CD2
        have hwd : dg (by1 s.data.toList j) = q2 := by rw [hb2, hq2]
        have HG := Lib.hid fun h => (rn_go hl2 h).symm.trans hV.out
        have HN := Lib.hid fun h => (rn_no hl2 h).symm.trans hV.out
        rw [hwd] at HG HN
        clear hwd hq2 hb2 be0 be1 hl2 hV
        cases q2
        · have HN2 := Lib.hid (HN.out rfl)
          clear HG HN
          go_wp2_with (go_at_call 96; refine (CD2.out _).mono ?_; rintro e w' ⟨rfl, rfl⟩)
          go_ret2
          exact ⟨by rw [← HN2.out]; rfl, rfl⟩
        · have HV2 := Lib.hid (HG.out rfl)
          clear HG HN
          go_wp2_with (go_at_call 96; refine (CD2.out _).mono ?_; rintro e w' ⟨rfl, rfl⟩)
          go_round
          case rel => exact ⟨j + 1, by go_num, by omega, HV2⟩
          case measure => simp [intOf]; omega
      · have E := Lib.hid ((rn_end (f := dg) (l := s.data.toList) (k := j) (by rw [len_data]; omega)).symm.trans hV.out)
        clear hV
        go_wp2
        go_ret2
        exact ⟨by rw [← E.out]; rfl, rfl⟩
  · have h2 : dg (by1 s.data.toList 0) = false := by simpa using h2
    have e : rr s.data.toList = (0, 0) := by unfold rr; rw [if_neg (by rw [hld]; exact h0), if_neg (by rw [h1]; decide), if_neg (by rw [h2]; decide)]
    rw [e]
    rw [hb] at h1 h2
    rw [h1] at CL
    rw [h2] at CD
    clear e h1 h2 hb bd0 bd1 hld h0 hnl
    unfold RW
    go_enter Try.func69, Try.ntmps69
    go_wp2_with (first | (go_at_call 95; refine (CL.out _).mono ?_; rintro e w' ⟨rfl, rfl⟩) | (go_at_call 96; refine (CD.out _).mono ?_; rintro e w' ⟨rfl, rfl⟩))
    go_ret2
    exact ⟨rfl, rfl⟩
end Go.Proofs.Ytipeapjbodnagaa.Lx
