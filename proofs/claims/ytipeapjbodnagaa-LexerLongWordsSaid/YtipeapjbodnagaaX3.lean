/- The lexer: scan. -/
import Derived.Test.YtipeapjbodnagaaX3a
namespace Go.Proofs.Ytipeapjbodnagaa.Lx
open Go.ChangeShapes Go.WideShapes Go.ChangeAt Go.RowKit
open Go.Proofs.Ytipeapjbodnagaa.Nm
set_option linter.unusedVariables false

theorem not_let {c : Int} (h : dg c = true) : let1 c = false := by unfold dg at h; unfold let1; simp at h ⊢; omega
theorem kd_let {l : List UInt8} {k : Nat} (h : let1 (by1 l k) = true) : kd l k = (1, rn wd l (k + 1)) := by unfold kd; rw [if_pos h]
theorem kd_dig {l : List UInt8} {k : Nat} (h1 : let1 (by1 l k) = false) (h : dg (by1 l k) = true) : kd l k = (2, rn dg l (k + 1)) := by unfold kd; rw [if_neg (by rw [h1]; decide), if_pos h]
theorem kd_sy2 {l : List UInt8} {k : Nat} (h1 : let1 (by1 l k) = false) (h2 : dg (by1 l k) = false) (h : sy (by1 l k) = true) (h3 : k + 1 < l.length ∧ (by1 l k = 60 ∨ by1 l k = 61) ∧ by1 l (k + 1) = 61) : kd l k = (3, k + 2) := by unfold kd; rw [if_neg (by rw [h1]; decide), if_neg (by rw [h2]; decide), if_pos h, if_pos h3]
theorem kd_sy1 {l : List UInt8} {k : Nat} (h1 : let1 (by1 l k) = false) (h2 : dg (by1 l k) = false) (h : sy (by1 l k) = true) (h3 : ¬ (k + 1 < l.length ∧ (by1 l k = 60 ∨ by1 l k = 61) ∧ by1 l (k + 1) = 61)) : kd l k = (3, k + 1) := by unfold kd; rw [if_neg (by rw [h1]; decide), if_neg (by rw [h2]; decide), if_pos h, if_neg h3]
theorem kd_no {l : List UInt8} {k : Nat} (h1 : let1 (by1 l k) = false) (h2 : dg (by1 l k) = false) (h : sy (by1 l k) = false) : kd l k = (0, k) := by unfold kd; rw [if_neg (by rw [h1]; decide), if_neg (by rw [h2]; decide), if_neg (by rw [h]; decide)]
def SC (a : Int × Nat) : Ending := .returned (.tuple #[.int .i64 a.1, .int .i64 (a.2 : Int)])
set_option maxRecDepth 100000 in
set_option maxHeartbeats 8000000 in
theorem scan (s : ByteArray) (k : Nat) (w : World) (hs : s.size ≤ maxLen) (hk : k < s.size) : Calls Try.prog 68 #[.string s, .int .i64 (k : Int)] w fun e w' => e = SC (kd s.data.toList k) ∧ w = w' := by
  have hl : k < s.data.toList.length := by rw [len_data]; exact hk
  unfold maxLen at hs
  have hb := by1_at hk
  obtain ⟨bd0, bd1⟩ := by1_bd s.data.toList k
  have k0 : (0 : Int) ≤ k := by omega
  have k1 : (k : Int) < s.size := by omega
  have t0 : (0 : Int) ≤ ((s[k]'hk).toNat : Int) := by omega
  have t1 : ((s[k]'hk).toNat : Int) ≤ 255 := by omega
  have CL := Lib.hid fun w => (by have h := isLetter (by1 s.data.toList k) w bd0 bd1; rw [hb] at h; exact h)
  have CD := Lib.hid fun w => (by have h := isDigit (by1 s.data.toList k) w bd0 bd1; rw [hb] at h; exact h)
  have CS := Lib.hid fun w => (by have h := isSymbol (by1 s.data.toList k) w bd0 bd1; rw [hb] at h; exact h)
  by_cases h1 : let1 (by1 s.data.toList k) = true
  · rw [kd_let h1]
    rw [hb] at h1
    rw [h1] at CL
    clear h1 hb bd0 bd1 CD CS hl
    unfold SC
    go_enter Try.func68, Try.ntmps68
    go_wp2_with (go_at_call 91; refine (CL.out _).mono ?_; rintro e w' ⟨rfl, rfl⟩)
    all_goals
      go_loop [6] (fun a => ∃ j : Nat, a = .int .i64 (j : Int) ∧ k + 1 ≤ j ∧ j ≤ s.size ∧ Hid (rn wd s.data.toList j = rn wd s.data.toList (k + 1))) (fun a => s.size - (intOf a).toNat)
      case atStart => exact ⟨k + 1, by go_num, by omega, by omega, Lib.hid rfl⟩
      case round =>
        obtain ⟨j, rfl, hj0, hj, hV⟩ := hrel
        by_cases hlt : j < s.size
        · have hl2 : j < s.data.toList.length := by rw [len_data]; exact hlt
          have j0 : (0 : Int) ≤ j := by omega
          have j1 : (j : Int) < s.size := by omega
          have hb2 := by1_at hlt
          have bd := by1_bd s.data.toList j
          have t2 : (0 : Int) ≤ ((s[j]'hlt).toNat : Int) := by omega
          have t3 : ((s[j]'hlt).toNat : Int) ≤ 255 := by have := (s[j]'hlt).toNat_lt; omega
          obtain ⟨q, hq⟩ : ∃ q, wd (by1 s.data.toList j) = q := ⟨_, rfl⟩
          have CW := Lib.hid fun w => (show Calls Try.prog 92 #[.int .u8 ((s[j]'hlt).toNat : Int)] w fun e w' => e = .returned (.bool q) ∧ w = w' from by
            have h := wordByte (by1 s.data.toList j) w bd.1 bd.2
            rw [hq, hb2] at h
            exact h)
          cases q
          · have E := Lib.hid ((rn_no (f := wd) hl2 hq).symm.trans hV.out)
            clear hq hb2 bd hl2 hV
            go_wp2_with (go_at_call 92; refine (CW.out _).mono ?_; rintro e w' ⟨rfl, rfl⟩)
            go_ret2
            exact ⟨by rw [← E.out]; rfl, rfl⟩
          · have HV2 : Hid (rn wd s.data.toList (j + 1) = rn wd s.data.toList (k + 1)) := Lib.hid (by rw [← rn_go hl2 hq]; exact hV.out)
            clear hq hb2 bd hl2 hV
            go_wp2_with (go_at_call 92; refine (CW.out _).mono ?_; rintro e w' ⟨rfl, rfl⟩)
            go_round
            case rel => exact ⟨j + 1, by go_num, by omega, by omega, HV2⟩
            case measure => simp [intOf]; omega
        · have E := Lib.hid ((rn_end (f := wd) (l := s.data.toList) (k := j) (by rw [len_data]; omega)).symm.trans hV.out)
          clear hV
          go_wp2
          go_ret2
          exact ⟨by rw [← E.out]; rfl, rfl⟩

  have h1 : let1 (by1 s.data.toList k) = false := by simpa using h1
  by_cases h2 : dg (by1 s.data.toList k) = true
  · rw [kd_dig h1 h2]
    rw [hb] at h1 h2
    rw [h1] at CL
    rw [h2] at CD
    clear h1 h2 hb bd0 bd1 CS hl
    unfold SC
    go_enter Try.func68, Try.ntmps68
    go_wp2_with (first | (go_at_call 91; refine (CL.out _).mono ?_; rintro e w' ⟨rfl, rfl⟩) | (go_at_call 93; refine (CD.out _).mono ?_; rintro e w' ⟨rfl, rfl⟩))
    all_goals
      go_loop [6] (fun a => ∃ j : Nat, a = .int .i64 (j : Int) ∧ k + 1 ≤ j ∧ j ≤ s.size ∧ Hid (rn dg s.data.toList j = rn dg s.data.toList (k + 1))) (fun a => s.size - (intOf a).toNat)
      case atStart => exact ⟨k + 1, by go_num, by omega, by omega, Lib.hid rfl⟩
      case round =>
        obtain ⟨j, rfl, hj0, hj, hV⟩ := hrel
        by_cases hlt : j < s.size
        · have hl2 : j < s.data.toList.length := by rw [len_data]; exact hlt
          have j0 : (0 : Int) ≤ j := by omega
          have j1 : (j : Int) < s.size := by omega
          have hb2 := by1_at hlt
          have bd := by1_bd s.data.toList j
          have t2 : (0 : Int) ≤ ((s[j]'hlt).toNat : Int) := by omega
          have t3 : ((s[j]'hlt).toNat : Int) ≤ 255 := by have := (s[j]'hlt).toNat_lt; omega
          obtain ⟨q, hq⟩ : ∃ q, dg (by1 s.data.toList j) = q := ⟨_, rfl⟩
          have CW := Lib.hid fun w => (show Calls Try.prog 93 #[.int .i32 ((s[j]'hlt).toNat : Int)] w fun e w' => e = .returned (.bool q) ∧ w = w' from by
            have h := isDigit (by1 s.data.toList j) w bd.1 bd.2
            rw [hq, hb2] at h
            exact h)
          cases q
          · have E := Lib.hid ((rn_no (f := dg) hl2 hq).symm.trans hV.out)
            clear hq hb2 bd hl2 hV
            go_wp2_with (go_at_call 93; refine (CW.out _).mono ?_; rintro e w' ⟨rfl, rfl⟩)
            go_ret2
            exact ⟨by rw [← E.out]; rfl, rfl⟩
          · have HV2 : Hid (rn dg s.data.toList (j + 1) = rn dg s.data.toList (k + 1)) := Lib.hid (by rw [← rn_go hl2 hq]; exact hV.out)
            clear hq hb2 bd hl2 hV
            go_wp2_with (go_at_call 93; refine (CW.out _).mono ?_; rintro e w' ⟨rfl, rfl⟩)
            go_round
            case rel => exact ⟨j + 1, by go_num, by omega, by omega, HV2⟩
            case measure => simp [intOf]; omega
        · have E := Lib.hid ((rn_end (f := dg) (l := s.data.toList) (k := j) (by rw [len_data]; omega)).symm.trans hV.out)
          clear hV
          go_wp2
          go_ret2
          exact ⟨by rw [← E.out]; rfl, rfl⟩

  have h2 : dg (by1 s.data.toList k) = false := by simpa using h2
  by_cases h3 : sy (by1 s.data.toList k) = true
  · have K2 := Lib.hid fun h => kd_sy2 h1 h2 h3 h
    have K1 := Lib.hid fun h => kd_sy1 h1 h2 h3 h
    rw [hb] at h1 h2 h3
    rw [h1] at CL
    rw [h2] at CD
    rw [h3] at CS
    have HB := Lib.hid hb
    have HL := Lib.hid (len_data s)
    clear h1 h2 h3 hb bd0 bd1 hl
    by_cases hn : k + 1 < s.size
    · have HB2 := Lib.hid (by1_at hn)
      have n1 : (k : Int) + 1 < s.size := by omega
      have n0 : (0 : Int) ≤ (k : Int) + 1 := by omega
      rcases (by omega : ((s[k]'hk).toNat : Int) < 60 ∨ (60 ≤ ((s[k]'hk).toNat : Int) ∧ ((s[k]'hk).toNat : Int) ≤ 60) ∨ (61 ≤ ((s[k]'hk).toNat : Int) ∧ ((s[k]'hk).toNat : Int) ≤ 61) ∨ 61 < ((s[k]'hk).toNat : Int)) with h | ⟨h, h'⟩ | ⟨h, h'⟩ | h
      all_goals
        rcases (by omega : ((s[k + 1]'hn).toNat : Int) < 61 ∨ (61 ≤ ((s[k + 1]'hn).toNat : Int) ∧ ((s[k + 1]'hn).toNat : Int) ≤ 61) ∨ 61 < ((s[k + 1]'hn).toNat : Int)) with g | ⟨g, g'⟩ | g
        all_goals
          first
          | (rw [K2.out ⟨by rw [HL.out]; exact hn, by rw [HB.out]; omega, by rw [HB2.out]; omega⟩])
          | (rw [K1.out (fun ⟨_, q1, q2⟩ => by rw [HB.out] at q1; rw [HB2.out] at q2; omega)])
          unfold SC
          go_enter Try.func68, Try.ntmps68
          go_wp2_with (first | (go_at_call 91; refine (CL.out _).mono ?_; rintro e w' ⟨rfl, rfl⟩) | (go_at_call 93; refine (CD.out _).mono ?_; rintro e w' ⟨rfl, rfl⟩) | (go_at_call 94; refine (CS.out _).mono ?_; rintro e w' ⟨rfl, rfl⟩))
          go_ret2
          exact ⟨by first | rfl | (simp [Act.eval, Act.put]; omega), rfl⟩
    · have n1 : ¬ (k : Int) + 1 < s.size := by omega
      have n2 : decide ((k : Int) + 1 < s.size) = false := decide_eq_false n1
      rw [K1.out (fun ⟨q, _, _⟩ => by rw [HL.out] at q; omega)]
      unfold SC
      go_enter Try.func68, Try.ntmps68
      go_wp2_with (first | (go_at_call 91; refine (CL.out _).mono ?_; rintro e w' ⟨rfl, rfl⟩) | (go_at_call 93; refine (CD.out _).mono ?_; rintro e w' ⟨rfl, rfl⟩) | (go_at_call 94; refine (CS.out _).mono ?_; rintro e w' ⟨rfl, rfl⟩))
      go_ret2
      exact ⟨by first | rfl | (simp [Act.eval, Act.put]; omega), rfl⟩
  · have h3 : sy (by1 s.data.toList k) = false := by simpa using h3
    rw [kd_no h1 h2 h3]
    rw [hb] at h1 h2 h3
    rw [h1] at CL
    rw [h2] at CD
    rw [h3] at CS
    clear h1 h2 h3 hb bd0 bd1 hl
    unfold SC
    go_enter Try.func68, Try.ntmps68
    go_wp2_with (first | (go_at_call 91; refine (CL.out _).mono ?_; rintro e w' ⟨rfl, rfl⟩) | (go_at_call 93; refine (CD.out _).mono ?_; rintro e w' ⟨rfl, rfl⟩) | (go_at_call 94; refine (CS.out _).mono ?_; rintro e w' ⟨rfl, rfl⟩))
    go_ret2
    exact ⟨rfl, rfl⟩
end Go.Proofs.Ytipeapjbodnagaa.Lx
