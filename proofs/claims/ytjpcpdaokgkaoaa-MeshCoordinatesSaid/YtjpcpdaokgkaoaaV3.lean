/- Size of package shape and of the reference. -/
import Derived.Test.YtjpcpdaokgkaoaaV2
namespace Go.Proofs.Ytjpcpdaokgkaoaa.Sh
open Go.ChangeShapes Go.WideShapes Go.ChangeAt Go.RowKit
set_option linter.unusedVariables false

set_option maxHeartbeats 4000000 in
theorem c16_bad (p : Option Addr) (zs : List Int) (c : Nat) (w : World) (hn : zs.length ≤ maxLen) (RA : Hid (SlI w p zs)) (hv : (vE zs != 0) = true) :
    Calls Try.prog 16 #[.slice p zs.length c] w fun e w' => e = .returned (.int .i64 0) ∧ w = w' := by
  have C := Lib.hid (c14 p zs c w hn RA)
  generalize vE zs = e at *
  go_enter Try.func16, Try.ntmps16
  go_wp2_with (go_at_call 14; refine (C.out).mono ?_; rintro e w' ⟨rfl, rfl⟩)
  go_ret
  exact ⟨rfl, rfl⟩
set_option maxHeartbeats 4000000 in
theorem c16_ok (p : Option Addr) (zs : List Int) (c : Nat) (P : Int) (w : World) (hn : zs.length ≤ maxLen) (RA : Hid (SlI w p zs)) (hv : vE zs = 0) (hl : Hid (zs.any low = false)) (hP : Hid (pr 1 zs = some P)) :
    Calls Try.prog 16 #[.slice p zs.length c] w fun e w' => e = .returned (.int .i64 P) ∧ w = w' := by
  have C := Lib.hid (c14 p zs c w hn RA)
  rw [hv] at C
  clear hv
  unfold maxLen at hn
  go_enter Try.func16, Try.ntmps16
  go_wp2_with (go_at_call 14; refine (C.out).mono ?_; rintro e w' ⟨rfl, rfl⟩)
  go_loop [3, 11] (fun s i => ∃ (k : Nat) (S : Int), s = .int .i64 S ∧ i = .int .i64 k ∧ k ≤ zs.length ∧ 1 ≤ S ∧ S ≤ 4096 ∧ Hid (pr S (zs.drop k) = some P)) (fun _ i => zs.length - (intOf i).toNat)
  case atStart => exact ⟨0, 1, rfl, rfl, by omega, by omega, by omega, hP⟩
  case round =>
    obtain ⟨k, S, rfl, rfl, hk, s0, s1, hP⟩ := hrel
    by_cases hlt : k < zs.length
    · obtain ⟨b, o, rfl, hc⟩ := RA.out k hlt
      have z1 := pos_of hl.out hlt
      have hd := drop_cons hlt
      obtain ⟨z, hz⟩ : ∃ z, zs.getD k 0 = z := ⟨_, rfl⟩
      rw [hz] at hc z1 hd
      obtain ⟨T, hT⟩ : ∃ T, S * z = T := ⟨_, rfl⟩
      have t0 : 0 < T := by rw [← hT]; exact Int.mul_pos (by omega) (by omega)
      have h := hP.out
      rw [hd] at h
      have t1 : T ≤ 4096 := by
        by_cases hb : 4096 < S * z
        · rw [pr_none hb] at h
          cases h
        · omega
      have hP2 : Hid (pr T (zs.drop (k + 1)) = some P) := Lib.hid (by rw [pr_go (by omega), hT] at h; exact h)
      have hd0 := Lib.hid hd
      clear hz hd h
      go_wp2
      go_round
      case rel => exact ⟨k + 1, T, rfl, by go_num, by omega, by omega, by omega, hP2⟩
      case measure => simp [intOf]; omega
    · have e : S = P := by
        have h := hP.out
        rw [List.drop_of_length_le (by omega)] at h
        exact Option.some.inj h
      subst e
      go_wp2
      go_ret
      exact ⟨rfl, rfl⟩
set_option maxHeartbeats 4000000 in
theorem c17_bad (p : Option Addr) (zs : List Int) (c : Nat) (w : World) (hn : zs.length ≤ maxLen) (RA : Hid (SlI w p zs)) (hv : (vE zs != 0) = true) :
    Calls Try.prog 17 #[.slice p zs.length c] w fun e w' => e = .returned (.int .i64 0) ∧ w = w' := by
  have C := Lib.hid (c15 p zs c w hn RA)
  generalize vE zs = e at *
  go_enter Try.func17, Try.ntmps17
  go_wp2_with (go_at_call 15; refine (C.out).mono ?_; rintro e w' ⟨rfl, rfl⟩)
  go_ret
  exact ⟨rfl, rfl⟩
set_option maxHeartbeats 4000000 in
theorem c17_ok (p : Option Addr) (zs : List Int) (c : Nat) (P : Int) (w : World) (hn : zs.length ≤ maxLen) (RA : Hid (SlI w p zs)) (hv : vE zs = 0) (hl : Hid (zs.any low = false)) (hP : Hid (pr 1 zs = some P)) :
    Calls Try.prog 17 #[.slice p zs.length c] w fun e w' => e = .returned (.int .i64 P) ∧ w = w' := by
  have C := Lib.hid (c15 p zs c w hn RA)
  rw [hv] at C
  clear hv
  unfold maxLen at hn
  go_enter Try.func17, Try.ntmps17
  go_wp2_with (go_at_call 15; refine (C.out).mono ?_; rintro e w' ⟨rfl, rfl⟩)
  go_loop [3, 4] (fun s i => ∃ (k : Nat) (S : Int), s = .int .i64 S ∧ i = .int .i64 k ∧ k ≤ zs.length ∧ 1 ≤ S ∧ S ≤ 4096 ∧ Hid (pr S (zs.drop k) = some P)) (fun _ i => zs.length - (intOf i).toNat)
  case atStart => exact ⟨0, 1, rfl, rfl, by omega, by omega, by omega, hP⟩
  case round =>
    obtain ⟨k, S, rfl, rfl, hk, s0, s1, hP⟩ := hrel
    by_cases hlt : k < zs.length
    · obtain ⟨b, o, rfl, hc⟩ := RA.out k hlt
      have z1 := pos_of hl.out hlt
      have hd := drop_cons hlt
      obtain ⟨z, hz⟩ : ∃ z, zs.getD k 0 = z := ⟨_, rfl⟩
      rw [hz] at hc z1 hd
      obtain ⟨T, hT⟩ : ∃ T, S * z = T := ⟨_, rfl⟩
      have t0 : 0 < T := by rw [← hT]; exact Int.mul_pos (by omega) (by omega)
      have h := hP.out
      rw [hd] at h
      have t1 : T ≤ 4096 := by
        by_cases hb : 4096 < S * z
        · rw [pr_none hb] at h
          cases h
        · omega
      have hP2 : Hid (pr T (zs.drop (k + 1)) = some P) := Lib.hid (by rw [pr_go (by omega), hT] at h; exact h)
      have hd0 := Lib.hid hd
      clear hz hd h
      go_wp2
      go_round
      case rel => exact ⟨k + 1, T, rfl, by go_num, by omega, by omega, by omega, hP2⟩
      case measure => simp [intOf]; omega
    · have e : S = P := by
        have h := hP.out
        rw [List.drop_of_length_le (by omega)] at h
        exact Option.some.inj h
      subst e
      go_wp2
      go_ret
      exact ⟨rfl, rfl⟩

theorem vE_zero {zs : List Int} (h : vE zs = 0) : zs.length ≤ 6 ∧ zs.any low = false ∧ ∃ P, pr 1 zs = some P := by
  unfold vE at h
  by_cases h1 : 6 < zs.length
  · rw [if_pos h1] at h; cases h
  · rw [if_neg h1] at h
    by_cases h2 : zs.any low = true
    · rw [if_pos h2] at h; cases h
    · rw [if_neg h2] at h
      by_cases h3 : pr 1 zs = none
      · rw [if_pos h3] at h; cases h
      · exact ⟨by omega, by simpa using h2, Option.ne_none_iff_exists'.1 h3⟩
def sz (zs : List Int) : Int := if vE zs = 0 then (pr 1 zs).getD 0 else 0
theorem c16 (p : Option Addr) (zs : List Int) (c : Nat) (w : World) (hn : zs.length ≤ maxLen) (RA : Hid (SlI w p zs)) : Calls Try.prog 16 #[.slice p zs.length c] w fun e w' => e = .returned (.int .i64 (sz zs)) ∧ w = w' := by
  unfold sz
  by_cases h : vE zs = 0
  · obtain ⟨_, h2, P, h3⟩ := vE_zero h
    rw [if_pos h, h3]
    exact c16_ok p zs c P w hn RA h (Lib.hid h2) (Lib.hid h3)
  · rw [if_neg h]
    exact c16_bad p zs c w hn RA (by simpa using h)
theorem c17 (p : Option Addr) (zs : List Int) (c : Nat) (w : World) (hn : zs.length ≤ maxLen) (RA : Hid (SlI w p zs)) : Calls Try.prog 17 #[.slice p zs.length c] w fun e w' => e = .returned (.int .i64 (sz zs)) ∧ w = w' := by
  unfold sz
  by_cases h : vE zs = 0
  · obtain ⟨_, h2, P, h3⟩ := vE_zero h
    rw [if_pos h, h3]
    exact c17_ok p zs c P w hn RA h (Lib.hid h2) (Lib.hid h3)
  · rw [if_neg h]
    exact c17_bad p zs c w hn RA (by simpa using h)
end Go.Proofs.Ytjpcpdaokgkaoaa.Sh
