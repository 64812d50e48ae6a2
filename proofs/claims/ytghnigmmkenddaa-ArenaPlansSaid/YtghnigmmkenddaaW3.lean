/- The law of Plan. -/
import Derived.Test.YtghnigmmkenddaaW2
import Derived.Test.YtghnigmmkenddaaR6
namespace Go.Proofs.Ytghnigmmkenddaa.Ar
open Go.ChangeShapes Go.WideShapes Go.ChangeAt Go.RowKit
open Go.Proofs.Ytghnigmmkenddaa.Lv Go.Proofs.Ytghnigmmkenddaa.Nm
set_option linter.unusedVariables false
set_option linter.unusedSimpArgs false

set_option maxRecDepth 100000 in
set_option maxHeartbeats 4000000 in
/-- slots, at the same slots. -/
theorem slotsC (p q : Option Addr) (L : List St) (c d n : Nat) (w : World) (HN : Hid (L.length = n)) (hn : n ≤ 60) (RA : Hid (SlS w p L)) (RB : Hid (SlS w q L)) :
    Calls Try.prog 12 #[.slice p n c, .slice q n d] w fun e w' => e = .returned (.bool true) ∧ Below w.heap.size w w' := by
  go_enter Try.func12, Try.ntmps12
  go_wp2
  go_loopw [5] (fun iv wr => ∃ k m : Nat, iv = .int .i64 (k : Int) ∧ k ≤ n ∧ wr = w.drewN m) (fun iv _ => n - (intOf iv).toNat)
  case atStart => exact ⟨0, 0, rfl, Nat.zero_le _, rfl⟩
  case round =>
    obtain ⟨k, m, rfl, hk, rfl⟩ := hrel
    by_cases hlt : k < n
    case neg =>
      obtain rfl : k = n := by omega
      have k1 : ¬ (k : Int) < k := by omega
      go_wp2
      go_ret
      exact ⟨rfl, below_drewN (Below.refl _ _) _⟩
    obtain ⟨b, o, rfl, _, c0, c1, c2⟩ := SlS_at RA.out HN.out hlt
    obtain ⟨b', o', rfl, _, d0, d1, d2⟩ := SlS_at RB.out HN.out hlt
    obtain ⟨s, hs⟩ : ∃ s, L.getD k st0 = s := ⟨_, rfl⟩
    rw [hs] at c0 c1 c2 d0 d1 d2
    obtain ⟨sn, sa, sl⟩ := s
    simp only at c0 c1 c2 d0 d1 d2
    have k0 : (0 : Int) ≤ k := by omega
    have k1 : (k : Int) < n := by omega
    clear hs
    go_wp2
    go_quiet (fail)
    go_wp2
    go_roundw
    case rel => exact ⟨k + 1, _, by go_num, by omega, rfl⟩
    case measure => simp [intOf]; omega

set_option maxRecDepth 100000 in
set_option maxHeartbeats 8000000 in
theorem law_plan (p : Option Addr) (xs : List Lf) (c : Nat) (w : World) (hl : xs.length ≤ c) (hm : c ≤ maxLen) (RA : Hid (SlL w p xs)) (RB : ∀ z ∈ xs, z.1.size ≤ maxLen ∧ (-9223372036854775808 ≤ z.2.1 ∧ z.2.1 ≤ 9223372036854775807) ∧ (-9223372036854775808 ≤ z.2.2.1 ∧ z.2.2.1 ≤ 9223372036854775807) ∧ (-9223372036854775808 ≤ z.2.2.2 ∧ z.2.2.2 ≤ 9223372036854775807)) :
    Calls Try.prog 3 #[.slice p xs.length c] w fun e w' => e = .returned (.bool true) ∧ Below w.heap.size w w' := by
  have RZ : Hid (∀ i, i < xs.length → (xs.getD i lf0).1.size ≤ 9223372036854775807) := Lib.hid fun i hi => by rw [getD_lf hi]; have h := (RB _ (List.getElem_mem hi)).1; unfold maxLen at h; omega
  obtain ⟨n, hn⟩ : ∃ n, xs.length = n := ⟨_, rfl⟩
  have HN := Lib.hid hn
  rw [hn]
  have FW := Lib.hid (fewC p xs c n 60 w HN (by decide) RA (by rw [← hn]; exact RZ))
  rw [show ((60 : Nat) : Int) = 60 from rfl] at FW
  have EX := Lib.hid examplesC
  clear hn
  by_cases hf : fewF xs 60 = true
  case neg =>
    have hf2 : fewF xs 60 = false := by simpa using hf
    rw [hf2] at FW
    clear hf hf2
    go_enter Try.func3, Try.ntmps3
    go_wp2_with (first | (go_at_call 8; (with_reducible refine FW.out.mono ?_); rintro e w1 ⟨rfl, B1⟩; have HB1 := Lib.hid B1; clear B1) | (go_at_call 9; (with_reducible refine (EX.out _).mono ?_); rintro e w2 ⟨rfl, B2⟩; have HB2 := Lib.hid (HB1.out.trans (B2.mono HB1.out.size)); clear B2))
    go_ret
    exact ⟨rfl, HB2.out⟩
  have HF := Lib.hid (few_at hf)
  have hn60 : n ≤ 60 := by rw [← HN.out]; exact HF.out.1
  rw [hf] at FW
  clear hf
  have PC := Lib.hid (fun w1 (B : Below w.heap.size w w1) => planC p xs c n w1 HN hn60 (Lib.hid (RA.out.keep B)) (Lib.hid HF.out.2))
  have PR := Lib.hid (fun w1 (B : Below w.heap.size w w1) => planR p xs c n w1 HN hn60 (Lib.hid (RA.out.keep B)) (Lib.hid HF.out.2))
  have HL : Hid ((plF xs).1.length ≤ 60) := Lib.hid (by
    by_cases hv : vE xs = 0
    · rw [(plan_ok hv).2.2, HN.out]; exact hn60
    · unfold plF; rw [if_neg hv]; exact Nat.zero_le _)
  obtain ⟨L, hL⟩ : ∃ L, (plF xs).1 = L := ⟨_, rfl⟩
  obtain ⟨s, hs⟩ : ∃ s, (plF xs).2.1 = s := ⟨_, rfl⟩
  obtain ⟨er, her⟩ : ∃ er, (plF xs).2.2 = er := ⟨_, rfl⟩
  rw [hL] at HL
  rw [hL, hs, her] at PC PR
  obtain ⟨m, hm9⟩ : ∃ m, L.length = m := ⟨_, rfl⟩
  have HM := Lib.hid hm9
  rw [hm9] at HL PC PR
  clear hL hs her hm9
  go_enter Try.func3, Try.ntmps3
  go_wp2_with (first
    | (go_at_call 8; (with_reducible refine FW.out.mono ?_); rintro e w1 ⟨rfl, B1⟩; have HB1 := Lib.hid B1; clear B1)
    | (go_at_call 10; (with_reducible refine (PC.out _ HB1.out).mono ?_); rintro e w2 ⟨v, rfl, B2, O2⟩; obtain ⟨q, c9, rfl⟩ := own_slice O2; have HB2 := Lib.hid (HB1.out.trans (B2.mono HB1.out.size)); have SS := Lib.hid (SlS_of O2 HM.out); clear B2 O2)
    | (go_at_call 11; (with_reducible refine (PR.out _ HB2.out).mono ?_); rintro e w3 ⟨v, rfl, B3, O3⟩; obtain ⟨q3, c3, rfl⟩ := own_slice O3; have HB3 := Lib.hid (HB2.out.trans (B3.mono HB2.out.size)); have SS3 := Lib.hid (SS.out.keep B3); have SQ := Lib.hid (SlS_of O3 HM.out); have SC := Lib.hid (slotsC q q3 L c9 c3 m w3 HM HL.out SS3 SQ); clear B3 O3)
    | (go_at_call 12; (with_reducible refine SC.out.mono ?_); rintro e w4 ⟨rfl, B4⟩; have HB4 := Lib.hid (HB3.out.trans (B4.mono HB3.out.size)); clear B4)
    | (go_at_call 9; (with_reducible refine (EX.out _).mono ?_); rintro e w5 ⟨rfl, B5⟩; have HB5 := Lib.hid (HB4.out.trans (B5.mono HB4.out.size)); clear B5))
  go_ret
  exact ⟨rfl, HB5.out⟩
end Go.Proofs.Ytghnigmmkenddaa.Ar
