/- The laws of Check and LowerBound. -/
import Derived.Test.YtghnigmmkenddaaE1
import Derived.Test.YtghnigmmkenddaaR2
import Derived.Test.YtghnigmmkenddaaR3
namespace Go.Proofs.Ytghnigmmkenddaa.Ar
open Go.ChangeShapes Go.WideShapes Go.ChangeAt Go.RowKit
open Go.Proofs.Ytghnigmmkenddaa.Lv Go.Proofs.Ytghnigmmkenddaa.Nm
set_option linter.unusedVariables false
set_option linter.unusedSimpArgs false

set_option maxRecDepth 100000 in
set_option maxHeartbeats 8000000 in
theorem law_low (p : Option Addr) (xs : List Lf) (c : Nat) (w : World) (hl : xs.length ≤ c) (hm : c ≤ maxLen) (RA : Hid (SlL w p xs)) (RB : ∀ z ∈ xs, z.1.size ≤ maxLen ∧ (-9223372036854775808 ≤ z.2.1 ∧ z.2.1 ≤ 9223372036854775807) ∧ (-9223372036854775808 ≤ z.2.2.1 ∧ z.2.2.1 ≤ 9223372036854775807) ∧ (-9223372036854775808 ≤ z.2.2.2 ∧ z.2.2.2 ≤ 9223372036854775807)) :
    Calls Try.prog 6 #[.slice p xs.length c] w fun e w' => e = .returned (.bool true) ∧ Below w.heap.size w w' := by
  have RZ : Hid (∀ i, i < xs.length → (xs.getD i lf0).1.size ≤ 9223372036854775807) := Lib.hid fun i hi => by rw [getD_lf hi]; have h := (RB _ (List.getElem_mem hi)).1; unfold maxLen at h; omega
  obtain ⟨n, hn⟩ : ∃ n, xs.length = n := ⟨_, rfl⟩
  have HN := Lib.hid hn
  rw [hn]
  have FW := Lib.hid (fewC p xs c n 60 w HN (by decide) RA (by rw [← hn]; exact RZ))
  rw [show ((60 : Nat) : Int) = 60 from rfl] at FW
  have EX := Lib.hid examplesC
  clear hn
  by_cases hf : fewF xs 60 = true
  case neg =>
    have hf2 : fewF xs 60 = false := by simpa using hf
    rw [hf2] at FW
    clear hf hf2
    go_enter Try.func6, Try.ntmps6
    go_wp2_with (first | (go_at_call 8; (with_reducible refine FW.out.mono ?_); rintro e w1 ⟨rfl, B1⟩; have HB1 := Lib.hid B1; clear B1) | (go_at_call 9; (with_reducible refine (EX.out _).mono ?_); rintro e w2 ⟨rfl, B2⟩; have HB2 := Lib.hid (HB1.out.trans (B2.mono HB1.out.size)); clear B2))
    go_ret
    exact ⟨rfl, HB2.out⟩
  have HF := Lib.hid (few_at hf)
  have hn60 : n ≤ 60 := by rw [← HN.out]; exact HF.out.1
  have HFW := Lib.hid hf
  rw [hf] at FW
  clear hf
  go_enter Try.func6, Try.ntmps6
  go_wp2_with (first
    | (go_at_call 8; (with_reducible refine FW.out.mono ?_); rintro e w1 ⟨rfl, B1⟩; have HB1 := Lib.hid B1; have RA1 := Lib.hid (RA.out.keep B1); have FW2 := Lib.hid (fewC p xs c n 60 w1 HN (by decide) RA1 (by rw [← HN.out]; exact RZ)); rw [show ((60 : Nat) : Int) = 60 from rfl] at FW2; clear B1)
    | (go_at_call 8; (with_reducible refine FW2.out.mono ?_); rintro e w2 ⟨rfl, B2⟩; have HT : fewF xs 60 = true := HFW.out; rw [HT]; clear HT; have HB2 := Lib.hid (HB1.out.trans (B2.mono HB1.out.size)); have RA2 := Lib.hid (RA1.out.keep B2); have LC := Lib.hid (lowC p xs c n w2 HN hn60 RA2 (Lib.hid HF.out.2)); clear B2)
    | (go_at_call 16; (with_reducible refine LC.out.mono ?_); rintro e w3 ⟨rfl, B3⟩; have HB3 := Lib.hid (HB2.out.trans (B3.mono HB2.out.size)); have RA3 := Lib.hid (RA2.out.keep B3); have LR := Lib.hid (lowR p xs c n w3 HN hn60 RA3 (Lib.hid HF.out.2)); clear B3)
    | (go_at_call 14; (with_reducible refine LR.out.mono ?_); rintro e w4 ⟨rfl, B4⟩; have HB4 := Lib.hid (HB3.out.trans (B4.mono HB3.out.size)); clear B4)
    | (go_at_call 9; (with_reducible refine (EX.out _).mono ?_); rintro e w5 ⟨rfl, B5⟩; have HB5 := Lib.hid (HB4.out.trans (B5.mono HB4.out.size)); clear B5))
  go_ret
  exact ⟨rfl, HB5.out⟩

set_option maxRecDepth 100000 in
set_option maxHeartbeats 8000000 in
theorem law_check (p : Option Addr) (xs : List Lf) (c : Nat) (p2 : Option Addr) (ss : List St) (c2 : Nat) (size : Int) (w : World) (hl : xs.length ≤ c) (hm : c ≤ maxLen) (RA : Hid (SlL w p xs)) (RB : ∀ z ∈ xs, z.1.size ≤ maxLen ∧ (-9223372036854775808 ≤ z.2.1 ∧ z.2.1 ≤ 9223372036854775807) ∧ (-9223372036854775808 ≤ z.2.2.1 ∧ z.2.2.1 ≤ 9223372036854775807) ∧ (-9223372036854775808 ≤ z.2.2.2 ∧ z.2.2.2 ≤ 9223372036854775807))
    (hl2 : ss.length ≤ c2) (hm2 : c2 ≤ maxLen) (SA : Hid (SlS w p2 ss)) (SB : ∀ z ∈ ss, z.1.size ≤ maxLen ∧ (-9223372036854775808 ≤ z.2.1 ∧ z.2.1 ≤ 9223372036854775807) ∧ (-9223372036854775808 ≤ z.2.2 ∧ z.2.2 ≤ 9223372036854775807)) (hz : -9223372036854775808 ≤ size ∧ size ≤ 9223372036854775807) :
    Calls Try.prog 5 #[.slice p xs.length c, .slice p2 ss.length c2, .int .i64 size] w fun e w' => e = .returned (.bool true) ∧ Below w.heap.size w w' := by
  obtain ⟨hz0, hz1⟩ := hz
  have BD : Hid (∀ i, i < ss.length → -9223372036854775808 ≤ (ss.getD i st0).2.1 ∧ (ss.getD i st0).2.1 ≤ 9223372036854775807) := Lib.hid fun i hi => (SB _ (st_mem hi)).2.1
  obtain ⟨m, hm9⟩ : ∃ m, ss.length = m := ⟨_, rfl⟩
  have HM := Lib.hid hm9
  rw [hm9] at hl2 BD ⊢
  clear hm9 SB
  have RZ : Hid (∀ i, i < xs.length → (xs.getD i lf0).1.size ≤ 9223372036854775807) := Lib.hid fun i hi => by rw [getD_lf hi]; have h := (RB _ (List.getElem_mem hi)).1; unfold maxLen at h; omega
  obtain ⟨n, hn⟩ : ∃ n, xs.length = n := ⟨_, rfl⟩
  have HN := Lib.hid hn
  rw [hn]
  have FW := Lib.hid (fewC p xs c n 60 w HN (by decide) RA (by rw [← hn]; exact RZ))
  rw [show ((60 : Nat) : Int) = 60 from rfl] at FW
  have EX := Lib.hid examplesC
  clear hn
  by_cases hf : fewF xs 60 = true
  case neg =>
    have hf2 : fewF xs 60 = false := by simpa using hf
    rw [hf2] at FW
    clear hf hf2
    go_enter Try.func5, Try.ntmps5
    go_wp2_with (first | (go_at_call 8; (with_reducible refine FW.out.mono ?_); rintro e w1 ⟨rfl, B1⟩; have HB1 := Lib.hid B1; clear B1) | (go_at_call 9; (with_reducible refine (EX.out _).mono ?_); rintro e w2 ⟨rfl, B2⟩; have HB2 := Lib.hid (HB1.out.trans (B2.mono HB1.out.size)); clear B2))
    go_ret
    exact ⟨rfl, HB2.out⟩
  have HF := Lib.hid (few_at hf)
  have hn60 : n ≤ 60 := by rw [← HN.out]; exact HF.out.1
  rw [hf] at FW
  clear hf
  by_cases hm60 : m ≤ 60
  case neg =>
    have m1 : (60 : Int) < m := by omega
    go_enter Try.func5, Try.ntmps5
    go_wp2_with (first | (go_at_call 8; (with_reducible refine FW.out.mono ?_); rintro e w1 ⟨rfl, B1⟩; have HB1 := Lib.hid B1; clear B1) | (go_at_call 9; (with_reducible refine (EX.out _).mono ?_); rintro e w2 ⟨rfl, B2⟩; have HB2 := Lib.hid (HB1.out.trans (B2.mono HB1.out.size)); clear B2))
    go_ret
    exact ⟨rfl, HB2.out⟩
  have m1 : ¬ (60 : Int) < m := by omega
  go_enter Try.func5, Try.ntmps5
  go_wp2_with (first
    | (go_at_call 8; (with_reducible refine FW.out.mono ?_); rintro e w1 ⟨rfl, B1⟩; have HB1 := Lib.hid B1; have RA1 := Lib.hid (RA.out.keep B1); have SA1 := Lib.hid (SA.out.keep B1); have CC := Lib.hid (checkC p p2 xs ss c c2 n m size w1 HN HM hn60 hm60 hl2 RA1 (Lib.hid HF.out.2) SA1 BD hz0 hz1); clear B1)
    | (go_at_call 15; (with_reducible refine CC.out.mono ?_); rintro e w2 ⟨rfl, B2⟩; have HB2 := Lib.hid (HB1.out.trans (B2.mono HB1.out.size)); have RA2 := Lib.hid (RA1.out.keep B2); have SA2 := Lib.hid (SA1.out.keep B2); have CR := Lib.hid (checkR p p2 xs ss c c2 n m size w2 HN HM hn60 hm60 hl2 RA2 (Lib.hid HF.out.2) SA2 BD hz0 hz1); clear B2)
    | (go_at_call 13; (with_reducible refine CR.out.mono ?_); rintro e w3 ⟨rfl, B3⟩; have HB3 := Lib.hid (HB2.out.trans (B3.mono HB2.out.size)); clear B3)
    | (go_at_call 9; (with_reducible refine (EX.out _).mono ?_); rintro e w4 ⟨rfl, B4⟩; have HB4 := Lib.hid (HB3.out.trans (B4.mono HB3.out.size)); clear B4))
  go_ret
  exact ⟨rfl, HB4.out⟩
end Go.Proofs.Ytghnigmmkenddaa.Ar
