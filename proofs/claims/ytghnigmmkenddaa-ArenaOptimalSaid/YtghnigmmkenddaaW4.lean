/- The law of Optimal. -/
import Derived.Test.YtghnigmmkenddaaE1
import Derived.Test.YtghnigmmkenddaaR7
namespace Go.Proofs.Ytghnigmmkenddaa.Ar
open Go.ChangeShapes Go.WideShapes Go.ChangeAt Go.RowKit
open Go.Proofs.Ytghnigmmkenddaa.Lv Go.Proofs.Ytghnigmmkenddaa.Nm
set_option linter.unusedVariables false
set_option linter.unusedSimpArgs false

set_option maxRecDepth 100000 in
set_option maxHeartbeats 8000000 in
theorem law_opt (p : Option Addr) (xs : List Lf) (c : Nat) (w : World) (hl : xs.length ≤ c) (hm : c ≤ maxLen) (RA : Hid (SlL w p xs)) (RB : ∀ z ∈ xs, z.1.size ≤ maxLen ∧ (-9223372036854775808 ≤ z.2.1 ∧ z.2.1 ≤ 9223372036854775807) ∧ (-9223372036854775808 ≤ z.2.2.1 ∧ z.2.2.1 ≤ 9223372036854775807) ∧ (-9223372036854775808 ≤ z.2.2.2 ∧ z.2.2.2 ≤ 9223372036854775807)) :
    Calls Try.prog 7 #[.slice p xs.length c] w fun e w' => e = .returned (.bool true) ∧ Below w.heap.size w w' := by
  have RZ : Hid (∀ i, i < xs.length → (xs.getD i lf0).1.size ≤ 9223372036854775807) := Lib.hid fun i hi => by rw [getD_lf hi]; have h := (RB _ (List.getElem_mem hi)).1; unfold maxLen at h; omega
  obtain ⟨n, hn⟩ : ∃ n, xs.length = n := ⟨_, rfl⟩
  have HN := Lib.hid hn
  rw [hn]
  have FW := Lib.hid (fewC p xs c n 12 w HN (by decide) RA (by rw [← hn]; exact RZ))
  rw [show ((12 : Nat) : Int) = 12 from rfl] at FW
  have EX := Lib.hid examplesC
  clear hn
  by_cases hf : fewF xs 12 = true
  case neg =>
    have hf2 : fewF xs 12 = false := by simpa using hf
    rw [hf2] at FW
    clear hf hf2
    go_enter Try.func7, Try.ntmps7
    go_wp2_with (first | (go_at_call 8; (with_reducible refine FW.out.mono ?_); rintro e w1 ⟨rfl, B1⟩; have HB1 := Lib.hid B1; clear B1) | (go_at_call 9; (with_reducible refine (EX.out _).mono ?_); rintro e w2 ⟨rfl, B2⟩; have HB2 := Lib.hid (HB1.out.trans (B2.mono HB1.out.size)); clear B2))
    go_ret
    exact ⟨rfl, HB2.out⟩
  have HF := Lib.hid (few_at hf)
  have hn60 : n ≤ 12 := by rw [← HN.out]; exact HF.out.1
  rw [hf] at FW
  clear hf
  have PC := Lib.hid (fun w1 (B : Below w.heap.size w w1) => optC p xs c n w1 HN (by omega) (Lib.hid (RA.out.keep B)) (Lib.hid HF.out.2))
  have PR := Lib.hid (fun w1 (B : Below w.heap.size w w1) => optR p xs c n w1 HN (by omega) (Lib.hid (RA.out.keep B)) (Lib.hid HF.out.2))
  go_enter Try.func7, Try.ntmps7
  go_wp2_with (first
    | (go_at_call 8; (with_reducible refine FW.out.mono ?_); rintro e w1 ⟨rfl, B1⟩; have HB1 := Lib.hid B1; clear B1)
    | (go_at_call 17; (with_reducible refine (PC.out _ HB1.out).mono ?_); rintro e w2 ⟨⟨r, er, rfl, ho⟩, B2⟩; have HO2 := Lib.hid ho; have HB2 := Lib.hid (HB1.out.trans (B2.mono HB1.out.size)); clear B2 ho)
    | (go_at_call 18; (with_reducible refine (PR.out _ HB2.out).mono ?_); rintro e w3 ⟨⟨r2, er2, rfl, ho⟩, B3⟩; obtain ⟨rfl, rfl⟩ := HO2.out.uniq ho; have HB3 := Lib.hid (HB2.out.trans (B3.mono HB2.out.size)); clear B3 ho)
    | (go_at_call 9; (with_reducible refine (EX.out _).mono ?_); rintro e w5 ⟨rfl, B5⟩; have HB5 := Lib.hid (HB3.out.trans (B5.mono HB3.out.size)); clear B5))
  go_ret
  exact ⟨rfl, HB5.out⟩
end Go.Proofs.Ytghnigmmkenddaa.Ar
