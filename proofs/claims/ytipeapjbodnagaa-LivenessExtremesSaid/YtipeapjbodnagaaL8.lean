/- Lifetimes: the laws on counting and on checking. -/
import Derived.Test.YtipeapjbodnagaaL7
namespace Go.Proofs.Ytipeapjbodnagaa.Lv
open Go.ChangeShapes Go.WideShapes Go.ChangeAt Go.RowKit
set_option linter.unusedVariables false

theorem SlL.keep' {w w' : World} {p : Option Addr} {xs : List Lf} (h : SlL w p xs) (hB : Below w.heap.size w w') : SlL w' p xs := SlL.keep hB h
set_option maxRecDepth 100000 in
set_option maxHeartbeats 8000000 in
theorem law_count (p : Option Addr) (xs : List Lf) (c : Nat) (w : World) (hn : xs.length ≤ maxLen) (RA : Hid (SlL w p xs)) (RS : Hid (∀ i, i < xs.length → (xs.getD i lf0).1.size ≤ maxLen)) :
    Calls Try.prog 12 #[.slice p xs.length c] w fun e w' => e = .returned (.bool true) ∧ Below w.heap.size w w' := by
  have EX := Lib.hid alive
  by_cases h4 : 60 < xs.length
  · have l1 : decide ((60 : Int) < xs.length) = true := decide_eq_true (by omega)
    have l2 : decide (60 < xs.length) = true := decide_eq_true h4
    go_enter Try.func12, Try.ntmps12
    go_wp2_with (go_at_call 43; refine (EX.out _).mono ?_; rintro e w1 ⟨rfl, hb1⟩)
    go_ret
    exact ⟨rfl, hb1⟩
  · have l1 : decide ((60 : Int) < xs.length) = false := decide_eq_false (by omega)
    have l2 : decide (60 < xs.length) = false := decide_eq_false h4
    have C1 := Lib.hid (pml p xs c w (by omega) RA)
    have C2 := Lib.hid (fun w1 (hb : Below w.heap.size w w1) => rml p xs c w1 (by omega) (Lib.hid (RA.out.keep' hb)))
    generalize ml xs = v at *
    clear h4
    go_enter Try.func12, Try.ntmps12
    go_wp2_with fail
    refine (C1.out).mono ?_
    rintro e w1 ⟨rfl, hb1⟩
    go_wp2_with fail
    refine (C2.out _ hb1).mono ?_
    rintro e w2 ⟨rfl, hb2⟩
    have kb2 := hb1.trans (hb2.mono hb1.size)
    go_wp2_with fail
    refine (EX.out _).mono ?_
    rintro e w3 ⟨rfl, hb3⟩
    have kb3 := kb2.trans (hb3.mono kb2.size)
    go_wp2
    go_ret
    exact ⟨rfl, kb3⟩
set_option maxRecDepth 100000 in
set_option maxHeartbeats 8000000 in
theorem law_valid (p : Option Addr) (xs : List Lf) (c : Nat) (w : World) (hn : xs.length ≤ maxLen) (RA : Hid (SlL w p xs)) (RS : Hid (∀ i, i < xs.length → (xs.getD i lf0).1.size ≤ maxLen)) :
    Calls Try.prog 13 #[.slice p xs.length c] w fun e w' => e = .returned (.bool true) ∧ Below w.heap.size w w' := by
  have EX := Lib.hid alive
  by_cases h4 : 60 < xs.length
  · have l1 : decide ((60 : Int) < xs.length) = true := decide_eq_true (by omega)
    have l2 : decide (60 < xs.length) = true := decide_eq_true h4
    go_enter Try.func13, Try.ntmps13
    go_wp2_with (go_at_call 43; refine (EX.out _).mono ?_; rintro e w1 ⟨rfl, hb1⟩)
    go_ret
    exact ⟨rfl, hb1⟩
  · have l1 : decide ((60 : Int) < xs.length) = false := decide_eq_false (by omega)
    have l2 : decide (60 < xs.length) = false := decide_eq_false h4
    have C1 := Lib.hid (pval p xs c w (by omega) RA RS)
    have C2 := Lib.hid (fun w1 (hb : Below w.heap.size w w1) => rval p xs c w1 (by omega) (Lib.hid (RA.out.keep' hb)) RS)
    generalize vE xs = v at *
    clear h4
    go_enter Try.func13, Try.ntmps13
    go_wp2_with fail
    refine (C1.out).mono ?_
    rintro e w1 ⟨rfl, hb1⟩
    go_wp2_with fail
    refine (C2.out _ hb1).mono ?_
    rintro e w2 ⟨rfl, hb2⟩
    have kb2 := hb1.trans (hb2.mono hb1.size)
    go_wp2_with fail
    refine (EX.out _).mono ?_
    rintro e w3 ⟨rfl, hb3⟩
    have kb3 := kb2.trans (hb3.mono kb2.size)
    go_wp2
    go_ret
    exact ⟨rfl, kb3⟩
end Go.Proofs.Ytipeapjbodnagaa.Lv
