/- The statement on the checks: its walk. -/
import Derived.Test.YtndmpoomdoojpaaK20
import Derived.Test.YtndmpoomdoojpaaK11
namespace Go.Proofs.Ytndmpoomdoojpaa.Ck
open Go.ChangeShapes Go.WideShapes Go.ChangeAt Go.RowKit
set_option linter.unusedVariables false

theorem SlA.below {w w' : World} {p : Option Addr} {xs : List Act3} (h : SlA w p xs) (hb : Below w.heap.size w w') : SlA w' p xs := by
  intro i hi
  obtain ⟨b, o, e, c0, c1, c2⟩ := h i hi
  have hl : b < w.heap.size := World.block_lt_of_cell? w _ c0
  exact ⟨b, o, e, kp hb hl c0, kp hb hl c1, kp hb hl c2⟩
set_option maxRecDepth 100000 in
set_option maxHeartbeats 8000000 in
theorem law_checks (n s : Int) (p : Option Addr) (xs : List Act3) (c : Nat) (w : World) (hn : xs.length ≤ maxLen) (RA : Hid (SlA w p xs)) (RB : Hid (∀ i, i < xs.length → (-9223372036854775808 ≤ (xs.getD i (0, 0, 0)).2.1 ∧ (xs.getD i (0, 0, 0)).2.1 ≤ 9223372036854775807) ∧ (-9223372036854775808 ≤ (xs.getD i (0, 0, 0)).2.2 ∧ (xs.getD i (0, 0, 0)).2.2 ≤ 9223372036854775807))) :
    Calls Try.prog 9 #[.int .i64 n, .int .i64 s, .slice p xs.length c] w fun e w' => e = .returned (.bool true) ∧ Below w.heap.size w w' := by
  have EX := Lib.hid ex28
  by_cases h4 : 400 < xs.length
  · have l1 : decide ((400 : Int) < xs.length) = true := decide_eq_true (by omega)
    have l2 : decide (400 < xs.length) = true := decide_eq_true h4
    go_enter Try.func9, Try.ntmps9
    go_wp2_with (go_at_call 22; refine (EX.out _).mono ?_; rintro e w1 ⟨rfl, hb1⟩)
    go_ret
    exact ⟨rfl, hb1⟩
  · have l1 : decide ((400 : Int) < xs.length) = false := decide_eq_false (by omega)
    have l2 : decide (400 < xs.length) = false := decide_eq_false h4
    obtain ⟨V, hV⟩ : ∃ V, ck n s xs = V := ⟨_, rfl⟩
    obtain ⟨x, y⟩ := V
    have C1 := Lib.hid (by have h := cp p xs c n s w hn RA; rw [hV] at h; exact h)
    have C2 := Lib.hid (fun w1 (hb : Below w.heap.size w w1) => by have h := rcp p xs c n s w1 hn (Lib.hid (RA.out.below hb)) (Lib.hid fun i hi => (RB.out i hi).1.1); rw [hV] at h; exact h)
    have C3 := Lib.hid (fun w1 (hb : Below w.heap.size w w1) => rpeak p xs c w1 (by omega) (Lib.hid (RA.out.below hb)))
    have C4 := Lib.hid (fun w1 (hb : Below w.heap.size w w1) => peak p xs c w1 (by omega) (Lib.hid (RA.out.below hb)) (Lib.hid fun i hi => (RB.out i hi).2))
    go_enter Try.func9, Try.ntmps9
    go_wp2_with fail
    refine (C1.out).mono ?_
    rintro e w1 ⟨rfl, hb1⟩
    unfold NE
    go_wp2_with fail
    refine (C2.out _ hb1).mono ?_
    rintro e w2 ⟨rfl, hb2⟩
    unfold NE
    have kb2 := hb1.trans (hb2.mono hb1.size)
    go_wp2_with fail
    refine ((C4.out _ kb2)).mono ?_
    rintro e w3 ⟨rfl, hb3⟩
    have kb3 := kb2.trans (hb3.mono kb2.size)
    go_wp2_with fail
    refine ((C3.out _ kb3)).mono ?_
    rintro e w4 ⟨rfl, hb4⟩
    have kb4 := kb3.trans (hb4.mono kb3.size)
    go_wp2_with fail
    refine ((EX.out _)).mono ?_
    rintro e w5 ⟨rfl, hb5⟩
    have kb5 := kb4.trans (hb5.mono kb4.size)
    go_wp2_with fail
    go_ret
    exact ⟨rfl, kb5⟩
end Go.Proofs.Ytndmpoomdoojpaa.Ck
