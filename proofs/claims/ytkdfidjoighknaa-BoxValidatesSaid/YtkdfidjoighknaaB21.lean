/- Boxes: the statement on validity: its walk. -/
import Derived.Test.YtkdfidjoighknaaB20
namespace Go.Proofs.Ytkdfidjoighknaa.Bx
open Go.ChangeShapes Go.WideShapes Go.ChangeAt Go.RowKit
set_option linter.unusedVariables false
set_option linter.unusedSimpArgs false
open Go.Proofs.Ytkdfidjoighknaa.Nm Go.Proofs.Ytkdfidjoighknaa.Ln
def RT (w : World) (e : Ending) (w' : World) : Prop := e = .returned (.bool true) ∧ Below w.heap.size w w'
set_option maxHeartbeats 4000000 in
theorem law3 (p : Option Addr) (zs : List Int) (c : Nat) (w : World) (hc : zs.length ≤ c) (hc2 : c ≤ maxLen) (RA : Hid (SlI w p zs)) (_ : ∀ z ∈ zs, -9223372036854775808 ≤ z ∧ z ≤ 9223372036854775807) :
    Calls Try.prog 3 #[.slice p zs.length c] w (RT w) := by
  have hn : zs.length ≤ maxLen := Nat.le_trans hc hc2
  have EX := Lib.hid exam
  have C1 := Lib.hid (bval1 p zs c w hn RA)
  have C2 := Lib.hid (rbval1 p zs c w hn RA)
  have C3 := Lib.hid fun (u : World) (hu : Below w.heap.size w u) => count1 p zs c u hn (Lib.hid (SlI.keep hu RA.out))
  have C4 := Lib.hid fun (u : World) (hu : Below w.heap.size w u) => rcount1 p zs c u hn (Lib.hid (SlI.keep hu RA.out))
  by_cases h : 1000 < zs.length
  · have l1 : decide ((1000 : Int) < zs.length) = true := decide_eq_true (by omega)
    have l2 : decide (1000 < zs.length) = true := decide_eq_true h
    unfold maxLen at hn
    go_enter Try.func3, Try.ntmps3
    go_wp2_with fail
    refine (EX.out _).mono ?_
    rintro e w1 ⟨rfl, hb⟩
    go_wp2
    go_ret
    exact ⟨rfl, hb⟩
  · have l1 : decide ((1000 : Int) < zs.length) = false := decide_eq_false (by omega)
    have l2 : decide (1000 < zs.length) = false := decide_eq_false h
    unfold maxLen at hn
    generalize bV zs = V at C1 C2
    generalize cnt zs = K at C3 C4
    go_enter Try.func3, Try.ntmps3
    go_wp2_with fail
    refine C1.out.mono ?_
    rintro e w' ⟨rfl, rfl⟩
    go_wp2_with fail
    refine C2.out.mono ?_
    rintro e w' ⟨rfl, m1, rfl⟩
    have K1 := Lib.hid (World.below_drewN' (Below.refl w.heap.size w) m1)
    clear C1 C2
    generalize w.drewN m1 = w1 at *
    go_wp2_with fail
    refine (C3.out w1 K1.out).mono ?_
    rintro e w' ⟨rfl, rfl⟩
    go_wp2_with fail
    refine (C4.out w1 K1.out).mono ?_
    rintro e w' ⟨rfl, m2, rfl⟩
    have K2 := Lib.hid (World.below_drewN' K1.out m2)
    clear C3 C4 K1
    generalize w1.drewN m2 = w2 at *
    go_wp2_with fail
    refine (EX.out _).mono ?_
    rintro e w3 ⟨rfl, hb⟩
    have K3 := Lib.hid (K2.out.trans (hb.mono K2.out.size))
    clear hb
    go_wp2
    go_ret
    exact ⟨rfl, K3.out⟩
end Go.Proofs.Ytkdfidjoighknaa.Bx
