/- Boxes: the statement on all points. -/
import Derived.Test.YtkdfidjoighknaaB32
namespace Go.Proofs.Ytkdfidjoighknaa.Bx
open Go.ChangeShapes Go.WideShapes Go.ChangeAt Go.RowKit
set_option linter.unusedVariables false
set_option linter.unusedSimpArgs false
open Go.Proofs.Ytkdfidjoighknaa.Nm Go.Proofs.Ytkdfidjoighknaa.Ln
set_option maxHeartbeats 4000000 in
theorem law5 (p : Option Addr) (zs : List Int) (c : Nat) (most : Int) (w : World) (hc : zs.length ≤ c) (hc2 : c ≤ maxLen) (RA : Hid (SlI w p zs)) (_ : ∀ z ∈ zs, -9223372036854775808 ≤ z ∧ z ≤ 9223372036854775807) (hm : 0 ≤ most ∧ most ≤ 255) :
    Calls Try.prog 5 #[.slice p zs.length c, .int .u8 most] w (RT w) := by
  have hn : zs.length ≤ maxLen := Nat.le_trans hc hc2
  by_cases h : zs.length ≤ 1000 ∧ cnt zs ≤ 3000
  · exact enum_main p zs c most w h.1 RA hm h.2
  have EX := Lib.hid exam
  have CC := Lib.hid (rcount1 p zs c w hn RA)
  generalize cnt zs = C at CC h
  generalize zs.length = n at CC h hn ⊢
  clear hc
  unfold maxLen at hn
  by_cases a1 : 1000 < n
  · have j1 : decide ((1000 : Int) < n) = true := decide_eq_true (by omega)
    go_enter Try.func5, Try.ntmps5
    go_wp2_with fail
    refine (EX.out _).mono ?_
    rintro e w1 ⟨rfl, hb⟩
    go_wp2
    go_ret
    exact ⟨rfl, hb⟩
  · have j1 : decide ((1000 : Int) < n) = false := decide_eq_false (by omega)
    have j2 : decide ((3000 : Int) < C) = true := decide_eq_true (by omega)
    go_enter Try.func5, Try.ntmps5
    go_wp2_with fail
    refine CC.out.mono ?_
    rintro e w' ⟨rfl, md, rfl⟩
    have K := Lib.hid (World.below_drewN' (Below.refl w.heap.size w) md)
    generalize w.drewN md = w1 at *
    go_wp2_with fail
    refine (EX.out _).mono ?_
    rintro e w9 ⟨rfl, hb⟩
    have K9 := Lib.hid (K.out.trans (hb.mono K.out.size))
    clear hb
    go_wp2
    go_ret
    exact ⟨rfl, K9.out⟩
end Go.Proofs.Ytkdfidjoighknaa.Bx
