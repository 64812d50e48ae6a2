/- The sign between two terms is written. -/
import Derived.Test.YtbicmlkjonaccaaDoorZ0
import Derived.Test.YtbicmlkjonaccaaDoorZ1
namespace Go.Proofs.YtbicmlkjonaccaaDoor.Ln
open Go.ChangeShapes Go.WideShapes Go.ChangeAt Go.RowKit

set_option linter.unusedVariables false
set_option linter.unusedSimpArgs false
set_option maxRecDepth 8000

set_option maxRecDepth 100000 in
/-- sign of package lin: what stands between two terms is written. -/
theorem sign1 (B b : Nat) (l : List UInt8) (neg : Bool) (w : World) (h : Lib.IsBuilder 68 5 B b (Lib.byteCells l) w) (hlen : l.length ≤ 100000) (hBw : B ≤ w.heap.size) :
    Calls Tryd.prog 46 #[.pointer (some ⟨b, 0, none⟩), .bool neg] w fun e w' => e = .returned (.tuple #[]) ∧ Lib.IsBuilder 68 5 B b (Lib.byteCells (l ++ sgn l neg)) w' ∧ Below B w w' ∧ Lib.OthersKept 5 (some b) w w' := by
  have LN := Lib.hid fun w h => Tryd.Builder_Len B b (Lib.byteCells l) w h
  rw [Lib.byteCells_length] at LN
  have WS := Lib.hid fun s w h hl hB => writeString B b (Lib.byteCells l) s w h hl hB
  rw [Lib.byteCells_length] at WS
  have HI := Lib.hid h
  by_cases hl : l.length = 0
  · obtain rfl : l = [] := List.eq_nil_of_length_eq_zero hl
    have g : ((([] : List UInt8).length : Int) == 0) = true := rfl
    cases neg
    · have e : ([] : List UInt8) ++ sgn [] false = [] := rfl
      rw [e]
      go_enter Tryd.func46, Tryd.ntmps46
      go_wp2_with (go_at_call 87; refine (LN.out _ HI.out).mono ?_; rintro e w' ⟨rfl, rfl⟩)
      go_end0
      exact ⟨rfl, HI.out, Below.refl _ _, Lib.OthersKept.refl _ _ _⟩
    · have e : Lib.byteCells (([] : List UInt8) ++ sgn [] true) = Lib.byteCells [] ++ Lib.strCells ⟨#[45]⟩ := rfl
      rw [e]
      go_enter Tryd.func46, Tryd.ntmps46
      go_wp2_with (first | (go_at_call 87; refine (LN.out _ HI.out).mono ?_; rintro e w' ⟨rfl, rfl⟩) | (go_at_call 47; refine (WS.out _ _ HI.out (by decide) hBw).mono ?_; rintro e w1 ⟨rfl, k1, k2, k3⟩))
      go_end0
      exact ⟨rfl, .inr k1, k2, k3⟩
  · have hne : l ≠ [] := fun e => hl (by rw [e]; rfl)
    have g : ((l.length : Int) == 0) = false := by simp; exact hne
    cases neg
    · have e : Lib.byteCells (l ++ sgn l false) = Lib.byteCells l ++ Lib.strCells ⟨#[32, 43, 32]⟩ := by
        unfold sgn; rw [if_neg hne, if_neg (by decide)]; unfold Lib.byteCells Lib.strCells; rw [List.map_append]
      rw [e]
      have h3 : (⟨#[32, 43, 32]⟩ : ByteArray).size = 3 := rfl
      clear e hne hl
      go_enter Tryd.func46, Tryd.ntmps46
      go_wp2_with (first | (go_at_call 87; refine (LN.out _ HI.out).mono ?_; rintro e w' ⟨rfl, rfl⟩) | (go_at_call 47; refine (WS.out _ _ HI.out (by rw [h3]; omega) hBw).mono ?_; rintro e w1 ⟨rfl, k1, k2, k3⟩))
      go_end0
      exact ⟨rfl, .inr k1, k2, k3⟩
    · have e : Lib.byteCells (l ++ sgn l true) = Lib.byteCells l ++ Lib.strCells ⟨#[32, 45, 32]⟩ := by
        unfold sgn; rw [if_neg hne, if_pos rfl]; unfold Lib.byteCells Lib.strCells; rw [List.map_append]
      rw [e]
      have h3 : (⟨#[32, 45, 32]⟩ : ByteArray).size = 3 := rfl
      clear e hne hl
      go_enter Tryd.func46, Tryd.ntmps46
      go_wp2_with (first | (go_at_call 87; refine (LN.out _ HI.out).mono ?_; rintro e w' ⟨rfl, rfl⟩) | (go_at_call 47; refine (WS.out _ _ HI.out (by rw [h3]; omega) hBw).mono ?_; rintro e w1 ⟨rfl, k1, k2, k3⟩))
      go_end0
      exact ⟨rfl, .inr k1, k2, k3⟩
end Go.Proofs.YtbicmlkjonaccaaDoor.Ln
