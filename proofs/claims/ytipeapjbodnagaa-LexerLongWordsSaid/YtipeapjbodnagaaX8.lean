/- The lexer: what every statement checks first. -/
import Derived.Test.YtipeapjbodnagaaX7
import Derived.Laws.StructEq
namespace Go.Proofs.Ytipeapjbodnagaa.Lx
open Go.ChangeShapes Go.WideShapes Go.ChangeAt Go.RowKit
open Go.Proofs.Ytipeapjbodnagaa.Nm
set_option linter.unusedVariables false

def ex1o : List Tk := ex1
theorem exC : tkCs ex1 = [.int .i64 1, .int .i64 0, .string ⟨#[97]⟩, .int .i64 3, .int .i64 1, .string ⟨#[91]⟩, .int .i64 1, .int .i64 2, .string ⟨#[105]⟩, .int .i64 3, .int .i64 3, .string ⟨#[43]⟩, .int .i64 2, .int .i64 4, .string ⟨#[49]⟩, .int .i64 3, .int .i64 5, .string ⟨#[93]⟩, .int .i64 3, .int .i64 6, .string ⟨#[60, 61]⟩, .int .i64 2, .int .i64 8, .string ⟨#[48, 51]⟩] := rfl
theorem kpd {y y' : World} {b o : Nat} {v : Value} (hy : Below y.heap.size y y') (h : y.cell? ⟨b, o, none⟩ = some v) : y'.cell? ⟨b, o, none⟩ = some v :=
  (hy.cell (p := ⟨b, o, none⟩) (by have := World.block_lt_of_cell? y _ h; simpa using this)).trans h
set_option maxRecDepth 100000 in
set_option maxHeartbeats 8000000 in
theorem exams (w : World) : Calls Try.prog 30 #[] w fun e w' => e = .returned (.bool true) ∧ Below w.heap.size w w' := by
  have CW := Lib.hid fun w => lexKw ⟨#[115, 117, 109]⟩ w
  rw [ek1] at CW
  have CN := Lib.hid fun w => Lv.lexName ⟨#[115, 117, 109]⟩ w (by unfold maxLen; decide)
  rw [en1] at CN
  go_enter Try.func30, Try.ntmps30
  go_wp2_with fail
  have C1 := tokenize ⟨#[97, 91, 105, 43, 49, 93, 60, 61, 48, 51, 32, 35, 32, 101, 110, 100]⟩ w (by unfold maxLen; decide)
  rw [et1] at C1
  refine C1.mono ?_
  rintro e w1 ⟨v, rfl, hown, hb1⟩
  clear C1
  obtain ⟨q, cap, rfl, hS⟩ := tw_sl hown
  obtain ⟨b, o, rfl, _, _, _⟩ := hS 0 (by decide)
  obtain ⟨_, _, e6, a0, a1, a2⟩ := hS 6 (by decide)
  cases e6
  obtain ⟨_, _, e7, b0, b1, b2⟩ := hS 7 (by decide)
  cases e7
  clear hown
  change w1.cell? ⟨b, o + 18, none⟩ = some (.int .i64 3) at a0
  change w1.cell? ⟨b, o + 19, none⟩ = some (.int .i64 6) at a1
  change w1.cell? ⟨b, o + 20, none⟩ = some (.string ⟨#[60, 61]⟩) at a2
  change w1.cell? ⟨b, o + 21, none⟩ = some (.int .i64 2) at b0
  change w1.cell? ⟨b, o + 22, none⟩ = some (.int .i64 8) at b1
  change w1.cell? ⟨b, o + 23, none⟩ = some (.string ⟨#[48, 51]⟩) at b2
  have hlen : ex1.length = 8 := rfl
  have HS := Lib.hid hS
  simp only [hlen]
  clear hS hlen
  go_wp2_with fail
  have C2 := tokenize ⟨#[120, 32, 62]⟩ w1 (by unfold maxLen; decide)
  rw [et2] at C2
  refine C2.mono ?_
  rintro e w2 ⟨v2, rfl, hown2, hb2⟩
  have a0 := kpd hb2 a0
  have a1 := kpd hb2 a1
  have a2 := kpd hb2 a2
  have b0 := kpd hb2 b0
  have b1 := kpd hb2 b1
  have b2 := kpd hb2 b2
  have HS2 := Lib.hid (HS.out.keep hb2)
  have K2 := hb1.trans (hb2.mono hb1.size)
  clear C2 hown2 hb1 hb2 HS
  go_wp2_with fail
  have C3 := join (some ⟨b, o, none⟩) ex1 cap w2 (by unfold maxLen; decide) (by show (jk ex1 8).length ≤ _; rw [ej1]; decide) HS2
  have hl : ex1.length = 8 := rfl
  rw [hl, ej1] at C3
  refine C3.mono ?_
  rintro e w3 ⟨rfl, hb3⟩
  have K3 := K2.trans (hb3.mono K2.size)
  clear C3 hb3 HS2 hl
  go_wp2_with (first | (go_at_call 38; refine (CW.out _).mono ?_; rintro e w' ⟨rfl, rfl⟩) | (go_at_call 36; refine (CN.out _).mono ?_; rintro e w' ⟨rfl, rfl⟩))
  go_ret
  exact ⟨rfl, K3⟩
end Go.Proofs.Ytipeapjbodnagaa.Lx
