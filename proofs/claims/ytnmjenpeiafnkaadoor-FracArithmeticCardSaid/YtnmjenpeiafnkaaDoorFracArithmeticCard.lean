/- For every two fractions, Add, Sub, Mul, Div and Neg of package frac return what the reference returns (1.2): the row, and its tied card. -/
import Derived.Test.YtnmjenpeiafnkaaDoorFracArith
import Derived.Test.YtnmjenpeiafnkaaDoorSub
import Derived.Test.YtnmjenpeiafnkaaDoorOpsr
import Derived.Test.YtnmjenpeiafnkaaDoorCards
import Derived.Test.YtnmjenpeiafnkaaDoorTie
import Derived.Lib.SmallJoins
import Derived.ProofKit
import Derived.LaidMore
import Derived.OpenShut
import Derived.Stop.Joined
namespace Go.Proofs.YtnmjenpeiafnkaaDoor.fracArithmetic
open Go.ChangeShapes Go.WideShapes Go.ChangeAt Go.RowKit Go.Joins
set_option linter.unusedVariables false

theorem own : ownKnob Tryd.prog.godebug = none := by kernel_rfl
theorem cells23 : Tryd.prog.cellsOf 23 = 2 := by kernel_rfl
theorem door_met (os : Os) (args : Array Value) : laidMetH Tryd.prog Rows.fracArithmeticRow.laid ((World.doorLaid Tryd.prog 400 os).forCall (fun _ _ => 0) ⟨#[], args, []⟩).memory :=
  laidMetH_of_parts3 (fuel := 8) (laidMet_of_run' 8 (by kernel_rfl) (by kernel_rfl)) (by kernel_rfl) (by kernel_rfl)

theorem prod_bound {a b : Int} (h1 : -2147483647 ≤ a) (h2 : a ≤ 2147483647) (h3 : 0 ≤ b) (h4 : b ≤ 2147483647) : -4611686014132420609 ≤ a * b ∧ a * b ≤ 4611686014132420609 := by
  have e1 := Int.mul_le_mul_of_nonneg_right h2 h3
  have e2 := Int.mul_le_mul_of_nonneg_right h1 h3
  omega
theorem prod_bound2 {a b : Int} (h1 : -2147483647 ≤ a) (h2 : a ≤ 2147483647) (h3 : -2147483647 ≤ b) (h4 : b ≤ 2147483647) : -4611686014132420609 ≤ a * b ∧ a * b ≤ 4611686014132420609 := by
  by_cases h : 0 ≤ b
  · exact prod_bound h1 h2 h h4
  · have := prod_bound h1 h2 (b := -b) (by omega) (by omega)
    rw [Int.mul_neg] at this
    omega
theorem walk (n1 d1 n2 d2 : Int) (w : World) (hn : -9223372036854775808 ≤ n1 ∧ n1 ≤ 9223372036854775807) (hd : -9223372036854775808 ≤ d1 ∧ d1 ≤ 9223372036854775807) (hp : -9223372036854775808 ≤ n2 ∧ n2 ≤ 9223372036854775807) (hq : -9223372036854775808 ≤ d2 ∧ d2 ≤ 9223372036854775807) :
    Calls Tryd.prog 4 #[.agg #[.int .i64 n1, .int .i64 d1], .agg #[.int .i64 n2, .int .i64 d2]] w fun e w' => e = .returned (.bool true) ∧ Below w.heap.size w w' := by
  obtain ⟨m, hm, hv⟩ : ∃ m, wrap64 (-n2) = m ∧ (m = -n2 ∨ (n2 = -9223372036854775808 ∧ m = n2)) := by
    refine ⟨_, rfl, ?_⟩
    by_cases h : n2 = -9223372036854775808
    · right; subst h; exact ⟨rfl, by unfold wrap64; omega⟩
    · left; unfold wrap64; omega
  have hvm : Fr.vld m d2 = Fr.vld n2 d2 := by
    rcases hv with rfl | ⟨_, rfl⟩
    · exact Fr.vld_neg n2 d2
    · rfl
  by_cases h : Fr.both n1 d1 n2 d2 = true
  · have h' := h
    unfold Fr.both at h'
    simp only [Bool.and_eq_true] at h'
    obtain ⟨v1, v2⟩ := h'
    obtain ⟨x0, x1, x2, x3, _⟩ := Fr.vld_of v1
    obtain ⟨y0, y1, y2, y3, _⟩ := Fr.vld_of v2
    have hmn : m = -n2 := by omega
    subst hmn
    have hb : Fr.both n1 d1 (-n2) d2 = true := by unfold Fr.both; rw [hvm]; exact h
    obtain ⟨a0, a1⟩ := prod_bound x2 x3 (b := d2) (by omega) y1
    obtain ⟨b0, b1⟩ := prod_bound y2 y3 (b := d1) (by omega) x1
    obtain ⟨c0, c1⟩ := prod_bound (a := d1) (b := d2) (by omega) x1 (by omega) y1
    obtain ⟨m0, m1⟩ := prod_bound2 x2 x3 y2 y3
    obtain ⟨e0, e1⟩ := prod_bound2 (a := d1) (b := n2) (by omega) x1 y2 y3
    have hneg : (-n2) * d1 = -(n2 * d1) := Int.neg_mul _ _
    have S1 := fun w => Fr.sub_any n1 d1 n2 d2 _ _ _ _ w hm (Lib.hid fun w => Fr.add_ok n1 d1 (-n2) d2 w hb rfl hneg rfl a0 a1 (by omega) (by omega) c0 c1)
    rw [← Int.sub_eq_add_neg] at S1
    exact Fr.law_arith n1 d1 n2 d2 _ _ _ _ _ _ _ _ _ _ _ _ _ _ w
      (Lib.hid fun w => Fr.add_ok n1 d1 n2 d2 w h rfl rfl rfl a0 a1 b0 b1 c0 c1) (Lib.hid fun w => Fr.radd_ok n1 d1 n2 d2 w h rfl rfl rfl a0 a1 b0 b1 c0 c1)
      (Lib.hid S1) (Lib.hid fun w => Fr.rsub_ok n1 d1 n2 d2 w h rfl rfl rfl a0 a1 b0 b1 c0 c1)
      (Lib.hid fun w => Fr.mul_ok n1 d1 n2 d2 w h rfl rfl m0 m1 c0 c1) (Lib.hid fun w => Fr.rmul_ok n1 d1 n2 d2 w h rfl rfl m0 m1 c0 c1)
      (Lib.hid fun w => Fr.div_ok n1 d1 n2 d2 w h rfl rfl a0 a1 e0 e1) (Lib.hid fun w => Fr.rdiv_ok n1 d1 n2 d2 w h rfl rfl a0 a1 e0 e1)
      (Lib.hid fun w => Fr.neg_any n1 d1 w) (Lib.hid fun w => Fr.rneg_any n1 d1 w) (Lib.hid fun w => Fr.examples_true w)
  · have h : Fr.both n1 d1 n2 d2 = false := by simpa using h
    have hb : Fr.both n1 d1 m d2 = false := by unfold Fr.both; rw [hvm]; exact h
    exact Fr.law_arith n1 d1 n2 d2 _ _ _ _ _ _ _ _ _ _ _ _ _ _ w
      (Lib.hid fun w => Fr.add_bad n1 d1 n2 d2 w h) (Lib.hid fun w => Fr.radd_bad n1 d1 n2 d2 w h)
      (Lib.hid fun w => Fr.sub_any n1 d1 n2 d2 _ _ _ m w hm (Lib.hid fun w => Fr.add_bad n1 d1 m d2 w hb)) (Lib.hid fun w => Fr.rsub_bad n1 d1 n2 d2 w h)
      (Lib.hid fun w => Fr.mul_bad n1 d1 n2 d2 w h) (Lib.hid fun w => Fr.rmul_bad n1 d1 n2 d2 w h)
      (Lib.hid fun w => Fr.div_bad n1 d1 n2 d2 w h) (Lib.hid fun w => Fr.rdiv_bad n1 d1 n2 d2 w h)
      (Lib.hid fun w => Fr.neg_any n1 d1 w) (Lib.hid fun w => Fr.rneg_any n1 d1 w) (Lib.hid fun w => Fr.examples_true w)

set_option maxRecDepth 100000 in
theorem lifted (os : Os) (started : os.Started) (H : Type) (enc : TypeId × Value → H) :
    ReturnsInHanded {} Tryd.checked os 4 .any (fun w args => (Rows.fracArithmeticSpec.pre enc Tryd.prog Tryd.f4 [] false w args ∧ laidMetH Tryd.prog Rows.fracArithmeticRow.laid w) ∧ sizedMet enc Tryd.prog Tryd.f4 (OpenSpec.ofChange Rows.fracArithmeticSpec) false w args)
      (Rows.fracArithmeticSpec.post enc Tryd.prog Tryd.f4 false true false false) := by
  refine returnsInHanded_of_change_and (C := Tryd.checked) (X := fun w _ => laidMetH Tryd.prog Rows.fracArithmeticRow.laid w) (fun _ _ _ hh h => h.of_heap hh) own started (by kernel_rfl) Tryd.func4
    (ChangeSpec.witness_shaped (enc := enc) (C := Tryd.checked) (os := os) (X := fun w _ => laidMetH Tryd.prog Rows.fracArithmeticRow.laid w) false (World.doorLaid Tryd.prog 400 os) #[.agg #[.int .i64 0, .int .i64 0], .agg #[.int .i64 0, .int .i64 0]] 8 rfl (World.shaped_of_RefB (by kernel_rfl) (by kernel_rfl)) (by kernel_rfl) (by kernel_rfl) (by kernel_rfl) (door_met os _)) ?_
  intro W base args ds gs before hval0 hW _ _ hL _
  have hval : ∀ (j : Nat) t v, Tryd.f4.params[j]? = some t → args[j]? = some v → Value.okWide Tryd.prog W .any base t v := hval0
  have hW' := hW
  obtain ⟨p, q, hA0, hV, rfl, hfz, hnd⟩ := hW
  have hA : DataW.TrodAll enc Tryd.prog W 0 (fun _ => true) true Tryd.f4.params.toList args.toList ds p := hA0
  rw [Tryd.params4] at hA hval
  obtain ⟨v0, vs0, d0, ds0, p0, q0, hargs, rfl, rfl, h0, r0⟩ := trodAll_cons hA
  obtain ⟨v1, vs1, d1, ds1, p1, q1, rfl, rfl, rfl, h1, r1⟩ := trodAll_cons r0
  obtain ⟨rfl, rfl, rfl⟩ := trodAll_nil r1
  obtain rfl : args = #[v0, v1] := by cases args; simp_all
  obtain ⟨rfl, rfl⟩ := trodVars_none hV
  obtain ⟨c0a, c0b, y0a, y0b, m0, rfl, rfl, rfl, hy0a, hy0b⟩ := open_agg2 Tryd.underlying23 (by kernel_rfl) cells23 (hval 0 23 v0 rfl rfl) h0
  obtain ⟨a0, e0a, rfl, wa0⟩ := DataW.trod_int Tryd.underlying2 hy0a
  obtain ⟨b0, e0b, rfl, wb0⟩ := DataW.trod_int Tryd.underlying2 hy0b
  simp at e0a e0b
  subst e0a e0b
  have read0 : ∀ (W' : World) (sp : Nat → Bool), DataW.Trod enc Tryd.prog W' 0 sp true 23 (.agg #[.int .i64 a0, .int .i64 b0]) (.agg [.lit (.int .i64 a0), .lit (.int .i64 b0)]) [] := fun W' sp =>
    shut_agg2 (y0 := (.lit (.int .i64 a0), [])) (y1 := (.lit (.int .i64 b0), [])) Tryd.underlying23 (by kernel_rfl) cells23 ⟨1, by simp [DataW.trod, Tryd.underlying2, wa0]⟩ ⟨1, by simp [DataW.trod, Tryd.underlying2, wb0]⟩
  obtain ⟨c1a, c1b, y1a, y1b, m1, rfl, rfl, rfl, hy1a, hy1b⟩ := open_agg2 Tryd.underlying23 (by kernel_rfl) cells23 (hval 1 23 v1 rfl rfl) h1
  obtain ⟨a1, e1a, rfl, wa1⟩ := DataW.trod_int Tryd.underlying2 hy1a
  obtain ⟨b1, e1b, rfl, wb1⟩ := DataW.trod_int Tryd.underlying2 hy1b
  simp at e1a e1b
  subst e1a e1b
  have read1 : ∀ (W' : World) (sp : Nat → Bool), DataW.Trod enc Tryd.prog W' 0 sp true 23 (.agg #[.int .i64 a1, .int .i64 b1]) (.agg [.lit (.int .i64 a1), .lit (.int .i64 b1)]) [] := fun W' sp =>
    shut_agg2 (y0 := (.lit (.int .i64 a1), [])) (y1 := (.lit (.int .i64 b1), [])) Tryd.underlying23 (by kernel_rfl) cells23 ⟨1, by simp [DataW.trod, Tryd.underlying2, wa1]⟩ ⟨1, by simp [DataW.trod, Tryd.underlying2, wb1]⟩
  clear hA0 hval0
  simp only [List.append_nil] at hW'
  refine (walk a0 b0 a1 b1 W (bounds_i64 wa0) (bounds_i64 wb0) (bounds_i64 wa1) (bounds_i64 wb1)).mono fun e W' ⟨he, bel⟩ => ?_
  subst he
  exact ⟨_, rfl, _, _, _, [], _, [], hW', trodAll_mk1 (shut_bool Tryd.underlying4 _), (trodAll_cons_mk (read0 _ _) (trodAll_cons_mk (read1 _ _) trodAll_mk0)), rfl, bel.frame _, fun h => by cases h⟩

theorem row_holds : Rows.FracArithmeticSaid :=
  OpenClaim.holds_of_wide 4 Tryd.f4 rfl rfl rfl rfl rfl rfl rfl ⟨rfl, rfl, rfl, rfl, rfl⟩ rfl rfl rfl rfl rfl (by kernel_rfl) Tryd.func4 (by kernel_rfl)
    (of_decide_eq_true (by kernel_rfl)) (by unfold Func.isWrapper; first | (rw [if_pos (by decide +kernel)]; kernel_rfl) | (rw [if_neg (by decide +kernel)]; exact ⟨rfl, rfl⟩))
    (fun os started H enc _ => lifted os started H enc)

theorem proved : Rows.FracArithmeticCardSaid :=
  Claim7.holds_tied_plain_at .later [] [.data, .data, .data, .sentinel, .sentinel] true (true, "f9d0ccb4549076a1d8e0d532d515793d309ee8a3411979589464eb9b89725db3") true
    row_holds (fun _ h => by cases h) (by kernel_rfl) (fun _ h => by cases h) fracArithmetic_row_tie rfl ⟨rfl, rfl⟩ (by kernel_rfl) rfl
    (fun f fn hf hfn => by
      obtain rfl : f = 4 := Option.some.inj ((show Tryd.prog.funcNamed "brocade/brocadelaw01.FracArithmetic" = some 4 by kernel_rfl).symm.trans hf) |>.symm
      obtain rfl : fn = Tryd.f4 := (Option.some.inj (Tryd.func4.symm.trans hfn)).symm
      exact ⟨by kernel_rfl, fun j t ht => by
        rw [Tryd.params4] at ht
        have h3 : t = 2 ∨ t = 23 := by
          rcases j with _ | _ | j
          · simp at ht; first | exact .inl ht.symm | exact .inr ht.symm
          · simp at ht; first | exact .inl ht.symm | exact .inr ht.symm
          · simp at ht
        rcases h3 with rfl | rfl
        · exact (show Tryd.prog.wantsStandIn 2 = false by kernel_rfl)
        · exact (show Tryd.prog.wantsStandIn 23 = false by kernel_rfl)⟩)
    (by kernel_rfl)
#print axioms proved
end Go.Proofs.YtnmjenpeiafnkaaDoor.fracArithmetic
