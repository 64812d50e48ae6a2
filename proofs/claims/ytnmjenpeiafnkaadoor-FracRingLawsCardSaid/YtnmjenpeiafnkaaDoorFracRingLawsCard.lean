/- For every three fractions, addition and multiplication of package frac are commutative, associative and distributive wherever no result is out of range, and Sub undoes Add (1.6): the row, and its tied card. -/
import Derived.Test.YtnmjenpeiafnkaaDoorRingI
import Derived.Test.YtnmjenpeiafnkaaDoorRingII
import Derived.Test.YtnmjenpeiafnkaaDoorRingIII
import Derived.Test.YtnmjenpeiafnkaaDoorRingMath
import Derived.Test.YtnmjenpeiafnkaaDoorSub
import Derived.Test.YtnmjenpeiafnkaaDoorCards
import Derived.Test.YtnmjenpeiafnkaaDoorTie
import Derived.Lib.SmallJoins
import Derived.ProofKit
import Derived.LaidMore
import Derived.OpenShut
import Derived.Stop.Joined
namespace Go.Proofs.YtnmjenpeiafnkaaDoor.fracRingLaws
open Go.ChangeShapes Go.WideShapes Go.ChangeAt Go.RowKit Go.Joins
set_option linter.unusedVariables false

theorem own : ownKnob Tryd.prog.godebug = none := by kernel_rfl
theorem cells23 : Tryd.prog.cellsOf 23 = 2 := by kernel_rfl
theorem door_met (os : Os) (args : Array Value) : laidMetH Tryd.prog Rows.fracRingLawsRow.laid ((World.doorLaid Tryd.prog 400 os).forCall (fun _ _ => 0) ⟨#[], args, []⟩).memory :=
  laidMetH_of_parts3 (fuel := 8) (laidMet_of_run' 8 (by kernel_rfl) (by kernel_rfl)) (by kernel_rfl) (by kernel_rfl)

theorem prod_bound {a b : Int} (h1 : -2147483647 ≤ a) (h2 : a ≤ 2147483647) (h3 : 0 ≤ b) (h4 : b ≤ 2147483647) : -4611686014132420609 ≤ a * b ∧ a * b ≤ 4611686014132420609 := by
  have e1 := Int.mul_le_mul_of_nonneg_right h2 h3
  have e2 := Int.mul_le_mul_of_nonneg_right h1 h3
  omega
theorem prod_bound2 {a b : Int} (h1 : -2147483647 ≤ a) (h2 : a ≤ 2147483647) (h3 : -2147483647 ≤ b) (h4 : b ≤ 2147483647) : -4611686014132420609 ≤ a * b ∧ a * b ≤ 4611686014132420609 := by
  by_cases h : 0 ≤ b
  · exact prod_bound h1 h2 h h4
  · have := prod_bound h1 h2 (b := -b) (by omega) (by omega)
    rw [Int.mul_neg] at this
    omega
theorem both_of {n1 d1 n2 d2 : Int} (h : Fr.both n1 d1 n2 d2 = true) : Fr.vld n1 d1 = true ∧ Fr.vld n2 d2 = true := by
  unfold Fr.both at h
  simpa using h
theorem both_swap (n1 d1 n2 d2 : Int) : Fr.both n1 d1 n2 d2 = Fr.both n2 d2 n1 d1 := by unfold Fr.both; exact Bool.and_comm _ _
/-- What Add returns, in whatever order the operands are handed. -/
theorem addx (n1 d1 n2 d2 : Int) : ∃ N D E, (∀ w, Calls Tryd.prog 17 #[.agg #[.int .i64 n1, .int .i64 d1], .agg #[.int .i64 n2, .int .i64 d2]] w (Fr.Ret (Fr.Frac3 N D E) w)) ∧
    (∀ w, Calls Tryd.prog 17 #[.agg #[.int .i64 n2, .int .i64 d2], .agg #[.int .i64 n1, .int .i64 d1]] w (Fr.Ret (Fr.Frac3 N D E) w)) ∧
    (Fr.both n1 d1 n2 d2 = true → N = Fr.newN (n1 * d2 + n2 * d1) (d1 * d2) ∧ D = Fr.newD (n1 * d2 + n2 * d1) (d1 * d2) ∧ E = Fr.newE (n1 * d2 + n2 * d1) (d1 * d2)) ∧
    (Fr.both n1 d1 n2 d2 = false → E = 1) := by
  by_cases h : Fr.both n1 d1 n2 d2 = true
  · obtain ⟨v1, v2⟩ := both_of h
    obtain ⟨x0, x1, x2, x3, _⟩ := Fr.vld_of v1
    obtain ⟨y0, y1, y2, y3, _⟩ := Fr.vld_of v2
    obtain ⟨a0, a1⟩ := prod_bound x2 x3 (b := d2) (by omega) y1
    obtain ⟨b0, b1⟩ := prod_bound y2 y3 (b := d1) (by omega) x1
    obtain ⟨c0, c1⟩ := prod_bound (a := d1) (b := d2) (by omega) x1 (by omega) y1
    have hs : Fr.both n2 d2 n1 d1 = true := by rw [both_swap]; exact h
    refine ⟨_, _, _, fun w => Fr.add_ok n1 d1 n2 d2 w h rfl rfl rfl a0 a1 b0 b1 c0 c1, fun w => ?_, fun _ => ⟨rfl, rfl, rfl⟩, fun h' => by rw [h] at h'; exact absurd h' (by decide)⟩
    have := Fr.add_ok n2 d2 n1 d1 w hs rfl rfl (Int.mul_comm d2 d1) b0 b1 a0 a1 c0 c1
    rwa [Int.add_comm (n2 * d1)] at this
  · have h : Fr.both n1 d1 n2 d2 = false := by simpa using h
    have hs : Fr.both n2 d2 n1 d1 = false := by rw [both_swap]; exact h
    exact ⟨0, 0, 1, fun w => Fr.add_bad n1 d1 n2 d2 w h, fun w => Fr.add_bad n2 d2 n1 d1 w hs, fun h' => by rw [h] at h'; exact absurd h' (by decide), fun _ => rfl⟩
theorem mulx (n1 d1 n2 d2 : Int) : ∃ N D E, (∀ w, Calls Tryd.prog 21 #[.agg #[.int .i64 n1, .int .i64 d1], .agg #[.int .i64 n2, .int .i64 d2]] w (Fr.Ret (Fr.Frac3 N D E) w)) ∧
    (∀ w, Calls Tryd.prog 21 #[.agg #[.int .i64 n2, .int .i64 d2], .agg #[.int .i64 n1, .int .i64 d1]] w (Fr.Ret (Fr.Frac3 N D E) w)) ∧
    (Fr.both n1 d1 n2 d2 = true → N = Fr.newN (n1 * n2) (d1 * d2) ∧ D = Fr.newD (n1 * n2) (d1 * d2) ∧ E = Fr.newE (n1 * n2) (d1 * d2)) ∧
    (Fr.both n1 d1 n2 d2 = false → E = 1) := by
  by_cases h : Fr.both n1 d1 n2 d2 = true
  · obtain ⟨v1, v2⟩ := both_of h
    obtain ⟨x0, x1, x2, x3, _⟩ := Fr.vld_of v1
    obtain ⟨y0, y1, y2, y3, _⟩ := Fr.vld_of v2
    obtain ⟨a0, a1⟩ := prod_bound2 x2 x3 y2 y3
    obtain ⟨c0, c1⟩ := prod_bound (a := d1) (b := d2) (by omega) x1 (by omega) y1
    have hs : Fr.both n2 d2 n1 d1 = true := by rw [both_swap]; exact h
    exact ⟨_, _, _, fun w => Fr.mul_ok n1 d1 n2 d2 w h rfl rfl a0 a1 c0 c1, fun w => Fr.mul_ok n2 d2 n1 d1 w hs (Int.mul_comm n2 n1) (Int.mul_comm d2 d1) a0 a1 c0 c1, fun _ => ⟨rfl, rfl, rfl⟩, fun h' => by rw [h] at h'; exact absurd h' (by decide)⟩
  · have h : Fr.both n1 d1 n2 d2 = false := by simpa using h
    have hs : Fr.both n2 d2 n1 d1 = false := by rw [both_swap]; exact h
    exact ⟨0, 0, 1, fun w => Fr.mul_bad n1 d1 n2 d2 w h, fun w => Fr.mul_bad n2 d2 n1 d1 w hs, fun h' => by rw [h] at h'; exact absurd h' (by decide), fun _ => rfl⟩
/-- Where the error is none: the operands and the result are valid, and the result is the quotient. -/
theorem good {n1 d1 n2 d2 N D E X Y : Int} (hb : Fr.both n1 d1 n2 d2 = true → N = Fr.newN X Y ∧ D = Fr.newD X Y ∧ E = Fr.newE X Y) (hf : Fr.both n1 d1 n2 d2 = false → E = 1) (hE : E = 0) (hY : Y = d1 * d2) :
    Fr.vld n1 d1 = true ∧ Fr.vld n2 d2 = true ∧ Fr.vld N D = true ∧ N * Y = X * D := by
  by_cases h : Fr.both n1 d1 n2 d2 = true
  · obtain ⟨v1, v2⟩ := both_of h
    obtain ⟨e1, e2, e3⟩ := hb h
    obtain ⟨x0, _⟩ := Fr.vld_of v1
    obtain ⟨y0, _⟩ := Fr.vld_of v2
    have hYp : 0 < Y := by rw [hY]; exact Int.mul_pos (by omega) (by omega)
    have he : Fr.newE X Y = 0 := by rw [← e3]; exact hE
    have h1 := Fr.new_valid X Y he
    have h2 := Fr.new_red X Y hYp he
    rw [← e1, ← e2] at h1 h2
    exact ⟨v1, v2, h1, h2⟩
  · have := hf (by simpa using h)
    omega
theorem walk (n1 d1 n2 d2 n3 d3 : Int) (w : World) (hn1 : -9223372036854775808 ≤ n1 ∧ n1 ≤ 9223372036854775807) (hd1 : -9223372036854775808 ≤ d1 ∧ d1 ≤ 9223372036854775807) (hn2 : -9223372036854775808 ≤ n2 ∧ n2 ≤ 9223372036854775807) (hd2 : -9223372036854775808 ≤ d2 ∧ d2 ≤ 9223372036854775807) (hn3 : -9223372036854775808 ≤ n3 ∧ n3 ≤ 9223372036854775807) (hd3 : -9223372036854775808 ≤ d3 ∧ d3 ≤ 9223372036854775807) :
    Calls Tryd.prog 9 #[.agg #[.int .i64 n1, .int .i64 d1], .agg #[.int .i64 n2, .int .i64 d2], .agg #[.int .i64 n3, .int .i64 d3]] w fun e w' => e = .returned (.bool true) ∧ Below w.heap.size w w' := by
  have EX := fun w => Fr.examples_true w
  obtain ⟨sN, sD, sE, A1, A2, ash, asf⟩ := addx n1 d1 n2 d2
  obtain ⟨pN, pD, pE, M1, M2, psh, psf⟩ := mulx n1 d1 n2 d2
  obtain ⟨tN, tD, tE, BC, _, tsh, tsf⟩ := addx n2 d2 n3 d3
  obtain ⟨rN, rD, rE, AC, _, rsh, rsf⟩ := mulx n1 d1 n3 d3
  by_cases hs : sE = 0
  · obtain ⟨v1, v2, vs, es⟩ := good ash asf hs rfl
    subst hs
    obtain ⟨x0, x1, x2, x3, _⟩ := Fr.vld_of v1
    obtain ⟨y0, y1, y2, y3, _⟩ := Fr.vld_of v2
    obtain ⟨s0, s1, s2, s3, _⟩ := Fr.vld_of vs
    have SB : ∀ w, Calls Tryd.prog 19 #[.agg #[.int .i64 sN, .int .i64 sD], .agg #[.int .i64 n2, .int .i64 d2]] w (Fr.Ret (Fr.Frac3 n1 d1 0) w) := by
      intro w
      have vm : Fr.vld (-n2) d2 = true := by rw [Fr.vld_neg]; exact v2
      have hb : Fr.both sN sD (-n2) d2 = true := by unfold Fr.both; rw [vs, vm]; rfl
      obtain ⟨a0, a1⟩ := prod_bound s2 s3 (b := d2) (by omega) y1
      obtain ⟨b0, b1⟩ := prod_bound (a := -n2) (by omega) (by omega) (b := sD) (by omega) s1
      obtain ⟨c0, c1⟩ := prod_bound (a := sD) (b := d2) (by omega) s1 (by omega) y1
      obtain ⟨e1, e2, e3⟩ := Fr.new_back (sN * d2 + (-n2) * sD) (sD * d2) n1 d1 (Int.mul_pos (by omega) (by omega)) v1 (by
        have h1 : d2 * ((sN * d2 + -n2 * sD) * d1) = d2 * (n1 * (sD * d2)) := by grind
        exact Int.eq_of_mul_eq_mul_left (by omega) h1)
      have AD := Fr.add_ok sN sD (-n2) d2 (hA := rfl) (hB := rfl) (hC := rfl) (h := hb) (p0 := a0) (p1 := a1) (q0 := b0) (q1 := b1) (r0 := c0) (r1 := c1)
      rw [e1, e2, e3] at AD
      exact Fr.sub_any sN sD n2 d2 n1 d1 0 (-n2) w (by unfold wrap64; omega) (Lib.hid fun w => AD w)
    by_cases hz : pE ≠ 0 ∨ tE ≠ 0 ∨ rE ≠ 0
    · exact Fr.ring_II n1 d1 n2 d2 n3 d3 sN sD pN pD pE tN tD tE rN rD rE w hz (Lib.hid A1) (Lib.hid A2) (Lib.hid M1) (Lib.hid M2) (Lib.hid SB) (Lib.hid BC) (Lib.hid AC) (Lib.hid EX)
    · obtain rfl : pE = 0 := by omega
      obtain rfl : tE = 0 := by omega
      obtain rfl : rE = 0 := by omega
      obtain ⟨_, _, vp, ep⟩ := good psh psf rfl rfl
      obtain ⟨_, v3, vt, et⟩ := good tsh tsf rfl rfl
      obtain ⟨_, _, vr, er⟩ := good rsh rsf rfl rfl
      obtain ⟨z0, z1, z2, z3, _⟩ := Fr.vld_of v3
      obtain ⟨t0, t1, t2, t3, _⟩ := Fr.vld_of vt
      obtain ⟨p0, p1, p2, p3, _⟩ := Fr.vld_of vp
      obtain ⟨r0, r1, r2, r3, _⟩ := Fr.vld_of vr
      obtain ⟨lN, lD, lE, LF, _, lsh, lsf⟩ := addx sN sD n3 d3
      obtain ⟨kN, kD, kE, RT, _, ksh, ksf⟩ := addx n1 d1 tN tD
      obtain ⟨mN, mD, mE, MM, _, msh, msf⟩ := mulx n1 d1 tN tD
      obtain ⟨oN, oD, oE, OO, _, osh, osf⟩ := addx pN pD rN rD
      obtain ⟨l1, l2, l3⟩ := lsh (by unfold Fr.both; rw [vs, v3]; rfl)
      obtain ⟨k1, k2, k3⟩ := ksh (by unfold Fr.both; rw [v1, vt]; rfl)
      obtain ⟨m1, m2, m3⟩ := msh (by unfold Fr.both; rw [v1, vt]; rfl)
      obtain ⟨o1, o2, o3⟩ := osh (by unfold Fr.both; rw [vp, vr]; rfl)
      have hd12 : 0 < d1 * d2 := Int.mul_pos (by omega) (by omega)
      have hd23 : 0 < d2 * d3 := Int.mul_pos (by omega) (by omega)
      have hd13 : 0 < d1 * d3 := Int.mul_pos (by omega) (by omega)
      obtain ⟨q1, q2, q3⟩ := Fr.new_same (sN * d3 + n3 * sD) (sD * d3) (n1 * tD + tN * d1) (d1 * tD) (Int.mul_pos (by omega) (by omega)) (Int.mul_pos (by omega) (by omega)) (by
        have h1 : d1 * d2 * (d2 * d3) * ((sN * d3 + n3 * sD) * (d1 * tD)) = d1 * d2 * (d2 * d3) * ((n1 * tD + tN * d1) * (sD * d3)) := by grind
        exact Int.eq_of_mul_eq_mul_left (by have := Int.mul_pos hd12 hd23; omega) h1)
      obtain ⟨w1, w2, w3⟩ := Fr.new_same (n1 * tN) (d1 * tD) (pN * rD + rN * pD) (pD * rD) (Int.mul_pos (by omega) (by omega)) (Int.mul_pos (by omega) (by omega)) (by
        have h1 : d1 * d2 * (d2 * d3) * (d1 * d3) * ((n1 * tN) * (pD * rD)) = d1 * d2 * (d2 * d3) * (d1 * d3) * ((pN * rD + rN * pD) * (d1 * tD)) := by grind
        exact Int.eq_of_mul_eq_mul_left (by have := Int.mul_pos (Int.mul_pos hd12 hd23) hd13; omega) h1)
      obtain rfl : kN = lN := by rw [k1, l1, q1]
      obtain rfl : kD = lD := by rw [k2, l2, q2]
      obtain rfl : kE = lE := by rw [k3, l3, q3]
      obtain rfl : oN = mN := by rw [o1, m1, w1]
      obtain rfl : oD = mD := by rw [o2, m2, w2]
      obtain rfl : oE = mE := by rw [o3, m3, w3]
      exact Fr.ring_III n1 d1 n2 d2 n3 d3 sN sD pN pD tN tD rN rD _ _ _ _ _ _ w (Lib.hid A1) (Lib.hid A2) (Lib.hid M1) (Lib.hid M2) (Lib.hid SB) (Lib.hid BC) (Lib.hid AC) (Lib.hid LF) (Lib.hid RT) (Lib.hid MM) (Lib.hid OO) (Lib.hid EX)
  · exact Fr.ring_I n1 d1 n2 d2 n3 d3 sN sD sE pN pD pE tN tD tE rN rD rE w (by simpa using hs) (by simpa using hs) (Lib.hid A1) (Lib.hid A2) (Lib.hid M1) (Lib.hid M2) (Lib.hid BC) (Lib.hid AC) (Lib.hid EX)

set_option maxRecDepth 100000 in
theorem lifted (os : Os) (started : os.Started) (H : Type) (enc : TypeId × Value → H) :
    ReturnsInHanded {} Tryd.checked os 9 .any (fun w args => (Rows.fracRingLawsSpec.pre enc Tryd.prog Tryd.f9 [] false w args ∧ laidMetH Tryd.prog Rows.fracRingLawsRow.laid w) ∧ sizedMet enc Tryd.prog Tryd.f9 (OpenSpec.ofChange Rows.fracRingLawsSpec) false w args)
      (Rows.fracRingLawsSpec.post enc Tryd.prog Tryd.f9 false true false false) := by
  refine returnsInHanded_of_change_and (C := Tryd.checked) (X := fun w _ => laidMetH Tryd.prog Rows.fracRingLawsRow.laid w) (fun _ _ _ hh h => h.of_heap hh) own started (by kernel_rfl) Tryd.func9
    (ChangeSpec.witness_shaped (enc := enc) (C := Tryd.checked) (os := os) (X := fun w _ => laidMetH Tryd.prog Rows.fracRingLawsRow.laid w) false (World.doorLaid Tryd.prog 400 os) #[.agg #[.int .i64 0, .int .i64 0], .agg #[.int .i64 0, .int .i64 0], .agg #[.int .i64 0, .int .i64 0]] 8 rfl (World.shaped_of_RefB (by kernel_rfl) (by kernel_rfl)) (by kernel_rfl) (by kernel_rfl) (by kernel_rfl) (door_met os _)) ?_
  intro W base args ds gs before hval0 hW _ _ hL _
  have hval : ∀ (j : Nat) t v, Tryd.f9.params[j]? = some t → args[j]? = some v → Value.okWide Tryd.prog W .any base t v := hval0
  have hW' := hW
  obtain ⟨p, q, hA0, hV, rfl, hfz, hnd⟩ := hW
  have hA : DataW.TrodAll enc Tryd.prog W 0 (fun _ => true) true Tryd.f9.params.toList args.toList ds p := hA0
  rw [Tryd.params9] at hA hval
  obtain ⟨v0, vs0, d0, ds0, p0, q0, hargs, rfl, rfl, h0, r0⟩ := trodAll_cons hA
  obtain ⟨v1, vs1, d1, ds1, p1, q1, rfl, rfl, rfl, h1, r1⟩ := trodAll_cons r0
  obtain ⟨v2, vs2, d2, ds2, p2, q2, rfl, rfl, rfl, h2, r2⟩ := trodAll_cons r1
  obtain ⟨rfl, rfl, rfl⟩ := trodAll_nil r2
  obtain rfl : args = #[v0, v1, v2] := by cases args; simp_all
  obtain ⟨rfl, rfl⟩ := trodVars_none hV
  obtain ⟨c0a, c0b, y0a, y0b, m0, rfl, rfl, rfl, hy0a, hy0b⟩ := open_agg2 Tryd.underlying23 (by kernel_rfl) cells23 (hval 0 23 v0 rfl rfl) h0
  obtain ⟨a0, e0a, rfl, wa0⟩ := DataW.trod_int Tryd.underlying2 hy0a
  obtain ⟨b0, e0b, rfl, wb0⟩ := DataW.trod_int Tryd.underlying2 hy0b
  simp at e0a e0b
  subst e0a e0b
  have read0 : ∀ (W' : World) (sp : Nat → Bool), DataW.Trod enc Tryd.prog W' 0 sp true 23 (.agg #[.int .i64 a0, .int .i64 b0]) (.agg [.lit (.int .i64 a0), .lit (.int .i64 b0)]) [] := fun W' sp =>
    shut_agg2 (y0 := (.lit (.int .i64 a0), [])) (y1 := (.lit (.int .i64 b0), [])) Tryd.underlying23 (by kernel_rfl) cells23 ⟨1, by simp [DataW.trod, Tryd.underlying2, wa0]⟩ ⟨1, by simp [DataW.trod, Tryd.underlying2, wb0]⟩
  obtain ⟨c1a, c1b, y1a, y1b, m1, rfl, rfl, rfl, hy1a, hy1b⟩ := open_agg2 Tryd.underlying23 (by kernel_rfl) cells23 (hval 1 23 v1 rfl rfl) h1
  obtain ⟨a1, e1a, rfl, wa1⟩ := DataW.trod_int Tryd.underlying2 hy1a
  obtain ⟨b1, e1b, rfl, wb1⟩ := DataW.trod_int Tryd.underlying2 hy1b
  simp at e1a e1b
  subst e1a e1b
  have read1 : ∀ (W' : World) (sp : Nat → Bool), DataW.Trod enc Tryd.prog W' 0 sp true 23 (.agg #[.int .i64 a1, .int .i64 b1]) (.agg [.lit (.int .i64 a1), .lit (.int .i64 b1)]) [] := fun W' sp =>
    shut_agg2 (y0 := (.lit (.int .i64 a1), [])) (y1 := (.lit (.int .i64 b1), [])) Tryd.underlying23 (by kernel_rfl) cells23 ⟨1, by simp [DataW.trod, Tryd.underlying2, wa1]⟩ ⟨1, by simp [DataW.trod, Tryd.underlying2, wb1]⟩
  obtain ⟨c2a, c2b, y2a, y2b, m2, rfl, rfl, rfl, hy2a, hy2b⟩ := open_agg2 Tryd.underlying23 (by kernel_rfl) cells23 (hval 2 23 v2 rfl rfl) h2
  obtain ⟨a2, e2a, rfl, wa2⟩ := DataW.trod_int Tryd.underlying2 hy2a
  obtain ⟨b2, e2b, rfl, wb2⟩ := DataW.trod_int Tryd.underlying2 hy2b
  simp at e2a e2b
  subst e2a e2b
  have read2 : ∀ (W' : World) (sp : Nat → Bool), DataW.Trod enc Tryd.prog W' 0 sp true 23 (.agg #[.int .i64 a2, .int .i64 b2]) (.agg [.lit (.int .i64 a2), .lit (.int .i64 b2)]) [] := fun W' sp =>
    shut_agg2 (y0 := (.lit (.int .i64 a2), [])) (y1 := (.lit (.int .i64 b2), [])) Tryd.underlying23 (by kernel_rfl) cells23 ⟨1, by simp [DataW.trod, Tryd.underlying2, wa2]⟩ ⟨1, by simp [DataW.trod, Tryd.underlying2, wb2]⟩
  clear hA0 hval0
  simp only [List.append_nil] at hW'
  refine (walk a0 b0 a1 b1 a2 b2 W (bounds_i64 wa0) (bounds_i64 wb0) (bounds_i64 wa1) (bounds_i64 wb1) (bounds_i64 wa2) (bounds_i64 wb2)).mono fun e W' ⟨he, bel⟩ => ?_
  subst he
  exact ⟨_, rfl, _, _, _, [], _, [], hW', trodAll_mk1 (shut_bool Tryd.underlying4 _), (trodAll_cons_mk (read0 _ _) (trodAll_cons_mk (read1 _ _) (trodAll_cons_mk (read2 _ _) trodAll_mk0))), rfl, bel.frame _, fun h => by cases h⟩

theorem row_holds : Rows.FracRingLawsSaid :=
  OpenClaim.holds_of_wide 9 Tryd.f9 rfl rfl rfl rfl rfl rfl rfl ⟨rfl, rfl, rfl, rfl, rfl⟩ rfl rfl rfl rfl rfl (by kernel_rfl) Tryd.func9 (by kernel_rfl)
    (of_decide_eq_true (by kernel_rfl)) (by unfold Func.isWrapper; first | (rw [if_pos (by decide +kernel)]; kernel_rfl) | (rw [if_neg (by decide +kernel)]; exact ⟨rfl, rfl⟩))
    (fun os started H enc _ => lifted os started H enc)

theorem proved : Rows.FracRingLawsCardSaid :=
  Claim7.holds_tied_plain_at .later [] [.data, .data, .data, .sentinel, .sentinel] true (true, "f9d0ccb4549076a1d8e0d532d515793d309ee8a3411979589464eb9b89725db3") true
    row_holds (fun _ h => by cases h) (by kernel_rfl) (fun _ h => by cases h) fracRingLaws_row_tie rfl ⟨rfl, rfl⟩ (by kernel_rfl) rfl
    (fun f fn hf hfn => by
      obtain rfl : f = 9 := Option.some.inj ((show Tryd.prog.funcNamed "brocade/brocadelaw01.FracRingLaws" = some 9 by kernel_rfl).symm.trans hf) |>.symm
      obtain rfl : fn = Tryd.f9 := (Option.some.inj (Tryd.func9.symm.trans hfn)).symm
      exact ⟨by kernel_rfl, fun j t ht => by
        rw [Tryd.params9] at ht
        have h3 : t = 2 ∨ t = 23 := by
          rcases j with _ | _ | _ | j
          · simp at ht; first | exact .inl ht.symm | exact .inr ht.symm
          · simp at ht; first | exact .inl ht.symm | exact .inr ht.symm
          · simp at ht; first | exact .inl ht.symm | exact .inr ht.symm
          · simp at ht
        rcases h3 with rfl | rfl
        · exact (show Tryd.prog.wantsStandIn 2 = false by kernel_rfl)
        · exact (show Tryd.prog.wantsStandIn 23 = false by kernel_rfl)⟩)
    (by kernel_rfl)
#print axioms proved
end Go.Proofs.YtnmjenpeiafnkaaDoor.fracRingLaws
