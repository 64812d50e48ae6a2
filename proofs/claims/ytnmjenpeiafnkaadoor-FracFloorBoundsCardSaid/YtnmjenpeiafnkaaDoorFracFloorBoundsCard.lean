/- For every fraction, Floor is the integer n with n <= a < n + 1, and Ceil is the negated Floor of the negated value (1.3): the row, and its tied card. -/
import Derived.Test.YtnmjenpeiafnkaaDoorFracFloor
import Derived.Test.YtnmjenpeiafnkaaDoorCards
import Derived.Test.YtnmjenpeiafnkaaDoorTie
import Derived.Lib.SmallJoins
import Derived.ProofKit
import Derived.LaidMore
import Derived.OpenShut
import Derived.Stop.Joined
namespace Go.Proofs.YtnmjenpeiafnkaaDoor.fracFloorBounds
open Go.ChangeShapes Go.WideShapes Go.ChangeAt Go.RowKit Go.Joins
set_option linter.unusedVariables false

theorem own : ownKnob Tryd.prog.godebug = none := by kernel_rfl
theorem cells23 : Tryd.prog.cellsOf 23 = 2 := by kernel_rfl
theorem door_met (os : Os) (args : Array Value) : laidMetH Tryd.prog Rows.fracFloorBoundsRow.laid ((World.doorLaid Tryd.prog 400 os).forCall (fun _ _ => 0) ⟨#[], args, []⟩).memory :=
  laidMetH_of_parts3 (fuel := 8) (laidMet_of_run' 8 (by kernel_rfl) (by kernel_rfl)) (by kernel_rfl) (by kernel_rfl)

theorem walk (n d : Int) (w : World) (hn : -9223372036854775808 ≤ n ∧ n ≤ 9223372036854775807) (hd : -9223372036854775808 ≤ d ∧ d ≤ 9223372036854775807) :
    Calls Tryd.prog 11 #[.agg #[.int .i64 n, .int .i64 d]] w fun e w' => e = .returned (.bool true) ∧ Below w.heap.size w w' := by
  obtain ⟨x, hx⟩ : ∃ x, Fr.vld n d = x := ⟨_, rfl⟩
  have V := fun w => Fr.valid_any n d w
  have FL := fun w => Fr.floor_any n d w
  have CE := fun w => Fr.ceil_any n d w
  rw [hx] at V
  cases x
  · have e1 : Fr.flo n d = 0 := by unfold Fr.flo; rw [hx]; rfl
    have e2 : Fr.cei n d = 0 := by unfold Fr.cei; rw [hx]; rfl
    rw [e1] at FL
    rw [e2] at CE
    exact Fr.law_floor_out n d w (Lib.hid V) (Lib.hid FL) (Lib.hid CE) (Lib.hid fun w => Fr.examples_true w)
  · obtain ⟨d0, d1, n0, n1, _⟩ := Fr.vld_of hx
    have e1 : Fr.flo n d = n / d := by unfold Fr.flo; rw [hx]; rfl
    have e2 : Fr.cei n d = -((-n) / d) := by unfold Fr.cei; rw [hx]; rfl
    have e3 : Fr.flo (-n) d = (-n) / d := by unfold Fr.flo; rw [Fr.vld_neg, hx]; rfl
    have e4 : Fr.ngN n d = -n := by unfold Fr.ngN; rw [hx]; rfl
    have e5 : Fr.ngD n d = d := by unfold Fr.ngD; rw [hx]; rfl
    have NG := fun w => Fr.neg_any n d w
    have FN := fun w => Fr.floor_any (-n) d w
    rw [e4, e5] at NG
    rw [e3] at FN
    rw [e1] at FL
    rw [e2] at CE
    have key : ∀ m : Int, -2147483647 ≤ m → m ≤ 2147483647 → m / d * d ≤ m ∧ m < (m / d + 1) * d ∧ m / d ≤ 2147483647 ∧ -2147483647 ≤ m / d := by
      intro m m0 m1
      have h1 := Int.ediv_mul_le m (by omega : d ≠ 0)
      have h2 := Int.lt_ediv_add_one_mul_self m (by omega : 0 < d)
      refine ⟨h1, h2, ?_, ?_⟩
      · have := Int.ediv_le_ediv (by omega : 0 < d) m1
        have h3 := Int.ediv_le_self d (by decide : (0 : Int) ≤ 2147483647)
        omega
      · have := Int.ediv_le_ediv (by omega : 0 < d) m0
        have h3 : -2147483647 ≤ -2147483647 / d := by
          apply Int.le_ediv_of_mul_le (by omega)
          have := Int.mul_le_mul_of_nonneg_left d0 (by decide : (0 : Int) ≤ 2147483647)
          omega
        omega
    obtain ⟨k1, k2, k3, k4⟩ := key n n0 n1
    obtain ⟨_, _, g3, g4⟩ := key (-n) (by omega) (by omega)
    have k5 : (n / d + 1) * d = n / d * d + d := by rw [Int.add_mul, Int.one_mul]
    refine Fr.law_floor_in n d _ _ _ _ w rfl rfl k4 k3 ?_ k1 k2 ?_ n0 n1 ?_ ?_ (Lib.hid V) (Lib.hid FL) (Lib.hid CE) (Lib.hid NG) (Lib.hid FN) (Lib.hid fun w => Fr.examples_true w)
    · rw [k5] at k2; omega
    · rw [k5]; omega
    · omega
    · omega

set_option maxRecDepth 100000 in
theorem lifted (os : Os) (started : os.Started) (H : Type) (enc : TypeId × Value → H) :
    ReturnsInHanded {} Tryd.checked os 11 .any (fun w args => (Rows.fracFloorBoundsSpec.pre enc Tryd.prog Tryd.f11 [] false w args ∧ laidMetH Tryd.prog Rows.fracFloorBoundsRow.laid w) ∧ sizedMet enc Tryd.prog Tryd.f11 (OpenSpec.ofChange Rows.fracFloorBoundsSpec) false w args)
      (Rows.fracFloorBoundsSpec.post enc Tryd.prog Tryd.f11 false true false false) := by
  refine returnsInHanded_of_change_and (C := Tryd.checked) (X := fun w _ => laidMetH Tryd.prog Rows.fracFloorBoundsRow.laid w) (fun _ _ _ hh h => h.of_heap hh) own started (by kernel_rfl) Tryd.func11
    (ChangeSpec.witness_shaped (enc := enc) (C := Tryd.checked) (os := os) (X := fun w _ => laidMetH Tryd.prog Rows.fracFloorBoundsRow.laid w) false (World.doorLaid Tryd.prog 400 os) #[.agg #[.int .i64 0, .int .i64 0]] 8 rfl (World.shaped_of_RefB (by kernel_rfl) (by kernel_rfl)) (by kernel_rfl) (by kernel_rfl) (by kernel_rfl) (door_met os _)) ?_
  intro W base args ds gs before hval0 hW _ _ hL _
  have hval : ∀ (j : Nat) t v, Tryd.f11.params[j]? = some t → args[j]? = some v → Value.okWide Tryd.prog W .any base t v := hval0
  have hW' := hW
  obtain ⟨p, q, hA0, hV, rfl, hfz, hnd⟩ := hW
  have hA : DataW.TrodAll enc Tryd.prog W 0 (fun _ => true) true Tryd.f11.params.toList args.toList ds p := hA0
  rw [Tryd.params11] at hA hval
  obtain ⟨v0, vs0, d0, ds0, p0, q0, hargs, rfl, rfl, h0, r0⟩ := trodAll_cons hA
  obtain ⟨rfl, rfl, rfl⟩ := trodAll_nil r0
  obtain rfl : args = #[v0] := by cases args; simp_all
  obtain ⟨rfl, rfl⟩ := trodVars_none hV
  obtain ⟨c0a, c0b, y0a, y0b, m0, rfl, rfl, rfl, hy0a, hy0b⟩ := open_agg2 Tryd.underlying23 (by kernel_rfl) cells23 (hval 0 23 v0 rfl rfl) h0
  obtain ⟨a0, e0a, rfl, wa0⟩ := DataW.trod_int Tryd.underlying2 hy0a
  obtain ⟨b0, e0b, rfl, wb0⟩ := DataW.trod_int Tryd.underlying2 hy0b
  simp at e0a e0b
  subst e0a e0b
  have read0 : ∀ (W' : World) (sp : Nat → Bool), DataW.Trod enc Tryd.prog W' 0 sp true 23 (.agg #[.int .i64 a0, .int .i64 b0]) (.agg [.lit (.int .i64 a0), .lit (.int .i64 b0)]) [] := fun W' sp =>
    shut_agg2 (y0 := (.lit (.int .i64 a0), [])) (y1 := (.lit (.int .i64 b0), [])) Tryd.underlying23 (by kernel_rfl) cells23 ⟨1, by simp [DataW.trod, Tryd.underlying2, wa0]⟩ ⟨1, by simp [DataW.trod, Tryd.underlying2, wb0]⟩
  clear hA0 hval0
  simp only [List.append_nil] at hW'
  refine (walk a0 b0 W (bounds_i64 wa0) (bounds_i64 wb0)).mono fun e W' ⟨he, bel⟩ => ?_
  subst he
  exact ⟨_, rfl, _, _, _, [], _, [], hW', trodAll_mk1 (shut_bool Tryd.underlying4 _), (trodAll_cons_mk (read0 _ _) trodAll_mk0), rfl, bel.frame _, fun h => by cases h⟩

theorem row_holds : Rows.FracFloorBoundsSaid :=
  OpenClaim.holds_of_wide 11 Tryd.f11 rfl rfl rfl rfl rfl rfl rfl ⟨rfl, rfl, rfl, rfl, rfl⟩ rfl rfl rfl rfl rfl (by kernel_rfl) Tryd.func11 (by kernel_rfl)
    (of_decide_eq_true (by kernel_rfl)) (by unfold Func.isWrapper; first | (rw [if_pos (by decide +kernel)]; kernel_rfl) | (rw [if_neg (by decide +kernel)]; exact ⟨rfl, rfl⟩))
    (fun os started H enc _ => lifted os started H enc)

theorem proved : Rows.FracFloorBoundsCardSaid :=
  Claim7.holds_tied_plain_at .later [] [.data, .data, .data, .sentinel, .sentinel] true (true, "f9d0ccb4549076a1d8e0d532d515793d309ee8a3411979589464eb9b89725db3") true
    row_holds (fun _ h => by cases h) (by kernel_rfl) (fun _ h => by cases h) fracFloorBounds_row_tie rfl ⟨rfl, rfl⟩ (by kernel_rfl) rfl
    (fun f fn hf hfn => by
      obtain rfl : f = 11 := Option.some.inj ((show Tryd.prog.funcNamed "brocade/brocadelaw01.FracFloorBounds" = some 11 by kernel_rfl).symm.trans hf) |>.symm
      obtain rfl : fn = Tryd.f11 := (Option.some.inj (Tryd.func11.symm.trans hfn)).symm
      exact ⟨by kernel_rfl, fun j t ht => by
        rw [Tryd.params11] at ht
        have h3 : t = 2 ∨ t = 23 := by
          rcases j with _ | j
          · simp at ht; first | exact .inl ht.symm | exact .inr ht.symm
          · simp at ht
        rcases h3 with rfl | rfl
        · exact (show Tryd.prog.wantsStandIn 2 = false by kernel_rfl)
        · exact (show Tryd.prog.wantsStandIn 23 = false by kernel_rfl)⟩)
    (by kernel_rfl)
#print axioms proved
end Go.Proofs.YtnmjenpeiafnkaaDoor.fracFloorBounds
