/- For every fraction, frac and how, Quantize and Residual of package round return what the reference returns (P2.2, P2.3). -/
import Derived.Test.YtnmjenpeiafnkaaRes1
import Derived.Test.YtnmjenpeiafnkaaRes2
import Derived.Test.YtnmjenpeiafnkaaFacts
import Derived.Test.YtnmjenpeiafnkaaDivRAll
import Derived.Lib.SmallJoins
namespace Go.Proofs.Ytnmjenpeiafnkaa.roundQuantizes
open Go.ChangeShapes Go.WideShapes Go.ChangeAt Go.RowKit Go.Joins
set_option linter.unusedVariables false

theorem own : ownKnob Try.prog.godebug = none := by kernel_rfl
theorem cells2 : Try.prog.cellsOf 2 = 1 := by kernel_rfl
theorem cells27 : Try.prog.cellsOf 27 = 2 := by kernel_rfl

set_option maxHeartbeats 8000000 in
theorem law (n d frac how x e u v g : Int) (w : World)
    (C1 : Hid (∀ w, Calls Try.prog 8 #[.agg #[.int .i64 n, .int .i64 d], .int .i64 frac, .int .i64 how] w (Fr.Ret (.tuple #[.int .i64 x, .int .i64 e]) w)))
    (C2 : Hid (∀ w, Calls Try.prog 9 #[.agg #[.int .i64 n, .int .i64 d], .int .i64 frac, .int .i64 how] w (Fr.Ret (.tuple #[.int .i64 x, .int .i64 e]) w)))
    (C3 : Hid (∀ w, Calls Try.prog 10 #[.agg #[.int .i64 n, .int .i64 d], .int .i64 frac, .int .i64 how] w (Fr.Ret (Fr.Frac3 u v g) w)))
    (C4 : Hid (∀ w, Calls Try.prog 11 #[.agg #[.int .i64 n, .int .i64 d], .int .i64 frac, .int .i64 how] w (Fr.Ret (Fr.Frac3 u v g) w))) :
    Calls Try.prog 4 #[.agg #[.int .i64 n, .int .i64 d], .int .i64 frac, .int .i64 how] w fun e w' => e = .returned (.bool true) ∧ Below w.heap.size w w' := by
  go_enter Try.func4, Try.ntmps4
  go_wp2_with fail
  refine (C1.out _).mono ?_
  rintro e w1 ⟨rfl, hb1⟩
  have z1 : w.heap.size < w1.heap.size := by
    have := hb1.size
    try simp at this
    omega
  have a0 := (Fr.bcell hb1).1 w.heap.size 0 (by first | omega | (simp <;> omega))
  have a1 := (Fr.bcell hb1).1 w.heap.size 1 (by first | omega | (simp <;> omega))
  simp at a0 a1
  go_wp2_with fail
  refine (C2.out _).mono ?_
  rintro e w2 ⟨rfl, hb2⟩
  have z2 : w.heap.size < w2.heap.size := by
    have := hb2.size
    try simp at this
    omega
  have b0 := ((Fr.bcell hb2).1 w.heap.size 0 (by first | omega | (simp <;> omega))).trans a0
  have b1 := ((Fr.bcell hb2).1 w.heap.size 1 (by first | omega | (simp <;> omega))).trans a1
  clear a0 a1
  go_wp2_with fail
  refine (C3.out _).mono ?_
  rintro e w3 ⟨rfl, hb3⟩
  have z3 : w.heap.size < w3.heap.size := by
    have := hb3.size
    try simp at this
    omega
  have c0 := ((Fr.bcell hb3).1 w.heap.size 0 (by first | omega | (simp <;> omega))).trans b0
  have c1 := ((Fr.bcell hb3).1 w.heap.size 1 (by first | omega | (simp <;> omega))).trans b1
  clear b0 b1
  go_wp2_with fail
  refine (C4.out _).mono ?_
  rintro e w4 ⟨rfl, hb4⟩
  have z4 : w3.heap.size < w4.heap.size := by
    have := hb4.size
    simp at this
    omega
  have d0 := (Fr.bcell hb4).1 w3.heap.size 0 (by first | omega | (simp <;> omega))
  have d1 := (Fr.bcell hb4).1 w3.heap.size 1 (by first | omega | (simp <;> omega))
  simp at d0 d1
  clear c0 c1
  go_wp2
  go_ret
  refine ⟨rfl, ?_⟩
  refine Below.alloc ?_ (by omega) _
  refine Below.trans ?_ (hb4.mono (by first | omega | (simp <;> omega)))
  refine Below.alloc ?_ (by omega) _
  refine Below.trans ?_ (hb3.mono (by first | omega | (simp <;> omega)))
  refine Below.trans ?_ (hb2.mono (by first | omega | (simp <;> omega)))
  refine Below.trans ?_ (hb1.mono (by first | omega | (simp <;> omega)))
  exact (Below.refl _ _).alloc (Nat.le_refl _) _

theorem walk (n d frac how : Int) (w : World) (hf : (Lit.int .i64 frac).wf = true) :
    Calls Try.prog 4 #[.agg #[.int .i64 n, .int .i64 d], .int .i64 frac, .int .i64 how] w fun e w' => e = .returned (.bool true) ∧ Below w.heap.size w w' := by
  by_cases h : Fr.qok n d frac how = true
  · obtain ⟨p, T, q, S, X, Y, f0, f1, m0, m1, hp, p0, p1, hT, t0, t1, hS, s0, s1, hY, y0, y1, hX, hq, he, d0, d1, _⟩ := Fr.facts n d frac how h
    have D := fun w => Dv.div_any how T d w (by omega) (by omega) (by omega) (by omega)
    have RD := fun w => Dv.rdiv_any how T d w (by omega) (by omega) (by omega) (by omega)
    rw [hq, he] at D RD
    have Q := fun w => Fr.quant_ok n d frac how p T q w h hp p0 p1 hT t0 t1 (Lib.hid D)
    have RQ := fun w => Fr.rquant_ok n d frac how p T q w h hp p0 p1 hT t0 t1 (Lib.hid RD)
    have R := fun w => Fr.res_ok n d frac how p T q S Y w f0 f1 hp p0 p1 hT t0 t1 hS s0 s1 hY y0 y1 (Lib.hid Q)
    have RR := fun w => Fr.rres_ok n d frac how p T q S X Y w f0 f1 hp p0 p1 hT t0 t1 hS s0 s1 hY y0 y1 hX (Lib.hid RQ)
    rw [hX] at R
    exact law n d frac how _ _ _ _ _ w (Lib.hid Q) (Lib.hid RQ) (Lib.hid R) (Lib.hid RR)
  · have h : Fr.qok n d frac how = false := by simpa using h
    exact law n d frac how _ _ _ _ _ w (Lib.hid fun w => Fr.quant_bad n d frac how w h) (Lib.hid fun w => Fr.rquant_bad n d frac how w h) (Lib.hid fun w => Fr.res_bad n d frac how w h) (Lib.hid fun w => Fr.rres_bad n d frac how w h)

set_option maxRecDepth 100000 in
theorem lifted (os : Os) (started : os.Started) (H : Type) (enc : TypeId × Value → H) :
    ReturnsInHanded {} Try.checked os 4 .any (Rows.roundQuantizesSpec.pre6 enc Try.prog Try.f4 Rows.roundQuantizesRow.domain false) (Rows.roundQuantizesSpec.post enc Try.prog Try.f4 false true false false) := by
  refine returnsInHanded_of_change (C := Try.checked) own started (by kernel_rfl) Try.func4
    (ChangeSpec.witness6 (enc := enc) (C := Try.checked) false ⟨#[], #[.agg #[.int .i64 0, .int .i64 0], .int .i64 0, .int .i64 0], []⟩ 8 (by kernel_rfl) (by kernel_rfl) (by kernel_rfl) (by kernel_rfl)) ?_
  intro W base args ds gs before hval0 hW hcnd _
  have hval : ∀ (j : Nat) t v, Try.f4.params[j]? = some t → args[j]? = some v → Value.okWide Try.prog W .any base t v := hval0
  have hW' := hW
  obtain ⟨p, q, hA0, hV, rfl, hfz, hnd⟩ := hW
  have hA : DataW.TrodAll enc Try.prog W 0 (fun _ => true) true Try.f4.params.toList args.toList ds p := hA0
  rw [Try.params4] at hA hval
  obtain ⟨v0, vs0, d0, ds0, p0, q0, hargs, rfl, rfl, h0, r0⟩ := trodAll_cons hA
  obtain ⟨v1, vs1, d1, ds1, p1, q1, rfl, rfl, rfl, h1, r1⟩ := trodAll_cons r0
  obtain ⟨v2, vs2, d2, ds2, p2, q2, rfl, rfl, rfl, h2, r2⟩ := trodAll_cons r1
  obtain ⟨rfl, rfl, rfl⟩ := trodAll_nil r2
  obtain rfl : args = #[v0, v1, v2] := by cases args; simp_all
  obtain ⟨rfl, rfl⟩ := trodVars_none hV
  obtain ⟨c0, c1, y0, y1, m, rfl, rfl, rfl, hy0, hy1⟩ := open_agg2 Try.underlying27 (by kernel_rfl) cells27 (hval 0 27 v0 rfl rfl) h0
  obtain ⟨a, e0, rfl, wa⟩ := DataW.trod_int Try.underlying2 hy0
  obtain ⟨b, e1, rfl, wb⟩ := DataW.trod_int Try.underlying2 hy1
  simp at e0 e1
  subst e0 e1
  obtain ⟨a1, rfl, rfl, rfl, w1⟩ := open_int Try.underlying3 (hval 1 3 v1 rfl rfl) h1
  obtain ⟨a2, rfl, rfl, rfl, w2⟩ := open_int Try.underlying3 (hval 2 3 v2 rfl rfl) h2
  clear hA0 hval0
  simp only [List.append_nil] at hW'
  have structReads : ∀ (W' : World) (sp : Nat → Bool), DataW.Trod enc Try.prog W' 0 sp true 27 (.agg #[.int .i64 a, .int .i64 b]) (.agg [.lit (.int .i64 a), .lit (.int .i64 b)]) [] := fun W' sp =>
    shut_agg2 (y0 := (.lit (.int .i64 a), [])) (y1 := (.lit (.int .i64 b), [])) Try.underlying27 (by kernel_rfl) cells27 ⟨1, by simp [DataW.trod, Try.underlying2, wa]⟩ ⟨1, by simp [DataW.trod, Try.underlying2, wb]⟩
  refine (walk a b a1 a2 W w1).mono fun e W' ⟨he, bel⟩ => ?_
  subst he
  exact ⟨_, rfl, _, _, _, [], _, [], hW', trodAll_mk1 (shut_bool Try.underlying4 _), (trodAll_cons_mk (structReads _ _) (trodAll_cons_mk (shut_int Try.underlying3 w1) (trodAll_cons_mk (shut_int Try.underlying3 w2) trodAll_mk0))), rfl, bel.frame _, fun h => by cases h⟩

theorem over : Rows.roundQuantizesRow.holds Try.pinned (OpenSpec.ofChange Rows.roundQuantizesSpec) :=
  OpenClaim.holds_of_wide 4 Try.f4 rfl rfl rfl rfl rfl rfl rfl ⟨rfl, rfl, rfl, rfl, rfl⟩ rfl rfl rfl rfl rfl (by kernel_rfl) Try.func4 (by kernel_rfl)
    (of_decide_eq_true (by kernel_rfl)) (by unfold Func.isWrapper; first | (rw [if_pos (by decide +kernel)]; kernel_rfl) | (rw [if_neg (by decide +kernel)]; exact ⟨rfl, rfl⟩))
    (fun os started H enc _ => lifted os started H enc)

theorem proved : Rows.RoundQuantizesSaid := over
#print axioms proved
end Go.Proofs.Ytnmjenpeiafnkaa.roundQuantizes
