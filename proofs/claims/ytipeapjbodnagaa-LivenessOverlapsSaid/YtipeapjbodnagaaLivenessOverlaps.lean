/- Overlap reports whether two intervals intersect, as the reference, and does not depend on the order (41.2). No condition. -/
import Derived.Test.YtipeapjbodnagaaL11
import Derived.Lib.SmallJoins
import Derived.Deep.Slices
import Derived.Deep.Fields
import Derived.ChangeSame
import Derived.Carry
import Derived.ProofKit
import Derived.LaidMore
import Derived.OpenShut
namespace Go.Proofs.Ytipeapjbodnagaa.livenessOverlaps
open Go.ChangeShapes Go.WideShapes Go.ChangeAt Go.RowKit Go.Joins Go.Deep
set_option linter.unusedVariables false

theorem own : ownKnob Try.prog.godebug = none := by kernel_rfl
theorem laidOut : laidOutB Try.prog = true := by kernel_rfl
theorem cells55 : Try.prog.cellsOf 55 = 4 := by kernel_rfl

set_option maxRecDepth 100000 in
theorem lifted (os : Os) (started : os.Started) (H : Type) (enc : TypeId × Value → H) :
    ReturnsInHanded {} Try.checked os 11 .any (Rows.livenessOverlapsSpec.pre6 enc Try.prog Try.f11 Rows.livenessOverlapsRow.domain false) (Rows.livenessOverlapsSpec.post enc Try.prog Try.f11 false true false false) := by
  refine returnsInHanded_of_change (C := Try.checked) own started (by kernel_rfl) Try.func11
    (ChangeSpec.witness6 (enc := enc) (C := Try.checked) false ⟨#[], #[.agg #[.string ⟨#[]⟩, .int .i64 0, .int .i64 0, .int .i64 0], .agg #[.string ⟨#[]⟩, .int .i64 0, .int .i64 0, .int .i64 0]], []⟩ 8 (by kernel_rfl) (by kernel_rfl) (by kernel_rfl) (by kernel_rfl)) ?_
  intro W base args ds gs before hval0 hW hcnd _
  have hval : ∀ (j : Nat) t v, Try.f11.params[j]? = some t → args[j]? = some v → Value.okWide Try.prog W .any base t v := hval0
  have hW' := hW
  obtain ⟨p, q, hA0, hV, rfl, hfz, hnd⟩ := hW
  have hA : DataW.TrodAll enc Try.prog W 0 (fun _ => true) true Try.f11.params.toList args.toList ds p := hA0
  rw [Try.params11] at hA hval
  obtain ⟨v0, vs0, d0, ds0, p0, q0, hargs, rfl, rfl, h0, r0⟩ := trodAll_cons hA
  obtain ⟨v1, vs1, d1, ds1, p1, q1, rfl, rfl, rfl, h1, r1⟩ := trodAll_cons r0
  obtain ⟨rfl, rfl, rfl⟩ := trodAll_nil r1
  obtain rfl : args = #[v0, v1] := by cases args; simp_all
  obtain ⟨rfl, rfl⟩ := trodVars_none hV
  have lt0 : ∀ x ∈ p0, x.block < W.heap.size := fun x hx => hW'.lt x (by simp [hx])
  have lt1 : ∀ x ∈ p1, x.block < W.heap.size := fun x hx => hW'.lt x (by simp [hx])
  have g0 := h0
  have g1 := h1
  obtain ⟨c0x0, c0x1, c0x2, c0x3, y0x0, y0x1, y0x2, y0x3, m0, rfl, hd0, hp0, z0x0, z0x1, z0x2, z0x3⟩ := open_agg4 Try.underlying55 (by kernel_rfl) cells55 (hval 0 55 v0 rfl rfl) g0
  obtain ⟨a0x0, e0x0, _, w0x0⟩ := DataW.trod_string Try.underlying9 z0x0
  obtain ⟨a0x1, e0x1, _, w0x1⟩ := DataW.trod_int Try.underlying3 z0x1
  obtain ⟨a0x2, e0x2, _, w0x2⟩ := DataW.trod_int Try.underlying3 z0x2
  obtain ⟨a0x3, e0x3, _, w0x3⟩ := DataW.trod_int Try.underlying3 z0x3
  simp only [List.cons.injEq, and_true] at e0x0 e0x1 e0x2 e0x3
  subst e0x0 e0x1 e0x2 e0x3
  obtain ⟨c1x0, c1x1, c1x2, c1x3, y1x0, y1x1, y1x2, y1x3, m1, rfl, hd1, hp1, z1x0, z1x1, z1x2, z1x3⟩ := open_agg4 Try.underlying55 (by kernel_rfl) cells55 (hval 1 55 v1 rfl rfl) g1
  obtain ⟨a1x0, e1x0, _, w1x0⟩ := DataW.trod_string Try.underlying9 z1x0
  obtain ⟨a1x1, e1x1, _, w1x1⟩ := DataW.trod_int Try.underlying3 z1x1
  obtain ⟨a1x2, e1x2, _, w1x2⟩ := DataW.trod_int Try.underlying3 z1x2
  obtain ⟨a1x3, e1x3, _, w1x3⟩ := DataW.trod_int Try.underlying3 z1x3
  simp only [List.cons.injEq, and_true] at e1x0 e1x1 e1x2 e1x3
  subst e1x0 e1x1 e1x2 e1x3
  clear hA0 hval0
  simp only [List.append_nil] at hW'
  refine (Lv.law_over' a0x0 a0x1 a0x2 a0x3 a1x0 a1x1 a1x2 a1x3 W w0x0 (bounds_i64 w0x1) (bounds_i64 w0x2) (bounds_i64 w0x3) w1x0 (bounds_i64 w1x1) (bounds_i64 w1x2) (bounds_i64 w1x3)).mono fun e W' ⟨he, bel⟩ => ?_
  subst he
  exact ⟨_, rfl, _, _, _, [], _, [], hW', trodAll_mk1 (shut_bool Try.underlying4 _), (trodAll_cons_mk (Below.trod laidOut (by kernel_rfl) (of_decide_eq_true (by kernel_rfl)) h0 bel lt0) (trodAll_cons_mk (Below.trod laidOut (by kernel_rfl) (of_decide_eq_true (by kernel_rfl)) h1 bel lt1) trodAll_mk0)), rfl, bel.frame _, fun h => by cases h⟩

theorem over : Rows.livenessOverlapsRow.holds Try.pinned (OpenSpec.ofChange Rows.livenessOverlapsSpec) :=
  OpenClaim.holds_of_wide 11 Try.f11 rfl rfl rfl rfl rfl rfl rfl ⟨rfl, rfl, rfl, rfl, rfl⟩ rfl rfl rfl rfl rfl (by kernel_rfl) Try.func11 (by kernel_rfl)
    (of_decide_eq_true (by kernel_rfl)) (by unfold Func.isWrapper; first | (rw [if_pos (by decide +kernel)]; kernel_rfl) | (rw [if_neg (by decide +kernel)]; exact ⟨rfl, rfl⟩))
    (fun os started H enc _ => lifted os started H enc)

theorem proved : Rows.LivenessOverlapsSaid := over
#print axioms proved
end Go.Proofs.Ytipeapjbodnagaa.livenessOverlaps
