/- The examples of the statements on package mesh. -/
import Derived.Test.YtjpcpdaokgkaoaaM12
namespace Go.Proofs.Ytjpcpdaokgkaoaa.Sh
open Go.ChangeShapes Go.WideShapes Go.ChangeAt Go.RowKit
set_option linter.unusedVariables false

/-- What the examples hold on to. -/
def EX (w wr : World) : Prop := Below w.heap.size w wr ∧ w.heap.size + 2 ≤ wr.heap.size ∧ wr.cell? ⟨w.heap.size, 0, none⟩ = some (.int .i64 2) ∧ wr.cell? ⟨w.heap.size, 1, none⟩ = some (.int .i64 3) ∧ wr.cell? ⟨w.heap.size + 1, 0, none⟩ = some (.slice (some ⟨w.heap.size, 0, none⟩) 2 2)
theorem EX.keep {w wr w' : World} (h : EX w wr) (hb : Below wr.heap.size wr w') : EX w w' := by
  obtain ⟨h1, h2, h3, h4, h5⟩ := h
  exact ⟨h1.trans (hb.mono h1.size), Nat.le_trans h2 hb.size, Rg.keep' hb (by omega) h3, Rg.keep' hb (by omega) h4, Rg.keep' hb (by omega) h5⟩
theorem EX.sl {w wr : World} (h : EX w wr) : SlI wr (some ⟨w.heap.size, 0, none⟩) [2, 3] := lit23 h.2.2.1 h.2.2.2.1
theorem SlI_lit2 {w : World} {b : Nat} {x y : Int} (h0 : w.cell? ⟨b, 0, none⟩ = some (.int .i64 x)) (h1 : w.cell? ⟨b, 1, none⟩ = some (.int .i64 y)) : SlI w (some ⟨b, 0, none⟩) [x, y] := by
  intro i hi
  refine ⟨b, 0, rfl, ?_⟩
  rcases (by simp at hi; omega : i = 0 ∨ i = 1) with rfl | rfl
  · exact h0
  · exact h1
theorem SlI_lit3 {w : World} {b : Nat} {x y z : Int} (h0 : w.cell? ⟨b, 0, none⟩ = some (.int .i64 x)) (h1 : w.cell? ⟨b, 1, none⟩ = some (.int .i64 y)) (h2 : w.cell? ⟨b, 2, none⟩ = some (.int .i64 z)) : SlI w (some ⟨b, 0, none⟩) [x, y, z] := by
  intro i hi
  refine ⟨b, 0, rfl, ?_⟩
  rcases (by simp at hi; omega : i = 0 ∨ i = 1 ∨ i = 2) with rfl | rfl | rfl
  · exact h0
  · exact h1
  · exact h2
theorem x1 : cL [2, 3] 4 = [1, 1] := by decide
theorem x2 : cB [2, 3] 4 = true := by decide
theorem x3 : gL [2, 3] 0 4 = [1, 4] := by decide
theorem x4 : gL [2, 3] 1 4 = [3, 4, 5] := by decide
theorem x5 : (gs [2, 3] 0 (dv [2, 3]).toNat).length = 3 := by decide +kernel
theorem x6 : mV [4, 5] = 23 := by decide
set_option maxHeartbeats 8000000 in
theorem ex51 (w : World) : Calls Try.prog 32 #[] w (Ret (.bool true) w) := by
  have E0 : EX w ((w.alloc (Obj.cells #[Value.int IntKind.i64 2, Value.int IntKind.i64 3] 3)).alloc (Obj.cells #[Value.slice (some { block := w.heap.size, off := 0 }) 2 2] 41)) :=
    ⟨((Below.refl _ _).alloc (Nat.le_refl _) _).alloc (by simp) _, by simp, by go_cell, by go_cell, by go_cell⟩
  go_enter Try.func32, Try.ntmps32
  go_wp2_with fail
  refine (c33 (some ⟨w.heap.size, 0, none⟩) [2, 3] 2 4 _ (by unfold maxLen; decide) (Lib.hid E0.sl)).mono ?_
  rintro e w1 ⟨v, rfl, hb, ho⟩
  rw [x1] at ho
  rw [x2]
  obtain ⟨q1, d1, hv, _, _, S1⟩ := own_SlI ho
  change v = .slice q1 2 d1 at hv
  subst hv
  have E1 := E0.keep hb
  clear hb ho E0
  go_wp2_with fail
  have A1 : Below w1.heap.size w1 (w1.alloc (Obj.cells #[Value.int .i64 1, Value.int .i64 1] 3)) := (Below.refl _ _).alloc (Nat.le_refl _) _
  refine (c18 q1 (some ⟨w1.heap.size, 0, none⟩) [1, 1] [1, 1] d1 2 (w1.alloc (Obj.cells #[Value.int .i64 1, Value.int .i64 1] 3)) (by unfold maxLen; decide) (by unfold maxLen; decide) (Lib.hid (SlI.keep A1 S1.out)) (Lib.hid (SlI_lit2 (by go_cell) (by go_cell)))).mono ?_
  rintro e u1 ⟨rfl, k1, hu1⟩
  have B1 : Below w1.heap.size w1 u1 := by rw [hu1]; exact below_drewN A1 k1
  have F1 := E1.keep B1
  clear hu1 A1 B1 S1
  rw [decide_eq_true rfl]
  have hx1 := F1.2.2.2.2
  go_wp2_with fail
  refine (c41 (some ⟨w.heap.size, 0, none⟩) [2, 3] 2 0 4 _ (by unfold maxLen; decide) (Lib.hid F1.sl)).mono ?_
  rintro e w2 ⟨v, rfl, hb, ho⟩
  rw [x3] at ho
  obtain ⟨q2, d2, hv, _, _, S2⟩ := own_SlI ho
  change v = .slice q2 2 d2 at hv
  subst hv
  have E2 := F1.keep hb
  clear hb ho F1 hx1
  go_wp2_with fail
  have A2 : Below w2.heap.size w2 (w2.alloc (Obj.cells #[Value.int .i64 1, Value.int .i64 4] 3)) := (Below.refl _ _).alloc (Nat.le_refl _) _
  refine (c18 q2 (some ⟨w2.heap.size, 0, none⟩) [1, 4] [1, 4] d2 2 (w2.alloc (Obj.cells #[Value.int .i64 1, Value.int .i64 4] 3)) (by unfold maxLen; decide) (by unfold maxLen; decide) (Lib.hid (SlI.keep A2 S2.out)) (Lib.hid (SlI_lit2 (by go_cell) (by go_cell)))).mono ?_
  rintro e u2 ⟨rfl, k2, hu2⟩
  have B2 : Below w2.heap.size w2 u2 := by rw [hu2]; exact below_drewN A2 k2
  have F2 := E2.keep B2
  clear hu2 A2 B2 S2
  rw [decide_eq_true rfl]
  have hx1 := F2.2.2.2.2
  go_wp2_with fail
  refine (c41 (some ⟨w.heap.size, 0, none⟩) [2, 3] 2 1 4 _ (by unfold maxLen; decide) (Lib.hid F2.sl)).mono ?_
  rintro e w3 ⟨v, rfl, hb, ho⟩
  rw [x4] at ho
  obtain ⟨q3, d3, hv, _, _, S3⟩ := own_SlI ho
  change v = .slice q3 3 d3 at hv
  subst hv
  have E3 := F2.keep hb
  clear hb ho F2 hx1
  go_wp2_with fail
  have A3 : Below w3.heap.size w3 (w3.alloc (Obj.cells #[Value.int .i64 3, Value.int .i64 4, Value.int .i64 5] 3)) := (Below.refl _ _).alloc (Nat.le_refl _) _
  refine (c18 q3 (some ⟨w3.heap.size, 0, none⟩) [3, 4, 5] [3, 4, 5] d3 3 (w3.alloc (Obj.cells #[Value.int .i64 3, Value.int .i64 4, Value.int .i64 5] 3)) (by unfold maxLen; decide) (by unfold maxLen; decide) (Lib.hid (SlI.keep A3 S3.out)) (Lib.hid (SlI_lit3 (by go_cell) (by go_cell) (by go_cell)))).mono ?_
  rintro e u3 ⟨rfl, k3, hu3⟩
  have B3 : Below w3.heap.size w3 u3 := by rw [hu3]; exact below_drewN A3 k3
  have F3 := E3.keep B3
  clear hu3 A3 B3 S3
  rw [decide_eq_true rfl]
  have hx1 := F3.2.2.2.2
  go_wp2_with fail
  refine (c44 (some ⟨w.heap.size, 0, none⟩) [2, 3] 2 0 _ (by unfold maxLen; decide) (Lib.hid F3.sl)).mono ?_
  rintro e w4 ⟨v, vals, rfl, hb, ho, hr⟩
  obtain ⟨q4, d4, hv, _, _, S4⟩ := own_SlS ho hr
  rw [x5] at hv
  subst hv
  have E4 := F3.keep hb
  have K4 := E4.1
  clear hb ho hr S4 F3 hx1 E4
  go_wp2_with fail
  refine (c37 (some ⟨w4.heap.size, 0, none⟩) [4, 5] 2 _ (by unfold maxLen; decide) (Lib.hid (SlI_lit2 (by go_cell) (by go_cell)))).mono ?_
  rintro e w5 ⟨rfl, hb⟩
  rw [x6]
  go_wp2
  go_ret
  exact ⟨rfl, (K4.alloc K4.size _).trans (hb.mono (by simp; have := K4.size; omega))⟩
end Go.Proofs.Ytjpcpdaokgkaoaa.Sh
