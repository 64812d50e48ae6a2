/- Tensors: the examples. -/
import Derived.Test.YteaaikmejacpaaaGreatDoorS22

namespace Go.Proofs.YteaaikmejacpaaaGreatDoor.Te
open Go.ChangeShapes Go.WideShapes Go.ChangeAt Go.RowKit
open Fx Va Sh
set_option maxRecDepth 8000
set_option linter.unusedVariables false
set_option linter.unusedSimpArgs false

set_option maxRecDepth 100000 in
set_option maxHeartbeats 2000000 in
theorem exam12 (w : World) (hLA0 : Tx.LA w) : Calls Tryz.prog 15 #[] w fun e w' => e = .returned (.bool true) /\ Below w.heap.size w w' := by
 have hLA := Lib.hid hLA0
 have HD0 : Hid (SlI ((w.alloc (Obj.cells #[Value.int .i64 2, Value.int .i64 2] 3)).alloc (Obj.cells #[Value.int .i64 1, Value.int .i64 1, Value.int .i64 2, Value.int .i64 1, Value.int .i64 3, Value.int .i64 1, Value.int .i64 4, Value.int .i64 1] 29)) (some ⟨w.heap.size, 0, none⟩) [2, 2]) := Lib.hid (by
  intro i hi
  rcases i with _ | _ | i
  ·exact ⟨w.heap.size, 0, rfl, by go_cell⟩
  ·exact ⟨w.heap.size, 0, rfl, by go_cell⟩
  ·exact absurd hi (by simp))
 have HV0 : Hid (SlV ((w.alloc (Obj.cells #[Value.int .i64 2, Value.int .i64 2] 3)).alloc (Obj.cells #[Value.int .i64 1, Value.int .i64 1, Value.int .i64 2, Value.int .i64 1, Value.int .i64 3, Value.int .i64 1, Value.int .i64 4, Value.int .i64 1] 29)) (some ⟨w.heap.size + 1, 0, none⟩) [(1, 1), (2, 1), (3, 1), (4, 1)]) := Lib.hid (by
  intro i hi
  rcases i with _ | _ | _ | _ | i
  ·exact ⟨w.heap.size + 1, 0, rfl, by go_cell, by go_cell⟩
  ·exact ⟨w.heap.size + 1, 0, rfl, by go_cell, by go_cell⟩
  ·exact ⟨w.heap.size + 1, 0, rfl, by go_cell, by go_cell⟩
  ·exact ⟨w.heap.size + 1, 0, rfl, by go_cell, by go_cell⟩
  ·exact absurd hi (by simp))
 have hL_0 := Lib.hid (Below.refl w.heap.size w)
 clear hLA0
 go_enter Tryz.func15, Tryz.ntmps15
 go_wp2_with (first | (go_at_call 16; have hWw1 : Below w.heap.size w ((w.alloc (Obj.cells #[Value.int .i64 2, Value.int .i64 2] 3)).alloc (Obj.cells #[Value.int .i64 1, Value.int .i64 1, Value.int .i64 2, Value.int .i64 1, Value.int .i64 3, Value.int .i64 1, Value.int .i64 4, Value.int .i64 1] 29)) := ((Below.refl _ _).alloc (by exact Nat.le_refl _) _).alloc (by simp) _; have hLw1_0 := hL_0.out.trans (hWw1.mono hL_0.out.size); (with_reducible refine (ex_new (some ⟨w.heap.size, 0, none⟩) 2 (some ⟨w.heap.size + 1, 0, none⟩) 4 _ (by decide) (by decide) (by decide) (by decide) HD0 HV0).mono ?_); rintro e w1 ⟨p1, k1, q1, d1, rfl, a1, b1, e1, f1, si1, sv1, hb⟩; have hXw1 := hWw1.trans (hb.mono hWw1.size); have hL_0 := Lib.hid (hL_0.out.trans (hXw1.mono hL_0.out.size)); clear hb hWw1 hXw1 hLw1_0; have hL_1 := Lib.hid (Below.refl w1.heap.size w1); have si1 := Lib.hid si1; have sv1 := Lib.hid sv1) | (go_at_call 33; have hWw2 : Below w1.heap.size w1 (w1.alloc (Obj.cells #[Value.int .i64 3, Value.int .i64 0, Value.int .i64 0, Value.int .i64 0, Value.int .i64 0, Value.slice p1 2 k1, Value.slice q1 4 d1] 27)) := (Below.refl _ _).alloc (by exact Nat.le_refl _) _; have hLw2_0 := hL_0.out.trans (hWw2.mono hL_0.out.size); have hLw2_1 := hL_1.out.trans (hWw2.mono hL_1.out.size); (with_reducible refine (ex_red p1 k1 q1 d1 _ a1 b1 e1 f1 (Lib.hid (SlI.keep hLw2_1 si1.out)) (Lib.hid (SlV.below sv1.out hLw2_1))).mono ?_); rintro e w2 ⟨p2, k2, q2, d2, rfl, a2, b2, e2, f2, si2, sv2, hb⟩; have hXw2 := hWw2.trans (hb.mono hWw2.size); have hL_0 := Lib.hid (hL_0.out.trans (hXw2.mono hL_0.out.size)); have hL_1 := Lib.hid (hL_1.out.trans (hXw2.mono hL_1.out.size)); have TB_1 := Lib.hid (B7.keep hb (by simp <;> omega) ((B7.new w1 27 (.int .i64 3) (.int .i64 0) (.int .i64 0) (.int .i64 0) (.int .i64 0) (.slice p1 2 k1) (.slice q1 4 d1)))); obtain ⟨⟨c1_0, c1_1, c1_2, c1_3, c1_4, c1_5, c1_6⟩, -⟩ := TB_1.out; have l1_w2 := TB_1.out.lt; clear hb hWw2 hXw2 hLw2_0 hLw2_1; have hL_2 := Lib.hid (Below.refl w2.heap.size w2); have si2 := Lib.hid si2; have sv2 := Lib.hid sv2) | (go_at_call 33; have hWw3 : Below w2.heap.size w2 (w2.alloc (Obj.cells #[Value.int .i64 3, Value.int .i64 0, Value.int .i64 0, Value.int .i64 0, Value.int .i64 0, Value.slice p2 1 k2, Value.slice q2 2 d2] 27)) := (Below.refl _ _).alloc (by exact Nat.le_refl _) _; have hLw3_0 := hL_0.out.trans (hWw3.mono hL_0.out.size); have hLw3_1 := hL_1.out.trans (hWw3.mono hL_1.out.size); have hLw3_2 := hL_2.out.trans (hWw3.mono hL_2.out.size); (with_reducible refine (ex_scan p1 k1 q1 d1 _ a1 b1 e1 f1 (Lib.hid (SlI.keep hLw3_1 si1.out)) (Lib.hid (SlV.below sv1.out hLw3_1))).mono ?_); rintro e w3 ⟨p3, k3, q3, d3, rfl, a3, b3, e3, f3, si3, sv3, hb⟩; have hXw3 := hWw3.trans (hb.mono hWw3.size); have hL_0 := Lib.hid (hL_0.out.trans (hXw3.mono hL_0.out.size)); have hL_1 := Lib.hid (hL_1.out.trans (hXw3.mono hL_1.out.size)); have hL_2 := Lib.hid (hL_2.out.trans (hXw3.mono hL_2.out.size)); have TB_1 := Lib.hid (B7.keep hXw3 TB_1.out.lt TB_1.out); have TB_2 := Lib.hid (B7.keep hb (by simp <;> omega) ((B7.new w2 27 (.int .i64 3) (.int .i64 0) (.int .i64 0) (.int .i64 0) (.int .i64 0) (.slice p2 1 k2) (.slice q2 2 d2)))); obtain ⟨⟨c1_0, c1_1, c1_2, c1_3, c1_4, c1_5, c1_6⟩, -⟩ := TB_1.out; have l1_w3 := TB_1.out.lt; clear hb hWw3 hXw3 hLw3_0 hLw3_1 hLw3_2; have hL_3 := Lib.hid (Below.refl w3.heap.size w3); have si3 := Lib.hid si3; have sv3 := Lib.hid sv3) | (go_at_call 37; have hWw4 : Below w3.heap.size w3 ((w3.alloc (Obj.cells #[Value.int .i64 3, Value.int .i64 0, Value.int .i64 0, Value.int .i64 0, Value.int .i64 0, Value.slice p3 2 k3, Value.slice q3 4 d3] 27)).alloc (Obj.cells #[Value.int .i64 1, Value.int .i64 0] 3)) := ((Below.refl _ _).alloc (by exact Nat.le_refl _) _).alloc (by simp) _; have hLw4_0 := hL_0.out.trans (hWw4.mono hL_0.out.size); have hLw4_1 := hL_1.out.trans (hWw4.mono hL_1.out.size); have hLw4_2 := hL_2.out.trans (hWw4.mono hL_2.out.size); have hLw4_3 := hL_3.out.trans (hWw4.mono hL_3.out.size); have HS9 := Lib.hid (show SlI ((w3.alloc (Obj.cells #[Value.int .i64 3, Value.int .i64 0, Value.int .i64 0, Value.int .i64 0, Value.int .i64 0, Value.slice p3 2 k3, Value.slice q3 4 d3] 27)).alloc (Obj.cells #[Value.int .i64 1, Value.int .i64 0] 3)) (some ⟨w3.heap.size + 1, 0, none⟩) [1, 0] from by intro i hi; rcases i with _ | _ | i; (exact ⟨w3.heap.size + 1, 0, rfl, by go_cell⟩); (first | exact ⟨w3.heap.size + 1, 0, rfl, by go_cell⟩ | exact absurd hi (by simp)); (exact absurd hi (by simp))); (with_reducible refine (ex_perm p1 k1 q1 d1 _ a1 b1 e1 f1 (Lib.hid (SlI.keep hLw4_1 si1.out)) (Lib.hid (SlV.below sv1.out hLw4_1)) _ 2 HS9).mono ?_); rintro e w4 ⟨p4, k4, q4, d4, rfl, a4, b4, e4, f4, si4, sv4, hb⟩; have hXw4 := hWw4.trans (hb.mono hWw4.size); have hL_0 := Lib.hid (hL_0.out.trans (hXw4.mono hL_0.out.size)); have hL_1 := Lib.hid (hL_1.out.trans (hXw4.mono hL_1.out.size)); have hL_2 := Lib.hid (hL_2.out.trans (hXw4.mono hL_2.out.size)); have hL_3 := Lib.hid (hL_3.out.trans (hXw4.mono hL_3.out.size)); have TB_1 := Lib.hid (B7.keep hXw4 TB_1.out.lt TB_1.out); have TB_2 := Lib.hid (B7.keep hXw4 TB_2.out.lt TB_2.out); have TB_3 := Lib.hid (B7.keep hb (by simp <;> omega) ((B7.new w3 27 (.int .i64 3) (.int .i64 0) (.int .i64 0) (.int .i64 0) (.int .i64 0) (.slice p3 2 k3) (.slice q3 4 d3)).alloc _)); obtain ⟨⟨c1_0, c1_1, c1_2, c1_3, c1_4, c1_5, c1_6⟩, -⟩ := TB_1.out; have l1_w4 := TB_1.out.lt; clear hb hWw4 hXw4 hLw4_0 hLw4_1 hLw4_2 hLw4_3; clear HS9; have hL_4 := Lib.hid (Below.refl w4.heap.size w4); have si4 := Lib.hid si4; have sv4 := Lib.hid sv4) | (go_at_call 24; have hWw5 : Below w4.heap.size w4 ((w4.alloc (Obj.cells #[Value.int .i64 3, Value.int .i64 0, Value.int .i64 0, Value.int .i64 0, Value.int .i64 0, Value.slice p4 2 k4, Value.slice q4 4 d4] 27)).alloc (Obj.cells #[Value.int .i64 0, Value.int .i64 2] 3)) := ((Below.refl _ _).alloc (by exact Nat.le_refl _) _).alloc (by simp) _; have hLw5_0 := hL_0.out.trans (hWw5.mono hL_0.out.size); have hLw5_1 := hL_1.out.trans (hWw5.mono hL_1.out.size); have hLw5_2 := hL_2.out.trans (hWw5.mono hL_2.out.size); have hLw5_3 := hL_3.out.trans (hWw5.mono hL_3.out.size); have hLw5_4 := hL_4.out.trans (hWw5.mono hL_4.out.size); have HS9 := Lib.hid (show SlI ((w4.alloc (Obj.cells #[Value.int .i64 3, Value.int .i64 0, Value.int .i64 0, Value.int .i64 0, Value.int .i64 0, Value.slice p4 2 k4, Value.slice q4 4 d4] 27)).alloc (Obj.cells #[Value.int .i64 0, Value.int .i64 2] 3)) (some ⟨w4.heap.size + 1, 0, none⟩) [0, 2] from by intro i hi; rcases i with _ | _ | i; (exact ⟨w4.heap.size + 1, 0, rfl, by go_cell⟩); (first | exact ⟨w4.heap.size + 1, 0, rfl, by go_cell⟩ | exact absurd hi (by simp)); (exact absurd hi (by simp))); (with_reducible refine (ex_at2 p1 k1 q1 d1 _ a1 b1 e1 f1 (Lib.hid (SlI.keep hLw5_1 si1.out)) (Lib.hid (SlV.below sv1.out hLw5_1)) _ 2 HS9).mono ?_); rintro e w5 ⟨rfl, hb⟩; have hXw5 := hWw5.trans (hb.mono hWw5.size); have hL_0 := Lib.hid (hL_0.out.trans (hXw5.mono hL_0.out.size)); have hL_1 := Lib.hid (hL_1.out.trans (hXw5.mono hL_1.out.size)); have hL_2 := Lib.hid (hL_2.out.trans (hXw5.mono hL_2.out.size)); have hL_3 := Lib.hid (hL_3.out.trans (hXw5.mono hL_3.out.size)); have hL_4 := Lib.hid (hL_4.out.trans (hXw5.mono hL_4.out.size)); have TB_1 := Lib.hid (B7.keep hXw5 TB_1.out.lt TB_1.out); have TB_2 := Lib.hid (B7.keep hXw5 TB_2.out.lt TB_2.out); have TB_3 := Lib.hid (B7.keep hXw5 TB_3.out.lt TB_3.out); have TB_4 := Lib.hid (B7.keep hb (by simp <;> omega) ((B7.new w4 27 (.int .i64 3) (.int .i64 0) (.int .i64 0) (.int .i64 0) (.int .i64 0) (.slice p4 2 k4) (.slice q4 4 d4)).alloc _)); obtain ⟨⟨c1_0, c1_1, c1_2, c1_3, c1_4, c1_5, c1_6⟩, -⟩ := TB_1.out; have l1_w5 := TB_1.out.lt; clear hb hWw5 hXw5 hLw5_0 hLw5_1 hLw5_2 hLw5_3 hLw5_4; clear HS9) | (go_at_call 24; have hWw6 : Below w5.heap.size w5 ((w5.alloc (Obj.cells #[Value.int .i64 0, Value.int .i64 0] 29)).alloc (Obj.cells #[Value.int .i64 0] 3)) := ((Below.refl _ _).alloc (by exact Nat.le_refl _) _).alloc (by simp) _; have hLw6_0 := hL_0.out.trans (hWw6.mono hL_0.out.size); have hLw6_1 := hL_1.out.trans (hWw6.mono hL_1.out.size); have hLw6_2 := hL_2.out.trans (hWw6.mono hL_2.out.size); have hLw6_3 := hL_3.out.trans (hWw6.mono hL_3.out.size); have hLw6_4 := hL_4.out.trans (hWw6.mono hL_4.out.size); have HS9 := Lib.hid (show SlI ((w5.alloc (Obj.cells #[Value.int .i64 0, Value.int .i64 0] 29)).alloc (Obj.cells #[Value.int .i64 0] 3)) (some ⟨w5.heap.size + 1, 0, none⟩) [0] from by intro i hi; rcases i with _ | i; (exact ⟨w5.heap.size + 1, 0, rfl, by go_cell⟩); (exact absurd hi (by simp))); (with_reducible refine (ex_at1 p1 k1 q1 d1 _ a1 b1 e1 f1 (Lib.hid (SlI.keep hLw6_1 si1.out)) (Lib.hid (SlV.below sv1.out hLw6_1)) _ 1 HS9).mono ?_); rintro e w6 ⟨rfl, hb⟩; have hXw6 := hWw6.trans (hb.mono hWw6.size); have hL_0 := Lib.hid (hL_0.out.trans (hXw6.mono hL_0.out.size)); have hL_1 := Lib.hid (hL_1.out.trans (hXw6.mono hL_1.out.size)); have hL_2 := Lib.hid (hL_2.out.trans (hXw6.mono hL_2.out.size)); have hL_3 := Lib.hid (hL_3.out.trans (hXw6.mono hL_3.out.size)); have hL_4 := Lib.hid (hL_4.out.trans (hXw6.mono hL_4.out.size)); have TB_1 := Lib.hid (B7.keep hXw6 TB_1.out.lt TB_1.out); have TB_2 := Lib.hid (B7.keep hXw6 TB_2.out.lt TB_2.out); have TB_3 := Lib.hid (B7.keep hXw6 TB_3.out.lt TB_3.out); have TB_4 := Lib.hid (B7.keep hXw6 TB_4.out.lt TB_4.out); obtain ⟨⟨c1_0, c1_1, c1_2, c1_3, c1_4, c1_5, c1_6⟩, -⟩ := TB_1.out; have l1_w6 := TB_1.out.lt; clear hb hWw6 hXw6 hLw6_0 hLw6_1 hLw6_2 hLw6_3 hLw6_4; clear HS9) | (go_at_call 42; have hWw7 : Below w6.heap.size w6 (w6.alloc (Obj.cells #[Value.int .i64 0, Value.int .i64 0] 29)) := (Below.refl _ _).alloc (by exact Nat.le_refl _) _; have hLw7_0 := hL_0.out.trans (hWw7.mono hL_0.out.size); have hLw7_1 := hL_1.out.trans (hWw7.mono hL_1.out.size); have hLw7_2 := hL_2.out.trans (hWw7.mono hL_2.out.size); have hLw7_3 := hL_3.out.trans (hWw7.mono hL_3.out.size); have hLw7_4 := hL_4.out.trans (hWw7.mono hL_4.out.size); (with_reducible refine (ex_f1 p1 k1 q1 d1 _ a1 b1 e1 f1 (Lib.hid (SlI.keep hLw7_1 si1.out)) (Lib.hid (SlV.below sv1.out hLw7_1)) (hLA.out.below hLw7_0)).mono ?_); rintro e w7 ⟨rfl, hb⟩; have hXw7 := hWw7.trans (hb.mono hWw7.size); have hL_0 := Lib.hid (hL_0.out.trans (hXw7.mono hL_0.out.size)); have hL_1 := Lib.hid (hL_1.out.trans (hXw7.mono hL_1.out.size)); have hL_2 := Lib.hid (hL_2.out.trans (hXw7.mono hL_2.out.size)); have hL_3 := Lib.hid (hL_3.out.trans (hXw7.mono hL_3.out.size)); have hL_4 := Lib.hid (hL_4.out.trans (hXw7.mono hL_4.out.size)); have TB_1 := Lib.hid (B7.keep hXw7 TB_1.out.lt TB_1.out); have TB_2 := Lib.hid (B7.keep hXw7 TB_2.out.lt TB_2.out); have TB_3 := Lib.hid (B7.keep hXw7 TB_3.out.lt TB_3.out); have TB_4 := Lib.hid (B7.keep hXw7 TB_4.out.lt TB_4.out); obtain ⟨⟨c2_0, c2_1, c2_2, c2_3, c2_4, c2_5, c2_6⟩, -⟩ := TB_2.out; have l2_w7 := TB_2.out.lt; clear hb hWw7 hXw7 hLw7_0 hLw7_1 hLw7_2 hLw7_3 hLw7_4) | (go_at_call 42; have hWw8 : Below w7.heap.size w7 w7 := Below.refl _ _; have hLw8_0 := hL_0.out.trans (hWw8.mono hL_0.out.size); have hLw8_1 := hL_1.out.trans (hWw8.mono hL_1.out.size); have hLw8_2 := hL_2.out.trans (hWw8.mono hL_2.out.size); have hLw8_3 := hL_3.out.trans (hWw8.mono hL_3.out.size); have hLw8_4 := hL_4.out.trans (hWw8.mono hL_4.out.size); (with_reducible refine (ex_f2 p2 k2 q2 d2 _ a2 b2 e2 f2 (Lib.hid (SlI.keep hLw8_2 si2.out)) (Lib.hid (SlV.below sv2.out hLw8_2)) (hLA.out.below hLw8_0)).mono ?_); rintro e w8 ⟨rfl, hb⟩; have hXw8 := hWw8.trans (hb.mono hWw8.size); have hL_0 := Lib.hid (hL_0.out.trans (hXw8.mono hL_0.out.size)); have hL_1 := Lib.hid (hL_1.out.trans (hXw8.mono hL_1.out.size)); have hL_2 := Lib.hid (hL_2.out.trans (hXw8.mono hL_2.out.size)); have hL_3 := Lib.hid (hL_3.out.trans (hXw8.mono hL_3.out.size)); have hL_4 := Lib.hid (hL_4.out.trans (hXw8.mono hL_4.out.size)); have TB_1 := Lib.hid (B7.keep hXw8 TB_1.out.lt TB_1.out); have TB_2 := Lib.hid (B7.keep hXw8 TB_2.out.lt TB_2.out); have TB_3 := Lib.hid (B7.keep hXw8 TB_3.out.lt TB_3.out); have TB_4 := Lib.hid (B7.keep hXw8 TB_4.out.lt TB_4.out); obtain ⟨⟨c3_0, c3_1, c3_2, c3_3, c3_4, c3_5, c3_6⟩, -⟩ := TB_3.out; have l3_w8 := TB_3.out.lt; clear hb hWw8 hXw8 hLw8_0 hLw8_1 hLw8_2 hLw8_3 hLw8_4) | (go_at_call 42; have hWw9 : Below w8.heap.size w8 w8 := Below.refl _ _; have hLw9_0 := hL_0.out.trans (hWw9.mono hL_0.out.size); have hLw9_1 := hL_1.out.trans (hWw9.mono hL_1.out.size); have hLw9_2 := hL_2.out.trans (hWw9.mono hL_2.out.size); have hLw9_3 := hL_3.out.trans (hWw9.mono hL_3.out.size); have hLw9_4 := hL_4.out.trans (hWw9.mono hL_4.out.size); (with_reducible refine (ex_f3 p3 k3 q3 d3 _ a3 b3 e3 f3 (Lib.hid (SlI.keep hLw9_3 si3.out)) (Lib.hid (SlV.below sv3.out hLw9_3)) (hLA.out.below hLw9_0)).mono ?_); rintro e w9 ⟨rfl, hb⟩; have hXw9 := hWw9.trans (hb.mono hWw9.size); have hL_0 := Lib.hid (hL_0.out.trans (hXw9.mono hL_0.out.size)); have hL_1 := Lib.hid (hL_1.out.trans (hXw9.mono hL_1.out.size)); have hL_2 := Lib.hid (hL_2.out.trans (hXw9.mono hL_2.out.size)); have hL_3 := Lib.hid (hL_3.out.trans (hXw9.mono hL_3.out.size)); have hL_4 := Lib.hid (hL_4.out.trans (hXw9.mono hL_4.out.size)); have TB_1 := Lib.hid (B7.keep hXw9 TB_1.out.lt TB_1.out); have TB_2 := Lib.hid (B7.keep hXw9 TB_2.out.lt TB_2.out); have TB_3 := Lib.hid (B7.keep hXw9 TB_3.out.lt TB_3.out); have TB_4 := Lib.hid (B7.keep hXw9 TB_4.out.lt TB_4.out); obtain ⟨⟨c4_0, c4_1, c4_2, c4_3, c4_4, c4_5, c4_6⟩, -⟩ := TB_4.out; have l4_w9 := TB_4.out.lt; clear hb hWw9 hXw9 hLw9_0 hLw9_1 hLw9_2 hLw9_3 hLw9_4) | (go_at_call 42; have hWw10 : Below w9.heap.size w9 w9 := Below.refl _ _; have hLw10_0 := hL_0.out.trans (hWw10.mono hL_0.out.size); have hLw10_1 := hL_1.out.trans (hWw10.mono hL_1.out.size); have hLw10_2 := hL_2.out.trans (hWw10.mono hL_2.out.size); have hLw10_3 := hL_3.out.trans (hWw10.mono hL_3.out.size); have hLw10_4 := hL_4.out.trans (hWw10.mono hL_4.out.size); (with_reducible refine (ex_f4 p4 k4 q4 d4 _ a4 b4 e4 f4 (Lib.hid (SlI.keep hLw10_4 si4.out)) (Lib.hid (SlV.below sv4.out hLw10_4)) (hLA.out.below hLw10_0)).mono ?_); rintro e w10 ⟨rfl, hb⟩; have hXw10 := hWw10.trans (hb.mono hWw10.size); have hL_0 := Lib.hid (hL_0.out.trans (hXw10.mono hL_0.out.size)); have hL_1 := Lib.hid (hL_1.out.trans (hXw10.mono hL_1.out.size)); have hL_2 := Lib.hid (hL_2.out.trans (hXw10.mono hL_2.out.size)); have hL_3 := Lib.hid (hL_3.out.trans (hXw10.mono hL_3.out.size)); have hL_4 := Lib.hid (hL_4.out.trans (hXw10.mono hL_4.out.size)); have TB_1 := Lib.hid (B7.keep hXw10 TB_1.out.lt TB_1.out); have TB_2 := Lib.hid (B7.keep hXw10 TB_2.out.lt TB_2.out); have TB_3 := Lib.hid (B7.keep hXw10 TB_3.out.lt TB_3.out); have TB_4 := Lib.hid (B7.keep hXw10 TB_4.out.lt TB_4.out); clear hb hWw10 hXw10 hLw10_0 hLw10_1 hLw10_2 hLw10_3 hLw10_4))
 go_ret
 exact ⟨rfl, hL_0.out⟩
end Go.Proofs.YteaaikmejacpaaaGreatDoor.Te


namespace Go.Proofs.YteaaikmejacpaaaGreatDoor.Te
open Go.ChangeShapes Go.WideShapes Go.ChangeAt Go.RowKit
open Fx Va Sh
set_option maxRecDepth 8000
set_option linter.unusedVariables false
set_option linter.unusedSimpArgs false

set_option maxHeartbeats 1000000 in
theorem tsmall (K B F R O : Int) (p : Option Addr) (n c : Nat) (q : Option Addr) (m d : Nat) (k : Int) (w : World) : Calls Tryz.prog 14 #[.agg #[.int .i64 K, .int .i64 B, .int .i64 F, .int .i64 R, .int .i64 O, .slice p n c, .slice q m d], .int .i64 k] w fun e w' => e = .returned (.bool (decide ((m : Int) <= k) && decide (n <= 20))) /\ Below w.heap.size w w' := by
 have K1 := Lib.hid ((Below.refl w.heap.size w).alloc (Nat.le_refl _) (Obj.cells #[Value.int .i64 K, Value.int .i64 B, Value.int .i64 F, Value.int .i64 R, Value.int .i64 O, Value.slice p n c, Value.slice q m d] 27))
 by_cases h1 : (m : Int) <= k
 ·have g1 : decide ((m : Int) <= k) = true := by simpa using h1
  by_cases h2 : n <= 20
  ·have g2 : decide (n <= 20) = true := by simpa using h2
   have g3 : decide ((n : Int) <= 20) = true := by simp; omega
   rw [g1, g2]
   clear h1 h2
   go_enter Tryz.func14, Tryz.ntmps14
   go_wp2_with fail
   go_ret
   exact ⟨rfl, K1.out⟩
  ·have g2 : decide (n <= 20) = false := by simpa using h2
   have g3 : decide ((n : Int) <= 20) = false := by simp; omega
   rw [g1, g2]
   clear h1 h2
   go_enter Tryz.func14, Tryz.ntmps14
   go_wp2_with fail
   go_ret
   exact ⟨rfl, K1.out⟩
 ·have g1 : decide ((m : Int) <= k) = false := by simpa using h1
  rw [g1]
  clear h1
  go_enter Tryz.func14, Tryz.ntmps14
  go_wp2_with fail
  go_ret
  exact ⟨rfl, K1.out⟩
/-- The point is determined by the number. -/
theorem pt_cell {zs : List Int} {a : Int} {j : Nat} (hv : vE zs = 0) (ha : 0 <= a) (hj : j < zs.length) : a / sp (zs.drop (j + 1)) % zs.getD j 0 = (pt zs a).getD j 0 /\ a / sp (zs.drop (j + 1)) / zs.getD j 0 = a / sp (zs.drop j) := by
 obtain ⟨_, hl, _, _, hd⟩ := valid_of hv
 refine ⟨(pt_get hj).symm, ?_⟩
 have e : sp (zs.drop j) = sp (zs.drop (j + 1)) * zs.getD j 0 := by rw [drop_cons hj]; rfl
 rw [pt_step (hd (j + 1)).1, e]
theorem of_inj : ∀ (zs xs ys : List Int) (S n : Int), zs.any low = false -> xs.length = zs.length -> ys.length = zs.length -> of S zs xs = some n -> of S zs ys = some n -> 0 <= S -> xs = ys
 | [], [], [], _, _, _, _, _, _, _, _ => rfl
 | [], [], y :: ys, _, _, _, _, h, _, _, _ => absurd h (by simp)
 | [], x :: xs, _, _, _, _, h, _, _, _, _ => absurd h (by simp)
 | z :: zs, [], _, _, _, _, h, _, _, _, _ => absurd h (by simp)
 | z :: zs, x :: xs, [], _, _, _, _, h, _, _, _ => absurd h (by simp)
 | z :: zs, x :: xs, y :: ys, S, n, hl, h1, h2, h3, h4, hS => by
  rw [List.any_cons, Bool.or_eq_false_iff] at hl
  by_cases c1 : 0 <= x /\ x < z
  ·by_cases c2 : 0 <= y /\ y < z
   ·rw [of_go c1] at h3
    rw [of_go c2] at h4
    have hz : 0 <= S * z := Int.mul_nonneg hS (by omega)
    obtain ⟨a1, a2, a3⟩ := of_bd zs xs (S * z + x) n hl.2 (by simpa using h1) h3 (by omega)
    obtain ⟨b1, b2, b3⟩ := of_bd zs ys (S * z + y) n hl.2 (by simpa using h2) h4 (by omega)
    have hxy : x = y := by
     rcases Int.lt_trichotomy x y with h | h | h
     ·have := Int.mul_le_mul_of_nonneg_right (show S * z + x + 1 <= S * z + y by omega) (show 0 <= sp zs by omega)
      omega
     ·exact h
     ·have := Int.mul_le_mul_of_nonneg_right (show S * z + y + 1 <= S * z + x by omega) (show 0 <= sp zs by omega)
      omega
    subst hxy
    rw [of_inj zs xs ys (S * z + x) n hl.2 (by simpa using h1) (by simpa using h2) h3 h4 (by omega)]
   ·rw [of_none c2] at h4; cases h4
  ·rw [of_none c1] at h3; cases h3
/-- The element at the point of a number. -/
theorem loc_pt {K B F R O : Int} {zs : List Int} {vs : List (Int × Int)} {i : Nat} (ht : tE K B F R O zs vs = 0) (hi : i < vs.length) : loc K B F R O zs vs (pt zs i) = ((i : Int), 0) := by
 obtain ⟨_, hv, hl, _⟩ := tE_ok ht
 unfold loc
 rw [if_neg (by simpa using ht), if_neg (by rw [pt_length]; simp), of_pt hv (by omega) (by omega)]
theorem loc_iff {K B F R O : Int} {zs : List Int} {vs : List (Int × Int)} {xs : List Int} {i : Nat} (h : (loc K B F R O zs vs xs).2 = 0) (hi : i < vs.length) : xs = pt zs i ↔ (loc K B F R O zs vs xs).1.toNat = i := by
 obtain ⟨ht, l0, l1⟩ := loc_bd h
 obtain ⟨_, hv, hl, _⟩ := tE_ok ht
 constructor
 ·rintro rfl
  rw [loc_pt ht hi]; rfl
 ·intro he
  unfold loc at h he l0
  rw [if_neg (by simpa using ht)] at h he l0
  by_cases hx : xs.length = zs.length
  ·rw [if_neg (by simpa using hx)] at h he l0
   cases ho : oA zs xs with
   | none => rw [ho] at h; cases h
   | some n =>
    rw [ho] at he l0
    dsimp only at he l0
    have hp := of_pt hv (show (0 : Int) <= i by omega) (show (i : Int) < sp zs by omega)
    rw [oA_ok hv hx] at ho
    rw [oA_ok hv (pt_length _ _)] at hp
    rw [show n = (i : Int) by omega] at ho
    exact of_inj zs xs _ 0 i (valid_of hv).2.1 hx (pt_length _ _) ho hp (Int.le_refl _)
  ·rw [if_pos hx] at h; cases h
theorem tE_set {K B F R O : Int} {zs : List Int} {vs : List (Int × Int)} {k : Nat} {a a' : Int} (ht : tE K B F R O zs vs = 0) (hv : vv K B F R O a a' = true) : tE K B F R O zs (vs.set k (a, a')) = 0 := by
 obtain ⟨h1, h2, h3, h4⟩ := tE_ok ht
 unfold tE
 rw [if_pos h1, if_neg (by rw [h2]; decide), List.length_set, if_neg]
 rw [Bool.or_eq_true]
 rintro (h | h)
 ·simp at h; exact h h3
 ·rw [List.any_eq_true] at h
  obtain ⟨v, hm, hb⟩ := h
  rcases List.mem_or_eq_of_mem_set hm with hm | rfl
  ·rw [List.any_eq_false] at h4
   exact h4 v hm hb
  ·simp [badV, hv] at hb
end Go.Proofs.YteaaikmejacpaaaGreatDoor.Te


namespace Go.Proofs.YteaaikmejacpaaaGreatDoor.Te
open Go.ChangeShapes Go.WideShapes Go.ChangeAt Go.RowKit
open Fx Va Sh
set_option maxRecDepth 8000
set_option linter.unusedVariables false
set_option linter.unusedSimpArgs false

set_option maxRecDepth 100000 in
set_option maxHeartbeats 2000000 in
theorem trpt (p : Option Addr) (zs : List Int) (c i : Nat) (w : World) (hv : vE zs = 0) (hi : (i : Int) < sp zs) (RA : Hid (SlI w p zs)) :
  Calls Tryz.prog 27 #[.slice p zs.length c, .int .i64 i] w fun e w' => ∃ q d, e = .returned (.slice q zs.length d) /\ SlI w' q (pt zs i) /\ Below w.heap.size w w' := by
 obtain ⟨h6, hlow, -, hsp, hd⟩ := valid_of hv
 have HD := Lib.hid hd
 have HLW := Lib.hid hlow
 have HP := Lib.hid fun j (hj : j < zs.length) => pt_cell (a := (i : Int)) hv (Int.natCast_nonneg i) hj
 have hi4 : i < 4096 := by omega
 have HPL := Lib.hid (pt_length zs i)
 obtain ⟨i0, hii, hz0, hz1, hz2⟩ := info_parts info3
 obtain ⟨n, hn⟩ : ∃ n, zs.length = n := ⟨_, rfl⟩
 have HN := Lib.hid hn
 rw [hn] at h6 HP HPL ⊢
 clear hn hd hlow hv
 go_enter Tryz.func27, Tryz.ntmps27
 go_wp2_with (refine wpList_make_full _ rfl _ _ 24 rfl w.heap.size 3 i0 (.int .i64 0) 1 Tryz.underlying24 hii hz0 hz1 .i64 .i64 _ _ n rfl rfl rfl rfl (by rw [hz2]; omega) (by unfold maxLen; omega) (Nat.le_refl _) ?_; intro w1 hown hg; have HB1 := Lib.hid (below_own (Nat.le_refl _) hg); have HO1 := Lib.hid hown; rw [show (Value.int IntKind.i64 0).cells = #[.int .i64 0] from rfl, toList_madeCells_one, Nat.mul_one] at HO1; clear hown hg)
 go_loopw [1, 6] (fun av jv wr => ∃ (j : Nat) (A : Int) (xs : List Int), av = .int .i64 A /\ jv = .int .i64 ((j : Int) - 1) /\ j <= n /\ 0 <= A /\ A <= 4096 /\ xs.length = n /\ Hid (A = (i : Int) / sp (zs.drop j)) /\ Hid (∀ k, j <= k -> k < n -> xs.getD k 0 = (pt zs i).getD k 0) /\ Hid (wr.ownsRow w.heap.size 3 1 (.slice (some ⟨w.heap.size, 0, none⟩) n n) n (xs.map (Value.int .i64))) /\ Hid (Below w.heap.size w wr)) (fun _ jv _ => (intOf jv + 1).toNat)
 case atStart =>
  refine ⟨n, i, List.replicate n 0, rfl, rfl, Nat.le_refl _, Int.natCast_nonneg _, by omega, List.length_replicate, Lib.hid ?_, Lib.hid (fun k h1 h2 => by omega), Lib.hid (by rw [List.map_replicate]; exact HO1.out), HB1⟩
  rw [List.drop_of_length_le (by rw [HN.out]; exact Nat.le_refl _)]
  show (i : Int) = i / 1
  rw [Int.ediv_one]
 case round =>
  obtain ⟨j, A, xs, rfl, rfl, hj, hA0, hA4, hx, HA, HX, HO, HB⟩ := hrel
  clear HO1 HB1 hii hz0 hz1 hz2
  cases j with
  | zero =>
   have HE : Hid (SlI wr (some ⟨w.heap.size, 0, none⟩) (pt zs i)) := Lib.hid (by
    have e : xs = pt zs i := List.ext_getElem (by rw [hx, HPL.out]) fun k h1 h2 => by
     have h := HX.out k (Nat.zero_le _) (by omega)
     rw [getD_at h1, getD_at h2] at h
     exact h
    rw [<- e]
    exact SlI_of HO.out hx)
   go_wp2_with fail
   go_ret
   exact ⟨_, _, rfl, HE.out, HB.out⟩
  | succ j =>
   rw [show ((j + 1 : Nat) : Int) - 1 = (j : Int) by omega]
   have hjn : j < n := by omega
   obtain ⟨b, o, rfl, hc⟩ := RA.out j (by rw [HN.out]; exact hjn)
   have hbw : b < w.heap.size := World.block_lt_of_cell? _ _ hc
   replace hc := Rg.keep HB.out hbw hc
   obtain ⟨p1, p2⟩ := HP.out j hjn
   have hz1 := pos_of HLW.out (k := j) (by rw [HN.out]; exact hjn)
   rw [<- HA.out] at p1 p2
   obtain ⟨z, hz⟩ : ∃ z, zs.getD j 0 = z := ⟨_, rfl⟩
   rw [hz] at hc p1 p2 hz1
   obtain ⟨m1, hm1⟩ : ∃ m, A % z = m := ⟨_, rfl⟩
   obtain ⟨d1, hd1⟩ : ∃ m, A / z = m := ⟨_, rfl⟩
   have hm2 : A.tmod z = m1 := by rw [Int.tmod_eq_emod_of_nonneg hA0]; exact hm1
   have hd2 : A.tdiv z = d1 := by rw [Int.tdiv_eq_ediv_of_nonneg hA0]; exact hd1
   have hd3 : 0 <= d1 := by rw [<- hd1]; exact Int.ediv_nonneg hA0 (by omega)
   have hd4 : d1 <= A := by rw [<- hd1]; exact Int.ediv_le_self _ hA0
   have hzn : ¬ z = 0 := by omega
   have wd : wrap64 d1 = d1 := w64 (by omega) (by omega)
   rw [hm1] at p1
   rw [hd1] at p2
   obtain ⟨s0, hs0⟩ : ∃ v, wr.cell? ⟨w.heap.size, j, none⟩ = some v := ⟨.int .i64 (xs.getD j 0), by
    have h := HO.out.cellAt j (by omega)
    rw [List.getElem?_map, List.getElem?_eq_getElem (by omega)] at h
    rw [getD_at (by omega)]; exact h⟩
   have hf0 := HO.out.frozenAt j
   have HP1 := Lib.hid p1
   have HP2 := Lib.hid p2
   have hj0 : (0 : Int) <= j := by omega
   have hj2 : (j : Int) < n := by omega
   have hb2 : b ≠ w.heap.size := by omega
   have hb3 : w.heap.size ≠ b := by omega
   clear hz p1 p2 HA
   go_wp2_with fail
   go_roundw
   case rel =>
    refine ⟨j, d1, xs.set j m1, rfl, by first | rfl | (congr 1; omega), by omega, hd3, by omega, by rw [List.length_set]; exact hx, HP2, Lib.hid (fun k h1 h2 => ?_), Lib.hid ?_, Lib.hid (HB.out.setCell (p := ⟨w.heap.size, j, none⟩) (Nat.le_refl _) _)⟩
    ·by_cases e : k = j
     ·subst e
      rw [<- HP1.out, List.getD_eq_getElem?_getD, List.getElem?_set_self (by omega)]; rfl
     ·rw [List.getD_eq_getElem?_getD, List.getElem?_set_ne (by omega), <- List.getD_eq_getElem?_getD]
      exact HX.out k (by omega) h2
    ·have h5 := (HO.out.stored j (.int .i64 m1)).1
     rw [List.map_set]
     exact h5
   case measure => (simp [intOf]) <;> omega
end Go.Proofs.YteaaikmejacpaaaGreatDoor.Te


namespace Go.Proofs.YteaaikmejacpaaaGreatDoor.Te
open Go.ChangeShapes Go.WideShapes Go.ChangeAt Go.RowKit
open Fx Va Sh
set_option maxRecDepth 8000
set_option linter.unusedVariables false
set_option linter.unusedSimpArgs false

set_option maxRecDepth 100000 in
set_option maxHeartbeats 2000000 in
theorem sg_a (K B F R O : Int) (p : Option Addr) (zs : List Int) (c : Nat) (q : Option Addr) (vs : List (Int × Int)) (d : Nat) (a a' : Int) (x : Option Addr) (xs : List Int) (e : Nat) (w : World) (b0 : -9223372036854775808 <= B) (b1 : B <= 9223372036854775807) (hn : zs.length <= maxLen) (hm : vs.length <= maxLen) (hx : xs.length <= maxLen) (RA : Hid (SlI w p zs)) (RB : Hid (SlV w q vs)) (RX : Hid (SlI w x xs)) (hLA : Tx.LA w) (hs : (decide ((vs.length : Int) <= 300) && decide (zs.length <= 20)) = false) :
  Calls Tryz.prog 6 #[Tn K B F R O p zs.length c q vs.length d, .agg #[.int .i64 a, .int .i64 a'], .slice x xs.length e] w fun en w' => en = .returned (.bool true) /\ Below w.heap.size w w' := by
 have HLA := Lib.hid hLA
 have EX := Lib.hid fun u h => exam12 u h
 have SM0 := fun u => tsmall K B F R O p zs.length c q vs.length d 300 u
 rw [hs] at SM0
 have SM := Lib.hid SM0
 obtain ⟨m, hmm⟩ : ∃ m, vs.length = m := ⟨_, rfl⟩
 rw [hmm] at SM ⊢
 have KB : Hid (Below w.heap.size w ((w.alloc (Obj.cells #[Value.int .i64 K, Value.int .i64 B, Value.int .i64 F, Value.int .i64 R, Value.int .i64 O, Value.slice p zs.length c, Value.slice q m d] 27)).alloc (Obj.cells #[Value.int .i64 a, Value.int .i64 a'] 29))) := Lib.hid (((Below.refl _ _).alloc (Nat.le_refl _) _).alloc (by simp) _)
 have TB : Hid (B7 ((w.alloc (Obj.cells #[Value.int .i64 K, Value.int .i64 B, Value.int .i64 F, Value.int .i64 R, Value.int .i64 O, Value.slice p zs.length c, Value.slice q m d] 27)).alloc (Obj.cells #[Value.int .i64 a, Value.int .i64 a'] 29)) (w.heap.size) (.int .i64 K) (.int .i64 B) (.int .i64 F) (.int .i64 R) (.int .i64 O) (.slice p zs.length c) (.slice q m d)) := Lib.hid ((B7.new w _ (.int .i64 K) (.int .i64 B) (.int .i64 F) (.int .i64 R) (.int .i64 O) (.slice p zs.length c) (.slice q m d)).alloc _)
 have y0 : ((w.alloc (Obj.cells #[Value.int .i64 K, Value.int .i64 B, Value.int .i64 F, Value.int .i64 R, Value.int .i64 O, Value.slice p zs.length c, Value.slice q m d] 27)).alloc (Obj.cells #[Value.int .i64 a, Value.int .i64 a'] 29)).cell? ⟨w.heap.size + 1, 0, none⟩ = some (.int .i64 a) := by go_cell
 have y1 : ((w.alloc (Obj.cells #[Value.int .i64 K, Value.int .i64 B, Value.int .i64 F, Value.int .i64 R, Value.int .i64 O, Value.slice p zs.length c, Value.slice q m d] 27)).alloc (Obj.cells #[Value.int .i64 a, Value.int .i64 a'] 29)).cell? ⟨w.heap.size + 1, 1, none⟩ = some (.int .i64 a') := by go_cell
 clear hs SM0 hm hmm
 unfold Tn at *
 go_enter Tryz.func6, Tryz.ntmps6
 go_wp2_with (first | (go_at_call 14; (with_reducible refine (SM.out _).mono ?_); rintro e w1 ⟨rfl, hb⟩; have KN := KB.out.trans (hb.mono KB.out.size); have TN9 := B7.keep hb TB.out.lt TB.out; have yl := World.block_lt_of_cell? _ _ y0; have y0 := Rg.keep hb yl y0; have y1 := Rg.keep hb yl y1; have KB := Lib.hid KN; have TB := Lib.hid TN9; obtain ⟨⟨c0, c1, c2, c3, c4, c5, c6⟩, -⟩ := TB.out; have lt9 : w.heap.size < w1.heap.size := TB.out.lt; have ly9 : w.heap.size + 1 < w1.heap.size := World.block_lt_of_cell? _ _ y0; clear KN TN9 yl; clear hb) | (go_at_call 15; (with_reducible refine (EX.out _ (HLA.out.below KB.out)).mono ?_); rintro e wX ⟨rfl, hb⟩; have KX := Lib.hid (KB.out.trans (hb.mono KB.out.size)); clear hb))
 go_ret
 exact ⟨rfl, KX.out⟩

set_option maxRecDepth 100000 in
set_option maxHeartbeats 2000000 in
theorem sg_b (K B F R O : Int) (p : Option Addr) (zs : List Int) (c : Nat) (q : Option Addr) (vs : List (Int × Int)) (d : Nat) (a a' : Int) (x : Option Addr) (xs : List Int) (e : Nat) (w : World) (b0 : -9223372036854775808 <= B) (b1 : B <= 9223372036854775807) (hn : zs.length <= maxLen) (hm : vs.length <= maxLen) (hx : xs.length <= maxLen) (RA : Hid (SlI w p zs)) (RB : Hid (SlV w q vs)) (RX : Hid (SlI w x xs)) (hLA : Tx.LA w) (hs : (decide ((vs.length : Int) <= 300) && decide (zs.length <= 20)) = true) (hl : 20 < xs.length) :
  Calls Tryz.prog 6 #[Tn K B F R O p zs.length c q vs.length d, .agg #[.int .i64 a, .int .i64 a'], .slice x xs.length e] w fun en w' => en = .returned (.bool true) /\ Below w.heap.size w w' := by
 have HLA := Lib.hid hLA
 have EX := Lib.hid fun u h => exam12 u h
 have SM0 := fun u => tsmall K B F R O p zs.length c q vs.length d 300 u
 rw [hs] at SM0
 have SM := Lib.hid SM0
 have g1 : decide ((20 : Int) < xs.length) = true := by simp; omega
 have g2 : decide (20 < xs.length) = true := by simpa using hl
 obtain ⟨m, hmm⟩ : ∃ m, vs.length = m := ⟨_, rfl⟩
 rw [hmm] at SM ⊢
 have KB : Hid (Below w.heap.size w ((w.alloc (Obj.cells #[Value.int .i64 K, Value.int .i64 B, Value.int .i64 F, Value.int .i64 R, Value.int .i64 O, Value.slice p zs.length c, Value.slice q m d] 27)).alloc (Obj.cells #[Value.int .i64 a, Value.int .i64 a'] 29))) := Lib.hid (((Below.refl _ _).alloc (Nat.le_refl _) _).alloc (by simp) _)
 have TB : Hid (B7 ((w.alloc (Obj.cells #[Value.int .i64 K, Value.int .i64 B, Value.int .i64 F, Value.int .i64 R, Value.int .i64 O, Value.slice p zs.length c, Value.slice q m d] 27)).alloc (Obj.cells #[Value.int .i64 a, Value.int .i64 a'] 29)) (w.heap.size) (.int .i64 K) (.int .i64 B) (.int .i64 F) (.int .i64 R) (.int .i64 O) (.slice p zs.length c) (.slice q m d)) := Lib.hid ((B7.new w _ (.int .i64 K) (.int .i64 B) (.int .i64 F) (.int .i64 R) (.int .i64 O) (.slice p zs.length c) (.slice q m d)).alloc _)
 have y0 : ((w.alloc (Obj.cells #[Value.int .i64 K, Value.int .i64 B, Value.int .i64 F, Value.int .i64 R, Value.int .i64 O, Value.slice p zs.length c, Value.slice q m d] 27)).alloc (Obj.cells #[Value.int .i64 a, Value.int .i64 a'] 29)).cell? ⟨w.heap.size + 1, 0, none⟩ = some (.int .i64 a) := by go_cell
 have y1 : ((w.alloc (Obj.cells #[Value.int .i64 K, Value.int .i64 B, Value.int .i64 F, Value.int .i64 R, Value.int .i64 O, Value.slice p zs.length c, Value.slice q m d] 27)).alloc (Obj.cells #[Value.int .i64 a, Value.int .i64 a'] 29)).cell? ⟨w.heap.size + 1, 1, none⟩ = some (.int .i64 a') := by go_cell
 clear hs SM0 hm hmm
 unfold Tn at *
 go_enter Tryz.func6, Tryz.ntmps6
 go_wp2_with (first | (go_at_call 14; (with_reducible refine (SM.out _).mono ?_); rintro e w1 ⟨rfl, hb⟩; have KN := KB.out.trans (hb.mono KB.out.size); have TN9 := B7.keep hb TB.out.lt TB.out; have yl := World.block_lt_of_cell? _ _ y0; have y0 := Rg.keep hb yl y0; have y1 := Rg.keep hb yl y1; have KB := Lib.hid KN; have TB := Lib.hid TN9; obtain ⟨⟨c0, c1, c2, c3, c4, c5, c6⟩, -⟩ := TB.out; have lt9 : w.heap.size < w1.heap.size := TB.out.lt; have ly9 : w.heap.size + 1 < w1.heap.size := World.block_lt_of_cell? _ _ y0; clear KN TN9 yl; clear hb) | (go_at_call 15; (with_reducible refine (EX.out _ (HLA.out.below KB.out)).mono ?_); rintro e wX ⟨rfl, hb⟩; have KX := Lib.hid (KB.out.trans (hb.mono KB.out.size)); clear hb))
 go_ret
 exact ⟨rfl, KX.out⟩

set_option maxRecDepth 100000 in
set_option maxHeartbeats 2000000 in
theorem sg_c (K B F R O : Int) (p : Option Addr) (zs : List Int) (c : Nat) (q : Option Addr) (vs : List (Int × Int)) (d : Nat) (a a' : Int) (x : Option Addr) (xs : List Int) (e : Nat) (w : World) (b0 : -9223372036854775808 <= B) (b1 : B <= 9223372036854775807) (hn : zs.length <= maxLen) (hm : vs.length <= maxLen) (hx : xs.length <= maxLen) (RA : Hid (SlI w p zs)) (RB : Hid (SlV w q vs)) (RX : Hid (SlI w x xs)) (hLA : Tx.LA w) (hs : (decide ((vs.length : Int) <= 300) && decide (zs.length <= 20)) = true) (hl : ¬ 20 < xs.length) (ht : tE K B F R O zs vs ≠ 0) :
  Calls Tryz.prog 6 #[Tn K B F R O p zs.length c q vs.length d, .agg #[.int .i64 a, .int .i64 a'], .slice x xs.length e] w fun en w' => en = .returned (.bool true) /\ Below w.heap.size w w' := by
 have HLA := Lib.hid hLA
 have EX := Lib.hid fun u h => exam12 u h
 have SM0 := fun u => tsmall K B F R O p zs.length c q vs.length d 300 u
 rw [hs] at SM0
 have SM := Lib.hid SM0
 have RV0 := fun u h1 h2 => rval K B F R O p zs c q vs d u hn hm h1 h2
 obtain ⟨E, hE⟩ : ∃ E, tE K B F R O zs vs = E := ⟨_, rfl⟩
 rw [hE] at RV0 ht
 have g1 : decide ((20 : Int) < xs.length) = false := by simp; omega
 have g2 : decide (20 < xs.length) = false := by simpa using hl
 have g3 : (E == 0) = false := by simpa using ht
 have g4 : (E != 0) = true := by simpa using ht
 obtain ⟨m, hmm⟩ : ∃ m, vs.length = m := ⟨_, rfl⟩
 rw [hmm] at SM RV0 ⊢
 have RVV := Lib.hid RV0
 have KB : Hid (Below w.heap.size w ((w.alloc (Obj.cells #[Value.int .i64 K, Value.int .i64 B, Value.int .i64 F, Value.int .i64 R, Value.int .i64 O, Value.slice p zs.length c, Value.slice q m d] 27)).alloc (Obj.cells #[Value.int .i64 a, Value.int .i64 a'] 29))) := Lib.hid (((Below.refl _ _).alloc (Nat.le_refl _) _).alloc (by simp) _)
 have TB : Hid (B7 ((w.alloc (Obj.cells #[Value.int .i64 K, Value.int .i64 B, Value.int .i64 F, Value.int .i64 R, Value.int .i64 O, Value.slice p zs.length c, Value.slice q m d] 27)).alloc (Obj.cells #[Value.int .i64 a, Value.int .i64 a'] 29)) (w.heap.size) (.int .i64 K) (.int .i64 B) (.int .i64 F) (.int .i64 R) (.int .i64 O) (.slice p zs.length c) (.slice q m d)) := Lib.hid ((B7.new w _ (.int .i64 K) (.int .i64 B) (.int .i64 F) (.int .i64 R) (.int .i64 O) (.slice p zs.length c) (.slice q m d)).alloc _)
 have y0 : ((w.alloc (Obj.cells #[Value.int .i64 K, Value.int .i64 B, Value.int .i64 F, Value.int .i64 R, Value.int .i64 O, Value.slice p zs.length c, Value.slice q m d] 27)).alloc (Obj.cells #[Value.int .i64 a, Value.int .i64 a'] 29)).cell? ⟨w.heap.size + 1, 0, none⟩ = some (.int .i64 a) := by go_cell
 have y1 : ((w.alloc (Obj.cells #[Value.int .i64 K, Value.int .i64 B, Value.int .i64 F, Value.int .i64 R, Value.int .i64 O, Value.slice p zs.length c, Value.slice q m d] 27)).alloc (Obj.cells #[Value.int .i64 a, Value.int .i64 a'] 29)).cell? ⟨w.heap.size + 1, 1, none⟩ = some (.int .i64 a') := by go_cell
 clear hs SM0 hm hmm RV0 hE ht
 unfold Tn at *
 go_enter Tryz.func6, Tryz.ntmps6
 go_wp2_with (first | (go_at_call 14; (with_reducible refine (SM.out _).mono ?_); rintro e w1 ⟨rfl, hb⟩; have KN := KB.out.trans (hb.mono KB.out.size); have TN9 := B7.keep hb TB.out.lt TB.out; have yl := World.block_lt_of_cell? _ _ y0; have y0 := Rg.keep hb yl y0; have y1 := Rg.keep hb yl y1; have KB := Lib.hid KN; have TB := Lib.hid TN9; obtain ⟨⟨c0, c1, c2, c3, c4, c5, c6⟩, -⟩ := TB.out; have lt9 : w.heap.size < w1.heap.size := TB.out.lt; have ly9 : w.heap.size + 1 < w1.heap.size := World.block_lt_of_cell? _ _ y0; clear KN TN9 yl; clear hb) | (go_at_call 21; (with_reducible refine (RVV.out _ (Lib.hid (SlI.keep KB.out RA.out)) (Lib.hid (SlV.below RB.out KB.out))).mono ?_); rintro e w2 ⟨rfl, hb⟩; have KN := KB.out.trans (hb.mono KB.out.size); have TN9 := B7.keep hb TB.out.lt TB.out; have yl := World.block_lt_of_cell? _ _ y0; have y0 := Rg.keep hb yl y0; have y1 := Rg.keep hb yl y1; have KB := Lib.hid KN; have TB := Lib.hid TN9; obtain ⟨⟨c0, c1, c2, c3, c4, c5, c6⟩, -⟩ := TB.out; have lt9 : w.heap.size < w2.heap.size := TB.out.lt; have ly9 : w.heap.size + 1 < w2.heap.size := World.block_lt_of_cell? _ _ y0; clear KN TN9 yl; clear hb) | (go_at_call 15; (with_reducible refine (EX.out _ (HLA.out.below KB.out)).mono ?_); rintro e wX ⟨rfl, hb⟩; have KX := Lib.hid (KB.out.trans (hb.mono KB.out.size)); clear hb))
 go_ret
 exact ⟨rfl, KX.out⟩

set_option maxRecDepth 100000 in
set_option maxHeartbeats 2000000 in
theorem sg_d (K B F R O : Int) (p : Option Addr) (zs : List Int) (c : Nat) (q : Option Addr) (vs : List (Int × Int)) (d : Nat) (a a' : Int) (x : Option Addr) (xs : List Int) (e : Nat) (w : World) (b0 : -9223372036854775808 <= B) (b1 : B <= 9223372036854775807) (hn : zs.length <= maxLen) (hm : vs.length <= maxLen) (hx : xs.length <= maxLen) (RA : Hid (SlI w p zs)) (RB : Hid (SlV w q vs)) (RX : Hid (SlI w x xs)) (hLA : Tx.LA w) (hs : (decide ((vs.length : Int) <= 300) && decide (zs.length <= 20)) = true) (hl : ¬ 20 < xs.length) (ht : tE K B F R O zs vs = 0) (he : setE K B F R O zs vs xs a a' ≠ 0) :
  Calls Tryz.prog 6 #[Tn K B F R O p zs.length c q vs.length d, .agg #[.int .i64 a, .int .i64 a'], .slice x xs.length e] w fun en w' => en = .returned (.bool true) /\ Below w.heap.size w w' := by
 have HLA := Lib.hid hLA
 have EX := Lib.hid fun u h => exam12 u h
 have SM0 := fun u => tsmall K B F R O p zs.length c q vs.length d 300 u
 rw [hs] at SM0
 have SM := Lib.hid SM0
 have RV0 := fun u h1 h2 => rval K B F R O p zs c q vs d u hn hm h1 h2
 rw [ht] at RV0
 have SET0 := fun u h1 h2 h3 => (tset K B F R O p zs c q vs d a a' u b0 b1 hn hm h1 h2 x xs e hx h3).mono (fun en u' h => (show TU 0 0 0 0 0 [] [] 0 0 (setE K B F R O zs vs xs a a') u en u' from by
  rcases h with ⟨_, h⟩ | ⟨h, _⟩
  ·exact h.tu rfl rfl
  ·exact absurd h he))
 unfold TU at SET0
 obtain ⟨E, hE⟩ : ∃ E, setE K B F R O zs vs xs a a' = E := ⟨_, rfl⟩
 rw [hE] at SET0 he
 have g1 : decide ((20 : Int) < xs.length) = false := by simp; omega
 have g2 : decide (20 < xs.length) = false := by simpa using hl
 have g3 : (E == 0) = false := by simpa using he
 have g4 : (E != 0) = true := by simpa using he
 obtain ⟨m, hmm⟩ : ∃ m, vs.length = m := ⟨_, rfl⟩
 rw [hmm] at SM RV0 SET0 ⊢
 have RVV := Lib.hid RV0
 have SET := Lib.hid SET0
 have KB : Hid (Below w.heap.size w ((w.alloc (Obj.cells #[Value.int .i64 K, Value.int .i64 B, Value.int .i64 F, Value.int .i64 R, Value.int .i64 O, Value.slice p zs.length c, Value.slice q m d] 27)).alloc (Obj.cells #[Value.int .i64 a, Value.int .i64 a'] 29))) := Lib.hid (((Below.refl _ _).alloc (Nat.le_refl _) _).alloc (by simp) _)
 have TB : Hid (B7 ((w.alloc (Obj.cells #[Value.int .i64 K, Value.int .i64 B, Value.int .i64 F, Value.int .i64 R, Value.int .i64 O, Value.slice p zs.length c, Value.slice q m d] 27)).alloc (Obj.cells #[Value.int .i64 a, Value.int .i64 a'] 29)) (w.heap.size) (.int .i64 K) (.int .i64 B) (.int .i64 F) (.int .i64 R) (.int .i64 O) (.slice p zs.length c) (.slice q m d)) := Lib.hid ((B7.new w _ (.int .i64 K) (.int .i64 B) (.int .i64 F) (.int .i64 R) (.int .i64 O) (.slice p zs.length c) (.slice q m d)).alloc _)
 have y0 : ((w.alloc (Obj.cells #[Value.int .i64 K, Value.int .i64 B, Value.int .i64 F, Value.int .i64 R, Value.int .i64 O, Value.slice p zs.length c, Value.slice q m d] 27)).alloc (Obj.cells #[Value.int .i64 a, Value.int .i64 a'] 29)).cell? ⟨w.heap.size + 1, 0, none⟩ = some (.int .i64 a) := by go_cell
 have y1 : ((w.alloc (Obj.cells #[Value.int .i64 K, Value.int .i64 B, Value.int .i64 F, Value.int .i64 R, Value.int .i64 O, Value.slice p zs.length c, Value.slice q m d] 27)).alloc (Obj.cells #[Value.int .i64 a, Value.int .i64 a'] 29)).cell? ⟨w.heap.size + 1, 1, none⟩ = some (.int .i64 a') := by go_cell
 clear hs SM0 hm hmm RV0 hE ht he SET0
 unfold Tn at *
 go_enter Tryz.func6, Tryz.ntmps6
 go_wp2_with (first | (go_at_call 14; (with_reducible refine (SM.out _).mono ?_); rintro e w1 ⟨rfl, hb⟩; have KN := KB.out.trans (hb.mono KB.out.size); have TN9 := B7.keep hb TB.out.lt TB.out; have yl := World.block_lt_of_cell? _ _ y0; have y0 := Rg.keep hb yl y0; have y1 := Rg.keep hb yl y1; have KB := Lib.hid KN; have TB := Lib.hid TN9; obtain ⟨⟨c0, c1, c2, c3, c4, c5, c6⟩, -⟩ := TB.out; have lt9 : w.heap.size < w1.heap.size := TB.out.lt; have ly9 : w.heap.size + 1 < w1.heap.size := World.block_lt_of_cell? _ _ y0; clear KN TN9 yl; clear hb) | (go_at_call 21; (with_reducible refine (RVV.out _ (Lib.hid (SlI.keep KB.out RA.out)) (Lib.hid (SlV.below RB.out KB.out))).mono ?_); rintro e w2 ⟨rfl, hb⟩; have KN := KB.out.trans (hb.mono KB.out.size); have TN9 := B7.keep hb TB.out.lt TB.out; have yl := World.block_lt_of_cell? _ _ y0; have y0 := Rg.keep hb yl y0; have y1 := Rg.keep hb yl y1; have KB := Lib.hid KN; have TB := Lib.hid TN9; obtain ⟨⟨c0, c1, c2, c3, c4, c5, c6⟩, -⟩ := TB.out; have lt9 : w.heap.size < w2.heap.size := TB.out.lt; have ly9 : w.heap.size + 1 < w2.heap.size := World.block_lt_of_cell? _ _ y0; clear KN TN9 yl; clear hb) | (go_at_call 23; (with_reducible refine (SET.out _ (Lib.hid (SlI.keep KB.out RA.out)) (Lib.hid (SlV.below RB.out KB.out)) (Lib.hid (SlI.keep KB.out RX.out))).mono ?_); rintro e w3 ⟨ps, cs, qs, ds, rfl, -, -, -, -, hsi, hsv, hb⟩; have KN := KB.out.trans (hb.mono KB.out.size); have TN9 := B7.keep hb TB.out.lt TB.out; have yl := World.block_lt_of_cell? _ _ y0; have y0 := Rg.keep hb yl y0; have y1 := Rg.keep hb yl y1; have KB := Lib.hid KN; have TB := Lib.hid TN9; obtain ⟨⟨c0, c1, c2, c3, c4, c5, c6⟩, -⟩ := TB.out; have lt9 : w.heap.size < w3.heap.size := TB.out.lt; have ly9 : w.heap.size + 1 < w3.heap.size := World.block_lt_of_cell? _ _ y0; clear KN TN9 yl; have HSI := Lib.hid hsi; have HSV := Lib.hid hsv; clear hb hsi hsv) | (have KB := Lib.hid (KB.out.alloc KB.out.size (Obj.cells #[Value.int .i64 0, Value.int .i64 0, Value.int .i64 0, Value.int .i64 0, Value.int .i64 0, Value.slice ps 0 cs, Value.slice qs 0 ds] 27)); go_at_call 15; (with_reducible refine (EX.out _ (HLA.out.below KB.out)).mono ?_); rintro e wX ⟨rfl, hb⟩; have KX := Lib.hid (KB.out.trans (hb.mono KB.out.size)); clear hb))
 go_ret
 exact ⟨rfl, KX.out⟩
end Go.Proofs.YteaaikmejacpaaaGreatDoor.Te
