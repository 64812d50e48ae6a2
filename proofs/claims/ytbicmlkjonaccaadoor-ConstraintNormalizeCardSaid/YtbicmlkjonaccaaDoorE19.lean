/- examples of the laws on constraints. -/
import Derived.Test.YtbicmlkjonaccaaDoorK17

namespace Go.Proofs.YtbicmlkjonaccaaDoor.Ln
open Go.ChangeShapes Go.WideShapes Go.ChangeAt Go.RowKit
open Go.Proofs.YtbicmlkjonaccaaDoor.Nm
set_option linter.unusedVariables false
set_option linter.unusedSimpArgs false
set_option maxRecDepth 8000

set_option maxRecDepth 100000 in
set_option maxHeartbeats 8000000 in
theorem exam6 (w : World) (hL : Hid (∀ w', Below w.heap.size w w' -> LA w')) : Calls Tryd.prog 21 #[] w fun e w' => e = .returned (.bool true) /\ Below w.heap.size w w' := by
 have F1 := Lib.hid fun w => form2 (-3) 2 4 w (by decide) (by decide) (by decide) (by decide)
 have F2 := Lib.hid fun w => form1 (-3) 2 w (by decide) (by decide)
 have F3 := Lib.hid fun w => form1 (-3) 1 w (by decide) (by decide)
 have F4 := Lib.hid fun w => form1 0 1 w (by decide) (by decide)
 have F5 := Lib.hid fun w => form1 (-2) 1 w (by decide) (by decide)
 have T1 := Lib.hid fun p c w h => ti1 p c w h
 have T2 := Lib.hid fun p c w h => ti2 p c w h
 have N1 := Lib.hid fun p c w h => ni1 p c w h
 have O1 := Lib.hid fun p c w h => no1 p c w h
 have G1 := Lib.hid fun w => form2 (-2) 1 2 w (by decide) (by decide) (by decide) (by decide)
 have G2 := Lib.hid fun w => form0 (-1) w
 have G3 := Lib.hid fun w => form1 2 (-1) w (by decide) (by decide)
 have G4 := Lib.hid fun w => form1 (-2) 1 w (by decide) (by decide)
 have G5 := Lib.hid fun w => form1 (-3) 1 w (by decide) (by decide)
 have C1 : Hid (∀ p q c d w, Hid (SlM w p [mI 1, mJ 2]) -> Hid (SlM w q [mI 1, mJ 2]) -> Calls Tryd.prog 30 #[Cv (-2) p 2 c false, Cv (-2) q 2 d false] w fun e w' => e = .returned (.bool true) /\ Below w.heap.size w w') := Lib.hid fun p q c d w h1 h2 => conEq (-2) p q [mI 1, mJ 2] c d false w (by decide) h1 h2
 have C2 : Hid (∀ p q c d w, Hid (SlM w p []) -> Hid (SlM w q []) -> Calls Tryd.prog 30 #[Cv (-1) p 0 c false, Cv (-1) q 0 d false] w fun e w' => e = .returned (.bool true) /\ Below w.heap.size w w') := Lib.hid fun p q c d w h1 h2 => conEq (-1) p q [] c d false w (by decide) h1 h2
 have C3 : Hid (∀ p q c d w, Hid (SlM w p [mI (-1)]) -> Hid (SlM w q [mI (-1)]) -> Calls Tryd.prog 30 #[Cv 2 p 1 c false, Cv 2 q 1 d false] w fun e w' => e = .returned (.bool true) /\ Below w.heap.size w w') := Lib.hid fun p q c d w h1 h2 => conEq 2 p q [mI (-1)] c d false w (by decide) h1 h2
 have C4 : Hid (∀ p q c d w, Hid (SlM w p [mI 1]) -> Hid (SlM w q [mI 1]) -> Calls Tryd.prog 30 #[Cv (-2) p 1 c false, Cv (-2) q 1 d false] w fun e w' => e = .returned (.bool true) /\ Below w.heap.size w w') := Lib.hid fun p q c d w h1 h2 => conEq (-2) p q [mI 1] c d false w (by decide) h1 h2
 have FM := Lib.hid fun p c w h l => fo1 p c w h l
 unfold Cv at *
 go_enter Tryd.func21, Tryd.ntmps21
 have BW : Below w.heap.size w w := Below.refl _ _
 go_wp2_with fail
 refine (F1.out _).mono ?_
 rintro e u1 ⟨p1, c1, rfl, _, S1, hb⟩
 (try unfold Lv); (try unfold Cv); (try dsimp only [List.length_cons, List.length_nil]); (try dsimp only)
 replace BW := BW.trans (hb.mono BW.size)
 go_wp2_with fail
 refine (T1.out _ _ _ S1).mono ?_
 rintro e u2 ⟨q1, d1, rfl, S2, _, hb⟩
 (try unfold Lv); (try unfold Cv); (try dsimp only [List.length_cons, List.length_nil]); (try dsimp only)
 replace BW := BW.trans (hb.mono BW.size)
 go_wp2_with fail
 have a1_0 : (u2.alloc (Obj.cells #[Value.int .i64 (-2), Value.slice q1 2 d1, Value.bool false] 36)).cell? ⟨u2.heap.size, 0, none⟩ = some (.int .i64 (-2)) := by go_cell
 have a1_1 : (u2.alloc (Obj.cells #[Value.int .i64 (-2), Value.slice q1 2 d1, Value.bool false] 36)).cell? ⟨u2.heap.size, 1, none⟩ = some (.slice q1 2 d1) := by go_cell
 have a1_2 : (u2.alloc (Obj.cells #[Value.int .i64 (-2), Value.slice q1 2 d1, Value.bool false] 36)).cell? ⟨u2.heap.size, 2, none⟩ = some (.bool false) := by go_cell
 have S2 := SlM.keep ((Below.refl u2.heap.size u2).alloc (Nat.le_refl _) (Obj.cells #[Value.int .i64 (-2), Value.slice q1 2 d1, Value.bool false] 36)) S2
 replace BW := BW.alloc BW.size (Obj.cells #[Value.int .i64 (-2), Value.slice q1 2 d1, Value.bool false] 36)
 have K1 : Below (u2.alloc (Obj.cells #[Value.int .i64 (-2), Value.slice q1 2 d1, Value.bool false] 36)).heap.size (u2.alloc (Obj.cells #[Value.int .i64 (-2), Value.slice q1 2 d1, Value.bool false] 36)) (u2.alloc (Obj.cells #[Value.int .i64 (-2), Value.slice q1 2 d1, Value.bool false] 36)) := Below.refl _ _
 have lt1 : u2.heap.size < (u2.alloc (Obj.cells #[Value.int .i64 (-2), Value.slice q1 2 d1, Value.bool false] 36)).heap.size := by simp
 generalize u2.alloc (Obj.cells #[Value.int .i64 (-2), Value.slice q1 2 d1, Value.bool false] 36) = z1 at *
 refine (F2.out _).mono ?_
 rintro e u3 ⟨p3, c3, rfl, _, S3, hb⟩
 (try unfold Lv); (try unfold Cv); (try dsimp only [List.length_cons, List.length_nil]); (try dsimp only)
 replace BW := BW.trans (hb.mono BW.size)
 replace K1 := K1.trans (hb.mono K1.size)
 go_wp2_with fail
 refine (T2.out _ _ _ S3).mono ?_
 rintro e u4 ⟨q2, d2, rfl, S4, _, hb⟩
 (try unfold Lv); (try unfold Cv); (try dsimp only [List.length_cons, List.length_nil]); (try dsimp only)
 replace BW := BW.trans (hb.mono BW.size)
 replace K1 := K1.trans (hb.mono K1.size)
 go_wp2_with fail
 have a2_0 : (u4.alloc (Obj.cells #[Value.int .i64 (-1), Value.slice q2 0 d2, Value.bool false] 36)).cell? ⟨u4.heap.size, 0, none⟩ = some (.int .i64 (-1)) := by go_cell
 have a2_1 : (u4.alloc (Obj.cells #[Value.int .i64 (-1), Value.slice q2 0 d2, Value.bool false] 36)).cell? ⟨u4.heap.size, 1, none⟩ = some (.slice q2 0 d2) := by go_cell
 have a2_2 : (u4.alloc (Obj.cells #[Value.int .i64 (-1), Value.slice q2 0 d2, Value.bool false] 36)).cell? ⟨u4.heap.size, 2, none⟩ = some (.bool false) := by go_cell
 replace BW := BW.alloc BW.size (Obj.cells #[Value.int .i64 (-1), Value.slice q2 0 d2, Value.bool false] 36)
 replace K1 := K1.alloc K1.size (Obj.cells #[Value.int .i64 (-1), Value.slice q2 0 d2, Value.bool false] 36)
 have K2 : Below (u4.alloc (Obj.cells #[Value.int .i64 (-1), Value.slice q2 0 d2, Value.bool false] 36)).heap.size (u4.alloc (Obj.cells #[Value.int .i64 (-1), Value.slice q2 0 d2, Value.bool false] 36)) (u4.alloc (Obj.cells #[Value.int .i64 (-1), Value.slice q2 0 d2, Value.bool false] 36)) := Below.refl _ _
 have lt2 : u4.heap.size < (u4.alloc (Obj.cells #[Value.int .i64 (-1), Value.slice q2 0 d2, Value.bool false] 36)).heap.size := by simp
 generalize u4.alloc (Obj.cells #[Value.int .i64 (-1), Value.slice q2 0 d2, Value.bool false] 36) = z2 at *
 refine (F3.out _).mono ?_
 rintro e u5 ⟨p5', c5', rfl, _, S5, hb⟩
 (try unfold Lv); (try unfold Cv); (try dsimp only [List.length_cons, List.length_nil]); (try dsimp only)
 replace BW := BW.trans (hb.mono BW.size)
 replace K1 := K1.trans (hb.mono K1.size)
 replace K2 := K2.trans (hb.mono K2.size)
 go_wp2_with fail
 refine (N1.out _ _ _ S5).mono ?_
 rintro e u6 ⟨g6, q6, d6, rfl, n0, n1, n2, S6, hb⟩
 (try unfold Lv); (try unfold Cv); (try dsimp only [List.length_cons, List.length_nil]); (try dsimp only)
 replace BW := BW.trans (hb.mono BW.size)
 replace K1 := K1.trans (hb.mono K1.size)
 replace K2 := K2.trans (hb.mono K2.size)
 have K3 : Below u6.heap.size u6 u6 := Below.refl _ _
 go_wp2_with fail
 refine (F4.out _).mono ?_
 rintro e u7 ⟨p4, c4, rfl, _, S7, hb⟩
 (try unfold Lv); (try unfold Cv); (try dsimp only [List.length_cons, List.length_nil]); (try dsimp only)
 replace BW := BW.trans (hb.mono BW.size)
 replace K1 := K1.trans (hb.mono K1.size)
 replace K2 := K2.trans (hb.mono K2.size)
 replace K3 := K3.trans (hb.mono K3.size)
 have K4 : Below u7.heap.size u7 u7 := Below.refl _ _
 go_wp2_with fail
 refine (F5.out _).mono ?_
 rintro e u8 ⟨p5, c5, rfl, _, S8, hb⟩
 (try unfold Lv); (try unfold Cv); (try dsimp only [List.length_cons, List.length_nil]); (try dsimp only)
 replace BW := BW.trans (hb.mono BW.size)
 replace K1 := K1.trans (hb.mono K1.size)
 replace K2 := K2.trans (hb.mono K2.size)
 replace K3 := K3.trans (hb.mono K3.size)
 replace K4 := K4.trans (hb.mono K4.size)
 go_wp2_with fail
 have SC : SlC (u8.alloc (Obj.cells #[Value.int .i64 0, Value.slice p4 1 c4, Value.bool false, Value.int .i64 (-2), Value.slice p5 1 c5, Value.bool false] 36)) (some ⟨u8.heap.size, 0, none⟩) [(0, [mI 1]), (-2, [mI 1])] := fun i hi => by
  rcases i with _ | _ | i
  ·exact ⟨u8.heap.size, 0, p4, c4, rfl, by simp, by simp, by simp, SlM.keep (K4.alloc K4.size _) S7⟩
  ·exact ⟨u8.heap.size, 0, p5, c5, rfl, by simp, by simp, by simp, SlM.keep ((Below.refl _ _).alloc (Nat.le_refl _) _) S8⟩
  ·exact absurd (show i + 2 < 2 from hi) (by omega)
 replace BW := BW.alloc BW.size (Obj.cells #[Value.int .i64 0, Value.slice p4 1 c4, Value.bool false, Value.int .i64 (-2), Value.slice p5 1 c5, Value.bool false] 36)
 replace K1 := K1.alloc K1.size (Obj.cells #[Value.int .i64 0, Value.slice p4 1 c4, Value.bool false, Value.int .i64 (-2), Value.slice p5 1 c5, Value.bool false] 36)
 replace K2 := K2.alloc K2.size (Obj.cells #[Value.int .i64 0, Value.slice p4 1 c4, Value.bool false, Value.int .i64 (-2), Value.slice p5 1 c5, Value.bool false] 36)
 replace K3 := K3.alloc K3.size (Obj.cells #[Value.int .i64 0, Value.slice p4 1 c4, Value.bool false, Value.int .i64 (-2), Value.slice p5 1 c5, Value.bool false] 36)
 replace K4 := K4.alloc K4.size (Obj.cells #[Value.int .i64 0, Value.slice p4 1 c4, Value.bool false, Value.int .i64 (-2), Value.slice p5 1 c5, Value.bool false] 36)
 refine (O1.out _ _ _ SC).mono ?_
 rintro e u9 ⟨g9, c9, q9, d9, rfl, m0, m1, m2, S9, hb⟩
 (try unfold Lv); (try unfold Cv); (try dsimp only [List.length_cons, List.length_nil]); (try dsimp only)
 replace BW := BW.trans (hb.mono BW.size)
 replace K1 := K1.trans (hb.mono K1.size)
 replace K2 := K2.trans (hb.mono K2.size)
 replace K3 := K3.trans (hb.mono K3.size)
 replace K4 := K4.trans (hb.mono K4.size)
 clear S1 S3 S5 S7 S8 SC K4
 replace a1_0 := Rg.keep K1 lt1 a1_0
 replace a1_1 := Rg.keep K1 lt1 a1_1
 replace a1_2 := Rg.keep K1 lt1 a1_2
 replace a2_0 := Rg.keep K2 lt2 a2_0
 replace a2_1 := Rg.keep K2 lt2 a2_1
 replace a2_2 := Rg.keep K2 lt2 a2_2
 have lg6 : g6 < u6.heap.size := World.block_lt_of_cell? _ _ n0
 replace n0 := Rg.keep K3 lg6 n0
 replace n1 := Rg.keep K3 lg6 n1
 replace n2 := Rg.keep K3 lg6 n2
 have R1 := Lib.hid (SlM.keep K1 S2)
 have R2 : ∀ z, SlM z q2 [] := fun z i hi => absurd hi (by simp)
 have R3 := Lib.hid (SlM.keep K3 S6)
 have R4 := Lib.hid S9
 have HW := Lib.hid BW
 clear S2 S4 S6 S9 K1 K2 K3 BW hb lt1 lt2 lg6
 have HS : Hid (∀ u u' : World, (u.cell? ⟨u2.heap.size, 0, none⟩ = some (.int .i64 (-2)) /\ u.cell? ⟨u2.heap.size, 1, none⟩ = some (.slice q1 2 d1) /\ u.cell? ⟨u2.heap.size, 2, none⟩ = some (.bool false) /\ u.cell? ⟨u4.heap.size, 0, none⟩ = some (.int .i64 (-1)) /\ u.cell? ⟨u4.heap.size, 1, none⟩ = some (.slice q2 0 d2) /\ u.cell? ⟨u4.heap.size, 2, none⟩ = some (.bool false) /\ u.cell? ⟨g6, 0, none⟩ = some (.int .i64 2) /\ u.cell? ⟨g6, 1, none⟩ = some (.slice q6 1 d6) /\ u.cell? ⟨g6, 2, none⟩ = some (.bool false) /\ u.cell? ⟨g9, 0, none⟩ = some (.int .i64 (-2)) /\ u.cell? ⟨g9, 1, none⟩ = some (.slice q9 1 d9) /\ u.cell? ⟨g9, 2, none⟩ = some (.bool false) /\ Below u9.heap.size u9 u) -> Below u.heap.size u u' -> (u'.cell? ⟨u2.heap.size, 0, none⟩ = some (.int .i64 (-2)) /\ u'.cell? ⟨u2.heap.size, 1, none⟩ = some (.slice q1 2 d1) /\ u'.cell? ⟨u2.heap.size, 2, none⟩ = some (.bool false) /\ u'.cell? ⟨u4.heap.size, 0, none⟩ = some (.int .i64 (-1)) /\ u'.cell? ⟨u4.heap.size, 1, none⟩ = some (.slice q2 0 d2) /\ u'.cell? ⟨u4.heap.size, 2, none⟩ = some (.bool false) /\ u'.cell? ⟨g6, 0, none⟩ = some (.int .i64 2) /\ u'.cell? ⟨g6, 1, none⟩ = some (.slice q6 1 d6) /\ u'.cell? ⟨g6, 2, none⟩ = some (.bool false) /\ u'.cell? ⟨g9, 0, none⟩ = some (.int .i64 (-2)) /\ u'.cell? ⟨g9, 1, none⟩ = some (.slice q9 1 d9) /\ u'.cell? ⟨g9, 2, none⟩ = some (.bool false) /\ Below u9.heap.size u9 u')) := Lib.hid (fun u u' h hb => ⟨Rg.keep hb (World.block_lt_of_cell? _ _ h.1) h.1, Rg.keep hb (World.block_lt_of_cell? _ _ h.2.1) h.2.1, Rg.keep hb (World.block_lt_of_cell? _ _ h.2.2.1) h.2.2.1, Rg.keep hb (World.block_lt_of_cell? _ _ h.2.2.2.1) h.2.2.2.1, Rg.keep hb (World.block_lt_of_cell? _ _ h.2.2.2.2.1) h.2.2.2.2.1, Rg.keep hb (World.block_lt_of_cell? _ _ h.2.2.2.2.2.1) h.2.2.2.2.2.1, Rg.keep hb (World.block_lt_of_cell? _ _ h.2.2.2.2.2.2.1) h.2.2.2.2.2.2.1, Rg.keep hb (World.block_lt_of_cell? _ _ h.2.2.2.2.2.2.2.1) h.2.2.2.2.2.2.2.1, Rg.keep hb (World.block_lt_of_cell? _ _ h.2.2.2.2.2.2.2.2.1) h.2.2.2.2.2.2.2.2.1, Rg.keep hb (World.block_lt_of_cell? _ _ h.2.2.2.2.2.2.2.2.2.1) h.2.2.2.2.2.2.2.2.2.1, Rg.keep hb (World.block_lt_of_cell? _ _ h.2.2.2.2.2.2.2.2.2.2.1) h.2.2.2.2.2.2.2.2.2.2.1, Rg.keep hb (World.block_lt_of_cell? _ _ h.2.2.2.2.2.2.2.2.2.2.2.1) h.2.2.2.2.2.2.2.2.2.2.2.1, h.2.2.2.2.2.2.2.2.2.2.2.2.trans (hb.mono h.2.2.2.2.2.2.2.2.2.2.2.2.size)⟩)
 go_wp2_with fail
 refine Rk.begin (S := fun wS => wS.cell? ⟨u2.heap.size, 0, none⟩ = some (.int .i64 (-2)) /\ wS.cell? ⟨u2.heap.size, 1, none⟩ = some (.slice q1 2 d1) /\ wS.cell? ⟨u2.heap.size, 2, none⟩ = some (.bool false) /\ wS.cell? ⟨u4.heap.size, 0, none⟩ = some (.int .i64 (-1)) /\ wS.cell? ⟨u4.heap.size, 1, none⟩ = some (.slice q2 0 d2) /\ wS.cell? ⟨u4.heap.size, 2, none⟩ = some (.bool false) /\ wS.cell? ⟨g6, 0, none⟩ = some (.int .i64 2) /\ wS.cell? ⟨g6, 1, none⟩ = some (.slice q6 1 d6) /\ wS.cell? ⟨g6, 2, none⟩ = some (.bool false) /\ wS.cell? ⟨g9, 0, none⟩ = some (.int .i64 (-2)) /\ wS.cell? ⟨g9, 1, none⟩ = some (.slice q9 1 d9) /\ wS.cell? ⟨g9, 2, none⟩ = some (.bool false) /\ Below u9.heap.size u9 wS) 40 (by kernel_rfl) ⟨a1_0, a1_1, a1_2, a2_0, a2_1, a2_2, n0, n1, n2, m0, m1, m2, (Below.refl _ _).drew⟩ (fun hHeld => ?_)
 refine Rk.takeP (i := 0) (v := ?_) rfl (by kernel_rfl) (by kernel_rfl) (by kernel_rfl) (by kernel_rfl) (fun _ _ _ h => h) (Or.inl ⟨by kernel_rfl, ?_⟩) (by assumption) ?_
 rotate_left
 ·((intro w hSw; go_simp) <;> with_reducible rfl)
 try simp only [Act.put, List.setIfInBounds_toArray, List.set_cons_zero, List.set_cons_succ]
 refine Rk.takeP (i := 1) (v := ?_) rfl (by kernel_rfl) (by kernel_rfl) (by kernel_rfl) (by kernel_rfl) (fun _ _ _ h => h) (Or.inl ⟨by kernel_rfl, ?_⟩) (by assumption) ?_
 rotate_left
 ·((intro w hSw; go_simp) <;> with_reducible rfl)
 try simp only [Act.put, List.setIfInBounds_toArray, List.set_cons_zero, List.set_cons_succ]
 refine Rk.takeP (i := 2) (v := ?_) rfl (by kernel_rfl) (by kernel_rfl) (by kernel_rfl) (by kernel_rfl) (fun _ _ _ h => h) (Or.inl ⟨by kernel_rfl, ?_⟩) (by assumption) ?_
 rotate_left
 ·((intro w hSw; go_simp) <;> with_reducible rfl)
 try simp only [Act.put, List.setIfInBounds_toArray, List.set_cons_zero, List.set_cons_succ]
 refine Rk.takeP (i := 3) (v := ?_) rfl (by kernel_rfl) (by kernel_rfl) (by kernel_rfl) (by kernel_rfl) (fun _ _ _ h => h) (Or.inl ⟨by kernel_rfl, ?_⟩) (by assumption) ?_
 rotate_left
 ·((intro w hSw; go_simp) <;> with_reducible rfl)
 try simp only [Act.put, List.setIfInBounds_toArray, List.set_cons_zero, List.set_cons_succ]
 refine Rk.takeP (i := 4) (v := ?_) rfl (by kernel_rfl) (by kernel_rfl) (by kernel_rfl) (by kernel_rfl) (fun _ _ _ h => h) (Or.inl ⟨by kernel_rfl, ?_⟩) (by assumption) ?_
 rotate_left
 ·((intro w hSw; go_simp) <;> with_reducible rfl)
 try simp only [Act.put, List.setIfInBounds_toArray, List.set_cons_zero, List.set_cons_succ]
 refine Rk.takeP (i := 5) (v := ?_) rfl (by kernel_rfl) (by kernel_rfl) (by kernel_rfl) (by kernel_rfl) (fun _ _ _ h => h) (Or.inl ⟨by kernel_rfl, ?_⟩) (by assumption) ?_
 rotate_left
 ·((intro w hSw; go_simp) <;> with_reducible rfl)
 try simp only [Act.put, List.setIfInBounds_toArray, List.set_cons_zero, List.set_cons_succ]
 refine Rk.takeP (i := 6) (v := ?_) rfl (by kernel_rfl) (by kernel_rfl) (by kernel_rfl) (by kernel_rfl) (fun _ _ _ h => h) (Or.inl ⟨by kernel_rfl, ?_⟩) (by assumption) ?_
 rotate_left
 ·((intro w hSw; go_simp) <;> with_reducible rfl)
 try simp only [Act.put, List.setIfInBounds_toArray, List.set_cons_zero, List.set_cons_succ]
 refine Rk.take [40] (i := 7) (v := ?_) rfl (by kernel_rfl) (by kernel_rfl) (by kernel_rfl) (by kernel_rfl) (by kernel_rfl) (fun _ _ _ h => h) (Or.inl ⟨by kernel_rfl, ?_⟩) (by assumption) ?_
 rotate_left
 ·((intro w hSw; (try dsimp only at hSw); go_simp) <;> with_reducible rfl)
 try simp only [Act.put, List.setIfInBounds_toArray, List.set_cons_zero, List.set_cons_succ]
 refine Rk.one (i := 8) (by kernel_rfl) rfl (fun KK hK => ?_)
 rw [if_pos (by kernel_rfl)]
 go_simp
 ((with_reducible refine (G1.out _).mono ?_); rintro e v8 ⟨x8, k8, rfl, _, V8, hb⟩)
 ((try unfold Lv); (try dsimp only [List.length_cons, List.length_nil]))
 first | (refine hK.out _ _ (fun _ => HS.out _ _ hHeld (hb)) (fun hHeld => ?_)) | (refine hK.out _ _ (HS.out _ _ hHeld (hb)) (fun hHeld => ?_)) | (go_wp2_with fail; refine hK.out _ _ (HS.out _ _ hHeld (hb)) (fun hHeld => ?_))
 clear hK KK
 refine Rk.takeP (i := 9) (v := ?_) rfl (by kernel_rfl) (by kernel_rfl) (by kernel_rfl) (by kernel_rfl) (fun _ _ _ h => h) (Or.inl ⟨by kernel_rfl, ?_⟩) (by assumption) ?_
 rotate_left
 ·((intro w hSw; go_simp) <;> with_reducible rfl)
 try simp only [Act.put, List.setIfInBounds_toArray, List.set_cons_zero, List.set_cons_succ]
 refine Rk.one (i := 10) (by kernel_rfl) rfl (fun KK hK => ?_)
 rw [if_pos (by kernel_rfl)]
 go_simp
 ((with_reducible refine (C1.out q1 x8 d1 k8 _ (Lib.hid (SlM.keep hHeld.2.2.2.2.2.2.2.2.2.2.2.2 R1.out)) (Lib.hid V8)).mono ?_); rintro e v10 ⟨rfl, hb⟩)
 first | (refine hK.out _ _ (fun _ => HS.out _ _ hHeld (hb)) (fun hHeld => ?_)) | (refine hK.out _ _ (HS.out _ _ hHeld (hb)) (fun hHeld => ?_)) | (go_wp2_with fail; refine hK.out _ _ (HS.out _ _ hHeld (hb)) (fun hHeld => ?_))
 clear hK KK
 refine Rk.takeP (i := 11) (v := ?_) rfl (by kernel_rfl) (by kernel_rfl) (by kernel_rfl) (by kernel_rfl) (fun _ _ _ h => h) (Or.inl ⟨by kernel_rfl, ?_⟩) (by assumption) ?_
 rotate_left
 ·((intro w hSw; go_simp) <;> with_reducible rfl)
 try simp only [Act.put, List.setIfInBounds_toArray, List.set_cons_zero, List.set_cons_succ]
 refine Rk.takeP (i := 12) (v := ?_) rfl (by kernel_rfl) (by kernel_rfl) (by kernel_rfl) (by kernel_rfl) (fun _ _ _ h => h) (Or.inl ⟨by kernel_rfl, ?_⟩) (by assumption) ?_
 rotate_left
 ·((intro w hSw; go_simp) <;> with_reducible rfl)
 try simp only [Act.put, List.setIfInBounds_toArray, List.set_cons_zero, List.set_cons_succ]
 refine Rk.take [40] (i := 13) (v := ?_) rfl (by kernel_rfl) (by kernel_rfl) (by kernel_rfl) (by kernel_rfl) (by kernel_rfl) (fun _ _ _ h => h) (Or.inl ⟨by kernel_rfl, ?_⟩) (by assumption) ?_
 rotate_left
 ·((intro w hSw; (try dsimp only at hSw); go_simp) <;> with_reducible rfl)
 try simp only [Act.put, List.setIfInBounds_toArray, List.set_cons_zero, List.set_cons_succ]
 refine Rk.one (i := 14) (by kernel_rfl) rfl (fun KK hK => ?_)
 rw [if_pos (by kernel_rfl)]
 go_simp
 ((with_reducible refine (G2.out _).mono ?_); rintro e v14 ⟨x14, k14, rfl, _, V14, hb⟩)
 ((try unfold Lv); (try dsimp only [List.length_cons, List.length_nil]))
 first | (refine hK.out _ _ (fun _ => HS.out _ _ hHeld (hb)) (fun hHeld => ?_)) | (refine hK.out _ _ (HS.out _ _ hHeld (hb)) (fun hHeld => ?_)) | (go_wp2_with fail; refine hK.out _ _ (HS.out _ _ hHeld (hb)) (fun hHeld => ?_))
 clear hK KK
 refine Rk.takeP (i := 15) (v := ?_) rfl (by kernel_rfl) (by kernel_rfl) (by kernel_rfl) (by kernel_rfl) (fun _ _ _ h => h) (Or.inl ⟨by kernel_rfl, ?_⟩) (by assumption) ?_
 rotate_left
 ·((intro w hSw; go_simp) <;> with_reducible rfl)
 try simp only [Act.put, List.setIfInBounds_toArray, List.set_cons_zero, List.set_cons_succ]
 refine Rk.one (i := 16) (by kernel_rfl) rfl (fun KK hK => ?_)
 rw [if_pos (by kernel_rfl)]
 go_simp
 ((with_reducible refine (C2.out q2 x14 d2 k14 _ (Lib.hid (R2 _)) (Lib.hid V14)).mono ?_); rintro e v16 ⟨rfl, hb⟩)
 first | (refine hK.out _ _ (fun _ => HS.out _ _ hHeld (hb)) (fun hHeld => ?_)) | (refine hK.out _ _ (HS.out _ _ hHeld (hb)) (fun hHeld => ?_)) | (go_wp2_with fail; refine hK.out _ _ (HS.out _ _ hHeld (hb)) (fun hHeld => ?_))
 clear hK KK
 refine Rk.takeP (i := 17) (v := ?_) rfl (by kernel_rfl) (by kernel_rfl) (by kernel_rfl) (by kernel_rfl) (fun _ _ _ h => h) (Or.inl ⟨by kernel_rfl, ?_⟩) (by assumption) ?_
 rotate_left
 ·((intro w hSw; go_simp) <;> with_reducible rfl)
 try simp only [Act.put, List.setIfInBounds_toArray, List.set_cons_zero, List.set_cons_succ]
 refine Rk.takeP (i := 18) (v := ?_) rfl (by kernel_rfl) (by kernel_rfl) (by kernel_rfl) (by kernel_rfl) (fun _ _ _ h => h) (Or.inl ⟨by kernel_rfl, ?_⟩) (by assumption) ?_
 rotate_left
 ·((intro w hSw; go_simp) <;> with_reducible rfl)
 try simp only [Act.put, List.setIfInBounds_toArray, List.set_cons_zero, List.set_cons_succ]
 refine Rk.takeP (i := 19) (v := ?_) rfl (by kernel_rfl) (by kernel_rfl) (by kernel_rfl) (by kernel_rfl) (fun _ _ _ h => h) (Or.inl ⟨by kernel_rfl, ?_⟩) (by assumption) ?_
 rotate_left
 ·((intro w hSw; go_simp) <;> with_reducible rfl)
 try simp only [Act.put, List.setIfInBounds_toArray, List.set_cons_zero, List.set_cons_succ]
 refine Rk.takeP (i := 20) (v := ?_) rfl (by kernel_rfl) (by kernel_rfl) (by kernel_rfl) (by kernel_rfl) (fun _ _ _ h => h) (Or.inl ⟨by kernel_rfl, ?_⟩) (by assumption) ?_
 rotate_left
 ·((intro w hSw; go_simp) <;> with_reducible rfl)
 try simp only [Act.put, List.setIfInBounds_toArray, List.set_cons_zero, List.set_cons_succ]
 refine Rk.take [40] (i := 21) (v := ?_) rfl (by kernel_rfl) (by kernel_rfl) (by kernel_rfl) (by kernel_rfl) (by kernel_rfl) (fun _ _ _ h => h) (Or.inl ⟨by kernel_rfl, ?_⟩) (by assumption) ?_
 rotate_left
 ·((intro w hSw; (try dsimp only at hSw); go_simp) <;> with_reducible rfl)
 try simp only [Act.put, List.setIfInBounds_toArray, List.set_cons_zero, List.set_cons_succ]
 refine Rk.one (i := 22) (by kernel_rfl) rfl (fun KK hK => ?_)
 rw [if_pos (by kernel_rfl)]
 go_simp
 ((with_reducible refine (G3.out _).mono ?_); rintro e v22 ⟨x22, k22, rfl, _, V22, hb⟩)
 ((try unfold Lv); (try dsimp only [List.length_cons, List.length_nil]))
 first | (refine hK.out _ _ (fun _ => HS.out _ _ hHeld (hb)) (fun hHeld => ?_)) | (refine hK.out _ _ (HS.out _ _ hHeld (hb)) (fun hHeld => ?_)) | (go_wp2_with fail; refine hK.out _ _ (HS.out _ _ hHeld (hb)) (fun hHeld => ?_))
 clear hK KK
 refine Rk.takeP (i := 23) (v := ?_) rfl (by kernel_rfl) (by kernel_rfl) (by kernel_rfl) (by kernel_rfl) (fun _ _ _ h => h) (Or.inl ⟨by kernel_rfl, ?_⟩) (by assumption) ?_
 rotate_left
 ·((intro w hSw; go_simp) <;> with_reducible rfl)
 try simp only [Act.put, List.setIfInBounds_toArray, List.set_cons_zero, List.set_cons_succ]
 refine Rk.one (i := 24) (by kernel_rfl) rfl (fun KK hK => ?_)
 rw [if_pos (by kernel_rfl)]
 go_simp
 ((with_reducible refine (C3.out q6 x22 d6 k22 _ (Lib.hid (SlM.keep hHeld.2.2.2.2.2.2.2.2.2.2.2.2 R3.out)) (Lib.hid V22)).mono ?_); rintro e v24 ⟨rfl, hb⟩)
 first | (refine hK.out _ _ (fun _ => HS.out _ _ hHeld (hb)) (fun hHeld => ?_)) | (refine hK.out _ _ (HS.out _ _ hHeld (hb)) (fun hHeld => ?_)) | (go_wp2_with fail; refine hK.out _ _ (HS.out _ _ hHeld (hb)) (fun hHeld => ?_))
 clear hK KK
 refine Rk.takeP (i := 25) (v := ?_) rfl (by kernel_rfl) (by kernel_rfl) (by kernel_rfl) (by kernel_rfl) (fun _ _ _ h => h) (Or.inl ⟨by kernel_rfl, ?_⟩) (by assumption) ?_
 rotate_left
 ·((intro w hSw; go_simp) <;> with_reducible rfl)
 try simp only [Act.put, List.setIfInBounds_toArray, List.set_cons_zero, List.set_cons_succ]
 refine Rk.takeP (i := 26) (v := ?_) rfl (by kernel_rfl) (by kernel_rfl) (by kernel_rfl) (by kernel_rfl) (fun _ _ _ h => h) (Or.inl ⟨by kernel_rfl, ?_⟩) (by assumption) ?_
 rotate_left
 ·((intro w hSw; go_simp) <;> with_reducible rfl)
 try simp only [Act.put, List.setIfInBounds_toArray, List.set_cons_zero, List.set_cons_succ]
 refine Rk.takeP (i := 27) (v := ?_) rfl (by kernel_rfl) (by kernel_rfl) (by kernel_rfl) (by kernel_rfl) (fun _ _ _ h => h) (Or.inl ⟨by kernel_rfl, ?_⟩) (by assumption) ?_
 rotate_left
 ·((intro w hSw; go_simp) <;> with_reducible rfl)
 try simp only [Act.put, List.setIfInBounds_toArray, List.set_cons_zero, List.set_cons_succ]
 refine Rk.takeP (i := 28) (v := ?_) rfl (by kernel_rfl) (by kernel_rfl) (by kernel_rfl) (by kernel_rfl) (fun _ _ _ h => h) (Or.inl ⟨by kernel_rfl, ?_⟩) (by assumption) ?_
 rotate_left
 ·((intro w hSw; go_simp) <;> with_reducible rfl)
 try simp only [Act.put, List.setIfInBounds_toArray, List.set_cons_zero, List.set_cons_succ]
 refine Rk.take [40] (i := 29) (v := ?_) rfl (by kernel_rfl) (by kernel_rfl) (by kernel_rfl) (by kernel_rfl) (by kernel_rfl) (fun _ _ _ h => h) (Or.inl ⟨by kernel_rfl, ?_⟩) (by assumption) ?_
 rotate_left
 ·((intro w hSw; (try dsimp only at hSw); go_simp) <;> with_reducible rfl)
 try simp only [Act.put, List.setIfInBounds_toArray, List.set_cons_zero, List.set_cons_succ]
 refine Rk.one (i := 30) (by kernel_rfl) rfl (fun KK hK => ?_)
 rw [if_pos (by kernel_rfl)]
 go_simp
 ((with_reducible refine (G4.out _).mono ?_); rintro e v30 ⟨x30, k30, rfl, _, V30, hb⟩)
 ((try unfold Lv); (try dsimp only [List.length_cons, List.length_nil]))
 first | (refine hK.out _ _ (fun _ => HS.out _ _ hHeld (hb)) (fun hHeld => ?_)) | (refine hK.out _ _ (HS.out _ _ hHeld (hb)) (fun hHeld => ?_)) | (go_wp2_with fail; refine hK.out _ _ (HS.out _ _ hHeld (hb)) (fun hHeld => ?_))
 clear hK KK
 refine Rk.takeP (i := 31) (v := ?_) rfl (by kernel_rfl) (by kernel_rfl) (by kernel_rfl) (by kernel_rfl) (fun _ _ _ h => h) (Or.inl ⟨by kernel_rfl, ?_⟩) (by assumption) ?_
 rotate_left
 ·((intro w hSw; go_simp) <;> with_reducible rfl)
 try simp only [Act.put, List.setIfInBounds_toArray, List.set_cons_zero, List.set_cons_succ]
 refine Rk.one (i := 32) (by kernel_rfl) rfl (fun KK hK => ?_)
 rw [if_pos (by kernel_rfl)]
 go_simp
 ((with_reducible refine (C4.out q9 x30 d9 k30 _ (Lib.hid (SlM.keep hHeld.2.2.2.2.2.2.2.2.2.2.2.2 R4.out)) (Lib.hid V30)).mono ?_); rintro e v32 ⟨rfl, hb⟩)
 first | (refine hK.out _ _ (fun _ => HS.out _ _ hHeld (hb)) (fun hHeld => ?_)) | (refine hK.out _ _ (HS.out _ _ hHeld (hb)) (fun hHeld => ?_)) | (go_wp2_with fail; refine hK.out _ _ (HS.out _ _ hHeld (hb)) (fun hHeld => ?_))
 clear hK KK
 refine Rk.takeP (i := 33) (v := ?_) rfl (by kernel_rfl) (by kernel_rfl) (by kernel_rfl) (by kernel_rfl) (fun _ _ _ h => h) (Or.inl ⟨by kernel_rfl, ?_⟩) (by assumption) ?_
 rotate_left
 ·((intro w hSw; go_simp) <;> with_reducible rfl)
 try simp only [Act.put, List.setIfInBounds_toArray, List.set_cons_zero, List.set_cons_succ]
 refine Rk.takeP (i := 34) (v := ?_) rfl (by kernel_rfl) (by kernel_rfl) (by kernel_rfl) (by kernel_rfl) (fun _ _ _ h => h) (Or.inl ⟨by kernel_rfl, ?_⟩) (by assumption) ?_
 rotate_left
 ·((intro w hSw; go_simp) <;> with_reducible rfl)
 try simp only [Act.put, List.setIfInBounds_toArray, List.set_cons_zero, List.set_cons_succ]
 refine Rk.one (i := 35) (by kernel_rfl) rfl (fun KK hK => ?_)
 rw [if_pos (by kernel_rfl)]
 go_simp
 ((with_reducible refine (G5.out _).mono ?_); rintro e v35 ⟨x35, k35, rfl, _, V35, hb⟩)
 ((try unfold Lv); (try dsimp only [List.length_cons, List.length_nil]))
 first | (refine hK.out _ _ (fun _ => HS.out _ _ hHeld (hb)) (fun hHeld => ?_)) | (refine hK.out _ _ (HS.out _ _ hHeld (hb)) (fun hHeld => ?_)) | (go_wp2_with fail; refine hK.out _ _ (HS.out _ _ hHeld (hb)) (fun hHeld => ?_))
 clear hK KK
 refine Rk.takeP (i := 36) (v := ?_) rfl (by kernel_rfl) (by kernel_rfl) (by kernel_rfl) (by kernel_rfl) (fun _ _ _ h => h) (Or.inl ⟨by kernel_rfl, ?_⟩) (by assumption) ?_
 rotate_left
 ·((intro w hSw; go_simp) <;> with_reducible rfl)
 try simp only [Act.put, List.setIfInBounds_toArray, List.set_cons_zero, List.set_cons_succ]
 refine Rk.one (i := 37) (by kernel_rfl) rfl (fun KK hK => ?_)
 rw [if_pos (by kernel_rfl)]
 go_simp
 ((with_reducible refine (FM.out x35 k35 _ V35 (hL.out _ (HW.out.trans ((hHeld.2.2.2.2.2.2.2.2.2.2.2.2).mono HW.out.size)))).mono ?_); rintro e v37 ⟨rfl, hb⟩)
 first | (refine hK.out _ _ (fun _ => HS.out _ _ hHeld (hb)) (fun hHeld => ?_)) | (refine hK.out _ _ (HS.out _ _ hHeld (hb)) (fun hHeld => ?_)) | (go_wp2_with fail; refine hK.out _ _ (HS.out _ _ hHeld (hb)) (fun hHeld => ?_))
 clear hK KK
 refine Rk.takeP (i := 38) (v := ?_) rfl (by kernel_rfl) (by kernel_rfl) (by kernel_rfl) (by kernel_rfl) (fun _ _ _ h => h) (Or.inl ⟨by kernel_rfl, ?_⟩) (by assumption) ?_
 rotate_left
 ·((intro w hSw; go_simp) <;> with_reducible rfl)
 try simp only [Act.put, List.setIfInBounds_toArray, List.set_cons_zero, List.set_cons_succ]
 refine Rk.takeP (i := 39) (v := ?_) rfl (by kernel_rfl) (by kernel_rfl) (by kernel_rfl) (by kernel_rfl) (fun _ _ _ h => h) (Or.inl ⟨by kernel_rfl, ?_⟩) (by assumption) ?_
 rotate_left
 ·((intro w hSw; go_simp) <;> with_reducible rfl)
 try simp only [Act.put, List.setIfInBounds_toArray, List.set_cons_zero, List.set_cons_succ]
 refine Rk.tail [40] [_] (by kernel_rfl) (by kernel_rfl) rfl (by decide) ?_

 have KZ := HW.out.trans ((hHeld.2.2.2.2.2.2.2.2.2.2.2.2).mono HW.out.size)
 go_wp2_with fail
 go_ret
 exact ⟨rfl, KZ⟩
end Go.Proofs.YtbicmlkjonaccaaDoor.Ln
