/- Apply of package value. -/
import Derived.Test.YteaaikmejacpaaaGreatDoorR0
import Derived.Test.YteaaikmejacpaaaGreatDoorR7
import Derived.Laws.StructEq
import Derived.Lib.Hide

namespace Go.Proofs.YteaaikmejacpaaaGreatDoor.Va
open Go.ChangeShapes Go.WideShapes Go.ChangeAt Go.RowKit
open Fr Fx
set_option maxRecDepth 8000
set_option linter.unusedVariables false
set_option linter.unusedSimpArgs false
set_option maxRecDepth 8000
set_option maxHeartbeats 4000000 in
theorem c_ap9 (op K B F R O : Int) {n1 d1 n2 d2 c x y : Int} (w : World) (h : op = 9) (CH : Hid (∀ w, Calls Tryz.prog 123 #[.bool (decide (c <= 0)), Fx.V2 n1 d1, Fx.V2 n2 d2] w (Ret (Fx.V2 x y) w)))
  (VT : Hid (∀ w, Calls Tryz.prog 46 #[T5 K B F R O] w (Ret (.int .i64 0) w))) (V1 : Hid (∀ w, Calls Tryz.prog 48 #[T5 K B F R O, V2 n1 d1] w (Ret (.bool true) w))) (V2 : Hid (∀ w, Calls Tryz.prog 48 #[T5 K B F R O, Fx.V2 n2 d2] w (Ret (.bool true) w)))
  (CP : Hid (∀ w, Calls Tryz.prog 124 #[T5 K B F R O, Fx.V2 n1 d1, Fx.V2 n2 d2] w (Ret (.int .i64 c) w))) :
  Calls Tryz.prog 100 #[.int .i64 op, T5 K B F R O, Fx.V2 n1 d1, Fx.V2 n2 d2] w (Ret (Frac3 x y 0) w) := by
 subst h
 have o8 : ((9 : Int) != 8) = true := rfl
 go_enter Tryz.func100, Tryz.ntmps100
 go_wp2_with (first | (go_at_call 46; (with_reducible refine (VT.out _).mono ?_); rintro e w1 ⟨rfl, hb1⟩; have hc1 := (bcell hb1).1; have hf1 := (bcell hb1).2; have z1_0 : w.heap.size < w1.heap.size := SqB.z hb1; have z1_1 : w.heap.size + 1 < w1.heap.size := SqB.z hb1; have z1_2 : w.heap.size + 1 + 1 < w1.heap.size := SqB.z hb1; have z1_3 : w.heap.size + 1 + 1 + 1 < w1.heap.size := SqB.z hb1; have K1 : Below w.heap.size w w1 := SqB.t hb1) | (go_at_call 48; (with_reducible refine (V1.out _).mono ?_); rintro e w2 ⟨rfl, hb2⟩; have hc2 := (bcell hb2).1; have hf2 := (bcell hb2).2; have z2_0 : w.heap.size < w2.heap.size := SqB.z hb2; have z2_1 : w.heap.size + 1 < w2.heap.size := SqB.z hb2; have z2_2 : w.heap.size + 1 + 1 < w2.heap.size := SqB.z hb2; have z2_3 : w.heap.size + 1 + 1 + 1 < w2.heap.size := SqB.z hb2; have K2 : Below w.heap.size w w2 := SqB.t hb2) | (go_at_call 48; (with_reducible refine (V2.out _).mono ?_); rintro e w3 ⟨rfl, hb3⟩; have hc3 := (bcell hb3).1; have hf3 := (bcell hb3).2; have z3_0 : w.heap.size < w3.heap.size := SqB.z hb3; have z3_1 : w.heap.size + 1 < w3.heap.size := SqB.z hb3; have z3_2 : w.heap.size + 1 + 1 < w3.heap.size := SqB.z hb3; have z3_3 : w.heap.size + 1 + 1 + 1 < w3.heap.size := SqB.z hb3; have K3 : Below w.heap.size w w3 := SqB.t hb3))
 have hz : w3.cell? ⟨w.heap.size, 0, none⟩ = some (.int .i64 K) /\ w3.cell? ⟨w.heap.size, 1, none⟩ = some (.int .i64 B) /\ w3.cell? ⟨w.heap.size, 2, none⟩ = some (.int .i64 F) /\ w3.cell? ⟨w.heap.size, 3, none⟩ = some (.int .i64 R) /\ w3.cell? ⟨w.heap.size, 4, none⟩ = some (.int .i64 O) /\ w3.cell? ⟨w.heap.size + 1, 0, none⟩ = some (.int .i64 n1) /\ w3.cell? ⟨w.heap.size + 1, 1, none⟩ = some (.int .i64 d1) /\ w3.cell? ⟨w.heap.size + 1 + 1, 0, none⟩ = some (.int .i64 n2) /\ w3.cell? ⟨w.heap.size + 1 + 1, 1, none⟩ = some (.int .i64 d2) /\ Rg.RC (w.heap.size + 1 + 1 + 1) w3 /\ w3.heap.size <= w3.heap.size /\ Below w.heap.size w w3 := ⟨Rg.keep hb3 z2_0 (Rg.keep hb2 z1_0 (Rg.keep hb1 (by simp <;> omega) (by go_cell))), Rg.keep hb3 z2_0 (Rg.keep hb2 z1_0 (Rg.keep hb1 (by simp <;> omega) (by go_cell))), Rg.keep hb3 z2_0 (Rg.keep hb2 z1_0 (Rg.keep hb1 (by simp <;> omega) (by go_cell))), Rg.keep hb3 z2_0 (Rg.keep hb2 z1_0 (Rg.keep hb1 (by simp <;> omega) (by go_cell))), Rg.keep hb3 z2_0 (Rg.keep hb2 z1_0 (Rg.keep hb1 (by simp <;> omega) (by go_cell))), Rg.keep hb3 z2_1 (Rg.keep hb2 z1_1 (Rg.keep hb1 (by simp <;> omega) (by go_cell))), Rg.keep hb3 z2_1 (Rg.keep hb2 z1_1 (Rg.keep hb1 (by simp <;> omega) (by go_cell))), Rg.keep hb3 z2_2 (Rg.keep hb2 z1_2 (Rg.keep hb1 (by simp <;> omega) (by go_cell))), Rg.keep hb3 z2_2 (Rg.keep hb2 z1_2 (Rg.keep hb1 (by simp <;> omega) (by go_cell))), Rg.RC.keep hb3 z2_3 (Rg.RC.keep hb2 z1_3 (Rg.RC.keep hb1 (by simp <;> omega) (Rg.RC.mk (a := 0) (b := 0) (by go_cell) (by go_cell) (by simp only [frozen?_alloc_cells]; exact Rg.notFrozen (by omega)) (by simp only [frozen?_alloc_cells]; exact Rg.notFrozen (by omega))))), Nat.le_refl _, K3⟩
 have z0 : w.heap.size <= w.heap.size + 1 + 1 + 1 := by omega
 clear hb1 hb2 hb3 hc1 hc2 hc3 hf1 hf2 hf3 K1 K2 K3
 have HS : Hid (∀ u u' : World, (u.cell? ⟨w.heap.size, 0, none⟩ = some (.int .i64 K) /\ u.cell? ⟨w.heap.size, 1, none⟩ = some (.int .i64 B) /\ u.cell? ⟨w.heap.size, 2, none⟩ = some (.int .i64 F) /\ u.cell? ⟨w.heap.size, 3, none⟩ = some (.int .i64 R) /\ u.cell? ⟨w.heap.size, 4, none⟩ = some (.int .i64 O) /\ u.cell? ⟨w.heap.size + 1, 0, none⟩ = some (.int .i64 n1) /\ u.cell? ⟨w.heap.size + 1, 1, none⟩ = some (.int .i64 d1) /\ u.cell? ⟨w.heap.size + 1 + 1, 0, none⟩ = some (.int .i64 n2) /\ u.cell? ⟨w.heap.size + 1 + 1, 1, none⟩ = some (.int .i64 d2) /\ Rg.RC (w.heap.size + 1 + 1 + 1) u /\ w3.heap.size <= u.heap.size /\ Below w.heap.size w u) -> Below u.heap.size u u' -> (u'.cell? ⟨w.heap.size, 0, none⟩ = some (.int .i64 K) /\ u'.cell? ⟨w.heap.size, 1, none⟩ = some (.int .i64 B) /\ u'.cell? ⟨w.heap.size, 2, none⟩ = some (.int .i64 F) /\ u'.cell? ⟨w.heap.size, 3, none⟩ = some (.int .i64 R) /\ u'.cell? ⟨w.heap.size, 4, none⟩ = some (.int .i64 O) /\ u'.cell? ⟨w.heap.size + 1, 0, none⟩ = some (.int .i64 n1) /\ u'.cell? ⟨w.heap.size + 1, 1, none⟩ = some (.int .i64 d1) /\ u'.cell? ⟨w.heap.size + 1 + 1, 0, none⟩ = some (.int .i64 n2) /\ u'.cell? ⟨w.heap.size + 1 + 1, 1, none⟩ = some (.int .i64 d2) /\ Rg.RC (w.heap.size + 1 + 1 + 1) u' /\ w3.heap.size <= u'.heap.size /\ Below w.heap.size w u')) := Lib.hid (fun u u' h hb => ⟨Rg.keep hb (Nat.lt_of_lt_of_le z3_0 h.2.2.2.2.2.2.2.2.2.2.1) h.1, Rg.keep hb (Nat.lt_of_lt_of_le z3_0 h.2.2.2.2.2.2.2.2.2.2.1) h.2.1, Rg.keep hb (Nat.lt_of_lt_of_le z3_0 h.2.2.2.2.2.2.2.2.2.2.1) h.2.2.1, Rg.keep hb (Nat.lt_of_lt_of_le z3_0 h.2.2.2.2.2.2.2.2.2.2.1) h.2.2.2.1, Rg.keep hb (Nat.lt_of_lt_of_le z3_0 h.2.2.2.2.2.2.2.2.2.2.1) h.2.2.2.2.1, Rg.keep hb (Nat.lt_of_lt_of_le z3_1 h.2.2.2.2.2.2.2.2.2.2.1) h.2.2.2.2.2.1, Rg.keep hb (Nat.lt_of_lt_of_le z3_1 h.2.2.2.2.2.2.2.2.2.2.1) h.2.2.2.2.2.2.1, Rg.keep hb (Nat.lt_of_lt_of_le z3_2 h.2.2.2.2.2.2.2.2.2.2.1) h.2.2.2.2.2.2.2.1, Rg.keep hb (Nat.lt_of_lt_of_le z3_2 h.2.2.2.2.2.2.2.2.2.2.1) h.2.2.2.2.2.2.2.2.1, Rg.RC.keep hb (Nat.lt_of_lt_of_le z3_3 h.2.2.2.2.2.2.2.2.2.2.1) h.2.2.2.2.2.2.2.2.2.1, Nat.le_trans h.2.2.2.2.2.2.2.2.2.2.1 hb.size, h.2.2.2.2.2.2.2.2.2.2.2.trans (hb.mono h.2.2.2.2.2.2.2.2.2.2.2.size)⟩)
 refine wp_region_held_drew (S := fun w' => w'.cell? ⟨w.heap.size, 0, none⟩ = some (.int .i64 K) /\ w'.cell? ⟨w.heap.size, 1, none⟩ = some (.int .i64 B) /\ w'.cell? ⟨w.heap.size, 2, none⟩ = some (.int .i64 F) /\ w'.cell? ⟨w.heap.size, 3, none⟩ = some (.int .i64 R) /\ w'.cell? ⟨w.heap.size, 4, none⟩ = some (.int .i64 O) /\ w'.cell? ⟨w.heap.size + 1, 0, none⟩ = some (.int .i64 n1) /\ w'.cell? ⟨w.heap.size + 1, 1, none⟩ = some (.int .i64 d1) /\ w'.cell? ⟨w.heap.size + 1 + 1, 0, none⟩ = some (.int .i64 n2) /\ w'.cell? ⟨w.heap.size + 1 + 1, 1, none⟩ = some (.int .i64 d2) /\ Rg.RC (w.heap.size + 1 + 1 + 1) w' /\ w3.heap.size <= w'.heap.size /\ Below w.heap.size w w') (by kernel_rfl) (HS.out _ _ hz (Below.drew (Below.refl _ _))) (fun hHeld => ?_)
 refine SqR.g 0 ?_
 refine SqR.g 1 ?_
 refine SqR.g 2 ?_
 refine SqR.g 5 ?_
 refine SqR.g 6 ?_
 refine Rg.one (i := 3) (by kernel_rfl) rfl (fun KK hK => ?_)
 rw [if_pos (by kernel_rfl)]
 go_simp
 ((with_reducible refine (CP.out _).mono ?_); rintro e u ⟨rfl, hb⟩)
 have hNew := HS.out _ _ hHeld hb
 first | (refine hK.out _ _ hNew (fun _ => ?_)) | (go_wp2_with fail; refine hK.out _ _ hNew (fun _ => ?_))
 clear hK KK hHeld hb
 have hHeld := hNew
 clear hNew
 refine SqR.g 4 ?_
 refine Rg.one (i := 7) (by kernel_rfl) rfl (fun KK hK => ?_)
 rw [if_pos (by kernel_rfl)]
 go_simp
 ((with_reducible refine (CH.out _).mono ?_); rintro e u ⟨rfl, hb⟩)
 have hNew := HS.out _ _ hHeld hb
 first | (refine hK.out _ _ hNew (fun _ => ?_)) | (go_wp2_with fail; refine hK.out _ _ hNew (fun _ => ?_))
 clear hK KK hHeld hb
 have hHeld := hNew
 clear hNew
 refine Rg.one (i := 8) (by kernel_rfl) rfl (fun KK hK => ?_)
 rw [if_pos (by kernel_rfl)]
 obtain ⟨⟨ra, rca⟩, ⟨rb, rcb⟩, rcf, rcg⟩ := hHeld.2.2.2.2.2.2.2.2.2.1
 go_simp
 have hRC : Rg.RC (w.heap.size + 1 + 1 + 1) _ := hHeld.2.2.2.2.2.2.2.2.2.1
 refine hK.out _ _ ⟨Rg.far (by omega) hHeld.1, Rg.far (by omega) hHeld.2.1, Rg.far (by omega) hHeld.2.2.1, Rg.far (by omega) hHeld.2.2.2.1, Rg.far (by omega) hHeld.2.2.2.2.1, Rg.far (by omega) hHeld.2.2.2.2.2.1, Rg.far (by omega) hHeld.2.2.2.2.2.2.1, Rg.far (by omega) hHeld.2.2.2.2.2.2.2.1, Rg.far (by omega) hHeld.2.2.2.2.2.2.2.2.1, Rg.RC.store hHeld.2.2.2.2.2.2.2.2.2.1, by rw [Rg.size2]; exact hHeld.2.2.2.2.2.2.2.2.2.2.1, Below.setCell (Below.setCell hHeld.2.2.2.2.2.2.2.2.2.2.2 (by omega) _) (by omega) _⟩ (fun hNew => ?_)
 clear hK KK hHeld rca rcb rcf rcg
 have hHeld := hNew
 clear hNew
 refine SqR.g 9 ?_
 refine wpAnyH_done (by kernel_rfl) ?_ _
 have K4 := hHeld.2.2.2.2.2.2.2.2.2.2.2
 have f0 := Rg.RC.read00 (x := x) hRC
 have f1 := Rg.RC.read1 (x := x) (y := y) hRC
 go_wp2
 refine bodyPost_ret (v := Frac3 x y 0) (by simp [results, Tryz.results100, go_sem, f0, f1]) rfl ⟨rfl, K4⟩

set_option maxHeartbeats 4000000 in
theorem c_ap10 (op K B F R O : Int) {n1 d1 n2 d2 c x y : Int} (w : World) (h : op = 10) (CH : Hid (∀ w, Calls Tryz.prog 123 #[.bool (decide (0 <= c)), Fx.V2 n1 d1, Fx.V2 n2 d2] w (Ret (Fx.V2 x y) w)))
  (VT : Hid (∀ w, Calls Tryz.prog 46 #[T5 K B F R O] w (Ret (.int .i64 0) w))) (V1 : Hid (∀ w, Calls Tryz.prog 48 #[T5 K B F R O, V2 n1 d1] w (Ret (.bool true) w))) (V2 : Hid (∀ w, Calls Tryz.prog 48 #[T5 K B F R O, Fx.V2 n2 d2] w (Ret (.bool true) w)))
  (CP : Hid (∀ w, Calls Tryz.prog 124 #[T5 K B F R O, Fx.V2 n1 d1, Fx.V2 n2 d2] w (Ret (.int .i64 c) w))) :
  Calls Tryz.prog 100 #[.int .i64 op, T5 K B F R O, Fx.V2 n1 d1, Fx.V2 n2 d2] w (Ret (Frac3 x y 0) w) := by
 subst h
 have o8 : ((10 : Int) != 8) = true := rfl
 go_enter Tryz.func100, Tryz.ntmps100
 go_wp2_with (first | (go_at_call 46; (with_reducible refine (VT.out _).mono ?_); rintro e w1 ⟨rfl, hb1⟩; have hc1 := (bcell hb1).1; have hf1 := (bcell hb1).2; have z1_0 : w.heap.size < w1.heap.size := SqB.z hb1; have z1_1 : w.heap.size + 1 < w1.heap.size := SqB.z hb1; have z1_2 : w.heap.size + 1 + 1 < w1.heap.size := SqB.z hb1; have z1_3 : w.heap.size + 1 + 1 + 1 < w1.heap.size := SqB.z hb1; have K1 : Below w.heap.size w w1 := SqB.t hb1) | (go_at_call 48; (with_reducible refine (V1.out _).mono ?_); rintro e w2 ⟨rfl, hb2⟩; have hc2 := (bcell hb2).1; have hf2 := (bcell hb2).2; have z2_0 : w.heap.size < w2.heap.size := SqB.z hb2; have z2_1 : w.heap.size + 1 < w2.heap.size := SqB.z hb2; have z2_2 : w.heap.size + 1 + 1 < w2.heap.size := SqB.z hb2; have z2_3 : w.heap.size + 1 + 1 + 1 < w2.heap.size := SqB.z hb2; have K2 : Below w.heap.size w w2 := SqB.t hb2) | (go_at_call 48; (with_reducible refine (V2.out _).mono ?_); rintro e w3 ⟨rfl, hb3⟩; have hc3 := (bcell hb3).1; have hf3 := (bcell hb3).2; have z3_0 : w.heap.size < w3.heap.size := SqB.z hb3; have z3_1 : w.heap.size + 1 < w3.heap.size := SqB.z hb3; have z3_2 : w.heap.size + 1 + 1 < w3.heap.size := SqB.z hb3; have z3_3 : w.heap.size + 1 + 1 + 1 < w3.heap.size := SqB.z hb3; have K3 : Below w.heap.size w w3 := SqB.t hb3))
 have hz : w3.cell? ⟨w.heap.size, 0, none⟩ = some (.int .i64 K) /\ w3.cell? ⟨w.heap.size, 1, none⟩ = some (.int .i64 B) /\ w3.cell? ⟨w.heap.size, 2, none⟩ = some (.int .i64 F) /\ w3.cell? ⟨w.heap.size, 3, none⟩ = some (.int .i64 R) /\ w3.cell? ⟨w.heap.size, 4, none⟩ = some (.int .i64 O) /\ w3.cell? ⟨w.heap.size + 1, 0, none⟩ = some (.int .i64 n1) /\ w3.cell? ⟨w.heap.size + 1, 1, none⟩ = some (.int .i64 d1) /\ w3.cell? ⟨w.heap.size + 1 + 1, 0, none⟩ = some (.int .i64 n2) /\ w3.cell? ⟨w.heap.size + 1 + 1, 1, none⟩ = some (.int .i64 d2) /\ Rg.RC (w.heap.size + 1 + 1 + 1) w3 /\ w3.heap.size <= w3.heap.size /\ Below w.heap.size w w3 := ⟨Rg.keep hb3 z2_0 (Rg.keep hb2 z1_0 (Rg.keep hb1 (by simp <;> omega) (by go_cell))), Rg.keep hb3 z2_0 (Rg.keep hb2 z1_0 (Rg.keep hb1 (by simp <;> omega) (by go_cell))), Rg.keep hb3 z2_0 (Rg.keep hb2 z1_0 (Rg.keep hb1 (by simp <;> omega) (by go_cell))), Rg.keep hb3 z2_0 (Rg.keep hb2 z1_0 (Rg.keep hb1 (by simp <;> omega) (by go_cell))), Rg.keep hb3 z2_0 (Rg.keep hb2 z1_0 (Rg.keep hb1 (by simp <;> omega) (by go_cell))), Rg.keep hb3 z2_1 (Rg.keep hb2 z1_1 (Rg.keep hb1 (by simp <;> omega) (by go_cell))), Rg.keep hb3 z2_1 (Rg.keep hb2 z1_1 (Rg.keep hb1 (by simp <;> omega) (by go_cell))), Rg.keep hb3 z2_2 (Rg.keep hb2 z1_2 (Rg.keep hb1 (by simp <;> omega) (by go_cell))), Rg.keep hb3 z2_2 (Rg.keep hb2 z1_2 (Rg.keep hb1 (by simp <;> omega) (by go_cell))), Rg.RC.keep hb3 z2_3 (Rg.RC.keep hb2 z1_3 (Rg.RC.keep hb1 (by simp <;> omega) (Rg.RC.mk (a := 0) (b := 0) (by go_cell) (by go_cell) (by simp only [frozen?_alloc_cells]; exact Rg.notFrozen (by omega)) (by simp only [frozen?_alloc_cells]; exact Rg.notFrozen (by omega))))), Nat.le_refl _, K3⟩
 have z0 : w.heap.size <= w.heap.size + 1 + 1 + 1 := by omega
 clear hb1 hb2 hb3 hc1 hc2 hc3 hf1 hf2 hf3 K1 K2 K3
 have HS : Hid (∀ u u' : World, (u.cell? ⟨w.heap.size, 0, none⟩ = some (.int .i64 K) /\ u.cell? ⟨w.heap.size, 1, none⟩ = some (.int .i64 B) /\ u.cell? ⟨w.heap.size, 2, none⟩ = some (.int .i64 F) /\ u.cell? ⟨w.heap.size, 3, none⟩ = some (.int .i64 R) /\ u.cell? ⟨w.heap.size, 4, none⟩ = some (.int .i64 O) /\ u.cell? ⟨w.heap.size + 1, 0, none⟩ = some (.int .i64 n1) /\ u.cell? ⟨w.heap.size + 1, 1, none⟩ = some (.int .i64 d1) /\ u.cell? ⟨w.heap.size + 1 + 1, 0, none⟩ = some (.int .i64 n2) /\ u.cell? ⟨w.heap.size + 1 + 1, 1, none⟩ = some (.int .i64 d2) /\ Rg.RC (w.heap.size + 1 + 1 + 1) u /\ w3.heap.size <= u.heap.size /\ Below w.heap.size w u) -> Below u.heap.size u u' -> (u'.cell? ⟨w.heap.size, 0, none⟩ = some (.int .i64 K) /\ u'.cell? ⟨w.heap.size, 1, none⟩ = some (.int .i64 B) /\ u'.cell? ⟨w.heap.size, 2, none⟩ = some (.int .i64 F) /\ u'.cell? ⟨w.heap.size, 3, none⟩ = some (.int .i64 R) /\ u'.cell? ⟨w.heap.size, 4, none⟩ = some (.int .i64 O) /\ u'.cell? ⟨w.heap.size + 1, 0, none⟩ = some (.int .i64 n1) /\ u'.cell? ⟨w.heap.size + 1, 1, none⟩ = some (.int .i64 d1) /\ u'.cell? ⟨w.heap.size + 1 + 1, 0, none⟩ = some (.int .i64 n2) /\ u'.cell? ⟨w.heap.size + 1 + 1, 1, none⟩ = some (.int .i64 d2) /\ Rg.RC (w.heap.size + 1 + 1 + 1) u' /\ w3.heap.size <= u'.heap.size /\ Below w.heap.size w u')) := Lib.hid (fun u u' h hb => ⟨Rg.keep hb (Nat.lt_of_lt_of_le z3_0 h.2.2.2.2.2.2.2.2.2.2.1) h.1, Rg.keep hb (Nat.lt_of_lt_of_le z3_0 h.2.2.2.2.2.2.2.2.2.2.1) h.2.1, Rg.keep hb (Nat.lt_of_lt_of_le z3_0 h.2.2.2.2.2.2.2.2.2.2.1) h.2.2.1, Rg.keep hb (Nat.lt_of_lt_of_le z3_0 h.2.2.2.2.2.2.2.2.2.2.1) h.2.2.2.1, Rg.keep hb (Nat.lt_of_lt_of_le z3_0 h.2.2.2.2.2.2.2.2.2.2.1) h.2.2.2.2.1, Rg.keep hb (Nat.lt_of_lt_of_le z3_1 h.2.2.2.2.2.2.2.2.2.2.1) h.2.2.2.2.2.1, Rg.keep hb (Nat.lt_of_lt_of_le z3_1 h.2.2.2.2.2.2.2.2.2.2.1) h.2.2.2.2.2.2.1, Rg.keep hb (Nat.lt_of_lt_of_le z3_2 h.2.2.2.2.2.2.2.2.2.2.1) h.2.2.2.2.2.2.2.1, Rg.keep hb (Nat.lt_of_lt_of_le z3_2 h.2.2.2.2.2.2.2.2.2.2.1) h.2.2.2.2.2.2.2.2.1, Rg.RC.keep hb (Nat.lt_of_lt_of_le z3_3 h.2.2.2.2.2.2.2.2.2.2.1) h.2.2.2.2.2.2.2.2.2.1, Nat.le_trans h.2.2.2.2.2.2.2.2.2.2.1 hb.size, h.2.2.2.2.2.2.2.2.2.2.2.trans (hb.mono h.2.2.2.2.2.2.2.2.2.2.2.size)⟩)
 refine wp_region_held_drew (S := fun w' => w'.cell? ⟨w.heap.size, 0, none⟩ = some (.int .i64 K) /\ w'.cell? ⟨w.heap.size, 1, none⟩ = some (.int .i64 B) /\ w'.cell? ⟨w.heap.size, 2, none⟩ = some (.int .i64 F) /\ w'.cell? ⟨w.heap.size, 3, none⟩ = some (.int .i64 R) /\ w'.cell? ⟨w.heap.size, 4, none⟩ = some (.int .i64 O) /\ w'.cell? ⟨w.heap.size + 1, 0, none⟩ = some (.int .i64 n1) /\ w'.cell? ⟨w.heap.size + 1, 1, none⟩ = some (.int .i64 d1) /\ w'.cell? ⟨w.heap.size + 1 + 1, 0, none⟩ = some (.int .i64 n2) /\ w'.cell? ⟨w.heap.size + 1 + 1, 1, none⟩ = some (.int .i64 d2) /\ Rg.RC (w.heap.size + 1 + 1 + 1) w' /\ w3.heap.size <= w'.heap.size /\ Below w.heap.size w w') (by kernel_rfl) (HS.out _ _ hz (Below.drew (Below.refl _ _))) (fun hHeld => ?_)
 refine SqR.g 0 ?_
 refine SqR.g 1 ?_
 refine SqR.g 2 ?_
 refine SqR.g 5 ?_
 refine SqR.g 6 ?_
 refine Rg.one (i := 3) (by kernel_rfl) rfl (fun KK hK => ?_)
 rw [if_pos (by kernel_rfl)]
 go_simp
 ((with_reducible refine (CP.out _).mono ?_); rintro e u ⟨rfl, hb⟩)
 have hNew := HS.out _ _ hHeld hb
 first | (refine hK.out _ _ hNew (fun _ => ?_)) | (go_wp2_with fail; refine hK.out _ _ hNew (fun _ => ?_))
 clear hK KK hHeld hb
 have hHeld := hNew
 clear hNew
 refine SqR.g 4 ?_
 refine Rg.one (i := 7) (by kernel_rfl) rfl (fun KK hK => ?_)
 rw [if_pos (by kernel_rfl)]
 go_simp
 ((with_reducible refine (CH.out _).mono ?_); rintro e u ⟨rfl, hb⟩)
 have hNew := HS.out _ _ hHeld hb
 first | (refine hK.out _ _ hNew (fun _ => ?_)) | (go_wp2_with fail; refine hK.out _ _ hNew (fun _ => ?_))
 clear hK KK hHeld hb
 have hHeld := hNew
 clear hNew
 refine Rg.one (i := 8) (by kernel_rfl) rfl (fun KK hK => ?_)
 rw [if_pos (by kernel_rfl)]
 obtain ⟨⟨ra, rca⟩, ⟨rb, rcb⟩, rcf, rcg⟩ := hHeld.2.2.2.2.2.2.2.2.2.1
 go_simp
 have hRC : Rg.RC (w.heap.size + 1 + 1 + 1) _ := hHeld.2.2.2.2.2.2.2.2.2.1
 refine hK.out _ _ ⟨Rg.far (by omega) hHeld.1, Rg.far (by omega) hHeld.2.1, Rg.far (by omega) hHeld.2.2.1, Rg.far (by omega) hHeld.2.2.2.1, Rg.far (by omega) hHeld.2.2.2.2.1, Rg.far (by omega) hHeld.2.2.2.2.2.1, Rg.far (by omega) hHeld.2.2.2.2.2.2.1, Rg.far (by omega) hHeld.2.2.2.2.2.2.2.1, Rg.far (by omega) hHeld.2.2.2.2.2.2.2.2.1, Rg.RC.store hHeld.2.2.2.2.2.2.2.2.2.1, by rw [Rg.size2]; exact hHeld.2.2.2.2.2.2.2.2.2.2.1, Below.setCell (Below.setCell hHeld.2.2.2.2.2.2.2.2.2.2.2 (by omega) _) (by omega) _⟩ (fun hNew => ?_)
 clear hK KK hHeld rca rcb rcf rcg
 have hHeld := hNew
 clear hNew
 refine SqR.g 9 ?_
 refine wpAnyH_done (by kernel_rfl) ?_ _
 have K4 := hHeld.2.2.2.2.2.2.2.2.2.2.2
 have f0 := Rg.RC.read00 (x := x) hRC
 have f1 := Rg.RC.read1 (x := x) (y := y) hRC
 go_wp2
 refine bodyPost_ret (v := Frac3 x y 0) (by simp [results, Tryz.results100, go_sem, f0, f1]) rfl ⟨rfl, K4⟩

set_option maxHeartbeats 8000000 in
theorem c_ap (op K B F R O n1 d1 n2 d2 : Int) (w : World) (b0 : -9223372036854775808 <= B) (b1 : B <= 9223372036854775807) (hn2 : -9223372036854775808 <= n2 /\ n2 <= 9223372036854775807) :
  Calls Tryz.prog 100 #[.int .i64 op, T5 K B F R O, V2 n1 d1, V2 n2 d2] w (Ret (F3 (apv op K B F R O n1 d1 n2 d2)) w) := by
 by_cases ho : op < 4 \/ 10 < op
 ·rw [show apv op K B F R O n1 d1 n2 d2 = (0, 0, 1) by unfold apv; rw [if_pos ho]]
  rcases ho with ho | ho
  ·have o1 : decide (op < 4) = true := by simpa using ho
   clear ho
   go_enter Tryz.func100, Tryz.ntmps100
   go_wp2
   refine bodyPost_ret (v := Frac3 0 0 1) (by simp [results, Tryz.results100, go_sem]) rfl ⟨rfl, ?_⟩; exact SqB.b
  ·have o1 : decide (op < 4) = false := by simp; omega
   have o2 : decide (10 < op) = true := by simpa using ho
   clear ho
   go_enter Tryz.func100, Tryz.ntmps100
   go_wp2
   refine bodyPost_ret (v := Frac3 0 0 1) (by simp [results, Tryz.results100, go_sem]) rfl ⟨rfl, ?_⟩; exact SqB.b
 have o1 : decide (op < 4) = false := by simp; omega
 have o2 : decide (10 < op) = false := by simp; omega
 cases ht : ty K B F R O
 ·rw [show apv op K B F R O n1 d1 n2 d2 = (0, 0, 10) by unfold apv; rw [if_neg ho, if_pos ht]]
  have VT := Lib.hid fun w => vtF ht w
  clear ho ht
  go_enter Tryz.func100, Tryz.ntmps100
  go_wp2_with (first | (go_at_call 46; (with_reducible refine (VT.out _).mono ?_); rintro e w1 ⟨rfl, hb1⟩; have hc1 := (bcell hb1).1; have hf1 := (bcell hb1).2; have z1_0 : w.heap.size < w1.heap.size := SqB.z hb1; have z1_1 : w.heap.size + 1 < w1.heap.size := SqB.z hb1; have z1_2 : w.heap.size + 1 + 1 < w1.heap.size := SqB.z hb1; have z1_3 : w.heap.size + 1 + 1 + 1 < w1.heap.size := SqB.z hb1; have K1 : Below w.heap.size w w1 := SqB.t hb1))
  refine bodyPost_ret (v := Frac3 0 0 10) (by simp [results, Tryz.results100, go_sem, hc1, hf1, SqB.n z1_0, SqB.n z1_1, SqB.n z1_2, SqB.n z1_3]) rfl ⟨rfl, ?_⟩; exact SqB.b
 have VT := Lib.hid fun w => vtT ht w
 have V1 := Lib.hid fun w => c_va K B F R O n1 d1 w b0 b1
 have V2 := Lib.hid fun w => c_va K B F R O n2 d2 w b0 b1
 cases h1 : vv K B F R O n1 d1
 ·rw [show apv op K B F R O n1 d1 n2 d2 = (0, 0, 1) by unfold apv; rw [if_neg ho, if_neg (by rw [ht]; decide), if_pos (Or.inl h1)]]
  rw [h1] at V1
  clear ho ht h1 V2
  go_enter Tryz.func100, Tryz.ntmps100
  go_wp2_with (first | (go_at_call 46; (with_reducible refine (VT.out _).mono ?_); rintro e w1 ⟨rfl, hb1⟩; have hc1 := (bcell hb1).1; have hf1 := (bcell hb1).2; have z1_0 : w.heap.size < w1.heap.size := SqB.z hb1; have z1_1 : w.heap.size + 1 < w1.heap.size := SqB.z hb1; have z1_2 : w.heap.size + 1 + 1 < w1.heap.size := SqB.z hb1; have z1_3 : w.heap.size + 1 + 1 + 1 < w1.heap.size := SqB.z hb1; have K1 : Below w.heap.size w w1 := SqB.t hb1) | (go_at_call 48; (with_reducible refine (V1.out _).mono ?_); rintro e w2 ⟨rfl, hb2⟩; have hc2 := (bcell hb2).1; have hf2 := (bcell hb2).2; have z2_0 : w.heap.size < w2.heap.size := SqB.z hb2; have z2_1 : w.heap.size + 1 < w2.heap.size := SqB.z hb2; have z2_2 : w.heap.size + 1 + 1 < w2.heap.size := SqB.z hb2; have z2_3 : w.heap.size + 1 + 1 + 1 < w2.heap.size := SqB.z hb2; have K2 : Below w.heap.size w w2 := SqB.t hb2))
  refine bodyPost_ret (v := Frac3 0 0 1) (by simp [results, Tryz.results100, go_sem, hc1, hf1, hc2, hf2, SqB.n z1_0, SqB.n z1_1, SqB.n z1_2, SqB.n z1_3, SqB.n z2_0, SqB.n z2_1, SqB.n z2_2, SqB.n z2_3]) rfl ⟨rfl, ?_⟩; exact SqB.b
 rw [h1] at V1
 by_cases h2 : op ≠ 8 /\ vv K B F R O n2 d2 = false
 ·rw [show apv op K B F R O n1 d1 n2 d2 = (0, 0, 1) by unfold apv; rw [if_neg ho, if_neg (by rw [ht]; decide), if_pos (Or.inr h2)]]
  rw [h2.2] at V2
  have o8 : (op != 8) = true := by simpa using h2.1
  clear ho ht h1 h2
  go_enter Tryz.func100, Tryz.ntmps100
  go_wp2_with (first | (go_at_call 46; (with_reducible refine (VT.out _).mono ?_); rintro e w1 ⟨rfl, hb1⟩; have hc1 := (bcell hb1).1; have hf1 := (bcell hb1).2; have z1_0 : w.heap.size < w1.heap.size := SqB.z hb1; have z1_1 : w.heap.size + 1 < w1.heap.size := SqB.z hb1; have z1_2 : w.heap.size + 1 + 1 < w1.heap.size := SqB.z hb1; have z1_3 : w.heap.size + 1 + 1 + 1 < w1.heap.size := SqB.z hb1; have K1 : Below w.heap.size w w1 := SqB.t hb1) | (go_at_call 48; (with_reducible refine (V1.out _).mono ?_); rintro e w2 ⟨rfl, hb2⟩; have hc2 := (bcell hb2).1; have hf2 := (bcell hb2).2; have z2_0 : w.heap.size < w2.heap.size := SqB.z hb2; have z2_1 : w.heap.size + 1 < w2.heap.size := SqB.z hb2; have z2_2 : w.heap.size + 1 + 1 < w2.heap.size := SqB.z hb2; have z2_3 : w.heap.size + 1 + 1 + 1 < w2.heap.size := SqB.z hb2; have K2 : Below w.heap.size w w2 := SqB.t hb2) | (go_at_call 48; (with_reducible refine (V2.out _).mono ?_); rintro e w3 ⟨rfl, hb3⟩; have hc3 := (bcell hb3).1; have hf3 := (bcell hb3).2; have z3_0 : w.heap.size < w3.heap.size := SqB.z hb3; have z3_1 : w.heap.size + 1 < w3.heap.size := SqB.z hb3; have z3_2 : w.heap.size + 1 + 1 < w3.heap.size := SqB.z hb3; have z3_3 : w.heap.size + 1 + 1 + 1 < w3.heap.size := SqB.z hb3; have K3 : Below w.heap.size w w3 := SqB.t hb3))
  refine bodyPost_ret (v := Frac3 0 0 1) (by simp [results, Tryz.results100, go_sem, hc1, hf1, hc2, hf2, hc3, hf3, SqB.n z1_0, SqB.n z1_1, SqB.n z1_2, SqB.n z1_3, SqB.n z2_0, SqB.n z2_1, SqB.n z2_2, SqB.n z2_3, SqB.n z3_0, SqB.n z3_1, SqB.n z3_2, SqB.n z3_3]) rfl ⟨rfl, ?_⟩; exact SqB.b
 have h3 : op ≠ 8 -> vv K B F R O n2 d2 = true := fun h => by
  cases h4 : vv K B F R O n2 d2
  ·exact absurd ⟨h, h4⟩ h2
  ·rfl
 have V2 : Hid (op ≠ 8 -> ∀ w, Calls Tryz.prog 48 #[T5 K B F R O, Fx.V2 n2 d2] w (Ret (.bool true) w)) := Lib.hid fun h w => by
  have := V2.out w
  rw [h3 h] at this
  exact this
 have hA : ∀ r : A3, (if op = 9 then (if cpv K B F R O n1 d1 n2 d2 <= 0 then (n1, d1, 0) else (n2, d2, 0)) else if op = 10 then (if 0 <= cpv K B F R O n1 d1 n2 d2 then (n1, d1, 0) else (n2, d2, 0))
   else if K = 1 then frv op n1 d1 n2 d2 else if K = 2 then fxv op B F R O n1 n2 else whv op n1 n2) = r -> apv op K B F R O n1 d1 n2 d2 = r := by
  intro r hr
  unfold apv
  rw [if_neg ho, if_neg (by rw [ht]; decide), if_neg (by rw [h1]; simpa using h3), hr]
 obtain ⟨x1, x2, x3, x4, x5⟩ := vv_small h1
 by_cases h9 : op = 9
 ·have CP := Lib.hid fun w => c_cmp K B F R O n1 d1 n2 d2 w b0 b1
  have CH := Lib.hid fun w => c_choose (decide (cpv K B F R O n1 d1 n2 d2 <= 0)) n1 d1 n2 d2 w
  have V2 := Lib.hid fun w => V2.out (by omega) w
  have := c_ap9 op K B F R O w h9 CH VT V1 V2 CP
  rw [hA ((if decide (cpv K B F R O n1 d1 n2 d2 <= 0) then n1 else n2), (if decide (cpv K B F R O n1 d1 n2 d2 <= 0) then d1 else d2), 0) (by
   rw [if_pos h9]
   simp only [decide_eq_true_eq]
   split <;> rfl)]
  exact this
 by_cases h10 : op = 10
 ·have CP := Lib.hid fun w => c_cmp K B F R O n1 d1 n2 d2 w b0 b1
  have CH := Lib.hid fun w => c_choose (decide (0 <= cpv K B F R O n1 d1 n2 d2)) n1 d1 n2 d2 w
  have V2 := Lib.hid fun w => V2.out (by omega) w
  have := c_ap10 op K B F R O w h10 CH VT V1 V2 CP
  rw [hA ((if decide (0 <= cpv K B F R O n1 d1 n2 d2) then n1 else n2), (if decide (0 <= cpv K B F R O n1 d1 n2 d2) then d1 else d2), 0) (by
   rw [if_neg h9, if_pos h10]
   simp only [decide_eq_true_eq]
   split <;> rfl)]
  exact this
 have o9 : (op == 9) = false := by simpa using h9
 have o10 : (op == 10) = false := by simpa using h10
 rw [if_neg h9, if_neg h10] at hA
 by_cases k1 : K = 1
 ·rw [if_pos k1] at hA
  rw [hA _ rfl]
  have hk1 : (K == 1) = true := by simpa using k1
  have FR := Lib.hid fun w => c_afr op (n1 := n1) (d1 := d1) (n2 := n2) (d2 := d2) w (by omega) (by omega)
   (by unfold vv at h1; rw [if_neg (by omega), ht, if_pos k1] at h1; exact h1) (fun h => by have h4 := h3 h; unfold vv at h4; rw [if_neg (by omega), ht, if_pos k1] at h4; exact h4)
  obtain ⟨r, hr⟩ : ∃ r, frv op n1 d1 n2 d2 = r := ⟨_, rfl⟩
  rw [hr] at FR ⊢
  obtain ⟨x, y, z⟩ := r
  clear hr hA h1 h2 h3 ht ho x5 x1 x2 x3 x4 k1 h9 h10 hn2 b0 b1
  by_cases h8 : op = 8
  ·have o8 : (op != 8) = false := by simpa using h8
   clear V2 h8
   go_enter Tryz.func100, Tryz.ntmps100
   go_wp2_with (first | (go_at_call 46; (with_reducible refine (VT.out _).mono ?_); rintro e w1 ⟨rfl, hb1⟩; have hc1 := (bcell hb1).1; have hf1 := (bcell hb1).2; have z1_0 : w.heap.size < w1.heap.size := SqB.z hb1; have z1_1 : w.heap.size + 1 < w1.heap.size := SqB.z hb1; have z1_2 : w.heap.size + 1 + 1 < w1.heap.size := SqB.z hb1; have z1_3 : w.heap.size + 1 + 1 + 1 < w1.heap.size := SqB.z hb1; have K1 : Below w.heap.size w w1 := SqB.t hb1) | (go_at_call 48; (with_reducible refine (V1.out _).mono ?_); rintro e w2 ⟨rfl, hb2⟩; have hc2 := (bcell hb2).1; have hf2 := (bcell hb2).2; have z2_0 : w.heap.size < w2.heap.size := SqB.z hb2; have z2_1 : w.heap.size + 1 < w2.heap.size := SqB.z hb2; have z2_2 : w.heap.size + 1 + 1 < w2.heap.size := SqB.z hb2; have z2_3 : w.heap.size + 1 + 1 + 1 < w2.heap.size := SqB.z hb2; have K2 : Below w.heap.size w w2 := SqB.t hb2) | (go_at_call 125; (with_reducible refine (FR.out _).mono ?_); rintro e w4 ⟨rfl, hb4⟩; have hc4 := (bcell hb4).1; have hf4 := (bcell hb4).2; have z4_0 : w.heap.size < w4.heap.size := SqB.z hb4; have z4_1 : w.heap.size + 1 < w4.heap.size := SqB.z hb4; have z4_2 : w.heap.size + 1 + 1 < w4.heap.size := SqB.z hb4; have z4_3 : w.heap.size + 1 + 1 + 1 < w4.heap.size := SqB.z hb4; have K4 : Below w.heap.size w w4 := SqB.t hb4))
   refine bodyPost_ret (v := Frac3 x y z) (by simp [results, Tryz.results100, go_sem, hc1, hf1, hc2, hf2, hc4, hf4, SqB.n z1_0, SqB.n z1_1, SqB.n z1_2, SqB.n z1_3, SqB.n z2_0, SqB.n z2_1, SqB.n z2_2, SqB.n z2_3, SqB.n z4_0, SqB.n z4_1, SqB.n z4_2, SqB.n z4_3]) rfl ⟨rfl, ?_⟩; exact SqB.b
  ·have o8 : (op != 8) = true := by simpa using h8
   have V2 := Lib.hid (V2.out h8)
   clear h8
   go_enter Tryz.func100, Tryz.ntmps100
   go_wp2_with (first | (go_at_call 46; (with_reducible refine (VT.out _).mono ?_); rintro e w1 ⟨rfl, hb1⟩; have hc1 := (bcell hb1).1; have hf1 := (bcell hb1).2; have z1_0 : w.heap.size < w1.heap.size := SqB.z hb1; have z1_1 : w.heap.size + 1 < w1.heap.size := SqB.z hb1; have z1_2 : w.heap.size + 1 + 1 < w1.heap.size := SqB.z hb1; have z1_3 : w.heap.size + 1 + 1 + 1 < w1.heap.size := SqB.z hb1; have K1 : Below w.heap.size w w1 := SqB.t hb1) | (go_at_call 48; (with_reducible refine (V1.out _).mono ?_); rintro e w2 ⟨rfl, hb2⟩; have hc2 := (bcell hb2).1; have hf2 := (bcell hb2).2; have z2_0 : w.heap.size < w2.heap.size := SqB.z hb2; have z2_1 : w.heap.size + 1 < w2.heap.size := SqB.z hb2; have z2_2 : w.heap.size + 1 + 1 < w2.heap.size := SqB.z hb2; have z2_3 : w.heap.size + 1 + 1 + 1 < w2.heap.size := SqB.z hb2; have K2 : Below w.heap.size w w2 := SqB.t hb2) | (go_at_call 48; (with_reducible refine (V2.out _).mono ?_); rintro e w3 ⟨rfl, hb3⟩; have hc3 := (bcell hb3).1; have hf3 := (bcell hb3).2; have z3_0 : w.heap.size < w3.heap.size := SqB.z hb3; have z3_1 : w.heap.size + 1 < w3.heap.size := SqB.z hb3; have z3_2 : w.heap.size + 1 + 1 < w3.heap.size := SqB.z hb3; have z3_3 : w.heap.size + 1 + 1 + 1 < w3.heap.size := SqB.z hb3; have K3 : Below w.heap.size w w3 := SqB.t hb3) | (go_at_call 125; (with_reducible refine (FR.out _).mono ?_); rintro e w4 ⟨rfl, hb4⟩; have hc4 := (bcell hb4).1; have hf4 := (bcell hb4).2; have z4_0 : w.heap.size < w4.heap.size := SqB.z hb4; have z4_1 : w.heap.size + 1 < w4.heap.size := SqB.z hb4; have z4_2 : w.heap.size + 1 + 1 < w4.heap.size := SqB.z hb4; have z4_3 : w.heap.size + 1 + 1 + 1 < w4.heap.size := SqB.z hb4; have K4 : Below w.heap.size w w4 := SqB.t hb4))
   refine bodyPost_ret (v := Frac3 x y z) (by simp [results, Tryz.results100, go_sem, hc1, hf1, hc2, hf2, hc3, hf3, hc4, hf4, SqB.n z1_0, SqB.n z1_1, SqB.n z1_2, SqB.n z1_3, SqB.n z2_0, SqB.n z2_1, SqB.n z2_2, SqB.n z2_3, SqB.n z3_0, SqB.n z3_1, SqB.n z3_2, SqB.n z3_3, SqB.n z4_0, SqB.n z4_1, SqB.n z4_2, SqB.n z4_3]) rfl ⟨rfl, ?_⟩; exact SqB.b
 rw [if_neg k1] at hA
 have hk1 : (K == 1) = false := by simpa using k1
 by_cases k2 : K = 2
 ·rw [if_pos k2] at hA
  rw [hA _ rfl]
  have hk2 : (K == 2) = true := by simpa using k2
  have FR := Lib.hid fun w => c_afx op K B F R O (n1 := n1) (d1 := d1) (n2 := n2) (d2 := d2) w (by omega) (by omega)
   (by rw [vv_fix k2] at h1; exact h1) (fun h => by have h4 := h3 h; rw [vv_fix k2] at h4; exact h4)
  obtain ⟨r, hr⟩ : ∃ r, fxv op B F R O n1 n2 = r := ⟨_, rfl⟩
  rw [hr] at FR ⊢
  obtain ⟨x, y, z⟩ := r
  clear hr hA h1 h2 h3 ht ho x5 x1 x2 x3 x4 k1 k2 h9 h10 hn2 b0 b1
  by_cases h8 : op = 8
  ·have o8 : (op != 8) = false := by simpa using h8
   clear V2 h8
   go_enter Tryz.func100, Tryz.ntmps100
   go_wp2_with (first | (go_at_call 46; (with_reducible refine (VT.out _).mono ?_); rintro e w1 ⟨rfl, hb1⟩; have hc1 := (bcell hb1).1; have hf1 := (bcell hb1).2; have z1_0 : w.heap.size < w1.heap.size := SqB.z hb1; have z1_1 : w.heap.size + 1 < w1.heap.size := SqB.z hb1; have z1_2 : w.heap.size + 1 + 1 < w1.heap.size := SqB.z hb1; have z1_3 : w.heap.size + 1 + 1 + 1 < w1.heap.size := SqB.z hb1; have K1 : Below w.heap.size w w1 := SqB.t hb1) | (go_at_call 48; (with_reducible refine (V1.out _).mono ?_); rintro e w2 ⟨rfl, hb2⟩; have hc2 := (bcell hb2).1; have hf2 := (bcell hb2).2; have z2_0 : w.heap.size < w2.heap.size := SqB.z hb2; have z2_1 : w.heap.size + 1 < w2.heap.size := SqB.z hb2; have z2_2 : w.heap.size + 1 + 1 < w2.heap.size := SqB.z hb2; have z2_3 : w.heap.size + 1 + 1 + 1 < w2.heap.size := SqB.z hb2; have K2 : Below w.heap.size w w2 := SqB.t hb2) | (go_at_call 126; (with_reducible refine (FR.out _).mono ?_); rintro e w4 ⟨rfl, hb4⟩; have hc4 := (bcell hb4).1; have hf4 := (bcell hb4).2; have z4_0 : w.heap.size < w4.heap.size := SqB.z hb4; have z4_1 : w.heap.size + 1 < w4.heap.size := SqB.z hb4; have z4_2 : w.heap.size + 1 + 1 < w4.heap.size := SqB.z hb4; have z4_3 : w.heap.size + 1 + 1 + 1 < w4.heap.size := SqB.z hb4; have K4 : Below w.heap.size w w4 := SqB.t hb4))
   refine bodyPost_ret (v := Frac3 x y z) (by simp [results, Tryz.results100, go_sem, hc1, hf1, hc2, hf2, hc4, hf4, SqB.n z1_0, SqB.n z1_1, SqB.n z1_2, SqB.n z1_3, SqB.n z2_0, SqB.n z2_1, SqB.n z2_2, SqB.n z2_3, SqB.n z4_0, SqB.n z4_1, SqB.n z4_2, SqB.n z4_3]) rfl ⟨rfl, ?_⟩; exact SqB.b
  ·have o8 : (op != 8) = true := by simpa using h8
   have V2 := Lib.hid (V2.out h8)
   clear h8
   go_enter Tryz.func100, Tryz.ntmps100
   go_wp2_with (first | (go_at_call 46; (with_reducible refine (VT.out _).mono ?_); rintro e w1 ⟨rfl, hb1⟩; have hc1 := (bcell hb1).1; have hf1 := (bcell hb1).2; have z1_0 : w.heap.size < w1.heap.size := SqB.z hb1; have z1_1 : w.heap.size + 1 < w1.heap.size := SqB.z hb1; have z1_2 : w.heap.size + 1 + 1 < w1.heap.size := SqB.z hb1; have z1_3 : w.heap.size + 1 + 1 + 1 < w1.heap.size := SqB.z hb1; have K1 : Below w.heap.size w w1 := SqB.t hb1) | (go_at_call 48; (with_reducible refine (V1.out _).mono ?_); rintro e w2 ⟨rfl, hb2⟩; have hc2 := (bcell hb2).1; have hf2 := (bcell hb2).2; have z2_0 : w.heap.size < w2.heap.size := SqB.z hb2; have z2_1 : w.heap.size + 1 < w2.heap.size := SqB.z hb2; have z2_2 : w.heap.size + 1 + 1 < w2.heap.size := SqB.z hb2; have z2_3 : w.heap.size + 1 + 1 + 1 < w2.heap.size := SqB.z hb2; have K2 : Below w.heap.size w w2 := SqB.t hb2) | (go_at_call 48; (with_reducible refine (V2.out _).mono ?_); rintro e w3 ⟨rfl, hb3⟩; have hc3 := (bcell hb3).1; have hf3 := (bcell hb3).2; have z3_0 : w.heap.size < w3.heap.size := SqB.z hb3; have z3_1 : w.heap.size + 1 < w3.heap.size := SqB.z hb3; have z3_2 : w.heap.size + 1 + 1 < w3.heap.size := SqB.z hb3; have z3_3 : w.heap.size + 1 + 1 + 1 < w3.heap.size := SqB.z hb3; have K3 : Below w.heap.size w w3 := SqB.t hb3) | (go_at_call 126; (with_reducible refine (FR.out _).mono ?_); rintro e w4 ⟨rfl, hb4⟩; have hc4 := (bcell hb4).1; have hf4 := (bcell hb4).2; have z4_0 : w.heap.size < w4.heap.size := SqB.z hb4; have z4_1 : w.heap.size + 1 < w4.heap.size := SqB.z hb4; have z4_2 : w.heap.size + 1 + 1 < w4.heap.size := SqB.z hb4; have z4_3 : w.heap.size + 1 + 1 + 1 < w4.heap.size := SqB.z hb4; have K4 : Below w.heap.size w w4 := SqB.t hb4))
   refine bodyPost_ret (v := Frac3 x y z) (by simp [results, Tryz.results100, go_sem, hc1, hf1, hc2, hf2, hc3, hf3, hc4, hf4, SqB.n z1_0, SqB.n z1_1, SqB.n z1_2, SqB.n z1_3, SqB.n z2_0, SqB.n z2_1, SqB.n z2_2, SqB.n z2_3, SqB.n z3_0, SqB.n z3_1, SqB.n z3_2, SqB.n z3_3, SqB.n z4_0, SqB.n z4_1, SqB.n z4_2, SqB.n z4_3]) rfl ⟨rfl, ?_⟩; exact SqB.b
 rw [if_neg k2] at hA
 have hk2 : (K == 2) = false := by simpa using k2
 rw [hA _ rfl]
 have FR := Lib.hid fun w => c_aint op n1 n2 w (by omega) (by omega) x3 x4 (fun h => by obtain ⟨_, _, y3, y4, _⟩ := vv_small (h3 h); exact ⟨y3, y4⟩) hn2.1 hn2.2
 obtain ⟨r, hr⟩ : ∃ r, whv op n1 n2 = r := ⟨_, rfl⟩
 rw [hr] at FR ⊢
 obtain ⟨x, y, z⟩ := r
 clear hr hA h1 h2 h3 ht ho x5 x1 x2 x3 x4 k1 k2 h9 h10 hn2 b0 b1
 by_cases h8 : op = 8
 ·have o8 : (op != 8) = false := by simpa using h8
  clear V2 h8
  go_enter Tryz.func100, Tryz.ntmps100
  go_wp2_with (first | (go_at_call 46; (with_reducible refine (VT.out _).mono ?_); rintro e w1 ⟨rfl, hb1⟩; have hc1 := (bcell hb1).1; have hf1 := (bcell hb1).2; have z1_0 : w.heap.size < w1.heap.size := SqB.z hb1; have z1_1 : w.heap.size + 1 < w1.heap.size := SqB.z hb1; have z1_2 : w.heap.size + 1 + 1 < w1.heap.size := SqB.z hb1; have z1_3 : w.heap.size + 1 + 1 + 1 < w1.heap.size := SqB.z hb1; have K1 : Below w.heap.size w w1 := SqB.t hb1) | (go_at_call 48; (with_reducible refine (V1.out _).mono ?_); rintro e w2 ⟨rfl, hb2⟩; have hc2 := (bcell hb2).1; have hf2 := (bcell hb2).2; have z2_0 : w.heap.size < w2.heap.size := SqB.z hb2; have z2_1 : w.heap.size + 1 < w2.heap.size := SqB.z hb2; have z2_2 : w.heap.size + 1 + 1 < w2.heap.size := SqB.z hb2; have z2_3 : w.heap.size + 1 + 1 + 1 < w2.heap.size := SqB.z hb2; have K2 : Below w.heap.size w w2 := SqB.t hb2) | (go_at_call 127; (with_reducible refine (FR.out _).mono ?_); rintro e w4 ⟨rfl, hb4⟩; have hc4 := (bcell hb4).1; have hf4 := (bcell hb4).2; have z4_0 : w.heap.size < w4.heap.size := SqB.z hb4; have z4_1 : w.heap.size + 1 < w4.heap.size := SqB.z hb4; have z4_2 : w.heap.size + 1 + 1 < w4.heap.size := SqB.z hb4; have z4_3 : w.heap.size + 1 + 1 + 1 < w4.heap.size := SqB.z hb4; have K4 : Below w.heap.size w w4 := SqB.t hb4))
  refine bodyPost_ret (v := Frac3 x y z) (by simp [results, Tryz.results100, go_sem, hc1, hf1, hc2, hf2, hc4, hf4, SqB.n z1_0, SqB.n z1_1, SqB.n z1_2, SqB.n z1_3, SqB.n z2_0, SqB.n z2_1, SqB.n z2_2, SqB.n z2_3, SqB.n z4_0, SqB.n z4_1, SqB.n z4_2, SqB.n z4_3]) rfl ⟨rfl, ?_⟩; exact SqB.b
 ·have o8 : (op != 8) = true := by simpa using h8
  have V2 := Lib.hid (V2.out h8)
  clear h8
  go_enter Tryz.func100, Tryz.ntmps100
  go_wp2_with (first | (go_at_call 46; (with_reducible refine (VT.out _).mono ?_); rintro e w1 ⟨rfl, hb1⟩; have hc1 := (bcell hb1).1; have hf1 := (bcell hb1).2; have z1_0 : w.heap.size < w1.heap.size := SqB.z hb1; have z1_1 : w.heap.size + 1 < w1.heap.size := SqB.z hb1; have z1_2 : w.heap.size + 1 + 1 < w1.heap.size := SqB.z hb1; have z1_3 : w.heap.size + 1 + 1 + 1 < w1.heap.size := SqB.z hb1; have K1 : Below w.heap.size w w1 := SqB.t hb1) | (go_at_call 48; (with_reducible refine (V1.out _).mono ?_); rintro e w2 ⟨rfl, hb2⟩; have hc2 := (bcell hb2).1; have hf2 := (bcell hb2).2; have z2_0 : w.heap.size < w2.heap.size := SqB.z hb2; have z2_1 : w.heap.size + 1 < w2.heap.size := SqB.z hb2; have z2_2 : w.heap.size + 1 + 1 < w2.heap.size := SqB.z hb2; have z2_3 : w.heap.size + 1 + 1 + 1 < w2.heap.size := SqB.z hb2; have K2 : Below w.heap.size w w2 := SqB.t hb2) | (go_at_call 48; (with_reducible refine (V2.out _).mono ?_); rintro e w3 ⟨rfl, hb3⟩; have hc3 := (bcell hb3).1; have hf3 := (bcell hb3).2; have z3_0 : w.heap.size < w3.heap.size := SqB.z hb3; have z3_1 : w.heap.size + 1 < w3.heap.size := SqB.z hb3; have z3_2 : w.heap.size + 1 + 1 < w3.heap.size := SqB.z hb3; have z3_3 : w.heap.size + 1 + 1 + 1 < w3.heap.size := SqB.z hb3; have K3 : Below w.heap.size w w3 := SqB.t hb3) | (go_at_call 127; (with_reducible refine (FR.out _).mono ?_); rintro e w4 ⟨rfl, hb4⟩; have hc4 := (bcell hb4).1; have hf4 := (bcell hb4).2; have z4_0 : w.heap.size < w4.heap.size := SqB.z hb4; have z4_1 : w.heap.size + 1 < w4.heap.size := SqB.z hb4; have z4_2 : w.heap.size + 1 + 1 < w4.heap.size := SqB.z hb4; have z4_3 : w.heap.size + 1 + 1 + 1 < w4.heap.size := SqB.z hb4; have K4 : Below w.heap.size w w4 := SqB.t hb4))
  refine bodyPost_ret (v := Frac3 x y z) (by simp [results, Tryz.results100, go_sem, hc1, hf1, hc2, hf2, hc3, hf3, hc4, hf4, SqB.n z1_0, SqB.n z1_1, SqB.n z1_2, SqB.n z1_3, SqB.n z2_0, SqB.n z2_1, SqB.n z2_2, SqB.n z2_3, SqB.n z3_0, SqB.n z3_1, SqB.n z3_2, SqB.n z3_3, SqB.n z4_0, SqB.n z4_1, SqB.n z4_2, SqB.n z4_3]) rfl ⟨rfl, ?_⟩; exact SqB.b
end Go.Proofs.YteaaikmejacpaaaGreatDoor.Va


namespace Go.Proofs.YteaaikmejacpaaaGreatDoor.Va
open Go.ChangeShapes Go.WideShapes Go.ChangeAt Go.RowKit
open Fr Fx
set_option maxRecDepth 8000
set_option linter.unusedVariables false
set_option linter.unusedSimpArgs false
set_option maxRecDepth 8000
theorem rat_vld {K B F R O n d : Int} (h : vv K B F R O n d = true) : vld (rat K F n d).1 (rat K F n d).2 = true := by
 obtain ⟨x1, x2, x3, x4, x5⟩ := vv_small h
 unfold rat
 by_cases k2 : K = 2
 ·rw [if_pos k2]
  rw [vv_fix k2] at h
  obtain ⟨_, rfl, _⟩ := fv_parts h
  exact (back K B F R O n h).1
 ·rw [if_neg k2]
  by_cases k1 : K = 1
  ·have ht := vv_ty h
   unfold vv at h
   rw [if_neg k2, ht, if_pos k1] at h
   exact h
  ·obtain rfl := x5 k1
   exact vld_one x3 x4
set_option maxHeartbeats 4000000 in
theorem c_rat (K B F R O n d : Int) (w : World) (h : vv K B F R O n d = true) : Calls Tryz.prog 134 #[T5 K B F R O, V2 n d] w (Ret (V2 (rat K F n d).1 (rat K F n d).2) w) := by
 unfold rat
 by_cases hk : K = 2
 ·rw [if_pos hk]
  have k1 : (K == 2) = true := by simpa using hk
  rw [vv_fix hk] at h
  have TF := Lib.hid fun w => tf_ok2 K B F R O n d h w
  dsimp only
  generalize (red n F.toNat).1 = x at *
  generalize (2 : Int) ^ (red n F.toNat).2 = y at *
  clear h hk
  go_enter Tryz.func134, Tryz.ntmps134
  go_wp2_with (first | (go_at_call 156; (with_reducible refine (TF.out _).mono ?_); rintro e w1 ⟨rfl, hb1⟩; have hc1 := (bcell hb1).1; have hf1 := (bcell hb1).2; have z1_0 : w.heap.size < w1.heap.size := SqB.z hb1; have z1_1 : w.heap.size + 1 < w1.heap.size := SqB.z hb1; have z1_2 : w.heap.size + 1 + 1 < w1.heap.size := SqB.z hb1; have K1 : Below w.heap.size w w1 := SqB.t hb1))
  refine bodyPost_ret (v := V2 x y) (by simp [results, Tryz.results134, go_sem, hc1, hf1, SqB.n z1_0, SqB.n z1_1, SqB.n z1_2]) rfl ⟨rfl, ?_⟩; exact SqB.b
 ·rw [if_neg hk]
  have k1 : (K == 2) = false := by simpa using hk
  clear h hk
  go_enter Tryz.func134, Tryz.ntmps134
  go_wp2
  refine bodyPost_ret (v := V2 n d) (by simp [results, Tryz.results134, go_sem]) rfl ⟨rfl, ?_⟩; exact SqB.b
end Go.Proofs.YteaaikmejacpaaaGreatDoor.Va


namespace Go.Proofs.YteaaikmejacpaaaGreatDoor.Va
open Go.ChangeShapes Go.WideShapes Go.ChangeAt Go.RowKit
open Fr Fx
set_option maxRecDepth 8000
set_option linter.unusedVariables false
set_option linter.unusedSimpArgs false
set_option maxRecDepth 8000
def opv (fold : Int) : Int := if fold = 2 then 6 else if fold = 3 then 9 else if fold = 4 then 10 else 4
def known (fold : Int) : Bool := decide (1 <= fold /\ fold <= 5)
def idv (fold K B F R O : Int) : Int × Int × Bool :=
 if ty K B F R O = false then (0, 0, false) else if fold = 1 \/ fold = 5 then (0, 1, true) else if fold = 2 then ((onv K B F R O).1, (onv K B F R O).2.1, decide ((onv K B F R O).2.2 = 0)) else (0, 0, false)
/-- A slice of numbers reads as a list of pairs. -/
def SlV (w : World) (p : Option Addr) (xs : List (Int × Int)) : Prop := ∀ i, i < xs.length -> ∃ b o, p = some ⟨b, o, none⟩ /\ w.cell? ⟨b, o + i * 2, none⟩ = some (.int .i64 (xs.getD i (0, 0)).1) /\ w.cell? ⟨b, o + i * 2 + 1, none⟩ = some (.int .i64 (xs.getD i (0, 0)).2)
theorem SlV.below {w w' : World} {p : Option Addr} {xs : List (Int × Int)} (h : SlV w p xs) (hb : Below w.heap.size w w') : SlV w' p xs := fun i hi => by
 obtain ⟨b, o, rfl, c0, c1⟩ := h i hi
 exact ⟨b, o, rfl, Rg.keep hb (World.block_lt_of_cell? _ _ c0) c0, Rg.keep hb (World.block_lt_of_cell? _ _ c1) c1⟩
theorem cutV {w : World} {b o c : Nat} {x : Int × Int} {xa : List (Int × Int)} (h : SlV w (some ⟨b, o, none⟩) (x :: xa)) (hc : (x :: xa).length <= c) :
  ∃ A : Option Addr, (if c = 1 then some (⟨b, o, none⟩ : Addr) else some ⟨b, o + 2, none⟩) = A /\ SlV w A xa := by
 rw [List.length_cons] at hc
 refine ⟨_, rfl, fun i hi => ?_⟩
 rw [if_neg (by omega)]
 obtain ⟨b1, o1, e, c0, c1⟩ := h (i + 1) (by rw [List.length_cons]; omega)
 cases e
 refine ⟨b, o + 2, rfl, ?_, ?_⟩
 ·rw [show o + 2 + i * 2 = o + (i + 1) * 2 by omega]; exact c0
 ·rw [show o + 2 + i * 2 + 1 = o + (i + 1) * 2 + 1 by omega]; exact c1
def rdf (op K B F R O : Int) : List (Int × Int) -> Int × Int -> A3
 | [], a => (a.1, a.2, 0)
 | v :: r, a => if (apv op K B F R O a.1 a.2 v.1 v.2).2.2 = 0 then rdf op K B F R O r ((apv op K B F R O a.1 a.2 v.1 v.2).1, (apv op K B F R O a.1 a.2 v.1 v.2).2.1) else (0, 0, (apv op K B F R O a.1 a.2 v.1 v.2).2.2)
def rdt (fold K B F R O : Int) : List (Int × Int) -> A3
 | [] => if (idv fold K B F R O).2.2 = true then ((idv fold K B F R O).1, (idv fold K B F R O).2.1, 0) else (0, 0, 1)
 | v :: r => rdf (opv fold) K B F R O r v
def rdv (fold K B F R O : Int) (l : List (Int × Int)) : A3 :=
 if known fold = false then (0, 0, 1) else if ty K B F R O = false then (0, 0, 10) else if (∃ i, i < l.length /\ vv K B F R O (l.getD i (0, 0)).1 (l.getD i (0, 0)).2 = false) then (0, 0, 1)
 else rdt fold K B F R O l
theorem drop_step {xs : List (Int × Int)} {i : Nat} (h : i < xs.length) : xs.drop i = xs.getD i (0, 0) :: xs.drop (i + 1) := by
 rw [List.drop_eq_getElem_cons h]
 congr 1
 rw [List.getD, List.getElem?_eq_getElem h]; rfl
theorem rdf_step {op K B F R O : Int} {xs : List (Int × Int)} {i : Nat} (h : i < xs.length) (a : Int × Int) : rdf op K B F R O (xs.drop i) a =
  if (apv op K B F R O a.1 a.2 (xs.getD i (0, 0)).1 (xs.getD i (0, 0)).2).2.2 = 0 then rdf op K B F R O (xs.drop (i + 1)) ((apv op K B F R O a.1 a.2 (xs.getD i (0, 0)).1 (xs.getD i (0, 0)).2).1, (apv op K B F R O a.1 a.2 (xs.getD i (0, 0)).1 (xs.getD i (0, 0)).2).2.1) else (0, 0, (apv op K B F R O a.1 a.2 (xs.getD i (0, 0)).1 (xs.getD i (0, 0)).2).2.2) := by
 rw [drop_step h]; rfl
theorem rdf_end {op K B F R O : Int} {xs : List (Int × Int)} (a : Int × Int) : rdf op K B F R O (xs.drop xs.length) a = (a.1, a.2, 0) := by
 rw [List.drop_length]; rfl
theorem c_op (fold : Int) (w : World) : Calls Tryz.prog 101 #[.int .i64 fold] w fun e w' => e = .returned (.tuple #[.int .i64 (if known fold then opv fold else 0), .bool (known fold)]) /\ w = w' := by
 have hk : known fold = decide (1 <= fold /\ fold <= 5) := rfl
 by_cases h1 : fold = 1
 ·subst h1
  go_enter Tryz.func101, Tryz.ntmps101
  go_wp2
  go_ret2
  exact ⟨rfl, rfl⟩
 by_cases h5 : fold = 5
 ·subst h5
  go_enter Tryz.func101, Tryz.ntmps101
  go_wp2
  go_ret2
  exact ⟨rfl, rfl⟩
 by_cases h2 : fold = 2
 ·subst h2
  go_enter Tryz.func101, Tryz.ntmps101
  go_wp2
  go_ret2
  exact ⟨rfl, rfl⟩
 by_cases h3 : fold = 3
 ·subst h3
  go_enter Tryz.func101, Tryz.ntmps101
  go_wp2
  go_ret2
  exact ⟨rfl, rfl⟩
 by_cases h4 : fold = 4
 ·subst h4
  go_enter Tryz.func101, Tryz.ntmps101
  go_wp2
  go_ret2
  exact ⟨rfl, rfl⟩
 rw [show known fold = false by unfold known; exact decide_eq_false (by omega)]
 have g1 : (fold == 1) = false := by simpa using h1
 have g2 : (fold == 2) = false := by simpa using h2
 have g3 : (fold == 3) = false := by simpa using h3
 have g4 : (fold == 4) = false := by simpa using h4
 have g5 : (fold == 5) = false := by simpa using h5
 clear h1 h2 h3 h4 h5 hk
 go_enter Tryz.func101, Tryz.ntmps101
 go_wp2
 go_ret2
 exact ⟨rfl, rfl⟩
abbrev I3 (r : Int × Int × Bool) : Value := .tuple #[V2 r.1 r.2.1, .bool r.2.2]
set_option maxHeartbeats 4000000 in
theorem c_id (fold K B F R O : Int) (w : World) (b0 : -9223372036854775808 <= B) (b1 : B <= 9223372036854775807) : Calls Tryz.prog 102 #[.int .i64 fold, T5 K B F R O] w (Ret (I3 (idv fold K B F R O)) w) := by
 cases h : ty K B F R O
 ·rw [show idv fold K B F R O = (0, 0, false) by unfold idv; rw [if_pos h]]
  have VT := Lib.hid fun w => vtF h w
  clear h b0 b1
  go_enter Tryz.func102, Tryz.ntmps102
  go_wp2_with (first | (go_at_call 46; (with_reducible refine (VT.out _).mono ?_); rintro e w1 ⟨rfl, hb1⟩; have hc1 := (bcell hb1).1; have hf1 := (bcell hb1).2; have z1_0 : w.heap.size < w1.heap.size := SqB.z hb1; have z1_1 : w.heap.size + 1 < w1.heap.size := SqB.z hb1; have K1 : Below w.heap.size w w1 := SqB.t hb1))
  refine bodyPost_ret (v := .tuple #[V2 0 0, .bool false]) (by simp [results, Tryz.results102, go_sem, hc1, hf1, SqB.n z1_0, SqB.n z1_1]) rfl ⟨rfl, ?_⟩; exact SqB.b
 have VT := Lib.hid fun w => vtT h w
 have ZE := Lib.hid fun w => c_zero K B F R O w
 rw [h, if_pos rfl] at ZE
 by_cases h1 : fold = 1
 ·rw [show idv fold K B F R O = (0, 1, true) by unfold idv; rw [if_neg (by rw [h]; decide), if_pos (Or.inl h1)]]
  have g1 : (fold == 1) = true := by simpa using h1
  clear h h1 b0 b1
  go_enter Tryz.func102, Tryz.ntmps102
  go_wp2_with (first | (go_at_call 46; (with_reducible refine (VT.out _).mono ?_); rintro e w1 ⟨rfl, hb1⟩; have hc1 := (bcell hb1).1; have hf1 := (bcell hb1).2; have z1_0 : w.heap.size < w1.heap.size := SqB.z hb1; have z1_1 : w.heap.size + 1 < w1.heap.size := SqB.z hb1; have K1 : Below w.heap.size w w1 := SqB.t hb1) | (go_at_call 128; (with_reducible refine (ZE.out _).mono ?_); rintro e w2 ⟨rfl, hb2⟩; have hc2 := (bcell hb2).1; have hf2 := (bcell hb2).2; have z2_0 : w.heap.size < w2.heap.size := SqB.z hb2; have z2_1 : w.heap.size + 1 < w2.heap.size := SqB.z hb2; have K2 : Below w.heap.size w w2 := SqB.t hb2))
  refine bodyPost_ret (v := .tuple #[V2 0 1, .bool true]) (by simp [results, Tryz.results102, go_sem, hc1, hf1, hc2, hf2, SqB.n z1_0, SqB.n z1_1, SqB.n z2_0, SqB.n z2_1]) rfl ⟨rfl, ?_⟩; exact SqB.b
 have g1 : (fold == 1) = false := by simpa using h1
 by_cases h5 : fold = 5
 ·rw [show idv fold K B F R O = (0, 1, true) by unfold idv; rw [if_neg (by rw [h]; decide), if_pos (Or.inr h5)]]
  have g5 : (fold == 5) = true := by simpa using h5
  clear h h1 h5 b0 b1
  go_enter Tryz.func102, Tryz.ntmps102
  go_wp2_with (first | (go_at_call 46; (with_reducible refine (VT.out _).mono ?_); rintro e w1 ⟨rfl, hb1⟩; have hc1 := (bcell hb1).1; have hf1 := (bcell hb1).2; have z1_0 : w.heap.size < w1.heap.size := SqB.z hb1; have z1_1 : w.heap.size + 1 < w1.heap.size := SqB.z hb1; have K1 : Below w.heap.size w w1 := SqB.t hb1) | (go_at_call 128; (with_reducible refine (ZE.out _).mono ?_); rintro e w2 ⟨rfl, hb2⟩; have hc2 := (bcell hb2).1; have hf2 := (bcell hb2).2; have z2_0 : w.heap.size < w2.heap.size := SqB.z hb2; have z2_1 : w.heap.size + 1 < w2.heap.size := SqB.z hb2; have K2 : Below w.heap.size w w2 := SqB.t hb2))
  refine bodyPost_ret (v := .tuple #[V2 0 1, .bool true]) (by simp [results, Tryz.results102, go_sem, hc1, hf1, hc2, hf2, SqB.n z1_0, SqB.n z1_1, SqB.n z2_0, SqB.n z2_1]) rfl ⟨rfl, ?_⟩; exact SqB.b
 have g5 : (fold == 5) = false := by simpa using h5
 by_cases h2 : fold = 2
 ·rw [show idv fold K B F R O = ((onv K B F R O).1, (onv K B F R O).2.1, decide ((onv K B F R O).2.2 = 0)) by unfold idv; rw [if_neg (by rw [h]; decide), if_neg (by omega), if_pos h2]]
  have g2 : (fold == 2) = true := by simpa using h2
  have ON := Lib.hid fun w => c_one K B F R O w b0 b1
  obtain ⟨r, hr⟩ : ∃ r, onv K B F R O = r := ⟨_, rfl⟩
  rw [hr] at ON ⊢
  obtain ⟨x, y, z⟩ := r
  clear h h1 h5 h2 b0 b1 hr
  show Calls _ _ _ _ (Ret (.tuple #[Fx.V2 x y, .bool (decide (z = 0))]) w)
  rw [show decide (z = 0) = (z == 0) from by rw [Bool.eq_iff_iff]; simp]
  go_enter Tryz.func102, Tryz.ntmps102
  go_wp2_with (first | (go_at_call 46; (with_reducible refine (VT.out _).mono ?_); rintro e w1 ⟨rfl, hb1⟩; have hc1 := (bcell hb1).1; have hf1 := (bcell hb1).2; have z1_0 : w.heap.size < w1.heap.size := SqB.z hb1; have z1_1 : w.heap.size + 1 < w1.heap.size := SqB.z hb1; have K1 : Below w.heap.size w w1 := SqB.t hb1) | (go_at_call 129; (with_reducible refine (ON.out _).mono ?_); rintro e w2 ⟨rfl, hb2⟩; have hc2 := (bcell hb2).1; have hf2 := (bcell hb2).2; have z2_0 : w.heap.size < w2.heap.size := SqB.z hb2; have z2_1 : w.heap.size + 1 < w2.heap.size := SqB.z hb2; have K2 : Below w.heap.size w w2 := SqB.t hb2))
  refine bodyPost_ret (v := .tuple #[V2 x y, .bool (z == 0)]) (by simp [results, Tryz.results102, go_sem, hc1, hf1, hc2, hf2, SqB.n z1_0, SqB.n z1_1, SqB.n z2_0, SqB.n z2_1]) rfl ⟨rfl, ?_⟩; exact SqB.b
 ·rw [show idv fold K B F R O = (0, 0, false) by unfold idv; rw [if_neg (by rw [h]; decide), if_neg (by omega), if_neg h2]]
  have g2 : (fold == 2) = false := by simpa using h2
  clear h h1 h5 h2 b0 b1
  go_enter Tryz.func102, Tryz.ntmps102
  go_wp2_with (first | (go_at_call 46; (with_reducible refine (VT.out _).mono ?_); rintro e w1 ⟨rfl, hb1⟩; have hc1 := (bcell hb1).1; have hf1 := (bcell hb1).2; have z1_0 : w.heap.size < w1.heap.size := SqB.z hb1; have z1_1 : w.heap.size + 1 < w1.heap.size := SqB.z hb1; have K1 : Below w.heap.size w w1 := SqB.t hb1))
  refine bodyPost_ret (v := .tuple #[V2 0 0, .bool false]) (by simp [results, Tryz.results102, go_sem, hc1, hf1, SqB.n z1_0, SqB.n z1_1]) rfl ⟨rfl, ?_⟩; exact SqB.b
end Go.Proofs.YteaaikmejacpaaaGreatDoor.Va


namespace Go.Proofs.YteaaikmejacpaaaGreatDoor.Va
open Go.ChangeShapes Go.WideShapes Go.ChangeAt Go.RowKit
open Fr Fx
set_option maxRecDepth 8000
set_option linter.unusedVariables false
set_option linter.unusedSimpArgs false
set_option maxRecDepth 8000

end Go.Proofs.YteaaikmejacpaaaGreatDoor.Va


namespace Go.Proofs.YteaaikmejacpaaaGreatDoor.Te
open Go.ChangeShapes Go.WideShapes Go.ChangeAt Go.RowKit
open Fr Fx Va
set_option maxRecDepth 8000
set_option linter.unusedVariables false
set_option linter.unusedSimpArgs false

/-- A type lies in the first cells of a block. -/
def TyC (w : World) (g : Nat) (K B F R O : Int) : Prop := w.cell? ⟨g, 0, none⟩ = some (.int .i64 K) /\ w.cell? ⟨g, 1, none⟩ = some (.int .i64 B) /\ w.cell? ⟨g, 2, none⟩ = some (.int .i64 F) /\ w.cell? ⟨g, 3, none⟩ = some (.int .i64 R) /\ w.cell? ⟨g, 4, none⟩ = some (.int .i64 O)
theorem TyC.keep {w w' : World} {g : Nat} {K B F R O : Int} (hb : Below w.heap.size w w') (h : TyC w g K B F R O) : TyC w' g K B F R O := by
 have lg := World.block_lt_of_cell? _ _ h.1
 exact ⟨Rg.keep hb lg h.1, Rg.keep hb lg h.2.1, Rg.keep hb lg h.2.2.1, Rg.keep hb lg h.2.2.2.1, Rg.keep hb lg h.2.2.2.2⟩
abbrev badV (K B F R O : Int) (v : Int × Int) : Bool := !vv K B F R O v.1 v.2
set_option maxHeartbeats 4000000 in
theorem vclo (K B F R O n d : Int) (g : Nat) (w : World) (b0 : -9223372036854775808 <= B) (b1 : B <= 9223372036854775807) (hT : Hid (TyC w g K B F R O)) : Calls Tryz.prog 57 #[V2 n d, .pointer (some ⟨g, 0, none⟩)] w fun e w' => e = .returned (.bool (badV K B F R O (n, d))) /\ Below w.heap.size w w' := by
 have VC := Lib.hid fun w => c_va K B F R O n d w b0 b1
 have BA : Below w.heap.size w (w.alloc (Obj.cells #[Value.int .i64 n, Value.int .i64 d] 29)) := (Below.refl _ _).alloc (Nat.le_refl _) _
 obtain ⟨t0, t1, t2, t3, t4⟩ := hT.out
 have lg := World.block_lt_of_cell? _ _ t0
 unfold badV
 dsimp only
 obtain ⟨r, hr⟩ : ∃ r, vv K B F R O n d = r := ⟨_, rfl⟩
 rw [hr] at VC ⊢
 clear hr hT
 go_enter Tryz.func57, Tryz.ntmps57
 go_wp2_with (go_at_call 48; (with_reducible refine (VC.out _).mono ?_); rintro e w1 ⟨rfl, hb⟩; have K1 := BA.trans (hb.mono BA.size))
 go_ret
 exact ⟨rfl, K1⟩
set_option maxRecDepth 100000 in
set_option maxHeartbeats 8000000 in
theorem ixV (K B F R O : Int) (p : Option Addr) (xs : List (Int × Int)) (c g : Nat) (w : World) (b0 : -9223372036854775808 <= B) (b1 : B <= 9223372036854775807) (hn : xs.length <= maxLen) (RA : Hid (SlV w p xs)) (hT : Hid (TyC w g K B F R O)) :
  Calls Tryz.prog 89 #[.slice p xs.length c, .func (.func 57) #[] #[.pointer (some ⟨g, 0, none⟩)]] w fun e w' => (∃ r : Int, e = .returned (.int .i64 r) /\ decide (0 <= r) = xs.any (badV K B F R O)) /\ Below w.heap.size w w' := by
 obtain ⟨RES, hRES⟩ : ∃ RES, xs.any (badV K B F R O) = RES := ⟨_, rfl⟩
 rw [hRES]
 have HRES := Lib.hid hRES
 obtain ⟨n, hnn⟩ : ∃ n, xs.length = n := ⟨_, rfl⟩
 have HN := Lib.hid hnn
 rw [hnn] at hn ⊢
 unfold maxLen at hn
 clear hnn hRES
 go_enter Tryz.func89, Tryz.ntmps89
 go_wp2_with fail
 go_loopw [8] (fun iv wr => ∃ (j : Nat), iv = .int .i64 (j : Int) /\ j <= n /\ Hid (Below w.heap.size w wr) /\ Hid ((xs.drop j).any (badV K B F R O) = RES)) (fun iv _ => n - (intOf iv).toNat)
 case atStart => exact ⟨0, rfl, Nat.zero_le _, Lib.hid (Below.refl _ _), HRES⟩
 case round =>
  obtain ⟨j, rfl, hj, hB, hE⟩ := hrel
  have jj : (0 : Int) <= j := by omega
  by_cases hlt : j < n
  ·have hjl : j < xs.length := by rw [HN.out]; exact hlt
   have j2 : (j : Int) < n := by omega
   obtain ⟨b, o, rfl, c0, c1⟩ := (SlV.below RA.out hB.out) j hjl
   have hdr : xs.drop j = xs.getD j (0, 0) :: xs.drop (j + 1) := drop_step hjl
   have h := hE.out
   rw [hdr, List.any_cons] at h
   obtain ⟨x, hx⟩ : ∃ x, xs.getD j (0, 0) = x := ⟨_, rfl⟩
   rw [hx] at c0 c1 h
   obtain ⟨k, d⟩ := x
   dsimp only at c0 c1
   have UC0 := vclo K B F R O k d g wr b0 b1 (Lib.hid (TyC.keep hB.out hT.out))
   obtain ⟨q, hq⟩ : ∃ q, badV K B F R O (k, d) = q := ⟨_, rfl⟩
   rw [hq] at h UC0
   have UC := Lib.hid UC0
   clear hx hdr hE hjl hq UC0
   cases q with
   | true =>
    have HR : Hid (RES = true) := Lib.hid (by simpa using h.symm)
    clear h
    go_wp2_with (go_at_call 57; (with_reducible refine UC.out.mono ?_); rintro e w1 ⟨rfl, hb⟩)
    go_ret
    exact ⟨⟨(j : Int), rfl, by rw [HR.out]; simp⟩, hB.out.trans (hb.mono hB.out.size)⟩
   | false =>
    have HR : Hid ((xs.drop (j + 1)).any (badV K B F R O) = RES) := Lib.hid (by simpa using h)
    clear h
    go_wp2_with (go_at_call 57; (with_reducible refine UC.out.mono ?_); rintro e w1 ⟨rfl, hb⟩; have HB2 := Lib.hid (hB.out.trans (hb.mono hB.out.size)))
    go_roundw
    case rel => exact ⟨j + 1, by go_num, by omega, HB2, HR⟩
    case measure => simp [intOf]; omega
  ·obtain rfl : j = n := by omega
   have HR : Hid (RES = false) := Lib.hid (by
    have h := hE.out
    rw [List.drop_of_length_le (by rw [HN.out]; exact Nat.le_refl _)] at h
    exact h.symm)
   go_wp2_with fail
   go_ret
   exact ⟨⟨-1, rfl, by rw [HR.out]; simp⟩, hB.out⟩
theorem cfV (K B F R O : Int) (p : Option Addr) (xs : List (Int × Int)) (c g : Nat) (w : World) (b0 : -9223372036854775808 <= B) (b1 : B <= 9223372036854775807) (hn : xs.length <= maxLen) (RA : Hid (SlV w p xs)) (hT : Hid (TyC w g K B F R O)) :
  Calls Tryz.prog 56 #[.slice p xs.length c, .func (.func 57) #[] #[.pointer (some ⟨g, 0, none⟩)]] w fun e w' => e = .returned (.bool (xs.any (badV K B F R O))) /\ Below w.heap.size w w' := by
 have IX := Lib.hid (ixV K B F R O p xs c g w b0 b1 hn RA hT)
 obtain ⟨RES, hRES⟩ : ∃ RES, xs.any (badV K B F R O) = RES := ⟨_, rfl⟩
 rw [hRES] at IX ⊢
 clear hRES
 go_enter Tryz.func56, Tryz.ntmps56
 go_wp2_with (go_at_call 89; (with_reducible refine IX.out.mono ?_); rintro e w1 ⟨⟨r, rfl, hr⟩, hb⟩; have HR := Lib.hid hr; clear hr)
 go_ret
 exact ⟨by rw [<- HR.out]; rfl, hb⟩
end Go.Proofs.YteaaikmejacpaaaGreatDoor.Te
