/- combine of package fixed, at one of its closures. -/
import Derived.Test.YteaaikmejacpaaaGreatDoorR0
import Derived.Test.YteaaikmejacpaaaGreatDoorR2
import Derived.Test.YteaaikmejacpaaaGreatDoorR3

namespace Go.Proofs.YteaaikmejacpaaaGreatDoor.Fx
open Go.ChangeShapes Go.WideShapes Go.ChangeAt Go.RowKit
open Fr
set_option maxRecDepth 8000
set_option linter.unusedVariables false
set_option linter.unusedSimpArgs false
set_option maxRecDepth 8000

set_option maxHeartbeats 8000000 in
theorem comb57_ok (K B F R O n0 d0 n1 d1 p r : Int) (w : World) (hp : (2 : Int) ^ F.toNat = p) (p0 : 1 <= p) (p1 : p <= 1073741824) (f0 : 0 <= F) (f1 : F <= 30) (q0 : -9223372036854775808 <= r) (q1 : r <= 9223372036854775807) (bb0 : -9223372036854775808 <= B) (bb1 : B <= 9223372036854775807) (CH : Hid (∀ (w : World) (x : Nat), x < w.heap.size -> w.cell? ⟨x, 0, none⟩ = some (.int .i64 n0) -> w.cell? ⟨x, 1, none⟩ = some (.int .i64 d0) -> w.cell? ⟨x, 2, none⟩ = some (.int .i64 n1) -> w.cell? ⟨x, 3, none⟩ = some (.int .i64 d1) ->
   Calls Tryz.prog 165 #[.agg #[.int .i64 K, .int .i64 B, .int .i64 F, .int .i64 R, .int .i64 O], .slice (some ⟨x, 0, none⟩) 2 2] w (Ret (.int .i64 0) w)))
  (H : Hid (∀ (w : World) (x : Nat), TyAt K B F R O x w -> Calls Tryz.prog 162 #[.agg #[Fo1 x, Fo2 x, .int .i64 p], .int .i64 n0, .int .i64 n1] w (Ret (.int .i64 r) w))) :
  Calls Tryz.prog 161 #[.agg #[.int .i64 K, .int .i64 B, .int .i64 F, .int .i64 R, .int .i64 O], .agg #[.int .i64 n0, .int .i64 d0], .agg #[.int .i64 n1, .int .i64 d1], .func (.func 162) #[] #[]] w (Ret (Frac3 (Nx.nv r B O) 1 0) w) := by
 have FO := Lib.hid fun w => fo_any K B F R O p w hp p0 p1 f0 f1
 have F2 := Lib.hid fun (w : World) (x : Nat) (h : TyAt K B F R O x w) => fo2 K B F R O r x w h q0 q1 bb0 bb1
 generalize Nx.nv r B O = v at *
 clear hp
 go_enter Tryz.func161, Tryz.ntmps161
 go_wp2_with fail
 refine (CH.out _ _ (by simp <;> omega) (by go_cell) (by go_cell) (by go_cell) (by go_cell)).mono ?_
 rintro e w1 ⟨rfl, hb⟩
 have L : Below w.heap.size w w1 := ((((((Below.refl _ _).alloc (by simp <;> omega) _).alloc (by simp <;> omega) _).alloc (by simp <;> omega) _).alloc (by simp <;> omega) _).alloc (by simp <;> omega) _).trans (hb.mono (by simp <;> omega))
 have K1 : Below w.heap.size w w1 := L
 have lt : w.heap.size < w1.heap.size := Nat.lt_of_lt_of_le (by simp <;> omega) hb.size
 have t0 : w1.cell? ⟨w.heap.size, 0, none⟩ = some (.int .i64 K) := Rg.keep hb (by simp <;> omega) (by go_cell)
 have t1 : w1.cell? ⟨w.heap.size, 1, none⟩ = some (.int .i64 B) := Rg.keep hb (by simp <;> omega) (by go_cell)
 have t2 : w1.cell? ⟨w.heap.size, 2, none⟩ = some (.int .i64 F) := Rg.keep hb (by simp <;> omega) (by go_cell)
 have t3 : w1.cell? ⟨w.heap.size, 3, none⟩ = some (.int .i64 R) := Rg.keep hb (by simp <;> omega) (by go_cell)
 have t4 : w1.cell? ⟨w.heap.size, 4, none⟩ = some (.int .i64 O) := Rg.keep hb (by simp <;> omega) (by go_cell)
 have la : w.heap.size + 1 < w1.heap.size := Nat.lt_of_lt_of_le (by simp <;> omega) hb.size
 have a0 : w1.cell? ⟨w.heap.size + 1, 0, none⟩ = some (.int .i64 n0) := Rg.keep hb (by simp <;> omega) (by go_cell)
 have a1 : w1.cell? ⟨w.heap.size + 1, 1, none⟩ = some (.int .i64 d0) := Rg.keep hb (by simp <;> omega) (by go_cell)
 have lb : w.heap.size + 1 + 1 < w1.heap.size := Nat.lt_of_lt_of_le (by simp <;> omega) hb.size
 have b0 : w1.cell? ⟨w.heap.size + 1 + 1, 0, none⟩ = some (.int .i64 n1) := Rg.keep hb (by simp <;> omega) (by go_cell)
 have b1 : w1.cell? ⟨w.heap.size + 1 + 1, 1, none⟩ = some (.int .i64 d1) := Rg.keep hb (by simp <;> omega) (by go_cell)
 have lr : w.heap.size + 1 + 1 + 1 < w1.heap.size := Nat.lt_of_lt_of_le (by simp <;> omega) hb.size
 have r0 : w1.cell? ⟨w.heap.size + 1 + 1 + 1, 0, none⟩ = some (.int .i64 0) := Rg.keep hb (by simp <;> omega) (by go_cell)
 have r1 : w1.cell? ⟨w.heap.size + 1 + 1 + 1, 1, none⟩ = some (.int .i64 0) := Rg.keep hb (by simp <;> omega) (by go_cell)
 have ls : w.heap.size + 1 + 1 + 1 + 1 < w1.heap.size := Nat.lt_of_lt_of_le (by simp <;> omega) hb.size
 have s0 : w1.cell? ⟨w.heap.size + 1 + 1 + 1 + 1, 0, none⟩ = some (.int .i64 n0) := Rg.keep hb (by simp <;> omega) (by go_cell)
 have s1 : w1.cell? ⟨w.heap.size + 1 + 1 + 1 + 1, 1, none⟩ = some (.int .i64 d0) := Rg.keep hb (by simp <;> omega) (by go_cell)
 have s2 : w1.cell? ⟨w.heap.size + 1 + 1 + 1 + 1, 2, none⟩ = some (.int .i64 n1) := Rg.keep hb (by simp <;> omega) (by go_cell)
 have s3 : w1.cell? ⟨w.heap.size + 1 + 1 + 1 + 1, 3, none⟩ = some (.int .i64 d1) := Rg.keep hb (by simp <;> omega) (by go_cell)
 have RF0 : w1.frozen? ⟨w.heap.size + 1 + 1 + 1, 0, none⟩ = false := Rg.keepF hb (by simp <;> omega) (by simp only [frozen?_alloc_cells]; exact Rg.notFrozen (by omega))
 have RF1 : w1.frozen? ⟨w.heap.size + 1 + 1 + 1, 1, none⟩ = false := Rg.keepF hb (by simp <;> omega) (by simp only [frozen?_alloc_cells]; exact Rg.notFrozen (by omega))
 have lr1 : w.heap.size + 1 + 1 + 1 < w1.heap.size := lr
 clear hb L
 go_wp2_with fail
 refine (FO.out _).mono ?_
 rintro e w2 ⟨rfl, hb, lx, x0, x1, x2, x3, x4⟩
 have L : Below w1.heap.size w1 w2 := (Below.refl _ _).trans (hb.mono (by simp <;> omega))
 have K2 : Below w.heap.size w w2 := K1.trans (L.mono K1.size)
 have t0 := Rg.keep L lt t0
 have t1 := Rg.keep L lt t1
 have t2 := Rg.keep L lt t2
 have t3 := Rg.keep L lt t3
 have t4 := Rg.keep L lt t4
 have a0 := Rg.keep L la a0
 have a1 := Rg.keep L la a1
 have b0 := Rg.keep L lb b0
 have b1 := Rg.keep L lb b1
 have r0 := Rg.keep L lr r0
 have r1 := Rg.keep L lr r1
 have s0 := Rg.keep L ls s0
 have s1 := Rg.keep L ls s1
 have s2 := Rg.keep L ls s2
 have s3 := Rg.keep L ls s3
 have lt := Nat.lt_of_lt_of_le lt L.size
 have la := Nat.lt_of_lt_of_le la L.size
 have lb := Nat.lt_of_lt_of_le lb L.size
 have lr := Nat.lt_of_lt_of_le lr L.size
 have ls := Nat.lt_of_lt_of_le ls L.size
 have RF0 := Rg.keepF L lr1 RF0
 have RF1 := Rg.keepF L lr1 RF1
 clear hb L
 go_wp2_with fail
 have hx1 : w.heap.size + 1 + 1 + 1 < w1.heap.size := lr1
 have z0 : Below w2.heap.size w2 (w2.alloc (.cells #[Fo1 w1.heap.size, Fo2 w1.heap.size, .int .i64 p] 163)) := (Below.refl _ _).alloc (Nat.le_refl _) _
 have hz : (w2.alloc (.cells #[Fo1 w1.heap.size, Fo2 w1.heap.size, .int .i64 p] 163)).cell? ⟨w2.heap.size, 0, none⟩ = some (Fo1 w1.heap.size) /\ (w2.alloc (.cells #[Fo1 w1.heap.size, Fo2 w1.heap.size, .int .i64 p] 163)).cell? ⟨w2.heap.size, 1, none⟩ = some (Fo2 w1.heap.size) /\ (w2.alloc (.cells #[Fo1 w1.heap.size, Fo2 w1.heap.size, .int .i64 p] 163)).cell? ⟨w2.heap.size, 2, none⟩ = some (.int .i64 p) /\ (w2.alloc (.cells #[Fo1 w1.heap.size, Fo2 w1.heap.size, .int .i64 p] 163)).cell? ⟨w.heap.size + 1, 0, none⟩ = some (.int .i64 n0) /\ (w2.alloc (.cells #[Fo1 w1.heap.size, Fo2 w1.heap.size, .int .i64 p] 163)).cell? ⟨w.heap.size + 1 + 1, 0, none⟩ = some (.int .i64 n1) /\ (w2.alloc (.cells #[Fo1 w1.heap.size, Fo2 w1.heap.size, .int .i64 p] 163)).cell? ⟨w1.heap.size, 0, none⟩ = some (.int .i64 K) /\ (w2.alloc (.cells #[Fo1 w1.heap.size, Fo2 w1.heap.size, .int .i64 p] 163)).cell? ⟨w1.heap.size, 1, none⟩ = some (.int .i64 B) /\ (w2.alloc (.cells #[Fo1 w1.heap.size, Fo2 w1.heap.size, .int .i64 p] 163)).cell? ⟨w1.heap.size, 2, none⟩ = some (.int .i64 F) /\ (w2.alloc (.cells #[Fo1 w1.heap.size, Fo2 w1.heap.size, .int .i64 p] 163)).cell? ⟨w1.heap.size, 3, none⟩ = some (.int .i64 R) /\ (w2.alloc (.cells #[Fo1 w1.heap.size, Fo2 w1.heap.size, .int .i64 p] 163)).cell? ⟨w1.heap.size, 4, none⟩ = some (.int .i64 O) /\ Rg.RC (w.heap.size + 1 + 1 + 1) (w2.alloc (.cells #[Fo1 w1.heap.size, Fo2 w1.heap.size, .int .i64 p] 163)) /\ (w2.alloc (.cells #[Fo1 w1.heap.size, Fo2 w1.heap.size, .int .i64 p] 163)).heap.size <= (w2.alloc (.cells #[Fo1 w1.heap.size, Fo2 w1.heap.size, .int .i64 p] 163)).heap.size /\ Below w.heap.size w (w2.alloc (.cells #[Fo1 w1.heap.size, Fo2 w1.heap.size, .int .i64 p] 163)) :=
  ⟨by go_cell, by go_cell, by go_cell, Rg.keep z0 la a0, Rg.keep z0 lb b0, Rg.keep z0 lx x0, Rg.keep z0 lx x1, Rg.keep z0 lx x2, Rg.keep z0 lx x3, Rg.keep z0 lx x4, Rg.RC.keep z0 lr ⟨⟨0, r0⟩, ⟨0, r1⟩, RF0, RF1⟩, Nat.le_refl _, K2.trans (z0.mono K2.size)⟩
 have g0 : w2.heap.size < (w2.alloc (.cells #[Fo1 w1.heap.size, Fo2 w1.heap.size, .int .i64 p] 163)).heap.size := by simp
 have la := Nat.lt_of_lt_of_le la z0.size
 have lb := Nat.lt_of_lt_of_le lb z0.size
 have lr' := Nat.lt_of_lt_of_le lr z0.size
 have lx' := Nat.lt_of_lt_of_le lx z0.size
 clear z0 r0 r1 RF0 RF1 x0 x1 x2 x3 x4 a0 a1 b0 b1 t0 t1 t2 t3 t4 s0 s1 s2 s3 K1 K2
 generalize (w2.alloc (.cells #[Fo1 w1.heap.size, Fo2 w1.heap.size, .int .i64 p] 163)) = z at *
 have HS : Hid (∀ u u' : World, (u.cell? ⟨w2.heap.size, 0, none⟩ = some (Fo1 w1.heap.size) /\ u.cell? ⟨w2.heap.size, 1, none⟩ = some (Fo2 w1.heap.size) /\ u.cell? ⟨w2.heap.size, 2, none⟩ = some (.int .i64 p) /\ u.cell? ⟨w.heap.size + 1, 0, none⟩ = some (.int .i64 n0) /\ u.cell? ⟨w.heap.size + 1 + 1, 0, none⟩ = some (.int .i64 n1) /\ u.cell? ⟨w1.heap.size, 0, none⟩ = some (.int .i64 K) /\ u.cell? ⟨w1.heap.size, 1, none⟩ = some (.int .i64 B) /\ u.cell? ⟨w1.heap.size, 2, none⟩ = some (.int .i64 F) /\ u.cell? ⟨w1.heap.size, 3, none⟩ = some (.int .i64 R) /\ u.cell? ⟨w1.heap.size, 4, none⟩ = some (.int .i64 O) /\ Rg.RC (w.heap.size + 1 + 1 + 1) u /\ z.heap.size <= u.heap.size /\ Below w.heap.size w u) -> Below u.heap.size u u' -> (u'.cell? ⟨w2.heap.size, 0, none⟩ = some (Fo1 w1.heap.size) /\ u'.cell? ⟨w2.heap.size, 1, none⟩ = some (Fo2 w1.heap.size) /\ u'.cell? ⟨w2.heap.size, 2, none⟩ = some (.int .i64 p) /\ u'.cell? ⟨w.heap.size + 1, 0, none⟩ = some (.int .i64 n0) /\ u'.cell? ⟨w.heap.size + 1 + 1, 0, none⟩ = some (.int .i64 n1) /\ u'.cell? ⟨w1.heap.size, 0, none⟩ = some (.int .i64 K) /\ u'.cell? ⟨w1.heap.size, 1, none⟩ = some (.int .i64 B) /\ u'.cell? ⟨w1.heap.size, 2, none⟩ = some (.int .i64 F) /\ u'.cell? ⟨w1.heap.size, 3, none⟩ = some (.int .i64 R) /\ u'.cell? ⟨w1.heap.size, 4, none⟩ = some (.int .i64 O) /\ Rg.RC (w.heap.size + 1 + 1 + 1) u' /\ z.heap.size <= u'.heap.size /\ Below w.heap.size w u')) := Lib.hid (fun u u' h hb => ⟨Rg.keep hb (Nat.lt_of_lt_of_le g0 h.2.2.2.2.2.2.2.2.2.2.2.1) h.1, Rg.keep hb (Nat.lt_of_lt_of_le g0 h.2.2.2.2.2.2.2.2.2.2.2.1) h.2.1, Rg.keep hb (Nat.lt_of_lt_of_le g0 h.2.2.2.2.2.2.2.2.2.2.2.1) h.2.2.1, Rg.keep hb (Nat.lt_of_lt_of_le la h.2.2.2.2.2.2.2.2.2.2.2.1) h.2.2.2.1, Rg.keep hb (Nat.lt_of_lt_of_le lb h.2.2.2.2.2.2.2.2.2.2.2.1) h.2.2.2.2.1, Rg.keep hb (Nat.lt_of_lt_of_le lx' h.2.2.2.2.2.2.2.2.2.2.2.1) h.2.2.2.2.2.1, Rg.keep hb (Nat.lt_of_lt_of_le lx' h.2.2.2.2.2.2.2.2.2.2.2.1) h.2.2.2.2.2.2.1, Rg.keep hb (Nat.lt_of_lt_of_le lx' h.2.2.2.2.2.2.2.2.2.2.2.1) h.2.2.2.2.2.2.2.1, Rg.keep hb (Nat.lt_of_lt_of_le lx' h.2.2.2.2.2.2.2.2.2.2.2.1) h.2.2.2.2.2.2.2.2.1, Rg.keep hb (Nat.lt_of_lt_of_le lx' h.2.2.2.2.2.2.2.2.2.2.2.1) h.2.2.2.2.2.2.2.2.2.1, Rg.RC.keep hb (Nat.lt_of_lt_of_le lr' h.2.2.2.2.2.2.2.2.2.2.2.1) h.2.2.2.2.2.2.2.2.2.2.1, Nat.le_trans h.2.2.2.2.2.2.2.2.2.2.2.1 hb.size, h.2.2.2.2.2.2.2.2.2.2.2.2.trans (hb.mono h.2.2.2.2.2.2.2.2.2.2.2.2.size)⟩)
 refine wp_region_held_drew (S := fun w' => w'.cell? ⟨w2.heap.size, 0, none⟩ = some (Fo1 w1.heap.size) /\ w'.cell? ⟨w2.heap.size, 1, none⟩ = some (Fo2 w1.heap.size) /\ w'.cell? ⟨w2.heap.size, 2, none⟩ = some (.int .i64 p) /\ w'.cell? ⟨w.heap.size + 1, 0, none⟩ = some (.int .i64 n0) /\ w'.cell? ⟨w.heap.size + 1 + 1, 0, none⟩ = some (.int .i64 n1) /\ w'.cell? ⟨w1.heap.size, 0, none⟩ = some (.int .i64 K) /\ w'.cell? ⟨w1.heap.size, 1, none⟩ = some (.int .i64 B) /\ w'.cell? ⟨w1.heap.size, 2, none⟩ = some (.int .i64 F) /\ w'.cell? ⟨w1.heap.size, 3, none⟩ = some (.int .i64 R) /\ w'.cell? ⟨w1.heap.size, 4, none⟩ = some (.int .i64 O) /\ Rg.RC (w.heap.size + 1 + 1 + 1) w' /\ z.heap.size <= w'.heap.size /\ Below w.heap.size w w') (by kernel_rfl) (HS.out _ _ hz (Below.drew (Below.refl _ _))) (fun hHeld => ?_)
 refine SqR.g 0 ?_
 refine SqR.g 1 ?_
 refine SqR.g 2 ?_
 refine SqR.g 3 ?_
 refine SqR.g 4 ?_
 refine SqR.g 5 ?_
 refine SqR.g 6 ?_
 refine SqR.g 7 ?_
 refine Rg.one (i := 8) (by kernel_rfl) rfl (fun KK hK => ?_)
 rw [if_pos (by kernel_rfl)]
 go_simp
 ((with_reducible refine (H.out _ _ (TyAt.mk hHeld.2.2.2.2.2.1 hHeld.2.2.2.2.2.2.1 hHeld.2.2.2.2.2.2.2.1 hHeld.2.2.2.2.2.2.2.2.1 hHeld.2.2.2.2.2.2.2.2.2.1)).mono ?_); rintro e u ⟨rfl, hb⟩)
 have hNew := HS.out _ _ hHeld hb
 first | (refine hK.out _ _ hNew (fun _ => ?_)) | (go_wp2_with fail; refine hK.out _ _ hNew (fun _ => ?_))
 clear hK KK hHeld hb
 have hHeld := hNew
 clear hNew
 refine Rg.one (i := 9) (by kernel_rfl) rfl (fun KK hK => ?_)
 rw [if_pos (by kernel_rfl)]
 go_simp
 ((with_reducible refine (F2.out _ _ (TyAt.mk hHeld.2.2.2.2.2.1 hHeld.2.2.2.2.2.2.1 hHeld.2.2.2.2.2.2.2.1 hHeld.2.2.2.2.2.2.2.2.1 hHeld.2.2.2.2.2.2.2.2.2.1)).mono ?_); rintro e u ⟨rfl, rfl⟩)
 first | (refine hK.out _ _ hHeld (fun _ => ?_)) | (go_wp2_with fail; refine hK.out _ _ hHeld (fun _ => ?_))
 clear hK KK
 refine SqR.g 10 ?_
 refine Rg.one (i := 11) (by kernel_rfl) rfl (fun KK hK => ?_)
 rw [if_pos (by kernel_rfl)]
 obtain ⟨⟨ra, rca⟩, ⟨rb, rcb⟩, rcf, rcg⟩ := hHeld.2.2.2.2.2.2.2.2.2.2.1
 go_simp
 have hRC : Rg.RC (w.heap.size + 1 + 1 + 1) _ := hHeld.2.2.2.2.2.2.2.2.2.2.1
 refine hK.out _ _ ⟨Rg.far (by omega) hHeld.1, Rg.far (by omega) hHeld.2.1, Rg.far (by omega) hHeld.2.2.1, Rg.far (by omega) hHeld.2.2.2.1, Rg.far (by omega) hHeld.2.2.2.2.1, Rg.far (by omega) hHeld.2.2.2.2.2.1, Rg.far (by omega) hHeld.2.2.2.2.2.2.1, Rg.far (by omega) hHeld.2.2.2.2.2.2.2.1, Rg.far (by omega) hHeld.2.2.2.2.2.2.2.2.1, Rg.far (by omega) hHeld.2.2.2.2.2.2.2.2.2.1, Rg.RC.store hHeld.2.2.2.2.2.2.2.2.2.2.1, by rw [Rg.size2]; exact hHeld.2.2.2.2.2.2.2.2.2.2.2.1, Below.setCell (Below.setCell hHeld.2.2.2.2.2.2.2.2.2.2.2.2 (by dsimp only; omega) _) (by dsimp only; omega) _⟩ (fun hNew => ?_)
 clear hK KK hHeld rca rcb rcf rcg
 have hHeld := hNew
 clear hNew
 refine SqR.g 12 ?_
 refine wpAnyH_done (by kernel_rfl) ?_ _
 have f0 := Rg.RC.read00 (x := v) hRC
 have f1 := Rg.RC.read1 (x := v) (y := 1) hRC
 clear hRC
 go_wp2
 refine bodyPost_ret (v := Frac3 v 1 0) (by simp [results, Tryz.results161, go_sem, f0, f1]) rfl ⟨rfl, hHeld.2.2.2.2.2.2.2.2.2.2.2.2⟩
end Go.Proofs.YteaaikmejacpaaaGreatDoor.Fx


namespace Go.Proofs.YteaaikmejacpaaaGreatDoor.Fx
open Go.ChangeShapes Go.WideShapes Go.ChangeAt Go.RowKit
open Fr
set_option maxRecDepth 8000
set_option linter.unusedVariables false
set_option linter.unusedSimpArgs false
set_option maxRecDepth 8000

set_option maxHeartbeats 8000000 in
theorem comb58_ok (K B F R O n0 d0 n1 d1 p r : Int) (w : World) (hp : (2 : Int) ^ F.toNat = p) (p0 : 1 <= p) (p1 : p <= 1073741824) (f0 : 0 <= F) (f1 : F <= 30) (q0 : -9223372036854775808 <= r) (q1 : r <= 9223372036854775807) (bb0 : -9223372036854775808 <= B) (bb1 : B <= 9223372036854775807) (CH : Hid (∀ (w : World) (x : Nat), x < w.heap.size -> w.cell? ⟨x, 0, none⟩ = some (.int .i64 n0) -> w.cell? ⟨x, 1, none⟩ = some (.int .i64 d0) -> w.cell? ⟨x, 2, none⟩ = some (.int .i64 n1) -> w.cell? ⟨x, 3, none⟩ = some (.int .i64 d1) ->
   Calls Tryz.prog 165 #[.agg #[.int .i64 K, .int .i64 B, .int .i64 F, .int .i64 R, .int .i64 O], .slice (some ⟨x, 0, none⟩) 2 2] w (Ret (.int .i64 0) w)))
  (H : Hid (∀ (w : World) (x : Nat), TyAt K B F R O x w -> Calls Tryz.prog 163 #[.agg #[Fo1 x, Fo2 x, .int .i64 p], .int .i64 n0, .int .i64 n1] w (Ret (.int .i64 r) w))) :
  Calls Tryz.prog 161 #[.agg #[.int .i64 K, .int .i64 B, .int .i64 F, .int .i64 R, .int .i64 O], .agg #[.int .i64 n0, .int .i64 d0], .agg #[.int .i64 n1, .int .i64 d1], .func (.func 163) #[] #[]] w (Ret (Frac3 (Nx.nv r B O) 1 0) w) := by
 have FO := Lib.hid fun w => fo_any K B F R O p w hp p0 p1 f0 f1
 have F2 := Lib.hid fun (w : World) (x : Nat) (h : TyAt K B F R O x w) => fo2 K B F R O r x w h q0 q1 bb0 bb1
 generalize Nx.nv r B O = v at *
 clear hp
 go_enter Tryz.func161, Tryz.ntmps161
 go_wp2_with fail
 refine (CH.out _ _ (by simp <;> omega) (by go_cell) (by go_cell) (by go_cell) (by go_cell)).mono ?_
 rintro e w1 ⟨rfl, hb⟩
 have L : Below w.heap.size w w1 := ((((((Below.refl _ _).alloc (by simp <;> omega) _).alloc (by simp <;> omega) _).alloc (by simp <;> omega) _).alloc (by simp <;> omega) _).alloc (by simp <;> omega) _).trans (hb.mono (by simp <;> omega))
 have K1 : Below w.heap.size w w1 := L
 have lt : w.heap.size < w1.heap.size := Nat.lt_of_lt_of_le (by simp <;> omega) hb.size
 have t0 : w1.cell? ⟨w.heap.size, 0, none⟩ = some (.int .i64 K) := Rg.keep hb (by simp <;> omega) (by go_cell)
 have t1 : w1.cell? ⟨w.heap.size, 1, none⟩ = some (.int .i64 B) := Rg.keep hb (by simp <;> omega) (by go_cell)
 have t2 : w1.cell? ⟨w.heap.size, 2, none⟩ = some (.int .i64 F) := Rg.keep hb (by simp <;> omega) (by go_cell)
 have t3 : w1.cell? ⟨w.heap.size, 3, none⟩ = some (.int .i64 R) := Rg.keep hb (by simp <;> omega) (by go_cell)
 have t4 : w1.cell? ⟨w.heap.size, 4, none⟩ = some (.int .i64 O) := Rg.keep hb (by simp <;> omega) (by go_cell)
 have la : w.heap.size + 1 < w1.heap.size := Nat.lt_of_lt_of_le (by simp <;> omega) hb.size
 have a0 : w1.cell? ⟨w.heap.size + 1, 0, none⟩ = some (.int .i64 n0) := Rg.keep hb (by simp <;> omega) (by go_cell)
 have a1 : w1.cell? ⟨w.heap.size + 1, 1, none⟩ = some (.int .i64 d0) := Rg.keep hb (by simp <;> omega) (by go_cell)
 have lb : w.heap.size + 1 + 1 < w1.heap.size := Nat.lt_of_lt_of_le (by simp <;> omega) hb.size
 have b0 : w1.cell? ⟨w.heap.size + 1 + 1, 0, none⟩ = some (.int .i64 n1) := Rg.keep hb (by simp <;> omega) (by go_cell)
 have b1 : w1.cell? ⟨w.heap.size + 1 + 1, 1, none⟩ = some (.int .i64 d1) := Rg.keep hb (by simp <;> omega) (by go_cell)
 have lr : w.heap.size + 1 + 1 + 1 < w1.heap.size := Nat.lt_of_lt_of_le (by simp <;> omega) hb.size
 have r0 : w1.cell? ⟨w.heap.size + 1 + 1 + 1, 0, none⟩ = some (.int .i64 0) := Rg.keep hb (by simp <;> omega) (by go_cell)
 have r1 : w1.cell? ⟨w.heap.size + 1 + 1 + 1, 1, none⟩ = some (.int .i64 0) := Rg.keep hb (by simp <;> omega) (by go_cell)
 have ls : w.heap.size + 1 + 1 + 1 + 1 < w1.heap.size := Nat.lt_of_lt_of_le (by simp <;> omega) hb.size
 have s0 : w1.cell? ⟨w.heap.size + 1 + 1 + 1 + 1, 0, none⟩ = some (.int .i64 n0) := Rg.keep hb (by simp <;> omega) (by go_cell)
 have s1 : w1.cell? ⟨w.heap.size + 1 + 1 + 1 + 1, 1, none⟩ = some (.int .i64 d0) := Rg.keep hb (by simp <;> omega) (by go_cell)
 have s2 : w1.cell? ⟨w.heap.size + 1 + 1 + 1 + 1, 2, none⟩ = some (.int .i64 n1) := Rg.keep hb (by simp <;> omega) (by go_cell)
 have s3 : w1.cell? ⟨w.heap.size + 1 + 1 + 1 + 1, 3, none⟩ = some (.int .i64 d1) := Rg.keep hb (by simp <;> omega) (by go_cell)
 have RF0 : w1.frozen? ⟨w.heap.size + 1 + 1 + 1, 0, none⟩ = false := Rg.keepF hb (by simp <;> omega) (by simp only [frozen?_alloc_cells]; exact Rg.notFrozen (by omega))
 have RF1 : w1.frozen? ⟨w.heap.size + 1 + 1 + 1, 1, none⟩ = false := Rg.keepF hb (by simp <;> omega) (by simp only [frozen?_alloc_cells]; exact Rg.notFrozen (by omega))
 have lr1 : w.heap.size + 1 + 1 + 1 < w1.heap.size := lr
 clear hb L
 go_wp2_with fail
 refine (FO.out _).mono ?_
 rintro e w2 ⟨rfl, hb, lx, x0, x1, x2, x3, x4⟩
 have L : Below w1.heap.size w1 w2 := (Below.refl _ _).trans (hb.mono (by simp <;> omega))
 have K2 : Below w.heap.size w w2 := K1.trans (L.mono K1.size)
 have t0 := Rg.keep L lt t0
 have t1 := Rg.keep L lt t1
 have t2 := Rg.keep L lt t2
 have t3 := Rg.keep L lt t3
 have t4 := Rg.keep L lt t4
 have a0 := Rg.keep L la a0
 have a1 := Rg.keep L la a1
 have b0 := Rg.keep L lb b0
 have b1 := Rg.keep L lb b1
 have r0 := Rg.keep L lr r0
 have r1 := Rg.keep L lr r1
 have s0 := Rg.keep L ls s0
 have s1 := Rg.keep L ls s1
 have s2 := Rg.keep L ls s2
 have s3 := Rg.keep L ls s3
 have lt := Nat.lt_of_lt_of_le lt L.size
 have la := Nat.lt_of_lt_of_le la L.size
 have lb := Nat.lt_of_lt_of_le lb L.size
 have lr := Nat.lt_of_lt_of_le lr L.size
 have ls := Nat.lt_of_lt_of_le ls L.size
 have RF0 := Rg.keepF L lr1 RF0
 have RF1 := Rg.keepF L lr1 RF1
 clear hb L
 go_wp2_with fail
 have hx1 : w.heap.size + 1 + 1 + 1 < w1.heap.size := lr1
 have z0 : Below w2.heap.size w2 (w2.alloc (.cells #[Fo1 w1.heap.size, Fo2 w1.heap.size, .int .i64 p] 163)) := (Below.refl _ _).alloc (Nat.le_refl _) _
 have hz : (w2.alloc (.cells #[Fo1 w1.heap.size, Fo2 w1.heap.size, .int .i64 p] 163)).cell? ⟨w2.heap.size, 0, none⟩ = some (Fo1 w1.heap.size) /\ (w2.alloc (.cells #[Fo1 w1.heap.size, Fo2 w1.heap.size, .int .i64 p] 163)).cell? ⟨w2.heap.size, 1, none⟩ = some (Fo2 w1.heap.size) /\ (w2.alloc (.cells #[Fo1 w1.heap.size, Fo2 w1.heap.size, .int .i64 p] 163)).cell? ⟨w2.heap.size, 2, none⟩ = some (.int .i64 p) /\ (w2.alloc (.cells #[Fo1 w1.heap.size, Fo2 w1.heap.size, .int .i64 p] 163)).cell? ⟨w.heap.size + 1, 0, none⟩ = some (.int .i64 n0) /\ (w2.alloc (.cells #[Fo1 w1.heap.size, Fo2 w1.heap.size, .int .i64 p] 163)).cell? ⟨w.heap.size + 1 + 1, 0, none⟩ = some (.int .i64 n1) /\ (w2.alloc (.cells #[Fo1 w1.heap.size, Fo2 w1.heap.size, .int .i64 p] 163)).cell? ⟨w1.heap.size, 0, none⟩ = some (.int .i64 K) /\ (w2.alloc (.cells #[Fo1 w1.heap.size, Fo2 w1.heap.size, .int .i64 p] 163)).cell? ⟨w1.heap.size, 1, none⟩ = some (.int .i64 B) /\ (w2.alloc (.cells #[Fo1 w1.heap.size, Fo2 w1.heap.size, .int .i64 p] 163)).cell? ⟨w1.heap.size, 2, none⟩ = some (.int .i64 F) /\ (w2.alloc (.cells #[Fo1 w1.heap.size, Fo2 w1.heap.size, .int .i64 p] 163)).cell? ⟨w1.heap.size, 3, none⟩ = some (.int .i64 R) /\ (w2.alloc (.cells #[Fo1 w1.heap.size, Fo2 w1.heap.size, .int .i64 p] 163)).cell? ⟨w1.heap.size, 4, none⟩ = some (.int .i64 O) /\ Rg.RC (w.heap.size + 1 + 1 + 1) (w2.alloc (.cells #[Fo1 w1.heap.size, Fo2 w1.heap.size, .int .i64 p] 163)) /\ (w2.alloc (.cells #[Fo1 w1.heap.size, Fo2 w1.heap.size, .int .i64 p] 163)).heap.size <= (w2.alloc (.cells #[Fo1 w1.heap.size, Fo2 w1.heap.size, .int .i64 p] 163)).heap.size /\ Below w.heap.size w (w2.alloc (.cells #[Fo1 w1.heap.size, Fo2 w1.heap.size, .int .i64 p] 163)) :=
  ⟨by go_cell, by go_cell, by go_cell, Rg.keep z0 la a0, Rg.keep z0 lb b0, Rg.keep z0 lx x0, Rg.keep z0 lx x1, Rg.keep z0 lx x2, Rg.keep z0 lx x3, Rg.keep z0 lx x4, Rg.RC.keep z0 lr ⟨⟨0, r0⟩, ⟨0, r1⟩, RF0, RF1⟩, Nat.le_refl _, K2.trans (z0.mono K2.size)⟩
 have g0 : w2.heap.size < (w2.alloc (.cells #[Fo1 w1.heap.size, Fo2 w1.heap.size, .int .i64 p] 163)).heap.size := by simp
 have la := Nat.lt_of_lt_of_le la z0.size
 have lb := Nat.lt_of_lt_of_le lb z0.size
 have lr' := Nat.lt_of_lt_of_le lr z0.size
 have lx' := Nat.lt_of_lt_of_le lx z0.size
 clear z0 r0 r1 RF0 RF1 x0 x1 x2 x3 x4 a0 a1 b0 b1 t0 t1 t2 t3 t4 s0 s1 s2 s3 K1 K2
 generalize (w2.alloc (.cells #[Fo1 w1.heap.size, Fo2 w1.heap.size, .int .i64 p] 163)) = z at *
 have HS : Hid (∀ u u' : World, (u.cell? ⟨w2.heap.size, 0, none⟩ = some (Fo1 w1.heap.size) /\ u.cell? ⟨w2.heap.size, 1, none⟩ = some (Fo2 w1.heap.size) /\ u.cell? ⟨w2.heap.size, 2, none⟩ = some (.int .i64 p) /\ u.cell? ⟨w.heap.size + 1, 0, none⟩ = some (.int .i64 n0) /\ u.cell? ⟨w.heap.size + 1 + 1, 0, none⟩ = some (.int .i64 n1) /\ u.cell? ⟨w1.heap.size, 0, none⟩ = some (.int .i64 K) /\ u.cell? ⟨w1.heap.size, 1, none⟩ = some (.int .i64 B) /\ u.cell? ⟨w1.heap.size, 2, none⟩ = some (.int .i64 F) /\ u.cell? ⟨w1.heap.size, 3, none⟩ = some (.int .i64 R) /\ u.cell? ⟨w1.heap.size, 4, none⟩ = some (.int .i64 O) /\ Rg.RC (w.heap.size + 1 + 1 + 1) u /\ z.heap.size <= u.heap.size /\ Below w.heap.size w u) -> Below u.heap.size u u' -> (u'.cell? ⟨w2.heap.size, 0, none⟩ = some (Fo1 w1.heap.size) /\ u'.cell? ⟨w2.heap.size, 1, none⟩ = some (Fo2 w1.heap.size) /\ u'.cell? ⟨w2.heap.size, 2, none⟩ = some (.int .i64 p) /\ u'.cell? ⟨w.heap.size + 1, 0, none⟩ = some (.int .i64 n0) /\ u'.cell? ⟨w.heap.size + 1 + 1, 0, none⟩ = some (.int .i64 n1) /\ u'.cell? ⟨w1.heap.size, 0, none⟩ = some (.int .i64 K) /\ u'.cell? ⟨w1.heap.size, 1, none⟩ = some (.int .i64 B) /\ u'.cell? ⟨w1.heap.size, 2, none⟩ = some (.int .i64 F) /\ u'.cell? ⟨w1.heap.size, 3, none⟩ = some (.int .i64 R) /\ u'.cell? ⟨w1.heap.size, 4, none⟩ = some (.int .i64 O) /\ Rg.RC (w.heap.size + 1 + 1 + 1) u' /\ z.heap.size <= u'.heap.size /\ Below w.heap.size w u')) := Lib.hid (fun u u' h hb => ⟨Rg.keep hb (Nat.lt_of_lt_of_le g0 h.2.2.2.2.2.2.2.2.2.2.2.1) h.1, Rg.keep hb (Nat.lt_of_lt_of_le g0 h.2.2.2.2.2.2.2.2.2.2.2.1) h.2.1, Rg.keep hb (Nat.lt_of_lt_of_le g0 h.2.2.2.2.2.2.2.2.2.2.2.1) h.2.2.1, Rg.keep hb (Nat.lt_of_lt_of_le la h.2.2.2.2.2.2.2.2.2.2.2.1) h.2.2.2.1, Rg.keep hb (Nat.lt_of_lt_of_le lb h.2.2.2.2.2.2.2.2.2.2.2.1) h.2.2.2.2.1, Rg.keep hb (Nat.lt_of_lt_of_le lx' h.2.2.2.2.2.2.2.2.2.2.2.1) h.2.2.2.2.2.1, Rg.keep hb (Nat.lt_of_lt_of_le lx' h.2.2.2.2.2.2.2.2.2.2.2.1) h.2.2.2.2.2.2.1, Rg.keep hb (Nat.lt_of_lt_of_le lx' h.2.2.2.2.2.2.2.2.2.2.2.1) h.2.2.2.2.2.2.2.1, Rg.keep hb (Nat.lt_of_lt_of_le lx' h.2.2.2.2.2.2.2.2.2.2.2.1) h.2.2.2.2.2.2.2.2.1, Rg.keep hb (Nat.lt_of_lt_of_le lx' h.2.2.2.2.2.2.2.2.2.2.2.1) h.2.2.2.2.2.2.2.2.2.1, Rg.RC.keep hb (Nat.lt_of_lt_of_le lr' h.2.2.2.2.2.2.2.2.2.2.2.1) h.2.2.2.2.2.2.2.2.2.2.1, Nat.le_trans h.2.2.2.2.2.2.2.2.2.2.2.1 hb.size, h.2.2.2.2.2.2.2.2.2.2.2.2.trans (hb.mono h.2.2.2.2.2.2.2.2.2.2.2.2.size)⟩)
 refine wp_region_held_drew (S := fun w' => w'.cell? ⟨w2.heap.size, 0, none⟩ = some (Fo1 w1.heap.size) /\ w'.cell? ⟨w2.heap.size, 1, none⟩ = some (Fo2 w1.heap.size) /\ w'.cell? ⟨w2.heap.size, 2, none⟩ = some (.int .i64 p) /\ w'.cell? ⟨w.heap.size + 1, 0, none⟩ = some (.int .i64 n0) /\ w'.cell? ⟨w.heap.size + 1 + 1, 0, none⟩ = some (.int .i64 n1) /\ w'.cell? ⟨w1.heap.size, 0, none⟩ = some (.int .i64 K) /\ w'.cell? ⟨w1.heap.size, 1, none⟩ = some (.int .i64 B) /\ w'.cell? ⟨w1.heap.size, 2, none⟩ = some (.int .i64 F) /\ w'.cell? ⟨w1.heap.size, 3, none⟩ = some (.int .i64 R) /\ w'.cell? ⟨w1.heap.size, 4, none⟩ = some (.int .i64 O) /\ Rg.RC (w.heap.size + 1 + 1 + 1) w' /\ z.heap.size <= w'.heap.size /\ Below w.heap.size w w') (by kernel_rfl) (HS.out _ _ hz (Below.drew (Below.refl _ _))) (fun hHeld => ?_)
 refine SqR.g 0 ?_
 refine SqR.g 1 ?_
 refine SqR.g 2 ?_
 refine SqR.g 3 ?_
 refine SqR.g 4 ?_
 refine SqR.g 5 ?_
 refine SqR.g 6 ?_
 refine SqR.g 7 ?_
 refine Rg.one (i := 8) (by kernel_rfl) rfl (fun KK hK => ?_)
 rw [if_pos (by kernel_rfl)]
 go_simp
 ((with_reducible refine (H.out _ _ (TyAt.mk hHeld.2.2.2.2.2.1 hHeld.2.2.2.2.2.2.1 hHeld.2.2.2.2.2.2.2.1 hHeld.2.2.2.2.2.2.2.2.1 hHeld.2.2.2.2.2.2.2.2.2.1)).mono ?_); rintro e u ⟨rfl, hb⟩)
 have hNew := HS.out _ _ hHeld hb
 first | (refine hK.out _ _ hNew (fun _ => ?_)) | (go_wp2_with fail; refine hK.out _ _ hNew (fun _ => ?_))
 clear hK KK hHeld hb
 have hHeld := hNew
 clear hNew
 refine Rg.one (i := 9) (by kernel_rfl) rfl (fun KK hK => ?_)
 rw [if_pos (by kernel_rfl)]
 go_simp
 ((with_reducible refine (F2.out _ _ (TyAt.mk hHeld.2.2.2.2.2.1 hHeld.2.2.2.2.2.2.1 hHeld.2.2.2.2.2.2.2.1 hHeld.2.2.2.2.2.2.2.2.1 hHeld.2.2.2.2.2.2.2.2.2.1)).mono ?_); rintro e u ⟨rfl, rfl⟩)
 first | (refine hK.out _ _ hHeld (fun _ => ?_)) | (go_wp2_with fail; refine hK.out _ _ hHeld (fun _ => ?_))
 clear hK KK
 refine SqR.g 10 ?_
 refine Rg.one (i := 11) (by kernel_rfl) rfl (fun KK hK => ?_)
 rw [if_pos (by kernel_rfl)]
 obtain ⟨⟨ra, rca⟩, ⟨rb, rcb⟩, rcf, rcg⟩ := hHeld.2.2.2.2.2.2.2.2.2.2.1
 go_simp
 have hRC : Rg.RC (w.heap.size + 1 + 1 + 1) _ := hHeld.2.2.2.2.2.2.2.2.2.2.1
 refine hK.out _ _ ⟨Rg.far (by omega) hHeld.1, Rg.far (by omega) hHeld.2.1, Rg.far (by omega) hHeld.2.2.1, Rg.far (by omega) hHeld.2.2.2.1, Rg.far (by omega) hHeld.2.2.2.2.1, Rg.far (by omega) hHeld.2.2.2.2.2.1, Rg.far (by omega) hHeld.2.2.2.2.2.2.1, Rg.far (by omega) hHeld.2.2.2.2.2.2.2.1, Rg.far (by omega) hHeld.2.2.2.2.2.2.2.2.1, Rg.far (by omega) hHeld.2.2.2.2.2.2.2.2.2.1, Rg.RC.store hHeld.2.2.2.2.2.2.2.2.2.2.1, by rw [Rg.size2]; exact hHeld.2.2.2.2.2.2.2.2.2.2.2.1, Below.setCell (Below.setCell hHeld.2.2.2.2.2.2.2.2.2.2.2.2 (by dsimp only; omega) _) (by dsimp only; omega) _⟩ (fun hNew => ?_)
 clear hK KK hHeld rca rcb rcf rcg
 have hHeld := hNew
 clear hNew
 refine SqR.g 12 ?_
 refine wpAnyH_done (by kernel_rfl) ?_ _
 have f0 := Rg.RC.read00 (x := v) hRC
 have f1 := Rg.RC.read1 (x := v) (y := 1) hRC
 clear hRC
 go_wp2
 refine bodyPost_ret (v := Frac3 v 1 0) (by simp [results, Tryz.results161, go_sem, f0, f1]) rfl ⟨rfl, hHeld.2.2.2.2.2.2.2.2.2.2.2.2⟩
end Go.Proofs.YteaaikmejacpaaaGreatDoor.Fx


namespace Go.Proofs.YteaaikmejacpaaaGreatDoor.Fx
open Go.ChangeShapes Go.WideShapes Go.ChangeAt Go.RowKit
open Fr
set_option maxRecDepth 8000
set_option linter.unusedVariables false
set_option linter.unusedSimpArgs false
set_option maxRecDepth 8000

set_option maxHeartbeats 8000000 in
theorem comb59_ok (K B F R O n0 d0 n1 d1 p r : Int) (w : World) (hp : (2 : Int) ^ F.toNat = p) (p0 : 1 <= p) (p1 : p <= 1073741824) (f0 : 0 <= F) (f1 : F <= 30) (q0 : -9223372036854775808 <= r) (q1 : r <= 9223372036854775807) (bb0 : -9223372036854775808 <= B) (bb1 : B <= 9223372036854775807) (CH : Hid (∀ (w : World) (x : Nat), x < w.heap.size -> w.cell? ⟨x, 0, none⟩ = some (.int .i64 n0) -> w.cell? ⟨x, 1, none⟩ = some (.int .i64 d0) -> w.cell? ⟨x, 2, none⟩ = some (.int .i64 n1) -> w.cell? ⟨x, 3, none⟩ = some (.int .i64 d1) ->
   Calls Tryz.prog 165 #[.agg #[.int .i64 K, .int .i64 B, .int .i64 F, .int .i64 R, .int .i64 O], .slice (some ⟨x, 0, none⟩) 2 2] w (Ret (.int .i64 0) w)))
  (H : Hid (∀ (w : World) (x : Nat), TyAt K B F R O x w -> Calls Tryz.prog 164 #[.agg #[Fo1 x, Fo2 x, .int .i64 p], .int .i64 n0, .int .i64 n1] w (Ret (.int .i64 r) w))) :
  Calls Tryz.prog 161 #[.agg #[.int .i64 K, .int .i64 B, .int .i64 F, .int .i64 R, .int .i64 O], .agg #[.int .i64 n0, .int .i64 d0], .agg #[.int .i64 n1, .int .i64 d1], .func (.func 164) #[] #[]] w (Ret (Frac3 (Nx.nv r B O) 1 0) w) := by
 have FO := Lib.hid fun w => fo_any K B F R O p w hp p0 p1 f0 f1
 have F2 := Lib.hid fun (w : World) (x : Nat) (h : TyAt K B F R O x w) => fo2 K B F R O r x w h q0 q1 bb0 bb1
 generalize Nx.nv r B O = v at *
 clear hp
 go_enter Tryz.func161, Tryz.ntmps161
 go_wp2_with fail
 refine (CH.out _ _ (by simp <;> omega) (by go_cell) (by go_cell) (by go_cell) (by go_cell)).mono ?_
 rintro e w1 ⟨rfl, hb⟩
 have L : Below w.heap.size w w1 := ((((((Below.refl _ _).alloc (by simp <;> omega) _).alloc (by simp <;> omega) _).alloc (by simp <;> omega) _).alloc (by simp <;> omega) _).alloc (by simp <;> omega) _).trans (hb.mono (by simp <;> omega))
 have K1 : Below w.heap.size w w1 := L
 have lt : w.heap.size < w1.heap.size := Nat.lt_of_lt_of_le (by simp <;> omega) hb.size
 have t0 : w1.cell? ⟨w.heap.size, 0, none⟩ = some (.int .i64 K) := Rg.keep hb (by simp <;> omega) (by go_cell)
 have t1 : w1.cell? ⟨w.heap.size, 1, none⟩ = some (.int .i64 B) := Rg.keep hb (by simp <;> omega) (by go_cell)
 have t2 : w1.cell? ⟨w.heap.size, 2, none⟩ = some (.int .i64 F) := Rg.keep hb (by simp <;> omega) (by go_cell)
 have t3 : w1.cell? ⟨w.heap.size, 3, none⟩ = some (.int .i64 R) := Rg.keep hb (by simp <;> omega) (by go_cell)
 have t4 : w1.cell? ⟨w.heap.size, 4, none⟩ = some (.int .i64 O) := Rg.keep hb (by simp <;> omega) (by go_cell)
 have la : w.heap.size + 1 < w1.heap.size := Nat.lt_of_lt_of_le (by simp <;> omega) hb.size
 have a0 : w1.cell? ⟨w.heap.size + 1, 0, none⟩ = some (.int .i64 n0) := Rg.keep hb (by simp <;> omega) (by go_cell)
 have a1 : w1.cell? ⟨w.heap.size + 1, 1, none⟩ = some (.int .i64 d0) := Rg.keep hb (by simp <;> omega) (by go_cell)
 have lb : w.heap.size + 1 + 1 < w1.heap.size := Nat.lt_of_lt_of_le (by simp <;> omega) hb.size
 have b0 : w1.cell? ⟨w.heap.size + 1 + 1, 0, none⟩ = some (.int .i64 n1) := Rg.keep hb (by simp <;> omega) (by go_cell)
 have b1 : w1.cell? ⟨w.heap.size + 1 + 1, 1, none⟩ = some (.int .i64 d1) := Rg.keep hb (by simp <;> omega) (by go_cell)
 have lr : w.heap.size + 1 + 1 + 1 < w1.heap.size := Nat.lt_of_lt_of_le (by simp <;> omega) hb.size
 have r0 : w1.cell? ⟨w.heap.size + 1 + 1 + 1, 0, none⟩ = some (.int .i64 0) := Rg.keep hb (by simp <;> omega) (by go_cell)
 have r1 : w1.cell? ⟨w.heap.size + 1 + 1 + 1, 1, none⟩ = some (.int .i64 0) := Rg.keep hb (by simp <;> omega) (by go_cell)
 have ls : w.heap.size + 1 + 1 + 1 + 1 < w1.heap.size := Nat.lt_of_lt_of_le (by simp <;> omega) hb.size
 have s0 : w1.cell? ⟨w.heap.size + 1 + 1 + 1 + 1, 0, none⟩ = some (.int .i64 n0) := Rg.keep hb (by simp <;> omega) (by go_cell)
 have s1 : w1.cell? ⟨w.heap.size + 1 + 1 + 1 + 1, 1, none⟩ = some (.int .i64 d0) := Rg.keep hb (by simp <;> omega) (by go_cell)
 have s2 : w1.cell? ⟨w.heap.size + 1 + 1 + 1 + 1, 2, none⟩ = some (.int .i64 n1) := Rg.keep hb (by simp <;> omega) (by go_cell)
 have s3 : w1.cell? ⟨w.heap.size + 1 + 1 + 1 + 1, 3, none⟩ = some (.int .i64 d1) := Rg.keep hb (by simp <;> omega) (by go_cell)
 have RF0 : w1.frozen? ⟨w.heap.size + 1 + 1 + 1, 0, none⟩ = false := Rg.keepF hb (by simp <;> omega) (by simp only [frozen?_alloc_cells]; exact Rg.notFrozen (by omega))
 have RF1 : w1.frozen? ⟨w.heap.size + 1 + 1 + 1, 1, none⟩ = false := Rg.keepF hb (by simp <;> omega) (by simp only [frozen?_alloc_cells]; exact Rg.notFrozen (by omega))
 have lr1 : w.heap.size + 1 + 1 + 1 < w1.heap.size := lr
 clear hb L
 go_wp2_with fail
 refine (FO.out _).mono ?_
 rintro e w2 ⟨rfl, hb, lx, x0, x1, x2, x3, x4⟩
 have L : Below w1.heap.size w1 w2 := (Below.refl _ _).trans (hb.mono (by simp <;> omega))
 have K2 : Below w.heap.size w w2 := K1.trans (L.mono K1.size)
 have t0 := Rg.keep L lt t0
 have t1 := Rg.keep L lt t1
 have t2 := Rg.keep L lt t2
 have t3 := Rg.keep L lt t3
 have t4 := Rg.keep L lt t4
 have a0 := Rg.keep L la a0
 have a1 := Rg.keep L la a1
 have b0 := Rg.keep L lb b0
 have b1 := Rg.keep L lb b1
 have r0 := Rg.keep L lr r0
 have r1 := Rg.keep L lr r1
 have s0 := Rg.keep L ls s0
 have s1 := Rg.keep L ls s1
 have s2 := Rg.keep L ls s2
 have s3 := Rg.keep L ls s3
 have lt := Nat.lt_of_lt_of_le lt L.size
 have la := Nat.lt_of_lt_of_le la L.size
 have lb := Nat.lt_of_lt_of_le lb L.size
 have lr := Nat.lt_of_lt_of_le lr L.size
 have ls := Nat.lt_of_lt_of_le ls L.size
 have RF0 := Rg.keepF L lr1 RF0
 have RF1 := Rg.keepF L lr1 RF1
 clear hb L
 go_wp2_with fail
 have hx1 : w.heap.size + 1 + 1 + 1 < w1.heap.size := lr1
 have z0 : Below w2.heap.size w2 (w2.alloc (.cells #[Fo1 w1.heap.size, Fo2 w1.heap.size, .int .i64 p] 163)) := (Below.refl _ _).alloc (Nat.le_refl _) _
 have hz : (w2.alloc (.cells #[Fo1 w1.heap.size, Fo2 w1.heap.size, .int .i64 p] 163)).cell? ⟨w2.heap.size, 0, none⟩ = some (Fo1 w1.heap.size) /\ (w2.alloc (.cells #[Fo1 w1.heap.size, Fo2 w1.heap.size, .int .i64 p] 163)).cell? ⟨w2.heap.size, 1, none⟩ = some (Fo2 w1.heap.size) /\ (w2.alloc (.cells #[Fo1 w1.heap.size, Fo2 w1.heap.size, .int .i64 p] 163)).cell? ⟨w2.heap.size, 2, none⟩ = some (.int .i64 p) /\ (w2.alloc (.cells #[Fo1 w1.heap.size, Fo2 w1.heap.size, .int .i64 p] 163)).cell? ⟨w.heap.size + 1, 0, none⟩ = some (.int .i64 n0) /\ (w2.alloc (.cells #[Fo1 w1.heap.size, Fo2 w1.heap.size, .int .i64 p] 163)).cell? ⟨w.heap.size + 1 + 1, 0, none⟩ = some (.int .i64 n1) /\ (w2.alloc (.cells #[Fo1 w1.heap.size, Fo2 w1.heap.size, .int .i64 p] 163)).cell? ⟨w1.heap.size, 0, none⟩ = some (.int .i64 K) /\ (w2.alloc (.cells #[Fo1 w1.heap.size, Fo2 w1.heap.size, .int .i64 p] 163)).cell? ⟨w1.heap.size, 1, none⟩ = some (.int .i64 B) /\ (w2.alloc (.cells #[Fo1 w1.heap.size, Fo2 w1.heap.size, .int .i64 p] 163)).cell? ⟨w1.heap.size, 2, none⟩ = some (.int .i64 F) /\ (w2.alloc (.cells #[Fo1 w1.heap.size, Fo2 w1.heap.size, .int .i64 p] 163)).cell? ⟨w1.heap.size, 3, none⟩ = some (.int .i64 R) /\ (w2.alloc (.cells #[Fo1 w1.heap.size, Fo2 w1.heap.size, .int .i64 p] 163)).cell? ⟨w1.heap.size, 4, none⟩ = some (.int .i64 O) /\ Rg.RC (w.heap.size + 1 + 1 + 1) (w2.alloc (.cells #[Fo1 w1.heap.size, Fo2 w1.heap.size, .int .i64 p] 163)) /\ (w2.alloc (.cells #[Fo1 w1.heap.size, Fo2 w1.heap.size, .int .i64 p] 163)).heap.size <= (w2.alloc (.cells #[Fo1 w1.heap.size, Fo2 w1.heap.size, .int .i64 p] 163)).heap.size /\ Below w.heap.size w (w2.alloc (.cells #[Fo1 w1.heap.size, Fo2 w1.heap.size, .int .i64 p] 163)) :=
  ⟨by go_cell, by go_cell, by go_cell, Rg.keep z0 la a0, Rg.keep z0 lb b0, Rg.keep z0 lx x0, Rg.keep z0 lx x1, Rg.keep z0 lx x2, Rg.keep z0 lx x3, Rg.keep z0 lx x4, Rg.RC.keep z0 lr ⟨⟨0, r0⟩, ⟨0, r1⟩, RF0, RF1⟩, Nat.le_refl _, K2.trans (z0.mono K2.size)⟩
 have g0 : w2.heap.size < (w2.alloc (.cells #[Fo1 w1.heap.size, Fo2 w1.heap.size, .int .i64 p] 163)).heap.size := by simp
 have la := Nat.lt_of_lt_of_le la z0.size
 have lb := Nat.lt_of_lt_of_le lb z0.size
 have lr' := Nat.lt_of_lt_of_le lr z0.size
 have lx' := Nat.lt_of_lt_of_le lx z0.size
 clear z0 r0 r1 RF0 RF1 x0 x1 x2 x3 x4 a0 a1 b0 b1 t0 t1 t2 t3 t4 s0 s1 s2 s3 K1 K2
 generalize (w2.alloc (.cells #[Fo1 w1.heap.size, Fo2 w1.heap.size, .int .i64 p] 163)) = z at *
 have HS : Hid (∀ u u' : World, (u.cell? ⟨w2.heap.size, 0, none⟩ = some (Fo1 w1.heap.size) /\ u.cell? ⟨w2.heap.size, 1, none⟩ = some (Fo2 w1.heap.size) /\ u.cell? ⟨w2.heap.size, 2, none⟩ = some (.int .i64 p) /\ u.cell? ⟨w.heap.size + 1, 0, none⟩ = some (.int .i64 n0) /\ u.cell? ⟨w.heap.size + 1 + 1, 0, none⟩ = some (.int .i64 n1) /\ u.cell? ⟨w1.heap.size, 0, none⟩ = some (.int .i64 K) /\ u.cell? ⟨w1.heap.size, 1, none⟩ = some (.int .i64 B) /\ u.cell? ⟨w1.heap.size, 2, none⟩ = some (.int .i64 F) /\ u.cell? ⟨w1.heap.size, 3, none⟩ = some (.int .i64 R) /\ u.cell? ⟨w1.heap.size, 4, none⟩ = some (.int .i64 O) /\ Rg.RC (w.heap.size + 1 + 1 + 1) u /\ z.heap.size <= u.heap.size /\ Below w.heap.size w u) -> Below u.heap.size u u' -> (u'.cell? ⟨w2.heap.size, 0, none⟩ = some (Fo1 w1.heap.size) /\ u'.cell? ⟨w2.heap.size, 1, none⟩ = some (Fo2 w1.heap.size) /\ u'.cell? ⟨w2.heap.size, 2, none⟩ = some (.int .i64 p) /\ u'.cell? ⟨w.heap.size + 1, 0, none⟩ = some (.int .i64 n0) /\ u'.cell? ⟨w.heap.size + 1 + 1, 0, none⟩ = some (.int .i64 n1) /\ u'.cell? ⟨w1.heap.size, 0, none⟩ = some (.int .i64 K) /\ u'.cell? ⟨w1.heap.size, 1, none⟩ = some (.int .i64 B) /\ u'.cell? ⟨w1.heap.size, 2, none⟩ = some (.int .i64 F) /\ u'.cell? ⟨w1.heap.size, 3, none⟩ = some (.int .i64 R) /\ u'.cell? ⟨w1.heap.size, 4, none⟩ = some (.int .i64 O) /\ Rg.RC (w.heap.size + 1 + 1 + 1) u' /\ z.heap.size <= u'.heap.size /\ Below w.heap.size w u')) := Lib.hid (fun u u' h hb => ⟨Rg.keep hb (Nat.lt_of_lt_of_le g0 h.2.2.2.2.2.2.2.2.2.2.2.1) h.1, Rg.keep hb (Nat.lt_of_lt_of_le g0 h.2.2.2.2.2.2.2.2.2.2.2.1) h.2.1, Rg.keep hb (Nat.lt_of_lt_of_le g0 h.2.2.2.2.2.2.2.2.2.2.2.1) h.2.2.1, Rg.keep hb (Nat.lt_of_lt_of_le la h.2.2.2.2.2.2.2.2.2.2.2.1) h.2.2.2.1, Rg.keep hb (Nat.lt_of_lt_of_le lb h.2.2.2.2.2.2.2.2.2.2.2.1) h.2.2.2.2.1, Rg.keep hb (Nat.lt_of_lt_of_le lx' h.2.2.2.2.2.2.2.2.2.2.2.1) h.2.2.2.2.2.1, Rg.keep hb (Nat.lt_of_lt_of_le lx' h.2.2.2.2.2.2.2.2.2.2.2.1) h.2.2.2.2.2.2.1, Rg.keep hb (Nat.lt_of_lt_of_le lx' h.2.2.2.2.2.2.2.2.2.2.2.1) h.2.2.2.2.2.2.2.1, Rg.keep hb (Nat.lt_of_lt_of_le lx' h.2.2.2.2.2.2.2.2.2.2.2.1) h.2.2.2.2.2.2.2.2.1, Rg.keep hb (Nat.lt_of_lt_of_le lx' h.2.2.2.2.2.2.2.2.2.2.2.1) h.2.2.2.2.2.2.2.2.2.1, Rg.RC.keep hb (Nat.lt_of_lt_of_le lr' h.2.2.2.2.2.2.2.2.2.2.2.1) h.2.2.2.2.2.2.2.2.2.2.1, Nat.le_trans h.2.2.2.2.2.2.2.2.2.2.2.1 hb.size, h.2.2.2.2.2.2.2.2.2.2.2.2.trans (hb.mono h.2.2.2.2.2.2.2.2.2.2.2.2.size)⟩)
 refine wp_region_held_drew (S := fun w' => w'.cell? ⟨w2.heap.size, 0, none⟩ = some (Fo1 w1.heap.size) /\ w'.cell? ⟨w2.heap.size, 1, none⟩ = some (Fo2 w1.heap.size) /\ w'.cell? ⟨w2.heap.size, 2, none⟩ = some (.int .i64 p) /\ w'.cell? ⟨w.heap.size + 1, 0, none⟩ = some (.int .i64 n0) /\ w'.cell? ⟨w.heap.size + 1 + 1, 0, none⟩ = some (.int .i64 n1) /\ w'.cell? ⟨w1.heap.size, 0, none⟩ = some (.int .i64 K) /\ w'.cell? ⟨w1.heap.size, 1, none⟩ = some (.int .i64 B) /\ w'.cell? ⟨w1.heap.size, 2, none⟩ = some (.int .i64 F) /\ w'.cell? ⟨w1.heap.size, 3, none⟩ = some (.int .i64 R) /\ w'.cell? ⟨w1.heap.size, 4, none⟩ = some (.int .i64 O) /\ Rg.RC (w.heap.size + 1 + 1 + 1) w' /\ z.heap.size <= w'.heap.size /\ Below w.heap.size w w') (by kernel_rfl) (HS.out _ _ hz (Below.drew (Below.refl _ _))) (fun hHeld => ?_)
 refine SqR.g 0 ?_
 refine SqR.g 1 ?_
 refine SqR.g 2 ?_
 refine SqR.g 3 ?_
 refine SqR.g 4 ?_
 refine SqR.g 5 ?_
 refine SqR.g 6 ?_
 refine SqR.g 7 ?_
 refine Rg.one (i := 8) (by kernel_rfl) rfl (fun KK hK => ?_)
 rw [if_pos (by kernel_rfl)]
 go_simp
 ((with_reducible refine (H.out _ _ (TyAt.mk hHeld.2.2.2.2.2.1 hHeld.2.2.2.2.2.2.1 hHeld.2.2.2.2.2.2.2.1 hHeld.2.2.2.2.2.2.2.2.1 hHeld.2.2.2.2.2.2.2.2.2.1)).mono ?_); rintro e u ⟨rfl, hb⟩)
 have hNew := HS.out _ _ hHeld hb
 first | (refine hK.out _ _ hNew (fun _ => ?_)) | (go_wp2_with fail; refine hK.out _ _ hNew (fun _ => ?_))
 clear hK KK hHeld hb
 have hHeld := hNew
 clear hNew
 refine Rg.one (i := 9) (by kernel_rfl) rfl (fun KK hK => ?_)
 rw [if_pos (by kernel_rfl)]
 go_simp
 ((with_reducible refine (F2.out _ _ (TyAt.mk hHeld.2.2.2.2.2.1 hHeld.2.2.2.2.2.2.1 hHeld.2.2.2.2.2.2.2.1 hHeld.2.2.2.2.2.2.2.2.1 hHeld.2.2.2.2.2.2.2.2.2.1)).mono ?_); rintro e u ⟨rfl, rfl⟩)
 first | (refine hK.out _ _ hHeld (fun _ => ?_)) | (go_wp2_with fail; refine hK.out _ _ hHeld (fun _ => ?_))
 clear hK KK
 refine SqR.g 10 ?_
 refine Rg.one (i := 11) (by kernel_rfl) rfl (fun KK hK => ?_)
 rw [if_pos (by kernel_rfl)]
 obtain ⟨⟨ra, rca⟩, ⟨rb, rcb⟩, rcf, rcg⟩ := hHeld.2.2.2.2.2.2.2.2.2.2.1
 go_simp
 have hRC : Rg.RC (w.heap.size + 1 + 1 + 1) _ := hHeld.2.2.2.2.2.2.2.2.2.2.1
 refine hK.out _ _ ⟨Rg.far (by omega) hHeld.1, Rg.far (by omega) hHeld.2.1, Rg.far (by omega) hHeld.2.2.1, Rg.far (by omega) hHeld.2.2.2.1, Rg.far (by omega) hHeld.2.2.2.2.1, Rg.far (by omega) hHeld.2.2.2.2.2.1, Rg.far (by omega) hHeld.2.2.2.2.2.2.1, Rg.far (by omega) hHeld.2.2.2.2.2.2.2.1, Rg.far (by omega) hHeld.2.2.2.2.2.2.2.2.1, Rg.far (by omega) hHeld.2.2.2.2.2.2.2.2.2.1, Rg.RC.store hHeld.2.2.2.2.2.2.2.2.2.2.1, by rw [Rg.size2]; exact hHeld.2.2.2.2.2.2.2.2.2.2.2.1, Below.setCell (Below.setCell hHeld.2.2.2.2.2.2.2.2.2.2.2.2 (by dsimp only; omega) _) (by dsimp only; omega) _⟩ (fun hNew => ?_)
 clear hK KK hHeld rca rcb rcf rcg
 have hHeld := hNew
 clear hNew
 refine SqR.g 12 ?_
 refine wpAnyH_done (by kernel_rfl) ?_ _
 have f0 := Rg.RC.read00 (x := v) hRC
 have f1 := Rg.RC.read1 (x := v) (y := 1) hRC
 clear hRC
 go_wp2
 refine bodyPost_ret (v := Frac3 v 1 0) (by simp [results, Tryz.results161, go_sem, f0, f1]) rfl ⟨rfl, hHeld.2.2.2.2.2.2.2.2.2.2.2.2⟩
end Go.Proofs.YteaaikmejacpaaaGreatDoor.Fx


namespace Go.Proofs.YteaaikmejacpaaaGreatDoor.Fx
open Go.ChangeShapes Go.WideShapes Go.ChangeAt Go.RowKit
open Fr
set_option maxRecDepth 8000
set_option linter.unusedVariables false
set_option linter.unusedSimpArgs false
set_option maxRecDepth 8000

set_option maxHeartbeats 8000000 in
theorem comb60_ok (K B F R O n0 d0 n1 d1 p r : Int) (w : World) (hp : (2 : Int) ^ F.toNat = p) (p0 : 1 <= p) (p1 : p <= 1073741824) (f0 : 0 <= F) (f1 : F <= 30) (q0 : -9223372036854775808 <= r) (q1 : r <= 9223372036854775807) (bb0 : -9223372036854775808 <= B) (bb1 : B <= 9223372036854775807) (CH : Hid (∀ (w : World) (x : Nat), x < w.heap.size -> w.cell? ⟨x, 0, none⟩ = some (.int .i64 n0) -> w.cell? ⟨x, 1, none⟩ = some (.int .i64 d0) -> w.cell? ⟨x, 2, none⟩ = some (.int .i64 n1) -> w.cell? ⟨x, 3, none⟩ = some (.int .i64 d1) ->
   Calls Tryz.prog 165 #[.agg #[.int .i64 K, .int .i64 B, .int .i64 F, .int .i64 R, .int .i64 O], .slice (some ⟨x, 0, none⟩) 2 2] w (Ret (.int .i64 0) w)))
  (H : Hid (∀ (w : World) (x : Nat), TyAt K B F R O x w -> Calls Tryz.prog 166 #[.agg #[Fo1 x, Fo2 x, .int .i64 p], .int .i64 n0, .int .i64 n1] w (Ret (.int .i64 r) w))) :
  Calls Tryz.prog 161 #[.agg #[.int .i64 K, .int .i64 B, .int .i64 F, .int .i64 R, .int .i64 O], .agg #[.int .i64 n0, .int .i64 d0], .agg #[.int .i64 n1, .int .i64 d1], .func (.func 166) #[] #[]] w (Ret (Frac3 (Nx.nv r B O) 1 0) w) := by
 have FO := Lib.hid fun w => fo_any K B F R O p w hp p0 p1 f0 f1
 have F2 := Lib.hid fun (w : World) (x : Nat) (h : TyAt K B F R O x w) => fo2 K B F R O r x w h q0 q1 bb0 bb1
 generalize Nx.nv r B O = v at *
 clear hp
 go_enter Tryz.func161, Tryz.ntmps161
 go_wp2_with fail
 refine (CH.out _ _ (by simp <;> omega) (by go_cell) (by go_cell) (by go_cell) (by go_cell)).mono ?_
 rintro e w1 ⟨rfl, hb⟩
 have L : Below w.heap.size w w1 := ((((((Below.refl _ _).alloc (by simp <;> omega) _).alloc (by simp <;> omega) _).alloc (by simp <;> omega) _).alloc (by simp <;> omega) _).alloc (by simp <;> omega) _).trans (hb.mono (by simp <;> omega))
 have K1 : Below w.heap.size w w1 := L
 have lt : w.heap.size < w1.heap.size := Nat.lt_of_lt_of_le (by simp <;> omega) hb.size
 have t0 : w1.cell? ⟨w.heap.size, 0, none⟩ = some (.int .i64 K) := Rg.keep hb (by simp <;> omega) (by go_cell)
 have t1 : w1.cell? ⟨w.heap.size, 1, none⟩ = some (.int .i64 B) := Rg.keep hb (by simp <;> omega) (by go_cell)
 have t2 : w1.cell? ⟨w.heap.size, 2, none⟩ = some (.int .i64 F) := Rg.keep hb (by simp <;> omega) (by go_cell)
 have t3 : w1.cell? ⟨w.heap.size, 3, none⟩ = some (.int .i64 R) := Rg.keep hb (by simp <;> omega) (by go_cell)
 have t4 : w1.cell? ⟨w.heap.size, 4, none⟩ = some (.int .i64 O) := Rg.keep hb (by simp <;> omega) (by go_cell)
 have la : w.heap.size + 1 < w1.heap.size := Nat.lt_of_lt_of_le (by simp <;> omega) hb.size
 have a0 : w1.cell? ⟨w.heap.size + 1, 0, none⟩ = some (.int .i64 n0) := Rg.keep hb (by simp <;> omega) (by go_cell)
 have a1 : w1.cell? ⟨w.heap.size + 1, 1, none⟩ = some (.int .i64 d0) := Rg.keep hb (by simp <;> omega) (by go_cell)
 have lb : w.heap.size + 1 + 1 < w1.heap.size := Nat.lt_of_lt_of_le (by simp <;> omega) hb.size
 have b0 : w1.cell? ⟨w.heap.size + 1 + 1, 0, none⟩ = some (.int .i64 n1) := Rg.keep hb (by simp <;> omega) (by go_cell)
 have b1 : w1.cell? ⟨w.heap.size + 1 + 1, 1, none⟩ = some (.int .i64 d1) := Rg.keep hb (by simp <;> omega) (by go_cell)
 have lr : w.heap.size + 1 + 1 + 1 < w1.heap.size := Nat.lt_of_lt_of_le (by simp <;> omega) hb.size
 have r0 : w1.cell? ⟨w.heap.size + 1 + 1 + 1, 0, none⟩ = some (.int .i64 0) := Rg.keep hb (by simp <;> omega) (by go_cell)
 have r1 : w1.cell? ⟨w.heap.size + 1 + 1 + 1, 1, none⟩ = some (.int .i64 0) := Rg.keep hb (by simp <;> omega) (by go_cell)
 have ls : w.heap.size + 1 + 1 + 1 + 1 < w1.heap.size := Nat.lt_of_lt_of_le (by simp <;> omega) hb.size
 have s0 : w1.cell? ⟨w.heap.size + 1 + 1 + 1 + 1, 0, none⟩ = some (.int .i64 n0) := Rg.keep hb (by simp <;> omega) (by go_cell)
 have s1 : w1.cell? ⟨w.heap.size + 1 + 1 + 1 + 1, 1, none⟩ = some (.int .i64 d0) := Rg.keep hb (by simp <;> omega) (by go_cell)
 have s2 : w1.cell? ⟨w.heap.size + 1 + 1 + 1 + 1, 2, none⟩ = some (.int .i64 n1) := Rg.keep hb (by simp <;> omega) (by go_cell)
 have s3 : w1.cell? ⟨w.heap.size + 1 + 1 + 1 + 1, 3, none⟩ = some (.int .i64 d1) := Rg.keep hb (by simp <;> omega) (by go_cell)
 have RF0 : w1.frozen? ⟨w.heap.size + 1 + 1 + 1, 0, none⟩ = false := Rg.keepF hb (by simp <;> omega) (by simp only [frozen?_alloc_cells]; exact Rg.notFrozen (by omega))
 have RF1 : w1.frozen? ⟨w.heap.size + 1 + 1 + 1, 1, none⟩ = false := Rg.keepF hb (by simp <;> omega) (by simp only [frozen?_alloc_cells]; exact Rg.notFrozen (by omega))
 have lr1 : w.heap.size + 1 + 1 + 1 < w1.heap.size := lr
 clear hb L
 go_wp2_with fail
 refine (FO.out _).mono ?_
 rintro e w2 ⟨rfl, hb, lx, x0, x1, x2, x3, x4⟩
 have L : Below w1.heap.size w1 w2 := (Below.refl _ _).trans (hb.mono (by simp <;> omega))
 have K2 : Below w.heap.size w w2 := K1.trans (L.mono K1.size)
 have t0 := Rg.keep L lt t0
 have t1 := Rg.keep L lt t1
 have t2 := Rg.keep L lt t2
 have t3 := Rg.keep L lt t3
 have t4 := Rg.keep L lt t4
 have a0 := Rg.keep L la a0
 have a1 := Rg.keep L la a1
 have b0 := Rg.keep L lb b0
 have b1 := Rg.keep L lb b1
 have r0 := Rg.keep L lr r0
 have r1 := Rg.keep L lr r1
 have s0 := Rg.keep L ls s0
 have s1 := Rg.keep L ls s1
 have s2 := Rg.keep L ls s2
 have s3 := Rg.keep L ls s3
 have lt := Nat.lt_of_lt_of_le lt L.size
 have la := Nat.lt_of_lt_of_le la L.size
 have lb := Nat.lt_of_lt_of_le lb L.size
 have lr := Nat.lt_of_lt_of_le lr L.size
 have ls := Nat.lt_of_lt_of_le ls L.size
 have RF0 := Rg.keepF L lr1 RF0
 have RF1 := Rg.keepF L lr1 RF1
 clear hb L
 go_wp2_with fail
 have hx1 : w.heap.size + 1 + 1 + 1 < w1.heap.size := lr1
 have z0 : Below w2.heap.size w2 (w2.alloc (.cells #[Fo1 w1.heap.size, Fo2 w1.heap.size, .int .i64 p] 163)) := (Below.refl _ _).alloc (Nat.le_refl _) _
 have hz : (w2.alloc (.cells #[Fo1 w1.heap.size, Fo2 w1.heap.size, .int .i64 p] 163)).cell? ⟨w2.heap.size, 0, none⟩ = some (Fo1 w1.heap.size) /\ (w2.alloc (.cells #[Fo1 w1.heap.size, Fo2 w1.heap.size, .int .i64 p] 163)).cell? ⟨w2.heap.size, 1, none⟩ = some (Fo2 w1.heap.size) /\ (w2.alloc (.cells #[Fo1 w1.heap.size, Fo2 w1.heap.size, .int .i64 p] 163)).cell? ⟨w2.heap.size, 2, none⟩ = some (.int .i64 p) /\ (w2.alloc (.cells #[Fo1 w1.heap.size, Fo2 w1.heap.size, .int .i64 p] 163)).cell? ⟨w.heap.size + 1, 0, none⟩ = some (.int .i64 n0) /\ (w2.alloc (.cells #[Fo1 w1.heap.size, Fo2 w1.heap.size, .int .i64 p] 163)).cell? ⟨w.heap.size + 1 + 1, 0, none⟩ = some (.int .i64 n1) /\ (w2.alloc (.cells #[Fo1 w1.heap.size, Fo2 w1.heap.size, .int .i64 p] 163)).cell? ⟨w1.heap.size, 0, none⟩ = some (.int .i64 K) /\ (w2.alloc (.cells #[Fo1 w1.heap.size, Fo2 w1.heap.size, .int .i64 p] 163)).cell? ⟨w1.heap.size, 1, none⟩ = some (.int .i64 B) /\ (w2.alloc (.cells #[Fo1 w1.heap.size, Fo2 w1.heap.size, .int .i64 p] 163)).cell? ⟨w1.heap.size, 2, none⟩ = some (.int .i64 F) /\ (w2.alloc (.cells #[Fo1 w1.heap.size, Fo2 w1.heap.size, .int .i64 p] 163)).cell? ⟨w1.heap.size, 3, none⟩ = some (.int .i64 R) /\ (w2.alloc (.cells #[Fo1 w1.heap.size, Fo2 w1.heap.size, .int .i64 p] 163)).cell? ⟨w1.heap.size, 4, none⟩ = some (.int .i64 O) /\ Rg.RC (w.heap.size + 1 + 1 + 1) (w2.alloc (.cells #[Fo1 w1.heap.size, Fo2 w1.heap.size, .int .i64 p] 163)) /\ (w2.alloc (.cells #[Fo1 w1.heap.size, Fo2 w1.heap.size, .int .i64 p] 163)).heap.size <= (w2.alloc (.cells #[Fo1 w1.heap.size, Fo2 w1.heap.size, .int .i64 p] 163)).heap.size /\ Below w.heap.size w (w2.alloc (.cells #[Fo1 w1.heap.size, Fo2 w1.heap.size, .int .i64 p] 163)) :=
  ⟨by go_cell, by go_cell, by go_cell, Rg.keep z0 la a0, Rg.keep z0 lb b0, Rg.keep z0 lx x0, Rg.keep z0 lx x1, Rg.keep z0 lx x2, Rg.keep z0 lx x3, Rg.keep z0 lx x4, Rg.RC.keep z0 lr ⟨⟨0, r0⟩, ⟨0, r1⟩, RF0, RF1⟩, Nat.le_refl _, K2.trans (z0.mono K2.size)⟩
 have g0 : w2.heap.size < (w2.alloc (.cells #[Fo1 w1.heap.size, Fo2 w1.heap.size, .int .i64 p] 163)).heap.size := by simp
 have la := Nat.lt_of_lt_of_le la z0.size
 have lb := Nat.lt_of_lt_of_le lb z0.size
 have lr' := Nat.lt_of_lt_of_le lr z0.size
 have lx' := Nat.lt_of_lt_of_le lx z0.size
 clear z0 r0 r1 RF0 RF1 x0 x1 x2 x3 x4 a0 a1 b0 b1 t0 t1 t2 t3 t4 s0 s1 s2 s3 K1 K2
 generalize (w2.alloc (.cells #[Fo1 w1.heap.size, Fo2 w1.heap.size, .int .i64 p] 163)) = z at *
 have HS : Hid (∀ u u' : World, (u.cell? ⟨w2.heap.size, 0, none⟩ = some (Fo1 w1.heap.size) /\ u.cell? ⟨w2.heap.size, 1, none⟩ = some (Fo2 w1.heap.size) /\ u.cell? ⟨w2.heap.size, 2, none⟩ = some (.int .i64 p) /\ u.cell? ⟨w.heap.size + 1, 0, none⟩ = some (.int .i64 n0) /\ u.cell? ⟨w.heap.size + 1 + 1, 0, none⟩ = some (.int .i64 n1) /\ u.cell? ⟨w1.heap.size, 0, none⟩ = some (.int .i64 K) /\ u.cell? ⟨w1.heap.size, 1, none⟩ = some (.int .i64 B) /\ u.cell? ⟨w1.heap.size, 2, none⟩ = some (.int .i64 F) /\ u.cell? ⟨w1.heap.size, 3, none⟩ = some (.int .i64 R) /\ u.cell? ⟨w1.heap.size, 4, none⟩ = some (.int .i64 O) /\ Rg.RC (w.heap.size + 1 + 1 + 1) u /\ z.heap.size <= u.heap.size /\ Below w.heap.size w u) -> Below u.heap.size u u' -> (u'.cell? ⟨w2.heap.size, 0, none⟩ = some (Fo1 w1.heap.size) /\ u'.cell? ⟨w2.heap.size, 1, none⟩ = some (Fo2 w1.heap.size) /\ u'.cell? ⟨w2.heap.size, 2, none⟩ = some (.int .i64 p) /\ u'.cell? ⟨w.heap.size + 1, 0, none⟩ = some (.int .i64 n0) /\ u'.cell? ⟨w.heap.size + 1 + 1, 0, none⟩ = some (.int .i64 n1) /\ u'.cell? ⟨w1.heap.size, 0, none⟩ = some (.int .i64 K) /\ u'.cell? ⟨w1.heap.size, 1, none⟩ = some (.int .i64 B) /\ u'.cell? ⟨w1.heap.size, 2, none⟩ = some (.int .i64 F) /\ u'.cell? ⟨w1.heap.size, 3, none⟩ = some (.int .i64 R) /\ u'.cell? ⟨w1.heap.size, 4, none⟩ = some (.int .i64 O) /\ Rg.RC (w.heap.size + 1 + 1 + 1) u' /\ z.heap.size <= u'.heap.size /\ Below w.heap.size w u')) := Lib.hid (fun u u' h hb => ⟨Rg.keep hb (Nat.lt_of_lt_of_le g0 h.2.2.2.2.2.2.2.2.2.2.2.1) h.1, Rg.keep hb (Nat.lt_of_lt_of_le g0 h.2.2.2.2.2.2.2.2.2.2.2.1) h.2.1, Rg.keep hb (Nat.lt_of_lt_of_le g0 h.2.2.2.2.2.2.2.2.2.2.2.1) h.2.2.1, Rg.keep hb (Nat.lt_of_lt_of_le la h.2.2.2.2.2.2.2.2.2.2.2.1) h.2.2.2.1, Rg.keep hb (Nat.lt_of_lt_of_le lb h.2.2.2.2.2.2.2.2.2.2.2.1) h.2.2.2.2.1, Rg.keep hb (Nat.lt_of_lt_of_le lx' h.2.2.2.2.2.2.2.2.2.2.2.1) h.2.2.2.2.2.1, Rg.keep hb (Nat.lt_of_lt_of_le lx' h.2.2.2.2.2.2.2.2.2.2.2.1) h.2.2.2.2.2.2.1, Rg.keep hb (Nat.lt_of_lt_of_le lx' h.2.2.2.2.2.2.2.2.2.2.2.1) h.2.2.2.2.2.2.2.1, Rg.keep hb (Nat.lt_of_lt_of_le lx' h.2.2.2.2.2.2.2.2.2.2.2.1) h.2.2.2.2.2.2.2.2.1, Rg.keep hb (Nat.lt_of_lt_of_le lx' h.2.2.2.2.2.2.2.2.2.2.2.1) h.2.2.2.2.2.2.2.2.2.1, Rg.RC.keep hb (Nat.lt_of_lt_of_le lr' h.2.2.2.2.2.2.2.2.2.2.2.1) h.2.2.2.2.2.2.2.2.2.2.1, Nat.le_trans h.2.2.2.2.2.2.2.2.2.2.2.1 hb.size, h.2.2.2.2.2.2.2.2.2.2.2.2.trans (hb.mono h.2.2.2.2.2.2.2.2.2.2.2.2.size)⟩)
 refine wp_region_held_drew (S := fun w' => w'.cell? ⟨w2.heap.size, 0, none⟩ = some (Fo1 w1.heap.size) /\ w'.cell? ⟨w2.heap.size, 1, none⟩ = some (Fo2 w1.heap.size) /\ w'.cell? ⟨w2.heap.size, 2, none⟩ = some (.int .i64 p) /\ w'.cell? ⟨w.heap.size + 1, 0, none⟩ = some (.int .i64 n0) /\ w'.cell? ⟨w.heap.size + 1 + 1, 0, none⟩ = some (.int .i64 n1) /\ w'.cell? ⟨w1.heap.size, 0, none⟩ = some (.int .i64 K) /\ w'.cell? ⟨w1.heap.size, 1, none⟩ = some (.int .i64 B) /\ w'.cell? ⟨w1.heap.size, 2, none⟩ = some (.int .i64 F) /\ w'.cell? ⟨w1.heap.size, 3, none⟩ = some (.int .i64 R) /\ w'.cell? ⟨w1.heap.size, 4, none⟩ = some (.int .i64 O) /\ Rg.RC (w.heap.size + 1 + 1 + 1) w' /\ z.heap.size <= w'.heap.size /\ Below w.heap.size w w') (by kernel_rfl) (HS.out _ _ hz (Below.drew (Below.refl _ _))) (fun hHeld => ?_)
 refine SqR.g 0 ?_
 refine SqR.g 1 ?_
 refine SqR.g 2 ?_
 refine SqR.g 3 ?_
 refine SqR.g 4 ?_
 refine SqR.g 5 ?_
 refine SqR.g 6 ?_
 refine SqR.g 7 ?_
 refine Rg.one (i := 8) (by kernel_rfl) rfl (fun KK hK => ?_)
 rw [if_pos (by kernel_rfl)]
 go_simp
 ((with_reducible refine (H.out _ _ (TyAt.mk hHeld.2.2.2.2.2.1 hHeld.2.2.2.2.2.2.1 hHeld.2.2.2.2.2.2.2.1 hHeld.2.2.2.2.2.2.2.2.1 hHeld.2.2.2.2.2.2.2.2.2.1)).mono ?_); rintro e u ⟨rfl, hb⟩)
 have hNew := HS.out _ _ hHeld hb
 first | (refine hK.out _ _ hNew (fun _ => ?_)) | (go_wp2_with fail; refine hK.out _ _ hNew (fun _ => ?_))
 clear hK KK hHeld hb
 have hHeld := hNew
 clear hNew
 refine Rg.one (i := 9) (by kernel_rfl) rfl (fun KK hK => ?_)
 rw [if_pos (by kernel_rfl)]
 go_simp
 ((with_reducible refine (F2.out _ _ (TyAt.mk hHeld.2.2.2.2.2.1 hHeld.2.2.2.2.2.2.1 hHeld.2.2.2.2.2.2.2.1 hHeld.2.2.2.2.2.2.2.2.1 hHeld.2.2.2.2.2.2.2.2.2.1)).mono ?_); rintro e u ⟨rfl, rfl⟩)
 first | (refine hK.out _ _ hHeld (fun _ => ?_)) | (go_wp2_with fail; refine hK.out _ _ hHeld (fun _ => ?_))
 clear hK KK
 refine SqR.g 10 ?_
 refine Rg.one (i := 11) (by kernel_rfl) rfl (fun KK hK => ?_)
 rw [if_pos (by kernel_rfl)]
 obtain ⟨⟨ra, rca⟩, ⟨rb, rcb⟩, rcf, rcg⟩ := hHeld.2.2.2.2.2.2.2.2.2.2.1
 go_simp
 have hRC : Rg.RC (w.heap.size + 1 + 1 + 1) _ := hHeld.2.2.2.2.2.2.2.2.2.2.1
 refine hK.out _ _ ⟨Rg.far (by omega) hHeld.1, Rg.far (by omega) hHeld.2.1, Rg.far (by omega) hHeld.2.2.1, Rg.far (by omega) hHeld.2.2.2.1, Rg.far (by omega) hHeld.2.2.2.2.1, Rg.far (by omega) hHeld.2.2.2.2.2.1, Rg.far (by omega) hHeld.2.2.2.2.2.2.1, Rg.far (by omega) hHeld.2.2.2.2.2.2.2.1, Rg.far (by omega) hHeld.2.2.2.2.2.2.2.2.1, Rg.far (by omega) hHeld.2.2.2.2.2.2.2.2.2.1, Rg.RC.store hHeld.2.2.2.2.2.2.2.2.2.2.1, by rw [Rg.size2]; exact hHeld.2.2.2.2.2.2.2.2.2.2.2.1, Below.setCell (Below.setCell hHeld.2.2.2.2.2.2.2.2.2.2.2.2 (by dsimp only; omega) _) (by dsimp only; omega) _⟩ (fun hNew => ?_)
 clear hK KK hHeld rca rcb rcf rcg
 have hHeld := hNew
 clear hNew
 refine SqR.g 12 ?_
 refine wpAnyH_done (by kernel_rfl) ?_ _
 have f0 := Rg.RC.read00 (x := v) hRC
 have f1 := Rg.RC.read1 (x := v) (y := 1) hRC
 clear hRC
 go_wp2
 refine bodyPost_ret (v := Frac3 v 1 0) (by simp [results, Tryz.results161, go_sem, f0, f1]) rfl ⟨rfl, hHeld.2.2.2.2.2.2.2.2.2.2.2.2⟩
end Go.Proofs.YteaaikmejacpaaaGreatDoor.Fx
