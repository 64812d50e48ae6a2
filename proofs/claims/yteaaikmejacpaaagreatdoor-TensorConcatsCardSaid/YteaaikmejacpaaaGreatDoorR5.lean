/- combine of package fixed, at one of its closures. -/
import Derived.Test.YteaaikmejacpaaaGreatDoorR0
import Derived.Test.YteaaikmejacpaaaGreatDoorR2
import Derived.Test.YteaaikmejacpaaaGreatDoorR3
import Derived.Test.YteaaikmejacpaaaGreatDoorR4
import Derived.Test.YteaaikmejacpaaaGreatDoorR1
import Derived.Deep.RegionHeld3
import Derived.Deep.RegionWith

namespace Go.Proofs.YteaaikmejacpaaaGreatDoor.Fx
open Go.ChangeShapes Go.WideShapes Go.ChangeAt Go.RowKit
open Fr
set_option maxRecDepth 8000
set_option linter.unusedVariables false
set_option linter.unusedSimpArgs false
set_option maxRecDepth 8000

set_option maxHeartbeats 8000000 in
theorem comb61_ok (K B F R O n0 d0 n1 d1 p r : Int) (w : World) (hp : (2 : Int) ^ F.toNat = p) (p0 : 1 <= p) (p1 : p <= 1073741824) (f0 : 0 <= F) (f1 : F <= 30) (q0 : -9223372036854775808 <= r) (q1 : r <= 9223372036854775807) (bb0 : -9223372036854775808 <= B) (bb1 : B <= 9223372036854775807) (CH : Hid (∀ (w : World) (x : Nat), x < w.heap.size -> w.cell? ⟨x, 0, none⟩ = some (.int .i64 n0) -> w.cell? ⟨x, 1, none⟩ = some (.int .i64 d0) -> w.cell? ⟨x, 2, none⟩ = some (.int .i64 n1) -> w.cell? ⟨x, 3, none⟩ = some (.int .i64 d1) ->
   Calls Tryz.prog 165 #[.agg #[.int .i64 K, .int .i64 B, .int .i64 F, .int .i64 R, .int .i64 O], .slice (some ⟨x, 0, none⟩) 2 2] w (Ret (.int .i64 0) w)))
  (H : Hid (∀ (w : World) (x : Nat), TyAt K B F R O x w -> Calls Tryz.prog 167 #[.agg #[Fo1 x, Fo2 x, .int .i64 p], .int .i64 n0, .int .i64 n1] w (Ret (.int .i64 r) w))) :
  Calls Tryz.prog 161 #[.agg #[.int .i64 K, .int .i64 B, .int .i64 F, .int .i64 R, .int .i64 O], .agg #[.int .i64 n0, .int .i64 d0], .agg #[.int .i64 n1, .int .i64 d1], .func (.func 167) #[] #[]] w (Ret (Frac3 (Nx.nv r B O) 1 0) w) := by
 have FO := Lib.hid fun w => fo_any K B F R O p w hp p0 p1 f0 f1
 have F2 := Lib.hid fun (w : World) (x : Nat) (h : TyAt K B F R O x w) => fo2 K B F R O r x w h q0 q1 bb0 bb1
 generalize Nx.nv r B O = v at *
 clear hp
 go_enter Tryz.func161, Tryz.ntmps161
 go_wp2_with fail
 refine (CH.out _ _ (by simp <;> omega) (by go_cell) (by go_cell) (by go_cell) (by go_cell)).mono ?_
 rintro e w1 ⟨rfl, hb⟩
 have L : Below w.heap.size w w1 := ((((((Below.refl _ _).alloc (by simp <;> omega) _).alloc (by simp <;> omega) _).alloc (by simp <;> omega) _).alloc (by simp <;> omega) _).alloc (by simp <;> omega) _).trans (hb.mono (by simp <;> omega))
 have K1 : Below w.heap.size w w1 := L
 have lt : w.heap.size < w1.heap.size := Nat.lt_of_lt_of_le (by simp <;> omega) hb.size
 have t0 : w1.cell? ⟨w.heap.size, 0, none⟩ = some (.int .i64 K) := Rg.keep hb (by simp <;> omega) (by go_cell)
 have t1 : w1.cell? ⟨w.heap.size, 1, none⟩ = some (.int .i64 B) := Rg.keep hb (by simp <;> omega) (by go_cell)
 have t2 : w1.cell? ⟨w.heap.size, 2, none⟩ = some (.int .i64 F) := Rg.keep hb (by simp <;> omega) (by go_cell)
 have t3 : w1.cell? ⟨w.heap.size, 3, none⟩ = some (.int .i64 R) := Rg.keep hb (by simp <;> omega) (by go_cell)
 have t4 : w1.cell? ⟨w.heap.size, 4, none⟩ = some (.int .i64 O) := Rg.keep hb (by simp <;> omega) (by go_cell)
 have la : w.heap.size + 1 < w1.heap.size := Nat.lt_of_lt_of_le (by simp <;> omega) hb.size
 have a0 : w1.cell? ⟨w.heap.size + 1, 0, none⟩ = some (.int .i64 n0) := Rg.keep hb (by simp <;> omega) (by go_cell)
 have a1 : w1.cell? ⟨w.heap.size + 1, 1, none⟩ = some (.int .i64 d0) := Rg.keep hb (by simp <;> omega) (by go_cell)
 have lb : w.heap.size + 1 + 1 < w1.heap.size := Nat.lt_of_lt_of_le (by simp <;> omega) hb.size
 have b0 : w1.cell? ⟨w.heap.size + 1 + 1, 0, none⟩ = some (.int .i64 n1) := Rg.keep hb (by simp <;> omega) (by go_cell)
 have b1 : w1.cell? ⟨w.heap.size + 1 + 1, 1, none⟩ = some (.int .i64 d1) := Rg.keep hb (by simp <;> omega) (by go_cell)
 have lr : w.heap.size + 1 + 1 + 1 < w1.heap.size := Nat.lt_of_lt_of_le (by simp <;> omega) hb.size
 have r0 : w1.cell? ⟨w.heap.size + 1 + 1 + 1, 0, none⟩ = some (.int .i64 0) := Rg.keep hb (by simp <;> omega) (by go_cell)
 have r1 : w1.cell? ⟨w.heap.size + 1 + 1 + 1, 1, none⟩ = some (.int .i64 0) := Rg.keep hb (by simp <;> omega) (by go_cell)
 have ls : w.heap.size + 1 + 1 + 1 + 1 < w1.heap.size := Nat.lt_of_lt_of_le (by simp <;> omega) hb.size
 have s0 : w1.cell? ⟨w.heap.size + 1 + 1 + 1 + 1, 0, none⟩ = some (.int .i64 n0) := Rg.keep hb (by simp <;> omega) (by go_cell)
 have s1 : w1.cell? ⟨w.heap.size + 1 + 1 + 1 + 1, 1, none⟩ = some (.int .i64 d0) := Rg.keep hb (by simp <;> omega) (by go_cell)
 have s2 : w1.cell? ⟨w.heap.size + 1 + 1 + 1 + 1, 2, none⟩ = some (.int .i64 n1) := Rg.keep hb (by simp <;> omega) (by go_cell)
 have s3 : w1.cell? ⟨w.heap.size + 1 + 1 + 1 + 1, 3, none⟩ = some (.int .i64 d1) := Rg.keep hb (by simp <;> omega) (by go_cell)
 have RF0 : w1.frozen? ⟨w.heap.size + 1 + 1 + 1, 0, none⟩ = false := Rg.keepF hb (by simp <;> omega) (by simp only [frozen?_alloc_cells]; exact Rg.notFrozen (by omega))
 have RF1 : w1.frozen? ⟨w.heap.size + 1 + 1 + 1, 1, none⟩ = false := Rg.keepF hb (by simp <;> omega) (by simp only [frozen?_alloc_cells]; exact Rg.notFrozen (by omega))
 have lr1 : w.heap.size + 1 + 1 + 1 < w1.heap.size := lr
 clear hb L
 go_wp2_with fail
 refine (FO.out _).mono ?_
 rintro e w2 ⟨rfl, hb, lx, x0, x1, x2, x3, x4⟩
 have L : Below w1.heap.size w1 w2 := (Below.refl _ _).trans (hb.mono (by simp <;> omega))
 have K2 : Below w.heap.size w w2 := K1.trans (L.mono K1.size)
 have t0 := Rg.keep L lt t0
 have t1 := Rg.keep L lt t1
 have t2 := Rg.keep L lt t2
 have t3 := Rg.keep L lt t3
 have t4 := Rg.keep L lt t4
 have a0 := Rg.keep L la a0
 have a1 := Rg.keep L la a1
 have b0 := Rg.keep L lb b0
 have b1 := Rg.keep L lb b1
 have r0 := Rg.keep L lr r0
 have r1 := Rg.keep L lr r1
 have s0 := Rg.keep L ls s0
 have s1 := Rg.keep L ls s1
 have s2 := Rg.keep L ls s2
 have s3 := Rg.keep L ls s3
 have lt := Nat.lt_of_lt_of_le lt L.size
 have la := Nat.lt_of_lt_of_le la L.size
 have lb := Nat.lt_of_lt_of_le lb L.size
 have lr := Nat.lt_of_lt_of_le lr L.size
 have ls := Nat.lt_of_lt_of_le ls L.size
 have RF0 := Rg.keepF L lr1 RF0
 have RF1 := Rg.keepF L lr1 RF1
 clear hb L
 go_wp2_with fail
 have hx1 : w.heap.size + 1 + 1 + 1 < w1.heap.size := lr1
 have z0 : Below w2.heap.size w2 (w2.alloc (.cells #[Fo1 w1.heap.size, Fo2 w1.heap.size, .int .i64 p] 163)) := (Below.refl _ _).alloc (Nat.le_refl _) _
 have hz : (w2.alloc (.cells #[Fo1 w1.heap.size, Fo2 w1.heap.size, .int .i64 p] 163)).cell? ⟨w2.heap.size, 0, none⟩ = some (Fo1 w1.heap.size) /\ (w2.alloc (.cells #[Fo1 w1.heap.size, Fo2 w1.heap.size, .int .i64 p] 163)).cell? ⟨w2.heap.size, 1, none⟩ = some (Fo2 w1.heap.size) /\ (w2.alloc (.cells #[Fo1 w1.heap.size, Fo2 w1.heap.size, .int .i64 p] 163)).cell? ⟨w2.heap.size, 2, none⟩ = some (.int .i64 p) /\ (w2.alloc (.cells #[Fo1 w1.heap.size, Fo2 w1.heap.size, .int .i64 p] 163)).cell? ⟨w.heap.size + 1, 0, none⟩ = some (.int .i64 n0) /\ (w2.alloc (.cells #[Fo1 w1.heap.size, Fo2 w1.heap.size, .int .i64 p] 163)).cell? ⟨w.heap.size + 1 + 1, 0, none⟩ = some (.int .i64 n1) /\ (w2.alloc (.cells #[Fo1 w1.heap.size, Fo2 w1.heap.size, .int .i64 p] 163)).cell? ⟨w1.heap.size, 0, none⟩ = some (.int .i64 K) /\ (w2.alloc (.cells #[Fo1 w1.heap.size, Fo2 w1.heap.size, .int .i64 p] 163)).cell? ⟨w1.heap.size, 1, none⟩ = some (.int .i64 B) /\ (w2.alloc (.cells #[Fo1 w1.heap.size, Fo2 w1.heap.size, .int .i64 p] 163)).cell? ⟨w1.heap.size, 2, none⟩ = some (.int .i64 F) /\ (w2.alloc (.cells #[Fo1 w1.heap.size, Fo2 w1.heap.size, .int .i64 p] 163)).cell? ⟨w1.heap.size, 3, none⟩ = some (.int .i64 R) /\ (w2.alloc (.cells #[Fo1 w1.heap.size, Fo2 w1.heap.size, .int .i64 p] 163)).cell? ⟨w1.heap.size, 4, none⟩ = some (.int .i64 O) /\ Rg.RC (w.heap.size + 1 + 1 + 1) (w2.alloc (.cells #[Fo1 w1.heap.size, Fo2 w1.heap.size, .int .i64 p] 163)) /\ (w2.alloc (.cells #[Fo1 w1.heap.size, Fo2 w1.heap.size, .int .i64 p] 163)).heap.size <= (w2.alloc (.cells #[Fo1 w1.heap.size, Fo2 w1.heap.size, .int .i64 p] 163)).heap.size /\ Below w.heap.size w (w2.alloc (.cells #[Fo1 w1.heap.size, Fo2 w1.heap.size, .int .i64 p] 163)) :=
  ⟨by go_cell, by go_cell, by go_cell, Rg.keep z0 la a0, Rg.keep z0 lb b0, Rg.keep z0 lx x0, Rg.keep z0 lx x1, Rg.keep z0 lx x2, Rg.keep z0 lx x3, Rg.keep z0 lx x4, Rg.RC.keep z0 lr ⟨⟨0, r0⟩, ⟨0, r1⟩, RF0, RF1⟩, Nat.le_refl _, K2.trans (z0.mono K2.size)⟩
 have g0 : w2.heap.size < (w2.alloc (.cells #[Fo1 w1.heap.size, Fo2 w1.heap.size, .int .i64 p] 163)).heap.size := by simp
 have la := Nat.lt_of_lt_of_le la z0.size
 have lb := Nat.lt_of_lt_of_le lb z0.size
 have lr' := Nat.lt_of_lt_of_le lr z0.size
 have lx' := Nat.lt_of_lt_of_le lx z0.size
 clear z0 r0 r1 RF0 RF1 x0 x1 x2 x3 x4 a0 a1 b0 b1 t0 t1 t2 t3 t4 s0 s1 s2 s3 K1 K2
 generalize (w2.alloc (.cells #[Fo1 w1.heap.size, Fo2 w1.heap.size, .int .i64 p] 163)) = z at *
 have HS : Hid (∀ u u' : World, (u.cell? ⟨w2.heap.size, 0, none⟩ = some (Fo1 w1.heap.size) /\ u.cell? ⟨w2.heap.size, 1, none⟩ = some (Fo2 w1.heap.size) /\ u.cell? ⟨w2.heap.size, 2, none⟩ = some (.int .i64 p) /\ u.cell? ⟨w.heap.size + 1, 0, none⟩ = some (.int .i64 n0) /\ u.cell? ⟨w.heap.size + 1 + 1, 0, none⟩ = some (.int .i64 n1) /\ u.cell? ⟨w1.heap.size, 0, none⟩ = some (.int .i64 K) /\ u.cell? ⟨w1.heap.size, 1, none⟩ = some (.int .i64 B) /\ u.cell? ⟨w1.heap.size, 2, none⟩ = some (.int .i64 F) /\ u.cell? ⟨w1.heap.size, 3, none⟩ = some (.int .i64 R) /\ u.cell? ⟨w1.heap.size, 4, none⟩ = some (.int .i64 O) /\ Rg.RC (w.heap.size + 1 + 1 + 1) u /\ z.heap.size <= u.heap.size /\ Below w.heap.size w u) -> Below u.heap.size u u' -> (u'.cell? ⟨w2.heap.size, 0, none⟩ = some (Fo1 w1.heap.size) /\ u'.cell? ⟨w2.heap.size, 1, none⟩ = some (Fo2 w1.heap.size) /\ u'.cell? ⟨w2.heap.size, 2, none⟩ = some (.int .i64 p) /\ u'.cell? ⟨w.heap.size + 1, 0, none⟩ = some (.int .i64 n0) /\ u'.cell? ⟨w.heap.size + 1 + 1, 0, none⟩ = some (.int .i64 n1) /\ u'.cell? ⟨w1.heap.size, 0, none⟩ = some (.int .i64 K) /\ u'.cell? ⟨w1.heap.size, 1, none⟩ = some (.int .i64 B) /\ u'.cell? ⟨w1.heap.size, 2, none⟩ = some (.int .i64 F) /\ u'.cell? ⟨w1.heap.size, 3, none⟩ = some (.int .i64 R) /\ u'.cell? ⟨w1.heap.size, 4, none⟩ = some (.int .i64 O) /\ Rg.RC (w.heap.size + 1 + 1 + 1) u' /\ z.heap.size <= u'.heap.size /\ Below w.heap.size w u')) := Lib.hid (fun u u' h hb => ⟨Rg.keep hb (Nat.lt_of_lt_of_le g0 h.2.2.2.2.2.2.2.2.2.2.2.1) h.1, Rg.keep hb (Nat.lt_of_lt_of_le g0 h.2.2.2.2.2.2.2.2.2.2.2.1) h.2.1, Rg.keep hb (Nat.lt_of_lt_of_le g0 h.2.2.2.2.2.2.2.2.2.2.2.1) h.2.2.1, Rg.keep hb (Nat.lt_of_lt_of_le la h.2.2.2.2.2.2.2.2.2.2.2.1) h.2.2.2.1, Rg.keep hb (Nat.lt_of_lt_of_le lb h.2.2.2.2.2.2.2.2.2.2.2.1) h.2.2.2.2.1, Rg.keep hb (Nat.lt_of_lt_of_le lx' h.2.2.2.2.2.2.2.2.2.2.2.1) h.2.2.2.2.2.1, Rg.keep hb (Nat.lt_of_lt_of_le lx' h.2.2.2.2.2.2.2.2.2.2.2.1) h.2.2.2.2.2.2.1, Rg.keep hb (Nat.lt_of_lt_of_le lx' h.2.2.2.2.2.2.2.2.2.2.2.1) h.2.2.2.2.2.2.2.1, Rg.keep hb (Nat.lt_of_lt_of_le lx' h.2.2.2.2.2.2.2.2.2.2.2.1) h.2.2.2.2.2.2.2.2.1, Rg.keep hb (Nat.lt_of_lt_of_le lx' h.2.2.2.2.2.2.2.2.2.2.2.1) h.2.2.2.2.2.2.2.2.2.1, Rg.RC.keep hb (Nat.lt_of_lt_of_le lr' h.2.2.2.2.2.2.2.2.2.2.2.1) h.2.2.2.2.2.2.2.2.2.2.1, Nat.le_trans h.2.2.2.2.2.2.2.2.2.2.2.1 hb.size, h.2.2.2.2.2.2.2.2.2.2.2.2.trans (hb.mono h.2.2.2.2.2.2.2.2.2.2.2.2.size)⟩)
 refine wp_region_held_drew (S := fun w' => w'.cell? ⟨w2.heap.size, 0, none⟩ = some (Fo1 w1.heap.size) /\ w'.cell? ⟨w2.heap.size, 1, none⟩ = some (Fo2 w1.heap.size) /\ w'.cell? ⟨w2.heap.size, 2, none⟩ = some (.int .i64 p) /\ w'.cell? ⟨w.heap.size + 1, 0, none⟩ = some (.int .i64 n0) /\ w'.cell? ⟨w.heap.size + 1 + 1, 0, none⟩ = some (.int .i64 n1) /\ w'.cell? ⟨w1.heap.size, 0, none⟩ = some (.int .i64 K) /\ w'.cell? ⟨w1.heap.size, 1, none⟩ = some (.int .i64 B) /\ w'.cell? ⟨w1.heap.size, 2, none⟩ = some (.int .i64 F) /\ w'.cell? ⟨w1.heap.size, 3, none⟩ = some (.int .i64 R) /\ w'.cell? ⟨w1.heap.size, 4, none⟩ = some (.int .i64 O) /\ Rg.RC (w.heap.size + 1 + 1 + 1) w' /\ z.heap.size <= w'.heap.size /\ Below w.heap.size w w') (by kernel_rfl) (HS.out _ _ hz (Below.drew (Below.refl _ _))) (fun hHeld => ?_)
 refine SqR.g 0 ?_
 refine SqR.g 1 ?_
 refine SqR.g 2 ?_
 refine SqR.g 3 ?_
 refine SqR.g 4 ?_
 refine SqR.g 5 ?_
 refine SqR.g 6 ?_
 refine SqR.g 7 ?_
 refine Rg.one (i := 8) (by kernel_rfl) rfl (fun KK hK => ?_)
 rw [if_pos (by kernel_rfl)]
 go_simp
 ((with_reducible refine (H.out _ _ (TyAt.mk hHeld.2.2.2.2.2.1 hHeld.2.2.2.2.2.2.1 hHeld.2.2.2.2.2.2.2.1 hHeld.2.2.2.2.2.2.2.2.1 hHeld.2.2.2.2.2.2.2.2.2.1)).mono ?_); rintro e u ⟨rfl, hb⟩)
 have hNew := HS.out _ _ hHeld hb
 first | (refine hK.out _ _ hNew (fun _ => ?_)) | (go_wp2_with fail; refine hK.out _ _ hNew (fun _ => ?_))
 clear hK KK hHeld hb
 have hHeld := hNew
 clear hNew
 refine Rg.one (i := 9) (by kernel_rfl) rfl (fun KK hK => ?_)
 rw [if_pos (by kernel_rfl)]
 go_simp
 ((with_reducible refine (F2.out _ _ (TyAt.mk hHeld.2.2.2.2.2.1 hHeld.2.2.2.2.2.2.1 hHeld.2.2.2.2.2.2.2.1 hHeld.2.2.2.2.2.2.2.2.1 hHeld.2.2.2.2.2.2.2.2.2.1)).mono ?_); rintro e u ⟨rfl, rfl⟩)
 first | (refine hK.out _ _ hHeld (fun _ => ?_)) | (go_wp2_with fail; refine hK.out _ _ hHeld (fun _ => ?_))
 clear hK KK
 refine SqR.g 10 ?_
 refine Rg.one (i := 11) (by kernel_rfl) rfl (fun KK hK => ?_)
 rw [if_pos (by kernel_rfl)]
 obtain ⟨⟨ra, rca⟩, ⟨rb, rcb⟩, rcf, rcg⟩ := hHeld.2.2.2.2.2.2.2.2.2.2.1
 go_simp
 have hRC : Rg.RC (w.heap.size + 1 + 1 + 1) _ := hHeld.2.2.2.2.2.2.2.2.2.2.1
 refine hK.out _ _ ⟨Rg.far (by omega) hHeld.1, Rg.far (by omega) hHeld.2.1, Rg.far (by omega) hHeld.2.2.1, Rg.far (by omega) hHeld.2.2.2.1, Rg.far (by omega) hHeld.2.2.2.2.1, Rg.far (by omega) hHeld.2.2.2.2.2.1, Rg.far (by omega) hHeld.2.2.2.2.2.2.1, Rg.far (by omega) hHeld.2.2.2.2.2.2.2.1, Rg.far (by omega) hHeld.2.2.2.2.2.2.2.2.1, Rg.far (by omega) hHeld.2.2.2.2.2.2.2.2.2.1, Rg.RC.store hHeld.2.2.2.2.2.2.2.2.2.2.1, by rw [Rg.size2]; exact hHeld.2.2.2.2.2.2.2.2.2.2.2.1, Below.setCell (Below.setCell hHeld.2.2.2.2.2.2.2.2.2.2.2.2 (by dsimp only; omega) _) (by dsimp only; omega) _⟩ (fun hNew => ?_)
 clear hK KK hHeld rca rcb rcf rcg
 have hHeld := hNew
 clear hNew
 refine SqR.g 12 ?_
 refine wpAnyH_done (by kernel_rfl) ?_ _
 have f0 := Rg.RC.read00 (x := v) hRC
 have f1 := Rg.RC.read1 (x := v) (y := 1) hRC
 clear hRC
 go_wp2
 refine bodyPost_ret (v := Frac3 v 1 0) (by simp [results, Tryz.results161, go_sem, f0, f1]) rfl ⟨rfl, hHeld.2.2.2.2.2.2.2.2.2.2.2.2⟩
end Go.Proofs.YteaaikmejacpaaaGreatDoor.Fx


namespace Go.Proofs.YteaaikmejacpaaaGreatDoor.Fx
open Go.ChangeShapes Go.WideShapes Go.ChangeAt Go.RowKit
open Fr
set_option linter.unusedVariables false
set_option linter.unusedSimpArgs false
abbrev V2 (n d : Int) : Value := .agg #[.int .i64 n, .int .i64 d]
abbrev T5 (K B F R O : Int) : Value := .agg #[.int .i64 K, .int .i64 B, .int .i64 F, .int .i64 R, .int .i64 O]
theorem two_pow (frac : Int) (f0 : 0 <= frac) (f1 : frac <= 30) : 1 <= (2 : Int) ^ frac.toNat /\ (2 : Int) ^ frac.toNat <= 1073741824 := by
 have h : frac.toNat <= 30 := by omega
 have h1 : 0 < (2 : Nat) ^ frac.toNat := Nat.pow_pos (by decide)
 have h2 : (2 : Nat) ^ frac.toNat <= 2 ^ 30 := Nat.pow_le_pow_right (by decide) h
 have h3 : ((2 : Nat) ^ frac.toNat : Nat) = (2 : Int) ^ frac.toNat := by push_cast; rfl
 rw [<- h3]
 have h4 : (2 : Nat) ^ 30 = 1073741824 := by decide
 omega
theorem pb (a b : Int) (ha : a.natAbs <= 2147483647) (hb : b.natAbs <= 1073741824) : -2305843009213693952 <= a * b /\ a * b <= 2305843009213693952 := by
 have h := Int.natAbs_mul a b
 have h2 := Nat.mul_le_mul ha hb
 omega
theorem rnd_neg (how q r d : Int) (hd : d ≠ 0) : Plain.rnd how q (-r) (-d) = Plain.rnd how q r d := by
 unfold Plain.rnd
 by_cases h : r = 0
 ·subst h; simp
 ·rw [if_neg (by omega), if_neg h]
  have e : (-r < 0 ↔ -d < 0) ↔ (r < 0 ↔ d < 0) := by omega
  have e1 : (if -r < 0 then - -r else -r) = if r < 0 then -r else r := by split <;> split <;> omega
  have e2 : (if -d < 0 then - -d else -d) = if d < 0 then -d else d := by split <;> split <;> omega
  simp only [e, e1, e2]
theorem dval_neg (how t d : Int) (h : 1 <= how) (h' : how <= 4) (t0 : -4611686018427387904 <= t) (t1 : t <= 4611686018427387904) (hd : d ≠ 0) : Dv.dval how (-t) (-d) = Dv.dval how t d := by
 unfold Dv.dval
 rw [if_neg (by omega), if_neg (by omega), if_neg (by omega), if_neg (by omega), if_neg (by omega), if_neg (by omega)]
 rw [Int.neg_tdiv, Int.tdiv_neg, Int.neg_neg, Int.neg_tmod, Int.tmod_neg, rnd_neg _ _ _ _ hd]
theorem dval_bound (how t d : Int) (h : 1 <= how) (h' : how <= 4) (t0 : -2305843009213693952 <= t) (t1 : t <= 2305843009213693952) (hd : d ≠ 0) : -4611686018427387904 <= Dv.dval how t d /\ Dv.dval how t d <= 4611686018427387904 := by
 unfold Dv.dval
 rw [if_neg (by omega), if_neg hd, if_neg (by omega)]
 obtain ⟨_, a, _, _, _⟩ := Plain.tfacts t d hd
 unfold Plain.rnd
 (repeat' split) <;> omega
theorem fv_parts {K B F R O n d : Int} (h : fv K B F R O n d = true) : tv K B F R O = true /\ d = 1 /\ - Nx.half B <= n /\ n <= Nx.half B - 1 /\ -1073741824 <= n /\ n <= 1073741823 := by
 unfold fv at h
 rw [Bool.and_eq_true] at h
 obtain ⟨h1, h2⟩ := h
 obtain ⟨_, p2, p3, _⟩ := tv_parts h1
 obtain ⟨_, _, q3, _⟩ := half_of p2 p3
 have := of_decide_eq_true h2
 exact ⟨h1, this.1, this.2.1, this.2.2, by omega, by omega⟩
theorem nv_same {n B O : Int} (h0 : - Nx.half B <= n) (h1 : n <= Nx.half B - 1) (hb : 2 <= B) (hb' : B <= 31) (ho : O = 1 \/ O = 2) : Nx.nv n B O = n := by
 have hg : ¬ Nx.nbad B O := by unfold Nx.nbad; omega
 unfold Nx.nv
 rw [if_neg hg, if_neg (by omega), if_neg (by omega)]
/-- What the check of two operands answers. -/
def ce (K B F R O n0 d0 n1 d1 : Int) : Int := if tv K B F R O = true then (if fv K B F R O n0 d0 = true /\ fv K B F R O n1 d1 = true then 0 else 1) else 10
theorem chk_any (K B F R O n0 d0 n1 d1 : Int) (x : Nat) (w : World) (bb0 : -9223372036854775808 <= B) (bb1 : B <= 9223372036854775807) (hx : x < w.heap.size) (c0 : w.cell? ⟨x, 0, none⟩ = some (.int .i64 n0)) (c1 : w.cell? ⟨x, 1, none⟩ = some (.int .i64 d0)) (c2 : w.cell? ⟨x, 2, none⟩ = some (.int .i64 n1)) (c3 : w.cell? ⟨x, 3, none⟩ = some (.int .i64 d1)) :
  Calls Tryz.prog 165 #[T5 K B F R O, .slice (some ⟨x, 0, none⟩) 2 2] w (Ret (.int .i64 (ce K B F R O n0 d0 n1 d1)) w) := by
 unfold ce
 by_cases h : tv K B F R O = true
 ·rw [if_pos h]
  have VT := Lib.hid fun w => vt_ok K B F R O w h
  have V0 := Lib.hid fun w => fval K B F R O n0 d0 w bb0 bb1
  have V1 := Lib.hid fun w => fval K B F R O n1 d1 w bb0 bb1
  by_cases h0 : fv K B F R O n0 d0 = true
  ·rw [h0] at V0
   by_cases h1 : fv K B F R O n1 d1 = true
   ·rw [h1] at V1
    rw [if_pos ⟨h0, h1⟩]
    exact chk2_tt K B F R O n0 d0 n1 d1 x w hx c0 c1 c2 c3 VT V0 V1
   ·rw [if_neg (fun h => h1 h.2)]
    rw [show fv K B F R O n1 d1 = false by simpa using h1] at V1
    exact chk2_tf K B F R O n0 d0 n1 d1 x w hx c0 c1 c2 c3 VT V0 V1
  ·rw [if_neg (fun h => h0 h.1)]
   rw [show fv K B F R O n0 d0 = false by simpa using h0] at V0
   exact chk2_f K B F R O n0 d0 n1 d1 x w hx c0 c1 c2 c3 VT V0
 ·rw [if_neg h]
  have VT := Lib.hid fun w => vt_bad K B F R O w (by simpa using h)
  exact chk2_tv K B F R O n0 d0 n1 d1 x w hx c0 c1 c2 c3 VT

theorem TyAt.lt {K B F R O : Int} {x : Nat} {w : World} (h : TyAt K B F R O x w) : x < w.heap.size := by
 have := World.block_lt_of_cell? w _ h.1
 simpa using this

theorem add_ok2 (K B F R O n0 d0 n1 d1 : Int) (h0 : fv K B F R O n0 d0 = true) (h1 : fv K B F R O n1 d1 = true) :
  (∀ w, Calls Tryz.prog 148 #[T5 K B F R O, V2 n0 d0, V2 n1 d1] w (Ret (Frac3 (Nx.nv (n0 + n1) B O) 1 0) w)) := by
 obtain ⟨t, d0e, l0, m0, i0, i1⟩ := fv_parts h0
 obtain ⟨_, d1e, l1, m1, j0, j1⟩ := fv_parts h1
 obtain ⟨k1, k2, k3, k4, k5, k6, k7, k8⟩ := tv_parts t
 obtain ⟨p0, p1⟩ := two_pow F k4 k5
 have hce : ce K B F R O n0 d0 n1 d1 = 0 := by unfold ce; rw [if_pos t, if_pos ⟨h0, h1⟩]
 have CH := Lib.hid fun (w : World) (x : Nat) hx c0 c1 c2 c3 => chk_any K B F R O n0 d0 n1 d1 x w (by omega) (by omega) hx c0 c1 c2 c3
 rw [hce] at CH
 obtain ⟨p, hp⟩ : ∃ p, (2 : Int) ^ F.toNat = p := ⟨_, rfl⟩
 rw [hp] at p0 p1
 exact fun w => add_any K B F R O n0 d0 n1 d1 _ _ _ w (Lib.hid fun w => comb57_ok K B F R O n0 d0 n1 d1 p _ w hp p0 p1 k4 k5 (by omega) (by omega) (by omega) (by omega) CH (Lib.hid fun w x h => cl57 K B F R O n0 n1 p w x h (by omega) (by omega) (by omega) (by omega)))

theorem sub_ok2 (K B F R O n0 d0 n1 d1 : Int) (h0 : fv K B F R O n0 d0 = true) (h1 : fv K B F R O n1 d1 = true) :
  (∀ w, Calls Tryz.prog 149 #[T5 K B F R O, V2 n0 d0, V2 n1 d1] w (Ret (Frac3 (Nx.nv (n0 - n1) B O) 1 0) w)) := by
 obtain ⟨t, d0e, l0, m0, i0, i1⟩ := fv_parts h0
 obtain ⟨_, d1e, l1, m1, j0, j1⟩ := fv_parts h1
 obtain ⟨k1, k2, k3, k4, k5, k6, k7, k8⟩ := tv_parts t
 obtain ⟨p0, p1⟩ := two_pow F k4 k5
 have hce : ce K B F R O n0 d0 n1 d1 = 0 := by unfold ce; rw [if_pos t, if_pos ⟨h0, h1⟩]
 have CH := Lib.hid fun (w : World) (x : Nat) hx c0 c1 c2 c3 => chk_any K B F R O n0 d0 n1 d1 x w (by omega) (by omega) hx c0 c1 c2 c3
 rw [hce] at CH
 obtain ⟨p, hp⟩ : ∃ p, (2 : Int) ^ F.toNat = p := ⟨_, rfl⟩
 rw [hp] at p0 p1
 exact fun w => sub_any K B F R O n0 d0 n1 d1 _ _ _ w (Lib.hid fun w => comb58_ok K B F R O n0 d0 n1 d1 p _ w hp p0 p1 k4 k5 (by omega) (by omega) (by omega) (by omega) CH (Lib.hid fun w x h => cl58 K B F R O n0 n1 p w x h (by omega) (by omega) (by omega) (by omega)))

theorem mul_ok2 (K B F R O n0 d0 n1 d1 : Int) (h0 : fv K B F R O n0 d0 = true) (h1 : fv K B F R O n1 d1 = true) :
  (∀ w, Calls Tryz.prog 150 #[T5 K B F R O, V2 n0 d0, V2 n1 d1] w (Ret (Frac3 (Nx.nv (Dv.dval R (n0 * n1) (2 ^ F.toNat)) B O) 1 0) w)) := by
 obtain ⟨t, d0e, l0, m0, i0, i1⟩ := fv_parts h0
 obtain ⟨_, d1e, l1, m1, j0, j1⟩ := fv_parts h1
 obtain ⟨k1, k2, k3, k4, k5, k6, k7, k8⟩ := tv_parts t
 obtain ⟨p0, p1⟩ := two_pow F k4 k5
 have hce : ce K B F R O n0 d0 n1 d1 = 0 := by unfold ce; rw [if_pos t, if_pos ⟨h0, h1⟩]
 have CH := Lib.hid fun (w : World) (x : Nat) hx c0 c1 c2 c3 => chk_any K B F R O n0 d0 n1 d1 x w (by omega) (by omega) hx c0 c1 c2 c3
 rw [hce] at CH
 obtain ⟨p, hp⟩ : ∃ p, (2 : Int) ^ F.toNat = p := ⟨_, rfl⟩
 rw [hp] at p0 p1 ⊢
 obtain ⟨s0, s1⟩ := pb n0 n1 (by omega) (by omega)
 obtain ⟨s, hs⟩ : ∃ s, n0 * n1 = s := ⟨_, rfl⟩
 rw [hs] at s0 s1 ⊢
 obtain ⟨q0, q1⟩ := dval_bound R s p k6 k7 s0 s1 (by omega)
 exact fun w => mul_any K B F R O n0 d0 n1 d1 _ _ _ w (Lib.hid fun w => comb59_ok K B F R O n0 d0 n1 d1 p _ w hp p0 p1 k4 k5 (by omega) (by omega) (by omega) (by omega) CH (Lib.hid fun w x h => cl59 K B F R O n0 n1 p s w x h h.lt hs (by omega) (by omega) p0 p1 (by omega) (by omega) (by omega) (by omega)))
end Go.Proofs.YteaaikmejacpaaaGreatDoor.Fx


namespace Go.Proofs.YteaaikmejacpaaaGreatDoor.Fr
open Go.ChangeShapes Go.WideShapes Go.ChangeAt Go.RowKit
set_option linter.unusedVariables false
set_option linter.unusedSimpArgs false
def newN (n d : Int) : Int := if d = 0 then 0 else lowN (decide (n < 0) != decide (d < 0)) (if n < 0 then -n else n) (if d < 0 then -d else d)
def newD (n d : Int) : Int := if d = 0 then 0 else lowD (if n < 0 then -n else n) (if d < 0 then -d else d)
def newE (n d : Int) : Int := if d = 0 then 4 else lowE (if n < 0 then -n else n) (if d < 0 then -d else d)
set_option maxHeartbeats 4000000 in
theorem new_any (n d : Int) (w : World) (n0 : -9223372036854775808 <= n) (n1 : n <= 9223372036854775807) (d0 : -9223372036854775808 <= d) (d1 : d <= 9223372036854775807) :
  Calls Tryz.prog 160 #[.int .i64 n, .int .i64 d] w (Ret (Frac3 (newN n d) (newD n d) (newE n d)) w) := by
 by_cases hd : d = 0
 ·subst hd
  have e1 : newN n 0 = 0 := rfl
  have e2 : newD n 0 = 0 := rfl
  have e3 : newE n 0 = 4 := rfl
  rw [e1, e2, e3]
  clear e1 e2 e3
  go_enter Tryz.func160, Tryz.ntmps160
  go_wp2
  go_returns
  refine ⟨rfl, ?_⟩
  repeat' (first | (with_reducible exact Below.refl _ _) | (with_reducible refine below_drewN ?_ _) | (with_reducible refine Below.drew ?_) | (with_reducible refine Below.alloc ?_ ?_ _) | (with_reducible refine Below.setCell ?_ ?_ _) | (with_reducible assumption) | (simp; done) | (simp; omega) | omega)
 ·have hz : (d == 0) = false := by simpa using hd
  obtain ⟨x, y, hx, hy⟩ : ∃ x y, decide (n < 0) = x /\ decide (d < 0) = y := ⟨_, _, rfl, rfl⟩
  obtain ⟨m, hm, m0, m1⟩ : ∃ m, (if n < 0 then -n else n) = m /\ 0 <= m /\ m <= 9223372036854775808 := ⟨_, rfl, by split <;> omega, by split <;> omega⟩
  obtain ⟨c, hc, c0, c1⟩ : ∃ c, (if d < 0 then -d else d) = c /\ 1 <= c /\ c <= 9223372036854775808 := ⟨_, rfl, by split <;> omega, by split <;> omega⟩
  have e1 : newN n d = lowN (x != y) m c := by unfold newN; rw [if_neg hd, hx, hy, hm, hc]
  have e2 : newD n d = lowD m c := by unfold newD; rw [if_neg hd, hm, hc]
  have e3 : newE n d = lowE m c := by unfold newE; rw [if_neg hd, hm, hc]
  rw [e1, e2, e3]
  have hx1 : x = true -> n < 0 /\ m = -n := fun h => by
   have h1 : n < 0 := by rw [h] at hx; simpa using hx
   exact ⟨h1, by rw [if_pos h1] at hm; exact hm.symm⟩
  have hx2 : x = false -> 0 <= n /\ m = n := fun h => by
   have h1 : 0 <= n := by rw [h] at hx; simpa using hx
   exact ⟨h1, by rw [if_neg (by omega)] at hm; exact hm.symm⟩
  have hy1 : y = true -> d < 0 /\ c = -d := fun h => by
   have h1 : d < 0 := by rw [h] at hy; simpa using hy
   exact ⟨h1, by rw [if_pos h1] at hc; exact hc.symm⟩
  have hy2 : y = false -> 0 < d /\ c = d := fun h => by
   have h1 : 0 <= d := by rw [h] at hy; simpa using hy
   exact ⟨by omega, by rw [if_neg (by omega)] at hc; exact hc.symm⟩
  have LW := Lib.hid (fun b (w : World) => low_any b m c w m0 m1 c0 c1)
  clear e1 e2 e3 hm hc
  cases x <;> cases y
  all_goals
   (first | obtain ⟨h1, rfl⟩ := hx1 rfl | obtain ⟨h1, rfl⟩ := hx2 rfl)
   (first | obtain ⟨h2, rfl⟩ := hy1 rfl | obtain ⟨h2, rfl⟩ := hy2 rfl)
   clear hx1 hx2 hy1 hy2
   go_enter Tryz.func160, Tryz.ntmps160
   go_wp2_with (first | (go_at_call 110; refine (fmag_pos _ _ (by omega) (by omega)).mono ?_; rintro e w1 ⟨rfl, rfl⟩) | (go_at_call 110; refine (fmag_neg _ _ (by omega) (by omega)).mono ?_; rintro e w1 ⟨rfl, rfl⟩) | (go_at_call 172; refine (LW.out _ _).mono ?_; rintro e w1 ⟨rfl, hb⟩; have hc := (bcell hb).1; have hf := (bcell hb).2))
   refine bodyPost_ret (v := Frac3 _ _ _) (by simp [results, Tryz.results160, go_sem, hc]) rfl ⟨rfl, ?_⟩
   refine Below.setCell (Below.setCell ?_ (by simp) _) (by simp) _
   exact ((Below.refl _ _).alloc (Nat.le_refl _) _).trans (hb.mono (by simp))
end Go.Proofs.YteaaikmejacpaaaGreatDoor.Fr


namespace Go.Proofs.YteaaikmejacpaaaGreatDoor.Fx
open Go.ChangeShapes Go.WideShapes Go.ChangeAt Go.RowKit
open Fr
set_option maxRecDepth 8000
set_option linter.unusedVariables false
set_option linter.unusedSimpArgs false
set_option maxRecDepth 8000
/-- A number and a power of two, both halved as long as the number is even. -/
def red : Int -> Nat -> Int × Nat
 | n, 0 => (n, 0)
 | n, m + 1 => if n % 2 = 0 then red (n / 2) m else (n, m + 1)

set_option maxHeartbeats 8000000 in
theorem tf_ok (K B F R O n0 d0 p x y e : Int) (w : World) (hp : (2 : Int) ^ F.toNat = p) (p0 : 1 <= p) (p1 : p <= 1073741824) (f0 : 0 <= F) (f1 : F <= 30) (CH : Hid (∀ (w : World) (x : Nat), x < w.heap.size -> w.cell? ⟨x, 0, none⟩ = some (.int .i64 n0) -> w.cell? ⟨x, 1, none⟩ = some (.int .i64 d0) ->
   Calls Tryz.prog 165 #[.agg #[.int .i64 K, .int .i64 B, .int .i64 F, .int .i64 R, .int .i64 O], .slice (some ⟨x, 0, none⟩) 1 1] w (Ret (.int .i64 0) w))) (NW : Hid (∀ w, Calls Tryz.prog 160 #[.int .i64 n0, .int .i64 p] w (Ret (Frac3 x y e) w))) : Calls Tryz.prog 156 #[.agg #[.int .i64 K, .int .i64 B, .int .i64 F, .int .i64 R, .int .i64 O], .agg #[.int .i64 n0, .int .i64 d0]] w (Ret (Frac3 x y e) w) := by
 go_enter Tryz.func156, Tryz.ntmps156
 go_wp2_with fail
 refine (CH.out _ _ (by simp <;> omega) (by go_cell) (by go_cell)).mono ?_
 rintro e w1 ⟨rfl, hb⟩
 have L : Below w.heap.size w w1 := (((((Below.refl _ _).alloc (by simp <;> omega) _).alloc (by simp <;> omega) _).alloc (by simp <;> omega) _).alloc (by simp <;> omega) _).trans (hb.mono (by simp <;> omega))
 have K1 : Below w.heap.size w w1 := L
 have RF0 : w1.frozen? ⟨w.heap.size + 1 + 1, 0, none⟩ = false := Rg.keepF hb (by simp <;> omega) (by simp only [frozen?_alloc_cells]; exact Rg.notFrozen (by omega))
 have RF1 : w1.frozen? ⟨w.heap.size + 1 + 1, 1, none⟩ = false := Rg.keepF hb (by simp <;> omega) (by simp only [frozen?_alloc_cells]; exact Rg.notFrozen (by omega))
 have lt : w.heap.size < w1.heap.size := Nat.lt_of_lt_of_le (by simp <;> omega) hb.size
 have t0 : w1.cell? ⟨w.heap.size, 0, none⟩ = some (.int .i64 K) := Rg.keep hb (by simp <;> omega) (by go_cell)
 have t1 : w1.cell? ⟨w.heap.size, 1, none⟩ = some (.int .i64 B) := Rg.keep hb (by simp <;> omega) (by go_cell)
 have t2 : w1.cell? ⟨w.heap.size, 2, none⟩ = some (.int .i64 F) := Rg.keep hb (by simp <;> omega) (by go_cell)
 have t3 : w1.cell? ⟨w.heap.size, 3, none⟩ = some (.int .i64 R) := Rg.keep hb (by simp <;> omega) (by go_cell)
 have t4 : w1.cell? ⟨w.heap.size, 4, none⟩ = some (.int .i64 O) := Rg.keep hb (by simp <;> omega) (by go_cell)
 have la : w.heap.size + 1 < w1.heap.size := Nat.lt_of_lt_of_le (by simp <;> omega) hb.size
 have a0 : w1.cell? ⟨w.heap.size + 1, 0, none⟩ = some (.int .i64 n0) := Rg.keep hb (by simp <;> omega) (by go_cell)
 have a1 : w1.cell? ⟨w.heap.size + 1, 1, none⟩ = some (.int .i64 d0) := Rg.keep hb (by simp <;> omega) (by go_cell)
 have lr : w.heap.size + 1 + 1 < w1.heap.size := Nat.lt_of_lt_of_le (by simp <;> omega) hb.size
 have r0 : w1.cell? ⟨w.heap.size + 1 + 1, 0, none⟩ = some (.int .i64 0) := Rg.keep hb (by simp <;> omega) (by go_cell)
 have r1 : w1.cell? ⟨w.heap.size + 1 + 1, 1, none⟩ = some (.int .i64 0) := Rg.keep hb (by simp <;> omega) (by go_cell)
 have ls : w.heap.size + 1 + 1 + 1 < w1.heap.size := Nat.lt_of_lt_of_le (by simp <;> omega) hb.size
 have s0 : w1.cell? ⟨w.heap.size + 1 + 1 + 1, 0, none⟩ = some (.int .i64 n0) := Rg.keep hb (by simp <;> omega) (by go_cell)
 have s1 : w1.cell? ⟨w.heap.size + 1 + 1 + 1, 1, none⟩ = some (.int .i64 d0) := Rg.keep hb (by simp <;> omega) (by go_cell)
 clear hb L
 clear s0 s1
 go_wp2_with fail
 have hz : w1.cell? ⟨w.heap.size, 2, none⟩ = some (.int .i64 F) /\ w1.cell? ⟨w.heap.size + 1, 0, none⟩ = some (.int .i64 n0) /\ Rg.RC (w.heap.size + 1 + 1) w1 /\ w1.heap.size <= w1.heap.size /\ Below w.heap.size w w1 := ⟨t2, a0, (⟨⟨_, r0⟩, ⟨_, r1⟩, RF0, RF1⟩ : Rg.RC (w.heap.size + 1 + 1) w1), Nat.le_refl _, K1⟩
 have z0 : w.heap.size <= w.heap.size + 1 + 1 := by omega
 have ne0 : w.heap.size + 1 + 1 ≠ w.heap.size := by omega
 have ne1 : w.heap.size + 1 + 1 ≠ w.heap.size + 1 := by omega
 clear t0 t1 t2 t3 t4 a0 a1 r0 r1 RF0 RF1 K1
 have m2 : IntKind.i64.wrap p = p := IntWalk.i64_in _ ⟨by omega, by omega⟩
 have HS : Hid (∀ u u' : World, (u.cell? ⟨w.heap.size, 2, none⟩ = some (.int .i64 F) /\ u.cell? ⟨w.heap.size + 1, 0, none⟩ = some (.int .i64 n0) /\ Rg.RC (w.heap.size + 1 + 1) u /\ w1.heap.size <= u.heap.size /\ Below w.heap.size w u) -> Below u.heap.size u u' -> (u'.cell? ⟨w.heap.size, 2, none⟩ = some (.int .i64 F) /\ u'.cell? ⟨w.heap.size + 1, 0, none⟩ = some (.int .i64 n0) /\ Rg.RC (w.heap.size + 1 + 1) u' /\ w1.heap.size <= u'.heap.size /\ Below w.heap.size w u')) := Lib.hid (fun u u' h hb => ⟨Rg.keep hb (Nat.lt_of_lt_of_le lt h.2.2.2.1) h.1, Rg.keep hb (Nat.lt_of_lt_of_le la h.2.2.2.1) h.2.1, Rg.RC.keep hb (Nat.lt_of_lt_of_le lr h.2.2.2.1) h.2.2.1, Nat.le_trans h.2.2.2.1 hb.size, h.2.2.2.2.trans (hb.mono h.2.2.2.2.size)⟩)
 refine wp_region_held_drew (S := fun w' => w'.cell? ⟨w.heap.size, 2, none⟩ = some (.int .i64 F) /\ w'.cell? ⟨w.heap.size + 1, 0, none⟩ = some (.int .i64 n0) /\ Rg.RC (w.heap.size + 1 + 1) w' /\ w1.heap.size <= w'.heap.size /\ Below w.heap.size w w') (by kernel_rfl) (HS.out _ _ hz (Below.drew (Below.refl _ _))) (fun hHeld => ?_)
 refine SqR.g 0 ?_
 refine SqR.g 1 ?_
 refine SqR.g 2 ?_
 refine SqR.g 3 ?_
 refine SqR.g 4 ?_
 refine Rg.one (i := 5) (by kernel_rfl) rfl (fun KK hK => ?_)
 rw [if_pos (by kernel_rfl)]
 go_simp
 ((with_reducible refine (NW.out _).mono ?_); rintro e u ⟨rfl, hb⟩)
 have hNew := HS.out _ _ hHeld hb
 first | (refine hK.out _ _ hNew (fun _ => ?_)) | (go_wp2_with fail; refine hK.out _ _ hNew (fun _ => ?_))
 clear hK KK hHeld hb
 have hHeld := hNew
 clear hNew
 refine SqR.g 6 ?_
 refine SqR.g 7 ?_
 refine Rg.one (i := 8) (by kernel_rfl) rfl (fun KK hK => ?_)
 rw [if_pos (by kernel_rfl)]
 obtain ⟨⟨ra, rca⟩, ⟨rb, rcb⟩, rcf, rcg⟩ := hHeld.2.2.1
 go_simp
 have hRC : Rg.RC (w.heap.size + 1 + 1) _ := hHeld.2.2.1
 refine hK.out _ _ ⟨Rg.far ne0 hHeld.1, Rg.far ne1 hHeld.2.1, Rg.RC.store hHeld.2.2.1, by rw [Rg.size2]; exact hHeld.2.2.2.1, Below.setCell (Below.setCell hHeld.2.2.2.2 z0 _) z0 _⟩ (fun hNew => ?_)
 clear hK KK hHeld rca rcb rcf rcg
 have hHeld := hNew
 clear hNew
 refine SqR.g 9 ?_
 refine wpAnyH_done (by kernel_rfl) ?_ _
 clear m2
 have f0 := Rg.RC.read00 (x := x) hRC
 have f1 := Rg.RC.read1 (x := x) (y := y) hRC
 go_wp2
 refine bodyPost_ret (v := Frac3 (x) (y) (e)) (by simp [results, Tryz.results156, go_sem, f0, f1]) rfl ⟨rfl, hHeld.2.2.2.2⟩
theorem red_bound : ∀ (m : Nat) (n : Int), (red n m).1.natAbs <= n.natAbs
 | 0, n => Nat.le_refl _
 | m + 1, n => by
  unfold red
  split
  ·have := red_bound m (n / 2); omega
  ·exact Nat.le_refl _
theorem red_odd {n : Int} {m : Nat} (h : n % 2 ≠ 0) : red n m = (n, m) := by
 cases m with
 | zero => rfl
 | succ m => unfold red; rw [if_neg h]
theorem red_even {n : Int} {m : Nat} (h : n % 2 = 0) : red n (m + 1) = red (n / 2) m := by
 show (if n % 2 = 0 then red (n / 2) m else (n, m + 1)) = _
 rw [if_pos h]

theorem bnd2 (m : Nat) (h : m <= 30) : 1 <= (2 : Int) ^ m /\ (2 : Int) ^ m <= 1073741824 := by
 have h1 : 0 < (2 : Nat) ^ m := Nat.pow_pos (by decide)
 have h2 : (2 : Nat) ^ m <= 2 ^ 30 := Nat.pow_le_pow_right (by decide) h
 have h3 : ((2 : Nat) ^ m : Nat) = (2 : Int) ^ m := by push_cast; rfl
 have h4 : (2 : Nat) ^ 30 = 1073741824 := by decide
 omega
end Go.Proofs.YteaaikmejacpaaaGreatDoor.Fx


namespace Go.Proofs.YteaaikmejacpaaaGreatDoor.Fx
open Go.ChangeShapes Go.WideShapes Go.ChangeAt Go.RowKit
open Fr
set_option linter.unusedVariables false
set_option linter.unusedSimpArgs false

theorem neg_ok2 (K B F R O n0 d0 : Int) (h0 : fv K B F R O n0 d0 = true) :
  (∀ w, Calls Tryz.prog 152 #[T5 K B F R O, V2 n0 d0] w (Ret (Frac3 (Nx.nv (-n0) B O) 1 0) w)) := by
 obtain ⟨t, d0e, l0, m0, i0, i1⟩ := fv_parts h0
 obtain ⟨k1, k2, k3, k4, k5, k6, k7, k8⟩ := tv_parts t
 obtain ⟨p0, p1⟩ := two_pow F k4 k5
 have hce : ce K B F R O n0 d0 n0 d0 = 0 := by unfold ce; rw [if_pos t, if_pos ⟨h0, h0⟩]
 have CH := Lib.hid fun (w : World) (x : Nat) hx c0 c1 c2 c3 => chk_any K B F R O n0 d0 n0 d0 x w (by omega) (by omega) hx c0 c1 c2 c3
 rw [hce] at CH
 obtain ⟨p, hp⟩ : ∃ p, (2 : Int) ^ F.toNat = p := ⟨_, rfl⟩
 rw [hp] at p0 p1
 exact fun w => neg_any K B F R O n0 d0 _ _ _ w (Lib.hid fun w => comb61_ok K B F R O n0 d0 n0 d0 p _ w hp p0 p1 k4 k5 (by omega) (by omega) (by omega) (by omega) CH (Lib.hid fun w x h => cl61 K B F R O n0 n0 p w x h (by omega) (by omega) (by omega) (by omega)))

theorem div_zero2 (K B F R O n0 d0 d1 : Int) (h0 : fv K B F R O n0 d0 = true) (h1 : fv K B F R O 0 d1 = true) :
  (∀ w, Calls Tryz.prog 151 #[T5 K B F R O, V2 n0 d0, V2 0 d1] w (Ret (Frac3 0 0 4) w)) := by
 obtain ⟨t, _⟩ := fv_parts h0
 obtain ⟨k1, k2, k3, k4, k5, k6, k7, k8⟩ := tv_parts t
 have hce : ce K B F R O n0 d0 0 d1 = 0 := by unfold ce; rw [if_pos t, if_pos ⟨h0, h1⟩]
 have CH := Lib.hid fun (w : World) (x : Nat) hx c0 c1 c2 c3 => chk_any K B F R O n0 d0 0 d1 x w (by omega) (by omega) hx c0 c1 c2 c3
 rw [hce] at CH
 exact fun w => div_zero K B F R O n0 d0 0 d1 0 0 0 0 w rfl CH
theorem div_ok2 (K B F R O n0 d0 n1 d1 : Int) (h0 : fv K B F R O n0 d0 = true) (h1 : fv K B F R O n1 d1 = true) (hz : n1 ≠ 0) :
  (∀ w, Calls Tryz.prog 151 #[T5 K B F R O, V2 n0 d0, V2 n1 d1] w (Ret (Frac3 (Nx.nv (Dv.dval R (n0 * 2 ^ F.toNat) n1) B O) 1 0) w)) := by
 obtain ⟨t, d0e, l0, m0, i0, i1⟩ := fv_parts h0
 obtain ⟨_, d1e, l1, m1, j0, j1⟩ := fv_parts h1
 obtain ⟨k1, k2, k3, k4, k5, k6, k7, k8⟩ := tv_parts t
 obtain ⟨p0, p1⟩ := two_pow F k4 k5
 have hce : ce K B F R O n0 d0 n1 d1 = 0 := by unfold ce; rw [if_pos t, if_pos ⟨h0, h1⟩]
 have CH := Lib.hid fun (w : World) (x : Nat) hx c0 c1 c2 c3 => chk_any K B F R O n0 d0 n1 d1 x w (by omega) (by omega) hx c0 c1 c2 c3
 rw [hce] at CH
 obtain ⟨p, hp⟩ : ∃ p, (2 : Int) ^ F.toNat = p := ⟨_, rfl⟩
 rw [hp] at p0 p1 ⊢
 obtain ⟨s0, s1⟩ := pb n0 p (by omega) (by omega)
 obtain ⟨s, hs⟩ : ∃ s, n0 * p = s := ⟨_, rfl⟩
 rw [hs] at s0 s1 ⊢
 obtain ⟨q0, q1⟩ := dval_bound R s n1 k6 k7 s0 s1 hz
 have hz' : (n1 == 0) = false := by simpa using hz
 exact fun w => div_go K B F R O n0 d0 n1 d1 _ _ _ 0 w hz' CH (Lib.hid fun w => comb60_ok K B F R O n0 d0 n1 d1 p _ w hp p0 p1 k4 k5 (by omega) (by omega) (by omega) (by omega) CH (Lib.hid fun w x h => cl60 K B F R O n0 n1 p s w x h h.lt hs (by omega) (by omega) p0 p1 (by omega) (by omega) (by omega) (by omega)))

theorem vld_parts {n d : Int} (h : vld n d = true) : 1 <= d /\ d <= 2147483647 /\ -2147483647 <= n /\ n <= 2147483647 /\ Int.gcd n d = 1 := by
 unfold vld at h
 simpa using h
theorem low_scale (b : Bool) (a c : Int) (ha : 0 <= a) (hc : 0 < c) : lowN b (2 * a) (2 * c) = lowN b a c /\ lowD (2 * a) (2 * c) = lowD a c /\ lowE (2 * a) (2 * c) = lowE a c := by
 have g : ((Int.gcd (2 * a) (2 * c) : Nat) : Int) = 2 * (Int.gcd a c : Nat) := by rw [Int.gcd_mul_left]; simp
 have e1 : 2 * a / ((Int.gcd (2 * a) (2 * c) : Nat) : Int) = a / (Int.gcd a c : Nat) := by rw [g]; exact Int.mul_ediv_mul_of_pos _ _ (by decide)
 have e2 : 2 * c / ((Int.gcd (2 * a) (2 * c) : Nat) : Int) = c / (Int.gcd a c : Nat) := by rw [g]; exact Int.mul_ediv_mul_of_pos _ _ (by decide)
 unfold lowN lowD lowE
 rw [e1, e2]
 exact ⟨rfl, rfl, rfl⟩
theorem low_one (b : Bool) (a c : Int) (h : Int.gcd a c = 1) (ha : a <= 2147483647) (hc : c <= 2147483647) : lowN b a c = (if b then -a else a) /\ lowD a c = c /\ lowE a c = 0 := by
 unfold lowN lowD lowE
 rw [h]
 have e : ((1 : Nat) : Int) = 1 := rfl
 have hb : ¬ (2147483647 < a \/ 2147483647 < c) := by omega
 simp only [e, Int.ediv_one, if_neg hb]
 exact ⟨trivial, trivial, trivial⟩
theorem gcd_odd (n : Int) (m : Nat) (h : n % 2 ≠ 0) : Int.gcd n (2 ^ m) = 1 := by
 have h2 : Nat.gcd 2 n.natAbs = 1 := by
  rw [Nat.gcd_rec]
  have : n.natAbs % 2 = 1 := by omega
  rw [this]
  decide
 have h3 : Nat.gcd n.natAbs 2 = 1 := by rw [Nat.gcd_comm]; exact h2
 have h4 : Nat.gcd n.natAbs (2 ^ m) = 1 := Nat.Coprime.pow_right m h3
 unfold Int.gcd
 have h5 : ((2 : Int) ^ m).natAbs = 2 ^ m := by rw [Int.natAbs_pow]; rfl
 rw [h5]
 exact h4
theorem red_low (s : Bool) : ∀ (m : Nat) (a : Int), 0 <= a -> a <= 2147483647 -> m <= 30 -> lowN s a (2 ^ m) = (if s then -(red a m).1 else (red a m).1) /\ lowD a (2 ^ m) = 2 ^ (red a m).2 /\ lowE a (2 ^ m) = 0
 | 0, a, h0, h1, hm => by
  have := low_one s a 1 (Int.gcd_one_right _) h1 (by decide)
  exact this
 | m + 1, a, h0, h1, hm => by
  by_cases he : a % 2 = 0
  ·rw [red_even he]
   obtain ⟨c, hc⟩ : ∃ c, a / 2 = c := ⟨_, rfl⟩
   have ha : a = 2 * c := by omega
   rw [hc, ha]
   have hp : (2 : Int) ^ (m + 1) = 2 * 2 ^ m := by rw [Int.pow_succ]; omega
   rw [hp]
   have hpos : (0 : Int) < 2 ^ m := Int.pow_pos (by decide)
   obtain ⟨e1, e2, e3⟩ := low_scale s c (2 ^ m) (by omega) hpos
   rw [e1, e2, e3]
   exact red_low s m c (by omega) (by omega) (by omega)
  ·rw [red_odd he]
   exact low_one s a _ (gcd_odd a (m + 1) he) h1 (by have := bnd2 (m + 1) hm; omega)
theorem red_neg : ∀ (m : Nat) (n : Int), (red (-n) m).1 = -(red n m).1 /\ (red (-n) m).2 = (red n m).2
 | 0, n => ⟨rfl, rfl⟩
 | m + 1, n => by
  by_cases he : n % 2 = 0
  ·rw [red_even he, red_even (by omega : -n % 2 = 0)]
   have : -n / 2 = -(n / 2) := by omega
   rw [this]
   exact red_neg m (n / 2)
  ·rw [red_odd he, red_odd (by omega : -n % 2 ≠ 0)]
   exact ⟨rfl, rfl⟩
theorem new_red (n : Int) (m : Nat) (h0 : -2147483647 <= n) (h1 : n <= 2147483647) (hm : m <= 30) : newN n (2 ^ m) = (red n m).1 /\ newD n (2 ^ m) = 2 ^ (red n m).2 /\ newE n (2 ^ m) = 0 := by
 have hpos : (0 : Int) < 2 ^ m := Int.pow_pos (by decide)
 have hz : ¬ (2 : Int) ^ m = 0 := by omega
 have hl : ¬ (2 : Int) ^ m < 0 := by omega
 unfold newN newD newE
 simp only [if_neg hz, if_neg hl, decide_eq_false hl]
 by_cases hn : n < 0
 ·rw [decide_eq_true hn, if_pos hn]
  obtain ⟨e1, e2, e3⟩ := red_low true m (-n) (by omega) (by omega) hm
  obtain ⟨r1, r2⟩ := red_neg m n
  rw [r1] at e1
  rw [r2] at e2
  exact ⟨by simpa using e1, e2, e3⟩
 ·rw [decide_eq_false hn, if_neg hn]
  obtain ⟨e1, e2, e3⟩ := red_low false m n (by omega) h1 hm
  exact ⟨by simpa using e1, e2, e3⟩
theorem chk1_any (K B F R O n0 d0 : Int) (x : Nat) (w : World) (bb0 : -9223372036854775808 <= B) (bb1 : B <= 9223372036854775807) (hx : x < w.heap.size) (c0 : w.cell? ⟨x, 0, none⟩ = some (.int .i64 n0)) (c1 : w.cell? ⟨x, 1, none⟩ = some (.int .i64 d0)) :
  Calls Tryz.prog 165 #[T5 K B F R O, .slice (some ⟨x, 0, none⟩) 1 1] w (Ret (.int .i64 (ce K B F R O n0 d0 n0 d0)) w) := by
 unfold ce
 by_cases h : tv K B F R O = true
 ·rw [if_pos h]
  have VT := Lib.hid fun w => vt_ok K B F R O w h
  have V0 := Lib.hid fun w => fval K B F R O n0 d0 w bb0 bb1
  by_cases h0 : fv K B F R O n0 d0 = true
  ·rw [h0] at V0
   rw [if_pos ⟨h0, h0⟩]
   exact chk1_t K B F R O n0 d0 x w hx c0 c1 VT V0
  ·rw [if_neg (fun h => h0 h.1)]
   rw [show fv K B F R O n0 d0 = false by simpa using h0] at V0
   exact chk1_f K B F R O n0 d0 x w hx c0 c1 VT V0
 ·rw [if_neg h]
  have VT := Lib.hid fun w => vt_bad K B F R O w (by simpa using h)
  exact chk1_tv K B F R O n0 d0 x w hx c0 c1 VT

theorem tf_ok2 (K B F R O n0 d0 : Int) (h0 : fv K B F R O n0 d0 = true) :
  (∀ w, Calls Tryz.prog 156 #[T5 K B F R O, V2 n0 d0] w (Ret (Frac3 (red n0 F.toNat).1 (2 ^ (red n0 F.toNat).2) 0) w)) := by
 obtain ⟨t, d0e, l0, m0, i0, i1⟩ := fv_parts h0
 obtain ⟨k1, k2, k3, k4, k5, k6, k7, k8⟩ := tv_parts t
 obtain ⟨p0, p1⟩ := two_pow F k4 k5
 have hce : ce K B F R O n0 d0 n0 d0 = 0 := by unfold ce; rw [if_pos t, if_pos ⟨h0, h0⟩]
 have CH := Lib.hid fun (w : World) (x : Nat) hx c0 c1 => chk1_any K B F R O n0 d0 x w (by omega) (by omega) hx c0 c1
 rw [hce] at CH
 have NW := Lib.hid fun w => new_any n0 (2 ^ F.toNat) w (by omega) (by omega) (by omega) (by omega)
 obtain ⟨e1, e2, e3⟩ := new_red n0 F.toNat (by omega) (by omega) (by omega)
 rw [e1, e2, e3] at NW
 exact fun w => tf_ok K B F R O n0 d0 _ _ _ _ w rfl p0 p1 k4 k5 CH NW
end Go.Proofs.YteaaikmejacpaaaGreatDoor.Fx


namespace Go.Proofs.YteaaikmejacpaaaGreatDoor.Fx
open Go.ChangeShapes Go.WideShapes Go.ChangeAt Go.RowKit
open Fr
set_option linter.unusedVariables false
set_option linter.unusedSimpArgs false
theorem red_spec : ∀ (m : Nat) (n : Int), ∃ j, (red n m).1 * 2 ^ j = n /\ (red n m).2 + j = m /\ ((red n m).2 = 0 \/ (red n m).1 % 2 ≠ 0)
 | 0, n => ⟨0, by simp [red], rfl, .inl rfl⟩
 | m + 1, n => by
  by_cases he : n % 2 = 0
  ·rw [red_even he]
   obtain ⟨j, h1, h2, h3⟩ := red_spec m (n / 2)
   refine ⟨j + 1, ?_, by omega, h3⟩
   rw [Int.pow_succ, <- Int.mul_assoc, h1]
   omega
  ·rw [red_odd he]
   exact ⟨0, by simp, rfl, .inr he⟩
theorem dval_exact (how n d : Int) (h : 1 <= how) (h' : how <= 4) (hd : 1 <= d) : Dv.dval how (n * d) d = n := by
 unfold Dv.dval
 rw [if_neg (by omega), if_neg (by omega), if_neg (by omega), Int.mul_tmod_left, Int.mul_tdiv_cancel _ (by omega)]
 unfold Plain.rnd
 rw [if_pos rfl]
/-- What ToFrac answers is a fraction, and FromFrac of it is the number. -/
theorem back (K B F R O n : Int) (h : fv K B F R O n 1 = true) : vld (red n F.toNat).1 (2 ^ (red n F.toNat).2) = true /\ Nx.nv (Dv.dval R ((red n F.toNat).1 * 2 ^ F.toNat) (2 ^ (red n F.toNat).2)) B O = n := by
 obtain ⟨t, _, l0, m0, i0, i1⟩ := fv_parts h
 obtain ⟨k1, k2, k3, k4, k5, k6, k7, k8⟩ := tv_parts t
 obtain ⟨j, h1, h2, h3⟩ := red_spec F.toNat n
 have hb := red_bound F.toNat n
 obtain ⟨N, hN⟩ : ∃ N, (red n F.toNat).1 = N := ⟨_, rfl⟩
 obtain ⟨m, hm⟩ : ∃ m, (red n F.toNat).2 = m := ⟨_, rfl⟩
 rw [hN] at h1 h3 hb ⊢
 rw [hm] at h2 h3 ⊢
 obtain ⟨b0, b1⟩ := bnd2 m (by omega)
 constructor
 ·have hg : Int.gcd N (2 ^ m) = 1 := by
   rcases h3 with rfl | h3
   ·exact Int.gcd_one_right _
   ·exact gcd_odd N m h3
  unfold vld
  rw [hg]
  simp
  omega
 ·have e : N * 2 ^ F.toNat = n * 2 ^ m := by
   rw [<- h2, Int.pow_add, <- h1, Int.mul_assoc, Int.mul_comm (2 ^ m)]
  rw [e, dval_exact R n _ k6 k7 b0]
  exact nv_same l0 m0 k2 k3 k8
end Go.Proofs.YteaaikmejacpaaaGreatDoor.Fx


namespace Go.Proofs.YteaaikmejacpaaaGreatDoor.Fx
open Go.ChangeShapes Go.WideShapes Go.ChangeAt Go.RowKit
open Fr
set_option linter.unusedVariables false
set_option linter.unusedSimpArgs false

end Go.Proofs.YteaaikmejacpaaaGreatDoor.Fx


namespace Go.Proofs.YteaaikmejacpaaaGreatDoor.Fr
open Go.ChangeShapes Go.WideShapes Go.ChangeAt Go.RowKit
set_option linter.unusedVariables false
set_option linter.unusedSimpArgs false

end Go.Proofs.YteaaikmejacpaaaGreatDoor.Fr


namespace Go.Proofs.YteaaikmejacpaaaGreatDoor.Fr
open Go.ChangeShapes Go.WideShapes Go.ChangeAt Go.RowKit
set_option linter.unusedVariables false
set_option linter.unusedSimpArgs false
set_option maxHeartbeats 1000000 in
theorem rfgcd (x y : Int) (w : World) (x0 : 0 <= x) (x1 : x <= 9223372036854775808) (y0 : 0 <= y) (y1 : y <= 9223372036854775808) :
  Calls Tryz.prog 158 #[.int .u64 x, .int .u64 y] w (Val1 .u64 (Int.gcd x y) w) := by
 go_enter Tryz.func158, Tryz.ntmps158
 go_wp2
 go_loopw [0, 1] (fun a b wr => ∃ p q : Int, a = .int .u64 p /\ b = .int .u64 q /\ 0 <= p /\ p <= 9223372036854775808 /\ 0 <= q /\ q <= 9223372036854775808 /\ Int.gcd p q = Int.gcd x y /\ ∃ n, wr = w.drewN n) (fun _ b _ => (intOf b).toNat)
 case atStart => exact ⟨x, y, rfl, rfl, x0, x1, y0, y1, rfl, 0, rfl⟩
 case round =>
  obtain ⟨p, q, rfl, rfl, p0, p1, q0, q1, hg, n, rfl⟩ := hrel
  have HG := Lib.hid hg
  clear hg
  by_cases hq : q = 0
  ·subst hq
   go_wp2
   go_ret
   exact val1_end _ (by rw [<- HG.out, gcd_done _ p0])
  ·have hq1 : (q != 0) = true := by simpa using hq
   have hq2 : (q == 0) = false := by simpa using hq
   have hq3 : 0 < q := by omega
   have hm := Int.emod_nonneg p hq
   have hl := Int.emod_lt_of_pos p hq3
   clear hq
   go_wp2
   go_quiet (fail)
   go_wp2
   go_roundw
   case rel => exact ⟨q, p % q, rfl, rfl, by omega, by omega, by omega, by omega, by rw [gcd_step _ _ p0 hq3, HG.out], n + nq, by rw [World.drewN_drewN]⟩
   case measure => simp [intOf]; omega
theorem rsize_neg (n : Int) (w : World) (h : n < 0) (h' : -9223372036854775808 <= n) :
  Calls Tryz.prog 140 #[.int .i64 n] w fun e w' => e = .returned (.int .u64 (-n)) /\ w = w' := by
 have e : ∀ a b : Int, a = b -> Ending.returned (.int .u64 a) = .returned (.int .u64 b) := fun a b h => by rw [h]
 go_enter Tryz.func140, Tryz.ntmps140
 go_wp2
 go_ret
 exact ⟨e _ _ (by omega), rfl⟩
theorem rsize_pos (n : Int) (w : World) (h : 0 <= n) (h' : n <= 9223372036854775807) :
  Calls Tryz.prog 140 #[.int .i64 n] w fun e w' => e = .returned (.int .u64 n) /\ w = w' := by
 go_enter Tryz.func140, Tryz.ntmps140
 go_wp2
 go_ret
 exact ⟨rfl, rfl⟩
set_option maxHeartbeats 4000000 in
theorem rmade_any (neg : Bool) (n d : Int) (w : World) (n0 : 0 <= n) (n1 : n <= 9223372036854775808) (d0 : 1 <= d) (d1 : d <= 9223372036854775808) :
  Calls Tryz.prog 139 #[.bool neg, .int .u64 n, .int .u64 d] w (Ret (Frac3 (lowN neg n d) (lowD n d) (lowE n d)) w) := by
 obtain ⟨g0, g1, q0, q1, r0, r1⟩ := gcd_facts n d n0 (by omega)
 obtain ⟨b, hb⟩ : ∃ b, decide (2147483647 < n / (Int.gcd n d : Int) \/ 2147483647 < d / (Int.gcd n d : Int)) = b := ⟨_, rfl⟩
 have HN : lowN neg n d = if b then 0 else if neg then -(n / (Int.gcd n d : Int)) else n / (Int.gcd n d : Int) := by unfold lowN; subst hb; simp
 have HD : lowD n d = if b then 0 else d / (Int.gcd n d : Int) := by unfold lowD; subst hb; simp
 have HE : lowE n d = if b then 3 else 0 := by unfold lowE; subst hb; simp
 rw [HN, HD, HE]
 clear HN HD HE
 obtain ⟨q, hq⟩ : ∃ q, n / (Int.gcd n d : Int) = q := ⟨_, rfl⟩
 obtain ⟨r, hr⟩ : ∃ r, d / (Int.gcd n d : Int) = r := ⟨_, rfl⟩
 rw [hq] at q0 q1 hb ⊢
 rw [hr] at r0 r1 hb ⊢
 have gz : ((Int.gcd n d : Int) == 0) = false := by simp; omega
 obtain ⟨x, y, hx, hy, hxy⟩ : ∃ x y, decide (2147483647 < q) = x /\ decide (2147483647 < r) = y /\ (x || y) = b := ⟨_, _, rfl, rfl, by rw [<- hb]; simp⟩
 clear hb
 have hx2 : x = false -> q <= 2147483647 := fun h => by rw [h] at hx; simpa using hx
 have hy2 : y = false -> r <= 2147483647 := fun h => by rw [h] at hy; simpa using hy
 cases x <;> cases y <;> simp only [Bool.or_false, Bool.or_true] at hxy <;> subst hxy
 all_goals cases neg
 all_goals
  try simp only [Bool.false_eq_true, ↓reduceIte]
  try have hx3 := hx2 rfl
  try have hy3 := hy2 rfl
  clear hx2 hy2
  go_enter Tryz.func139, Tryz.ntmps139
  go_wp2_with (go_at_call 158; refine (rfgcd _ _ _ (by omega) (by omega) (by omega) (by omega)).mono ?_; rintro e w1 ⟨rfl, k, rfl⟩)
  go_returns
  refine ⟨rfl, ?_⟩
  repeat' (first | (with_reducible exact Below.refl _ _) | (with_reducible refine below_drewN ?_ _) | (with_reducible refine Below.drew ?_) | (with_reducible refine Below.alloc ?_ ?_ _) | (with_reducible refine Below.setCell ?_ ?_ _) | (with_reducible assumption) | (simp; done) | (simp; omega) | omega)
set_option maxHeartbeats 4000000 in
theorem rnew_any (n d : Int) (w : World) (n0 : -9223372036854775808 <= n) (n1 : n <= 9223372036854775807) (d0 : -9223372036854775808 <= d) (d1 : d <= 9223372036854775807) :
  Calls Tryz.prog 122 #[.int .i64 n, .int .i64 d] w (Ret (Frac3 (newN n d) (newD n d) (newE n d)) w) := by
 by_cases hd : d = 0
 ·subst hd
  have e1 : newN n 0 = 0 := rfl
  have e2 : newD n 0 = 0 := rfl
  have e3 : newE n 0 = 4 := rfl
  rw [e1, e2, e3]
  clear e1 e2 e3
  go_enter Tryz.func122, Tryz.ntmps122
  go_wp2
  go_returns
  refine ⟨rfl, ?_⟩
  repeat' (first | (with_reducible exact Below.refl _ _) | (with_reducible refine below_drewN ?_ _) | (with_reducible refine Below.drew ?_) | (with_reducible refine Below.alloc ?_ ?_ _) | (with_reducible refine Below.setCell ?_ ?_ _) | (with_reducible assumption) | (simp; done) | (simp; omega) | omega)
 ·have hz : (d == 0) = false := by simpa using hd
  obtain ⟨x, y, hx, hy⟩ : ∃ x y, decide (n < 0) = x /\ decide (d < 0) = y := ⟨_, _, rfl, rfl⟩
  obtain ⟨m, hm, m0, m1⟩ : ∃ m, (if n < 0 then -n else n) = m /\ 0 <= m /\ m <= 9223372036854775808 := ⟨_, rfl, by split <;> omega, by split <;> omega⟩
  obtain ⟨c, hc, c0, c1⟩ : ∃ c, (if d < 0 then -d else d) = c /\ 1 <= c /\ c <= 9223372036854775808 := ⟨_, rfl, by split <;> omega, by split <;> omega⟩
  have e1 : newN n d = lowN (x != y) m c := by unfold newN; rw [if_neg hd, hx, hy, hm, hc]
  have e2 : newD n d = lowD m c := by unfold newD; rw [if_neg hd, hm, hc]
  have e3 : newE n d = lowE m c := by unfold newE; rw [if_neg hd, hm, hc]
  rw [e1, e2, e3]
  have hx1 : x = true -> n < 0 /\ m = -n := fun h => by
   have h1 : n < 0 := by rw [h] at hx; simpa using hx
   exact ⟨h1, by rw [if_pos h1] at hm; exact hm.symm⟩
  have hx2 : x = false -> 0 <= n /\ m = n := fun h => by
   have h1 : 0 <= n := by rw [h] at hx; simpa using hx
   exact ⟨h1, by rw [if_neg (by omega)] at hm; exact hm.symm⟩
  have hy1 : y = true -> d < 0 /\ c = -d := fun h => by
   have h1 : d < 0 := by rw [h] at hy; simpa using hy
   exact ⟨h1, by rw [if_pos h1] at hc; exact hc.symm⟩
  have hy2 : y = false -> 0 < d /\ c = d := fun h => by
   have h1 : 0 <= d := by rw [h] at hy; simpa using hy
   exact ⟨by omega, by rw [if_neg (by omega)] at hc; exact hc.symm⟩
  have LW := Lib.hid (fun b (w : World) => rmade_any b m c w m0 m1 c0 c1)
  clear e1 e2 e3 hm hc
  cases x <;> cases y
  all_goals
   (first | obtain ⟨h1, rfl⟩ := hx1 rfl | obtain ⟨h1, rfl⟩ := hx2 rfl)
   (first | obtain ⟨h2, rfl⟩ := hy1 rfl | obtain ⟨h2, rfl⟩ := hy2 rfl)
   clear hx1 hx2 hy1 hy2
   go_enter Tryz.func122, Tryz.ntmps122
   go_wp2_with (first | (go_at_call 140; refine (rsize_pos _ _ (by omega) (by omega)).mono ?_; rintro e w1 ⟨rfl, rfl⟩) | (go_at_call 140; refine (rsize_neg _ _ (by omega) (by omega)).mono ?_; rintro e w1 ⟨rfl, rfl⟩) | (go_at_call 139; refine (LW.out _ _).mono ?_; rintro e w1 ⟨rfl, hb⟩; have hc := (bcell hb).1; have hf := (bcell hb).2))
   refine bodyPost_ret (v := Frac3 _ _ _) (by simp [results, Tryz.results122, go_sem, hc]) rfl ⟨rfl, ?_⟩
   refine Below.setCell (Below.setCell ?_ (by simp) _) (by simp) _
   exact ((Below.refl _ _).alloc (Nat.le_refl _) _).trans (hb.mono (by simp))
theorem rvalid_any (n d : Int) (w : World) : Calls Tryz.prog 121 #[.agg #[.int .i64 n, .int .i64 d]] w (Ret (.bool (vld n d)) w) := by
 go_enter Tryz.func121, Tryz.ntmps121
 go_wp2_with (go_at_call 54; refine (bval_any _ _ _).mono ?_; rintro e w1 ⟨rfl, hb⟩)
 go_ret
 exact ⟨rfl, ((Below.refl _ _).alloc (Nat.le_refl _) _).trans (hb.mono (by simp))⟩
end Go.Proofs.YteaaikmejacpaaaGreatDoor.Fr


namespace Go.Proofs.YteaaikmejacpaaaGreatDoor.Fr
open Go.ChangeShapes Go.WideShapes Go.ChangeAt Go.RowKit
set_option linter.unusedVariables false
set_option linter.unusedSimpArgs false
theorem step {k : Nat} {W w1 w2 : World} (B : Below k W w1) (hb : Below w1.heap.size w1 w2) (hk : k <= W.heap.size) : Below k W w2 := B.trans (hb.mono (Nat.le_trans hk B.size))
theorem cells3 {w w1 : World} {n1 d1 n2 d2 n3 d3 : Int} (h : Below (w.heap.size + 3) (((w.alloc (.cells #[.int .i64 n1, .int .i64 d1] 29)).alloc (.cells #[.int .i64 n2, .int .i64 d2] 29)).alloc (.cells #[.int .i64 n3, .int .i64 d3] 29)) w1) :
  w1.cell? ⟨w.heap.size, 0, none⟩ = some (.int .i64 n1) /\ w1.cell? ⟨w.heap.size, 1, none⟩ = some (.int .i64 d1) /\ w1.cell? ⟨w.heap.size + 1, 0, none⟩ = some (.int .i64 n2) /\ w1.cell? ⟨w.heap.size + 1, 1, none⟩ = some (.int .i64 d2) /\
  w1.cell? ⟨w.heap.size + 2, 0, none⟩ = some (.int .i64 n3) /\ w1.cell? ⟨w.heap.size + 2, 1, none⟩ = some (.int .i64 d3) /\ w1.frozen? ⟨w.heap.size + 2, 0, none⟩ = false /\ w1.frozen? ⟨w.heap.size + 2, 1, none⟩ = false /\ w.heap.size + 3 <= w1.heap.size := by
 have s := h.size
 simp at s
 refine ⟨?_, ?_, ?_, ?_, ?_, ?_, ?_, ?_, by omega⟩
 ·rw [h.cell (p := ⟨w.heap.size, 0, none⟩) (show w.heap.size < w.heap.size + 3 by omega)]; go_cell
 ·rw [h.cell (p := ⟨w.heap.size, 1, none⟩) (show w.heap.size < w.heap.size + 3 by omega)]; go_cell
 ·rw [h.cell (p := ⟨w.heap.size + 1, 0, none⟩) (show w.heap.size + 1 < w.heap.size + 3 by omega)]; go_cell
 ·rw [h.cell (p := ⟨w.heap.size + 1, 1, none⟩) (show w.heap.size + 1 < w.heap.size + 3 by omega)]; go_cell
 ·rw [h.cell (p := ⟨w.heap.size + 2, 0, none⟩) (show w.heap.size + 2 < w.heap.size + 3 by omega)]; go_cell
 ·rw [h.cell (p := ⟨w.heap.size + 2, 1, none⟩) (show w.heap.size + 2 < w.heap.size + 3 by omega)]; go_cell
 ·rw [h.frozen (p := ⟨w.heap.size + 2, 0, none⟩) (show w.heap.size + 2 < w.heap.size + 3 by omega)]; go_cell
 ·rw [h.frozen (p := ⟨w.heap.size + 2, 1, none⟩) (show w.heap.size + 2 < w.heap.size + 3 by omega)]; go_cell
theorem below3 (w : World) (a b c : Obj) : Below w.heap.size w (((w.alloc a).alloc b).alloc c) := (((Below.refl _ _).alloc (Nat.le_refl _) _).alloc (by simp) _).alloc (by simp; omega) _
/-- Both operands are valid fractions. -/
def both (n1 d1 n2 d2 : Int) : Bool := vld n1 d1 && vld n2 d2
end Go.Proofs.YteaaikmejacpaaaGreatDoor.Fr
