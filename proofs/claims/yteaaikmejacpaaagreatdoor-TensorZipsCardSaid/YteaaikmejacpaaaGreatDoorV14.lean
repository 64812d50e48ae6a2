/- The operators of the reference on fixed-point numbers. -/
import Derived.Test.YteaaikmejacpaaaGreatDoorR0
import Derived.Test.YteaaikmejacpaaaGreatDoorR17
import Derived.Test.YteaaikmejacpaaaGreatDoorR11
import Derived.IntWalk

namespace Go.Proofs.YteaaikmejacpaaaGreatDoor.Va
open Go.ChangeShapes Go.WideShapes Go.ChangeAt Go.RowKit
open Fr Fx
set_option maxRecDepth 8000
set_option linter.unusedVariables false
set_option linter.unusedSimpArgs false
set_option maxRecDepth 8000
theorem rr_add {n1 d1 n2 d2 : Int} (v1 : vld n1 d1 = true) (v2 : vld n2 d2 = true) (w : World) : Calls Tryz.prog 95 #[V2 n1 d1, V2 n2 d2] w (Ret (F3 (nw (n1 * d2 + n2 * d1) (d1 * d2))) w) := by
 obtain ⟨x0, x1, x2, x3, _⟩ := vld_of v1
 obtain ⟨y0, y1, y2, y3, _⟩ := vld_of v2
 obtain ⟨a0, a1⟩ := prod_bound x2 x3 (b := d2) (by omega) y1
 obtain ⟨b0, b1⟩ := prod_bound y2 y3 (b := d1) (by omega) x1
 obtain ⟨c0, c1⟩ := prod_bound (a := d1) (b := d2) (by omega) x1 (by omega) y1
 exact radd_ok n1 d1 n2 d2 w (both_of v1 v2) rfl rfl rfl a0 a1 b0 b1 c0 c1
theorem rr_sub {n1 d1 n2 d2 : Int} (v1 : vld n1 d1 = true) (v2 : vld n2 d2 = true) (w : World) : Calls Tryz.prog 96 #[V2 n1 d1, V2 n2 d2] w (Ret (F3 (nw (n1 * d2 - n2 * d1) (d1 * d2))) w) := by
 obtain ⟨x0, x1, x2, x3, _⟩ := vld_of v1
 obtain ⟨y0, y1, y2, y3, _⟩ := vld_of v2
 obtain ⟨a0, a1⟩ := prod_bound x2 x3 (b := d2) (by omega) y1
 obtain ⟨b0, b1⟩ := prod_bound y2 y3 (b := d1) (by omega) x1
 obtain ⟨c0, c1⟩ := prod_bound (a := d1) (b := d2) (by omega) x1 (by omega) y1
 exact rsub_ok n1 d1 n2 d2 w (both_of v1 v2) rfl rfl rfl a0 a1 b0 b1 c0 c1
theorem rr_mul {n1 d1 n2 d2 : Int} (v1 : vld n1 d1 = true) (v2 : vld n2 d2 = true) (w : World) : Calls Tryz.prog 97 #[V2 n1 d1, V2 n2 d2] w (Ret (F3 (nw (n1 * n2) (d1 * d2))) w) := by
 obtain ⟨x0, x1, x2, x3, _⟩ := vld_of v1
 obtain ⟨y0, y1, y2, y3, _⟩ := vld_of v2
 obtain ⟨a0, a1⟩ := prod_bound2 x2 x3 y2 y3
 obtain ⟨c0, c1⟩ := prod_bound (a := d1) (b := d2) (by omega) x1 (by omega) y1
 exact rmul_ok n1 d1 n2 d2 w (both_of v1 v2) rfl rfl a0 a1 c0 c1
theorem rr_div {n1 d1 n2 d2 : Int} (v1 : vld n1 d1 = true) (v2 : vld n2 d2 = true) (w : World) : Calls Tryz.prog 98 #[V2 n1 d1, V2 n2 d2] w (Ret (F3 (nw (n1 * d2) (d1 * n2))) w) := by
 obtain ⟨x0, x1, x2, x3, _⟩ := vld_of v1
 obtain ⟨y0, y1, y2, y3, _⟩ := vld_of v2
 obtain ⟨a0, a1⟩ := prod_bound x2 x3 (b := d2) (by omega) y1
 obtain ⟨c0, c1⟩ := prod_bound2 (a := d1) (b := n2) (by omega) x1 y2 y3
 exact rdiv_ok n1 d1 n2 d2 w (both_of v1 v2) rfl rfl a0 a1 c0 c1
theorem rr_neg {n1 d1 : Int} (v1 : vld n1 d1 = true) (w : World) : Calls Tryz.prog 99 #[V2 n1 d1] w (Ret (V2 (-n1) d1) w) := by
 have := Fr.rneg_any n1 d1 w
 unfold ngN ngD at this
 rw [v1] at this
 exact this
theorem rr_cmp {n1 d1 n2 d2 : Int} (v1 : vld n1 d1 = true) (v2 : vld n2 d2 = true) (w : World) : Calls Tryz.prog 116 #[V2 n1 d1, V2 n2 d2] w (Ret (.int .i64 (cmpv (n1 * d2) (n2 * d1))) w) := by
 obtain ⟨x0, x1, x2, x3, _⟩ := vld_of v1
 obtain ⟨y0, y1, y2, y3, _⟩ := vld_of v2
 obtain ⟨a0, a1⟩ := prod_bound x2 x3 (b := d2) (by omega) y1
 obtain ⟨b0, b1⟩ := prod_bound y2 y3 (b := d1) (by omega) x1
 have := rcmp_ok n1 d1 n2 d2 _ _ w (both_of v1 v2) rfl rfl a0 a1 b0 b1
 unfold cmpr at this
 rw [if_pos (both_of v1 v2)] at this
 exact this
set_option maxHeartbeats 8000000 in
theorem r_fix6 (K B F R O a b p T q : Int) (w : World) (SP : Hid (∀ w, Calls Tryz.prog 119 #[T5 K B F R O] w (Ret (.int .i64 p) w)))
  (RO : Hid (∀ w, Calls Tryz.prog 118 #[.int .i64 (IntKind.i64.wrap (a * b)), .int .i64 p, .int .i64 R] w fun e w' => e = .returned (.int .i64 T) /\ w = w')) (FT : Hid (∀ w, Calls Tryz.prog 117 #[T5 K B F R O, .int .i64 T] w (Ret (V2 q 1) w))) :
  Calls Tryz.prog 93 #[.int .i64 6, T5 K B F R O, .int .i64 a, .int .i64 b] w (Ret (Frac3 q 1 0) w) := by
 go_enter Tryz.func93, Tryz.ntmps93
 go_wp2_with fail
 have hz : ((w.alloc (.cells #[.int .i64 K, .int .i64 B, .int .i64 F, .int .i64 R, .int .i64 O] 23)).alloc (.cells #[.int .i64 0, .int .i64 0] 29)).cell? ⟨w.heap.size, 0, none⟩ = some (.int .i64 K) /\ ((w.alloc (.cells #[.int .i64 K, .int .i64 B, .int .i64 F, .int .i64 R, .int .i64 O] 23)).alloc (.cells #[.int .i64 0, .int .i64 0] 29)).cell? ⟨w.heap.size, 1, none⟩ = some (.int .i64 B) /\ ((w.alloc (.cells #[.int .i64 K, .int .i64 B, .int .i64 F, .int .i64 R, .int .i64 O] 23)).alloc (.cells #[.int .i64 0, .int .i64 0] 29)).cell? ⟨w.heap.size, 2, none⟩ = some (.int .i64 F) /\ ((w.alloc (.cells #[.int .i64 K, .int .i64 B, .int .i64 F, .int .i64 R, .int .i64 O] 23)).alloc (.cells #[.int .i64 0, .int .i64 0] 29)).cell? ⟨w.heap.size, 3, none⟩ = some (.int .i64 R) /\ ((w.alloc (.cells #[.int .i64 K, .int .i64 B, .int .i64 F, .int .i64 R, .int .i64 O] 23)).alloc (.cells #[.int .i64 0, .int .i64 0] 29)).cell? ⟨w.heap.size, 4, none⟩ = some (.int .i64 O) /\ ((w.alloc (.cells #[.int .i64 K, .int .i64 B, .int .i64 F, .int .i64 R, .int .i64 O] 23)).alloc (.cells #[.int .i64 0, .int .i64 0] 29)).cell? ⟨w.heap.size + 1, 0, none⟩ = some (.int .i64 0) /\ ((w.alloc (.cells #[.int .i64 K, .int .i64 B, .int .i64 F, .int .i64 R, .int .i64 O] 23)).alloc (.cells #[.int .i64 0, .int .i64 0] 29)).cell? ⟨w.heap.size + 1, 1, none⟩ = some (.int .i64 0) /\ ((w.alloc (.cells #[.int .i64 K, .int .i64 B, .int .i64 F, .int .i64 R, .int .i64 O] 23)).alloc (.cells #[.int .i64 0, .int .i64 0] 29)).frozen? ⟨w.heap.size + 1, 0, none⟩ = false /\ ((w.alloc (.cells #[.int .i64 K, .int .i64 B, .int .i64 F, .int .i64 R, .int .i64 O] 23)).alloc (.cells #[.int .i64 0, .int .i64 0] 29)).frozen? ⟨w.heap.size + 1, 1, none⟩ = false /\ Below w.heap.size w ((w.alloc (.cells #[.int .i64 K, .int .i64 B, .int .i64 F, .int .i64 R, .int .i64 O] 23)).alloc (.cells #[.int .i64 0, .int .i64 0] 29)) := ⟨(by go_cell), (by go_cell), (by go_cell), (by go_cell), (by go_cell), (by go_cell), (by go_cell), (by simp only [frozen?_alloc_cells]; exact Rg.notFrozen (by omega)), (by simp only [frozen?_alloc_cells]; exact Rg.notFrozen (by omega)), by go_grown⟩
 generalize ((w.alloc (.cells #[.int .i64 K, .int .i64 B, .int .i64 F, .int .i64 R, .int .i64 O] 23)).alloc (.cells #[.int .i64 0, .int .i64 0] 29)) = z at *
 have HS : Hid (∀ u u' : World, (u.cell? ⟨w.heap.size, 0, none⟩ = some (.int .i64 K) /\ u.cell? ⟨w.heap.size, 1, none⟩ = some (.int .i64 B) /\ u.cell? ⟨w.heap.size, 2, none⟩ = some (.int .i64 F) /\ u.cell? ⟨w.heap.size, 3, none⟩ = some (.int .i64 R) /\ u.cell? ⟨w.heap.size, 4, none⟩ = some (.int .i64 O) /\ u.cell? ⟨w.heap.size + 1, 0, none⟩ = some (.int .i64 0) /\ u.cell? ⟨w.heap.size + 1, 1, none⟩ = some (.int .i64 0) /\ u.frozen? ⟨w.heap.size + 1, 0, none⟩ = false /\ u.frozen? ⟨w.heap.size + 1, 1, none⟩ = false /\ Below w.heap.size w u) -> Below u.heap.size u u' -> (u'.cell? ⟨w.heap.size, 0, none⟩ = some (.int .i64 K) /\ u'.cell? ⟨w.heap.size, 1, none⟩ = some (.int .i64 B) /\ u'.cell? ⟨w.heap.size, 2, none⟩ = some (.int .i64 F) /\ u'.cell? ⟨w.heap.size, 3, none⟩ = some (.int .i64 R) /\ u'.cell? ⟨w.heap.size, 4, none⟩ = some (.int .i64 O) /\ u'.cell? ⟨w.heap.size + 1, 0, none⟩ = some (.int .i64 0) /\ u'.cell? ⟨w.heap.size + 1, 1, none⟩ = some (.int .i64 0) /\ u'.frozen? ⟨w.heap.size + 1, 0, none⟩ = false /\ u'.frozen? ⟨w.heap.size + 1, 1, none⟩ = false /\ Below w.heap.size w u')) := Lib.hid (fun u u' h hb => ⟨Rg.keep hb (World.block_lt_of_cell? _ _ h.1) h.1, Rg.keep hb (World.block_lt_of_cell? _ _ h.2.1) h.2.1, Rg.keep hb (World.block_lt_of_cell? _ _ h.2.2.1) h.2.2.1, Rg.keep hb (World.block_lt_of_cell? _ _ h.2.2.2.1) h.2.2.2.1, Rg.keep hb (World.block_lt_of_cell? _ _ h.2.2.2.2.1) h.2.2.2.2.1, Rg.keep hb (World.block_lt_of_cell? _ _ h.2.2.2.2.2.1) h.2.2.2.2.2.1, Rg.keep hb (World.block_lt_of_cell? _ _ h.2.2.2.2.2.2.1) h.2.2.2.2.2.2.1, Rg.keepF hb (World.block_lt_of_cell? _ _ h.2.2.2.2.2.1) h.2.2.2.2.2.2.2.1, Rg.keepF hb (World.block_lt_of_cell? _ _ h.2.2.2.2.2.1) h.2.2.2.2.2.2.2.2.1, h.2.2.2.2.2.2.2.2.2.trans (hb.mono h.2.2.2.2.2.2.2.2.2.size)⟩)
 refine Rk.begin (S := fun wS => wS.cell? ⟨w.heap.size, 0, none⟩ = some (.int .i64 K) /\ wS.cell? ⟨w.heap.size, 1, none⟩ = some (.int .i64 B) /\ wS.cell? ⟨w.heap.size, 2, none⟩ = some (.int .i64 F) /\ wS.cell? ⟨w.heap.size, 3, none⟩ = some (.int .i64 R) /\ wS.cell? ⟨w.heap.size, 4, none⟩ = some (.int .i64 O) /\ wS.cell? ⟨w.heap.size + 1, 0, none⟩ = some (.int .i64 0) /\ wS.cell? ⟨w.heap.size + 1, 1, none⟩ = some (.int .i64 0) /\ wS.frozen? ⟨w.heap.size + 1, 0, none⟩ = false /\ wS.frozen? ⟨w.heap.size + 1, 1, none⟩ = false /\ Below w.heap.size w wS) 10 (by kernel_rfl) (HS.out _ _ hz (Below.drew (Below.refl _ _))) (fun hHeld => ?_)
 refine SqR.l [10] 0 ?_
 refine SqR.p 1 ?_
 refine SqR.p 2 ?_
 refine SqR.p 3 ?_
 refine SqR.l [10] 4 ?_
 refine SqR.p 6 ?_
 refine SqR.l [10] 7 ?_
 refine Rk.one (i := 5) (by kernel_rfl) rfl (fun KK hK => ?_)
 rw [if_pos (by kernel_rfl)]
 go_simp
 ((with_reducible refine (SP.out _).mono ?_); rintro e u ⟨rfl, hb⟩)
 first | (refine hK.out _ _ (fun _ => HS.out _ _ hHeld hb) (fun hHeld => ?_)) | (refine hK.out _ _ (HS.out _ _ hHeld hb) (fun hHeld => ?_)) | (go_wp2_with fail; refine hK.out _ _ (HS.out _ _ hHeld hb) (fun hHeld => ?_))
 clear hK KK
 refine Rk.one (i := 8) (by kernel_rfl) rfl (fun KK hK => ?_)
 rw [if_pos (by kernel_rfl)]
 go_simp
 ((with_reducible refine (RO.out _).mono ?_); rintro e u9 ⟨rfl, rfl⟩)
 first | (refine hK.out _ _ (fun _ => hHeld) (fun hHeld => ?_)) | (refine hK.out _ _ hHeld (fun hHeld => ?_)) | (go_wp2_with fail; refine hK.out _ _ hHeld (fun hHeld => ?_))
 clear hK KK
 refine Rk.one (i := 9) (by kernel_rfl) rfl (fun KK hK => ?_)
 rw [if_pos (by kernel_rfl)]
 go_simp
 ((with_reducible refine (FT.out _).mono ?_); rintro e u ⟨rfl, hb⟩)
 first | (refine hK.out _ _ (fun _ => HS.out _ _ hHeld hb) (fun hHeld => ?_)) | (refine hK.out _ _ (HS.out _ _ hHeld hb) (fun hHeld => ?_)) | (go_wp2_with fail; refine hK.out _ _ (HS.out _ _ hHeld hb) (fun hHeld => ?_))
 clear hK KK
 refine Rk.tail [10, 11] [_, _] (by kernel_rfl) (by kernel_rfl) rfl (by decide) ?_
 obtain ⟨t0, t1, t2, t3, t4, r0, r1, fr0, fr1, K1⟩ := hHeld
 clear hz HS
 have q1 : w.heap.size + 1 < u.heap.size := World.block_lt_of_cell? _ _ r0
 go_wp2
 refine bodyPost_ret (v := Frac3 q 1 0) (by simp [results, Tryz.results93, go_sem, r0, r1, fr0, fr1, q1]) rfl ⟨rfl, ?_⟩; exact SqB.b
set_option maxHeartbeats 8000000 in
theorem r_fix7p (K B F R O a b p T q : Int) (w : World) (h0 : (b == 0) = false) (h1 : decide (b < 0) = false) (SP : Hid (∀ w, Calls Tryz.prog 119 #[T5 K B F R O] w (Ret (.int .i64 p) w)))
  (RO : Hid (∀ w, Calls Tryz.prog 118 #[.int .i64 (IntKind.i64.wrap (a * p)), .int .i64 b, .int .i64 R] w fun e w' => e = .returned (.int .i64 T) /\ w = w')) (FT : Hid (∀ w, Calls Tryz.prog 117 #[T5 K B F R O, .int .i64 T] w (Ret (V2 q 1) w))) :
  Calls Tryz.prog 93 #[.int .i64 7, T5 K B F R O, .int .i64 a, .int .i64 b] w (Ret (Frac3 q 1 0) w) := by
 go_enter Tryz.func93, Tryz.ntmps93
 go_wp2_with fail
 have hz : ((w.alloc (.cells #[.int .i64 K, .int .i64 B, .int .i64 F, .int .i64 R, .int .i64 O] 23)).alloc (.cells #[.int .i64 0, .int .i64 0] 29)).cell? ⟨w.heap.size, 0, none⟩ = some (.int .i64 K) /\ ((w.alloc (.cells #[.int .i64 K, .int .i64 B, .int .i64 F, .int .i64 R, .int .i64 O] 23)).alloc (.cells #[.int .i64 0, .int .i64 0] 29)).cell? ⟨w.heap.size, 1, none⟩ = some (.int .i64 B) /\ ((w.alloc (.cells #[.int .i64 K, .int .i64 B, .int .i64 F, .int .i64 R, .int .i64 O] 23)).alloc (.cells #[.int .i64 0, .int .i64 0] 29)).cell? ⟨w.heap.size, 2, none⟩ = some (.int .i64 F) /\ ((w.alloc (.cells #[.int .i64 K, .int .i64 B, .int .i64 F, .int .i64 R, .int .i64 O] 23)).alloc (.cells #[.int .i64 0, .int .i64 0] 29)).cell? ⟨w.heap.size, 3, none⟩ = some (.int .i64 R) /\ ((w.alloc (.cells #[.int .i64 K, .int .i64 B, .int .i64 F, .int .i64 R, .int .i64 O] 23)).alloc (.cells #[.int .i64 0, .int .i64 0] 29)).cell? ⟨w.heap.size, 4, none⟩ = some (.int .i64 O) /\ ((w.alloc (.cells #[.int .i64 K, .int .i64 B, .int .i64 F, .int .i64 R, .int .i64 O] 23)).alloc (.cells #[.int .i64 0, .int .i64 0] 29)).cell? ⟨w.heap.size + 1, 0, none⟩ = some (.int .i64 0) /\ ((w.alloc (.cells #[.int .i64 K, .int .i64 B, .int .i64 F, .int .i64 R, .int .i64 O] 23)).alloc (.cells #[.int .i64 0, .int .i64 0] 29)).cell? ⟨w.heap.size + 1, 1, none⟩ = some (.int .i64 0) /\ ((w.alloc (.cells #[.int .i64 K, .int .i64 B, .int .i64 F, .int .i64 R, .int .i64 O] 23)).alloc (.cells #[.int .i64 0, .int .i64 0] 29)).frozen? ⟨w.heap.size + 1, 0, none⟩ = false /\ ((w.alloc (.cells #[.int .i64 K, .int .i64 B, .int .i64 F, .int .i64 R, .int .i64 O] 23)).alloc (.cells #[.int .i64 0, .int .i64 0] 29)).frozen? ⟨w.heap.size + 1, 1, none⟩ = false /\ Below w.heap.size w ((w.alloc (.cells #[.int .i64 K, .int .i64 B, .int .i64 F, .int .i64 R, .int .i64 O] 23)).alloc (.cells #[.int .i64 0, .int .i64 0] 29)) := ⟨(by go_cell), (by go_cell), (by go_cell), (by go_cell), (by go_cell), (by go_cell), (by go_cell), (by simp only [frozen?_alloc_cells]; exact Rg.notFrozen (by omega)), (by simp only [frozen?_alloc_cells]; exact Rg.notFrozen (by omega)), by go_grown⟩
 generalize ((w.alloc (.cells #[.int .i64 K, .int .i64 B, .int .i64 F, .int .i64 R, .int .i64 O] 23)).alloc (.cells #[.int .i64 0, .int .i64 0] 29)) = z at *
 have HS : Hid (∀ u u' : World, (u.cell? ⟨w.heap.size, 0, none⟩ = some (.int .i64 K) /\ u.cell? ⟨w.heap.size, 1, none⟩ = some (.int .i64 B) /\ u.cell? ⟨w.heap.size, 2, none⟩ = some (.int .i64 F) /\ u.cell? ⟨w.heap.size, 3, none⟩ = some (.int .i64 R) /\ u.cell? ⟨w.heap.size, 4, none⟩ = some (.int .i64 O) /\ u.cell? ⟨w.heap.size + 1, 0, none⟩ = some (.int .i64 0) /\ u.cell? ⟨w.heap.size + 1, 1, none⟩ = some (.int .i64 0) /\ u.frozen? ⟨w.heap.size + 1, 0, none⟩ = false /\ u.frozen? ⟨w.heap.size + 1, 1, none⟩ = false /\ Below w.heap.size w u) -> Below u.heap.size u u' -> (u'.cell? ⟨w.heap.size, 0, none⟩ = some (.int .i64 K) /\ u'.cell? ⟨w.heap.size, 1, none⟩ = some (.int .i64 B) /\ u'.cell? ⟨w.heap.size, 2, none⟩ = some (.int .i64 F) /\ u'.cell? ⟨w.heap.size, 3, none⟩ = some (.int .i64 R) /\ u'.cell? ⟨w.heap.size, 4, none⟩ = some (.int .i64 O) /\ u'.cell? ⟨w.heap.size + 1, 0, none⟩ = some (.int .i64 0) /\ u'.cell? ⟨w.heap.size + 1, 1, none⟩ = some (.int .i64 0) /\ u'.frozen? ⟨w.heap.size + 1, 0, none⟩ = false /\ u'.frozen? ⟨w.heap.size + 1, 1, none⟩ = false /\ Below w.heap.size w u')) := Lib.hid (fun u u' h hb => ⟨Rg.keep hb (World.block_lt_of_cell? _ _ h.1) h.1, Rg.keep hb (World.block_lt_of_cell? _ _ h.2.1) h.2.1, Rg.keep hb (World.block_lt_of_cell? _ _ h.2.2.1) h.2.2.1, Rg.keep hb (World.block_lt_of_cell? _ _ h.2.2.2.1) h.2.2.2.1, Rg.keep hb (World.block_lt_of_cell? _ _ h.2.2.2.2.1) h.2.2.2.2.1, Rg.keep hb (World.block_lt_of_cell? _ _ h.2.2.2.2.2.1) h.2.2.2.2.2.1, Rg.keep hb (World.block_lt_of_cell? _ _ h.2.2.2.2.2.2.1) h.2.2.2.2.2.2.1, Rg.keepF hb (World.block_lt_of_cell? _ _ h.2.2.2.2.2.1) h.2.2.2.2.2.2.2.1, Rg.keepF hb (World.block_lt_of_cell? _ _ h.2.2.2.2.2.1) h.2.2.2.2.2.2.2.2.1, h.2.2.2.2.2.2.2.2.2.trans (hb.mono h.2.2.2.2.2.2.2.2.2.size)⟩)
 refine Rk.begin (S := fun wS => wS.cell? ⟨w.heap.size, 0, none⟩ = some (.int .i64 K) /\ wS.cell? ⟨w.heap.size, 1, none⟩ = some (.int .i64 B) /\ wS.cell? ⟨w.heap.size, 2, none⟩ = some (.int .i64 F) /\ wS.cell? ⟨w.heap.size, 3, none⟩ = some (.int .i64 R) /\ wS.cell? ⟨w.heap.size, 4, none⟩ = some (.int .i64 O) /\ wS.cell? ⟨w.heap.size + 1, 0, none⟩ = some (.int .i64 0) /\ wS.cell? ⟨w.heap.size + 1, 1, none⟩ = some (.int .i64 0) /\ wS.frozen? ⟨w.heap.size + 1, 0, none⟩ = false /\ wS.frozen? ⟨w.heap.size + 1, 1, none⟩ = false /\ Below w.heap.size w wS) 10 (by kernel_rfl) (HS.out _ _ hz (Below.drew (Below.refl _ _))) (fun hHeld => ?_)
 refine SqR.l [10] 0 ?_
 refine SqR.p 1 ?_
 refine SqR.l [10] 2 ?_
 refine SqR.p 5 ?_
 refine SqR.p 6 ?_
 refine SqR.l [10] 7 ?_
 refine Rk.one (i := 3) (by kernel_rfl) rfl (fun KK hK => ?_)
 rw [if_pos (by kernel_rfl)]
 go_simp
 ((with_reducible refine (SP.out _).mono ?_); rintro e u ⟨rfl, hb⟩)
 first | (refine hK.out _ _ (fun _ => HS.out _ _ hHeld hb) (fun hHeld => ?_)) | (refine hK.out _ _ (HS.out _ _ hHeld hb) (fun hHeld => ?_)) | (go_wp2_with fail; refine hK.out _ _ (HS.out _ _ hHeld hb) (fun hHeld => ?_))
 clear hK KK
 refine SqR.p 4 ?_
 refine Rk.one (i := 8) (by kernel_rfl) rfl (fun KK hK => ?_)
 rw [if_pos (by kernel_rfl)]
 go_simp
 ((with_reducible refine (RO.out _).mono ?_); rintro e u9 ⟨rfl, rfl⟩)
 first | (refine hK.out _ _ (fun _ => hHeld) (fun hHeld => ?_)) | (refine hK.out _ _ hHeld (fun hHeld => ?_)) | (go_wp2_with fail; refine hK.out _ _ hHeld (fun hHeld => ?_))
 clear hK KK
 refine Rk.one (i := 9) (by kernel_rfl) rfl (fun KK hK => ?_)
 rw [if_pos (by kernel_rfl)]
 go_simp
 ((with_reducible refine (FT.out _).mono ?_); rintro e u ⟨rfl, hb⟩)
 first | (refine hK.out _ _ (fun _ => HS.out _ _ hHeld hb) (fun hHeld => ?_)) | (refine hK.out _ _ (HS.out _ _ hHeld hb) (fun hHeld => ?_)) | (go_wp2_with fail; refine hK.out _ _ (HS.out _ _ hHeld hb) (fun hHeld => ?_))
 clear hK KK
 refine Rk.tail [10, 11] [_, _] (by kernel_rfl) (by kernel_rfl) rfl (by decide) ?_
 obtain ⟨t0, t1, t2, t3, t4, r0, r1, fr0, fr1, K1⟩ := hHeld
 clear hz HS
 have q1 : w.heap.size + 1 < u.heap.size := World.block_lt_of_cell? _ _ r0
 go_wp2
 refine bodyPost_ret (v := Frac3 q 1 0) (by simp [results, Tryz.results93, go_sem, r0, r1, fr0, fr1, q1]) rfl ⟨rfl, ?_⟩; exact SqB.b
set_option maxHeartbeats 8000000 in
theorem r_fix7n (K B F R O a b a' b' p T q : Int) (w : World) (h0 : (b == 0) = false) (h1 : decide (b < 0) = true) (ha : -a = a') (hb : -b = b') (a0 : -4611686018427387904 <= a) (a1 : a <= 4611686018427387904) (c0 : -4611686018427387904 <= b) (c1 : b <= 4611686018427387904) (SP : Hid (∀ w, Calls Tryz.prog 119 #[T5 K B F R O] w (Ret (.int .i64 p) w)))
  (RO : Hid (∀ w, Calls Tryz.prog 118 #[.int .i64 (IntKind.i64.wrap (a' * p)), .int .i64 b', .int .i64 R] w fun e w' => e = .returned (.int .i64 T) /\ w = w')) (FT : Hid (∀ w, Calls Tryz.prog 117 #[T5 K B F R O, .int .i64 T] w (Ret (V2 q 1) w))) :
  Calls Tryz.prog 93 #[.int .i64 7, T5 K B F R O, .int .i64 a, .int .i64 b] w (Ret (Frac3 q 1 0) w) := by
 go_enter Tryz.func93, Tryz.ntmps93
 go_wp2_with fail
 have hz : ((w.alloc (.cells #[.int .i64 K, .int .i64 B, .int .i64 F, .int .i64 R, .int .i64 O] 23)).alloc (.cells #[.int .i64 0, .int .i64 0] 29)).cell? ⟨w.heap.size, 0, none⟩ = some (.int .i64 K) /\ ((w.alloc (.cells #[.int .i64 K, .int .i64 B, .int .i64 F, .int .i64 R, .int .i64 O] 23)).alloc (.cells #[.int .i64 0, .int .i64 0] 29)).cell? ⟨w.heap.size, 1, none⟩ = some (.int .i64 B) /\ ((w.alloc (.cells #[.int .i64 K, .int .i64 B, .int .i64 F, .int .i64 R, .int .i64 O] 23)).alloc (.cells #[.int .i64 0, .int .i64 0] 29)).cell? ⟨w.heap.size, 2, none⟩ = some (.int .i64 F) /\ ((w.alloc (.cells #[.int .i64 K, .int .i64 B, .int .i64 F, .int .i64 R, .int .i64 O] 23)).alloc (.cells #[.int .i64 0, .int .i64 0] 29)).cell? ⟨w.heap.size, 3, none⟩ = some (.int .i64 R) /\ ((w.alloc (.cells #[.int .i64 K, .int .i64 B, .int .i64 F, .int .i64 R, .int .i64 O] 23)).alloc (.cells #[.int .i64 0, .int .i64 0] 29)).cell? ⟨w.heap.size, 4, none⟩ = some (.int .i64 O) /\ ((w.alloc (.cells #[.int .i64 K, .int .i64 B, .int .i64 F, .int .i64 R, .int .i64 O] 23)).alloc (.cells #[.int .i64 0, .int .i64 0] 29)).cell? ⟨w.heap.size + 1, 0, none⟩ = some (.int .i64 0) /\ ((w.alloc (.cells #[.int .i64 K, .int .i64 B, .int .i64 F, .int .i64 R, .int .i64 O] 23)).alloc (.cells #[.int .i64 0, .int .i64 0] 29)).cell? ⟨w.heap.size + 1, 1, none⟩ = some (.int .i64 0) /\ ((w.alloc (.cells #[.int .i64 K, .int .i64 B, .int .i64 F, .int .i64 R, .int .i64 O] 23)).alloc (.cells #[.int .i64 0, .int .i64 0] 29)).frozen? ⟨w.heap.size + 1, 0, none⟩ = false /\ ((w.alloc (.cells #[.int .i64 K, .int .i64 B, .int .i64 F, .int .i64 R, .int .i64 O] 23)).alloc (.cells #[.int .i64 0, .int .i64 0] 29)).frozen? ⟨w.heap.size + 1, 1, none⟩ = false /\ Below w.heap.size w ((w.alloc (.cells #[.int .i64 K, .int .i64 B, .int .i64 F, .int .i64 R, .int .i64 O] 23)).alloc (.cells #[.int .i64 0, .int .i64 0] 29)) := ⟨(by go_cell), (by go_cell), (by go_cell), (by go_cell), (by go_cell), (by go_cell), (by go_cell), (by simp only [frozen?_alloc_cells]; exact Rg.notFrozen (by omega)), (by simp only [frozen?_alloc_cells]; exact Rg.notFrozen (by omega)), by go_grown⟩
 generalize ((w.alloc (.cells #[.int .i64 K, .int .i64 B, .int .i64 F, .int .i64 R, .int .i64 O] 23)).alloc (.cells #[.int .i64 0, .int .i64 0] 29)) = z at *
 have HS : Hid (∀ u u' : World, (u.cell? ⟨w.heap.size, 0, none⟩ = some (.int .i64 K) /\ u.cell? ⟨w.heap.size, 1, none⟩ = some (.int .i64 B) /\ u.cell? ⟨w.heap.size, 2, none⟩ = some (.int .i64 F) /\ u.cell? ⟨w.heap.size, 3, none⟩ = some (.int .i64 R) /\ u.cell? ⟨w.heap.size, 4, none⟩ = some (.int .i64 O) /\ u.cell? ⟨w.heap.size + 1, 0, none⟩ = some (.int .i64 0) /\ u.cell? ⟨w.heap.size + 1, 1, none⟩ = some (.int .i64 0) /\ u.frozen? ⟨w.heap.size + 1, 0, none⟩ = false /\ u.frozen? ⟨w.heap.size + 1, 1, none⟩ = false /\ Below w.heap.size w u) -> Below u.heap.size u u' -> (u'.cell? ⟨w.heap.size, 0, none⟩ = some (.int .i64 K) /\ u'.cell? ⟨w.heap.size, 1, none⟩ = some (.int .i64 B) /\ u'.cell? ⟨w.heap.size, 2, none⟩ = some (.int .i64 F) /\ u'.cell? ⟨w.heap.size, 3, none⟩ = some (.int .i64 R) /\ u'.cell? ⟨w.heap.size, 4, none⟩ = some (.int .i64 O) /\ u'.cell? ⟨w.heap.size + 1, 0, none⟩ = some (.int .i64 0) /\ u'.cell? ⟨w.heap.size + 1, 1, none⟩ = some (.int .i64 0) /\ u'.frozen? ⟨w.heap.size + 1, 0, none⟩ = false /\ u'.frozen? ⟨w.heap.size + 1, 1, none⟩ = false /\ Below w.heap.size w u')) := Lib.hid (fun u u' h hb => ⟨Rg.keep hb (World.block_lt_of_cell? _ _ h.1) h.1, Rg.keep hb (World.block_lt_of_cell? _ _ h.2.1) h.2.1, Rg.keep hb (World.block_lt_of_cell? _ _ h.2.2.1) h.2.2.1, Rg.keep hb (World.block_lt_of_cell? _ _ h.2.2.2.1) h.2.2.2.1, Rg.keep hb (World.block_lt_of_cell? _ _ h.2.2.2.2.1) h.2.2.2.2.1, Rg.keep hb (World.block_lt_of_cell? _ _ h.2.2.2.2.2.1) h.2.2.2.2.2.1, Rg.keep hb (World.block_lt_of_cell? _ _ h.2.2.2.2.2.2.1) h.2.2.2.2.2.2.1, Rg.keepF hb (World.block_lt_of_cell? _ _ h.2.2.2.2.2.1) h.2.2.2.2.2.2.2.1, Rg.keepF hb (World.block_lt_of_cell? _ _ h.2.2.2.2.2.1) h.2.2.2.2.2.2.2.2.1, h.2.2.2.2.2.2.2.2.2.trans (hb.mono h.2.2.2.2.2.2.2.2.2.size)⟩)
 refine Rk.begin (S := fun wS => wS.cell? ⟨w.heap.size, 0, none⟩ = some (.int .i64 K) /\ wS.cell? ⟨w.heap.size, 1, none⟩ = some (.int .i64 B) /\ wS.cell? ⟨w.heap.size, 2, none⟩ = some (.int .i64 F) /\ wS.cell? ⟨w.heap.size, 3, none⟩ = some (.int .i64 R) /\ wS.cell? ⟨w.heap.size, 4, none⟩ = some (.int .i64 O) /\ wS.cell? ⟨w.heap.size + 1, 0, none⟩ = some (.int .i64 0) /\ wS.cell? ⟨w.heap.size + 1, 1, none⟩ = some (.int .i64 0) /\ wS.frozen? ⟨w.heap.size + 1, 0, none⟩ = false /\ wS.frozen? ⟨w.heap.size + 1, 1, none⟩ = false /\ Below w.heap.size w wS) 10 (by kernel_rfl) (HS.out _ _ hz (Below.drew (Below.refl _ _))) (fun hHeld => ?_)
 refine SqR.l [10] 0 ?_
 refine SqR.p 1 ?_
 refine SqR.l [10] 2 ?_
 refine SqR.p 5 ?_
 refine SqR.p 6 ?_
 refine SqR.l [10] 7 ?_
 refine Rk.one (i := 3) (by kernel_rfl) rfl (fun KK hK => ?_)
 rw [if_pos (by kernel_rfl)]
 go_simp
 ((with_reducible refine (SP.out _).mono ?_); rintro e u ⟨rfl, hb⟩)
 first | (refine hK.out _ _ (fun _ => HS.out _ _ hHeld hb) (fun hHeld => ?_)) | (refine hK.out _ _ (HS.out _ _ hHeld hb) (fun hHeld => ?_)) | (go_wp2_with fail; refine hK.out _ _ (HS.out _ _ hHeld hb) (fun hHeld => ?_))
 clear hK KK
 refine SqR.p 4 ?_
 refine Rk.one (i := 8) (by kernel_rfl) rfl (fun KK hK => ?_)
 rw [if_pos (by kernel_rfl)]
 go_simp
 ((with_reducible refine (RO.out _).mono ?_); rintro e u9 ⟨rfl, rfl⟩)
 first | (refine hK.out _ _ (fun _ => hHeld) (fun hHeld => ?_)) | (refine hK.out _ _ hHeld (fun hHeld => ?_)) | (go_wp2_with fail; refine hK.out _ _ hHeld (fun hHeld => ?_))
 clear hK KK
 refine Rk.one (i := 9) (by kernel_rfl) rfl (fun KK hK => ?_)
 rw [if_pos (by kernel_rfl)]
 go_simp
 ((with_reducible refine (FT.out _).mono ?_); rintro e u ⟨rfl, hb⟩)
 first | (refine hK.out _ _ (fun _ => HS.out _ _ hHeld hb) (fun hHeld => ?_)) | (refine hK.out _ _ (HS.out _ _ hHeld hb) (fun hHeld => ?_)) | (go_wp2_with fail; refine hK.out _ _ (HS.out _ _ hHeld hb) (fun hHeld => ?_))
 clear hK KK
 refine Rk.tail [10, 11] [_, _] (by kernel_rfl) (by kernel_rfl) rfl (by decide) ?_
 obtain ⟨t0, t1, t2, t3, t4, r0, r1, fr0, fr1, K1⟩ := hHeld
 clear hz HS
 have q1 : w.heap.size + 1 < u.heap.size := World.block_lt_of_cell? _ _ r0
 go_wp2
 refine bodyPost_ret (v := Frac3 q 1 0) (by simp [results, Tryz.results93, go_sem, r0, r1, fr0, fr1, q1]) rfl ⟨rfl, ?_⟩; exact SqB.b
set_option maxHeartbeats 4000000 in
theorem r_fix4 (K B F R O a b m q : Int) (w : World) (a0 : -1099511627776 <= a) (a1 : a <= 1099511627776) (c0 : -1099511627776 <= b) (c1 : b <= 1099511627776) (hm : a + b = m) (FT : Hid (∀ w, Calls Tryz.prog 117 #[T5 K B F R O, .int .i64 m] w (Ret (V2 q 1) w))) :
  Calls Tryz.prog 93 #[.int .i64 4, T5 K B F R O, .int .i64 a, .int .i64 b] w (Ret (Frac3 q 1 0) w) := by
 go_enter Tryz.func93, Tryz.ntmps93
 go_wp2_with (first | (go_at_call 117; (with_reducible refine (FT.out _).mono ?_); rintro e w1 ⟨rfl, hb1⟩; have hc1 := (bcell hb1).1; have hf1 := (bcell hb1).2; have z1_0 : w.heap.size < w1.heap.size := SqB.z hb1; have z1_1 : w.heap.size + 1 < w1.heap.size := SqB.z hb1; have K1 : Below w.heap.size w w1 := SqB.t hb1))
 refine bodyPost_ret (v := Frac3 q 1 0) (by simp [results, Tryz.results93, go_sem, hc1, hf1, SqB.n z1_0, SqB.n z1_1]) rfl ⟨rfl, ?_⟩; exact SqB.b
set_option maxHeartbeats 4000000 in
theorem r_fix5 (K B F R O a b m q : Int) (w : World) (a0 : -1099511627776 <= a) (a1 : a <= 1099511627776) (c0 : -1099511627776 <= b) (c1 : b <= 1099511627776) (hm : a - b = m) (FT : Hid (∀ w, Calls Tryz.prog 117 #[T5 K B F R O, .int .i64 m] w (Ret (V2 q 1) w))) :
  Calls Tryz.prog 93 #[.int .i64 5, T5 K B F R O, .int .i64 a, .int .i64 b] w (Ret (Frac3 q 1 0) w) := by
 go_enter Tryz.func93, Tryz.ntmps93
 go_wp2_with (first | (go_at_call 117; (with_reducible refine (FT.out _).mono ?_); rintro e w1 ⟨rfl, hb1⟩; have hc1 := (bcell hb1).1; have hf1 := (bcell hb1).2; have z1_0 : w.heap.size < w1.heap.size := SqB.z hb1; have z1_1 : w.heap.size + 1 < w1.heap.size := SqB.z hb1; have K1 : Below w.heap.size w w1 := SqB.t hb1))
 refine bodyPost_ret (v := Frac3 q 1 0) (by simp [results, Tryz.results93, go_sem, hc1, hf1, SqB.n z1_0, SqB.n z1_1]) rfl ⟨rfl, ?_⟩; exact SqB.b
set_option maxHeartbeats 4000000 in
theorem r_fix8 (K B F R O a b m q : Int) (w : World) (a0 : -1099511627776 <= a) (a1 : a <= 1099511627776) (c0 : True) (c1 : True) (hm : -a = m) (FT : Hid (∀ w, Calls Tryz.prog 117 #[T5 K B F R O, .int .i64 m] w (Ret (V2 q 1) w))) :
  Calls Tryz.prog 93 #[.int .i64 8, T5 K B F R O, .int .i64 a, .int .i64 b] w (Ret (Frac3 q 1 0) w) := by
 go_enter Tryz.func93, Tryz.ntmps93
 go_wp2_with (first | (go_at_call 117; (with_reducible refine (FT.out _).mono ?_); rintro e w1 ⟨rfl, hb1⟩; have hc1 := (bcell hb1).1; have hf1 := (bcell hb1).2; have z1_0 : w.heap.size < w1.heap.size := SqB.z hb1; have z1_1 : w.heap.size + 1 < w1.heap.size := SqB.z hb1; have K1 : Below w.heap.size w w1 := SqB.t hb1))
 refine bodyPost_ret (v := Frac3 q 1 0) (by simp [results, Tryz.results93, go_sem, hc1, hf1, SqB.n z1_0, SqB.n z1_1]) rfl ⟨rfl, ?_⟩; exact SqB.b
theorem r_fix70 (K B F R O a : Int) (w : World) : Calls Tryz.prog 93 #[.int .i64 7, T5 K B F R O, .int .i64 a, .int .i64 0] w (Ret (Frac3 0 0 4) w) := by
 go_enter Tryz.func93, Tryz.ntmps93
 go_wp2
 refine bodyPost_ret (v := Frac3 0 0 4) (by simp [results, Tryz.results93, go_sem]) rfl ⟨rfl, ?_⟩; exact SqB.b
theorem i64w {s : Int} (h0 : -9223372036854775808 <= s) (h1 : s <= 9223372036854775807) : IntKind.i64.wrap s = s := IntWalk.i64_in _ ⟨by omega, by omega⟩
set_option maxHeartbeats 4000000 in
theorem r_fix (op K B F R O a b d1 d2 : Int) (w : World) (h0 : 4 <= op) (h1 : op <= 8) (v1 : fv K B F R O a d1 = true) (v2 : op ≠ 8 -> fv K B F R O b d2 = true) : Calls Tryz.prog 93 #[.int .i64 op, T5 K B F R O, .int .i64 a, .int .i64 b] w (Ret (F3 (fxv op B F R O a b)) w) := by
 obtain ⟨ht, -, -, -, x0, x1⟩ := fv_parts v1
 obtain ⟨-, -, -, f0, f1, m0, m1, -⟩ := tv_parts ht
 obtain ⟨p0, p1⟩ := two_pow F f0 f1
 have FT : ∀ m w, -4611686018427387904 <= m -> m <= 4611686018427387904 -> Calls Tryz.prog 117 #[T5 K B F R O, .int .i64 m] w (Ret (V2 (Nx.nv m B O) 1) w) := fun m w a b => r_fit K B F R O m w ht a b
 by_cases h8 : op = 8
 ·subst h8
  exact r_fix8 K B F R O a b _ _ w (by omega) (by omega) trivial trivial rfl (Lib.hid fun w => FT (-a) w (by omega) (by omega))
 obtain ⟨-, -, -, -, y0, y1⟩ := fv_parts (v2 h8)
 rcases (by omega : op = 4 \/ op = 5 \/ op = 6 \/ op = 7) with rfl | rfl | rfl | rfl
 ·exact r_fix4 K B F R O a b _ _ w (by omega) (by omega) (by omega) (by omega) rfl (Lib.hid fun w => FT (a + b) w (by omega) (by omega))
 ·exact r_fix5 K B F R O a b _ _ w (by omega) (by omega) (by omega) (by omega) rfl (Lib.hid fun w => FT (a - b) w (by omega) (by omega))
 ·have e : fxv 6 B F R O a b = (Nx.nv (Dv.dval R (a * b) (2 ^ F.toNat)) B O, 1, 0) := by unfold fxv; rw [if_neg (by omega)]; rfl
  rw [e]
  obtain ⟨p, hp⟩ : ∃ p, (2 : Int) ^ F.toNat = p := ⟨_, rfl⟩
  rw [hp] at p0 p1 ⊢
  obtain ⟨s0, s1⟩ := pb a b (by omega) (by omega)
  obtain ⟨q0, q1⟩ := dval_bound R (a * b) p m0 m1 s0 s1 (by omega)
  exact r_fix6 K B F R O a b p _ _ w (Lib.hid fun w => step_any K B F R O p w f0 f1 hp p0 p1) (Lib.hid (by rw [i64w (by omega) (by omega)]; exact fun w => r_round (a * b) p R w m0 m1 (by omega) (by omega) p0 (by omega))) (Lib.hid fun w => FT _ w (by omega) (by omega))
 ·by_cases hb : b = 0
  ·subst hb
   exact r_fix70 K B F R O a w
  have e : fxv 7 B F R O a b = (Nx.nv (Dv.dval R (a * 2 ^ F.toNat) b) B O, 1, 0) := by unfold fxv; rw [if_neg (by omega)]; rfl
  rw [e]
  obtain ⟨p, hp⟩ : ∃ p, (2 : Int) ^ F.toNat = p := ⟨_, rfl⟩
  rw [hp] at p0 p1 ⊢
  obtain ⟨s0, s1⟩ := pb a p (by omega) (by omega)
  obtain ⟨q0, q1⟩ := dval_bound R (a * p) b m0 m1 s0 s1 hb
  by_cases hl : b < 0
  ·have hn : -a * p = -(a * p) := Int.neg_mul _ _
   exact r_fix7n K B F R O a b (-a) (-b) p _ _ w (by simpa using hb) (by simpa using hl) rfl rfl (by omega) (by omega) (by omega) (by omega) (Lib.hid fun w => step_any K B F R O p w f0 f1 hp p0 p1)
    (Lib.hid (by rw [hn, i64w (by omega) (by omega), <- dval_neg R (a * p) b m0 m1 (by omega) (by omega) hb]; exact fun w => r_round (-(a * p)) (-b) R w m0 m1 (by omega) (by omega) (by omega) (by omega))) (Lib.hid fun w => FT _ w (by omega) (by omega))
  ·exact r_fix7p K B F R O a b p _ _ w (by simpa using hb) (by simpa using hl) (Lib.hid fun w => step_any K B F R O p w f0 f1 hp p0 p1) (Lib.hid (by rw [i64w (by omega) (by omega)]; exact fun w => r_round (a * p) b R w m0 m1 (by omega) (by omega) (by omega) (by omega))) (Lib.hid fun w => FT _ w (by omega) (by omega))
end Go.Proofs.YteaaikmejacpaaaGreatDoor.Va
