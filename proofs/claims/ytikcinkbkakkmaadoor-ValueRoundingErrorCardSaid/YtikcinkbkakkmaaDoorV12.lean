/- Value and Cast of the reference. -/
import Derived.Test.YtikcinkbkakkmaaDoorV8
import Derived.Test.YtikcinkbkakkmaaDoorGN
import Derived.Test.YtikcinkbkakkmaaDoorRk
import Derived.IntWalk

namespace Go.Proofs.YtikcinkbkakkmaaDoor.Va
open Go.ChangeShapes Go.WideShapes Go.ChangeAt Go.RowKit
open Fr Fx

set_option linter.unusedVariables false
set_option linter.unusedSimpArgs false

set_option maxHeartbeats 8000000 in
theorem r_value (K B F R O n d : Int) (w : World) (h : vv K B F R O n d = true) : Calls Tryd.prog 33 #[T5 K B F R O, V2 n d] w (Ret (V2 (rat K F n d).1 (rat K F n d).2) w) := by
  unfold rat
  obtain ⟨x1, x2, x3, x4, x5⟩ := vv_small h
  by_cases hk : K = 2
  · rw [if_pos hk]
    have k1 : (K == 2) = true := by simpa using hk
    rw [vv_fix hk] at h
    obtain ⟨ht, -⟩ := fv_parts h
    obtain ⟨-, -, -, f0, f1, -, -, -⟩ := tv_parts ht
    obtain ⟨p0, p1⟩ := two_pow F f0 f1
    have NW := Lib.hid fun w => rnew_any n (2 ^ F.toNat) w (by omega) (by omega) (by omega) (by omega)
    obtain ⟨e1, e2, e3⟩ := new_red n F.toNat x3 x4 (by omega)
    rw [e1, e2, e3] at NW
    obtain ⟨p, hp⟩ : ∃ p, (2 : Int) ^ F.toNat = p := ⟨_, rfl⟩
    rw [hp] at p0 p1 NW
    have SP := Lib.hid fun w => step_any K B F R O p w f0 f1 hp p0 p1
    dsimp only
    generalize (red n F.toNat).1 = x at *
    generalize (2 : Int) ^ (red n F.toNat).2 = y at *
    clear h hk ht f0 f1 hp p0 p1 x1 x2 x3 x4 x5 e1 e2 e3
    go_enter Tryd.func33, Tryd.ntmps33
    go_wp2_with fail
    have hz : (((w.alloc (.cells #[.int .i64 K, .int .i64 B, .int .i64 F, .int .i64 R, .int .i64 O] 23)).alloc (.cells #[.int .i64 n, .int .i64 d] 25)).alloc (.cells #[.int .i64 0, .int .i64 0] 25)).cell? ⟨w.heap.size, 0, none⟩ = some (.int .i64 K) ∧ (((w.alloc (.cells #[.int .i64 K, .int .i64 B, .int .i64 F, .int .i64 R, .int .i64 O] 23)).alloc (.cells #[.int .i64 n, .int .i64 d] 25)).alloc (.cells #[.int .i64 0, .int .i64 0] 25)).cell? ⟨w.heap.size, 1, none⟩ = some (.int .i64 B) ∧ (((w.alloc (.cells #[.int .i64 K, .int .i64 B, .int .i64 F, .int .i64 R, .int .i64 O] 23)).alloc (.cells #[.int .i64 n, .int .i64 d] 25)).alloc (.cells #[.int .i64 0, .int .i64 0] 25)).cell? ⟨w.heap.size, 2, none⟩ = some (.int .i64 F) ∧ (((w.alloc (.cells #[.int .i64 K, .int .i64 B, .int .i64 F, .int .i64 R, .int .i64 O] 23)).alloc (.cells #[.int .i64 n, .int .i64 d] 25)).alloc (.cells #[.int .i64 0, .int .i64 0] 25)).cell? ⟨w.heap.size, 3, none⟩ = some (.int .i64 R) ∧ (((w.alloc (.cells #[.int .i64 K, .int .i64 B, .int .i64 F, .int .i64 R, .int .i64 O] 23)).alloc (.cells #[.int .i64 n, .int .i64 d] 25)).alloc (.cells #[.int .i64 0, .int .i64 0] 25)).cell? ⟨w.heap.size, 4, none⟩ = some (.int .i64 O) ∧ (((w.alloc (.cells #[.int .i64 K, .int .i64 B, .int .i64 F, .int .i64 R, .int .i64 O] 23)).alloc (.cells #[.int .i64 n, .int .i64 d] 25)).alloc (.cells #[.int .i64 0, .int .i64 0] 25)).cell? ⟨w.heap.size + 1, 0, none⟩ = some (.int .i64 n) ∧ (((w.alloc (.cells #[.int .i64 K, .int .i64 B, .int .i64 F, .int .i64 R, .int .i64 O] 23)).alloc (.cells #[.int .i64 n, .int .i64 d] 25)).alloc (.cells #[.int .i64 0, .int .i64 0] 25)).cell? ⟨w.heap.size + 1, 1, none⟩ = some (.int .i64 d) ∧ (((w.alloc (.cells #[.int .i64 K, .int .i64 B, .int .i64 F, .int .i64 R, .int .i64 O] 23)).alloc (.cells #[.int .i64 n, .int .i64 d] 25)).alloc (.cells #[.int .i64 0, .int .i64 0] 25)).cell? ⟨w.heap.size + 1 + 1, 0, none⟩ = some (.int .i64 0) ∧ (((w.alloc (.cells #[.int .i64 K, .int .i64 B, .int .i64 F, .int .i64 R, .int .i64 O] 23)).alloc (.cells #[.int .i64 n, .int .i64 d] 25)).alloc (.cells #[.int .i64 0, .int .i64 0] 25)).cell? ⟨w.heap.size + 1 + 1, 1, none⟩ = some (.int .i64 0) ∧ (((w.alloc (.cells #[.int .i64 K, .int .i64 B, .int .i64 F, .int .i64 R, .int .i64 O] 23)).alloc (.cells #[.int .i64 n, .int .i64 d] 25)).alloc (.cells #[.int .i64 0, .int .i64 0] 25)).frozen? ⟨w.heap.size + 1, 0, none⟩ = false ∧ (((w.alloc (.cells #[.int .i64 K, .int .i64 B, .int .i64 F, .int .i64 R, .int .i64 O] 23)).alloc (.cells #[.int .i64 n, .int .i64 d] 25)).alloc (.cells #[.int .i64 0, .int .i64 0] 25)).frozen? ⟨w.heap.size + 1, 1, none⟩ = false ∧ (((w.alloc (.cells #[.int .i64 K, .int .i64 B, .int .i64 F, .int .i64 R, .int .i64 O] 23)).alloc (.cells #[.int .i64 n, .int .i64 d] 25)).alloc (.cells #[.int .i64 0, .int .i64 0] 25)).frozen? ⟨w.heap.size + 1 + 1, 0, none⟩ = false ∧ (((w.alloc (.cells #[.int .i64 K, .int .i64 B, .int .i64 F, .int .i64 R, .int .i64 O] 23)).alloc (.cells #[.int .i64 n, .int .i64 d] 25)).alloc (.cells #[.int .i64 0, .int .i64 0] 25)).frozen? ⟨w.heap.size + 1 + 1, 1, none⟩ = false ∧ Below w.heap.size w (((w.alloc (.cells #[.int .i64 K, .int .i64 B, .int .i64 F, .int .i64 R, .int .i64 O] 23)).alloc (.cells #[.int .i64 n, .int .i64 d] 25)).alloc (.cells #[.int .i64 0, .int .i64 0] 25)) := ⟨(by go_cell), (by go_cell), (by go_cell), (by go_cell), (by go_cell), (by go_cell), (by go_cell), (by go_cell), (by go_cell), (by simp only [frozen?_alloc_cells]; exact Rg.notFrozen (by omega)), (by simp only [frozen?_alloc_cells]; exact Rg.notFrozen (by omega)), (by simp only [frozen?_alloc_cells]; exact Rg.notFrozen (by omega)), (by simp only [frozen?_alloc_cells]; exact Rg.notFrozen (by omega)), by go_grown⟩
    generalize (((w.alloc (.cells #[.int .i64 K, .int .i64 B, .int .i64 F, .int .i64 R, .int .i64 O] 23)).alloc (.cells #[.int .i64 n, .int .i64 d] 25)).alloc (.cells #[.int .i64 0, .int .i64 0] 25)) = z at *
    have HS : Hid (∀ u u' : World, (u.cell? ⟨w.heap.size, 0, none⟩ = some (.int .i64 K) ∧ u.cell? ⟨w.heap.size, 1, none⟩ = some (.int .i64 B) ∧ u.cell? ⟨w.heap.size, 2, none⟩ = some (.int .i64 F) ∧ u.cell? ⟨w.heap.size, 3, none⟩ = some (.int .i64 R) ∧ u.cell? ⟨w.heap.size, 4, none⟩ = some (.int .i64 O) ∧ u.cell? ⟨w.heap.size + 1, 0, none⟩ = some (.int .i64 n) ∧ u.cell? ⟨w.heap.size + 1, 1, none⟩ = some (.int .i64 d) ∧ u.cell? ⟨w.heap.size + 1 + 1, 0, none⟩ = some (.int .i64 0) ∧ u.cell? ⟨w.heap.size + 1 + 1, 1, none⟩ = some (.int .i64 0) ∧ u.frozen? ⟨w.heap.size + 1, 0, none⟩ = false ∧ u.frozen? ⟨w.heap.size + 1, 1, none⟩ = false ∧ u.frozen? ⟨w.heap.size + 1 + 1, 0, none⟩ = false ∧ u.frozen? ⟨w.heap.size + 1 + 1, 1, none⟩ = false ∧ Below w.heap.size w u) → Below u.heap.size u u' → (u'.cell? ⟨w.heap.size, 0, none⟩ = some (.int .i64 K) ∧ u'.cell? ⟨w.heap.size, 1, none⟩ = some (.int .i64 B) ∧ u'.cell? ⟨w.heap.size, 2, none⟩ = some (.int .i64 F) ∧ u'.cell? ⟨w.heap.size, 3, none⟩ = some (.int .i64 R) ∧ u'.cell? ⟨w.heap.size, 4, none⟩ = some (.int .i64 O) ∧ u'.cell? ⟨w.heap.size + 1, 0, none⟩ = some (.int .i64 n) ∧ u'.cell? ⟨w.heap.size + 1, 1, none⟩ = some (.int .i64 d) ∧ u'.cell? ⟨w.heap.size + 1 + 1, 0, none⟩ = some (.int .i64 0) ∧ u'.cell? ⟨w.heap.size + 1 + 1, 1, none⟩ = some (.int .i64 0) ∧ u'.frozen? ⟨w.heap.size + 1, 0, none⟩ = false ∧ u'.frozen? ⟨w.heap.size + 1, 1, none⟩ = false ∧ u'.frozen? ⟨w.heap.size + 1 + 1, 0, none⟩ = false ∧ u'.frozen? ⟨w.heap.size + 1 + 1, 1, none⟩ = false ∧ Below w.heap.size w u')) := Lib.hid (fun u u' h hb => ⟨Rg.keep hb (World.block_lt_of_cell? _ _ h.1) h.1, Rg.keep hb (World.block_lt_of_cell? _ _ h.2.1) h.2.1, Rg.keep hb (World.block_lt_of_cell? _ _ h.2.2.1) h.2.2.1, Rg.keep hb (World.block_lt_of_cell? _ _ h.2.2.2.1) h.2.2.2.1, Rg.keep hb (World.block_lt_of_cell? _ _ h.2.2.2.2.1) h.2.2.2.2.1, Rg.keep hb (World.block_lt_of_cell? _ _ h.2.2.2.2.2.1) h.2.2.2.2.2.1, Rg.keep hb (World.block_lt_of_cell? _ _ h.2.2.2.2.2.2.1) h.2.2.2.2.2.2.1, Rg.keep hb (World.block_lt_of_cell? _ _ h.2.2.2.2.2.2.2.1) h.2.2.2.2.2.2.2.1, Rg.keep hb (World.block_lt_of_cell? _ _ h.2.2.2.2.2.2.2.2.1) h.2.2.2.2.2.2.2.2.1, Rg.keepF hb (World.block_lt_of_cell? _ _ h.2.2.2.2.2.1) h.2.2.2.2.2.2.2.2.2.1, Rg.keepF hb (World.block_lt_of_cell? _ _ h.2.2.2.2.2.1) h.2.2.2.2.2.2.2.2.2.2.1, Rg.keepF hb (World.block_lt_of_cell? _ _ h.2.2.2.2.2.2.2.1) h.2.2.2.2.2.2.2.2.2.2.2.1, Rg.keepF hb (World.block_lt_of_cell? _ _ h.2.2.2.2.2.2.2.1) h.2.2.2.2.2.2.2.2.2.2.2.2.1, h.2.2.2.2.2.2.2.2.2.2.2.2.2.trans (hb.mono h.2.2.2.2.2.2.2.2.2.2.2.2.2.size)⟩)
    refine Rk.begin (S := fun wS => wS.cell? ⟨w.heap.size, 0, none⟩ = some (.int .i64 K) ∧ wS.cell? ⟨w.heap.size, 1, none⟩ = some (.int .i64 B) ∧ wS.cell? ⟨w.heap.size, 2, none⟩ = some (.int .i64 F) ∧ wS.cell? ⟨w.heap.size, 3, none⟩ = some (.int .i64 R) ∧ wS.cell? ⟨w.heap.size, 4, none⟩ = some (.int .i64 O) ∧ wS.cell? ⟨w.heap.size + 1, 0, none⟩ = some (.int .i64 n) ∧ wS.cell? ⟨w.heap.size + 1, 1, none⟩ = some (.int .i64 d) ∧ wS.cell? ⟨w.heap.size + 1 + 1, 0, none⟩ = some (.int .i64 0) ∧ wS.cell? ⟨w.heap.size + 1 + 1, 1, none⟩ = some (.int .i64 0) ∧ wS.frozen? ⟨w.heap.size + 1, 0, none⟩ = false ∧ wS.frozen? ⟨w.heap.size + 1, 1, none⟩ = false ∧ wS.frozen? ⟨w.heap.size + 1 + 1, 0, none⟩ = false ∧ wS.frozen? ⟨w.heap.size + 1 + 1, 1, none⟩ = false ∧ Below w.heap.size w wS) 8 (by kernel_rfl) (HS.out _ _ hz (Below.drew (Below.refl _ _))) (fun hHeld => ?_)
    refine Rk.takeP (i := 0) (v := ?_) rfl (by kernel_rfl) (by kernel_rfl) (by kernel_rfl) (by kernel_rfl) (fun _ _ _ h => h) (Or.inl ⟨by kernel_rfl, ?_⟩) (by assumption) ?_
    rotate_left
    · ((intro w hSw; go_simp) <;> with_reducible rfl)
    try simp only [Act.put, List.setIfInBounds_toArray, List.set_cons_zero, List.set_cons_succ]
    refine Rk.take [8] (i := 1) (v := ?_) rfl (by kernel_rfl) (by kernel_rfl) (by kernel_rfl) (by kernel_rfl) (by kernel_rfl) (fun _ _ _ h => h) (Or.inl ⟨by kernel_rfl, ?_⟩) (by assumption) ?_
    rotate_left
    · ((intro w hSw; (try dsimp only at hSw); go_simp) <;> with_reducible rfl)
    try simp only [Act.put, List.setIfInBounds_toArray, List.set_cons_zero, List.set_cons_succ]
    refine Rk.take [8] (i := 2) (v := ?_) rfl (by kernel_rfl) (by kernel_rfl) (by kernel_rfl) (by kernel_rfl) (by kernel_rfl) (fun _ _ _ h => h) (Or.inl ⟨by kernel_rfl, ?_⟩) (by assumption) ?_
    rotate_left
    · ((intro w hSw; (try dsimp only at hSw); go_simp) <;> with_reducible rfl)
    try simp only [Act.put, List.setIfInBounds_toArray, List.set_cons_zero, List.set_cons_succ]
    refine Rk.one (i := 3) (by kernel_rfl) rfl (fun KK hK => ?_)
    rw [if_pos (by kernel_rfl)]
    go_simp
    ((with_reducible refine (SP.out _).mono ?_); rintro e u ⟨rfl, hb⟩)
    first | (refine hK.out _ _ (fun _ => HS.out _ _ hHeld hb) (fun hHeld => ?_)) | (refine hK.out _ _ (HS.out _ _ hHeld hb) (fun hHeld => ?_)) | (go_wp2_with fail; refine hK.out _ _ (HS.out _ _ hHeld hb) (fun hHeld => ?_))
    clear hK KK
    refine Rk.one (i := 4) (by kernel_rfl) rfl (fun KK hK => ?_)
    rw [if_pos (by kernel_rfl)]
    go_simp
    ((with_reducible refine (NW.out _).mono ?_); rintro e u ⟨rfl, hb⟩)
    first | (refine hK.out _ _ (fun _ => HS.out _ _ hHeld hb) (fun hHeld => ?_)) | (refine hK.out _ _ (HS.out _ _ hHeld hb) (fun hHeld => ?_)) | (go_wp2_with fail; refine hK.out _ _ (HS.out _ _ hHeld hb) (fun hHeld => ?_))
    clear hK KK
    refine Rk.takeP (i := 5) (v := ?_) rfl (by kernel_rfl) (by kernel_rfl) (by kernel_rfl) (by kernel_rfl) (fun _ _ _ h => h) (Or.inl ⟨by kernel_rfl, ?_⟩) (by assumption) ?_
    rotate_left
    · ((intro w hSw; go_simp) <;> with_reducible rfl)
    try simp only [Act.put, List.setIfInBounds_toArray, List.set_cons_zero, List.set_cons_succ]
    refine Rk.takeP (i := 6) (v := ?_) rfl (by kernel_rfl) (by kernel_rfl) (by kernel_rfl) (by kernel_rfl) (fun _ _ _ h => h) (Or.inl ⟨by kernel_rfl, ?_⟩) (by assumption) ?_
    rotate_left
    · ((intro w hSw; go_simp) <;> with_reducible rfl)
    try simp only [Act.put, List.setIfInBounds_toArray, List.set_cons_zero, List.set_cons_succ]
    refine Rk.takeP (i := 7) (v := ?_) rfl (by kernel_rfl) (by kernel_rfl) (by kernel_rfl) (by kernel_rfl) (fun _ _ _ h => h) (Or.inl ⟨by kernel_rfl, ?_⟩) (by assumption) ?_
    rotate_left
    · ((intro w hSw; go_simp) <;> with_reducible rfl)
    try simp only [Act.put, List.setIfInBounds_toArray, List.set_cons_zero, List.set_cons_succ]
    refine Rk.tail [8] [_] (by kernel_rfl) (by kernel_rfl) rfl (by decide) ?_
    obtain ⟨t0, t1, t2, t3, t4, v0, v1, r0, r1, fv0, fv1, fr0, fr1, K1⟩ := hHeld
    clear hz HS
    have q1 : w.heap.size + 1 < u.heap.size := World.block_lt_of_cell? _ _ v0
    have q2 : w.heap.size + 1 + 1 < u.heap.size := World.block_lt_of_cell? _ _ r0
    go_wp2
    refine bodyPost_ret (v := V2 x y) (by simp [results, Tryd.results33, go_sem, v0, v1, r0, r1, fv0, fv1, fr0, fr1, q1, q2]) rfl ⟨rfl, ?_⟩; (repeat' (first | (with_reducible exact Below.refl _ _) | (with_reducible exact K1) | (with_reducible refine Below.alloc ?_ ?_ _) | (with_reducible refine Below.setCell ?_ ?_ _) | (with_reducible refine below_drewN ?_ _) | (simp; done) | omega | (simp; omega)))
  · rw [if_neg hk]
    have k1 : (K == 2) = false := by simpa using hk
    clear h hk x1 x2 x3 x4 x5
    go_enter Tryd.func33, Tryd.ntmps33
    go_wp2
    refine bodyPost_ret (v := V2 n d) (by simp [results, Tryd.results33, go_sem]) rfl ⟨rfl, ?_⟩; (repeat' (first | (with_reducible exact Below.refl _ _) | (with_reducible refine Below.alloc ?_ ?_ _) | (with_reducible refine Below.setCell ?_ ?_ _) | (with_reducible refine below_drewN ?_ _) | (simp; done) | omega | (simp; omega)))

set_option maxHeartbeats 8000000 in
theorem r_castf (K B F R O K' B' F' R' O' n d x y q p T r : Int) (w : World) (o3 : (K' == 3) = false) (o2 : (K' == 2) = true)
    (T1 : Hid (∀ w, Calls Tryd.prog 22 #[T5 K B F R O] w (Ret (.bool true) w))) (T2 : Hid (∀ w, Calls Tryd.prog 22 #[T5 K' B' F' R' O'] w (Ret (.bool true) w)))
    (VA : Hid (∀ w, Calls Tryd.prog 24 #[T5 K B F R O, Fx.V2 n d] w (Ret (.bool true) w))) (RA : Hid (∀ w, Calls Tryd.prog 33 #[T5 K B F R O, Fx.V2 n d] w (Ret (Fx.V2 x y) w)))
    (SP : Hid (∀ w, Calls Tryd.prog 23 #[T5 K' B' F' R' O'] w (Ret (.int .i64 p) w)))
    (RO : Hid (∀ w, Calls Tryd.prog 36 #[.int .i64 (IntKind.i64.wrap (x * p)), .int .i64 y, .int .i64 R'] w fun e w' => e = .returned (.int .i64 T) ∧ w = w'))
    (FT : Hid (∀ w, Calls Tryd.prog 35 #[T5 K' B' F' R' O', .int .i64 T] w (Ret (Fx.V2 q 1) w))) :
    Calls Tryd.prog 17 #[T5 K B F R O, T5 K' B' F' R' O', Fx.V2 n d] w (Ret (Frac3 q 1 0) w) := by
  go_enter Tryd.func17, Tryd.ntmps17
  go_wp2_with fail
  (with_reducible refine (T1.out _).mono ?_); rintro e w1 ⟨rfl, hb1⟩; have hc1 := (bcell hb1).1; have hf1 := (bcell hb1).2; have z1_0 : w.heap.size < w1.heap.size := (by have hzz := hb1.size; (try simp at hzz); omega); have z1_1 : w.heap.size + 1 < w1.heap.size := (by have hzz := hb1.size; (try simp at hzz); omega); have z1_2 : w.heap.size + 1 + 1 < w1.heap.size := (by have hzz := hb1.size; (try simp at hzz); omega); have z1_3 : w.heap.size + 1 + 1 + 1 < w1.heap.size := (by have hzz := hb1.size; (try simp at hzz); omega); have K1 : Below w.heap.size w w1 := Below.trans (b := _) (by (repeat' (first | (with_reducible exact Below.refl _ _) | (with_reducible refine Below.alloc ?_ ?_ _) | (with_reducible refine Below.setCell ?_ ?_ _) | (with_reducible refine below_drewN ?_ _) | (simp; done) | omega | (simp; omega)))) (hb1.mono (by have hzz := hb1.size; (try simp at hzz); first | omega | (simp; done) | (simp; omega)))
  go_wp2_with fail
  (with_reducible refine (T2.out _).mono ?_); rintro e w2 ⟨rfl, hb2⟩; have hc2 := (bcell hb2).1; have hf2 := (bcell hb2).2; have z2_0 : w.heap.size < w2.heap.size := (by have hzz := hb2.size; (try simp at hzz); omega); have z2_1 : w.heap.size + 1 < w2.heap.size := (by have hzz := hb2.size; (try simp at hzz); omega); have z2_2 : w.heap.size + 1 + 1 < w2.heap.size := (by have hzz := hb2.size; (try simp at hzz); omega); have z2_3 : w.heap.size + 1 + 1 + 1 < w2.heap.size := (by have hzz := hb2.size; (try simp at hzz); omega); have K2 : Below w.heap.size w w2 := Below.trans (b := _) (by (repeat' (first | (with_reducible exact Below.refl _ _) | (with_reducible exact K1) | (with_reducible refine Below.alloc ?_ ?_ _) | (with_reducible refine Below.setCell ?_ ?_ _) | (with_reducible refine below_drewN ?_ _) | (simp; done) | omega | (simp; omega)))) (hb2.mono (by have hzz := hb2.size; (try simp at hzz); first | omega | (simp; done) | (simp; omega)))
  go_wp2_with (first | (go_at_call 24; (with_reducible refine (VA.out _).mono ?_); rintro e w3 ⟨rfl, hb3⟩; have hc3 := (bcell hb3).1; have hf3 := (bcell hb3).2; have z3_0 : w.heap.size < w3.heap.size := (by have hzz := hb3.size; (try simp at hzz); omega); have z3_1 : w.heap.size + 1 < w3.heap.size := (by have hzz := hb3.size; (try simp at hzz); omega); have z3_2 : w.heap.size + 1 + 1 < w3.heap.size := (by have hzz := hb3.size; (try simp at hzz); omega); have z3_3 : w.heap.size + 1 + 1 + 1 < w3.heap.size := (by have hzz := hb3.size; (try simp at hzz); omega); have K3 : Below w.heap.size w w3 := Below.trans (b := _) (by (repeat' (first | (with_reducible exact Below.refl _ _) | (with_reducible exact K1) | (with_reducible exact K2) | (with_reducible refine Below.alloc ?_ ?_ _) | (with_reducible refine Below.setCell ?_ ?_ _) | (with_reducible refine below_drewN ?_ _) | (simp; done) | omega | (simp; omega)))) (hb3.mono (by have hzz := hb3.size; (try simp at hzz); first | omega | (simp; done) | (simp; omega)))) | (go_at_call 33; (with_reducible refine (RA.out _).mono ?_); rintro e w4 ⟨rfl, hb4⟩; have hc4 := (bcell hb4).1; have hf4 := (bcell hb4).2; have z4_0 : w.heap.size < w4.heap.size := (by have hzz := hb4.size; (try simp at hzz); omega); have z4_1 : w.heap.size + 1 < w4.heap.size := (by have hzz := hb4.size; (try simp at hzz); omega); have z4_2 : w.heap.size + 1 + 1 < w4.heap.size := (by have hzz := hb4.size; (try simp at hzz); omega); have z4_3 : w.heap.size + 1 + 1 + 1 < w4.heap.size := (by have hzz := hb4.size; (try simp at hzz); omega); have K4 : Below w.heap.size w w4 := Below.trans (b := _) (by (repeat' (first | (with_reducible exact Below.refl _ _) | (with_reducible exact K1) | (with_reducible exact K2) | (with_reducible exact K3) | (with_reducible refine Below.alloc ?_ ?_ _) | (with_reducible refine Below.setCell ?_ ?_ _) | (with_reducible refine below_drewN ?_ _) | (simp; done) | omega | (simp; omega)))) (hb4.mono (by have hzz := hb4.size; (try simp at hzz); first | omega | (simp; done) | (simp; omega)))))
  have hbz : Below w4.heap.size w4 (w4.alloc (.cells #[.int .i64 x, .int .i64 y] 25)) := (Below.refl _ _).alloc (Nat.le_refl _) _
  have hz : (w4.alloc (.cells #[.int .i64 x, .int .i64 y] 25)).cell? ⟨w.heap.size + 1, 0, none⟩ = some (.int .i64 K') ∧ (w4.alloc (.cells #[.int .i64 x, .int .i64 y] 25)).cell? ⟨w.heap.size + 1, 1, none⟩ = some (.int .i64 B') ∧ (w4.alloc (.cells #[.int .i64 x, .int .i64 y] 25)).cell? ⟨w.heap.size + 1, 2, none⟩ = some (.int .i64 F') ∧ (w4.alloc (.cells #[.int .i64 x, .int .i64 y] 25)).cell? ⟨w.heap.size + 1, 3, none⟩ = some (.int .i64 R') ∧ (w4.alloc (.cells #[.int .i64 x, .int .i64 y] 25)).cell? ⟨w.heap.size + 1, 4, none⟩ = some (.int .i64 O') ∧ (w4.alloc (.cells #[.int .i64 x, .int .i64 y] 25)).cell? ⟨w4.heap.size, 0, none⟩ = some (.int .i64 x) ∧ (w4.alloc (.cells #[.int .i64 x, .int .i64 y] 25)).cell? ⟨w4.heap.size, 1, none⟩ = some (.int .i64 y) ∧ (w4.alloc (.cells #[.int .i64 x, .int .i64 y] 25)).cell? ⟨w.heap.size + 1 + 1 + 1, 0, none⟩ = some (.int .i64 0) ∧ (w4.alloc (.cells #[.int .i64 x, .int .i64 y] 25)).cell? ⟨w.heap.size + 1 + 1 + 1, 1, none⟩ = some (.int .i64 0) ∧ (w4.alloc (.cells #[.int .i64 x, .int .i64 y] 25)).frozen? ⟨w.heap.size + 1 + 1 + 1, 0, none⟩ = false ∧ (w4.alloc (.cells #[.int .i64 x, .int .i64 y] 25)).frozen? ⟨w.heap.size + 1 + 1 + 1, 1, none⟩ = false ∧ Below w.heap.size w (w4.alloc (.cells #[.int .i64 x, .int .i64 y] 25)) := ⟨Rg.keep hbz z4_1 (Rg.keep hb4 z3_1 (Rg.keep hb3 z2_1 (Rg.keep hb2 z1_1 (Rg.keep hb1 (by simp <;> omega) (by go_cell))))), Rg.keep hbz z4_1 (Rg.keep hb4 z3_1 (Rg.keep hb3 z2_1 (Rg.keep hb2 z1_1 (Rg.keep hb1 (by simp <;> omega) (by go_cell))))), Rg.keep hbz z4_1 (Rg.keep hb4 z3_1 (Rg.keep hb3 z2_1 (Rg.keep hb2 z1_1 (Rg.keep hb1 (by simp <;> omega) (by go_cell))))), Rg.keep hbz z4_1 (Rg.keep hb4 z3_1 (Rg.keep hb3 z2_1 (Rg.keep hb2 z1_1 (Rg.keep hb1 (by simp <;> omega) (by go_cell))))), Rg.keep hbz z4_1 (Rg.keep hb4 z3_1 (Rg.keep hb3 z2_1 (Rg.keep hb2 z1_1 (Rg.keep hb1 (by simp <;> omega) (by go_cell))))), (by go_cell), (by go_cell), Rg.keep hbz z4_3 (Rg.keep hb4 z3_3 (Rg.keep hb3 z2_3 (Rg.keep hb2 z1_3 (Rg.keep hb1 (by simp <;> omega) (by go_cell))))), Rg.keep hbz z4_3 (Rg.keep hb4 z3_3 (Rg.keep hb3 z2_3 (Rg.keep hb2 z1_3 (Rg.keep hb1 (by simp <;> omega) (by go_cell))))), Rg.keepF hbz z4_3 (Rg.keepF hb4 z3_3 (Rg.keepF hb3 z2_3 (Rg.keepF hb2 z1_3 (Rg.keepF hb1 (by simp <;> omega) (by simp only [frozen?_alloc_cells]; exact Rg.notFrozen (by omega)))))), Rg.keepF hbz z4_3 (Rg.keepF hb4 z3_3 (Rg.keepF hb3 z2_3 (Rg.keepF hb2 z1_3 (Rg.keepF hb1 (by simp <;> omega) (by simp only [frozen?_alloc_cells]; exact Rg.notFrozen (by omega)))))), K4.trans (hbz.mono (Nat.le_of_lt z4_0))⟩
  generalize (w4.alloc (.cells #[.int .i64 x, .int .i64 y] 25)) = z at *
  have HS : Hid (∀ u u' : World, (u.cell? ⟨w.heap.size + 1, 0, none⟩ = some (.int .i64 K') ∧ u.cell? ⟨w.heap.size + 1, 1, none⟩ = some (.int .i64 B') ∧ u.cell? ⟨w.heap.size + 1, 2, none⟩ = some (.int .i64 F') ∧ u.cell? ⟨w.heap.size + 1, 3, none⟩ = some (.int .i64 R') ∧ u.cell? ⟨w.heap.size + 1, 4, none⟩ = some (.int .i64 O') ∧ u.cell? ⟨w4.heap.size, 0, none⟩ = some (.int .i64 x) ∧ u.cell? ⟨w4.heap.size, 1, none⟩ = some (.int .i64 y) ∧ u.cell? ⟨w.heap.size + 1 + 1 + 1, 0, none⟩ = some (.int .i64 0) ∧ u.cell? ⟨w.heap.size + 1 + 1 + 1, 1, none⟩ = some (.int .i64 0) ∧ u.frozen? ⟨w.heap.size + 1 + 1 + 1, 0, none⟩ = false ∧ u.frozen? ⟨w.heap.size + 1 + 1 + 1, 1, none⟩ = false ∧ Below w.heap.size w u) → Below u.heap.size u u' → (u'.cell? ⟨w.heap.size + 1, 0, none⟩ = some (.int .i64 K') ∧ u'.cell? ⟨w.heap.size + 1, 1, none⟩ = some (.int .i64 B') ∧ u'.cell? ⟨w.heap.size + 1, 2, none⟩ = some (.int .i64 F') ∧ u'.cell? ⟨w.heap.size + 1, 3, none⟩ = some (.int .i64 R') ∧ u'.cell? ⟨w.heap.size + 1, 4, none⟩ = some (.int .i64 O') ∧ u'.cell? ⟨w4.heap.size, 0, none⟩ = some (.int .i64 x) ∧ u'.cell? ⟨w4.heap.size, 1, none⟩ = some (.int .i64 y) ∧ u'.cell? ⟨w.heap.size + 1 + 1 + 1, 0, none⟩ = some (.int .i64 0) ∧ u'.cell? ⟨w.heap.size + 1 + 1 + 1, 1, none⟩ = some (.int .i64 0) ∧ u'.frozen? ⟨w.heap.size + 1 + 1 + 1, 0, none⟩ = false ∧ u'.frozen? ⟨w.heap.size + 1 + 1 + 1, 1, none⟩ = false ∧ Below w.heap.size w u')) := Lib.hid (fun u u' h hb => ⟨Rg.keep hb (World.block_lt_of_cell? _ _ h.1) h.1, Rg.keep hb (World.block_lt_of_cell? _ _ h.2.1) h.2.1, Rg.keep hb (World.block_lt_of_cell? _ _ h.2.2.1) h.2.2.1, Rg.keep hb (World.block_lt_of_cell? _ _ h.2.2.2.1) h.2.2.2.1, Rg.keep hb (World.block_lt_of_cell? _ _ h.2.2.2.2.1) h.2.2.2.2.1, Rg.keep hb (World.block_lt_of_cell? _ _ h.2.2.2.2.2.1) h.2.2.2.2.2.1, Rg.keep hb (World.block_lt_of_cell? _ _ h.2.2.2.2.2.2.1) h.2.2.2.2.2.2.1, Rg.keep hb (World.block_lt_of_cell? _ _ h.2.2.2.2.2.2.2.1) h.2.2.2.2.2.2.2.1, Rg.keep hb (World.block_lt_of_cell? _ _ h.2.2.2.2.2.2.2.2.1) h.2.2.2.2.2.2.2.2.1, Rg.keepF hb (World.block_lt_of_cell? _ _ h.2.2.2.2.2.2.2.1) h.2.2.2.2.2.2.2.2.2.1, Rg.keepF hb (World.block_lt_of_cell? _ _ h.2.2.2.2.2.2.2.1) h.2.2.2.2.2.2.2.2.2.2.1, h.2.2.2.2.2.2.2.2.2.2.2.trans (hb.mono h.2.2.2.2.2.2.2.2.2.2.2.size)⟩)
  refine Rk.begin (S := fun wS => wS.cell? ⟨w.heap.size + 1, 0, none⟩ = some (.int .i64 K') ∧ wS.cell? ⟨w.heap.size + 1, 1, none⟩ = some (.int .i64 B') ∧ wS.cell? ⟨w.heap.size + 1, 2, none⟩ = some (.int .i64 F') ∧ wS.cell? ⟨w.heap.size + 1, 3, none⟩ = some (.int .i64 R') ∧ wS.cell? ⟨w.heap.size + 1, 4, none⟩ = some (.int .i64 O') ∧ wS.cell? ⟨w4.heap.size, 0, none⟩ = some (.int .i64 x) ∧ wS.cell? ⟨w4.heap.size, 1, none⟩ = some (.int .i64 y) ∧ wS.cell? ⟨w.heap.size + 1 + 1 + 1, 0, none⟩ = some (.int .i64 0) ∧ wS.cell? ⟨w.heap.size + 1 + 1 + 1, 1, none⟩ = some (.int .i64 0) ∧ wS.frozen? ⟨w.heap.size + 1 + 1 + 1, 0, none⟩ = false ∧ wS.frozen? ⟨w.heap.size + 1 + 1 + 1, 1, none⟩ = false ∧ Below w.heap.size w wS) 12 (by kernel_rfl) (HS.out _ _ hz (Below.drew (Below.refl _ _))) (fun hHeld => ?_)
  refine Rk.take [12] (i := 0) (v := ?_) rfl (by kernel_rfl) (by kernel_rfl) (by kernel_rfl) (by kernel_rfl) (by kernel_rfl) (fun _ _ _ h => h) (Or.inl ⟨by kernel_rfl, ?_⟩) (by assumption) ?_
  rotate_left
  · ((intro w hSw; (try dsimp only at hSw); go_simp) <;> with_reducible rfl)
  try simp only [Act.put, List.setIfInBounds_toArray, List.set_cons_zero, List.set_cons_succ]
  refine Rk.takeP (i := 1) (v := ?_) rfl (by kernel_rfl) (by kernel_rfl) (by kernel_rfl) (by kernel_rfl) (fun _ _ _ h => h) (Or.inl ⟨by kernel_rfl, ?_⟩) (by assumption) ?_
  rotate_left
  · ((intro w hSw; go_simp) <;> with_reducible rfl)
  try simp only [Act.put, List.setIfInBounds_toArray, List.set_cons_zero, List.set_cons_succ]
  refine Rk.take [12] (i := 2) (v := ?_) rfl (by kernel_rfl) (by kernel_rfl) (by kernel_rfl) (by kernel_rfl) (by kernel_rfl) (fun _ _ _ h => h) (Or.inl ⟨by kernel_rfl, ?_⟩) (by assumption) ?_
  rotate_left
  · ((intro w hSw; (try dsimp only at hSw); go_simp) <;> with_reducible rfl)
  try simp only [Act.put, List.setIfInBounds_toArray, List.set_cons_zero, List.set_cons_succ]
  refine Rk.take [12] (i := 3) (v := ?_) rfl (by kernel_rfl) (by kernel_rfl) (by kernel_rfl) (by kernel_rfl) (by kernel_rfl) (fun _ _ _ h => h) (Or.inl ⟨by kernel_rfl, ?_⟩) (by assumption) ?_
  rotate_left
  · ((intro w hSw; (try dsimp only at hSw); go_simp) <;> with_reducible rfl)
  try simp only [Act.put, List.setIfInBounds_toArray, List.set_cons_zero, List.set_cons_succ]
  refine Rk.takeP (i := 6) (v := ?_) rfl (by kernel_rfl) (by kernel_rfl) (by kernel_rfl) (by kernel_rfl) (fun _ _ _ h => h) (Or.inl ⟨by kernel_rfl, ?_⟩) (by assumption) ?_
  rotate_left
  · ((intro w hSw; go_simp) <;> with_reducible rfl)
  try simp only [Act.put, List.setIfInBounds_toArray, List.set_cons_zero, List.set_cons_succ]
  refine Rk.take [12] (i := 7) (v := ?_) rfl (by kernel_rfl) (by kernel_rfl) (by kernel_rfl) (by kernel_rfl) (by kernel_rfl) (fun _ _ _ h => h) (Or.inl ⟨by kernel_rfl, ?_⟩) (by assumption) ?_
  rotate_left
  · ((intro w hSw; (try dsimp only at hSw); go_simp) <;> with_reducible rfl)
  try simp only [Act.put, List.setIfInBounds_toArray, List.set_cons_zero, List.set_cons_succ]
  refine Rk.takeP (i := 8) (v := ?_) rfl (by kernel_rfl) (by kernel_rfl) (by kernel_rfl) (by kernel_rfl) (fun _ _ _ h => h) (Or.inl ⟨by kernel_rfl, ?_⟩) (by assumption) ?_
  rotate_left
  · ((intro w hSw; go_simp) <;> with_reducible rfl)
  try simp only [Act.put, List.setIfInBounds_toArray, List.set_cons_zero, List.set_cons_succ]
  refine Rk.take [12] (i := 9) (v := ?_) rfl (by kernel_rfl) (by kernel_rfl) (by kernel_rfl) (by kernel_rfl) (by kernel_rfl) (fun _ _ _ h => h) (Or.inl ⟨by kernel_rfl, ?_⟩) (by assumption) ?_
  rotate_left
  · ((intro w hSw; (try dsimp only at hSw); go_simp) <;> with_reducible rfl)
  try simp only [Act.put, List.setIfInBounds_toArray, List.set_cons_zero, List.set_cons_succ]
  refine Rk.one (i := 4) (by kernel_rfl) rfl (fun KK hK => ?_)
  rw [if_pos (by kernel_rfl)]
  go_simp
  ((with_reducible refine (SP.out _).mono ?_); rintro e u ⟨rfl, hb⟩)
  first | (refine hK.out _ _ (fun _ => HS.out _ _ hHeld hb) (fun hHeld => ?_)) | (refine hK.out _ _ (HS.out _ _ hHeld hb) (fun hHeld => ?_)) | (go_wp2_with fail; refine hK.out _ _ (HS.out _ _ hHeld hb) (fun hHeld => ?_))
  clear hK KK
  refine Rk.takeP (i := 5) (v := ?_) rfl (by kernel_rfl) (by kernel_rfl) (by kernel_rfl) (by kernel_rfl) (fun _ _ _ h => h) (Or.inl ⟨by kernel_rfl, ?_⟩) (by assumption) ?_
  rotate_left
  · ((intro w hSw; go_simp) <;> with_reducible rfl)
  try simp only [Act.put, List.setIfInBounds_toArray, List.set_cons_zero, List.set_cons_succ]
  refine Rk.one (i := 10) (by kernel_rfl) rfl (fun KK hK => ?_)
  rw [if_pos (by kernel_rfl)]
  go_simp
  ((with_reducible refine (RO.out _).mono ?_); rintro e u9 ⟨rfl, rfl⟩)
  first | (refine hK.out _ _ (fun _ => hHeld) (fun hHeld => ?_)) | (refine hK.out _ _ hHeld (fun hHeld => ?_)) | (go_wp2_with fail; refine hK.out _ _ hHeld (fun hHeld => ?_))
  clear hK KK
  refine Rk.one (i := 11) (by kernel_rfl) rfl (fun KK hK => ?_)
  rw [if_pos (by kernel_rfl)]
  go_simp
  ((with_reducible refine (FT.out _).mono ?_); rintro e u ⟨rfl, hb⟩)
  first | (refine hK.out _ _ (fun _ => HS.out _ _ hHeld hb) (fun hHeld => ?_)) | (refine hK.out _ _ (HS.out _ _ hHeld hb) (fun hHeld => ?_)) | (go_wp2_with fail; refine hK.out _ _ (HS.out _ _ hHeld hb) (fun hHeld => ?_))
  clear hK KK
  refine Rk.tail [12, 13] [_, _] (by kernel_rfl) (by kernel_rfl) rfl (by decide) ?_
  obtain ⟨t0, t1, t2, t3, t4, x0, x1, r0, r1, fr0, fr1, K9⟩ := hHeld
  clear hz HS
  have q2 : w.heap.size + 1 + 1 + 1 < u.heap.size := World.block_lt_of_cell? _ _ r0
  go_wp2
  refine bodyPost_ret (v := Frac3 q 1 0) (by simp [results, Tryd.results17, go_sem, x0, x1, r0, r1, fr0, fr1, q2]) rfl ⟨rfl, ?_⟩; (repeat' (first | (with_reducible exact Below.refl _ _) | (with_reducible exact K9) | (with_reducible refine Below.alloc ?_ ?_ _) | (with_reducible refine Below.setCell ?_ ?_ _) | (with_reducible refine below_drewN ?_ _) | (simp; done) | omega | (simp; omega)))
set_option maxHeartbeats 8000000 in
theorem r_cast (K B F R O K' B' F' R' O' n d : Int) (w : World) :
    Calls Tryd.prog 17 #[T5 K B F R O, T5 K' B' F' R' O', V2 n d] w (Ret (F3 (cav K B F R O K' B' F' R' O' n d)) w) := by
  have T1 := Lib.hid fun w => b_ty K B F R O w
  cases h1 : ty K B F R O
  · rw [show cav K B F R O K' B' F' R' O' n d = (0, 0, 10) by unfold cav; rw [if_pos (Or.inl h1)]]
    rw [h1] at T1
    clear h1
    go_enter Tryd.func17, Tryd.ntmps17
    go_wp2_with (first | (go_at_call 22; (with_reducible refine (T1.out _).mono ?_); rintro e w1 ⟨rfl, hb1⟩; have hc1 := (bcell hb1).1; have hf1 := (bcell hb1).2; have z1_0 : w.heap.size < w1.heap.size := (by have hzz := hb1.size; (try simp at hzz); omega); have z1_1 : w.heap.size + 1 < w1.heap.size := (by have hzz := hb1.size; (try simp at hzz); omega); have z1_2 : w.heap.size + 1 + 1 < w1.heap.size := (by have hzz := hb1.size; (try simp at hzz); omega); have z1_3 : w.heap.size + 1 + 1 + 1 < w1.heap.size := (by have hzz := hb1.size; (try simp at hzz); omega); have K1 : Below w.heap.size w w1 := Below.trans (b := _) (by (repeat' (first | (with_reducible exact Below.refl _ _) | (with_reducible refine Below.alloc ?_ ?_ _) | (with_reducible refine Below.setCell ?_ ?_ _) | (with_reducible refine below_drewN ?_ _) | (simp; done) | omega | (simp; omega)))) (hb1.mono (by have hzz := hb1.size; (try simp at hzz); first | omega | (simp; done) | (simp; omega)))))
    refine bodyPost_ret (v := Frac3 0 0 10) (by simp [results, Tryd.results17, go_sem, hc1, hf1, z1_0, Nat.lt_succ_of_lt z1_0, Nat.ne_of_lt z1_0, Nat.ne_of_gt z1_0, z1_1, Nat.lt_succ_of_lt z1_1, Nat.ne_of_lt z1_1, Nat.ne_of_gt z1_1, z1_2, Nat.lt_succ_of_lt z1_2, Nat.ne_of_lt z1_2, Nat.ne_of_gt z1_2, z1_3, Nat.lt_succ_of_lt z1_3, Nat.ne_of_lt z1_3, Nat.ne_of_gt z1_3]) rfl ⟨rfl, ?_⟩; (repeat' (first | (with_reducible exact Below.refl _ _) | (with_reducible exact K1) | (with_reducible refine Below.alloc ?_ ?_ _) | (with_reducible refine Below.setCell ?_ ?_ _) | (with_reducible refine below_drewN ?_ _) | (simp; done) | omega | (simp; omega)))
  rw [h1] at T1
  have T2 := Lib.hid fun w => b_ty K' B' F' R' O' w
  cases h2 : ty K' B' F' R' O'
  · rw [show cav K B F R O K' B' F' R' O' n d = (0, 0, 10) by unfold cav; rw [if_pos (Or.inr h2)]]
    rw [h2] at T2
    clear h1 h2
    go_enter Tryd.func17, Tryd.ntmps17
    go_wp2_with fail
    (with_reducible refine (T1.out _).mono ?_); rintro e w1 ⟨rfl, hb1⟩; have hc1 := (bcell hb1).1; have hf1 := (bcell hb1).2; have z1_0 : w.heap.size < w1.heap.size := (by have hzz := hb1.size; (try simp at hzz); omega); have z1_1 : w.heap.size + 1 < w1.heap.size := (by have hzz := hb1.size; (try simp at hzz); omega); have z1_2 : w.heap.size + 1 + 1 < w1.heap.size := (by have hzz := hb1.size; (try simp at hzz); omega); have z1_3 : w.heap.size + 1 + 1 + 1 < w1.heap.size := (by have hzz := hb1.size; (try simp at hzz); omega); have K1 : Below w.heap.size w w1 := Below.trans (b := _) (by (repeat' (first | (with_reducible exact Below.refl _ _) | (with_reducible refine Below.alloc ?_ ?_ _) | (with_reducible refine Below.setCell ?_ ?_ _) | (with_reducible refine below_drewN ?_ _) | (simp; done) | omega | (simp; omega)))) (hb1.mono (by have hzz := hb1.size; (try simp at hzz); first | omega | (simp; done) | (simp; omega)))
    go_wp2_with fail
    (with_reducible refine (T2.out _).mono ?_); rintro e w2 ⟨rfl, hb2⟩; have hc2 := (bcell hb2).1; have hf2 := (bcell hb2).2; have z2_0 : w.heap.size < w2.heap.size := (by have hzz := hb2.size; (try simp at hzz); omega); have z2_1 : w.heap.size + 1 < w2.heap.size := (by have hzz := hb2.size; (try simp at hzz); omega); have z2_2 : w.heap.size + 1 + 1 < w2.heap.size := (by have hzz := hb2.size; (try simp at hzz); omega); have z2_3 : w.heap.size + 1 + 1 + 1 < w2.heap.size := (by have hzz := hb2.size; (try simp at hzz); omega); have K2 : Below w.heap.size w w2 := Below.trans (b := _) (by (repeat' (first | (with_reducible exact Below.refl _ _) | (with_reducible exact K1) | (with_reducible refine Below.alloc ?_ ?_ _) | (with_reducible refine Below.setCell ?_ ?_ _) | (with_reducible refine below_drewN ?_ _) | (simp; done) | omega | (simp; omega)))) (hb2.mono (by have hzz := hb2.size; (try simp at hzz); first | omega | (simp; done) | (simp; omega)))
    go_wp2
    refine bodyPost_ret (v := Frac3 0 0 10) (by simp [results, Tryd.results17, go_sem, hc1, hf1, hc2, hf2, z1_0, Nat.lt_succ_of_lt z1_0, Nat.ne_of_lt z1_0, Nat.ne_of_gt z1_0, z1_1, Nat.lt_succ_of_lt z1_1, Nat.ne_of_lt z1_1, Nat.ne_of_gt z1_1, z1_2, Nat.lt_succ_of_lt z1_2, Nat.ne_of_lt z1_2, Nat.ne_of_gt z1_2, z1_3, Nat.lt_succ_of_lt z1_3, Nat.ne_of_lt z1_3, Nat.ne_of_gt z1_3, z2_0, Nat.lt_succ_of_lt z2_0, Nat.ne_of_lt z2_0, Nat.ne_of_gt z2_0, z2_1, Nat.lt_succ_of_lt z2_1, Nat.ne_of_lt z2_1, Nat.ne_of_gt z2_1, z2_2, Nat.lt_succ_of_lt z2_2, Nat.ne_of_lt z2_2, Nat.ne_of_gt z2_2, z2_3, Nat.lt_succ_of_lt z2_3, Nat.ne_of_lt z2_3, Nat.ne_of_gt z2_3]) rfl ⟨rfl, ?_⟩; (repeat' (first | (with_reducible exact Below.refl _ _) | (with_reducible exact K1) | (with_reducible exact K2) | (with_reducible refine Below.alloc ?_ ?_ _) | (with_reducible refine Below.setCell ?_ ?_ _) | (with_reducible refine below_drewN ?_ _) | (simp; done) | omega | (simp; omega)))
  rw [h2] at T2
  have HA : Hid (∀ r, (if vv K B F R O n d = false then (0, 0, 1) else if K' = 3 then ((rat K F n d).1 / (rat K F n d).2, 1, 0)
      else if K' = 2 then (Nx.nv (Dv.dval R' ((rat K F n d).1 * 2 ^ F'.toNat) (rat K F n d).2) B' O', 1, 0) else ((rat K F n d).1, (rat K F n d).2, 0) : A3) = r → cav K B F R O K' B' F' R' O' n d = r) := Lib.hid fun r hr => by
    unfold cav
    rw [if_neg (by rw [h1, h2]; decide)]
    exact hr
  have VA := Lib.hid fun w => b_vv K B F R O n d w h1
  cases h3 : vv K B F R O n d
  · rw [HA.out (0, 0, 1) (by rw [if_pos h3])]
    rw [h3] at VA
    clear h1 h2 h3 HA
    go_enter Tryd.func17, Tryd.ntmps17
    go_wp2_with fail
    (with_reducible refine (T1.out _).mono ?_); rintro e w1 ⟨rfl, hb1⟩; have hc1 := (bcell hb1).1; have hf1 := (bcell hb1).2; have z1_0 : w.heap.size < w1.heap.size := (by have hzz := hb1.size; (try simp at hzz); omega); have z1_1 : w.heap.size + 1 < w1.heap.size := (by have hzz := hb1.size; (try simp at hzz); omega); have z1_2 : w.heap.size + 1 + 1 < w1.heap.size := (by have hzz := hb1.size; (try simp at hzz); omega); have z1_3 : w.heap.size + 1 + 1 + 1 < w1.heap.size := (by have hzz := hb1.size; (try simp at hzz); omega); have K1 : Below w.heap.size w w1 := Below.trans (b := _) (by (repeat' (first | (with_reducible exact Below.refl _ _) | (with_reducible refine Below.alloc ?_ ?_ _) | (with_reducible refine Below.setCell ?_ ?_ _) | (with_reducible refine below_drewN ?_ _) | (simp; done) | omega | (simp; omega)))) (hb1.mono (by have hzz := hb1.size; (try simp at hzz); first | omega | (simp; done) | (simp; omega)))
    go_wp2_with fail
    (with_reducible refine (T2.out _).mono ?_); rintro e w2 ⟨rfl, hb2⟩; have hc2 := (bcell hb2).1; have hf2 := (bcell hb2).2; have z2_0 : w.heap.size < w2.heap.size := (by have hzz := hb2.size; (try simp at hzz); omega); have z2_1 : w.heap.size + 1 < w2.heap.size := (by have hzz := hb2.size; (try simp at hzz); omega); have z2_2 : w.heap.size + 1 + 1 < w2.heap.size := (by have hzz := hb2.size; (try simp at hzz); omega); have z2_3 : w.heap.size + 1 + 1 + 1 < w2.heap.size := (by have hzz := hb2.size; (try simp at hzz); omega); have K2 : Below w.heap.size w w2 := Below.trans (b := _) (by (repeat' (first | (with_reducible exact Below.refl _ _) | (with_reducible exact K1) | (with_reducible refine Below.alloc ?_ ?_ _) | (with_reducible refine Below.setCell ?_ ?_ _) | (with_reducible refine below_drewN ?_ _) | (simp; done) | omega | (simp; omega)))) (hb2.mono (by have hzz := hb2.size; (try simp at hzz); first | omega | (simp; done) | (simp; omega)))
    go_wp2_with (first | (go_at_call 24; (with_reducible refine (VA.out _).mono ?_); rintro e w3 ⟨rfl, hb3⟩; have hc3 := (bcell hb3).1; have hf3 := (bcell hb3).2; have z3_0 : w.heap.size < w3.heap.size := (by have hzz := hb3.size; (try simp at hzz); omega); have z3_1 : w.heap.size + 1 < w3.heap.size := (by have hzz := hb3.size; (try simp at hzz); omega); have z3_2 : w.heap.size + 1 + 1 < w3.heap.size := (by have hzz := hb3.size; (try simp at hzz); omega); have z3_3 : w.heap.size + 1 + 1 + 1 < w3.heap.size := (by have hzz := hb3.size; (try simp at hzz); omega); have K3 : Below w.heap.size w w3 := Below.trans (b := _) (by (repeat' (first | (with_reducible exact Below.refl _ _) | (with_reducible exact K1) | (with_reducible exact K2) | (with_reducible refine Below.alloc ?_ ?_ _) | (with_reducible refine Below.setCell ?_ ?_ _) | (with_reducible refine below_drewN ?_ _) | (simp; done) | omega | (simp; omega)))) (hb3.mono (by have hzz := hb3.size; (try simp at hzz); first | omega | (simp; done) | (simp; omega)))))
    refine bodyPost_ret (v := Frac3 0 0 1) (by simp [results, Tryd.results17, go_sem, hc1, hf1, hc2, hf2, hc3, hf3, z1_0, Nat.lt_succ_of_lt z1_0, Nat.ne_of_lt z1_0, Nat.ne_of_gt z1_0, z1_1, Nat.lt_succ_of_lt z1_1, Nat.ne_of_lt z1_1, Nat.ne_of_gt z1_1, z1_2, Nat.lt_succ_of_lt z1_2, Nat.ne_of_lt z1_2, Nat.ne_of_gt z1_2, z1_3, Nat.lt_succ_of_lt z1_3, Nat.ne_of_lt z1_3, Nat.ne_of_gt z1_3, z2_0, Nat.lt_succ_of_lt z2_0, Nat.ne_of_lt z2_0, Nat.ne_of_gt z2_0, z2_1, Nat.lt_succ_of_lt z2_1, Nat.ne_of_lt z2_1, Nat.ne_of_gt z2_1, z2_2, Nat.lt_succ_of_lt z2_2, Nat.ne_of_lt z2_2, Nat.ne_of_gt z2_2, z2_3, Nat.lt_succ_of_lt z2_3, Nat.ne_of_lt z2_3, Nat.ne_of_gt z2_3, z3_0, Nat.lt_succ_of_lt z3_0, Nat.ne_of_lt z3_0, Nat.ne_of_gt z3_0, z3_1, Nat.lt_succ_of_lt z3_1, Nat.ne_of_lt z3_1, Nat.ne_of_gt z3_1, z3_2, Nat.lt_succ_of_lt z3_2, Nat.ne_of_lt z3_2, Nat.ne_of_gt z3_2, z3_3, Nat.lt_succ_of_lt z3_3, Nat.ne_of_lt z3_3, Nat.ne_of_gt z3_3]) rfl ⟨rfl, ?_⟩; (repeat' (first | (with_reducible exact Below.refl _ _) | (with_reducible exact K1) | (with_reducible exact K2) | (with_reducible exact K3) | (with_reducible refine Below.alloc ?_ ?_ _) | (with_reducible refine Below.setCell ?_ ?_ _) | (with_reducible refine below_drewN ?_ _) | (simp; done) | omega | (simp; omega)))
  rw [h3] at VA
  have HA2 := fun r h => HA.out r (by rw [if_neg (by rw [h3]; decide)]; exact h)
  have RA := Lib.hid fun w => r_value K B F R O n d w h3
  have RV := rat_vld h3
  clear HA h3
  generalize (rat K F n d).1 = x at *
  generalize (rat K F n d).2 = y at *
  obtain ⟨y0, y1, z0, z1, _⟩ := vld_parts RV
  by_cases k3 : K' = 3
  · rw [HA2 (x / y, 1, 0) (by rw [if_pos k3])]
    have FL := Lib.hid fun w => r_floor x y w (by omega) (by omega) y0 (by omega)
    rw [(dval_floor (by omega) (by omega)).1] at FL
    have o3 : (K' == 3) = true := by simpa using k3
    obtain ⟨q, hq⟩ : ∃ q, x / y = q := ⟨_, rfl⟩
    rw [hq] at FL ⊢
    clear h1 h2 HA2 RV k3 hq y0 y1 z0 z1
    go_enter Tryd.func17, Tryd.ntmps17
    go_wp2_with fail
    (with_reducible refine (T1.out _).mono ?_); rintro e w1 ⟨rfl, hb1⟩; have hc1 := (bcell hb1).1; have hf1 := (bcell hb1).2; have z1_0 : w.heap.size < w1.heap.size := (by have hzz := hb1.size; (try simp at hzz); omega); have z1_1 : w.heap.size + 1 < w1.heap.size := (by have hzz := hb1.size; (try simp at hzz); omega); have z1_2 : w.heap.size + 1 + 1 < w1.heap.size := (by have hzz := hb1.size; (try simp at hzz); omega); have z1_3 : w.heap.size + 1 + 1 + 1 < w1.heap.size := (by have hzz := hb1.size; (try simp at hzz); omega); have K1 : Below w.heap.size w w1 := Below.trans (b := _) (by (repeat' (first | (with_reducible exact Below.refl _ _) | (with_reducible refine Below.alloc ?_ ?_ _) | (with_reducible refine Below.setCell ?_ ?_ _) | (with_reducible refine below_drewN ?_ _) | (simp; done) | omega | (simp; omega)))) (hb1.mono (by have hzz := hb1.size; (try simp at hzz); first | omega | (simp; done) | (simp; omega)))
    go_wp2_with fail
    (with_reducible refine (T2.out _).mono ?_); rintro e w2 ⟨rfl, hb2⟩; have hc2 := (bcell hb2).1; have hf2 := (bcell hb2).2; have z2_0 : w.heap.size < w2.heap.size := (by have hzz := hb2.size; (try simp at hzz); omega); have z2_1 : w.heap.size + 1 < w2.heap.size := (by have hzz := hb2.size; (try simp at hzz); omega); have z2_2 : w.heap.size + 1 + 1 < w2.heap.size := (by have hzz := hb2.size; (try simp at hzz); omega); have z2_3 : w.heap.size + 1 + 1 + 1 < w2.heap.size := (by have hzz := hb2.size; (try simp at hzz); omega); have K2 : Below w.heap.size w w2 := Below.trans (b := _) (by (repeat' (first | (with_reducible exact Below.refl _ _) | (with_reducible exact K1) | (with_reducible refine Below.alloc ?_ ?_ _) | (with_reducible refine Below.setCell ?_ ?_ _) | (with_reducible refine below_drewN ?_ _) | (simp; done) | omega | (simp; omega)))) (hb2.mono (by have hzz := hb2.size; (try simp at hzz); first | omega | (simp; done) | (simp; omega)))
    go_wp2_with (first | (go_at_call 24; (with_reducible refine (VA.out _).mono ?_); rintro e w3 ⟨rfl, hb3⟩; have hc3 := (bcell hb3).1; have hf3 := (bcell hb3).2; have z3_0 : w.heap.size < w3.heap.size := (by have hzz := hb3.size; (try simp at hzz); omega); have z3_1 : w.heap.size + 1 < w3.heap.size := (by have hzz := hb3.size; (try simp at hzz); omega); have z3_2 : w.heap.size + 1 + 1 < w3.heap.size := (by have hzz := hb3.size; (try simp at hzz); omega); have z3_3 : w.heap.size + 1 + 1 + 1 < w3.heap.size := (by have hzz := hb3.size; (try simp at hzz); omega); have K3 : Below w.heap.size w w3 := Below.trans (b := _) (by (repeat' (first | (with_reducible exact Below.refl _ _) | (with_reducible exact K1) | (with_reducible exact K2) | (with_reducible refine Below.alloc ?_ ?_ _) | (with_reducible refine Below.setCell ?_ ?_ _) | (with_reducible refine below_drewN ?_ _) | (simp; done) | omega | (simp; omega)))) (hb3.mono (by have hzz := hb3.size; (try simp at hzz); first | omega | (simp; done) | (simp; omega)))) | (go_at_call 33; (with_reducible refine (RA.out _).mono ?_); rintro e w4 ⟨rfl, hb4⟩; have hc4 := (bcell hb4).1; have hf4 := (bcell hb4).2; have z4_0 : w.heap.size < w4.heap.size := (by have hzz := hb4.size; (try simp at hzz); omega); have z4_1 : w.heap.size + 1 < w4.heap.size := (by have hzz := hb4.size; (try simp at hzz); omega); have z4_2 : w.heap.size + 1 + 1 < w4.heap.size := (by have hzz := hb4.size; (try simp at hzz); omega); have z4_3 : w.heap.size + 1 + 1 + 1 < w4.heap.size := (by have hzz := hb4.size; (try simp at hzz); omega); have K4 : Below w.heap.size w w4 := Below.trans (b := _) (by (repeat' (first | (with_reducible exact Below.refl _ _) | (with_reducible exact K1) | (with_reducible exact K2) | (with_reducible exact K3) | (with_reducible refine Below.alloc ?_ ?_ _) | (with_reducible refine Below.setCell ?_ ?_ _) | (with_reducible refine below_drewN ?_ _) | (simp; done) | omega | (simp; omega)))) (hb4.mono (by have hzz := hb4.size; (try simp at hzz); first | omega | (simp; done) | (simp; omega)))) | (go_at_call 34; (with_reducible refine (FL.out _).mono ?_); rintro e w9 ⟨rfl, rfl⟩))
    refine bodyPost_ret (v := Frac3 q 1 0) (by simp [results, Tryd.results17, go_sem, hc1, hf1, hc2, hf2, hc3, hf3, hc4, hf4, z1_0, Nat.lt_succ_of_lt z1_0, Nat.ne_of_lt z1_0, Nat.ne_of_gt z1_0, z1_1, Nat.lt_succ_of_lt z1_1, Nat.ne_of_lt z1_1, Nat.ne_of_gt z1_1, z1_2, Nat.lt_succ_of_lt z1_2, Nat.ne_of_lt z1_2, Nat.ne_of_gt z1_2, z1_3, Nat.lt_succ_of_lt z1_3, Nat.ne_of_lt z1_3, Nat.ne_of_gt z1_3, z2_0, Nat.lt_succ_of_lt z2_0, Nat.ne_of_lt z2_0, Nat.ne_of_gt z2_0, z2_1, Nat.lt_succ_of_lt z2_1, Nat.ne_of_lt z2_1, Nat.ne_of_gt z2_1, z2_2, Nat.lt_succ_of_lt z2_2, Nat.ne_of_lt z2_2, Nat.ne_of_gt z2_2, z2_3, Nat.lt_succ_of_lt z2_3, Nat.ne_of_lt z2_3, Nat.ne_of_gt z2_3, z3_0, Nat.lt_succ_of_lt z3_0, Nat.ne_of_lt z3_0, Nat.ne_of_gt z3_0, z3_1, Nat.lt_succ_of_lt z3_1, Nat.ne_of_lt z3_1, Nat.ne_of_gt z3_1, z3_2, Nat.lt_succ_of_lt z3_2, Nat.ne_of_lt z3_2, Nat.ne_of_gt z3_2, z3_3, Nat.lt_succ_of_lt z3_3, Nat.ne_of_lt z3_3, Nat.ne_of_gt z3_3, z4_0, Nat.lt_succ_of_lt z4_0, Nat.ne_of_lt z4_0, Nat.ne_of_gt z4_0, z4_1, Nat.lt_succ_of_lt z4_1, Nat.ne_of_lt z4_1, Nat.ne_of_gt z4_1, z4_2, Nat.lt_succ_of_lt z4_2, Nat.ne_of_lt z4_2, Nat.ne_of_gt z4_2, z4_3, Nat.lt_succ_of_lt z4_3, Nat.ne_of_lt z4_3, Nat.ne_of_gt z4_3]) rfl ⟨rfl, ?_⟩; (repeat' (first | (with_reducible exact Below.refl _ _) | (with_reducible exact K1) | (with_reducible exact K2) | (with_reducible exact K3) | (with_reducible exact K4) | (with_reducible refine Below.alloc ?_ ?_ _) | (with_reducible refine Below.setCell ?_ ?_ _) | (with_reducible refine below_drewN ?_ _) | (simp; done) | omega | (simp; omega)))
  rw [if_neg k3] at HA2
  have o3 : (K' == 3) = false := by simpa using k3
  by_cases k2 : K' = 2
  · have ht : tv K' B' F' R' O' = true := by
      rcases ty_cases K' B' F' R' O' with ⟨_, h3 | h3⟩ | ⟨h3, _⟩
      · exact h3.2
      · exact absurd k2 (by omega)
      · rw [h2] at h3; cases h3
    obtain ⟨-, -, -, f0, f1, m0, m1, -⟩ := tv_parts ht
    obtain ⟨p0, p1⟩ := two_pow F' f0 f1
    rw [HA2 (Nx.nv (Dv.dval R' (x * 2 ^ F'.toNat) y) B' O', 1, 0) (by rw [if_pos k2])]
    obtain ⟨p, hp⟩ : ∃ p, (2 : Int) ^ F'.toNat = p := ⟨_, rfl⟩
    rw [hp] at p0 p1 ⊢
    obtain ⟨s0, s1⟩ := pb x p (by omega) (by omega)
    have hw : IntKind.i64.wrap (x * p) = x * p := by
      generalize x * p = s at *
      exact IntWalk.i64_in _ ⟨by omega, by omega⟩
    have RO := Lib.hid fun w => r_round (x * p) y R' w m0 m1 (by omega) (by omega) y0 (by omega)
    obtain ⟨q0, q1⟩ := dval_bound R' (x * p) y m0 m1 s0 s1 (by omega)
    have RO2 : Hid (∀ w, Calls Tryd.prog 36 #[.int .i64 (IntKind.i64.wrap (x * p)), .int .i64 y, .int .i64 R'] w fun e w' => e = .returned (.int .i64 (Dv.dval R' (x * p) y)) ∧ w = w') := by rw [hw]; exact RO
    have FT := Lib.hid fun w => r_fit K' B' F' R' O' (Dv.dval R' (x * p) y) w ht (by omega) (by omega)
    exact r_castf K B F R O K' B' F' R' O' n d x y _ p _ 0 w o3 (by simpa using k2) T1 T2 VA RA (Lib.hid fun w => step_any K' B' F' R' O' p w f0 f1 hp p0 p1) RO2 FT
  rw [HA2 (x, y, 0) (by rw [if_neg k2])]
  have o2 : (K' == 2) = false := by simpa using k2
  clear h1 h2 HA2 RV k3 k2 y0 y1 z0 z1
  go_enter Tryd.func17, Tryd.ntmps17
  go_wp2_with fail
  (with_reducible refine (T1.out _).mono ?_); rintro e w1 ⟨rfl, hb1⟩; have hc1 := (bcell hb1).1; have hf1 := (bcell hb1).2; have z1_0 : w.heap.size < w1.heap.size := (by have hzz := hb1.size; (try simp at hzz); omega); have z1_1 : w.heap.size + 1 < w1.heap.size := (by have hzz := hb1.size; (try simp at hzz); omega); have z1_2 : w.heap.size + 1 + 1 < w1.heap.size := (by have hzz := hb1.size; (try simp at hzz); omega); have z1_3 : w.heap.size + 1 + 1 + 1 < w1.heap.size := (by have hzz := hb1.size; (try simp at hzz); omega); have K1 : Below w.heap.size w w1 := Below.trans (b := _) (by (repeat' (first | (with_reducible exact Below.refl _ _) | (with_reducible refine Below.alloc ?_ ?_ _) | (with_reducible refine Below.setCell ?_ ?_ _) | (with_reducible refine below_drewN ?_ _) | (simp; done) | omega | (simp; omega)))) (hb1.mono (by have hzz := hb1.size; (try simp at hzz); first | omega | (simp; done) | (simp; omega)))
  go_wp2_with fail
  (with_reducible refine (T2.out _).mono ?_); rintro e w2 ⟨rfl, hb2⟩; have hc2 := (bcell hb2).1; have hf2 := (bcell hb2).2; have z2_0 : w.heap.size < w2.heap.size := (by have hzz := hb2.size; (try simp at hzz); omega); have z2_1 : w.heap.size + 1 < w2.heap.size := (by have hzz := hb2.size; (try simp at hzz); omega); have z2_2 : w.heap.size + 1 + 1 < w2.heap.size := (by have hzz := hb2.size; (try simp at hzz); omega); have z2_3 : w.heap.size + 1 + 1 + 1 < w2.heap.size := (by have hzz := hb2.size; (try simp at hzz); omega); have K2 : Below w.heap.size w w2 := Below.trans (b := _) (by (repeat' (first | (with_reducible exact Below.refl _ _) | (with_reducible exact K1) | (with_reducible refine Below.alloc ?_ ?_ _) | (with_reducible refine Below.setCell ?_ ?_ _) | (with_reducible refine below_drewN ?_ _) | (simp; done) | omega | (simp; omega)))) (hb2.mono (by have hzz := hb2.size; (try simp at hzz); first | omega | (simp; done) | (simp; omega)))
  go_wp2_with (first | (go_at_call 24; (with_reducible refine (VA.out _).mono ?_); rintro e w3 ⟨rfl, hb3⟩; have hc3 := (bcell hb3).1; have hf3 := (bcell hb3).2; have z3_0 : w.heap.size < w3.heap.size := (by have hzz := hb3.size; (try simp at hzz); omega); have z3_1 : w.heap.size + 1 < w3.heap.size := (by have hzz := hb3.size; (try simp at hzz); omega); have z3_2 : w.heap.size + 1 + 1 < w3.heap.size := (by have hzz := hb3.size; (try simp at hzz); omega); have z3_3 : w.heap.size + 1 + 1 + 1 < w3.heap.size := (by have hzz := hb3.size; (try simp at hzz); omega); have K3 : Below w.heap.size w w3 := Below.trans (b := _) (by (repeat' (first | (with_reducible exact Below.refl _ _) | (with_reducible exact K1) | (with_reducible exact K2) | (with_reducible refine Below.alloc ?_ ?_ _) | (with_reducible refine Below.setCell ?_ ?_ _) | (with_reducible refine below_drewN ?_ _) | (simp; done) | omega | (simp; omega)))) (hb3.mono (by have hzz := hb3.size; (try simp at hzz); first | omega | (simp; done) | (simp; omega)))) | (go_at_call 33; (with_reducible refine (RA.out _).mono ?_); rintro e w4 ⟨rfl, hb4⟩; have hc4 := (bcell hb4).1; have hf4 := (bcell hb4).2; have z4_0 : w.heap.size < w4.heap.size := (by have hzz := hb4.size; (try simp at hzz); omega); have z4_1 : w.heap.size + 1 < w4.heap.size := (by have hzz := hb4.size; (try simp at hzz); omega); have z4_2 : w.heap.size + 1 + 1 < w4.heap.size := (by have hzz := hb4.size; (try simp at hzz); omega); have z4_3 : w.heap.size + 1 + 1 + 1 < w4.heap.size := (by have hzz := hb4.size; (try simp at hzz); omega); have K4 : Below w.heap.size w w4 := Below.trans (b := _) (by (repeat' (first | (with_reducible exact Below.refl _ _) | (with_reducible exact K1) | (with_reducible exact K2) | (with_reducible exact K3) | (with_reducible refine Below.alloc ?_ ?_ _) | (with_reducible refine Below.setCell ?_ ?_ _) | (with_reducible refine below_drewN ?_ _) | (simp; done) | omega | (simp; omega)))) (hb4.mono (by have hzz := hb4.size; (try simp at hzz); first | omega | (simp; done) | (simp; omega)))))
  refine bodyPost_ret (v := Frac3 x y 0) (by simp [results, Tryd.results17, go_sem, hc1, hf1, hc2, hf2, hc3, hf3, hc4, hf4, z1_0, Nat.lt_succ_of_lt z1_0, Nat.ne_of_lt z1_0, Nat.ne_of_gt z1_0, z1_1, Nat.lt_succ_of_lt z1_1, Nat.ne_of_lt z1_1, Nat.ne_of_gt z1_1, z1_2, Nat.lt_succ_of_lt z1_2, Nat.ne_of_lt z1_2, Nat.ne_of_gt z1_2, z1_3, Nat.lt_succ_of_lt z1_3, Nat.ne_of_lt z1_3, Nat.ne_of_gt z1_3, z2_0, Nat.lt_succ_of_lt z2_0, Nat.ne_of_lt z2_0, Nat.ne_of_gt z2_0, z2_1, Nat.lt_succ_of_lt z2_1, Nat.ne_of_lt z2_1, Nat.ne_of_gt z2_1, z2_2, Nat.lt_succ_of_lt z2_2, Nat.ne_of_lt z2_2, Nat.ne_of_gt z2_2, z2_3, Nat.lt_succ_of_lt z2_3, Nat.ne_of_lt z2_3, Nat.ne_of_gt z2_3, z3_0, Nat.lt_succ_of_lt z3_0, Nat.ne_of_lt z3_0, Nat.ne_of_gt z3_0, z3_1, Nat.lt_succ_of_lt z3_1, Nat.ne_of_lt z3_1, Nat.ne_of_gt z3_1, z3_2, Nat.lt_succ_of_lt z3_2, Nat.ne_of_lt z3_2, Nat.ne_of_gt z3_2, z3_3, Nat.lt_succ_of_lt z3_3, Nat.ne_of_lt z3_3, Nat.ne_of_gt z3_3, z4_0, Nat.lt_succ_of_lt z4_0, Nat.ne_of_lt z4_0, Nat.ne_of_gt z4_0, z4_1, Nat.lt_succ_of_lt z4_1, Nat.ne_of_lt z4_1, Nat.ne_of_gt z4_1, z4_2, Nat.lt_succ_of_lt z4_2, Nat.ne_of_lt z4_2, Nat.ne_of_gt z4_2, z4_3, Nat.lt_succ_of_lt z4_3, Nat.ne_of_lt z4_3, Nat.ne_of_gt z4_3]) rfl ⟨rfl, ?_⟩; (repeat' (first | (with_reducible exact Below.refl _ _) | (with_reducible exact K1) | (with_reducible exact K2) | (with_reducible exact K3) | (with_reducible exact K4) | (with_reducible refine Below.alloc ?_ ?_ _) | (with_reducible refine Below.setCell ?_ ?_ _) | (with_reducible refine below_drewN ?_ _) | (simp; done) | omega | (simp; omega)))
end Go.Proofs.YtikcinkbkakkmaaDoor.Va
