/- The operations of package fixed, each by what it calls. -/
import Derived.Test.YtikcinkbkakkmaaGreatDoorFxC
import Derived.Test.YtikcinkbkakkmaaGreatDoorGB

namespace Go.Proofs.YtikcinkbkakkmaaGreatDoor.Fx
open Go.ChangeShapes Go.WideShapes Go.ChangeAt Go.RowKit
open Fr
set_option linter.unusedVariables false
set_option linter.unusedSimpArgs false
set_option maxHeartbeats 4000000 in
theorem add_any (K B F R O n0 d0 n1 d1 x y e : Int) (w : World) (CB : Hid (∀ w, Calls Tryz.prog 98 #[.agg #[.int .i64 K, .int .i64 B, .int .i64 F, .int .i64 R, .int .i64 O], .agg #[.int .i64 n0, .int .i64 d0], .agg #[.int .i64 n1, .int .i64 d1], .func (.func 99) #[] #[]] w (Ret (Frac3 x y e) w))) :
    Calls Tryz.prog 66 #[.agg #[.int .i64 K, .int .i64 B, .int .i64 F, .int .i64 R, .int .i64 O], .agg #[.int .i64 n0, .int .i64 d0], .agg #[.int .i64 n1, .int .i64 d1]] w (Ret (Frac3 x y e) w) := by
  go_enter Tryz.func66, Tryz.ntmps66
  go_wp2_with fail
  refine (CB.out _).mono ?_
  rintro e w1 ⟨rfl, hb⟩
  have L : Below w.heap.size w w1 := (((((Below.refl _ _).alloc (by simp <;> omega) _).alloc (by simp <;> omega) _).alloc (by simp <;> omega) _).alloc (by simp <;> omega) _).trans (hb.mono (by simp <;> omega))
  have K1 : Below w.heap.size w w1 := L
  have RF0 : w1.frozen? ⟨w.heap.size + 1 + 1 + 1, 0, none⟩ = false := Rg.keepF hb (by simp <;> omega) (by simp only [frozen?_alloc_cells]; exact Rg.notFrozen (by omega))
  have RF1 : w1.frozen? ⟨w.heap.size + 1 + 1 + 1, 1, none⟩ = false := Rg.keepF hb (by simp <;> omega) (by simp only [frozen?_alloc_cells]; exact Rg.notFrozen (by omega))
  have lt : w.heap.size < w1.heap.size := Nat.lt_of_lt_of_le (by simp <;> omega) hb.size
  have t0 : w1.cell? ⟨w.heap.size, 0, none⟩ = some (.int .i64 K) := Rg.keep hb (by simp <;> omega) (by go_cell)
  have t1 : w1.cell? ⟨w.heap.size, 1, none⟩ = some (.int .i64 B) := Rg.keep hb (by simp <;> omega) (by go_cell)
  have t2 : w1.cell? ⟨w.heap.size, 2, none⟩ = some (.int .i64 F) := Rg.keep hb (by simp <;> omega) (by go_cell)
  have t3 : w1.cell? ⟨w.heap.size, 3, none⟩ = some (.int .i64 R) := Rg.keep hb (by simp <;> omega) (by go_cell)
  have t4 : w1.cell? ⟨w.heap.size, 4, none⟩ = some (.int .i64 O) := Rg.keep hb (by simp <;> omega) (by go_cell)
  have la : w.heap.size + 1 < w1.heap.size := Nat.lt_of_lt_of_le (by simp <;> omega) hb.size
  have a0 : w1.cell? ⟨w.heap.size + 1, 0, none⟩ = some (.int .i64 n0) := Rg.keep hb (by simp <;> omega) (by go_cell)
  have a1 : w1.cell? ⟨w.heap.size + 1, 1, none⟩ = some (.int .i64 d0) := Rg.keep hb (by simp <;> omega) (by go_cell)
  have lb : w.heap.size + 1 + 1 < w1.heap.size := Nat.lt_of_lt_of_le (by simp <;> omega) hb.size
  have b0 : w1.cell? ⟨w.heap.size + 1 + 1, 0, none⟩ = some (.int .i64 n1) := Rg.keep hb (by simp <;> omega) (by go_cell)
  have b1 : w1.cell? ⟨w.heap.size + 1 + 1, 1, none⟩ = some (.int .i64 d1) := Rg.keep hb (by simp <;> omega) (by go_cell)
  have lr : w.heap.size + 1 + 1 + 1 < w1.heap.size := Nat.lt_of_lt_of_le (by simp <;> omega) hb.size
  have r0 : w1.cell? ⟨w.heap.size + 1 + 1 + 1, 0, none⟩ = some (.int .i64 0) := Rg.keep hb (by simp <;> omega) (by go_cell)
  have r1 : w1.cell? ⟨w.heap.size + 1 + 1 + 1, 1, none⟩ = some (.int .i64 0) := Rg.keep hb (by simp <;> omega) (by go_cell)
  clear hb L
  have hRC := (⟨⟨_, r0⟩, ⟨_, r1⟩, RF0, RF1⟩ : Rg.RC (w.heap.size + 1 + 1 + 1) w1)
  have z0 : w.heap.size ≤ w.heap.size + 1 + 1 + 1 := by omega
  go_wp2
  have f0 := Rg.RC.read00 (x := x) hRC
  have f1 := Rg.RC.read1 (x := x) (y := y) hRC
  refine bodyPost_ret (v := Frac3 (x) (y) (e)) (by simp [results, Tryz.results66, go_sem, f0, f1]) rfl ⟨rfl, ?_⟩
  exact Below.setCell (Below.setCell K1 z0 _) z0 _
set_option maxHeartbeats 4000000 in
theorem sub_any (K B F R O n0 d0 n1 d1 x y e : Int) (w : World) (CB : Hid (∀ w, Calls Tryz.prog 98 #[.agg #[.int .i64 K, .int .i64 B, .int .i64 F, .int .i64 R, .int .i64 O], .agg #[.int .i64 n0, .int .i64 d0], .agg #[.int .i64 n1, .int .i64 d1], .func (.func 100) #[] #[]] w (Ret (Frac3 x y e) w))) :
    Calls Tryz.prog 67 #[.agg #[.int .i64 K, .int .i64 B, .int .i64 F, .int .i64 R, .int .i64 O], .agg #[.int .i64 n0, .int .i64 d0], .agg #[.int .i64 n1, .int .i64 d1]] w (Ret (Frac3 x y e) w) := by
  go_enter Tryz.func67, Tryz.ntmps67
  go_wp2_with fail
  refine (CB.out _).mono ?_
  rintro e w1 ⟨rfl, hb⟩
  have L : Below w.heap.size w w1 := (((((Below.refl _ _).alloc (by simp <;> omega) _).alloc (by simp <;> omega) _).alloc (by simp <;> omega) _).alloc (by simp <;> omega) _).trans (hb.mono (by simp <;> omega))
  have K1 : Below w.heap.size w w1 := L
  have RF0 : w1.frozen? ⟨w.heap.size + 1 + 1 + 1, 0, none⟩ = false := Rg.keepF hb (by simp <;> omega) (by simp only [frozen?_alloc_cells]; exact Rg.notFrozen (by omega))
  have RF1 : w1.frozen? ⟨w.heap.size + 1 + 1 + 1, 1, none⟩ = false := Rg.keepF hb (by simp <;> omega) (by simp only [frozen?_alloc_cells]; exact Rg.notFrozen (by omega))
  have lt : w.heap.size < w1.heap.size := Nat.lt_of_lt_of_le (by simp <;> omega) hb.size
  have t0 : w1.cell? ⟨w.heap.size, 0, none⟩ = some (.int .i64 K) := Rg.keep hb (by simp <;> omega) (by go_cell)
  have t1 : w1.cell? ⟨w.heap.size, 1, none⟩ = some (.int .i64 B) := Rg.keep hb (by simp <;> omega) (by go_cell)
  have t2 : w1.cell? ⟨w.heap.size, 2, none⟩ = some (.int .i64 F) := Rg.keep hb (by simp <;> omega) (by go_cell)
  have t3 : w1.cell? ⟨w.heap.size, 3, none⟩ = some (.int .i64 R) := Rg.keep hb (by simp <;> omega) (by go_cell)
  have t4 : w1.cell? ⟨w.heap.size, 4, none⟩ = some (.int .i64 O) := Rg.keep hb (by simp <;> omega) (by go_cell)
  have la : w.heap.size + 1 < w1.heap.size := Nat.lt_of_lt_of_le (by simp <;> omega) hb.size
  have a0 : w1.cell? ⟨w.heap.size + 1, 0, none⟩ = some (.int .i64 n0) := Rg.keep hb (by simp <;> omega) (by go_cell)
  have a1 : w1.cell? ⟨w.heap.size + 1, 1, none⟩ = some (.int .i64 d0) := Rg.keep hb (by simp <;> omega) (by go_cell)
  have lb : w.heap.size + 1 + 1 < w1.heap.size := Nat.lt_of_lt_of_le (by simp <;> omega) hb.size
  have b0 : w1.cell? ⟨w.heap.size + 1 + 1, 0, none⟩ = some (.int .i64 n1) := Rg.keep hb (by simp <;> omega) (by go_cell)
  have b1 : w1.cell? ⟨w.heap.size + 1 + 1, 1, none⟩ = some (.int .i64 d1) := Rg.keep hb (by simp <;> omega) (by go_cell)
  have lr : w.heap.size + 1 + 1 + 1 < w1.heap.size := Nat.lt_of_lt_of_le (by simp <;> omega) hb.size
  have r0 : w1.cell? ⟨w.heap.size + 1 + 1 + 1, 0, none⟩ = some (.int .i64 0) := Rg.keep hb (by simp <;> omega) (by go_cell)
  have r1 : w1.cell? ⟨w.heap.size + 1 + 1 + 1, 1, none⟩ = some (.int .i64 0) := Rg.keep hb (by simp <;> omega) (by go_cell)
  clear hb L
  have hRC := (⟨⟨_, r0⟩, ⟨_, r1⟩, RF0, RF1⟩ : Rg.RC (w.heap.size + 1 + 1 + 1) w1)
  have z0 : w.heap.size ≤ w.heap.size + 1 + 1 + 1 := by omega
  go_wp2
  have f0 := Rg.RC.read00 (x := x) hRC
  have f1 := Rg.RC.read1 (x := x) (y := y) hRC
  refine bodyPost_ret (v := Frac3 (x) (y) (e)) (by simp [results, Tryz.results67, go_sem, f0, f1]) rfl ⟨rfl, ?_⟩
  exact Below.setCell (Below.setCell K1 z0 _) z0 _
set_option maxHeartbeats 4000000 in
theorem mul_any (K B F R O n0 d0 n1 d1 x y e : Int) (w : World) (CB : Hid (∀ w, Calls Tryz.prog 98 #[.agg #[.int .i64 K, .int .i64 B, .int .i64 F, .int .i64 R, .int .i64 O], .agg #[.int .i64 n0, .int .i64 d0], .agg #[.int .i64 n1, .int .i64 d1], .func (.func 101) #[] #[]] w (Ret (Frac3 x y e) w))) :
    Calls Tryz.prog 68 #[.agg #[.int .i64 K, .int .i64 B, .int .i64 F, .int .i64 R, .int .i64 O], .agg #[.int .i64 n0, .int .i64 d0], .agg #[.int .i64 n1, .int .i64 d1]] w (Ret (Frac3 x y e) w) := by
  go_enter Tryz.func68, Tryz.ntmps68
  go_wp2_with fail
  refine (CB.out _).mono ?_
  rintro e w1 ⟨rfl, hb⟩
  have L : Below w.heap.size w w1 := (((((Below.refl _ _).alloc (by simp <;> omega) _).alloc (by simp <;> omega) _).alloc (by simp <;> omega) _).alloc (by simp <;> omega) _).trans (hb.mono (by simp <;> omega))
  have K1 : Below w.heap.size w w1 := L
  have RF0 : w1.frozen? ⟨w.heap.size + 1 + 1 + 1, 0, none⟩ = false := Rg.keepF hb (by simp <;> omega) (by simp only [frozen?_alloc_cells]; exact Rg.notFrozen (by omega))
  have RF1 : w1.frozen? ⟨w.heap.size + 1 + 1 + 1, 1, none⟩ = false := Rg.keepF hb (by simp <;> omega) (by simp only [frozen?_alloc_cells]; exact Rg.notFrozen (by omega))
  have lt : w.heap.size < w1.heap.size := Nat.lt_of_lt_of_le (by simp <;> omega) hb.size
  have t0 : w1.cell? ⟨w.heap.size, 0, none⟩ = some (.int .i64 K) := Rg.keep hb (by simp <;> omega) (by go_cell)
  have t1 : w1.cell? ⟨w.heap.size, 1, none⟩ = some (.int .i64 B) := Rg.keep hb (by simp <;> omega) (by go_cell)
  have t2 : w1.cell? ⟨w.heap.size, 2, none⟩ = some (.int .i64 F) := Rg.keep hb (by simp <;> omega) (by go_cell)
  have t3 : w1.cell? ⟨w.heap.size, 3, none⟩ = some (.int .i64 R) := Rg.keep hb (by simp <;> omega) (by go_cell)
  have t4 : w1.cell? ⟨w.heap.size, 4, none⟩ = some (.int .i64 O) := Rg.keep hb (by simp <;> omega) (by go_cell)
  have la : w.heap.size + 1 < w1.heap.size := Nat.lt_of_lt_of_le (by simp <;> omega) hb.size
  have a0 : w1.cell? ⟨w.heap.size + 1, 0, none⟩ = some (.int .i64 n0) := Rg.keep hb (by simp <;> omega) (by go_cell)
  have a1 : w1.cell? ⟨w.heap.size + 1, 1, none⟩ = some (.int .i64 d0) := Rg.keep hb (by simp <;> omega) (by go_cell)
  have lb : w.heap.size + 1 + 1 < w1.heap.size := Nat.lt_of_lt_of_le (by simp <;> omega) hb.size
  have b0 : w1.cell? ⟨w.heap.size + 1 + 1, 0, none⟩ = some (.int .i64 n1) := Rg.keep hb (by simp <;> omega) (by go_cell)
  have b1 : w1.cell? ⟨w.heap.size + 1 + 1, 1, none⟩ = some (.int .i64 d1) := Rg.keep hb (by simp <;> omega) (by go_cell)
  have lr : w.heap.size + 1 + 1 + 1 < w1.heap.size := Nat.lt_of_lt_of_le (by simp <;> omega) hb.size
  have r0 : w1.cell? ⟨w.heap.size + 1 + 1 + 1, 0, none⟩ = some (.int .i64 0) := Rg.keep hb (by simp <;> omega) (by go_cell)
  have r1 : w1.cell? ⟨w.heap.size + 1 + 1 + 1, 1, none⟩ = some (.int .i64 0) := Rg.keep hb (by simp <;> omega) (by go_cell)
  clear hb L
  have hRC := (⟨⟨_, r0⟩, ⟨_, r1⟩, RF0, RF1⟩ : Rg.RC (w.heap.size + 1 + 1 + 1) w1)
  have z0 : w.heap.size ≤ w.heap.size + 1 + 1 + 1 := by omega
  go_wp2
  have f0 := Rg.RC.read00 (x := x) hRC
  have f1 := Rg.RC.read1 (x := x) (y := y) hRC
  refine bodyPost_ret (v := Frac3 (x) (y) (e)) (by simp [results, Tryz.results68, go_sem, f0, f1]) rfl ⟨rfl, ?_⟩
  exact Below.setCell (Below.setCell K1 z0 _) z0 _
set_option maxHeartbeats 4000000 in
theorem neg_any (K B F R O n0 d0 x y e : Int) (w : World) (CB : Hid (∀ w, Calls Tryz.prog 98 #[.agg #[.int .i64 K, .int .i64 B, .int .i64 F, .int .i64 R, .int .i64 O], .agg #[.int .i64 n0, .int .i64 d0], .agg #[.int .i64 n0, .int .i64 d0], .func (.func 104) #[] #[]] w (Ret (Frac3 x y e) w))) :
    Calls Tryz.prog 70 #[.agg #[.int .i64 K, .int .i64 B, .int .i64 F, .int .i64 R, .int .i64 O], .agg #[.int .i64 n0, .int .i64 d0]] w (Ret (Frac3 x y e) w) := by
  go_enter Tryz.func70, Tryz.ntmps70
  go_wp2_with fail
  refine (CB.out _).mono ?_
  rintro e w1 ⟨rfl, hb⟩
  have L : Below w.heap.size w w1 := ((((Below.refl _ _).alloc (by simp <;> omega) _).alloc (by simp <;> omega) _).alloc (by simp <;> omega) _).trans (hb.mono (by simp <;> omega))
  have K1 : Below w.heap.size w w1 := L
  have RF0 : w1.frozen? ⟨w.heap.size + 1 + 1, 0, none⟩ = false := Rg.keepF hb (by simp <;> omega) (by simp only [frozen?_alloc_cells]; exact Rg.notFrozen (by omega))
  have RF1 : w1.frozen? ⟨w.heap.size + 1 + 1, 1, none⟩ = false := Rg.keepF hb (by simp <;> omega) (by simp only [frozen?_alloc_cells]; exact Rg.notFrozen (by omega))
  have lt : w.heap.size < w1.heap.size := Nat.lt_of_lt_of_le (by simp <;> omega) hb.size
  have t0 : w1.cell? ⟨w.heap.size, 0, none⟩ = some (.int .i64 K) := Rg.keep hb (by simp <;> omega) (by go_cell)
  have t1 : w1.cell? ⟨w.heap.size, 1, none⟩ = some (.int .i64 B) := Rg.keep hb (by simp <;> omega) (by go_cell)
  have t2 : w1.cell? ⟨w.heap.size, 2, none⟩ = some (.int .i64 F) := Rg.keep hb (by simp <;> omega) (by go_cell)
  have t3 : w1.cell? ⟨w.heap.size, 3, none⟩ = some (.int .i64 R) := Rg.keep hb (by simp <;> omega) (by go_cell)
  have t4 : w1.cell? ⟨w.heap.size, 4, none⟩ = some (.int .i64 O) := Rg.keep hb (by simp <;> omega) (by go_cell)
  have la : w.heap.size + 1 < w1.heap.size := Nat.lt_of_lt_of_le (by simp <;> omega) hb.size
  have a0 : w1.cell? ⟨w.heap.size + 1, 0, none⟩ = some (.int .i64 n0) := Rg.keep hb (by simp <;> omega) (by go_cell)
  have a1 : w1.cell? ⟨w.heap.size + 1, 1, none⟩ = some (.int .i64 d0) := Rg.keep hb (by simp <;> omega) (by go_cell)
  have lr : w.heap.size + 1 + 1 < w1.heap.size := Nat.lt_of_lt_of_le (by simp <;> omega) hb.size
  have r0 : w1.cell? ⟨w.heap.size + 1 + 1, 0, none⟩ = some (.int .i64 0) := Rg.keep hb (by simp <;> omega) (by go_cell)
  have r1 : w1.cell? ⟨w.heap.size + 1 + 1, 1, none⟩ = some (.int .i64 0) := Rg.keep hb (by simp <;> omega) (by go_cell)
  clear hb L
  have hRC := (⟨⟨_, r0⟩, ⟨_, r1⟩, RF0, RF1⟩ : Rg.RC (w.heap.size + 1 + 1) w1)
  have z0 : w.heap.size ≤ w.heap.size + 1 + 1 := by omega
  go_wp2
  have f0 := Rg.RC.read00 (x := x) hRC
  have f1 := Rg.RC.read1 (x := x) (y := y) hRC
  refine bodyPost_ret (v := Frac3 (x) (y) (e)) (by simp [results, Tryz.results70, go_sem, f0, f1]) rfl ⟨rfl, ?_⟩
  exact Below.setCell (Below.setCell K1 z0 _) z0 _
set_option maxHeartbeats 4000000 in
theorem div_zero (K B F R O n0 d0 n1 d1 x y e c : Int) (w : World) (hz : (n1 == 0) = true) (CH : Hid (∀ (w : World) (x : Nat), x < w.heap.size → w.cell? ⟨x, 0, none⟩ = some (.int .i64 n0) → w.cell? ⟨x, 1, none⟩ = some (.int .i64 d0) → w.cell? ⟨x, 2, none⟩ = some (.int .i64 n1) → w.cell? ⟨x, 3, none⟩ = some (.int .i64 d1) →
      Calls Tryz.prog 102 #[.agg #[.int .i64 K, .int .i64 B, .int .i64 F, .int .i64 R, .int .i64 O], .slice (some ⟨x, 0, none⟩) 2 2] w (Ret (.int .i64 0) w)))  :
    Calls Tryz.prog 69 #[.agg #[.int .i64 K, .int .i64 B, .int .i64 F, .int .i64 R, .int .i64 O], .agg #[.int .i64 n0, .int .i64 d0], .agg #[.int .i64 n1, .int .i64 d1]] w (Ret (Frac3 0 0 4) w) := by
  go_enter Tryz.func69, Tryz.ntmps69
  go_wp2_with fail
  refine (CH.out _ _ (by simp <;> omega) (by go_cell) (by go_cell) (by go_cell) (by go_cell)).mono ?_
  rintro e w1 ⟨rfl, hb⟩
  have L : Below w.heap.size w w1 := ((((((Below.refl _ _).alloc (by simp <;> omega) _).alloc (by simp <;> omega) _).alloc (by simp <;> omega) _).alloc (by simp <;> omega) _).alloc (by simp <;> omega) _).trans (hb.mono (by simp <;> omega))
  have K1 : Below w.heap.size w w1 := L
  have RF0 : w1.frozen? ⟨w.heap.size + 1 + 1 + 1, 0, none⟩ = false := Rg.keepF hb (by simp <;> omega) (by simp only [frozen?_alloc_cells]; exact Rg.notFrozen (by omega))
  have RF1 : w1.frozen? ⟨w.heap.size + 1 + 1 + 1, 1, none⟩ = false := Rg.keepF hb (by simp <;> omega) (by simp only [frozen?_alloc_cells]; exact Rg.notFrozen (by omega))
  have lt : w.heap.size < w1.heap.size := Nat.lt_of_lt_of_le (by simp <;> omega) hb.size
  have t0 : w1.cell? ⟨w.heap.size, 0, none⟩ = some (.int .i64 K) := Rg.keep hb (by simp <;> omega) (by go_cell)
  have t1 : w1.cell? ⟨w.heap.size, 1, none⟩ = some (.int .i64 B) := Rg.keep hb (by simp <;> omega) (by go_cell)
  have t2 : w1.cell? ⟨w.heap.size, 2, none⟩ = some (.int .i64 F) := Rg.keep hb (by simp <;> omega) (by go_cell)
  have t3 : w1.cell? ⟨w.heap.size, 3, none⟩ = some (.int .i64 R) := Rg.keep hb (by simp <;> omega) (by go_cell)
  have t4 : w1.cell? ⟨w.heap.size, 4, none⟩ = some (.int .i64 O) := Rg.keep hb (by simp <;> omega) (by go_cell)
  have la : w.heap.size + 1 < w1.heap.size := Nat.lt_of_lt_of_le (by simp <;> omega) hb.size
  have a0 : w1.cell? ⟨w.heap.size + 1, 0, none⟩ = some (.int .i64 n0) := Rg.keep hb (by simp <;> omega) (by go_cell)
  have a1 : w1.cell? ⟨w.heap.size + 1, 1, none⟩ = some (.int .i64 d0) := Rg.keep hb (by simp <;> omega) (by go_cell)
  have lb : w.heap.size + 1 + 1 < w1.heap.size := Nat.lt_of_lt_of_le (by simp <;> omega) hb.size
  have b0 : w1.cell? ⟨w.heap.size + 1 + 1, 0, none⟩ = some (.int .i64 n1) := Rg.keep hb (by simp <;> omega) (by go_cell)
  have b1 : w1.cell? ⟨w.heap.size + 1 + 1, 1, none⟩ = some (.int .i64 d1) := Rg.keep hb (by simp <;> omega) (by go_cell)
  have lr : w.heap.size + 1 + 1 + 1 < w1.heap.size := Nat.lt_of_lt_of_le (by simp <;> omega) hb.size
  have r0 : w1.cell? ⟨w.heap.size + 1 + 1 + 1, 0, none⟩ = some (.int .i64 0) := Rg.keep hb (by simp <;> omega) (by go_cell)
  have r1 : w1.cell? ⟨w.heap.size + 1 + 1 + 1, 1, none⟩ = some (.int .i64 0) := Rg.keep hb (by simp <;> omega) (by go_cell)
  have ls : w.heap.size + 1 + 1 + 1 + 1 < w1.heap.size := Nat.lt_of_lt_of_le (by simp <;> omega) hb.size
  have s0 : w1.cell? ⟨w.heap.size + 1 + 1 + 1 + 1, 0, none⟩ = some (.int .i64 n0) := Rg.keep hb (by simp <;> omega) (by go_cell)
  have s1 : w1.cell? ⟨w.heap.size + 1 + 1 + 1 + 1, 1, none⟩ = some (.int .i64 d0) := Rg.keep hb (by simp <;> omega) (by go_cell)
  have s2 : w1.cell? ⟨w.heap.size + 1 + 1 + 1 + 1, 2, none⟩ = some (.int .i64 n1) := Rg.keep hb (by simp <;> omega) (by go_cell)
  have s3 : w1.cell? ⟨w.heap.size + 1 + 1 + 1 + 1, 3, none⟩ = some (.int .i64 d1) := Rg.keep hb (by simp <;> omega) (by go_cell)
  clear hb L
  clear s0 s1 s2 s3
  have hRC := (⟨⟨_, r0⟩, ⟨_, r1⟩, RF0, RF1⟩ : Rg.RC (w.heap.size + 1 + 1 + 1) w1)
  have z0 : w.heap.size ≤ w.heap.size + 1 + 1 + 1 := by omega
  go_wp2
  have f0 := Rg.RC.read00 (x := 0) hRC
  have f1 := Rg.RC.read1 (x := 0) (y := 0) hRC
  refine bodyPost_ret (v := Frac3 (0) (0) (4)) (by simp [results, Tryz.results69, go_sem, f0, f1]) rfl ⟨rfl, ?_⟩
  exact Below.setCell (Below.setCell K1 z0 _) z0 _
set_option maxHeartbeats 4000000 in
theorem div_bad (K B F R O n0 d0 n1 d1 x y e c : Int) (w : World) (hc : (c == 0) = false) (CH : Hid (∀ (w : World) (x : Nat), x < w.heap.size → w.cell? ⟨x, 0, none⟩ = some (.int .i64 n0) → w.cell? ⟨x, 1, none⟩ = some (.int .i64 d0) → w.cell? ⟨x, 2, none⟩ = some (.int .i64 n1) → w.cell? ⟨x, 3, none⟩ = some (.int .i64 d1) →
      Calls Tryz.prog 102 #[.agg #[.int .i64 K, .int .i64 B, .int .i64 F, .int .i64 R, .int .i64 O], .slice (some ⟨x, 0, none⟩) 2 2] w (Ret (.int .i64 c) w))) (CB : Hid (∀ w, Calls Tryz.prog 98 #[.agg #[.int .i64 K, .int .i64 B, .int .i64 F, .int .i64 R, .int .i64 O], .agg #[.int .i64 n0, .int .i64 d0], .agg #[.int .i64 n1, .int .i64 d1], .func (.func 103) #[] #[]] w (Ret (Frac3 x y e) w))) :
    Calls Tryz.prog 69 #[.agg #[.int .i64 K, .int .i64 B, .int .i64 F, .int .i64 R, .int .i64 O], .agg #[.int .i64 n0, .int .i64 d0], .agg #[.int .i64 n1, .int .i64 d1]] w (Ret (Frac3 x y e) w) := by
  go_enter Tryz.func69, Tryz.ntmps69
  go_wp2_with fail
  refine (CH.out _ _ (by simp <;> omega) (by go_cell) (by go_cell) (by go_cell) (by go_cell)).mono ?_
  rintro e w1 ⟨rfl, hb⟩
  have L : Below w.heap.size w w1 := ((((((Below.refl _ _).alloc (by simp <;> omega) _).alloc (by simp <;> omega) _).alloc (by simp <;> omega) _).alloc (by simp <;> omega) _).alloc (by simp <;> omega) _).trans (hb.mono (by simp <;> omega))
  have K1 : Below w.heap.size w w1 := L
  have RF0 : w1.frozen? ⟨w.heap.size + 1 + 1 + 1, 0, none⟩ = false := Rg.keepF hb (by simp <;> omega) (by simp only [frozen?_alloc_cells]; exact Rg.notFrozen (by omega))
  have RF1 : w1.frozen? ⟨w.heap.size + 1 + 1 + 1, 1, none⟩ = false := Rg.keepF hb (by simp <;> omega) (by simp only [frozen?_alloc_cells]; exact Rg.notFrozen (by omega))
  have lt : w.heap.size < w1.heap.size := Nat.lt_of_lt_of_le (by simp <;> omega) hb.size
  have t0 : w1.cell? ⟨w.heap.size, 0, none⟩ = some (.int .i64 K) := Rg.keep hb (by simp <;> omega) (by go_cell)
  have t1 : w1.cell? ⟨w.heap.size, 1, none⟩ = some (.int .i64 B) := Rg.keep hb (by simp <;> omega) (by go_cell)
  have t2 : w1.cell? ⟨w.heap.size, 2, none⟩ = some (.int .i64 F) := Rg.keep hb (by simp <;> omega) (by go_cell)
  have t3 : w1.cell? ⟨w.heap.size, 3, none⟩ = some (.int .i64 R) := Rg.keep hb (by simp <;> omega) (by go_cell)
  have t4 : w1.cell? ⟨w.heap.size, 4, none⟩ = some (.int .i64 O) := Rg.keep hb (by simp <;> omega) (by go_cell)
  have la : w.heap.size + 1 < w1.heap.size := Nat.lt_of_lt_of_le (by simp <;> omega) hb.size
  have a0 : w1.cell? ⟨w.heap.size + 1, 0, none⟩ = some (.int .i64 n0) := Rg.keep hb (by simp <;> omega) (by go_cell)
  have a1 : w1.cell? ⟨w.heap.size + 1, 1, none⟩ = some (.int .i64 d0) := Rg.keep hb (by simp <;> omega) (by go_cell)
  have lb : w.heap.size + 1 + 1 < w1.heap.size := Nat.lt_of_lt_of_le (by simp <;> omega) hb.size
  have b0 : w1.cell? ⟨w.heap.size + 1 + 1, 0, none⟩ = some (.int .i64 n1) := Rg.keep hb (by simp <;> omega) (by go_cell)
  have b1 : w1.cell? ⟨w.heap.size + 1 + 1, 1, none⟩ = some (.int .i64 d1) := Rg.keep hb (by simp <;> omega) (by go_cell)
  have lr : w.heap.size + 1 + 1 + 1 < w1.heap.size := Nat.lt_of_lt_of_le (by simp <;> omega) hb.size
  have r0 : w1.cell? ⟨w.heap.size + 1 + 1 + 1, 0, none⟩ = some (.int .i64 0) := Rg.keep hb (by simp <;> omega) (by go_cell)
  have r1 : w1.cell? ⟨w.heap.size + 1 + 1 + 1, 1, none⟩ = some (.int .i64 0) := Rg.keep hb (by simp <;> omega) (by go_cell)
  have ls : w.heap.size + 1 + 1 + 1 + 1 < w1.heap.size := Nat.lt_of_lt_of_le (by simp <;> omega) hb.size
  have s0 : w1.cell? ⟨w.heap.size + 1 + 1 + 1 + 1, 0, none⟩ = some (.int .i64 n0) := Rg.keep hb (by simp <;> omega) (by go_cell)
  have s1 : w1.cell? ⟨w.heap.size + 1 + 1 + 1 + 1, 1, none⟩ = some (.int .i64 d0) := Rg.keep hb (by simp <;> omega) (by go_cell)
  have s2 : w1.cell? ⟨w.heap.size + 1 + 1 + 1 + 1, 2, none⟩ = some (.int .i64 n1) := Rg.keep hb (by simp <;> omega) (by go_cell)
  have s3 : w1.cell? ⟨w.heap.size + 1 + 1 + 1 + 1, 3, none⟩ = some (.int .i64 d1) := Rg.keep hb (by simp <;> omega) (by go_cell)
  clear hb L
  clear s0 s1 s2 s3
  go_wp2_with fail
  refine (CB.out _).mono ?_
  rintro e w2 ⟨rfl, hb⟩
  have L : Below w1.heap.size w1 w2 := (Below.refl _ _).trans (hb.mono (by simp <;> omega))
  have K2 : Below w.heap.size w w2 := K1.trans (L.mono K1.size)
  have RF0 := Rg.keepF L lr RF0
  have RF1 := Rg.keepF L lr RF1
  have t0 := Rg.keep L lt t0
  have t1 := Rg.keep L lt t1
  have t2 := Rg.keep L lt t2
  have t3 := Rg.keep L lt t3
  have t4 := Rg.keep L lt t4
  have a0 := Rg.keep L la a0
  have a1 := Rg.keep L la a1
  have b0 := Rg.keep L lb b0
  have b1 := Rg.keep L lb b1
  have r0 := Rg.keep L lr r0
  have r1 := Rg.keep L lr r1
  have lt := Nat.lt_of_lt_of_le lt L.size
  have la := Nat.lt_of_lt_of_le la L.size
  have lb := Nat.lt_of_lt_of_le lb L.size
  have lr := Nat.lt_of_lt_of_le lr L.size
  have ls := Nat.lt_of_lt_of_le ls L.size
  clear hb L
  have hRC := (⟨⟨_, r0⟩, ⟨_, r1⟩, RF0, RF1⟩ : Rg.RC (w.heap.size + 1 + 1 + 1) w2)
  have z0 : w.heap.size ≤ w.heap.size + 1 + 1 + 1 := by omega
  go_wp2
  have f0 := Rg.RC.read00 (x := x) hRC
  have f1 := Rg.RC.read1 (x := x) (y := y) hRC
  refine bodyPost_ret (v := Frac3 (x) (y) (e)) (by simp [results, Tryz.results69, go_sem, f0, f1]) rfl ⟨rfl, ?_⟩
  exact Below.setCell (Below.setCell K2 z0 _) z0 _
set_option maxHeartbeats 4000000 in
theorem div_go (K B F R O n0 d0 n1 d1 x y e c : Int) (w : World) (hz : (n1 == 0) = false) (CH : Hid (∀ (w : World) (x : Nat), x < w.heap.size → w.cell? ⟨x, 0, none⟩ = some (.int .i64 n0) → w.cell? ⟨x, 1, none⟩ = some (.int .i64 d0) → w.cell? ⟨x, 2, none⟩ = some (.int .i64 n1) → w.cell? ⟨x, 3, none⟩ = some (.int .i64 d1) →
      Calls Tryz.prog 102 #[.agg #[.int .i64 K, .int .i64 B, .int .i64 F, .int .i64 R, .int .i64 O], .slice (some ⟨x, 0, none⟩) 2 2] w (Ret (.int .i64 0) w))) (CB : Hid (∀ w, Calls Tryz.prog 98 #[.agg #[.int .i64 K, .int .i64 B, .int .i64 F, .int .i64 R, .int .i64 O], .agg #[.int .i64 n0, .int .i64 d0], .agg #[.int .i64 n1, .int .i64 d1], .func (.func 103) #[] #[]] w (Ret (Frac3 x y e) w))) :
    Calls Tryz.prog 69 #[.agg #[.int .i64 K, .int .i64 B, .int .i64 F, .int .i64 R, .int .i64 O], .agg #[.int .i64 n0, .int .i64 d0], .agg #[.int .i64 n1, .int .i64 d1]] w (Ret (Frac3 x y e) w) := by
  go_enter Tryz.func69, Tryz.ntmps69
  go_wp2_with fail
  refine (CH.out _ _ (by simp <;> omega) (by go_cell) (by go_cell) (by go_cell) (by go_cell)).mono ?_
  rintro e w1 ⟨rfl, hb⟩
  have L : Below w.heap.size w w1 := ((((((Below.refl _ _).alloc (by simp <;> omega) _).alloc (by simp <;> omega) _).alloc (by simp <;> omega) _).alloc (by simp <;> omega) _).alloc (by simp <;> omega) _).trans (hb.mono (by simp <;> omega))
  have K1 : Below w.heap.size w w1 := L
  have RF0 : w1.frozen? ⟨w.heap.size + 1 + 1 + 1, 0, none⟩ = false := Rg.keepF hb (by simp <;> omega) (by simp only [frozen?_alloc_cells]; exact Rg.notFrozen (by omega))
  have RF1 : w1.frozen? ⟨w.heap.size + 1 + 1 + 1, 1, none⟩ = false := Rg.keepF hb (by simp <;> omega) (by simp only [frozen?_alloc_cells]; exact Rg.notFrozen (by omega))
  have lt : w.heap.size < w1.heap.size := Nat.lt_of_lt_of_le (by simp <;> omega) hb.size
  have t0 : w1.cell? ⟨w.heap.size, 0, none⟩ = some (.int .i64 K) := Rg.keep hb (by simp <;> omega) (by go_cell)
  have t1 : w1.cell? ⟨w.heap.size, 1, none⟩ = some (.int .i64 B) := Rg.keep hb (by simp <;> omega) (by go_cell)
  have t2 : w1.cell? ⟨w.heap.size, 2, none⟩ = some (.int .i64 F) := Rg.keep hb (by simp <;> omega) (by go_cell)
  have t3 : w1.cell? ⟨w.heap.size, 3, none⟩ = some (.int .i64 R) := Rg.keep hb (by simp <;> omega) (by go_cell)
  have t4 : w1.cell? ⟨w.heap.size, 4, none⟩ = some (.int .i64 O) := Rg.keep hb (by simp <;> omega) (by go_cell)
  have la : w.heap.size + 1 < w1.heap.size := Nat.lt_of_lt_of_le (by simp <;> omega) hb.size
  have a0 : w1.cell? ⟨w.heap.size + 1, 0, none⟩ = some (.int .i64 n0) := Rg.keep hb (by simp <;> omega) (by go_cell)
  have a1 : w1.cell? ⟨w.heap.size + 1, 1, none⟩ = some (.int .i64 d0) := Rg.keep hb (by simp <;> omega) (by go_cell)
  have lb : w.heap.size + 1 + 1 < w1.heap.size := Nat.lt_of_lt_of_le (by simp <;> omega) hb.size
  have b0 : w1.cell? ⟨w.heap.size + 1 + 1, 0, none⟩ = some (.int .i64 n1) := Rg.keep hb (by simp <;> omega) (by go_cell)
  have b1 : w1.cell? ⟨w.heap.size + 1 + 1, 1, none⟩ = some (.int .i64 d1) := Rg.keep hb (by simp <;> omega) (by go_cell)
  have lr : w.heap.size + 1 + 1 + 1 < w1.heap.size := Nat.lt_of_lt_of_le (by simp <;> omega) hb.size
  have r0 : w1.cell? ⟨w.heap.size + 1 + 1 + 1, 0, none⟩ = some (.int .i64 0) := Rg.keep hb (by simp <;> omega) (by go_cell)
  have r1 : w1.cell? ⟨w.heap.size + 1 + 1 + 1, 1, none⟩ = some (.int .i64 0) := Rg.keep hb (by simp <;> omega) (by go_cell)
  have ls : w.heap.size + 1 + 1 + 1 + 1 < w1.heap.size := Nat.lt_of_lt_of_le (by simp <;> omega) hb.size
  have s0 : w1.cell? ⟨w.heap.size + 1 + 1 + 1 + 1, 0, none⟩ = some (.int .i64 n0) := Rg.keep hb (by simp <;> omega) (by go_cell)
  have s1 : w1.cell? ⟨w.heap.size + 1 + 1 + 1 + 1, 1, none⟩ = some (.int .i64 d0) := Rg.keep hb (by simp <;> omega) (by go_cell)
  have s2 : w1.cell? ⟨w.heap.size + 1 + 1 + 1 + 1, 2, none⟩ = some (.int .i64 n1) := Rg.keep hb (by simp <;> omega) (by go_cell)
  have s3 : w1.cell? ⟨w.heap.size + 1 + 1 + 1 + 1, 3, none⟩ = some (.int .i64 d1) := Rg.keep hb (by simp <;> omega) (by go_cell)
  clear hb L
  clear s0 s1 s2 s3
  go_wp2_with fail
  refine (CB.out _).mono ?_
  rintro e w2 ⟨rfl, hb⟩
  have L : Below w1.heap.size w1 w2 := (Below.refl _ _).trans (hb.mono (by simp <;> omega))
  have K2 : Below w.heap.size w w2 := K1.trans (L.mono K1.size)
  have RF0 := Rg.keepF L lr RF0
  have RF1 := Rg.keepF L lr RF1
  have t0 := Rg.keep L lt t0
  have t1 := Rg.keep L lt t1
  have t2 := Rg.keep L lt t2
  have t3 := Rg.keep L lt t3
  have t4 := Rg.keep L lt t4
  have a0 := Rg.keep L la a0
  have a1 := Rg.keep L la a1
  have b0 := Rg.keep L lb b0
  have b1 := Rg.keep L lb b1
  have r0 := Rg.keep L lr r0
  have r1 := Rg.keep L lr r1
  have lt := Nat.lt_of_lt_of_le lt L.size
  have la := Nat.lt_of_lt_of_le la L.size
  have lb := Nat.lt_of_lt_of_le lb L.size
  have lr := Nat.lt_of_lt_of_le lr L.size
  have ls := Nat.lt_of_lt_of_le ls L.size
  clear hb L
  have hRC := (⟨⟨_, r0⟩, ⟨_, r1⟩, RF0, RF1⟩ : Rg.RC (w.heap.size + 1 + 1 + 1) w2)
  have z0 : w.heap.size ≤ w.heap.size + 1 + 1 + 1 := by omega
  go_wp2
  have f0 := Rg.RC.read00 (x := x) hRC
  have f1 := Rg.RC.read1 (x := x) (y := y) hRC
  refine bodyPost_ret (v := Frac3 (x) (y) (e)) (by simp [results, Tryz.results69, go_sem, f0, f1]) rfl ⟨rfl, ?_⟩
  exact Below.setCell (Below.setCell K2 z0 _) z0 _
set_option maxHeartbeats 4000000 in
theorem ff_tv (K B F R O n0 d0 : Int) (w : World) (VT : Hid (∀ w, Calls Tryz.prog 60 #[.agg #[.int .i64 K, .int .i64 B, .int .i64 F, .int .i64 R, .int .i64 O]] w (Ret (.int .i64 10) w))) : Calls Tryz.prog 57 #[.agg #[.int .i64 K, .int .i64 B, .int .i64 F, .int .i64 R, .int .i64 O], .agg #[.int .i64 n0, .int .i64 d0]] w (Ret (Frac3 0 0 10) w) := by
  go_enter Tryz.func57, Tryz.ntmps57
  go_wp2_with fail
  refine (VT.out _).mono ?_
  rintro e w1 ⟨rfl, hb⟩
  have L : Below w.heap.size w w1 := ((((Below.refl _ _).alloc (by simp <;> omega) _).alloc (by simp <;> omega) _).alloc (by simp <;> omega) _).trans (hb.mono (by simp <;> omega))
  have K1 : Below w.heap.size w w1 := L
  have RF0 : w1.frozen? ⟨w.heap.size + 1 + 1, 0, none⟩ = false := Rg.keepF hb (by simp <;> omega) (by simp only [frozen?_alloc_cells]; exact Rg.notFrozen (by omega))
  have RF1 : w1.frozen? ⟨w.heap.size + 1 + 1, 1, none⟩ = false := Rg.keepF hb (by simp <;> omega) (by simp only [frozen?_alloc_cells]; exact Rg.notFrozen (by omega))
  have lt : w.heap.size < w1.heap.size := Nat.lt_of_lt_of_le (by simp <;> omega) hb.size
  have t0 : w1.cell? ⟨w.heap.size, 0, none⟩ = some (.int .i64 K) := Rg.keep hb (by simp <;> omega) (by go_cell)
  have t1 : w1.cell? ⟨w.heap.size, 1, none⟩ = some (.int .i64 B) := Rg.keep hb (by simp <;> omega) (by go_cell)
  have t2 : w1.cell? ⟨w.heap.size, 2, none⟩ = some (.int .i64 F) := Rg.keep hb (by simp <;> omega) (by go_cell)
  have t3 : w1.cell? ⟨w.heap.size, 3, none⟩ = some (.int .i64 R) := Rg.keep hb (by simp <;> omega) (by go_cell)
  have t4 : w1.cell? ⟨w.heap.size, 4, none⟩ = some (.int .i64 O) := Rg.keep hb (by simp <;> omega) (by go_cell)
  have la : w.heap.size + 1 < w1.heap.size := Nat.lt_of_lt_of_le (by simp <;> omega) hb.size
  have a0 : w1.cell? ⟨w.heap.size + 1, 0, none⟩ = some (.int .i64 n0) := Rg.keep hb (by simp <;> omega) (by go_cell)
  have a1 : w1.cell? ⟨w.heap.size + 1, 1, none⟩ = some (.int .i64 d0) := Rg.keep hb (by simp <;> omega) (by go_cell)
  have lr : w.heap.size + 1 + 1 < w1.heap.size := Nat.lt_of_lt_of_le (by simp <;> omega) hb.size
  have r0 : w1.cell? ⟨w.heap.size + 1 + 1, 0, none⟩ = some (.int .i64 0) := Rg.keep hb (by simp <;> omega) (by go_cell)
  have r1 : w1.cell? ⟨w.heap.size + 1 + 1, 1, none⟩ = some (.int .i64 0) := Rg.keep hb (by simp <;> omega) (by go_cell)
  clear hb L
  have hRC := (⟨⟨_, r0⟩, ⟨_, r1⟩, RF0, RF1⟩ : Rg.RC (w.heap.size + 1 + 1) w1)
  have z0 : w.heap.size ≤ w.heap.size + 1 + 1 := by omega
  go_wp2
  have f0 := Rg.RC.read00 (x := 0) hRC
  have f1 := Rg.RC.read1 (x := 0) (y := 0) hRC
  refine bodyPost_ret (v := Frac3 (0) (0) (10)) (by simp [results, Tryz.results57, go_sem, f0, f1]) rfl ⟨rfl, ?_⟩
  exact Below.setCell (Below.setCell K1 z0 _) z0 _
set_option maxHeartbeats 4000000 in
theorem ff_arg (K B F R O n0 d0 q : Int) (w : World) (VT : Hid (∀ w, Calls Tryz.prog 60 #[.agg #[.int .i64 K, .int .i64 B, .int .i64 F, .int .i64 R, .int .i64 O]] w (Ret (.int .i64 0) w))) (QT : Hid (∀ w, Calls Tryz.prog 93 #[.agg #[.int .i64 n0, .int .i64 d0], .int .i64 F, .int .i64 R] w (Ret (.tuple #[.int .i64 q, .int .i64 1]) w))) : Calls Tryz.prog 57 #[.agg #[.int .i64 K, .int .i64 B, .int .i64 F, .int .i64 R, .int .i64 O], .agg #[.int .i64 n0, .int .i64 d0]] w (Ret (Frac3 0 0 1) w) := by
  go_enter Tryz.func57, Tryz.ntmps57
  go_wp2_with fail
  refine (VT.out _).mono ?_
  rintro e w1 ⟨rfl, hb⟩
  have L : Below w.heap.size w w1 := ((((Below.refl _ _).alloc (by simp <;> omega) _).alloc (by simp <;> omega) _).alloc (by simp <;> omega) _).trans (hb.mono (by simp <;> omega))
  have K1 : Below w.heap.size w w1 := L
  have RF0 : w1.frozen? ⟨w.heap.size + 1 + 1, 0, none⟩ = false := Rg.keepF hb (by simp <;> omega) (by simp only [frozen?_alloc_cells]; exact Rg.notFrozen (by omega))
  have RF1 : w1.frozen? ⟨w.heap.size + 1 + 1, 1, none⟩ = false := Rg.keepF hb (by simp <;> omega) (by simp only [frozen?_alloc_cells]; exact Rg.notFrozen (by omega))
  have lt : w.heap.size < w1.heap.size := Nat.lt_of_lt_of_le (by simp <;> omega) hb.size
  have t0 : w1.cell? ⟨w.heap.size, 0, none⟩ = some (.int .i64 K) := Rg.keep hb (by simp <;> omega) (by go_cell)
  have t1 : w1.cell? ⟨w.heap.size, 1, none⟩ = some (.int .i64 B) := Rg.keep hb (by simp <;> omega) (by go_cell)
  have t2 : w1.cell? ⟨w.heap.size, 2, none⟩ = some (.int .i64 F) := Rg.keep hb (by simp <;> omega) (by go_cell)
  have t3 : w1.cell? ⟨w.heap.size, 3, none⟩ = some (.int .i64 R) := Rg.keep hb (by simp <;> omega) (by go_cell)
  have t4 : w1.cell? ⟨w.heap.size, 4, none⟩ = some (.int .i64 O) := Rg.keep hb (by simp <;> omega) (by go_cell)
  have la : w.heap.size + 1 < w1.heap.size := Nat.lt_of_lt_of_le (by simp <;> omega) hb.size
  have a0 : w1.cell? ⟨w.heap.size + 1, 0, none⟩ = some (.int .i64 n0) := Rg.keep hb (by simp <;> omega) (by go_cell)
  have a1 : w1.cell? ⟨w.heap.size + 1, 1, none⟩ = some (.int .i64 d0) := Rg.keep hb (by simp <;> omega) (by go_cell)
  have lr : w.heap.size + 1 + 1 < w1.heap.size := Nat.lt_of_lt_of_le (by simp <;> omega) hb.size
  have r0 : w1.cell? ⟨w.heap.size + 1 + 1, 0, none⟩ = some (.int .i64 0) := Rg.keep hb (by simp <;> omega) (by go_cell)
  have r1 : w1.cell? ⟨w.heap.size + 1 + 1, 1, none⟩ = some (.int .i64 0) := Rg.keep hb (by simp <;> omega) (by go_cell)
  clear hb L
  go_wp2_with fail
  refine (QT.out _).mono ?_
  rintro e w2 ⟨rfl, hb⟩
  have L : Below w1.heap.size w1 w2 := (Below.refl _ _).trans (hb.mono (by simp <;> omega))
  have K2 : Below w.heap.size w w2 := K1.trans (L.mono K1.size)
  have RF0 := Rg.keepF L lr RF0
  have RF1 := Rg.keepF L lr RF1
  have t0 := Rg.keep L lt t0
  have t1 := Rg.keep L lt t1
  have t2 := Rg.keep L lt t2
  have t3 := Rg.keep L lt t3
  have t4 := Rg.keep L lt t4
  have a0 := Rg.keep L la a0
  have a1 := Rg.keep L la a1
  have r0 := Rg.keep L lr r0
  have r1 := Rg.keep L lr r1
  have lt := Nat.lt_of_lt_of_le lt L.size
  have la := Nat.lt_of_lt_of_le la L.size
  have lr := Nat.lt_of_lt_of_le lr L.size
  clear hb L
  have hRC := (⟨⟨_, r0⟩, ⟨_, r1⟩, RF0, RF1⟩ : Rg.RC (w.heap.size + 1 + 1) w2)
  have z0 : w.heap.size ≤ w.heap.size + 1 + 1 := by omega
  go_wp2
  have f0 := Rg.RC.read00 (x := 0) hRC
  have f1 := Rg.RC.read1 (x := 0) (y := 0) hRC
  refine bodyPost_ret (v := Frac3 (0) (0) (1)) (by simp [results, Tryz.results57, go_sem, f0, f1]) rfl ⟨rfl, ?_⟩
  exact Below.setCell (Below.setCell K2 z0 _) z0 _
set_option maxHeartbeats 4000000 in
theorem ff_ok (K B F R O n0 d0 q v p : Int) (w : World) (VT : Hid (∀ w, Calls Tryz.prog 60 #[.agg #[.int .i64 K, .int .i64 B, .int .i64 F, .int .i64 R, .int .i64 O]] w (Ret (.int .i64 0) w))) (QT : Hid (∀ w, Calls Tryz.prog 93 #[.agg #[.int .i64 n0, .int .i64 d0], .int .i64 F, .int .i64 R] w (Ret (.tuple #[.int .i64 q, .int .i64 0]) w))) (FO : Hid (∀ w, Calls Tryz.prog 94 #[.agg #[.int .i64 K, .int .i64 B, .int .i64 F, .int .i64 R, .int .i64 O]] w (FO K B F R O p w)))
    (F2 : Hid (∀ (w : World) (x : Nat), TyAt K B F R O x w → Calls Tryz.prog 116 #[.int .i64 q, .pointer (some ⟨x, 0, none⟩)] w fun e w' => e = .returned (.int .i64 v) ∧ w = w')) :
    Calls Tryz.prog 57 #[.agg #[.int .i64 K, .int .i64 B, .int .i64 F, .int .i64 R, .int .i64 O], .agg #[.int .i64 n0, .int .i64 d0]] w (Ret (Frac3 v 1 0) w) := by
  have E1 : ∀ (x : Nat) (w : World), Sem.run Tryz.prog (Instr.field 92 (.agg #[Fo1 x, Fo2 x, .int .i64 p]) 1) w = .ok (Fo2 x) w := fun _ _ => by kernel_rfl
  go_enter Tryz.func57, Tryz.ntmps57
  go_wp2_with fail
  refine (VT.out _).mono ?_
  rintro e w1 ⟨rfl, hb⟩
  have L : Below w.heap.size w w1 := ((((Below.refl _ _).alloc (by simp <;> omega) _).alloc (by simp <;> omega) _).alloc (by simp <;> omega) _).trans (hb.mono (by simp <;> omega))
  have K1 : Below w.heap.size w w1 := L
  have RF0 : w1.frozen? ⟨w.heap.size + 1 + 1, 0, none⟩ = false := Rg.keepF hb (by simp <;> omega) (by simp only [frozen?_alloc_cells]; exact Rg.notFrozen (by omega))
  have RF1 : w1.frozen? ⟨w.heap.size + 1 + 1, 1, none⟩ = false := Rg.keepF hb (by simp <;> omega) (by simp only [frozen?_alloc_cells]; exact Rg.notFrozen (by omega))
  have lt : w.heap.size < w1.heap.size := Nat.lt_of_lt_of_le (by simp <;> omega) hb.size
  have t0 : w1.cell? ⟨w.heap.size, 0, none⟩ = some (.int .i64 K) := Rg.keep hb (by simp <;> omega) (by go_cell)
  have t1 : w1.cell? ⟨w.heap.size, 1, none⟩ = some (.int .i64 B) := Rg.keep hb (by simp <;> omega) (by go_cell)
  have t2 : w1.cell? ⟨w.heap.size, 2, none⟩ = some (.int .i64 F) := Rg.keep hb (by simp <;> omega) (by go_cell)
  have t3 : w1.cell? ⟨w.heap.size, 3, none⟩ = some (.int .i64 R) := Rg.keep hb (by simp <;> omega) (by go_cell)
  have t4 : w1.cell? ⟨w.heap.size, 4, none⟩ = some (.int .i64 O) := Rg.keep hb (by simp <;> omega) (by go_cell)
  have la : w.heap.size + 1 < w1.heap.size := Nat.lt_of_lt_of_le (by simp <;> omega) hb.size
  have a0 : w1.cell? ⟨w.heap.size + 1, 0, none⟩ = some (.int .i64 n0) := Rg.keep hb (by simp <;> omega) (by go_cell)
  have a1 : w1.cell? ⟨w.heap.size + 1, 1, none⟩ = some (.int .i64 d0) := Rg.keep hb (by simp <;> omega) (by go_cell)
  have lr : w.heap.size + 1 + 1 < w1.heap.size := Nat.lt_of_lt_of_le (by simp <;> omega) hb.size
  have r0 : w1.cell? ⟨w.heap.size + 1 + 1, 0, none⟩ = some (.int .i64 0) := Rg.keep hb (by simp <;> omega) (by go_cell)
  have r1 : w1.cell? ⟨w.heap.size + 1 + 1, 1, none⟩ = some (.int .i64 0) := Rg.keep hb (by simp <;> omega) (by go_cell)
  clear hb L
  go_wp2_with fail
  refine (QT.out _).mono ?_
  rintro e w2 ⟨rfl, hb⟩
  have L : Below w1.heap.size w1 w2 := (Below.refl _ _).trans (hb.mono (by simp <;> omega))
  have K2 : Below w.heap.size w w2 := K1.trans (L.mono K1.size)
  have RF0 := Rg.keepF L lr RF0
  have RF1 := Rg.keepF L lr RF1
  have t0 := Rg.keep L lt t0
  have t1 := Rg.keep L lt t1
  have t2 := Rg.keep L lt t2
  have t3 := Rg.keep L lt t3
  have t4 := Rg.keep L lt t4
  have a0 := Rg.keep L la a0
  have a1 := Rg.keep L la a1
  have r0 := Rg.keep L lr r0
  have r1 := Rg.keep L lr r1
  have lt := Nat.lt_of_lt_of_le lt L.size
  have la := Nat.lt_of_lt_of_le la L.size
  have lr := Nat.lt_of_lt_of_le lr L.size
  clear hb L
  go_wp2_with fail
  refine (FO.out _).mono ?_
  rintro e w3 ⟨rfl, hb, lx, x0, x1, x2, x3, x4⟩
  have L : Below w2.heap.size w2 w3 := (Below.refl _ _).trans (hb.mono (by simp <;> omega))
  have K3 : Below w.heap.size w w3 := K2.trans (L.mono K2.size)
  have RF0 := Rg.keepF L lr RF0
  have RF1 := Rg.keepF L lr RF1
  have t0 := Rg.keep L lt t0
  have t1 := Rg.keep L lt t1
  have t2 := Rg.keep L lt t2
  have t3 := Rg.keep L lt t3
  have t4 := Rg.keep L lt t4
  have a0 := Rg.keep L la a0
  have a1 := Rg.keep L la a1
  have r0 := Rg.keep L lr r0
  have r1 := Rg.keep L lr r1
  have lt := Nat.lt_of_lt_of_le lt L.size
  have la := Nat.lt_of_lt_of_le la L.size
  have lr := Nat.lt_of_lt_of_le lr L.size
  clear hb L
  go_wp2_with fail
  refine (F2.out _ _ (TyAt.mk x0 x1 x2 x3 x4)).mono ?_
  rintro e w4 ⟨rfl, rfl⟩
  clear x0 x1 x2 x3 x4 lx
  have hRC := (⟨⟨_, r0⟩, ⟨_, r1⟩, RF0, RF1⟩ : Rg.RC (w.heap.size + 1 + 1) w3)
  have z0 : w.heap.size ≤ w.heap.size + 1 + 1 := by omega
  go_wp2
  have f0 := Rg.RC.read00 (x := v) hRC
  have f1 := Rg.RC.read1 (x := v) (y := 1) hRC
  refine bodyPost_ret (v := Frac3 (v) (1) (0)) (by simp [results, Tryz.results57, go_sem, f0, f1]) rfl ⟨rfl, ?_⟩
  exact Below.setCell (Below.setCell K3 z0 _) z0 _
end Go.Proofs.YtikcinkbkakkmaaGreatDoor.Fx
