/- The operations of package fixed, each by what it calls. -/
import Derived.Test.YteaaikmejacpaaaGreatDoorR2
import Derived.Test.YteaaikmejacpaaaGreatDoorR0
import Derived.Test.YteaaikmejacpaaaGreatDoorR1

namespace Go.Proofs.YteaaikmejacpaaaGreatDoor.Fx
open Go.ChangeShapes Go.WideShapes Go.ChangeAt Go.RowKit
open Fr
set_option linter.unusedVariables false
set_option linter.unusedSimpArgs false
set_option maxHeartbeats 4000000 in
theorem add_any (K B F R O n0 d0 n1 d1 x y e : Int) (w : World) (CB : Hid (∀ w, Calls Tryz.prog 161 #[.agg #[.int .i64 K, .int .i64 B, .int .i64 F, .int .i64 R, .int .i64 O], .agg #[.int .i64 n0, .int .i64 d0], .agg #[.int .i64 n1, .int .i64 d1], .func (.func 162) #[] #[]] w (Ret (Frac3 x y e) w))) :
  Calls Tryz.prog 148 #[.agg #[.int .i64 K, .int .i64 B, .int .i64 F, .int .i64 R, .int .i64 O], .agg #[.int .i64 n0, .int .i64 d0], .agg #[.int .i64 n1, .int .i64 d1]] w (Ret (Frac3 x y e) w) := by
 go_enter Tryz.func148, Tryz.ntmps148
 go_wp2_with fail
 refine (CB.out _).mono ?_
 rintro e w1 ⟨rfl, hb⟩
 have L : Below w.heap.size w w1 := (((((Below.refl _ _).alloc (by simp <;> omega) _).alloc (by simp <;> omega) _).alloc (by simp <;> omega) _).alloc (by simp <;> omega) _).trans (hb.mono (by simp <;> omega))
 have K1 : Below w.heap.size w w1 := L
 have RF0 : w1.frozen? ⟨w.heap.size + 1 + 1 + 1, 0, none⟩ = false := Rg.keepF hb (by simp <;> omega) (by simp only [frozen?_alloc_cells]; exact Rg.notFrozen (by omega))
 have RF1 : w1.frozen? ⟨w.heap.size + 1 + 1 + 1, 1, none⟩ = false := Rg.keepF hb (by simp <;> omega) (by simp only [frozen?_alloc_cells]; exact Rg.notFrozen (by omega))
 have lt : w.heap.size < w1.heap.size := Nat.lt_of_lt_of_le (by simp <;> omega) hb.size
 have t0 : w1.cell? ⟨w.heap.size, 0, none⟩ = some (.int .i64 K) := Rg.keep hb (by simp <;> omega) (by go_cell)
 have t1 : w1.cell? ⟨w.heap.size, 1, none⟩ = some (.int .i64 B) := Rg.keep hb (by simp <;> omega) (by go_cell)
 have t2 : w1.cell? ⟨w.heap.size, 2, none⟩ = some (.int .i64 F) := Rg.keep hb (by simp <;> omega) (by go_cell)
 have t3 : w1.cell? ⟨w.heap.size, 3, none⟩ = some (.int .i64 R) := Rg.keep hb (by simp <;> omega) (by go_cell)
 have t4 : w1.cell? ⟨w.heap.size, 4, none⟩ = some (.int .i64 O) := Rg.keep hb (by simp <;> omega) (by go_cell)
 have la : w.heap.size + 1 < w1.heap.size := Nat.lt_of_lt_of_le (by simp <;> omega) hb.size
 have a0 : w1.cell? ⟨w.heap.size + 1, 0, none⟩ = some (.int .i64 n0) := Rg.keep hb (by simp <;> omega) (by go_cell)
 have a1 : w1.cell? ⟨w.heap.size + 1, 1, none⟩ = some (.int .i64 d0) := Rg.keep hb (by simp <;> omega) (by go_cell)
 have lb : w.heap.size + 1 + 1 < w1.heap.size := Nat.lt_of_lt_of_le (by simp <;> omega) hb.size
 have b0 : w1.cell? ⟨w.heap.size + 1 + 1, 0, none⟩ = some (.int .i64 n1) := Rg.keep hb (by simp <;> omega) (by go_cell)
 have b1 : w1.cell? ⟨w.heap.size + 1 + 1, 1, none⟩ = some (.int .i64 d1) := Rg.keep hb (by simp <;> omega) (by go_cell)
 have lr : w.heap.size + 1 + 1 + 1 < w1.heap.size := Nat.lt_of_lt_of_le (by simp <;> omega) hb.size
 have r0 : w1.cell? ⟨w.heap.size + 1 + 1 + 1, 0, none⟩ = some (.int .i64 0) := Rg.keep hb (by simp <;> omega) (by go_cell)
 have r1 : w1.cell? ⟨w.heap.size + 1 + 1 + 1, 1, none⟩ = some (.int .i64 0) := Rg.keep hb (by simp <;> omega) (by go_cell)
 clear hb L
 have hRC := (⟨⟨_, r0⟩, ⟨_, r1⟩, RF0, RF1⟩ : Rg.RC (w.heap.size + 1 + 1 + 1) w1)
 have z0 : w.heap.size <= w.heap.size + 1 + 1 + 1 := by omega
 go_wp2
 have f0 := Rg.RC.read00 (x := x) hRC
 have f1 := Rg.RC.read1 (x := x) (y := y) hRC
 refine bodyPost_ret (v := Frac3 (x) (y) (e)) (by simp [results, Tryz.results148, go_sem, f0, f1]) rfl ⟨rfl, ?_⟩
 exact Below.setCell (Below.setCell K1 z0 _) z0 _
set_option maxHeartbeats 4000000 in
theorem sub_any (K B F R O n0 d0 n1 d1 x y e : Int) (w : World) (CB : Hid (∀ w, Calls Tryz.prog 161 #[.agg #[.int .i64 K, .int .i64 B, .int .i64 F, .int .i64 R, .int .i64 O], .agg #[.int .i64 n0, .int .i64 d0], .agg #[.int .i64 n1, .int .i64 d1], .func (.func 163) #[] #[]] w (Ret (Frac3 x y e) w))) :
  Calls Tryz.prog 149 #[.agg #[.int .i64 K, .int .i64 B, .int .i64 F, .int .i64 R, .int .i64 O], .agg #[.int .i64 n0, .int .i64 d0], .agg #[.int .i64 n1, .int .i64 d1]] w (Ret (Frac3 x y e) w) := by
 go_enter Tryz.func149, Tryz.ntmps149
 go_wp2_with fail
 refine (CB.out _).mono ?_
 rintro e w1 ⟨rfl, hb⟩
 have L : Below w.heap.size w w1 := (((((Below.refl _ _).alloc (by simp <;> omega) _).alloc (by simp <;> omega) _).alloc (by simp <;> omega) _).alloc (by simp <;> omega) _).trans (hb.mono (by simp <;> omega))
 have K1 : Below w.heap.size w w1 := L
 have RF0 : w1.frozen? ⟨w.heap.size + 1 + 1 + 1, 0, none⟩ = false := Rg.keepF hb (by simp <;> omega) (by simp only [frozen?_alloc_cells]; exact Rg.notFrozen (by omega))
 have RF1 : w1.frozen? ⟨w.heap.size + 1 + 1 + 1, 1, none⟩ = false := Rg.keepF hb (by simp <;> omega) (by simp only [frozen?_alloc_cells]; exact Rg.notFrozen (by omega))
 have lt : w.heap.size < w1.heap.size := Nat.lt_of_lt_of_le (by simp <;> omega) hb.size
 have t0 : w1.cell? ⟨w.heap.size, 0, none⟩ = some (.int .i64 K) := Rg.keep hb (by simp <;> omega) (by go_cell)
 have t1 : w1.cell? ⟨w.heap.size, 1, none⟩ = some (.int .i64 B) := Rg.keep hb (by simp <;> omega) (by go_cell)
 have t2 : w1.cell? ⟨w.heap.size, 2, none⟩ = some (.int .i64 F) := Rg.keep hb (by simp <;> omega) (by go_cell)
 have t3 : w1.cell? ⟨w.heap.size, 3, none⟩ = some (.int .i64 R) := Rg.keep hb (by simp <;> omega) (by go_cell)
 have t4 : w1.cell? ⟨w.heap.size, 4, none⟩ = some (.int .i64 O) := Rg.keep hb (by simp <;> omega) (by go_cell)
 have la : w.heap.size + 1 < w1.heap.size := Nat.lt_of_lt_of_le (by simp <;> omega) hb.size
 have a0 : w1.cell? ⟨w.heap.size + 1, 0, none⟩ = some (.int .i64 n0) := Rg.keep hb (by simp <;> omega) (by go_cell)
 have a1 : w1.cell? ⟨w.heap.size + 1, 1, none⟩ = some (.int .i64 d0) := Rg.keep hb (by simp <;> omega) (by go_cell)
 have lb : w.heap.size + 1 + 1 < w1.heap.size := Nat.lt_of_lt_of_le (by simp <;> omega) hb.size
 have b0 : w1.cell? ⟨w.heap.size + 1 + 1, 0, none⟩ = some (.int .i64 n1) := Rg.keep hb (by simp <;> omega) (by go_cell)
 have b1 : w1.cell? ⟨w.heap.size + 1 + 1, 1, none⟩ = some (.int .i64 d1) := Rg.keep hb (by simp <;> omega) (by go_cell)
 have lr : w.heap.size + 1 + 1 + 1 < w1.heap.size := Nat.lt_of_lt_of_le (by simp <;> omega) hb.size
 have r0 : w1.cell? ⟨w.heap.size + 1 + 1 + 1, 0, none⟩ = some (.int .i64 0) := Rg.keep hb (by simp <;> omega) (by go_cell)
 have r1 : w1.cell? ⟨w.heap.size + 1 + 1 + 1, 1, none⟩ = some (.int .i64 0) := Rg.keep hb (by simp <;> omega) (by go_cell)
 clear hb L
 have hRC := (⟨⟨_, r0⟩, ⟨_, r1⟩, RF0, RF1⟩ : Rg.RC (w.heap.size + 1 + 1 + 1) w1)
 have z0 : w.heap.size <= w.heap.size + 1 + 1 + 1 := by omega
 go_wp2
 have f0 := Rg.RC.read00 (x := x) hRC
 have f1 := Rg.RC.read1 (x := x) (y := y) hRC
 refine bodyPost_ret (v := Frac3 (x) (y) (e)) (by simp [results, Tryz.results149, go_sem, f0, f1]) rfl ⟨rfl, ?_⟩
 exact Below.setCell (Below.setCell K1 z0 _) z0 _
set_option maxHeartbeats 4000000 in
theorem mul_any (K B F R O n0 d0 n1 d1 x y e : Int) (w : World) (CB : Hid (∀ w, Calls Tryz.prog 161 #[.agg #[.int .i64 K, .int .i64 B, .int .i64 F, .int .i64 R, .int .i64 O], .agg #[.int .i64 n0, .int .i64 d0], .agg #[.int .i64 n1, .int .i64 d1], .func (.func 164) #[] #[]] w (Ret (Frac3 x y e) w))) :
  Calls Tryz.prog 150 #[.agg #[.int .i64 K, .int .i64 B, .int .i64 F, .int .i64 R, .int .i64 O], .agg #[.int .i64 n0, .int .i64 d0], .agg #[.int .i64 n1, .int .i64 d1]] w (Ret (Frac3 x y e) w) := by
 go_enter Tryz.func150, Tryz.ntmps150
 go_wp2_with fail
 refine (CB.out _).mono ?_
 rintro e w1 ⟨rfl, hb⟩
 have L : Below w.heap.size w w1 := (((((Below.refl _ _).alloc (by simp <;> omega) _).alloc (by simp <;> omega) _).alloc (by simp <;> omega) _).alloc (by simp <;> omega) _).trans (hb.mono (by simp <;> omega))
 have K1 : Below w.heap.size w w1 := L
 have RF0 : w1.frozen? ⟨w.heap.size + 1 + 1 + 1, 0, none⟩ = false := Rg.keepF hb (by simp <;> omega) (by simp only [frozen?_alloc_cells]; exact Rg.notFrozen (by omega))
 have RF1 : w1.frozen? ⟨w.heap.size + 1 + 1 + 1, 1, none⟩ = false := Rg.keepF hb (by simp <;> omega) (by simp only [frozen?_alloc_cells]; exact Rg.notFrozen (by omega))
 have lt : w.heap.size < w1.heap.size := Nat.lt_of_lt_of_le (by simp <;> omega) hb.size
 have t0 : w1.cell? ⟨w.heap.size, 0, none⟩ = some (.int .i64 K) := Rg.keep hb (by simp <;> omega) (by go_cell)
 have t1 : w1.cell? ⟨w.heap.size, 1, none⟩ = some (.int .i64 B) := Rg.keep hb (by simp <;> omega) (by go_cell)
 have t2 : w1.cell? ⟨w.heap.size, 2, none⟩ = some (.int .i64 F) := Rg.keep hb (by simp <;> omega) (by go_cell)
 have t3 : w1.cell? ⟨w.heap.size, 3, none⟩ = some (.int .i64 R) := Rg.keep hb (by simp <;> omega) (by go_cell)
 have t4 : w1.cell? ⟨w.heap.size, 4, none⟩ = some (.int .i64 O) := Rg.keep hb (by simp <;> omega) (by go_cell)
 have la : w.heap.size + 1 < w1.heap.size := Nat.lt_of_lt_of_le (by simp <;> omega) hb.size
 have a0 : w1.cell? ⟨w.heap.size + 1, 0, none⟩ = some (.int .i64 n0) := Rg.keep hb (by simp <;> omega) (by go_cell)
 have a1 : w1.cell? ⟨w.heap.size + 1, 1, none⟩ = some (.int .i64 d0) := Rg.keep hb (by simp <;> omega) (by go_cell)
 have lb : w.heap.size + 1 + 1 < w1.heap.size := Nat.lt_of_lt_of_le (by simp <;> omega) hb.size
 have b0 : w1.cell? ⟨w.heap.size + 1 + 1, 0, none⟩ = some (.int .i64 n1) := Rg.keep hb (by simp <;> omega) (by go_cell)
 have b1 : w1.cell? ⟨w.heap.size + 1 + 1, 1, none⟩ = some (.int .i64 d1) := Rg.keep hb (by simp <;> omega) (by go_cell)
 have lr : w.heap.size + 1 + 1 + 1 < w1.heap.size := Nat.lt_of_lt_of_le (by simp <;> omega) hb.size
 have r0 : w1.cell? ⟨w.heap.size + 1 + 1 + 1, 0, none⟩ = some (.int .i64 0) := Rg.keep hb (by simp <;> omega) (by go_cell)
 have r1 : w1.cell? ⟨w.heap.size + 1 + 1 + 1, 1, none⟩ = some (.int .i64 0) := Rg.keep hb (by simp <;> omega) (by go_cell)
 clear hb L
 have hRC := (⟨⟨_, r0⟩, ⟨_, r1⟩, RF0, RF1⟩ : Rg.RC (w.heap.size + 1 + 1 + 1) w1)
 have z0 : w.heap.size <= w.heap.size + 1 + 1 + 1 := by omega
 go_wp2
 have f0 := Rg.RC.read00 (x := x) hRC
 have f1 := Rg.RC.read1 (x := x) (y := y) hRC
 refine bodyPost_ret (v := Frac3 (x) (y) (e)) (by simp [results, Tryz.results150, go_sem, f0, f1]) rfl ⟨rfl, ?_⟩
 exact Below.setCell (Below.setCell K1 z0 _) z0 _
set_option maxHeartbeats 4000000 in
theorem neg_any (K B F R O n0 d0 x y e : Int) (w : World) (CB : Hid (∀ w, Calls Tryz.prog 161 #[.agg #[.int .i64 K, .int .i64 B, .int .i64 F, .int .i64 R, .int .i64 O], .agg #[.int .i64 n0, .int .i64 d0], .agg #[.int .i64 n0, .int .i64 d0], .func (.func 167) #[] #[]] w (Ret (Frac3 x y e) w))) :
  Calls Tryz.prog 152 #[.agg #[.int .i64 K, .int .i64 B, .int .i64 F, .int .i64 R, .int .i64 O], .agg #[.int .i64 n0, .int .i64 d0]] w (Ret (Frac3 x y e) w) := by
 go_enter Tryz.func152, Tryz.ntmps152
 go_wp2_with fail
 refine (CB.out _).mono ?_
 rintro e w1 ⟨rfl, hb⟩
 have L : Below w.heap.size w w1 := ((((Below.refl _ _).alloc (by simp <;> omega) _).alloc (by simp <;> omega) _).alloc (by simp <;> omega) _).trans (hb.mono (by simp <;> omega))
 have K1 : Below w.heap.size w w1 := L
 have RF0 : w1.frozen? ⟨w.heap.size + 1 + 1, 0, none⟩ = false := Rg.keepF hb (by simp <;> omega) (by simp only [frozen?_alloc_cells]; exact Rg.notFrozen (by omega))
 have RF1 : w1.frozen? ⟨w.heap.size + 1 + 1, 1, none⟩ = false := Rg.keepF hb (by simp <;> omega) (by simp only [frozen?_alloc_cells]; exact Rg.notFrozen (by omega))
 have lt : w.heap.size < w1.heap.size := Nat.lt_of_lt_of_le (by simp <;> omega) hb.size
 have t0 : w1.cell? ⟨w.heap.size, 0, none⟩ = some (.int .i64 K) := Rg.keep hb (by simp <;> omega) (by go_cell)
 have t1 : w1.cell? ⟨w.heap.size, 1, none⟩ = some (.int .i64 B) := Rg.keep hb (by simp <;> omega) (by go_cell)
 have t2 : w1.cell? ⟨w.heap.size, 2, none⟩ = some (.int .i64 F) := Rg.keep hb (by simp <;> omega) (by go_cell)
 have t3 : w1.cell? ⟨w.heap.size, 3, none⟩ = some (.int .i64 R) := Rg.keep hb (by simp <;> omega) (by go_cell)
 have t4 : w1.cell? ⟨w.heap.size, 4, none⟩ = some (.int .i64 O) := Rg.keep hb (by simp <;> omega) (by go_cell)
 have la : w.heap.size + 1 < w1.heap.size := Nat.lt_of_lt_of_le (by simp <;> omega) hb.size
 have a0 : w1.cell? ⟨w.heap.size + 1, 0, none⟩ = some (.int .i64 n0) := Rg.keep hb (by simp <;> omega) (by go_cell)
 have a1 : w1.cell? ⟨w.heap.size + 1, 1, none⟩ = some (.int .i64 d0) := Rg.keep hb (by simp <;> omega) (by go_cell)
 have lr : w.heap.size + 1 + 1 < w1.heap.size := Nat.lt_of_lt_of_le (by simp <;> omega) hb.size
 have r0 : w1.cell? ⟨w.heap.size + 1 + 1, 0, none⟩ = some (.int .i64 0) := Rg.keep hb (by simp <;> omega) (by go_cell)
 have r1 : w1.cell? ⟨w.heap.size + 1 + 1, 1, none⟩ = some (.int .i64 0) := Rg.keep hb (by simp <;> omega) (by go_cell)
 clear hb L
 have hRC := (⟨⟨_, r0⟩, ⟨_, r1⟩, RF0, RF1⟩ : Rg.RC (w.heap.size + 1 + 1) w1)
 have z0 : w.heap.size <= w.heap.size + 1 + 1 := by omega
 go_wp2
 have f0 := Rg.RC.read00 (x := x) hRC
 have f1 := Rg.RC.read1 (x := x) (y := y) hRC
 refine bodyPost_ret (v := Frac3 (x) (y) (e)) (by simp [results, Tryz.results152, go_sem, f0, f1]) rfl ⟨rfl, ?_⟩
 exact Below.setCell (Below.setCell K1 z0 _) z0 _
set_option maxHeartbeats 4000000 in
theorem div_zero (K B F R O n0 d0 n1 d1 x y e c : Int) (w : World) (hz : (n1 == 0) = true) (CH : Hid (∀ (w : World) (x : Nat), x < w.heap.size -> w.cell? ⟨x, 0, none⟩ = some (.int .i64 n0) -> w.cell? ⟨x, 1, none⟩ = some (.int .i64 d0) -> w.cell? ⟨x, 2, none⟩ = some (.int .i64 n1) -> w.cell? ⟨x, 3, none⟩ = some (.int .i64 d1) ->
   Calls Tryz.prog 165 #[.agg #[.int .i64 K, .int .i64 B, .int .i64 F, .int .i64 R, .int .i64 O], .slice (some ⟨x, 0, none⟩) 2 2] w (Ret (.int .i64 0) w)))  :
  Calls Tryz.prog 151 #[.agg #[.int .i64 K, .int .i64 B, .int .i64 F, .int .i64 R, .int .i64 O], .agg #[.int .i64 n0, .int .i64 d0], .agg #[.int .i64 n1, .int .i64 d1]] w (Ret (Frac3 0 0 4) w) := by
 go_enter Tryz.func151, Tryz.ntmps151
 go_wp2_with fail
 refine (CH.out _ _ (by simp <;> omega) (by go_cell) (by go_cell) (by go_cell) (by go_cell)).mono ?_
 rintro e w1 ⟨rfl, hb⟩
 have L : Below w.heap.size w w1 := ((((((Below.refl _ _).alloc (by simp <;> omega) _).alloc (by simp <;> omega) _).alloc (by simp <;> omega) _).alloc (by simp <;> omega) _).alloc (by simp <;> omega) _).trans (hb.mono (by simp <;> omega))
 have K1 : Below w.heap.size w w1 := L
 have RF0 : w1.frozen? ⟨w.heap.size + 1 + 1 + 1, 0, none⟩ = false := Rg.keepF hb (by simp <;> omega) (by simp only [frozen?_alloc_cells]; exact Rg.notFrozen (by omega))
 have RF1 : w1.frozen? ⟨w.heap.size + 1 + 1 + 1, 1, none⟩ = false := Rg.keepF hb (by simp <;> omega) (by simp only [frozen?_alloc_cells]; exact Rg.notFrozen (by omega))
 have lt : w.heap.size < w1.heap.size := Nat.lt_of_lt_of_le (by simp <;> omega) hb.size
 have t0 : w1.cell? ⟨w.heap.size, 0, none⟩ = some (.int .i64 K) := Rg.keep hb (by simp <;> omega) (by go_cell)
 have t1 : w1.cell? ⟨w.heap.size, 1, none⟩ = some (.int .i64 B) := Rg.keep hb (by simp <;> omega) (by go_cell)
 have t2 : w1.cell? ⟨w.heap.size, 2, none⟩ = some (.int .i64 F) := Rg.keep hb (by simp <;> omega) (by go_cell)
 have t3 : w1.cell? ⟨w.heap.size, 3, none⟩ = some (.int .i64 R) := Rg.keep hb (by simp <;> omega) (by go_cell)
 have t4 : w1.cell? ⟨w.heap.size, 4, none⟩ = some (.int .i64 O) := Rg.keep hb (by simp <;> omega) (by go_cell)
 have la : w.heap.size + 1 < w1.heap.size := Nat.lt_of_lt_of_le (by simp <;> omega) hb.size
 have a0 : w1.cell? ⟨w.heap.size + 1, 0, none⟩ = some (.int .i64 n0) := Rg.keep hb (by simp <;> omega) (by go_cell)
 have a1 : w1.cell? ⟨w.heap.size + 1, 1, none⟩ = some (.int .i64 d0) := Rg.keep hb (by simp <;> omega) (by go_cell)
 have lb : w.heap.size + 1 + 1 < w1.heap.size := Nat.lt_of_lt_of_le (by simp <;> omega) hb.size
 have b0 : w1.cell? ⟨w.heap.size + 1 + 1, 0, none⟩ = some (.int .i64 n1) := Rg.keep hb (by simp <;> omega) (by go_cell)
 have b1 : w1.cell? ⟨w.heap.size + 1 + 1, 1, none⟩ = some (.int .i64 d1) := Rg.keep hb (by simp <;> omega) (by go_cell)
 have lr : w.heap.size + 1 + 1 + 1 < w1.heap.size := Nat.lt_of_lt_of_le (by simp <;> omega) hb.size
 have r0 : w1.cell? ⟨w.heap.size + 1 + 1 + 1, 0, none⟩ = some (.int .i64 0) := Rg.keep hb (by simp <;> omega) (by go_cell)
 have r1 : w1.cell? ⟨w.heap.size + 1 + 1 + 1, 1, none⟩ = some (.int .i64 0) := Rg.keep hb (by simp <;> omega) (by go_cell)
 have ls : w.heap.size + 1 + 1 + 1 + 1 < w1.heap.size := Nat.lt_of_lt_of_le (by simp <;> omega) hb.size
 have s0 : w1.cell? ⟨w.heap.size + 1 + 1 + 1 + 1, 0, none⟩ = some (.int .i64 n0) := Rg.keep hb (by simp <;> omega) (by go_cell)
 have s1 : w1.cell? ⟨w.heap.size + 1 + 1 + 1 + 1, 1, none⟩ = some (.int .i64 d0) := Rg.keep hb (by simp <;> omega) (by go_cell)
 have s2 : w1.cell? ⟨w.heap.size + 1 + 1 + 1 + 1, 2, none⟩ = some (.int .i64 n1) := Rg.keep hb (by simp <;> omega) (by go_cell)
 have s3 : w1.cell? ⟨w.heap.size + 1 + 1 + 1 + 1, 3, none⟩ = some (.int .i64 d1) := Rg.keep hb (by simp <;> omega) (by go_cell)
 clear hb L
 clear s0 s1 s2 s3
 have hRC := (⟨⟨_, r0⟩, ⟨_, r1⟩, RF0, RF1⟩ : Rg.RC (w.heap.size + 1 + 1 + 1) w1)
 have z0 : w.heap.size <= w.heap.size + 1 + 1 + 1 := by omega
 go_wp2
 have f0 := Rg.RC.read00 (x := 0) hRC
 have f1 := Rg.RC.read1 (x := 0) (y := 0) hRC
 refine bodyPost_ret (v := Frac3 (0) (0) (4)) (by simp [results, Tryz.results151, go_sem, f0, f1]) rfl ⟨rfl, ?_⟩
 exact Below.setCell (Below.setCell K1 z0 _) z0 _
set_option maxHeartbeats 4000000 in
theorem div_bad (K B F R O n0 d0 n1 d1 x y e c : Int) (w : World) (hc : (c == 0) = false) (CH : Hid (∀ (w : World) (x : Nat), x < w.heap.size -> w.cell? ⟨x, 0, none⟩ = some (.int .i64 n0) -> w.cell? ⟨x, 1, none⟩ = some (.int .i64 d0) -> w.cell? ⟨x, 2, none⟩ = some (.int .i64 n1) -> w.cell? ⟨x, 3, none⟩ = some (.int .i64 d1) ->
   Calls Tryz.prog 165 #[.agg #[.int .i64 K, .int .i64 B, .int .i64 F, .int .i64 R, .int .i64 O], .slice (some ⟨x, 0, none⟩) 2 2] w (Ret (.int .i64 c) w))) (CB : Hid (∀ w, Calls Tryz.prog 161 #[.agg #[.int .i64 K, .int .i64 B, .int .i64 F, .int .i64 R, .int .i64 O], .agg #[.int .i64 n0, .int .i64 d0], .agg #[.int .i64 n1, .int .i64 d1], .func (.func 166) #[] #[]] w (Ret (Frac3 x y e) w))) :
  Calls Tryz.prog 151 #[.agg #[.int .i64 K, .int .i64 B, .int .i64 F, .int .i64 R, .int .i64 O], .agg #[.int .i64 n0, .int .i64 d0], .agg #[.int .i64 n1, .int .i64 d1]] w (Ret (Frac3 x y e) w) := by
 go_enter Tryz.func151, Tryz.ntmps151
 go_wp2_with fail
 refine (CH.out _ _ (by simp <;> omega) (by go_cell) (by go_cell) (by go_cell) (by go_cell)).mono ?_
 rintro e w1 ⟨rfl, hb⟩
 have L : Below w.heap.size w w1 := ((((((Below.refl _ _).alloc (by simp <;> omega) _).alloc (by simp <;> omega) _).alloc (by simp <;> omega) _).alloc (by simp <;> omega) _).alloc (by simp <;> omega) _).trans (hb.mono (by simp <;> omega))
 have K1 : Below w.heap.size w w1 := L
 have RF0 : w1.frozen? ⟨w.heap.size + 1 + 1 + 1, 0, none⟩ = false := Rg.keepF hb (by simp <;> omega) (by simp only [frozen?_alloc_cells]; exact Rg.notFrozen (by omega))
 have RF1 : w1.frozen? ⟨w.heap.size + 1 + 1 + 1, 1, none⟩ = false := Rg.keepF hb (by simp <;> omega) (by simp only [frozen?_alloc_cells]; exact Rg.notFrozen (by omega))
 have lt : w.heap.size < w1.heap.size := Nat.lt_of_lt_of_le (by simp <;> omega) hb.size
 have t0 : w1.cell? ⟨w.heap.size, 0, none⟩ = some (.int .i64 K) := Rg.keep hb (by simp <;> omega) (by go_cell)
 have t1 : w1.cell? ⟨w.heap.size, 1, none⟩ = some (.int .i64 B) := Rg.keep hb (by simp <;> omega) (by go_cell)
 have t2 : w1.cell? ⟨w.heap.size, 2, none⟩ = some (.int .i64 F) := Rg.keep hb (by simp <;> omega) (by go_cell)
 have t3 : w1.cell? ⟨w.heap.size, 3, none⟩ = some (.int .i64 R) := Rg.keep hb (by simp <;> omega) (by go_cell)
 have t4 : w1.cell? ⟨w.heap.size, 4, none⟩ = some (.int .i64 O) := Rg.keep hb (by simp <;> omega) (by go_cell)
 have la : w.heap.size + 1 < w1.heap.size := Nat.lt_of_lt_of_le (by simp <;> omega) hb.size
 have a0 : w1.cell? ⟨w.heap.size + 1, 0, none⟩ = some (.int .i64 n0) := Rg.keep hb (by simp <;> omega) (by go_cell)
 have a1 : w1.cell? ⟨w.heap.size + 1, 1, none⟩ = some (.int .i64 d0) := Rg.keep hb (by simp <;> omega) (by go_cell)
 have lb : w.heap.size + 1 + 1 < w1.heap.size := Nat.lt_of_lt_of_le (by simp <;> omega) hb.size
 have b0 : w1.cell? ⟨w.heap.size + 1 + 1, 0, none⟩ = some (.int .i64 n1) := Rg.keep hb (by simp <;> omega) (by go_cell)
 have b1 : w1.cell? ⟨w.heap.size + 1 + 1, 1, none⟩ = some (.int .i64 d1) := Rg.keep hb (by simp <;> omega) (by go_cell)
 have lr : w.heap.size + 1 + 1 + 1 < w1.heap.size := Nat.lt_of_lt_of_le (by simp <;> omega) hb.size
 have r0 : w1.cell? ⟨w.heap.size + 1 + 1 + 1, 0, none⟩ = some (.int .i64 0) := Rg.keep hb (by simp <;> omega) (by go_cell)
 have r1 : w1.cell? ⟨w.heap.size + 1 + 1 + 1, 1, none⟩ = some (.int .i64 0) := Rg.keep hb (by simp <;> omega) (by go_cell)
 have ls : w.heap.size + 1 + 1 + 1 + 1 < w1.heap.size := Nat.lt_of_lt_of_le (by simp <;> omega) hb.size
 have s0 : w1.cell? ⟨w.heap.size + 1 + 1 + 1 + 1, 0, none⟩ = some (.int .i64 n0) := Rg.keep hb (by simp <;> omega) (by go_cell)
 have s1 : w1.cell? ⟨w.heap.size + 1 + 1 + 1 + 1, 1, none⟩ = some (.int .i64 d0) := Rg.keep hb (by simp <;> omega) (by go_cell)
 have s2 : w1.cell? ⟨w.heap.size + 1 + 1 + 1 + 1, 2, none⟩ = some (.int .i64 n1) := Rg.keep hb (by simp <;> omega) (by go_cell)
 have s3 : w1.cell? ⟨w.heap.size + 1 + 1 + 1 + 1, 3, none⟩ = some (.int .i64 d1) := Rg.keep hb (by simp <;> omega) (by go_cell)
 clear hb L
 clear s0 s1 s2 s3
 go_wp2_with fail
 refine (CB.out _).mono ?_
 rintro e w2 ⟨rfl, hb⟩
 have L : Below w1.heap.size w1 w2 := (Below.refl _ _).trans (hb.mono (by simp <;> omega))
 have K2 : Below w.heap.size w w2 := K1.trans (L.mono K1.size)
 have RF0 := Rg.keepF L lr RF0
 have RF1 := Rg.keepF L lr RF1
 have t0 := Rg.keep L lt t0
 have t1 := Rg.keep L lt t1
 have t2 := Rg.keep L lt t2
 have t3 := Rg.keep L lt t3
 have t4 := Rg.keep L lt t4
 have a0 := Rg.keep L la a0
 have a1 := Rg.keep L la a1
 have b0 := Rg.keep L lb b0
 have b1 := Rg.keep L lb b1
 have r0 := Rg.keep L lr r0
 have r1 := Rg.keep L lr r1
 have lt := Nat.lt_of_lt_of_le lt L.size
 have la := Nat.lt_of_lt_of_le la L.size
 have lb := Nat.lt_of_lt_of_le lb L.size
 have lr := Nat.lt_of_lt_of_le lr L.size
 have ls := Nat.lt_of_lt_of_le ls L.size
 clear hb L
 have hRC := (⟨⟨_, r0⟩, ⟨_, r1⟩, RF0, RF1⟩ : Rg.RC (w.heap.size + 1 + 1 + 1) w2)
 have z0 : w.heap.size <= w.heap.size + 1 + 1 + 1 := by omega
 go_wp2
 have f0 := Rg.RC.read00 (x := x) hRC
 have f1 := Rg.RC.read1 (x := x) (y := y) hRC
 refine bodyPost_ret (v := Frac3 (x) (y) (e)) (by simp [results, Tryz.results151, go_sem, f0, f1]) rfl ⟨rfl, ?_⟩
 exact Below.setCell (Below.setCell K2 z0 _) z0 _
set_option maxHeartbeats 4000000 in
theorem div_go (K B F R O n0 d0 n1 d1 x y e c : Int) (w : World) (hz : (n1 == 0) = false) (CH : Hid (∀ (w : World) (x : Nat), x < w.heap.size -> w.cell? ⟨x, 0, none⟩ = some (.int .i64 n0) -> w.cell? ⟨x, 1, none⟩ = some (.int .i64 d0) -> w.cell? ⟨x, 2, none⟩ = some (.int .i64 n1) -> w.cell? ⟨x, 3, none⟩ = some (.int .i64 d1) ->
   Calls Tryz.prog 165 #[.agg #[.int .i64 K, .int .i64 B, .int .i64 F, .int .i64 R, .int .i64 O], .slice (some ⟨x, 0, none⟩) 2 2] w (Ret (.int .i64 0) w))) (CB : Hid (∀ w, Calls Tryz.prog 161 #[.agg #[.int .i64 K, .int .i64 B, .int .i64 F, .int .i64 R, .int .i64 O], .agg #[.int .i64 n0, .int .i64 d0], .agg #[.int .i64 n1, .int .i64 d1], .func (.func 166) #[] #[]] w (Ret (Frac3 x y e) w))) :
  Calls Tryz.prog 151 #[.agg #[.int .i64 K, .int .i64 B, .int .i64 F, .int .i64 R, .int .i64 O], .agg #[.int .i64 n0, .int .i64 d0], .agg #[.int .i64 n1, .int .i64 d1]] w (Ret (Frac3 x y e) w) := by
 go_enter Tryz.func151, Tryz.ntmps151
 go_wp2_with fail
 refine (CH.out _ _ (by simp <;> omega) (by go_cell) (by go_cell) (by go_cell) (by go_cell)).mono ?_
 rintro e w1 ⟨rfl, hb⟩
 have L : Below w.heap.size w w1 := ((((((Below.refl _ _).alloc (by simp <;> omega) _).alloc (by simp <;> omega) _).alloc (by simp <;> omega) _).alloc (by simp <;> omega) _).alloc (by simp <;> omega) _).trans (hb.mono (by simp <;> omega))
 have K1 : Below w.heap.size w w1 := L
 have RF0 : w1.frozen? ⟨w.heap.size + 1 + 1 + 1, 0, none⟩ = false := Rg.keepF hb (by simp <;> omega) (by simp only [frozen?_alloc_cells]; exact Rg.notFrozen (by omega))
 have RF1 : w1.frozen? ⟨w.heap.size + 1 + 1 + 1, 1, none⟩ = false := Rg.keepF hb (by simp <;> omega) (by simp only [frozen?_alloc_cells]; exact Rg.notFrozen (by omega))
 have lt : w.heap.size < w1.heap.size := Nat.lt_of_lt_of_le (by simp <;> omega) hb.size
 have t0 : w1.cell? ⟨w.heap.size, 0, none⟩ = some (.int .i64 K) := Rg.keep hb (by simp <;> omega) (by go_cell)
 have t1 : w1.cell? ⟨w.heap.size, 1, none⟩ = some (.int .i64 B) := Rg.keep hb (by simp <;> omega) (by go_cell)
 have t2 : w1.cell? ⟨w.heap.size, 2, none⟩ = some (.int .i64 F) := Rg.keep hb (by simp <;> omega) (by go_cell)
 have t3 : w1.cell? ⟨w.heap.size, 3, none⟩ = some (.int .i64 R) := Rg.keep hb (by simp <;> omega) (by go_cell)
 have t4 : w1.cell? ⟨w.heap.size, 4, none⟩ = some (.int .i64 O) := Rg.keep hb (by simp <;> omega) (by go_cell)
 have la : w.heap.size + 1 < w1.heap.size := Nat.lt_of_lt_of_le (by simp <;> omega) hb.size
 have a0 : w1.cell? ⟨w.heap.size + 1, 0, none⟩ = some (.int .i64 n0) := Rg.keep hb (by simp <;> omega) (by go_cell)
 have a1 : w1.cell? ⟨w.heap.size + 1, 1, none⟩ = some (.int .i64 d0) := Rg.keep hb (by simp <;> omega) (by go_cell)
 have lb : w.heap.size + 1 + 1 < w1.heap.size := Nat.lt_of_lt_of_le (by simp <;> omega) hb.size
 have b0 : w1.cell? ⟨w.heap.size + 1 + 1, 0, none⟩ = some (.int .i64 n1) := Rg.keep hb (by simp <;> omega) (by go_cell)
 have b1 : w1.cell? ⟨w.heap.size + 1 + 1, 1, none⟩ = some (.int .i64 d1) := Rg.keep hb (by simp <;> omega) (by go_cell)
 have lr : w.heap.size + 1 + 1 + 1 < w1.heap.size := Nat.lt_of_lt_of_le (by simp <;> omega) hb.size
 have r0 : w1.cell? ⟨w.heap.size + 1 + 1 + 1, 0, none⟩ = some (.int .i64 0) := Rg.keep hb (by simp <;> omega) (by go_cell)
 have r1 : w1.cell? ⟨w.heap.size + 1 + 1 + 1, 1, none⟩ = some (.int .i64 0) := Rg.keep hb (by simp <;> omega) (by go_cell)
 have ls : w.heap.size + 1 + 1 + 1 + 1 < w1.heap.size := Nat.lt_of_lt_of_le (by simp <;> omega) hb.size
 have s0 : w1.cell? ⟨w.heap.size + 1 + 1 + 1 + 1, 0, none⟩ = some (.int .i64 n0) := Rg.keep hb (by simp <;> omega) (by go_cell)
 have s1 : w1.cell? ⟨w.heap.size + 1 + 1 + 1 + 1, 1, none⟩ = some (.int .i64 d0) := Rg.keep hb (by simp <;> omega) (by go_cell)
 have s2 : w1.cell? ⟨w.heap.size + 1 + 1 + 1 + 1, 2, none⟩ = some (.int .i64 n1) := Rg.keep hb (by simp <;> omega) (by go_cell)
 have s3 : w1.cell? ⟨w.heap.size + 1 + 1 + 1 + 1, 3, none⟩ = some (.int .i64 d1) := Rg.keep hb (by simp <;> omega) (by go_cell)
 clear hb L
 clear s0 s1 s2 s3
 go_wp2_with fail
 refine (CB.out _).mono ?_
 rintro e w2 ⟨rfl, hb⟩
 have L : Below w1.heap.size w1 w2 := (Below.refl _ _).trans (hb.mono (by simp <;> omega))
 have K2 : Below w.heap.size w w2 := K1.trans (L.mono K1.size)
 have RF0 := Rg.keepF L lr RF0
 have RF1 := Rg.keepF L lr RF1
 have t0 := Rg.keep L lt t0
 have t1 := Rg.keep L lt t1
 have t2 := Rg.keep L lt t2
 have t3 := Rg.keep L lt t3
 have t4 := Rg.keep L lt t4
 have a0 := Rg.keep L la a0
 have a1 := Rg.keep L la a1
 have b0 := Rg.keep L lb b0
 have b1 := Rg.keep L lb b1
 have r0 := Rg.keep L lr r0
 have r1 := Rg.keep L lr r1
 have lt := Nat.lt_of_lt_of_le lt L.size
 have la := Nat.lt_of_lt_of_le la L.size
 have lb := Nat.lt_of_lt_of_le lb L.size
 have lr := Nat.lt_of_lt_of_le lr L.size
 have ls := Nat.lt_of_lt_of_le ls L.size
 clear hb L
 have hRC := (⟨⟨_, r0⟩, ⟨_, r1⟩, RF0, RF1⟩ : Rg.RC (w.heap.size + 1 + 1 + 1) w2)
 have z0 : w.heap.size <= w.heap.size + 1 + 1 + 1 := by omega
 go_wp2
 have f0 := Rg.RC.read00 (x := x) hRC
 have f1 := Rg.RC.read1 (x := x) (y := y) hRC
 refine bodyPost_ret (v := Frac3 (x) (y) (e)) (by simp [results, Tryz.results151, go_sem, f0, f1]) rfl ⟨rfl, ?_⟩
 exact Below.setCell (Below.setCell K2 z0 _) z0 _
end Go.Proofs.YteaaikmejacpaaaGreatDoor.Fx


namespace Go.Proofs.YteaaikmejacpaaaGreatDoor.Fx
open Go.ChangeShapes Go.WideShapes Go.ChangeAt Go.RowKit
open Fr
set_option linter.unusedVariables false
set_option linter.unusedSimpArgs false
theorem cl57 (K B F R O n0 n1 p : Int) (w : World) (x : Nat) (h : TyAt K B F R O x w) (a0 : -1099511627776 <= n0) (a1 : n0 <= 1099511627776) (b0 : -1099511627776 <= n1) (b1 : n1 <= 1099511627776) : Calls Tryz.prog 162 #[.agg #[Fo1 x, Fo2 x, .int .i64 p], .int .i64 n0, .int .i64 n1] w (Ret (.int .i64 (n0 + n1)) w) := by
 clear h
 go_enter Tryz.func162, Tryz.ntmps162
 go_wp2
 go_ret
 exact ⟨rfl, by go_grown⟩
theorem cl58 (K B F R O n0 n1 p : Int) (w : World) (x : Nat) (h : TyAt K B F R O x w) (a0 : -1099511627776 <= n0) (a1 : n0 <= 1099511627776) (b0 : -1099511627776 <= n1) (b1 : n1 <= 1099511627776) : Calls Tryz.prog 163 #[.agg #[Fo1 x, Fo2 x, .int .i64 p], .int .i64 n0, .int .i64 n1] w (Ret (.int .i64 (n0 - n1)) w) := by
 clear h
 go_enter Tryz.func163, Tryz.ntmps163
 go_wp2
 go_ret
 exact ⟨rfl, by go_grown⟩
theorem cl61 (K B F R O n0 n1 p : Int) (w : World) (x : Nat) (h : TyAt K B F R O x w) (a0 : -1099511627776 <= n0) (a1 : n0 <= 1099511627776) (b0 : -1099511627776 <= n1) (b1 : n1 <= 1099511627776) : Calls Tryz.prog 167 #[.agg #[Fo1 x, Fo2 x, .int .i64 p], .int .i64 n0, .int .i64 n1] w (Ret (.int .i64 (-n0)) w) := by
 clear h
 go_enter Tryz.func167, Tryz.ntmps167
 go_wp2
 go_ret
 exact ⟨rfl, by go_grown⟩
set_option maxHeartbeats 4000000 in
theorem cl59 (K B F R O n0 n1 p t : Int) (w : World) (x : Nat) (h : TyAt K B F R O x w) (hx : x < w.heap.size) (ht : n0 * n1 = t) (t0 : -4611686018427387904 <= t) (t1 : t <= 4611686018427387904) (p0 : 1 <= p) (p1 : p <= 1073741824) (a0 : -1099511627776 <= n0) (a1 : n0 <= 1099511627776) (b0 : -1099511627776 <= n1) (b1 : n1 <= 1099511627776) : Calls Tryz.prog 164 #[.agg #[Fo1 x, Fo2 x, .int .i64 p], .int .i64 n0, .int .i64 n1] w (Ret (.int .i64 (Dv.dval R t p)) w) := by
 have D := Lib.hid (fo1 K B F R O t p x (w.alloc (.cells #[Fo1 x, Fo2 x, .int .i64 p] 163)) (h.keep ((Below.refl _ _).alloc (Nat.le_refl _) _) hx) (by omega) (by omega) (by omega) (by omega))
 generalize Dv.dval R t p = q at *
 clear h
 go_enter Tryz.func164, Tryz.ntmps164
 go_wp2_with (refine (D.out).mono ?_; rintro e w' ⟨rfl, kd, rfl⟩)
 go_ret
 exact ⟨rfl, below_drewN ((Below.refl _ _).alloc (Nat.le_refl _) _) _⟩
set_option maxHeartbeats 4000000 in
theorem cl60 (K B F R O n0 n1 p t : Int) (w : World) (x : Nat) (h : TyAt K B F R O x w) (hx : x < w.heap.size) (ht : n0 * p = t) (t0 : -4611686018427387904 <= t) (t1 : t <= 4611686018427387904) (p0 : 1 <= p) (p1 : p <= 1073741824) (a0 : -1099511627776 <= n0) (a1 : n0 <= 1099511627776) (b0 : -1099511627776 <= n1) (b1 : n1 <= 1099511627776) : Calls Tryz.prog 166 #[.agg #[Fo1 x, Fo2 x, .int .i64 p], .int .i64 n0, .int .i64 n1] w (Ret (.int .i64 (Dv.dval R t n1)) w) := by
 have D := Lib.hid (fo1 K B F R O t n1 x (w.alloc (.cells #[Fo1 x, Fo2 x, .int .i64 p] 163)) (h.keep ((Below.refl _ _).alloc (Nat.le_refl _) _) hx) (by omega) (by omega) (by omega) (by omega))
 generalize Dv.dval R t n1 = q at *
 clear h
 go_enter Tryz.func166, Tryz.ntmps166
 go_wp2_with (refine (D.out).mono ?_; rintro e w' ⟨rfl, kd, rfl⟩)
 go_ret
 exact ⟨rfl, below_drewN ((Below.refl _ _).alloc (Nat.le_refl _) _) _⟩
end Go.Proofs.YteaaikmejacpaaaGreatDoor.Fx


namespace Go.Proofs.YteaaikmejacpaaaGreatDoor.Fr
open Go.ChangeShapes Go.WideShapes Go.ChangeAt Go.RowKit
set_option linter.unusedVariables false
set_option linter.unusedSimpArgs false
set_option maxHeartbeats 2000000 in
theorem valid_out (n d : Int) (w : World) (h : d < 1 \/ 2147483647 < d \/ n < -2147483647 \/ 2147483647 < n) :
  Calls Tryz.prog 84 #[.agg #[.int .i64 n, .int .i64 d]] w (Ret (.bool false) w) := by
 obtain ⟨x1, x2, x3, x4, y1, y2, y3, y4⟩ : ∃ x1 x2 x3 x4, decide (d < 1) = x1 /\ decide (2147483647 < d) = x2 /\ decide (n < -2147483647) = x3 /\ decide (2147483647 < n) = x4 := ⟨_, _, _, _, rfl, rfl, rfl, rfl⟩
 have hx : (x1 || x2 || x3 || x4) = true := by subst y1 y2 y3 y4; simp; omega
 clear h
 cases x1 <;> cases x2 <;> cases x3 <;> cases x4 <;> (first | (exfalso; simp at hx; done) | skip)
 all_goals
  clear hx
  go_enter Tryz.func84, Tryz.ntmps84
  go_wp2
  go_ret
  exact ⟨rfl, by go_grown⟩
set_option maxHeartbeats 2000000 in
theorem valid_in (n d : Int) (w : World) (h1 : 1 <= d) (h2 : d <= 2147483647) (h3 : -2147483647 <= n) (h4 : n <= 2147483647) :
  Calls Tryz.prog 84 #[.agg #[.int .i64 n, .int .i64 d]] w (Ret (.bool (vld n d)) w) := by
 have HV := Lib.hid (vld_in h1 h2 h3 h4)
 have c1 : decide (d < 1) = false := by simp; omega
 have c2 : decide (2147483647 < d) = false := by simp; omega
 have c3 : decide (n < -2147483647) = false := by simp; omega
 have c4 : decide (2147483647 < n) = false := by simp; omega
 rcases (by omega : n < 0 \/ 0 <= n) with hn | hn
 ·have hg := gcd_abs n d
  go_enter Tryz.func84, Tryz.ntmps84
  go_wp2
  go_quiet ((first | (go_at_call 110; exact Calls.quiet_of_same ((fmag_neg n _ (by omega) (by omega)).mono fun _ _ h => ⟨h.1, h.2.symm⟩)) | (go_at_call 109; exact Calls.quiet_of (fgcd _ _ _ (by omega) (by omega) (by omega) (by omega)))))
  go_wp2
  go_ret
  exact ⟨by rw [HV.out]; rfl, below_drewN (by go_grown) _⟩
 ·go_enter Tryz.func84, Tryz.ntmps84
  go_wp2
  go_quiet ((first | (go_at_call 110; exact Calls.quiet_of_same ((fmag_pos n _ (by omega) (by omega)).mono fun _ _ h => ⟨h.1, h.2.symm⟩)) | (go_at_call 109; exact Calls.quiet_of (fgcd _ _ _ (by omega) (by omega) (by omega) (by omega)))))
  go_wp2
  go_ret
  exact ⟨by rw [HV.out]; rfl, below_drewN (by go_grown) _⟩
theorem valid_any (n d : Int) (w : World) : Calls Tryz.prog 84 #[.agg #[.int .i64 n, .int .i64 d]] w (Ret (.bool (vld n d)) w) := by
 by_cases h : d < 1 \/ 2147483647 < d \/ n < -2147483647 \/ 2147483647 < n
 ·rw [vld_out h]; exact valid_out n d w h
 ·exact valid_in n d w (by omega) (by omega) (by omega) (by omega)
end Go.Proofs.YteaaikmejacpaaaGreatDoor.Fr


namespace Go.Proofs.YteaaikmejacpaaaGreatDoor.Fr
open Go.ChangeShapes Go.WideShapes Go.ChangeAt Go.RowKit
set_option linter.unusedVariables false
set_option linter.unusedSimpArgs false
set_option maxHeartbeats 2000000 in
theorem bval_out (n d : Int) (w : World) (h : d < 1 \/ 2147483647 < d \/ n < -2147483647 \/ 2147483647 < n) :
  Calls Tryz.prog 54 #[.agg #[.int .i64 1, .int .i64 0, .int .i64 0, .int .i64 0, .int .i64 0], .agg #[.int .i64 n, .int .i64 d]] w (Ret (.bool false) w) := by
 obtain ⟨x1, x2, x3, x4, y1, y2, y3, y4⟩ : ∃ x1 x2 x3 x4, decide (d < 1) = x1 /\ decide (2147483647 < d) = x2 /\ decide (n < -2147483647) = x3 /\ decide (2147483647 < n) = x4 := ⟨_, _, _, _, rfl, rfl, rfl, rfl⟩
 have hx : (x1 || x2 || x3 || x4) = true := by subst y1 y2 y3 y4; simp; omega
 clear h
 cases x1 <;> cases x2 <;> cases x3 <;> cases x4 <;> (first | (exfalso; simp at hx; done) | skip)
 all_goals
  clear hx
  go_enter Tryz.func54, Tryz.ntmps54
  go_wp2
  go_ret
  exact ⟨rfl, by go_grown⟩
set_option maxHeartbeats 2000000 in
theorem bval_in (n d : Int) (w : World) (h1 : 1 <= d) (h2 : d <= 2147483647) (h3 : -2147483647 <= n) (h4 : n <= 2147483647) :
  Calls Tryz.prog 54 #[.agg #[.int .i64 1, .int .i64 0, .int .i64 0, .int .i64 0, .int .i64 0], .agg #[.int .i64 n, .int .i64 d]] w (Ret (.bool (vld n d)) w) := by
 have HV := Lib.hid (vld_in h1 h2 h3 h4)
 have c1 : decide (d < 1) = false := by simp; omega
 have c2 : decide (2147483647 < d) = false := by simp; omega
 have c3 : decide (n < -2147483647) = false := by simp; omega
 have c4 : decide (2147483647 < n) = false := by simp; omega
 rcases (by omega : n < 0 \/ 0 <= n) with hn | hn
 ·have hg := gcd_abs n d
  have hm : max n (-n) = -n := by omega
  have hm2 : decide (n < -n) = true := by simp; omega
  have hm3 : decide (-n < n) = false := by simp; omega
  go_enter Tryz.func54, Tryz.ntmps54
  go_wp2_with (go_at_call 88; refine (bgcd _ _ _ (by omega) (by omega) (by omega) (by omega)).mono ?_; rintro e w1 ⟨rfl, k, rfl⟩)
  go_ret
  exact ⟨by rw [HV.out]; rfl, below_drewN (by go_grown) _⟩
 ·have hm : max n (-n) = n := by omega
  have hm2 : decide (n < -n) = false := by simp; omega
  go_enter Tryz.func54, Tryz.ntmps54
  go_wp2_with (go_at_call 88; refine (bgcd _ _ _ (by omega) (by omega) (by omega) (by omega)).mono ?_; rintro e w1 ⟨rfl, k, rfl⟩)
  go_ret
  exact ⟨by rw [HV.out]; rfl, below_drewN (by go_grown) _⟩
theorem bval_any (n d : Int) (w : World) : Calls Tryz.prog 54 #[.agg #[.int .i64 1, .int .i64 0, .int .i64 0, .int .i64 0, .int .i64 0], .agg #[.int .i64 n, .int .i64 d]] w (Ret (.bool (vld n d)) w) := by
 by_cases h : d < 1 \/ 2147483647 < d \/ n < -2147483647 \/ 2147483647 < n
 ·rw [vld_out h]; exact bval_out n d w h
 ·exact bval_in n d w (by omega) (by omega) (by omega) (by omega)
end Go.Proofs.YteaaikmejacpaaaGreatDoor.Fr


namespace Go.Proofs.YteaaikmejacpaaaGreatDoor.Fr
open Go.ChangeShapes Go.WideShapes Go.ChangeAt Go.RowKit
set_option linter.unusedVariables false
set_option linter.unusedSimpArgs false

end Go.Proofs.YteaaikmejacpaaaGreatDoor.Fr


namespace Go.Proofs.YteaaikmejacpaaaGreatDoor.Fx
open Go.ChangeShapes Go.WideShapes Go.ChangeAt Go.RowKit
open Fr
set_option linter.unusedVariables false
set_option linter.unusedSimpArgs false
set_option maxHeartbeats 4000000 in
theorem chk1_tv (K B F R O n0 d0 : Int) (x : Nat) (w : World) (hx : x < w.heap.size) (c0 : w.cell? ⟨x, 0, none⟩ = some (.int .i64 n0)) (c1 : w.cell? ⟨x, 1, none⟩ = some (.int .i64 d0)) (VT : Hid (∀ w, Calls Tryz.prog 81 #[.agg #[.int .i64 K, .int .i64 B, .int .i64 F, .int .i64 R, .int .i64 O]] w (Ret (.int .i64 10) w))) :
  Calls Tryz.prog 165 #[.agg #[.int .i64 K, .int .i64 B, .int .i64 F, .int .i64 R, .int .i64 O], .slice (some ⟨x, 0, none⟩) 1 1] w (Ret (.int .i64 10) w) := by
 go_enter Tryz.func165, Tryz.ntmps165
 go_wp2_with fail
 refine (VT.out _).mono ?_
 rintro e w1 ⟨rfl, hb⟩
 have K1 : Below w.heap.size w w1 := ((Below.refl _ _).alloc (Nat.le_refl _) _).trans (hb.mono (by simp))
 have lt : w.heap.size < w1.heap.size := by have := hb.size; simp at this; omega
 clear hb
 go_wp2
 go_ret
 exact ⟨rfl, K1⟩
set_option maxHeartbeats 4000000 in
theorem chk1_t (K B F R O n0 d0 : Int) (x : Nat) (w : World) (hx : x < w.heap.size) (c0 : w.cell? ⟨x, 0, none⟩ = some (.int .i64 n0)) (c1 : w.cell? ⟨x, 1, none⟩ = some (.int .i64 d0)) (VT : Hid (∀ w, Calls Tryz.prog 81 #[.agg #[.int .i64 K, .int .i64 B, .int .i64 F, .int .i64 R, .int .i64 O]] w (Ret (.int .i64 0) w))) (V0 : Hid (∀ w, Calls Tryz.prog 86 #[.agg #[.int .i64 K, .int .i64 B, .int .i64 F, .int .i64 R, .int .i64 O], .agg #[.int .i64 n0, .int .i64 d0]] w (Ret (.bool true) w))) :
  Calls Tryz.prog 165 #[.agg #[.int .i64 K, .int .i64 B, .int .i64 F, .int .i64 R, .int .i64 O], .slice (some ⟨x, 0, none⟩) 1 1] w (Ret (.int .i64 0) w) := by
 go_enter Tryz.func165, Tryz.ntmps165
 go_wp2_with fail
 refine (VT.out _).mono ?_
 rintro e w1 ⟨rfl, hb⟩
 have K1 : Below w.heap.size w w1 := ((Below.refl _ _).alloc (Nat.le_refl _) _).trans (hb.mono (by simp))
 have lt : w.heap.size < w1.heap.size := by have := hb.size; simp at this; omega
 have t0 : w1.cell? ⟨w.heap.size, 0, none⟩ = some (.int .i64 K) := Rg.keep hb (by simp) (by go_cell)
 have t1 : w1.cell? ⟨w.heap.size, 1, none⟩ = some (.int .i64 B) := Rg.keep hb (by simp) (by go_cell)
 have t2 : w1.cell? ⟨w.heap.size, 2, none⟩ = some (.int .i64 F) := Rg.keep hb (by simp) (by go_cell)
 have t3 : w1.cell? ⟨w.heap.size, 3, none⟩ = some (.int .i64 R) := Rg.keep hb (by simp) (by go_cell)
 have t4 : w1.cell? ⟨w.heap.size, 4, none⟩ = some (.int .i64 O) := Rg.keep hb (by simp) (by go_cell)
 have c0 := Rg.keep K1 hx c0
 have c1 := Rg.keep K1 hx c1
 clear hb
 go_wp2
 refine wp_loop_rounds 2 ?_
 rw [rounds_succ]
 go_wp2_with fail
 refine (V0.out _).mono ?_
 rintro e w2 ⟨rfl, hb⟩
 have L : Below w1.heap.size w1 w2 := ((Below.refl _ _).alloc (Nat.le_refl _) _).trans (hb.mono (by simp))
 have K2 : Below w.heap.size w w2 := K1.trans (L.mono K1.size)
 have t0 := Rg.keep L (by omega) t0
 have t1 := Rg.keep L (by omega) t1
 have t2 := Rg.keep L (by omega) t2
 have t3 := Rg.keep L (by omega) t3
 have t4 := Rg.keep L (by omega) t4
 have c0 := Rg.keep L (by omega) c0
 have c1 := Rg.keep L (by omega) c1
 have lt := Nat.lt_of_lt_of_le lt L.size
 clear hb L
 go_wp2
 rw [rounds_succ]
 go_wp2
 go_ret
 exact ⟨rfl, K2⟩
set_option maxHeartbeats 4000000 in
theorem chk1_f (K B F R O n0 d0 : Int) (x : Nat) (w : World) (hx : x < w.heap.size) (c0 : w.cell? ⟨x, 0, none⟩ = some (.int .i64 n0)) (c1 : w.cell? ⟨x, 1, none⟩ = some (.int .i64 d0)) (VT : Hid (∀ w, Calls Tryz.prog 81 #[.agg #[.int .i64 K, .int .i64 B, .int .i64 F, .int .i64 R, .int .i64 O]] w (Ret (.int .i64 0) w))) (V0 : Hid (∀ w, Calls Tryz.prog 86 #[.agg #[.int .i64 K, .int .i64 B, .int .i64 F, .int .i64 R, .int .i64 O], .agg #[.int .i64 n0, .int .i64 d0]] w (Ret (.bool false) w))) :
  Calls Tryz.prog 165 #[.agg #[.int .i64 K, .int .i64 B, .int .i64 F, .int .i64 R, .int .i64 O], .slice (some ⟨x, 0, none⟩) 1 1] w (Ret (.int .i64 1) w) := by
 go_enter Tryz.func165, Tryz.ntmps165
 go_wp2_with fail
 refine (VT.out _).mono ?_
 rintro e w1 ⟨rfl, hb⟩
 have K1 : Below w.heap.size w w1 := ((Below.refl _ _).alloc (Nat.le_refl _) _).trans (hb.mono (by simp))
 have lt : w.heap.size < w1.heap.size := by have := hb.size; simp at this; omega
 have t0 : w1.cell? ⟨w.heap.size, 0, none⟩ = some (.int .i64 K) := Rg.keep hb (by simp) (by go_cell)
 have t1 : w1.cell? ⟨w.heap.size, 1, none⟩ = some (.int .i64 B) := Rg.keep hb (by simp) (by go_cell)
 have t2 : w1.cell? ⟨w.heap.size, 2, none⟩ = some (.int .i64 F) := Rg.keep hb (by simp) (by go_cell)
 have t3 : w1.cell? ⟨w.heap.size, 3, none⟩ = some (.int .i64 R) := Rg.keep hb (by simp) (by go_cell)
 have t4 : w1.cell? ⟨w.heap.size, 4, none⟩ = some (.int .i64 O) := Rg.keep hb (by simp) (by go_cell)
 have c0 := Rg.keep K1 hx c0
 have c1 := Rg.keep K1 hx c1
 clear hb
 go_wp2
 refine wp_loop_rounds 1 ?_
 rw [rounds_succ]
 go_wp2_with fail
 refine (V0.out _).mono ?_
 rintro e w2 ⟨rfl, hb⟩
 have L : Below w1.heap.size w1 w2 := ((Below.refl _ _).alloc (Nat.le_refl _) _).trans (hb.mono (by simp))
 have K2 : Below w.heap.size w w2 := K1.trans (L.mono K1.size)
 have t0 := Rg.keep L (by omega) t0
 have t1 := Rg.keep L (by omega) t1
 have t2 := Rg.keep L (by omega) t2
 have t3 := Rg.keep L (by omega) t3
 have t4 := Rg.keep L (by omega) t4
 have c0 := Rg.keep L (by omega) c0
 have c1 := Rg.keep L (by omega) c1
 have lt := Nat.lt_of_lt_of_le lt L.size
 clear hb L
 go_wp2
 go_ret
 exact ⟨rfl, K2⟩
set_option maxHeartbeats 4000000 in
theorem chk2_tv (K B F R O n0 d0 n1 d1 : Int) (x : Nat) (w : World) (hx : x < w.heap.size) (c0 : w.cell? ⟨x, 0, none⟩ = some (.int .i64 n0)) (c1 : w.cell? ⟨x, 1, none⟩ = some (.int .i64 d0)) (c2 : w.cell? ⟨x, 2, none⟩ = some (.int .i64 n1)) (c3 : w.cell? ⟨x, 3, none⟩ = some (.int .i64 d1)) (VT : Hid (∀ w, Calls Tryz.prog 81 #[.agg #[.int .i64 K, .int .i64 B, .int .i64 F, .int .i64 R, .int .i64 O]] w (Ret (.int .i64 10) w))) :
  Calls Tryz.prog 165 #[.agg #[.int .i64 K, .int .i64 B, .int .i64 F, .int .i64 R, .int .i64 O], .slice (some ⟨x, 0, none⟩) 2 2] w (Ret (.int .i64 10) w) := by
 go_enter Tryz.func165, Tryz.ntmps165
 go_wp2_with fail
 refine (VT.out _).mono ?_
 rintro e w1 ⟨rfl, hb⟩
 have K1 : Below w.heap.size w w1 := ((Below.refl _ _).alloc (Nat.le_refl _) _).trans (hb.mono (by simp))
 have lt : w.heap.size < w1.heap.size := by have := hb.size; simp at this; omega
 clear hb
 go_wp2
 go_ret
 exact ⟨rfl, K1⟩
set_option maxHeartbeats 4000000 in
theorem chk2_tt (K B F R O n0 d0 n1 d1 : Int) (x : Nat) (w : World) (hx : x < w.heap.size) (c0 : w.cell? ⟨x, 0, none⟩ = some (.int .i64 n0)) (c1 : w.cell? ⟨x, 1, none⟩ = some (.int .i64 d0)) (c2 : w.cell? ⟨x, 2, none⟩ = some (.int .i64 n1)) (c3 : w.cell? ⟨x, 3, none⟩ = some (.int .i64 d1)) (VT : Hid (∀ w, Calls Tryz.prog 81 #[.agg #[.int .i64 K, .int .i64 B, .int .i64 F, .int .i64 R, .int .i64 O]] w (Ret (.int .i64 0) w))) (V0 : Hid (∀ w, Calls Tryz.prog 86 #[.agg #[.int .i64 K, .int .i64 B, .int .i64 F, .int .i64 R, .int .i64 O], .agg #[.int .i64 n0, .int .i64 d0]] w (Ret (.bool true) w))) (V1 : Hid (∀ w, Calls Tryz.prog 86 #[.agg #[.int .i64 K, .int .i64 B, .int .i64 F, .int .i64 R, .int .i64 O], .agg #[.int .i64 n1, .int .i64 d1]] w (Ret (.bool true) w))) :
  Calls Tryz.prog 165 #[.agg #[.int .i64 K, .int .i64 B, .int .i64 F, .int .i64 R, .int .i64 O], .slice (some ⟨x, 0, none⟩) 2 2] w (Ret (.int .i64 0) w) := by
 go_enter Tryz.func165, Tryz.ntmps165
 go_wp2_with fail
 refine (VT.out _).mono ?_
 rintro e w1 ⟨rfl, hb⟩
 have K1 : Below w.heap.size w w1 := ((Below.refl _ _).alloc (Nat.le_refl _) _).trans (hb.mono (by simp))
 have lt : w.heap.size < w1.heap.size := by have := hb.size; simp at this; omega
 have t0 : w1.cell? ⟨w.heap.size, 0, none⟩ = some (.int .i64 K) := Rg.keep hb (by simp) (by go_cell)
 have t1 : w1.cell? ⟨w.heap.size, 1, none⟩ = some (.int .i64 B) := Rg.keep hb (by simp) (by go_cell)
 have t2 : w1.cell? ⟨w.heap.size, 2, none⟩ = some (.int .i64 F) := Rg.keep hb (by simp) (by go_cell)
 have t3 : w1.cell? ⟨w.heap.size, 3, none⟩ = some (.int .i64 R) := Rg.keep hb (by simp) (by go_cell)
 have t4 : w1.cell? ⟨w.heap.size, 4, none⟩ = some (.int .i64 O) := Rg.keep hb (by simp) (by go_cell)
 have c0 := Rg.keep K1 hx c0
 have c1 := Rg.keep K1 hx c1
 have c2 := Rg.keep K1 hx c2
 have c3 := Rg.keep K1 hx c3
 clear hb
 go_wp2
 refine wp_loop_rounds 3 ?_
 rw [rounds_succ]
 go_wp2_with fail
 refine (V0.out _).mono ?_
 rintro e w2 ⟨rfl, hb⟩
 have L : Below w1.heap.size w1 w2 := ((Below.refl _ _).alloc (Nat.le_refl _) _).trans (hb.mono (by simp))
 have K2 : Below w.heap.size w w2 := K1.trans (L.mono K1.size)
 have t0 := Rg.keep L (by omega) t0
 have t1 := Rg.keep L (by omega) t1
 have t2 := Rg.keep L (by omega) t2
 have t3 := Rg.keep L (by omega) t3
 have t4 := Rg.keep L (by omega) t4
 have c0 := Rg.keep L (by omega) c0
 have c1 := Rg.keep L (by omega) c1
 have c2 := Rg.keep L (by omega) c2
 have c3 := Rg.keep L (by omega) c3
 have lt := Nat.lt_of_lt_of_le lt L.size
 clear hb L
 go_wp2
 rw [rounds_succ]
 go_wp2_with fail
 refine (V1.out _).mono ?_
 rintro e w3 ⟨rfl, hb⟩
 have L : Below w2.heap.size w2 w3 := ((Below.refl _ _).alloc (Nat.le_refl _) _).trans (hb.mono (by simp))
 have K3 : Below w.heap.size w w3 := K2.trans (L.mono K2.size)
 have t0 := Rg.keep L (by omega) t0
 have t1 := Rg.keep L (by omega) t1
 have t2 := Rg.keep L (by omega) t2
 have t3 := Rg.keep L (by omega) t3
 have t4 := Rg.keep L (by omega) t4
 have c0 := Rg.keep L (by omega) c0
 have c1 := Rg.keep L (by omega) c1
 have c2 := Rg.keep L (by omega) c2
 have c3 := Rg.keep L (by omega) c3
 have lt := Nat.lt_of_lt_of_le lt L.size
 clear hb L
 go_wp2
 rw [rounds_succ]
 go_wp2
 go_ret
 exact ⟨rfl, K3⟩
set_option maxHeartbeats 4000000 in
theorem chk2_tf (K B F R O n0 d0 n1 d1 : Int) (x : Nat) (w : World) (hx : x < w.heap.size) (c0 : w.cell? ⟨x, 0, none⟩ = some (.int .i64 n0)) (c1 : w.cell? ⟨x, 1, none⟩ = some (.int .i64 d0)) (c2 : w.cell? ⟨x, 2, none⟩ = some (.int .i64 n1)) (c3 : w.cell? ⟨x, 3, none⟩ = some (.int .i64 d1)) (VT : Hid (∀ w, Calls Tryz.prog 81 #[.agg #[.int .i64 K, .int .i64 B, .int .i64 F, .int .i64 R, .int .i64 O]] w (Ret (.int .i64 0) w))) (V0 : Hid (∀ w, Calls Tryz.prog 86 #[.agg #[.int .i64 K, .int .i64 B, .int .i64 F, .int .i64 R, .int .i64 O], .agg #[.int .i64 n0, .int .i64 d0]] w (Ret (.bool true) w))) (V1 : Hid (∀ w, Calls Tryz.prog 86 #[.agg #[.int .i64 K, .int .i64 B, .int .i64 F, .int .i64 R, .int .i64 O], .agg #[.int .i64 n1, .int .i64 d1]] w (Ret (.bool false) w))) :
  Calls Tryz.prog 165 #[.agg #[.int .i64 K, .int .i64 B, .int .i64 F, .int .i64 R, .int .i64 O], .slice (some ⟨x, 0, none⟩) 2 2] w (Ret (.int .i64 1) w) := by
 go_enter Tryz.func165, Tryz.ntmps165
 go_wp2_with fail
 refine (VT.out _).mono ?_
 rintro e w1 ⟨rfl, hb⟩
 have K1 : Below w.heap.size w w1 := ((Below.refl _ _).alloc (Nat.le_refl _) _).trans (hb.mono (by simp))
 have lt : w.heap.size < w1.heap.size := by have := hb.size; simp at this; omega
 have t0 : w1.cell? ⟨w.heap.size, 0, none⟩ = some (.int .i64 K) := Rg.keep hb (by simp) (by go_cell)
 have t1 : w1.cell? ⟨w.heap.size, 1, none⟩ = some (.int .i64 B) := Rg.keep hb (by simp) (by go_cell)
 have t2 : w1.cell? ⟨w.heap.size, 2, none⟩ = some (.int .i64 F) := Rg.keep hb (by simp) (by go_cell)
 have t3 : w1.cell? ⟨w.heap.size, 3, none⟩ = some (.int .i64 R) := Rg.keep hb (by simp) (by go_cell)
 have t4 : w1.cell? ⟨w.heap.size, 4, none⟩ = some (.int .i64 O) := Rg.keep hb (by simp) (by go_cell)
 have c0 := Rg.keep K1 hx c0
 have c1 := Rg.keep K1 hx c1
 have c2 := Rg.keep K1 hx c2
 have c3 := Rg.keep K1 hx c3
 clear hb
 go_wp2
 refine wp_loop_rounds 2 ?_
 rw [rounds_succ]
 go_wp2_with fail
 refine (V0.out _).mono ?_
 rintro e w2 ⟨rfl, hb⟩
 have L : Below w1.heap.size w1 w2 := ((Below.refl _ _).alloc (Nat.le_refl _) _).trans (hb.mono (by simp))
 have K2 : Below w.heap.size w w2 := K1.trans (L.mono K1.size)
 have t0 := Rg.keep L (by omega) t0
 have t1 := Rg.keep L (by omega) t1
 have t2 := Rg.keep L (by omega) t2
 have t3 := Rg.keep L (by omega) t3
 have t4 := Rg.keep L (by omega) t4
 have c0 := Rg.keep L (by omega) c0
 have c1 := Rg.keep L (by omega) c1
 have c2 := Rg.keep L (by omega) c2
 have c3 := Rg.keep L (by omega) c3
 have lt := Nat.lt_of_lt_of_le lt L.size
 clear hb L
 go_wp2
 rw [rounds_succ]
 go_wp2_with fail
 refine (V1.out _).mono ?_
 rintro e w3 ⟨rfl, hb⟩
 have L : Below w2.heap.size w2 w3 := ((Below.refl _ _).alloc (Nat.le_refl _) _).trans (hb.mono (by simp))
 have K3 : Below w.heap.size w w3 := K2.trans (L.mono K2.size)
 have t0 := Rg.keep L (by omega) t0
 have t1 := Rg.keep L (by omega) t1
 have t2 := Rg.keep L (by omega) t2
 have t3 := Rg.keep L (by omega) t3
 have t4 := Rg.keep L (by omega) t4
 have c0 := Rg.keep L (by omega) c0
 have c1 := Rg.keep L (by omega) c1
 have c2 := Rg.keep L (by omega) c2
 have c3 := Rg.keep L (by omega) c3
 have lt := Nat.lt_of_lt_of_le lt L.size
 clear hb L
 go_wp2
 go_ret
 exact ⟨rfl, K3⟩
set_option maxHeartbeats 4000000 in
theorem chk2_f (K B F R O n0 d0 n1 d1 : Int) (x : Nat) (w : World) (hx : x < w.heap.size) (c0 : w.cell? ⟨x, 0, none⟩ = some (.int .i64 n0)) (c1 : w.cell? ⟨x, 1, none⟩ = some (.int .i64 d0)) (c2 : w.cell? ⟨x, 2, none⟩ = some (.int .i64 n1)) (c3 : w.cell? ⟨x, 3, none⟩ = some (.int .i64 d1)) (VT : Hid (∀ w, Calls Tryz.prog 81 #[.agg #[.int .i64 K, .int .i64 B, .int .i64 F, .int .i64 R, .int .i64 O]] w (Ret (.int .i64 0) w))) (V0 : Hid (∀ w, Calls Tryz.prog 86 #[.agg #[.int .i64 K, .int .i64 B, .int .i64 F, .int .i64 R, .int .i64 O], .agg #[.int .i64 n0, .int .i64 d0]] w (Ret (.bool false) w))) :
  Calls Tryz.prog 165 #[.agg #[.int .i64 K, .int .i64 B, .int .i64 F, .int .i64 R, .int .i64 O], .slice (some ⟨x, 0, none⟩) 2 2] w (Ret (.int .i64 1) w) := by
 go_enter Tryz.func165, Tryz.ntmps165
 go_wp2_with fail
 refine (VT.out _).mono ?_
 rintro e w1 ⟨rfl, hb⟩
 have K1 : Below w.heap.size w w1 := ((Below.refl _ _).alloc (Nat.le_refl _) _).trans (hb.mono (by simp))
 have lt : w.heap.size < w1.heap.size := by have := hb.size; simp at this; omega
 have t0 : w1.cell? ⟨w.heap.size, 0, none⟩ = some (.int .i64 K) := Rg.keep hb (by simp) (by go_cell)
 have t1 : w1.cell? ⟨w.heap.size, 1, none⟩ = some (.int .i64 B) := Rg.keep hb (by simp) (by go_cell)
 have t2 : w1.cell? ⟨w.heap.size, 2, none⟩ = some (.int .i64 F) := Rg.keep hb (by simp) (by go_cell)
 have t3 : w1.cell? ⟨w.heap.size, 3, none⟩ = some (.int .i64 R) := Rg.keep hb (by simp) (by go_cell)
 have t4 : w1.cell? ⟨w.heap.size, 4, none⟩ = some (.int .i64 O) := Rg.keep hb (by simp) (by go_cell)
 have c0 := Rg.keep K1 hx c0
 have c1 := Rg.keep K1 hx c1
 have c2 := Rg.keep K1 hx c2
 have c3 := Rg.keep K1 hx c3
 clear hb
 go_wp2
 refine wp_loop_rounds 1 ?_
 rw [rounds_succ]
 go_wp2_with fail
 refine (V0.out _).mono ?_
 rintro e w2 ⟨rfl, hb⟩
 have L : Below w1.heap.size w1 w2 := ((Below.refl _ _).alloc (Nat.le_refl _) _).trans (hb.mono (by simp))
 have K2 : Below w.heap.size w w2 := K1.trans (L.mono K1.size)
 have t0 := Rg.keep L (by omega) t0
 have t1 := Rg.keep L (by omega) t1
 have t2 := Rg.keep L (by omega) t2
 have t3 := Rg.keep L (by omega) t3
 have t4 := Rg.keep L (by omega) t4
 have c0 := Rg.keep L (by omega) c0
 have c1 := Rg.keep L (by omega) c1
 have c2 := Rg.keep L (by omega) c2
 have c3 := Rg.keep L (by omega) c3
 have lt := Nat.lt_of_lt_of_le lt L.size
 clear hb L
 go_wp2
 go_ret
 exact ⟨rfl, K2⟩
end Go.Proofs.YteaaikmejacpaaaGreatDoor.Fx
