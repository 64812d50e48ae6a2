/- The operations of the reference, each by what it calls. -/
import Derived.Test.YtaagegiehjpgiaaFxVb
import Derived.Test.YtaagegiehjpgiaaLow
namespace Go.Proofs.Ytaagegiehjpgiaa.Fx
open Go.ChangeShapes Go.WideShapes Go.ChangeAt Go.RowKit
set_option linter.unusedVariables false

open Fr
set_option maxHeartbeats 8000000 in
theorem radd_bad (K B F R O n0 d0 n1 d1 c : Int) (w : World) (hc : (c != 0) = true) (CH : Hid (∀ w, Calls Try.prog 55 #[.agg #[.int .i64 K, .int .i64 B, .int .i64 F, .int .i64 R, .int .i64 O], .agg #[.int .i64 n0, .int .i64 d0], .agg #[.int .i64 n1, .int .i64 d1]] w (Ret (.int .i64 c) w))) :
    Calls Try.prog 27 #[.agg #[.int .i64 K, .int .i64 B, .int .i64 F, .int .i64 R, .int .i64 O], .agg #[.int .i64 n0, .int .i64 d0], .agg #[.int .i64 n1, .int .i64 d1]] w (Ret (Frac3 0 0 c) w) := by
  go_enter Try.func27, Try.ntmps27
  go_wp2_with fail
  refine (CH.out _).mono ?_
  rintro e w1 ⟨rfl, hb⟩
  have L : Below w.heap.size w w1 := (((((Below.refl _ _).alloc (by simp <;> omega) _).alloc (by simp <;> omega) _).alloc (by simp <;> omega) _).alloc (by simp <;> omega) _).trans (hb.mono (by simp <;> omega))
  have K1 : Below w.heap.size w w1 := L
  have RF0 : w1.frozen? ⟨w.heap.size + 1 + 1 + 1, 0, none⟩ = false := Rg.keepF hb (by simp <;> omega) (by simp only [frozen?_alloc_cells]; exact Rg.notFrozen (by omega))
  have RF1 : w1.frozen? ⟨w.heap.size + 1 + 1 + 1, 1, none⟩ = false := Rg.keepF hb (by simp <;> omega) (by simp only [frozen?_alloc_cells]; exact Rg.notFrozen (by omega))
  have lt : w.heap.size < w1.heap.size := Nat.lt_of_lt_of_le (by simp <;> omega) hb.size
  have t0 : w1.cell? ⟨w.heap.size, 0, none⟩ = some (.int .i64 K) := Rg.keep hb (by simp <;> omega) (by go_cell)
  have t1 : w1.cell? ⟨w.heap.size, 1, none⟩ = some (.int .i64 B) := Rg.keep hb (by simp <;> omega) (by go_cell)
  have t2 : w1.cell? ⟨w.heap.size, 2, none⟩ = some (.int .i64 F) := Rg.keep hb (by simp <;> omega) (by go_cell)
  have t3 : w1.cell? ⟨w.heap.size, 3, none⟩ = some (.int .i64 R) := Rg.keep hb (by simp <;> omega) (by go_cell)
  have t4 : w1.cell? ⟨w.heap.size, 4, none⟩ = some (.int .i64 O) := Rg.keep hb (by simp <;> omega) (by go_cell)
  have la : w.heap.size + 1 < w1.heap.size := Nat.lt_of_lt_of_le (by simp <;> omega) hb.size
  have a0 : w1.cell? ⟨w.heap.size + 1, 0, none⟩ = some (.int .i64 n0) := Rg.keep hb (by simp <;> omega) (by go_cell)
  have a1 : w1.cell? ⟨w.heap.size + 1, 1, none⟩ = some (.int .i64 d0) := Rg.keep hb (by simp <;> omega) (by go_cell)
  have lb : w.heap.size + 1 + 1 < w1.heap.size := Nat.lt_of_lt_of_le (by simp <;> omega) hb.size
  have b0 : w1.cell? ⟨w.heap.size + 1 + 1, 0, none⟩ = some (.int .i64 n1) := Rg.keep hb (by simp <;> omega) (by go_cell)
  have b1 : w1.cell? ⟨w.heap.size + 1 + 1, 1, none⟩ = some (.int .i64 d1) := Rg.keep hb (by simp <;> omega) (by go_cell)
  have lr : w.heap.size + 1 + 1 + 1 < w1.heap.size := Nat.lt_of_lt_of_le (by simp <;> omega) hb.size
  have r0 : w1.cell? ⟨w.heap.size + 1 + 1 + 1, 0, none⟩ = some (.int .i64 0) := Rg.keep hb (by simp <;> omega) (by go_cell)
  have r1 : w1.cell? ⟨w.heap.size + 1 + 1 + 1, 1, none⟩ = some (.int .i64 0) := Rg.keep hb (by simp <;> omega) (by go_cell)
  clear hb L
  have hRC := (⟨⟨_, r0⟩, ⟨_, r1⟩, RF0, RF1⟩ : Rg.RC (w.heap.size + 1 + 1 + 1) w1)
  have z0 : w.heap.size ≤ w.heap.size + 1 + 1 + 1 := by omega
  go_wp2
  have f0 := Rg.RC.read00 (x := 0) hRC
  have f1 := Rg.RC.read1 (x := 0) (y := 0) hRC
  refine bodyPost_ret (v := Frac3 (0) (0) (c)) (by simp [results, Try.results27, go_sem, f0, f1]) rfl ⟨rfl, ?_⟩
  exact Below.setCell (Below.setCell K1 z0 _) z0 _
set_option maxHeartbeats 8000000 in
theorem rsub_bad (K B F R O n0 d0 n1 d1 c : Int) (w : World) (hc : (c != 0) = true) (CH : Hid (∀ w, Calls Try.prog 55 #[.agg #[.int .i64 K, .int .i64 B, .int .i64 F, .int .i64 R, .int .i64 O], .agg #[.int .i64 n0, .int .i64 d0], .agg #[.int .i64 n1, .int .i64 d1]] w (Ret (.int .i64 c) w))) :
    Calls Try.prog 29 #[.agg #[.int .i64 K, .int .i64 B, .int .i64 F, .int .i64 R, .int .i64 O], .agg #[.int .i64 n0, .int .i64 d0], .agg #[.int .i64 n1, .int .i64 d1]] w (Ret (Frac3 0 0 c) w) := by
  go_enter Try.func29, Try.ntmps29
  go_wp2_with fail
  refine (CH.out _).mono ?_
  rintro e w1 ⟨rfl, hb⟩
  have L : Below w.heap.size w w1 := (((((Below.refl _ _).alloc (by simp <;> omega) _).alloc (by simp <;> omega) _).alloc (by simp <;> omega) _).alloc (by simp <;> omega) _).trans (hb.mono (by simp <;> omega))
  have K1 : Below w.heap.size w w1 := L
  have RF0 : w1.frozen? ⟨w.heap.size + 1 + 1 + 1, 0, none⟩ = false := Rg.keepF hb (by simp <;> omega) (by simp only [frozen?_alloc_cells]; exact Rg.notFrozen (by omega))
  have RF1 : w1.frozen? ⟨w.heap.size + 1 + 1 + 1, 1, none⟩ = false := Rg.keepF hb (by simp <;> omega) (by simp only [frozen?_alloc_cells]; exact Rg.notFrozen (by omega))
  have lt : w.heap.size < w1.heap.size := Nat.lt_of_lt_of_le (by simp <;> omega) hb.size
  have t0 : w1.cell? ⟨w.heap.size, 0, none⟩ = some (.int .i64 K) := Rg.keep hb (by simp <;> omega) (by go_cell)
  have t1 : w1.cell? ⟨w.heap.size, 1, none⟩ = some (.int .i64 B) := Rg.keep hb (by simp <;> omega) (by go_cell)
  have t2 : w1.cell? ⟨w.heap.size, 2, none⟩ = some (.int .i64 F) := Rg.keep hb (by simp <;> omega) (by go_cell)
  have t3 : w1.cell? ⟨w.heap.size, 3, none⟩ = some (.int .i64 R) := Rg.keep hb (by simp <;> omega) (by go_cell)
  have t4 : w1.cell? ⟨w.heap.size, 4, none⟩ = some (.int .i64 O) := Rg.keep hb (by simp <;> omega) (by go_cell)
  have la : w.heap.size + 1 < w1.heap.size := Nat.lt_of_lt_of_le (by simp <;> omega) hb.size
  have a0 : w1.cell? ⟨w.heap.size + 1, 0, none⟩ = some (.int .i64 n0) := Rg.keep hb (by simp <;> omega) (by go_cell)
  have a1 : w1.cell? ⟨w.heap.size + 1, 1, none⟩ = some (.int .i64 d0) := Rg.keep hb (by simp <;> omega) (by go_cell)
  have lb : w.heap.size + 1 + 1 < w1.heap.size := Nat.lt_of_lt_of_le (by simp <;> omega) hb.size
  have b0 : w1.cell? ⟨w.heap.size + 1 + 1, 0, none⟩ = some (.int .i64 n1) := Rg.keep hb (by simp <;> omega) (by go_cell)
  have b1 : w1.cell? ⟨w.heap.size + 1 + 1, 1, none⟩ = some (.int .i64 d1) := Rg.keep hb (by simp <;> omega) (by go_cell)
  have lr : w.heap.size + 1 + 1 + 1 < w1.heap.size := Nat.lt_of_lt_of_le (by simp <;> omega) hb.size
  have r0 : w1.cell? ⟨w.heap.size + 1 + 1 + 1, 0, none⟩ = some (.int .i64 0) := Rg.keep hb (by simp <;> omega) (by go_cell)
  have r1 : w1.cell? ⟨w.heap.size + 1 + 1 + 1, 1, none⟩ = some (.int .i64 0) := Rg.keep hb (by simp <;> omega) (by go_cell)
  clear hb L
  have hRC := (⟨⟨_, r0⟩, ⟨_, r1⟩, RF0, RF1⟩ : Rg.RC (w.heap.size + 1 + 1 + 1) w1)
  have z0 : w.heap.size ≤ w.heap.size + 1 + 1 + 1 := by omega
  go_wp2
  have f0 := Rg.RC.read00 (x := 0) hRC
  have f1 := Rg.RC.read1 (x := 0) (y := 0) hRC
  refine bodyPost_ret (v := Frac3 (0) (0) (c)) (by simp [results, Try.results29, go_sem, f0, f1]) rfl ⟨rfl, ?_⟩
  exact Below.setCell (Below.setCell K1 z0 _) z0 _
set_option maxHeartbeats 8000000 in
theorem rmul_bad (K B F R O n0 d0 n1 d1 c : Int) (w : World) (hc : (c != 0) = true) (CH : Hid (∀ w, Calls Try.prog 55 #[.agg #[.int .i64 K, .int .i64 B, .int .i64 F, .int .i64 R, .int .i64 O], .agg #[.int .i64 n0, .int .i64 d0], .agg #[.int .i64 n1, .int .i64 d1]] w (Ret (.int .i64 c) w))) :
    Calls Try.prog 31 #[.agg #[.int .i64 K, .int .i64 B, .int .i64 F, .int .i64 R, .int .i64 O], .agg #[.int .i64 n0, .int .i64 d0], .agg #[.int .i64 n1, .int .i64 d1]] w (Ret (Frac3 0 0 c) w) := by
  go_enter Try.func31, Try.ntmps31
  go_wp2_with fail
  refine (CH.out _).mono ?_
  rintro e w1 ⟨rfl, hb⟩
  have L : Below w.heap.size w w1 := (((((Below.refl _ _).alloc (by simp <;> omega) _).alloc (by simp <;> omega) _).alloc (by simp <;> omega) _).alloc (by simp <;> omega) _).trans (hb.mono (by simp <;> omega))
  have K1 : Below w.heap.size w w1 := L
  have RF0 : w1.frozen? ⟨w.heap.size + 1 + 1 + 1, 0, none⟩ = false := Rg.keepF hb (by simp <;> omega) (by simp only [frozen?_alloc_cells]; exact Rg.notFrozen (by omega))
  have RF1 : w1.frozen? ⟨w.heap.size + 1 + 1 + 1, 1, none⟩ = false := Rg.keepF hb (by simp <;> omega) (by simp only [frozen?_alloc_cells]; exact Rg.notFrozen (by omega))
  have lt : w.heap.size < w1.heap.size := Nat.lt_of_lt_of_le (by simp <;> omega) hb.size
  have t0 : w1.cell? ⟨w.heap.size, 0, none⟩ = some (.int .i64 K) := Rg.keep hb (by simp <;> omega) (by go_cell)
  have t1 : w1.cell? ⟨w.heap.size, 1, none⟩ = some (.int .i64 B) := Rg.keep hb (by simp <;> omega) (by go_cell)
  have t2 : w1.cell? ⟨w.heap.size, 2, none⟩ = some (.int .i64 F) := Rg.keep hb (by simp <;> omega) (by go_cell)
  have t3 : w1.cell? ⟨w.heap.size, 3, none⟩ = some (.int .i64 R) := Rg.keep hb (by simp <;> omega) (by go_cell)
  have t4 : w1.cell? ⟨w.heap.size, 4, none⟩ = some (.int .i64 O) := Rg.keep hb (by simp <;> omega) (by go_cell)
  have la : w.heap.size + 1 < w1.heap.size := Nat.lt_of_lt_of_le (by simp <;> omega) hb.size
  have a0 : w1.cell? ⟨w.heap.size + 1, 0, none⟩ = some (.int .i64 n0) := Rg.keep hb (by simp <;> omega) (by go_cell)
  have a1 : w1.cell? ⟨w.heap.size + 1, 1, none⟩ = some (.int .i64 d0) := Rg.keep hb (by simp <;> omega) (by go_cell)
  have lb : w.heap.size + 1 + 1 < w1.heap.size := Nat.lt_of_lt_of_le (by simp <;> omega) hb.size
  have b0 : w1.cell? ⟨w.heap.size + 1 + 1, 0, none⟩ = some (.int .i64 n1) := Rg.keep hb (by simp <;> omega) (by go_cell)
  have b1 : w1.cell? ⟨w.heap.size + 1 + 1, 1, none⟩ = some (.int .i64 d1) := Rg.keep hb (by simp <;> omega) (by go_cell)
  have lr : w.heap.size + 1 + 1 + 1 < w1.heap.size := Nat.lt_of_lt_of_le (by simp <;> omega) hb.size
  have r0 : w1.cell? ⟨w.heap.size + 1 + 1 + 1, 0, none⟩ = some (.int .i64 0) := Rg.keep hb (by simp <;> omega) (by go_cell)
  have r1 : w1.cell? ⟨w.heap.size + 1 + 1 + 1, 1, none⟩ = some (.int .i64 0) := Rg.keep hb (by simp <;> omega) (by go_cell)
  clear hb L
  have hRC := (⟨⟨_, r0⟩, ⟨_, r1⟩, RF0, RF1⟩ : Rg.RC (w.heap.size + 1 + 1 + 1) w1)
  have z0 : w.heap.size ≤ w.heap.size + 1 + 1 + 1 := by omega
  go_wp2
  have f0 := Rg.RC.read00 (x := 0) hRC
  have f1 := Rg.RC.read1 (x := 0) (y := 0) hRC
  refine bodyPost_ret (v := Frac3 (0) (0) (c)) (by simp [results, Try.results31, go_sem, f0, f1]) rfl ⟨rfl, ?_⟩
  exact Below.setCell (Below.setCell K1 z0 _) z0 _
set_option maxHeartbeats 8000000 in
theorem rdiv_bad (K B F R O n0 d0 n1 d1 c : Int) (w : World) (hc : (c != 0) = true) (CH : Hid (∀ w, Calls Try.prog 55 #[.agg #[.int .i64 K, .int .i64 B, .int .i64 F, .int .i64 R, .int .i64 O], .agg #[.int .i64 n0, .int .i64 d0], .agg #[.int .i64 n1, .int .i64 d1]] w (Ret (.int .i64 c) w))) :
    Calls Try.prog 33 #[.agg #[.int .i64 K, .int .i64 B, .int .i64 F, .int .i64 R, .int .i64 O], .agg #[.int .i64 n0, .int .i64 d0], .agg #[.int .i64 n1, .int .i64 d1]] w (Ret (Frac3 0 0 c) w) := by
  go_enter Try.func33, Try.ntmps33
  go_wp2_with fail
  refine (CH.out _).mono ?_
  rintro e w1 ⟨rfl, hb⟩
  have L : Below w.heap.size w w1 := (((((Below.refl _ _).alloc (by simp <;> omega) _).alloc (by simp <;> omega) _).alloc (by simp <;> omega) _).alloc (by simp <;> omega) _).trans (hb.mono (by simp <;> omega))
  have K1 : Below w.heap.size w w1 := L
  have RF0 : w1.frozen? ⟨w.heap.size + 1 + 1 + 1, 0, none⟩ = false := Rg.keepF hb (by simp <;> omega) (by simp only [frozen?_alloc_cells]; exact Rg.notFrozen (by omega))
  have RF1 : w1.frozen? ⟨w.heap.size + 1 + 1 + 1, 1, none⟩ = false := Rg.keepF hb (by simp <;> omega) (by simp only [frozen?_alloc_cells]; exact Rg.notFrozen (by omega))
  have lt : w.heap.size < w1.heap.size := Nat.lt_of_lt_of_le (by simp <;> omega) hb.size
  have t0 : w1.cell? ⟨w.heap.size, 0, none⟩ = some (.int .i64 K) := Rg.keep hb (by simp <;> omega) (by go_cell)
  have t1 : w1.cell? ⟨w.heap.size, 1, none⟩ = some (.int .i64 B) := Rg.keep hb (by simp <;> omega) (by go_cell)
  have t2 : w1.cell? ⟨w.heap.size, 2, none⟩ = some (.int .i64 F) := Rg.keep hb (by simp <;> omega) (by go_cell)
  have t3 : w1.cell? ⟨w.heap.size, 3, none⟩ = some (.int .i64 R) := Rg.keep hb (by simp <;> omega) (by go_cell)
  have t4 : w1.cell? ⟨w.heap.size, 4, none⟩ = some (.int .i64 O) := Rg.keep hb (by simp <;> omega) (by go_cell)
  have la : w.heap.size + 1 < w1.heap.size := Nat.lt_of_lt_of_le (by simp <;> omega) hb.size
  have a0 : w1.cell? ⟨w.heap.size + 1, 0, none⟩ = some (.int .i64 n0) := Rg.keep hb (by simp <;> omega) (by go_cell)
  have a1 : w1.cell? ⟨w.heap.size + 1, 1, none⟩ = some (.int .i64 d0) := Rg.keep hb (by simp <;> omega) (by go_cell)
  have lb : w.heap.size + 1 + 1 < w1.heap.size := Nat.lt_of_lt_of_le (by simp <;> omega) hb.size
  have b0 : w1.cell? ⟨w.heap.size + 1 + 1, 0, none⟩ = some (.int .i64 n1) := Rg.keep hb (by simp <;> omega) (by go_cell)
  have b1 : w1.cell? ⟨w.heap.size + 1 + 1, 1, none⟩ = some (.int .i64 d1) := Rg.keep hb (by simp <;> omega) (by go_cell)
  have lr : w.heap.size + 1 + 1 + 1 < w1.heap.size := Nat.lt_of_lt_of_le (by simp <;> omega) hb.size
  have r0 : w1.cell? ⟨w.heap.size + 1 + 1 + 1, 0, none⟩ = some (.int .i64 0) := Rg.keep hb (by simp <;> omega) (by go_cell)
  have r1 : w1.cell? ⟨w.heap.size + 1 + 1 + 1, 1, none⟩ = some (.int .i64 0) := Rg.keep hb (by simp <;> omega) (by go_cell)
  clear hb L
  have hRC := (⟨⟨_, r0⟩, ⟨_, r1⟩, RF0, RF1⟩ : Rg.RC (w.heap.size + 1 + 1 + 1) w1)
  have z0 : w.heap.size ≤ w.heap.size + 1 + 1 + 1 := by omega
  go_wp2
  have f0 := Rg.RC.read00 (x := 0) hRC
  have f1 := Rg.RC.read1 (x := 0) (y := 0) hRC
  refine bodyPost_ret (v := Frac3 (0) (0) (c)) (by simp [results, Try.results33, go_sem, f0, f1]) rfl ⟨rfl, ?_⟩
  exact Below.setCell (Below.setCell K1 z0 _) z0 _
set_option maxHeartbeats 8000000 in
theorem rneg_bad (K B F R O n0 d0 c : Int) (w : World) (hc : (c != 0) = true) (CH : Hid (∀ w, Calls Try.prog 55 #[.agg #[.int .i64 K, .int .i64 B, .int .i64 F, .int .i64 R, .int .i64 O], .agg #[.int .i64 n0, .int .i64 d0], .agg #[.int .i64 n0, .int .i64 d0]] w (Ret (.int .i64 c) w))) :
    Calls Try.prog 35 #[.agg #[.int .i64 K, .int .i64 B, .int .i64 F, .int .i64 R, .int .i64 O], .agg #[.int .i64 n0, .int .i64 d0]] w (Ret (Frac3 0 0 c) w) := by
  go_enter Try.func35, Try.ntmps35
  go_wp2_with fail
  refine (CH.out _).mono ?_
  rintro e w1 ⟨rfl, hb⟩
  have L : Below w.heap.size w w1 := ((((Below.refl _ _).alloc (by simp <;> omega) _).alloc (by simp <;> omega) _).alloc (by simp <;> omega) _).trans (hb.mono (by simp <;> omega))
  have K1 : Below w.heap.size w w1 := L
  have RF0 : w1.frozen? ⟨w.heap.size + 1 + 1, 0, none⟩ = false := Rg.keepF hb (by simp <;> omega) (by simp only [frozen?_alloc_cells]; exact Rg.notFrozen (by omega))
  have RF1 : w1.frozen? ⟨w.heap.size + 1 + 1, 1, none⟩ = false := Rg.keepF hb (by simp <;> omega) (by simp only [frozen?_alloc_cells]; exact Rg.notFrozen (by omega))
  have lt : w.heap.size < w1.heap.size := Nat.lt_of_lt_of_le (by simp <;> omega) hb.size
  have t0 : w1.cell? ⟨w.heap.size, 0, none⟩ = some (.int .i64 K) := Rg.keep hb (by simp <;> omega) (by go_cell)
  have t1 : w1.cell? ⟨w.heap.size, 1, none⟩ = some (.int .i64 B) := Rg.keep hb (by simp <;> omega) (by go_cell)
  have t2 : w1.cell? ⟨w.heap.size, 2, none⟩ = some (.int .i64 F) := Rg.keep hb (by simp <;> omega) (by go_cell)
  have t3 : w1.cell? ⟨w.heap.size, 3, none⟩ = some (.int .i64 R) := Rg.keep hb (by simp <;> omega) (by go_cell)
  have t4 : w1.cell? ⟨w.heap.size, 4, none⟩ = some (.int .i64 O) := Rg.keep hb (by simp <;> omega) (by go_cell)
  have la : w.heap.size + 1 < w1.heap.size := Nat.lt_of_lt_of_le (by simp <;> omega) hb.size
  have a0 : w1.cell? ⟨w.heap.size + 1, 0, none⟩ = some (.int .i64 n0) := Rg.keep hb (by simp <;> omega) (by go_cell)
  have a1 : w1.cell? ⟨w.heap.size + 1, 1, none⟩ = some (.int .i64 d0) := Rg.keep hb (by simp <;> omega) (by go_cell)
  have lr : w.heap.size + 1 + 1 < w1.heap.size := Nat.lt_of_lt_of_le (by simp <;> omega) hb.size
  have r0 : w1.cell? ⟨w.heap.size + 1 + 1, 0, none⟩ = some (.int .i64 0) := Rg.keep hb (by simp <;> omega) (by go_cell)
  have r1 : w1.cell? ⟨w.heap.size + 1 + 1, 1, none⟩ = some (.int .i64 0) := Rg.keep hb (by simp <;> omega) (by go_cell)
  clear hb L
  have hRC := (⟨⟨_, r0⟩, ⟨_, r1⟩, RF0, RF1⟩ : Rg.RC (w.heap.size + 1 + 1) w1)
  have z0 : w.heap.size ≤ w.heap.size + 1 + 1 := by omega
  go_wp2
  have f0 := Rg.RC.read00 (x := 0) hRC
  have f1 := Rg.RC.read1 (x := 0) (y := 0) hRC
  refine bodyPost_ret (v := Frac3 (0) (0) (c)) (by simp [results, Try.results35, go_sem, f0, f1]) rfl ⟨rfl, ?_⟩
  exact Below.setCell (Below.setCell K1 z0 _) z0 _
set_option maxHeartbeats 8000000 in
theorem rtf_bad (K B F R O n0 d0 c : Int) (w : World) (hc : (c != 0) = true) (CH : Hid (∀ w, Calls Try.prog 55 #[.agg #[.int .i64 K, .int .i64 B, .int .i64 F, .int .i64 R, .int .i64 O], .agg #[.int .i64 n0, .int .i64 d0], .agg #[.int .i64 n0, .int .i64 d0]] w (Ret (.int .i64 c) w))) :
    Calls Try.prog 25 #[.agg #[.int .i64 K, .int .i64 B, .int .i64 F, .int .i64 R, .int .i64 O], .agg #[.int .i64 n0, .int .i64 d0]] w (Ret (Frac3 0 0 c) w) := by
  go_enter Try.func25, Try.ntmps25
  go_wp2_with fail
  refine (CH.out _).mono ?_
  rintro e w1 ⟨rfl, hb⟩
  have L : Below w.heap.size w w1 := ((((Below.refl _ _).alloc (by simp <;> omega) _).alloc (by simp <;> omega) _).alloc (by simp <;> omega) _).trans (hb.mono (by simp <;> omega))
  have K1 : Below w.heap.size w w1 := L
  have RF0 : w1.frozen? ⟨w.heap.size + 1 + 1, 0, none⟩ = false := Rg.keepF hb (by simp <;> omega) (by simp only [frozen?_alloc_cells]; exact Rg.notFrozen (by omega))
  have RF1 : w1.frozen? ⟨w.heap.size + 1 + 1, 1, none⟩ = false := Rg.keepF hb (by simp <;> omega) (by simp only [frozen?_alloc_cells]; exact Rg.notFrozen (by omega))
  have lt : w.heap.size < w1.heap.size := Nat.lt_of_lt_of_le (by simp <;> omega) hb.size
  have t0 : w1.cell? ⟨w.heap.size, 0, none⟩ = some (.int .i64 K) := Rg.keep hb (by simp <;> omega) (by go_cell)
  have t1 : w1.cell? ⟨w.heap.size, 1, none⟩ = some (.int .i64 B) := Rg.keep hb (by simp <;> omega) (by go_cell)
  have t2 : w1.cell? ⟨w.heap.size, 2, none⟩ = some (.int .i64 F) := Rg.keep hb (by simp <;> omega) (by go_cell)
  have t3 : w1.cell? ⟨w.heap.size, 3, none⟩ = some (.int .i64 R) := Rg.keep hb (by simp <;> omega) (by go_cell)
  have t4 : w1.cell? ⟨w.heap.size, 4, none⟩ = some (.int .i64 O) := Rg.keep hb (by simp <;> omega) (by go_cell)
  have la : w.heap.size + 1 < w1.heap.size := Nat.lt_of_lt_of_le (by simp <;> omega) hb.size
  have a0 : w1.cell? ⟨w.heap.size + 1, 0, none⟩ = some (.int .i64 n0) := Rg.keep hb (by simp <;> omega) (by go_cell)
  have a1 : w1.cell? ⟨w.heap.size + 1, 1, none⟩ = some (.int .i64 d0) := Rg.keep hb (by simp <;> omega) (by go_cell)
  have lr : w.heap.size + 1 + 1 < w1.heap.size := Nat.lt_of_lt_of_le (by simp <;> omega) hb.size
  have r0 : w1.cell? ⟨w.heap.size + 1 + 1, 0, none⟩ = some (.int .i64 0) := Rg.keep hb (by simp <;> omega) (by go_cell)
  have r1 : w1.cell? ⟨w.heap.size + 1 + 1, 1, none⟩ = some (.int .i64 0) := Rg.keep hb (by simp <;> omega) (by go_cell)
  clear hb L
  have hRC := (⟨⟨_, r0⟩, ⟨_, r1⟩, RF0, RF1⟩ : Rg.RC (w.heap.size + 1 + 1) w1)
  have z0 : w.heap.size ≤ w.heap.size + 1 + 1 := by omega
  go_wp2
  have f0 := Rg.RC.read00 (x := 0) hRC
  have f1 := Rg.RC.read1 (x := 0) (y := 0) hRC
  refine bodyPost_ret (v := Frac3 (0) (0) (c)) (by simp [results, Try.results25, go_sem, f0, f1]) rfl ⟨rfl, ?_⟩
  exact Below.setCell (Below.setCell K1 z0 _) z0 _
set_option maxHeartbeats 8000000 in
theorem radd_ok (K B F R O n0 d0 n1 d1 v : Int) (w : World) (i0 : -1099511627776 ≤ n0) (i1 : n0 ≤ 1099511627776) (j0 : -1099511627776 ≤ n1) (j1 : n1 ≤ 1099511627776) (CH : Hid (∀ w, Calls Try.prog 55 #[.agg #[.int .i64 K, .int .i64 B, .int .i64 F, .int .i64 R, .int .i64 O], .agg #[.int .i64 n0, .int .i64 d0], .agg #[.int .i64 n1, .int .i64 d1]] w (Ret (.int .i64 0) w))) (FT : Hid (∀ w, Calls Try.prog 53 #[.agg #[.int .i64 K, .int .i64 B, .int .i64 F, .int .i64 R, .int .i64 O], .int .i64 (n0 + n1)] w (Ret (.agg #[.int .i64 v, .int .i64 1]) w))) :
    Calls Try.prog 27 #[.agg #[.int .i64 K, .int .i64 B, .int .i64 F, .int .i64 R, .int .i64 O], .agg #[.int .i64 n0, .int .i64 d0], .agg #[.int .i64 n1, .int .i64 d1]] w (Ret (Frac3 v 1 0) w) := by
  go_enter Try.func27, Try.ntmps27
  go_wp2_with fail
  refine (CH.out _).mono ?_
  rintro e w1 ⟨rfl, hb⟩
  have L : Below w.heap.size w w1 := (((((Below.refl _ _).alloc (by simp <;> omega) _).alloc (by simp <;> omega) _).alloc (by simp <;> omega) _).alloc (by simp <;> omega) _).trans (hb.mono (by simp <;> omega))
  have K1 : Below w.heap.size w w1 := L
  have RF0 : w1.frozen? ⟨w.heap.size + 1 + 1 + 1, 0, none⟩ = false := Rg.keepF hb (by simp <;> omega) (by simp only [frozen?_alloc_cells]; exact Rg.notFrozen (by omega))
  have RF1 : w1.frozen? ⟨w.heap.size + 1 + 1 + 1, 1, none⟩ = false := Rg.keepF hb (by simp <;> omega) (by simp only [frozen?_alloc_cells]; exact Rg.notFrozen (by omega))
  have lt : w.heap.size < w1.heap.size := Nat.lt_of_lt_of_le (by simp <;> omega) hb.size
  have t0 : w1.cell? ⟨w.heap.size, 0, none⟩ = some (.int .i64 K) := Rg.keep hb (by simp <;> omega) (by go_cell)
  have t1 : w1.cell? ⟨w.heap.size, 1, none⟩ = some (.int .i64 B) := Rg.keep hb (by simp <;> omega) (by go_cell)
  have t2 : w1.cell? ⟨w.heap.size, 2, none⟩ = some (.int .i64 F) := Rg.keep hb (by simp <;> omega) (by go_cell)
  have t3 : w1.cell? ⟨w.heap.size, 3, none⟩ = some (.int .i64 R) := Rg.keep hb (by simp <;> omega) (by go_cell)
  have t4 : w1.cell? ⟨w.heap.size, 4, none⟩ = some (.int .i64 O) := Rg.keep hb (by simp <;> omega) (by go_cell)
  have la : w.heap.size + 1 < w1.heap.size := Nat.lt_of_lt_of_le (by simp <;> omega) hb.size
  have a0 : w1.cell? ⟨w.heap.size + 1, 0, none⟩ = some (.int .i64 n0) := Rg.keep hb (by simp <;> omega) (by go_cell)
  have a1 : w1.cell? ⟨w.heap.size + 1, 1, none⟩ = some (.int .i64 d0) := Rg.keep hb (by simp <;> omega) (by go_cell)
  have lb : w.heap.size + 1 + 1 < w1.heap.size := Nat.lt_of_lt_of_le (by simp <;> omega) hb.size
  have b0 : w1.cell? ⟨w.heap.size + 1 + 1, 0, none⟩ = some (.int .i64 n1) := Rg.keep hb (by simp <;> omega) (by go_cell)
  have b1 : w1.cell? ⟨w.heap.size + 1 + 1, 1, none⟩ = some (.int .i64 d1) := Rg.keep hb (by simp <;> omega) (by go_cell)
  have lr : w.heap.size + 1 + 1 + 1 < w1.heap.size := Nat.lt_of_lt_of_le (by simp <;> omega) hb.size
  have r0 : w1.cell? ⟨w.heap.size + 1 + 1 + 1, 0, none⟩ = some (.int .i64 0) := Rg.keep hb (by simp <;> omega) (by go_cell)
  have r1 : w1.cell? ⟨w.heap.size + 1 + 1 + 1, 1, none⟩ = some (.int .i64 0) := Rg.keep hb (by simp <;> omega) (by go_cell)
  clear hb L
  go_wp2_with fail
  refine (FT.out _).mono ?_
  rintro e w2 ⟨rfl, hb⟩
  have L : Below w1.heap.size w1 w2 := (Below.refl _ _).trans (hb.mono (by simp <;> omega))
  have K2 : Below w.heap.size w w2 := K1.trans (L.mono K1.size)
  have RF0 := Rg.keepF L lr RF0
  have RF1 := Rg.keepF L lr RF1
  have t0 := Rg.keep L lt t0
  have t1 := Rg.keep L lt t1
  have t2 := Rg.keep L lt t2
  have t3 := Rg.keep L lt t3
  have t4 := Rg.keep L lt t4
  have a0 := Rg.keep L la a0
  have a1 := Rg.keep L la a1
  have b0 := Rg.keep L lb b0
  have b1 := Rg.keep L lb b1
  have r0 := Rg.keep L lr r0
  have r1 := Rg.keep L lr r1
  have lt := Nat.lt_of_lt_of_le lt L.size
  have la := Nat.lt_of_lt_of_le la L.size
  have lb := Nat.lt_of_lt_of_le lb L.size
  have lr := Nat.lt_of_lt_of_le lr L.size
  clear hb L
  have hRC := (⟨⟨_, r0⟩, ⟨_, r1⟩, RF0, RF1⟩ : Rg.RC (w.heap.size + 1 + 1 + 1) w2)
  have z0 : w.heap.size ≤ w.heap.size + 1 + 1 + 1 := by omega
  go_wp2
  have f0 := Rg.RC.read00 (x := v) hRC
  have f1 := Rg.RC.read1 (x := v) (y := 1) hRC
  refine bodyPost_ret (v := Frac3 (v) (1) (0)) (by simp [results, Try.results27, go_sem, f0, f1]) rfl ⟨rfl, ?_⟩
  exact Below.setCell (Below.setCell K2 z0 _) z0 _
set_option maxHeartbeats 8000000 in
theorem rsub_ok (K B F R O n0 d0 n1 d1 v : Int) (w : World) (i0 : -1099511627776 ≤ n0) (i1 : n0 ≤ 1099511627776) (j0 : -1099511627776 ≤ n1) (j1 : n1 ≤ 1099511627776) (CH : Hid (∀ w, Calls Try.prog 55 #[.agg #[.int .i64 K, .int .i64 B, .int .i64 F, .int .i64 R, .int .i64 O], .agg #[.int .i64 n0, .int .i64 d0], .agg #[.int .i64 n1, .int .i64 d1]] w (Ret (.int .i64 0) w))) (FT : Hid (∀ w, Calls Try.prog 53 #[.agg #[.int .i64 K, .int .i64 B, .int .i64 F, .int .i64 R, .int .i64 O], .int .i64 (n0 - n1)] w (Ret (.agg #[.int .i64 v, .int .i64 1]) w))) :
    Calls Try.prog 29 #[.agg #[.int .i64 K, .int .i64 B, .int .i64 F, .int .i64 R, .int .i64 O], .agg #[.int .i64 n0, .int .i64 d0], .agg #[.int .i64 n1, .int .i64 d1]] w (Ret (Frac3 v 1 0) w) := by
  go_enter Try.func29, Try.ntmps29
  go_wp2_with fail
  refine (CH.out _).mono ?_
  rintro e w1 ⟨rfl, hb⟩
  have L : Below w.heap.size w w1 := (((((Below.refl _ _).alloc (by simp <;> omega) _).alloc (by simp <;> omega) _).alloc (by simp <;> omega) _).alloc (by simp <;> omega) _).trans (hb.mono (by simp <;> omega))
  have K1 : Below w.heap.size w w1 := L
  have RF0 : w1.frozen? ⟨w.heap.size + 1 + 1 + 1, 0, none⟩ = false := Rg.keepF hb (by simp <;> omega) (by simp only [frozen?_alloc_cells]; exact Rg.notFrozen (by omega))
  have RF1 : w1.frozen? ⟨w.heap.size + 1 + 1 + 1, 1, none⟩ = false := Rg.keepF hb (by simp <;> omega) (by simp only [frozen?_alloc_cells]; exact Rg.notFrozen (by omega))
  have lt : w.heap.size < w1.heap.size := Nat.lt_of_lt_of_le (by simp <;> omega) hb.size
  have t0 : w1.cell? ⟨w.heap.size, 0, none⟩ = some (.int .i64 K) := Rg.keep hb (by simp <;> omega) (by go_cell)
  have t1 : w1.cell? ⟨w.heap.size, 1, none⟩ = some (.int .i64 B) := Rg.keep hb (by simp <;> omega) (by go_cell)
  have t2 : w1.cell? ⟨w.heap.size, 2, none⟩ = some (.int .i64 F) := Rg.keep hb (by simp <;> omega) (by go_cell)
  have t3 : w1.cell? ⟨w.heap.size, 3, none⟩ = some (.int .i64 R) := Rg.keep hb (by simp <;> omega) (by go_cell)
  have t4 : w1.cell? ⟨w.heap.size, 4, none⟩ = some (.int .i64 O) := Rg.keep hb (by simp <;> omega) (by go_cell)
  have la : w.heap.size + 1 < w1.heap.size := Nat.lt_of_lt_of_le (by simp <;> omega) hb.size
  have a0 : w1.cell? ⟨w.heap.size + 1, 0, none⟩ = some (.int .i64 n0) := Rg.keep hb (by simp <;> omega) (by go_cell)
  have a1 : w1.cell? ⟨w.heap.size + 1, 1, none⟩ = some (.int .i64 d0) := Rg.keep hb (by simp <;> omega) (by go_cell)
  have lb : w.heap.size + 1 + 1 < w1.heap.size := Nat.lt_of_lt_of_le (by simp <;> omega) hb.size
  have b0 : w1.cell? ⟨w.heap.size + 1 + 1, 0, none⟩ = some (.int .i64 n1) := Rg.keep hb (by simp <;> omega) (by go_cell)
  have b1 : w1.cell? ⟨w.heap.size + 1 + 1, 1, none⟩ = some (.int .i64 d1) := Rg.keep hb (by simp <;> omega) (by go_cell)
  have lr : w.heap.size + 1 + 1 + 1 < w1.heap.size := Nat.lt_of_lt_of_le (by simp <;> omega) hb.size
  have r0 : w1.cell? ⟨w.heap.size + 1 + 1 + 1, 0, none⟩ = some (.int .i64 0) := Rg.keep hb (by simp <;> omega) (by go_cell)
  have r1 : w1.cell? ⟨w.heap.size + 1 + 1 + 1, 1, none⟩ = some (.int .i64 0) := Rg.keep hb (by simp <;> omega) (by go_cell)
  clear hb L
  go_wp2_with fail
  refine (FT.out _).mono ?_
  rintro e w2 ⟨rfl, hb⟩
  have L : Below w1.heap.size w1 w2 := (Below.refl _ _).trans (hb.mono (by simp <;> omega))
  have K2 : Below w.heap.size w w2 := K1.trans (L.mono K1.size)
  have RF0 := Rg.keepF L lr RF0
  have RF1 := Rg.keepF L lr RF1
  have t0 := Rg.keep L lt t0
  have t1 := Rg.keep L lt t1
  have t2 := Rg.keep L lt t2
  have t3 := Rg.keep L lt t3
  have t4 := Rg.keep L lt t4
  have a0 := Rg.keep L la a0
  have a1 := Rg.keep L la a1
  have b0 := Rg.keep L lb b0
  have b1 := Rg.keep L lb b1
  have r0 := Rg.keep L lr r0
  have r1 := Rg.keep L lr r1
  have lt := Nat.lt_of_lt_of_le lt L.size
  have la := Nat.lt_of_lt_of_le la L.size
  have lb := Nat.lt_of_lt_of_le lb L.size
  have lr := Nat.lt_of_lt_of_le lr L.size
  clear hb L
  have hRC := (⟨⟨_, r0⟩, ⟨_, r1⟩, RF0, RF1⟩ : Rg.RC (w.heap.size + 1 + 1 + 1) w2)
  have z0 : w.heap.size ≤ w.heap.size + 1 + 1 + 1 := by omega
  go_wp2
  have f0 := Rg.RC.read00 (x := v) hRC
  have f1 := Rg.RC.read1 (x := v) (y := 1) hRC
  refine bodyPost_ret (v := Frac3 (v) (1) (0)) (by simp [results, Try.results29, go_sem, f0, f1]) rfl ⟨rfl, ?_⟩
  exact Below.setCell (Below.setCell K2 z0 _) z0 _
set_option maxHeartbeats 8000000 in
theorem rneg_ok (K B F R O n0 d0 v : Int) (w : World) (i0 : -1099511627776 ≤ n0) (i1 : n0 ≤ 1099511627776) (CH : Hid (∀ w, Calls Try.prog 55 #[.agg #[.int .i64 K, .int .i64 B, .int .i64 F, .int .i64 R, .int .i64 O], .agg #[.int .i64 n0, .int .i64 d0], .agg #[.int .i64 n0, .int .i64 d0]] w (Ret (.int .i64 0) w))) (FT : Hid (∀ w, Calls Try.prog 53 #[.agg #[.int .i64 K, .int .i64 B, .int .i64 F, .int .i64 R, .int .i64 O], .int .i64 (-n0)] w (Ret (.agg #[.int .i64 v, .int .i64 1]) w))) :
    Calls Try.prog 35 #[.agg #[.int .i64 K, .int .i64 B, .int .i64 F, .int .i64 R, .int .i64 O], .agg #[.int .i64 n0, .int .i64 d0]] w (Ret (Frac3 v 1 0) w) := by
  go_enter Try.func35, Try.ntmps35
  go_wp2_with fail
  refine (CH.out _).mono ?_
  rintro e w1 ⟨rfl, hb⟩
  have L : Below w.heap.size w w1 := ((((Below.refl _ _).alloc (by simp <;> omega) _).alloc (by simp <;> omega) _).alloc (by simp <;> omega) _).trans (hb.mono (by simp <;> omega))
  have K1 : Below w.heap.size w w1 := L
  have RF0 : w1.frozen? ⟨w.heap.size + 1 + 1, 0, none⟩ = false := Rg.keepF hb (by simp <;> omega) (by simp only [frozen?_alloc_cells]; exact Rg.notFrozen (by omega))
  have RF1 : w1.frozen? ⟨w.heap.size + 1 + 1, 1, none⟩ = false := Rg.keepF hb (by simp <;> omega) (by simp only [frozen?_alloc_cells]; exact Rg.notFrozen (by omega))
  have lt : w.heap.size < w1.heap.size := Nat.lt_of_lt_of_le (by simp <;> omega) hb.size
  have t0 : w1.cell? ⟨w.heap.size, 0, none⟩ = some (.int .i64 K) := Rg.keep hb (by simp <;> omega) (by go_cell)
  have t1 : w1.cell? ⟨w.heap.size, 1, none⟩ = some (.int .i64 B) := Rg.keep hb (by simp <;> omega) (by go_cell)
  have t2 : w1.cell? ⟨w.heap.size, 2, none⟩ = some (.int .i64 F) := Rg.keep hb (by simp <;> omega) (by go_cell)
  have t3 : w1.cell? ⟨w.heap.size, 3, none⟩ = some (.int .i64 R) := Rg.keep hb (by simp <;> omega) (by go_cell)
  have t4 : w1.cell? ⟨w.heap.size, 4, none⟩ = some (.int .i64 O) := Rg.keep hb (by simp <;> omega) (by go_cell)
  have la : w.heap.size + 1 < w1.heap.size := Nat.lt_of_lt_of_le (by simp <;> omega) hb.size
  have a0 : w1.cell? ⟨w.heap.size + 1, 0, none⟩ = some (.int .i64 n0) := Rg.keep hb (by simp <;> omega) (by go_cell)
  have a1 : w1.cell? ⟨w.heap.size + 1, 1, none⟩ = some (.int .i64 d0) := Rg.keep hb (by simp <;> omega) (by go_cell)
  have lr : w.heap.size + 1 + 1 < w1.heap.size := Nat.lt_of_lt_of_le (by simp <;> omega) hb.size
  have r0 : w1.cell? ⟨w.heap.size + 1 + 1, 0, none⟩ = some (.int .i64 0) := Rg.keep hb (by simp <;> omega) (by go_cell)
  have r1 : w1.cell? ⟨w.heap.size + 1 + 1, 1, none⟩ = some (.int .i64 0) := Rg.keep hb (by simp <;> omega) (by go_cell)
  clear hb L
  go_wp2_with fail
  refine (FT.out _).mono ?_
  rintro e w2 ⟨rfl, hb⟩
  have L : Below w1.heap.size w1 w2 := (Below.refl _ _).trans (hb.mono (by simp <;> omega))
  have K2 : Below w.heap.size w w2 := K1.trans (L.mono K1.size)
  have RF0 := Rg.keepF L lr RF0
  have RF1 := Rg.keepF L lr RF1
  have t0 := Rg.keep L lt t0
  have t1 := Rg.keep L lt t1
  have t2 := Rg.keep L lt t2
  have t3 := Rg.keep L lt t3
  have t4 := Rg.keep L lt t4
  have a0 := Rg.keep L la a0
  have a1 := Rg.keep L la a1
  have r0 := Rg.keep L lr r0
  have r1 := Rg.keep L lr r1
  have lt := Nat.lt_of_lt_of_le lt L.size
  have la := Nat.lt_of_lt_of_le la L.size
  have lr := Nat.lt_of_lt_of_le lr L.size
  clear hb L
  have hRC := (⟨⟨_, r0⟩, ⟨_, r1⟩, RF0, RF1⟩ : Rg.RC (w.heap.size + 1 + 1) w2)
  have z0 : w.heap.size ≤ w.heap.size + 1 + 1 := by omega
  go_wp2
  have f0 := Rg.RC.read00 (x := v) hRC
  have f1 := Rg.RC.read1 (x := v) (y := 1) hRC
  refine bodyPost_ret (v := Frac3 (v) (1) (0)) (by simp [results, Try.results35, go_sem, f0, f1]) rfl ⟨rfl, ?_⟩
  exact Below.setCell (Below.setCell K2 z0 _) z0 _
set_option maxHeartbeats 8000000 in
theorem rmul_ok (K B F R O n0 d0 n1 d1 v q t p : Int) (w : World) (hp : (2 : Int) ^ F.toNat = p) (p0 : 1 ≤ p) (p1 : p ≤ 1073741824) (f0 : 0 ≤ F) (f1 : F ≤ 30) (ht : n0 * n1 = t) (t0' : -4611686018427387904 ≤ t) (t1' : t ≤ 4611686018427387904) (CH : Hid (∀ w, Calls Try.prog 55 #[.agg #[.int .i64 K, .int .i64 B, .int .i64 F, .int .i64 R, .int .i64 O], .agg #[.int .i64 n0, .int .i64 d0], .agg #[.int .i64 n1, .int .i64 d1]] w (Ret (.int .i64 0) w))) (RD : Hid (∀ w, Calls Try.prog 37 #[.int .i64 t, .int .i64 p, .int .i64 R] w fun e w' => e = .returned (.int .i64 q) ∧ w = w')) (FT : Hid (∀ w, Calls Try.prog 53 #[.agg #[.int .i64 K, .int .i64 B, .int .i64 F, .int .i64 R, .int .i64 O], .int .i64 (q)] w (Ret (.agg #[.int .i64 v, .int .i64 1]) w))) :
    Calls Try.prog 31 #[.agg #[.int .i64 K, .int .i64 B, .int .i64 F, .int .i64 R, .int .i64 O], .agg #[.int .i64 n0, .int .i64 d0], .agg #[.int .i64 n1, .int .i64 d1]] w (Ret (Frac3 v 1 0) w) := by
  go_enter Try.func31, Try.ntmps31
  go_wp2_with fail
  refine (CH.out _).mono ?_
  rintro e w1 ⟨rfl, hb⟩
  have L : Below w.heap.size w w1 := (((((Below.refl _ _).alloc (by simp <;> omega) _).alloc (by simp <;> omega) _).alloc (by simp <;> omega) _).alloc (by simp <;> omega) _).trans (hb.mono (by simp <;> omega))
  have K1 : Below w.heap.size w w1 := L
  have RF0 : w1.frozen? ⟨w.heap.size + 1 + 1 + 1, 0, none⟩ = false := Rg.keepF hb (by simp <;> omega) (by simp only [frozen?_alloc_cells]; exact Rg.notFrozen (by omega))
  have RF1 : w1.frozen? ⟨w.heap.size + 1 + 1 + 1, 1, none⟩ = false := Rg.keepF hb (by simp <;> omega) (by simp only [frozen?_alloc_cells]; exact Rg.notFrozen (by omega))
  have lt : w.heap.size < w1.heap.size := Nat.lt_of_lt_of_le (by simp <;> omega) hb.size
  have t0 : w1.cell? ⟨w.heap.size, 0, none⟩ = some (.int .i64 K) := Rg.keep hb (by simp <;> omega) (by go_cell)
  have t1 : w1.cell? ⟨w.heap.size, 1, none⟩ = some (.int .i64 B) := Rg.keep hb (by simp <;> omega) (by go_cell)
  have t2 : w1.cell? ⟨w.heap.size, 2, none⟩ = some (.int .i64 F) := Rg.keep hb (by simp <;> omega) (by go_cell)
  have t3 : w1.cell? ⟨w.heap.size, 3, none⟩ = some (.int .i64 R) := Rg.keep hb (by simp <;> omega) (by go_cell)
  have t4 : w1.cell? ⟨w.heap.size, 4, none⟩ = some (.int .i64 O) := Rg.keep hb (by simp <;> omega) (by go_cell)
  have la : w.heap.size + 1 < w1.heap.size := Nat.lt_of_lt_of_le (by simp <;> omega) hb.size
  have a0 : w1.cell? ⟨w.heap.size + 1, 0, none⟩ = some (.int .i64 n0) := Rg.keep hb (by simp <;> omega) (by go_cell)
  have a1 : w1.cell? ⟨w.heap.size + 1, 1, none⟩ = some (.int .i64 d0) := Rg.keep hb (by simp <;> omega) (by go_cell)
  have lb : w.heap.size + 1 + 1 < w1.heap.size := Nat.lt_of_lt_of_le (by simp <;> omega) hb.size
  have b0 : w1.cell? ⟨w.heap.size + 1 + 1, 0, none⟩ = some (.int .i64 n1) := Rg.keep hb (by simp <;> omega) (by go_cell)
  have b1 : w1.cell? ⟨w.heap.size + 1 + 1, 1, none⟩ = some (.int .i64 d1) := Rg.keep hb (by simp <;> omega) (by go_cell)
  have lr : w.heap.size + 1 + 1 + 1 < w1.heap.size := Nat.lt_of_lt_of_le (by simp <;> omega) hb.size
  have r0 : w1.cell? ⟨w.heap.size + 1 + 1 + 1, 0, none⟩ = some (.int .i64 0) := Rg.keep hb (by simp <;> omega) (by go_cell)
  have r1 : w1.cell? ⟨w.heap.size + 1 + 1 + 1, 1, none⟩ = some (.int .i64 0) := Rg.keep hb (by simp <;> omega) (by go_cell)
  clear hb L
  go_wp2_with fail
  have hz : w1.cell? ⟨w.heap.size, 0, none⟩ = some (.int .i64 K) ∧ w1.cell? ⟨w.heap.size, 1, none⟩ = some (.int .i64 B) ∧ w1.cell? ⟨w.heap.size, 2, none⟩ = some (.int .i64 F) ∧ w1.cell? ⟨w.heap.size, 3, none⟩ = some (.int .i64 R) ∧ w1.cell? ⟨w.heap.size, 4, none⟩ = some (.int .i64 O) ∧ w1.cell? ⟨w.heap.size + 1, 0, none⟩ = some (.int .i64 n0) ∧ w1.cell? ⟨w.heap.size + 1 + 1, 0, none⟩ = some (.int .i64 n1) ∧ Rg.RC (w.heap.size + 1 + 1 + 1) w1 ∧ w1.heap.size ≤ w1.heap.size ∧ Below w.heap.size w w1 := ⟨t0, t1, t2, t3, t4, a0, b0, (⟨⟨_, r0⟩, ⟨_, r1⟩, RF0, RF1⟩ : Rg.RC (w.heap.size + 1 + 1 + 1) w1), Nat.le_refl _, K1⟩
  have z0 : w.heap.size ≤ w.heap.size + 1 + 1 + 1 := by omega
  have ne0 : w.heap.size + 1 + 1 + 1 ≠ w.heap.size := by omega
  have ne1 : w.heap.size + 1 + 1 + 1 ≠ w.heap.size + 1 := by omega
  have ne2 : w.heap.size + 1 + 1 + 1 ≠ w.heap.size + 1 + 1 := by omega
  clear t0 t1 t2 t3 t4 a0 a1 b0 b1 r0 r1 RF0 RF1 K1
  have m1 : IntKind.i64.wrap t = t := IntWalk.i64_in _ ⟨by omega, by omega⟩
  have m2 : IntKind.i64.wrap p = p := IntWalk.i64_in _ ⟨by clear m1; omega, by clear m1; omega⟩
  have HS : Hid (∀ u u' : World, (u.cell? ⟨w.heap.size, 0, none⟩ = some (.int .i64 K) ∧ u.cell? ⟨w.heap.size, 1, none⟩ = some (.int .i64 B) ∧ u.cell? ⟨w.heap.size, 2, none⟩ = some (.int .i64 F) ∧ u.cell? ⟨w.heap.size, 3, none⟩ = some (.int .i64 R) ∧ u.cell? ⟨w.heap.size, 4, none⟩ = some (.int .i64 O) ∧ u.cell? ⟨w.heap.size + 1, 0, none⟩ = some (.int .i64 n0) ∧ u.cell? ⟨w.heap.size + 1 + 1, 0, none⟩ = some (.int .i64 n1) ∧ Rg.RC (w.heap.size + 1 + 1 + 1) u ∧ w1.heap.size ≤ u.heap.size ∧ Below w.heap.size w u) → Below u.heap.size u u' → (u'.cell? ⟨w.heap.size, 0, none⟩ = some (.int .i64 K) ∧ u'.cell? ⟨w.heap.size, 1, none⟩ = some (.int .i64 B) ∧ u'.cell? ⟨w.heap.size, 2, none⟩ = some (.int .i64 F) ∧ u'.cell? ⟨w.heap.size, 3, none⟩ = some (.int .i64 R) ∧ u'.cell? ⟨w.heap.size, 4, none⟩ = some (.int .i64 O) ∧ u'.cell? ⟨w.heap.size + 1, 0, none⟩ = some (.int .i64 n0) ∧ u'.cell? ⟨w.heap.size + 1 + 1, 0, none⟩ = some (.int .i64 n1) ∧ Rg.RC (w.heap.size + 1 + 1 + 1) u' ∧ w1.heap.size ≤ u'.heap.size ∧ Below w.heap.size w u')) := Lib.hid (fun u u' h hb => ⟨Rg.keep hb (Nat.lt_of_lt_of_le lt h.2.2.2.2.2.2.2.2.1) h.1, Rg.keep hb (Nat.lt_of_lt_of_le lt h.2.2.2.2.2.2.2.2.1) h.2.1, Rg.keep hb (Nat.lt_of_lt_of_le lt h.2.2.2.2.2.2.2.2.1) h.2.2.1, Rg.keep hb (Nat.lt_of_lt_of_le lt h.2.2.2.2.2.2.2.2.1) h.2.2.2.1, Rg.keep hb (Nat.lt_of_lt_of_le lt h.2.2.2.2.2.2.2.2.1) h.2.2.2.2.1, Rg.keep hb (Nat.lt_of_lt_of_le la h.2.2.2.2.2.2.2.2.1) h.2.2.2.2.2.1, Rg.keep hb (Nat.lt_of_lt_of_le lb h.2.2.2.2.2.2.2.2.1) h.2.2.2.2.2.2.1, Rg.RC.keep hb (Nat.lt_of_lt_of_le lr h.2.2.2.2.2.2.2.2.1) h.2.2.2.2.2.2.2.1, Nat.le_trans h.2.2.2.2.2.2.2.2.1 hb.size, h.2.2.2.2.2.2.2.2.2.trans (hb.mono h.2.2.2.2.2.2.2.2.2.size)⟩)
  refine wp_region_held_drew (S := fun w' => w'.cell? ⟨w.heap.size, 0, none⟩ = some (.int .i64 K) ∧ w'.cell? ⟨w.heap.size, 1, none⟩ = some (.int .i64 B) ∧ w'.cell? ⟨w.heap.size, 2, none⟩ = some (.int .i64 F) ∧ w'.cell? ⟨w.heap.size, 3, none⟩ = some (.int .i64 R) ∧ w'.cell? ⟨w.heap.size, 4, none⟩ = some (.int .i64 O) ∧ w'.cell? ⟨w.heap.size + 1, 0, none⟩ = some (.int .i64 n0) ∧ w'.cell? ⟨w.heap.size + 1 + 1, 0, none⟩ = some (.int .i64 n1) ∧ Rg.RC (w.heap.size + 1 + 1 + 1) w' ∧ w1.heap.size ≤ w'.heap.size ∧ Below w.heap.size w w') (by kernel_rfl) (HS.out _ _ hz (Below.drew (Below.refl _ _))) (fun hHeld => ?_)
  refine Rg.take (i := 0) (v := ?_) rfl (by kernel_rfl) (by kernel_rfl) (by kernel_rfl) (fun _ _ _ h => h) (Or.inl ⟨by kernel_rfl, ?_⟩) (by assumption) ?_
  rotate_left
  · ((intro w hSw; (try dsimp only at hSw); go_simp) <;> with_reducible rfl)
  try simp only [Act.put, List.setIfInBounds_toArray, List.set_cons_zero, List.set_cons_succ]
  refine Rg.take (i := 1) (v := ?_) rfl (by kernel_rfl) (by kernel_rfl) (by kernel_rfl) (fun _ _ _ h => h) (Or.inl ⟨by kernel_rfl, ?_⟩) (by assumption) ?_
  rotate_left
  · ((intro w hSw; (try dsimp only at hSw); go_simp) <;> with_reducible rfl)
  try simp only [Act.put, List.setIfInBounds_toArray, List.set_cons_zero, List.set_cons_succ]
  refine Rg.take (i := 2) (v := ?_) rfl (by kernel_rfl) (by kernel_rfl) (by kernel_rfl) (fun _ _ _ h => h) (Or.inl ⟨by kernel_rfl, ?_⟩) (by assumption) ?_
  rotate_left
  · ((intro w hSw; (try dsimp only at hSw); go_simp) <;> with_reducible rfl)
  try simp only [Act.put, List.setIfInBounds_toArray, List.set_cons_zero, List.set_cons_succ]
  refine Rg.take (i := 3) (v := ?_) rfl (by kernel_rfl) (by kernel_rfl) (by kernel_rfl) (fun _ _ _ h => h) (Or.inl ⟨by kernel_rfl, ?_⟩) (by assumption) ?_
  rotate_left
  · ((intro w hSw; (try dsimp only at hSw); go_simp) <;> with_reducible rfl)
  try simp only [Act.put, List.setIfInBounds_toArray, List.set_cons_zero, List.set_cons_succ]
  refine Rg.take (i := 4) (v := ?_) rfl (by kernel_rfl) (by kernel_rfl) (by kernel_rfl) (fun _ _ _ h => h) (Or.inl ⟨by kernel_rfl, ?_⟩) (by assumption) ?_
  rotate_left
  · ((intro w hSw; (try dsimp only at hSw); go_simp) <;> with_reducible rfl)
  try simp only [Act.put, List.setIfInBounds_toArray, List.set_cons_zero, List.set_cons_succ]
  refine Rg.take (i := 5) (v := ?_) rfl (by kernel_rfl) (by kernel_rfl) (by kernel_rfl) (fun _ _ _ h => h) (Or.inl ⟨by kernel_rfl, ?_⟩) (by assumption) ?_
  rotate_left
  · ((intro w hSw; (try dsimp only at hSw); go_simp) <;> with_reducible rfl)
  try simp only [Act.put, List.setIfInBounds_toArray, List.set_cons_zero, List.set_cons_succ]
  refine Rg.take (i := 6) (v := ?_) rfl (by kernel_rfl) (by kernel_rfl) (by kernel_rfl) (fun _ _ _ h => h) (Or.inl ⟨by kernel_rfl, ?_⟩) (by assumption) ?_
  rotate_left
  · ((intro w hSw; (try dsimp only at hSw); go_simp) <;> with_reducible rfl)
  try simp only [Act.put, List.setIfInBounds_toArray, List.set_cons_zero, List.set_cons_succ]
  refine Rg.take (i := 7) (v := ?_) rfl (by kernel_rfl) (by kernel_rfl) (by kernel_rfl) (fun _ _ _ h => h) (Or.inl ⟨by kernel_rfl, ?_⟩) (by assumption) ?_
  rotate_left
  · ((intro w hSw; (try dsimp only at hSw); go_simp) <;> with_reducible rfl)
  try simp only [Act.put, List.setIfInBounds_toArray, List.set_cons_zero, List.set_cons_succ]
  refine Rg.take (i := 8) (v := ?_) rfl (by kernel_rfl) (by kernel_rfl) (by kernel_rfl) (fun _ _ _ h => h) (Or.inl ⟨by kernel_rfl, ?_⟩) (by assumption) ?_
  rotate_left
  · ((intro w hSw; (try dsimp only at hSw); go_simp) <;> with_reducible rfl)
  try simp only [Act.put, List.setIfInBounds_toArray, List.set_cons_zero, List.set_cons_succ]
  refine Rg.take (i := 9) (v := ?_) rfl (by kernel_rfl) (by kernel_rfl) (by kernel_rfl) (fun _ _ _ h => h) (Or.inl ⟨by kernel_rfl, ?_⟩) (by assumption) ?_
  rotate_left
  · ((intro w hSw; (try dsimp only at hSw); go_simp) <;> with_reducible rfl)
  try simp only [Act.put, List.setIfInBounds_toArray, List.set_cons_zero, List.set_cons_succ]
  refine Rg.take (i := 10) (v := ?_) rfl (by kernel_rfl) (by kernel_rfl) (by kernel_rfl) (fun _ _ _ h => h) (Or.inl ⟨by kernel_rfl, ?_⟩) (by assumption) ?_
  rotate_left
  · ((intro w hSw; (try dsimp only at hSw); go_simp) <;> with_reducible rfl)
  try simp only [Act.put, List.setIfInBounds_toArray, List.set_cons_zero, List.set_cons_succ]
  refine Rg.one (i := 11) (by kernel_rfl) rfl (fun KK hK => ?_)
  rw [if_pos (by kernel_rfl)]
  go_simp
  ((with_reducible refine (RD.out _).mono ?_); rintro e u ⟨rfl, rfl⟩)
  first | (refine hK.out _ _ hHeld (fun _ => ?_)) | (go_wp2_with fail; refine hK.out _ _ hHeld (fun _ => ?_))
  clear hK KK
  refine Rg.one (i := 12) (by kernel_rfl) rfl (fun KK hK => ?_)
  rw [if_pos (by kernel_rfl)]
  go_simp
  ((with_reducible refine (FT.out _).mono ?_); rintro e u ⟨rfl, hb⟩)
  have hNew := HS.out _ _ hHeld hb
  first | (refine hK.out _ _ hNew (fun _ => ?_)) | (go_wp2_with fail; refine hK.out _ _ hNew (fun _ => ?_))
  clear hK KK hHeld hb
  have hHeld := hNew
  clear hNew
  refine Rg.one (i := 13) (by kernel_rfl) rfl (fun KK hK => ?_)
  rw [if_pos (by kernel_rfl)]
  obtain ⟨⟨ra, rca⟩, ⟨rb, rcb⟩, rcf, rcg⟩ := hHeld.2.2.2.2.2.2.2.1
  go_simp
  have hRC : Rg.RC (w.heap.size + 1 + 1 + 1) _ := hHeld.2.2.2.2.2.2.2.1
  refine hK.out _ _ ⟨Rg.far ne0 hHeld.1, Rg.far ne0 hHeld.2.1, Rg.far ne0 hHeld.2.2.1, Rg.far ne0 hHeld.2.2.2.1, Rg.far ne0 hHeld.2.2.2.2.1, Rg.far ne1 hHeld.2.2.2.2.2.1, Rg.far ne2 hHeld.2.2.2.2.2.2.1, Rg.RC.store hHeld.2.2.2.2.2.2.2.1, by rw [Rg.size2]; exact hHeld.2.2.2.2.2.2.2.2.1, Below.setCell (Below.setCell hHeld.2.2.2.2.2.2.2.2.2 z0 _) z0 _⟩ (fun hNew => ?_)
  clear hK KK hHeld rca rcb rcf rcg
  have hHeld := hNew
  clear hNew
  refine Rg.take (i := 14) (v := ?_) rfl (by kernel_rfl) (by kernel_rfl) (by kernel_rfl) (fun _ _ _ h => h) (Or.inl ⟨by kernel_rfl, ?_⟩) (by assumption) ?_
  rotate_left
  · ((intro w hSw; (try dsimp only at hSw); go_simp) <;> with_reducible rfl)
  try simp only [Act.put, List.setIfInBounds_toArray, List.set_cons_zero, List.set_cons_succ]
  refine wpAnyH_done (by kernel_rfl) ?_ _
  clear m1 m2
  have f0 := Rg.RC.read00 (x := v) hRC
  have f1 := Rg.RC.read1 (x := v) (y := 1) hRC
  go_wp2
  refine bodyPost_ret (v := Frac3 (v) (1) (0)) (by simp [results, Try.results31, go_sem, f0, f1]) rfl ⟨rfl, hHeld.2.2.2.2.2.2.2.2.2⟩
set_option maxHeartbeats 8000000 in
theorem rdiv_zero (K B F R O n0 d0 n1 d1 : Int) (w : World) (hz : (n1 == 0) = true) (CH : Hid (∀ w, Calls Try.prog 55 #[.agg #[.int .i64 K, .int .i64 B, .int .i64 F, .int .i64 R, .int .i64 O], .agg #[.int .i64 n0, .int .i64 d0], .agg #[.int .i64 n1, .int .i64 d1]] w (Ret (.int .i64 0) w))) :
    Calls Try.prog 33 #[.agg #[.int .i64 K, .int .i64 B, .int .i64 F, .int .i64 R, .int .i64 O], .agg #[.int .i64 n0, .int .i64 d0], .agg #[.int .i64 n1, .int .i64 d1]] w (Ret (Frac3 0 0 4) w) := by
  go_enter Try.func33, Try.ntmps33
  go_wp2_with fail
  refine (CH.out _).mono ?_
  rintro e w1 ⟨rfl, hb⟩
  have L : Below w.heap.size w w1 := (((((Below.refl _ _).alloc (by simp <;> omega) _).alloc (by simp <;> omega) _).alloc (by simp <;> omega) _).alloc (by simp <;> omega) _).trans (hb.mono (by simp <;> omega))
  have K1 : Below w.heap.size w w1 := L
  have RF0 : w1.frozen? ⟨w.heap.size + 1 + 1 + 1, 0, none⟩ = false := Rg.keepF hb (by simp <;> omega) (by simp only [frozen?_alloc_cells]; exact Rg.notFrozen (by omega))
  have RF1 : w1.frozen? ⟨w.heap.size + 1 + 1 + 1, 1, none⟩ = false := Rg.keepF hb (by simp <;> omega) (by simp only [frozen?_alloc_cells]; exact Rg.notFrozen (by omega))
  have lt : w.heap.size < w1.heap.size := Nat.lt_of_lt_of_le (by simp <;> omega) hb.size
  have t0 : w1.cell? ⟨w.heap.size, 0, none⟩ = some (.int .i64 K) := Rg.keep hb (by simp <;> omega) (by go_cell)
  have t1 : w1.cell? ⟨w.heap.size, 1, none⟩ = some (.int .i64 B) := Rg.keep hb (by simp <;> omega) (by go_cell)
  have t2 : w1.cell? ⟨w.heap.size, 2, none⟩ = some (.int .i64 F) := Rg.keep hb (by simp <;> omega) (by go_cell)
  have t3 : w1.cell? ⟨w.heap.size, 3, none⟩ = some (.int .i64 R) := Rg.keep hb (by simp <;> omega) (by go_cell)
  have t4 : w1.cell? ⟨w.heap.size, 4, none⟩ = some (.int .i64 O) := Rg.keep hb (by simp <;> omega) (by go_cell)
  have la : w.heap.size + 1 < w1.heap.size := Nat.lt_of_lt_of_le (by simp <;> omega) hb.size
  have a0 : w1.cell? ⟨w.heap.size + 1, 0, none⟩ = some (.int .i64 n0) := Rg.keep hb (by simp <;> omega) (by go_cell)
  have a1 : w1.cell? ⟨w.heap.size + 1, 1, none⟩ = some (.int .i64 d0) := Rg.keep hb (by simp <;> omega) (by go_cell)
  have lb : w.heap.size + 1 + 1 < w1.heap.size := Nat.lt_of_lt_of_le (by simp <;> omega) hb.size
  have b0 : w1.cell? ⟨w.heap.size + 1 + 1, 0, none⟩ = some (.int .i64 n1) := Rg.keep hb (by simp <;> omega) (by go_cell)
  have b1 : w1.cell? ⟨w.heap.size + 1 + 1, 1, none⟩ = some (.int .i64 d1) := Rg.keep hb (by simp <;> omega) (by go_cell)
  have lr : w.heap.size + 1 + 1 + 1 < w1.heap.size := Nat.lt_of_lt_of_le (by simp <;> omega) hb.size
  have r0 : w1.cell? ⟨w.heap.size + 1 + 1 + 1, 0, none⟩ = some (.int .i64 0) := Rg.keep hb (by simp <;> omega) (by go_cell)
  have r1 : w1.cell? ⟨w.heap.size + 1 + 1 + 1, 1, none⟩ = some (.int .i64 0) := Rg.keep hb (by simp <;> omega) (by go_cell)
  clear hb L
  have hRC := (⟨⟨_, r0⟩, ⟨_, r1⟩, RF0, RF1⟩ : Rg.RC (w.heap.size + 1 + 1 + 1) w1)
  have z0 : w.heap.size ≤ w.heap.size + 1 + 1 + 1 := by omega
  go_wp2
  have f0 := Rg.RC.read00 (x := 0) hRC
  have f1 := Rg.RC.read1 (x := 0) (y := 0) hRC
  refine bodyPost_ret (v := Frac3 (0) (0) (4)) (by simp [results, Try.results33, go_sem, f0, f1]) rfl ⟨rfl, ?_⟩
  exact Below.setCell (Below.setCell K1 z0 _) z0 _
set_option maxHeartbeats 8000000 in
theorem rdiv_pos (K B F R O n0 d0 n1 d1 v q t p : Int) (w : World) (hp : (2 : Int) ^ F.toNat = p) (p0 : 1 ≤ p) (p1 : p ≤ 1073741824) (f0 : 0 ≤ F) (f1 : F ≤ 30) (i0 : -1099511627776 ≤ n0) (i1 : n0 ≤ 1099511627776) (j0 : -1099511627776 ≤ n1) (j1 : n1 ≤ 1099511627776) (hz : (n1 == 0) = false) (hl : decide (n1 < 0) = false) (ht : n0 * p = t) (t0' : -4611686018427387904 ≤ t) (t1' : t ≤ 4611686018427387904) (CH : Hid (∀ w, Calls Try.prog 55 #[.agg #[.int .i64 K, .int .i64 B, .int .i64 F, .int .i64 R, .int .i64 O], .agg #[.int .i64 n0, .int .i64 d0], .agg #[.int .i64 n1, .int .i64 d1]] w (Ret (.int .i64 0) w))) (RD : Hid (∀ w, Calls Try.prog 37 #[.int .i64 t, .int .i64 n1, .int .i64 R] w fun e w' => e = .returned (.int .i64 q) ∧ w = w')) (FT : Hid (∀ w, Calls Try.prog 53 #[.agg #[.int .i64 K, .int .i64 B, .int .i64 F, .int .i64 R, .int .i64 O], .int .i64 (q)] w (Ret (.agg #[.int .i64 v, .int .i64 1]) w))) :
    Calls Try.prog 33 #[.agg #[.int .i64 K, .int .i64 B, .int .i64 F, .int .i64 R, .int .i64 O], .agg #[.int .i64 n0, .int .i64 d0], .agg #[.int .i64 n1, .int .i64 d1]] w (Ret (Frac3 v 1 0) w) := by
  go_enter Try.func33, Try.ntmps33
  go_wp2_with fail
  refine (CH.out _).mono ?_
  rintro e w1 ⟨rfl, hb⟩
  have L : Below w.heap.size w w1 := (((((Below.refl _ _).alloc (by simp <;> omega) _).alloc (by simp <;> omega) _).alloc (by simp <;> omega) _).alloc (by simp <;> omega) _).trans (hb.mono (by simp <;> omega))
  have K1 : Below w.heap.size w w1 := L
  have RF0 : w1.frozen? ⟨w.heap.size + 1 + 1 + 1, 0, none⟩ = false := Rg.keepF hb (by simp <;> omega) (by simp only [frozen?_alloc_cells]; exact Rg.notFrozen (by omega))
  have RF1 : w1.frozen? ⟨w.heap.size + 1 + 1 + 1, 1, none⟩ = false := Rg.keepF hb (by simp <;> omega) (by simp only [frozen?_alloc_cells]; exact Rg.notFrozen (by omega))
  have lt : w.heap.size < w1.heap.size := Nat.lt_of_lt_of_le (by simp <;> omega) hb.size
  have t0 : w1.cell? ⟨w.heap.size, 0, none⟩ = some (.int .i64 K) := Rg.keep hb (by simp <;> omega) (by go_cell)
  have t1 : w1.cell? ⟨w.heap.size, 1, none⟩ = some (.int .i64 B) := Rg.keep hb (by simp <;> omega) (by go_cell)
  have t2 : w1.cell? ⟨w.heap.size, 2, none⟩ = some (.int .i64 F) := Rg.keep hb (by simp <;> omega) (by go_cell)
  have t3 : w1.cell? ⟨w.heap.size, 3, none⟩ = some (.int .i64 R) := Rg.keep hb (by simp <;> omega) (by go_cell)
  have t4 : w1.cell? ⟨w.heap.size, 4, none⟩ = some (.int .i64 O) := Rg.keep hb (by simp <;> omega) (by go_cell)
  have la : w.heap.size + 1 < w1.heap.size := Nat.lt_of_lt_of_le (by simp <;> omega) hb.size
  have a0 : w1.cell? ⟨w.heap.size + 1, 0, none⟩ = some (.int .i64 n0) := Rg.keep hb (by simp <;> omega) (by go_cell)
  have a1 : w1.cell? ⟨w.heap.size + 1, 1, none⟩ = some (.int .i64 d0) := Rg.keep hb (by simp <;> omega) (by go_cell)
  have lb : w.heap.size + 1 + 1 < w1.heap.size := Nat.lt_of_lt_of_le (by simp <;> omega) hb.size
  have b0 : w1.cell? ⟨w.heap.size + 1 + 1, 0, none⟩ = some (.int .i64 n1) := Rg.keep hb (by simp <;> omega) (by go_cell)
  have b1 : w1.cell? ⟨w.heap.size + 1 + 1, 1, none⟩ = some (.int .i64 d1) := Rg.keep hb (by simp <;> omega) (by go_cell)
  have lr : w.heap.size + 1 + 1 + 1 < w1.heap.size := Nat.lt_of_lt_of_le (by simp <;> omega) hb.size
  have r0 : w1.cell? ⟨w.heap.size + 1 + 1 + 1, 0, none⟩ = some (.int .i64 0) := Rg.keep hb (by simp <;> omega) (by go_cell)
  have r1 : w1.cell? ⟨w.heap.size + 1 + 1 + 1, 1, none⟩ = some (.int .i64 0) := Rg.keep hb (by simp <;> omega) (by go_cell)
  clear hb L
  go_wp2_with fail
  have hz : w1.cell? ⟨w.heap.size, 0, none⟩ = some (.int .i64 K) ∧ w1.cell? ⟨w.heap.size, 1, none⟩ = some (.int .i64 B) ∧ w1.cell? ⟨w.heap.size, 2, none⟩ = some (.int .i64 F) ∧ w1.cell? ⟨w.heap.size, 3, none⟩ = some (.int .i64 R) ∧ w1.cell? ⟨w.heap.size, 4, none⟩ = some (.int .i64 O) ∧ Rg.RC (w.heap.size + 1 + 1 + 1) w1 ∧ w1.heap.size ≤ w1.heap.size ∧ Below w.heap.size w w1 := ⟨t0, t1, t2, t3, t4, (⟨⟨_, r0⟩, ⟨_, r1⟩, RF0, RF1⟩ : Rg.RC (w.heap.size + 1 + 1 + 1) w1), Nat.le_refl _, K1⟩
  have z0 : w.heap.size ≤ w.heap.size + 1 + 1 + 1 := by omega
  have ne0 : w.heap.size + 1 + 1 + 1 ≠ w.heap.size := by omega
  clear t0 t1 t2 t3 t4 a0 a1 b0 b1 r0 r1 RF0 RF1 K1
  have HS : Hid (∀ u u' : World, (u.cell? ⟨w.heap.size, 0, none⟩ = some (.int .i64 K) ∧ u.cell? ⟨w.heap.size, 1, none⟩ = some (.int .i64 B) ∧ u.cell? ⟨w.heap.size, 2, none⟩ = some (.int .i64 F) ∧ u.cell? ⟨w.heap.size, 3, none⟩ = some (.int .i64 R) ∧ u.cell? ⟨w.heap.size, 4, none⟩ = some (.int .i64 O) ∧ Rg.RC (w.heap.size + 1 + 1 + 1) u ∧ w1.heap.size ≤ u.heap.size ∧ Below w.heap.size w u) → Below u.heap.size u u' → (u'.cell? ⟨w.heap.size, 0, none⟩ = some (.int .i64 K) ∧ u'.cell? ⟨w.heap.size, 1, none⟩ = some (.int .i64 B) ∧ u'.cell? ⟨w.heap.size, 2, none⟩ = some (.int .i64 F) ∧ u'.cell? ⟨w.heap.size, 3, none⟩ = some (.int .i64 R) ∧ u'.cell? ⟨w.heap.size, 4, none⟩ = some (.int .i64 O) ∧ Rg.RC (w.heap.size + 1 + 1 + 1) u' ∧ w1.heap.size ≤ u'.heap.size ∧ Below w.heap.size w u')) := Lib.hid (fun u u' h hb => ⟨Rg.keep hb (Nat.lt_of_lt_of_le lt h.2.2.2.2.2.2.1) h.1, Rg.keep hb (Nat.lt_of_lt_of_le lt h.2.2.2.2.2.2.1) h.2.1, Rg.keep hb (Nat.lt_of_lt_of_le lt h.2.2.2.2.2.2.1) h.2.2.1, Rg.keep hb (Nat.lt_of_lt_of_le lt h.2.2.2.2.2.2.1) h.2.2.2.1, Rg.keep hb (Nat.lt_of_lt_of_le lt h.2.2.2.2.2.2.1) h.2.2.2.2.1, Rg.RC.keep hb (Nat.lt_of_lt_of_le lr h.2.2.2.2.2.2.1) h.2.2.2.2.2.1, Nat.le_trans h.2.2.2.2.2.2.1 hb.size, h.2.2.2.2.2.2.2.trans (hb.mono h.2.2.2.2.2.2.2.size)⟩)
  refine wp_region_held_drew (S := fun w' => w'.cell? ⟨w.heap.size, 0, none⟩ = some (.int .i64 K) ∧ w'.cell? ⟨w.heap.size, 1, none⟩ = some (.int .i64 B) ∧ w'.cell? ⟨w.heap.size, 2, none⟩ = some (.int .i64 F) ∧ w'.cell? ⟨w.heap.size, 3, none⟩ = some (.int .i64 R) ∧ w'.cell? ⟨w.heap.size, 4, none⟩ = some (.int .i64 O) ∧ Rg.RC (w.heap.size + 1 + 1 + 1) w' ∧ w1.heap.size ≤ w'.heap.size ∧ Below w.heap.size w w') (by kernel_rfl) (HS.out _ _ hz (Below.drew (Below.refl _ _))) (fun hHeld => ?_)
  refine Rg.take (i := 0) (v := ?_) rfl (by kernel_rfl) (by kernel_rfl) (by kernel_rfl) (fun _ _ _ h => h) (Or.inl ⟨by kernel_rfl, ?_⟩) (by assumption) ?_
  rotate_left
  · ((intro w hSw; (try dsimp only at hSw); go_simp) <;> with_reducible rfl)
  try simp only [Act.put, List.setIfInBounds_toArray, List.set_cons_zero, List.set_cons_succ]
  refine Rg.take (i := 1) (v := ?_) rfl (by kernel_rfl) (by kernel_rfl) (by kernel_rfl) (fun _ _ _ h => h) (Or.inl ⟨by kernel_rfl, ?_⟩) (by assumption) ?_
  rotate_left
  · ((intro w hSw; (try dsimp only at hSw); go_simp) <;> with_reducible rfl)
  try simp only [Act.put, List.setIfInBounds_toArray, List.set_cons_zero, List.set_cons_succ]
  refine Rg.take (i := 2) (v := ?_) rfl (by kernel_rfl) (by kernel_rfl) (by kernel_rfl) (fun _ _ _ h => h) (Or.inl ⟨by kernel_rfl, ?_⟩) (by assumption) ?_
  rotate_left
  · ((intro w hSw; (try dsimp only at hSw); go_simp) <;> with_reducible rfl)
  try simp only [Act.put, List.setIfInBounds_toArray, List.set_cons_zero, List.set_cons_succ]
  refine Rg.take (i := 3) (v := ?_) rfl (by kernel_rfl) (by kernel_rfl) (by kernel_rfl) (fun _ _ _ h => h) (Or.inl ⟨by kernel_rfl, ?_⟩) (by assumption) ?_
  rotate_left
  · ((intro w hSw; (try dsimp only at hSw); go_simp) <;> with_reducible rfl)
  try simp only [Act.put, List.setIfInBounds_toArray, List.set_cons_zero, List.set_cons_succ]
  refine Rg.take (i := 4) (v := ?_) rfl (by kernel_rfl) (by kernel_rfl) (by kernel_rfl) (fun _ _ _ h => h) (Or.inl ⟨by kernel_rfl, ?_⟩) (by assumption) ?_
  rotate_left
  · ((intro w hSw; (try dsimp only at hSw); go_simp) <;> with_reducible rfl)
  try simp only [Act.put, List.setIfInBounds_toArray, List.set_cons_zero, List.set_cons_succ]
  refine Rg.one (i := 5) (by kernel_rfl) rfl (fun KK hK => ?_)
  rw [if_pos (by kernel_rfl)]
  go_simp
  ((with_reducible refine (RD.out _).mono ?_); rintro e u ⟨rfl, rfl⟩)
  first | (refine hK.out _ _ hHeld (fun _ => ?_)) | (go_wp2_with fail; refine hK.out _ _ hHeld (fun _ => ?_))
  clear hK KK
  refine Rg.one (i := 6) (by kernel_rfl) rfl (fun KK hK => ?_)
  rw [if_pos (by kernel_rfl)]
  go_simp
  ((with_reducible refine (FT.out _).mono ?_); rintro e u ⟨rfl, hb⟩)
  have hNew := HS.out _ _ hHeld hb
  first | (refine hK.out _ _ hNew (fun _ => ?_)) | (go_wp2_with fail; refine hK.out _ _ hNew (fun _ => ?_))
  clear hK KK hHeld hb
  have hHeld := hNew
  clear hNew
  refine Rg.one (i := 7) (by kernel_rfl) rfl (fun KK hK => ?_)
  rw [if_pos (by kernel_rfl)]
  obtain ⟨⟨ra, rca⟩, ⟨rb, rcb⟩, rcf, rcg⟩ := hHeld.2.2.2.2.2.1
  go_simp
  have hRC : Rg.RC (w.heap.size + 1 + 1 + 1) _ := hHeld.2.2.2.2.2.1
  refine hK.out _ _ ⟨Rg.far ne0 hHeld.1, Rg.far ne0 hHeld.2.1, Rg.far ne0 hHeld.2.2.1, Rg.far ne0 hHeld.2.2.2.1, Rg.far ne0 hHeld.2.2.2.2.1, Rg.RC.store hHeld.2.2.2.2.2.1, by rw [Rg.size2]; exact hHeld.2.2.2.2.2.2.1, Below.setCell (Below.setCell hHeld.2.2.2.2.2.2.2 z0 _) z0 _⟩ (fun hNew => ?_)
  clear hK KK hHeld rca rcb rcf rcg
  have hHeld := hNew
  clear hNew
  refine Rg.take (i := 8) (v := ?_) rfl (by kernel_rfl) (by kernel_rfl) (by kernel_rfl) (fun _ _ _ h => h) (Or.inl ⟨by kernel_rfl, ?_⟩) (by assumption) ?_
  rotate_left
  · ((intro w hSw; (try dsimp only at hSw); go_simp) <;> with_reducible rfl)
  try simp only [Act.put, List.setIfInBounds_toArray, List.set_cons_zero, List.set_cons_succ]
  refine wpAnyH_done (by kernel_rfl) ?_ _
  have f0 := Rg.RC.read00 (x := v) hRC
  have f1 := Rg.RC.read1 (x := v) (y := 1) hRC
  go_wp2
  refine bodyPost_ret (v := Frac3 (v) (1) (0)) (by simp [results, Try.results33, go_sem, f0, f1]) rfl ⟨rfl, hHeld.2.2.2.2.2.2.2⟩
set_option maxHeartbeats 8000000 in
theorem rdiv_neg (K B F R O n0 d0 n1 d1 v q t p : Int) (w : World) (hp : (2 : Int) ^ F.toNat = p) (p0 : 1 ≤ p) (p1 : p ≤ 1073741824) (f0 : 0 ≤ F) (f1 : F ≤ 30) (i0 : -1099511627776 ≤ n0) (i1 : n0 ≤ 1099511627776) (j0 : -1099511627776 ≤ n1) (j1 : n1 ≤ 1099511627776) (hz : (n1 == 0) = false) (hl : decide (n1 < 0) = true) (ht : n0 * p = t) (t0' : -4611686018427387904 ≤ t) (t1' : t ≤ 4611686018427387904) (CH : Hid (∀ w, Calls Try.prog 55 #[.agg #[.int .i64 K, .int .i64 B, .int .i64 F, .int .i64 R, .int .i64 O], .agg #[.int .i64 n0, .int .i64 d0], .agg #[.int .i64 n1, .int .i64 d1]] w (Ret (.int .i64 0) w))) (RD : Hid (∀ w, Calls Try.prog 37 #[.int .i64 (-t), .int .i64 (-n1), .int .i64 R] w fun e w' => e = .returned (.int .i64 q) ∧ w = w')) (FT : Hid (∀ w, Calls Try.prog 53 #[.agg #[.int .i64 K, .int .i64 B, .int .i64 F, .int .i64 R, .int .i64 O], .int .i64 (q)] w (Ret (.agg #[.int .i64 v, .int .i64 1]) w))) :
    Calls Try.prog 33 #[.agg #[.int .i64 K, .int .i64 B, .int .i64 F, .int .i64 R, .int .i64 O], .agg #[.int .i64 n0, .int .i64 d0], .agg #[.int .i64 n1, .int .i64 d1]] w (Ret (Frac3 v 1 0) w) := by
  go_enter Try.func33, Try.ntmps33
  go_wp2_with fail
  refine (CH.out _).mono ?_
  rintro e w1 ⟨rfl, hb⟩
  have L : Below w.heap.size w w1 := (((((Below.refl _ _).alloc (by simp <;> omega) _).alloc (by simp <;> omega) _).alloc (by simp <;> omega) _).alloc (by simp <;> omega) _).trans (hb.mono (by simp <;> omega))
  have K1 : Below w.heap.size w w1 := L
  have RF0 : w1.frozen? ⟨w.heap.size + 1 + 1 + 1, 0, none⟩ = false := Rg.keepF hb (by simp <;> omega) (by simp only [frozen?_alloc_cells]; exact Rg.notFrozen (by omega))
  have RF1 : w1.frozen? ⟨w.heap.size + 1 + 1 + 1, 1, none⟩ = false := Rg.keepF hb (by simp <;> omega) (by simp only [frozen?_alloc_cells]; exact Rg.notFrozen (by omega))
  have lt : w.heap.size < w1.heap.size := Nat.lt_of_lt_of_le (by simp <;> omega) hb.size
  have t0 : w1.cell? ⟨w.heap.size, 0, none⟩ = some (.int .i64 K) := Rg.keep hb (by simp <;> omega) (by go_cell)
  have t1 : w1.cell? ⟨w.heap.size, 1, none⟩ = some (.int .i64 B) := Rg.keep hb (by simp <;> omega) (by go_cell)
  have t2 : w1.cell? ⟨w.heap.size, 2, none⟩ = some (.int .i64 F) := Rg.keep hb (by simp <;> omega) (by go_cell)
  have t3 : w1.cell? ⟨w.heap.size, 3, none⟩ = some (.int .i64 R) := Rg.keep hb (by simp <;> omega) (by go_cell)
  have t4 : w1.cell? ⟨w.heap.size, 4, none⟩ = some (.int .i64 O) := Rg.keep hb (by simp <;> omega) (by go_cell)
  have la : w.heap.size + 1 < w1.heap.size := Nat.lt_of_lt_of_le (by simp <;> omega) hb.size
  have a0 : w1.cell? ⟨w.heap.size + 1, 0, none⟩ = some (.int .i64 n0) := Rg.keep hb (by simp <;> omega) (by go_cell)
  have a1 : w1.cell? ⟨w.heap.size + 1, 1, none⟩ = some (.int .i64 d0) := Rg.keep hb (by simp <;> omega) (by go_cell)
  have lb : w.heap.size + 1 + 1 < w1.heap.size := Nat.lt_of_lt_of_le (by simp <;> omega) hb.size
  have b0 : w1.cell? ⟨w.heap.size + 1 + 1, 0, none⟩ = some (.int .i64 n1) := Rg.keep hb (by simp <;> omega) (by go_cell)
  have b1 : w1.cell? ⟨w.heap.size + 1 + 1, 1, none⟩ = some (.int .i64 d1) := Rg.keep hb (by simp <;> omega) (by go_cell)
  have lr : w.heap.size + 1 + 1 + 1 < w1.heap.size := Nat.lt_of_lt_of_le (by simp <;> omega) hb.size
  have r0 : w1.cell? ⟨w.heap.size + 1 + 1 + 1, 0, none⟩ = some (.int .i64 0) := Rg.keep hb (by simp <;> omega) (by go_cell)
  have r1 : w1.cell? ⟨w.heap.size + 1 + 1 + 1, 1, none⟩ = some (.int .i64 0) := Rg.keep hb (by simp <;> omega) (by go_cell)
  clear hb L
  go_wp2_with fail
  have hz : w1.cell? ⟨w.heap.size, 0, none⟩ = some (.int .i64 K) ∧ w1.cell? ⟨w.heap.size, 1, none⟩ = some (.int .i64 B) ∧ w1.cell? ⟨w.heap.size, 2, none⟩ = some (.int .i64 F) ∧ w1.cell? ⟨w.heap.size, 3, none⟩ = some (.int .i64 R) ∧ w1.cell? ⟨w.heap.size, 4, none⟩ = some (.int .i64 O) ∧ Rg.RC (w.heap.size + 1 + 1 + 1) w1 ∧ w1.heap.size ≤ w1.heap.size ∧ Below w.heap.size w w1 := ⟨t0, t1, t2, t3, t4, (⟨⟨_, r0⟩, ⟨_, r1⟩, RF0, RF1⟩ : Rg.RC (w.heap.size + 1 + 1 + 1) w1), Nat.le_refl _, K1⟩
  have z0 : w.heap.size ≤ w.heap.size + 1 + 1 + 1 := by omega
  have ne0 : w.heap.size + 1 + 1 + 1 ≠ w.heap.size := by omega
  clear t0 t1 t2 t3 t4 a0 a1 b0 b1 r0 r1 RF0 RF1 K1
  have HS : Hid (∀ u u' : World, (u.cell? ⟨w.heap.size, 0, none⟩ = some (.int .i64 K) ∧ u.cell? ⟨w.heap.size, 1, none⟩ = some (.int .i64 B) ∧ u.cell? ⟨w.heap.size, 2, none⟩ = some (.int .i64 F) ∧ u.cell? ⟨w.heap.size, 3, none⟩ = some (.int .i64 R) ∧ u.cell? ⟨w.heap.size, 4, none⟩ = some (.int .i64 O) ∧ Rg.RC (w.heap.size + 1 + 1 + 1) u ∧ w1.heap.size ≤ u.heap.size ∧ Below w.heap.size w u) → Below u.heap.size u u' → (u'.cell? ⟨w.heap.size, 0, none⟩ = some (.int .i64 K) ∧ u'.cell? ⟨w.heap.size, 1, none⟩ = some (.int .i64 B) ∧ u'.cell? ⟨w.heap.size, 2, none⟩ = some (.int .i64 F) ∧ u'.cell? ⟨w.heap.size, 3, none⟩ = some (.int .i64 R) ∧ u'.cell? ⟨w.heap.size, 4, none⟩ = some (.int .i64 O) ∧ Rg.RC (w.heap.size + 1 + 1 + 1) u' ∧ w1.heap.size ≤ u'.heap.size ∧ Below w.heap.size w u')) := Lib.hid (fun u u' h hb => ⟨Rg.keep hb (Nat.lt_of_lt_of_le lt h.2.2.2.2.2.2.1) h.1, Rg.keep hb (Nat.lt_of_lt_of_le lt h.2.2.2.2.2.2.1) h.2.1, Rg.keep hb (Nat.lt_of_lt_of_le lt h.2.2.2.2.2.2.1) h.2.2.1, Rg.keep hb (Nat.lt_of_lt_of_le lt h.2.2.2.2.2.2.1) h.2.2.2.1, Rg.keep hb (Nat.lt_of_lt_of_le lt h.2.2.2.2.2.2.1) h.2.2.2.2.1, Rg.RC.keep hb (Nat.lt_of_lt_of_le lr h.2.2.2.2.2.2.1) h.2.2.2.2.2.1, Nat.le_trans h.2.2.2.2.2.2.1 hb.size, h.2.2.2.2.2.2.2.trans (hb.mono h.2.2.2.2.2.2.2.size)⟩)
  refine wp_region_held_drew (S := fun w' => w'.cell? ⟨w.heap.size, 0, none⟩ = some (.int .i64 K) ∧ w'.cell? ⟨w.heap.size, 1, none⟩ = some (.int .i64 B) ∧ w'.cell? ⟨w.heap.size, 2, none⟩ = some (.int .i64 F) ∧ w'.cell? ⟨w.heap.size, 3, none⟩ = some (.int .i64 R) ∧ w'.cell? ⟨w.heap.size, 4, none⟩ = some (.int .i64 O) ∧ Rg.RC (w.heap.size + 1 + 1 + 1) w' ∧ w1.heap.size ≤ w'.heap.size ∧ Below w.heap.size w w') (by kernel_rfl) (HS.out _ _ hz (Below.drew (Below.refl _ _))) (fun hHeld => ?_)
  refine Rg.take (i := 0) (v := ?_) rfl (by kernel_rfl) (by kernel_rfl) (by kernel_rfl) (fun _ _ _ h => h) (Or.inl ⟨by kernel_rfl, ?_⟩) (by assumption) ?_
  rotate_left
  · ((intro w hSw; (try dsimp only at hSw); go_simp) <;> with_reducible rfl)
  try simp only [Act.put, List.setIfInBounds_toArray, List.set_cons_zero, List.set_cons_succ]
  refine Rg.take (i := 1) (v := ?_) rfl (by kernel_rfl) (by kernel_rfl) (by kernel_rfl) (fun _ _ _ h => h) (Or.inl ⟨by kernel_rfl, ?_⟩) (by assumption) ?_
  rotate_left
  · ((intro w hSw; (try dsimp only at hSw); go_simp) <;> with_reducible rfl)
  try simp only [Act.put, List.setIfInBounds_toArray, List.set_cons_zero, List.set_cons_succ]
  refine Rg.take (i := 2) (v := ?_) rfl (by kernel_rfl) (by kernel_rfl) (by kernel_rfl) (fun _ _ _ h => h) (Or.inl ⟨by kernel_rfl, ?_⟩) (by assumption) ?_
  rotate_left
  · ((intro w hSw; (try dsimp only at hSw); go_simp) <;> with_reducible rfl)
  try simp only [Act.put, List.setIfInBounds_toArray, List.set_cons_zero, List.set_cons_succ]
  refine Rg.take (i := 3) (v := ?_) rfl (by kernel_rfl) (by kernel_rfl) (by kernel_rfl) (fun _ _ _ h => h) (Or.inl ⟨by kernel_rfl, ?_⟩) (by assumption) ?_
  rotate_left
  · ((intro w hSw; (try dsimp only at hSw); go_simp) <;> with_reducible rfl)
  try simp only [Act.put, List.setIfInBounds_toArray, List.set_cons_zero, List.set_cons_succ]
  refine Rg.take (i := 4) (v := ?_) rfl (by kernel_rfl) (by kernel_rfl) (by kernel_rfl) (fun _ _ _ h => h) (Or.inl ⟨by kernel_rfl, ?_⟩) (by assumption) ?_
  rotate_left
  · ((intro w hSw; (try dsimp only at hSw); go_simp) <;> with_reducible rfl)
  try simp only [Act.put, List.setIfInBounds_toArray, List.set_cons_zero, List.set_cons_succ]
  refine Rg.one (i := 5) (by kernel_rfl) rfl (fun KK hK => ?_)
  rw [if_pos (by kernel_rfl)]
  go_simp
  ((with_reducible refine (RD.out _).mono ?_); rintro e u ⟨rfl, rfl⟩)
  first | (refine hK.out _ _ hHeld (fun _ => ?_)) | (go_wp2_with fail; refine hK.out _ _ hHeld (fun _ => ?_))
  clear hK KK
  refine Rg.one (i := 6) (by kernel_rfl) rfl (fun KK hK => ?_)
  rw [if_pos (by kernel_rfl)]
  go_simp
  ((with_reducible refine (FT.out _).mono ?_); rintro e u ⟨rfl, hb⟩)
  have hNew := HS.out _ _ hHeld hb
  first | (refine hK.out _ _ hNew (fun _ => ?_)) | (go_wp2_with fail; refine hK.out _ _ hNew (fun _ => ?_))
  clear hK KK hHeld hb
  have hHeld := hNew
  clear hNew
  refine Rg.one (i := 7) (by kernel_rfl) rfl (fun KK hK => ?_)
  rw [if_pos (by kernel_rfl)]
  obtain ⟨⟨ra, rca⟩, ⟨rb, rcb⟩, rcf, rcg⟩ := hHeld.2.2.2.2.2.1
  go_simp
  have hRC : Rg.RC (w.heap.size + 1 + 1 + 1) _ := hHeld.2.2.2.2.2.1
  refine hK.out _ _ ⟨Rg.far ne0 hHeld.1, Rg.far ne0 hHeld.2.1, Rg.far ne0 hHeld.2.2.1, Rg.far ne0 hHeld.2.2.2.1, Rg.far ne0 hHeld.2.2.2.2.1, Rg.RC.store hHeld.2.2.2.2.2.1, by rw [Rg.size2]; exact hHeld.2.2.2.2.2.2.1, Below.setCell (Below.setCell hHeld.2.2.2.2.2.2.2 z0 _) z0 _⟩ (fun hNew => ?_)
  clear hK KK hHeld rca rcb rcf rcg
  have hHeld := hNew
  clear hNew
  refine Rg.take (i := 8) (v := ?_) rfl (by kernel_rfl) (by kernel_rfl) (by kernel_rfl) (fun _ _ _ h => h) (Or.inl ⟨by kernel_rfl, ?_⟩) (by assumption) ?_
  rotate_left
  · ((intro w hSw; (try dsimp only at hSw); go_simp) <;> with_reducible rfl)
  try simp only [Act.put, List.setIfInBounds_toArray, List.set_cons_zero, List.set_cons_succ]
  refine wpAnyH_done (by kernel_rfl) ?_ _
  have f0 := Rg.RC.read00 (x := v) hRC
  have f1 := Rg.RC.read1 (x := v) (y := 1) hRC
  go_wp2
  refine bodyPost_ret (v := Frac3 (v) (1) (0)) (by simp [results, Try.results33, go_sem, f0, f1]) rfl ⟨rfl, hHeld.2.2.2.2.2.2.2⟩
set_option maxHeartbeats 8000000 in
theorem rff_tv (K B F R O n0 d0 : Int) (w : World) (VT : Hid (∀ w, Calls Try.prog 18 #[.agg #[.int .i64 K, .int .i64 B, .int .i64 F, .int .i64 R, .int .i64 O]] w (Ret (.int .i64 10) w))) :
    Calls Try.prog 23 #[.agg #[.int .i64 K, .int .i64 B, .int .i64 F, .int .i64 R, .int .i64 O], .agg #[.int .i64 n0, .int .i64 d0]] w (Ret (Frac3 0 0 10) w) := by
  go_enter Try.func23, Try.ntmps23
  go_wp2_with fail
  refine (VT.out _).mono ?_
  rintro e w1 ⟨rfl, hb⟩
  have L : Below w.heap.size w w1 := ((((Below.refl _ _).alloc (by simp <;> omega) _).alloc (by simp <;> omega) _).alloc (by simp <;> omega) _).trans (hb.mono (by simp <;> omega))
  have K1 : Below w.heap.size w w1 := L
  have RF0 : w1.frozen? ⟨w.heap.size + 1 + 1, 0, none⟩ = false := Rg.keepF hb (by simp <;> omega) (by simp only [frozen?_alloc_cells]; exact Rg.notFrozen (by omega))
  have RF1 : w1.frozen? ⟨w.heap.size + 1 + 1, 1, none⟩ = false := Rg.keepF hb (by simp <;> omega) (by simp only [frozen?_alloc_cells]; exact Rg.notFrozen (by omega))
  have lt : w.heap.size < w1.heap.size := Nat.lt_of_lt_of_le (by simp <;> omega) hb.size
  have t0 : w1.cell? ⟨w.heap.size, 0, none⟩ = some (.int .i64 K) := Rg.keep hb (by simp <;> omega) (by go_cell)
  have t1 : w1.cell? ⟨w.heap.size, 1, none⟩ = some (.int .i64 B) := Rg.keep hb (by simp <;> omega) (by go_cell)
  have t2 : w1.cell? ⟨w.heap.size, 2, none⟩ = some (.int .i64 F) := Rg.keep hb (by simp <;> omega) (by go_cell)
  have t3 : w1.cell? ⟨w.heap.size, 3, none⟩ = some (.int .i64 R) := Rg.keep hb (by simp <;> omega) (by go_cell)
  have t4 : w1.cell? ⟨w.heap.size, 4, none⟩ = some (.int .i64 O) := Rg.keep hb (by simp <;> omega) (by go_cell)
  have la : w.heap.size + 1 < w1.heap.size := Nat.lt_of_lt_of_le (by simp <;> omega) hb.size
  have a0 : w1.cell? ⟨w.heap.size + 1, 0, none⟩ = some (.int .i64 n0) := Rg.keep hb (by simp <;> omega) (by go_cell)
  have a1 : w1.cell? ⟨w.heap.size + 1, 1, none⟩ = some (.int .i64 d0) := Rg.keep hb (by simp <;> omega) (by go_cell)
  have lr : w.heap.size + 1 + 1 < w1.heap.size := Nat.lt_of_lt_of_le (by simp <;> omega) hb.size
  have r0 : w1.cell? ⟨w.heap.size + 1 + 1, 0, none⟩ = some (.int .i64 0) := Rg.keep hb (by simp <;> omega) (by go_cell)
  have r1 : w1.cell? ⟨w.heap.size + 1 + 1, 1, none⟩ = some (.int .i64 0) := Rg.keep hb (by simp <;> omega) (by go_cell)
  clear hb L
  have hRC := (⟨⟨_, r0⟩, ⟨_, r1⟩, RF0, RF1⟩ : Rg.RC (w.heap.size + 1 + 1) w1)
  have z0 : w.heap.size ≤ w.heap.size + 1 + 1 := by omega
  go_wp2
  have f0 := Rg.RC.read00 (x := 0) hRC
  have f1 := Rg.RC.read1 (x := 0) (y := 0) hRC
  refine bodyPost_ret (v := Frac3 (0) (0) (10)) (by simp [results, Try.results23, go_sem, f0, f1]) rfl ⟨rfl, ?_⟩
  exact Below.setCell (Below.setCell K1 z0 _) z0 _
set_option maxHeartbeats 8000000 in
theorem rff_arg (K B F R O n0 d0 : Int) (w : World) (VT : Hid (∀ w, Calls Try.prog 18 #[.agg #[.int .i64 K, .int .i64 B, .int .i64 F, .int .i64 R, .int .i64 O]] w (Ret (.int .i64 0) w))) (VV : Hid (∀ w, Calls Try.prog 50 #[.agg #[.int .i64 1, .int .i64 0, .int .i64 0, .int .i64 0, .int .i64 0], .agg #[.int .i64 n0, .int .i64 d0]] w (Ret (.bool false) w))) :
    Calls Try.prog 23 #[.agg #[.int .i64 K, .int .i64 B, .int .i64 F, .int .i64 R, .int .i64 O], .agg #[.int .i64 n0, .int .i64 d0]] w (Ret (Frac3 0 0 1) w) := by
  go_enter Try.func23, Try.ntmps23
  go_wp2_with fail
  refine (VT.out _).mono ?_
  rintro e w1 ⟨rfl, hb⟩
  have L : Below w.heap.size w w1 := ((((Below.refl _ _).alloc (by simp <;> omega) _).alloc (by simp <;> omega) _).alloc (by simp <;> omega) _).trans (hb.mono (by simp <;> omega))
  have K1 : Below w.heap.size w w1 := L
  have RF0 : w1.frozen? ⟨w.heap.size + 1 + 1, 0, none⟩ = false := Rg.keepF hb (by simp <;> omega) (by simp only [frozen?_alloc_cells]; exact Rg.notFrozen (by omega))
  have RF1 : w1.frozen? ⟨w.heap.size + 1 + 1, 1, none⟩ = false := Rg.keepF hb (by simp <;> omega) (by simp only [frozen?_alloc_cells]; exact Rg.notFrozen (by omega))
  have lt : w.heap.size < w1.heap.size := Nat.lt_of_lt_of_le (by simp <;> omega) hb.size
  have t0 : w1.cell? ⟨w.heap.size, 0, none⟩ = some (.int .i64 K) := Rg.keep hb (by simp <;> omega) (by go_cell)
  have t1 : w1.cell? ⟨w.heap.size, 1, none⟩ = some (.int .i64 B) := Rg.keep hb (by simp <;> omega) (by go_cell)
  have t2 : w1.cell? ⟨w.heap.size, 2, none⟩ = some (.int .i64 F) := Rg.keep hb (by simp <;> omega) (by go_cell)
  have t3 : w1.cell? ⟨w.heap.size, 3, none⟩ = some (.int .i64 R) := Rg.keep hb (by simp <;> omega) (by go_cell)
  have t4 : w1.cell? ⟨w.heap.size, 4, none⟩ = some (.int .i64 O) := Rg.keep hb (by simp <;> omega) (by go_cell)
  have la : w.heap.size + 1 < w1.heap.size := Nat.lt_of_lt_of_le (by simp <;> omega) hb.size
  have a0 : w1.cell? ⟨w.heap.size + 1, 0, none⟩ = some (.int .i64 n0) := Rg.keep hb (by simp <;> omega) (by go_cell)
  have a1 : w1.cell? ⟨w.heap.size + 1, 1, none⟩ = some (.int .i64 d0) := Rg.keep hb (by simp <;> omega) (by go_cell)
  have lr : w.heap.size + 1 + 1 < w1.heap.size := Nat.lt_of_lt_of_le (by simp <;> omega) hb.size
  have r0 : w1.cell? ⟨w.heap.size + 1 + 1, 0, none⟩ = some (.int .i64 0) := Rg.keep hb (by simp <;> omega) (by go_cell)
  have r1 : w1.cell? ⟨w.heap.size + 1 + 1, 1, none⟩ = some (.int .i64 0) := Rg.keep hb (by simp <;> omega) (by go_cell)
  clear hb L
  go_wp2_with fail
  refine (VV.out _).mono ?_
  rintro e w2 ⟨rfl, hb⟩
  have L : Below w1.heap.size w1 w2 := (Below.refl _ _).trans (hb.mono (by simp <;> omega))
  have K2 : Below w.heap.size w w2 := K1.trans (L.mono K1.size)
  have RF0 := Rg.keepF L lr RF0
  have RF1 := Rg.keepF L lr RF1
  have t0 := Rg.keep L lt t0
  have t1 := Rg.keep L lt t1
  have t2 := Rg.keep L lt t2
  have t3 := Rg.keep L lt t3
  have t4 := Rg.keep L lt t4
  have a0 := Rg.keep L la a0
  have a1 := Rg.keep L la a1
  have r0 := Rg.keep L lr r0
  have r1 := Rg.keep L lr r1
  have lt := Nat.lt_of_lt_of_le lt L.size
  have la := Nat.lt_of_lt_of_le la L.size
  have lr := Nat.lt_of_lt_of_le lr L.size
  clear hb L
  have hRC := (⟨⟨_, r0⟩, ⟨_, r1⟩, RF0, RF1⟩ : Rg.RC (w.heap.size + 1 + 1) w2)
  have z0 : w.heap.size ≤ w.heap.size + 1 + 1 := by omega
  go_wp2
  have f0 := Rg.RC.read00 (x := 0) hRC
  have f1 := Rg.RC.read1 (x := 0) (y := 0) hRC
  refine bodyPost_ret (v := Frac3 (0) (0) (1)) (by simp [results, Try.results23, go_sem, f0, f1]) rfl ⟨rfl, ?_⟩
  exact Below.setCell (Below.setCell K2 z0 _) z0 _
set_option maxHeartbeats 8000000 in
theorem rff_ok (K B F R O n0 d0 v q t p : Int) (w : World) (hp : (2 : Int) ^ F.toNat = p) (p0 : 1 ≤ p) (p1 : p ≤ 1073741824) (f0 : 0 ≤ F) (f1 : F ≤ 30) (ht : n0 * p = t) (t0' : -4611686018427387904 ≤ t) (t1' : t ≤ 4611686018427387904) (VT : Hid (∀ w, Calls Try.prog 18 #[.agg #[.int .i64 K, .int .i64 B, .int .i64 F, .int .i64 R, .int .i64 O]] w (Ret (.int .i64 0) w))) (VV : Hid (∀ w, Calls Try.prog 50 #[.agg #[.int .i64 1, .int .i64 0, .int .i64 0, .int .i64 0, .int .i64 0], .agg #[.int .i64 n0, .int .i64 d0]] w (Ret (.bool true) w))) (RD : Hid (∀ w, Calls Try.prog 37 #[.int .i64 t, .int .i64 d0, .int .i64 R] w fun e w' => e = .returned (.int .i64 q) ∧ w = w')) (FT : Hid (∀ w, Calls Try.prog 53 #[.agg #[.int .i64 K, .int .i64 B, .int .i64 F, .int .i64 R, .int .i64 O], .int .i64 (q)] w (Ret (.agg #[.int .i64 v, .int .i64 1]) w))) :
    Calls Try.prog 23 #[.agg #[.int .i64 K, .int .i64 B, .int .i64 F, .int .i64 R, .int .i64 O], .agg #[.int .i64 n0, .int .i64 d0]] w (Ret (Frac3 v 1 0) w) := by
  go_enter Try.func23, Try.ntmps23
  go_wp2_with fail
  refine (VT.out _).mono ?_
  rintro e w1 ⟨rfl, hb⟩
  have L : Below w.heap.size w w1 := ((((Below.refl _ _).alloc (by simp <;> omega) _).alloc (by simp <;> omega) _).alloc (by simp <;> omega) _).trans (hb.mono (by simp <;> omega))
  have K1 : Below w.heap.size w w1 := L
  have RF0 : w1.frozen? ⟨w.heap.size + 1 + 1, 0, none⟩ = false := Rg.keepF hb (by simp <;> omega) (by simp only [frozen?_alloc_cells]; exact Rg.notFrozen (by omega))
  have RF1 : w1.frozen? ⟨w.heap.size + 1 + 1, 1, none⟩ = false := Rg.keepF hb (by simp <;> omega) (by simp only [frozen?_alloc_cells]; exact Rg.notFrozen (by omega))
  have lt : w.heap.size < w1.heap.size := Nat.lt_of_lt_of_le (by simp <;> omega) hb.size
  have t0 : w1.cell? ⟨w.heap.size, 0, none⟩ = some (.int .i64 K) := Rg.keep hb (by simp <;> omega) (by go_cell)
  have t1 : w1.cell? ⟨w.heap.size, 1, none⟩ = some (.int .i64 B) := Rg.keep hb (by simp <;> omega) (by go_cell)
  have t2 : w1.cell? ⟨w.heap.size, 2, none⟩ = some (.int .i64 F) := Rg.keep hb (by simp <;> omega) (by go_cell)
  have t3 : w1.cell? ⟨w.heap.size, 3, none⟩ = some (.int .i64 R) := Rg.keep hb (by simp <;> omega) (by go_cell)
  have t4 : w1.cell? ⟨w.heap.size, 4, none⟩ = some (.int .i64 O) := Rg.keep hb (by simp <;> omega) (by go_cell)
  have la : w.heap.size + 1 < w1.heap.size := Nat.lt_of_lt_of_le (by simp <;> omega) hb.size
  have a0 : w1.cell? ⟨w.heap.size + 1, 0, none⟩ = some (.int .i64 n0) := Rg.keep hb (by simp <;> omega) (by go_cell)
  have a1 : w1.cell? ⟨w.heap.size + 1, 1, none⟩ = some (.int .i64 d0) := Rg.keep hb (by simp <;> omega) (by go_cell)
  have lr : w.heap.size + 1 + 1 < w1.heap.size := Nat.lt_of_lt_of_le (by simp <;> omega) hb.size
  have r0 : w1.cell? ⟨w.heap.size + 1 + 1, 0, none⟩ = some (.int .i64 0) := Rg.keep hb (by simp <;> omega) (by go_cell)
  have r1 : w1.cell? ⟨w.heap.size + 1 + 1, 1, none⟩ = some (.int .i64 0) := Rg.keep hb (by simp <;> omega) (by go_cell)
  clear hb L
  go_wp2_with fail
  refine (VV.out _).mono ?_
  rintro e w2 ⟨rfl, hb⟩
  have L : Below w1.heap.size w1 w2 := (Below.refl _ _).trans (hb.mono (by simp <;> omega))
  have K2 : Below w.heap.size w w2 := K1.trans (L.mono K1.size)
  have RF0 := Rg.keepF L lr RF0
  have RF1 := Rg.keepF L lr RF1
  have t0 := Rg.keep L lt t0
  have t1 := Rg.keep L lt t1
  have t2 := Rg.keep L lt t2
  have t3 := Rg.keep L lt t3
  have t4 := Rg.keep L lt t4
  have a0 := Rg.keep L la a0
  have a1 := Rg.keep L la a1
  have r0 := Rg.keep L lr r0
  have r1 := Rg.keep L lr r1
  have lt := Nat.lt_of_lt_of_le lt L.size
  have la := Nat.lt_of_lt_of_le la L.size
  have lr := Nat.lt_of_lt_of_le lr L.size
  clear hb L
  go_wp2_with fail
  have hz : w2.cell? ⟨w.heap.size, 0, none⟩ = some (.int .i64 K) ∧ w2.cell? ⟨w.heap.size, 1, none⟩ = some (.int .i64 B) ∧ w2.cell? ⟨w.heap.size, 2, none⟩ = some (.int .i64 F) ∧ w2.cell? ⟨w.heap.size, 3, none⟩ = some (.int .i64 R) ∧ w2.cell? ⟨w.heap.size, 4, none⟩ = some (.int .i64 O) ∧ w2.cell? ⟨w.heap.size + 1, 0, none⟩ = some (.int .i64 n0) ∧ w2.cell? ⟨w.heap.size + 1, 1, none⟩ = some (.int .i64 d0) ∧ Rg.RC (w.heap.size + 1 + 1) w2 ∧ w2.heap.size ≤ w2.heap.size ∧ Below w.heap.size w w2 := ⟨t0, t1, t2, t3, t4, a0, a1, (⟨⟨_, r0⟩, ⟨_, r1⟩, RF0, RF1⟩ : Rg.RC (w.heap.size + 1 + 1) w2), Nat.le_refl _, K2⟩
  have z0 : w.heap.size ≤ w.heap.size + 1 + 1 := by omega
  have ne0 : w.heap.size + 1 + 1 ≠ w.heap.size := by omega
  have ne1 : w.heap.size + 1 + 1 ≠ w.heap.size + 1 := by omega
  clear t0 t1 t2 t3 t4 a0 a1 r0 r1 RF0 RF1 K2
  have m1 : IntKind.i64.wrap t = t := IntWalk.i64_in _ ⟨by omega, by omega⟩
  have HS : Hid (∀ u u' : World, (u.cell? ⟨w.heap.size, 0, none⟩ = some (.int .i64 K) ∧ u.cell? ⟨w.heap.size, 1, none⟩ = some (.int .i64 B) ∧ u.cell? ⟨w.heap.size, 2, none⟩ = some (.int .i64 F) ∧ u.cell? ⟨w.heap.size, 3, none⟩ = some (.int .i64 R) ∧ u.cell? ⟨w.heap.size, 4, none⟩ = some (.int .i64 O) ∧ u.cell? ⟨w.heap.size + 1, 0, none⟩ = some (.int .i64 n0) ∧ u.cell? ⟨w.heap.size + 1, 1, none⟩ = some (.int .i64 d0) ∧ Rg.RC (w.heap.size + 1 + 1) u ∧ w2.heap.size ≤ u.heap.size ∧ Below w.heap.size w u) → Below u.heap.size u u' → (u'.cell? ⟨w.heap.size, 0, none⟩ = some (.int .i64 K) ∧ u'.cell? ⟨w.heap.size, 1, none⟩ = some (.int .i64 B) ∧ u'.cell? ⟨w.heap.size, 2, none⟩ = some (.int .i64 F) ∧ u'.cell? ⟨w.heap.size, 3, none⟩ = some (.int .i64 R) ∧ u'.cell? ⟨w.heap.size, 4, none⟩ = some (.int .i64 O) ∧ u'.cell? ⟨w.heap.size + 1, 0, none⟩ = some (.int .i64 n0) ∧ u'.cell? ⟨w.heap.size + 1, 1, none⟩ = some (.int .i64 d0) ∧ Rg.RC (w.heap.size + 1 + 1) u' ∧ w2.heap.size ≤ u'.heap.size ∧ Below w.heap.size w u')) := Lib.hid (fun u u' h hb => ⟨Rg.keep hb (Nat.lt_of_lt_of_le lt h.2.2.2.2.2.2.2.2.1) h.1, Rg.keep hb (Nat.lt_of_lt_of_le lt h.2.2.2.2.2.2.2.2.1) h.2.1, Rg.keep hb (Nat.lt_of_lt_of_le lt h.2.2.2.2.2.2.2.2.1) h.2.2.1, Rg.keep hb (Nat.lt_of_lt_of_le lt h.2.2.2.2.2.2.2.2.1) h.2.2.2.1, Rg.keep hb (Nat.lt_of_lt_of_le lt h.2.2.2.2.2.2.2.2.1) h.2.2.2.2.1, Rg.keep hb (Nat.lt_of_lt_of_le la h.2.2.2.2.2.2.2.2.1) h.2.2.2.2.2.1, Rg.keep hb (Nat.lt_of_lt_of_le la h.2.2.2.2.2.2.2.2.1) h.2.2.2.2.2.2.1, Rg.RC.keep hb (Nat.lt_of_lt_of_le lr h.2.2.2.2.2.2.2.2.1) h.2.2.2.2.2.2.2.1, Nat.le_trans h.2.2.2.2.2.2.2.2.1 hb.size, h.2.2.2.2.2.2.2.2.2.trans (hb.mono h.2.2.2.2.2.2.2.2.2.size)⟩)
  refine wp_region_held_drew (S := fun w' => w'.cell? ⟨w.heap.size, 0, none⟩ = some (.int .i64 K) ∧ w'.cell? ⟨w.heap.size, 1, none⟩ = some (.int .i64 B) ∧ w'.cell? ⟨w.heap.size, 2, none⟩ = some (.int .i64 F) ∧ w'.cell? ⟨w.heap.size, 3, none⟩ = some (.int .i64 R) ∧ w'.cell? ⟨w.heap.size, 4, none⟩ = some (.int .i64 O) ∧ w'.cell? ⟨w.heap.size + 1, 0, none⟩ = some (.int .i64 n0) ∧ w'.cell? ⟨w.heap.size + 1, 1, none⟩ = some (.int .i64 d0) ∧ Rg.RC (w.heap.size + 1 + 1) w' ∧ w2.heap.size ≤ w'.heap.size ∧ Below w.heap.size w w') (by kernel_rfl) (HS.out _ _ hz (Below.drew (Below.refl _ _))) (fun hHeld => ?_)
  refine Rg.take (i := 0) (v := ?_) rfl (by kernel_rfl) (by kernel_rfl) (by kernel_rfl) (fun _ _ _ h => h) (Or.inl ⟨by kernel_rfl, ?_⟩) (by assumption) ?_
  rotate_left
  · ((intro w hSw; (try dsimp only at hSw); go_simp) <;> with_reducible rfl)
  try simp only [Act.put, List.setIfInBounds_toArray, List.set_cons_zero, List.set_cons_succ]
  refine Rg.take (i := 1) (v := ?_) rfl (by kernel_rfl) (by kernel_rfl) (by kernel_rfl) (fun _ _ _ h => h) (Or.inl ⟨by kernel_rfl, ?_⟩) (by assumption) ?_
  rotate_left
  · ((intro w hSw; (try dsimp only at hSw); go_simp) <;> with_reducible rfl)
  try simp only [Act.put, List.setIfInBounds_toArray, List.set_cons_zero, List.set_cons_succ]
  refine Rg.take (i := 2) (v := ?_) rfl (by kernel_rfl) (by kernel_rfl) (by kernel_rfl) (fun _ _ _ h => h) (Or.inl ⟨by kernel_rfl, ?_⟩) (by assumption) ?_
  rotate_left
  · ((intro w hSw; (try dsimp only at hSw); go_simp) <;> with_reducible rfl)
  try simp only [Act.put, List.setIfInBounds_toArray, List.set_cons_zero, List.set_cons_succ]
  refine Rg.take (i := 3) (v := ?_) rfl (by kernel_rfl) (by kernel_rfl) (by kernel_rfl) (fun _ _ _ h => h) (Or.inl ⟨by kernel_rfl, ?_⟩) (by assumption) ?_
  rotate_left
  · ((intro w hSw; (try dsimp only at hSw); go_simp) <;> with_reducible rfl)
  try simp only [Act.put, List.setIfInBounds_toArray, List.set_cons_zero, List.set_cons_succ]
  refine Rg.take (i := 4) (v := ?_) rfl (by kernel_rfl) (by kernel_rfl) (by kernel_rfl) (fun _ _ _ h => h) (Or.inl ⟨by kernel_rfl, ?_⟩) (by assumption) ?_
  rotate_left
  · ((intro w hSw; (try dsimp only at hSw); go_simp) <;> with_reducible rfl)
  try simp only [Act.put, List.setIfInBounds_toArray, List.set_cons_zero, List.set_cons_succ]
  refine Rg.take (i := 5) (v := ?_) rfl (by kernel_rfl) (by kernel_rfl) (by kernel_rfl) (fun _ _ _ h => h) (Or.inl ⟨by kernel_rfl, ?_⟩) (by assumption) ?_
  rotate_left
  · ((intro w hSw; (try dsimp only at hSw); go_simp) <;> with_reducible rfl)
  try simp only [Act.put, List.setIfInBounds_toArray, List.set_cons_zero, List.set_cons_succ]
  refine Rg.take (i := 6) (v := ?_) rfl (by kernel_rfl) (by kernel_rfl) (by kernel_rfl) (fun _ _ _ h => h) (Or.inl ⟨by kernel_rfl, ?_⟩) (by assumption) ?_
  rotate_left
  · ((intro w hSw; (try dsimp only at hSw); go_simp) <;> with_reducible rfl)
  try simp only [Act.put, List.setIfInBounds_toArray, List.set_cons_zero, List.set_cons_succ]
  refine Rg.take (i := 7) (v := ?_) rfl (by kernel_rfl) (by kernel_rfl) (by kernel_rfl) (fun _ _ _ h => h) (Or.inl ⟨by kernel_rfl, ?_⟩) (by assumption) ?_
  rotate_left
  · ((intro w hSw; (try dsimp only at hSw); go_simp) <;> with_reducible rfl)
  try simp only [Act.put, List.setIfInBounds_toArray, List.set_cons_zero, List.set_cons_succ]
  refine Rg.take (i := 8) (v := ?_) rfl (by kernel_rfl) (by kernel_rfl) (by kernel_rfl) (fun _ _ _ h => h) (Or.inl ⟨by kernel_rfl, ?_⟩) (by assumption) ?_
  rotate_left
  · ((intro w hSw; (try dsimp only at hSw); go_simp) <;> with_reducible rfl)
  try simp only [Act.put, List.setIfInBounds_toArray, List.set_cons_zero, List.set_cons_succ]
  refine Rg.take (i := 9) (v := ?_) rfl (by kernel_rfl) (by kernel_rfl) (by kernel_rfl) (fun _ _ _ h => h) (Or.inl ⟨by kernel_rfl, ?_⟩) (by assumption) ?_
  rotate_left
  · ((intro w hSw; (try dsimp only at hSw); go_simp) <;> with_reducible rfl)
  try simp only [Act.put, List.setIfInBounds_toArray, List.set_cons_zero, List.set_cons_succ]
  refine Rg.one (i := 10) (by kernel_rfl) rfl (fun KK hK => ?_)
  rw [if_pos (by kernel_rfl)]
  go_simp
  ((with_reducible refine (RD.out _).mono ?_); rintro e u ⟨rfl, rfl⟩)
  first | (refine hK.out _ _ hHeld (fun _ => ?_)) | (go_wp2_with fail; refine hK.out _ _ hHeld (fun _ => ?_))
  clear hK KK
  refine Rg.one (i := 11) (by kernel_rfl) rfl (fun KK hK => ?_)
  rw [if_pos (by kernel_rfl)]
  go_simp
  ((with_reducible refine (FT.out _).mono ?_); rintro e u ⟨rfl, hb⟩)
  have hNew := HS.out _ _ hHeld hb
  first | (refine hK.out _ _ hNew (fun _ => ?_)) | (go_wp2_with fail; refine hK.out _ _ hNew (fun _ => ?_))
  clear hK KK hHeld hb
  have hHeld := hNew
  clear hNew
  refine Rg.one (i := 12) (by kernel_rfl) rfl (fun KK hK => ?_)
  rw [if_pos (by kernel_rfl)]
  obtain ⟨⟨ra, rca⟩, ⟨rb, rcb⟩, rcf, rcg⟩ := hHeld.2.2.2.2.2.2.2.1
  go_simp
  have hRC : Rg.RC (w.heap.size + 1 + 1) _ := hHeld.2.2.2.2.2.2.2.1
  refine hK.out _ _ ⟨Rg.far ne0 hHeld.1, Rg.far ne0 hHeld.2.1, Rg.far ne0 hHeld.2.2.1, Rg.far ne0 hHeld.2.2.2.1, Rg.far ne0 hHeld.2.2.2.2.1, Rg.far ne1 hHeld.2.2.2.2.2.1, Rg.far ne1 hHeld.2.2.2.2.2.2.1, Rg.RC.store hHeld.2.2.2.2.2.2.2.1, by rw [Rg.size2]; exact hHeld.2.2.2.2.2.2.2.2.1, Below.setCell (Below.setCell hHeld.2.2.2.2.2.2.2.2.2 z0 _) z0 _⟩ (fun hNew => ?_)
  clear hK KK hHeld rca rcb rcf rcg
  have hHeld := hNew
  clear hNew
  refine Rg.take (i := 13) (v := ?_) rfl (by kernel_rfl) (by kernel_rfl) (by kernel_rfl) (fun _ _ _ h => h) (Or.inl ⟨by kernel_rfl, ?_⟩) (by assumption) ?_
  rotate_left
  · ((intro w hSw; (try dsimp only at hSw); go_simp) <;> with_reducible rfl)
  try simp only [Act.put, List.setIfInBounds_toArray, List.set_cons_zero, List.set_cons_succ]
  refine wpAnyH_done (by kernel_rfl) ?_ _
  clear m1
  have f0 := Rg.RC.read00 (x := v) hRC
  have f1 := Rg.RC.read1 (x := v) (y := 1) hRC
  go_wp2
  refine bodyPost_ret (v := Frac3 (v) (1) (0)) (by simp [results, Try.results23, go_sem, f0, f1]) rfl ⟨rfl, hHeld.2.2.2.2.2.2.2.2.2⟩
set_option maxHeartbeats 8000000 in
theorem rres_tv (K B F R O : Int) (w : World) (VT : Hid (∀ w, Calls Try.prog 18 #[.agg #[.int .i64 K, .int .i64 B, .int .i64 F, .int .i64 R, .int .i64 O]] w (Ret (.int .i64 10) w))) :
    Calls Try.prog 16 #[.agg #[.int .i64 K, .int .i64 B, .int .i64 F, .int .i64 R, .int .i64 O]] w (Ret (Frac3 0 0 10) w) := by
  go_enter Try.func16, Try.ntmps16
  go_wp2_with fail
  refine (VT.out _).mono ?_
  rintro e w1 ⟨rfl, hb⟩
  have L : Below w.heap.size w w1 := (((Below.refl _ _).alloc (by simp <;> omega) _).alloc (by simp <;> omega) _).trans (hb.mono (by simp <;> omega))
  have K1 : Below w.heap.size w w1 := L
  have RF0 : w1.frozen? ⟨w.heap.size + 1, 0, none⟩ = false := Rg.keepF hb (by simp <;> omega) (by simp only [frozen?_alloc_cells]; exact Rg.notFrozen (by omega))
  have RF1 : w1.frozen? ⟨w.heap.size + 1, 1, none⟩ = false := Rg.keepF hb (by simp <;> omega) (by simp only [frozen?_alloc_cells]; exact Rg.notFrozen (by omega))
  have lt : w.heap.size < w1.heap.size := Nat.lt_of_lt_of_le (by simp <;> omega) hb.size
  have t0 : w1.cell? ⟨w.heap.size, 0, none⟩ = some (.int .i64 K) := Rg.keep hb (by simp <;> omega) (by go_cell)
  have t1 : w1.cell? ⟨w.heap.size, 1, none⟩ = some (.int .i64 B) := Rg.keep hb (by simp <;> omega) (by go_cell)
  have t2 : w1.cell? ⟨w.heap.size, 2, none⟩ = some (.int .i64 F) := Rg.keep hb (by simp <;> omega) (by go_cell)
  have t3 : w1.cell? ⟨w.heap.size, 3, none⟩ = some (.int .i64 R) := Rg.keep hb (by simp <;> omega) (by go_cell)
  have t4 : w1.cell? ⟨w.heap.size, 4, none⟩ = some (.int .i64 O) := Rg.keep hb (by simp <;> omega) (by go_cell)
  have lr : w.heap.size + 1 < w1.heap.size := Nat.lt_of_lt_of_le (by simp <;> omega) hb.size
  have r0 : w1.cell? ⟨w.heap.size + 1, 0, none⟩ = some (.int .i64 0) := Rg.keep hb (by simp <;> omega) (by go_cell)
  have r1 : w1.cell? ⟨w.heap.size + 1, 1, none⟩ = some (.int .i64 0) := Rg.keep hb (by simp <;> omega) (by go_cell)
  clear hb L
  have hRC := (⟨⟨_, r0⟩, ⟨_, r1⟩, RF0, RF1⟩ : Rg.RC (w.heap.size + 1) w1)
  have z0 : w.heap.size ≤ w.heap.size + 1 := by omega
  go_wp2
  have f0 := Rg.RC.read00 (x := 0) hRC
  have f1 := Rg.RC.read1 (x := 0) (y := 0) hRC
  refine bodyPost_ret (v := Frac3 (0) (0) (10)) (by simp [results, Try.results16, go_sem, f0, f1]) rfl ⟨rfl, ?_⟩
  exact Below.setCell (Below.setCell K1 z0 _) z0 _
set_option maxHeartbeats 8000000 in
theorem rres_ok (K B F R O p : Int) (w : World) (hp : (2 : Int) ^ F.toNat = p) (p0 : 1 ≤ p) (p1 : p ≤ 1073741824) (f0 : 0 ≤ F) (f1 : F ≤ 30) (VT : Hid (∀ w, Calls Try.prog 18 #[.agg #[.int .i64 K, .int .i64 B, .int .i64 F, .int .i64 R, .int .i64 O]] w (Ret (.int .i64 0) w))) :
    Calls Try.prog 16 #[.agg #[.int .i64 K, .int .i64 B, .int .i64 F, .int .i64 R, .int .i64 O]] w (Ret (Frac3 1 p 0) w) := by
  go_enter Try.func16, Try.ntmps16
  go_wp2_with fail
  refine (VT.out _).mono ?_
  rintro e w1 ⟨rfl, hb⟩
  have L : Below w.heap.size w w1 := (((Below.refl _ _).alloc (by simp <;> omega) _).alloc (by simp <;> omega) _).trans (hb.mono (by simp <;> omega))
  have K1 : Below w.heap.size w w1 := L
  have RF0 : w1.frozen? ⟨w.heap.size + 1, 0, none⟩ = false := Rg.keepF hb (by simp <;> omega) (by simp only [frozen?_alloc_cells]; exact Rg.notFrozen (by omega))
  have RF1 : w1.frozen? ⟨w.heap.size + 1, 1, none⟩ = false := Rg.keepF hb (by simp <;> omega) (by simp only [frozen?_alloc_cells]; exact Rg.notFrozen (by omega))
  have lt : w.heap.size < w1.heap.size := Nat.lt_of_lt_of_le (by simp <;> omega) hb.size
  have t0 : w1.cell? ⟨w.heap.size, 0, none⟩ = some (.int .i64 K) := Rg.keep hb (by simp <;> omega) (by go_cell)
  have t1 : w1.cell? ⟨w.heap.size, 1, none⟩ = some (.int .i64 B) := Rg.keep hb (by simp <;> omega) (by go_cell)
  have t2 : w1.cell? ⟨w.heap.size, 2, none⟩ = some (.int .i64 F) := Rg.keep hb (by simp <;> omega) (by go_cell)
  have t3 : w1.cell? ⟨w.heap.size, 3, none⟩ = some (.int .i64 R) := Rg.keep hb (by simp <;> omega) (by go_cell)
  have t4 : w1.cell? ⟨w.heap.size, 4, none⟩ = some (.int .i64 O) := Rg.keep hb (by simp <;> omega) (by go_cell)
  have lr : w.heap.size + 1 < w1.heap.size := Nat.lt_of_lt_of_le (by simp <;> omega) hb.size
  have r0 : w1.cell? ⟨w.heap.size + 1, 0, none⟩ = some (.int .i64 0) := Rg.keep hb (by simp <;> omega) (by go_cell)
  have r1 : w1.cell? ⟨w.heap.size + 1, 1, none⟩ = some (.int .i64 0) := Rg.keep hb (by simp <;> omega) (by go_cell)
  clear hb L
  have hRC := (⟨⟨_, r0⟩, ⟨_, r1⟩, RF0, RF1⟩ : Rg.RC (w.heap.size + 1) w1)
  have z0 : w.heap.size ≤ w.heap.size + 1 := by omega
  go_wp2
  have f0 := Rg.RC.read00 (x := 1) hRC
  have f1 := Rg.RC.read1 (x := 1) (y := p) hRC
  refine bodyPost_ret (v := Frac3 (1) (p) (0)) (by simp [results, Try.results16, go_sem, f0, f1]) rfl ⟨rfl, ?_⟩
  exact Below.setCell (Below.setCell K1 z0 _) z0 _
end Go.Proofs.Ytaagegiehjpgiaa.Fx
