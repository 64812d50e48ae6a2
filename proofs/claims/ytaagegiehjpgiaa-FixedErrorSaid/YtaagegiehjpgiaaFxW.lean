/- The statements' own walks: FromFrac, ToFrac, the operations, validity. -/
import Derived.Test.YtaagegiehjpgiaaFxE
namespace Go.Proofs.Ytaagegiehjpgiaa.Fx
open Go.ChangeShapes Go.WideShapes Go.ChangeAt Go.RowKit
set_option linter.unusedVariables false

open Fr
set_option maxHeartbeats 16000000 in
theorem law_ff (K B F R O n0 d0 x y e : Int) (w : World) (P1 : Hid (∀ w, Calls Try.prog 22 #[.agg #[.int .i64 K, .int .i64 B, .int .i64 F, .int .i64 R, .int .i64 O], .agg #[.int .i64 n0, .int .i64 d0]] w (Ret (Frac3 x y e) w))) (P2 : Hid (∀ w, Calls Try.prog 23 #[.agg #[.int .i64 K, .int .i64 B, .int .i64 F, .int .i64 R, .int .i64 O], .agg #[.int .i64 n0, .int .i64 d0]] w (Ret (Frac3 x y e) w))) (EX : Hid (∀ w, Calls Try.prog 21 #[] w (Ret (.bool true) w))) : Calls Try.prog 4 #[.agg #[.int .i64 K, .int .i64 B, .int .i64 F, .int .i64 R, .int .i64 O], .agg #[.int .i64 n0, .int .i64 d0]] w (Ret (.bool true) w) := by
  go_enter Try.func4, Try.ntmps4
  go_wp2_with fail
  refine (P1.out _).mono ?_
  rintro e w1 ⟨rfl, hb⟩
  have L : Below w.heap.size w w1 := (((Below.refl _ _).alloc (by simp <;> omega) _).alloc (by simp <;> omega) _).trans (hb.mono (by simp <;> omega))
  have K1 : Below w.heap.size w w1 := L
  have lt : w.heap.size < w1.heap.size := Nat.lt_of_lt_of_le (by simp <;> omega) hb.size
  have t0 : w1.cell? ⟨w.heap.size, 0, none⟩ = some (.int .i64 K) := Rg.keep hb (by simp <;> omega) (by go_cell)
  have t1 : w1.cell? ⟨w.heap.size, 1, none⟩ = some (.int .i64 B) := Rg.keep hb (by simp <;> omega) (by go_cell)
  have t2 : w1.cell? ⟨w.heap.size, 2, none⟩ = some (.int .i64 F) := Rg.keep hb (by simp <;> omega) (by go_cell)
  have t3 : w1.cell? ⟨w.heap.size, 3, none⟩ = some (.int .i64 R) := Rg.keep hb (by simp <;> omega) (by go_cell)
  have t4 : w1.cell? ⟨w.heap.size, 4, none⟩ = some (.int .i64 O) := Rg.keep hb (by simp <;> omega) (by go_cell)
  have la : w.heap.size + 1 < w1.heap.size := Nat.lt_of_lt_of_le (by simp <;> omega) hb.size
  have a0 : w1.cell? ⟨w.heap.size + 1, 0, none⟩ = some (.int .i64 n0) := Rg.keep hb (by simp <;> omega) (by go_cell)
  have a1 : w1.cell? ⟨w.heap.size + 1, 1, none⟩ = some (.int .i64 d0) := Rg.keep hb (by simp <;> omega) (by go_cell)
  clear hb L
  go_wp2_with fail
  refine (P2.out _).mono ?_
  rintro e w2 ⟨rfl, hb⟩
  have L : Below w1.heap.size w1 w2 := ((Below.refl _ _).alloc (by simp <;> omega) _).trans (hb.mono (by simp <;> omega))
  have K2 : Below w.heap.size w w2 := K1.trans (L.mono K1.size)
  have lx : w1.heap.size < w2.heap.size := Nat.lt_of_lt_of_le (by simp <;> omega) hb.size
  have x0 : w2.cell? ⟨w1.heap.size, 0, none⟩ = some (.int .i64 x) := Rg.keep hb (by simp <;> omega) (by go_cell)
  have x1 : w2.cell? ⟨w1.heap.size, 1, none⟩ = some (.int .i64 y) := Rg.keep hb (by simp <;> omega) (by go_cell)
  have t0 := Rg.keep L lt t0
  have t1 := Rg.keep L lt t1
  have t2 := Rg.keep L lt t2
  have t3 := Rg.keep L lt t3
  have t4 := Rg.keep L lt t4
  have a0 := Rg.keep L la a0
  have a1 := Rg.keep L la a1
  have lt := Nat.lt_of_lt_of_le lt L.size
  have la := Nat.lt_of_lt_of_le la L.size
  clear hb L
  go_wp2_with fail
  refine (EX.out _).mono ?_
  rintro e w3 ⟨rfl, hb⟩
  have L : Below w2.heap.size w2 w3 := ((Below.refl _ _).alloc (by simp <;> omega) _).trans (hb.mono (by simp <;> omega))
  have K3 : Below w.heap.size w w3 := K2.trans (L.mono K2.size)
  have ly : w2.heap.size < w3.heap.size := Nat.lt_of_lt_of_le (by simp <;> omega) hb.size
  have y0 : w3.cell? ⟨w2.heap.size, 0, none⟩ = some (.int .i64 x) := Rg.keep hb (by simp <;> omega) (by go_cell)
  have y1 : w3.cell? ⟨w2.heap.size, 1, none⟩ = some (.int .i64 y) := Rg.keep hb (by simp <;> omega) (by go_cell)
  have t0 := Rg.keep L lt t0
  have t1 := Rg.keep L lt t1
  have t2 := Rg.keep L lt t2
  have t3 := Rg.keep L lt t3
  have t4 := Rg.keep L lt t4
  have a0 := Rg.keep L la a0
  have a1 := Rg.keep L la a1
  have x0 := Rg.keep L lx x0
  have x1 := Rg.keep L lx x1
  have lt := Nat.lt_of_lt_of_le lt L.size
  have la := Nat.lt_of_lt_of_le la L.size
  have lx := Nat.lt_of_lt_of_le lx L.size
  clear hb L
  go_wp2
  go_ret
  exact ⟨rfl, K3⟩
set_option maxHeartbeats 16000000 in
theorem law_tf_bad (K B F R O n0 d0 x y e : Int) (w : World) (he : (e != 0) = true) (P1 : Hid (∀ w, Calls Try.prog 24 #[.agg #[.int .i64 K, .int .i64 B, .int .i64 F, .int .i64 R, .int .i64 O], .agg #[.int .i64 n0, .int .i64 d0]] w (Ret (Frac3 x y e) w))) (P2 : Hid (∀ w, Calls Try.prog 25 #[.agg #[.int .i64 K, .int .i64 B, .int .i64 F, .int .i64 R, .int .i64 O], .agg #[.int .i64 n0, .int .i64 d0]] w (Ret (Frac3 x y e) w))) (EX : Hid (∀ w, Calls Try.prog 21 #[] w (Ret (.bool true) w))) : Calls Try.prog 5 #[.agg #[.int .i64 K, .int .i64 B, .int .i64 F, .int .i64 R, .int .i64 O], .agg #[.int .i64 n0, .int .i64 d0]] w (Ret (.bool true) w) := by
  go_enter Try.func5, Try.ntmps5
  go_wp2_with fail
  refine (P1.out _).mono ?_
  rintro e w1 ⟨rfl, hb⟩
  have L : Below w.heap.size w w1 := (((Below.refl _ _).alloc (by simp <;> omega) _).alloc (by simp <;> omega) _).trans (hb.mono (by simp <;> omega))
  have K1 : Below w.heap.size w w1 := L
  have lt : w.heap.size < w1.heap.size := Nat.lt_of_lt_of_le (by simp <;> omega) hb.size
  have t0 : w1.cell? ⟨w.heap.size, 0, none⟩ = some (.int .i64 K) := Rg.keep hb (by simp <;> omega) (by go_cell)
  have t1 : w1.cell? ⟨w.heap.size, 1, none⟩ = some (.int .i64 B) := Rg.keep hb (by simp <;> omega) (by go_cell)
  have t2 : w1.cell? ⟨w.heap.size, 2, none⟩ = some (.int .i64 F) := Rg.keep hb (by simp <;> omega) (by go_cell)
  have t3 : w1.cell? ⟨w.heap.size, 3, none⟩ = some (.int .i64 R) := Rg.keep hb (by simp <;> omega) (by go_cell)
  have t4 : w1.cell? ⟨w.heap.size, 4, none⟩ = some (.int .i64 O) := Rg.keep hb (by simp <;> omega) (by go_cell)
  have la : w.heap.size + 1 < w1.heap.size := Nat.lt_of_lt_of_le (by simp <;> omega) hb.size
  have a0 : w1.cell? ⟨w.heap.size + 1, 0, none⟩ = some (.int .i64 n0) := Rg.keep hb (by simp <;> omega) (by go_cell)
  have a1 : w1.cell? ⟨w.heap.size + 1, 1, none⟩ = some (.int .i64 d0) := Rg.keep hb (by simp <;> omega) (by go_cell)
  clear hb L
  go_wp2_with fail
  refine (P2.out _).mono ?_
  rintro e w2 ⟨rfl, hb⟩
  have L : Below w1.heap.size w1 w2 := ((Below.refl _ _).alloc (by simp <;> omega) _).trans (hb.mono (by simp <;> omega))
  have K2 : Below w.heap.size w w2 := K1.trans (L.mono K1.size)
  have lx : w1.heap.size < w2.heap.size := Nat.lt_of_lt_of_le (by simp <;> omega) hb.size
  have x0 : w2.cell? ⟨w1.heap.size, 0, none⟩ = some (.int .i64 x) := Rg.keep hb (by simp <;> omega) (by go_cell)
  have x1 : w2.cell? ⟨w1.heap.size, 1, none⟩ = some (.int .i64 y) := Rg.keep hb (by simp <;> omega) (by go_cell)
  have t0 := Rg.keep L lt t0
  have t1 := Rg.keep L lt t1
  have t2 := Rg.keep L lt t2
  have t3 := Rg.keep L lt t3
  have t4 := Rg.keep L lt t4
  have a0 := Rg.keep L la a0
  have a1 := Rg.keep L la a1
  have lt := Nat.lt_of_lt_of_le lt L.size
  have la := Nat.lt_of_lt_of_le la L.size
  clear hb L
  go_wp2_with fail
  refine (EX.out _).mono ?_
  rintro e w3 ⟨rfl, hb⟩
  have L : Below w2.heap.size w2 w3 := ((Below.refl _ _).alloc (by simp <;> omega) _).trans (hb.mono (by simp <;> omega))
  have K3 : Below w.heap.size w w3 := K2.trans (L.mono K2.size)
  have ly : w2.heap.size < w3.heap.size := Nat.lt_of_lt_of_le (by simp <;> omega) hb.size
  have y0 : w3.cell? ⟨w2.heap.size, 0, none⟩ = some (.int .i64 x) := Rg.keep hb (by simp <;> omega) (by go_cell)
  have y1 : w3.cell? ⟨w2.heap.size, 1, none⟩ = some (.int .i64 y) := Rg.keep hb (by simp <;> omega) (by go_cell)
  have t0 := Rg.keep L lt t0
  have t1 := Rg.keep L lt t1
  have t2 := Rg.keep L lt t2
  have t3 := Rg.keep L lt t3
  have t4 := Rg.keep L lt t4
  have a0 := Rg.keep L la a0
  have a1 := Rg.keep L la a1
  have x0 := Rg.keep L lx x0
  have x1 := Rg.keep L lx x1
  have lt := Nat.lt_of_lt_of_le lt L.size
  have la := Nat.lt_of_lt_of_le la L.size
  have lx := Nat.lt_of_lt_of_le lx L.size
  clear hb L
  go_wp2
  go_ret
  exact ⟨rfl, K3⟩
set_option maxHeartbeats 16000000 in
theorem law_tf_ok (K B F R O n0 d0 x y : Int) (w : World) (P1 : Hid (∀ w, Calls Try.prog 24 #[.agg #[.int .i64 K, .int .i64 B, .int .i64 F, .int .i64 R, .int .i64 O], .agg #[.int .i64 n0, .int .i64 d0]] w (Ret (Frac3 x y 0) w))) (P2 : Hid (∀ w, Calls Try.prog 25 #[.agg #[.int .i64 K, .int .i64 B, .int .i64 F, .int .i64 R, .int .i64 O], .agg #[.int .i64 n0, .int .i64 d0]] w (Ret (Frac3 x y 0) w))) (Q : Hid (∀ w, Calls Try.prog 22 #[.agg #[.int .i64 K, .int .i64 B, .int .i64 F, .int .i64 R, .int .i64 O], .agg #[.int .i64 x, .int .i64 y]] w (Ret (Frac3 n0 d0 0) w))) (EX : Hid (∀ w, Calls Try.prog 21 #[] w (Ret (.bool true) w))) : Calls Try.prog 5 #[.agg #[.int .i64 K, .int .i64 B, .int .i64 F, .int .i64 R, .int .i64 O], .agg #[.int .i64 n0, .int .i64 d0]] w (Ret (.bool true) w) := by
  go_enter Try.func5, Try.ntmps5
  go_wp2_with fail
  refine (P1.out _).mono ?_
  rintro e w1 ⟨rfl, hb⟩
  have L : Below w.heap.size w w1 := (((Below.refl _ _).alloc (by simp <;> omega) _).alloc (by simp <;> omega) _).trans (hb.mono (by simp <;> omega))
  have K1 : Below w.heap.size w w1 := L
  have lt : w.heap.size < w1.heap.size := Nat.lt_of_lt_of_le (by simp <;> omega) hb.size
  have t0 : w1.cell? ⟨w.heap.size, 0, none⟩ = some (.int .i64 K) := Rg.keep hb (by simp <;> omega) (by go_cell)
  have t1 : w1.cell? ⟨w.heap.size, 1, none⟩ = some (.int .i64 B) := Rg.keep hb (by simp <;> omega) (by go_cell)
  have t2 : w1.cell? ⟨w.heap.size, 2, none⟩ = some (.int .i64 F) := Rg.keep hb (by simp <;> omega) (by go_cell)
  have t3 : w1.cell? ⟨w.heap.size, 3, none⟩ = some (.int .i64 R) := Rg.keep hb (by simp <;> omega) (by go_cell)
  have t4 : w1.cell? ⟨w.heap.size, 4, none⟩ = some (.int .i64 O) := Rg.keep hb (by simp <;> omega) (by go_cell)
  have la : w.heap.size + 1 < w1.heap.size := Nat.lt_of_lt_of_le (by simp <;> omega) hb.size
  have a0 : w1.cell? ⟨w.heap.size + 1, 0, none⟩ = some (.int .i64 n0) := Rg.keep hb (by simp <;> omega) (by go_cell)
  have a1 : w1.cell? ⟨w.heap.size + 1, 1, none⟩ = some (.int .i64 d0) := Rg.keep hb (by simp <;> omega) (by go_cell)
  clear hb L
  go_wp2_with fail
  refine (P2.out _).mono ?_
  rintro e w2 ⟨rfl, hb⟩
  have L : Below w1.heap.size w1 w2 := ((Below.refl _ _).alloc (by simp <;> omega) _).trans (hb.mono (by simp <;> omega))
  have K2 : Below w.heap.size w w2 := K1.trans (L.mono K1.size)
  have lx : w1.heap.size < w2.heap.size := Nat.lt_of_lt_of_le (by simp <;> omega) hb.size
  have x0 : w2.cell? ⟨w1.heap.size, 0, none⟩ = some (.int .i64 x) := Rg.keep hb (by simp <;> omega) (by go_cell)
  have x1 : w2.cell? ⟨w1.heap.size, 1, none⟩ = some (.int .i64 y) := Rg.keep hb (by simp <;> omega) (by go_cell)
  have t0 := Rg.keep L lt t0
  have t1 := Rg.keep L lt t1
  have t2 := Rg.keep L lt t2
  have t3 := Rg.keep L lt t3
  have t4 := Rg.keep L lt t4
  have a0 := Rg.keep L la a0
  have a1 := Rg.keep L la a1
  have lt := Nat.lt_of_lt_of_le lt L.size
  have la := Nat.lt_of_lt_of_le la L.size
  clear hb L
  go_wp2_with fail
  refine (Q.out _).mono ?_
  rintro e w3 ⟨rfl, hb⟩
  have L : Below w2.heap.size w2 w3 := ((Below.refl _ _).alloc (by simp <;> omega) _).trans (hb.mono (by simp <;> omega))
  have K3 : Below w.heap.size w w3 := K2.trans (L.mono K2.size)
  have ly : w2.heap.size < w3.heap.size := Nat.lt_of_lt_of_le (by simp <;> omega) hb.size
  have y0 : w3.cell? ⟨w2.heap.size, 0, none⟩ = some (.int .i64 x) := Rg.keep hb (by simp <;> omega) (by go_cell)
  have y1 : w3.cell? ⟨w2.heap.size, 1, none⟩ = some (.int .i64 y) := Rg.keep hb (by simp <;> omega) (by go_cell)
  have t0 := Rg.keep L lt t0
  have t1 := Rg.keep L lt t1
  have t2 := Rg.keep L lt t2
  have t3 := Rg.keep L lt t3
  have t4 := Rg.keep L lt t4
  have a0 := Rg.keep L la a0
  have a1 := Rg.keep L la a1
  have x0 := Rg.keep L lx x0
  have x1 := Rg.keep L lx x1
  have lt := Nat.lt_of_lt_of_le lt L.size
  have la := Nat.lt_of_lt_of_le la L.size
  have lx := Nat.lt_of_lt_of_le lx L.size
  clear hb L
  go_wp2_with fail
  refine (EX.out _).mono ?_
  rintro e w4 ⟨rfl, hb⟩
  have L : Below w3.heap.size w3 w4 := ((Below.refl _ _).alloc (by simp <;> omega) _).trans (hb.mono (by simp <;> omega))
  have K4 : Below w.heap.size w w4 := K3.trans (L.mono K3.size)
  have lz : w3.heap.size < w4.heap.size := Nat.lt_of_lt_of_le (by simp <;> omega) hb.size
  have z0 : w4.cell? ⟨w3.heap.size, 0, none⟩ = some (.int .i64 n0) := Rg.keep hb (by simp <;> omega) (by go_cell)
  have z1 : w4.cell? ⟨w3.heap.size, 1, none⟩ = some (.int .i64 d0) := Rg.keep hb (by simp <;> omega) (by go_cell)
  have t0 := Rg.keep L lt t0
  have t1 := Rg.keep L lt t1
  have t2 := Rg.keep L lt t2
  have t3 := Rg.keep L lt t3
  have t4 := Rg.keep L lt t4
  have a0 := Rg.keep L la a0
  have a1 := Rg.keep L la a1
  have x0 := Rg.keep L lx x0
  have x1 := Rg.keep L lx x1
  have y0 := Rg.keep L ly y0
  have y1 := Rg.keep L ly y1
  have lt := Nat.lt_of_lt_of_le lt L.size
  have la := Nat.lt_of_lt_of_le la L.size
  have lx := Nat.lt_of_lt_of_le lx L.size
  have ly := Nat.lt_of_lt_of_le ly L.size
  clear hb L
  go_wp2
  go_ret
  exact ⟨rfl, K4⟩
set_option maxHeartbeats 16000000 in
theorem law_ar (K B F R O n0 d0 n1 d1 x1 y1 e1 x2 y2 e2 x3 y3 e3 x4 y4 e4 x5 y5 e5 : Int) (w : World) (P1 : Hid (∀ w, Calls Try.prog 26 #[.agg #[.int .i64 K, .int .i64 B, .int .i64 F, .int .i64 R, .int .i64 O], .agg #[.int .i64 n0, .int .i64 d0], .agg #[.int .i64 n1, .int .i64 d1]] w (Ret (Frac3 x1 y1 e1) w))) (P2 : Hid (∀ w, Calls Try.prog 27 #[.agg #[.int .i64 K, .int .i64 B, .int .i64 F, .int .i64 R, .int .i64 O], .agg #[.int .i64 n0, .int .i64 d0], .agg #[.int .i64 n1, .int .i64 d1]] w (Ret (Frac3 x1 y1 e1) w))) (P3 : Hid (∀ w, Calls Try.prog 28 #[.agg #[.int .i64 K, .int .i64 B, .int .i64 F, .int .i64 R, .int .i64 O], .agg #[.int .i64 n0, .int .i64 d0], .agg #[.int .i64 n1, .int .i64 d1]] w (Ret (Frac3 x2 y2 e2) w))) (P4 : Hid (∀ w, Calls Try.prog 29 #[.agg #[.int .i64 K, .int .i64 B, .int .i64 F, .int .i64 R, .int .i64 O], .agg #[.int .i64 n0, .int .i64 d0], .agg #[.int .i64 n1, .int .i64 d1]] w (Ret (Frac3 x2 y2 e2) w))) (P5 : Hid (∀ w, Calls Try.prog 30 #[.agg #[.int .i64 K, .int .i64 B, .int .i64 F, .int .i64 R, .int .i64 O], .agg #[.int .i64 n0, .int .i64 d0], .agg #[.int .i64 n1, .int .i64 d1]] w (Ret (Frac3 x3 y3 e3) w))) (P6 : Hid (∀ w, Calls Try.prog 31 #[.agg #[.int .i64 K, .int .i64 B, .int .i64 F, .int .i64 R, .int .i64 O], .agg #[.int .i64 n0, .int .i64 d0], .agg #[.int .i64 n1, .int .i64 d1]] w (Ret (Frac3 x3 y3 e3) w))) (P7 : Hid (∀ w, Calls Try.prog 32 #[.agg #[.int .i64 K, .int .i64 B, .int .i64 F, .int .i64 R, .int .i64 O], .agg #[.int .i64 n0, .int .i64 d0], .agg #[.int .i64 n1, .int .i64 d1]] w (Ret (Frac3 x4 y4 e4) w))) (P8 : Hid (∀ w, Calls Try.prog 33 #[.agg #[.int .i64 K, .int .i64 B, .int .i64 F, .int .i64 R, .int .i64 O], .agg #[.int .i64 n0, .int .i64 d0], .agg #[.int .i64 n1, .int .i64 d1]] w (Ret (Frac3 x4 y4 e4) w))) (P9 : Hid (∀ w, Calls Try.prog 34 #[.agg #[.int .i64 K, .int .i64 B, .int .i64 F, .int .i64 R, .int .i64 O], .agg #[.int .i64 n0, .int .i64 d0]] w (Ret (Frac3 x5 y5 e5) w))) (P10 : Hid (∀ w, Calls Try.prog 35 #[.agg #[.int .i64 K, .int .i64 B, .int .i64 F, .int .i64 R, .int .i64 O], .agg #[.int .i64 n0, .int .i64 d0]] w (Ret (Frac3 x5 y5 e5) w))) (EX : Hid (∀ w, Calls Try.prog 21 #[] w (Ret (.bool true) w))) : Calls Try.prog 6 #[.agg #[.int .i64 K, .int .i64 B, .int .i64 F, .int .i64 R, .int .i64 O], .agg #[.int .i64 n0, .int .i64 d0], .agg #[.int .i64 n1, .int .i64 d1]] w (Ret (.bool true) w) := by
  go_enter Try.func6, Try.ntmps6
  go_wp2_with fail
  refine (P1.out _).mono ?_
  rintro e w1 ⟨rfl, hb⟩
  have L : Below w.heap.size w w1 := ((((Below.refl _ _).alloc (by simp <;> omega) _).alloc (by simp <;> omega) _).alloc (by simp <;> omega) _).trans (hb.mono (by simp <;> omega))
  have K1 : Below w.heap.size w w1 := L
  have lt : w.heap.size < w1.heap.size := Nat.lt_of_lt_of_le (by simp <;> omega) hb.size
  have t0 : w1.cell? ⟨w.heap.size, 0, none⟩ = some (.int .i64 K) := Rg.keep hb (by simp <;> omega) (by go_cell)
  have t1 : w1.cell? ⟨w.heap.size, 1, none⟩ = some (.int .i64 B) := Rg.keep hb (by simp <;> omega) (by go_cell)
  have t2 : w1.cell? ⟨w.heap.size, 2, none⟩ = some (.int .i64 F) := Rg.keep hb (by simp <;> omega) (by go_cell)
  have t3 : w1.cell? ⟨w.heap.size, 3, none⟩ = some (.int .i64 R) := Rg.keep hb (by simp <;> omega) (by go_cell)
  have t4 : w1.cell? ⟨w.heap.size, 4, none⟩ = some (.int .i64 O) := Rg.keep hb (by simp <;> omega) (by go_cell)
  have la : w.heap.size + 1 < w1.heap.size := Nat.lt_of_lt_of_le (by simp <;> omega) hb.size
  have a0 : w1.cell? ⟨w.heap.size + 1, 0, none⟩ = some (.int .i64 n0) := Rg.keep hb (by simp <;> omega) (by go_cell)
  have a1 : w1.cell? ⟨w.heap.size + 1, 1, none⟩ = some (.int .i64 d0) := Rg.keep hb (by simp <;> omega) (by go_cell)
  have lb : w.heap.size + 1 + 1 < w1.heap.size := Nat.lt_of_lt_of_le (by simp <;> omega) hb.size
  have b0 : w1.cell? ⟨w.heap.size + 1 + 1, 0, none⟩ = some (.int .i64 n1) := Rg.keep hb (by simp <;> omega) (by go_cell)
  have b1 : w1.cell? ⟨w.heap.size + 1 + 1, 1, none⟩ = some (.int .i64 d1) := Rg.keep hb (by simp <;> omega) (by go_cell)
  clear hb L
  go_wp2_with fail
  refine (P2.out _).mono ?_
  rintro e w2 ⟨rfl, hb⟩
  have L : Below w1.heap.size w1 w2 := ((Below.refl _ _).alloc (by simp <;> omega) _).trans (hb.mono (by simp <;> omega))
  have K2 : Below w.heap.size w w2 := K1.trans (L.mono K1.size)
  have RX : Rg.RC (w1.heap.size) w2 := Rg.RC.keep hb (by simp <;> omega) (Rg.RC.mk (a := x1) (b := y1) (by go_cell) (by go_cell) (by simp only [frozen?_alloc_cells]; exact Rg.notFrozen (by omega)) (by simp only [frozen?_alloc_cells]; exact Rg.notFrozen (by omega)))
  have lx : w1.heap.size < w2.heap.size := Nat.lt_of_lt_of_le (by simp <;> omega) hb.size
  have x0 : w2.cell? ⟨w1.heap.size, 0, none⟩ = some (.int .i64 x1) := Rg.keep hb (by simp <;> omega) (by go_cell)
  have x1' : w2.cell? ⟨w1.heap.size, 1, none⟩ = some (.int .i64 y1) := Rg.keep hb (by simp <;> omega) (by go_cell)
  have t0 := Rg.keep L lt t0
  have t1 := Rg.keep L lt t1
  have t2 := Rg.keep L lt t2
  have t3 := Rg.keep L lt t3
  have t4 := Rg.keep L lt t4
  have a0 := Rg.keep L la a0
  have a1 := Rg.keep L la a1
  have b0 := Rg.keep L lb b0
  have b1 := Rg.keep L lb b1
  have lt := Nat.lt_of_lt_of_le lt L.size
  have la := Nat.lt_of_lt_of_le la L.size
  have lb := Nat.lt_of_lt_of_le lb L.size
  clear hb L
  go_wp2_with fail
  refine (P3.out _).mono ?_
  rintro e w3 ⟨rfl, hb⟩
  have L : Below w2.heap.size w2 w3 := ((Below.refl _ _).alloc (by simp <;> omega) _).trans (hb.mono (by simp <;> omega))
  have K3 : Below w.heap.size w w3 := K2.trans (L.mono K2.size)
  have RZ : Rg.RC (w2.heap.size) w3 := Rg.RC.keep hb (by simp <;> omega) (Rg.RC.mk (a := x1) (b := y1) (by go_cell) (by go_cell) (by simp only [frozen?_alloc_cells]; exact Rg.notFrozen (by omega)) (by simp only [frozen?_alloc_cells]; exact Rg.notFrozen (by omega)))
  have RX := Rg.RC.keep L lx RX
  have lz : w2.heap.size < w3.heap.size := Nat.lt_of_lt_of_le (by simp <;> omega) hb.size
  have z0 : w3.cell? ⟨w2.heap.size, 0, none⟩ = some (.int .i64 x1) := Rg.keep hb (by simp <;> omega) (by go_cell)
  have z1 : w3.cell? ⟨w2.heap.size, 1, none⟩ = some (.int .i64 y1) := Rg.keep hb (by simp <;> omega) (by go_cell)
  have t0 := Rg.keep L lt t0
  have t1 := Rg.keep L lt t1
  have t2 := Rg.keep L lt t2
  have t3 := Rg.keep L lt t3
  have t4 := Rg.keep L lt t4
  have a0 := Rg.keep L la a0
  have a1 := Rg.keep L la a1
  have b0 := Rg.keep L lb b0
  have b1 := Rg.keep L lb b1
  have x0 := Rg.keep L lx x0
  have x1' := Rg.keep L lx x1'
  have lt := Nat.lt_of_lt_of_le lt L.size
  have la := Nat.lt_of_lt_of_le la L.size
  have lb := Nat.lt_of_lt_of_le lb L.size
  have lx := Nat.lt_of_lt_of_le lx L.size
  clear hb L
  have rcf := RX.2.2.1
  have rcg := RX.2.2.2
  go_wp2_with fail
  clear rcf rcg
  have t0 : ((w3.setCell ⟨w1.heap.size, 0, none⟩ (.int .i64 x2)).setCell ⟨w1.heap.size, 1, none⟩ (.int .i64 y2)).cell? ⟨w.heap.size, 0, none⟩ = some (.int .i64 K) := Rg.far (by omega) t0
  have t1 : ((w3.setCell ⟨w1.heap.size, 0, none⟩ (.int .i64 x2)).setCell ⟨w1.heap.size, 1, none⟩ (.int .i64 y2)).cell? ⟨w.heap.size, 1, none⟩ = some (.int .i64 B) := Rg.far (by omega) t1
  have t2 : ((w3.setCell ⟨w1.heap.size, 0, none⟩ (.int .i64 x2)).setCell ⟨w1.heap.size, 1, none⟩ (.int .i64 y2)).cell? ⟨w.heap.size, 2, none⟩ = some (.int .i64 F) := Rg.far (by omega) t2
  have t3 : ((w3.setCell ⟨w1.heap.size, 0, none⟩ (.int .i64 x2)).setCell ⟨w1.heap.size, 1, none⟩ (.int .i64 y2)).cell? ⟨w.heap.size, 3, none⟩ = some (.int .i64 R) := Rg.far (by omega) t3
  have t4 : ((w3.setCell ⟨w1.heap.size, 0, none⟩ (.int .i64 x2)).setCell ⟨w1.heap.size, 1, none⟩ (.int .i64 y2)).cell? ⟨w.heap.size, 4, none⟩ = some (.int .i64 O) := Rg.far (by omega) t4
  have a0 : ((w3.setCell ⟨w1.heap.size, 0, none⟩ (.int .i64 x2)).setCell ⟨w1.heap.size, 1, none⟩ (.int .i64 y2)).cell? ⟨w.heap.size + 1, 0, none⟩ = some (.int .i64 n0) := Rg.far (by omega) a0
  have a1 : ((w3.setCell ⟨w1.heap.size, 0, none⟩ (.int .i64 x2)).setCell ⟨w1.heap.size, 1, none⟩ (.int .i64 y2)).cell? ⟨w.heap.size + 1, 1, none⟩ = some (.int .i64 d0) := Rg.far (by omega) a1
  have b0 : ((w3.setCell ⟨w1.heap.size, 0, none⟩ (.int .i64 x2)).setCell ⟨w1.heap.size, 1, none⟩ (.int .i64 y2)).cell? ⟨w.heap.size + 1 + 1, 0, none⟩ = some (.int .i64 n1) := Rg.far (by omega) b0
  have b1 : ((w3.setCell ⟨w1.heap.size, 0, none⟩ (.int .i64 x2)).setCell ⟨w1.heap.size, 1, none⟩ (.int .i64 y2)).cell? ⟨w.heap.size + 1 + 1, 1, none⟩ = some (.int .i64 d1) := Rg.far (by omega) b1
  have z0 : ((w3.setCell ⟨w1.heap.size, 0, none⟩ (.int .i64 x2)).setCell ⟨w1.heap.size, 1, none⟩ (.int .i64 y2)).cell? ⟨w2.heap.size, 0, none⟩ = some (.int .i64 x1) := Rg.far (by omega) z0
  have z1 : ((w3.setCell ⟨w1.heap.size, 0, none⟩ (.int .i64 x2)).setCell ⟨w1.heap.size, 1, none⟩ (.int .i64 y2)).cell? ⟨w2.heap.size, 1, none⟩ = some (.int .i64 y1) := Rg.far (by omega) z1
  have x0 : ((w3.setCell ⟨w1.heap.size, 0, none⟩ (.int .i64 x2)).setCell ⟨w1.heap.size, 1, none⟩ (.int .i64 y2)).cell? ⟨w1.heap.size, 0, none⟩ = some (.int .i64 x2) := Rg.RC.read0 RX
  have x1' : ((w3.setCell ⟨w1.heap.size, 0, none⟩ (.int .i64 x2)).setCell ⟨w1.heap.size, 1, none⟩ (.int .i64 y2)).cell? ⟨w1.heap.size, 1, none⟩ = some (.int .i64 y2) := Rg.RC.read1 RX
  have RZ : Rg.RC (w2.heap.size) ((w3.setCell ⟨w1.heap.size, 0, none⟩ (.int .i64 x2)).setCell ⟨w1.heap.size, 1, none⟩ (.int .i64 y2)) := Rg.RC.far (by omega) RZ
  have RX : Rg.RC (w1.heap.size) ((w3.setCell ⟨w1.heap.size, 0, none⟩ (.int .i64 x2)).setCell ⟨w1.heap.size, 1, none⟩ (.int .i64 y2)) := Rg.RC.store RX
  have lt : w.heap.size < ((w3.setCell ⟨w1.heap.size, 0, none⟩ (.int .i64 x2)).setCell ⟨w1.heap.size, 1, none⟩ (.int .i64 y2)).heap.size := by rw [Rg.size2]; exact lt
  have la : w.heap.size + 1 < ((w3.setCell ⟨w1.heap.size, 0, none⟩ (.int .i64 x2)).setCell ⟨w1.heap.size, 1, none⟩ (.int .i64 y2)).heap.size := by rw [Rg.size2]; exact la
  have lb : w.heap.size + 1 + 1 < ((w3.setCell ⟨w1.heap.size, 0, none⟩ (.int .i64 x2)).setCell ⟨w1.heap.size, 1, none⟩ (.int .i64 y2)).heap.size := by rw [Rg.size2]; exact lb
  have lx : w1.heap.size < ((w3.setCell ⟨w1.heap.size, 0, none⟩ (.int .i64 x2)).setCell ⟨w1.heap.size, 1, none⟩ (.int .i64 y2)).heap.size := by rw [Rg.size2]; exact lx
  have lz : w2.heap.size < ((w3.setCell ⟨w1.heap.size, 0, none⟩ (.int .i64 x2)).setCell ⟨w1.heap.size, 1, none⟩ (.int .i64 y2)).heap.size := by rw [Rg.size2]; exact lz
  have K4 : Below w.heap.size w ((w3.setCell ⟨w1.heap.size, 0, none⟩ (.int .i64 x2)).setCell ⟨w1.heap.size, 1, none⟩ (.int .i64 y2)) := Below.setCell (Below.setCell K3 (by dsimp only; omega) _) (by dsimp only; omega) _
  clear K3
  generalize ((w3.setCell ⟨w1.heap.size, 0, none⟩ (.int .i64 x2)).setCell ⟨w1.heap.size, 1, none⟩ (.int .i64 y2)) = yw4 at *
  refine (P4.out _).mono ?_
  rintro e w5 ⟨rfl, hb⟩
  have L : Below yw4.heap.size yw4 w5 := (Below.refl _ _).trans (hb.mono (by simp <;> omega))
  have K5 : Below w.heap.size w w5 := K4.trans (L.mono K4.size)
  have RX := Rg.RC.keep L lx RX
  have RZ := Rg.RC.keep L lz RZ
  have t0 := Rg.keep L lt t0
  have t1 := Rg.keep L lt t1
  have t2 := Rg.keep L lt t2
  have t3 := Rg.keep L lt t3
  have t4 := Rg.keep L lt t4
  have a0 := Rg.keep L la a0
  have a1 := Rg.keep L la a1
  have b0 := Rg.keep L lb b0
  have b1 := Rg.keep L lb b1
  have x0 := Rg.keep L lx x0
  have x1' := Rg.keep L lx x1'
  have z0 := Rg.keep L lz z0
  have z1 := Rg.keep L lz z1
  have lt := Nat.lt_of_lt_of_le lt L.size
  have la := Nat.lt_of_lt_of_le la L.size
  have lb := Nat.lt_of_lt_of_le lb L.size
  have lx := Nat.lt_of_lt_of_le lx L.size
  have lz := Nat.lt_of_lt_of_le lz L.size
  clear hb L
  have rcf := RZ.2.2.1
  have rcg := RZ.2.2.2
  go_wp2_with fail
  clear rcf rcg
  have t0 : ((w5.setCell ⟨w2.heap.size, 0, none⟩ (.int .i64 x2)).setCell ⟨w2.heap.size, 1, none⟩ (.int .i64 y2)).cell? ⟨w.heap.size, 0, none⟩ = some (.int .i64 K) := Rg.far (by omega) t0
  have t1 : ((w5.setCell ⟨w2.heap.size, 0, none⟩ (.int .i64 x2)).setCell ⟨w2.heap.size, 1, none⟩ (.int .i64 y2)).cell? ⟨w.heap.size, 1, none⟩ = some (.int .i64 B) := Rg.far (by omega) t1
  have t2 : ((w5.setCell ⟨w2.heap.size, 0, none⟩ (.int .i64 x2)).setCell ⟨w2.heap.size, 1, none⟩ (.int .i64 y2)).cell? ⟨w.heap.size, 2, none⟩ = some (.int .i64 F) := Rg.far (by omega) t2
  have t3 : ((w5.setCell ⟨w2.heap.size, 0, none⟩ (.int .i64 x2)).setCell ⟨w2.heap.size, 1, none⟩ (.int .i64 y2)).cell? ⟨w.heap.size, 3, none⟩ = some (.int .i64 R) := Rg.far (by omega) t3
  have t4 : ((w5.setCell ⟨w2.heap.size, 0, none⟩ (.int .i64 x2)).setCell ⟨w2.heap.size, 1, none⟩ (.int .i64 y2)).cell? ⟨w.heap.size, 4, none⟩ = some (.int .i64 O) := Rg.far (by omega) t4
  have a0 : ((w5.setCell ⟨w2.heap.size, 0, none⟩ (.int .i64 x2)).setCell ⟨w2.heap.size, 1, none⟩ (.int .i64 y2)).cell? ⟨w.heap.size + 1, 0, none⟩ = some (.int .i64 n0) := Rg.far (by omega) a0
  have a1 : ((w5.setCell ⟨w2.heap.size, 0, none⟩ (.int .i64 x2)).setCell ⟨w2.heap.size, 1, none⟩ (.int .i64 y2)).cell? ⟨w.heap.size + 1, 1, none⟩ = some (.int .i64 d0) := Rg.far (by omega) a1
  have b0 : ((w5.setCell ⟨w2.heap.size, 0, none⟩ (.int .i64 x2)).setCell ⟨w2.heap.size, 1, none⟩ (.int .i64 y2)).cell? ⟨w.heap.size + 1 + 1, 0, none⟩ = some (.int .i64 n1) := Rg.far (by omega) b0
  have b1 : ((w5.setCell ⟨w2.heap.size, 0, none⟩ (.int .i64 x2)).setCell ⟨w2.heap.size, 1, none⟩ (.int .i64 y2)).cell? ⟨w.heap.size + 1 + 1, 1, none⟩ = some (.int .i64 d1) := Rg.far (by omega) b1
  have x0 : ((w5.setCell ⟨w2.heap.size, 0, none⟩ (.int .i64 x2)).setCell ⟨w2.heap.size, 1, none⟩ (.int .i64 y2)).cell? ⟨w1.heap.size, 0, none⟩ = some (.int .i64 x2) := Rg.far (by omega) x0
  have x1' : ((w5.setCell ⟨w2.heap.size, 0, none⟩ (.int .i64 x2)).setCell ⟨w2.heap.size, 1, none⟩ (.int .i64 y2)).cell? ⟨w1.heap.size, 1, none⟩ = some (.int .i64 y2) := Rg.far (by omega) x1'
  have z0 : ((w5.setCell ⟨w2.heap.size, 0, none⟩ (.int .i64 x2)).setCell ⟨w2.heap.size, 1, none⟩ (.int .i64 y2)).cell? ⟨w2.heap.size, 0, none⟩ = some (.int .i64 x2) := Rg.RC.read0 RZ
  have z1 : ((w5.setCell ⟨w2.heap.size, 0, none⟩ (.int .i64 x2)).setCell ⟨w2.heap.size, 1, none⟩ (.int .i64 y2)).cell? ⟨w2.heap.size, 1, none⟩ = some (.int .i64 y2) := Rg.RC.read1 RZ
  have RX : Rg.RC (w1.heap.size) ((w5.setCell ⟨w2.heap.size, 0, none⟩ (.int .i64 x2)).setCell ⟨w2.heap.size, 1, none⟩ (.int .i64 y2)) := Rg.RC.far (by omega) RX
  have RZ : Rg.RC (w2.heap.size) ((w5.setCell ⟨w2.heap.size, 0, none⟩ (.int .i64 x2)).setCell ⟨w2.heap.size, 1, none⟩ (.int .i64 y2)) := Rg.RC.store RZ
  have lt : w.heap.size < ((w5.setCell ⟨w2.heap.size, 0, none⟩ (.int .i64 x2)).setCell ⟨w2.heap.size, 1, none⟩ (.int .i64 y2)).heap.size := by rw [Rg.size2]; exact lt
  have la : w.heap.size + 1 < ((w5.setCell ⟨w2.heap.size, 0, none⟩ (.int .i64 x2)).setCell ⟨w2.heap.size, 1, none⟩ (.int .i64 y2)).heap.size := by rw [Rg.size2]; exact la
  have lb : w.heap.size + 1 + 1 < ((w5.setCell ⟨w2.heap.size, 0, none⟩ (.int .i64 x2)).setCell ⟨w2.heap.size, 1, none⟩ (.int .i64 y2)).heap.size := by rw [Rg.size2]; exact lb
  have lx : w1.heap.size < ((w5.setCell ⟨w2.heap.size, 0, none⟩ (.int .i64 x2)).setCell ⟨w2.heap.size, 1, none⟩ (.int .i64 y2)).heap.size := by rw [Rg.size2]; exact lx
  have lz : w2.heap.size < ((w5.setCell ⟨w2.heap.size, 0, none⟩ (.int .i64 x2)).setCell ⟨w2.heap.size, 1, none⟩ (.int .i64 y2)).heap.size := by rw [Rg.size2]; exact lz
  have K6 : Below w.heap.size w ((w5.setCell ⟨w2.heap.size, 0, none⟩ (.int .i64 x2)).setCell ⟨w2.heap.size, 1, none⟩ (.int .i64 y2)) := Below.setCell (Below.setCell K5 (by dsimp only; omega) _) (by dsimp only; omega) _
  clear K5
  generalize ((w5.setCell ⟨w2.heap.size, 0, none⟩ (.int .i64 x2)).setCell ⟨w2.heap.size, 1, none⟩ (.int .i64 y2)) = yw6 at *
  refine (P5.out _).mono ?_
  rintro e w7 ⟨rfl, hb⟩
  have L : Below yw6.heap.size yw6 w7 := (Below.refl _ _).trans (hb.mono (by simp <;> omega))
  have K7 : Below w.heap.size w w7 := K6.trans (L.mono K6.size)
  have RX := Rg.RC.keep L lx RX
  have RZ := Rg.RC.keep L lz RZ
  have t0 := Rg.keep L lt t0
  have t1 := Rg.keep L lt t1
  have t2 := Rg.keep L lt t2
  have t3 := Rg.keep L lt t3
  have t4 := Rg.keep L lt t4
  have a0 := Rg.keep L la a0
  have a1 := Rg.keep L la a1
  have b0 := Rg.keep L lb b0
  have b1 := Rg.keep L lb b1
  have x0 := Rg.keep L lx x0
  have x1' := Rg.keep L lx x1'
  have z0 := Rg.keep L lz z0
  have z1 := Rg.keep L lz z1
  have lt := Nat.lt_of_lt_of_le lt L.size
  have la := Nat.lt_of_lt_of_le la L.size
  have lb := Nat.lt_of_lt_of_le lb L.size
  have lx := Nat.lt_of_lt_of_le lx L.size
  have lz := Nat.lt_of_lt_of_le lz L.size
  clear hb L
  have rcf := RX.2.2.1
  have rcg := RX.2.2.2
  go_wp2_with fail
  clear rcf rcg
  have t0 : ((w7.setCell ⟨w1.heap.size, 0, none⟩ (.int .i64 x3)).setCell ⟨w1.heap.size, 1, none⟩ (.int .i64 y3)).cell? ⟨w.heap.size, 0, none⟩ = some (.int .i64 K) := Rg.far (by omega) t0
  have t1 : ((w7.setCell ⟨w1.heap.size, 0, none⟩ (.int .i64 x3)).setCell ⟨w1.heap.size, 1, none⟩ (.int .i64 y3)).cell? ⟨w.heap.size, 1, none⟩ = some (.int .i64 B) := Rg.far (by omega) t1
  have t2 : ((w7.setCell ⟨w1.heap.size, 0, none⟩ (.int .i64 x3)).setCell ⟨w1.heap.size, 1, none⟩ (.int .i64 y3)).cell? ⟨w.heap.size, 2, none⟩ = some (.int .i64 F) := Rg.far (by omega) t2
  have t3 : ((w7.setCell ⟨w1.heap.size, 0, none⟩ (.int .i64 x3)).setCell ⟨w1.heap.size, 1, none⟩ (.int .i64 y3)).cell? ⟨w.heap.size, 3, none⟩ = some (.int .i64 R) := Rg.far (by omega) t3
  have t4 : ((w7.setCell ⟨w1.heap.size, 0, none⟩ (.int .i64 x3)).setCell ⟨w1.heap.size, 1, none⟩ (.int .i64 y3)).cell? ⟨w.heap.size, 4, none⟩ = some (.int .i64 O) := Rg.far (by omega) t4
  have a0 : ((w7.setCell ⟨w1.heap.size, 0, none⟩ (.int .i64 x3)).setCell ⟨w1.heap.size, 1, none⟩ (.int .i64 y3)).cell? ⟨w.heap.size + 1, 0, none⟩ = some (.int .i64 n0) := Rg.far (by omega) a0
  have a1 : ((w7.setCell ⟨w1.heap.size, 0, none⟩ (.int .i64 x3)).setCell ⟨w1.heap.size, 1, none⟩ (.int .i64 y3)).cell? ⟨w.heap.size + 1, 1, none⟩ = some (.int .i64 d0) := Rg.far (by omega) a1
  have b0 : ((w7.setCell ⟨w1.heap.size, 0, none⟩ (.int .i64 x3)).setCell ⟨w1.heap.size, 1, none⟩ (.int .i64 y3)).cell? ⟨w.heap.size + 1 + 1, 0, none⟩ = some (.int .i64 n1) := Rg.far (by omega) b0
  have b1 : ((w7.setCell ⟨w1.heap.size, 0, none⟩ (.int .i64 x3)).setCell ⟨w1.heap.size, 1, none⟩ (.int .i64 y3)).cell? ⟨w.heap.size + 1 + 1, 1, none⟩ = some (.int .i64 d1) := Rg.far (by omega) b1
  have z0 : ((w7.setCell ⟨w1.heap.size, 0, none⟩ (.int .i64 x3)).setCell ⟨w1.heap.size, 1, none⟩ (.int .i64 y3)).cell? ⟨w2.heap.size, 0, none⟩ = some (.int .i64 x2) := Rg.far (by omega) z0
  have z1 : ((w7.setCell ⟨w1.heap.size, 0, none⟩ (.int .i64 x3)).setCell ⟨w1.heap.size, 1, none⟩ (.int .i64 y3)).cell? ⟨w2.heap.size, 1, none⟩ = some (.int .i64 y2) := Rg.far (by omega) z1
  have x0 : ((w7.setCell ⟨w1.heap.size, 0, none⟩ (.int .i64 x3)).setCell ⟨w1.heap.size, 1, none⟩ (.int .i64 y3)).cell? ⟨w1.heap.size, 0, none⟩ = some (.int .i64 x3) := Rg.RC.read0 RX
  have x1' : ((w7.setCell ⟨w1.heap.size, 0, none⟩ (.int .i64 x3)).setCell ⟨w1.heap.size, 1, none⟩ (.int .i64 y3)).cell? ⟨w1.heap.size, 1, none⟩ = some (.int .i64 y3) := Rg.RC.read1 RX
  have RZ : Rg.RC (w2.heap.size) ((w7.setCell ⟨w1.heap.size, 0, none⟩ (.int .i64 x3)).setCell ⟨w1.heap.size, 1, none⟩ (.int .i64 y3)) := Rg.RC.far (by omega) RZ
  have RX : Rg.RC (w1.heap.size) ((w7.setCell ⟨w1.heap.size, 0, none⟩ (.int .i64 x3)).setCell ⟨w1.heap.size, 1, none⟩ (.int .i64 y3)) := Rg.RC.store RX
  have lt : w.heap.size < ((w7.setCell ⟨w1.heap.size, 0, none⟩ (.int .i64 x3)).setCell ⟨w1.heap.size, 1, none⟩ (.int .i64 y3)).heap.size := by rw [Rg.size2]; exact lt
  have la : w.heap.size + 1 < ((w7.setCell ⟨w1.heap.size, 0, none⟩ (.int .i64 x3)).setCell ⟨w1.heap.size, 1, none⟩ (.int .i64 y3)).heap.size := by rw [Rg.size2]; exact la
  have lb : w.heap.size + 1 + 1 < ((w7.setCell ⟨w1.heap.size, 0, none⟩ (.int .i64 x3)).setCell ⟨w1.heap.size, 1, none⟩ (.int .i64 y3)).heap.size := by rw [Rg.size2]; exact lb
  have lx : w1.heap.size < ((w7.setCell ⟨w1.heap.size, 0, none⟩ (.int .i64 x3)).setCell ⟨w1.heap.size, 1, none⟩ (.int .i64 y3)).heap.size := by rw [Rg.size2]; exact lx
  have lz : w2.heap.size < ((w7.setCell ⟨w1.heap.size, 0, none⟩ (.int .i64 x3)).setCell ⟨w1.heap.size, 1, none⟩ (.int .i64 y3)).heap.size := by rw [Rg.size2]; exact lz
  have K8 : Below w.heap.size w ((w7.setCell ⟨w1.heap.size, 0, none⟩ (.int .i64 x3)).setCell ⟨w1.heap.size, 1, none⟩ (.int .i64 y3)) := Below.setCell (Below.setCell K7 (by dsimp only; omega) _) (by dsimp only; omega) _
  clear K7
  generalize ((w7.setCell ⟨w1.heap.size, 0, none⟩ (.int .i64 x3)).setCell ⟨w1.heap.size, 1, none⟩ (.int .i64 y3)) = yw8 at *
  refine (P6.out _).mono ?_
  rintro e w9 ⟨rfl, hb⟩
  have L : Below yw8.heap.size yw8 w9 := (Below.refl _ _).trans (hb.mono (by simp <;> omega))
  have K9 : Below w.heap.size w w9 := K8.trans (L.mono K8.size)
  have RX := Rg.RC.keep L lx RX
  have RZ := Rg.RC.keep L lz RZ
  have t0 := Rg.keep L lt t0
  have t1 := Rg.keep L lt t1
  have t2 := Rg.keep L lt t2
  have t3 := Rg.keep L lt t3
  have t4 := Rg.keep L lt t4
  have a0 := Rg.keep L la a0
  have a1 := Rg.keep L la a1
  have b0 := Rg.keep L lb b0
  have b1 := Rg.keep L lb b1
  have x0 := Rg.keep L lx x0
  have x1' := Rg.keep L lx x1'
  have z0 := Rg.keep L lz z0
  have z1 := Rg.keep L lz z1
  have lt := Nat.lt_of_lt_of_le lt L.size
  have la := Nat.lt_of_lt_of_le la L.size
  have lb := Nat.lt_of_lt_of_le lb L.size
  have lx := Nat.lt_of_lt_of_le lx L.size
  have lz := Nat.lt_of_lt_of_le lz L.size
  clear hb L
  have rcf := RZ.2.2.1
  have rcg := RZ.2.2.2
  go_wp2_with fail
  clear rcf rcg
  have t0 : ((w9.setCell ⟨w2.heap.size, 0, none⟩ (.int .i64 x3)).setCell ⟨w2.heap.size, 1, none⟩ (.int .i64 y3)).cell? ⟨w.heap.size, 0, none⟩ = some (.int .i64 K) := Rg.far (by omega) t0
  have t1 : ((w9.setCell ⟨w2.heap.size, 0, none⟩ (.int .i64 x3)).setCell ⟨w2.heap.size, 1, none⟩ (.int .i64 y3)).cell? ⟨w.heap.size, 1, none⟩ = some (.int .i64 B) := Rg.far (by omega) t1
  have t2 : ((w9.setCell ⟨w2.heap.size, 0, none⟩ (.int .i64 x3)).setCell ⟨w2.heap.size, 1, none⟩ (.int .i64 y3)).cell? ⟨w.heap.size, 2, none⟩ = some (.int .i64 F) := Rg.far (by omega) t2
  have t3 : ((w9.setCell ⟨w2.heap.size, 0, none⟩ (.int .i64 x3)).setCell ⟨w2.heap.size, 1, none⟩ (.int .i64 y3)).cell? ⟨w.heap.size, 3, none⟩ = some (.int .i64 R) := Rg.far (by omega) t3
  have t4 : ((w9.setCell ⟨w2.heap.size, 0, none⟩ (.int .i64 x3)).setCell ⟨w2.heap.size, 1, none⟩ (.int .i64 y3)).cell? ⟨w.heap.size, 4, none⟩ = some (.int .i64 O) := Rg.far (by omega) t4
  have a0 : ((w9.setCell ⟨w2.heap.size, 0, none⟩ (.int .i64 x3)).setCell ⟨w2.heap.size, 1, none⟩ (.int .i64 y3)).cell? ⟨w.heap.size + 1, 0, none⟩ = some (.int .i64 n0) := Rg.far (by omega) a0
  have a1 : ((w9.setCell ⟨w2.heap.size, 0, none⟩ (.int .i64 x3)).setCell ⟨w2.heap.size, 1, none⟩ (.int .i64 y3)).cell? ⟨w.heap.size + 1, 1, none⟩ = some (.int .i64 d0) := Rg.far (by omega) a1
  have b0 : ((w9.setCell ⟨w2.heap.size, 0, none⟩ (.int .i64 x3)).setCell ⟨w2.heap.size, 1, none⟩ (.int .i64 y3)).cell? ⟨w.heap.size + 1 + 1, 0, none⟩ = some (.int .i64 n1) := Rg.far (by omega) b0
  have b1 : ((w9.setCell ⟨w2.heap.size, 0, none⟩ (.int .i64 x3)).setCell ⟨w2.heap.size, 1, none⟩ (.int .i64 y3)).cell? ⟨w.heap.size + 1 + 1, 1, none⟩ = some (.int .i64 d1) := Rg.far (by omega) b1
  have x0 : ((w9.setCell ⟨w2.heap.size, 0, none⟩ (.int .i64 x3)).setCell ⟨w2.heap.size, 1, none⟩ (.int .i64 y3)).cell? ⟨w1.heap.size, 0, none⟩ = some (.int .i64 x3) := Rg.far (by omega) x0
  have x1' : ((w9.setCell ⟨w2.heap.size, 0, none⟩ (.int .i64 x3)).setCell ⟨w2.heap.size, 1, none⟩ (.int .i64 y3)).cell? ⟨w1.heap.size, 1, none⟩ = some (.int .i64 y3) := Rg.far (by omega) x1'
  have z0 : ((w9.setCell ⟨w2.heap.size, 0, none⟩ (.int .i64 x3)).setCell ⟨w2.heap.size, 1, none⟩ (.int .i64 y3)).cell? ⟨w2.heap.size, 0, none⟩ = some (.int .i64 x3) := Rg.RC.read0 RZ
  have z1 : ((w9.setCell ⟨w2.heap.size, 0, none⟩ (.int .i64 x3)).setCell ⟨w2.heap.size, 1, none⟩ (.int .i64 y3)).cell? ⟨w2.heap.size, 1, none⟩ = some (.int .i64 y3) := Rg.RC.read1 RZ
  have RX : Rg.RC (w1.heap.size) ((w9.setCell ⟨w2.heap.size, 0, none⟩ (.int .i64 x3)).setCell ⟨w2.heap.size, 1, none⟩ (.int .i64 y3)) := Rg.RC.far (by omega) RX
  have RZ : Rg.RC (w2.heap.size) ((w9.setCell ⟨w2.heap.size, 0, none⟩ (.int .i64 x3)).setCell ⟨w2.heap.size, 1, none⟩ (.int .i64 y3)) := Rg.RC.store RZ
  have lt : w.heap.size < ((w9.setCell ⟨w2.heap.size, 0, none⟩ (.int .i64 x3)).setCell ⟨w2.heap.size, 1, none⟩ (.int .i64 y3)).heap.size := by rw [Rg.size2]; exact lt
  have la : w.heap.size + 1 < ((w9.setCell ⟨w2.heap.size, 0, none⟩ (.int .i64 x3)).setCell ⟨w2.heap.size, 1, none⟩ (.int .i64 y3)).heap.size := by rw [Rg.size2]; exact la
  have lb : w.heap.size + 1 + 1 < ((w9.setCell ⟨w2.heap.size, 0, none⟩ (.int .i64 x3)).setCell ⟨w2.heap.size, 1, none⟩ (.int .i64 y3)).heap.size := by rw [Rg.size2]; exact lb
  have lx : w1.heap.size < ((w9.setCell ⟨w2.heap.size, 0, none⟩ (.int .i64 x3)).setCell ⟨w2.heap.size, 1, none⟩ (.int .i64 y3)).heap.size := by rw [Rg.size2]; exact lx
  have lz : w2.heap.size < ((w9.setCell ⟨w2.heap.size, 0, none⟩ (.int .i64 x3)).setCell ⟨w2.heap.size, 1, none⟩ (.int .i64 y3)).heap.size := by rw [Rg.size2]; exact lz
  have K10 : Below w.heap.size w ((w9.setCell ⟨w2.heap.size, 0, none⟩ (.int .i64 x3)).setCell ⟨w2.heap.size, 1, none⟩ (.int .i64 y3)) := Below.setCell (Below.setCell K9 (by dsimp only; omega) _) (by dsimp only; omega) _
  clear K9
  generalize ((w9.setCell ⟨w2.heap.size, 0, none⟩ (.int .i64 x3)).setCell ⟨w2.heap.size, 1, none⟩ (.int .i64 y3)) = yw10 at *
  refine (P7.out _).mono ?_
  rintro e w11 ⟨rfl, hb⟩
  have L : Below yw10.heap.size yw10 w11 := (Below.refl _ _).trans (hb.mono (by simp <;> omega))
  have K11 : Below w.heap.size w w11 := K10.trans (L.mono K10.size)
  have RX := Rg.RC.keep L lx RX
  have RZ := Rg.RC.keep L lz RZ
  have t0 := Rg.keep L lt t0
  have t1 := Rg.keep L lt t1
  have t2 := Rg.keep L lt t2
  have t3 := Rg.keep L lt t3
  have t4 := Rg.keep L lt t4
  have a0 := Rg.keep L la a0
  have a1 := Rg.keep L la a1
  have b0 := Rg.keep L lb b0
  have b1 := Rg.keep L lb b1
  have x0 := Rg.keep L lx x0
  have x1' := Rg.keep L lx x1'
  have z0 := Rg.keep L lz z0
  have z1 := Rg.keep L lz z1
  have lt := Nat.lt_of_lt_of_le lt L.size
  have la := Nat.lt_of_lt_of_le la L.size
  have lb := Nat.lt_of_lt_of_le lb L.size
  have lx := Nat.lt_of_lt_of_le lx L.size
  have lz := Nat.lt_of_lt_of_le lz L.size
  clear hb L
  have rcf := RX.2.2.1
  have rcg := RX.2.2.2
  go_wp2_with fail
  clear rcf rcg
  have t0 : ((w11.setCell ⟨w1.heap.size, 0, none⟩ (.int .i64 x4)).setCell ⟨w1.heap.size, 1, none⟩ (.int .i64 y4)).cell? ⟨w.heap.size, 0, none⟩ = some (.int .i64 K) := Rg.far (by omega) t0
  have t1 : ((w11.setCell ⟨w1.heap.size, 0, none⟩ (.int .i64 x4)).setCell ⟨w1.heap.size, 1, none⟩ (.int .i64 y4)).cell? ⟨w.heap.size, 1, none⟩ = some (.int .i64 B) := Rg.far (by omega) t1
  have t2 : ((w11.setCell ⟨w1.heap.size, 0, none⟩ (.int .i64 x4)).setCell ⟨w1.heap.size, 1, none⟩ (.int .i64 y4)).cell? ⟨w.heap.size, 2, none⟩ = some (.int .i64 F) := Rg.far (by omega) t2
  have t3 : ((w11.setCell ⟨w1.heap.size, 0, none⟩ (.int .i64 x4)).setCell ⟨w1.heap.size, 1, none⟩ (.int .i64 y4)).cell? ⟨w.heap.size, 3, none⟩ = some (.int .i64 R) := Rg.far (by omega) t3
  have t4 : ((w11.setCell ⟨w1.heap.size, 0, none⟩ (.int .i64 x4)).setCell ⟨w1.heap.size, 1, none⟩ (.int .i64 y4)).cell? ⟨w.heap.size, 4, none⟩ = some (.int .i64 O) := Rg.far (by omega) t4
  have a0 : ((w11.setCell ⟨w1.heap.size, 0, none⟩ (.int .i64 x4)).setCell ⟨w1.heap.size, 1, none⟩ (.int .i64 y4)).cell? ⟨w.heap.size + 1, 0, none⟩ = some (.int .i64 n0) := Rg.far (by omega) a0
  have a1 : ((w11.setCell ⟨w1.heap.size, 0, none⟩ (.int .i64 x4)).setCell ⟨w1.heap.size, 1, none⟩ (.int .i64 y4)).cell? ⟨w.heap.size + 1, 1, none⟩ = some (.int .i64 d0) := Rg.far (by omega) a1
  have b0 : ((w11.setCell ⟨w1.heap.size, 0, none⟩ (.int .i64 x4)).setCell ⟨w1.heap.size, 1, none⟩ (.int .i64 y4)).cell? ⟨w.heap.size + 1 + 1, 0, none⟩ = some (.int .i64 n1) := Rg.far (by omega) b0
  have b1 : ((w11.setCell ⟨w1.heap.size, 0, none⟩ (.int .i64 x4)).setCell ⟨w1.heap.size, 1, none⟩ (.int .i64 y4)).cell? ⟨w.heap.size + 1 + 1, 1, none⟩ = some (.int .i64 d1) := Rg.far (by omega) b1
  have z0 : ((w11.setCell ⟨w1.heap.size, 0, none⟩ (.int .i64 x4)).setCell ⟨w1.heap.size, 1, none⟩ (.int .i64 y4)).cell? ⟨w2.heap.size, 0, none⟩ = some (.int .i64 x3) := Rg.far (by omega) z0
  have z1 : ((w11.setCell ⟨w1.heap.size, 0, none⟩ (.int .i64 x4)).setCell ⟨w1.heap.size, 1, none⟩ (.int .i64 y4)).cell? ⟨w2.heap.size, 1, none⟩ = some (.int .i64 y3) := Rg.far (by omega) z1
  have x0 : ((w11.setCell ⟨w1.heap.size, 0, none⟩ (.int .i64 x4)).setCell ⟨w1.heap.size, 1, none⟩ (.int .i64 y4)).cell? ⟨w1.heap.size, 0, none⟩ = some (.int .i64 x4) := Rg.RC.read0 RX
  have x1' : ((w11.setCell ⟨w1.heap.size, 0, none⟩ (.int .i64 x4)).setCell ⟨w1.heap.size, 1, none⟩ (.int .i64 y4)).cell? ⟨w1.heap.size, 1, none⟩ = some (.int .i64 y4) := Rg.RC.read1 RX
  have RZ : Rg.RC (w2.heap.size) ((w11.setCell ⟨w1.heap.size, 0, none⟩ (.int .i64 x4)).setCell ⟨w1.heap.size, 1, none⟩ (.int .i64 y4)) := Rg.RC.far (by omega) RZ
  have RX : Rg.RC (w1.heap.size) ((w11.setCell ⟨w1.heap.size, 0, none⟩ (.int .i64 x4)).setCell ⟨w1.heap.size, 1, none⟩ (.int .i64 y4)) := Rg.RC.store RX
  have lt : w.heap.size < ((w11.setCell ⟨w1.heap.size, 0, none⟩ (.int .i64 x4)).setCell ⟨w1.heap.size, 1, none⟩ (.int .i64 y4)).heap.size := by rw [Rg.size2]; exact lt
  have la : w.heap.size + 1 < ((w11.setCell ⟨w1.heap.size, 0, none⟩ (.int .i64 x4)).setCell ⟨w1.heap.size, 1, none⟩ (.int .i64 y4)).heap.size := by rw [Rg.size2]; exact la
  have lb : w.heap.size + 1 + 1 < ((w11.setCell ⟨w1.heap.size, 0, none⟩ (.int .i64 x4)).setCell ⟨w1.heap.size, 1, none⟩ (.int .i64 y4)).heap.size := by rw [Rg.size2]; exact lb
  have lx : w1.heap.size < ((w11.setCell ⟨w1.heap.size, 0, none⟩ (.int .i64 x4)).setCell ⟨w1.heap.size, 1, none⟩ (.int .i64 y4)).heap.size := by rw [Rg.size2]; exact lx
  have lz : w2.heap.size < ((w11.setCell ⟨w1.heap.size, 0, none⟩ (.int .i64 x4)).setCell ⟨w1.heap.size, 1, none⟩ (.int .i64 y4)).heap.size := by rw [Rg.size2]; exact lz
  have K12 : Below w.heap.size w ((w11.setCell ⟨w1.heap.size, 0, none⟩ (.int .i64 x4)).setCell ⟨w1.heap.size, 1, none⟩ (.int .i64 y4)) := Below.setCell (Below.setCell K11 (by dsimp only; omega) _) (by dsimp only; omega) _
  clear K11
  generalize ((w11.setCell ⟨w1.heap.size, 0, none⟩ (.int .i64 x4)).setCell ⟨w1.heap.size, 1, none⟩ (.int .i64 y4)) = yw12 at *
  refine (P8.out _).mono ?_
  rintro e w13 ⟨rfl, hb⟩
  have L : Below yw12.heap.size yw12 w13 := (Below.refl _ _).trans (hb.mono (by simp <;> omega))
  have K13 : Below w.heap.size w w13 := K12.trans (L.mono K12.size)
  have RX := Rg.RC.keep L lx RX
  have RZ := Rg.RC.keep L lz RZ
  have t0 := Rg.keep L lt t0
  have t1 := Rg.keep L lt t1
  have t2 := Rg.keep L lt t2
  have t3 := Rg.keep L lt t3
  have t4 := Rg.keep L lt t4
  have a0 := Rg.keep L la a0
  have a1 := Rg.keep L la a1
  have b0 := Rg.keep L lb b0
  have b1 := Rg.keep L lb b1
  have x0 := Rg.keep L lx x0
  have x1' := Rg.keep L lx x1'
  have z0 := Rg.keep L lz z0
  have z1 := Rg.keep L lz z1
  have lt := Nat.lt_of_lt_of_le lt L.size
  have la := Nat.lt_of_lt_of_le la L.size
  have lb := Nat.lt_of_lt_of_le lb L.size
  have lx := Nat.lt_of_lt_of_le lx L.size
  have lz := Nat.lt_of_lt_of_le lz L.size
  clear hb L
  have rcf := RZ.2.2.1
  have rcg := RZ.2.2.2
  go_wp2_with fail
  clear rcf rcg
  have t0 : ((w13.setCell ⟨w2.heap.size, 0, none⟩ (.int .i64 x4)).setCell ⟨w2.heap.size, 1, none⟩ (.int .i64 y4)).cell? ⟨w.heap.size, 0, none⟩ = some (.int .i64 K) := Rg.far (by omega) t0
  have t1 : ((w13.setCell ⟨w2.heap.size, 0, none⟩ (.int .i64 x4)).setCell ⟨w2.heap.size, 1, none⟩ (.int .i64 y4)).cell? ⟨w.heap.size, 1, none⟩ = some (.int .i64 B) := Rg.far (by omega) t1
  have t2 : ((w13.setCell ⟨w2.heap.size, 0, none⟩ (.int .i64 x4)).setCell ⟨w2.heap.size, 1, none⟩ (.int .i64 y4)).cell? ⟨w.heap.size, 2, none⟩ = some (.int .i64 F) := Rg.far (by omega) t2
  have t3 : ((w13.setCell ⟨w2.heap.size, 0, none⟩ (.int .i64 x4)).setCell ⟨w2.heap.size, 1, none⟩ (.int .i64 y4)).cell? ⟨w.heap.size, 3, none⟩ = some (.int .i64 R) := Rg.far (by omega) t3
  have t4 : ((w13.setCell ⟨w2.heap.size, 0, none⟩ (.int .i64 x4)).setCell ⟨w2.heap.size, 1, none⟩ (.int .i64 y4)).cell? ⟨w.heap.size, 4, none⟩ = some (.int .i64 O) := Rg.far (by omega) t4
  have a0 : ((w13.setCell ⟨w2.heap.size, 0, none⟩ (.int .i64 x4)).setCell ⟨w2.heap.size, 1, none⟩ (.int .i64 y4)).cell? ⟨w.heap.size + 1, 0, none⟩ = some (.int .i64 n0) := Rg.far (by omega) a0
  have a1 : ((w13.setCell ⟨w2.heap.size, 0, none⟩ (.int .i64 x4)).setCell ⟨w2.heap.size, 1, none⟩ (.int .i64 y4)).cell? ⟨w.heap.size + 1, 1, none⟩ = some (.int .i64 d0) := Rg.far (by omega) a1
  have b0 : ((w13.setCell ⟨w2.heap.size, 0, none⟩ (.int .i64 x4)).setCell ⟨w2.heap.size, 1, none⟩ (.int .i64 y4)).cell? ⟨w.heap.size + 1 + 1, 0, none⟩ = some (.int .i64 n1) := Rg.far (by omega) b0
  have b1 : ((w13.setCell ⟨w2.heap.size, 0, none⟩ (.int .i64 x4)).setCell ⟨w2.heap.size, 1, none⟩ (.int .i64 y4)).cell? ⟨w.heap.size + 1 + 1, 1, none⟩ = some (.int .i64 d1) := Rg.far (by omega) b1
  have x0 : ((w13.setCell ⟨w2.heap.size, 0, none⟩ (.int .i64 x4)).setCell ⟨w2.heap.size, 1, none⟩ (.int .i64 y4)).cell? ⟨w1.heap.size, 0, none⟩ = some (.int .i64 x4) := Rg.far (by omega) x0
  have x1' : ((w13.setCell ⟨w2.heap.size, 0, none⟩ (.int .i64 x4)).setCell ⟨w2.heap.size, 1, none⟩ (.int .i64 y4)).cell? ⟨w1.heap.size, 1, none⟩ = some (.int .i64 y4) := Rg.far (by omega) x1'
  have z0 : ((w13.setCell ⟨w2.heap.size, 0, none⟩ (.int .i64 x4)).setCell ⟨w2.heap.size, 1, none⟩ (.int .i64 y4)).cell? ⟨w2.heap.size, 0, none⟩ = some (.int .i64 x4) := Rg.RC.read0 RZ
  have z1 : ((w13.setCell ⟨w2.heap.size, 0, none⟩ (.int .i64 x4)).setCell ⟨w2.heap.size, 1, none⟩ (.int .i64 y4)).cell? ⟨w2.heap.size, 1, none⟩ = some (.int .i64 y4) := Rg.RC.read1 RZ
  have RX : Rg.RC (w1.heap.size) ((w13.setCell ⟨w2.heap.size, 0, none⟩ (.int .i64 x4)).setCell ⟨w2.heap.size, 1, none⟩ (.int .i64 y4)) := Rg.RC.far (by omega) RX
  have RZ : Rg.RC (w2.heap.size) ((w13.setCell ⟨w2.heap.size, 0, none⟩ (.int .i64 x4)).setCell ⟨w2.heap.size, 1, none⟩ (.int .i64 y4)) := Rg.RC.store RZ
  have lt : w.heap.size < ((w13.setCell ⟨w2.heap.size, 0, none⟩ (.int .i64 x4)).setCell ⟨w2.heap.size, 1, none⟩ (.int .i64 y4)).heap.size := by rw [Rg.size2]; exact lt
  have la : w.heap.size + 1 < ((w13.setCell ⟨w2.heap.size, 0, none⟩ (.int .i64 x4)).setCell ⟨w2.heap.size, 1, none⟩ (.int .i64 y4)).heap.size := by rw [Rg.size2]; exact la
  have lb : w.heap.size + 1 + 1 < ((w13.setCell ⟨w2.heap.size, 0, none⟩ (.int .i64 x4)).setCell ⟨w2.heap.size, 1, none⟩ (.int .i64 y4)).heap.size := by rw [Rg.size2]; exact lb
  have lx : w1.heap.size < ((w13.setCell ⟨w2.heap.size, 0, none⟩ (.int .i64 x4)).setCell ⟨w2.heap.size, 1, none⟩ (.int .i64 y4)).heap.size := by rw [Rg.size2]; exact lx
  have lz : w2.heap.size < ((w13.setCell ⟨w2.heap.size, 0, none⟩ (.int .i64 x4)).setCell ⟨w2.heap.size, 1, none⟩ (.int .i64 y4)).heap.size := by rw [Rg.size2]; exact lz
  have K14 : Below w.heap.size w ((w13.setCell ⟨w2.heap.size, 0, none⟩ (.int .i64 x4)).setCell ⟨w2.heap.size, 1, none⟩ (.int .i64 y4)) := Below.setCell (Below.setCell K13 (by dsimp only; omega) _) (by dsimp only; omega) _
  clear K13
  generalize ((w13.setCell ⟨w2.heap.size, 0, none⟩ (.int .i64 x4)).setCell ⟨w2.heap.size, 1, none⟩ (.int .i64 y4)) = yw14 at *
  refine (P9.out _).mono ?_
  rintro e w15 ⟨rfl, hb⟩
  have L : Below yw14.heap.size yw14 w15 := (Below.refl _ _).trans (hb.mono (by simp <;> omega))
  have K15 : Below w.heap.size w w15 := K14.trans (L.mono K14.size)
  have RX := Rg.RC.keep L lx RX
  have RZ := Rg.RC.keep L lz RZ
  have t0 := Rg.keep L lt t0
  have t1 := Rg.keep L lt t1
  have t2 := Rg.keep L lt t2
  have t3 := Rg.keep L lt t3
  have t4 := Rg.keep L lt t4
  have a0 := Rg.keep L la a0
  have a1 := Rg.keep L la a1
  have b0 := Rg.keep L lb b0
  have b1 := Rg.keep L lb b1
  have x0 := Rg.keep L lx x0
  have x1' := Rg.keep L lx x1'
  have z0 := Rg.keep L lz z0
  have z1 := Rg.keep L lz z1
  have lt := Nat.lt_of_lt_of_le lt L.size
  have la := Nat.lt_of_lt_of_le la L.size
  have lb := Nat.lt_of_lt_of_le lb L.size
  have lx := Nat.lt_of_lt_of_le lx L.size
  have lz := Nat.lt_of_lt_of_le lz L.size
  clear hb L
  have rcf := RX.2.2.1
  have rcg := RX.2.2.2
  go_wp2_with fail
  clear rcf rcg
  have t0 : ((w15.setCell ⟨w1.heap.size, 0, none⟩ (.int .i64 x5)).setCell ⟨w1.heap.size, 1, none⟩ (.int .i64 y5)).cell? ⟨w.heap.size, 0, none⟩ = some (.int .i64 K) := Rg.far (by omega) t0
  have t1 : ((w15.setCell ⟨w1.heap.size, 0, none⟩ (.int .i64 x5)).setCell ⟨w1.heap.size, 1, none⟩ (.int .i64 y5)).cell? ⟨w.heap.size, 1, none⟩ = some (.int .i64 B) := Rg.far (by omega) t1
  have t2 : ((w15.setCell ⟨w1.heap.size, 0, none⟩ (.int .i64 x5)).setCell ⟨w1.heap.size, 1, none⟩ (.int .i64 y5)).cell? ⟨w.heap.size, 2, none⟩ = some (.int .i64 F) := Rg.far (by omega) t2
  have t3 : ((w15.setCell ⟨w1.heap.size, 0, none⟩ (.int .i64 x5)).setCell ⟨w1.heap.size, 1, none⟩ (.int .i64 y5)).cell? ⟨w.heap.size, 3, none⟩ = some (.int .i64 R) := Rg.far (by omega) t3
  have t4 : ((w15.setCell ⟨w1.heap.size, 0, none⟩ (.int .i64 x5)).setCell ⟨w1.heap.size, 1, none⟩ (.int .i64 y5)).cell? ⟨w.heap.size, 4, none⟩ = some (.int .i64 O) := Rg.far (by omega) t4
  have a0 : ((w15.setCell ⟨w1.heap.size, 0, none⟩ (.int .i64 x5)).setCell ⟨w1.heap.size, 1, none⟩ (.int .i64 y5)).cell? ⟨w.heap.size + 1, 0, none⟩ = some (.int .i64 n0) := Rg.far (by omega) a0
  have a1 : ((w15.setCell ⟨w1.heap.size, 0, none⟩ (.int .i64 x5)).setCell ⟨w1.heap.size, 1, none⟩ (.int .i64 y5)).cell? ⟨w.heap.size + 1, 1, none⟩ = some (.int .i64 d0) := Rg.far (by omega) a1
  have b0 : ((w15.setCell ⟨w1.heap.size, 0, none⟩ (.int .i64 x5)).setCell ⟨w1.heap.size, 1, none⟩ (.int .i64 y5)).cell? ⟨w.heap.size + 1 + 1, 0, none⟩ = some (.int .i64 n1) := Rg.far (by omega) b0
  have b1 : ((w15.setCell ⟨w1.heap.size, 0, none⟩ (.int .i64 x5)).setCell ⟨w1.heap.size, 1, none⟩ (.int .i64 y5)).cell? ⟨w.heap.size + 1 + 1, 1, none⟩ = some (.int .i64 d1) := Rg.far (by omega) b1
  have z0 : ((w15.setCell ⟨w1.heap.size, 0, none⟩ (.int .i64 x5)).setCell ⟨w1.heap.size, 1, none⟩ (.int .i64 y5)).cell? ⟨w2.heap.size, 0, none⟩ = some (.int .i64 x4) := Rg.far (by omega) z0
  have z1 : ((w15.setCell ⟨w1.heap.size, 0, none⟩ (.int .i64 x5)).setCell ⟨w1.heap.size, 1, none⟩ (.int .i64 y5)).cell? ⟨w2.heap.size, 1, none⟩ = some (.int .i64 y4) := Rg.far (by omega) z1
  have x0 : ((w15.setCell ⟨w1.heap.size, 0, none⟩ (.int .i64 x5)).setCell ⟨w1.heap.size, 1, none⟩ (.int .i64 y5)).cell? ⟨w1.heap.size, 0, none⟩ = some (.int .i64 x5) := Rg.RC.read0 RX
  have x1' : ((w15.setCell ⟨w1.heap.size, 0, none⟩ (.int .i64 x5)).setCell ⟨w1.heap.size, 1, none⟩ (.int .i64 y5)).cell? ⟨w1.heap.size, 1, none⟩ = some (.int .i64 y5) := Rg.RC.read1 RX
  have RZ : Rg.RC (w2.heap.size) ((w15.setCell ⟨w1.heap.size, 0, none⟩ (.int .i64 x5)).setCell ⟨w1.heap.size, 1, none⟩ (.int .i64 y5)) := Rg.RC.far (by omega) RZ
  have RX : Rg.RC (w1.heap.size) ((w15.setCell ⟨w1.heap.size, 0, none⟩ (.int .i64 x5)).setCell ⟨w1.heap.size, 1, none⟩ (.int .i64 y5)) := Rg.RC.store RX
  have lt : w.heap.size < ((w15.setCell ⟨w1.heap.size, 0, none⟩ (.int .i64 x5)).setCell ⟨w1.heap.size, 1, none⟩ (.int .i64 y5)).heap.size := by rw [Rg.size2]; exact lt
  have la : w.heap.size + 1 < ((w15.setCell ⟨w1.heap.size, 0, none⟩ (.int .i64 x5)).setCell ⟨w1.heap.size, 1, none⟩ (.int .i64 y5)).heap.size := by rw [Rg.size2]; exact la
  have lb : w.heap.size + 1 + 1 < ((w15.setCell ⟨w1.heap.size, 0, none⟩ (.int .i64 x5)).setCell ⟨w1.heap.size, 1, none⟩ (.int .i64 y5)).heap.size := by rw [Rg.size2]; exact lb
  have lx : w1.heap.size < ((w15.setCell ⟨w1.heap.size, 0, none⟩ (.int .i64 x5)).setCell ⟨w1.heap.size, 1, none⟩ (.int .i64 y5)).heap.size := by rw [Rg.size2]; exact lx
  have lz : w2.heap.size < ((w15.setCell ⟨w1.heap.size, 0, none⟩ (.int .i64 x5)).setCell ⟨w1.heap.size, 1, none⟩ (.int .i64 y5)).heap.size := by rw [Rg.size2]; exact lz
  have K16 : Below w.heap.size w ((w15.setCell ⟨w1.heap.size, 0, none⟩ (.int .i64 x5)).setCell ⟨w1.heap.size, 1, none⟩ (.int .i64 y5)) := Below.setCell (Below.setCell K15 (by dsimp only; omega) _) (by dsimp only; omega) _
  clear K15
  generalize ((w15.setCell ⟨w1.heap.size, 0, none⟩ (.int .i64 x5)).setCell ⟨w1.heap.size, 1, none⟩ (.int .i64 y5)) = yw16 at *
  refine (P10.out _).mono ?_
  rintro e w17 ⟨rfl, hb⟩
  have L : Below yw16.heap.size yw16 w17 := (Below.refl _ _).trans (hb.mono (by simp <;> omega))
  have K17 : Below w.heap.size w w17 := K16.trans (L.mono K16.size)
  have RX := Rg.RC.keep L lx RX
  have RZ := Rg.RC.keep L lz RZ
  have t0 := Rg.keep L lt t0
  have t1 := Rg.keep L lt t1
  have t2 := Rg.keep L lt t2
  have t3 := Rg.keep L lt t3
  have t4 := Rg.keep L lt t4
  have a0 := Rg.keep L la a0
  have a1 := Rg.keep L la a1
  have b0 := Rg.keep L lb b0
  have b1 := Rg.keep L lb b1
  have x0 := Rg.keep L lx x0
  have x1' := Rg.keep L lx x1'
  have z0 := Rg.keep L lz z0
  have z1 := Rg.keep L lz z1
  have lt := Nat.lt_of_lt_of_le lt L.size
  have la := Nat.lt_of_lt_of_le la L.size
  have lb := Nat.lt_of_lt_of_le lb L.size
  have lx := Nat.lt_of_lt_of_le lx L.size
  have lz := Nat.lt_of_lt_of_le lz L.size
  clear hb L
  have rcf := RZ.2.2.1
  have rcg := RZ.2.2.2
  go_wp2_with fail
  clear rcf rcg
  have t0 : ((w17.setCell ⟨w2.heap.size, 0, none⟩ (.int .i64 x5)).setCell ⟨w2.heap.size, 1, none⟩ (.int .i64 y5)).cell? ⟨w.heap.size, 0, none⟩ = some (.int .i64 K) := Rg.far (by omega) t0
  have t1 : ((w17.setCell ⟨w2.heap.size, 0, none⟩ (.int .i64 x5)).setCell ⟨w2.heap.size, 1, none⟩ (.int .i64 y5)).cell? ⟨w.heap.size, 1, none⟩ = some (.int .i64 B) := Rg.far (by omega) t1
  have t2 : ((w17.setCell ⟨w2.heap.size, 0, none⟩ (.int .i64 x5)).setCell ⟨w2.heap.size, 1, none⟩ (.int .i64 y5)).cell? ⟨w.heap.size, 2, none⟩ = some (.int .i64 F) := Rg.far (by omega) t2
  have t3 : ((w17.setCell ⟨w2.heap.size, 0, none⟩ (.int .i64 x5)).setCell ⟨w2.heap.size, 1, none⟩ (.int .i64 y5)).cell? ⟨w.heap.size, 3, none⟩ = some (.int .i64 R) := Rg.far (by omega) t3
  have t4 : ((w17.setCell ⟨w2.heap.size, 0, none⟩ (.int .i64 x5)).setCell ⟨w2.heap.size, 1, none⟩ (.int .i64 y5)).cell? ⟨w.heap.size, 4, none⟩ = some (.int .i64 O) := Rg.far (by omega) t4
  have a0 : ((w17.setCell ⟨w2.heap.size, 0, none⟩ (.int .i64 x5)).setCell ⟨w2.heap.size, 1, none⟩ (.int .i64 y5)).cell? ⟨w.heap.size + 1, 0, none⟩ = some (.int .i64 n0) := Rg.far (by omega) a0
  have a1 : ((w17.setCell ⟨w2.heap.size, 0, none⟩ (.int .i64 x5)).setCell ⟨w2.heap.size, 1, none⟩ (.int .i64 y5)).cell? ⟨w.heap.size + 1, 1, none⟩ = some (.int .i64 d0) := Rg.far (by omega) a1
  have b0 : ((w17.setCell ⟨w2.heap.size, 0, none⟩ (.int .i64 x5)).setCell ⟨w2.heap.size, 1, none⟩ (.int .i64 y5)).cell? ⟨w.heap.size + 1 + 1, 0, none⟩ = some (.int .i64 n1) := Rg.far (by omega) b0
  have b1 : ((w17.setCell ⟨w2.heap.size, 0, none⟩ (.int .i64 x5)).setCell ⟨w2.heap.size, 1, none⟩ (.int .i64 y5)).cell? ⟨w.heap.size + 1 + 1, 1, none⟩ = some (.int .i64 d1) := Rg.far (by omega) b1
  have x0 : ((w17.setCell ⟨w2.heap.size, 0, none⟩ (.int .i64 x5)).setCell ⟨w2.heap.size, 1, none⟩ (.int .i64 y5)).cell? ⟨w1.heap.size, 0, none⟩ = some (.int .i64 x5) := Rg.far (by omega) x0
  have x1' : ((w17.setCell ⟨w2.heap.size, 0, none⟩ (.int .i64 x5)).setCell ⟨w2.heap.size, 1, none⟩ (.int .i64 y5)).cell? ⟨w1.heap.size, 1, none⟩ = some (.int .i64 y5) := Rg.far (by omega) x1'
  have z0 : ((w17.setCell ⟨w2.heap.size, 0, none⟩ (.int .i64 x5)).setCell ⟨w2.heap.size, 1, none⟩ (.int .i64 y5)).cell? ⟨w2.heap.size, 0, none⟩ = some (.int .i64 x5) := Rg.RC.read0 RZ
  have z1 : ((w17.setCell ⟨w2.heap.size, 0, none⟩ (.int .i64 x5)).setCell ⟨w2.heap.size, 1, none⟩ (.int .i64 y5)).cell? ⟨w2.heap.size, 1, none⟩ = some (.int .i64 y5) := Rg.RC.read1 RZ
  have RX : Rg.RC (w1.heap.size) ((w17.setCell ⟨w2.heap.size, 0, none⟩ (.int .i64 x5)).setCell ⟨w2.heap.size, 1, none⟩ (.int .i64 y5)) := Rg.RC.far (by omega) RX
  have RZ : Rg.RC (w2.heap.size) ((w17.setCell ⟨w2.heap.size, 0, none⟩ (.int .i64 x5)).setCell ⟨w2.heap.size, 1, none⟩ (.int .i64 y5)) := Rg.RC.store RZ
  have lt : w.heap.size < ((w17.setCell ⟨w2.heap.size, 0, none⟩ (.int .i64 x5)).setCell ⟨w2.heap.size, 1, none⟩ (.int .i64 y5)).heap.size := by rw [Rg.size2]; exact lt
  have la : w.heap.size + 1 < ((w17.setCell ⟨w2.heap.size, 0, none⟩ (.int .i64 x5)).setCell ⟨w2.heap.size, 1, none⟩ (.int .i64 y5)).heap.size := by rw [Rg.size2]; exact la
  have lb : w.heap.size + 1 + 1 < ((w17.setCell ⟨w2.heap.size, 0, none⟩ (.int .i64 x5)).setCell ⟨w2.heap.size, 1, none⟩ (.int .i64 y5)).heap.size := by rw [Rg.size2]; exact lb
  have lx : w1.heap.size < ((w17.setCell ⟨w2.heap.size, 0, none⟩ (.int .i64 x5)).setCell ⟨w2.heap.size, 1, none⟩ (.int .i64 y5)).heap.size := by rw [Rg.size2]; exact lx
  have lz : w2.heap.size < ((w17.setCell ⟨w2.heap.size, 0, none⟩ (.int .i64 x5)).setCell ⟨w2.heap.size, 1, none⟩ (.int .i64 y5)).heap.size := by rw [Rg.size2]; exact lz
  have K18 : Below w.heap.size w ((w17.setCell ⟨w2.heap.size, 0, none⟩ (.int .i64 x5)).setCell ⟨w2.heap.size, 1, none⟩ (.int .i64 y5)) := Below.setCell (Below.setCell K17 (by dsimp only; omega) _) (by dsimp only; omega) _
  clear K17
  generalize ((w17.setCell ⟨w2.heap.size, 0, none⟩ (.int .i64 x5)).setCell ⟨w2.heap.size, 1, none⟩ (.int .i64 y5)) = yw18 at *
  refine (EX.out _).mono ?_
  rintro e w19 ⟨rfl, hb⟩
  have L : Below yw18.heap.size yw18 w19 := (Below.refl _ _).trans (hb.mono (by simp <;> omega))
  have K19 : Below w.heap.size w w19 := K18.trans (L.mono K18.size)
  have RX := Rg.RC.keep L lx RX
  have RZ := Rg.RC.keep L lz RZ
  have t0 := Rg.keep L lt t0
  have t1 := Rg.keep L lt t1
  have t2 := Rg.keep L lt t2
  have t3 := Rg.keep L lt t3
  have t4 := Rg.keep L lt t4
  have a0 := Rg.keep L la a0
  have a1 := Rg.keep L la a1
  have b0 := Rg.keep L lb b0
  have b1 := Rg.keep L lb b1
  have x0 := Rg.keep L lx x0
  have x1' := Rg.keep L lx x1'
  have z0 := Rg.keep L lz z0
  have z1 := Rg.keep L lz z1
  have lt := Nat.lt_of_lt_of_le lt L.size
  have la := Nat.lt_of_lt_of_le la L.size
  have lb := Nat.lt_of_lt_of_le lb L.size
  have lx := Nat.lt_of_lt_of_le lx L.size
  have lz := Nat.lt_of_lt_of_le lz L.size
  clear hb L
  go_wp2
  go_ret
  exact ⟨rfl, K19⟩
set_option maxHeartbeats 16000000 in
theorem law_va (K B F R O n0 d0 x y e c : Int) (b : Bool) (w : World) (P1 : Hid (∀ w, Calls Try.prog 15 #[.agg #[.int .i64 K, .int .i64 B, .int .i64 F, .int .i64 R, .int .i64 O]] w (Ret (Frac3 x y e) w))) (P2 : Hid (∀ w, Calls Try.prog 16 #[.agg #[.int .i64 K, .int .i64 B, .int .i64 F, .int .i64 R, .int .i64 O]] w (Ret (Frac3 x y e) w))) (V1 : Hid (∀ w, Calls Try.prog 17 #[.agg #[.int .i64 K, .int .i64 B, .int .i64 F, .int .i64 R, .int .i64 O]] w (Ret (.int .i64 c) w))) (V2 : Hid (∀ w, Calls Try.prog 18 #[.agg #[.int .i64 K, .int .i64 B, .int .i64 F, .int .i64 R, .int .i64 O]] w (Ret (.int .i64 c) w))) (V3 : Hid (∀ w, Calls Try.prog 19 #[.agg #[.int .i64 K, .int .i64 B, .int .i64 F, .int .i64 R, .int .i64 O], .agg #[.int .i64 n0, .int .i64 d0]] w (Ret (.bool b) w))) (V4 : Hid (∀ w, Calls Try.prog 20 #[.agg #[.int .i64 K, .int .i64 B, .int .i64 F, .int .i64 R, .int .i64 O], .agg #[.int .i64 n0, .int .i64 d0]] w (Ret (.bool b) w))) (EX : Hid (∀ w, Calls Try.prog 21 #[] w (Ret (.bool true) w))) : Calls Try.prog 3 #[.agg #[.int .i64 K, .int .i64 B, .int .i64 F, .int .i64 R, .int .i64 O], .agg #[.int .i64 n0, .int .i64 d0]] w (Ret (.bool true) w) := by
  cases b
  all_goals
    have E1 := fun (b : Bool) (w : World) => (by cases b <;> rfl : (binOp .eql 4 (.bool b) (.bool b)).run Try.prog w = .ok (.bool true) w)
    go_enter Try.func3, Try.ntmps3
    go_wp2_with fail
    refine (P1.out _).mono ?_
    rintro e w1 ⟨rfl, hb⟩
    have L : Below w.heap.size w w1 := (((Below.refl _ _).alloc (by simp <;> omega) _).alloc (by simp <;> omega) _).trans (hb.mono (by simp <;> omega))
    have K1 : Below w.heap.size w w1 := L
    have lt : w.heap.size < w1.heap.size := Nat.lt_of_lt_of_le (by simp <;> omega) hb.size
    have t0 : w1.cell? ⟨w.heap.size, 0, none⟩ = some (.int .i64 K) := Rg.keep hb (by simp <;> omega) (by go_cell)
    have t1 : w1.cell? ⟨w.heap.size, 1, none⟩ = some (.int .i64 B) := Rg.keep hb (by simp <;> omega) (by go_cell)
    have t2 : w1.cell? ⟨w.heap.size, 2, none⟩ = some (.int .i64 F) := Rg.keep hb (by simp <;> omega) (by go_cell)
    have t3 : w1.cell? ⟨w.heap.size, 3, none⟩ = some (.int .i64 R) := Rg.keep hb (by simp <;> omega) (by go_cell)
    have t4 : w1.cell? ⟨w.heap.size, 4, none⟩ = some (.int .i64 O) := Rg.keep hb (by simp <;> omega) (by go_cell)
    have la : w.heap.size + 1 < w1.heap.size := Nat.lt_of_lt_of_le (by simp <;> omega) hb.size
    have a0 : w1.cell? ⟨w.heap.size + 1, 0, none⟩ = some (.int .i64 n0) := Rg.keep hb (by simp <;> omega) (by go_cell)
    have a1 : w1.cell? ⟨w.heap.size + 1, 1, none⟩ = some (.int .i64 d0) := Rg.keep hb (by simp <;> omega) (by go_cell)
    clear hb L
    go_wp2_with fail
    refine (P2.out _).mono ?_
    rintro e w2 ⟨rfl, hb⟩
    have L : Below w1.heap.size w1 w2 := ((Below.refl _ _).alloc (by simp <;> omega) _).trans (hb.mono (by simp <;> omega))
    have K2 : Below w.heap.size w w2 := K1.trans (L.mono K1.size)
    have lx : w1.heap.size < w2.heap.size := Nat.lt_of_lt_of_le (by simp <;> omega) hb.size
    have x0 : w2.cell? ⟨w1.heap.size, 0, none⟩ = some (.int .i64 x) := Rg.keep hb (by simp <;> omega) (by go_cell)
    have x1 : w2.cell? ⟨w1.heap.size, 1, none⟩ = some (.int .i64 y) := Rg.keep hb (by simp <;> omega) (by go_cell)
    have t0 := Rg.keep L lt t0
    have t1 := Rg.keep L lt t1
    have t2 := Rg.keep L lt t2
    have t3 := Rg.keep L lt t3
    have t4 := Rg.keep L lt t4
    have a0 := Rg.keep L la a0
    have a1 := Rg.keep L la a1
    have lt := Nat.lt_of_lt_of_le lt L.size
    have la := Nat.lt_of_lt_of_le la L.size
    clear hb L
    go_wp2_with fail
    have z0 : Below w2.heap.size w2 (w2.alloc (.cells #[.int .i64 x, .int .i64 y] 25)) := (Below.refl _ _).alloc (Nat.le_refl _) _
    have hz : (w2.alloc (.cells #[.int .i64 x, .int .i64 y] 25)).cell? ⟨w.heap.size, 0, none⟩ = some (.int .i64 K) ∧ (w2.alloc (.cells #[.int .i64 x, .int .i64 y] 25)).cell? ⟨w.heap.size, 1, none⟩ = some (.int .i64 B) ∧ (w2.alloc (.cells #[.int .i64 x, .int .i64 y] 25)).cell? ⟨w.heap.size, 2, none⟩ = some (.int .i64 F) ∧ (w2.alloc (.cells #[.int .i64 x, .int .i64 y] 25)).cell? ⟨w.heap.size, 3, none⟩ = some (.int .i64 R) ∧ (w2.alloc (.cells #[.int .i64 x, .int .i64 y] 25)).cell? ⟨w.heap.size, 4, none⟩ = some (.int .i64 O) ∧ (w2.alloc (.cells #[.int .i64 x, .int .i64 y] 25)).cell? ⟨w.heap.size + 1, 0, none⟩ = some (.int .i64 n0) ∧ (w2.alloc (.cells #[.int .i64 x, .int .i64 y] 25)).cell? ⟨w.heap.size + 1, 1, none⟩ = some (.int .i64 d0) ∧ (w2.alloc (.cells #[.int .i64 x, .int .i64 y] 25)).cell? ⟨w1.heap.size, 0, none⟩ = some (.int .i64 x) ∧ (w2.alloc (.cells #[.int .i64 x, .int .i64 y] 25)).cell? ⟨w1.heap.size, 1, none⟩ = some (.int .i64 y) ∧ (w2.alloc (.cells #[.int .i64 x, .int .i64 y] 25)).cell? ⟨w2.heap.size, 0, none⟩ = some (.int .i64 x) ∧ (w2.alloc (.cells #[.int .i64 x, .int .i64 y] 25)).cell? ⟨w2.heap.size, 1, none⟩ = some (.int .i64 y) ∧ (w2.alloc (.cells #[.int .i64 x, .int .i64 y] 25)).heap.size ≤ (w2.alloc (.cells #[.int .i64 x, .int .i64 y] 25)).heap.size ∧ Below w.heap.size w (w2.alloc (.cells #[.int .i64 x, .int .i64 y] 25)) :=
      ⟨Rg.keep z0 lt t0, Rg.keep z0 lt t1, Rg.keep z0 lt t2, Rg.keep z0 lt t3, Rg.keep z0 lt t4, Rg.keep z0 la a0, Rg.keep z0 la a1, Rg.keep z0 lx x0, Rg.keep z0 lx x1, by go_cell, by go_cell, Nat.le_refl _, K2.trans (z0.mono K2.size)⟩
    have ly : w2.heap.size < (w2.alloc (.cells #[.int .i64 x, .int .i64 y] 25)).heap.size := by simp
    have la := Nat.lt_of_lt_of_le la z0.size
    have lt := Nat.lt_of_lt_of_le lt z0.size
    have lx := Nat.lt_of_lt_of_le lx z0.size
    clear z0 t0 t1 t2 t3 t4 a0 a1 x0 x1 K1 K2
    generalize (w2.alloc (.cells #[.int .i64 x, .int .i64 y] 25)) = z at *
    have HS : Hid (∀ u u' : World, (u.cell? ⟨w.heap.size, 0, none⟩ = some (.int .i64 K) ∧ u.cell? ⟨w.heap.size, 1, none⟩ = some (.int .i64 B) ∧ u.cell? ⟨w.heap.size, 2, none⟩ = some (.int .i64 F) ∧ u.cell? ⟨w.heap.size, 3, none⟩ = some (.int .i64 R) ∧ u.cell? ⟨w.heap.size, 4, none⟩ = some (.int .i64 O) ∧ u.cell? ⟨w.heap.size + 1, 0, none⟩ = some (.int .i64 n0) ∧ u.cell? ⟨w.heap.size + 1, 1, none⟩ = some (.int .i64 d0) ∧ u.cell? ⟨w1.heap.size, 0, none⟩ = some (.int .i64 x) ∧ u.cell? ⟨w1.heap.size, 1, none⟩ = some (.int .i64 y) ∧ u.cell? ⟨w2.heap.size, 0, none⟩ = some (.int .i64 x) ∧ u.cell? ⟨w2.heap.size, 1, none⟩ = some (.int .i64 y) ∧ z.heap.size ≤ u.heap.size ∧ Below w.heap.size w u) → Below u.heap.size u u' → (u'.cell? ⟨w.heap.size, 0, none⟩ = some (.int .i64 K) ∧ u'.cell? ⟨w.heap.size, 1, none⟩ = some (.int .i64 B) ∧ u'.cell? ⟨w.heap.size, 2, none⟩ = some (.int .i64 F) ∧ u'.cell? ⟨w.heap.size, 3, none⟩ = some (.int .i64 R) ∧ u'.cell? ⟨w.heap.size, 4, none⟩ = some (.int .i64 O) ∧ u'.cell? ⟨w.heap.size + 1, 0, none⟩ = some (.int .i64 n0) ∧ u'.cell? ⟨w.heap.size + 1, 1, none⟩ = some (.int .i64 d0) ∧ u'.cell? ⟨w1.heap.size, 0, none⟩ = some (.int .i64 x) ∧ u'.cell? ⟨w1.heap.size, 1, none⟩ = some (.int .i64 y) ∧ u'.cell? ⟨w2.heap.size, 0, none⟩ = some (.int .i64 x) ∧ u'.cell? ⟨w2.heap.size, 1, none⟩ = some (.int .i64 y) ∧ z.heap.size ≤ u'.heap.size ∧ Below w.heap.size w u')) := Lib.hid (fun u u' h hb => ⟨Rg.keep hb (Nat.lt_of_lt_of_le lt h.2.2.2.2.2.2.2.2.2.2.2.1) h.1, Rg.keep hb (Nat.lt_of_lt_of_le lt h.2.2.2.2.2.2.2.2.2.2.2.1) h.2.1, Rg.keep hb (Nat.lt_of_lt_of_le lt h.2.2.2.2.2.2.2.2.2.2.2.1) h.2.2.1, Rg.keep hb (Nat.lt_of_lt_of_le lt h.2.2.2.2.2.2.2.2.2.2.2.1) h.2.2.2.1, Rg.keep hb (Nat.lt_of_lt_of_le lt h.2.2.2.2.2.2.2.2.2.2.2.1) h.2.2.2.2.1, Rg.keep hb (Nat.lt_of_lt_of_le la h.2.2.2.2.2.2.2.2.2.2.2.1) h.2.2.2.2.2.1, Rg.keep hb (Nat.lt_of_lt_of_le la h.2.2.2.2.2.2.2.2.2.2.2.1) h.2.2.2.2.2.2.1, Rg.keep hb (Nat.lt_of_lt_of_le lx h.2.2.2.2.2.2.2.2.2.2.2.1) h.2.2.2.2.2.2.2.1, Rg.keep hb (Nat.lt_of_lt_of_le lx h.2.2.2.2.2.2.2.2.2.2.2.1) h.2.2.2.2.2.2.2.2.1, Rg.keep hb (Nat.lt_of_lt_of_le ly h.2.2.2.2.2.2.2.2.2.2.2.1) h.2.2.2.2.2.2.2.2.2.1, Rg.keep hb (Nat.lt_of_lt_of_le ly h.2.2.2.2.2.2.2.2.2.2.2.1) h.2.2.2.2.2.2.2.2.2.2.1, Nat.le_trans h.2.2.2.2.2.2.2.2.2.2.2.1 hb.size, h.2.2.2.2.2.2.2.2.2.2.2.2.trans (hb.mono h.2.2.2.2.2.2.2.2.2.2.2.2.size)⟩)
    refine wp_region_held_drew (S := fun w' => w'.cell? ⟨w.heap.size, 0, none⟩ = some (.int .i64 K) ∧ w'.cell? ⟨w.heap.size, 1, none⟩ = some (.int .i64 B) ∧ w'.cell? ⟨w.heap.size, 2, none⟩ = some (.int .i64 F) ∧ w'.cell? ⟨w.heap.size, 3, none⟩ = some (.int .i64 R) ∧ w'.cell? ⟨w.heap.size, 4, none⟩ = some (.int .i64 O) ∧ w'.cell? ⟨w.heap.size + 1, 0, none⟩ = some (.int .i64 n0) ∧ w'.cell? ⟨w.heap.size + 1, 1, none⟩ = some (.int .i64 d0) ∧ w'.cell? ⟨w1.heap.size, 0, none⟩ = some (.int .i64 x) ∧ w'.cell? ⟨w1.heap.size, 1, none⟩ = some (.int .i64 y) ∧ w'.cell? ⟨w2.heap.size, 0, none⟩ = some (.int .i64 x) ∧ w'.cell? ⟨w2.heap.size, 1, none⟩ = some (.int .i64 y) ∧ z.heap.size ≤ w'.heap.size ∧ Below w.heap.size w w') (by kernel_rfl) (HS.out _ _ hz (Below.drew (Below.refl _ _))) (fun hHeld => ?_)
    refine Rg.take (i := 0) (v := ?_) rfl (by kernel_rfl) (by kernel_rfl) (by kernel_rfl) (fun _ _ _ h => h) (Or.inl ⟨by kernel_rfl, ?_⟩) (by assumption) ?_
    rotate_left
    · ((intro w hSw; (try dsimp only at hSw); go_simp) <;> with_reducible rfl)
    try simp only [Act.put, List.setIfInBounds_toArray, List.set_cons_zero, List.set_cons_succ]
    refine Rg.take (i := 2) (v := ?_) rfl (by kernel_rfl) (by kernel_rfl) (by kernel_rfl) (fun _ _ _ h => h) (Or.inl ⟨by kernel_rfl, ?_⟩) (by assumption) ?_
    rotate_left
    · ((intro w hSw; (try dsimp only at hSw); go_simp) <;> with_reducible rfl)
    try simp only [Act.put, List.setIfInBounds_toArray, List.set_cons_zero, List.set_cons_succ]
    refine Rg.one (i := 1) (by kernel_rfl) rfl (fun KK hK => ?_)
    rw [if_pos (by kernel_rfl)]
    go_simp
    ((with_reducible refine (V1.out _).mono ?_); rintro e u ⟨rfl, hb⟩)
    have hNew := HS.out _ _ hHeld hb
    first | (refine hK.out _ _ hNew (fun _ => ?_)) | (go_wp2_with fail; refine hK.out _ _ hNew (fun _ => ?_))
    clear hK KK hHeld hb
    have hHeld := hNew
    clear hNew
    refine Rg.one (i := 3) (by kernel_rfl) rfl (fun KK hK => ?_)
    rw [if_pos (by kernel_rfl)]
    go_simp
    ((with_reducible refine (V2.out _).mono ?_); rintro e u ⟨rfl, hb⟩)
    have hNew := HS.out _ _ hHeld hb
    first | (refine hK.out _ _ hNew (fun _ => ?_)) | (go_wp2_with fail; refine hK.out _ _ hNew (fun _ => ?_))
    clear hK KK hHeld hb
    have hHeld := hNew
    clear hNew
    refine Rg.take (i := 4) (v := ?_) rfl (by kernel_rfl) (by kernel_rfl) (by kernel_rfl) (fun _ _ _ h => h) (Or.inl ⟨by kernel_rfl, ?_⟩) (by assumption) ?_
    rotate_left
    · ((intro w hSw; (try dsimp only at hSw); go_simp) <;> with_reducible rfl)
    try simp only [Act.put, List.setIfInBounds_toArray, List.set_cons_zero, List.set_cons_succ]
    refine Rg.take (i := 5) (v := ?_) rfl (by kernel_rfl) (by kernel_rfl) (by kernel_rfl) (fun _ _ _ h => h) (Or.inl ⟨by kernel_rfl, ?_⟩) (by assumption) ?_
    rotate_left
    · ((intro w hSw; (try dsimp only at hSw); go_simp) <;> with_reducible rfl)
    try simp only [Act.put, List.setIfInBounds_toArray, List.set_cons_zero, List.set_cons_succ]
    refine Rg.take (i := 6) (v := ?_) rfl (by kernel_rfl) (by kernel_rfl) (by kernel_rfl) (fun _ _ _ h => h) (Or.inl ⟨by kernel_rfl, ?_⟩) (by assumption) ?_
    rotate_left
    · ((intro w hSw; (try dsimp only at hSw); go_simp) <;> with_reducible rfl)
    try simp only [Act.put, List.setIfInBounds_toArray, List.set_cons_zero, List.set_cons_succ]
    refine Rg.take (i := 7) (v := ?_) rfl (by kernel_rfl) (by kernel_rfl) (by kernel_rfl) (fun _ _ _ h => h) (Or.inl ⟨by kernel_rfl, ?_⟩) (by assumption) ?_
    rotate_left
    · ((intro w hSw; (try dsimp only at hSw); go_simp) <;> with_reducible rfl)
    try simp only [Act.put, List.setIfInBounds_toArray, List.set_cons_zero, List.set_cons_succ]
    refine Rg.take (i := 9) (v := ?_) rfl (by kernel_rfl) (by kernel_rfl) (by kernel_rfl) (fun _ _ _ h => h) (Or.inl ⟨by kernel_rfl, ?_⟩) (by assumption) ?_
    rotate_left
    · ((intro w hSw; (try dsimp only at hSw); go_simp) <;> with_reducible rfl)
    try simp only [Act.put, List.setIfInBounds_toArray, List.set_cons_zero, List.set_cons_succ]
    refine Rg.take (i := 10) (v := ?_) rfl (by kernel_rfl) (by kernel_rfl) (by kernel_rfl) (fun _ _ _ h => h) (Or.inl ⟨by kernel_rfl, ?_⟩) (by assumption) ?_
    rotate_left
    · ((intro w hSw; (try dsimp only at hSw); go_simp) <;> with_reducible rfl)
    try simp only [Act.put, List.setIfInBounds_toArray, List.set_cons_zero, List.set_cons_succ]
    refine Rg.one (i := 8) (by kernel_rfl) rfl (fun KK hK => ?_)
    rw [if_pos (by kernel_rfl)]
    go_simp
    ((with_reducible refine (V3.out _).mono ?_); rintro e u ⟨rfl, hb⟩)
    have hNew := HS.out _ _ hHeld hb
    first | (refine hK.out _ _ hNew (fun _ => ?_)) | (go_wp2_with fail; refine hK.out _ _ hNew (fun _ => ?_))
    clear hK KK hHeld hb
    have hHeld := hNew
    clear hNew
    refine Rg.one (i := 11) (by kernel_rfl) rfl (fun KK hK => ?_)
    rw [if_pos (by kernel_rfl)]
    go_simp
    ((with_reducible refine (V4.out _).mono ?_); rintro e u ⟨rfl, hb⟩)
    have hNew := HS.out _ _ hHeld hb
    first | (refine hK.out _ _ hNew (fun _ => ?_)) | (go_wp2_with fail; refine hK.out _ _ hNew (fun _ => ?_))
    clear hK KK hHeld hb
    have hHeld := hNew
    clear hNew
    refine Rg.take (i := 12) (v := ?_) rfl (by kernel_rfl) (by kernel_rfl) (by kernel_rfl) (fun _ _ _ h => h) (Or.inl ⟨by kernel_rfl, ?_⟩) (by assumption) ?_
    rotate_left
    · ((intro w hSw; (try dsimp only at hSw); go_simp) <;> with_reducible rfl)
    try simp only [Act.put, List.setIfInBounds_toArray, List.set_cons_zero, List.set_cons_succ]
    refine Rg.take (i := 13) (v := ?_) rfl (by kernel_rfl) (by kernel_rfl) (by kernel_rfl) (fun _ _ _ h => h) (Or.inl ⟨by kernel_rfl, ?_⟩) (by assumption) ?_
    rotate_left
    · ((intro w hSw; (try dsimp only at hSw); go_simp) <;> with_reducible rfl)
    try simp only [Act.put, List.setIfInBounds_toArray, List.set_cons_zero, List.set_cons_succ]
    refine Rg.take (i := 14) (v := ?_) rfl (by kernel_rfl) (by kernel_rfl) (by kernel_rfl) (fun _ _ _ h => h) (Or.inl ⟨by kernel_rfl, ?_⟩) (by assumption) ?_
    rotate_left
    · ((intro w hSw; (try dsimp only at hSw); go_simp) <;> with_reducible rfl)
    try simp only [Act.put, List.setIfInBounds_toArray, List.set_cons_zero, List.set_cons_succ]
    refine Rg.take (i := 15) (v := ?_) rfl (by kernel_rfl) (by kernel_rfl) (by kernel_rfl) (fun _ _ _ h => h) (Or.inl ⟨by kernel_rfl, ?_⟩) (by assumption) ?_
    rotate_left
    · ((intro w hSw; (try dsimp only at hSw); go_simp) <;> with_reducible rfl)
    try simp only [Act.put, List.setIfInBounds_toArray, List.set_cons_zero, List.set_cons_succ]
    refine Rg.take (i := 16) (v := ?_) rfl (by kernel_rfl) (by kernel_rfl) (by kernel_rfl) (fun _ _ _ h => h) (Or.inl ⟨by kernel_rfl, ?_⟩) (by assumption) ?_
    rotate_left
    · ((intro w hSw; (try dsimp only at hSw); go_simp) <;> with_reducible rfl)
    try simp only [Act.put, List.setIfInBounds_toArray, List.set_cons_zero, List.set_cons_succ]
    refine Rg.take (i := 17) (v := ?_) rfl (by kernel_rfl) (by kernel_rfl) (by kernel_rfl) (fun _ _ _ h => h) (Or.inl ⟨by kernel_rfl, ?_⟩) (by assumption) ?_
    rotate_left
    · ((intro w hSw; (try dsimp only at hSw); go_simp) <;> with_reducible rfl)
    try simp only [Act.put, List.setIfInBounds_toArray, List.set_cons_zero, List.set_cons_succ]
    refine Rg.take (i := 18) (v := ?_) rfl (by kernel_rfl) (by kernel_rfl) (by kernel_rfl) (fun _ _ _ h => h) (Or.inl ⟨by kernel_rfl, ?_⟩) (by assumption) ?_
    rotate_left
    · ((intro w hSw; (try dsimp only at hSw); go_simp) <;> with_reducible rfl)
    try simp only [Act.put, List.setIfInBounds_toArray, List.set_cons_zero, List.set_cons_succ]
    refine Rg.take (i := 19) (v := ?_) rfl (by kernel_rfl) (by kernel_rfl) (by kernel_rfl) (fun _ _ _ h => h) (Or.inl ⟨by kernel_rfl, ?_⟩) (by assumption) ?_
    rotate_left
    · ((intro w hSw; (try dsimp only at hSw); go_simp) <;> with_reducible rfl)
    try simp only [Act.put, List.setIfInBounds_toArray, List.set_cons_zero, List.set_cons_succ]
    refine Rg.take (i := 20) (v := ?_) rfl (by kernel_rfl) (by kernel_rfl) (by kernel_rfl) (fun _ _ _ h => h) (Or.inl ⟨by kernel_rfl, ?_⟩) (by assumption) ?_
    rotate_left
    · ((intro w hSw; (try dsimp only at hSw); go_simp) <;> with_reducible rfl)
    try simp only [Act.put, List.setIfInBounds_toArray, List.set_cons_zero, List.set_cons_succ]
    refine Rg.take (i := 21) (v := ?_) rfl (by kernel_rfl) (by kernel_rfl) (by kernel_rfl) (fun _ _ _ h => h) (Or.inl ⟨by kernel_rfl, ?_⟩) (by assumption) ?_
    rotate_left
    · ((intro w hSw; (try dsimp only at hSw); go_simp) <;> with_reducible rfl)
    try simp only [Act.put, List.setIfInBounds_toArray, List.set_cons_zero, List.set_cons_succ]
    refine Rg.take (i := 22) (v := ?_) rfl (by kernel_rfl) (by kernel_rfl) (by kernel_rfl) (fun _ _ _ h => h) (Or.inl ⟨by kernel_rfl, ?_⟩) (by assumption) ?_
    rotate_left
    · ((intro w hSw; (try dsimp only at hSw); go_simp) <;> with_reducible rfl)
    try simp only [Act.put, List.setIfInBounds_toArray, List.set_cons_zero, List.set_cons_succ]
    refine Rg.take (i := 23) (v := ?_) rfl (by kernel_rfl) (by kernel_rfl) (by kernel_rfl) (fun _ _ _ h => h) (Or.inl ⟨by kernel_rfl, ?_⟩) (by assumption) ?_
    rotate_left
    · ((intro w hSw; (try dsimp only at hSw); go_simp) <;> with_reducible rfl)
    try simp only [Act.put, List.setIfInBounds_toArray, List.set_cons_zero, List.set_cons_succ]
    refine Rg.take (i := 24) (v := ?_) rfl (by kernel_rfl) (by kernel_rfl) (by kernel_rfl) (fun _ _ _ h => h) (Or.inl ⟨by kernel_rfl, ?_⟩) (by assumption) ?_
    rotate_left
    · ((intro w hSw; (try dsimp only at hSw); go_simp) <;> with_reducible rfl)
    try simp only [Act.put, List.setIfInBounds_toArray, List.set_cons_zero, List.set_cons_succ]
    refine Rg.one (i := 25) (by kernel_rfl) rfl (fun KK hK => ?_)
    rw [if_pos (by kernel_rfl)]
    go_simp
    ((with_reducible refine (EX.out _).mono ?_); rintro e u ⟨rfl, hb⟩)
    have hNew := HS.out _ _ hHeld hb
    first | (refine hK.out _ _ hNew (fun _ => ?_)) | (go_wp2_with fail; refine hK.out _ _ hNew (fun _ => ?_))
    clear hK KK hHeld hb
    have hHeld := hNew
    clear hNew
    refine Rg.take (i := 26) (v := ?_) rfl (by kernel_rfl) (by kernel_rfl) (by kernel_rfl) (fun _ _ _ h => h) (Or.inl ⟨by kernel_rfl, ?_⟩) (by assumption) ?_
    rotate_left
    · ((intro w hSw; (try dsimp only at hSw); go_simp) <;> with_reducible rfl)
    try simp only [Act.put, List.setIfInBounds_toArray, List.set_cons_zero, List.set_cons_succ]
    refine Rg.take (i := 27) (v := ?_) rfl (by kernel_rfl) (by kernel_rfl) (by kernel_rfl) (fun _ _ _ h => h) (Or.inl ⟨by kernel_rfl, ?_⟩) (by assumption) ?_
    rotate_left
    · ((intro w hSw; (try dsimp only at hSw); go_simp) <;> with_reducible rfl)
    try simp only [Act.put, List.setIfInBounds_toArray, List.set_cons_zero, List.set_cons_succ]
    refine wpAnyH_done (by kernel_rfl) ?_ _
    go_wp2
    go_ret
    exact ⟨rfl, hHeld.2.2.2.2.2.2.2.2.2.2.2.2⟩
end Go.Proofs.Ytaagegiehjpgiaa.Fx
