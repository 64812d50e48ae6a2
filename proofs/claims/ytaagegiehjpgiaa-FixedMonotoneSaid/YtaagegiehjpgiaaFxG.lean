/- The statements on monotony and on the group laws: their walks. -/
import Derived.Test.YtaagegiehjpgiaaFxX
namespace Go.Proofs.Ytaagegiehjpgiaa.Fx
open Go.ChangeShapes Go.WideShapes Go.ChangeAt Go.RowKit
set_option linter.unusedVariables false

open Fr
set_option maxHeartbeats 16000000 in
theorem mo_tv (K B F R O n0 d0 n1 d1 : Int) (w : World) (VT : Hid (∀ w, Calls Try.prog 18 #[.agg #[.int .i64 K, .int .i64 B, .int .i64 F, .int .i64 R, .int .i64 O]] w (Ret (.int .i64 10) w))) (EX : Hid (∀ w, Calls Try.prog 21 #[] w (Ret (.bool true) w))) : Calls Try.prog 8 #[.agg #[.int .i64 K, .int .i64 B, .int .i64 F, .int .i64 R, .int .i64 O], .agg #[.int .i64 n0, .int .i64 d0], .agg #[.int .i64 n1, .int .i64 d1]] w (Ret (.bool true) w) := by
  go_enter Try.func8, Try.ntmps8
  go_wp2_with fail
  refine (VT.out _).mono ?_
  rintro e w1 ⟨rfl, hb⟩
  have L : Below w.heap.size w w1 := ((((Below.refl _ _).alloc (by simp <;> omega) _).alloc (by simp <;> omega) _).alloc (by simp <;> omega) _).trans (hb.mono (by simp <;> omega))
  have K1 : Below w.heap.size w w1 := L
  have lt : w.heap.size < w1.heap.size := Nat.lt_of_lt_of_le (by simp <;> omega) hb.size
  have t0 : w1.cell? ⟨w.heap.size, 0, none⟩ = some (.int .i64 K) := Rg.keep hb (by simp <;> omega) (by go_cell)
  have t1 : w1.cell? ⟨w.heap.size, 1, none⟩ = some (.int .i64 B) := Rg.keep hb (by simp <;> omega) (by go_cell)
  have t2 : w1.cell? ⟨w.heap.size, 2, none⟩ = some (.int .i64 F) := Rg.keep hb (by simp <;> omega) (by go_cell)
  have t3 : w1.cell? ⟨w.heap.size, 3, none⟩ = some (.int .i64 R) := Rg.keep hb (by simp <;> omega) (by go_cell)
  have t4 : w1.cell? ⟨w.heap.size, 4, none⟩ = some (.int .i64 O) := Rg.keep hb (by simp <;> omega) (by go_cell)
  have la : w.heap.size + 1 < w1.heap.size := Nat.lt_of_lt_of_le (by simp <;> omega) hb.size
  have a0 : w1.cell? ⟨w.heap.size + 1, 0, none⟩ = some (.int .i64 n0) := Rg.keep hb (by simp <;> omega) (by go_cell)
  have a1 : w1.cell? ⟨w.heap.size + 1, 1, none⟩ = some (.int .i64 d0) := Rg.keep hb (by simp <;> omega) (by go_cell)
  have lb : w.heap.size + 1 + 1 < w1.heap.size := Nat.lt_of_lt_of_le (by simp <;> omega) hb.size
  have b0 : w1.cell? ⟨w.heap.size + 1 + 1, 0, none⟩ = some (.int .i64 n1) := Rg.keep hb (by simp <;> omega) (by go_cell)
  have b1 : w1.cell? ⟨w.heap.size + 1 + 1, 1, none⟩ = some (.int .i64 d1) := Rg.keep hb (by simp <;> omega) (by go_cell)
  clear hb L
  go_wp2_with fail
  refine (EX.out _).mono ?_
  rintro e w2 ⟨rfl, hb⟩
  have L : Below w1.heap.size w1 w2 := (Below.refl _ _).trans (hb.mono (by simp <;> omega))
  have K2 : Below w.heap.size w w2 := K1.trans (L.mono K1.size)
  have t0 := Rg.keep L lt t0
  have t1 := Rg.keep L lt t1
  have t2 := Rg.keep L lt t2
  have t3 := Rg.keep L lt t3
  have t4 := Rg.keep L lt t4
  have a0 := Rg.keep L la a0
  have a1 := Rg.keep L la a1
  have b0 := Rg.keep L lb b0
  have b1 := Rg.keep L lb b1
  have lt := Nat.lt_of_lt_of_le lt L.size
  have la := Nat.lt_of_lt_of_le la L.size
  have lb := Nat.lt_of_lt_of_le lb L.size
  clear hb L
  go_wp2
  go_ret
  exact ⟨rfl, K2⟩
set_option maxHeartbeats 16000000 in
theorem mo_ov (K B F R O n0 d0 n1 d1 : Int) (w : World) (ho : (O != 1) = true) (VT : Hid (∀ w, Calls Try.prog 18 #[.agg #[.int .i64 K, .int .i64 B, .int .i64 F, .int .i64 R, .int .i64 O]] w (Ret (.int .i64 0) w))) (EX : Hid (∀ w, Calls Try.prog 21 #[] w (Ret (.bool true) w))) : Calls Try.prog 8 #[.agg #[.int .i64 K, .int .i64 B, .int .i64 F, .int .i64 R, .int .i64 O], .agg #[.int .i64 n0, .int .i64 d0], .agg #[.int .i64 n1, .int .i64 d1]] w (Ret (.bool true) w) := by
  go_enter Try.func8, Try.ntmps8
  go_wp2_with fail
  refine (VT.out _).mono ?_
  rintro e w1 ⟨rfl, hb⟩
  have L : Below w.heap.size w w1 := ((((Below.refl _ _).alloc (by simp <;> omega) _).alloc (by simp <;> omega) _).alloc (by simp <;> omega) _).trans (hb.mono (by simp <;> omega))
  have K1 : Below w.heap.size w w1 := L
  have lt : w.heap.size < w1.heap.size := Nat.lt_of_lt_of_le (by simp <;> omega) hb.size
  have t0 : w1.cell? ⟨w.heap.size, 0, none⟩ = some (.int .i64 K) := Rg.keep hb (by simp <;> omega) (by go_cell)
  have t1 : w1.cell? ⟨w.heap.size, 1, none⟩ = some (.int .i64 B) := Rg.keep hb (by simp <;> omega) (by go_cell)
  have t2 : w1.cell? ⟨w.heap.size, 2, none⟩ = some (.int .i64 F) := Rg.keep hb (by simp <;> omega) (by go_cell)
  have t3 : w1.cell? ⟨w.heap.size, 3, none⟩ = some (.int .i64 R) := Rg.keep hb (by simp <;> omega) (by go_cell)
  have t4 : w1.cell? ⟨w.heap.size, 4, none⟩ = some (.int .i64 O) := Rg.keep hb (by simp <;> omega) (by go_cell)
  have la : w.heap.size + 1 < w1.heap.size := Nat.lt_of_lt_of_le (by simp <;> omega) hb.size
  have a0 : w1.cell? ⟨w.heap.size + 1, 0, none⟩ = some (.int .i64 n0) := Rg.keep hb (by simp <;> omega) (by go_cell)
  have a1 : w1.cell? ⟨w.heap.size + 1, 1, none⟩ = some (.int .i64 d0) := Rg.keep hb (by simp <;> omega) (by go_cell)
  have lb : w.heap.size + 1 + 1 < w1.heap.size := Nat.lt_of_lt_of_le (by simp <;> omega) hb.size
  have b0 : w1.cell? ⟨w.heap.size + 1 + 1, 0, none⟩ = some (.int .i64 n1) := Rg.keep hb (by simp <;> omega) (by go_cell)
  have b1 : w1.cell? ⟨w.heap.size + 1 + 1, 1, none⟩ = some (.int .i64 d1) := Rg.keep hb (by simp <;> omega) (by go_cell)
  clear hb L
  go_wp2_with fail
  refine (EX.out _).mono ?_
  rintro e w2 ⟨rfl, hb⟩
  have L : Below w1.heap.size w1 w2 := (Below.refl _ _).trans (hb.mono (by simp <;> omega))
  have K2 : Below w.heap.size w w2 := K1.trans (L.mono K1.size)
  have t0 := Rg.keep L lt t0
  have t1 := Rg.keep L lt t1
  have t2 := Rg.keep L lt t2
  have t3 := Rg.keep L lt t3
  have t4 := Rg.keep L lt t4
  have a0 := Rg.keep L la a0
  have a1 := Rg.keep L la a1
  have b0 := Rg.keep L lb b0
  have b1 := Rg.keep L lb b1
  have lt := Nat.lt_of_lt_of_le lt L.size
  have la := Nat.lt_of_lt_of_le la L.size
  have lb := Nat.lt_of_lt_of_le lb L.size
  clear hb L
  go_wp2
  go_ret
  exact ⟨rfl, K2⟩
set_option maxHeartbeats 16000000 in
theorem mo_a (K B F R O n0 d0 n1 d1 : Int) (w : World) (ho : (O != 1) = false) (VT : Hid (∀ w, Calls Try.prog 18 #[.agg #[.int .i64 K, .int .i64 B, .int .i64 F, .int .i64 R, .int .i64 O]] w (Ret (.int .i64 0) w))) (FRa : Hid (∀ w, Calls Try.prog 36 #[.agg #[.int .i64 n0, .int .i64 d0]] w (Ret (.bool false) w))) (EX : Hid (∀ w, Calls Try.prog 21 #[] w (Ret (.bool true) w))) : Calls Try.prog 8 #[.agg #[.int .i64 K, .int .i64 B, .int .i64 F, .int .i64 R, .int .i64 O], .agg #[.int .i64 n0, .int .i64 d0], .agg #[.int .i64 n1, .int .i64 d1]] w (Ret (.bool true) w) := by
  go_enter Try.func8, Try.ntmps8
  go_wp2_with fail
  refine (VT.out _).mono ?_
  rintro e w1 ⟨rfl, hb⟩
  have L : Below w.heap.size w w1 := ((((Below.refl _ _).alloc (by simp <;> omega) _).alloc (by simp <;> omega) _).alloc (by simp <;> omega) _).trans (hb.mono (by simp <;> omega))
  have K1 : Below w.heap.size w w1 := L
  have lt : w.heap.size < w1.heap.size := Nat.lt_of_lt_of_le (by simp <;> omega) hb.size
  have t0 : w1.cell? ⟨w.heap.size, 0, none⟩ = some (.int .i64 K) := Rg.keep hb (by simp <;> omega) (by go_cell)
  have t1 : w1.cell? ⟨w.heap.size, 1, none⟩ = some (.int .i64 B) := Rg.keep hb (by simp <;> omega) (by go_cell)
  have t2 : w1.cell? ⟨w.heap.size, 2, none⟩ = some (.int .i64 F) := Rg.keep hb (by simp <;> omega) (by go_cell)
  have t3 : w1.cell? ⟨w.heap.size, 3, none⟩ = some (.int .i64 R) := Rg.keep hb (by simp <;> omega) (by go_cell)
  have t4 : w1.cell? ⟨w.heap.size, 4, none⟩ = some (.int .i64 O) := Rg.keep hb (by simp <;> omega) (by go_cell)
  have la : w.heap.size + 1 < w1.heap.size := Nat.lt_of_lt_of_le (by simp <;> omega) hb.size
  have a0 : w1.cell? ⟨w.heap.size + 1, 0, none⟩ = some (.int .i64 n0) := Rg.keep hb (by simp <;> omega) (by go_cell)
  have a1 : w1.cell? ⟨w.heap.size + 1, 1, none⟩ = some (.int .i64 d0) := Rg.keep hb (by simp <;> omega) (by go_cell)
  have lb : w.heap.size + 1 + 1 < w1.heap.size := Nat.lt_of_lt_of_le (by simp <;> omega) hb.size
  have b0 : w1.cell? ⟨w.heap.size + 1 + 1, 0, none⟩ = some (.int .i64 n1) := Rg.keep hb (by simp <;> omega) (by go_cell)
  have b1 : w1.cell? ⟨w.heap.size + 1 + 1, 1, none⟩ = some (.int .i64 d1) := Rg.keep hb (by simp <;> omega) (by go_cell)
  clear hb L
  go_wp2_with fail
  refine (FRa.out _).mono ?_
  rintro e w2 ⟨rfl, hb⟩
  have L : Below w1.heap.size w1 w2 := (Below.refl _ _).trans (hb.mono (by simp <;> omega))
  have K2 : Below w.heap.size w w2 := K1.trans (L.mono K1.size)
  have t0 := Rg.keep L lt t0
  have t1 := Rg.keep L lt t1
  have t2 := Rg.keep L lt t2
  have t3 := Rg.keep L lt t3
  have t4 := Rg.keep L lt t4
  have a0 := Rg.keep L la a0
  have a1 := Rg.keep L la a1
  have b0 := Rg.keep L lb b0
  have b1 := Rg.keep L lb b1
  have lt := Nat.lt_of_lt_of_le lt L.size
  have la := Nat.lt_of_lt_of_le la L.size
  have lb := Nat.lt_of_lt_of_le lb L.size
  clear hb L
  go_wp2_with fail
  refine (EX.out _).mono ?_
  rintro e w3 ⟨rfl, hb⟩
  have L : Below w2.heap.size w2 w3 := (Below.refl _ _).trans (hb.mono (by simp <;> omega))
  have K3 : Below w.heap.size w w3 := K2.trans (L.mono K2.size)
  have t0 := Rg.keep L lt t0
  have t1 := Rg.keep L lt t1
  have t2 := Rg.keep L lt t2
  have t3 := Rg.keep L lt t3
  have t4 := Rg.keep L lt t4
  have a0 := Rg.keep L la a0
  have a1 := Rg.keep L la a1
  have b0 := Rg.keep L lb b0
  have b1 := Rg.keep L lb b1
  have lt := Nat.lt_of_lt_of_le lt L.size
  have la := Nat.lt_of_lt_of_le la L.size
  have lb := Nat.lt_of_lt_of_le lb L.size
  clear hb L
  go_wp2
  go_ret
  exact ⟨rfl, K3⟩
set_option maxHeartbeats 16000000 in
theorem mo_b (K B F R O n0 d0 n1 d1 : Int) (w : World) (ho : (O != 1) = false) (VT : Hid (∀ w, Calls Try.prog 18 #[.agg #[.int .i64 K, .int .i64 B, .int .i64 F, .int .i64 R, .int .i64 O]] w (Ret (.int .i64 0) w))) (FRa : Hid (∀ w, Calls Try.prog 36 #[.agg #[.int .i64 n0, .int .i64 d0]] w (Ret (.bool true) w))) (FRb : Hid (∀ w, Calls Try.prog 36 #[.agg #[.int .i64 n1, .int .i64 d1]] w (Ret (.bool false) w))) (EX : Hid (∀ w, Calls Try.prog 21 #[] w (Ret (.bool true) w))) : Calls Try.prog 8 #[.agg #[.int .i64 K, .int .i64 B, .int .i64 F, .int .i64 R, .int .i64 O], .agg #[.int .i64 n0, .int .i64 d0], .agg #[.int .i64 n1, .int .i64 d1]] w (Ret (.bool true) w) := by
  go_enter Try.func8, Try.ntmps8
  go_wp2_with fail
  refine (VT.out _).mono ?_
  rintro e w1 ⟨rfl, hb⟩
  have L : Below w.heap.size w w1 := ((((Below.refl _ _).alloc (by simp <;> omega) _).alloc (by simp <;> omega) _).alloc (by simp <;> omega) _).trans (hb.mono (by simp <;> omega))
  have K1 : Below w.heap.size w w1 := L
  have lt : w.heap.size < w1.heap.size := Nat.lt_of_lt_of_le (by simp <;> omega) hb.size
  have t0 : w1.cell? ⟨w.heap.size, 0, none⟩ = some (.int .i64 K) := Rg.keep hb (by simp <;> omega) (by go_cell)
  have t1 : w1.cell? ⟨w.heap.size, 1, none⟩ = some (.int .i64 B) := Rg.keep hb (by simp <;> omega) (by go_cell)
  have t2 : w1.cell? ⟨w.heap.size, 2, none⟩ = some (.int .i64 F) := Rg.keep hb (by simp <;> omega) (by go_cell)
  have t3 : w1.cell? ⟨w.heap.size, 3, none⟩ = some (.int .i64 R) := Rg.keep hb (by simp <;> omega) (by go_cell)
  have t4 : w1.cell? ⟨w.heap.size, 4, none⟩ = some (.int .i64 O) := Rg.keep hb (by simp <;> omega) (by go_cell)
  have la : w.heap.size + 1 < w1.heap.size := Nat.lt_of_lt_of_le (by simp <;> omega) hb.size
  have a0 : w1.cell? ⟨w.heap.size + 1, 0, none⟩ = some (.int .i64 n0) := Rg.keep hb (by simp <;> omega) (by go_cell)
  have a1 : w1.cell? ⟨w.heap.size + 1, 1, none⟩ = some (.int .i64 d0) := Rg.keep hb (by simp <;> omega) (by go_cell)
  have lb : w.heap.size + 1 + 1 < w1.heap.size := Nat.lt_of_lt_of_le (by simp <;> omega) hb.size
  have b0 : w1.cell? ⟨w.heap.size + 1 + 1, 0, none⟩ = some (.int .i64 n1) := Rg.keep hb (by simp <;> omega) (by go_cell)
  have b1 : w1.cell? ⟨w.heap.size + 1 + 1, 1, none⟩ = some (.int .i64 d1) := Rg.keep hb (by simp <;> omega) (by go_cell)
  clear hb L
  go_wp2_with fail
  refine (FRa.out _).mono ?_
  rintro e w2 ⟨rfl, hb⟩
  have L : Below w1.heap.size w1 w2 := (Below.refl _ _).trans (hb.mono (by simp <;> omega))
  have K2 : Below w.heap.size w w2 := K1.trans (L.mono K1.size)
  have t0 := Rg.keep L lt t0
  have t1 := Rg.keep L lt t1
  have t2 := Rg.keep L lt t2
  have t3 := Rg.keep L lt t3
  have t4 := Rg.keep L lt t4
  have a0 := Rg.keep L la a0
  have a1 := Rg.keep L la a1
  have b0 := Rg.keep L lb b0
  have b1 := Rg.keep L lb b1
  have lt := Nat.lt_of_lt_of_le lt L.size
  have la := Nat.lt_of_lt_of_le la L.size
  have lb := Nat.lt_of_lt_of_le lb L.size
  clear hb L
  go_wp2_with fail
  refine (FRb.out _).mono ?_
  rintro e w3 ⟨rfl, hb⟩
  have L : Below w2.heap.size w2 w3 := (Below.refl _ _).trans (hb.mono (by simp <;> omega))
  have K3 : Below w.heap.size w w3 := K2.trans (L.mono K2.size)
  have t0 := Rg.keep L lt t0
  have t1 := Rg.keep L lt t1
  have t2 := Rg.keep L lt t2
  have t3 := Rg.keep L lt t3
  have t4 := Rg.keep L lt t4
  have a0 := Rg.keep L la a0
  have a1 := Rg.keep L la a1
  have b0 := Rg.keep L lb b0
  have b1 := Rg.keep L lb b1
  have lt := Nat.lt_of_lt_of_le lt L.size
  have la := Nat.lt_of_lt_of_le la L.size
  have lb := Nat.lt_of_lt_of_le lb L.size
  clear hb L
  go_wp2_with fail
  refine (EX.out _).mono ?_
  rintro e w4 ⟨rfl, hb⟩
  have L : Below w3.heap.size w3 w4 := (Below.refl _ _).trans (hb.mono (by simp <;> omega))
  have K4 : Below w.heap.size w w4 := K3.trans (L.mono K3.size)
  have t0 := Rg.keep L lt t0
  have t1 := Rg.keep L lt t1
  have t2 := Rg.keep L lt t2
  have t3 := Rg.keep L lt t3
  have t4 := Rg.keep L lt t4
  have a0 := Rg.keep L la a0
  have a1 := Rg.keep L la a1
  have b0 := Rg.keep L lb b0
  have b1 := Rg.keep L lb b1
  have lt := Nat.lt_of_lt_of_le lt L.size
  have la := Nat.lt_of_lt_of_le la L.size
  have lb := Nat.lt_of_lt_of_le lb L.size
  clear hb L
  go_wp2
  go_ret
  exact ⟨rfl, K4⟩
set_option maxHeartbeats 16000000 in
theorem mo_ok (K B F R O n0 d0 n1 d1 p q : Int) (w : World) (x y : Int) (hx : n0 * d1 = x) (hy : n1 * d0 = y) (x0 : -4611686018427387904 ≤ x) (x1 : x ≤ 4611686018427387904) (y0 : -4611686018427387904 ≤ y) (y1 : y ≤ 4611686018427387904) (hc : decide (y < x) = false) (hpq : decide (p ≤ q) = true) (ho : (O != 1) = false) (VT : Hid (∀ w, Calls Try.prog 18 #[.agg #[.int .i64 K, .int .i64 B, .int .i64 F, .int .i64 R, .int .i64 O]] w (Ret (.int .i64 0) w))) (FRa : Hid (∀ w, Calls Try.prog 36 #[.agg #[.int .i64 n0, .int .i64 d0]] w (Ret (.bool true) w))) (FRb : Hid (∀ w, Calls Try.prog 36 #[.agg #[.int .i64 n1, .int .i64 d1]] w (Ret (.bool true) w))) (FFa : Hid (∀ w, Calls Try.prog 22 #[.agg #[.int .i64 K, .int .i64 B, .int .i64 F, .int .i64 R, .int .i64 O], .agg #[.int .i64 n0, .int .i64 d0]] w (Ret (Frac3 p 1 0) w))) (FFb : Hid (∀ w, Calls Try.prog 22 #[.agg #[.int .i64 K, .int .i64 B, .int .i64 F, .int .i64 R, .int .i64 O], .agg #[.int .i64 n1, .int .i64 d1]] w (Ret (Frac3 q 1 0) w))) (EX : Hid (∀ w, Calls Try.prog 21 #[] w (Ret (.bool true) w))) : Calls Try.prog 8 #[.agg #[.int .i64 K, .int .i64 B, .int .i64 F, .int .i64 R, .int .i64 O], .agg #[.int .i64 n0, .int .i64 d0], .agg #[.int .i64 n1, .int .i64 d1]] w (Ret (.bool true) w) := by
  go_enter Try.func8, Try.ntmps8
  go_wp2_with fail
  refine (VT.out _).mono ?_
  rintro e w1 ⟨rfl, hb⟩
  have L : Below w.heap.size w w1 := ((((Below.refl _ _).alloc (by simp <;> omega) _).alloc (by simp <;> omega) _).alloc (by simp <;> omega) _).trans (hb.mono (by simp <;> omega))
  have K1 : Below w.heap.size w w1 := L
  have lt : w.heap.size < w1.heap.size := Nat.lt_of_lt_of_le (by simp <;> omega) hb.size
  have t0 : w1.cell? ⟨w.heap.size, 0, none⟩ = some (.int .i64 K) := Rg.keep hb (by simp <;> omega) (by go_cell)
  have t1 : w1.cell? ⟨w.heap.size, 1, none⟩ = some (.int .i64 B) := Rg.keep hb (by simp <;> omega) (by go_cell)
  have t2 : w1.cell? ⟨w.heap.size, 2, none⟩ = some (.int .i64 F) := Rg.keep hb (by simp <;> omega) (by go_cell)
  have t3 : w1.cell? ⟨w.heap.size, 3, none⟩ = some (.int .i64 R) := Rg.keep hb (by simp <;> omega) (by go_cell)
  have t4 : w1.cell? ⟨w.heap.size, 4, none⟩ = some (.int .i64 O) := Rg.keep hb (by simp <;> omega) (by go_cell)
  have la : w.heap.size + 1 < w1.heap.size := Nat.lt_of_lt_of_le (by simp <;> omega) hb.size
  have a0 : w1.cell? ⟨w.heap.size + 1, 0, none⟩ = some (.int .i64 n0) := Rg.keep hb (by simp <;> omega) (by go_cell)
  have a1 : w1.cell? ⟨w.heap.size + 1, 1, none⟩ = some (.int .i64 d0) := Rg.keep hb (by simp <;> omega) (by go_cell)
  have lb : w.heap.size + 1 + 1 < w1.heap.size := Nat.lt_of_lt_of_le (by simp <;> omega) hb.size
  have b0 : w1.cell? ⟨w.heap.size + 1 + 1, 0, none⟩ = some (.int .i64 n1) := Rg.keep hb (by simp <;> omega) (by go_cell)
  have b1 : w1.cell? ⟨w.heap.size + 1 + 1, 1, none⟩ = some (.int .i64 d1) := Rg.keep hb (by simp <;> omega) (by go_cell)
  clear hb L
  go_wp2_with fail
  refine (FRa.out _).mono ?_
  rintro e w2 ⟨rfl, hb⟩
  have L : Below w1.heap.size w1 w2 := (Below.refl _ _).trans (hb.mono (by simp <;> omega))
  have K2 : Below w.heap.size w w2 := K1.trans (L.mono K1.size)
  have t0 := Rg.keep L lt t0
  have t1 := Rg.keep L lt t1
  have t2 := Rg.keep L lt t2
  have t3 := Rg.keep L lt t3
  have t4 := Rg.keep L lt t4
  have a0 := Rg.keep L la a0
  have a1 := Rg.keep L la a1
  have b0 := Rg.keep L lb b0
  have b1 := Rg.keep L lb b1
  have lt := Nat.lt_of_lt_of_le lt L.size
  have la := Nat.lt_of_lt_of_le la L.size
  have lb := Nat.lt_of_lt_of_le lb L.size
  clear hb L
  go_wp2_with fail
  refine (FRb.out _).mono ?_
  rintro e w3 ⟨rfl, hb⟩
  have L : Below w2.heap.size w2 w3 := (Below.refl _ _).trans (hb.mono (by simp <;> omega))
  have K3 : Below w.heap.size w w3 := K2.trans (L.mono K2.size)
  have t0 := Rg.keep L lt t0
  have t1 := Rg.keep L lt t1
  have t2 := Rg.keep L lt t2
  have t3 := Rg.keep L lt t3
  have t4 := Rg.keep L lt t4
  have a0 := Rg.keep L la a0
  have a1 := Rg.keep L la a1
  have b0 := Rg.keep L lb b0
  have b1 := Rg.keep L lb b1
  have lt := Nat.lt_of_lt_of_le lt L.size
  have la := Nat.lt_of_lt_of_le la L.size
  have lb := Nat.lt_of_lt_of_le lb L.size
  clear hb L
  go_wp2_with fail
  refine (FFa.out _).mono ?_
  rintro e w4 ⟨rfl, hb⟩
  have L : Below w3.heap.size w3 w4 := (Below.refl _ _).trans (hb.mono (by simp <;> omega))
  have K4 : Below w.heap.size w w4 := K3.trans (L.mono K3.size)
  have t0 := Rg.keep L lt t0
  have t1 := Rg.keep L lt t1
  have t2 := Rg.keep L lt t2
  have t3 := Rg.keep L lt t3
  have t4 := Rg.keep L lt t4
  have a0 := Rg.keep L la a0
  have a1 := Rg.keep L la a1
  have b0 := Rg.keep L lb b0
  have b1 := Rg.keep L lb b1
  have lt := Nat.lt_of_lt_of_le lt L.size
  have la := Nat.lt_of_lt_of_le la L.size
  have lb := Nat.lt_of_lt_of_le lb L.size
  clear hb L
  go_wp2_with fail
  refine (FFb.out _).mono ?_
  rintro e w5 ⟨rfl, hb⟩
  have L : Below w4.heap.size w4 w5 := ((Below.refl _ _).alloc (by simp <;> omega) _).trans (hb.mono (by simp <;> omega))
  have K5 : Below w.heap.size w w5 := K4.trans (L.mono K4.size)
  have lp : w4.heap.size < w5.heap.size := Nat.lt_of_lt_of_le (by simp <;> omega) hb.size
  have p0 : w5.cell? ⟨w4.heap.size, 0, none⟩ = some (.int .i64 p) := Rg.keep hb (by simp <;> omega) (by go_cell)
  have p1 : w5.cell? ⟨w4.heap.size, 1, none⟩ = some (.int .i64 1) := Rg.keep hb (by simp <;> omega) (by go_cell)
  have t0 := Rg.keep L lt t0
  have t1 := Rg.keep L lt t1
  have t2 := Rg.keep L lt t2
  have t3 := Rg.keep L lt t3
  have t4 := Rg.keep L lt t4
  have a0 := Rg.keep L la a0
  have a1 := Rg.keep L la a1
  have b0 := Rg.keep L lb b0
  have b1 := Rg.keep L lb b1
  have lt := Nat.lt_of_lt_of_le lt L.size
  have la := Nat.lt_of_lt_of_le la L.size
  have lb := Nat.lt_of_lt_of_le lb L.size
  clear hb L
  go_wp2_with fail
  refine (EX.out _).mono ?_
  rintro e w6 ⟨rfl, hb⟩
  have L : Below w5.heap.size w5 w6 := ((Below.refl _ _).alloc (by simp <;> omega) _).trans (hb.mono (by simp <;> omega))
  have K6 : Below w.heap.size w w6 := K5.trans (L.mono K5.size)
  have lq : w5.heap.size < w6.heap.size := Nat.lt_of_lt_of_le (by simp <;> omega) hb.size
  have q0 : w6.cell? ⟨w5.heap.size, 0, none⟩ = some (.int .i64 q) := Rg.keep hb (by simp <;> omega) (by go_cell)
  have q1 : w6.cell? ⟨w5.heap.size, 1, none⟩ = some (.int .i64 1) := Rg.keep hb (by simp <;> omega) (by go_cell)
  have t0 := Rg.keep L lt t0
  have t1 := Rg.keep L lt t1
  have t2 := Rg.keep L lt t2
  have t3 := Rg.keep L lt t3
  have t4 := Rg.keep L lt t4
  have a0 := Rg.keep L la a0
  have a1 := Rg.keep L la a1
  have b0 := Rg.keep L lb b0
  have b1 := Rg.keep L lb b1
  have p0 := Rg.keep L lp p0
  have p1 := Rg.keep L lp p1
  have lt := Nat.lt_of_lt_of_le lt L.size
  have la := Nat.lt_of_lt_of_le la L.size
  have lb := Nat.lt_of_lt_of_le lb L.size
  have lp := Nat.lt_of_lt_of_le lp L.size
  clear hb L
  go_wp2
  go_ret
  exact ⟨rfl, K6⟩
set_option maxHeartbeats 16000000 in
theorem mo_sw (K B F R O n0 d0 n1 d1 p q : Int) (w : World) (x y : Int) (hx : n0 * d1 = x) (hy : n1 * d0 = y) (x0 : -4611686018427387904 ≤ x) (x1 : x ≤ 4611686018427387904) (y0 : -4611686018427387904 ≤ y) (y1 : y ≤ 4611686018427387904) (hc : decide (y < x) = true) (hpq : decide (q ≤ p) = true) (ho : (O != 1) = false) (VT : Hid (∀ w, Calls Try.prog 18 #[.agg #[.int .i64 K, .int .i64 B, .int .i64 F, .int .i64 R, .int .i64 O]] w (Ret (.int .i64 0) w))) (FRa : Hid (∀ w, Calls Try.prog 36 #[.agg #[.int .i64 n0, .int .i64 d0]] w (Ret (.bool true) w))) (FRb : Hid (∀ w, Calls Try.prog 36 #[.agg #[.int .i64 n1, .int .i64 d1]] w (Ret (.bool true) w))) (FFa : Hid (∀ w, Calls Try.prog 22 #[.agg #[.int .i64 K, .int .i64 B, .int .i64 F, .int .i64 R, .int .i64 O], .agg #[.int .i64 n0, .int .i64 d0]] w (Ret (Frac3 p 1 0) w))) (FFb : Hid (∀ w, Calls Try.prog 22 #[.agg #[.int .i64 K, .int .i64 B, .int .i64 F, .int .i64 R, .int .i64 O], .agg #[.int .i64 n1, .int .i64 d1]] w (Ret (Frac3 q 1 0) w))) (EX : Hid (∀ w, Calls Try.prog 21 #[] w (Ret (.bool true) w))) : Calls Try.prog 8 #[.agg #[.int .i64 K, .int .i64 B, .int .i64 F, .int .i64 R, .int .i64 O], .agg #[.int .i64 n0, .int .i64 d0], .agg #[.int .i64 n1, .int .i64 d1]] w (Ret (.bool true) w) := by
  go_enter Try.func8, Try.ntmps8
  go_wp2_with fail
  refine (VT.out _).mono ?_
  rintro e w1 ⟨rfl, hb⟩
  have L : Below w.heap.size w w1 := ((((Below.refl _ _).alloc (by simp <;> omega) _).alloc (by simp <;> omega) _).alloc (by simp <;> omega) _).trans (hb.mono (by simp <;> omega))
  have K1 : Below w.heap.size w w1 := L
  have RA : Rg.RC (w.heap.size + 1) w1 := Rg.RC.keep hb (by simp <;> omega) (Rg.RC.mk (a := n0) (b := d0) (by go_cell) (by go_cell) (by simp only [frozen?_alloc_cells]; exact Rg.notFrozen (by omega)) (by simp only [frozen?_alloc_cells]; exact Rg.notFrozen (by omega)))
  have RB : Rg.RC (w.heap.size + 1 + 1) w1 := Rg.RC.keep hb (by simp <;> omega) (Rg.RC.mk (a := n1) (b := d1) (by go_cell) (by go_cell) (by simp only [frozen?_alloc_cells]; exact Rg.notFrozen (by omega)) (by simp only [frozen?_alloc_cells]; exact Rg.notFrozen (by omega)))
  have lt : w.heap.size < w1.heap.size := Nat.lt_of_lt_of_le (by simp <;> omega) hb.size
  have t0 : w1.cell? ⟨w.heap.size, 0, none⟩ = some (.int .i64 K) := Rg.keep hb (by simp <;> omega) (by go_cell)
  have t1 : w1.cell? ⟨w.heap.size, 1, none⟩ = some (.int .i64 B) := Rg.keep hb (by simp <;> omega) (by go_cell)
  have t2 : w1.cell? ⟨w.heap.size, 2, none⟩ = some (.int .i64 F) := Rg.keep hb (by simp <;> omega) (by go_cell)
  have t3 : w1.cell? ⟨w.heap.size, 3, none⟩ = some (.int .i64 R) := Rg.keep hb (by simp <;> omega) (by go_cell)
  have t4 : w1.cell? ⟨w.heap.size, 4, none⟩ = some (.int .i64 O) := Rg.keep hb (by simp <;> omega) (by go_cell)
  have la : w.heap.size + 1 < w1.heap.size := Nat.lt_of_lt_of_le (by simp <;> omega) hb.size
  have a0 : w1.cell? ⟨w.heap.size + 1, 0, none⟩ = some (.int .i64 n0) := Rg.keep hb (by simp <;> omega) (by go_cell)
  have a1 : w1.cell? ⟨w.heap.size + 1, 1, none⟩ = some (.int .i64 d0) := Rg.keep hb (by simp <;> omega) (by go_cell)
  have lb : w.heap.size + 1 + 1 < w1.heap.size := Nat.lt_of_lt_of_le (by simp <;> omega) hb.size
  have b0 : w1.cell? ⟨w.heap.size + 1 + 1, 0, none⟩ = some (.int .i64 n1) := Rg.keep hb (by simp <;> omega) (by go_cell)
  have b1 : w1.cell? ⟨w.heap.size + 1 + 1, 1, none⟩ = some (.int .i64 d1) := Rg.keep hb (by simp <;> omega) (by go_cell)
  clear hb L
  go_wp2_with fail
  refine (FRa.out _).mono ?_
  rintro e w2 ⟨rfl, hb⟩
  have L : Below w1.heap.size w1 w2 := (Below.refl _ _).trans (hb.mono (by simp <;> omega))
  have K2 : Below w.heap.size w w2 := K1.trans (L.mono K1.size)
  have RA := Rg.RC.keep L la RA
  have RB := Rg.RC.keep L lb RB
  have t0 := Rg.keep L lt t0
  have t1 := Rg.keep L lt t1
  have t2 := Rg.keep L lt t2
  have t3 := Rg.keep L lt t3
  have t4 := Rg.keep L lt t4
  have a0 := Rg.keep L la a0
  have a1 := Rg.keep L la a1
  have b0 := Rg.keep L lb b0
  have b1 := Rg.keep L lb b1
  have lt := Nat.lt_of_lt_of_le lt L.size
  have la := Nat.lt_of_lt_of_le la L.size
  have lb := Nat.lt_of_lt_of_le lb L.size
  clear hb L
  go_wp2_with fail
  refine (FRb.out _).mono ?_
  rintro e w3 ⟨rfl, hb⟩
  have L : Below w2.heap.size w2 w3 := (Below.refl _ _).trans (hb.mono (by simp <;> omega))
  have K3 : Below w.heap.size w w3 := K2.trans (L.mono K2.size)
  have RA := Rg.RC.keep L la RA
  have RB := Rg.RC.keep L lb RB
  have t0 := Rg.keep L lt t0
  have t1 := Rg.keep L lt t1
  have t2 := Rg.keep L lt t2
  have t3 := Rg.keep L lt t3
  have t4 := Rg.keep L lt t4
  have a0 := Rg.keep L la a0
  have a1 := Rg.keep L la a1
  have b0 := Rg.keep L lb b0
  have b1 := Rg.keep L lb b1
  have lt := Nat.lt_of_lt_of_le lt L.size
  have la := Nat.lt_of_lt_of_le la L.size
  have lb := Nat.lt_of_lt_of_le lb L.size
  clear hb L
  have rcf0 := RA.2.2.1
  have rcg0 := RA.2.2.2
  have rcf1 := RB.2.2.1
  have rcg1 := RB.2.2.2
  go_wp2_with fail
  clear rcf0 rcg0 rcf1 rcg1
  have t0 : ((w3.setCell ⟨w.heap.size + 1, 0, none⟩ (.int .i64 n1)).setCell ⟨w.heap.size + 1, 1, none⟩ (.int .i64 d1)).cell? ⟨w.heap.size, 0, none⟩ = some (.int .i64 K) := Rg.far (by omega) t0
  have t1 : ((w3.setCell ⟨w.heap.size + 1, 0, none⟩ (.int .i64 n1)).setCell ⟨w.heap.size + 1, 1, none⟩ (.int .i64 d1)).cell? ⟨w.heap.size, 1, none⟩ = some (.int .i64 B) := Rg.far (by omega) t1
  have t2 : ((w3.setCell ⟨w.heap.size + 1, 0, none⟩ (.int .i64 n1)).setCell ⟨w.heap.size + 1, 1, none⟩ (.int .i64 d1)).cell? ⟨w.heap.size, 2, none⟩ = some (.int .i64 F) := Rg.far (by omega) t2
  have t3 : ((w3.setCell ⟨w.heap.size + 1, 0, none⟩ (.int .i64 n1)).setCell ⟨w.heap.size + 1, 1, none⟩ (.int .i64 d1)).cell? ⟨w.heap.size, 3, none⟩ = some (.int .i64 R) := Rg.far (by omega) t3
  have t4 : ((w3.setCell ⟨w.heap.size + 1, 0, none⟩ (.int .i64 n1)).setCell ⟨w.heap.size + 1, 1, none⟩ (.int .i64 d1)).cell? ⟨w.heap.size, 4, none⟩ = some (.int .i64 O) := Rg.far (by omega) t4
  have b0 : ((w3.setCell ⟨w.heap.size + 1, 0, none⟩ (.int .i64 n1)).setCell ⟨w.heap.size + 1, 1, none⟩ (.int .i64 d1)).cell? ⟨w.heap.size + 1 + 1, 0, none⟩ = some (.int .i64 n1) := Rg.far (by omega) b0
  have b1 : ((w3.setCell ⟨w.heap.size + 1, 0, none⟩ (.int .i64 n1)).setCell ⟨w.heap.size + 1, 1, none⟩ (.int .i64 d1)).cell? ⟨w.heap.size + 1 + 1, 1, none⟩ = some (.int .i64 d1) := Rg.far (by omega) b1
  have a0 : ((w3.setCell ⟨w.heap.size + 1, 0, none⟩ (.int .i64 n1)).setCell ⟨w.heap.size + 1, 1, none⟩ (.int .i64 d1)).cell? ⟨w.heap.size + 1, 0, none⟩ = some (.int .i64 n1) := Rg.RC.read0 RA
  have a1 : ((w3.setCell ⟨w.heap.size + 1, 0, none⟩ (.int .i64 n1)).setCell ⟨w.heap.size + 1, 1, none⟩ (.int .i64 d1)).cell? ⟨w.heap.size + 1, 1, none⟩ = some (.int .i64 d1) := Rg.RC.read1 RA
  have RB : Rg.RC (w.heap.size + 1 + 1) ((w3.setCell ⟨w.heap.size + 1, 0, none⟩ (.int .i64 n1)).setCell ⟨w.heap.size + 1, 1, none⟩ (.int .i64 d1)) := Rg.RC.far (by omega) RB
  have RA : Rg.RC (w.heap.size + 1) ((w3.setCell ⟨w.heap.size + 1, 0, none⟩ (.int .i64 n1)).setCell ⟨w.heap.size + 1, 1, none⟩ (.int .i64 d1)) := Rg.RC.store RA
  have lt : w.heap.size < ((w3.setCell ⟨w.heap.size + 1, 0, none⟩ (.int .i64 n1)).setCell ⟨w.heap.size + 1, 1, none⟩ (.int .i64 d1)).heap.size := by rw [Rg.size2]; exact lt
  have la : w.heap.size + 1 < ((w3.setCell ⟨w.heap.size + 1, 0, none⟩ (.int .i64 n1)).setCell ⟨w.heap.size + 1, 1, none⟩ (.int .i64 d1)).heap.size := by rw [Rg.size2]; exact la
  have lb : w.heap.size + 1 + 1 < ((w3.setCell ⟨w.heap.size + 1, 0, none⟩ (.int .i64 n1)).setCell ⟨w.heap.size + 1, 1, none⟩ (.int .i64 d1)).heap.size := by rw [Rg.size2]; exact lb
  have K4 : Below w.heap.size w ((w3.setCell ⟨w.heap.size + 1, 0, none⟩ (.int .i64 n1)).setCell ⟨w.heap.size + 1, 1, none⟩ (.int .i64 d1)) := Below.setCell (Below.setCell K3 (by dsimp only; omega) _) (by dsimp only; omega) _
  clear K3
  generalize ((w3.setCell ⟨w.heap.size + 1, 0, none⟩ (.int .i64 n1)).setCell ⟨w.heap.size + 1, 1, none⟩ (.int .i64 d1)) = yw4 at *
  have t0 : ((yw4.setCell ⟨w.heap.size + 1 + 1, 0, none⟩ (.int .i64 n0)).setCell ⟨w.heap.size + 1 + 1, 1, none⟩ (.int .i64 d0)).cell? ⟨w.heap.size, 0, none⟩ = some (.int .i64 K) := Rg.far (by omega) t0
  have t1 : ((yw4.setCell ⟨w.heap.size + 1 + 1, 0, none⟩ (.int .i64 n0)).setCell ⟨w.heap.size + 1 + 1, 1, none⟩ (.int .i64 d0)).cell? ⟨w.heap.size, 1, none⟩ = some (.int .i64 B) := Rg.far (by omega) t1
  have t2 : ((yw4.setCell ⟨w.heap.size + 1 + 1, 0, none⟩ (.int .i64 n0)).setCell ⟨w.heap.size + 1 + 1, 1, none⟩ (.int .i64 d0)).cell? ⟨w.heap.size, 2, none⟩ = some (.int .i64 F) := Rg.far (by omega) t2
  have t3 : ((yw4.setCell ⟨w.heap.size + 1 + 1, 0, none⟩ (.int .i64 n0)).setCell ⟨w.heap.size + 1 + 1, 1, none⟩ (.int .i64 d0)).cell? ⟨w.heap.size, 3, none⟩ = some (.int .i64 R) := Rg.far (by omega) t3
  have t4 : ((yw4.setCell ⟨w.heap.size + 1 + 1, 0, none⟩ (.int .i64 n0)).setCell ⟨w.heap.size + 1 + 1, 1, none⟩ (.int .i64 d0)).cell? ⟨w.heap.size, 4, none⟩ = some (.int .i64 O) := Rg.far (by omega) t4
  have a0 : ((yw4.setCell ⟨w.heap.size + 1 + 1, 0, none⟩ (.int .i64 n0)).setCell ⟨w.heap.size + 1 + 1, 1, none⟩ (.int .i64 d0)).cell? ⟨w.heap.size + 1, 0, none⟩ = some (.int .i64 n1) := Rg.far (by omega) a0
  have a1 : ((yw4.setCell ⟨w.heap.size + 1 + 1, 0, none⟩ (.int .i64 n0)).setCell ⟨w.heap.size + 1 + 1, 1, none⟩ (.int .i64 d0)).cell? ⟨w.heap.size + 1, 1, none⟩ = some (.int .i64 d1) := Rg.far (by omega) a1
  have b0 : ((yw4.setCell ⟨w.heap.size + 1 + 1, 0, none⟩ (.int .i64 n0)).setCell ⟨w.heap.size + 1 + 1, 1, none⟩ (.int .i64 d0)).cell? ⟨w.heap.size + 1 + 1, 0, none⟩ = some (.int .i64 n0) := Rg.RC.read0 RB
  have b1 : ((yw4.setCell ⟨w.heap.size + 1 + 1, 0, none⟩ (.int .i64 n0)).setCell ⟨w.heap.size + 1 + 1, 1, none⟩ (.int .i64 d0)).cell? ⟨w.heap.size + 1 + 1, 1, none⟩ = some (.int .i64 d0) := Rg.RC.read1 RB
  have RA : Rg.RC (w.heap.size + 1) ((yw4.setCell ⟨w.heap.size + 1 + 1, 0, none⟩ (.int .i64 n0)).setCell ⟨w.heap.size + 1 + 1, 1, none⟩ (.int .i64 d0)) := Rg.RC.far (by omega) RA
  have RB : Rg.RC (w.heap.size + 1 + 1) ((yw4.setCell ⟨w.heap.size + 1 + 1, 0, none⟩ (.int .i64 n0)).setCell ⟨w.heap.size + 1 + 1, 1, none⟩ (.int .i64 d0)) := Rg.RC.store RB
  have lt : w.heap.size < ((yw4.setCell ⟨w.heap.size + 1 + 1, 0, none⟩ (.int .i64 n0)).setCell ⟨w.heap.size + 1 + 1, 1, none⟩ (.int .i64 d0)).heap.size := by rw [Rg.size2]; exact lt
  have la : w.heap.size + 1 < ((yw4.setCell ⟨w.heap.size + 1 + 1, 0, none⟩ (.int .i64 n0)).setCell ⟨w.heap.size + 1 + 1, 1, none⟩ (.int .i64 d0)).heap.size := by rw [Rg.size2]; exact la
  have lb : w.heap.size + 1 + 1 < ((yw4.setCell ⟨w.heap.size + 1 + 1, 0, none⟩ (.int .i64 n0)).setCell ⟨w.heap.size + 1 + 1, 1, none⟩ (.int .i64 d0)).heap.size := by rw [Rg.size2]; exact lb
  have K5 : Below w.heap.size w ((yw4.setCell ⟨w.heap.size + 1 + 1, 0, none⟩ (.int .i64 n0)).setCell ⟨w.heap.size + 1 + 1, 1, none⟩ (.int .i64 d0)) := Below.setCell (Below.setCell K4 (by dsimp only; omega) _) (by dsimp only; omega) _
  clear K4
  generalize ((yw4.setCell ⟨w.heap.size + 1 + 1, 0, none⟩ (.int .i64 n0)).setCell ⟨w.heap.size + 1 + 1, 1, none⟩ (.int .i64 d0)) = yw5 at *
  refine (FFb.out _).mono ?_
  rintro e w6 ⟨rfl, hb⟩
  have L : Below yw5.heap.size yw5 w6 := (Below.refl _ _).trans (hb.mono (by simp <;> omega))
  have K6 : Below w.heap.size w w6 := K5.trans (L.mono K5.size)
  have RA := Rg.RC.keep L la RA
  have RB := Rg.RC.keep L lb RB
  have t0 := Rg.keep L lt t0
  have t1 := Rg.keep L lt t1
  have t2 := Rg.keep L lt t2
  have t3 := Rg.keep L lt t3
  have t4 := Rg.keep L lt t4
  have a0 := Rg.keep L la a0
  have a1 := Rg.keep L la a1
  have b0 := Rg.keep L lb b0
  have b1 := Rg.keep L lb b1
  have lt := Nat.lt_of_lt_of_le lt L.size
  have la := Nat.lt_of_lt_of_le la L.size
  have lb := Nat.lt_of_lt_of_le lb L.size
  clear hb L
  go_wp2_with fail
  refine (FFa.out _).mono ?_
  rintro e w7 ⟨rfl, hb⟩
  have L : Below w6.heap.size w6 w7 := ((Below.refl _ _).alloc (by simp <;> omega) _).trans (hb.mono (by simp <;> omega))
  have K7 : Below w.heap.size w w7 := K6.trans (L.mono K6.size)
  have RA := Rg.RC.keep L la RA
  have RB := Rg.RC.keep L lb RB
  have lq : w6.heap.size < w7.heap.size := Nat.lt_of_lt_of_le (by simp <;> omega) hb.size
  have q0 : w7.cell? ⟨w6.heap.size, 0, none⟩ = some (.int .i64 q) := Rg.keep hb (by simp <;> omega) (by go_cell)
  have q1 : w7.cell? ⟨w6.heap.size, 1, none⟩ = some (.int .i64 1) := Rg.keep hb (by simp <;> omega) (by go_cell)
  have t0 := Rg.keep L lt t0
  have t1 := Rg.keep L lt t1
  have t2 := Rg.keep L lt t2
  have t3 := Rg.keep L lt t3
  have t4 := Rg.keep L lt t4
  have a0 := Rg.keep L la a0
  have a1 := Rg.keep L la a1
  have b0 := Rg.keep L lb b0
  have b1 := Rg.keep L lb b1
  have lt := Nat.lt_of_lt_of_le lt L.size
  have la := Nat.lt_of_lt_of_le la L.size
  have lb := Nat.lt_of_lt_of_le lb L.size
  clear hb L
  go_wp2_with fail
  refine (EX.out _).mono ?_
  rintro e w8 ⟨rfl, hb⟩
  have L : Below w7.heap.size w7 w8 := ((Below.refl _ _).alloc (by simp <;> omega) _).trans (hb.mono (by simp <;> omega))
  have K8 : Below w.heap.size w w8 := K7.trans (L.mono K7.size)
  have RA := Rg.RC.keep L la RA
  have RB := Rg.RC.keep L lb RB
  have lp : w7.heap.size < w8.heap.size := Nat.lt_of_lt_of_le (by simp <;> omega) hb.size
  have p0 : w8.cell? ⟨w7.heap.size, 0, none⟩ = some (.int .i64 p) := Rg.keep hb (by simp <;> omega) (by go_cell)
  have p1 : w8.cell? ⟨w7.heap.size, 1, none⟩ = some (.int .i64 1) := Rg.keep hb (by simp <;> omega) (by go_cell)
  have t0 := Rg.keep L lt t0
  have t1 := Rg.keep L lt t1
  have t2 := Rg.keep L lt t2
  have t3 := Rg.keep L lt t3
  have t4 := Rg.keep L lt t4
  have a0 := Rg.keep L la a0
  have a1 := Rg.keep L la a1
  have b0 := Rg.keep L lb b0
  have b1 := Rg.keep L lb b1
  have q0 := Rg.keep L lq q0
  have q1 := Rg.keep L lq q1
  have lt := Nat.lt_of_lt_of_le lt L.size
  have la := Nat.lt_of_lt_of_le la L.size
  have lb := Nat.lt_of_lt_of_le lb L.size
  have lq := Nat.lt_of_lt_of_le lq L.size
  clear hb L
  go_wp2
  go_ret
  exact ⟨rfl, K8⟩
set_option maxHeartbeats 16000000 in
theorem gr_0 (K B F R O n0 d0 n1 d1 n2 d2 : Int) (w : World) (V0 : Hid (∀ w, Calls Try.prog 20 #[.agg #[.int .i64 K, .int .i64 B, .int .i64 F, .int .i64 R, .int .i64 O], .agg #[.int .i64 n0, .int .i64 d0]] w (Ret (.bool false) w))) (EX : Hid (∀ w, Calls Try.prog 21 #[] w (Ret (.bool true) w))) : Calls Try.prog 9 #[.agg #[.int .i64 K, .int .i64 B, .int .i64 F, .int .i64 R, .int .i64 O], .agg #[.int .i64 n0, .int .i64 d0], .agg #[.int .i64 n1, .int .i64 d1], .agg #[.int .i64 n2, .int .i64 d2]] w (Ret (.bool true) w) := by
  go_enter Try.func9, Try.ntmps9
  go_wp2_with fail
  refine (V0.out _).mono ?_
  rintro e w1 ⟨rfl, hb⟩
  have L : Below w.heap.size w w1 := (((((Below.refl _ _).alloc (by simp <;> omega) _).alloc (by simp <;> omega) _).alloc (by simp <;> omega) _).alloc (by simp <;> omega) _).trans (hb.mono (by simp <;> omega))
  have K1 : Below w.heap.size w w1 := L
  have lt : w.heap.size < w1.heap.size := Nat.lt_of_lt_of_le (by simp <;> omega) hb.size
  have t0 : w1.cell? ⟨w.heap.size, 0, none⟩ = some (.int .i64 K) := Rg.keep hb (by simp <;> omega) (by go_cell)
  have t1 : w1.cell? ⟨w.heap.size, 1, none⟩ = some (.int .i64 B) := Rg.keep hb (by simp <;> omega) (by go_cell)
  have t2 : w1.cell? ⟨w.heap.size, 2, none⟩ = some (.int .i64 F) := Rg.keep hb (by simp <;> omega) (by go_cell)
  have t3 : w1.cell? ⟨w.heap.size, 3, none⟩ = some (.int .i64 R) := Rg.keep hb (by simp <;> omega) (by go_cell)
  have t4 : w1.cell? ⟨w.heap.size, 4, none⟩ = some (.int .i64 O) := Rg.keep hb (by simp <;> omega) (by go_cell)
  have la : w.heap.size + 1 < w1.heap.size := Nat.lt_of_lt_of_le (by simp <;> omega) hb.size
  have a0 : w1.cell? ⟨w.heap.size + 1, 0, none⟩ = some (.int .i64 n0) := Rg.keep hb (by simp <;> omega) (by go_cell)
  have a1 : w1.cell? ⟨w.heap.size + 1, 1, none⟩ = some (.int .i64 d0) := Rg.keep hb (by simp <;> omega) (by go_cell)
  have lb : w.heap.size + 1 + 1 < w1.heap.size := Nat.lt_of_lt_of_le (by simp <;> omega) hb.size
  have b0 : w1.cell? ⟨w.heap.size + 1 + 1, 0, none⟩ = some (.int .i64 n1) := Rg.keep hb (by simp <;> omega) (by go_cell)
  have b1 : w1.cell? ⟨w.heap.size + 1 + 1, 1, none⟩ = some (.int .i64 d1) := Rg.keep hb (by simp <;> omega) (by go_cell)
  have lc : w.heap.size + 1 + 1 + 1 < w1.heap.size := Nat.lt_of_lt_of_le (by simp <;> omega) hb.size
  have c0 : w1.cell? ⟨w.heap.size + 1 + 1 + 1, 0, none⟩ = some (.int .i64 n2) := Rg.keep hb (by simp <;> omega) (by go_cell)
  have c1 : w1.cell? ⟨w.heap.size + 1 + 1 + 1, 1, none⟩ = some (.int .i64 d2) := Rg.keep hb (by simp <;> omega) (by go_cell)
  clear hb L
  go_wp2_with fail
  refine (EX.out _).mono ?_
  rintro e w2 ⟨rfl, hb⟩
  have L : Below w1.heap.size w1 w2 := (Below.refl _ _).trans (hb.mono (by simp <;> omega))
  have K2 : Below w.heap.size w w2 := K1.trans (L.mono K1.size)
  have t0 := Rg.keep L lt t0
  have t1 := Rg.keep L lt t1
  have t2 := Rg.keep L lt t2
  have t3 := Rg.keep L lt t3
  have t4 := Rg.keep L lt t4
  have a0 := Rg.keep L la a0
  have a1 := Rg.keep L la a1
  have b0 := Rg.keep L lb b0
  have b1 := Rg.keep L lb b1
  have c0 := Rg.keep L lc c0
  have c1 := Rg.keep L lc c1
  have lt := Nat.lt_of_lt_of_le lt L.size
  have la := Nat.lt_of_lt_of_le la L.size
  have lb := Nat.lt_of_lt_of_le lb L.size
  have lc := Nat.lt_of_lt_of_le lc L.size
  clear hb L
  go_wp2
  go_ret
  exact ⟨rfl, K2⟩
set_option maxHeartbeats 16000000 in
theorem gr_1 (K B F R O n0 d0 n1 d1 n2 d2 : Int) (w : World) (V0 : Hid (∀ w, Calls Try.prog 20 #[.agg #[.int .i64 K, .int .i64 B, .int .i64 F, .int .i64 R, .int .i64 O], .agg #[.int .i64 n0, .int .i64 d0]] w (Ret (.bool true) w))) (V1 : Hid (∀ w, Calls Try.prog 20 #[.agg #[.int .i64 K, .int .i64 B, .int .i64 F, .int .i64 R, .int .i64 O], .agg #[.int .i64 n1, .int .i64 d1]] w (Ret (.bool false) w))) (EX : Hid (∀ w, Calls Try.prog 21 #[] w (Ret (.bool true) w))) : Calls Try.prog 9 #[.agg #[.int .i64 K, .int .i64 B, .int .i64 F, .int .i64 R, .int .i64 O], .agg #[.int .i64 n0, .int .i64 d0], .agg #[.int .i64 n1, .int .i64 d1], .agg #[.int .i64 n2, .int .i64 d2]] w (Ret (.bool true) w) := by
  go_enter Try.func9, Try.ntmps9
  go_wp2_with fail
  refine (V0.out _).mono ?_
  rintro e w1 ⟨rfl, hb⟩
  have L : Below w.heap.size w w1 := (((((Below.refl _ _).alloc (by simp <;> omega) _).alloc (by simp <;> omega) _).alloc (by simp <;> omega) _).alloc (by simp <;> omega) _).trans (hb.mono (by simp <;> omega))
  have K1 : Below w.heap.size w w1 := L
  have lt : w.heap.size < w1.heap.size := Nat.lt_of_lt_of_le (by simp <;> omega) hb.size
  have t0 : w1.cell? ⟨w.heap.size, 0, none⟩ = some (.int .i64 K) := Rg.keep hb (by simp <;> omega) (by go_cell)
  have t1 : w1.cell? ⟨w.heap.size, 1, none⟩ = some (.int .i64 B) := Rg.keep hb (by simp <;> omega) (by go_cell)
  have t2 : w1.cell? ⟨w.heap.size, 2, none⟩ = some (.int .i64 F) := Rg.keep hb (by simp <;> omega) (by go_cell)
  have t3 : w1.cell? ⟨w.heap.size, 3, none⟩ = some (.int .i64 R) := Rg.keep hb (by simp <;> omega) (by go_cell)
  have t4 : w1.cell? ⟨w.heap.size, 4, none⟩ = some (.int .i64 O) := Rg.keep hb (by simp <;> omega) (by go_cell)
  have la : w.heap.size + 1 < w1.heap.size := Nat.lt_of_lt_of_le (by simp <;> omega) hb.size
  have a0 : w1.cell? ⟨w.heap.size + 1, 0, none⟩ = some (.int .i64 n0) := Rg.keep hb (by simp <;> omega) (by go_cell)
  have a1 : w1.cell? ⟨w.heap.size + 1, 1, none⟩ = some (.int .i64 d0) := Rg.keep hb (by simp <;> omega) (by go_cell)
  have lb : w.heap.size + 1 + 1 < w1.heap.size := Nat.lt_of_lt_of_le (by simp <;> omega) hb.size
  have b0 : w1.cell? ⟨w.heap.size + 1 + 1, 0, none⟩ = some (.int .i64 n1) := Rg.keep hb (by simp <;> omega) (by go_cell)
  have b1 : w1.cell? ⟨w.heap.size + 1 + 1, 1, none⟩ = some (.int .i64 d1) := Rg.keep hb (by simp <;> omega) (by go_cell)
  have lc : w.heap.size + 1 + 1 + 1 < w1.heap.size := Nat.lt_of_lt_of_le (by simp <;> omega) hb.size
  have c0 : w1.cell? ⟨w.heap.size + 1 + 1 + 1, 0, none⟩ = some (.int .i64 n2) := Rg.keep hb (by simp <;> omega) (by go_cell)
  have c1 : w1.cell? ⟨w.heap.size + 1 + 1 + 1, 1, none⟩ = some (.int .i64 d2) := Rg.keep hb (by simp <;> omega) (by go_cell)
  clear hb L
  go_wp2_with fail
  refine (V1.out _).mono ?_
  rintro e w2 ⟨rfl, hb⟩
  have L : Below w1.heap.size w1 w2 := (Below.refl _ _).trans (hb.mono (by simp <;> omega))
  have K2 : Below w.heap.size w w2 := K1.trans (L.mono K1.size)
  have t0 := Rg.keep L lt t0
  have t1 := Rg.keep L lt t1
  have t2 := Rg.keep L lt t2
  have t3 := Rg.keep L lt t3
  have t4 := Rg.keep L lt t4
  have a0 := Rg.keep L la a0
  have a1 := Rg.keep L la a1
  have b0 := Rg.keep L lb b0
  have b1 := Rg.keep L lb b1
  have c0 := Rg.keep L lc c0
  have c1 := Rg.keep L lc c1
  have lt := Nat.lt_of_lt_of_le lt L.size
  have la := Nat.lt_of_lt_of_le la L.size
  have lb := Nat.lt_of_lt_of_le lb L.size
  have lc := Nat.lt_of_lt_of_le lc L.size
  clear hb L
  go_wp2_with fail
  refine (EX.out _).mono ?_
  rintro e w3 ⟨rfl, hb⟩
  have L : Below w2.heap.size w2 w3 := (Below.refl _ _).trans (hb.mono (by simp <;> omega))
  have K3 : Below w.heap.size w w3 := K2.trans (L.mono K2.size)
  have t0 := Rg.keep L lt t0
  have t1 := Rg.keep L lt t1
  have t2 := Rg.keep L lt t2
  have t3 := Rg.keep L lt t3
  have t4 := Rg.keep L lt t4
  have a0 := Rg.keep L la a0
  have a1 := Rg.keep L la a1
  have b0 := Rg.keep L lb b0
  have b1 := Rg.keep L lb b1
  have c0 := Rg.keep L lc c0
  have c1 := Rg.keep L lc c1
  have lt := Nat.lt_of_lt_of_le lt L.size
  have la := Nat.lt_of_lt_of_le la L.size
  have lb := Nat.lt_of_lt_of_le lb L.size
  have lc := Nat.lt_of_lt_of_le lc L.size
  clear hb L
  go_wp2
  go_ret
  exact ⟨rfl, K3⟩
set_option maxHeartbeats 16000000 in
theorem gr_2 (K B F R O n0 d0 n1 d1 n2 d2 : Int) (w : World) (V0 : Hid (∀ w, Calls Try.prog 20 #[.agg #[.int .i64 K, .int .i64 B, .int .i64 F, .int .i64 R, .int .i64 O], .agg #[.int .i64 n0, .int .i64 d0]] w (Ret (.bool true) w))) (V1 : Hid (∀ w, Calls Try.prog 20 #[.agg #[.int .i64 K, .int .i64 B, .int .i64 F, .int .i64 R, .int .i64 O], .agg #[.int .i64 n1, .int .i64 d1]] w (Ret (.bool true) w))) (V2 : Hid (∀ w, Calls Try.prog 20 #[.agg #[.int .i64 K, .int .i64 B, .int .i64 F, .int .i64 R, .int .i64 O], .agg #[.int .i64 n2, .int .i64 d2]] w (Ret (.bool false) w))) (EX : Hid (∀ w, Calls Try.prog 21 #[] w (Ret (.bool true) w))) : Calls Try.prog 9 #[.agg #[.int .i64 K, .int .i64 B, .int .i64 F, .int .i64 R, .int .i64 O], .agg #[.int .i64 n0, .int .i64 d0], .agg #[.int .i64 n1, .int .i64 d1], .agg #[.int .i64 n2, .int .i64 d2]] w (Ret (.bool true) w) := by
  go_enter Try.func9, Try.ntmps9
  go_wp2_with fail
  refine (V0.out _).mono ?_
  rintro e w1 ⟨rfl, hb⟩
  have L : Below w.heap.size w w1 := (((((Below.refl _ _).alloc (by simp <;> omega) _).alloc (by simp <;> omega) _).alloc (by simp <;> omega) _).alloc (by simp <;> omega) _).trans (hb.mono (by simp <;> omega))
  have K1 : Below w.heap.size w w1 := L
  have lt : w.heap.size < w1.heap.size := Nat.lt_of_lt_of_le (by simp <;> omega) hb.size
  have t0 : w1.cell? ⟨w.heap.size, 0, none⟩ = some (.int .i64 K) := Rg.keep hb (by simp <;> omega) (by go_cell)
  have t1 : w1.cell? ⟨w.heap.size, 1, none⟩ = some (.int .i64 B) := Rg.keep hb (by simp <;> omega) (by go_cell)
  have t2 : w1.cell? ⟨w.heap.size, 2, none⟩ = some (.int .i64 F) := Rg.keep hb (by simp <;> omega) (by go_cell)
  have t3 : w1.cell? ⟨w.heap.size, 3, none⟩ = some (.int .i64 R) := Rg.keep hb (by simp <;> omega) (by go_cell)
  have t4 : w1.cell? ⟨w.heap.size, 4, none⟩ = some (.int .i64 O) := Rg.keep hb (by simp <;> omega) (by go_cell)
  have la : w.heap.size + 1 < w1.heap.size := Nat.lt_of_lt_of_le (by simp <;> omega) hb.size
  have a0 : w1.cell? ⟨w.heap.size + 1, 0, none⟩ = some (.int .i64 n0) := Rg.keep hb (by simp <;> omega) (by go_cell)
  have a1 : w1.cell? ⟨w.heap.size + 1, 1, none⟩ = some (.int .i64 d0) := Rg.keep hb (by simp <;> omega) (by go_cell)
  have lb : w.heap.size + 1 + 1 < w1.heap.size := Nat.lt_of_lt_of_le (by simp <;> omega) hb.size
  have b0 : w1.cell? ⟨w.heap.size + 1 + 1, 0, none⟩ = some (.int .i64 n1) := Rg.keep hb (by simp <;> omega) (by go_cell)
  have b1 : w1.cell? ⟨w.heap.size + 1 + 1, 1, none⟩ = some (.int .i64 d1) := Rg.keep hb (by simp <;> omega) (by go_cell)
  have lc : w.heap.size + 1 + 1 + 1 < w1.heap.size := Nat.lt_of_lt_of_le (by simp <;> omega) hb.size
  have c0 : w1.cell? ⟨w.heap.size + 1 + 1 + 1, 0, none⟩ = some (.int .i64 n2) := Rg.keep hb (by simp <;> omega) (by go_cell)
  have c1 : w1.cell? ⟨w.heap.size + 1 + 1 + 1, 1, none⟩ = some (.int .i64 d2) := Rg.keep hb (by simp <;> omega) (by go_cell)
  clear hb L
  go_wp2_with fail
  refine (V1.out _).mono ?_
  rintro e w2 ⟨rfl, hb⟩
  have L : Below w1.heap.size w1 w2 := (Below.refl _ _).trans (hb.mono (by simp <;> omega))
  have K2 : Below w.heap.size w w2 := K1.trans (L.mono K1.size)
  have t0 := Rg.keep L lt t0
  have t1 := Rg.keep L lt t1
  have t2 := Rg.keep L lt t2
  have t3 := Rg.keep L lt t3
  have t4 := Rg.keep L lt t4
  have a0 := Rg.keep L la a0
  have a1 := Rg.keep L la a1
  have b0 := Rg.keep L lb b0
  have b1 := Rg.keep L lb b1
  have c0 := Rg.keep L lc c0
  have c1 := Rg.keep L lc c1
  have lt := Nat.lt_of_lt_of_le lt L.size
  have la := Nat.lt_of_lt_of_le la L.size
  have lb := Nat.lt_of_lt_of_le lb L.size
  have lc := Nat.lt_of_lt_of_le lc L.size
  clear hb L
  go_wp2_with fail
  refine (V2.out _).mono ?_
  rintro e w3 ⟨rfl, hb⟩
  have L : Below w2.heap.size w2 w3 := (Below.refl _ _).trans (hb.mono (by simp <;> omega))
  have K3 : Below w.heap.size w w3 := K2.trans (L.mono K2.size)
  have t0 := Rg.keep L lt t0
  have t1 := Rg.keep L lt t1
  have t2 := Rg.keep L lt t2
  have t3 := Rg.keep L lt t3
  have t4 := Rg.keep L lt t4
  have a0 := Rg.keep L la a0
  have a1 := Rg.keep L la a1
  have b0 := Rg.keep L lb b0
  have b1 := Rg.keep L lb b1
  have c0 := Rg.keep L lc c0
  have c1 := Rg.keep L lc c1
  have lt := Nat.lt_of_lt_of_le lt L.size
  have la := Nat.lt_of_lt_of_le la L.size
  have lb := Nat.lt_of_lt_of_le lb L.size
  have lc := Nat.lt_of_lt_of_le lc L.size
  clear hb L
  go_wp2_with fail
  refine (EX.out _).mono ?_
  rintro e w4 ⟨rfl, hb⟩
  have L : Below w3.heap.size w3 w4 := (Below.refl _ _).trans (hb.mono (by simp <;> omega))
  have K4 : Below w.heap.size w w4 := K3.trans (L.mono K3.size)
  have t0 := Rg.keep L lt t0
  have t1 := Rg.keep L lt t1
  have t2 := Rg.keep L lt t2
  have t3 := Rg.keep L lt t3
  have t4 := Rg.keep L lt t4
  have a0 := Rg.keep L la a0
  have a1 := Rg.keep L la a1
  have b0 := Rg.keep L lb b0
  have b1 := Rg.keep L lb b1
  have c0 := Rg.keep L lc c0
  have c1 := Rg.keep L lc c1
  have lt := Nat.lt_of_lt_of_le lt L.size
  have la := Nat.lt_of_lt_of_le la L.size
  have lb := Nat.lt_of_lt_of_le lb L.size
  have lc := Nat.lt_of_lt_of_le lc L.size
  clear hb L
  go_wp2
  go_ret
  exact ⟨rfl, K4⟩
set_option maxHeartbeats 16000000 in
theorem gr_sat (K B F R O n0 d0 n1 d1 n2 d2 s m : Int) (w : World) (ho : (O != 2) = true) (V0 : Hid (∀ w, Calls Try.prog 20 #[.agg #[.int .i64 K, .int .i64 B, .int .i64 F, .int .i64 R, .int .i64 O], .agg #[.int .i64 n0, .int .i64 d0]] w (Ret (.bool true) w))) (V1 : Hid (∀ w, Calls Try.prog 20 #[.agg #[.int .i64 K, .int .i64 B, .int .i64 F, .int .i64 R, .int .i64 O], .agg #[.int .i64 n1, .int .i64 d1]] w (Ret (.bool true) w))) (V2 : Hid (∀ w, Calls Try.prog 20 #[.agg #[.int .i64 K, .int .i64 B, .int .i64 F, .int .i64 R, .int .i64 O], .agg #[.int .i64 n2, .int .i64 d2]] w (Ret (.bool true) w))) (S1 : Hid (∀ w, Calls Try.prog 26 #[.agg #[.int .i64 K, .int .i64 B, .int .i64 F, .int .i64 R, .int .i64 O], .agg #[.int .i64 n0, .int .i64 d0], .agg #[.int .i64 n1, .int .i64 d1]] w (Ret (Frac3 s 1 0) w))) (S2 : Hid (∀ w, Calls Try.prog 26 #[.agg #[.int .i64 K, .int .i64 B, .int .i64 F, .int .i64 R, .int .i64 O], .agg #[.int .i64 n1, .int .i64 d1], .agg #[.int .i64 n0, .int .i64 d0]] w (Ret (Frac3 s 1 0) w))) (M1 : Hid (∀ w, Calls Try.prog 30 #[.agg #[.int .i64 K, .int .i64 B, .int .i64 F, .int .i64 R, .int .i64 O], .agg #[.int .i64 n0, .int .i64 d0], .agg #[.int .i64 n1, .int .i64 d1]] w (Ret (Frac3 m 1 0) w))) (M2 : Hid (∀ w, Calls Try.prog 30 #[.agg #[.int .i64 K, .int .i64 B, .int .i64 F, .int .i64 R, .int .i64 O], .agg #[.int .i64 n1, .int .i64 d1], .agg #[.int .i64 n0, .int .i64 d0]] w (Ret (Frac3 m 1 0) w))) (EX : Hid (∀ w, Calls Try.prog 21 #[] w (Ret (.bool true) w))) : Calls Try.prog 9 #[.agg #[.int .i64 K, .int .i64 B, .int .i64 F, .int .i64 R, .int .i64 O], .agg #[.int .i64 n0, .int .i64 d0], .agg #[.int .i64 n1, .int .i64 d1], .agg #[.int .i64 n2, .int .i64 d2]] w (Ret (.bool true) w) := by
  go_enter Try.func9, Try.ntmps9
  go_wp2_with fail
  refine (V0.out _).mono ?_
  rintro e w1 ⟨rfl, hb⟩
  have L : Below w.heap.size w w1 := (((((Below.refl _ _).alloc (by simp <;> omega) _).alloc (by simp <;> omega) _).alloc (by simp <;> omega) _).alloc (by simp <;> omega) _).trans (hb.mono (by simp <;> omega))
  have K1 : Below w.heap.size w w1 := L
  have lt : w.heap.size < w1.heap.size := Nat.lt_of_lt_of_le (by simp <;> omega) hb.size
  have t0 : w1.cell? ⟨w.heap.size, 0, none⟩ = some (.int .i64 K) := Rg.keep hb (by simp <;> omega) (by go_cell)
  have t1 : w1.cell? ⟨w.heap.size, 1, none⟩ = some (.int .i64 B) := Rg.keep hb (by simp <;> omega) (by go_cell)
  have t2 : w1.cell? ⟨w.heap.size, 2, none⟩ = some (.int .i64 F) := Rg.keep hb (by simp <;> omega) (by go_cell)
  have t3 : w1.cell? ⟨w.heap.size, 3, none⟩ = some (.int .i64 R) := Rg.keep hb (by simp <;> omega) (by go_cell)
  have t4 : w1.cell? ⟨w.heap.size, 4, none⟩ = some (.int .i64 O) := Rg.keep hb (by simp <;> omega) (by go_cell)
  have la : w.heap.size + 1 < w1.heap.size := Nat.lt_of_lt_of_le (by simp <;> omega) hb.size
  have a0 : w1.cell? ⟨w.heap.size + 1, 0, none⟩ = some (.int .i64 n0) := Rg.keep hb (by simp <;> omega) (by go_cell)
  have a1 : w1.cell? ⟨w.heap.size + 1, 1, none⟩ = some (.int .i64 d0) := Rg.keep hb (by simp <;> omega) (by go_cell)
  have lb : w.heap.size + 1 + 1 < w1.heap.size := Nat.lt_of_lt_of_le (by simp <;> omega) hb.size
  have b0 : w1.cell? ⟨w.heap.size + 1 + 1, 0, none⟩ = some (.int .i64 n1) := Rg.keep hb (by simp <;> omega) (by go_cell)
  have b1 : w1.cell? ⟨w.heap.size + 1 + 1, 1, none⟩ = some (.int .i64 d1) := Rg.keep hb (by simp <;> omega) (by go_cell)
  have lc : w.heap.size + 1 + 1 + 1 < w1.heap.size := Nat.lt_of_lt_of_le (by simp <;> omega) hb.size
  have c0 : w1.cell? ⟨w.heap.size + 1 + 1 + 1, 0, none⟩ = some (.int .i64 n2) := Rg.keep hb (by simp <;> omega) (by go_cell)
  have c1 : w1.cell? ⟨w.heap.size + 1 + 1 + 1, 1, none⟩ = some (.int .i64 d2) := Rg.keep hb (by simp <;> omega) (by go_cell)
  clear hb L
  go_wp2_with fail
  refine (V1.out _).mono ?_
  rintro e w2 ⟨rfl, hb⟩
  have L : Below w1.heap.size w1 w2 := (Below.refl _ _).trans (hb.mono (by simp <;> omega))
  have K2 : Below w.heap.size w w2 := K1.trans (L.mono K1.size)
  have t0 := Rg.keep L lt t0
  have t1 := Rg.keep L lt t1
  have t2 := Rg.keep L lt t2
  have t3 := Rg.keep L lt t3
  have t4 := Rg.keep L lt t4
  have a0 := Rg.keep L la a0
  have a1 := Rg.keep L la a1
  have b0 := Rg.keep L lb b0
  have b1 := Rg.keep L lb b1
  have c0 := Rg.keep L lc c0
  have c1 := Rg.keep L lc c1
  have lt := Nat.lt_of_lt_of_le lt L.size
  have la := Nat.lt_of_lt_of_le la L.size
  have lb := Nat.lt_of_lt_of_le lb L.size
  have lc := Nat.lt_of_lt_of_le lc L.size
  clear hb L
  go_wp2_with fail
  refine (V2.out _).mono ?_
  rintro e w3 ⟨rfl, hb⟩
  have L : Below w2.heap.size w2 w3 := (Below.refl _ _).trans (hb.mono (by simp <;> omega))
  have K3 : Below w.heap.size w w3 := K2.trans (L.mono K2.size)
  have t0 := Rg.keep L lt t0
  have t1 := Rg.keep L lt t1
  have t2 := Rg.keep L lt t2
  have t3 := Rg.keep L lt t3
  have t4 := Rg.keep L lt t4
  have a0 := Rg.keep L la a0
  have a1 := Rg.keep L la a1
  have b0 := Rg.keep L lb b0
  have b1 := Rg.keep L lb b1
  have c0 := Rg.keep L lc c0
  have c1 := Rg.keep L lc c1
  have lt := Nat.lt_of_lt_of_le lt L.size
  have la := Nat.lt_of_lt_of_le la L.size
  have lb := Nat.lt_of_lt_of_le lb L.size
  have lc := Nat.lt_of_lt_of_le lc L.size
  clear hb L
  go_wp2_with fail
  refine (S1.out _).mono ?_
  rintro e w4 ⟨rfl, hb⟩
  have L : Below w3.heap.size w3 w4 := (Below.refl _ _).trans (hb.mono (by simp <;> omega))
  have K4 : Below w.heap.size w w4 := K3.trans (L.mono K3.size)
  have t0 := Rg.keep L lt t0
  have t1 := Rg.keep L lt t1
  have t2 := Rg.keep L lt t2
  have t3 := Rg.keep L lt t3
  have t4 := Rg.keep L lt t4
  have a0 := Rg.keep L la a0
  have a1 := Rg.keep L la a1
  have b0 := Rg.keep L lb b0
  have b1 := Rg.keep L lb b1
  have c0 := Rg.keep L lc c0
  have c1 := Rg.keep L lc c1
  have lt := Nat.lt_of_lt_of_le lt L.size
  have la := Nat.lt_of_lt_of_le la L.size
  have lb := Nat.lt_of_lt_of_le lb L.size
  have lc := Nat.lt_of_lt_of_le lc L.size
  clear hb L
  go_wp2_with fail
  refine (S2.out _).mono ?_
  rintro e w5 ⟨rfl, hb⟩
  have L : Below w4.heap.size w4 w5 := ((Below.refl _ _).alloc (by simp <;> omega) _).trans (hb.mono (by simp <;> omega))
  have K5 : Below w.heap.size w w5 := K4.trans (L.mono K4.size)
  have ls : w4.heap.size < w5.heap.size := Nat.lt_of_lt_of_le (by simp <;> omega) hb.size
  have s0 : w5.cell? ⟨w4.heap.size, 0, none⟩ = some (.int .i64 s) := Rg.keep hb (by simp <;> omega) (by go_cell)
  have s1 : w5.cell? ⟨w4.heap.size, 1, none⟩ = some (.int .i64 1) := Rg.keep hb (by simp <;> omega) (by go_cell)
  have t0 := Rg.keep L lt t0
  have t1 := Rg.keep L lt t1
  have t2 := Rg.keep L lt t2
  have t3 := Rg.keep L lt t3
  have t4 := Rg.keep L lt t4
  have a0 := Rg.keep L la a0
  have a1 := Rg.keep L la a1
  have b0 := Rg.keep L lb b0
  have b1 := Rg.keep L lb b1
  have c0 := Rg.keep L lc c0
  have c1 := Rg.keep L lc c1
  have lt := Nat.lt_of_lt_of_le lt L.size
  have la := Nat.lt_of_lt_of_le la L.size
  have lb := Nat.lt_of_lt_of_le lb L.size
  have lc := Nat.lt_of_lt_of_le lc L.size
  clear hb L
  go_wp2_with fail
  refine (M1.out _).mono ?_
  rintro e w6 ⟨rfl, hb⟩
  have L : Below w5.heap.size w5 w6 := ((Below.refl _ _).alloc (by simp <;> omega) _).trans (hb.mono (by simp <;> omega))
  have K6 : Below w.heap.size w w6 := K5.trans (L.mono K5.size)
  have lu : w5.heap.size < w6.heap.size := Nat.lt_of_lt_of_le (by simp <;> omega) hb.size
  have u0 : w6.cell? ⟨w5.heap.size, 0, none⟩ = some (.int .i64 s) := Rg.keep hb (by simp <;> omega) (by go_cell)
  have u1 : w6.cell? ⟨w5.heap.size, 1, none⟩ = some (.int .i64 1) := Rg.keep hb (by simp <;> omega) (by go_cell)
  have t0 := Rg.keep L lt t0
  have t1 := Rg.keep L lt t1
  have t2 := Rg.keep L lt t2
  have t3 := Rg.keep L lt t3
  have t4 := Rg.keep L lt t4
  have a0 := Rg.keep L la a0
  have a1 := Rg.keep L la a1
  have b0 := Rg.keep L lb b0
  have b1 := Rg.keep L lb b1
  have c0 := Rg.keep L lc c0
  have c1 := Rg.keep L lc c1
  have s0 := Rg.keep L ls s0
  have s1 := Rg.keep L ls s1
  have lt := Nat.lt_of_lt_of_le lt L.size
  have la := Nat.lt_of_lt_of_le la L.size
  have lb := Nat.lt_of_lt_of_le lb L.size
  have lc := Nat.lt_of_lt_of_le lc L.size
  have ls := Nat.lt_of_lt_of_le ls L.size
  clear hb L
  go_wp2_with fail
  refine (M2.out _).mono ?_
  rintro e w7 ⟨rfl, hb⟩
  have L : Below w6.heap.size w6 w7 := ((Below.refl _ _).alloc (by simp <;> omega) _).trans (hb.mono (by simp <;> omega))
  have K7 : Below w.heap.size w w7 := K6.trans (L.mono K6.size)
  have lm : w6.heap.size < w7.heap.size := Nat.lt_of_lt_of_le (by simp <;> omega) hb.size
  have m0 : w7.cell? ⟨w6.heap.size, 0, none⟩ = some (.int .i64 m) := Rg.keep hb (by simp <;> omega) (by go_cell)
  have m1 : w7.cell? ⟨w6.heap.size, 1, none⟩ = some (.int .i64 1) := Rg.keep hb (by simp <;> omega) (by go_cell)
  have t0 := Rg.keep L lt t0
  have t1 := Rg.keep L lt t1
  have t2 := Rg.keep L lt t2
  have t3 := Rg.keep L lt t3
  have t4 := Rg.keep L lt t4
  have a0 := Rg.keep L la a0
  have a1 := Rg.keep L la a1
  have b0 := Rg.keep L lb b0
  have b1 := Rg.keep L lb b1
  have c0 := Rg.keep L lc c0
  have c1 := Rg.keep L lc c1
  have s0 := Rg.keep L ls s0
  have s1 := Rg.keep L ls s1
  have u0 := Rg.keep L lu u0
  have u1 := Rg.keep L lu u1
  have lt := Nat.lt_of_lt_of_le lt L.size
  have la := Nat.lt_of_lt_of_le la L.size
  have lb := Nat.lt_of_lt_of_le lb L.size
  have lc := Nat.lt_of_lt_of_le lc L.size
  have ls := Nat.lt_of_lt_of_le ls L.size
  have lu := Nat.lt_of_lt_of_le lu L.size
  clear hb L
  go_wp2_with fail
  refine (EX.out _).mono ?_
  rintro e w8 ⟨rfl, hb⟩
  have L : Below w7.heap.size w7 w8 := ((Below.refl _ _).alloc (by simp <;> omega) _).trans (hb.mono (by simp <;> omega))
  have K8 : Below w.heap.size w w8 := K7.trans (L.mono K7.size)
  have lk : w7.heap.size < w8.heap.size := Nat.lt_of_lt_of_le (by simp <;> omega) hb.size
  have k0 : w8.cell? ⟨w7.heap.size, 0, none⟩ = some (.int .i64 m) := Rg.keep hb (by simp <;> omega) (by go_cell)
  have k1 : w8.cell? ⟨w7.heap.size, 1, none⟩ = some (.int .i64 1) := Rg.keep hb (by simp <;> omega) (by go_cell)
  have t0 := Rg.keep L lt t0
  have t1 := Rg.keep L lt t1
  have t2 := Rg.keep L lt t2
  have t3 := Rg.keep L lt t3
  have t4 := Rg.keep L lt t4
  have a0 := Rg.keep L la a0
  have a1 := Rg.keep L la a1
  have b0 := Rg.keep L lb b0
  have b1 := Rg.keep L lb b1
  have c0 := Rg.keep L lc c0
  have c1 := Rg.keep L lc c1
  have s0 := Rg.keep L ls s0
  have s1 := Rg.keep L ls s1
  have u0 := Rg.keep L lu u0
  have u1 := Rg.keep L lu u1
  have m0 := Rg.keep L lm m0
  have m1 := Rg.keep L lm m1
  have lt := Nat.lt_of_lt_of_le lt L.size
  have la := Nat.lt_of_lt_of_le la L.size
  have lb := Nat.lt_of_lt_of_le lb L.size
  have lc := Nat.lt_of_lt_of_le lc L.size
  have ls := Nat.lt_of_lt_of_le ls L.size
  have lu := Nat.lt_of_lt_of_le lu L.size
  have lm := Nat.lt_of_lt_of_le lm L.size
  clear hb L
  go_wp2
  go_ret
  exact ⟨rfl, K8⟩
set_option maxHeartbeats 16000000 in
theorem gr_wrap (K B F R O n0 d0 n1 d1 n2 d2 s m l b : Int) (w : World) (ho : (O != 2) = false) (V0 : Hid (∀ w, Calls Try.prog 20 #[.agg #[.int .i64 K, .int .i64 B, .int .i64 F, .int .i64 R, .int .i64 O], .agg #[.int .i64 n0, .int .i64 d0]] w (Ret (.bool true) w))) (V1 : Hid (∀ w, Calls Try.prog 20 #[.agg #[.int .i64 K, .int .i64 B, .int .i64 F, .int .i64 R, .int .i64 O], .agg #[.int .i64 n1, .int .i64 d1]] w (Ret (.bool true) w))) (V2 : Hid (∀ w, Calls Try.prog 20 #[.agg #[.int .i64 K, .int .i64 B, .int .i64 F, .int .i64 R, .int .i64 O], .agg #[.int .i64 n2, .int .i64 d2]] w (Ret (.bool true) w))) (S1 : Hid (∀ w, Calls Try.prog 26 #[.agg #[.int .i64 K, .int .i64 B, .int .i64 F, .int .i64 R, .int .i64 O], .agg #[.int .i64 n0, .int .i64 d0], .agg #[.int .i64 n1, .int .i64 d1]] w (Ret (Frac3 s 1 0) w))) (S2 : Hid (∀ w, Calls Try.prog 26 #[.agg #[.int .i64 K, .int .i64 B, .int .i64 F, .int .i64 R, .int .i64 O], .agg #[.int .i64 n1, .int .i64 d1], .agg #[.int .i64 n0, .int .i64 d0]] w (Ret (Frac3 s 1 0) w))) (M1 : Hid (∀ w, Calls Try.prog 30 #[.agg #[.int .i64 K, .int .i64 B, .int .i64 F, .int .i64 R, .int .i64 O], .agg #[.int .i64 n0, .int .i64 d0], .agg #[.int .i64 n1, .int .i64 d1]] w (Ret (Frac3 m 1 0) w))) (M2 : Hid (∀ w, Calls Try.prog 30 #[.agg #[.int .i64 K, .int .i64 B, .int .i64 F, .int .i64 R, .int .i64 O], .agg #[.int .i64 n1, .int .i64 d1], .agg #[.int .i64 n0, .int .i64 d0]] w (Ret (Frac3 m 1 0) w))) (L1 : Hid (∀ w, Calls Try.prog 26 #[.agg #[.int .i64 K, .int .i64 B, .int .i64 F, .int .i64 R, .int .i64 O], .agg #[.int .i64 s, .int .i64 1], .agg #[.int .i64 n2, .int .i64 d2]] w (Ret (Frac3 l 1 0) w))) (B1 : Hid (∀ w, Calls Try.prog 26 #[.agg #[.int .i64 K, .int .i64 B, .int .i64 F, .int .i64 R, .int .i64 O], .agg #[.int .i64 n1, .int .i64 d1], .agg #[.int .i64 n2, .int .i64 d2]] w (Ret (Frac3 b 1 0) w))) (R1 : Hid (∀ w, Calls Try.prog 26 #[.agg #[.int .i64 K, .int .i64 B, .int .i64 F, .int .i64 R, .int .i64 O], .agg #[.int .i64 n0, .int .i64 d0], .agg #[.int .i64 b, .int .i64 1]] w (Ret (Frac3 l 1 0) w))) (Z1 : Hid (∀ w, Calls Try.prog 28 #[.agg #[.int .i64 K, .int .i64 B, .int .i64 F, .int .i64 R, .int .i64 O], .agg #[.int .i64 s, .int .i64 1], .agg #[.int .i64 n1, .int .i64 d1]] w (Ret (Frac3 n0 d0 0) w))) (EX : Hid (∀ w, Calls Try.prog 21 #[] w (Ret (.bool true) w))) : Calls Try.prog 9 #[.agg #[.int .i64 K, .int .i64 B, .int .i64 F, .int .i64 R, .int .i64 O], .agg #[.int .i64 n0, .int .i64 d0], .agg #[.int .i64 n1, .int .i64 d1], .agg #[.int .i64 n2, .int .i64 d2]] w (Ret (.bool true) w) := by
  go_enter Try.func9, Try.ntmps9
  go_wp2_with fail
  refine (V0.out _).mono ?_
  rintro e w1 ⟨rfl, hb⟩
  have L : Below w.heap.size w w1 := (((((Below.refl _ _).alloc (by simp <;> omega) _).alloc (by simp <;> omega) _).alloc (by simp <;> omega) _).alloc (by simp <;> omega) _).trans (hb.mono (by simp <;> omega))
  have K1 : Below w.heap.size w w1 := L
  have lt : w.heap.size < w1.heap.size := Nat.lt_of_lt_of_le (by simp <;> omega) hb.size
  have t0 : w1.cell? ⟨w.heap.size, 0, none⟩ = some (.int .i64 K) := Rg.keep hb (by simp <;> omega) (by go_cell)
  have t1 : w1.cell? ⟨w.heap.size, 1, none⟩ = some (.int .i64 B) := Rg.keep hb (by simp <;> omega) (by go_cell)
  have t2 : w1.cell? ⟨w.heap.size, 2, none⟩ = some (.int .i64 F) := Rg.keep hb (by simp <;> omega) (by go_cell)
  have t3 : w1.cell? ⟨w.heap.size, 3, none⟩ = some (.int .i64 R) := Rg.keep hb (by simp <;> omega) (by go_cell)
  have t4 : w1.cell? ⟨w.heap.size, 4, none⟩ = some (.int .i64 O) := Rg.keep hb (by simp <;> omega) (by go_cell)
  have la : w.heap.size + 1 < w1.heap.size := Nat.lt_of_lt_of_le (by simp <;> omega) hb.size
  have a0 : w1.cell? ⟨w.heap.size + 1, 0, none⟩ = some (.int .i64 n0) := Rg.keep hb (by simp <;> omega) (by go_cell)
  have a1 : w1.cell? ⟨w.heap.size + 1, 1, none⟩ = some (.int .i64 d0) := Rg.keep hb (by simp <;> omega) (by go_cell)
  have lb : w.heap.size + 1 + 1 < w1.heap.size := Nat.lt_of_lt_of_le (by simp <;> omega) hb.size
  have b0 : w1.cell? ⟨w.heap.size + 1 + 1, 0, none⟩ = some (.int .i64 n1) := Rg.keep hb (by simp <;> omega) (by go_cell)
  have b1 : w1.cell? ⟨w.heap.size + 1 + 1, 1, none⟩ = some (.int .i64 d1) := Rg.keep hb (by simp <;> omega) (by go_cell)
  have lc : w.heap.size + 1 + 1 + 1 < w1.heap.size := Nat.lt_of_lt_of_le (by simp <;> omega) hb.size
  have c0 : w1.cell? ⟨w.heap.size + 1 + 1 + 1, 0, none⟩ = some (.int .i64 n2) := Rg.keep hb (by simp <;> omega) (by go_cell)
  have c1 : w1.cell? ⟨w.heap.size + 1 + 1 + 1, 1, none⟩ = some (.int .i64 d2) := Rg.keep hb (by simp <;> omega) (by go_cell)
  clear hb L
  go_wp2_with fail
  refine (V1.out _).mono ?_
  rintro e w2 ⟨rfl, hb⟩
  have L : Below w1.heap.size w1 w2 := (Below.refl _ _).trans (hb.mono (by simp <;> omega))
  have K2 : Below w.heap.size w w2 := K1.trans (L.mono K1.size)
  have t0 := Rg.keep L lt t0
  have t1 := Rg.keep L lt t1
  have t2 := Rg.keep L lt t2
  have t3 := Rg.keep L lt t3
  have t4 := Rg.keep L lt t4
  have a0 := Rg.keep L la a0
  have a1 := Rg.keep L la a1
  have b0 := Rg.keep L lb b0
  have b1 := Rg.keep L lb b1
  have c0 := Rg.keep L lc c0
  have c1 := Rg.keep L lc c1
  have lt := Nat.lt_of_lt_of_le lt L.size
  have la := Nat.lt_of_lt_of_le la L.size
  have lb := Nat.lt_of_lt_of_le lb L.size
  have lc := Nat.lt_of_lt_of_le lc L.size
  clear hb L
  go_wp2_with fail
  refine (V2.out _).mono ?_
  rintro e w3 ⟨rfl, hb⟩
  have L : Below w2.heap.size w2 w3 := (Below.refl _ _).trans (hb.mono (by simp <;> omega))
  have K3 : Below w.heap.size w w3 := K2.trans (L.mono K2.size)
  have t0 := Rg.keep L lt t0
  have t1 := Rg.keep L lt t1
  have t2 := Rg.keep L lt t2
  have t3 := Rg.keep L lt t3
  have t4 := Rg.keep L lt t4
  have a0 := Rg.keep L la a0
  have a1 := Rg.keep L la a1
  have b0 := Rg.keep L lb b0
  have b1 := Rg.keep L lb b1
  have c0 := Rg.keep L lc c0
  have c1 := Rg.keep L lc c1
  have lt := Nat.lt_of_lt_of_le lt L.size
  have la := Nat.lt_of_lt_of_le la L.size
  have lb := Nat.lt_of_lt_of_le lb L.size
  have lc := Nat.lt_of_lt_of_le lc L.size
  clear hb L
  go_wp2_with fail
  refine (S1.out _).mono ?_
  rintro e w4 ⟨rfl, hb⟩
  have L : Below w3.heap.size w3 w4 := (Below.refl _ _).trans (hb.mono (by simp <;> omega))
  have K4 : Below w.heap.size w w4 := K3.trans (L.mono K3.size)
  have t0 := Rg.keep L lt t0
  have t1 := Rg.keep L lt t1
  have t2 := Rg.keep L lt t2
  have t3 := Rg.keep L lt t3
  have t4 := Rg.keep L lt t4
  have a0 := Rg.keep L la a0
  have a1 := Rg.keep L la a1
  have b0 := Rg.keep L lb b0
  have b1 := Rg.keep L lb b1
  have c0 := Rg.keep L lc c0
  have c1 := Rg.keep L lc c1
  have lt := Nat.lt_of_lt_of_le lt L.size
  have la := Nat.lt_of_lt_of_le la L.size
  have lb := Nat.lt_of_lt_of_le lb L.size
  have lc := Nat.lt_of_lt_of_le lc L.size
  clear hb L
  go_wp2_with fail
  refine (S2.out _).mono ?_
  rintro e w5 ⟨rfl, hb⟩
  have L : Below w4.heap.size w4 w5 := ((Below.refl _ _).alloc (by simp <;> omega) _).trans (hb.mono (by simp <;> omega))
  have K5 : Below w.heap.size w w5 := K4.trans (L.mono K4.size)
  have ls : w4.heap.size < w5.heap.size := Nat.lt_of_lt_of_le (by simp <;> omega) hb.size
  have s0 : w5.cell? ⟨w4.heap.size, 0, none⟩ = some (.int .i64 s) := Rg.keep hb (by simp <;> omega) (by go_cell)
  have s1 : w5.cell? ⟨w4.heap.size, 1, none⟩ = some (.int .i64 1) := Rg.keep hb (by simp <;> omega) (by go_cell)
  have t0 := Rg.keep L lt t0
  have t1 := Rg.keep L lt t1
  have t2 := Rg.keep L lt t2
  have t3 := Rg.keep L lt t3
  have t4 := Rg.keep L lt t4
  have a0 := Rg.keep L la a0
  have a1 := Rg.keep L la a1
  have b0 := Rg.keep L lb b0
  have b1 := Rg.keep L lb b1
  have c0 := Rg.keep L lc c0
  have c1 := Rg.keep L lc c1
  have lt := Nat.lt_of_lt_of_le lt L.size
  have la := Nat.lt_of_lt_of_le la L.size
  have lb := Nat.lt_of_lt_of_le lb L.size
  have lc := Nat.lt_of_lt_of_le lc L.size
  clear hb L
  go_wp2_with fail
  refine (M1.out _).mono ?_
  rintro e w6 ⟨rfl, hb⟩
  have L : Below w5.heap.size w5 w6 := ((Below.refl _ _).alloc (by simp <;> omega) _).trans (hb.mono (by simp <;> omega))
  have K6 : Below w.heap.size w w6 := K5.trans (L.mono K5.size)
  have lu : w5.heap.size < w6.heap.size := Nat.lt_of_lt_of_le (by simp <;> omega) hb.size
  have u0 : w6.cell? ⟨w5.heap.size, 0, none⟩ = some (.int .i64 s) := Rg.keep hb (by simp <;> omega) (by go_cell)
  have u1 : w6.cell? ⟨w5.heap.size, 1, none⟩ = some (.int .i64 1) := Rg.keep hb (by simp <;> omega) (by go_cell)
  have t0 := Rg.keep L lt t0
  have t1 := Rg.keep L lt t1
  have t2 := Rg.keep L lt t2
  have t3 := Rg.keep L lt t3
  have t4 := Rg.keep L lt t4
  have a0 := Rg.keep L la a0
  have a1 := Rg.keep L la a1
  have b0 := Rg.keep L lb b0
  have b1 := Rg.keep L lb b1
  have c0 := Rg.keep L lc c0
  have c1 := Rg.keep L lc c1
  have s0 := Rg.keep L ls s0
  have s1 := Rg.keep L ls s1
  have lt := Nat.lt_of_lt_of_le lt L.size
  have la := Nat.lt_of_lt_of_le la L.size
  have lb := Nat.lt_of_lt_of_le lb L.size
  have lc := Nat.lt_of_lt_of_le lc L.size
  have ls := Nat.lt_of_lt_of_le ls L.size
  clear hb L
  go_wp2_with fail
  refine (M2.out _).mono ?_
  rintro e w7 ⟨rfl, hb⟩
  have L : Below w6.heap.size w6 w7 := ((Below.refl _ _).alloc (by simp <;> omega) _).trans (hb.mono (by simp <;> omega))
  have K7 : Below w.heap.size w w7 := K6.trans (L.mono K6.size)
  have lm : w6.heap.size < w7.heap.size := Nat.lt_of_lt_of_le (by simp <;> omega) hb.size
  have m0 : w7.cell? ⟨w6.heap.size, 0, none⟩ = some (.int .i64 m) := Rg.keep hb (by simp <;> omega) (by go_cell)
  have m1 : w7.cell? ⟨w6.heap.size, 1, none⟩ = some (.int .i64 1) := Rg.keep hb (by simp <;> omega) (by go_cell)
  have t0 := Rg.keep L lt t0
  have t1 := Rg.keep L lt t1
  have t2 := Rg.keep L lt t2
  have t3 := Rg.keep L lt t3
  have t4 := Rg.keep L lt t4
  have a0 := Rg.keep L la a0
  have a1 := Rg.keep L la a1
  have b0 := Rg.keep L lb b0
  have b1 := Rg.keep L lb b1
  have c0 := Rg.keep L lc c0
  have c1 := Rg.keep L lc c1
  have s0 := Rg.keep L ls s0
  have s1 := Rg.keep L ls s1
  have u0 := Rg.keep L lu u0
  have u1 := Rg.keep L lu u1
  have lt := Nat.lt_of_lt_of_le lt L.size
  have la := Nat.lt_of_lt_of_le la L.size
  have lb := Nat.lt_of_lt_of_le lb L.size
  have lc := Nat.lt_of_lt_of_le lc L.size
  have ls := Nat.lt_of_lt_of_le ls L.size
  have lu := Nat.lt_of_lt_of_le lu L.size
  clear hb L
  go_wp2_with fail
  refine (L1.out _).mono ?_
  rintro e w8 ⟨rfl, hb⟩
  have L : Below w7.heap.size w7 w8 := ((Below.refl _ _).alloc (by simp <;> omega) _).trans (hb.mono (by simp <;> omega))
  have K8 : Below w.heap.size w w8 := K7.trans (L.mono K7.size)
  have lk : w7.heap.size < w8.heap.size := Nat.lt_of_lt_of_le (by simp <;> omega) hb.size
  have k0 : w8.cell? ⟨w7.heap.size, 0, none⟩ = some (.int .i64 m) := Rg.keep hb (by simp <;> omega) (by go_cell)
  have k1 : w8.cell? ⟨w7.heap.size, 1, none⟩ = some (.int .i64 1) := Rg.keep hb (by simp <;> omega) (by go_cell)
  have t0 := Rg.keep L lt t0
  have t1 := Rg.keep L lt t1
  have t2 := Rg.keep L lt t2
  have t3 := Rg.keep L lt t3
  have t4 := Rg.keep L lt t4
  have a0 := Rg.keep L la a0
  have a1 := Rg.keep L la a1
  have b0 := Rg.keep L lb b0
  have b1 := Rg.keep L lb b1
  have c0 := Rg.keep L lc c0
  have c1 := Rg.keep L lc c1
  have s0 := Rg.keep L ls s0
  have s1 := Rg.keep L ls s1
  have u0 := Rg.keep L lu u0
  have u1 := Rg.keep L lu u1
  have m0 := Rg.keep L lm m0
  have m1 := Rg.keep L lm m1
  have lt := Nat.lt_of_lt_of_le lt L.size
  have la := Nat.lt_of_lt_of_le la L.size
  have lb := Nat.lt_of_lt_of_le lb L.size
  have lc := Nat.lt_of_lt_of_le lc L.size
  have ls := Nat.lt_of_lt_of_le ls L.size
  have lu := Nat.lt_of_lt_of_le lu L.size
  have lm := Nat.lt_of_lt_of_le lm L.size
  clear hb L
  go_wp2_with fail
  refine (B1.out _).mono ?_
  rintro e w9 ⟨rfl, hb⟩
  have L : Below w8.heap.size w8 w9 := ((Below.refl _ _).alloc (by simp <;> omega) _).trans (hb.mono (by simp <;> omega))
  have K9 : Below w.heap.size w w9 := K8.trans (L.mono K8.size)
  have ll : w8.heap.size < w9.heap.size := Nat.lt_of_lt_of_le (by simp <;> omega) hb.size
  have l0 : w9.cell? ⟨w8.heap.size, 0, none⟩ = some (.int .i64 l) := Rg.keep hb (by simp <;> omega) (by go_cell)
  have l1 : w9.cell? ⟨w8.heap.size, 1, none⟩ = some (.int .i64 1) := Rg.keep hb (by simp <;> omega) (by go_cell)
  have t0 := Rg.keep L lt t0
  have t1 := Rg.keep L lt t1
  have t2 := Rg.keep L lt t2
  have t3 := Rg.keep L lt t3
  have t4 := Rg.keep L lt t4
  have a0 := Rg.keep L la a0
  have a1 := Rg.keep L la a1
  have b0 := Rg.keep L lb b0
  have b1 := Rg.keep L lb b1
  have c0 := Rg.keep L lc c0
  have c1 := Rg.keep L lc c1
  have s0 := Rg.keep L ls s0
  have s1 := Rg.keep L ls s1
  have u0 := Rg.keep L lu u0
  have u1 := Rg.keep L lu u1
  have m0 := Rg.keep L lm m0
  have m1 := Rg.keep L lm m1
  have k0 := Rg.keep L lk k0
  have k1 := Rg.keep L lk k1
  have lt := Nat.lt_of_lt_of_le lt L.size
  have la := Nat.lt_of_lt_of_le la L.size
  have lb := Nat.lt_of_lt_of_le lb L.size
  have lc := Nat.lt_of_lt_of_le lc L.size
  have ls := Nat.lt_of_lt_of_le ls L.size
  have lu := Nat.lt_of_lt_of_le lu L.size
  have lm := Nat.lt_of_lt_of_le lm L.size
  have lk := Nat.lt_of_lt_of_le lk L.size
  clear hb L
  go_wp2_with fail
  refine (R1.out _).mono ?_
  rintro e w10 ⟨rfl, hb⟩
  have L : Below w9.heap.size w9 w10 := ((Below.refl _ _).alloc (by simp <;> omega) _).trans (hb.mono (by simp <;> omega))
  have K10 : Below w.heap.size w w10 := K9.trans (L.mono K9.size)
  have le : w9.heap.size < w10.heap.size := Nat.lt_of_lt_of_le (by simp <;> omega) hb.size
  have e0 : w10.cell? ⟨w9.heap.size, 0, none⟩ = some (.int .i64 b) := Rg.keep hb (by simp <;> omega) (by go_cell)
  have e1 : w10.cell? ⟨w9.heap.size, 1, none⟩ = some (.int .i64 1) := Rg.keep hb (by simp <;> omega) (by go_cell)
  have t0 := Rg.keep L lt t0
  have t1 := Rg.keep L lt t1
  have t2 := Rg.keep L lt t2
  have t3 := Rg.keep L lt t3
  have t4 := Rg.keep L lt t4
  have a0 := Rg.keep L la a0
  have a1 := Rg.keep L la a1
  have b0 := Rg.keep L lb b0
  have b1 := Rg.keep L lb b1
  have c0 := Rg.keep L lc c0
  have c1 := Rg.keep L lc c1
  have s0 := Rg.keep L ls s0
  have s1 := Rg.keep L ls s1
  have u0 := Rg.keep L lu u0
  have u1 := Rg.keep L lu u1
  have m0 := Rg.keep L lm m0
  have m1 := Rg.keep L lm m1
  have k0 := Rg.keep L lk k0
  have k1 := Rg.keep L lk k1
  have l0 := Rg.keep L ll l0
  have l1 := Rg.keep L ll l1
  have lt := Nat.lt_of_lt_of_le lt L.size
  have la := Nat.lt_of_lt_of_le la L.size
  have lb := Nat.lt_of_lt_of_le lb L.size
  have lc := Nat.lt_of_lt_of_le lc L.size
  have ls := Nat.lt_of_lt_of_le ls L.size
  have lu := Nat.lt_of_lt_of_le lu L.size
  have lm := Nat.lt_of_lt_of_le lm L.size
  have lk := Nat.lt_of_lt_of_le lk L.size
  have ll := Nat.lt_of_lt_of_le ll L.size
  clear hb L
  go_wp2_with fail
  refine (Z1.out _).mono ?_
  rintro e w11 ⟨rfl, hb⟩
  have L : Below w10.heap.size w10 w11 := ((Below.refl _ _).alloc (by simp <;> omega) _).trans (hb.mono (by simp <;> omega))
  have K11 : Below w.heap.size w w11 := K10.trans (L.mono K10.size)
  have lr : w10.heap.size < w11.heap.size := Nat.lt_of_lt_of_le (by simp <;> omega) hb.size
  have r0 : w11.cell? ⟨w10.heap.size, 0, none⟩ = some (.int .i64 l) := Rg.keep hb (by simp <;> omega) (by go_cell)
  have r1 : w11.cell? ⟨w10.heap.size, 1, none⟩ = some (.int .i64 1) := Rg.keep hb (by simp <;> omega) (by go_cell)
  have t0 := Rg.keep L lt t0
  have t1 := Rg.keep L lt t1
  have t2 := Rg.keep L lt t2
  have t3 := Rg.keep L lt t3
  have t4 := Rg.keep L lt t4
  have a0 := Rg.keep L la a0
  have a1 := Rg.keep L la a1
  have b0 := Rg.keep L lb b0
  have b1 := Rg.keep L lb b1
  have c0 := Rg.keep L lc c0
  have c1 := Rg.keep L lc c1
  have s0 := Rg.keep L ls s0
  have s1 := Rg.keep L ls s1
  have u0 := Rg.keep L lu u0
  have u1 := Rg.keep L lu u1
  have m0 := Rg.keep L lm m0
  have m1 := Rg.keep L lm m1
  have k0 := Rg.keep L lk k0
  have k1 := Rg.keep L lk k1
  have l0 := Rg.keep L ll l0
  have l1 := Rg.keep L ll l1
  have e0 := Rg.keep L le e0
  have e1 := Rg.keep L le e1
  have lt := Nat.lt_of_lt_of_le lt L.size
  have la := Nat.lt_of_lt_of_le la L.size
  have lb := Nat.lt_of_lt_of_le lb L.size
  have lc := Nat.lt_of_lt_of_le lc L.size
  have ls := Nat.lt_of_lt_of_le ls L.size
  have lu := Nat.lt_of_lt_of_le lu L.size
  have lm := Nat.lt_of_lt_of_le lm L.size
  have lk := Nat.lt_of_lt_of_le lk L.size
  have ll := Nat.lt_of_lt_of_le ll L.size
  have le := Nat.lt_of_lt_of_le le L.size
  clear hb L
  go_wp2_with fail
  refine (EX.out _).mono ?_
  rintro e w12 ⟨rfl, hb⟩
  have L : Below w11.heap.size w11 w12 := ((Below.refl _ _).alloc (by simp <;> omega) _).trans (hb.mono (by simp <;> omega))
  have K12 : Below w.heap.size w w12 := K11.trans (L.mono K11.size)
  have lz : w11.heap.size < w12.heap.size := Nat.lt_of_lt_of_le (by simp <;> omega) hb.size
  have z0 : w12.cell? ⟨w11.heap.size, 0, none⟩ = some (.int .i64 n0) := Rg.keep hb (by simp <;> omega) (by go_cell)
  have z1 : w12.cell? ⟨w11.heap.size, 1, none⟩ = some (.int .i64 d0) := Rg.keep hb (by simp <;> omega) (by go_cell)
  have t0 := Rg.keep L lt t0
  have t1 := Rg.keep L lt t1
  have t2 := Rg.keep L lt t2
  have t3 := Rg.keep L lt t3
  have t4 := Rg.keep L lt t4
  have a0 := Rg.keep L la a0
  have a1 := Rg.keep L la a1
  have b0 := Rg.keep L lb b0
  have b1 := Rg.keep L lb b1
  have c0 := Rg.keep L lc c0
  have c1 := Rg.keep L lc c1
  have s0 := Rg.keep L ls s0
  have s1 := Rg.keep L ls s1
  have u0 := Rg.keep L lu u0
  have u1 := Rg.keep L lu u1
  have m0 := Rg.keep L lm m0
  have m1 := Rg.keep L lm m1
  have k0 := Rg.keep L lk k0
  have k1 := Rg.keep L lk k1
  have l0 := Rg.keep L ll l0
  have l1 := Rg.keep L ll l1
  have e0 := Rg.keep L le e0
  have e1 := Rg.keep L le e1
  have r0 := Rg.keep L lr r0
  have r1 := Rg.keep L lr r1
  have lt := Nat.lt_of_lt_of_le lt L.size
  have la := Nat.lt_of_lt_of_le la L.size
  have lb := Nat.lt_of_lt_of_le lb L.size
  have lc := Nat.lt_of_lt_of_le lc L.size
  have ls := Nat.lt_of_lt_of_le ls L.size
  have lu := Nat.lt_of_lt_of_le lu L.size
  have lm := Nat.lt_of_lt_of_le lm L.size
  have lk := Nat.lt_of_lt_of_le lk L.size
  have ll := Nat.lt_of_lt_of_le ll L.size
  have le := Nat.lt_of_lt_of_le le L.size
  have lr := Nat.lt_of_lt_of_le lr L.size
  clear hb L
  go_wp2
  go_ret
  exact ⟨rfl, K12⟩
end Go.Proofs.Ytaagegiehjpgiaa.Fx
