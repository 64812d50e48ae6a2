/- check of the reference. -/
import Derived.Test.YtaagegiehjpgiaaFxVb
namespace Go.Proofs.Ytaagegiehjpgiaa.Fx
open Go.ChangeShapes Go.WideShapes Go.ChangeAt Go.RowKit
set_option linter.unusedVariables false

open Fr
set_option maxHeartbeats 4000000 in
theorem rchk_tv (K B F R O n0 d0 n1 d1 : Int) (w : World) (VT : Hid (∀ w, Calls Try.prog 18 #[.agg #[.int .i64 K, .int .i64 B, .int .i64 F, .int .i64 R, .int .i64 O]] w (Ret (.int .i64 10) w))) :
    Calls Try.prog 55 #[.agg #[.int .i64 K, .int .i64 B, .int .i64 F, .int .i64 R, .int .i64 O], .agg #[.int .i64 n0, .int .i64 d0], .agg #[.int .i64 n1, .int .i64 d1]] w (Ret (.int .i64 10) w) := by
  go_enter Try.func55, Try.ntmps55
  go_wp2_with fail
  refine (VT.out _).mono ?_
  rintro e w1 ⟨rfl, hb⟩
  have L : Below w.heap.size w w1 := ((((Below.refl _ _).alloc (by simp <;> omega) _).alloc (by simp <;> omega) _).alloc (by simp <;> omega) _).trans (hb.mono (by simp <;> omega))
  have K1 : Below w.heap.size w w1 := L
  have lt : w.heap.size < w1.heap.size := Nat.lt_of_lt_of_le (by simp <;> omega) hb.size
  have t0 : w1.cell? ⟨w.heap.size, 0, none⟩ = some (.int .i64 K) := Rg.keep hb (by simp <;> omega) (by go_cell)
  have t1 : w1.cell? ⟨w.heap.size, 1, none⟩ = some (.int .i64 B) := Rg.keep hb (by simp <;> omega) (by go_cell)
  have t2 : w1.cell? ⟨w.heap.size, 2, none⟩ = some (.int .i64 F) := Rg.keep hb (by simp <;> omega) (by go_cell)
  have t3 : w1.cell? ⟨w.heap.size, 3, none⟩ = some (.int .i64 R) := Rg.keep hb (by simp <;> omega) (by go_cell)
  have t4 : w1.cell? ⟨w.heap.size, 4, none⟩ = some (.int .i64 O) := Rg.keep hb (by simp <;> omega) (by go_cell)
  have la : w.heap.size + 1 < w1.heap.size := Nat.lt_of_lt_of_le (by simp <;> omega) hb.size
  have a0 : w1.cell? ⟨w.heap.size + 1, 0, none⟩ = some (.int .i64 n0) := Rg.keep hb (by simp <;> omega) (by go_cell)
  have a1 : w1.cell? ⟨w.heap.size + 1, 1, none⟩ = some (.int .i64 d0) := Rg.keep hb (by simp <;> omega) (by go_cell)
  have lb : w.heap.size + 1 + 1 < w1.heap.size := Nat.lt_of_lt_of_le (by simp <;> omega) hb.size
  have b0 : w1.cell? ⟨w.heap.size + 1 + 1, 0, none⟩ = some (.int .i64 n1) := Rg.keep hb (by simp <;> omega) (by go_cell)
  have b1 : w1.cell? ⟨w.heap.size + 1 + 1, 1, none⟩ = some (.int .i64 d1) := Rg.keep hb (by simp <;> omega) (by go_cell)
  clear hb L
  go_wp2
  go_ret
  exact ⟨rfl, K1⟩
set_option maxHeartbeats 4000000 in
theorem rchk_tt (K B F R O n0 d0 n1 d1 : Int) (w : World) (VT : Hid (∀ w, Calls Try.prog 18 #[.agg #[.int .i64 K, .int .i64 B, .int .i64 F, .int .i64 R, .int .i64 O]] w (Ret (.int .i64 0) w))) (V0 : Hid (∀ w, Calls Try.prog 50 #[.agg #[.int .i64 K, .int .i64 B, .int .i64 F, .int .i64 R, .int .i64 O], .agg #[.int .i64 n0, .int .i64 d0]] w (Ret (.bool true) w))) (V1 : Hid (∀ w, Calls Try.prog 50 #[.agg #[.int .i64 K, .int .i64 B, .int .i64 F, .int .i64 R, .int .i64 O], .agg #[.int .i64 n1, .int .i64 d1]] w (Ret (.bool true) w))) :
    Calls Try.prog 55 #[.agg #[.int .i64 K, .int .i64 B, .int .i64 F, .int .i64 R, .int .i64 O], .agg #[.int .i64 n0, .int .i64 d0], .agg #[.int .i64 n1, .int .i64 d1]] w (Ret (.int .i64 0) w) := by
  go_enter Try.func55, Try.ntmps55
  go_wp2_with fail
  refine (VT.out _).mono ?_
  rintro e w1 ⟨rfl, hb⟩
  have L : Below w.heap.size w w1 := ((((Below.refl _ _).alloc (by simp <;> omega) _).alloc (by simp <;> omega) _).alloc (by simp <;> omega) _).trans (hb.mono (by simp <;> omega))
  have K1 : Below w.heap.size w w1 := L
  have lt : w.heap.size < w1.heap.size := Nat.lt_of_lt_of_le (by simp <;> omega) hb.size
  have t0 : w1.cell? ⟨w.heap.size, 0, none⟩ = some (.int .i64 K) := Rg.keep hb (by simp <;> omega) (by go_cell)
  have t1 : w1.cell? ⟨w.heap.size, 1, none⟩ = some (.int .i64 B) := Rg.keep hb (by simp <;> omega) (by go_cell)
  have t2 : w1.cell? ⟨w.heap.size, 2, none⟩ = some (.int .i64 F) := Rg.keep hb (by simp <;> omega) (by go_cell)
  have t3 : w1.cell? ⟨w.heap.size, 3, none⟩ = some (.int .i64 R) := Rg.keep hb (by simp <;> omega) (by go_cell)
  have t4 : w1.cell? ⟨w.heap.size, 4, none⟩ = some (.int .i64 O) := Rg.keep hb (by simp <;> omega) (by go_cell)
  have la : w.heap.size + 1 < w1.heap.size := Nat.lt_of_lt_of_le (by simp <;> omega) hb.size
  have a0 : w1.cell? ⟨w.heap.size + 1, 0, none⟩ = some (.int .i64 n0) := Rg.keep hb (by simp <;> omega) (by go_cell)
  have a1 : w1.cell? ⟨w.heap.size + 1, 1, none⟩ = some (.int .i64 d0) := Rg.keep hb (by simp <;> omega) (by go_cell)
  have lb : w.heap.size + 1 + 1 < w1.heap.size := Nat.lt_of_lt_of_le (by simp <;> omega) hb.size
  have b0 : w1.cell? ⟨w.heap.size + 1 + 1, 0, none⟩ = some (.int .i64 n1) := Rg.keep hb (by simp <;> omega) (by go_cell)
  have b1 : w1.cell? ⟨w.heap.size + 1 + 1, 1, none⟩ = some (.int .i64 d1) := Rg.keep hb (by simp <;> omega) (by go_cell)
  clear hb L
  go_wp2_with fail
  refine (V0.out _).mono ?_
  rintro e w2 ⟨rfl, hb⟩
  have L : Below w1.heap.size w1 w2 := (Below.refl _ _).trans (hb.mono (by simp <;> omega))
  have K2 : Below w.heap.size w w2 := K1.trans (L.mono K1.size)
  have t0 := Rg.keep L lt t0
  have t1 := Rg.keep L lt t1
  have t2 := Rg.keep L lt t2
  have t3 := Rg.keep L lt t3
  have t4 := Rg.keep L lt t4
  have a0 := Rg.keep L la a0
  have a1 := Rg.keep L la a1
  have b0 := Rg.keep L lb b0
  have b1 := Rg.keep L lb b1
  have lt := Nat.lt_of_lt_of_le lt L.size
  have la := Nat.lt_of_lt_of_le la L.size
  have lb := Nat.lt_of_lt_of_le lb L.size
  clear hb L
  go_wp2_with fail
  refine (V1.out _).mono ?_
  rintro e w3 ⟨rfl, hb⟩
  have L : Below w2.heap.size w2 w3 := (Below.refl _ _).trans (hb.mono (by simp <;> omega))
  have K3 : Below w.heap.size w w3 := K2.trans (L.mono K2.size)
  have t0 := Rg.keep L lt t0
  have t1 := Rg.keep L lt t1
  have t2 := Rg.keep L lt t2
  have t3 := Rg.keep L lt t3
  have t4 := Rg.keep L lt t4
  have a0 := Rg.keep L la a0
  have a1 := Rg.keep L la a1
  have b0 := Rg.keep L lb b0
  have b1 := Rg.keep L lb b1
  have lt := Nat.lt_of_lt_of_le lt L.size
  have la := Nat.lt_of_lt_of_le la L.size
  have lb := Nat.lt_of_lt_of_le lb L.size
  clear hb L
  go_wp2
  go_ret
  exact ⟨rfl, K3⟩
set_option maxHeartbeats 4000000 in
theorem rchk_tf (K B F R O n0 d0 n1 d1 : Int) (w : World) (VT : Hid (∀ w, Calls Try.prog 18 #[.agg #[.int .i64 K, .int .i64 B, .int .i64 F, .int .i64 R, .int .i64 O]] w (Ret (.int .i64 0) w))) (V0 : Hid (∀ w, Calls Try.prog 50 #[.agg #[.int .i64 K, .int .i64 B, .int .i64 F, .int .i64 R, .int .i64 O], .agg #[.int .i64 n0, .int .i64 d0]] w (Ret (.bool true) w))) (V1 : Hid (∀ w, Calls Try.prog 50 #[.agg #[.int .i64 K, .int .i64 B, .int .i64 F, .int .i64 R, .int .i64 O], .agg #[.int .i64 n1, .int .i64 d1]] w (Ret (.bool false) w))) :
    Calls Try.prog 55 #[.agg #[.int .i64 K, .int .i64 B, .int .i64 F, .int .i64 R, .int .i64 O], .agg #[.int .i64 n0, .int .i64 d0], .agg #[.int .i64 n1, .int .i64 d1]] w (Ret (.int .i64 1) w) := by
  go_enter Try.func55, Try.ntmps55
  go_wp2_with fail
  refine (VT.out _).mono ?_
  rintro e w1 ⟨rfl, hb⟩
  have L : Below w.heap.size w w1 := ((((Below.refl _ _).alloc (by simp <;> omega) _).alloc (by simp <;> omega) _).alloc (by simp <;> omega) _).trans (hb.mono (by simp <;> omega))
  have K1 : Below w.heap.size w w1 := L
  have lt : w.heap.size < w1.heap.size := Nat.lt_of_lt_of_le (by simp <;> omega) hb.size
  have t0 : w1.cell? ⟨w.heap.size, 0, none⟩ = some (.int .i64 K) := Rg.keep hb (by simp <;> omega) (by go_cell)
  have t1 : w1.cell? ⟨w.heap.size, 1, none⟩ = some (.int .i64 B) := Rg.keep hb (by simp <;> omega) (by go_cell)
  have t2 : w1.cell? ⟨w.heap.size, 2, none⟩ = some (.int .i64 F) := Rg.keep hb (by simp <;> omega) (by go_cell)
  have t3 : w1.cell? ⟨w.heap.size, 3, none⟩ = some (.int .i64 R) := Rg.keep hb (by simp <;> omega) (by go_cell)
  have t4 : w1.cell? ⟨w.heap.size, 4, none⟩ = some (.int .i64 O) := Rg.keep hb (by simp <;> omega) (by go_cell)
  have la : w.heap.size + 1 < w1.heap.size := Nat.lt_of_lt_of_le (by simp <;> omega) hb.size
  have a0 : w1.cell? ⟨w.heap.size + 1, 0, none⟩ = some (.int .i64 n0) := Rg.keep hb (by simp <;> omega) (by go_cell)
  have a1 : w1.cell? ⟨w.heap.size + 1, 1, none⟩ = some (.int .i64 d0) := Rg.keep hb (by simp <;> omega) (by go_cell)
  have lb : w.heap.size + 1 + 1 < w1.heap.size := Nat.lt_of_lt_of_le (by simp <;> omega) hb.size
  have b0 : w1.cell? ⟨w.heap.size + 1 + 1, 0, none⟩ = some (.int .i64 n1) := Rg.keep hb (by simp <;> omega) (by go_cell)
  have b1 : w1.cell? ⟨w.heap.size + 1 + 1, 1, none⟩ = some (.int .i64 d1) := Rg.keep hb (by simp <;> omega) (by go_cell)
  clear hb L
  go_wp2_with fail
  refine (V0.out _).mono ?_
  rintro e w2 ⟨rfl, hb⟩
  have L : Below w1.heap.size w1 w2 := (Below.refl _ _).trans (hb.mono (by simp <;> omega))
  have K2 : Below w.heap.size w w2 := K1.trans (L.mono K1.size)
  have t0 := Rg.keep L lt t0
  have t1 := Rg.keep L lt t1
  have t2 := Rg.keep L lt t2
  have t3 := Rg.keep L lt t3
  have t4 := Rg.keep L lt t4
  have a0 := Rg.keep L la a0
  have a1 := Rg.keep L la a1
  have b0 := Rg.keep L lb b0
  have b1 := Rg.keep L lb b1
  have lt := Nat.lt_of_lt_of_le lt L.size
  have la := Nat.lt_of_lt_of_le la L.size
  have lb := Nat.lt_of_lt_of_le lb L.size
  clear hb L
  go_wp2_with fail
  refine (V1.out _).mono ?_
  rintro e w3 ⟨rfl, hb⟩
  have L : Below w2.heap.size w2 w3 := (Below.refl _ _).trans (hb.mono (by simp <;> omega))
  have K3 : Below w.heap.size w w3 := K2.trans (L.mono K2.size)
  have t0 := Rg.keep L lt t0
  have t1 := Rg.keep L lt t1
  have t2 := Rg.keep L lt t2
  have t3 := Rg.keep L lt t3
  have t4 := Rg.keep L lt t4
  have a0 := Rg.keep L la a0
  have a1 := Rg.keep L la a1
  have b0 := Rg.keep L lb b0
  have b1 := Rg.keep L lb b1
  have lt := Nat.lt_of_lt_of_le lt L.size
  have la := Nat.lt_of_lt_of_le la L.size
  have lb := Nat.lt_of_lt_of_le lb L.size
  clear hb L
  go_wp2
  go_ret
  exact ⟨rfl, K3⟩
set_option maxHeartbeats 4000000 in
theorem rchk_f (K B F R O n0 d0 n1 d1 : Int) (w : World) (VT : Hid (∀ w, Calls Try.prog 18 #[.agg #[.int .i64 K, .int .i64 B, .int .i64 F, .int .i64 R, .int .i64 O]] w (Ret (.int .i64 0) w))) (V0 : Hid (∀ w, Calls Try.prog 50 #[.agg #[.int .i64 K, .int .i64 B, .int .i64 F, .int .i64 R, .int .i64 O], .agg #[.int .i64 n0, .int .i64 d0]] w (Ret (.bool false) w))) :
    Calls Try.prog 55 #[.agg #[.int .i64 K, .int .i64 B, .int .i64 F, .int .i64 R, .int .i64 O], .agg #[.int .i64 n0, .int .i64 d0], .agg #[.int .i64 n1, .int .i64 d1]] w (Ret (.int .i64 1) w) := by
  go_enter Try.func55, Try.ntmps55
  go_wp2_with fail
  refine (VT.out _).mono ?_
  rintro e w1 ⟨rfl, hb⟩
  have L : Below w.heap.size w w1 := ((((Below.refl _ _).alloc (by simp <;> omega) _).alloc (by simp <;> omega) _).alloc (by simp <;> omega) _).trans (hb.mono (by simp <;> omega))
  have K1 : Below w.heap.size w w1 := L
  have lt : w.heap.size < w1.heap.size := Nat.lt_of_lt_of_le (by simp <;> omega) hb.size
  have t0 : w1.cell? ⟨w.heap.size, 0, none⟩ = some (.int .i64 K) := Rg.keep hb (by simp <;> omega) (by go_cell)
  have t1 : w1.cell? ⟨w.heap.size, 1, none⟩ = some (.int .i64 B) := Rg.keep hb (by simp <;> omega) (by go_cell)
  have t2 : w1.cell? ⟨w.heap.size, 2, none⟩ = some (.int .i64 F) := Rg.keep hb (by simp <;> omega) (by go_cell)
  have t3 : w1.cell? ⟨w.heap.size, 3, none⟩ = some (.int .i64 R) := Rg.keep hb (by simp <;> omega) (by go_cell)
  have t4 : w1.cell? ⟨w.heap.size, 4, none⟩ = some (.int .i64 O) := Rg.keep hb (by simp <;> omega) (by go_cell)
  have la : w.heap.size + 1 < w1.heap.size := Nat.lt_of_lt_of_le (by simp <;> omega) hb.size
  have a0 : w1.cell? ⟨w.heap.size + 1, 0, none⟩ = some (.int .i64 n0) := Rg.keep hb (by simp <;> omega) (by go_cell)
  have a1 : w1.cell? ⟨w.heap.size + 1, 1, none⟩ = some (.int .i64 d0) := Rg.keep hb (by simp <;> omega) (by go_cell)
  have lb : w.heap.size + 1 + 1 < w1.heap.size := Nat.lt_of_lt_of_le (by simp <;> omega) hb.size
  have b0 : w1.cell? ⟨w.heap.size + 1 + 1, 0, none⟩ = some (.int .i64 n1) := Rg.keep hb (by simp <;> omega) (by go_cell)
  have b1 : w1.cell? ⟨w.heap.size + 1 + 1, 1, none⟩ = some (.int .i64 d1) := Rg.keep hb (by simp <;> omega) (by go_cell)
  clear hb L
  go_wp2_with fail
  refine (V0.out _).mono ?_
  rintro e w2 ⟨rfl, hb⟩
  have L : Below w1.heap.size w1 w2 := (Below.refl _ _).trans (hb.mono (by simp <;> omega))
  have K2 : Below w.heap.size w w2 := K1.trans (L.mono K1.size)
  have t0 := Rg.keep L lt t0
  have t1 := Rg.keep L lt t1
  have t2 := Rg.keep L lt t2
  have t3 := Rg.keep L lt t3
  have t4 := Rg.keep L lt t4
  have a0 := Rg.keep L la a0
  have a1 := Rg.keep L la a1
  have b0 := Rg.keep L lb b0
  have b1 := Rg.keep L lb b1
  have lt := Nat.lt_of_lt_of_le lt L.size
  have la := Nat.lt_of_lt_of_le la L.size
  have lb := Nat.lt_of_lt_of_le lb L.size
  clear hb L
  go_wp2
  go_ret
  exact ⟨rfl, K2⟩
end Go.Proofs.Ytaagegiehjpgiaa.Fx
