/- The examples of the statements on package fixed hold. -/
import Derived.Test.YtaagegiehjpgiaaFxU
namespace Go.Proofs.Ytaagegiehjpgiaa.Fx
open Go.ChangeShapes Go.WideShapes Go.ChangeAt Go.RowKit
set_option linter.unusedVariables false

open Fr
set_option maxHeartbeats 8000000 in
theorem examples_true (w : World) : Calls Try.prog 21 #[] w (Ret (.bool true) w) := by
  have A : Hid (∀ w, Calls Try.prog 22 #[.agg #[.int .i64 2, .int .i64 4, .int .i64 1, .int .i64 1, .int .i64 1], .agg #[.int .i64 5, .int .i64 4]] w (Ret (Frac3 2 1 0) w)) := Lib.hid (by have h := (ff_ok2 2 4 1 1 1 5 4 rfl rfl).1; rw [show Nx.nv (Dv.dval 1 (5 * 2 ^ (1 : Int).toNat) 4) 4 1 = 2 by decide] at h; exact h)
  have B : Hid (∀ w, Calls Try.prog 22 #[.agg #[.int .i64 2, .int .i64 4, .int .i64 1, .int .i64 1, .int .i64 1], .agg #[.int .i64 100, .int .i64 1]] w (Ret (Frac3 7 1 0) w)) := Lib.hid (by have h := (ff_ok2 2 4 1 1 1 100 1 rfl rfl).1; rw [show Nx.nv (Dv.dval 1 (100 * 2 ^ (1 : Int).toNat) 1) 4 1 = 7 by decide] at h; exact h)
  have C : Hid (∀ w, Calls Try.prog 26 #[.agg #[.int .i64 2, .int .i64 4, .int .i64 1, .int .i64 4, .int .i64 2], .agg #[.int .i64 7, .int .i64 1], .agg #[.int .i64 1, .int .i64 1]] w (Ret (Frac3 (-8) 1 0) w)) := Lib.hid (by have h := (add_ok2 2 4 1 4 2 7 1 1 1 rfl rfl).1; rw [show Nx.nv (7 + 1) 4 2 = -8 by decide] at h; exact h)
  have D : Hid (∀ w, Calls Try.prog 30 #[.agg #[.int .i64 2, .int .i64 4, .int .i64 1, .int .i64 4, .int .i64 2], .agg #[.int .i64 3, .int .i64 1], .agg #[.int .i64 3, .int .i64 1]] w (Ret (Frac3 4 1 0) w)) := Lib.hid (by have h := (mul_ok2 2 4 1 4 2 3 1 3 1 rfl rfl).1; rw [show Nx.nv (Dv.dval 4 (3 * 3) (2 ^ (1 : Int).toNat)) 4 2 = 4 by decide] at h; exact h)
  have E : Hid (∀ w, Calls Try.prog 32 #[.agg #[.int .i64 2, .int .i64 4, .int .i64 1, .int .i64 4, .int .i64 2], .agg #[.int .i64 3, .int .i64 1], .agg #[.int .i64 0, .int .i64 1]] w (Ret (Frac3 0 0 4) w)) := Lib.hid (by exact (div_zero2 2 4 1 4 2 3 1 1 rfl rfl).1)
  have G : Hid (∀ w, Calls Try.prog 15 #[.agg #[.int .i64 2, .int .i64 4, .int .i64 1, .int .i64 1, .int .i64 1]] w (Ret (Frac3 1 2 0) w)) := Lib.hid (by exact (res_ok2 2 4 1 1 1 rfl).1)
  go_enter Try.func21, Try.ntmps21
  go_wp2_with fail
  refine (A.out _).mono ?_
  rintro e w1 ⟨rfl, hb⟩
  have L : Below w.heap.size w w1 := (((Below.refl _ _).alloc (by simp <;> omega) _).alloc (by simp <;> omega) _).trans (hb.mono (by simp <;> omega))
  have K1 : Below w.heap.size w w1 := L
  have lt : w.heap.size < w1.heap.size := Nat.lt_of_lt_of_le (by simp <;> omega) hb.size
  have t0 : w1.cell? ⟨w.heap.size, 0, none⟩ = some (.int .i64 2) := Rg.keep hb (by simp <;> omega) (by go_cell)
  have t1 : w1.cell? ⟨w.heap.size, 1, none⟩ = some (.int .i64 4) := Rg.keep hb (by simp <;> omega) (by go_cell)
  have t2 : w1.cell? ⟨w.heap.size, 2, none⟩ = some (.int .i64 1) := Rg.keep hb (by simp <;> omega) (by go_cell)
  have t3 : w1.cell? ⟨w.heap.size, 3, none⟩ = some (.int .i64 1) := Rg.keep hb (by simp <;> omega) (by go_cell)
  have t4 : w1.cell? ⟨w.heap.size, 4, none⟩ = some (.int .i64 1) := Rg.keep hb (by simp <;> omega) (by go_cell)
  have lu : w.heap.size + 1 < w1.heap.size := Nat.lt_of_lt_of_le (by simp <;> omega) hb.size
  have u0 : w1.cell? ⟨w.heap.size + 1, 0, none⟩ = some (.int .i64 2) := Rg.keep hb (by simp <;> omega) (by go_cell)
  have u1 : w1.cell? ⟨w.heap.size + 1, 1, none⟩ = some (.int .i64 4) := Rg.keep hb (by simp <;> omega) (by go_cell)
  have u2 : w1.cell? ⟨w.heap.size + 1, 2, none⟩ = some (.int .i64 1) := Rg.keep hb (by simp <;> omega) (by go_cell)
  have u3 : w1.cell? ⟨w.heap.size + 1, 3, none⟩ = some (.int .i64 4) := Rg.keep hb (by simp <;> omega) (by go_cell)
  have u4 : w1.cell? ⟨w.heap.size + 1, 4, none⟩ = some (.int .i64 2) := Rg.keep hb (by simp <;> omega) (by go_cell)
  clear hb L
  go_wp2_with fail
  refine (B.out _).mono ?_
  rintro e w2 ⟨rfl, hb⟩
  have L : Below w1.heap.size w1 w2 := ((Below.refl _ _).alloc (by simp <;> omega) _).trans (hb.mono (by simp <;> omega))
  have K2 : Below w.heap.size w w2 := K1.trans (L.mono K1.size)
  have la : w1.heap.size < w2.heap.size := Nat.lt_of_lt_of_le (by simp <;> omega) hb.size
  have a0 : w2.cell? ⟨w1.heap.size, 0, none⟩ = some (.int .i64 2) := Rg.keep hb (by simp <;> omega) (by go_cell)
  have a1 : w2.cell? ⟨w1.heap.size, 1, none⟩ = some (.int .i64 1) := Rg.keep hb (by simp <;> omega) (by go_cell)
  have t0 := Rg.keep L lt t0
  have t1 := Rg.keep L lt t1
  have t2 := Rg.keep L lt t2
  have t3 := Rg.keep L lt t3
  have t4 := Rg.keep L lt t4
  have u0 := Rg.keep L lu u0
  have u1 := Rg.keep L lu u1
  have u2 := Rg.keep L lu u2
  have u3 := Rg.keep L lu u3
  have u4 := Rg.keep L lu u4
  have lt := Nat.lt_of_lt_of_le lt L.size
  have lu := Nat.lt_of_lt_of_le lu L.size
  clear hb L
  go_wp2_with fail
  refine (C.out _).mono ?_
  rintro e w3 ⟨rfl, hb⟩
  have L : Below w2.heap.size w2 w3 := ((Below.refl _ _).alloc (by simp <;> omega) _).trans (hb.mono (by simp <;> omega))
  have K3 : Below w.heap.size w w3 := K2.trans (L.mono K2.size)
  have lb : w2.heap.size < w3.heap.size := Nat.lt_of_lt_of_le (by simp <;> omega) hb.size
  have b0 : w3.cell? ⟨w2.heap.size, 0, none⟩ = some (.int .i64 7) := Rg.keep hb (by simp <;> omega) (by go_cell)
  have b1 : w3.cell? ⟨w2.heap.size, 1, none⟩ = some (.int .i64 1) := Rg.keep hb (by simp <;> omega) (by go_cell)
  have t0 := Rg.keep L lt t0
  have t1 := Rg.keep L lt t1
  have t2 := Rg.keep L lt t2
  have t3 := Rg.keep L lt t3
  have t4 := Rg.keep L lt t4
  have u0 := Rg.keep L lu u0
  have u1 := Rg.keep L lu u1
  have u2 := Rg.keep L lu u2
  have u3 := Rg.keep L lu u3
  have u4 := Rg.keep L lu u4
  have a0 := Rg.keep L la a0
  have a1 := Rg.keep L la a1
  have lt := Nat.lt_of_lt_of_le lt L.size
  have lu := Nat.lt_of_lt_of_le lu L.size
  have la := Nat.lt_of_lt_of_le la L.size
  clear hb L
  go_wp2_with fail
  refine (D.out _).mono ?_
  rintro e w4 ⟨rfl, hb⟩
  have L : Below w3.heap.size w3 w4 := ((Below.refl _ _).alloc (by simp <;> omega) _).trans (hb.mono (by simp <;> omega))
  have K4 : Below w.heap.size w w4 := K3.trans (L.mono K3.size)
  have lc : w3.heap.size < w4.heap.size := Nat.lt_of_lt_of_le (by simp <;> omega) hb.size
  have c0 : w4.cell? ⟨w3.heap.size, 0, none⟩ = some (.int .i64 (-8)) := Rg.keep hb (by simp <;> omega) (by go_cell)
  have c1 : w4.cell? ⟨w3.heap.size, 1, none⟩ = some (.int .i64 1) := Rg.keep hb (by simp <;> omega) (by go_cell)
  have t0 := Rg.keep L lt t0
  have t1 := Rg.keep L lt t1
  have t2 := Rg.keep L lt t2
  have t3 := Rg.keep L lt t3
  have t4 := Rg.keep L lt t4
  have u0 := Rg.keep L lu u0
  have u1 := Rg.keep L lu u1
  have u2 := Rg.keep L lu u2
  have u3 := Rg.keep L lu u3
  have u4 := Rg.keep L lu u4
  have a0 := Rg.keep L la a0
  have a1 := Rg.keep L la a1
  have b0 := Rg.keep L lb b0
  have b1 := Rg.keep L lb b1
  have lt := Nat.lt_of_lt_of_le lt L.size
  have lu := Nat.lt_of_lt_of_le lu L.size
  have la := Nat.lt_of_lt_of_le la L.size
  have lb := Nat.lt_of_lt_of_le lb L.size
  clear hb L
  go_wp2_with fail
  refine (E.out _).mono ?_
  rintro e w5 ⟨rfl, hb⟩
  have L : Below w4.heap.size w4 w5 := ((Below.refl _ _).alloc (by simp <;> omega) _).trans (hb.mono (by simp <;> omega))
  have K5 : Below w.heap.size w w5 := K4.trans (L.mono K4.size)
  have ld : w4.heap.size < w5.heap.size := Nat.lt_of_lt_of_le (by simp <;> omega) hb.size
  have d0 : w5.cell? ⟨w4.heap.size, 0, none⟩ = some (.int .i64 4) := Rg.keep hb (by simp <;> omega) (by go_cell)
  have d1 : w5.cell? ⟨w4.heap.size, 1, none⟩ = some (.int .i64 1) := Rg.keep hb (by simp <;> omega) (by go_cell)
  have t0 := Rg.keep L lt t0
  have t1 := Rg.keep L lt t1
  have t2 := Rg.keep L lt t2
  have t3 := Rg.keep L lt t3
  have t4 := Rg.keep L lt t4
  have u0 := Rg.keep L lu u0
  have u1 := Rg.keep L lu u1
  have u2 := Rg.keep L lu u2
  have u3 := Rg.keep L lu u3
  have u4 := Rg.keep L lu u4
  have a0 := Rg.keep L la a0
  have a1 := Rg.keep L la a1
  have b0 := Rg.keep L lb b0
  have b1 := Rg.keep L lb b1
  have c0 := Rg.keep L lc c0
  have c1 := Rg.keep L lc c1
  have lt := Nat.lt_of_lt_of_le lt L.size
  have lu := Nat.lt_of_lt_of_le lu L.size
  have la := Nat.lt_of_lt_of_le la L.size
  have lb := Nat.lt_of_lt_of_le lb L.size
  have lc := Nat.lt_of_lt_of_le lc L.size
  clear hb L
  go_wp2_with fail
  refine (G.out _).mono ?_
  rintro e w6 ⟨rfl, hb⟩
  have L : Below w5.heap.size w5 w6 := ((Below.refl _ _).alloc (by simp <;> omega) _).trans (hb.mono (by simp <;> omega))
  have K6 : Below w.heap.size w w6 := K5.trans (L.mono K5.size)
  have le : w5.heap.size < w6.heap.size := Nat.lt_of_lt_of_le (by simp <;> omega) hb.size
  have e0 : w6.cell? ⟨w5.heap.size, 0, none⟩ = some (.int .i64 0) := Rg.keep hb (by simp <;> omega) (by go_cell)
  have e1 : w6.cell? ⟨w5.heap.size, 1, none⟩ = some (.int .i64 0) := Rg.keep hb (by simp <;> omega) (by go_cell)
  have t0 := Rg.keep L lt t0
  have t1 := Rg.keep L lt t1
  have t2 := Rg.keep L lt t2
  have t3 := Rg.keep L lt t3
  have t4 := Rg.keep L lt t4
  have u0 := Rg.keep L lu u0
  have u1 := Rg.keep L lu u1
  have u2 := Rg.keep L lu u2
  have u3 := Rg.keep L lu u3
  have u4 := Rg.keep L lu u4
  have a0 := Rg.keep L la a0
  have a1 := Rg.keep L la a1
  have b0 := Rg.keep L lb b0
  have b1 := Rg.keep L lb b1
  have c0 := Rg.keep L lc c0
  have c1 := Rg.keep L lc c1
  have d0 := Rg.keep L ld d0
  have d1 := Rg.keep L ld d1
  have lt := Nat.lt_of_lt_of_le lt L.size
  have lu := Nat.lt_of_lt_of_le lu L.size
  have la := Nat.lt_of_lt_of_le la L.size
  have lb := Nat.lt_of_lt_of_le lb L.size
  have lc := Nat.lt_of_lt_of_le lc L.size
  have ld := Nat.lt_of_lt_of_le ld L.size
  clear hb L
  go_wp2
  go_ret
  exact ⟨rfl, K6.alloc K6.size _⟩
end Go.Proofs.Ytaagegiehjpgiaa.Fx
