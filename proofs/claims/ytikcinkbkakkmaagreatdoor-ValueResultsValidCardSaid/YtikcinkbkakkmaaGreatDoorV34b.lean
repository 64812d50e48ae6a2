/- The law on results: its ways. -/
import Derived.Test.YtikcinkbkakkmaaGreatDoorV33
import Derived.Test.YtikcinkbkakkmaaGreatDoorRk

namespace Go.Proofs.YtikcinkbkakkmaaGreatDoor.Va
open Go.ChangeShapes Go.WideShapes Go.ChangeAt Go.RowKit
open Fr Fx
set_option maxRecDepth 8000
set_option linter.unusedVariables false
set_option linter.unusedSimpArgs false

set_option maxRecDepth 100000 in
set_option maxHeartbeats 16000000 in
theorem rv_ftff (op K B F R O K' B' F' R' O' n1 d1 n2 d2 x y z x2 y2 z2 x3 y3 z3 : Int) (s F0s : ByteArray) (w : World) (g1 : decide ((100 : Int) < s.size) = false) (LAh : Hid (Tx.LA w)) (EX : Hid (∀ w, Calls Tryz.prog 11 #[] w (Ret (.bool true) w)))
    (C1 : Hid (∀ w, Calls Tryz.prog 7 #[.int .i64 op, T5 K B F R O, V2 n1 d1, V2 n2 d2] w (Ret (Frac3 x y z) w))) (C2 : Hid (∀ w, Calls Tryz.prog 22 #[T5 K B F R O, T5 K' B' F' R' O', V2 n1 d1] w (Ret (Frac3 x2 y2 z2) w)))
    (C3 : Hid (∀ w, Tx.LA w → Calls Tryz.prog 18 #[T5 K B F R O, .string s] w (Ret (Frac3 x3 y3 z3) w))) (ge : (z == 0) = false) (gf : (z2 == 0) = true) (gg : (z3 == 0) = false) (VB : Hid (∀ w, Calls Tryz.prog 23 #[T5 K' B' F' R' O', V2 x2 y2] w (Ret (.bool true) w)))(V0 : Hid (∀ w, Calls Tryz.prog 23 #[T5 K B F R O, V2 n1 d1] w (Ret (.bool false) w))) : Calls Tryz.prog 6 #[.int .i64 op, .agg #[.int .i64 K, .int .i64 B, .int .i64 F, .int .i64 R, .int .i64 O, .int .i64 K', .int .i64 B', .int .i64 F', .int .i64 R', .int .i64 O'], .agg #[.int .i64 n1, .int .i64 d1, .int .i64 n2, .int .i64 d2], .string s] w (Ret (.bool true) w) := by
  go_enter Tryz.func6, Tryz.ntmps6
  go_wp2_with fail
  refine (C1.out _).mono ?_
  rintro e w1 ⟨rfl, hb⟩
  have L : Below w.heap.size w w1 := ((((Below.refl _ _).alloc (by simp <;> omega) _).alloc (by simp <;> omega) _).alloc (by simp <;> omega) _).trans (hb.mono (by simp <;> omega))
  have K1 : Below w.heap.size w w1 := L
  have lp : w.heap.size < w1.heap.size := Nat.lt_of_lt_of_le (by simp <;> omega) hb.size
  have p0 : w1.cell? ⟨w.heap.size, 0, none⟩ = some (.int .i64 K) := Rg.keep hb (by simp <;> omega) (by go_cell)
  have p1 : w1.cell? ⟨w.heap.size, 1, none⟩ = some (.int .i64 B) := Rg.keep hb (by simp <;> omega) (by go_cell)
  have p2 : w1.cell? ⟨w.heap.size, 2, none⟩ = some (.int .i64 F) := Rg.keep hb (by simp <;> omega) (by go_cell)
  have p3 : w1.cell? ⟨w.heap.size, 3, none⟩ = some (.int .i64 R) := Rg.keep hb (by simp <;> omega) (by go_cell)
  have p4 : w1.cell? ⟨w.heap.size, 4, none⟩ = some (.int .i64 O) := Rg.keep hb (by simp <;> omega) (by go_cell)
  have p5 : w1.cell? ⟨w.heap.size, 5, none⟩ = some (.int .i64 K') := Rg.keep hb (by simp <;> omega) (by go_cell)
  have p6 : w1.cell? ⟨w.heap.size, 6, none⟩ = some (.int .i64 B') := Rg.keep hb (by simp <;> omega) (by go_cell)
  have p7 : w1.cell? ⟨w.heap.size, 7, none⟩ = some (.int .i64 F') := Rg.keep hb (by simp <;> omega) (by go_cell)
  have p8 : w1.cell? ⟨w.heap.size, 8, none⟩ = some (.int .i64 R') := Rg.keep hb (by simp <;> omega) (by go_cell)
  have p9 : w1.cell? ⟨w.heap.size, 9, none⟩ = some (.int .i64 O') := Rg.keep hb (by simp <;> omega) (by go_cell)
  have lq : w.heap.size + 1 < w1.heap.size := Nat.lt_of_lt_of_le (by simp <;> omega) hb.size
  have q0 : w1.cell? ⟨w.heap.size + 1, 0, none⟩ = some (.int .i64 n1) := Rg.keep hb (by simp <;> omega) (by go_cell)
  have q1 : w1.cell? ⟨w.heap.size + 1, 1, none⟩ = some (.int .i64 d1) := Rg.keep hb (by simp <;> omega) (by go_cell)
  have q2 : w1.cell? ⟨w.heap.size + 1, 2, none⟩ = some (.int .i64 n2) := Rg.keep hb (by simp <;> omega) (by go_cell)
  have q3 : w1.cell? ⟨w.heap.size + 1, 3, none⟩ = some (.int .i64 d2) := Rg.keep hb (by simp <;> omega) (by go_cell)
  have lt : w.heap.size + 1 + 1 < w1.heap.size := Nat.lt_of_lt_of_le (by simp <;> omega) hb.size
  have t0 : w1.cell? ⟨w.heap.size + 1 + 1, 0, none⟩ = some (.int .i64 K) := Rg.keep hb (by simp <;> omega) (by go_cell)
  have t1 : w1.cell? ⟨w.heap.size + 1 + 1, 1, none⟩ = some (.int .i64 B) := Rg.keep hb (by simp <;> omega) (by go_cell)
  have t2 : w1.cell? ⟨w.heap.size + 1 + 1, 2, none⟩ = some (.int .i64 F) := Rg.keep hb (by simp <;> omega) (by go_cell)
  have t3 : w1.cell? ⟨w.heap.size + 1 + 1, 3, none⟩ = some (.int .i64 R) := Rg.keep hb (by simp <;> omega) (by go_cell)
  have t4 : w1.cell? ⟨w.heap.size + 1 + 1, 4, none⟩ = some (.int .i64 O) := Rg.keep hb (by simp <;> omega) (by go_cell)
  clear hb L
  go_wp2_with fail
  refine (C2.out _).mono ?_
  rintro e w2 ⟨rfl, hb⟩
  have L : Below w1.heap.size w1 w2 := ((Below.refl _ _).alloc (by simp <;> omega) _).trans (hb.mono (by simp <;> omega))
  have K2 : Below w.heap.size w w2 := K1.trans (L.mono K1.size)
  have la : w1.heap.size < w2.heap.size := Nat.lt_of_lt_of_le (by simp <;> omega) hb.size
  have a0 : w2.cell? ⟨w1.heap.size, 0, none⟩ = some (.int .i64 x) := Rg.keep hb (by simp <;> omega) (by go_cell)
  have a1 : w2.cell? ⟨w1.heap.size, 1, none⟩ = some (.int .i64 y) := Rg.keep hb (by simp <;> omega) (by go_cell)
  have p0 := Rg.keep L lp p0
  have p1 := Rg.keep L lp p1
  have p2 := Rg.keep L lp p2
  have p3 := Rg.keep L lp p3
  have p4 := Rg.keep L lp p4
  have p5 := Rg.keep L lp p5
  have p6 := Rg.keep L lp p6
  have p7 := Rg.keep L lp p7
  have p8 := Rg.keep L lp p8
  have p9 := Rg.keep L lp p9
  have q0 := Rg.keep L lq q0
  have q1 := Rg.keep L lq q1
  have q2 := Rg.keep L lq q2
  have q3 := Rg.keep L lq q3
  have t0 := Rg.keep L lt t0
  have t1 := Rg.keep L lt t1
  have t2 := Rg.keep L lt t2
  have t3 := Rg.keep L lt t3
  have t4 := Rg.keep L lt t4
  have lp := Nat.lt_of_lt_of_le lp L.size
  have lq := Nat.lt_of_lt_of_le lq L.size
  have lt := Nat.lt_of_lt_of_le lt L.size
  clear hb L
  go_wp2_with fail
  refine (C3.out _ (LAh.out.below (by (repeat' (first | (with_reducible exact Below.refl _ _) | (with_reducible exact K2) | (with_reducible exact K2.size) | (with_reducible refine Below.alloc ?_ ?_ _) | (with_reducible refine Below.setCell ?_ ?_ _) | (with_reducible refine below_drewN ?_ _) | (simp; done) | omega | (simp; omega)))))).mono ?_
  rintro e w3 ⟨rfl, hb⟩
  have L : Below w2.heap.size w2 w3 := ((Below.refl _ _).alloc (by simp <;> omega) _).trans (hb.mono (by simp <;> omega))
  have K3 : Below w.heap.size w w3 := K2.trans (L.mono K2.size)
  have lb : w2.heap.size < w3.heap.size := Nat.lt_of_lt_of_le (by simp <;> omega) hb.size
  have b0 : w3.cell? ⟨w2.heap.size, 0, none⟩ = some (.int .i64 x2) := Rg.keep hb (by simp <;> omega) (by go_cell)
  have b1 : w3.cell? ⟨w2.heap.size, 1, none⟩ = some (.int .i64 y2) := Rg.keep hb (by simp <;> omega) (by go_cell)
  have p0 := Rg.keep L lp p0
  have p1 := Rg.keep L lp p1
  have p2 := Rg.keep L lp p2
  have p3 := Rg.keep L lp p3
  have p4 := Rg.keep L lp p4
  have p5 := Rg.keep L lp p5
  have p6 := Rg.keep L lp p6
  have p7 := Rg.keep L lp p7
  have p8 := Rg.keep L lp p8
  have p9 := Rg.keep L lp p9
  have q0 := Rg.keep L lq q0
  have q1 := Rg.keep L lq q1
  have q2 := Rg.keep L lq q2
  have q3 := Rg.keep L lq q3
  have t0 := Rg.keep L lt t0
  have t1 := Rg.keep L lt t1
  have t2 := Rg.keep L lt t2
  have t3 := Rg.keep L lt t3
  have t4 := Rg.keep L lt t4
  have a0 := Rg.keep L la a0
  have a1 := Rg.keep L la a1
  have lp := Nat.lt_of_lt_of_le lp L.size
  have lq := Nat.lt_of_lt_of_le lq L.size
  have lt := Nat.lt_of_lt_of_le lt L.size
  have la := Nat.lt_of_lt_of_le la L.size
  clear hb L
  go_wp2_with fail
  refine (VB.out _).mono ?_
  rintro e w4 ⟨rfl, hb⟩
  have L : Below w3.heap.size w3 w4 := ((Below.refl _ _).alloc (by simp <;> omega) _).trans (hb.mono (by simp <;> omega))
  have K4 : Below w.heap.size w w4 := K3.trans (L.mono K3.size)
  have lc : w3.heap.size < w4.heap.size := Nat.lt_of_lt_of_le (by simp <;> omega) hb.size
  have c0 : w4.cell? ⟨w3.heap.size, 0, none⟩ = some (.int .i64 x3) := Rg.keep hb (by simp <;> omega) (by go_cell)
  have c1 : w4.cell? ⟨w3.heap.size, 1, none⟩ = some (.int .i64 y3) := Rg.keep hb (by simp <;> omega) (by go_cell)
  have p0 := Rg.keep L lp p0
  have p1 := Rg.keep L lp p1
  have p2 := Rg.keep L lp p2
  have p3 := Rg.keep L lp p3
  have p4 := Rg.keep L lp p4
  have p5 := Rg.keep L lp p5
  have p6 := Rg.keep L lp p6
  have p7 := Rg.keep L lp p7
  have p8 := Rg.keep L lp p8
  have p9 := Rg.keep L lp p9
  have q0 := Rg.keep L lq q0
  have q1 := Rg.keep L lq q1
  have q2 := Rg.keep L lq q2
  have q3 := Rg.keep L lq q3
  have t0 := Rg.keep L lt t0
  have t1 := Rg.keep L lt t1
  have t2 := Rg.keep L lt t2
  have t3 := Rg.keep L lt t3
  have t4 := Rg.keep L lt t4
  have a0 := Rg.keep L la a0
  have a1 := Rg.keep L la a1
  have b0 := Rg.keep L lb b0
  have b1 := Rg.keep L lb b1
  have lp := Nat.lt_of_lt_of_le lp L.size
  have lq := Nat.lt_of_lt_of_le lq L.size
  have lt := Nat.lt_of_lt_of_le lt L.size
  have la := Nat.lt_of_lt_of_le la L.size
  have lb := Nat.lt_of_lt_of_le lb L.size
  clear hb L
  go_wp2_with fail
  refine (V0.out _).mono ?_
  rintro e w5 ⟨rfl, hb⟩
  have L : Below w4.heap.size w4 w5 := (Below.refl _ _).trans (hb.mono (by simp <;> omega))
  have K5 : Below w.heap.size w w5 := K4.trans (L.mono K4.size)
  have p0 := Rg.keep L lp p0
  have p1 := Rg.keep L lp p1
  have p2 := Rg.keep L lp p2
  have p3 := Rg.keep L lp p3
  have p4 := Rg.keep L lp p4
  have p5 := Rg.keep L lp p5
  have p6 := Rg.keep L lp p6
  have p7 := Rg.keep L lp p7
  have p8 := Rg.keep L lp p8
  have p9 := Rg.keep L lp p9
  have q0 := Rg.keep L lq q0
  have q1 := Rg.keep L lq q1
  have q2 := Rg.keep L lq q2
  have q3 := Rg.keep L lq q3
  have t0 := Rg.keep L lt t0
  have t1 := Rg.keep L lt t1
  have t2 := Rg.keep L lt t2
  have t3 := Rg.keep L lt t3
  have t4 := Rg.keep L lt t4
  have a0 := Rg.keep L la a0
  have a1 := Rg.keep L la a1
  have b0 := Rg.keep L lb b0
  have b1 := Rg.keep L lb b1
  have c0 := Rg.keep L lc c0
  have c1 := Rg.keep L lc c1
  have lp := Nat.lt_of_lt_of_le lp L.size
  have lq := Nat.lt_of_lt_of_le lq L.size
  have lt := Nat.lt_of_lt_of_le lt L.size
  have la := Nat.lt_of_lt_of_le la L.size
  have lb := Nat.lt_of_lt_of_le lb L.size
  have lc := Nat.lt_of_lt_of_le lc L.size
  clear hb L
  go_wp2_with fail
  refine (EX.out _).mono ?_
  rintro e w6 ⟨rfl, hb⟩
  have L : Below w5.heap.size w5 w6 := (Below.refl _ _).trans (hb.mono (by simp <;> omega))
  have K6 : Below w.heap.size w w6 := K5.trans (L.mono K5.size)
  have p0 := Rg.keep L lp p0
  have p1 := Rg.keep L lp p1
  have p2 := Rg.keep L lp p2
  have p3 := Rg.keep L lp p3
  have p4 := Rg.keep L lp p4
  have p5 := Rg.keep L lp p5
  have p6 := Rg.keep L lp p6
  have p7 := Rg.keep L lp p7
  have p8 := Rg.keep L lp p8
  have p9 := Rg.keep L lp p9
  have q0 := Rg.keep L lq q0
  have q1 := Rg.keep L lq q1
  have q2 := Rg.keep L lq q2
  have q3 := Rg.keep L lq q3
  have t0 := Rg.keep L lt t0
  have t1 := Rg.keep L lt t1
  have t2 := Rg.keep L lt t2
  have t3 := Rg.keep L lt t3
  have t4 := Rg.keep L lt t4
  have a0 := Rg.keep L la a0
  have a1 := Rg.keep L la a1
  have b0 := Rg.keep L lb b0
  have b1 := Rg.keep L lb b1
  have c0 := Rg.keep L lc c0
  have c1 := Rg.keep L lc c1
  have lp := Nat.lt_of_lt_of_le lp L.size
  have lq := Nat.lt_of_lt_of_le lq L.size
  have lt := Nat.lt_of_lt_of_le lt L.size
  have la := Nat.lt_of_lt_of_le la L.size
  have lb := Nat.lt_of_lt_of_le lb L.size
  have lc := Nat.lt_of_lt_of_le lc L.size
  clear hb L
  go_wp2
  go_ret
  exact ⟨rfl, K6⟩

set_option maxRecDepth 100000 in
set_option maxHeartbeats 16000000 in
theorem rv_ftft (op K B F R O K' B' F' R' O' n1 d1 n2 d2 x y z x2 y2 z2 x3 y3 z3 : Int) (s F0s : ByteArray) (w : World) (g1 : decide ((100 : Int) < s.size) = false) (LAh : Hid (Tx.LA w)) (EX : Hid (∀ w, Calls Tryz.prog 11 #[] w (Ret (.bool true) w)))
    (C1 : Hid (∀ w, Calls Tryz.prog 7 #[.int .i64 op, T5 K B F R O, V2 n1 d1, V2 n2 d2] w (Ret (Frac3 x y z) w))) (C2 : Hid (∀ w, Calls Tryz.prog 22 #[T5 K B F R O, T5 K' B' F' R' O', V2 n1 d1] w (Ret (Frac3 x2 y2 z2) w)))
    (C3 : Hid (∀ w, Tx.LA w → Calls Tryz.prog 18 #[T5 K B F R O, .string s] w (Ret (Frac3 x3 y3 z3) w))) (ge : (z == 0) = false) (gf : (z2 == 0) = true) (gg : (z3 == 0) = false) (VB : Hid (∀ w, Calls Tryz.prog 23 #[T5 K' B' F' R' O', V2 x2 y2] w (Ret (.bool true) w)))(V0 : Hid (∀ w, Calls Tryz.prog 23 #[T5 K B F R O, V2 n1 d1] w (Ret (.bool true) w)))(C4 : Hid (∀ w, Calls Tryz.prog 22 #[T5 K B F R O, T5 K B F R O, V2 n1 d1] w (Ret (Frac3 n1 d1 0) w))) (F4 : Hid (∀ w, Tx.LA w → Calls Tryz.prog 20 #[T5 K B F R O, V2 n1 d1] w (Ret (.string F0s) w))) (P4 : Hid (∀ w, Tx.LA w → Calls Tryz.prog 18 #[T5 K B F R O, .string F0s] w (Ret (Frac3 n1 d1 0) w))) : Calls Tryz.prog 6 #[.int .i64 op, .agg #[.int .i64 K, .int .i64 B, .int .i64 F, .int .i64 R, .int .i64 O, .int .i64 K', .int .i64 B', .int .i64 F', .int .i64 R', .int .i64 O'], .agg #[.int .i64 n1, .int .i64 d1, .int .i64 n2, .int .i64 d2], .string s] w (Ret (.bool true) w) := by
  go_enter Tryz.func6, Tryz.ntmps6
  go_wp2_with fail
  refine (C1.out _).mono ?_
  rintro e w1 ⟨rfl, hb⟩
  have L : Below w.heap.size w w1 := ((((Below.refl _ _).alloc (by simp <;> omega) _).alloc (by simp <;> omega) _).alloc (by simp <;> omega) _).trans (hb.mono (by simp <;> omega))
  have K1 : Below w.heap.size w w1 := L
  have lp : w.heap.size < w1.heap.size := Nat.lt_of_lt_of_le (by simp <;> omega) hb.size
  have p0 : w1.cell? ⟨w.heap.size, 0, none⟩ = some (.int .i64 K) := Rg.keep hb (by simp <;> omega) (by go_cell)
  have p1 : w1.cell? ⟨w.heap.size, 1, none⟩ = some (.int .i64 B) := Rg.keep hb (by simp <;> omega) (by go_cell)
  have p2 : w1.cell? ⟨w.heap.size, 2, none⟩ = some (.int .i64 F) := Rg.keep hb (by simp <;> omega) (by go_cell)
  have p3 : w1.cell? ⟨w.heap.size, 3, none⟩ = some (.int .i64 R) := Rg.keep hb (by simp <;> omega) (by go_cell)
  have p4 : w1.cell? ⟨w.heap.size, 4, none⟩ = some (.int .i64 O) := Rg.keep hb (by simp <;> omega) (by go_cell)
  have p5 : w1.cell? ⟨w.heap.size, 5, none⟩ = some (.int .i64 K') := Rg.keep hb (by simp <;> omega) (by go_cell)
  have p6 : w1.cell? ⟨w.heap.size, 6, none⟩ = some (.int .i64 B') := Rg.keep hb (by simp <;> omega) (by go_cell)
  have p7 : w1.cell? ⟨w.heap.size, 7, none⟩ = some (.int .i64 F') := Rg.keep hb (by simp <;> omega) (by go_cell)
  have p8 : w1.cell? ⟨w.heap.size, 8, none⟩ = some (.int .i64 R') := Rg.keep hb (by simp <;> omega) (by go_cell)
  have p9 : w1.cell? ⟨w.heap.size, 9, none⟩ = some (.int .i64 O') := Rg.keep hb (by simp <;> omega) (by go_cell)
  have lq : w.heap.size + 1 < w1.heap.size := Nat.lt_of_lt_of_le (by simp <;> omega) hb.size
  have q0 : w1.cell? ⟨w.heap.size + 1, 0, none⟩ = some (.int .i64 n1) := Rg.keep hb (by simp <;> omega) (by go_cell)
  have q1 : w1.cell? ⟨w.heap.size + 1, 1, none⟩ = some (.int .i64 d1) := Rg.keep hb (by simp <;> omega) (by go_cell)
  have q2 : w1.cell? ⟨w.heap.size + 1, 2, none⟩ = some (.int .i64 n2) := Rg.keep hb (by simp <;> omega) (by go_cell)
  have q3 : w1.cell? ⟨w.heap.size + 1, 3, none⟩ = some (.int .i64 d2) := Rg.keep hb (by simp <;> omega) (by go_cell)
  have lt : w.heap.size + 1 + 1 < w1.heap.size := Nat.lt_of_lt_of_le (by simp <;> omega) hb.size
  have t0 : w1.cell? ⟨w.heap.size + 1 + 1, 0, none⟩ = some (.int .i64 K) := Rg.keep hb (by simp <;> omega) (by go_cell)
  have t1 : w1.cell? ⟨w.heap.size + 1 + 1, 1, none⟩ = some (.int .i64 B) := Rg.keep hb (by simp <;> omega) (by go_cell)
  have t2 : w1.cell? ⟨w.heap.size + 1 + 1, 2, none⟩ = some (.int .i64 F) := Rg.keep hb (by simp <;> omega) (by go_cell)
  have t3 : w1.cell? ⟨w.heap.size + 1 + 1, 3, none⟩ = some (.int .i64 R) := Rg.keep hb (by simp <;> omega) (by go_cell)
  have t4 : w1.cell? ⟨w.heap.size + 1 + 1, 4, none⟩ = some (.int .i64 O) := Rg.keep hb (by simp <;> omega) (by go_cell)
  clear hb L
  go_wp2_with fail
  refine (C2.out _).mono ?_
  rintro e w2 ⟨rfl, hb⟩
  have L : Below w1.heap.size w1 w2 := ((Below.refl _ _).alloc (by simp <;> omega) _).trans (hb.mono (by simp <;> omega))
  have K2 : Below w.heap.size w w2 := K1.trans (L.mono K1.size)
  have la : w1.heap.size < w2.heap.size := Nat.lt_of_lt_of_le (by simp <;> omega) hb.size
  have a0 : w2.cell? ⟨w1.heap.size, 0, none⟩ = some (.int .i64 x) := Rg.keep hb (by simp <;> omega) (by go_cell)
  have a1 : w2.cell? ⟨w1.heap.size, 1, none⟩ = some (.int .i64 y) := Rg.keep hb (by simp <;> omega) (by go_cell)
  have p0 := Rg.keep L lp p0
  have p1 := Rg.keep L lp p1
  have p2 := Rg.keep L lp p2
  have p3 := Rg.keep L lp p3
  have p4 := Rg.keep L lp p4
  have p5 := Rg.keep L lp p5
  have p6 := Rg.keep L lp p6
  have p7 := Rg.keep L lp p7
  have p8 := Rg.keep L lp p8
  have p9 := Rg.keep L lp p9
  have q0 := Rg.keep L lq q0
  have q1 := Rg.keep L lq q1
  have q2 := Rg.keep L lq q2
  have q3 := Rg.keep L lq q3
  have t0 := Rg.keep L lt t0
  have t1 := Rg.keep L lt t1
  have t2 := Rg.keep L lt t2
  have t3 := Rg.keep L lt t3
  have t4 := Rg.keep L lt t4
  have lp := Nat.lt_of_lt_of_le lp L.size
  have lq := Nat.lt_of_lt_of_le lq L.size
  have lt := Nat.lt_of_lt_of_le lt L.size
  clear hb L
  go_wp2_with fail
  refine (C3.out _ (LAh.out.below (by (repeat' (first | (with_reducible exact Below.refl _ _) | (with_reducible exact K2) | (with_reducible exact K2.size) | (with_reducible refine Below.alloc ?_ ?_ _) | (with_reducible refine Below.setCell ?_ ?_ _) | (with_reducible refine below_drewN ?_ _) | (simp; done) | omega | (simp; omega)))))).mono ?_
  rintro e w3 ⟨rfl, hb⟩
  have L : Below w2.heap.size w2 w3 := ((Below.refl _ _).alloc (by simp <;> omega) _).trans (hb.mono (by simp <;> omega))
  have K3 : Below w.heap.size w w3 := K2.trans (L.mono K2.size)
  have lb : w2.heap.size < w3.heap.size := Nat.lt_of_lt_of_le (by simp <;> omega) hb.size
  have b0 : w3.cell? ⟨w2.heap.size, 0, none⟩ = some (.int .i64 x2) := Rg.keep hb (by simp <;> omega) (by go_cell)
  have b1 : w3.cell? ⟨w2.heap.size, 1, none⟩ = some (.int .i64 y2) := Rg.keep hb (by simp <;> omega) (by go_cell)
  have p0 := Rg.keep L lp p0
  have p1 := Rg.keep L lp p1
  have p2 := Rg.keep L lp p2
  have p3 := Rg.keep L lp p3
  have p4 := Rg.keep L lp p4
  have p5 := Rg.keep L lp p5
  have p6 := Rg.keep L lp p6
  have p7 := Rg.keep L lp p7
  have p8 := Rg.keep L lp p8
  have p9 := Rg.keep L lp p9
  have q0 := Rg.keep L lq q0
  have q1 := Rg.keep L lq q1
  have q2 := Rg.keep L lq q2
  have q3 := Rg.keep L lq q3
  have t0 := Rg.keep L lt t0
  have t1 := Rg.keep L lt t1
  have t2 := Rg.keep L lt t2
  have t3 := Rg.keep L lt t3
  have t4 := Rg.keep L lt t4
  have a0 := Rg.keep L la a0
  have a1 := Rg.keep L la a1
  have lp := Nat.lt_of_lt_of_le lp L.size
  have lq := Nat.lt_of_lt_of_le lq L.size
  have lt := Nat.lt_of_lt_of_le lt L.size
  have la := Nat.lt_of_lt_of_le la L.size
  clear hb L
  go_wp2_with fail
  refine (VB.out _).mono ?_
  rintro e w4 ⟨rfl, hb⟩
  have L : Below w3.heap.size w3 w4 := ((Below.refl _ _).alloc (by simp <;> omega) _).trans (hb.mono (by simp <;> omega))
  have K4 : Below w.heap.size w w4 := K3.trans (L.mono K3.size)
  have lc : w3.heap.size < w4.heap.size := Nat.lt_of_lt_of_le (by simp <;> omega) hb.size
  have c0 : w4.cell? ⟨w3.heap.size, 0, none⟩ = some (.int .i64 x3) := Rg.keep hb (by simp <;> omega) (by go_cell)
  have c1 : w4.cell? ⟨w3.heap.size, 1, none⟩ = some (.int .i64 y3) := Rg.keep hb (by simp <;> omega) (by go_cell)
  have p0 := Rg.keep L lp p0
  have p1 := Rg.keep L lp p1
  have p2 := Rg.keep L lp p2
  have p3 := Rg.keep L lp p3
  have p4 := Rg.keep L lp p4
  have p5 := Rg.keep L lp p5
  have p6 := Rg.keep L lp p6
  have p7 := Rg.keep L lp p7
  have p8 := Rg.keep L lp p8
  have p9 := Rg.keep L lp p9
  have q0 := Rg.keep L lq q0
  have q1 := Rg.keep L lq q1
  have q2 := Rg.keep L lq q2
  have q3 := Rg.keep L lq q3
  have t0 := Rg.keep L lt t0
  have t1 := Rg.keep L lt t1
  have t2 := Rg.keep L lt t2
  have t3 := Rg.keep L lt t3
  have t4 := Rg.keep L lt t4
  have a0 := Rg.keep L la a0
  have a1 := Rg.keep L la a1
  have b0 := Rg.keep L lb b0
  have b1 := Rg.keep L lb b1
  have lp := Nat.lt_of_lt_of_le lp L.size
  have lq := Nat.lt_of_lt_of_le lq L.size
  have lt := Nat.lt_of_lt_of_le lt L.size
  have la := Nat.lt_of_lt_of_le la L.size
  have lb := Nat.lt_of_lt_of_le lb L.size
  clear hb L
  go_wp2_with fail
  refine (V0.out _).mono ?_
  rintro e w5 ⟨rfl, hb⟩
  have L : Below w4.heap.size w4 w5 := (Below.refl _ _).trans (hb.mono (by simp <;> omega))
  have K5 : Below w.heap.size w w5 := K4.trans (L.mono K4.size)
  have p0 := Rg.keep L lp p0
  have p1 := Rg.keep L lp p1
  have p2 := Rg.keep L lp p2
  have p3 := Rg.keep L lp p3
  have p4 := Rg.keep L lp p4
  have p5 := Rg.keep L lp p5
  have p6 := Rg.keep L lp p6
  have p7 := Rg.keep L lp p7
  have p8 := Rg.keep L lp p8
  have p9 := Rg.keep L lp p9
  have q0 := Rg.keep L lq q0
  have q1 := Rg.keep L lq q1
  have q2 := Rg.keep L lq q2
  have q3 := Rg.keep L lq q3
  have t0 := Rg.keep L lt t0
  have t1 := Rg.keep L lt t1
  have t2 := Rg.keep L lt t2
  have t3 := Rg.keep L lt t3
  have t4 := Rg.keep L lt t4
  have a0 := Rg.keep L la a0
  have a1 := Rg.keep L la a1
  have b0 := Rg.keep L lb b0
  have b1 := Rg.keep L lb b1
  have c0 := Rg.keep L lc c0
  have c1 := Rg.keep L lc c1
  have lp := Nat.lt_of_lt_of_le lp L.size
  have lq := Nat.lt_of_lt_of_le lq L.size
  have lt := Nat.lt_of_lt_of_le lt L.size
  have la := Nat.lt_of_lt_of_le la L.size
  have lb := Nat.lt_of_lt_of_le lb L.size
  have lc := Nat.lt_of_lt_of_le lc L.size
  clear hb L
  go_wp2_with fail
  refine (C4.out _).mono ?_
  rintro e w6 ⟨rfl, hb⟩
  have L : Below w5.heap.size w5 w6 := (Below.refl _ _).trans (hb.mono (by simp <;> omega))
  have K6 : Below w.heap.size w w6 := K5.trans (L.mono K5.size)
  have p0 := Rg.keep L lp p0
  have p1 := Rg.keep L lp p1
  have p2 := Rg.keep L lp p2
  have p3 := Rg.keep L lp p3
  have p4 := Rg.keep L lp p4
  have p5 := Rg.keep L lp p5
  have p6 := Rg.keep L lp p6
  have p7 := Rg.keep L lp p7
  have p8 := Rg.keep L lp p8
  have p9 := Rg.keep L lp p9
  have q0 := Rg.keep L lq q0
  have q1 := Rg.keep L lq q1
  have q2 := Rg.keep L lq q2
  have q3 := Rg.keep L lq q3
  have t0 := Rg.keep L lt t0
  have t1 := Rg.keep L lt t1
  have t2 := Rg.keep L lt t2
  have t3 := Rg.keep L lt t3
  have t4 := Rg.keep L lt t4
  have a0 := Rg.keep L la a0
  have a1 := Rg.keep L la a1
  have b0 := Rg.keep L lb b0
  have b1 := Rg.keep L lb b1
  have c0 := Rg.keep L lc c0
  have c1 := Rg.keep L lc c1
  have lp := Nat.lt_of_lt_of_le lp L.size
  have lq := Nat.lt_of_lt_of_le lq L.size
  have lt := Nat.lt_of_lt_of_le lt L.size
  have la := Nat.lt_of_lt_of_le la L.size
  have lb := Nat.lt_of_lt_of_le lb L.size
  have lc := Nat.lt_of_lt_of_le lc L.size
  clear hb L
  go_wp2_with fail
  obtain ⟨zw7, hzw⟩ : ∃ zw7, zw7 = (w6.alloc (.cells #[.int .i64 n1, .int .i64 d1] 25)) := ⟨_, rfl⟩
  have hb : Below (w6.alloc (.cells #[.int .i64 n1, .int .i64 d1] 25)).heap.size (w6.alloc (.cells #[.int .i64 n1, .int .i64 d1] 25)) zw7 := by rw [hzw]; exact Below.refl _ _
  rw [← hzw]
  clear hzw
  have L : Below w6.heap.size w6 zw7 := ((Below.refl _ _).alloc (by simp <;> omega) _).trans (hb.mono (by simp <;> omega))
  have K7 : Below w.heap.size w zw7 := K6.trans (L.mono K6.size)
  have ld : w6.heap.size < zw7.heap.size := Nat.lt_of_lt_of_le (by simp <;> omega) hb.size
  have d0 : zw7.cell? ⟨w6.heap.size, 0, none⟩ = some (.int .i64 n1) := Rg.keep hb (by simp <;> omega) (by go_cell)
  have e0 : zw7.cell? ⟨w6.heap.size, 1, none⟩ = some (.int .i64 d1) := Rg.keep hb (by simp <;> omega) (by go_cell)
  have p0 := Rg.keep L lp p0
  have p1 := Rg.keep L lp p1
  have p2 := Rg.keep L lp p2
  have p3 := Rg.keep L lp p3
  have p4 := Rg.keep L lp p4
  have p5 := Rg.keep L lp p5
  have p6 := Rg.keep L lp p6
  have p7 := Rg.keep L lp p7
  have p8 := Rg.keep L lp p8
  have p9 := Rg.keep L lp p9
  have q0 := Rg.keep L lq q0
  have q1 := Rg.keep L lq q1
  have q2 := Rg.keep L lq q2
  have q3 := Rg.keep L lq q3
  have t0 := Rg.keep L lt t0
  have t1 := Rg.keep L lt t1
  have t2 := Rg.keep L lt t2
  have t3 := Rg.keep L lt t3
  have t4 := Rg.keep L lt t4
  have a0 := Rg.keep L la a0
  have a1 := Rg.keep L la a1
  have b0 := Rg.keep L lb b0
  have b1 := Rg.keep L lb b1
  have c0 := Rg.keep L lc c0
  have c1 := Rg.keep L lc c1
  have lp := Nat.lt_of_lt_of_le lp L.size
  have lq := Nat.lt_of_lt_of_le lq L.size
  have lt := Nat.lt_of_lt_of_le lt L.size
  have la := Nat.lt_of_lt_of_le la L.size
  have lb := Nat.lt_of_lt_of_le lb L.size
  have lc := Nat.lt_of_lt_of_le lc L.size
  clear hb L
  have hz : zw7.cell? ⟨w.heap.size + 1 + 1, 0, none⟩ = some (.int .i64 K) ∧ zw7.cell? ⟨w.heap.size + 1 + 1, 1, none⟩ = some (.int .i64 B) ∧ zw7.cell? ⟨w.heap.size + 1 + 1, 2, none⟩ = some (.int .i64 F) ∧ zw7.cell? ⟨w.heap.size + 1 + 1, 3, none⟩ = some (.int .i64 R) ∧ zw7.cell? ⟨w.heap.size + 1 + 1, 4, none⟩ = some (.int .i64 O) ∧ zw7.cell? ⟨w.heap.size + 1, 0, none⟩ = some (.int .i64 n1) ∧ zw7.cell? ⟨w.heap.size + 1, 1, none⟩ = some (.int .i64 d1) ∧ zw7.cell? ⟨w6.heap.size, 0, none⟩ = some (.int .i64 n1) ∧ zw7.cell? ⟨w6.heap.size, 1, none⟩ = some (.int .i64 d1) ∧ Below w.heap.size w zw7 := ⟨t0, t1, t2, t3, t4, q0, q1, d0, e0, K7⟩
  have HS : Hid (∀ u u' : World, (u.cell? ⟨w.heap.size + 1 + 1, 0, none⟩ = some (.int .i64 K) ∧ u.cell? ⟨w.heap.size + 1 + 1, 1, none⟩ = some (.int .i64 B) ∧ u.cell? ⟨w.heap.size + 1 + 1, 2, none⟩ = some (.int .i64 F) ∧ u.cell? ⟨w.heap.size + 1 + 1, 3, none⟩ = some (.int .i64 R) ∧ u.cell? ⟨w.heap.size + 1 + 1, 4, none⟩ = some (.int .i64 O) ∧ u.cell? ⟨w.heap.size + 1, 0, none⟩ = some (.int .i64 n1) ∧ u.cell? ⟨w.heap.size + 1, 1, none⟩ = some (.int .i64 d1) ∧ u.cell? ⟨w6.heap.size, 0, none⟩ = some (.int .i64 n1) ∧ u.cell? ⟨w6.heap.size, 1, none⟩ = some (.int .i64 d1) ∧ Below w.heap.size w u) → Below u.heap.size u u' → (u'.cell? ⟨w.heap.size + 1 + 1, 0, none⟩ = some (.int .i64 K) ∧ u'.cell? ⟨w.heap.size + 1 + 1, 1, none⟩ = some (.int .i64 B) ∧ u'.cell? ⟨w.heap.size + 1 + 1, 2, none⟩ = some (.int .i64 F) ∧ u'.cell? ⟨w.heap.size + 1 + 1, 3, none⟩ = some (.int .i64 R) ∧ u'.cell? ⟨w.heap.size + 1 + 1, 4, none⟩ = some (.int .i64 O) ∧ u'.cell? ⟨w.heap.size + 1, 0, none⟩ = some (.int .i64 n1) ∧ u'.cell? ⟨w.heap.size + 1, 1, none⟩ = some (.int .i64 d1) ∧ u'.cell? ⟨w6.heap.size, 0, none⟩ = some (.int .i64 n1) ∧ u'.cell? ⟨w6.heap.size, 1, none⟩ = some (.int .i64 d1) ∧ Below w.heap.size w u')) := Lib.hid (fun u u' h hb => ⟨Rg.keep hb (World.block_lt_of_cell? _ _ h.1) h.1, Rg.keep hb (World.block_lt_of_cell? _ _ h.2.1) h.2.1, Rg.keep hb (World.block_lt_of_cell? _ _ h.2.2.1) h.2.2.1, Rg.keep hb (World.block_lt_of_cell? _ _ h.2.2.2.1) h.2.2.2.1, Rg.keep hb (World.block_lt_of_cell? _ _ h.2.2.2.2.1) h.2.2.2.2.1, Rg.keep hb (World.block_lt_of_cell? _ _ h.2.2.2.2.2.1) h.2.2.2.2.2.1, Rg.keep hb (World.block_lt_of_cell? _ _ h.2.2.2.2.2.2.1) h.2.2.2.2.2.2.1, Rg.keep hb (World.block_lt_of_cell? _ _ h.2.2.2.2.2.2.2.1) h.2.2.2.2.2.2.2.1, Rg.keep hb (World.block_lt_of_cell? _ _ h.2.2.2.2.2.2.2.2.1) h.2.2.2.2.2.2.2.2.1, h.2.2.2.2.2.2.2.2.2.trans (hb.mono h.2.2.2.2.2.2.2.2.2.size)⟩)
  clear p0 p1 p2 p3 p4 p5 p6 p7 p8 p9 q0 q1 q2 q3 t0 t1 t2 t3 t4 a0 a1 b0 b1 c0 c1 d0 e0 K7
  refine Rk.begin (S := fun wS => wS.cell? ⟨w.heap.size + 1 + 1, 0, none⟩ = some (.int .i64 K) ∧ wS.cell? ⟨w.heap.size + 1 + 1, 1, none⟩ = some (.int .i64 B) ∧ wS.cell? ⟨w.heap.size + 1 + 1, 2, none⟩ = some (.int .i64 F) ∧ wS.cell? ⟨w.heap.size + 1 + 1, 3, none⟩ = some (.int .i64 R) ∧ wS.cell? ⟨w.heap.size + 1 + 1, 4, none⟩ = some (.int .i64 O) ∧ wS.cell? ⟨w.heap.size + 1, 0, none⟩ = some (.int .i64 n1) ∧ wS.cell? ⟨w.heap.size + 1, 1, none⟩ = some (.int .i64 d1) ∧ wS.cell? ⟨w6.heap.size, 0, none⟩ = some (.int .i64 n1) ∧ wS.cell? ⟨w6.heap.size, 1, none⟩ = some (.int .i64 d1) ∧ Below w.heap.size w wS) 10 (by kernel_rfl) (HS.out _ _ hz (Below.drew (Below.refl _ _))) (fun hHeld => ?_)
  refine Rk.take [10] (i := 0) (v := ?_) rfl (by kernel_rfl) (by kernel_rfl) (by kernel_rfl) (by kernel_rfl) (by kernel_rfl) (fun _ _ _ h => h) (Or.inl ⟨by kernel_rfl, ?_⟩) (by assumption) ?_
  rotate_left
  · ((intro w hSw; (try dsimp only at hSw); go_simp) <;> with_reducible rfl)
  try simp only [Act.put, List.setIfInBounds_toArray, List.set_cons_zero, List.set_cons_succ]
  refine Rk.take [10] (i := 1) (v := ?_) rfl (by kernel_rfl) (by kernel_rfl) (by kernel_rfl) (by kernel_rfl) (by kernel_rfl) (fun _ _ _ h => h) (Or.inl ⟨by kernel_rfl, ?_⟩) (by assumption) ?_
  rotate_left
  · ((intro w hSw; (try dsimp only at hSw); go_simp) <;> with_reducible rfl)
  try simp only [Act.put, List.setIfInBounds_toArray, List.set_cons_zero, List.set_cons_succ]
  refine Rk.takeP (i := 2) (v := ?_) rfl (by kernel_rfl) (by kernel_rfl) (by kernel_rfl) (by kernel_rfl) (fun _ _ _ h => h) (Or.inl ⟨by kernel_rfl, ?_⟩) (by assumption) ?_
  rotate_left
  · ((intro w hSw; go_simp) <;> with_reducible rfl)
  try simp only [Act.put, List.setIfInBounds_toArray, List.set_cons_zero, List.set_cons_succ]
  refine Rk.take [10] (i := 3) (v := ?_) rfl (by kernel_rfl) (by kernel_rfl) (by kernel_rfl) (by kernel_rfl) (by kernel_rfl) (fun _ _ _ h => h) (Or.inl ⟨by kernel_rfl, ?_⟩) (by assumption) ?_
  rotate_left
  · ((intro w hSw; (try dsimp only at hSw); go_simp) <;> with_reducible rfl)
  try simp only [Act.put, List.setIfInBounds_toArray, List.set_cons_zero, List.set_cons_succ]
  refine Rk.two (i := 4) (j := 9) (by kernel_rfl) rfl rfl (fun KK hK => ?_) (fun KK hK => ?_)
  · rw [if_pos (by kernel_rfl)]
    go_simp
    (refine (F4.out _ (LAh.out.below (by exact hHeld.2.2.2.2.2.2.2.2.2))).mono ?_; rintro e u1 ⟨rfl, hb⟩)
    have hNew := HS.out _ _ hHeld hb
    have hs_u1 : zw7.heap.size ≤ u1.heap.size := by have hzz := hb.size; (try simp at hzz); omega
    first | (refine hK.out _ _ (fun _ => hNew) (fun _ => ?_)) | (refine hK.out _ _ hNew (fun _ => ?_)) | (go_wp2_with fail; refine hK.out _ _ hNew (fun _ => ?_))
    replace hHeld := hNew
    clear hNew hb
    clear hK KK
    refine Rk.two (i := 5) (j := 9) (by kernel_rfl) rfl rfl (fun KK hK => ?_) (fun KK hK => ?_)
    · rw [if_pos (by kernel_rfl)]
      go_simp
      (refine (P4.out _ (LAh.out.below (by exact hHeld.2.2.2.2.2.2.2.2.2))).mono ?_; rintro e u2 ⟨rfl, hb⟩)
      have hNew := HS.out _ _ hHeld hb
      have hs_u2 : zw7.heap.size ≤ u2.heap.size := by have hzz := hb.size; (try simp at hzz); omega
      first | (refine hK.out _ _ (fun _ => hNew) (fun _ => ?_)) | (refine hK.out _ _ hNew (fun _ => ?_)) | (go_wp2_with fail; refine hK.out _ _ hNew (fun _ => ?_))
      replace hHeld := hNew
      clear hNew hb
      clear hK KK
      refine Rk.takeP (i := 6) (v := ?_) rfl (by kernel_rfl) (by kernel_rfl) (by kernel_rfl) (by kernel_rfl) (fun _ _ _ h => h) (Or.inl ⟨by kernel_rfl, ?_⟩) (by assumption) ?_
      rotate_left
      · ((intro w hSw; go_simp) <;> with_reducible rfl)
      try simp only [Act.put, List.setIfInBounds_toArray, List.set_cons_zero, List.set_cons_succ]
      refine Rk.takeP (i := 7) (v := ?_) rfl (by kernel_rfl) (by kernel_rfl) (by kernel_rfl) (by kernel_rfl) (fun _ _ _ h => h) (Or.inl ⟨by kernel_rfl, ?_⟩) (by assumption) ?_
      rotate_left
      · ((intro w hSw; go_simp) <;> with_reducible rfl)
      try simp only [Act.put, List.setIfInBounds_toArray, List.set_cons_zero, List.set_cons_succ]
      refine Rk.takeP (i := 8) (v := ?_) rfl (by kernel_rfl) (by kernel_rfl) (by kernel_rfl) (by kernel_rfl) (fun _ _ _ h => h) (Or.inl ⟨by kernel_rfl, ?_⟩) (by assumption) ?_
      rotate_left
      · ((intro w hSw; go_simp) <;> with_reducible rfl)
      try simp only [Act.put, List.setIfInBounds_toArray, List.set_cons_zero, List.set_cons_succ]
      refine Rk.one (i := 9) (by kernel_rfl) rfl (fun KK hK => ?_)
      rw [if_pos (by kernel_rfl)]
      go_simp
      have hNew := HS.out _ _ hHeld ((Below.refl _ _).alloc (Nat.le_refl _) (Obj.cells #[Value.int .i64 0, Value.int .i64 0] 25))
      refine hK.out _ _ hNew (fun _ => ?_)
      replace hHeld := hNew
      clear hNew
      clear hK KK
      refine Rk.tail [10, 11] [_, _] (by kernel_rfl) (by kernel_rfl) rfl (by decide) ?_
      obtain ⟨t0, t1, t2, t3, t4, q0, q1, d0, e0, KG⟩ := hHeld
      have m0 : (u2.alloc (Obj.cells #[Value.int .i64 0, Value.int .i64 0] 25)).cell? ⟨u2.heap.size, 0, none⟩ = some (.int .i64 0) := by go_cell
      have fm0 : (u2.alloc (Obj.cells #[Value.int .i64 0, Value.int .i64 0] 25)).frozen? ⟨u2.heap.size, 0, none⟩ = false := by simp only [frozen?_alloc_cells]; exact Rg.notFrozen (Nat.le_refl _)
      have m1 : (u2.alloc (Obj.cells #[Value.int .i64 0, Value.int .i64 0] 25)).cell? ⟨u2.heap.size, 1, none⟩ = some (.int .i64 0) := by go_cell
      have fm1 : (u2.alloc (Obj.cells #[Value.int .i64 0, Value.int .i64 0] 25)).frozen? ⟨u2.heap.size, 1, none⟩ = false := by simp only [frozen?_alloc_cells]; exact Rg.notFrozen (Nat.le_refl _)
      generalize (u2.alloc (Obj.cells #[Value.int .i64 0, Value.int .i64 0] 25)) = gw at *
      have n0 : u2.heap.size ≠ w.heap.size + 1 := by omega
      have n9 : u2.heap.size ≠ w6.heap.size := by omega
      have n8 : u2.heap.size ≠ w.heap.size + 1 + 1 := by omega
      have lw : w.heap.size ≤ u2.heap.size := by omega
      have lm : u2.heap.size < gw.heap.size := World.block_lt_of_cell? _ _ m0
      have lq9 : w.heap.size + 1 < gw.heap.size := World.block_lt_of_cell? _ _ q0
      have ld9 : w6.heap.size < gw.heap.size := World.block_lt_of_cell? _ _ d0
      go_wp2_with fail
      have KS : Below w.heap.size w ((gw.setCell ⟨u2.heap.size, 0, none⟩ (.int .i64 n1)).setCell ⟨u2.heap.size, 1, none⟩ (.int .i64 d1)) := Below.setCell (Below.setCell KG (by dsimp only; omega) _) (by dsimp only; omega) _
      refine (EX.out _).mono ?_
      rintro e wE ⟨rfl, hbE⟩
      go_wp2
      go_ret
      exact ⟨rfl, KS.trans (hbE.mono KS.size)⟩
    · rw [if_pos (by kernel_rfl)]
      go_simp
      have hNew := HS.out _ _ hHeld ((Below.refl _ _).alloc (Nat.le_refl _) (Obj.cells #[Value.int .i64 0, Value.int .i64 0] 25))
      refine hK.out _ _ hNew (fun _ => ?_)
      replace hHeld := hNew
      clear hNew
      clear hK KK
      refine Rk.one (i := 5) (by kernel_rfl) rfl (fun KK hK => ?_)
      rw [if_pos (by kernel_rfl)]
      go_simp
      (refine (P4.out _ (LAh.out.below (by exact hHeld.2.2.2.2.2.2.2.2.2))).mono ?_; rintro e u2 ⟨rfl, hb⟩)
      have hNew := HS.out _ _ hHeld hb
      have hs_u2 : zw7.heap.size ≤ u2.heap.size := by have hzz := hb.size; (try simp at hzz); omega
      have m0 : u2.cell? ⟨u1.heap.size, 0, none⟩ = some (.int .i64 0) := Rg.keep hb (by simp) (by go_cell)
      have fm0 : u2.frozen? ⟨u1.heap.size, 0, none⟩ = false := Rg.keepF hb (by simp) (by show (u1.alloc (Obj.cells #[Value.int .i64 0, Value.int .i64 0] 25)).frozen? ⟨u1.heap.size, 0, none⟩ = false; simp only [frozen?_alloc_cells]; exact Rg.notFrozen (Nat.le_refl _))
      have m1 : u2.cell? ⟨u1.heap.size, 1, none⟩ = some (.int .i64 0) := Rg.keep hb (by simp) (by go_cell)
      have fm1 : u2.frozen? ⟨u1.heap.size, 1, none⟩ = false := Rg.keepF hb (by simp) (by show (u1.alloc (Obj.cells #[Value.int .i64 0, Value.int .i64 0] 25)).frozen? ⟨u1.heap.size, 1, none⟩ = false; simp only [frozen?_alloc_cells]; exact Rg.notFrozen (Nat.le_refl _))
      first | (refine hK.out _ _ (fun _ => hNew) (fun _ => ?_)) | (refine hK.out _ _ hNew (fun _ => ?_)) | (go_wp2_with fail; refine hK.out _ _ hNew (fun _ => ?_))
      replace hHeld := hNew
      clear hNew hb
      clear hK KK
      refine Rk.takeP (i := 6) (v := ?_) rfl (by kernel_rfl) (by kernel_rfl) (by kernel_rfl) (by kernel_rfl) (fun _ _ _ h => h) (Or.inl ⟨by kernel_rfl, ?_⟩) (by assumption) ?_
      rotate_left
      · ((intro w hSw; go_simp) <;> with_reducible rfl)
      try simp only [Act.put, List.setIfInBounds_toArray, List.set_cons_zero, List.set_cons_succ]
      refine Rk.takeP (i := 7) (v := ?_) rfl (by kernel_rfl) (by kernel_rfl) (by kernel_rfl) (by kernel_rfl) (fun _ _ _ h => h) (Or.inl ⟨by kernel_rfl, ?_⟩) (by assumption) ?_
      rotate_left
      · ((intro w hSw; go_simp) <;> with_reducible rfl)
      try simp only [Act.put, List.setIfInBounds_toArray, List.set_cons_zero, List.set_cons_succ]
      refine Rk.takeP (i := 8) (v := ?_) rfl (by kernel_rfl) (by kernel_rfl) (by kernel_rfl) (by kernel_rfl) (fun _ _ _ h => h) (Or.inl ⟨by kernel_rfl, ?_⟩) (by assumption) ?_
      rotate_left
      · ((intro w hSw; go_simp) <;> with_reducible rfl)
      try simp only [Act.put, List.setIfInBounds_toArray, List.set_cons_zero, List.set_cons_succ]
      refine Rk.tail [10, 11] [_, _] (by kernel_rfl) (by kernel_rfl) rfl (by decide) ?_
      obtain ⟨t0, t1, t2, t3, t4, q0, q1, d0, e0, KG⟩ := hHeld
      have n0 : u1.heap.size ≠ w.heap.size + 1 := by omega
      have n9 : u1.heap.size ≠ w6.heap.size := by omega
      have n8 : u1.heap.size ≠ w.heap.size + 1 + 1 := by omega
      have lw : w.heap.size ≤ u1.heap.size := by omega
      have lm : u1.heap.size < u2.heap.size := World.block_lt_of_cell? _ _ m0
      have lq9 : w.heap.size + 1 < u2.heap.size := World.block_lt_of_cell? _ _ q0
      have ld9 : w6.heap.size < u2.heap.size := World.block_lt_of_cell? _ _ d0
      go_wp2_with fail
      have KS : Below w.heap.size w ((u2.setCell ⟨u1.heap.size, 0, none⟩ (.int .i64 n1)).setCell ⟨u1.heap.size, 1, none⟩ (.int .i64 d1)) := Below.setCell (Below.setCell KG (by dsimp only; omega) _) (by dsimp only; omega) _
      refine (EX.out _).mono ?_
      rintro e wE ⟨rfl, hbE⟩
      go_wp2
      go_ret
      exact ⟨rfl, KS.trans (hbE.mono KS.size)⟩
  · rw [if_pos (by kernel_rfl)]
    go_simp
    have hNew := HS.out _ _ hHeld ((Below.refl _ _).alloc (Nat.le_refl _) (Obj.cells #[Value.int .i64 0, Value.int .i64 0] 25))
    refine hK.out _ _ hNew (fun _ => ?_)
    replace hHeld := hNew
    clear hNew
    clear hK KK
    refine Rk.one (i := 4) (by kernel_rfl) rfl (fun KK hK => ?_)
    rw [if_pos (by kernel_rfl)]
    go_simp
    (refine (F4.out _ (LAh.out.below (by exact hHeld.2.2.2.2.2.2.2.2.2))).mono ?_; rintro e u1 ⟨rfl, hb⟩)
    have hNew := HS.out _ _ hHeld hb
    have hs_u1 : zw7.heap.size ≤ u1.heap.size := by have hzz := hb.size; (try simp at hzz); omega
    have m0 : u1.cell? ⟨zw7.heap.size, 0, none⟩ = some (.int .i64 0) := Rg.keep hb (by simp) (by go_cell)
    have fm0 : u1.frozen? ⟨zw7.heap.size, 0, none⟩ = false := Rg.keepF hb (by simp) (by show (zw7.drew.alloc (Obj.cells #[Value.int .i64 0, Value.int .i64 0] 25)).frozen? ⟨zw7.drew.heap.size, 0, none⟩ = false; simp only [frozen?_alloc_cells]; exact Rg.notFrozen (Nat.le_refl _))
    have m1 : u1.cell? ⟨zw7.heap.size, 1, none⟩ = some (.int .i64 0) := Rg.keep hb (by simp) (by go_cell)
    have fm1 : u1.frozen? ⟨zw7.heap.size, 1, none⟩ = false := Rg.keepF hb (by simp) (by show (zw7.drew.alloc (Obj.cells #[Value.int .i64 0, Value.int .i64 0] 25)).frozen? ⟨zw7.drew.heap.size, 1, none⟩ = false; simp only [frozen?_alloc_cells]; exact Rg.notFrozen (Nat.le_refl _))
    first | (refine hK.out _ _ (fun _ => hNew) (fun _ => ?_)) | (refine hK.out _ _ hNew (fun _ => ?_)) | (go_wp2_with fail; refine hK.out _ _ hNew (fun _ => ?_))
    replace hHeld := hNew
    clear hNew hb
    clear hK KK
    refine Rk.one (i := 5) (by kernel_rfl) rfl (fun KK hK => ?_)
    rw [if_pos (by kernel_rfl)]
    go_simp
    (refine (P4.out _ (LAh.out.below (by exact hHeld.2.2.2.2.2.2.2.2.2))).mono ?_; rintro e u2 ⟨rfl, hb⟩)
    have hNew := HS.out _ _ hHeld hb
    have hs_u2 : zw7.heap.size ≤ u2.heap.size := by have hzz := hb.size; (try simp at hzz); omega
    have lm : zw7.heap.size < u1.heap.size := World.block_lt_of_cell? _ _ m0
    have fm0 := Rg.keepF hb lm fm0
    have fm1 := Rg.keepF hb lm fm1
    have m0 := Rg.keep hb lm m0
    have m1 := Rg.keep hb lm m1
    clear lm
    first | (refine hK.out _ _ (fun _ => hNew) (fun _ => ?_)) | (refine hK.out _ _ hNew (fun _ => ?_)) | (go_wp2_with fail; refine hK.out _ _ hNew (fun _ => ?_))
    replace hHeld := hNew
    clear hNew hb
    clear hK KK
    refine Rk.takeP (i := 6) (v := ?_) rfl (by kernel_rfl) (by kernel_rfl) (by kernel_rfl) (by kernel_rfl) (fun _ _ _ h => h) (Or.inl ⟨by kernel_rfl, ?_⟩) (by assumption) ?_
    rotate_left
    · ((intro w hSw; go_simp) <;> with_reducible rfl)
    try simp only [Act.put, List.setIfInBounds_toArray, List.set_cons_zero, List.set_cons_succ]
    refine Rk.takeP (i := 7) (v := ?_) rfl (by kernel_rfl) (by kernel_rfl) (by kernel_rfl) (by kernel_rfl) (fun _ _ _ h => h) (Or.inl ⟨by kernel_rfl, ?_⟩) (by assumption) ?_
    rotate_left
    · ((intro w hSw; go_simp) <;> with_reducible rfl)
    try simp only [Act.put, List.setIfInBounds_toArray, List.set_cons_zero, List.set_cons_succ]
    refine Rk.takeP (i := 8) (v := ?_) rfl (by kernel_rfl) (by kernel_rfl) (by kernel_rfl) (by kernel_rfl) (fun _ _ _ h => h) (Or.inl ⟨by kernel_rfl, ?_⟩) (by assumption) ?_
    rotate_left
    · ((intro w hSw; go_simp) <;> with_reducible rfl)
    try simp only [Act.put, List.setIfInBounds_toArray, List.set_cons_zero, List.set_cons_succ]
    refine Rk.tail [10, 11] [_, _] (by kernel_rfl) (by kernel_rfl) rfl (by decide) ?_
    obtain ⟨t0, t1, t2, t3, t4, q0, q1, d0, e0, KG⟩ := hHeld
    have n0 : zw7.heap.size ≠ w.heap.size + 1 := by omega
    have n9 : zw7.heap.size ≠ w6.heap.size := by omega
    have n8 : zw7.heap.size ≠ w.heap.size + 1 + 1 := by omega
    have lw : w.heap.size ≤ zw7.heap.size := by omega
    have lm : zw7.heap.size < u2.heap.size := World.block_lt_of_cell? _ _ m0
    have lq9 : w.heap.size + 1 < u2.heap.size := World.block_lt_of_cell? _ _ q0
    have ld9 : w6.heap.size < u2.heap.size := World.block_lt_of_cell? _ _ d0
    go_wp2_with fail
    have KS : Below w.heap.size w ((u2.setCell ⟨zw7.heap.size, 0, none⟩ (.int .i64 n1)).setCell ⟨zw7.heap.size, 1, none⟩ (.int .i64 d1)) := Below.setCell (Below.setCell KG (by dsimp only; omega) _) (by dsimp only; omega) _
    refine (EX.out _).mono ?_
    rintro e wE ⟨rfl, hbE⟩
    go_wp2
    go_ret
    exact ⟨rfl, KS.trans (hbE.mono KS.size)⟩

set_option maxRecDepth 100000 in
set_option maxHeartbeats 16000000 in
theorem rv_fttf (op K B F R O K' B' F' R' O' n1 d1 n2 d2 x y z x2 y2 z2 x3 y3 z3 : Int) (s F0s : ByteArray) (w : World) (g1 : decide ((100 : Int) < s.size) = false) (LAh : Hid (Tx.LA w)) (EX : Hid (∀ w, Calls Tryz.prog 11 #[] w (Ret (.bool true) w)))
    (C1 : Hid (∀ w, Calls Tryz.prog 7 #[.int .i64 op, T5 K B F R O, V2 n1 d1, V2 n2 d2] w (Ret (Frac3 x y z) w))) (C2 : Hid (∀ w, Calls Tryz.prog 22 #[T5 K B F R O, T5 K' B' F' R' O', V2 n1 d1] w (Ret (Frac3 x2 y2 z2) w)))
    (C3 : Hid (∀ w, Tx.LA w → Calls Tryz.prog 18 #[T5 K B F R O, .string s] w (Ret (Frac3 x3 y3 z3) w))) (ge : (z == 0) = false) (gf : (z2 == 0) = true) (gg : (z3 == 0) = true) (VB : Hid (∀ w, Calls Tryz.prog 23 #[T5 K' B' F' R' O', V2 x2 y2] w (Ret (.bool true) w)))(VC : Hid (∀ w, Calls Tryz.prog 23 #[T5 K B F R O, V2 x3 y3] w (Ret (.bool true) w))) (FC : Hid (∀ w, Tx.LA w → Calls Tryz.prog 20 #[T5 K B F R O, V2 x3 y3] w (Ret (.string s) w)))(V0 : Hid (∀ w, Calls Tryz.prog 23 #[T5 K B F R O, V2 n1 d1] w (Ret (.bool false) w))) : Calls Tryz.prog 6 #[.int .i64 op, .agg #[.int .i64 K, .int .i64 B, .int .i64 F, .int .i64 R, .int .i64 O, .int .i64 K', .int .i64 B', .int .i64 F', .int .i64 R', .int .i64 O'], .agg #[.int .i64 n1, .int .i64 d1, .int .i64 n2, .int .i64 d2], .string s] w (Ret (.bool true) w) := by
  go_enter Tryz.func6, Tryz.ntmps6
  go_wp2_with fail
  refine (C1.out _).mono ?_
  rintro e w1 ⟨rfl, hb⟩
  have L : Below w.heap.size w w1 := ((((Below.refl _ _).alloc (by simp <;> omega) _).alloc (by simp <;> omega) _).alloc (by simp <;> omega) _).trans (hb.mono (by simp <;> omega))
  have K1 : Below w.heap.size w w1 := L
  have lp : w.heap.size < w1.heap.size := Nat.lt_of_lt_of_le (by simp <;> omega) hb.size
  have p0 : w1.cell? ⟨w.heap.size, 0, none⟩ = some (.int .i64 K) := Rg.keep hb (by simp <;> omega) (by go_cell)
  have p1 : w1.cell? ⟨w.heap.size, 1, none⟩ = some (.int .i64 B) := Rg.keep hb (by simp <;> omega) (by go_cell)
  have p2 : w1.cell? ⟨w.heap.size, 2, none⟩ = some (.int .i64 F) := Rg.keep hb (by simp <;> omega) (by go_cell)
  have p3 : w1.cell? ⟨w.heap.size, 3, none⟩ = some (.int .i64 R) := Rg.keep hb (by simp <;> omega) (by go_cell)
  have p4 : w1.cell? ⟨w.heap.size, 4, none⟩ = some (.int .i64 O) := Rg.keep hb (by simp <;> omega) (by go_cell)
  have p5 : w1.cell? ⟨w.heap.size, 5, none⟩ = some (.int .i64 K') := Rg.keep hb (by simp <;> omega) (by go_cell)
  have p6 : w1.cell? ⟨w.heap.size, 6, none⟩ = some (.int .i64 B') := Rg.keep hb (by simp <;> omega) (by go_cell)
  have p7 : w1.cell? ⟨w.heap.size, 7, none⟩ = some (.int .i64 F') := Rg.keep hb (by simp <;> omega) (by go_cell)
  have p8 : w1.cell? ⟨w.heap.size, 8, none⟩ = some (.int .i64 R') := Rg.keep hb (by simp <;> omega) (by go_cell)
  have p9 : w1.cell? ⟨w.heap.size, 9, none⟩ = some (.int .i64 O') := Rg.keep hb (by simp <;> omega) (by go_cell)
  have lq : w.heap.size + 1 < w1.heap.size := Nat.lt_of_lt_of_le (by simp <;> omega) hb.size
  have q0 : w1.cell? ⟨w.heap.size + 1, 0, none⟩ = some (.int .i64 n1) := Rg.keep hb (by simp <;> omega) (by go_cell)
  have q1 : w1.cell? ⟨w.heap.size + 1, 1, none⟩ = some (.int .i64 d1) := Rg.keep hb (by simp <;> omega) (by go_cell)
  have q2 : w1.cell? ⟨w.heap.size + 1, 2, none⟩ = some (.int .i64 n2) := Rg.keep hb (by simp <;> omega) (by go_cell)
  have q3 : w1.cell? ⟨w.heap.size + 1, 3, none⟩ = some (.int .i64 d2) := Rg.keep hb (by simp <;> omega) (by go_cell)
  have lt : w.heap.size + 1 + 1 < w1.heap.size := Nat.lt_of_lt_of_le (by simp <;> omega) hb.size
  have t0 : w1.cell? ⟨w.heap.size + 1 + 1, 0, none⟩ = some (.int .i64 K) := Rg.keep hb (by simp <;> omega) (by go_cell)
  have t1 : w1.cell? ⟨w.heap.size + 1 + 1, 1, none⟩ = some (.int .i64 B) := Rg.keep hb (by simp <;> omega) (by go_cell)
  have t2 : w1.cell? ⟨w.heap.size + 1 + 1, 2, none⟩ = some (.int .i64 F) := Rg.keep hb (by simp <;> omega) (by go_cell)
  have t3 : w1.cell? ⟨w.heap.size + 1 + 1, 3, none⟩ = some (.int .i64 R) := Rg.keep hb (by simp <;> omega) (by go_cell)
  have t4 : w1.cell? ⟨w.heap.size + 1 + 1, 4, none⟩ = some (.int .i64 O) := Rg.keep hb (by simp <;> omega) (by go_cell)
  clear hb L
  go_wp2_with fail
  refine (C2.out _).mono ?_
  rintro e w2 ⟨rfl, hb⟩
  have L : Below w1.heap.size w1 w2 := ((Below.refl _ _).alloc (by simp <;> omega) _).trans (hb.mono (by simp <;> omega))
  have K2 : Below w.heap.size w w2 := K1.trans (L.mono K1.size)
  have la : w1.heap.size < w2.heap.size := Nat.lt_of_lt_of_le (by simp <;> omega) hb.size
  have a0 : w2.cell? ⟨w1.heap.size, 0, none⟩ = some (.int .i64 x) := Rg.keep hb (by simp <;> omega) (by go_cell)
  have a1 : w2.cell? ⟨w1.heap.size, 1, none⟩ = some (.int .i64 y) := Rg.keep hb (by simp <;> omega) (by go_cell)
  have p0 := Rg.keep L lp p0
  have p1 := Rg.keep L lp p1
  have p2 := Rg.keep L lp p2
  have p3 := Rg.keep L lp p3
  have p4 := Rg.keep L lp p4
  have p5 := Rg.keep L lp p5
  have p6 := Rg.keep L lp p6
  have p7 := Rg.keep L lp p7
  have p8 := Rg.keep L lp p8
  have p9 := Rg.keep L lp p9
  have q0 := Rg.keep L lq q0
  have q1 := Rg.keep L lq q1
  have q2 := Rg.keep L lq q2
  have q3 := Rg.keep L lq q3
  have t0 := Rg.keep L lt t0
  have t1 := Rg.keep L lt t1
  have t2 := Rg.keep L lt t2
  have t3 := Rg.keep L lt t3
  have t4 := Rg.keep L lt t4
  have lp := Nat.lt_of_lt_of_le lp L.size
  have lq := Nat.lt_of_lt_of_le lq L.size
  have lt := Nat.lt_of_lt_of_le lt L.size
  clear hb L
  go_wp2_with fail
  refine (C3.out _ (LAh.out.below (by (repeat' (first | (with_reducible exact Below.refl _ _) | (with_reducible exact K2) | (with_reducible exact K2.size) | (with_reducible refine Below.alloc ?_ ?_ _) | (with_reducible refine Below.setCell ?_ ?_ _) | (with_reducible refine below_drewN ?_ _) | (simp; done) | omega | (simp; omega)))))).mono ?_
  rintro e w3 ⟨rfl, hb⟩
  have L : Below w2.heap.size w2 w3 := ((Below.refl _ _).alloc (by simp <;> omega) _).trans (hb.mono (by simp <;> omega))
  have K3 : Below w.heap.size w w3 := K2.trans (L.mono K2.size)
  have lb : w2.heap.size < w3.heap.size := Nat.lt_of_lt_of_le (by simp <;> omega) hb.size
  have b0 : w3.cell? ⟨w2.heap.size, 0, none⟩ = some (.int .i64 x2) := Rg.keep hb (by simp <;> omega) (by go_cell)
  have b1 : w3.cell? ⟨w2.heap.size, 1, none⟩ = some (.int .i64 y2) := Rg.keep hb (by simp <;> omega) (by go_cell)
  have p0 := Rg.keep L lp p0
  have p1 := Rg.keep L lp p1
  have p2 := Rg.keep L lp p2
  have p3 := Rg.keep L lp p3
  have p4 := Rg.keep L lp p4
  have p5 := Rg.keep L lp p5
  have p6 := Rg.keep L lp p6
  have p7 := Rg.keep L lp p7
  have p8 := Rg.keep L lp p8
  have p9 := Rg.keep L lp p9
  have q0 := Rg.keep L lq q0
  have q1 := Rg.keep L lq q1
  have q2 := Rg.keep L lq q2
  have q3 := Rg.keep L lq q3
  have t0 := Rg.keep L lt t0
  have t1 := Rg.keep L lt t1
  have t2 := Rg.keep L lt t2
  have t3 := Rg.keep L lt t3
  have t4 := Rg.keep L lt t4
  have a0 := Rg.keep L la a0
  have a1 := Rg.keep L la a1
  have lp := Nat.lt_of_lt_of_le lp L.size
  have lq := Nat.lt_of_lt_of_le lq L.size
  have lt := Nat.lt_of_lt_of_le lt L.size
  have la := Nat.lt_of_lt_of_le la L.size
  clear hb L
  go_wp2_with fail
  refine (VB.out _).mono ?_
  rintro e w4 ⟨rfl, hb⟩
  have L : Below w3.heap.size w3 w4 := ((Below.refl _ _).alloc (by simp <;> omega) _).trans (hb.mono (by simp <;> omega))
  have K4 : Below w.heap.size w w4 := K3.trans (L.mono K3.size)
  have lc : w3.heap.size < w4.heap.size := Nat.lt_of_lt_of_le (by simp <;> omega) hb.size
  have c0 : w4.cell? ⟨w3.heap.size, 0, none⟩ = some (.int .i64 x3) := Rg.keep hb (by simp <;> omega) (by go_cell)
  have c1 : w4.cell? ⟨w3.heap.size, 1, none⟩ = some (.int .i64 y3) := Rg.keep hb (by simp <;> omega) (by go_cell)
  have p0 := Rg.keep L lp p0
  have p1 := Rg.keep L lp p1
  have p2 := Rg.keep L lp p2
  have p3 := Rg.keep L lp p3
  have p4 := Rg.keep L lp p4
  have p5 := Rg.keep L lp p5
  have p6 := Rg.keep L lp p6
  have p7 := Rg.keep L lp p7
  have p8 := Rg.keep L lp p8
  have p9 := Rg.keep L lp p9
  have q0 := Rg.keep L lq q0
  have q1 := Rg.keep L lq q1
  have q2 := Rg.keep L lq q2
  have q3 := Rg.keep L lq q3
  have t0 := Rg.keep L lt t0
  have t1 := Rg.keep L lt t1
  have t2 := Rg.keep L lt t2
  have t3 := Rg.keep L lt t3
  have t4 := Rg.keep L lt t4
  have a0 := Rg.keep L la a0
  have a1 := Rg.keep L la a1
  have b0 := Rg.keep L lb b0
  have b1 := Rg.keep L lb b1
  have lp := Nat.lt_of_lt_of_le lp L.size
  have lq := Nat.lt_of_lt_of_le lq L.size
  have lt := Nat.lt_of_lt_of_le lt L.size
  have la := Nat.lt_of_lt_of_le la L.size
  have lb := Nat.lt_of_lt_of_le lb L.size
  clear hb L
  go_wp2_with fail
  refine (VC.out _).mono ?_
  rintro e w5 ⟨rfl, hb⟩
  have L : Below w4.heap.size w4 w5 := (Below.refl _ _).trans (hb.mono (by simp <;> omega))
  have K5 : Below w.heap.size w w5 := K4.trans (L.mono K4.size)
  have p0 := Rg.keep L lp p0
  have p1 := Rg.keep L lp p1
  have p2 := Rg.keep L lp p2
  have p3 := Rg.keep L lp p3
  have p4 := Rg.keep L lp p4
  have p5 := Rg.keep L lp p5
  have p6 := Rg.keep L lp p6
  have p7 := Rg.keep L lp p7
  have p8 := Rg.keep L lp p8
  have p9 := Rg.keep L lp p9
  have q0 := Rg.keep L lq q0
  have q1 := Rg.keep L lq q1
  have q2 := Rg.keep L lq q2
  have q3 := Rg.keep L lq q3
  have t0 := Rg.keep L lt t0
  have t1 := Rg.keep L lt t1
  have t2 := Rg.keep L lt t2
  have t3 := Rg.keep L lt t3
  have t4 := Rg.keep L lt t4
  have a0 := Rg.keep L la a0
  have a1 := Rg.keep L la a1
  have b0 := Rg.keep L lb b0
  have b1 := Rg.keep L lb b1
  have c0 := Rg.keep L lc c0
  have c1 := Rg.keep L lc c1
  have lp := Nat.lt_of_lt_of_le lp L.size
  have lq := Nat.lt_of_lt_of_le lq L.size
  have lt := Nat.lt_of_lt_of_le lt L.size
  have la := Nat.lt_of_lt_of_le la L.size
  have lb := Nat.lt_of_lt_of_le lb L.size
  have lc := Nat.lt_of_lt_of_le lc L.size
  clear hb L
  go_wp2_with fail
  refine (FC.out _ (LAh.out.below (by (repeat' (first | (with_reducible exact Below.refl _ _) | (with_reducible exact K5) | (with_reducible exact K5.size) | (with_reducible refine Below.alloc ?_ ?_ _) | (with_reducible refine Below.setCell ?_ ?_ _) | (with_reducible refine below_drewN ?_ _) | (simp; done) | omega | (simp; omega)))))).mono ?_
  rintro e w6 ⟨rfl, hb⟩
  have L : Below w5.heap.size w5 w6 := (Below.refl _ _).trans (hb.mono (by simp <;> omega))
  have K6 : Below w.heap.size w w6 := K5.trans (L.mono K5.size)
  have p0 := Rg.keep L lp p0
  have p1 := Rg.keep L lp p1
  have p2 := Rg.keep L lp p2
  have p3 := Rg.keep L lp p3
  have p4 := Rg.keep L lp p4
  have p5 := Rg.keep L lp p5
  have p6 := Rg.keep L lp p6
  have p7 := Rg.keep L lp p7
  have p8 := Rg.keep L lp p8
  have p9 := Rg.keep L lp p9
  have q0 := Rg.keep L lq q0
  have q1 := Rg.keep L lq q1
  have q2 := Rg.keep L lq q2
  have q3 := Rg.keep L lq q3
  have t0 := Rg.keep L lt t0
  have t1 := Rg.keep L lt t1
  have t2 := Rg.keep L lt t2
  have t3 := Rg.keep L lt t3
  have t4 := Rg.keep L lt t4
  have a0 := Rg.keep L la a0
  have a1 := Rg.keep L la a1
  have b0 := Rg.keep L lb b0
  have b1 := Rg.keep L lb b1
  have c0 := Rg.keep L lc c0
  have c1 := Rg.keep L lc c1
  have lp := Nat.lt_of_lt_of_le lp L.size
  have lq := Nat.lt_of_lt_of_le lq L.size
  have lt := Nat.lt_of_lt_of_le lt L.size
  have la := Nat.lt_of_lt_of_le la L.size
  have lb := Nat.lt_of_lt_of_le lb L.size
  have lc := Nat.lt_of_lt_of_le lc L.size
  clear hb L
  go_wp2_with fail
  refine (V0.out _).mono ?_
  rintro e w7 ⟨rfl, hb⟩
  have L : Below w6.heap.size w6 w7 := (Below.refl _ _).trans (hb.mono (by simp <;> omega))
  have K7 : Below w.heap.size w w7 := K6.trans (L.mono K6.size)
  have p0 := Rg.keep L lp p0
  have p1 := Rg.keep L lp p1
  have p2 := Rg.keep L lp p2
  have p3 := Rg.keep L lp p3
  have p4 := Rg.keep L lp p4
  have p5 := Rg.keep L lp p5
  have p6 := Rg.keep L lp p6
  have p7 := Rg.keep L lp p7
  have p8 := Rg.keep L lp p8
  have p9 := Rg.keep L lp p9
  have q0 := Rg.keep L lq q0
  have q1 := Rg.keep L lq q1
  have q2 := Rg.keep L lq q2
  have q3 := Rg.keep L lq q3
  have t0 := Rg.keep L lt t0
  have t1 := Rg.keep L lt t1
  have t2 := Rg.keep L lt t2
  have t3 := Rg.keep L lt t3
  have t4 := Rg.keep L lt t4
  have a0 := Rg.keep L la a0
  have a1 := Rg.keep L la a1
  have b0 := Rg.keep L lb b0
  have b1 := Rg.keep L lb b1
  have c0 := Rg.keep L lc c0
  have c1 := Rg.keep L lc c1
  have lp := Nat.lt_of_lt_of_le lp L.size
  have lq := Nat.lt_of_lt_of_le lq L.size
  have lt := Nat.lt_of_lt_of_le lt L.size
  have la := Nat.lt_of_lt_of_le la L.size
  have lb := Nat.lt_of_lt_of_le lb L.size
  have lc := Nat.lt_of_lt_of_le lc L.size
  clear hb L
  go_wp2_with fail
  refine (EX.out _).mono ?_
  rintro e w8 ⟨rfl, hb⟩
  have L : Below w7.heap.size w7 w8 := (Below.refl _ _).trans (hb.mono (by simp <;> omega))
  have K8 : Below w.heap.size w w8 := K7.trans (L.mono K7.size)
  have p0 := Rg.keep L lp p0
  have p1 := Rg.keep L lp p1
  have p2 := Rg.keep L lp p2
  have p3 := Rg.keep L lp p3
  have p4 := Rg.keep L lp p4
  have p5 := Rg.keep L lp p5
  have p6 := Rg.keep L lp p6
  have p7 := Rg.keep L lp p7
  have p8 := Rg.keep L lp p8
  have p9 := Rg.keep L lp p9
  have q0 := Rg.keep L lq q0
  have q1 := Rg.keep L lq q1
  have q2 := Rg.keep L lq q2
  have q3 := Rg.keep L lq q3
  have t0 := Rg.keep L lt t0
  have t1 := Rg.keep L lt t1
  have t2 := Rg.keep L lt t2
  have t3 := Rg.keep L lt t3
  have t4 := Rg.keep L lt t4
  have a0 := Rg.keep L la a0
  have a1 := Rg.keep L la a1
  have b0 := Rg.keep L lb b0
  have b1 := Rg.keep L lb b1
  have c0 := Rg.keep L lc c0
  have c1 := Rg.keep L lc c1
  have lp := Nat.lt_of_lt_of_le lp L.size
  have lq := Nat.lt_of_lt_of_le lq L.size
  have lt := Nat.lt_of_lt_of_le lt L.size
  have la := Nat.lt_of_lt_of_le la L.size
  have lb := Nat.lt_of_lt_of_le lb L.size
  have lc := Nat.lt_of_lt_of_le lc L.size
  clear hb L
  go_wp2
  go_ret
  exact ⟨rfl, K8⟩

set_option maxRecDepth 100000 in
set_option maxHeartbeats 16000000 in
theorem rv_fttt (op K B F R O K' B' F' R' O' n1 d1 n2 d2 x y z x2 y2 z2 x3 y3 z3 : Int) (s F0s : ByteArray) (w : World) (g1 : decide ((100 : Int) < s.size) = false) (LAh : Hid (Tx.LA w)) (EX : Hid (∀ w, Calls Tryz.prog 11 #[] w (Ret (.bool true) w)))
    (C1 : Hid (∀ w, Calls Tryz.prog 7 #[.int .i64 op, T5 K B F R O, V2 n1 d1, V2 n2 d2] w (Ret (Frac3 x y z) w))) (C2 : Hid (∀ w, Calls Tryz.prog 22 #[T5 K B F R O, T5 K' B' F' R' O', V2 n1 d1] w (Ret (Frac3 x2 y2 z2) w)))
    (C3 : Hid (∀ w, Tx.LA w → Calls Tryz.prog 18 #[T5 K B F R O, .string s] w (Ret (Frac3 x3 y3 z3) w))) (ge : (z == 0) = false) (gf : (z2 == 0) = true) (gg : (z3 == 0) = true) (VB : Hid (∀ w, Calls Tryz.prog 23 #[T5 K' B' F' R' O', V2 x2 y2] w (Ret (.bool true) w)))(VC : Hid (∀ w, Calls Tryz.prog 23 #[T5 K B F R O, V2 x3 y3] w (Ret (.bool true) w))) (FC : Hid (∀ w, Tx.LA w → Calls Tryz.prog 20 #[T5 K B F R O, V2 x3 y3] w (Ret (.string s) w)))(V0 : Hid (∀ w, Calls Tryz.prog 23 #[T5 K B F R O, V2 n1 d1] w (Ret (.bool true) w)))(C4 : Hid (∀ w, Calls Tryz.prog 22 #[T5 K B F R O, T5 K B F R O, V2 n1 d1] w (Ret (Frac3 n1 d1 0) w))) (F4 : Hid (∀ w, Tx.LA w → Calls Tryz.prog 20 #[T5 K B F R O, V2 n1 d1] w (Ret (.string F0s) w))) (P4 : Hid (∀ w, Tx.LA w → Calls Tryz.prog 18 #[T5 K B F R O, .string F0s] w (Ret (Frac3 n1 d1 0) w))) : Calls Tryz.prog 6 #[.int .i64 op, .agg #[.int .i64 K, .int .i64 B, .int .i64 F, .int .i64 R, .int .i64 O, .int .i64 K', .int .i64 B', .int .i64 F', .int .i64 R', .int .i64 O'], .agg #[.int .i64 n1, .int .i64 d1, .int .i64 n2, .int .i64 d2], .string s] w (Ret (.bool true) w) := by
  go_enter Tryz.func6, Tryz.ntmps6
  go_wp2_with fail
  refine (C1.out _).mono ?_
  rintro e w1 ⟨rfl, hb⟩
  have L : Below w.heap.size w w1 := ((((Below.refl _ _).alloc (by simp <;> omega) _).alloc (by simp <;> omega) _).alloc (by simp <;> omega) _).trans (hb.mono (by simp <;> omega))
  have K1 : Below w.heap.size w w1 := L
  have lp : w.heap.size < w1.heap.size := Nat.lt_of_lt_of_le (by simp <;> omega) hb.size
  have p0 : w1.cell? ⟨w.heap.size, 0, none⟩ = some (.int .i64 K) := Rg.keep hb (by simp <;> omega) (by go_cell)
  have p1 : w1.cell? ⟨w.heap.size, 1, none⟩ = some (.int .i64 B) := Rg.keep hb (by simp <;> omega) (by go_cell)
  have p2 : w1.cell? ⟨w.heap.size, 2, none⟩ = some (.int .i64 F) := Rg.keep hb (by simp <;> omega) (by go_cell)
  have p3 : w1.cell? ⟨w.heap.size, 3, none⟩ = some (.int .i64 R) := Rg.keep hb (by simp <;> omega) (by go_cell)
  have p4 : w1.cell? ⟨w.heap.size, 4, none⟩ = some (.int .i64 O) := Rg.keep hb (by simp <;> omega) (by go_cell)
  have p5 : w1.cell? ⟨w.heap.size, 5, none⟩ = some (.int .i64 K') := Rg.keep hb (by simp <;> omega) (by go_cell)
  have p6 : w1.cell? ⟨w.heap.size, 6, none⟩ = some (.int .i64 B') := Rg.keep hb (by simp <;> omega) (by go_cell)
  have p7 : w1.cell? ⟨w.heap.size, 7, none⟩ = some (.int .i64 F') := Rg.keep hb (by simp <;> omega) (by go_cell)
  have p8 : w1.cell? ⟨w.heap.size, 8, none⟩ = some (.int .i64 R') := Rg.keep hb (by simp <;> omega) (by go_cell)
  have p9 : w1.cell? ⟨w.heap.size, 9, none⟩ = some (.int .i64 O') := Rg.keep hb (by simp <;> omega) (by go_cell)
  have lq : w.heap.size + 1 < w1.heap.size := Nat.lt_of_lt_of_le (by simp <;> omega) hb.size
  have q0 : w1.cell? ⟨w.heap.size + 1, 0, none⟩ = some (.int .i64 n1) := Rg.keep hb (by simp <;> omega) (by go_cell)
  have q1 : w1.cell? ⟨w.heap.size + 1, 1, none⟩ = some (.int .i64 d1) := Rg.keep hb (by simp <;> omega) (by go_cell)
  have q2 : w1.cell? ⟨w.heap.size + 1, 2, none⟩ = some (.int .i64 n2) := Rg.keep hb (by simp <;> omega) (by go_cell)
  have q3 : w1.cell? ⟨w.heap.size + 1, 3, none⟩ = some (.int .i64 d2) := Rg.keep hb (by simp <;> omega) (by go_cell)
  have lt : w.heap.size + 1 + 1 < w1.heap.size := Nat.lt_of_lt_of_le (by simp <;> omega) hb.size
  have t0 : w1.cell? ⟨w.heap.size + 1 + 1, 0, none⟩ = some (.int .i64 K) := Rg.keep hb (by simp <;> omega) (by go_cell)
  have t1 : w1.cell? ⟨w.heap.size + 1 + 1, 1, none⟩ = some (.int .i64 B) := Rg.keep hb (by simp <;> omega) (by go_cell)
  have t2 : w1.cell? ⟨w.heap.size + 1 + 1, 2, none⟩ = some (.int .i64 F) := Rg.keep hb (by simp <;> omega) (by go_cell)
  have t3 : w1.cell? ⟨w.heap.size + 1 + 1, 3, none⟩ = some (.int .i64 R) := Rg.keep hb (by simp <;> omega) (by go_cell)
  have t4 : w1.cell? ⟨w.heap.size + 1 + 1, 4, none⟩ = some (.int .i64 O) := Rg.keep hb (by simp <;> omega) (by go_cell)
  clear hb L
  go_wp2_with fail
  refine (C2.out _).mono ?_
  rintro e w2 ⟨rfl, hb⟩
  have L : Below w1.heap.size w1 w2 := ((Below.refl _ _).alloc (by simp <;> omega) _).trans (hb.mono (by simp <;> omega))
  have K2 : Below w.heap.size w w2 := K1.trans (L.mono K1.size)
  have la : w1.heap.size < w2.heap.size := Nat.lt_of_lt_of_le (by simp <;> omega) hb.size
  have a0 : w2.cell? ⟨w1.heap.size, 0, none⟩ = some (.int .i64 x) := Rg.keep hb (by simp <;> omega) (by go_cell)
  have a1 : w2.cell? ⟨w1.heap.size, 1, none⟩ = some (.int .i64 y) := Rg.keep hb (by simp <;> omega) (by go_cell)
  have p0 := Rg.keep L lp p0
  have p1 := Rg.keep L lp p1
  have p2 := Rg.keep L lp p2
  have p3 := Rg.keep L lp p3
  have p4 := Rg.keep L lp p4
  have p5 := Rg.keep L lp p5
  have p6 := Rg.keep L lp p6
  have p7 := Rg.keep L lp p7
  have p8 := Rg.keep L lp p8
  have p9 := Rg.keep L lp p9
  have q0 := Rg.keep L lq q0
  have q1 := Rg.keep L lq q1
  have q2 := Rg.keep L lq q2
  have q3 := Rg.keep L lq q3
  have t0 := Rg.keep L lt t0
  have t1 := Rg.keep L lt t1
  have t2 := Rg.keep L lt t2
  have t3 := Rg.keep L lt t3
  have t4 := Rg.keep L lt t4
  have lp := Nat.lt_of_lt_of_le lp L.size
  have lq := Nat.lt_of_lt_of_le lq L.size
  have lt := Nat.lt_of_lt_of_le lt L.size
  clear hb L
  go_wp2_with fail
  refine (C3.out _ (LAh.out.below (by (repeat' (first | (with_reducible exact Below.refl _ _) | (with_reducible exact K2) | (with_reducible exact K2.size) | (with_reducible refine Below.alloc ?_ ?_ _) | (with_reducible refine Below.setCell ?_ ?_ _) | (with_reducible refine below_drewN ?_ _) | (simp; done) | omega | (simp; omega)))))).mono ?_
  rintro e w3 ⟨rfl, hb⟩
  have L : Below w2.heap.size w2 w3 := ((Below.refl _ _).alloc (by simp <;> omega) _).trans (hb.mono (by simp <;> omega))
  have K3 : Below w.heap.size w w3 := K2.trans (L.mono K2.size)
  have lb : w2.heap.size < w3.heap.size := Nat.lt_of_lt_of_le (by simp <;> omega) hb.size
  have b0 : w3.cell? ⟨w2.heap.size, 0, none⟩ = some (.int .i64 x2) := Rg.keep hb (by simp <;> omega) (by go_cell)
  have b1 : w3.cell? ⟨w2.heap.size, 1, none⟩ = some (.int .i64 y2) := Rg.keep hb (by simp <;> omega) (by go_cell)
  have p0 := Rg.keep L lp p0
  have p1 := Rg.keep L lp p1
  have p2 := Rg.keep L lp p2
  have p3 := Rg.keep L lp p3
  have p4 := Rg.keep L lp p4
  have p5 := Rg.keep L lp p5
  have p6 := Rg.keep L lp p6
  have p7 := Rg.keep L lp p7
  have p8 := Rg.keep L lp p8
  have p9 := Rg.keep L lp p9
  have q0 := Rg.keep L lq q0
  have q1 := Rg.keep L lq q1
  have q2 := Rg.keep L lq q2
  have q3 := Rg.keep L lq q3
  have t0 := Rg.keep L lt t0
  have t1 := Rg.keep L lt t1
  have t2 := Rg.keep L lt t2
  have t3 := Rg.keep L lt t3
  have t4 := Rg.keep L lt t4
  have a0 := Rg.keep L la a0
  have a1 := Rg.keep L la a1
  have lp := Nat.lt_of_lt_of_le lp L.size
  have lq := Nat.lt_of_lt_of_le lq L.size
  have lt := Nat.lt_of_lt_of_le lt L.size
  have la := Nat.lt_of_lt_of_le la L.size
  clear hb L
  go_wp2_with fail
  refine (VB.out _).mono ?_
  rintro e w4 ⟨rfl, hb⟩
  have L : Below w3.heap.size w3 w4 := ((Below.refl _ _).alloc (by simp <;> omega) _).trans (hb.mono (by simp <;> omega))
  have K4 : Below w.heap.size w w4 := K3.trans (L.mono K3.size)
  have lc : w3.heap.size < w4.heap.size := Nat.lt_of_lt_of_le (by simp <;> omega) hb.size
  have c0 : w4.cell? ⟨w3.heap.size, 0, none⟩ = some (.int .i64 x3) := Rg.keep hb (by simp <;> omega) (by go_cell)
  have c1 : w4.cell? ⟨w3.heap.size, 1, none⟩ = some (.int .i64 y3) := Rg.keep hb (by simp <;> omega) (by go_cell)
  have p0 := Rg.keep L lp p0
  have p1 := Rg.keep L lp p1
  have p2 := Rg.keep L lp p2
  have p3 := Rg.keep L lp p3
  have p4 := Rg.keep L lp p4
  have p5 := Rg.keep L lp p5
  have p6 := Rg.keep L lp p6
  have p7 := Rg.keep L lp p7
  have p8 := Rg.keep L lp p8
  have p9 := Rg.keep L lp p9
  have q0 := Rg.keep L lq q0
  have q1 := Rg.keep L lq q1
  have q2 := Rg.keep L lq q2
  have q3 := Rg.keep L lq q3
  have t0 := Rg.keep L lt t0
  have t1 := Rg.keep L lt t1
  have t2 := Rg.keep L lt t2
  have t3 := Rg.keep L lt t3
  have t4 := Rg.keep L lt t4
  have a0 := Rg.keep L la a0
  have a1 := Rg.keep L la a1
  have b0 := Rg.keep L lb b0
  have b1 := Rg.keep L lb b1
  have lp := Nat.lt_of_lt_of_le lp L.size
  have lq := Nat.lt_of_lt_of_le lq L.size
  have lt := Nat.lt_of_lt_of_le lt L.size
  have la := Nat.lt_of_lt_of_le la L.size
  have lb := Nat.lt_of_lt_of_le lb L.size
  clear hb L
  go_wp2_with fail
  refine (VC.out _).mono ?_
  rintro e w5 ⟨rfl, hb⟩
  have L : Below w4.heap.size w4 w5 := (Below.refl _ _).trans (hb.mono (by simp <;> omega))
  have K5 : Below w.heap.size w w5 := K4.trans (L.mono K4.size)
  have p0 := Rg.keep L lp p0
  have p1 := Rg.keep L lp p1
  have p2 := Rg.keep L lp p2
  have p3 := Rg.keep L lp p3
  have p4 := Rg.keep L lp p4
  have p5 := Rg.keep L lp p5
  have p6 := Rg.keep L lp p6
  have p7 := Rg.keep L lp p7
  have p8 := Rg.keep L lp p8
  have p9 := Rg.keep L lp p9
  have q0 := Rg.keep L lq q0
  have q1 := Rg.keep L lq q1
  have q2 := Rg.keep L lq q2
  have q3 := Rg.keep L lq q3
  have t0 := Rg.keep L lt t0
  have t1 := Rg.keep L lt t1
  have t2 := Rg.keep L lt t2
  have t3 := Rg.keep L lt t3
  have t4 := Rg.keep L lt t4
  have a0 := Rg.keep L la a0
  have a1 := Rg.keep L la a1
  have b0 := Rg.keep L lb b0
  have b1 := Rg.keep L lb b1
  have c0 := Rg.keep L lc c0
  have c1 := Rg.keep L lc c1
  have lp := Nat.lt_of_lt_of_le lp L.size
  have lq := Nat.lt_of_lt_of_le lq L.size
  have lt := Nat.lt_of_lt_of_le lt L.size
  have la := Nat.lt_of_lt_of_le la L.size
  have lb := Nat.lt_of_lt_of_le lb L.size
  have lc := Nat.lt_of_lt_of_le lc L.size
  clear hb L
  go_wp2_with fail
  refine (FC.out _ (LAh.out.below (by (repeat' (first | (with_reducible exact Below.refl _ _) | (with_reducible exact K5) | (with_reducible exact K5.size) | (with_reducible refine Below.alloc ?_ ?_ _) | (with_reducible refine Below.setCell ?_ ?_ _) | (with_reducible refine below_drewN ?_ _) | (simp; done) | omega | (simp; omega)))))).mono ?_
  rintro e w6 ⟨rfl, hb⟩
  have L : Below w5.heap.size w5 w6 := (Below.refl _ _).trans (hb.mono (by simp <;> omega))
  have K6 : Below w.heap.size w w6 := K5.trans (L.mono K5.size)
  have p0 := Rg.keep L lp p0
  have p1 := Rg.keep L lp p1
  have p2 := Rg.keep L lp p2
  have p3 := Rg.keep L lp p3
  have p4 := Rg.keep L lp p4
  have p5 := Rg.keep L lp p5
  have p6 := Rg.keep L lp p6
  have p7 := Rg.keep L lp p7
  have p8 := Rg.keep L lp p8
  have p9 := Rg.keep L lp p9
  have q0 := Rg.keep L lq q0
  have q1 := Rg.keep L lq q1
  have q2 := Rg.keep L lq q2
  have q3 := Rg.keep L lq q3
  have t0 := Rg.keep L lt t0
  have t1 := Rg.keep L lt t1
  have t2 := Rg.keep L lt t2
  have t3 := Rg.keep L lt t3
  have t4 := Rg.keep L lt t4
  have a0 := Rg.keep L la a0
  have a1 := Rg.keep L la a1
  have b0 := Rg.keep L lb b0
  have b1 := Rg.keep L lb b1
  have c0 := Rg.keep L lc c0
  have c1 := Rg.keep L lc c1
  have lp := Nat.lt_of_lt_of_le lp L.size
  have lq := Nat.lt_of_lt_of_le lq L.size
  have lt := Nat.lt_of_lt_of_le lt L.size
  have la := Nat.lt_of_lt_of_le la L.size
  have lb := Nat.lt_of_lt_of_le lb L.size
  have lc := Nat.lt_of_lt_of_le lc L.size
  clear hb L
  go_wp2_with fail
  refine (V0.out _).mono ?_
  rintro e w7 ⟨rfl, hb⟩
  have L : Below w6.heap.size w6 w7 := (Below.refl _ _).trans (hb.mono (by simp <;> omega))
  have K7 : Below w.heap.size w w7 := K6.trans (L.mono K6.size)
  have p0 := Rg.keep L lp p0
  have p1 := Rg.keep L lp p1
  have p2 := Rg.keep L lp p2
  have p3 := Rg.keep L lp p3
  have p4 := Rg.keep L lp p4
  have p5 := Rg.keep L lp p5
  have p6 := Rg.keep L lp p6
  have p7 := Rg.keep L lp p7
  have p8 := Rg.keep L lp p8
  have p9 := Rg.keep L lp p9
  have q0 := Rg.keep L lq q0
  have q1 := Rg.keep L lq q1
  have q2 := Rg.keep L lq q2
  have q3 := Rg.keep L lq q3
  have t0 := Rg.keep L lt t0
  have t1 := Rg.keep L lt t1
  have t2 := Rg.keep L lt t2
  have t3 := Rg.keep L lt t3
  have t4 := Rg.keep L lt t4
  have a0 := Rg.keep L la a0
  have a1 := Rg.keep L la a1
  have b0 := Rg.keep L lb b0
  have b1 := Rg.keep L lb b1
  have c0 := Rg.keep L lc c0
  have c1 := Rg.keep L lc c1
  have lp := Nat.lt_of_lt_of_le lp L.size
  have lq := Nat.lt_of_lt_of_le lq L.size
  have lt := Nat.lt_of_lt_of_le lt L.size
  have la := Nat.lt_of_lt_of_le la L.size
  have lb := Nat.lt_of_lt_of_le lb L.size
  have lc := Nat.lt_of_lt_of_le lc L.size
  clear hb L
  go_wp2_with fail
  refine (C4.out _).mono ?_
  rintro e w8 ⟨rfl, hb⟩
  have L : Below w7.heap.size w7 w8 := (Below.refl _ _).trans (hb.mono (by simp <;> omega))
  have K8 : Below w.heap.size w w8 := K7.trans (L.mono K7.size)
  have p0 := Rg.keep L lp p0
  have p1 := Rg.keep L lp p1
  have p2 := Rg.keep L lp p2
  have p3 := Rg.keep L lp p3
  have p4 := Rg.keep L lp p4
  have p5 := Rg.keep L lp p5
  have p6 := Rg.keep L lp p6
  have p7 := Rg.keep L lp p7
  have p8 := Rg.keep L lp p8
  have p9 := Rg.keep L lp p9
  have q0 := Rg.keep L lq q0
  have q1 := Rg.keep L lq q1
  have q2 := Rg.keep L lq q2
  have q3 := Rg.keep L lq q3
  have t0 := Rg.keep L lt t0
  have t1 := Rg.keep L lt t1
  have t2 := Rg.keep L lt t2
  have t3 := Rg.keep L lt t3
  have t4 := Rg.keep L lt t4
  have a0 := Rg.keep L la a0
  have a1 := Rg.keep L la a1
  have b0 := Rg.keep L lb b0
  have b1 := Rg.keep L lb b1
  have c0 := Rg.keep L lc c0
  have c1 := Rg.keep L lc c1
  have lp := Nat.lt_of_lt_of_le lp L.size
  have lq := Nat.lt_of_lt_of_le lq L.size
  have lt := Nat.lt_of_lt_of_le lt L.size
  have la := Nat.lt_of_lt_of_le la L.size
  have lb := Nat.lt_of_lt_of_le lb L.size
  have lc := Nat.lt_of_lt_of_le lc L.size
  clear hb L
  go_wp2_with fail
  obtain ⟨zw9, hzw⟩ : ∃ zw9, zw9 = (w8.alloc (.cells #[.int .i64 n1, .int .i64 d1] 25)) := ⟨_, rfl⟩
  have hb : Below (w8.alloc (.cells #[.int .i64 n1, .int .i64 d1] 25)).heap.size (w8.alloc (.cells #[.int .i64 n1, .int .i64 d1] 25)) zw9 := by rw [hzw]; exact Below.refl _ _
  rw [← hzw]
  clear hzw
  have L : Below w8.heap.size w8 zw9 := ((Below.refl _ _).alloc (by simp <;> omega) _).trans (hb.mono (by simp <;> omega))
  have K9 : Below w.heap.size w zw9 := K8.trans (L.mono K8.size)
  have ld : w8.heap.size < zw9.heap.size := Nat.lt_of_lt_of_le (by simp <;> omega) hb.size
  have d0 : zw9.cell? ⟨w8.heap.size, 0, none⟩ = some (.int .i64 n1) := Rg.keep hb (by simp <;> omega) (by go_cell)
  have e0 : zw9.cell? ⟨w8.heap.size, 1, none⟩ = some (.int .i64 d1) := Rg.keep hb (by simp <;> omega) (by go_cell)
  have p0 := Rg.keep L lp p0
  have p1 := Rg.keep L lp p1
  have p2 := Rg.keep L lp p2
  have p3 := Rg.keep L lp p3
  have p4 := Rg.keep L lp p4
  have p5 := Rg.keep L lp p5
  have p6 := Rg.keep L lp p6
  have p7 := Rg.keep L lp p7
  have p8 := Rg.keep L lp p8
  have p9 := Rg.keep L lp p9
  have q0 := Rg.keep L lq q0
  have q1 := Rg.keep L lq q1
  have q2 := Rg.keep L lq q2
  have q3 := Rg.keep L lq q3
  have t0 := Rg.keep L lt t0
  have t1 := Rg.keep L lt t1
  have t2 := Rg.keep L lt t2
  have t3 := Rg.keep L lt t3
  have t4 := Rg.keep L lt t4
  have a0 := Rg.keep L la a0
  have a1 := Rg.keep L la a1
  have b0 := Rg.keep L lb b0
  have b1 := Rg.keep L lb b1
  have c0 := Rg.keep L lc c0
  have c1 := Rg.keep L lc c1
  have lp := Nat.lt_of_lt_of_le lp L.size
  have lq := Nat.lt_of_lt_of_le lq L.size
  have lt := Nat.lt_of_lt_of_le lt L.size
  have la := Nat.lt_of_lt_of_le la L.size
  have lb := Nat.lt_of_lt_of_le lb L.size
  have lc := Nat.lt_of_lt_of_le lc L.size
  clear hb L
  have hz : zw9.cell? ⟨w.heap.size + 1 + 1, 0, none⟩ = some (.int .i64 K) ∧ zw9.cell? ⟨w.heap.size + 1 + 1, 1, none⟩ = some (.int .i64 B) ∧ zw9.cell? ⟨w.heap.size + 1 + 1, 2, none⟩ = some (.int .i64 F) ∧ zw9.cell? ⟨w.heap.size + 1 + 1, 3, none⟩ = some (.int .i64 R) ∧ zw9.cell? ⟨w.heap.size + 1 + 1, 4, none⟩ = some (.int .i64 O) ∧ zw9.cell? ⟨w.heap.size + 1, 0, none⟩ = some (.int .i64 n1) ∧ zw9.cell? ⟨w.heap.size + 1, 1, none⟩ = some (.int .i64 d1) ∧ zw9.cell? ⟨w8.heap.size, 0, none⟩ = some (.int .i64 n1) ∧ zw9.cell? ⟨w8.heap.size, 1, none⟩ = some (.int .i64 d1) ∧ Below w.heap.size w zw9 := ⟨t0, t1, t2, t3, t4, q0, q1, d0, e0, K9⟩
  have HS : Hid (∀ u u' : World, (u.cell? ⟨w.heap.size + 1 + 1, 0, none⟩ = some (.int .i64 K) ∧ u.cell? ⟨w.heap.size + 1 + 1, 1, none⟩ = some (.int .i64 B) ∧ u.cell? ⟨w.heap.size + 1 + 1, 2, none⟩ = some (.int .i64 F) ∧ u.cell? ⟨w.heap.size + 1 + 1, 3, none⟩ = some (.int .i64 R) ∧ u.cell? ⟨w.heap.size + 1 + 1, 4, none⟩ = some (.int .i64 O) ∧ u.cell? ⟨w.heap.size + 1, 0, none⟩ = some (.int .i64 n1) ∧ u.cell? ⟨w.heap.size + 1, 1, none⟩ = some (.int .i64 d1) ∧ u.cell? ⟨w8.heap.size, 0, none⟩ = some (.int .i64 n1) ∧ u.cell? ⟨w8.heap.size, 1, none⟩ = some (.int .i64 d1) ∧ Below w.heap.size w u) → Below u.heap.size u u' → (u'.cell? ⟨w.heap.size + 1 + 1, 0, none⟩ = some (.int .i64 K) ∧ u'.cell? ⟨w.heap.size + 1 + 1, 1, none⟩ = some (.int .i64 B) ∧ u'.cell? ⟨w.heap.size + 1 + 1, 2, none⟩ = some (.int .i64 F) ∧ u'.cell? ⟨w.heap.size + 1 + 1, 3, none⟩ = some (.int .i64 R) ∧ u'.cell? ⟨w.heap.size + 1 + 1, 4, none⟩ = some (.int .i64 O) ∧ u'.cell? ⟨w.heap.size + 1, 0, none⟩ = some (.int .i64 n1) ∧ u'.cell? ⟨w.heap.size + 1, 1, none⟩ = some (.int .i64 d1) ∧ u'.cell? ⟨w8.heap.size, 0, none⟩ = some (.int .i64 n1) ∧ u'.cell? ⟨w8.heap.size, 1, none⟩ = some (.int .i64 d1) ∧ Below w.heap.size w u')) := Lib.hid (fun u u' h hb => ⟨Rg.keep hb (World.block_lt_of_cell? _ _ h.1) h.1, Rg.keep hb (World.block_lt_of_cell? _ _ h.2.1) h.2.1, Rg.keep hb (World.block_lt_of_cell? _ _ h.2.2.1) h.2.2.1, Rg.keep hb (World.block_lt_of_cell? _ _ h.2.2.2.1) h.2.2.2.1, Rg.keep hb (World.block_lt_of_cell? _ _ h.2.2.2.2.1) h.2.2.2.2.1, Rg.keep hb (World.block_lt_of_cell? _ _ h.2.2.2.2.2.1) h.2.2.2.2.2.1, Rg.keep hb (World.block_lt_of_cell? _ _ h.2.2.2.2.2.2.1) h.2.2.2.2.2.2.1, Rg.keep hb (World.block_lt_of_cell? _ _ h.2.2.2.2.2.2.2.1) h.2.2.2.2.2.2.2.1, Rg.keep hb (World.block_lt_of_cell? _ _ h.2.2.2.2.2.2.2.2.1) h.2.2.2.2.2.2.2.2.1, h.2.2.2.2.2.2.2.2.2.trans (hb.mono h.2.2.2.2.2.2.2.2.2.size)⟩)
  clear p0 p1 p2 p3 p4 p5 p6 p7 p8 p9 q0 q1 q2 q3 t0 t1 t2 t3 t4 a0 a1 b0 b1 c0 c1 d0 e0 K9
  refine Rk.begin (S := fun wS => wS.cell? ⟨w.heap.size + 1 + 1, 0, none⟩ = some (.int .i64 K) ∧ wS.cell? ⟨w.heap.size + 1 + 1, 1, none⟩ = some (.int .i64 B) ∧ wS.cell? ⟨w.heap.size + 1 + 1, 2, none⟩ = some (.int .i64 F) ∧ wS.cell? ⟨w.heap.size + 1 + 1, 3, none⟩ = some (.int .i64 R) ∧ wS.cell? ⟨w.heap.size + 1 + 1, 4, none⟩ = some (.int .i64 O) ∧ wS.cell? ⟨w.heap.size + 1, 0, none⟩ = some (.int .i64 n1) ∧ wS.cell? ⟨w.heap.size + 1, 1, none⟩ = some (.int .i64 d1) ∧ wS.cell? ⟨w8.heap.size, 0, none⟩ = some (.int .i64 n1) ∧ wS.cell? ⟨w8.heap.size, 1, none⟩ = some (.int .i64 d1) ∧ Below w.heap.size w wS) 10 (by kernel_rfl) (HS.out _ _ hz (Below.drew (Below.refl _ _))) (fun hHeld => ?_)
  refine Rk.take [10] (i := 0) (v := ?_) rfl (by kernel_rfl) (by kernel_rfl) (by kernel_rfl) (by kernel_rfl) (by kernel_rfl) (fun _ _ _ h => h) (Or.inl ⟨by kernel_rfl, ?_⟩) (by assumption) ?_
  rotate_left
  · ((intro w hSw; (try dsimp only at hSw); go_simp) <;> with_reducible rfl)
  try simp only [Act.put, List.setIfInBounds_toArray, List.set_cons_zero, List.set_cons_succ]
  refine Rk.take [10] (i := 1) (v := ?_) rfl (by kernel_rfl) (by kernel_rfl) (by kernel_rfl) (by kernel_rfl) (by kernel_rfl) (fun _ _ _ h => h) (Or.inl ⟨by kernel_rfl, ?_⟩) (by assumption) ?_
  rotate_left
  · ((intro w hSw; (try dsimp only at hSw); go_simp) <;> with_reducible rfl)
  try simp only [Act.put, List.setIfInBounds_toArray, List.set_cons_zero, List.set_cons_succ]
  refine Rk.takeP (i := 2) (v := ?_) rfl (by kernel_rfl) (by kernel_rfl) (by kernel_rfl) (by kernel_rfl) (fun _ _ _ h => h) (Or.inl ⟨by kernel_rfl, ?_⟩) (by assumption) ?_
  rotate_left
  · ((intro w hSw; go_simp) <;> with_reducible rfl)
  try simp only [Act.put, List.setIfInBounds_toArray, List.set_cons_zero, List.set_cons_succ]
  refine Rk.take [10] (i := 3) (v := ?_) rfl (by kernel_rfl) (by kernel_rfl) (by kernel_rfl) (by kernel_rfl) (by kernel_rfl) (fun _ _ _ h => h) (Or.inl ⟨by kernel_rfl, ?_⟩) (by assumption) ?_
  rotate_left
  · ((intro w hSw; (try dsimp only at hSw); go_simp) <;> with_reducible rfl)
  try simp only [Act.put, List.setIfInBounds_toArray, List.set_cons_zero, List.set_cons_succ]
  refine Rk.two (i := 4) (j := 9) (by kernel_rfl) rfl rfl (fun KK hK => ?_) (fun KK hK => ?_)
  · rw [if_pos (by kernel_rfl)]
    go_simp
    (refine (F4.out _ (LAh.out.below (by exact hHeld.2.2.2.2.2.2.2.2.2))).mono ?_; rintro e u1 ⟨rfl, hb⟩)
    have hNew := HS.out _ _ hHeld hb
    have hs_u1 : zw9.heap.size ≤ u1.heap.size := by have hzz := hb.size; (try simp at hzz); omega
    first | (refine hK.out _ _ (fun _ => hNew) (fun _ => ?_)) | (refine hK.out _ _ hNew (fun _ => ?_)) | (go_wp2_with fail; refine hK.out _ _ hNew (fun _ => ?_))
    replace hHeld := hNew
    clear hNew hb
    clear hK KK
    refine Rk.two (i := 5) (j := 9) (by kernel_rfl) rfl rfl (fun KK hK => ?_) (fun KK hK => ?_)
    · rw [if_pos (by kernel_rfl)]
      go_simp
      (refine (P4.out _ (LAh.out.below (by exact hHeld.2.2.2.2.2.2.2.2.2))).mono ?_; rintro e u2 ⟨rfl, hb⟩)
      have hNew := HS.out _ _ hHeld hb
      have hs_u2 : zw9.heap.size ≤ u2.heap.size := by have hzz := hb.size; (try simp at hzz); omega
      first | (refine hK.out _ _ (fun _ => hNew) (fun _ => ?_)) | (refine hK.out _ _ hNew (fun _ => ?_)) | (go_wp2_with fail; refine hK.out _ _ hNew (fun _ => ?_))
      replace hHeld := hNew
      clear hNew hb
      clear hK KK
      refine Rk.takeP (i := 6) (v := ?_) rfl (by kernel_rfl) (by kernel_rfl) (by kernel_rfl) (by kernel_rfl) (fun _ _ _ h => h) (Or.inl ⟨by kernel_rfl, ?_⟩) (by assumption) ?_
      rotate_left
      · ((intro w hSw; go_simp) <;> with_reducible rfl)
      try simp only [Act.put, List.setIfInBounds_toArray, List.set_cons_zero, List.set_cons_succ]
      refine Rk.takeP (i := 7) (v := ?_) rfl (by kernel_rfl) (by kernel_rfl) (by kernel_rfl) (by kernel_rfl) (fun _ _ _ h => h) (Or.inl ⟨by kernel_rfl, ?_⟩) (by assumption) ?_
      rotate_left
      · ((intro w hSw; go_simp) <;> with_reducible rfl)
      try simp only [Act.put, List.setIfInBounds_toArray, List.set_cons_zero, List.set_cons_succ]
      refine Rk.takeP (i := 8) (v := ?_) rfl (by kernel_rfl) (by kernel_rfl) (by kernel_rfl) (by kernel_rfl) (fun _ _ _ h => h) (Or.inl ⟨by kernel_rfl, ?_⟩) (by assumption) ?_
      rotate_left
      · ((intro w hSw; go_simp) <;> with_reducible rfl)
      try simp only [Act.put, List.setIfInBounds_toArray, List.set_cons_zero, List.set_cons_succ]
      refine Rk.one (i := 9) (by kernel_rfl) rfl (fun KK hK => ?_)
      rw [if_pos (by kernel_rfl)]
      go_simp
      have hNew := HS.out _ _ hHeld ((Below.refl _ _).alloc (Nat.le_refl _) (Obj.cells #[Value.int .i64 0, Value.int .i64 0] 25))
      refine hK.out _ _ hNew (fun _ => ?_)
      replace hHeld := hNew
      clear hNew
      clear hK KK
      refine Rk.tail [10, 11] [_, _] (by kernel_rfl) (by kernel_rfl) rfl (by decide) ?_
      obtain ⟨t0, t1, t2, t3, t4, q0, q1, d0, e0, KG⟩ := hHeld
      have m0 : (u2.alloc (Obj.cells #[Value.int .i64 0, Value.int .i64 0] 25)).cell? ⟨u2.heap.size, 0, none⟩ = some (.int .i64 0) := by go_cell
      have fm0 : (u2.alloc (Obj.cells #[Value.int .i64 0, Value.int .i64 0] 25)).frozen? ⟨u2.heap.size, 0, none⟩ = false := by simp only [frozen?_alloc_cells]; exact Rg.notFrozen (Nat.le_refl _)
      have m1 : (u2.alloc (Obj.cells #[Value.int .i64 0, Value.int .i64 0] 25)).cell? ⟨u2.heap.size, 1, none⟩ = some (.int .i64 0) := by go_cell
      have fm1 : (u2.alloc (Obj.cells #[Value.int .i64 0, Value.int .i64 0] 25)).frozen? ⟨u2.heap.size, 1, none⟩ = false := by simp only [frozen?_alloc_cells]; exact Rg.notFrozen (Nat.le_refl _)
      generalize (u2.alloc (Obj.cells #[Value.int .i64 0, Value.int .i64 0] 25)) = gw at *
      have n0 : u2.heap.size ≠ w.heap.size + 1 := by omega
      have n9 : u2.heap.size ≠ w8.heap.size := by omega
      have n8 : u2.heap.size ≠ w.heap.size + 1 + 1 := by omega
      have lw : w.heap.size ≤ u2.heap.size := by omega
      have lm : u2.heap.size < gw.heap.size := World.block_lt_of_cell? _ _ m0
      have lq9 : w.heap.size + 1 < gw.heap.size := World.block_lt_of_cell? _ _ q0
      have ld9 : w8.heap.size < gw.heap.size := World.block_lt_of_cell? _ _ d0
      go_wp2_with fail
      have KS : Below w.heap.size w ((gw.setCell ⟨u2.heap.size, 0, none⟩ (.int .i64 n1)).setCell ⟨u2.heap.size, 1, none⟩ (.int .i64 d1)) := Below.setCell (Below.setCell KG (by dsimp only; omega) _) (by dsimp only; omega) _
      refine (EX.out _).mono ?_
      rintro e wE ⟨rfl, hbE⟩
      go_wp2
      go_ret
      exact ⟨rfl, KS.trans (hbE.mono KS.size)⟩
    · rw [if_pos (by kernel_rfl)]
      go_simp
      have hNew := HS.out _ _ hHeld ((Below.refl _ _).alloc (Nat.le_refl _) (Obj.cells #[Value.int .i64 0, Value.int .i64 0] 25))
      refine hK.out _ _ hNew (fun _ => ?_)
      replace hHeld := hNew
      clear hNew
      clear hK KK
      refine Rk.one (i := 5) (by kernel_rfl) rfl (fun KK hK => ?_)
      rw [if_pos (by kernel_rfl)]
      go_simp
      (refine (P4.out _ (LAh.out.below (by exact hHeld.2.2.2.2.2.2.2.2.2))).mono ?_; rintro e u2 ⟨rfl, hb⟩)
      have hNew := HS.out _ _ hHeld hb
      have hs_u2 : zw9.heap.size ≤ u2.heap.size := by have hzz := hb.size; (try simp at hzz); omega
      have m0 : u2.cell? ⟨u1.heap.size, 0, none⟩ = some (.int .i64 0) := Rg.keep hb (by simp) (by go_cell)
      have fm0 : u2.frozen? ⟨u1.heap.size, 0, none⟩ = false := Rg.keepF hb (by simp) (by show (u1.alloc (Obj.cells #[Value.int .i64 0, Value.int .i64 0] 25)).frozen? ⟨u1.heap.size, 0, none⟩ = false; simp only [frozen?_alloc_cells]; exact Rg.notFrozen (Nat.le_refl _))
      have m1 : u2.cell? ⟨u1.heap.size, 1, none⟩ = some (.int .i64 0) := Rg.keep hb (by simp) (by go_cell)
      have fm1 : u2.frozen? ⟨u1.heap.size, 1, none⟩ = false := Rg.keepF hb (by simp) (by show (u1.alloc (Obj.cells #[Value.int .i64 0, Value.int .i64 0] 25)).frozen? ⟨u1.heap.size, 1, none⟩ = false; simp only [frozen?_alloc_cells]; exact Rg.notFrozen (Nat.le_refl _))
      first | (refine hK.out _ _ (fun _ => hNew) (fun _ => ?_)) | (refine hK.out _ _ hNew (fun _ => ?_)) | (go_wp2_with fail; refine hK.out _ _ hNew (fun _ => ?_))
      replace hHeld := hNew
      clear hNew hb
      clear hK KK
      refine Rk.takeP (i := 6) (v := ?_) rfl (by kernel_rfl) (by kernel_rfl) (by kernel_rfl) (by kernel_rfl) (fun _ _ _ h => h) (Or.inl ⟨by kernel_rfl, ?_⟩) (by assumption) ?_
      rotate_left
      · ((intro w hSw; go_simp) <;> with_reducible rfl)
      try simp only [Act.put, List.setIfInBounds_toArray, List.set_cons_zero, List.set_cons_succ]
      refine Rk.takeP (i := 7) (v := ?_) rfl (by kernel_rfl) (by kernel_rfl) (by kernel_rfl) (by kernel_rfl) (fun _ _ _ h => h) (Or.inl ⟨by kernel_rfl, ?_⟩) (by assumption) ?_
      rotate_left
      · ((intro w hSw; go_simp) <;> with_reducible rfl)
      try simp only [Act.put, List.setIfInBounds_toArray, List.set_cons_zero, List.set_cons_succ]
      refine Rk.takeP (i := 8) (v := ?_) rfl (by kernel_rfl) (by kernel_rfl) (by kernel_rfl) (by kernel_rfl) (fun _ _ _ h => h) (Or.inl ⟨by kernel_rfl, ?_⟩) (by assumption) ?_
      rotate_left
      · ((intro w hSw; go_simp) <;> with_reducible rfl)
      try simp only [Act.put, List.setIfInBounds_toArray, List.set_cons_zero, List.set_cons_succ]
      refine Rk.tail [10, 11] [_, _] (by kernel_rfl) (by kernel_rfl) rfl (by decide) ?_
      obtain ⟨t0, t1, t2, t3, t4, q0, q1, d0, e0, KG⟩ := hHeld
      have n0 : u1.heap.size ≠ w.heap.size + 1 := by omega
      have n9 : u1.heap.size ≠ w8.heap.size := by omega
      have n8 : u1.heap.size ≠ w.heap.size + 1 + 1 := by omega
      have lw : w.heap.size ≤ u1.heap.size := by omega
      have lm : u1.heap.size < u2.heap.size := World.block_lt_of_cell? _ _ m0
      have lq9 : w.heap.size + 1 < u2.heap.size := World.block_lt_of_cell? _ _ q0
      have ld9 : w8.heap.size < u2.heap.size := World.block_lt_of_cell? _ _ d0
      go_wp2_with fail
      have KS : Below w.heap.size w ((u2.setCell ⟨u1.heap.size, 0, none⟩ (.int .i64 n1)).setCell ⟨u1.heap.size, 1, none⟩ (.int .i64 d1)) := Below.setCell (Below.setCell KG (by dsimp only; omega) _) (by dsimp only; omega) _
      refine (EX.out _).mono ?_
      rintro e wE ⟨rfl, hbE⟩
      go_wp2
      go_ret
      exact ⟨rfl, KS.trans (hbE.mono KS.size)⟩
  · rw [if_pos (by kernel_rfl)]
    go_simp
    have hNew := HS.out _ _ hHeld ((Below.refl _ _).alloc (Nat.le_refl _) (Obj.cells #[Value.int .i64 0, Value.int .i64 0] 25))
    refine hK.out _ _ hNew (fun _ => ?_)
    replace hHeld := hNew
    clear hNew
    clear hK KK
    refine Rk.one (i := 4) (by kernel_rfl) rfl (fun KK hK => ?_)
    rw [if_pos (by kernel_rfl)]
    go_simp
    (refine (F4.out _ (LAh.out.below (by exact hHeld.2.2.2.2.2.2.2.2.2))).mono ?_; rintro e u1 ⟨rfl, hb⟩)
    have hNew := HS.out _ _ hHeld hb
    have hs_u1 : zw9.heap.size ≤ u1.heap.size := by have hzz := hb.size; (try simp at hzz); omega
    have m0 : u1.cell? ⟨zw9.heap.size, 0, none⟩ = some (.int .i64 0) := Rg.keep hb (by simp) (by go_cell)
    have fm0 : u1.frozen? ⟨zw9.heap.size, 0, none⟩ = false := Rg.keepF hb (by simp) (by show (zw9.drew.alloc (Obj.cells #[Value.int .i64 0, Value.int .i64 0] 25)).frozen? ⟨zw9.drew.heap.size, 0, none⟩ = false; simp only [frozen?_alloc_cells]; exact Rg.notFrozen (Nat.le_refl _))
    have m1 : u1.cell? ⟨zw9.heap.size, 1, none⟩ = some (.int .i64 0) := Rg.keep hb (by simp) (by go_cell)
    have fm1 : u1.frozen? ⟨zw9.heap.size, 1, none⟩ = false := Rg.keepF hb (by simp) (by show (zw9.drew.alloc (Obj.cells #[Value.int .i64 0, Value.int .i64 0] 25)).frozen? ⟨zw9.drew.heap.size, 1, none⟩ = false; simp only [frozen?_alloc_cells]; exact Rg.notFrozen (Nat.le_refl _))
    first | (refine hK.out _ _ (fun _ => hNew) (fun _ => ?_)) | (refine hK.out _ _ hNew (fun _ => ?_)) | (go_wp2_with fail; refine hK.out _ _ hNew (fun _ => ?_))
    replace hHeld := hNew
    clear hNew hb
    clear hK KK
    refine Rk.one (i := 5) (by kernel_rfl) rfl (fun KK hK => ?_)
    rw [if_pos (by kernel_rfl)]
    go_simp
    (refine (P4.out _ (LAh.out.below (by exact hHeld.2.2.2.2.2.2.2.2.2))).mono ?_; rintro e u2 ⟨rfl, hb⟩)
    have hNew := HS.out _ _ hHeld hb
    have hs_u2 : zw9.heap.size ≤ u2.heap.size := by have hzz := hb.size; (try simp at hzz); omega
    have lm : zw9.heap.size < u1.heap.size := World.block_lt_of_cell? _ _ m0
    have fm0 := Rg.keepF hb lm fm0
    have fm1 := Rg.keepF hb lm fm1
    have m0 := Rg.keep hb lm m0
    have m1 := Rg.keep hb lm m1
    clear lm
    first | (refine hK.out _ _ (fun _ => hNew) (fun _ => ?_)) | (refine hK.out _ _ hNew (fun _ => ?_)) | (go_wp2_with fail; refine hK.out _ _ hNew (fun _ => ?_))
    replace hHeld := hNew
    clear hNew hb
    clear hK KK
    refine Rk.takeP (i := 6) (v := ?_) rfl (by kernel_rfl) (by kernel_rfl) (by kernel_rfl) (by kernel_rfl) (fun _ _ _ h => h) (Or.inl ⟨by kernel_rfl, ?_⟩) (by assumption) ?_
    rotate_left
    · ((intro w hSw; go_simp) <;> with_reducible rfl)
    try simp only [Act.put, List.setIfInBounds_toArray, List.set_cons_zero, List.set_cons_succ]
    refine Rk.takeP (i := 7) (v := ?_) rfl (by kernel_rfl) (by kernel_rfl) (by kernel_rfl) (by kernel_rfl) (fun _ _ _ h => h) (Or.inl ⟨by kernel_rfl, ?_⟩) (by assumption) ?_
    rotate_left
    · ((intro w hSw; go_simp) <;> with_reducible rfl)
    try simp only [Act.put, List.setIfInBounds_toArray, List.set_cons_zero, List.set_cons_succ]
    refine Rk.takeP (i := 8) (v := ?_) rfl (by kernel_rfl) (by kernel_rfl) (by kernel_rfl) (by kernel_rfl) (fun _ _ _ h => h) (Or.inl ⟨by kernel_rfl, ?_⟩) (by assumption) ?_
    rotate_left
    · ((intro w hSw; go_simp) <;> with_reducible rfl)
    try simp only [Act.put, List.setIfInBounds_toArray, List.set_cons_zero, List.set_cons_succ]
    refine Rk.tail [10, 11] [_, _] (by kernel_rfl) (by kernel_rfl) rfl (by decide) ?_
    obtain ⟨t0, t1, t2, t3, t4, q0, q1, d0, e0, KG⟩ := hHeld
    have n0 : zw9.heap.size ≠ w.heap.size + 1 := by omega
    have n9 : zw9.heap.size ≠ w8.heap.size := by omega
    have n8 : zw9.heap.size ≠ w.heap.size + 1 + 1 := by omega
    have lw : w.heap.size ≤ zw9.heap.size := by omega
    have lm : zw9.heap.size < u2.heap.size := World.block_lt_of_cell? _ _ m0
    have lq9 : w.heap.size + 1 < u2.heap.size := World.block_lt_of_cell? _ _ q0
    have ld9 : w8.heap.size < u2.heap.size := World.block_lt_of_cell? _ _ d0
    go_wp2_with fail
    have KS : Below w.heap.size w ((u2.setCell ⟨zw9.heap.size, 0, none⟩ (.int .i64 n1)).setCell ⟨zw9.heap.size, 1, none⟩ (.int .i64 d1)) := Below.setCell (Below.setCell KG (by dsimp only; omega) _) (by dsimp only; omega) _
    refine (EX.out _).mono ?_
    rintro e wE ⟨rfl, hbE⟩
    go_wp2
    go_ret
    exact ⟨rfl, KS.trans (hbE.mono KS.size)⟩
end Go.Proofs.YtikcinkbkakkmaaGreatDoor.Va
