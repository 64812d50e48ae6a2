/- check of package fixed, at one and at two values. -/
import Derived.Test.YtikcinkbkakkmaaGreatDoorGG

namespace Go.Proofs.YtikcinkbkakkmaaGreatDoor.Fx
open Go.ChangeShapes Go.WideShapes Go.ChangeAt Go.RowKit
open Fr
set_option linter.unusedVariables false
set_option linter.unusedSimpArgs false
set_option maxHeartbeats 4000000 in
theorem chk1_tv (K B F R O n0 d0 : Int) (x : Nat) (w : World) (hx : x < w.heap.size) (c0 : w.cell? ⟨x, 0, none⟩ = some (.int .i64 n0)) (c1 : w.cell? ⟨x, 1, none⟩ = some (.int .i64 d0)) (VT : Hid (∀ w, Calls Tryz.prog 60 #[.agg #[.int .i64 K, .int .i64 B, .int .i64 F, .int .i64 R, .int .i64 O]] w (Ret (.int .i64 10) w))) :
    Calls Tryz.prog 102 #[.agg #[.int .i64 K, .int .i64 B, .int .i64 F, .int .i64 R, .int .i64 O], .slice (some ⟨x, 0, none⟩) 1 1] w (Ret (.int .i64 10) w) := by
  go_enter Tryz.func102, Tryz.ntmps102
  go_wp2_with fail
  refine (VT.out _).mono ?_
  rintro e w1 ⟨rfl, hb⟩
  have K1 : Below w.heap.size w w1 := ((Below.refl _ _).alloc (Nat.le_refl _) _).trans (hb.mono (by simp))
  have lt : w.heap.size < w1.heap.size := by have := hb.size; simp at this; omega
  clear hb
  go_wp2
  go_ret
  exact ⟨rfl, K1⟩
set_option maxHeartbeats 4000000 in
theorem chk1_t (K B F R O n0 d0 : Int) (x : Nat) (w : World) (hx : x < w.heap.size) (c0 : w.cell? ⟨x, 0, none⟩ = some (.int .i64 n0)) (c1 : w.cell? ⟨x, 1, none⟩ = some (.int .i64 d0)) (VT : Hid (∀ w, Calls Tryz.prog 60 #[.agg #[.int .i64 K, .int .i64 B, .int .i64 F, .int .i64 R, .int .i64 O]] w (Ret (.int .i64 0) w))) (V0 : Hid (∀ w, Calls Tryz.prog 49 #[.agg #[.int .i64 K, .int .i64 B, .int .i64 F, .int .i64 R, .int .i64 O], .agg #[.int .i64 n0, .int .i64 d0]] w (Ret (.bool true) w))) :
    Calls Tryz.prog 102 #[.agg #[.int .i64 K, .int .i64 B, .int .i64 F, .int .i64 R, .int .i64 O], .slice (some ⟨x, 0, none⟩) 1 1] w (Ret (.int .i64 0) w) := by
  go_enter Tryz.func102, Tryz.ntmps102
  go_wp2_with fail
  refine (VT.out _).mono ?_
  rintro e w1 ⟨rfl, hb⟩
  have K1 : Below w.heap.size w w1 := ((Below.refl _ _).alloc (Nat.le_refl _) _).trans (hb.mono (by simp))
  have lt : w.heap.size < w1.heap.size := by have := hb.size; simp at this; omega
  have t0 : w1.cell? ⟨w.heap.size, 0, none⟩ = some (.int .i64 K) := Rg.keep hb (by simp) (by go_cell)
  have t1 : w1.cell? ⟨w.heap.size, 1, none⟩ = some (.int .i64 B) := Rg.keep hb (by simp) (by go_cell)
  have t2 : w1.cell? ⟨w.heap.size, 2, none⟩ = some (.int .i64 F) := Rg.keep hb (by simp) (by go_cell)
  have t3 : w1.cell? ⟨w.heap.size, 3, none⟩ = some (.int .i64 R) := Rg.keep hb (by simp) (by go_cell)
  have t4 : w1.cell? ⟨w.heap.size, 4, none⟩ = some (.int .i64 O) := Rg.keep hb (by simp) (by go_cell)
  have c0 := Rg.keep K1 hx c0
  have c1 := Rg.keep K1 hx c1
  clear hb
  go_wp2
  refine wp_loop_rounds 2 ?_
  rw [rounds_succ]
  go_wp2_with fail
  refine (V0.out _).mono ?_
  rintro e w2 ⟨rfl, hb⟩
  have L : Below w1.heap.size w1 w2 := ((Below.refl _ _).alloc (Nat.le_refl _) _).trans (hb.mono (by simp))
  have K2 : Below w.heap.size w w2 := K1.trans (L.mono K1.size)
  have t0 := Rg.keep L (by omega) t0
  have t1 := Rg.keep L (by omega) t1
  have t2 := Rg.keep L (by omega) t2
  have t3 := Rg.keep L (by omega) t3
  have t4 := Rg.keep L (by omega) t4
  have c0 := Rg.keep L (by omega) c0
  have c1 := Rg.keep L (by omega) c1
  have lt := Nat.lt_of_lt_of_le lt L.size
  clear hb L
  go_wp2
  rw [rounds_succ]
  go_wp2
  go_ret
  exact ⟨rfl, K2⟩
set_option maxHeartbeats 4000000 in
theorem chk1_f (K B F R O n0 d0 : Int) (x : Nat) (w : World) (hx : x < w.heap.size) (c0 : w.cell? ⟨x, 0, none⟩ = some (.int .i64 n0)) (c1 : w.cell? ⟨x, 1, none⟩ = some (.int .i64 d0)) (VT : Hid (∀ w, Calls Tryz.prog 60 #[.agg #[.int .i64 K, .int .i64 B, .int .i64 F, .int .i64 R, .int .i64 O]] w (Ret (.int .i64 0) w))) (V0 : Hid (∀ w, Calls Tryz.prog 49 #[.agg #[.int .i64 K, .int .i64 B, .int .i64 F, .int .i64 R, .int .i64 O], .agg #[.int .i64 n0, .int .i64 d0]] w (Ret (.bool false) w))) :
    Calls Tryz.prog 102 #[.agg #[.int .i64 K, .int .i64 B, .int .i64 F, .int .i64 R, .int .i64 O], .slice (some ⟨x, 0, none⟩) 1 1] w (Ret (.int .i64 1) w) := by
  go_enter Tryz.func102, Tryz.ntmps102
  go_wp2_with fail
  refine (VT.out _).mono ?_
  rintro e w1 ⟨rfl, hb⟩
  have K1 : Below w.heap.size w w1 := ((Below.refl _ _).alloc (Nat.le_refl _) _).trans (hb.mono (by simp))
  have lt : w.heap.size < w1.heap.size := by have := hb.size; simp at this; omega
  have t0 : w1.cell? ⟨w.heap.size, 0, none⟩ = some (.int .i64 K) := Rg.keep hb (by simp) (by go_cell)
  have t1 : w1.cell? ⟨w.heap.size, 1, none⟩ = some (.int .i64 B) := Rg.keep hb (by simp) (by go_cell)
  have t2 : w1.cell? ⟨w.heap.size, 2, none⟩ = some (.int .i64 F) := Rg.keep hb (by simp) (by go_cell)
  have t3 : w1.cell? ⟨w.heap.size, 3, none⟩ = some (.int .i64 R) := Rg.keep hb (by simp) (by go_cell)
  have t4 : w1.cell? ⟨w.heap.size, 4, none⟩ = some (.int .i64 O) := Rg.keep hb (by simp) (by go_cell)
  have c0 := Rg.keep K1 hx c0
  have c1 := Rg.keep K1 hx c1
  clear hb
  go_wp2
  refine wp_loop_rounds 1 ?_
  rw [rounds_succ]
  go_wp2_with fail
  refine (V0.out _).mono ?_
  rintro e w2 ⟨rfl, hb⟩
  have L : Below w1.heap.size w1 w2 := ((Below.refl _ _).alloc (Nat.le_refl _) _).trans (hb.mono (by simp))
  have K2 : Below w.heap.size w w2 := K1.trans (L.mono K1.size)
  have t0 := Rg.keep L (by omega) t0
  have t1 := Rg.keep L (by omega) t1
  have t2 := Rg.keep L (by omega) t2
  have t3 := Rg.keep L (by omega) t3
  have t4 := Rg.keep L (by omega) t4
  have c0 := Rg.keep L (by omega) c0
  have c1 := Rg.keep L (by omega) c1
  have lt := Nat.lt_of_lt_of_le lt L.size
  clear hb L
  go_wp2
  go_ret
  exact ⟨rfl, K2⟩
set_option maxHeartbeats 4000000 in
theorem chk2_tv (K B F R O n0 d0 n1 d1 : Int) (x : Nat) (w : World) (hx : x < w.heap.size) (c0 : w.cell? ⟨x, 0, none⟩ = some (.int .i64 n0)) (c1 : w.cell? ⟨x, 1, none⟩ = some (.int .i64 d0)) (c2 : w.cell? ⟨x, 2, none⟩ = some (.int .i64 n1)) (c3 : w.cell? ⟨x, 3, none⟩ = some (.int .i64 d1)) (VT : Hid (∀ w, Calls Tryz.prog 60 #[.agg #[.int .i64 K, .int .i64 B, .int .i64 F, .int .i64 R, .int .i64 O]] w (Ret (.int .i64 10) w))) :
    Calls Tryz.prog 102 #[.agg #[.int .i64 K, .int .i64 B, .int .i64 F, .int .i64 R, .int .i64 O], .slice (some ⟨x, 0, none⟩) 2 2] w (Ret (.int .i64 10) w) := by
  go_enter Tryz.func102, Tryz.ntmps102
  go_wp2_with fail
  refine (VT.out _).mono ?_
  rintro e w1 ⟨rfl, hb⟩
  have K1 : Below w.heap.size w w1 := ((Below.refl _ _).alloc (Nat.le_refl _) _).trans (hb.mono (by simp))
  have lt : w.heap.size < w1.heap.size := by have := hb.size; simp at this; omega
  clear hb
  go_wp2
  go_ret
  exact ⟨rfl, K1⟩
set_option maxHeartbeats 4000000 in
theorem chk2_tt (K B F R O n0 d0 n1 d1 : Int) (x : Nat) (w : World) (hx : x < w.heap.size) (c0 : w.cell? ⟨x, 0, none⟩ = some (.int .i64 n0)) (c1 : w.cell? ⟨x, 1, none⟩ = some (.int .i64 d0)) (c2 : w.cell? ⟨x, 2, none⟩ = some (.int .i64 n1)) (c3 : w.cell? ⟨x, 3, none⟩ = some (.int .i64 d1)) (VT : Hid (∀ w, Calls Tryz.prog 60 #[.agg #[.int .i64 K, .int .i64 B, .int .i64 F, .int .i64 R, .int .i64 O]] w (Ret (.int .i64 0) w))) (V0 : Hid (∀ w, Calls Tryz.prog 49 #[.agg #[.int .i64 K, .int .i64 B, .int .i64 F, .int .i64 R, .int .i64 O], .agg #[.int .i64 n0, .int .i64 d0]] w (Ret (.bool true) w))) (V1 : Hid (∀ w, Calls Tryz.prog 49 #[.agg #[.int .i64 K, .int .i64 B, .int .i64 F, .int .i64 R, .int .i64 O], .agg #[.int .i64 n1, .int .i64 d1]] w (Ret (.bool true) w))) :
    Calls Tryz.prog 102 #[.agg #[.int .i64 K, .int .i64 B, .int .i64 F, .int .i64 R, .int .i64 O], .slice (some ⟨x, 0, none⟩) 2 2] w (Ret (.int .i64 0) w) := by
  go_enter Tryz.func102, Tryz.ntmps102
  go_wp2_with fail
  refine (VT.out _).mono ?_
  rintro e w1 ⟨rfl, hb⟩
  have K1 : Below w.heap.size w w1 := ((Below.refl _ _).alloc (Nat.le_refl _) _).trans (hb.mono (by simp))
  have lt : w.heap.size < w1.heap.size := by have := hb.size; simp at this; omega
  have t0 : w1.cell? ⟨w.heap.size, 0, none⟩ = some (.int .i64 K) := Rg.keep hb (by simp) (by go_cell)
  have t1 : w1.cell? ⟨w.heap.size, 1, none⟩ = some (.int .i64 B) := Rg.keep hb (by simp) (by go_cell)
  have t2 : w1.cell? ⟨w.heap.size, 2, none⟩ = some (.int .i64 F) := Rg.keep hb (by simp) (by go_cell)
  have t3 : w1.cell? ⟨w.heap.size, 3, none⟩ = some (.int .i64 R) := Rg.keep hb (by simp) (by go_cell)
  have t4 : w1.cell? ⟨w.heap.size, 4, none⟩ = some (.int .i64 O) := Rg.keep hb (by simp) (by go_cell)
  have c0 := Rg.keep K1 hx c0
  have c1 := Rg.keep K1 hx c1
  have c2 := Rg.keep K1 hx c2
  have c3 := Rg.keep K1 hx c3
  clear hb
  go_wp2
  refine wp_loop_rounds 3 ?_
  rw [rounds_succ]
  go_wp2_with fail
  refine (V0.out _).mono ?_
  rintro e w2 ⟨rfl, hb⟩
  have L : Below w1.heap.size w1 w2 := ((Below.refl _ _).alloc (Nat.le_refl _) _).trans (hb.mono (by simp))
  have K2 : Below w.heap.size w w2 := K1.trans (L.mono K1.size)
  have t0 := Rg.keep L (by omega) t0
  have t1 := Rg.keep L (by omega) t1
  have t2 := Rg.keep L (by omega) t2
  have t3 := Rg.keep L (by omega) t3
  have t4 := Rg.keep L (by omega) t4
  have c0 := Rg.keep L (by omega) c0
  have c1 := Rg.keep L (by omega) c1
  have c2 := Rg.keep L (by omega) c2
  have c3 := Rg.keep L (by omega) c3
  have lt := Nat.lt_of_lt_of_le lt L.size
  clear hb L
  go_wp2
  rw [rounds_succ]
  go_wp2_with fail
  refine (V1.out _).mono ?_
  rintro e w3 ⟨rfl, hb⟩
  have L : Below w2.heap.size w2 w3 := ((Below.refl _ _).alloc (Nat.le_refl _) _).trans (hb.mono (by simp))
  have K3 : Below w.heap.size w w3 := K2.trans (L.mono K2.size)
  have t0 := Rg.keep L (by omega) t0
  have t1 := Rg.keep L (by omega) t1
  have t2 := Rg.keep L (by omega) t2
  have t3 := Rg.keep L (by omega) t3
  have t4 := Rg.keep L (by omega) t4
  have c0 := Rg.keep L (by omega) c0
  have c1 := Rg.keep L (by omega) c1
  have c2 := Rg.keep L (by omega) c2
  have c3 := Rg.keep L (by omega) c3
  have lt := Nat.lt_of_lt_of_le lt L.size
  clear hb L
  go_wp2
  rw [rounds_succ]
  go_wp2
  go_ret
  exact ⟨rfl, K3⟩
set_option maxHeartbeats 4000000 in
theorem chk2_tf (K B F R O n0 d0 n1 d1 : Int) (x : Nat) (w : World) (hx : x < w.heap.size) (c0 : w.cell? ⟨x, 0, none⟩ = some (.int .i64 n0)) (c1 : w.cell? ⟨x, 1, none⟩ = some (.int .i64 d0)) (c2 : w.cell? ⟨x, 2, none⟩ = some (.int .i64 n1)) (c3 : w.cell? ⟨x, 3, none⟩ = some (.int .i64 d1)) (VT : Hid (∀ w, Calls Tryz.prog 60 #[.agg #[.int .i64 K, .int .i64 B, .int .i64 F, .int .i64 R, .int .i64 O]] w (Ret (.int .i64 0) w))) (V0 : Hid (∀ w, Calls Tryz.prog 49 #[.agg #[.int .i64 K, .int .i64 B, .int .i64 F, .int .i64 R, .int .i64 O], .agg #[.int .i64 n0, .int .i64 d0]] w (Ret (.bool true) w))) (V1 : Hid (∀ w, Calls Tryz.prog 49 #[.agg #[.int .i64 K, .int .i64 B, .int .i64 F, .int .i64 R, .int .i64 O], .agg #[.int .i64 n1, .int .i64 d1]] w (Ret (.bool false) w))) :
    Calls Tryz.prog 102 #[.agg #[.int .i64 K, .int .i64 B, .int .i64 F, .int .i64 R, .int .i64 O], .slice (some ⟨x, 0, none⟩) 2 2] w (Ret (.int .i64 1) w) := by
  go_enter Tryz.func102, Tryz.ntmps102
  go_wp2_with fail
  refine (VT.out _).mono ?_
  rintro e w1 ⟨rfl, hb⟩
  have K1 : Below w.heap.size w w1 := ((Below.refl _ _).alloc (Nat.le_refl _) _).trans (hb.mono (by simp))
  have lt : w.heap.size < w1.heap.size := by have := hb.size; simp at this; omega
  have t0 : w1.cell? ⟨w.heap.size, 0, none⟩ = some (.int .i64 K) := Rg.keep hb (by simp) (by go_cell)
  have t1 : w1.cell? ⟨w.heap.size, 1, none⟩ = some (.int .i64 B) := Rg.keep hb (by simp) (by go_cell)
  have t2 : w1.cell? ⟨w.heap.size, 2, none⟩ = some (.int .i64 F) := Rg.keep hb (by simp) (by go_cell)
  have t3 : w1.cell? ⟨w.heap.size, 3, none⟩ = some (.int .i64 R) := Rg.keep hb (by simp) (by go_cell)
  have t4 : w1.cell? ⟨w.heap.size, 4, none⟩ = some (.int .i64 O) := Rg.keep hb (by simp) (by go_cell)
  have c0 := Rg.keep K1 hx c0
  have c1 := Rg.keep K1 hx c1
  have c2 := Rg.keep K1 hx c2
  have c3 := Rg.keep K1 hx c3
  clear hb
  go_wp2
  refine wp_loop_rounds 2 ?_
  rw [rounds_succ]
  go_wp2_with fail
  refine (V0.out _).mono ?_
  rintro e w2 ⟨rfl, hb⟩
  have L : Below w1.heap.size w1 w2 := ((Below.refl _ _).alloc (Nat.le_refl _) _).trans (hb.mono (by simp))
  have K2 : Below w.heap.size w w2 := K1.trans (L.mono K1.size)
  have t0 := Rg.keep L (by omega) t0
  have t1 := Rg.keep L (by omega) t1
  have t2 := Rg.keep L (by omega) t2
  have t3 := Rg.keep L (by omega) t3
  have t4 := Rg.keep L (by omega) t4
  have c0 := Rg.keep L (by omega) c0
  have c1 := Rg.keep L (by omega) c1
  have c2 := Rg.keep L (by omega) c2
  have c3 := Rg.keep L (by omega) c3
  have lt := Nat.lt_of_lt_of_le lt L.size
  clear hb L
  go_wp2
  rw [rounds_succ]
  go_wp2_with fail
  refine (V1.out _).mono ?_
  rintro e w3 ⟨rfl, hb⟩
  have L : Below w2.heap.size w2 w3 := ((Below.refl _ _).alloc (Nat.le_refl _) _).trans (hb.mono (by simp))
  have K3 : Below w.heap.size w w3 := K2.trans (L.mono K2.size)
  have t0 := Rg.keep L (by omega) t0
  have t1 := Rg.keep L (by omega) t1
  have t2 := Rg.keep L (by omega) t2
  have t3 := Rg.keep L (by omega) t3
  have t4 := Rg.keep L (by omega) t4
  have c0 := Rg.keep L (by omega) c0
  have c1 := Rg.keep L (by omega) c1
  have c2 := Rg.keep L (by omega) c2
  have c3 := Rg.keep L (by omega) c3
  have lt := Nat.lt_of_lt_of_le lt L.size
  clear hb L
  go_wp2
  go_ret
  exact ⟨rfl, K3⟩
set_option maxHeartbeats 4000000 in
theorem chk2_f (K B F R O n0 d0 n1 d1 : Int) (x : Nat) (w : World) (hx : x < w.heap.size) (c0 : w.cell? ⟨x, 0, none⟩ = some (.int .i64 n0)) (c1 : w.cell? ⟨x, 1, none⟩ = some (.int .i64 d0)) (c2 : w.cell? ⟨x, 2, none⟩ = some (.int .i64 n1)) (c3 : w.cell? ⟨x, 3, none⟩ = some (.int .i64 d1)) (VT : Hid (∀ w, Calls Tryz.prog 60 #[.agg #[.int .i64 K, .int .i64 B, .int .i64 F, .int .i64 R, .int .i64 O]] w (Ret (.int .i64 0) w))) (V0 : Hid (∀ w, Calls Tryz.prog 49 #[.agg #[.int .i64 K, .int .i64 B, .int .i64 F, .int .i64 R, .int .i64 O], .agg #[.int .i64 n0, .int .i64 d0]] w (Ret (.bool false) w))) :
    Calls Tryz.prog 102 #[.agg #[.int .i64 K, .int .i64 B, .int .i64 F, .int .i64 R, .int .i64 O], .slice (some ⟨x, 0, none⟩) 2 2] w (Ret (.int .i64 1) w) := by
  go_enter Tryz.func102, Tryz.ntmps102
  go_wp2_with fail
  refine (VT.out _).mono ?_
  rintro e w1 ⟨rfl, hb⟩
  have K1 : Below w.heap.size w w1 := ((Below.refl _ _).alloc (Nat.le_refl _) _).trans (hb.mono (by simp))
  have lt : w.heap.size < w1.heap.size := by have := hb.size; simp at this; omega
  have t0 : w1.cell? ⟨w.heap.size, 0, none⟩ = some (.int .i64 K) := Rg.keep hb (by simp) (by go_cell)
  have t1 : w1.cell? ⟨w.heap.size, 1, none⟩ = some (.int .i64 B) := Rg.keep hb (by simp) (by go_cell)
  have t2 : w1.cell? ⟨w.heap.size, 2, none⟩ = some (.int .i64 F) := Rg.keep hb (by simp) (by go_cell)
  have t3 : w1.cell? ⟨w.heap.size, 3, none⟩ = some (.int .i64 R) := Rg.keep hb (by simp) (by go_cell)
  have t4 : w1.cell? ⟨w.heap.size, 4, none⟩ = some (.int .i64 O) := Rg.keep hb (by simp) (by go_cell)
  have c0 := Rg.keep K1 hx c0
  have c1 := Rg.keep K1 hx c1
  have c2 := Rg.keep K1 hx c2
  have c3 := Rg.keep K1 hx c3
  clear hb
  go_wp2
  refine wp_loop_rounds 1 ?_
  rw [rounds_succ]
  go_wp2_with fail
  refine (V0.out _).mono ?_
  rintro e w2 ⟨rfl, hb⟩
  have L : Below w1.heap.size w1 w2 := ((Below.refl _ _).alloc (Nat.le_refl _) _).trans (hb.mono (by simp))
  have K2 : Below w.heap.size w w2 := K1.trans (L.mono K1.size)
  have t0 := Rg.keep L (by omega) t0
  have t1 := Rg.keep L (by omega) t1
  have t2 := Rg.keep L (by omega) t2
  have t3 := Rg.keep L (by omega) t3
  have t4 := Rg.keep L (by omega) t4
  have c0 := Rg.keep L (by omega) c0
  have c1 := Rg.keep L (by omega) c1
  have c2 := Rg.keep L (by omega) c2
  have c3 := Rg.keep L (by omega) c3
  have lt := Nat.lt_of_lt_of_le lt L.size
  clear hb L
  go_wp2
  go_ret
  exact ⟨rfl, K2⟩
end Go.Proofs.YtikcinkbkakkmaaGreatDoor.Fx
