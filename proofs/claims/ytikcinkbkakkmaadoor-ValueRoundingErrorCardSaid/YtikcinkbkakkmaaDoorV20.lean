/- The law on rounding: its ways. -/
import Derived.Test.YtikcinkbkakkmaaDoorV12
import Derived.Test.YtikcinkbkakkmaaDoorV9
import Derived.IntWalk

namespace Go.Proofs.YtikcinkbkakkmaaDoor.Va
open Go.ChangeShapes Go.WideShapes Go.ChangeAt Go.RowKit
open Fr Fx

set_option linter.unusedVariables false
set_option linter.unusedSimpArgs false
set_option maxRecDepth 100000 in
set_option maxHeartbeats 16000000 in
theorem re_b1 (K B F R O n d N p H T Q S1 S2 fl ce P1 P2 : Int) (w : World) (k2 : (K != 2) = false) (hp : (2 : Int) ^ F.toNat = p) (p0 : 1 ≤ p) (p1 : p ≤ 1073741824) (f0 : 0 ≤ F) (f1 : F ≤ 30) (hH : (2 : Int) ^ (B.toNat - 1) = H) (H0 : 2 ≤ H) (H1 : H ≤ 1073741824) (g0 : 2 ≤ B) (g1 : B ≤ 31) (hQ : 2147483647 / p = Q) (Q0 : 1 ≤ Q) (Q1 : Q ≤ 2147483647) (N0 : -2147483648 ≤ N) (N1 : N ≤ 2147483648) (d0 : 1 ≤ d) (d1 : d ≤ 2147483647) (n0 : -2147483647 ≤ n) (n1 : n ≤ 2147483647) (VT : Hid (∀ w, Calls Tryd.prog 9 #[T5 K B F R O] w (Ret (.int .i64 0) w))) (VA : Hid (∀ w, Calls Tryd.prog 11 #[T5 1 0 0 0 0, V2 n d] w (Ret (.bool true) w))) (CA : Hid (∀ w, Calls Tryd.prog 16 #[T5 1 0 0 0 0, T5 K B F R O, V2 n d] w (Ret (Frac3 N 1 0) w))) (EX : Hid (∀ w, Calls Tryd.prog 15 #[] w (Ret (.bool true) w))) (b1 : (N == -H) = true) :
    Calls Tryd.prog 6 #[T5 K B F R O, V2 n d] w (Ret (.bool true) w) := by
  have HP' := Lib.hid hp
  have HH' := Lib.hid hH
  have HQ' := Lib.hid hQ
  have B1' := Lib.hid b1
  clear hp hH hQ b1
  go_enter Tryd.func6, Tryd.ntmps6
  go_wp2_with fail
  refine (VT.out _).mono ?_
  rintro e w1 ⟨rfl, hb⟩
  have L : Below w.heap.size w w1 := ((((Below.refl _ _).alloc (by simp <;> omega) _).alloc (by simp <;> omega) _).alloc (by simp <;> omega) _).trans (hb.mono (by simp <;> omega))
  have K1 : Below w.heap.size w w1 := L
  have lt : w.heap.size < w1.heap.size := Nat.lt_of_lt_of_le (by simp <;> omega) hb.size
  have t0 : w1.cell? ⟨w.heap.size, 0, none⟩ = some (.int .i64 K) := Rg.keep hb (by simp <;> omega) (by go_cell)
  have t1 : w1.cell? ⟨w.heap.size, 1, none⟩ = some (.int .i64 B) := Rg.keep hb (by simp <;> omega) (by go_cell)
  have t2 : w1.cell? ⟨w.heap.size, 2, none⟩ = some (.int .i64 F) := Rg.keep hb (by simp <;> omega) (by go_cell)
  have t3 : w1.cell? ⟨w.heap.size, 3, none⟩ = some (.int .i64 R) := Rg.keep hb (by simp <;> omega) (by go_cell)
  have t4 : w1.cell? ⟨w.heap.size, 4, none⟩ = some (.int .i64 O) := Rg.keep hb (by simp <;> omega) (by go_cell)
  have lv : w.heap.size + 1 < w1.heap.size := Nat.lt_of_lt_of_le (by simp <;> omega) hb.size
  have v0 : w1.cell? ⟨w.heap.size + 1, 0, none⟩ = some (.int .i64 n) := Rg.keep hb (by simp <;> omega) (by go_cell)
  have v1 : w1.cell? ⟨w.heap.size + 1, 1, none⟩ = some (.int .i64 d) := Rg.keep hb (by simp <;> omega) (by go_cell)
  have lx : w.heap.size + 1 + 1 < w1.heap.size := Nat.lt_of_lt_of_le (by simp <;> omega) hb.size
  have x0 : w1.cell? ⟨w.heap.size + 1 + 1, 0, none⟩ = some (.int .i64 1) := Rg.keep hb (by simp <;> omega) (by go_cell)
  have x1 : w1.cell? ⟨w.heap.size + 1 + 1, 1, none⟩ = some (.int .i64 0) := Rg.keep hb (by simp <;> omega) (by go_cell)
  have x2 : w1.cell? ⟨w.heap.size + 1 + 1, 2, none⟩ = some (.int .i64 0) := Rg.keep hb (by simp <;> omega) (by go_cell)
  have x3 : w1.cell? ⟨w.heap.size + 1 + 1, 3, none⟩ = some (.int .i64 0) := Rg.keep hb (by simp <;> omega) (by go_cell)
  have x4 : w1.cell? ⟨w.heap.size + 1 + 1, 4, none⟩ = some (.int .i64 0) := Rg.keep hb (by simp <;> omega) (by go_cell)
  clear hb L
  go_wp2_with fail
  refine (VA.out _).mono ?_
  rintro e w2 ⟨rfl, hb⟩
  have L : Below w1.heap.size w1 w2 := (Below.refl _ _).trans (hb.mono (by simp <;> omega))
  have K2 : Below w.heap.size w w2 := K1.trans (L.mono K1.size)
  have t0 := Rg.keep L lt t0
  have t1 := Rg.keep L lt t1
  have t2 := Rg.keep L lt t2
  have t3 := Rg.keep L lt t3
  have t4 := Rg.keep L lt t4
  have v0 := Rg.keep L lv v0
  have v1 := Rg.keep L lv v1
  have x0 := Rg.keep L lx x0
  have x1 := Rg.keep L lx x1
  have x2 := Rg.keep L lx x2
  have x3 := Rg.keep L lx x3
  have x4 := Rg.keep L lx x4
  have lt := Nat.lt_of_lt_of_le lt L.size
  have lv := Nat.lt_of_lt_of_le lv L.size
  have lx := Nat.lt_of_lt_of_le lx L.size
  clear hb L
  go_wp2_with fail
  refine (CA.out _).mono ?_
  rintro e w3 ⟨rfl, hb⟩
  have L : Below w2.heap.size w2 w3 := (Below.refl _ _).trans (hb.mono (by simp <;> omega))
  have K3 : Below w.heap.size w w3 := K2.trans (L.mono K2.size)
  have t0 := Rg.keep L lt t0
  have t1 := Rg.keep L lt t1
  have t2 := Rg.keep L lt t2
  have t3 := Rg.keep L lt t3
  have t4 := Rg.keep L lt t4
  have v0 := Rg.keep L lv v0
  have v1 := Rg.keep L lv v1
  have x0 := Rg.keep L lx x0
  have x1 := Rg.keep L lx x1
  have x2 := Rg.keep L lx x2
  have x3 := Rg.keep L lx x3
  have x4 := Rg.keep L lx x4
  have lt := Nat.lt_of_lt_of_le lt L.size
  have lv := Nat.lt_of_lt_of_le lv L.size
  have lx := Nat.lt_of_lt_of_le lx L.size
  clear hb L
  go_wp2_with fail
  obtain ⟨zw4, hzw⟩ : ∃ zw4, zw4 = (w3.alloc (.cells #[.int .i64 N, .int .i64 1] 25)) := ⟨_, rfl⟩
  have hb : Below (w3.alloc (.cells #[.int .i64 N, .int .i64 1] 25)).heap.size (w3.alloc (.cells #[.int .i64 N, .int .i64 1] 25)) zw4 := by rw [hzw]; exact Below.refl _ _
  rw [← hzw]
  clear hzw
  have L : Below w3.heap.size w3 zw4 := ((Below.refl _ _).alloc (by simp <;> omega) _).trans (hb.mono (by simp <;> omega))
  have K4 : Below w.heap.size w zw4 := K3.trans (L.mono K3.size)
  have lr : w3.heap.size < zw4.heap.size := Nat.lt_of_lt_of_le (by simp <;> omega) hb.size
  have r0 : zw4.cell? ⟨w3.heap.size, 0, none⟩ = some (.int .i64 N) := Rg.keep hb (by simp <;> omega) (by go_cell)
  have r1 : zw4.cell? ⟨w3.heap.size, 1, none⟩ = some (.int .i64 1) := Rg.keep hb (by simp <;> omega) (by go_cell)
  have t0 := Rg.keep L lt t0
  have t1 := Rg.keep L lt t1
  have t2 := Rg.keep L lt t2
  have t3 := Rg.keep L lt t3
  have t4 := Rg.keep L lt t4
  have v0 := Rg.keep L lv v0
  have v1 := Rg.keep L lv v1
  have x0 := Rg.keep L lx x0
  have x1 := Rg.keep L lx x1
  have x2 := Rg.keep L lx x2
  have x3 := Rg.keep L lx x3
  have x4 := Rg.keep L lx x4
  have lt := Nat.lt_of_lt_of_le lt L.size
  have lv := Nat.lt_of_lt_of_le lv L.size
  have lx := Nat.lt_of_lt_of_le lx L.size
  clear hb L
  have hH := HH'.out
  go_quiet (fail)
  clear hH
  obtain ⟨yw5, hyw⟩ : ∃ yw5, yw5 = zw4.drewN nq := ⟨_, rfl⟩
  have hb : Below zw4.heap.size zw4 yw5 := by rw [hyw]; exact below_drewN (Below.refl _ _) _
  rw [← hyw]
  clear hyw
  have t0 := Rg.keep hb lt t0
  have t1 := Rg.keep hb lt t1
  have t2 := Rg.keep hb lt t2
  have t3 := Rg.keep hb lt t3
  have t4 := Rg.keep hb lt t4
  have v0 := Rg.keep hb lv v0
  have v1 := Rg.keep hb lv v1
  have x0 := Rg.keep hb lx x0
  have x1 := Rg.keep hb lx x1
  have x2 := Rg.keep hb lx x2
  have x3 := Rg.keep hb lx x3
  have x4 := Rg.keep hb lx x4
  have r0 := Rg.keep hb lr r0
  have r1 := Rg.keep hb lr r1
  have lt := Nat.lt_of_lt_of_le lt hb.size
  have lv := Nat.lt_of_lt_of_le lv hb.size
  have lx := Nat.lt_of_lt_of_le lx hb.size
  have lr := Nat.lt_of_lt_of_le lr hb.size
  have K5 : Below w.heap.size w yw5 := K4.trans (hb.mono K4.size)
  clear hb
  have b1 := B1'.out
  have hp := HP'.out
  have hQ := HQ'.out
  go_wp2_with fail
  refine (EX.out _).mono ?_
  rintro e w6 ⟨rfl, hb⟩
  have L : Below yw5.heap.size yw5 w6 := (Below.refl _ _).trans (hb.mono (by simp <;> omega))
  have K6 : Below w.heap.size w w6 := K5.trans (L.mono K5.size)
  have t0 := Rg.keep L lt t0
  have t1 := Rg.keep L lt t1
  have t2 := Rg.keep L lt t2
  have t3 := Rg.keep L lt t3
  have t4 := Rg.keep L lt t4
  have v0 := Rg.keep L lv v0
  have v1 := Rg.keep L lv v1
  have x0 := Rg.keep L lx x0
  have x1 := Rg.keep L lx x1
  have x2 := Rg.keep L lx x2
  have x3 := Rg.keep L lx x3
  have x4 := Rg.keep L lx x4
  have r0 := Rg.keep L lr r0
  have r1 := Rg.keep L lr r1
  have lt := Nat.lt_of_lt_of_le lt L.size
  have lv := Nat.lt_of_lt_of_le lv L.size
  have lx := Nat.lt_of_lt_of_le lx L.size
  have lr := Nat.lt_of_lt_of_le lr L.size
  clear hb L
  go_wp2
  go_ret
  exact ⟨rfl, K6⟩
set_option maxRecDepth 100000 in
set_option maxHeartbeats 16000000 in
theorem re_b2 (K B F R O n d N p H T Q S1 S2 fl ce P1 P2 : Int) (w : World) (k2 : (K != 2) = false) (hp : (2 : Int) ^ F.toNat = p) (p0 : 1 ≤ p) (p1 : p ≤ 1073741824) (f0 : 0 ≤ F) (f1 : F ≤ 30) (hH : (2 : Int) ^ (B.toNat - 1) = H) (H0 : 2 ≤ H) (H1 : H ≤ 1073741824) (g0 : 2 ≤ B) (g1 : B ≤ 31) (hQ : 2147483647 / p = Q) (Q0 : 1 ≤ Q) (Q1 : Q ≤ 2147483647) (N0 : -2147483648 ≤ N) (N1 : N ≤ 2147483648) (d0 : 1 ≤ d) (d1 : d ≤ 2147483647) (n0 : -2147483647 ≤ n) (n1 : n ≤ 2147483647) (VT : Hid (∀ w, Calls Tryd.prog 9 #[T5 K B F R O] w (Ret (.int .i64 0) w))) (VA : Hid (∀ w, Calls Tryd.prog 11 #[T5 1 0 0 0 0, V2 n d] w (Ret (.bool true) w))) (CA : Hid (∀ w, Calls Tryd.prog 16 #[T5 1 0 0 0 0, T5 K B F R O, V2 n d] w (Ret (Frac3 N 1 0) w))) (EX : Hid (∀ w, Calls Tryd.prog 15 #[] w (Ret (.bool true) w))) (b1 : (N == -H) = false) (b2 : (N == H - 1) = true) :
    Calls Tryd.prog 6 #[T5 K B F R O, V2 n d] w (Ret (.bool true) w) := by
  have HP' := Lib.hid hp
  have HH' := Lib.hid hH
  have HQ' := Lib.hid hQ
  have B1' := Lib.hid b1
  have B2' := Lib.hid b2
  clear hp hH hQ b1 b2
  go_enter Tryd.func6, Tryd.ntmps6
  go_wp2_with fail
  refine (VT.out _).mono ?_
  rintro e w1 ⟨rfl, hb⟩
  have L : Below w.heap.size w w1 := ((((Below.refl _ _).alloc (by simp <;> omega) _).alloc (by simp <;> omega) _).alloc (by simp <;> omega) _).trans (hb.mono (by simp <;> omega))
  have K1 : Below w.heap.size w w1 := L
  have lt : w.heap.size < w1.heap.size := Nat.lt_of_lt_of_le (by simp <;> omega) hb.size
  have t0 : w1.cell? ⟨w.heap.size, 0, none⟩ = some (.int .i64 K) := Rg.keep hb (by simp <;> omega) (by go_cell)
  have t1 : w1.cell? ⟨w.heap.size, 1, none⟩ = some (.int .i64 B) := Rg.keep hb (by simp <;> omega) (by go_cell)
  have t2 : w1.cell? ⟨w.heap.size, 2, none⟩ = some (.int .i64 F) := Rg.keep hb (by simp <;> omega) (by go_cell)
  have t3 : w1.cell? ⟨w.heap.size, 3, none⟩ = some (.int .i64 R) := Rg.keep hb (by simp <;> omega) (by go_cell)
  have t4 : w1.cell? ⟨w.heap.size, 4, none⟩ = some (.int .i64 O) := Rg.keep hb (by simp <;> omega) (by go_cell)
  have lv : w.heap.size + 1 < w1.heap.size := Nat.lt_of_lt_of_le (by simp <;> omega) hb.size
  have v0 : w1.cell? ⟨w.heap.size + 1, 0, none⟩ = some (.int .i64 n) := Rg.keep hb (by simp <;> omega) (by go_cell)
  have v1 : w1.cell? ⟨w.heap.size + 1, 1, none⟩ = some (.int .i64 d) := Rg.keep hb (by simp <;> omega) (by go_cell)
  have lx : w.heap.size + 1 + 1 < w1.heap.size := Nat.lt_of_lt_of_le (by simp <;> omega) hb.size
  have x0 : w1.cell? ⟨w.heap.size + 1 + 1, 0, none⟩ = some (.int .i64 1) := Rg.keep hb (by simp <;> omega) (by go_cell)
  have x1 : w1.cell? ⟨w.heap.size + 1 + 1, 1, none⟩ = some (.int .i64 0) := Rg.keep hb (by simp <;> omega) (by go_cell)
  have x2 : w1.cell? ⟨w.heap.size + 1 + 1, 2, none⟩ = some (.int .i64 0) := Rg.keep hb (by simp <;> omega) (by go_cell)
  have x3 : w1.cell? ⟨w.heap.size + 1 + 1, 3, none⟩ = some (.int .i64 0) := Rg.keep hb (by simp <;> omega) (by go_cell)
  have x4 : w1.cell? ⟨w.heap.size + 1 + 1, 4, none⟩ = some (.int .i64 0) := Rg.keep hb (by simp <;> omega) (by go_cell)
  clear hb L
  go_wp2_with fail
  refine (VA.out _).mono ?_
  rintro e w2 ⟨rfl, hb⟩
  have L : Below w1.heap.size w1 w2 := (Below.refl _ _).trans (hb.mono (by simp <;> omega))
  have K2 : Below w.heap.size w w2 := K1.trans (L.mono K1.size)
  have t0 := Rg.keep L lt t0
  have t1 := Rg.keep L lt t1
  have t2 := Rg.keep L lt t2
  have t3 := Rg.keep L lt t3
  have t4 := Rg.keep L lt t4
  have v0 := Rg.keep L lv v0
  have v1 := Rg.keep L lv v1
  have x0 := Rg.keep L lx x0
  have x1 := Rg.keep L lx x1
  have x2 := Rg.keep L lx x2
  have x3 := Rg.keep L lx x3
  have x4 := Rg.keep L lx x4
  have lt := Nat.lt_of_lt_of_le lt L.size
  have lv := Nat.lt_of_lt_of_le lv L.size
  have lx := Nat.lt_of_lt_of_le lx L.size
  clear hb L
  go_wp2_with fail
  refine (CA.out _).mono ?_
  rintro e w3 ⟨rfl, hb⟩
  have L : Below w2.heap.size w2 w3 := (Below.refl _ _).trans (hb.mono (by simp <;> omega))
  have K3 : Below w.heap.size w w3 := K2.trans (L.mono K2.size)
  have t0 := Rg.keep L lt t0
  have t1 := Rg.keep L lt t1
  have t2 := Rg.keep L lt t2
  have t3 := Rg.keep L lt t3
  have t4 := Rg.keep L lt t4
  have v0 := Rg.keep L lv v0
  have v1 := Rg.keep L lv v1
  have x0 := Rg.keep L lx x0
  have x1 := Rg.keep L lx x1
  have x2 := Rg.keep L lx x2
  have x3 := Rg.keep L lx x3
  have x4 := Rg.keep L lx x4
  have lt := Nat.lt_of_lt_of_le lt L.size
  have lv := Nat.lt_of_lt_of_le lv L.size
  have lx := Nat.lt_of_lt_of_le lx L.size
  clear hb L
  go_wp2_with fail
  obtain ⟨zw4, hzw⟩ : ∃ zw4, zw4 = (w3.alloc (.cells #[.int .i64 N, .int .i64 1] 25)) := ⟨_, rfl⟩
  have hb : Below (w3.alloc (.cells #[.int .i64 N, .int .i64 1] 25)).heap.size (w3.alloc (.cells #[.int .i64 N, .int .i64 1] 25)) zw4 := by rw [hzw]; exact Below.refl _ _
  rw [← hzw]
  clear hzw
  have L : Below w3.heap.size w3 zw4 := ((Below.refl _ _).alloc (by simp <;> omega) _).trans (hb.mono (by simp <;> omega))
  have K4 : Below w.heap.size w zw4 := K3.trans (L.mono K3.size)
  have lr : w3.heap.size < zw4.heap.size := Nat.lt_of_lt_of_le (by simp <;> omega) hb.size
  have r0 : zw4.cell? ⟨w3.heap.size, 0, none⟩ = some (.int .i64 N) := Rg.keep hb (by simp <;> omega) (by go_cell)
  have r1 : zw4.cell? ⟨w3.heap.size, 1, none⟩ = some (.int .i64 1) := Rg.keep hb (by simp <;> omega) (by go_cell)
  have t0 := Rg.keep L lt t0
  have t1 := Rg.keep L lt t1
  have t2 := Rg.keep L lt t2
  have t3 := Rg.keep L lt t3
  have t4 := Rg.keep L lt t4
  have v0 := Rg.keep L lv v0
  have v1 := Rg.keep L lv v1
  have x0 := Rg.keep L lx x0
  have x1 := Rg.keep L lx x1
  have x2 := Rg.keep L lx x2
  have x3 := Rg.keep L lx x3
  have x4 := Rg.keep L lx x4
  have lt := Nat.lt_of_lt_of_le lt L.size
  have lv := Nat.lt_of_lt_of_le lv L.size
  have lx := Nat.lt_of_lt_of_le lx L.size
  clear hb L
  have hH := HH'.out
  go_quiet (fail)
  clear hH
  obtain ⟨yw5, hyw⟩ : ∃ yw5, yw5 = zw4.drewN nq := ⟨_, rfl⟩
  have hb : Below zw4.heap.size zw4 yw5 := by rw [hyw]; exact below_drewN (Below.refl _ _) _
  rw [← hyw]
  clear hyw
  have t0 := Rg.keep hb lt t0
  have t1 := Rg.keep hb lt t1
  have t2 := Rg.keep hb lt t2
  have t3 := Rg.keep hb lt t3
  have t4 := Rg.keep hb lt t4
  have v0 := Rg.keep hb lv v0
  have v1 := Rg.keep hb lv v1
  have x0 := Rg.keep hb lx x0
  have x1 := Rg.keep hb lx x1
  have x2 := Rg.keep hb lx x2
  have x3 := Rg.keep hb lx x3
  have x4 := Rg.keep hb lx x4
  have r0 := Rg.keep hb lr r0
  have r1 := Rg.keep hb lr r1
  have lt := Nat.lt_of_lt_of_le lt hb.size
  have lv := Nat.lt_of_lt_of_le lv hb.size
  have lx := Nat.lt_of_lt_of_le lx hb.size
  have lr := Nat.lt_of_lt_of_le lr hb.size
  have K5 : Below w.heap.size w yw5 := K4.trans (hb.mono K4.size)
  clear hb
  have b1 := B1'.out
  have b2 := B2'.out
  have hp := HP'.out
  have hQ := HQ'.out
  go_wp2_with fail
  refine (EX.out _).mono ?_
  rintro e w6 ⟨rfl, hb⟩
  have L : Below yw5.heap.size yw5 w6 := (Below.refl _ _).trans (hb.mono (by simp <;> omega))
  have K6 : Below w.heap.size w w6 := K5.trans (L.mono K5.size)
  have t0 := Rg.keep L lt t0
  have t1 := Rg.keep L lt t1
  have t2 := Rg.keep L lt t2
  have t3 := Rg.keep L lt t3
  have t4 := Rg.keep L lt t4
  have v0 := Rg.keep L lv v0
  have v1 := Rg.keep L lv v1
  have x0 := Rg.keep L lx x0
  have x1 := Rg.keep L lx x1
  have x2 := Rg.keep L lx x2
  have x3 := Rg.keep L lx x3
  have x4 := Rg.keep L lx x4
  have r0 := Rg.keep L lr r0
  have r1 := Rg.keep L lr r1
  have lt := Nat.lt_of_lt_of_le lt L.size
  have lv := Nat.lt_of_lt_of_le lv L.size
  have lx := Nat.lt_of_lt_of_le lx L.size
  have lr := Nat.lt_of_lt_of_le lr L.size
  clear hb L
  go_wp2
  go_ret
  exact ⟨rfl, K6⟩
set_option maxRecDepth 100000 in
set_option maxHeartbeats 16000000 in
theorem re_b3 (K B F R O n d N p H T Q S1 S2 fl ce P1 P2 : Int) (w : World) (k2 : (K != 2) = false) (hp : (2 : Int) ^ F.toNat = p) (p0 : 1 ≤ p) (p1 : p ≤ 1073741824) (f0 : 0 ≤ F) (f1 : F ≤ 30) (hH : (2 : Int) ^ (B.toNat - 1) = H) (H0 : 2 ≤ H) (H1 : H ≤ 1073741824) (g0 : 2 ≤ B) (g1 : B ≤ 31) (hQ : 2147483647 / p = Q) (Q0 : 1 ≤ Q) (Q1 : Q ≤ 2147483647) (N0 : -2147483648 ≤ N) (N1 : N ≤ 2147483648) (d0 : 1 ≤ d) (d1 : d ≤ 2147483647) (n0 : -2147483647 ≤ n) (n1 : n ≤ 2147483647) (VT : Hid (∀ w, Calls Tryd.prog 9 #[T5 K B F R O] w (Ret (.int .i64 0) w))) (VA : Hid (∀ w, Calls Tryd.prog 11 #[T5 1 0 0 0 0, V2 n d] w (Ret (.bool true) w))) (CA : Hid (∀ w, Calls Tryd.prog 16 #[T5 1 0 0 0 0, T5 K B F R O, V2 n d] w (Ret (Frac3 N 1 0) w))) (EX : Hid (∀ w, Calls Tryd.prog 15 #[] w (Ret (.bool true) w))) (b1 : (N == -H) = false) (b2 : (N == H - 1) = false) (q3 : Q < n) :
    Calls Tryd.prog 6 #[T5 K B F R O, V2 n d] w (Ret (.bool true) w) := by
  have HP' := Lib.hid hp
  have HH' := Lib.hid hH
  have HQ' := Lib.hid hQ
  have B1' := Lib.hid b1
  have B2' := Lib.hid b2
  have Q3' := Lib.hid q3
  clear hp hH hQ b1 b2 q3
  go_enter Tryd.func6, Tryd.ntmps6
  go_wp2_with fail
  refine (VT.out _).mono ?_
  rintro e w1 ⟨rfl, hb⟩
  have L : Below w.heap.size w w1 := ((((Below.refl _ _).alloc (by simp <;> omega) _).alloc (by simp <;> omega) _).alloc (by simp <;> omega) _).trans (hb.mono (by simp <;> omega))
  have K1 : Below w.heap.size w w1 := L
  have lt : w.heap.size < w1.heap.size := Nat.lt_of_lt_of_le (by simp <;> omega) hb.size
  have t0 : w1.cell? ⟨w.heap.size, 0, none⟩ = some (.int .i64 K) := Rg.keep hb (by simp <;> omega) (by go_cell)
  have t1 : w1.cell? ⟨w.heap.size, 1, none⟩ = some (.int .i64 B) := Rg.keep hb (by simp <;> omega) (by go_cell)
  have t2 : w1.cell? ⟨w.heap.size, 2, none⟩ = some (.int .i64 F) := Rg.keep hb (by simp <;> omega) (by go_cell)
  have t3 : w1.cell? ⟨w.heap.size, 3, none⟩ = some (.int .i64 R) := Rg.keep hb (by simp <;> omega) (by go_cell)
  have t4 : w1.cell? ⟨w.heap.size, 4, none⟩ = some (.int .i64 O) := Rg.keep hb (by simp <;> omega) (by go_cell)
  have lv : w.heap.size + 1 < w1.heap.size := Nat.lt_of_lt_of_le (by simp <;> omega) hb.size
  have v0 : w1.cell? ⟨w.heap.size + 1, 0, none⟩ = some (.int .i64 n) := Rg.keep hb (by simp <;> omega) (by go_cell)
  have v1 : w1.cell? ⟨w.heap.size + 1, 1, none⟩ = some (.int .i64 d) := Rg.keep hb (by simp <;> omega) (by go_cell)
  have lx : w.heap.size + 1 + 1 < w1.heap.size := Nat.lt_of_lt_of_le (by simp <;> omega) hb.size
  have x0 : w1.cell? ⟨w.heap.size + 1 + 1, 0, none⟩ = some (.int .i64 1) := Rg.keep hb (by simp <;> omega) (by go_cell)
  have x1 : w1.cell? ⟨w.heap.size + 1 + 1, 1, none⟩ = some (.int .i64 0) := Rg.keep hb (by simp <;> omega) (by go_cell)
  have x2 : w1.cell? ⟨w.heap.size + 1 + 1, 2, none⟩ = some (.int .i64 0) := Rg.keep hb (by simp <;> omega) (by go_cell)
  have x3 : w1.cell? ⟨w.heap.size + 1 + 1, 3, none⟩ = some (.int .i64 0) := Rg.keep hb (by simp <;> omega) (by go_cell)
  have x4 : w1.cell? ⟨w.heap.size + 1 + 1, 4, none⟩ = some (.int .i64 0) := Rg.keep hb (by simp <;> omega) (by go_cell)
  clear hb L
  go_wp2_with fail
  refine (VA.out _).mono ?_
  rintro e w2 ⟨rfl, hb⟩
  have L : Below w1.heap.size w1 w2 := (Below.refl _ _).trans (hb.mono (by simp <;> omega))
  have K2 : Below w.heap.size w w2 := K1.trans (L.mono K1.size)
  have t0 := Rg.keep L lt t0
  have t1 := Rg.keep L lt t1
  have t2 := Rg.keep L lt t2
  have t3 := Rg.keep L lt t3
  have t4 := Rg.keep L lt t4
  have v0 := Rg.keep L lv v0
  have v1 := Rg.keep L lv v1
  have x0 := Rg.keep L lx x0
  have x1 := Rg.keep L lx x1
  have x2 := Rg.keep L lx x2
  have x3 := Rg.keep L lx x3
  have x4 := Rg.keep L lx x4
  have lt := Nat.lt_of_lt_of_le lt L.size
  have lv := Nat.lt_of_lt_of_le lv L.size
  have lx := Nat.lt_of_lt_of_le lx L.size
  clear hb L
  go_wp2_with fail
  refine (CA.out _).mono ?_
  rintro e w3 ⟨rfl, hb⟩
  have L : Below w2.heap.size w2 w3 := (Below.refl _ _).trans (hb.mono (by simp <;> omega))
  have K3 : Below w.heap.size w w3 := K2.trans (L.mono K2.size)
  have t0 := Rg.keep L lt t0
  have t1 := Rg.keep L lt t1
  have t2 := Rg.keep L lt t2
  have t3 := Rg.keep L lt t3
  have t4 := Rg.keep L lt t4
  have v0 := Rg.keep L lv v0
  have v1 := Rg.keep L lv v1
  have x0 := Rg.keep L lx x0
  have x1 := Rg.keep L lx x1
  have x2 := Rg.keep L lx x2
  have x3 := Rg.keep L lx x3
  have x4 := Rg.keep L lx x4
  have lt := Nat.lt_of_lt_of_le lt L.size
  have lv := Nat.lt_of_lt_of_le lv L.size
  have lx := Nat.lt_of_lt_of_le lx L.size
  clear hb L
  go_wp2_with fail
  obtain ⟨zw4, hzw⟩ : ∃ zw4, zw4 = (w3.alloc (.cells #[.int .i64 N, .int .i64 1] 25)) := ⟨_, rfl⟩
  have hb : Below (w3.alloc (.cells #[.int .i64 N, .int .i64 1] 25)).heap.size (w3.alloc (.cells #[.int .i64 N, .int .i64 1] 25)) zw4 := by rw [hzw]; exact Below.refl _ _
  rw [← hzw]
  clear hzw
  have L : Below w3.heap.size w3 zw4 := ((Below.refl _ _).alloc (by simp <;> omega) _).trans (hb.mono (by simp <;> omega))
  have K4 : Below w.heap.size w zw4 := K3.trans (L.mono K3.size)
  have lr : w3.heap.size < zw4.heap.size := Nat.lt_of_lt_of_le (by simp <;> omega) hb.size
  have r0 : zw4.cell? ⟨w3.heap.size, 0, none⟩ = some (.int .i64 N) := Rg.keep hb (by simp <;> omega) (by go_cell)
  have r1 : zw4.cell? ⟨w3.heap.size, 1, none⟩ = some (.int .i64 1) := Rg.keep hb (by simp <;> omega) (by go_cell)
  have t0 := Rg.keep L lt t0
  have t1 := Rg.keep L lt t1
  have t2 := Rg.keep L lt t2
  have t3 := Rg.keep L lt t3
  have t4 := Rg.keep L lt t4
  have v0 := Rg.keep L lv v0
  have v1 := Rg.keep L lv v1
  have x0 := Rg.keep L lx x0
  have x1 := Rg.keep L lx x1
  have x2 := Rg.keep L lx x2
  have x3 := Rg.keep L lx x3
  have x4 := Rg.keep L lx x4
  have lt := Nat.lt_of_lt_of_le lt L.size
  have lv := Nat.lt_of_lt_of_le lv L.size
  have lx := Nat.lt_of_lt_of_le lx L.size
  clear hb L
  have hH := HH'.out
  go_quiet (fail)
  clear hH
  obtain ⟨yw5, hyw⟩ : ∃ yw5, yw5 = zw4.drewN nq := ⟨_, rfl⟩
  have hb : Below zw4.heap.size zw4 yw5 := by rw [hyw]; exact below_drewN (Below.refl _ _) _
  rw [← hyw]
  clear hyw
  have t0 := Rg.keep hb lt t0
  have t1 := Rg.keep hb lt t1
  have t2 := Rg.keep hb lt t2
  have t3 := Rg.keep hb lt t3
  have t4 := Rg.keep hb lt t4
  have v0 := Rg.keep hb lv v0
  have v1 := Rg.keep hb lv v1
  have x0 := Rg.keep hb lx x0
  have x1 := Rg.keep hb lx x1
  have x2 := Rg.keep hb lx x2
  have x3 := Rg.keep hb lx x3
  have x4 := Rg.keep hb lx x4
  have r0 := Rg.keep hb lr r0
  have r1 := Rg.keep hb lr r1
  have lt := Nat.lt_of_lt_of_le lt hb.size
  have lv := Nat.lt_of_lt_of_le lv hb.size
  have lx := Nat.lt_of_lt_of_le lx hb.size
  have lr := Nat.lt_of_lt_of_le lr hb.size
  have K5 : Below w.heap.size w yw5 := K4.trans (hb.mono K4.size)
  clear hb
  have b1 := B1'.out
  have b2 := B2'.out
  have q3 := Q3'.out
  have hp := HP'.out
  have hQ := HQ'.out
  go_wp2_with fail
  refine (EX.out _).mono ?_
  rintro e w6 ⟨rfl, hb⟩
  have L : Below yw5.heap.size yw5 w6 := (Below.refl _ _).trans (hb.mono (by simp <;> omega))
  have K6 : Below w.heap.size w w6 := K5.trans (L.mono K5.size)
  have t0 := Rg.keep L lt t0
  have t1 := Rg.keep L lt t1
  have t2 := Rg.keep L lt t2
  have t3 := Rg.keep L lt t3
  have t4 := Rg.keep L lt t4
  have v0 := Rg.keep L lv v0
  have v1 := Rg.keep L lv v1
  have x0 := Rg.keep L lx x0
  have x1 := Rg.keep L lx x1
  have x2 := Rg.keep L lx x2
  have x3 := Rg.keep L lx x3
  have x4 := Rg.keep L lx x4
  have r0 := Rg.keep L lr r0
  have r1 := Rg.keep L lr r1
  have lt := Nat.lt_of_lt_of_le lt L.size
  have lv := Nat.lt_of_lt_of_le lv L.size
  have lx := Nat.lt_of_lt_of_le lx L.size
  have lr := Nat.lt_of_lt_of_le lr L.size
  clear hb L
  go_wp2
  go_ret
  exact ⟨rfl, K6⟩
set_option maxRecDepth 100000 in
set_option maxHeartbeats 16000000 in
theorem re_b4 (K B F R O n d N p H T Q S1 S2 fl ce P1 P2 : Int) (w : World) (k2 : (K != 2) = false) (hp : (2 : Int) ^ F.toNat = p) (p0 : 1 ≤ p) (p1 : p ≤ 1073741824) (f0 : 0 ≤ F) (f1 : F ≤ 30) (hH : (2 : Int) ^ (B.toNat - 1) = H) (H0 : 2 ≤ H) (H1 : H ≤ 1073741824) (g0 : 2 ≤ B) (g1 : B ≤ 31) (hQ : 2147483647 / p = Q) (Q0 : 1 ≤ Q) (Q1 : Q ≤ 2147483647) (N0 : -2147483648 ≤ N) (N1 : N ≤ 2147483648) (d0 : 1 ≤ d) (d1 : d ≤ 2147483647) (n0 : -2147483647 ≤ n) (n1 : n ≤ 2147483647) (VT : Hid (∀ w, Calls Tryd.prog 9 #[T5 K B F R O] w (Ret (.int .i64 0) w))) (VA : Hid (∀ w, Calls Tryd.prog 11 #[T5 1 0 0 0 0, V2 n d] w (Ret (.bool true) w))) (CA : Hid (∀ w, Calls Tryd.prog 16 #[T5 1 0 0 0 0, T5 K B F R O, V2 n d] w (Ret (Frac3 N 1 0) w))) (EX : Hid (∀ w, Calls Tryd.prog 15 #[] w (Ret (.bool true) w))) (b1 : (N == -H) = false) (b2 : (N == H - 1) = false) (q3 : n ≤ Q) (q4 : n < -Q) :
    Calls Tryd.prog 6 #[T5 K B F R O, V2 n d] w (Ret (.bool true) w) := by
  have HP' := Lib.hid hp
  have HH' := Lib.hid hH
  have HQ' := Lib.hid hQ
  have B1' := Lib.hid b1
  have B2' := Lib.hid b2
  have Q3' := Lib.hid q3
  have Q4' := Lib.hid q4
  clear hp hH hQ b1 b2 q3 q4
  go_enter Tryd.func6, Tryd.ntmps6
  go_wp2_with fail
  refine (VT.out _).mono ?_
  rintro e w1 ⟨rfl, hb⟩
  have L : Below w.heap.size w w1 := ((((Below.refl _ _).alloc (by simp <;> omega) _).alloc (by simp <;> omega) _).alloc (by simp <;> omega) _).trans (hb.mono (by simp <;> omega))
  have K1 : Below w.heap.size w w1 := L
  have lt : w.heap.size < w1.heap.size := Nat.lt_of_lt_of_le (by simp <;> omega) hb.size
  have t0 : w1.cell? ⟨w.heap.size, 0, none⟩ = some (.int .i64 K) := Rg.keep hb (by simp <;> omega) (by go_cell)
  have t1 : w1.cell? ⟨w.heap.size, 1, none⟩ = some (.int .i64 B) := Rg.keep hb (by simp <;> omega) (by go_cell)
  have t2 : w1.cell? ⟨w.heap.size, 2, none⟩ = some (.int .i64 F) := Rg.keep hb (by simp <;> omega) (by go_cell)
  have t3 : w1.cell? ⟨w.heap.size, 3, none⟩ = some (.int .i64 R) := Rg.keep hb (by simp <;> omega) (by go_cell)
  have t4 : w1.cell? ⟨w.heap.size, 4, none⟩ = some (.int .i64 O) := Rg.keep hb (by simp <;> omega) (by go_cell)
  have lv : w.heap.size + 1 < w1.heap.size := Nat.lt_of_lt_of_le (by simp <;> omega) hb.size
  have v0 : w1.cell? ⟨w.heap.size + 1, 0, none⟩ = some (.int .i64 n) := Rg.keep hb (by simp <;> omega) (by go_cell)
  have v1 : w1.cell? ⟨w.heap.size + 1, 1, none⟩ = some (.int .i64 d) := Rg.keep hb (by simp <;> omega) (by go_cell)
  have lx : w.heap.size + 1 + 1 < w1.heap.size := Nat.lt_of_lt_of_le (by simp <;> omega) hb.size
  have x0 : w1.cell? ⟨w.heap.size + 1 + 1, 0, none⟩ = some (.int .i64 1) := Rg.keep hb (by simp <;> omega) (by go_cell)
  have x1 : w1.cell? ⟨w.heap.size + 1 + 1, 1, none⟩ = some (.int .i64 0) := Rg.keep hb (by simp <;> omega) (by go_cell)
  have x2 : w1.cell? ⟨w.heap.size + 1 + 1, 2, none⟩ = some (.int .i64 0) := Rg.keep hb (by simp <;> omega) (by go_cell)
  have x3 : w1.cell? ⟨w.heap.size + 1 + 1, 3, none⟩ = some (.int .i64 0) := Rg.keep hb (by simp <;> omega) (by go_cell)
  have x4 : w1.cell? ⟨w.heap.size + 1 + 1, 4, none⟩ = some (.int .i64 0) := Rg.keep hb (by simp <;> omega) (by go_cell)
  clear hb L
  go_wp2_with fail
  refine (VA.out _).mono ?_
  rintro e w2 ⟨rfl, hb⟩
  have L : Below w1.heap.size w1 w2 := (Below.refl _ _).trans (hb.mono (by simp <;> omega))
  have K2 : Below w.heap.size w w2 := K1.trans (L.mono K1.size)
  have t0 := Rg.keep L lt t0
  have t1 := Rg.keep L lt t1
  have t2 := Rg.keep L lt t2
  have t3 := Rg.keep L lt t3
  have t4 := Rg.keep L lt t4
  have v0 := Rg.keep L lv v0
  have v1 := Rg.keep L lv v1
  have x0 := Rg.keep L lx x0
  have x1 := Rg.keep L lx x1
  have x2 := Rg.keep L lx x2
  have x3 := Rg.keep L lx x3
  have x4 := Rg.keep L lx x4
  have lt := Nat.lt_of_lt_of_le lt L.size
  have lv := Nat.lt_of_lt_of_le lv L.size
  have lx := Nat.lt_of_lt_of_le lx L.size
  clear hb L
  go_wp2_with fail
  refine (CA.out _).mono ?_
  rintro e w3 ⟨rfl, hb⟩
  have L : Below w2.heap.size w2 w3 := (Below.refl _ _).trans (hb.mono (by simp <;> omega))
  have K3 : Below w.heap.size w w3 := K2.trans (L.mono K2.size)
  have t0 := Rg.keep L lt t0
  have t1 := Rg.keep L lt t1
  have t2 := Rg.keep L lt t2
  have t3 := Rg.keep L lt t3
  have t4 := Rg.keep L lt t4
  have v0 := Rg.keep L lv v0
  have v1 := Rg.keep L lv v1
  have x0 := Rg.keep L lx x0
  have x1 := Rg.keep L lx x1
  have x2 := Rg.keep L lx x2
  have x3 := Rg.keep L lx x3
  have x4 := Rg.keep L lx x4
  have lt := Nat.lt_of_lt_of_le lt L.size
  have lv := Nat.lt_of_lt_of_le lv L.size
  have lx := Nat.lt_of_lt_of_le lx L.size
  clear hb L
  go_wp2_with fail
  obtain ⟨zw4, hzw⟩ : ∃ zw4, zw4 = (w3.alloc (.cells #[.int .i64 N, .int .i64 1] 25)) := ⟨_, rfl⟩
  have hb : Below (w3.alloc (.cells #[.int .i64 N, .int .i64 1] 25)).heap.size (w3.alloc (.cells #[.int .i64 N, .int .i64 1] 25)) zw4 := by rw [hzw]; exact Below.refl _ _
  rw [← hzw]
  clear hzw
  have L : Below w3.heap.size w3 zw4 := ((Below.refl _ _).alloc (by simp <;> omega) _).trans (hb.mono (by simp <;> omega))
  have K4 : Below w.heap.size w zw4 := K3.trans (L.mono K3.size)
  have lr : w3.heap.size < zw4.heap.size := Nat.lt_of_lt_of_le (by simp <;> omega) hb.size
  have r0 : zw4.cell? ⟨w3.heap.size, 0, none⟩ = some (.int .i64 N) := Rg.keep hb (by simp <;> omega) (by go_cell)
  have r1 : zw4.cell? ⟨w3.heap.size, 1, none⟩ = some (.int .i64 1) := Rg.keep hb (by simp <;> omega) (by go_cell)
  have t0 := Rg.keep L lt t0
  have t1 := Rg.keep L lt t1
  have t2 := Rg.keep L lt t2
  have t3 := Rg.keep L lt t3
  have t4 := Rg.keep L lt t4
  have v0 := Rg.keep L lv v0
  have v1 := Rg.keep L lv v1
  have x0 := Rg.keep L lx x0
  have x1 := Rg.keep L lx x1
  have x2 := Rg.keep L lx x2
  have x3 := Rg.keep L lx x3
  have x4 := Rg.keep L lx x4
  have lt := Nat.lt_of_lt_of_le lt L.size
  have lv := Nat.lt_of_lt_of_le lv L.size
  have lx := Nat.lt_of_lt_of_le lx L.size
  clear hb L
  have hH := HH'.out
  go_quiet (fail)
  clear hH
  obtain ⟨yw5, hyw⟩ : ∃ yw5, yw5 = zw4.drewN nq := ⟨_, rfl⟩
  have hb : Below zw4.heap.size zw4 yw5 := by rw [hyw]; exact below_drewN (Below.refl _ _) _
  rw [← hyw]
  clear hyw
  have t0 := Rg.keep hb lt t0
  have t1 := Rg.keep hb lt t1
  have t2 := Rg.keep hb lt t2
  have t3 := Rg.keep hb lt t3
  have t4 := Rg.keep hb lt t4
  have v0 := Rg.keep hb lv v0
  have v1 := Rg.keep hb lv v1
  have x0 := Rg.keep hb lx x0
  have x1 := Rg.keep hb lx x1
  have x2 := Rg.keep hb lx x2
  have x3 := Rg.keep hb lx x3
  have x4 := Rg.keep hb lx x4
  have r0 := Rg.keep hb lr r0
  have r1 := Rg.keep hb lr r1
  have lt := Nat.lt_of_lt_of_le lt hb.size
  have lv := Nat.lt_of_lt_of_le lv hb.size
  have lx := Nat.lt_of_lt_of_le lx hb.size
  have lr := Nat.lt_of_lt_of_le lr hb.size
  have K5 : Below w.heap.size w yw5 := K4.trans (hb.mono K4.size)
  clear hb
  have b1 := B1'.out
  have b2 := B2'.out
  have q3 := Q3'.out
  have q4 := Q4'.out
  have hp := HP'.out
  have hQ := HQ'.out
  go_wp2_with fail
  refine (EX.out _).mono ?_
  rintro e w6 ⟨rfl, hb⟩
  have L : Below yw5.heap.size yw5 w6 := (Below.refl _ _).trans (hb.mono (by simp <;> omega))
  have K6 : Below w.heap.size w w6 := K5.trans (L.mono K5.size)
  have t0 := Rg.keep L lt t0
  have t1 := Rg.keep L lt t1
  have t2 := Rg.keep L lt t2
  have t3 := Rg.keep L lt t3
  have t4 := Rg.keep L lt t4
  have v0 := Rg.keep L lv v0
  have v1 := Rg.keep L lv v1
  have x0 := Rg.keep L lx x0
  have x1 := Rg.keep L lx x1
  have x2 := Rg.keep L lx x2
  have x3 := Rg.keep L lx x3
  have x4 := Rg.keep L lx x4
  have r0 := Rg.keep L lr r0
  have r1 := Rg.keep L lr r1
  have lt := Nat.lt_of_lt_of_le lt L.size
  have lv := Nat.lt_of_lt_of_le lv L.size
  have lx := Nat.lt_of_lt_of_le lx L.size
  have lr := Nat.lt_of_lt_of_le lr L.size
  clear hb L
  go_wp2
  go_ret
  exact ⟨rfl, K6⟩
set_option maxRecDepth 100000 in
set_option maxHeartbeats 16000000 in
theorem re_c0 (K B F R O n d N p H T Q S1 S2 fl ce P1 P2 : Int) (w : World) (k2 : (K != 2) = false) (hp : (2 : Int) ^ F.toNat = p) (p0 : 1 ≤ p) (p1 : p ≤ 1073741824) (f0 : 0 ≤ F) (f1 : F ≤ 30) (hH : (2 : Int) ^ (B.toNat - 1) = H) (H0 : 2 ≤ H) (H1 : H ≤ 1073741824) (g0 : 2 ≤ B) (g1 : B ≤ 31) (hQ : 2147483647 / p = Q) (Q0 : 1 ≤ Q) (Q1 : Q ≤ 2147483647) (N0 : -2147483648 ≤ N) (N1 : N ≤ 2147483648) (d0 : 1 ≤ d) (d1 : d ≤ 2147483647) (n0 : -2147483647 ≤ n) (n1 : n ≤ 2147483647) (VT : Hid (∀ w, Calls Tryd.prog 9 #[T5 K B F R O] w (Ret (.int .i64 0) w))) (VA : Hid (∀ w, Calls Tryd.prog 11 #[T5 1 0 0 0 0, V2 n d] w (Ret (.bool true) w))) (CA : Hid (∀ w, Calls Tryd.prog 16 #[T5 1 0 0 0 0, T5 K B F R O, V2 n d] w (Ret (Frac3 N 1 0) w))) (EX : Hid (∀ w, Calls Tryd.prog 15 #[] w (Ret (.bool true) w))) (FL : Hid (∀ w, Calls Tryd.prog 20 #[V2 n d] w (Ret (.int .i64 fl) w))) (CE : Hid (∀ w, Calls Tryd.prog 21 #[V2 n d] w (Ret (.int .i64 ce) w))) (b1 : (N == -H) = false) (b2 : (N == H - 1) = false) (q3 : n ≤ Q) (q4 : -Q ≤ n) (hT : n * p = T) (T0 : -2147483647 ≤ T) (T1 : T ≤ 2147483647) (hS1 : -H / p = S1) (hS2 : (H - 1) / p = S2) (s0 : -2147483648 ≤ S1) (s1 : S1 ≤ 2147483648) (s2 : -2147483648 ≤ S2) (s3 : S2 ≤ 2147483648) (hP1 : (N - 1) * d = P1) (hP2 : (N + 1) * d = P2) (c1 : -9223372036854775808 ≤ P1) (c2 : P1 ≤ 9223372036854775807) (c3 : -9223372036854775808 ≤ P2) (c4 : P2 ≤ 9223372036854775807) (e1 : P1 < T) (e2 : T < P2) (b5 : (O == 2) = false) :
    Calls Tryd.prog 6 #[T5 K B F R O, V2 n d] w (Ret (.bool true) w) := by
  have HP' := Lib.hid hp
  have HH' := Lib.hid hH
  have HQ' := Lib.hid hQ
  have B1' := Lib.hid b1
  have B2' := Lib.hid b2
  have Q3' := Lib.hid q3
  have Q4' := Lib.hid q4
  have HT' := Lib.hid hT
  have HS1' := Lib.hid hS1
  have HS2' := Lib.hid hS2
  have HP1' := Lib.hid hP1
  have HP2' := Lib.hid hP2
  have E1' := Lib.hid e1
  have E2' := Lib.hid e2
  have B5' := Lib.hid b5
  clear hp hH hQ b1 b2 q3 q4 hT hS1 hS2 hP1 hP2 e1 e2 b5
  go_enter Tryd.func6, Tryd.ntmps6
  go_wp2_with fail
  refine (VT.out _).mono ?_
  rintro e w1 ⟨rfl, hb⟩
  have L : Below w.heap.size w w1 := ((((Below.refl _ _).alloc (by simp <;> omega) _).alloc (by simp <;> omega) _).alloc (by simp <;> omega) _).trans (hb.mono (by simp <;> omega))
  have K1 : Below w.heap.size w w1 := L
  have lt : w.heap.size < w1.heap.size := Nat.lt_of_lt_of_le (by simp <;> omega) hb.size
  have t0 : w1.cell? ⟨w.heap.size, 0, none⟩ = some (.int .i64 K) := Rg.keep hb (by simp <;> omega) (by go_cell)
  have t1 : w1.cell? ⟨w.heap.size, 1, none⟩ = some (.int .i64 B) := Rg.keep hb (by simp <;> omega) (by go_cell)
  have t2 : w1.cell? ⟨w.heap.size, 2, none⟩ = some (.int .i64 F) := Rg.keep hb (by simp <;> omega) (by go_cell)
  have t3 : w1.cell? ⟨w.heap.size, 3, none⟩ = some (.int .i64 R) := Rg.keep hb (by simp <;> omega) (by go_cell)
  have t4 : w1.cell? ⟨w.heap.size, 4, none⟩ = some (.int .i64 O) := Rg.keep hb (by simp <;> omega) (by go_cell)
  have lv : w.heap.size + 1 < w1.heap.size := Nat.lt_of_lt_of_le (by simp <;> omega) hb.size
  have v0 : w1.cell? ⟨w.heap.size + 1, 0, none⟩ = some (.int .i64 n) := Rg.keep hb (by simp <;> omega) (by go_cell)
  have v1 : w1.cell? ⟨w.heap.size + 1, 1, none⟩ = some (.int .i64 d) := Rg.keep hb (by simp <;> omega) (by go_cell)
  have lx : w.heap.size + 1 + 1 < w1.heap.size := Nat.lt_of_lt_of_le (by simp <;> omega) hb.size
  have x0 : w1.cell? ⟨w.heap.size + 1 + 1, 0, none⟩ = some (.int .i64 1) := Rg.keep hb (by simp <;> omega) (by go_cell)
  have x1 : w1.cell? ⟨w.heap.size + 1 + 1, 1, none⟩ = some (.int .i64 0) := Rg.keep hb (by simp <;> omega) (by go_cell)
  have x2 : w1.cell? ⟨w.heap.size + 1 + 1, 2, none⟩ = some (.int .i64 0) := Rg.keep hb (by simp <;> omega) (by go_cell)
  have x3 : w1.cell? ⟨w.heap.size + 1 + 1, 3, none⟩ = some (.int .i64 0) := Rg.keep hb (by simp <;> omega) (by go_cell)
  have x4 : w1.cell? ⟨w.heap.size + 1 + 1, 4, none⟩ = some (.int .i64 0) := Rg.keep hb (by simp <;> omega) (by go_cell)
  clear hb L
  go_wp2_with fail
  refine (VA.out _).mono ?_
  rintro e w2 ⟨rfl, hb⟩
  have L : Below w1.heap.size w1 w2 := (Below.refl _ _).trans (hb.mono (by simp <;> omega))
  have K2 : Below w.heap.size w w2 := K1.trans (L.mono K1.size)
  have t0 := Rg.keep L lt t0
  have t1 := Rg.keep L lt t1
  have t2 := Rg.keep L lt t2
  have t3 := Rg.keep L lt t3
  have t4 := Rg.keep L lt t4
  have v0 := Rg.keep L lv v0
  have v1 := Rg.keep L lv v1
  have x0 := Rg.keep L lx x0
  have x1 := Rg.keep L lx x1
  have x2 := Rg.keep L lx x2
  have x3 := Rg.keep L lx x3
  have x4 := Rg.keep L lx x4
  have lt := Nat.lt_of_lt_of_le lt L.size
  have lv := Nat.lt_of_lt_of_le lv L.size
  have lx := Nat.lt_of_lt_of_le lx L.size
  clear hb L
  go_wp2_with fail
  refine (CA.out _).mono ?_
  rintro e w3 ⟨rfl, hb⟩
  have L : Below w2.heap.size w2 w3 := (Below.refl _ _).trans (hb.mono (by simp <;> omega))
  have K3 : Below w.heap.size w w3 := K2.trans (L.mono K2.size)
  have t0 := Rg.keep L lt t0
  have t1 := Rg.keep L lt t1
  have t2 := Rg.keep L lt t2
  have t3 := Rg.keep L lt t3
  have t4 := Rg.keep L lt t4
  have v0 := Rg.keep L lv v0
  have v1 := Rg.keep L lv v1
  have x0 := Rg.keep L lx x0
  have x1 := Rg.keep L lx x1
  have x2 := Rg.keep L lx x2
  have x3 := Rg.keep L lx x3
  have x4 := Rg.keep L lx x4
  have lt := Nat.lt_of_lt_of_le lt L.size
  have lv := Nat.lt_of_lt_of_le lv L.size
  have lx := Nat.lt_of_lt_of_le lx L.size
  clear hb L
  go_wp2_with fail
  obtain ⟨zw4, hzw⟩ : ∃ zw4, zw4 = (w3.alloc (.cells #[.int .i64 N, .int .i64 1] 25)) := ⟨_, rfl⟩
  have hb : Below (w3.alloc (.cells #[.int .i64 N, .int .i64 1] 25)).heap.size (w3.alloc (.cells #[.int .i64 N, .int .i64 1] 25)) zw4 := by rw [hzw]; exact Below.refl _ _
  rw [← hzw]
  clear hzw
  have L : Below w3.heap.size w3 zw4 := ((Below.refl _ _).alloc (by simp <;> omega) _).trans (hb.mono (by simp <;> omega))
  have K4 : Below w.heap.size w zw4 := K3.trans (L.mono K3.size)
  have lr : w3.heap.size < zw4.heap.size := Nat.lt_of_lt_of_le (by simp <;> omega) hb.size
  have r0 : zw4.cell? ⟨w3.heap.size, 0, none⟩ = some (.int .i64 N) := Rg.keep hb (by simp <;> omega) (by go_cell)
  have r1 : zw4.cell? ⟨w3.heap.size, 1, none⟩ = some (.int .i64 1) := Rg.keep hb (by simp <;> omega) (by go_cell)
  have t0 := Rg.keep L lt t0
  have t1 := Rg.keep L lt t1
  have t2 := Rg.keep L lt t2
  have t3 := Rg.keep L lt t3
  have t4 := Rg.keep L lt t4
  have v0 := Rg.keep L lv v0
  have v1 := Rg.keep L lv v1
  have x0 := Rg.keep L lx x0
  have x1 := Rg.keep L lx x1
  have x2 := Rg.keep L lx x2
  have x3 := Rg.keep L lx x3
  have x4 := Rg.keep L lx x4
  have lt := Nat.lt_of_lt_of_le lt L.size
  have lv := Nat.lt_of_lt_of_le lv L.size
  have lx := Nat.lt_of_lt_of_le lx L.size
  clear hb L
  have hH := HH'.out
  go_quiet (fail)
  clear hH
  obtain ⟨yw5, hyw⟩ : ∃ yw5, yw5 = zw4.drewN nq := ⟨_, rfl⟩
  have hb : Below zw4.heap.size zw4 yw5 := by rw [hyw]; exact below_drewN (Below.refl _ _) _
  rw [← hyw]
  clear hyw
  have t0 := Rg.keep hb lt t0
  have t1 := Rg.keep hb lt t1
  have t2 := Rg.keep hb lt t2
  have t3 := Rg.keep hb lt t3
  have t4 := Rg.keep hb lt t4
  have v0 := Rg.keep hb lv v0
  have v1 := Rg.keep hb lv v1
  have x0 := Rg.keep hb lx x0
  have x1 := Rg.keep hb lx x1
  have x2 := Rg.keep hb lx x2
  have x3 := Rg.keep hb lx x3
  have x4 := Rg.keep hb lx x4
  have r0 := Rg.keep hb lr r0
  have r1 := Rg.keep hb lr r1
  have lt := Nat.lt_of_lt_of_le lt hb.size
  have lv := Nat.lt_of_lt_of_le lv hb.size
  have lx := Nat.lt_of_lt_of_le lx hb.size
  have lr := Nat.lt_of_lt_of_le lr hb.size
  have K5 : Below w.heap.size w yw5 := K4.trans (hb.mono K4.size)
  clear hb
  have b1 := B1'.out
  have b2 := B2'.out
  have q3 := Q3'.out
  have q4 := Q4'.out
  have hp := HP'.out
  have hQ := HQ'.out
  have hT := HT'.out
  go_wp2_with fail
  clear hT b1 b2 q3 q4 hQ
  have hpm : (2 : Int) ^ min (IntKind.u64.wrap F).toNat 64 = p := by rw [IntWalk.u64_in F (by omega), Nat.min_eq_left (by omega)]; exact hp
  have hS1 := HS1'.out
  have hS2 := HS2'.out
  have b5 := B5'.out
  have hz : yw5.cell? ⟨w.heap.size, 1, none⟩ = some (.int .i64 B) ∧ yw5.cell? ⟨w.heap.size, 2, none⟩ = some (.int .i64 F) ∧ yw5.cell? ⟨w.heap.size, 4, none⟩ = some (.int .i64 O) ∧ yw5.cell? ⟨w.heap.size + 1, 0, none⟩ = some (.int .i64 n) ∧ yw5.cell? ⟨w.heap.size + 1, 1, none⟩ = some (.int .i64 d) ∧ yw5.cell? ⟨w3.heap.size, 0, none⟩ = some (.int .i64 N) ∧ yw5.cell? ⟨w3.heap.size, 1, none⟩ = some (.int .i64 1) ∧ yw5.heap.size ≤ yw5.heap.size ∧ Below w.heap.size w yw5 := ⟨t1, t2, t4, v0, v1, r0, r1, Nat.le_refl _, K5⟩
  clear t0 t1 t2 t3 t4 v0 v1 x0 x1 x2 x3 x4 r0 r1 K5
  have HS : Hid (∀ u u' : World, (u.cell? ⟨w.heap.size, 1, none⟩ = some (.int .i64 B) ∧ u.cell? ⟨w.heap.size, 2, none⟩ = some (.int .i64 F) ∧ u.cell? ⟨w.heap.size, 4, none⟩ = some (.int .i64 O) ∧ u.cell? ⟨w.heap.size + 1, 0, none⟩ = some (.int .i64 n) ∧ u.cell? ⟨w.heap.size + 1, 1, none⟩ = some (.int .i64 d) ∧ u.cell? ⟨w3.heap.size, 0, none⟩ = some (.int .i64 N) ∧ u.cell? ⟨w3.heap.size, 1, none⟩ = some (.int .i64 1) ∧ yw5.heap.size ≤ u.heap.size ∧ Below w.heap.size w u) → Below u.heap.size u u' → (u'.cell? ⟨w.heap.size, 1, none⟩ = some (.int .i64 B) ∧ u'.cell? ⟨w.heap.size, 2, none⟩ = some (.int .i64 F) ∧ u'.cell? ⟨w.heap.size, 4, none⟩ = some (.int .i64 O) ∧ u'.cell? ⟨w.heap.size + 1, 0, none⟩ = some (.int .i64 n) ∧ u'.cell? ⟨w.heap.size + 1, 1, none⟩ = some (.int .i64 d) ∧ u'.cell? ⟨w3.heap.size, 0, none⟩ = some (.int .i64 N) ∧ u'.cell? ⟨w3.heap.size, 1, none⟩ = some (.int .i64 1) ∧ yw5.heap.size ≤ u'.heap.size ∧ Below w.heap.size w u')) := Lib.hid (fun u u' h hb => ⟨Rg.keep hb (Nat.lt_of_lt_of_le lt h.2.2.2.2.2.2.2.1) h.1, Rg.keep hb (Nat.lt_of_lt_of_le lt h.2.2.2.2.2.2.2.1) h.2.1, Rg.keep hb (Nat.lt_of_lt_of_le lt h.2.2.2.2.2.2.2.1) h.2.2.1, Rg.keep hb (Nat.lt_of_lt_of_le lv h.2.2.2.2.2.2.2.1) h.2.2.2.1, Rg.keep hb (Nat.lt_of_lt_of_le lv h.2.2.2.2.2.2.2.1) h.2.2.2.2.1, Rg.keep hb (Nat.lt_of_lt_of_le lr h.2.2.2.2.2.2.2.1) h.2.2.2.2.2.1, Rg.keep hb (Nat.lt_of_lt_of_le lr h.2.2.2.2.2.2.2.1) h.2.2.2.2.2.2.1, Nat.le_trans h.2.2.2.2.2.2.2.1 hb.size, h.2.2.2.2.2.2.2.2.trans (hb.mono h.2.2.2.2.2.2.2.2.size)⟩)
  refine wp_region_held_drew (S := fun w' => w'.cell? ⟨w.heap.size, 1, none⟩ = some (.int .i64 B) ∧ w'.cell? ⟨w.heap.size, 2, none⟩ = some (.int .i64 F) ∧ w'.cell? ⟨w.heap.size, 4, none⟩ = some (.int .i64 O) ∧ w'.cell? ⟨w.heap.size + 1, 0, none⟩ = some (.int .i64 n) ∧ w'.cell? ⟨w.heap.size + 1, 1, none⟩ = some (.int .i64 d) ∧ w'.cell? ⟨w3.heap.size, 0, none⟩ = some (.int .i64 N) ∧ w'.cell? ⟨w3.heap.size, 1, none⟩ = some (.int .i64 1) ∧ yw5.heap.size ≤ w'.heap.size ∧ Below w.heap.size w w') (by kernel_rfl) (HS.out _ _ hz (Below.drew (Below.refl _ _))) (fun hHeld => ?_)
  refine Rg.take (i := 0) (v := ?_) rfl (by kernel_rfl) (by kernel_rfl) (by kernel_rfl) (fun _ _ _ h => h) (Or.inl ⟨by kernel_rfl, ?_⟩) (by assumption) ?_
  rotate_left
  · ((intro w hSw; (try dsimp only at hSw); go_simp) <;> with_reducible rfl)
  try simp only [Act.put, List.setIfInBounds_toArray, List.set_cons_zero, List.set_cons_succ]
  refine Rg.take (i := 1) (v := ?_) rfl (by kernel_rfl) (by kernel_rfl) (by kernel_rfl) (fun _ _ _ h => h) (Or.inl ⟨by kernel_rfl, ?_⟩) (by assumption) ?_
  rotate_left
  · ((intro w hSw; (try dsimp only at hSw); go_simp) <;> with_reducible rfl)
  try simp only [Act.put, List.setIfInBounds_toArray, List.set_cons_zero, List.set_cons_succ]
  refine Rg.take (i := 2) (v := ?_) rfl (by kernel_rfl) (by kernel_rfl) (by kernel_rfl) (fun _ _ _ h => h) (Or.inl ⟨by kernel_rfl, ?_⟩) (by assumption) ?_
  rotate_left
  · ((intro w hSw; (try dsimp only at hSw); go_simp) <;> with_reducible rfl)
  try simp only [Act.put, List.setIfInBounds_toArray, List.set_cons_zero, List.set_cons_succ]
  refine Rg.take (i := 3) (v := ?_) rfl (by kernel_rfl) (by kernel_rfl) (by kernel_rfl) (fun _ _ _ h => h) (Or.inl ⟨by kernel_rfl, ?_⟩) (by assumption) ?_
  rotate_left
  · ((intro w hSw; (try dsimp only at hSw); go_simp) <;> with_reducible rfl)
  try simp only [Act.put, List.setIfInBounds_toArray, List.set_cons_zero, List.set_cons_succ]
  refine Rg.take (i := 4) (v := undef) rfl (by kernel_rfl) (by kernel_rfl) (by kernel_rfl) (fun _ _ _ h => h) (Or.inr ⟨by kernel_rfl, rfl⟩) (by assumption) ?_
  try simp only [Act.put, List.setIfInBounds_toArray, List.set_cons_zero, List.set_cons_succ]
  refine Rg.take (i := 5) (v := undef) rfl (by kernel_rfl) (by kernel_rfl) (by kernel_rfl) (fun _ _ _ h => h) (Or.inr ⟨by kernel_rfl, rfl⟩) (by assumption) ?_
  try simp only [Act.put, List.setIfInBounds_toArray, List.set_cons_zero, List.set_cons_succ]
  refine Rg.take (i := 6) (v := undef) rfl (by kernel_rfl) (by kernel_rfl) (by kernel_rfl) (fun _ _ _ h => h) (Or.inr ⟨by kernel_rfl, rfl⟩) (by assumption) ?_
  try simp only [Act.put, List.setIfInBounds_toArray, List.set_cons_zero, List.set_cons_succ]
  refine Rg.take (i := 7) (v := undef) rfl (by kernel_rfl) (by kernel_rfl) (by kernel_rfl) (fun _ _ _ h => h) (Or.inr ⟨by kernel_rfl, rfl⟩) (by assumption) ?_
  try simp only [Act.put, List.setIfInBounds_toArray, List.set_cons_zero, List.set_cons_succ]
  refine Rg.take (i := 8) (v := undef) rfl (by kernel_rfl) (by kernel_rfl) (by kernel_rfl) (fun _ _ _ h => h) (Or.inr ⟨by kernel_rfl, rfl⟩) (by assumption) ?_
  try simp only [Act.put, List.setIfInBounds_toArray, List.set_cons_zero, List.set_cons_succ]
  refine Rg.take (i := 9) (v := undef) rfl (by kernel_rfl) (by kernel_rfl) (by kernel_rfl) (fun _ _ _ h => h) (Or.inr ⟨by kernel_rfl, rfl⟩) (by assumption) ?_
  try simp only [Act.put, List.setIfInBounds_toArray, List.set_cons_zero, List.set_cons_succ]
  refine Rg.take (i := 10) (v := undef) rfl (by kernel_rfl) (by kernel_rfl) (by kernel_rfl) (fun _ _ _ h => h) (Or.inr ⟨by kernel_rfl, rfl⟩) (by assumption) ?_
  try simp only [Act.put, List.setIfInBounds_toArray, List.set_cons_zero, List.set_cons_succ]
  refine Rg.take (i := 11) (v := undef) rfl (by kernel_rfl) (by kernel_rfl) (by kernel_rfl) (fun _ _ _ h => h) (Or.inr ⟨by kernel_rfl, rfl⟩) (by assumption) ?_
  try simp only [Act.put, List.setIfInBounds_toArray, List.set_cons_zero, List.set_cons_succ]
  refine Rg.take (i := 12) (v := undef) rfl (by kernel_rfl) (by kernel_rfl) (by kernel_rfl) (fun _ _ _ h => h) (Or.inr ⟨by kernel_rfl, rfl⟩) (by assumption) ?_
  try simp only [Act.put, List.setIfInBounds_toArray, List.set_cons_zero, List.set_cons_succ]
  refine Rg.take (i := 13) (v := undef) rfl (by kernel_rfl) (by kernel_rfl) (by kernel_rfl) (fun _ _ _ h => h) (Or.inr ⟨by kernel_rfl, rfl⟩) (by assumption) ?_
  try simp only [Act.put, List.setIfInBounds_toArray, List.set_cons_zero, List.set_cons_succ]
  refine Rg.take (i := 14) (v := undef) rfl (by kernel_rfl) (by kernel_rfl) (by kernel_rfl) (fun _ _ _ h => h) (Or.inr ⟨by kernel_rfl, rfl⟩) (by assumption) ?_
  try simp only [Act.put, List.setIfInBounds_toArray, List.set_cons_zero, List.set_cons_succ]
  refine Rg.take (i := 15) (v := undef) rfl (by kernel_rfl) (by kernel_rfl) (by kernel_rfl) (fun _ _ _ h => h) (Or.inr ⟨by kernel_rfl, rfl⟩) (by assumption) ?_
  try simp only [Act.put, List.setIfInBounds_toArray, List.set_cons_zero, List.set_cons_succ]
  refine Rg.take (i := 16) (v := undef) rfl (by kernel_rfl) (by kernel_rfl) (by kernel_rfl) (fun _ _ _ h => h) (Or.inr ⟨by kernel_rfl, rfl⟩) (by assumption) ?_
  try simp only [Act.put, List.setIfInBounds_toArray, List.set_cons_zero, List.set_cons_succ]
  refine Rg.take (i := 17) (v := undef) rfl (by kernel_rfl) (by kernel_rfl) (by kernel_rfl) (fun _ _ _ h => h) (Or.inr ⟨by kernel_rfl, rfl⟩) (by assumption) ?_
  try simp only [Act.put, List.setIfInBounds_toArray, List.set_cons_zero, List.set_cons_succ]
  refine Rg.take (i := 18) (v := undef) rfl (by kernel_rfl) (by kernel_rfl) (by kernel_rfl) (fun _ _ _ h => h) (Or.inr ⟨by kernel_rfl, rfl⟩) (by assumption) ?_
  try simp only [Act.put, List.setIfInBounds_toArray, List.set_cons_zero, List.set_cons_succ]
  refine Rg.take (i := 19) (v := undef) rfl (by kernel_rfl) (by kernel_rfl) (by kernel_rfl) (fun _ _ _ h => h) (Or.inr ⟨by kernel_rfl, rfl⟩) (by assumption) ?_
  try simp only [Act.put, List.setIfInBounds_toArray, List.set_cons_zero, List.set_cons_succ]
  refine Rg.take (i := 20) (v := undef) rfl (by kernel_rfl) (by kernel_rfl) (by kernel_rfl) (fun _ _ _ h => h) (Or.inr ⟨by kernel_rfl, rfl⟩) (by assumption) ?_
  try simp only [Act.put, List.setIfInBounds_toArray, List.set_cons_zero, List.set_cons_succ]
  refine Rg.take (i := 21) (v := undef) rfl (by kernel_rfl) (by kernel_rfl) (by kernel_rfl) (fun _ _ _ h => h) (Or.inr ⟨by kernel_rfl, rfl⟩) (by assumption) ?_
  try simp only [Act.put, List.setIfInBounds_toArray, List.set_cons_zero, List.set_cons_succ]
  refine Rg.take (i := 22) (v := undef) rfl (by kernel_rfl) (by kernel_rfl) (by kernel_rfl) (fun _ _ _ h => h) (Or.inr ⟨by kernel_rfl, rfl⟩) (by assumption) ?_
  try simp only [Act.put, List.setIfInBounds_toArray, List.set_cons_zero, List.set_cons_succ]
  refine Rg.take (i := 23) (v := undef) rfl (by kernel_rfl) (by kernel_rfl) (by kernel_rfl) (fun _ _ _ h => h) (Or.inr ⟨by kernel_rfl, rfl⟩) (by assumption) ?_
  try simp only [Act.put, List.setIfInBounds_toArray, List.set_cons_zero, List.set_cons_succ]
  refine Rg.take (i := 24) (v := undef) rfl (by kernel_rfl) (by kernel_rfl) (by kernel_rfl) (fun _ _ _ h => h) (Or.inr ⟨by kernel_rfl, rfl⟩) (by assumption) ?_
  try simp only [Act.put, List.setIfInBounds_toArray, List.set_cons_zero, List.set_cons_succ]
  refine Rg.take (i := 25) (v := undef) rfl (by kernel_rfl) (by kernel_rfl) (by kernel_rfl) (fun _ _ _ h => h) (Or.inr ⟨by kernel_rfl, rfl⟩) (by assumption) ?_
  try simp only [Act.put, List.setIfInBounds_toArray, List.set_cons_zero, List.set_cons_succ]
  refine Rg.take (i := 26) (v := undef) rfl (by kernel_rfl) (by kernel_rfl) (by kernel_rfl) (fun _ _ _ h => h) (Or.inr ⟨by kernel_rfl, rfl⟩) (by assumption) ?_
  try simp only [Act.put, List.setIfInBounds_toArray, List.set_cons_zero, List.set_cons_succ]
  refine Rg.take (i := 27) (v := undef) rfl (by kernel_rfl) (by kernel_rfl) (by kernel_rfl) (fun _ _ _ h => h) (Or.inr ⟨by kernel_rfl, rfl⟩) (by assumption) ?_
  try simp only [Act.put, List.setIfInBounds_toArray, List.set_cons_zero, List.set_cons_succ]
  refine Rg.take (i := 28) (v := undef) rfl (by kernel_rfl) (by kernel_rfl) (by kernel_rfl) (fun _ _ _ h => h) (Or.inr ⟨by kernel_rfl, rfl⟩) (by assumption) ?_
  try simp only [Act.put, List.setIfInBounds_toArray, List.set_cons_zero, List.set_cons_succ]
  refine Rg.take (i := 29) (v := ?_) rfl (by kernel_rfl) (by kernel_rfl) (by kernel_rfl) (fun _ _ _ h => h) (Or.inl ⟨by kernel_rfl, ?_⟩) (by assumption) ?_
  rotate_left
  · ((intro w hSw; (try dsimp only at hSw); go_simp) <;> with_reducible rfl)
  try simp only [Act.put, List.setIfInBounds_toArray, List.set_cons_zero, List.set_cons_succ]
  refine wpAnyH_done (by kernel_rfl) ?_ _
  obtain ⟨t1, t2, t4, v0, v1, r0, r1, hsz, K6⟩ := hHeld
  have lt := Nat.lt_of_lt_of_le lt hsz
  have lv := Nat.lt_of_lt_of_le lv hsz
  have lx := Nat.lt_of_lt_of_le lx hsz
  have lr := Nat.lt_of_lt_of_le lr hsz
  clear hsz hz
  generalize yw5.drew = yw7 at *
  clear hS1 hS2 hp hpm
  have hP1 := HP1'.out
  have hP2 := HP2'.out
  have e1 := E1'.out
  have e2 := E2'.out
  go_wp2_with fail
  refine (EX.out _).mono ?_
  rintro e w8 ⟨rfl, hb⟩
  have L : Below yw7.heap.size yw7 w8 := (Below.refl _ _).trans (hb.mono (by simp <;> omega))
  have K8 : Below w.heap.size w w8 := K6.trans (L.mono K6.size)
  have t1 := Rg.keep L lt t1
  have t2 := Rg.keep L lt t2
  have t4 := Rg.keep L lt t4
  have v0 := Rg.keep L lv v0
  have v1 := Rg.keep L lv v1
  have r0 := Rg.keep L lr r0
  have r1 := Rg.keep L lr r1
  have lt := Nat.lt_of_lt_of_le lt L.size
  have lv := Nat.lt_of_lt_of_le lv L.size
  have lx := Nat.lt_of_lt_of_le lx L.size
  have lr := Nat.lt_of_lt_of_le lr L.size
  clear hb L
  go_wp2
  go_ret
  exact ⟨rfl, K8⟩
set_option maxRecDepth 100000 in
set_option maxHeartbeats 16000000 in
theorem re_w1 (K B F R O n d N p H T Q S1 S2 fl ce P1 P2 : Int) (w : World) (k2 : (K != 2) = false) (hp : (2 : Int) ^ F.toNat = p) (p0 : 1 ≤ p) (p1 : p ≤ 1073741824) (f0 : 0 ≤ F) (f1 : F ≤ 30) (hH : (2 : Int) ^ (B.toNat - 1) = H) (H0 : 2 ≤ H) (H1 : H ≤ 1073741824) (g0 : 2 ≤ B) (g1 : B ≤ 31) (hQ : 2147483647 / p = Q) (Q0 : 1 ≤ Q) (Q1 : Q ≤ 2147483647) (N0 : -2147483648 ≤ N) (N1 : N ≤ 2147483648) (d0 : 1 ≤ d) (d1 : d ≤ 2147483647) (n0 : -2147483647 ≤ n) (n1 : n ≤ 2147483647) (VT : Hid (∀ w, Calls Tryd.prog 9 #[T5 K B F R O] w (Ret (.int .i64 0) w))) (VA : Hid (∀ w, Calls Tryd.prog 11 #[T5 1 0 0 0 0, V2 n d] w (Ret (.bool true) w))) (CA : Hid (∀ w, Calls Tryd.prog 16 #[T5 1 0 0 0 0, T5 K B F R O, V2 n d] w (Ret (Frac3 N 1 0) w))) (EX : Hid (∀ w, Calls Tryd.prog 15 #[] w (Ret (.bool true) w))) (FL : Hid (∀ w, Calls Tryd.prog 20 #[V2 n d] w (Ret (.int .i64 fl) w))) (CE : Hid (∀ w, Calls Tryd.prog 21 #[V2 n d] w (Ret (.int .i64 ce) w))) (b1 : (N == -H) = false) (b2 : (N == H - 1) = false) (q3 : n ≤ Q) (q4 : -Q ≤ n) (hT : n * p = T) (T0 : -2147483647 ≤ T) (T1 : T ≤ 2147483647) (hS1 : -H / p = S1) (hS2 : (H - 1) / p = S2) (s0 : -2147483648 ≤ S1) (s1 : S1 ≤ 2147483648) (s2 : -2147483648 ≤ S2) (s3 : S2 ≤ 2147483648) (b5 : (O == 2) = true) (b6 : decide (B ≤ F) = true) :
    Calls Tryd.prog 6 #[T5 K B F R O, V2 n d] w (Ret (.bool true) w) := by
  have HP' := Lib.hid hp
  have HH' := Lib.hid hH
  have HQ' := Lib.hid hQ
  have B1' := Lib.hid b1
  have B2' := Lib.hid b2
  have Q3' := Lib.hid q3
  have Q4' := Lib.hid q4
  have HT' := Lib.hid hT
  have HS1' := Lib.hid hS1
  have HS2' := Lib.hid hS2
  have B5' := Lib.hid b5
  have B6' := Lib.hid b6
  clear hp hH hQ b1 b2 q3 q4 hT hS1 hS2 b5 b6
  go_enter Tryd.func6, Tryd.ntmps6
  go_wp2_with fail
  refine (VT.out _).mono ?_
  rintro e w1 ⟨rfl, hb⟩
  have L : Below w.heap.size w w1 := ((((Below.refl _ _).alloc (by simp <;> omega) _).alloc (by simp <;> omega) _).alloc (by simp <;> omega) _).trans (hb.mono (by simp <;> omega))
  have K1 : Below w.heap.size w w1 := L
  have lt : w.heap.size < w1.heap.size := Nat.lt_of_lt_of_le (by simp <;> omega) hb.size
  have t0 : w1.cell? ⟨w.heap.size, 0, none⟩ = some (.int .i64 K) := Rg.keep hb (by simp <;> omega) (by go_cell)
  have t1 : w1.cell? ⟨w.heap.size, 1, none⟩ = some (.int .i64 B) := Rg.keep hb (by simp <;> omega) (by go_cell)
  have t2 : w1.cell? ⟨w.heap.size, 2, none⟩ = some (.int .i64 F) := Rg.keep hb (by simp <;> omega) (by go_cell)
  have t3 : w1.cell? ⟨w.heap.size, 3, none⟩ = some (.int .i64 R) := Rg.keep hb (by simp <;> omega) (by go_cell)
  have t4 : w1.cell? ⟨w.heap.size, 4, none⟩ = some (.int .i64 O) := Rg.keep hb (by simp <;> omega) (by go_cell)
  have lv : w.heap.size + 1 < w1.heap.size := Nat.lt_of_lt_of_le (by simp <;> omega) hb.size
  have v0 : w1.cell? ⟨w.heap.size + 1, 0, none⟩ = some (.int .i64 n) := Rg.keep hb (by simp <;> omega) (by go_cell)
  have v1 : w1.cell? ⟨w.heap.size + 1, 1, none⟩ = some (.int .i64 d) := Rg.keep hb (by simp <;> omega) (by go_cell)
  have lx : w.heap.size + 1 + 1 < w1.heap.size := Nat.lt_of_lt_of_le (by simp <;> omega) hb.size
  have x0 : w1.cell? ⟨w.heap.size + 1 + 1, 0, none⟩ = some (.int .i64 1) := Rg.keep hb (by simp <;> omega) (by go_cell)
  have x1 : w1.cell? ⟨w.heap.size + 1 + 1, 1, none⟩ = some (.int .i64 0) := Rg.keep hb (by simp <;> omega) (by go_cell)
  have x2 : w1.cell? ⟨w.heap.size + 1 + 1, 2, none⟩ = some (.int .i64 0) := Rg.keep hb (by simp <;> omega) (by go_cell)
  have x3 : w1.cell? ⟨w.heap.size + 1 + 1, 3, none⟩ = some (.int .i64 0) := Rg.keep hb (by simp <;> omega) (by go_cell)
  have x4 : w1.cell? ⟨w.heap.size + 1 + 1, 4, none⟩ = some (.int .i64 0) := Rg.keep hb (by simp <;> omega) (by go_cell)
  clear hb L
  go_wp2_with fail
  refine (VA.out _).mono ?_
  rintro e w2 ⟨rfl, hb⟩
  have L : Below w1.heap.size w1 w2 := (Below.refl _ _).trans (hb.mono (by simp <;> omega))
  have K2 : Below w.heap.size w w2 := K1.trans (L.mono K1.size)
  have t0 := Rg.keep L lt t0
  have t1 := Rg.keep L lt t1
  have t2 := Rg.keep L lt t2
  have t3 := Rg.keep L lt t3
  have t4 := Rg.keep L lt t4
  have v0 := Rg.keep L lv v0
  have v1 := Rg.keep L lv v1
  have x0 := Rg.keep L lx x0
  have x1 := Rg.keep L lx x1
  have x2 := Rg.keep L lx x2
  have x3 := Rg.keep L lx x3
  have x4 := Rg.keep L lx x4
  have lt := Nat.lt_of_lt_of_le lt L.size
  have lv := Nat.lt_of_lt_of_le lv L.size
  have lx := Nat.lt_of_lt_of_le lx L.size
  clear hb L
  go_wp2_with fail
  refine (CA.out _).mono ?_
  rintro e w3 ⟨rfl, hb⟩
  have L : Below w2.heap.size w2 w3 := (Below.refl _ _).trans (hb.mono (by simp <;> omega))
  have K3 : Below w.heap.size w w3 := K2.trans (L.mono K2.size)
  have t0 := Rg.keep L lt t0
  have t1 := Rg.keep L lt t1
  have t2 := Rg.keep L lt t2
  have t3 := Rg.keep L lt t3
  have t4 := Rg.keep L lt t4
  have v0 := Rg.keep L lv v0
  have v1 := Rg.keep L lv v1
  have x0 := Rg.keep L lx x0
  have x1 := Rg.keep L lx x1
  have x2 := Rg.keep L lx x2
  have x3 := Rg.keep L lx x3
  have x4 := Rg.keep L lx x4
  have lt := Nat.lt_of_lt_of_le lt L.size
  have lv := Nat.lt_of_lt_of_le lv L.size
  have lx := Nat.lt_of_lt_of_le lx L.size
  clear hb L
  go_wp2_with fail
  obtain ⟨zw4, hzw⟩ : ∃ zw4, zw4 = (w3.alloc (.cells #[.int .i64 N, .int .i64 1] 25)) := ⟨_, rfl⟩
  have hb : Below (w3.alloc (.cells #[.int .i64 N, .int .i64 1] 25)).heap.size (w3.alloc (.cells #[.int .i64 N, .int .i64 1] 25)) zw4 := by rw [hzw]; exact Below.refl _ _
  rw [← hzw]
  clear hzw
  have L : Below w3.heap.size w3 zw4 := ((Below.refl _ _).alloc (by simp <;> omega) _).trans (hb.mono (by simp <;> omega))
  have K4 : Below w.heap.size w zw4 := K3.trans (L.mono K3.size)
  have lr : w3.heap.size < zw4.heap.size := Nat.lt_of_lt_of_le (by simp <;> omega) hb.size
  have r0 : zw4.cell? ⟨w3.heap.size, 0, none⟩ = some (.int .i64 N) := Rg.keep hb (by simp <;> omega) (by go_cell)
  have r1 : zw4.cell? ⟨w3.heap.size, 1, none⟩ = some (.int .i64 1) := Rg.keep hb (by simp <;> omega) (by go_cell)
  have t0 := Rg.keep L lt t0
  have t1 := Rg.keep L lt t1
  have t2 := Rg.keep L lt t2
  have t3 := Rg.keep L lt t3
  have t4 := Rg.keep L lt t4
  have v0 := Rg.keep L lv v0
  have v1 := Rg.keep L lv v1
  have x0 := Rg.keep L lx x0
  have x1 := Rg.keep L lx x1
  have x2 := Rg.keep L lx x2
  have x3 := Rg.keep L lx x3
  have x4 := Rg.keep L lx x4
  have lt := Nat.lt_of_lt_of_le lt L.size
  have lv := Nat.lt_of_lt_of_le lv L.size
  have lx := Nat.lt_of_lt_of_le lx L.size
  clear hb L
  have hH := HH'.out
  go_quiet (fail)
  clear hH
  obtain ⟨yw5, hyw⟩ : ∃ yw5, yw5 = zw4.drewN nq := ⟨_, rfl⟩
  have hb : Below zw4.heap.size zw4 yw5 := by rw [hyw]; exact below_drewN (Below.refl _ _) _
  rw [← hyw]
  clear hyw
  have t0 := Rg.keep hb lt t0
  have t1 := Rg.keep hb lt t1
  have t2 := Rg.keep hb lt t2
  have t3 := Rg.keep hb lt t3
  have t4 := Rg.keep hb lt t4
  have v0 := Rg.keep hb lv v0
  have v1 := Rg.keep hb lv v1
  have x0 := Rg.keep hb lx x0
  have x1 := Rg.keep hb lx x1
  have x2 := Rg.keep hb lx x2
  have x3 := Rg.keep hb lx x3
  have x4 := Rg.keep hb lx x4
  have r0 := Rg.keep hb lr r0
  have r1 := Rg.keep hb lr r1
  have lt := Nat.lt_of_lt_of_le lt hb.size
  have lv := Nat.lt_of_lt_of_le lv hb.size
  have lx := Nat.lt_of_lt_of_le lx hb.size
  have lr := Nat.lt_of_lt_of_le lr hb.size
  have K5 : Below w.heap.size w yw5 := K4.trans (hb.mono K4.size)
  clear hb
  have b1 := B1'.out
  have b2 := B2'.out
  have q3 := Q3'.out
  have q4 := Q4'.out
  have hp := HP'.out
  have hQ := HQ'.out
  have hT := HT'.out
  go_wp2_with fail
  clear hT b1 b2 q3 q4 hQ
  have hpm : (2 : Int) ^ min (IntKind.u64.wrap F).toNat 64 = p := by rw [IntWalk.u64_in F (by omega), Nat.min_eq_left (by omega)]; exact hp
  have hS1 := HS1'.out
  have hS2 := HS2'.out
  have b5 := B5'.out
  have b6 := B6'.out
  have hz : yw5.cell? ⟨w.heap.size, 1, none⟩ = some (.int .i64 B) ∧ yw5.cell? ⟨w.heap.size, 2, none⟩ = some (.int .i64 F) ∧ yw5.cell? ⟨w.heap.size, 4, none⟩ = some (.int .i64 O) ∧ yw5.cell? ⟨w.heap.size + 1, 0, none⟩ = some (.int .i64 n) ∧ yw5.cell? ⟨w.heap.size + 1, 1, none⟩ = some (.int .i64 d) ∧ yw5.cell? ⟨w3.heap.size, 0, none⟩ = some (.int .i64 N) ∧ yw5.cell? ⟨w3.heap.size, 1, none⟩ = some (.int .i64 1) ∧ yw5.heap.size ≤ yw5.heap.size ∧ Below w.heap.size w yw5 := ⟨t1, t2, t4, v0, v1, r0, r1, Nat.le_refl _, K5⟩
  clear t0 t1 t2 t3 t4 v0 v1 x0 x1 x2 x3 x4 r0 r1 K5
  have HS : Hid (∀ u u' : World, (u.cell? ⟨w.heap.size, 1, none⟩ = some (.int .i64 B) ∧ u.cell? ⟨w.heap.size, 2, none⟩ = some (.int .i64 F) ∧ u.cell? ⟨w.heap.size, 4, none⟩ = some (.int .i64 O) ∧ u.cell? ⟨w.heap.size + 1, 0, none⟩ = some (.int .i64 n) ∧ u.cell? ⟨w.heap.size + 1, 1, none⟩ = some (.int .i64 d) ∧ u.cell? ⟨w3.heap.size, 0, none⟩ = some (.int .i64 N) ∧ u.cell? ⟨w3.heap.size, 1, none⟩ = some (.int .i64 1) ∧ yw5.heap.size ≤ u.heap.size ∧ Below w.heap.size w u) → Below u.heap.size u u' → (u'.cell? ⟨w.heap.size, 1, none⟩ = some (.int .i64 B) ∧ u'.cell? ⟨w.heap.size, 2, none⟩ = some (.int .i64 F) ∧ u'.cell? ⟨w.heap.size, 4, none⟩ = some (.int .i64 O) ∧ u'.cell? ⟨w.heap.size + 1, 0, none⟩ = some (.int .i64 n) ∧ u'.cell? ⟨w.heap.size + 1, 1, none⟩ = some (.int .i64 d) ∧ u'.cell? ⟨w3.heap.size, 0, none⟩ = some (.int .i64 N) ∧ u'.cell? ⟨w3.heap.size, 1, none⟩ = some (.int .i64 1) ∧ yw5.heap.size ≤ u'.heap.size ∧ Below w.heap.size w u')) := Lib.hid (fun u u' h hb => ⟨Rg.keep hb (Nat.lt_of_lt_of_le lt h.2.2.2.2.2.2.2.1) h.1, Rg.keep hb (Nat.lt_of_lt_of_le lt h.2.2.2.2.2.2.2.1) h.2.1, Rg.keep hb (Nat.lt_of_lt_of_le lt h.2.2.2.2.2.2.2.1) h.2.2.1, Rg.keep hb (Nat.lt_of_lt_of_le lv h.2.2.2.2.2.2.2.1) h.2.2.2.1, Rg.keep hb (Nat.lt_of_lt_of_le lv h.2.2.2.2.2.2.2.1) h.2.2.2.2.1, Rg.keep hb (Nat.lt_of_lt_of_le lr h.2.2.2.2.2.2.2.1) h.2.2.2.2.2.1, Rg.keep hb (Nat.lt_of_lt_of_le lr h.2.2.2.2.2.2.2.1) h.2.2.2.2.2.2.1, Nat.le_trans h.2.2.2.2.2.2.2.1 hb.size, h.2.2.2.2.2.2.2.2.trans (hb.mono h.2.2.2.2.2.2.2.2.size)⟩)
  refine wp_region_held_drew (S := fun w' => w'.cell? ⟨w.heap.size, 1, none⟩ = some (.int .i64 B) ∧ w'.cell? ⟨w.heap.size, 2, none⟩ = some (.int .i64 F) ∧ w'.cell? ⟨w.heap.size, 4, none⟩ = some (.int .i64 O) ∧ w'.cell? ⟨w.heap.size + 1, 0, none⟩ = some (.int .i64 n) ∧ w'.cell? ⟨w.heap.size + 1, 1, none⟩ = some (.int .i64 d) ∧ w'.cell? ⟨w3.heap.size, 0, none⟩ = some (.int .i64 N) ∧ w'.cell? ⟨w3.heap.size, 1, none⟩ = some (.int .i64 1) ∧ yw5.heap.size ≤ w'.heap.size ∧ Below w.heap.size w w') (by kernel_rfl) (HS.out _ _ hz (Below.drew (Below.refl _ _))) (fun hHeld => ?_)
  refine Rg.take (i := 0) (v := ?_) rfl (by kernel_rfl) (by kernel_rfl) (by kernel_rfl) (fun _ _ _ h => h) (Or.inl ⟨by kernel_rfl, ?_⟩) (by assumption) ?_
  rotate_left
  · ((intro w hSw; (try dsimp only at hSw); go_simp) <;> with_reducible rfl)
  try simp only [Act.put, List.setIfInBounds_toArray, List.set_cons_zero, List.set_cons_succ]
  refine Rg.take (i := 1) (v := ?_) rfl (by kernel_rfl) (by kernel_rfl) (by kernel_rfl) (fun _ _ _ h => h) (Or.inl ⟨by kernel_rfl, ?_⟩) (by assumption) ?_
  rotate_left
  · ((intro w hSw; (try dsimp only at hSw); go_simp) <;> with_reducible rfl)
  try simp only [Act.put, List.setIfInBounds_toArray, List.set_cons_zero, List.set_cons_succ]
  refine Rg.take (i := 2) (v := ?_) rfl (by kernel_rfl) (by kernel_rfl) (by kernel_rfl) (fun _ _ _ h => h) (Or.inl ⟨by kernel_rfl, ?_⟩) (by assumption) ?_
  rotate_left
  · ((intro w hSw; (try dsimp only at hSw); go_simp) <;> with_reducible rfl)
  try simp only [Act.put, List.setIfInBounds_toArray, List.set_cons_zero, List.set_cons_succ]
  refine Rg.take (i := 3) (v := ?_) rfl (by kernel_rfl) (by kernel_rfl) (by kernel_rfl) (fun _ _ _ h => h) (Or.inl ⟨by kernel_rfl, ?_⟩) (by assumption) ?_
  rotate_left
  · ((intro w hSw; (try dsimp only at hSw); go_simp) <;> with_reducible rfl)
  try simp only [Act.put, List.setIfInBounds_toArray, List.set_cons_zero, List.set_cons_succ]
  refine Rg.take (i := 4) (v := ?_) rfl (by kernel_rfl) (by kernel_rfl) (by kernel_rfl) (fun _ _ _ h => h) (Or.inl ⟨by kernel_rfl, ?_⟩) (by assumption) ?_
  rotate_left
  · ((intro w hSw; (try dsimp only at hSw); go_simp) <;> with_reducible rfl)
  try simp only [Act.put, List.setIfInBounds_toArray, List.set_cons_zero, List.set_cons_succ]
  refine Rg.take (i := 5) (v := ?_) rfl (by kernel_rfl) (by kernel_rfl) (by kernel_rfl) (fun _ _ _ h => h) (Or.inl ⟨by kernel_rfl, ?_⟩) (by assumption) ?_
  rotate_left
  · ((intro w hSw; (try dsimp only at hSw); go_simp) <;> with_reducible rfl)
  try simp only [Act.put, List.setIfInBounds_toArray, List.set_cons_zero, List.set_cons_succ]
  refine Rg.take (i := 6) (v := ?_) rfl (by kernel_rfl) (by kernel_rfl) (by kernel_rfl) (fun _ _ _ h => h) (Or.inl ⟨by kernel_rfl, ?_⟩) (by assumption) ?_
  rotate_left
  · ((intro w hSw; (try dsimp only at hSw); go_simp) <;> with_reducible rfl)
  try simp only [Act.put, List.setIfInBounds_toArray, List.set_cons_zero, List.set_cons_succ]
  refine Rg.take (i := 7) (v := ?_) rfl (by kernel_rfl) (by kernel_rfl) (by kernel_rfl) (fun _ _ _ h => h) (Or.inl ⟨by kernel_rfl, ?_⟩) (by assumption) ?_
  rotate_left
  · ((intro w hSw; (try dsimp only at hSw); go_simp) <;> with_reducible rfl)
  try simp only [Act.put, List.setIfInBounds_toArray, List.set_cons_zero, List.set_cons_succ]
  refine Rg.take (i := 8) (v := ?_) rfl (by kernel_rfl) (by kernel_rfl) (by kernel_rfl) (fun _ _ _ h => h) (Or.inl ⟨by kernel_rfl, ?_⟩) (by assumption) ?_
  rotate_left
  · ((intro w hSw; (try dsimp only at hSw); go_simp) <;> with_reducible rfl)
  try simp only [Act.put, List.setIfInBounds_toArray, List.set_cons_zero, List.set_cons_succ]
  refine Rg.take (i := 9) (v := ?_) rfl (by kernel_rfl) (by kernel_rfl) (by kernel_rfl) (fun _ _ _ h => h) (Or.inl ⟨by kernel_rfl, ?_⟩) (by assumption) ?_
  rotate_left
  · ((intro w hSw; (try dsimp only at hSw); go_simp) <;> with_reducible rfl)
  try simp only [Act.put, List.setIfInBounds_toArray, List.set_cons_zero, List.set_cons_succ]
  refine Rg.take (i := 10) (v := undef) rfl (by kernel_rfl) (by kernel_rfl) (by kernel_rfl) (fun _ _ _ h => h) (Or.inr ⟨by kernel_rfl, rfl⟩) (by assumption) ?_
  try simp only [Act.put, List.setIfInBounds_toArray, List.set_cons_zero, List.set_cons_succ]
  refine Rg.take (i := 11) (v := undef) rfl (by kernel_rfl) (by kernel_rfl) (by kernel_rfl) (fun _ _ _ h => h) (Or.inr ⟨by kernel_rfl, rfl⟩) (by assumption) ?_
  try simp only [Act.put, List.setIfInBounds_toArray, List.set_cons_zero, List.set_cons_succ]
  refine Rg.take (i := 12) (v := undef) rfl (by kernel_rfl) (by kernel_rfl) (by kernel_rfl) (fun _ _ _ h => h) (Or.inr ⟨by kernel_rfl, rfl⟩) (by assumption) ?_
  try simp only [Act.put, List.setIfInBounds_toArray, List.set_cons_zero, List.set_cons_succ]
  refine Rg.take (i := 13) (v := undef) rfl (by kernel_rfl) (by kernel_rfl) (by kernel_rfl) (fun _ _ _ h => h) (Or.inr ⟨by kernel_rfl, rfl⟩) (by assumption) ?_
  try simp only [Act.put, List.setIfInBounds_toArray, List.set_cons_zero, List.set_cons_succ]
  refine Rg.take (i := 14) (v := undef) rfl (by kernel_rfl) (by kernel_rfl) (by kernel_rfl) (fun _ _ _ h => h) (Or.inr ⟨by kernel_rfl, rfl⟩) (by assumption) ?_
  try simp only [Act.put, List.setIfInBounds_toArray, List.set_cons_zero, List.set_cons_succ]
  refine Rg.take (i := 15) (v := undef) rfl (by kernel_rfl) (by kernel_rfl) (by kernel_rfl) (fun _ _ _ h => h) (Or.inr ⟨by kernel_rfl, rfl⟩) (by assumption) ?_
  try simp only [Act.put, List.setIfInBounds_toArray, List.set_cons_zero, List.set_cons_succ]
  refine Rg.take (i := 16) (v := undef) rfl (by kernel_rfl) (by kernel_rfl) (by kernel_rfl) (fun _ _ _ h => h) (Or.inr ⟨by kernel_rfl, rfl⟩) (by assumption) ?_
  try simp only [Act.put, List.setIfInBounds_toArray, List.set_cons_zero, List.set_cons_succ]
  refine Rg.take (i := 17) (v := undef) rfl (by kernel_rfl) (by kernel_rfl) (by kernel_rfl) (fun _ _ _ h => h) (Or.inr ⟨by kernel_rfl, rfl⟩) (by assumption) ?_
  try simp only [Act.put, List.setIfInBounds_toArray, List.set_cons_zero, List.set_cons_succ]
  refine Rg.take (i := 18) (v := ?_) rfl (by kernel_rfl) (by kernel_rfl) (by kernel_rfl) (fun _ _ _ h => h) (Or.inl ⟨by kernel_rfl, ?_⟩) (by assumption) ?_
  rotate_left
  · ((intro w hSw; (try dsimp only at hSw); go_simp) <;> with_reducible rfl)
  try simp only [Act.put, List.setIfInBounds_toArray, List.set_cons_zero, List.set_cons_succ]
  refine Rg.take (i := 19) (v := ?_) rfl (by kernel_rfl) (by kernel_rfl) (by kernel_rfl) (fun _ _ _ h => h) (Or.inl ⟨by kernel_rfl, ?_⟩) (by assumption) ?_
  rotate_left
  · ((intro w hSw; (try dsimp only at hSw); go_simp) <;> with_reducible rfl)
  try simp only [Act.put, List.setIfInBounds_toArray, List.set_cons_zero, List.set_cons_succ]
  refine Rg.take (i := 20) (v := undef) rfl (by kernel_rfl) (by kernel_rfl) (by kernel_rfl) (fun _ _ _ h => h) (Or.inr ⟨by kernel_rfl, rfl⟩) (by assumption) ?_
  try simp only [Act.put, List.setIfInBounds_toArray, List.set_cons_zero, List.set_cons_succ]
  refine Rg.take (i := 21) (v := undef) rfl (by kernel_rfl) (by kernel_rfl) (by kernel_rfl) (fun _ _ _ h => h) (Or.inr ⟨by kernel_rfl, rfl⟩) (by assumption) ?_
  try simp only [Act.put, List.setIfInBounds_toArray, List.set_cons_zero, List.set_cons_succ]
  refine Rg.take (i := 22) (v := undef) rfl (by kernel_rfl) (by kernel_rfl) (by kernel_rfl) (fun _ _ _ h => h) (Or.inr ⟨by kernel_rfl, rfl⟩) (by assumption) ?_
  try simp only [Act.put, List.setIfInBounds_toArray, List.set_cons_zero, List.set_cons_succ]
  refine Rg.take (i := 23) (v := undef) rfl (by kernel_rfl) (by kernel_rfl) (by kernel_rfl) (fun _ _ _ h => h) (Or.inr ⟨by kernel_rfl, rfl⟩) (by assumption) ?_
  try simp only [Act.put, List.setIfInBounds_toArray, List.set_cons_zero, List.set_cons_succ]
  refine Rg.take (i := 24) (v := undef) rfl (by kernel_rfl) (by kernel_rfl) (by kernel_rfl) (fun _ _ _ h => h) (Or.inr ⟨by kernel_rfl, rfl⟩) (by assumption) ?_
  try simp only [Act.put, List.setIfInBounds_toArray, List.set_cons_zero, List.set_cons_succ]
  refine Rg.take (i := 25) (v := undef) rfl (by kernel_rfl) (by kernel_rfl) (by kernel_rfl) (fun _ _ _ h => h) (Or.inr ⟨by kernel_rfl, rfl⟩) (by assumption) ?_
  try simp only [Act.put, List.setIfInBounds_toArray, List.set_cons_zero, List.set_cons_succ]
  refine Rg.take (i := 26) (v := undef) rfl (by kernel_rfl) (by kernel_rfl) (by kernel_rfl) (fun _ _ _ h => h) (Or.inr ⟨by kernel_rfl, rfl⟩) (by assumption) ?_
  try simp only [Act.put, List.setIfInBounds_toArray, List.set_cons_zero, List.set_cons_succ]
  refine Rg.take (i := 27) (v := undef) rfl (by kernel_rfl) (by kernel_rfl) (by kernel_rfl) (fun _ _ _ h => h) (Or.inr ⟨by kernel_rfl, rfl⟩) (by assumption) ?_
  try simp only [Act.put, List.setIfInBounds_toArray, List.set_cons_zero, List.set_cons_succ]
  refine Rg.take (i := 28) (v := ?_) rfl (by kernel_rfl) (by kernel_rfl) (by kernel_rfl) (fun _ _ _ h => h) (Or.inl ⟨by kernel_rfl, ?_⟩) (by assumption) ?_
  rotate_left
  · ((intro w hSw; (try dsimp only at hSw); go_simp) <;> with_reducible rfl)
  try simp only [Act.put, List.setIfInBounds_toArray, List.set_cons_zero, List.set_cons_succ]
  refine Rg.take (i := 29) (v := ?_) rfl (by kernel_rfl) (by kernel_rfl) (by kernel_rfl) (fun _ _ _ h => h) (Or.inl ⟨by kernel_rfl, ?_⟩) (by assumption) ?_
  rotate_left
  · ((intro w hSw; (try dsimp only at hSw); go_simp) <;> with_reducible rfl)
  try simp only [Act.put, List.setIfInBounds_toArray, List.set_cons_zero, List.set_cons_succ]
  refine wpAnyH_done (by kernel_rfl) ?_ _
  obtain ⟨t1, t2, t4, v0, v1, r0, r1, hsz, K6⟩ := hHeld
  have lt := Nat.lt_of_lt_of_le lt hsz
  have lv := Nat.lt_of_lt_of_le lv hsz
  have lx := Nat.lt_of_lt_of_le lx hsz
  have lr := Nat.lt_of_lt_of_le lr hsz
  clear hsz hz
  generalize yw5.drew = yw7 at *
  clear hS1 hS2 hp hpm
  go_wp2_with fail
  refine (EX.out _).mono ?_
  rintro e w8 ⟨rfl, hb⟩
  have L : Below yw7.heap.size yw7 w8 := (Below.refl _ _).trans (hb.mono (by simp <;> omega))
  have K8 : Below w.heap.size w w8 := K6.trans (L.mono K6.size)
  have t1 := Rg.keep L lt t1
  have t2 := Rg.keep L lt t2
  have t4 := Rg.keep L lt t4
  have v0 := Rg.keep L lv v0
  have v1 := Rg.keep L lv v1
  have r0 := Rg.keep L lr r0
  have r1 := Rg.keep L lr r1
  have lt := Nat.lt_of_lt_of_le lt L.size
  have lv := Nat.lt_of_lt_of_le lv L.size
  have lx := Nat.lt_of_lt_of_le lx L.size
  have lr := Nat.lt_of_lt_of_le lr L.size
  clear hb L
  go_wp2
  go_ret
  exact ⟨rfl, K8⟩
set_option maxRecDepth 100000 in
set_option maxHeartbeats 16000000 in
theorem re_w2 (K B F R O n d N p H T Q S1 S2 fl ce P1 P2 : Int) (w : World) (k2 : (K != 2) = false) (hp : (2 : Int) ^ F.toNat = p) (p0 : 1 ≤ p) (p1 : p ≤ 1073741824) (f0 : 0 ≤ F) (f1 : F ≤ 30) (hH : (2 : Int) ^ (B.toNat - 1) = H) (H0 : 2 ≤ H) (H1 : H ≤ 1073741824) (g0 : 2 ≤ B) (g1 : B ≤ 31) (hQ : 2147483647 / p = Q) (Q0 : 1 ≤ Q) (Q1 : Q ≤ 2147483647) (N0 : -2147483648 ≤ N) (N1 : N ≤ 2147483648) (d0 : 1 ≤ d) (d1 : d ≤ 2147483647) (n0 : -2147483647 ≤ n) (n1 : n ≤ 2147483647) (VT : Hid (∀ w, Calls Tryd.prog 9 #[T5 K B F R O] w (Ret (.int .i64 0) w))) (VA : Hid (∀ w, Calls Tryd.prog 11 #[T5 1 0 0 0 0, V2 n d] w (Ret (.bool true) w))) (CA : Hid (∀ w, Calls Tryd.prog 16 #[T5 1 0 0 0 0, T5 K B F R O, V2 n d] w (Ret (Frac3 N 1 0) w))) (EX : Hid (∀ w, Calls Tryd.prog 15 #[] w (Ret (.bool true) w))) (FL : Hid (∀ w, Calls Tryd.prog 20 #[V2 n d] w (Ret (.int .i64 fl) w))) (CE : Hid (∀ w, Calls Tryd.prog 21 #[V2 n d] w (Ret (.int .i64 ce) w))) (b1 : (N == -H) = false) (b2 : (N == H - 1) = false) (q3 : n ≤ Q) (q4 : -Q ≤ n) (hT : n * p = T) (T0 : -2147483647 ≤ T) (T1 : T ≤ 2147483647) (hS1 : -H / p = S1) (hS2 : (H - 1) / p = S2) (s0 : -2147483648 ≤ S1) (s1 : S1 ≤ 2147483648) (s2 : -2147483648 ≤ S2) (s3 : S2 ≤ 2147483648) (b5 : (O == 2) = true) (b6 : decide (B ≤ F) = false) (b7 : decide (fl < S1) = true) :
    Calls Tryd.prog 6 #[T5 K B F R O, V2 n d] w (Ret (.bool true) w) := by
  have HP' := Lib.hid hp
  have HH' := Lib.hid hH
  have HQ' := Lib.hid hQ
  have B1' := Lib.hid b1
  have B2' := Lib.hid b2
  have Q3' := Lib.hid q3
  have Q4' := Lib.hid q4
  have HT' := Lib.hid hT
  have HS1' := Lib.hid hS1
  have HS2' := Lib.hid hS2
  have B5' := Lib.hid b5
  have B6' := Lib.hid b6
  have B7' := Lib.hid b7
  clear hp hH hQ b1 b2 q3 q4 hT hS1 hS2 b5 b6 b7
  go_enter Tryd.func6, Tryd.ntmps6
  go_wp2_with fail
  refine (VT.out _).mono ?_
  rintro e w1 ⟨rfl, hb⟩
  have L : Below w.heap.size w w1 := ((((Below.refl _ _).alloc (by simp <;> omega) _).alloc (by simp <;> omega) _).alloc (by simp <;> omega) _).trans (hb.mono (by simp <;> omega))
  have K1 : Below w.heap.size w w1 := L
  have lt : w.heap.size < w1.heap.size := Nat.lt_of_lt_of_le (by simp <;> omega) hb.size
  have t0 : w1.cell? ⟨w.heap.size, 0, none⟩ = some (.int .i64 K) := Rg.keep hb (by simp <;> omega) (by go_cell)
  have t1 : w1.cell? ⟨w.heap.size, 1, none⟩ = some (.int .i64 B) := Rg.keep hb (by simp <;> omega) (by go_cell)
  have t2 : w1.cell? ⟨w.heap.size, 2, none⟩ = some (.int .i64 F) := Rg.keep hb (by simp <;> omega) (by go_cell)
  have t3 : w1.cell? ⟨w.heap.size, 3, none⟩ = some (.int .i64 R) := Rg.keep hb (by simp <;> omega) (by go_cell)
  have t4 : w1.cell? ⟨w.heap.size, 4, none⟩ = some (.int .i64 O) := Rg.keep hb (by simp <;> omega) (by go_cell)
  have lv : w.heap.size + 1 < w1.heap.size := Nat.lt_of_lt_of_le (by simp <;> omega) hb.size
  have v0 : w1.cell? ⟨w.heap.size + 1, 0, none⟩ = some (.int .i64 n) := Rg.keep hb (by simp <;> omega) (by go_cell)
  have v1 : w1.cell? ⟨w.heap.size + 1, 1, none⟩ = some (.int .i64 d) := Rg.keep hb (by simp <;> omega) (by go_cell)
  have lx : w.heap.size + 1 + 1 < w1.heap.size := Nat.lt_of_lt_of_le (by simp <;> omega) hb.size
  have x0 : w1.cell? ⟨w.heap.size + 1 + 1, 0, none⟩ = some (.int .i64 1) := Rg.keep hb (by simp <;> omega) (by go_cell)
  have x1 : w1.cell? ⟨w.heap.size + 1 + 1, 1, none⟩ = some (.int .i64 0) := Rg.keep hb (by simp <;> omega) (by go_cell)
  have x2 : w1.cell? ⟨w.heap.size + 1 + 1, 2, none⟩ = some (.int .i64 0) := Rg.keep hb (by simp <;> omega) (by go_cell)
  have x3 : w1.cell? ⟨w.heap.size + 1 + 1, 3, none⟩ = some (.int .i64 0) := Rg.keep hb (by simp <;> omega) (by go_cell)
  have x4 : w1.cell? ⟨w.heap.size + 1 + 1, 4, none⟩ = some (.int .i64 0) := Rg.keep hb (by simp <;> omega) (by go_cell)
  clear hb L
  go_wp2_with fail
  refine (VA.out _).mono ?_
  rintro e w2 ⟨rfl, hb⟩
  have L : Below w1.heap.size w1 w2 := (Below.refl _ _).trans (hb.mono (by simp <;> omega))
  have K2 : Below w.heap.size w w2 := K1.trans (L.mono K1.size)
  have t0 := Rg.keep L lt t0
  have t1 := Rg.keep L lt t1
  have t2 := Rg.keep L lt t2
  have t3 := Rg.keep L lt t3
  have t4 := Rg.keep L lt t4
  have v0 := Rg.keep L lv v0
  have v1 := Rg.keep L lv v1
  have x0 := Rg.keep L lx x0
  have x1 := Rg.keep L lx x1
  have x2 := Rg.keep L lx x2
  have x3 := Rg.keep L lx x3
  have x4 := Rg.keep L lx x4
  have lt := Nat.lt_of_lt_of_le lt L.size
  have lv := Nat.lt_of_lt_of_le lv L.size
  have lx := Nat.lt_of_lt_of_le lx L.size
  clear hb L
  go_wp2_with fail
  refine (CA.out _).mono ?_
  rintro e w3 ⟨rfl, hb⟩
  have L : Below w2.heap.size w2 w3 := (Below.refl _ _).trans (hb.mono (by simp <;> omega))
  have K3 : Below w.heap.size w w3 := K2.trans (L.mono K2.size)
  have t0 := Rg.keep L lt t0
  have t1 := Rg.keep L lt t1
  have t2 := Rg.keep L lt t2
  have t3 := Rg.keep L lt t3
  have t4 := Rg.keep L lt t4
  have v0 := Rg.keep L lv v0
  have v1 := Rg.keep L lv v1
  have x0 := Rg.keep L lx x0
  have x1 := Rg.keep L lx x1
  have x2 := Rg.keep L lx x2
  have x3 := Rg.keep L lx x3
  have x4 := Rg.keep L lx x4
  have lt := Nat.lt_of_lt_of_le lt L.size
  have lv := Nat.lt_of_lt_of_le lv L.size
  have lx := Nat.lt_of_lt_of_le lx L.size
  clear hb L
  go_wp2_with fail
  obtain ⟨zw4, hzw⟩ : ∃ zw4, zw4 = (w3.alloc (.cells #[.int .i64 N, .int .i64 1] 25)) := ⟨_, rfl⟩
  have hb : Below (w3.alloc (.cells #[.int .i64 N, .int .i64 1] 25)).heap.size (w3.alloc (.cells #[.int .i64 N, .int .i64 1] 25)) zw4 := by rw [hzw]; exact Below.refl _ _
  rw [← hzw]
  clear hzw
  have L : Below w3.heap.size w3 zw4 := ((Below.refl _ _).alloc (by simp <;> omega) _).trans (hb.mono (by simp <;> omega))
  have K4 : Below w.heap.size w zw4 := K3.trans (L.mono K3.size)
  have lr : w3.heap.size < zw4.heap.size := Nat.lt_of_lt_of_le (by simp <;> omega) hb.size
  have r0 : zw4.cell? ⟨w3.heap.size, 0, none⟩ = some (.int .i64 N) := Rg.keep hb (by simp <;> omega) (by go_cell)
  have r1 : zw4.cell? ⟨w3.heap.size, 1, none⟩ = some (.int .i64 1) := Rg.keep hb (by simp <;> omega) (by go_cell)
  have t0 := Rg.keep L lt t0
  have t1 := Rg.keep L lt t1
  have t2 := Rg.keep L lt t2
  have t3 := Rg.keep L lt t3
  have t4 := Rg.keep L lt t4
  have v0 := Rg.keep L lv v0
  have v1 := Rg.keep L lv v1
  have x0 := Rg.keep L lx x0
  have x1 := Rg.keep L lx x1
  have x2 := Rg.keep L lx x2
  have x3 := Rg.keep L lx x3
  have x4 := Rg.keep L lx x4
  have lt := Nat.lt_of_lt_of_le lt L.size
  have lv := Nat.lt_of_lt_of_le lv L.size
  have lx := Nat.lt_of_lt_of_le lx L.size
  clear hb L
  have hH := HH'.out
  go_quiet (fail)
  clear hH
  obtain ⟨yw5, hyw⟩ : ∃ yw5, yw5 = zw4.drewN nq := ⟨_, rfl⟩
  have hb : Below zw4.heap.size zw4 yw5 := by rw [hyw]; exact below_drewN (Below.refl _ _) _
  rw [← hyw]
  clear hyw
  have t0 := Rg.keep hb lt t0
  have t1 := Rg.keep hb lt t1
  have t2 := Rg.keep hb lt t2
  have t3 := Rg.keep hb lt t3
  have t4 := Rg.keep hb lt t4
  have v0 := Rg.keep hb lv v0
  have v1 := Rg.keep hb lv v1
  have x0 := Rg.keep hb lx x0
  have x1 := Rg.keep hb lx x1
  have x2 := Rg.keep hb lx x2
  have x3 := Rg.keep hb lx x3
  have x4 := Rg.keep hb lx x4
  have r0 := Rg.keep hb lr r0
  have r1 := Rg.keep hb lr r1
  have lt := Nat.lt_of_lt_of_le lt hb.size
  have lv := Nat.lt_of_lt_of_le lv hb.size
  have lx := Nat.lt_of_lt_of_le lx hb.size
  have lr := Nat.lt_of_lt_of_le lr hb.size
  have K5 : Below w.heap.size w yw5 := K4.trans (hb.mono K4.size)
  clear hb
  have b1 := B1'.out
  have b2 := B2'.out
  have q3 := Q3'.out
  have q4 := Q4'.out
  have hp := HP'.out
  have hQ := HQ'.out
  have hT := HT'.out
  go_wp2_with fail
  clear hT b1 b2 q3 q4 hQ
  have hpm : (2 : Int) ^ min (IntKind.u64.wrap F).toNat 64 = p := by rw [IntWalk.u64_in F (by omega), Nat.min_eq_left (by omega)]; exact hp
  have hS1 := HS1'.out
  have hS2 := HS2'.out
  have b5 := B5'.out
  have b6 := B6'.out
  have b7 := B7'.out
  have hz : yw5.cell? ⟨w.heap.size, 1, none⟩ = some (.int .i64 B) ∧ yw5.cell? ⟨w.heap.size, 2, none⟩ = some (.int .i64 F) ∧ yw5.cell? ⟨w.heap.size, 4, none⟩ = some (.int .i64 O) ∧ yw5.cell? ⟨w.heap.size + 1, 0, none⟩ = some (.int .i64 n) ∧ yw5.cell? ⟨w.heap.size + 1, 1, none⟩ = some (.int .i64 d) ∧ yw5.cell? ⟨w3.heap.size, 0, none⟩ = some (.int .i64 N) ∧ yw5.cell? ⟨w3.heap.size, 1, none⟩ = some (.int .i64 1) ∧ yw5.heap.size ≤ yw5.heap.size ∧ Below w.heap.size w yw5 := ⟨t1, t2, t4, v0, v1, r0, r1, Nat.le_refl _, K5⟩
  clear t0 t1 t2 t3 t4 v0 v1 x0 x1 x2 x3 x4 r0 r1 K5
  have HS : Hid (∀ u u' : World, (u.cell? ⟨w.heap.size, 1, none⟩ = some (.int .i64 B) ∧ u.cell? ⟨w.heap.size, 2, none⟩ = some (.int .i64 F) ∧ u.cell? ⟨w.heap.size, 4, none⟩ = some (.int .i64 O) ∧ u.cell? ⟨w.heap.size + 1, 0, none⟩ = some (.int .i64 n) ∧ u.cell? ⟨w.heap.size + 1, 1, none⟩ = some (.int .i64 d) ∧ u.cell? ⟨w3.heap.size, 0, none⟩ = some (.int .i64 N) ∧ u.cell? ⟨w3.heap.size, 1, none⟩ = some (.int .i64 1) ∧ yw5.heap.size ≤ u.heap.size ∧ Below w.heap.size w u) → Below u.heap.size u u' → (u'.cell? ⟨w.heap.size, 1, none⟩ = some (.int .i64 B) ∧ u'.cell? ⟨w.heap.size, 2, none⟩ = some (.int .i64 F) ∧ u'.cell? ⟨w.heap.size, 4, none⟩ = some (.int .i64 O) ∧ u'.cell? ⟨w.heap.size + 1, 0, none⟩ = some (.int .i64 n) ∧ u'.cell? ⟨w.heap.size + 1, 1, none⟩ = some (.int .i64 d) ∧ u'.cell? ⟨w3.heap.size, 0, none⟩ = some (.int .i64 N) ∧ u'.cell? ⟨w3.heap.size, 1, none⟩ = some (.int .i64 1) ∧ yw5.heap.size ≤ u'.heap.size ∧ Below w.heap.size w u')) := Lib.hid (fun u u' h hb => ⟨Rg.keep hb (Nat.lt_of_lt_of_le lt h.2.2.2.2.2.2.2.1) h.1, Rg.keep hb (Nat.lt_of_lt_of_le lt h.2.2.2.2.2.2.2.1) h.2.1, Rg.keep hb (Nat.lt_of_lt_of_le lt h.2.2.2.2.2.2.2.1) h.2.2.1, Rg.keep hb (Nat.lt_of_lt_of_le lv h.2.2.2.2.2.2.2.1) h.2.2.2.1, Rg.keep hb (Nat.lt_of_lt_of_le lv h.2.2.2.2.2.2.2.1) h.2.2.2.2.1, Rg.keep hb (Nat.lt_of_lt_of_le lr h.2.2.2.2.2.2.2.1) h.2.2.2.2.2.1, Rg.keep hb (Nat.lt_of_lt_of_le lr h.2.2.2.2.2.2.2.1) h.2.2.2.2.2.2.1, Nat.le_trans h.2.2.2.2.2.2.2.1 hb.size, h.2.2.2.2.2.2.2.2.trans (hb.mono h.2.2.2.2.2.2.2.2.size)⟩)
  refine wp_region_held_drew (S := fun w' => w'.cell? ⟨w.heap.size, 1, none⟩ = some (.int .i64 B) ∧ w'.cell? ⟨w.heap.size, 2, none⟩ = some (.int .i64 F) ∧ w'.cell? ⟨w.heap.size, 4, none⟩ = some (.int .i64 O) ∧ w'.cell? ⟨w.heap.size + 1, 0, none⟩ = some (.int .i64 n) ∧ w'.cell? ⟨w.heap.size + 1, 1, none⟩ = some (.int .i64 d) ∧ w'.cell? ⟨w3.heap.size, 0, none⟩ = some (.int .i64 N) ∧ w'.cell? ⟨w3.heap.size, 1, none⟩ = some (.int .i64 1) ∧ yw5.heap.size ≤ w'.heap.size ∧ Below w.heap.size w w') (by kernel_rfl) (HS.out _ _ hz (Below.drew (Below.refl _ _))) (fun hHeld => ?_)
  refine Rg.take (i := 0) (v := ?_) rfl (by kernel_rfl) (by kernel_rfl) (by kernel_rfl) (fun _ _ _ h => h) (Or.inl ⟨by kernel_rfl, ?_⟩) (by assumption) ?_
  rotate_left
  · ((intro w hSw; (try dsimp only at hSw); go_simp) <;> with_reducible rfl)
  try simp only [Act.put, List.setIfInBounds_toArray, List.set_cons_zero, List.set_cons_succ]
  refine Rg.take (i := 1) (v := ?_) rfl (by kernel_rfl) (by kernel_rfl) (by kernel_rfl) (fun _ _ _ h => h) (Or.inl ⟨by kernel_rfl, ?_⟩) (by assumption) ?_
  rotate_left
  · ((intro w hSw; (try dsimp only at hSw); go_simp) <;> with_reducible rfl)
  try simp only [Act.put, List.setIfInBounds_toArray, List.set_cons_zero, List.set_cons_succ]
  refine Rg.take (i := 2) (v := ?_) rfl (by kernel_rfl) (by kernel_rfl) (by kernel_rfl) (fun _ _ _ h => h) (Or.inl ⟨by kernel_rfl, ?_⟩) (by assumption) ?_
  rotate_left
  · ((intro w hSw; (try dsimp only at hSw); go_simp) <;> with_reducible rfl)
  try simp only [Act.put, List.setIfInBounds_toArray, List.set_cons_zero, List.set_cons_succ]
  refine Rg.take (i := 3) (v := ?_) rfl (by kernel_rfl) (by kernel_rfl) (by kernel_rfl) (fun _ _ _ h => h) (Or.inl ⟨by kernel_rfl, ?_⟩) (by assumption) ?_
  rotate_left
  · ((intro w hSw; (try dsimp only at hSw); go_simp) <;> with_reducible rfl)
  try simp only [Act.put, List.setIfInBounds_toArray, List.set_cons_zero, List.set_cons_succ]
  refine Rg.take (i := 4) (v := ?_) rfl (by kernel_rfl) (by kernel_rfl) (by kernel_rfl) (fun _ _ _ h => h) (Or.inl ⟨by kernel_rfl, ?_⟩) (by assumption) ?_
  rotate_left
  · ((intro w hSw; (try dsimp only at hSw); go_simp) <;> with_reducible rfl)
  try simp only [Act.put, List.setIfInBounds_toArray, List.set_cons_zero, List.set_cons_succ]
  refine Rg.take (i := 5) (v := ?_) rfl (by kernel_rfl) (by kernel_rfl) (by kernel_rfl) (fun _ _ _ h => h) (Or.inl ⟨by kernel_rfl, ?_⟩) (by assumption) ?_
  rotate_left
  · ((intro w hSw; (try dsimp only at hSw); go_simp) <;> with_reducible rfl)
  try simp only [Act.put, List.setIfInBounds_toArray, List.set_cons_zero, List.set_cons_succ]
  refine Rg.take (i := 6) (v := ?_) rfl (by kernel_rfl) (by kernel_rfl) (by kernel_rfl) (fun _ _ _ h => h) (Or.inl ⟨by kernel_rfl, ?_⟩) (by assumption) ?_
  rotate_left
  · ((intro w hSw; (try dsimp only at hSw); go_simp) <;> with_reducible rfl)
  try simp only [Act.put, List.setIfInBounds_toArray, List.set_cons_zero, List.set_cons_succ]
  refine Rg.take (i := 7) (v := ?_) rfl (by kernel_rfl) (by kernel_rfl) (by kernel_rfl) (fun _ _ _ h => h) (Or.inl ⟨by kernel_rfl, ?_⟩) (by assumption) ?_
  rotate_left
  · ((intro w hSw; (try dsimp only at hSw); go_simp) <;> with_reducible rfl)
  try simp only [Act.put, List.setIfInBounds_toArray, List.set_cons_zero, List.set_cons_succ]
  refine Rg.take (i := 8) (v := ?_) rfl (by kernel_rfl) (by kernel_rfl) (by kernel_rfl) (fun _ _ _ h => h) (Or.inl ⟨by kernel_rfl, ?_⟩) (by assumption) ?_
  rotate_left
  · ((intro w hSw; (try dsimp only at hSw); go_simp) <;> with_reducible rfl)
  try simp only [Act.put, List.setIfInBounds_toArray, List.set_cons_zero, List.set_cons_succ]
  refine Rg.take (i := 9) (v := ?_) rfl (by kernel_rfl) (by kernel_rfl) (by kernel_rfl) (fun _ _ _ h => h) (Or.inl ⟨by kernel_rfl, ?_⟩) (by assumption) ?_
  rotate_left
  · ((intro w hSw; (try dsimp only at hSw); go_simp) <;> with_reducible rfl)
  try simp only [Act.put, List.setIfInBounds_toArray, List.set_cons_zero, List.set_cons_succ]
  refine Rg.take (i := 10) (v := ?_) rfl (by kernel_rfl) (by kernel_rfl) (by kernel_rfl) (fun _ _ _ h => h) (Or.inl ⟨by kernel_rfl, ?_⟩) (by assumption) ?_
  rotate_left
  · ((intro w hSw; (try dsimp only at hSw); go_simp) <;> with_reducible rfl)
  try simp only [Act.put, List.setIfInBounds_toArray, List.set_cons_zero, List.set_cons_succ]
  refine Rg.take (i := 12) (v := ?_) rfl (by kernel_rfl) (by kernel_rfl) (by kernel_rfl) (fun _ _ _ h => h) (Or.inl ⟨by kernel_rfl, ?_⟩) (by assumption) ?_
  rotate_left
  · ((intro w hSw; (try dsimp only at hSw); go_simp) <;> with_reducible rfl)
  try simp only [Act.put, List.setIfInBounds_toArray, List.set_cons_zero, List.set_cons_succ]
  refine Rg.take (i := 13) (v := ?_) rfl (by kernel_rfl) (by kernel_rfl) (by kernel_rfl) (fun _ _ _ h => h) (Or.inl ⟨by kernel_rfl, ?_⟩) (by assumption) ?_
  rotate_left
  · ((intro w hSw; (try dsimp only at hSw); go_simp) <;> with_reducible rfl)
  try simp only [Act.put, List.setIfInBounds_toArray, List.set_cons_zero, List.set_cons_succ]
  refine Rg.take (i := 14) (v := ?_) rfl (by kernel_rfl) (by kernel_rfl) (by kernel_rfl) (fun _ _ _ h => h) (Or.inl ⟨by kernel_rfl, ?_⟩) (by assumption) ?_
  rotate_left
  · ((intro w hSw; (try dsimp only at hSw); go_simp) <;> with_reducible rfl)
  try simp only [Act.put, List.setIfInBounds_toArray, List.set_cons_zero, List.set_cons_succ]
  refine Rg.take (i := 15) (v := ?_) rfl (by kernel_rfl) (by kernel_rfl) (by kernel_rfl) (fun _ _ _ h => h) (Or.inl ⟨by kernel_rfl, ?_⟩) (by assumption) ?_
  rotate_left
  · ((intro w hSw; (try dsimp only at hSw); go_simp) <;> with_reducible rfl)
  try simp only [Act.put, List.setIfInBounds_toArray, List.set_cons_zero, List.set_cons_succ]
  refine Rg.take (i := 16) (v := ?_) rfl (by kernel_rfl) (by kernel_rfl) (by kernel_rfl) (fun _ _ _ h => h) (Or.inl ⟨by kernel_rfl, ?_⟩) (by assumption) ?_
  rotate_left
  · ((intro w hSw; (try dsimp only at hSw); go_simp) <;> with_reducible rfl)
  try simp only [Act.put, List.setIfInBounds_toArray, List.set_cons_zero, List.set_cons_succ]
  refine Rg.one (i := 11) (by kernel_rfl) rfl (fun KK hK => ?_)
  rw [if_pos (by kernel_rfl)]
  go_simp
  ((with_reducible refine (FL.out _).mono ?_); rintro e u ⟨rfl, hb⟩)
  have hNew := HS.out _ _ hHeld hb
  first | (refine hK.out _ _ hNew (fun _ => ?_)) | (go_wp2_with fail; refine hK.out _ _ hNew (fun _ => ?_))
  clear hK KK hHeld hb
  have hHeld := hNew
  clear hNew
  refine Rg.take (i := 17) (v := ?_) rfl (by kernel_rfl) (by kernel_rfl) (by kernel_rfl) (fun _ _ _ h => h) (Or.inl ⟨by kernel_rfl, ?_⟩) (by assumption) ?_
  rotate_left
  · ((intro w hSw; (try dsimp only at hSw); go_simp) <;> with_reducible rfl)
  try simp only [Act.put, List.setIfInBounds_toArray, List.set_cons_zero, List.set_cons_succ]
  refine Rg.take (i := 18) (v := ?_) rfl (by kernel_rfl) (by kernel_rfl) (by kernel_rfl) (fun _ _ _ h => h) (Or.inl ⟨by kernel_rfl, ?_⟩) (by assumption) ?_
  rotate_left
  · ((intro w hSw; (try dsimp only at hSw); go_simp) <;> with_reducible rfl)
  try simp only [Act.put, List.setIfInBounds_toArray, List.set_cons_zero, List.set_cons_succ]
  refine Rg.take (i := 19) (v := ?_) rfl (by kernel_rfl) (by kernel_rfl) (by kernel_rfl) (fun _ _ _ h => h) (Or.inl ⟨by kernel_rfl, ?_⟩) (by assumption) ?_
  rotate_left
  · ((intro w hSw; (try dsimp only at hSw); go_simp) <;> with_reducible rfl)
  try simp only [Act.put, List.setIfInBounds_toArray, List.set_cons_zero, List.set_cons_succ]
  refine Rg.take (i := 20) (v := undef) rfl (by kernel_rfl) (by kernel_rfl) (by kernel_rfl) (fun _ _ _ h => h) (Or.inr ⟨by kernel_rfl, rfl⟩) (by assumption) ?_
  try simp only [Act.put, List.setIfInBounds_toArray, List.set_cons_zero, List.set_cons_succ]
  refine Rg.take (i := 21) (v := undef) rfl (by kernel_rfl) (by kernel_rfl) (by kernel_rfl) (fun _ _ _ h => h) (Or.inr ⟨by kernel_rfl, rfl⟩) (by assumption) ?_
  try simp only [Act.put, List.setIfInBounds_toArray, List.set_cons_zero, List.set_cons_succ]
  refine Rg.take (i := 22) (v := undef) rfl (by kernel_rfl) (by kernel_rfl) (by kernel_rfl) (fun _ _ _ h => h) (Or.inr ⟨by kernel_rfl, rfl⟩) (by assumption) ?_
  try simp only [Act.put, List.setIfInBounds_toArray, List.set_cons_zero, List.set_cons_succ]
  refine Rg.take (i := 23) (v := undef) rfl (by kernel_rfl) (by kernel_rfl) (by kernel_rfl) (fun _ _ _ h => h) (Or.inr ⟨by kernel_rfl, rfl⟩) (by assumption) ?_
  try simp only [Act.put, List.setIfInBounds_toArray, List.set_cons_zero, List.set_cons_succ]
  refine Rg.take (i := 24) (v := undef) rfl (by kernel_rfl) (by kernel_rfl) (by kernel_rfl) (fun _ _ _ h => h) (Or.inr ⟨by kernel_rfl, rfl⟩) (by assumption) ?_
  try simp only [Act.put, List.setIfInBounds_toArray, List.set_cons_zero, List.set_cons_succ]
  refine Rg.take (i := 25) (v := undef) rfl (by kernel_rfl) (by kernel_rfl) (by kernel_rfl) (fun _ _ _ h => h) (Or.inr ⟨by kernel_rfl, rfl⟩) (by assumption) ?_
  try simp only [Act.put, List.setIfInBounds_toArray, List.set_cons_zero, List.set_cons_succ]
  refine Rg.take (i := 26) (v := undef) rfl (by kernel_rfl) (by kernel_rfl) (by kernel_rfl) (fun _ _ _ h => h) (Or.inr ⟨by kernel_rfl, rfl⟩) (by assumption) ?_
  try simp only [Act.put, List.setIfInBounds_toArray, List.set_cons_zero, List.set_cons_succ]
  refine Rg.take (i := 27) (v := undef) rfl (by kernel_rfl) (by kernel_rfl) (by kernel_rfl) (fun _ _ _ h => h) (Or.inr ⟨by kernel_rfl, rfl⟩) (by assumption) ?_
  try simp only [Act.put, List.setIfInBounds_toArray, List.set_cons_zero, List.set_cons_succ]
  refine Rg.take (i := 28) (v := ?_) rfl (by kernel_rfl) (by kernel_rfl) (by kernel_rfl) (fun _ _ _ h => h) (Or.inl ⟨by kernel_rfl, ?_⟩) (by assumption) ?_
  rotate_left
  · ((intro w hSw; (try dsimp only at hSw); go_simp) <;> with_reducible rfl)
  try simp only [Act.put, List.setIfInBounds_toArray, List.set_cons_zero, List.set_cons_succ]
  refine Rg.take (i := 29) (v := ?_) rfl (by kernel_rfl) (by kernel_rfl) (by kernel_rfl) (fun _ _ _ h => h) (Or.inl ⟨by kernel_rfl, ?_⟩) (by assumption) ?_
  rotate_left
  · ((intro w hSw; (try dsimp only at hSw); go_simp) <;> with_reducible rfl)
  try simp only [Act.put, List.setIfInBounds_toArray, List.set_cons_zero, List.set_cons_succ]
  refine wpAnyH_done (by kernel_rfl) ?_ _
  obtain ⟨t1, t2, t4, v0, v1, r0, r1, hsz, K6⟩ := hHeld
  have lt := Nat.lt_of_lt_of_le lt hsz
  have lv := Nat.lt_of_lt_of_le lv hsz
  have lx := Nat.lt_of_lt_of_le lx hsz
  have lr := Nat.lt_of_lt_of_le lr hsz
  clear hsz hz
  clear hS1 hS2 hp hpm
  go_wp2_with fail
  refine (EX.out _).mono ?_
  rintro e w7 ⟨rfl, hb⟩
  have L : Below u.heap.size u w7 := (Below.refl _ _).trans (hb.mono (by simp <;> omega))
  have K7 : Below w.heap.size w w7 := K6.trans (L.mono K6.size)
  have t1 := Rg.keep L lt t1
  have t2 := Rg.keep L lt t2
  have t4 := Rg.keep L lt t4
  have v0 := Rg.keep L lv v0
  have v1 := Rg.keep L lv v1
  have r0 := Rg.keep L lr r0
  have r1 := Rg.keep L lr r1
  have lt := Nat.lt_of_lt_of_le lt L.size
  have lv := Nat.lt_of_lt_of_le lv L.size
  have lx := Nat.lt_of_lt_of_le lx L.size
  have lr := Nat.lt_of_lt_of_le lr L.size
  clear hb L
  go_wp2
  go_ret
  exact ⟨rfl, K7⟩
set_option maxRecDepth 100000 in
set_option maxHeartbeats 16000000 in
theorem re_w3 (K B F R O n d N p H T Q S1 S2 fl ce P1 P2 : Int) (w : World) (k2 : (K != 2) = false) (hp : (2 : Int) ^ F.toNat = p) (p0 : 1 ≤ p) (p1 : p ≤ 1073741824) (f0 : 0 ≤ F) (f1 : F ≤ 30) (hH : (2 : Int) ^ (B.toNat - 1) = H) (H0 : 2 ≤ H) (H1 : H ≤ 1073741824) (g0 : 2 ≤ B) (g1 : B ≤ 31) (hQ : 2147483647 / p = Q) (Q0 : 1 ≤ Q) (Q1 : Q ≤ 2147483647) (N0 : -2147483648 ≤ N) (N1 : N ≤ 2147483648) (d0 : 1 ≤ d) (d1 : d ≤ 2147483647) (n0 : -2147483647 ≤ n) (n1 : n ≤ 2147483647) (VT : Hid (∀ w, Calls Tryd.prog 9 #[T5 K B F R O] w (Ret (.int .i64 0) w))) (VA : Hid (∀ w, Calls Tryd.prog 11 #[T5 1 0 0 0 0, V2 n d] w (Ret (.bool true) w))) (CA : Hid (∀ w, Calls Tryd.prog 16 #[T5 1 0 0 0 0, T5 K B F R O, V2 n d] w (Ret (Frac3 N 1 0) w))) (EX : Hid (∀ w, Calls Tryd.prog 15 #[] w (Ret (.bool true) w))) (FL : Hid (∀ w, Calls Tryd.prog 20 #[V2 n d] w (Ret (.int .i64 fl) w))) (CE : Hid (∀ w, Calls Tryd.prog 21 #[V2 n d] w (Ret (.int .i64 ce) w))) (b1 : (N == -H) = false) (b2 : (N == H - 1) = false) (q3 : n ≤ Q) (q4 : -Q ≤ n) (hT : n * p = T) (T0 : -2147483647 ≤ T) (T1 : T ≤ 2147483647) (hS1 : -H / p = S1) (hS2 : (H - 1) / p = S2) (s0 : -2147483648 ≤ S1) (s1 : S1 ≤ 2147483648) (s2 : -2147483648 ≤ S2) (s3 : S2 ≤ 2147483648) (b5 : (O == 2) = true) (b6 : decide (B ≤ F) = false) (b7 : decide (fl < S1) = false) (b8 : decide (S2 < ce) = true) :
    Calls Tryd.prog 6 #[T5 K B F R O, V2 n d] w (Ret (.bool true) w) := by
  have HP' := Lib.hid hp
  have HH' := Lib.hid hH
  have HQ' := Lib.hid hQ
  have B1' := Lib.hid b1
  have B2' := Lib.hid b2
  have Q3' := Lib.hid q3
  have Q4' := Lib.hid q4
  have HT' := Lib.hid hT
  have HS1' := Lib.hid hS1
  have HS2' := Lib.hid hS2
  have B5' := Lib.hid b5
  have B6' := Lib.hid b6
  have B7' := Lib.hid b7
  have B8' := Lib.hid b8
  clear hp hH hQ b1 b2 q3 q4 hT hS1 hS2 b5 b6 b7 b8
  go_enter Tryd.func6, Tryd.ntmps6
  go_wp2_with fail
  refine (VT.out _).mono ?_
  rintro e w1 ⟨rfl, hb⟩
  have L : Below w.heap.size w w1 := ((((Below.refl _ _).alloc (by simp <;> omega) _).alloc (by simp <;> omega) _).alloc (by simp <;> omega) _).trans (hb.mono (by simp <;> omega))
  have K1 : Below w.heap.size w w1 := L
  have lt : w.heap.size < w1.heap.size := Nat.lt_of_lt_of_le (by simp <;> omega) hb.size
  have t0 : w1.cell? ⟨w.heap.size, 0, none⟩ = some (.int .i64 K) := Rg.keep hb (by simp <;> omega) (by go_cell)
  have t1 : w1.cell? ⟨w.heap.size, 1, none⟩ = some (.int .i64 B) := Rg.keep hb (by simp <;> omega) (by go_cell)
  have t2 : w1.cell? ⟨w.heap.size, 2, none⟩ = some (.int .i64 F) := Rg.keep hb (by simp <;> omega) (by go_cell)
  have t3 : w1.cell? ⟨w.heap.size, 3, none⟩ = some (.int .i64 R) := Rg.keep hb (by simp <;> omega) (by go_cell)
  have t4 : w1.cell? ⟨w.heap.size, 4, none⟩ = some (.int .i64 O) := Rg.keep hb (by simp <;> omega) (by go_cell)
  have lv : w.heap.size + 1 < w1.heap.size := Nat.lt_of_lt_of_le (by simp <;> omega) hb.size
  have v0 : w1.cell? ⟨w.heap.size + 1, 0, none⟩ = some (.int .i64 n) := Rg.keep hb (by simp <;> omega) (by go_cell)
  have v1 : w1.cell? ⟨w.heap.size + 1, 1, none⟩ = some (.int .i64 d) := Rg.keep hb (by simp <;> omega) (by go_cell)
  have lx : w.heap.size + 1 + 1 < w1.heap.size := Nat.lt_of_lt_of_le (by simp <;> omega) hb.size
  have x0 : w1.cell? ⟨w.heap.size + 1 + 1, 0, none⟩ = some (.int .i64 1) := Rg.keep hb (by simp <;> omega) (by go_cell)
  have x1 : w1.cell? ⟨w.heap.size + 1 + 1, 1, none⟩ = some (.int .i64 0) := Rg.keep hb (by simp <;> omega) (by go_cell)
  have x2 : w1.cell? ⟨w.heap.size + 1 + 1, 2, none⟩ = some (.int .i64 0) := Rg.keep hb (by simp <;> omega) (by go_cell)
  have x3 : w1.cell? ⟨w.heap.size + 1 + 1, 3, none⟩ = some (.int .i64 0) := Rg.keep hb (by simp <;> omega) (by go_cell)
  have x4 : w1.cell? ⟨w.heap.size + 1 + 1, 4, none⟩ = some (.int .i64 0) := Rg.keep hb (by simp <;> omega) (by go_cell)
  clear hb L
  go_wp2_with fail
  refine (VA.out _).mono ?_
  rintro e w2 ⟨rfl, hb⟩
  have L : Below w1.heap.size w1 w2 := (Below.refl _ _).trans (hb.mono (by simp <;> omega))
  have K2 : Below w.heap.size w w2 := K1.trans (L.mono K1.size)
  have t0 := Rg.keep L lt t0
  have t1 := Rg.keep L lt t1
  have t2 := Rg.keep L lt t2
  have t3 := Rg.keep L lt t3
  have t4 := Rg.keep L lt t4
  have v0 := Rg.keep L lv v0
  have v1 := Rg.keep L lv v1
  have x0 := Rg.keep L lx x0
  have x1 := Rg.keep L lx x1
  have x2 := Rg.keep L lx x2
  have x3 := Rg.keep L lx x3
  have x4 := Rg.keep L lx x4
  have lt := Nat.lt_of_lt_of_le lt L.size
  have lv := Nat.lt_of_lt_of_le lv L.size
  have lx := Nat.lt_of_lt_of_le lx L.size
  clear hb L
  go_wp2_with fail
  refine (CA.out _).mono ?_
  rintro e w3 ⟨rfl, hb⟩
  have L : Below w2.heap.size w2 w3 := (Below.refl _ _).trans (hb.mono (by simp <;> omega))
  have K3 : Below w.heap.size w w3 := K2.trans (L.mono K2.size)
  have t0 := Rg.keep L lt t0
  have t1 := Rg.keep L lt t1
  have t2 := Rg.keep L lt t2
  have t3 := Rg.keep L lt t3
  have t4 := Rg.keep L lt t4
  have v0 := Rg.keep L lv v0
  have v1 := Rg.keep L lv v1
  have x0 := Rg.keep L lx x0
  have x1 := Rg.keep L lx x1
  have x2 := Rg.keep L lx x2
  have x3 := Rg.keep L lx x3
  have x4 := Rg.keep L lx x4
  have lt := Nat.lt_of_lt_of_le lt L.size
  have lv := Nat.lt_of_lt_of_le lv L.size
  have lx := Nat.lt_of_lt_of_le lx L.size
  clear hb L
  go_wp2_with fail
  obtain ⟨zw4, hzw⟩ : ∃ zw4, zw4 = (w3.alloc (.cells #[.int .i64 N, .int .i64 1] 25)) := ⟨_, rfl⟩
  have hb : Below (w3.alloc (.cells #[.int .i64 N, .int .i64 1] 25)).heap.size (w3.alloc (.cells #[.int .i64 N, .int .i64 1] 25)) zw4 := by rw [hzw]; exact Below.refl _ _
  rw [← hzw]
  clear hzw
  have L : Below w3.heap.size w3 zw4 := ((Below.refl _ _).alloc (by simp <;> omega) _).trans (hb.mono (by simp <;> omega))
  have K4 : Below w.heap.size w zw4 := K3.trans (L.mono K3.size)
  have lr : w3.heap.size < zw4.heap.size := Nat.lt_of_lt_of_le (by simp <;> omega) hb.size
  have r0 : zw4.cell? ⟨w3.heap.size, 0, none⟩ = some (.int .i64 N) := Rg.keep hb (by simp <;> omega) (by go_cell)
  have r1 : zw4.cell? ⟨w3.heap.size, 1, none⟩ = some (.int .i64 1) := Rg.keep hb (by simp <;> omega) (by go_cell)
  have t0 := Rg.keep L lt t0
  have t1 := Rg.keep L lt t1
  have t2 := Rg.keep L lt t2
  have t3 := Rg.keep L lt t3
  have t4 := Rg.keep L lt t4
  have v0 := Rg.keep L lv v0
  have v1 := Rg.keep L lv v1
  have x0 := Rg.keep L lx x0
  have x1 := Rg.keep L lx x1
  have x2 := Rg.keep L lx x2
  have x3 := Rg.keep L lx x3
  have x4 := Rg.keep L lx x4
  have lt := Nat.lt_of_lt_of_le lt L.size
  have lv := Nat.lt_of_lt_of_le lv L.size
  have lx := Nat.lt_of_lt_of_le lx L.size
  clear hb L
  have hH := HH'.out
  go_quiet (fail)
  clear hH
  obtain ⟨yw5, hyw⟩ : ∃ yw5, yw5 = zw4.drewN nq := ⟨_, rfl⟩
  have hb : Below zw4.heap.size zw4 yw5 := by rw [hyw]; exact below_drewN (Below.refl _ _) _
  rw [← hyw]
  clear hyw
  have t0 := Rg.keep hb lt t0
  have t1 := Rg.keep hb lt t1
  have t2 := Rg.keep hb lt t2
  have t3 := Rg.keep hb lt t3
  have t4 := Rg.keep hb lt t4
  have v0 := Rg.keep hb lv v0
  have v1 := Rg.keep hb lv v1
  have x0 := Rg.keep hb lx x0
  have x1 := Rg.keep hb lx x1
  have x2 := Rg.keep hb lx x2
  have x3 := Rg.keep hb lx x3
  have x4 := Rg.keep hb lx x4
  have r0 := Rg.keep hb lr r0
  have r1 := Rg.keep hb lr r1
  have lt := Nat.lt_of_lt_of_le lt hb.size
  have lv := Nat.lt_of_lt_of_le lv hb.size
  have lx := Nat.lt_of_lt_of_le lx hb.size
  have lr := Nat.lt_of_lt_of_le lr hb.size
  have K5 : Below w.heap.size w yw5 := K4.trans (hb.mono K4.size)
  clear hb
  have b1 := B1'.out
  have b2 := B2'.out
  have q3 := Q3'.out
  have q4 := Q4'.out
  have hp := HP'.out
  have hQ := HQ'.out
  have hT := HT'.out
  go_wp2_with fail
  clear hT b1 b2 q3 q4 hQ
  have hpm : (2 : Int) ^ min (IntKind.u64.wrap F).toNat 64 = p := by rw [IntWalk.u64_in F (by omega), Nat.min_eq_left (by omega)]; exact hp
  have hS1 := HS1'.out
  have hS2 := HS2'.out
  have b5 := B5'.out
  have b6 := B6'.out
  have b7 := B7'.out
  have b8 := B8'.out
  have hz : yw5.cell? ⟨w.heap.size, 1, none⟩ = some (.int .i64 B) ∧ yw5.cell? ⟨w.heap.size, 2, none⟩ = some (.int .i64 F) ∧ yw5.cell? ⟨w.heap.size, 4, none⟩ = some (.int .i64 O) ∧ yw5.cell? ⟨w.heap.size + 1, 0, none⟩ = some (.int .i64 n) ∧ yw5.cell? ⟨w.heap.size + 1, 1, none⟩ = some (.int .i64 d) ∧ yw5.cell? ⟨w3.heap.size, 0, none⟩ = some (.int .i64 N) ∧ yw5.cell? ⟨w3.heap.size, 1, none⟩ = some (.int .i64 1) ∧ yw5.heap.size ≤ yw5.heap.size ∧ Below w.heap.size w yw5 := ⟨t1, t2, t4, v0, v1, r0, r1, Nat.le_refl _, K5⟩
  clear t0 t1 t2 t3 t4 v0 v1 x0 x1 x2 x3 x4 r0 r1 K5
  have HS : Hid (∀ u u' : World, (u.cell? ⟨w.heap.size, 1, none⟩ = some (.int .i64 B) ∧ u.cell? ⟨w.heap.size, 2, none⟩ = some (.int .i64 F) ∧ u.cell? ⟨w.heap.size, 4, none⟩ = some (.int .i64 O) ∧ u.cell? ⟨w.heap.size + 1, 0, none⟩ = some (.int .i64 n) ∧ u.cell? ⟨w.heap.size + 1, 1, none⟩ = some (.int .i64 d) ∧ u.cell? ⟨w3.heap.size, 0, none⟩ = some (.int .i64 N) ∧ u.cell? ⟨w3.heap.size, 1, none⟩ = some (.int .i64 1) ∧ yw5.heap.size ≤ u.heap.size ∧ Below w.heap.size w u) → Below u.heap.size u u' → (u'.cell? ⟨w.heap.size, 1, none⟩ = some (.int .i64 B) ∧ u'.cell? ⟨w.heap.size, 2, none⟩ = some (.int .i64 F) ∧ u'.cell? ⟨w.heap.size, 4, none⟩ = some (.int .i64 O) ∧ u'.cell? ⟨w.heap.size + 1, 0, none⟩ = some (.int .i64 n) ∧ u'.cell? ⟨w.heap.size + 1, 1, none⟩ = some (.int .i64 d) ∧ u'.cell? ⟨w3.heap.size, 0, none⟩ = some (.int .i64 N) ∧ u'.cell? ⟨w3.heap.size, 1, none⟩ = some (.int .i64 1) ∧ yw5.heap.size ≤ u'.heap.size ∧ Below w.heap.size w u')) := Lib.hid (fun u u' h hb => ⟨Rg.keep hb (Nat.lt_of_lt_of_le lt h.2.2.2.2.2.2.2.1) h.1, Rg.keep hb (Nat.lt_of_lt_of_le lt h.2.2.2.2.2.2.2.1) h.2.1, Rg.keep hb (Nat.lt_of_lt_of_le lt h.2.2.2.2.2.2.2.1) h.2.2.1, Rg.keep hb (Nat.lt_of_lt_of_le lv h.2.2.2.2.2.2.2.1) h.2.2.2.1, Rg.keep hb (Nat.lt_of_lt_of_le lv h.2.2.2.2.2.2.2.1) h.2.2.2.2.1, Rg.keep hb (Nat.lt_of_lt_of_le lr h.2.2.2.2.2.2.2.1) h.2.2.2.2.2.1, Rg.keep hb (Nat.lt_of_lt_of_le lr h.2.2.2.2.2.2.2.1) h.2.2.2.2.2.2.1, Nat.le_trans h.2.2.2.2.2.2.2.1 hb.size, h.2.2.2.2.2.2.2.2.trans (hb.mono h.2.2.2.2.2.2.2.2.size)⟩)
  refine wp_region_held_drew (S := fun w' => w'.cell? ⟨w.heap.size, 1, none⟩ = some (.int .i64 B) ∧ w'.cell? ⟨w.heap.size, 2, none⟩ = some (.int .i64 F) ∧ w'.cell? ⟨w.heap.size, 4, none⟩ = some (.int .i64 O) ∧ w'.cell? ⟨w.heap.size + 1, 0, none⟩ = some (.int .i64 n) ∧ w'.cell? ⟨w.heap.size + 1, 1, none⟩ = some (.int .i64 d) ∧ w'.cell? ⟨w3.heap.size, 0, none⟩ = some (.int .i64 N) ∧ w'.cell? ⟨w3.heap.size, 1, none⟩ = some (.int .i64 1) ∧ yw5.heap.size ≤ w'.heap.size ∧ Below w.heap.size w w') (by kernel_rfl) (HS.out _ _ hz (Below.drew (Below.refl _ _))) (fun hHeld => ?_)
  refine Rg.take (i := 0) (v := ?_) rfl (by kernel_rfl) (by kernel_rfl) (by kernel_rfl) (fun _ _ _ h => h) (Or.inl ⟨by kernel_rfl, ?_⟩) (by assumption) ?_
  rotate_left
  · ((intro w hSw; (try dsimp only at hSw); go_simp) <;> with_reducible rfl)
  try simp only [Act.put, List.setIfInBounds_toArray, List.set_cons_zero, List.set_cons_succ]
  refine Rg.take (i := 1) (v := ?_) rfl (by kernel_rfl) (by kernel_rfl) (by kernel_rfl) (fun _ _ _ h => h) (Or.inl ⟨by kernel_rfl, ?_⟩) (by assumption) ?_
  rotate_left
  · ((intro w hSw; (try dsimp only at hSw); go_simp) <;> with_reducible rfl)
  try simp only [Act.put, List.setIfInBounds_toArray, List.set_cons_zero, List.set_cons_succ]
  refine Rg.take (i := 2) (v := ?_) rfl (by kernel_rfl) (by kernel_rfl) (by kernel_rfl) (fun _ _ _ h => h) (Or.inl ⟨by kernel_rfl, ?_⟩) (by assumption) ?_
  rotate_left
  · ((intro w hSw; (try dsimp only at hSw); go_simp) <;> with_reducible rfl)
  try simp only [Act.put, List.setIfInBounds_toArray, List.set_cons_zero, List.set_cons_succ]
  refine Rg.take (i := 3) (v := ?_) rfl (by kernel_rfl) (by kernel_rfl) (by kernel_rfl) (fun _ _ _ h => h) (Or.inl ⟨by kernel_rfl, ?_⟩) (by assumption) ?_
  rotate_left
  · ((intro w hSw; (try dsimp only at hSw); go_simp) <;> with_reducible rfl)
  try simp only [Act.put, List.setIfInBounds_toArray, List.set_cons_zero, List.set_cons_succ]
  refine Rg.take (i := 4) (v := ?_) rfl (by kernel_rfl) (by kernel_rfl) (by kernel_rfl) (fun _ _ _ h => h) (Or.inl ⟨by kernel_rfl, ?_⟩) (by assumption) ?_
  rotate_left
  · ((intro w hSw; (try dsimp only at hSw); go_simp) <;> with_reducible rfl)
  try simp only [Act.put, List.setIfInBounds_toArray, List.set_cons_zero, List.set_cons_succ]
  refine Rg.take (i := 5) (v := ?_) rfl (by kernel_rfl) (by kernel_rfl) (by kernel_rfl) (fun _ _ _ h => h) (Or.inl ⟨by kernel_rfl, ?_⟩) (by assumption) ?_
  rotate_left
  · ((intro w hSw; (try dsimp only at hSw); go_simp) <;> with_reducible rfl)
  try simp only [Act.put, List.setIfInBounds_toArray, List.set_cons_zero, List.set_cons_succ]
  refine Rg.take (i := 6) (v := ?_) rfl (by kernel_rfl) (by kernel_rfl) (by kernel_rfl) (fun _ _ _ h => h) (Or.inl ⟨by kernel_rfl, ?_⟩) (by assumption) ?_
  rotate_left
  · ((intro w hSw; (try dsimp only at hSw); go_simp) <;> with_reducible rfl)
  try simp only [Act.put, List.setIfInBounds_toArray, List.set_cons_zero, List.set_cons_succ]
  refine Rg.take (i := 7) (v := ?_) rfl (by kernel_rfl) (by kernel_rfl) (by kernel_rfl) (fun _ _ _ h => h) (Or.inl ⟨by kernel_rfl, ?_⟩) (by assumption) ?_
  rotate_left
  · ((intro w hSw; (try dsimp only at hSw); go_simp) <;> with_reducible rfl)
  try simp only [Act.put, List.setIfInBounds_toArray, List.set_cons_zero, List.set_cons_succ]
  refine Rg.take (i := 8) (v := ?_) rfl (by kernel_rfl) (by kernel_rfl) (by kernel_rfl) (fun _ _ _ h => h) (Or.inl ⟨by kernel_rfl, ?_⟩) (by assumption) ?_
  rotate_left
  · ((intro w hSw; (try dsimp only at hSw); go_simp) <;> with_reducible rfl)
  try simp only [Act.put, List.setIfInBounds_toArray, List.set_cons_zero, List.set_cons_succ]
  refine Rg.take (i := 9) (v := ?_) rfl (by kernel_rfl) (by kernel_rfl) (by kernel_rfl) (fun _ _ _ h => h) (Or.inl ⟨by kernel_rfl, ?_⟩) (by assumption) ?_
  rotate_left
  · ((intro w hSw; (try dsimp only at hSw); go_simp) <;> with_reducible rfl)
  try simp only [Act.put, List.setIfInBounds_toArray, List.set_cons_zero, List.set_cons_succ]
  refine Rg.take (i := 10) (v := ?_) rfl (by kernel_rfl) (by kernel_rfl) (by kernel_rfl) (fun _ _ _ h => h) (Or.inl ⟨by kernel_rfl, ?_⟩) (by assumption) ?_
  rotate_left
  · ((intro w hSw; (try dsimp only at hSw); go_simp) <;> with_reducible rfl)
  try simp only [Act.put, List.setIfInBounds_toArray, List.set_cons_zero, List.set_cons_succ]
  refine Rg.take (i := 12) (v := ?_) rfl (by kernel_rfl) (by kernel_rfl) (by kernel_rfl) (fun _ _ _ h => h) (Or.inl ⟨by kernel_rfl, ?_⟩) (by assumption) ?_
  rotate_left
  · ((intro w hSw; (try dsimp only at hSw); go_simp) <;> with_reducible rfl)
  try simp only [Act.put, List.setIfInBounds_toArray, List.set_cons_zero, List.set_cons_succ]
  refine Rg.take (i := 13) (v := ?_) rfl (by kernel_rfl) (by kernel_rfl) (by kernel_rfl) (fun _ _ _ h => h) (Or.inl ⟨by kernel_rfl, ?_⟩) (by assumption) ?_
  rotate_left
  · ((intro w hSw; (try dsimp only at hSw); go_simp) <;> with_reducible rfl)
  try simp only [Act.put, List.setIfInBounds_toArray, List.set_cons_zero, List.set_cons_succ]
  refine Rg.take (i := 14) (v := ?_) rfl (by kernel_rfl) (by kernel_rfl) (by kernel_rfl) (fun _ _ _ h => h) (Or.inl ⟨by kernel_rfl, ?_⟩) (by assumption) ?_
  rotate_left
  · ((intro w hSw; (try dsimp only at hSw); go_simp) <;> with_reducible rfl)
  try simp only [Act.put, List.setIfInBounds_toArray, List.set_cons_zero, List.set_cons_succ]
  refine Rg.take (i := 15) (v := ?_) rfl (by kernel_rfl) (by kernel_rfl) (by kernel_rfl) (fun _ _ _ h => h) (Or.inl ⟨by kernel_rfl, ?_⟩) (by assumption) ?_
  rotate_left
  · ((intro w hSw; (try dsimp only at hSw); go_simp) <;> with_reducible rfl)
  try simp only [Act.put, List.setIfInBounds_toArray, List.set_cons_zero, List.set_cons_succ]
  refine Rg.take (i := 16) (v := ?_) rfl (by kernel_rfl) (by kernel_rfl) (by kernel_rfl) (fun _ _ _ h => h) (Or.inl ⟨by kernel_rfl, ?_⟩) (by assumption) ?_
  rotate_left
  · ((intro w hSw; (try dsimp only at hSw); go_simp) <;> with_reducible rfl)
  try simp only [Act.put, List.setIfInBounds_toArray, List.set_cons_zero, List.set_cons_succ]
  refine Rg.one (i := 11) (by kernel_rfl) rfl (fun KK hK => ?_)
  rw [if_pos (by kernel_rfl)]
  go_simp
  ((with_reducible refine (FL.out _).mono ?_); rintro e u ⟨rfl, hb⟩)
  have hNew := HS.out _ _ hHeld hb
  first | (refine hK.out _ _ hNew (fun _ => ?_)) | (go_wp2_with fail; refine hK.out _ _ hNew (fun _ => ?_))
  clear hK KK hHeld hb
  have hHeld := hNew
  clear hNew
  refine Rg.take (i := 17) (v := ?_) rfl (by kernel_rfl) (by kernel_rfl) (by kernel_rfl) (fun _ _ _ h => h) (Or.inl ⟨by kernel_rfl, ?_⟩) (by assumption) ?_
  rotate_left
  · ((intro w hSw; (try dsimp only at hSw); go_simp) <;> with_reducible rfl)
  try simp only [Act.put, List.setIfInBounds_toArray, List.set_cons_zero, List.set_cons_succ]
  refine Rg.take (i := 18) (v := ?_) rfl (by kernel_rfl) (by kernel_rfl) (by kernel_rfl) (fun _ _ _ h => h) (Or.inl ⟨by kernel_rfl, ?_⟩) (by assumption) ?_
  rotate_left
  · ((intro w hSw; (try dsimp only at hSw); go_simp) <;> with_reducible rfl)
  try simp only [Act.put, List.setIfInBounds_toArray, List.set_cons_zero, List.set_cons_succ]
  refine Rg.take (i := 19) (v := ?_) rfl (by kernel_rfl) (by kernel_rfl) (by kernel_rfl) (fun _ _ _ h => h) (Or.inl ⟨by kernel_rfl, ?_⟩) (by assumption) ?_
  rotate_left
  · ((intro w hSw; (try dsimp only at hSw); go_simp) <;> with_reducible rfl)
  try simp only [Act.put, List.setIfInBounds_toArray, List.set_cons_zero, List.set_cons_succ]
  refine Rg.take (i := 20) (v := ?_) rfl (by kernel_rfl) (by kernel_rfl) (by kernel_rfl) (fun _ _ _ h => h) (Or.inl ⟨by kernel_rfl, ?_⟩) (by assumption) ?_
  rotate_left
  · ((intro w hSw; (try dsimp only at hSw); go_simp) <;> with_reducible rfl)
  try simp only [Act.put, List.setIfInBounds_toArray, List.set_cons_zero, List.set_cons_succ]
  refine Rg.take (i := 22) (v := ?_) rfl (by kernel_rfl) (by kernel_rfl) (by kernel_rfl) (fun _ _ _ h => h) (Or.inl ⟨by kernel_rfl, ?_⟩) (by assumption) ?_
  rotate_left
  · ((intro w hSw; (try dsimp only at hSw); go_simp) <;> with_reducible rfl)
  try simp only [Act.put, List.setIfInBounds_toArray, List.set_cons_zero, List.set_cons_succ]
  refine Rg.take (i := 23) (v := ?_) rfl (by kernel_rfl) (by kernel_rfl) (by kernel_rfl) (fun _ _ _ h => h) (Or.inl ⟨by kernel_rfl, ?_⟩) (by assumption) ?_
  rotate_left
  · ((intro w hSw; (try dsimp only at hSw); go_simp) <;> with_reducible rfl)
  try simp only [Act.put, List.setIfInBounds_toArray, List.set_cons_zero, List.set_cons_succ]
  refine Rg.take (i := 24) (v := ?_) rfl (by kernel_rfl) (by kernel_rfl) (by kernel_rfl) (fun _ _ _ h => h) (Or.inl ⟨by kernel_rfl, ?_⟩) (by assumption) ?_
  rotate_left
  · ((intro w hSw; (try dsimp only at hSw); go_simp) <;> with_reducible rfl)
  try simp only [Act.put, List.setIfInBounds_toArray, List.set_cons_zero, List.set_cons_succ]
  refine Rg.take (i := 25) (v := ?_) rfl (by kernel_rfl) (by kernel_rfl) (by kernel_rfl) (fun _ _ _ h => h) (Or.inl ⟨by kernel_rfl, ?_⟩) (by assumption) ?_
  rotate_left
  · ((intro w hSw; (try dsimp only at hSw); go_simp) <;> with_reducible rfl)
  try simp only [Act.put, List.setIfInBounds_toArray, List.set_cons_zero, List.set_cons_succ]
  refine Rg.take (i := 26) (v := ?_) rfl (by kernel_rfl) (by kernel_rfl) (by kernel_rfl) (fun _ _ _ h => h) (Or.inl ⟨by kernel_rfl, ?_⟩) (by assumption) ?_
  rotate_left
  · ((intro w hSw; (try dsimp only at hSw); go_simp) <;> with_reducible rfl)
  try simp only [Act.put, List.setIfInBounds_toArray, List.set_cons_zero, List.set_cons_succ]
  refine Rg.one (i := 21) (by kernel_rfl) rfl (fun KK hK => ?_)
  rw [if_pos (by kernel_rfl)]
  go_simp
  ((with_reducible refine (CE.out _).mono ?_); rintro e u ⟨rfl, hb⟩)
  have hNew := HS.out _ _ hHeld hb
  first | (refine hK.out _ _ hNew (fun _ => ?_)) | (go_wp2_with fail; refine hK.out _ _ hNew (fun _ => ?_))
  clear hK KK hHeld hb
  have hHeld := hNew
  clear hNew
  refine Rg.take (i := 27) (v := ?_) rfl (by kernel_rfl) (by kernel_rfl) (by kernel_rfl) (fun _ _ _ h => h) (Or.inl ⟨by kernel_rfl, ?_⟩) (by assumption) ?_
  rotate_left
  · ((intro w hSw; (try dsimp only at hSw); go_simp) <;> with_reducible rfl)
  try simp only [Act.put, List.setIfInBounds_toArray, List.set_cons_zero, List.set_cons_succ]
  refine Rg.take (i := 28) (v := ?_) rfl (by kernel_rfl) (by kernel_rfl) (by kernel_rfl) (fun _ _ _ h => h) (Or.inl ⟨by kernel_rfl, ?_⟩) (by assumption) ?_
  rotate_left
  · ((intro w hSw; (try dsimp only at hSw); go_simp) <;> with_reducible rfl)
  try simp only [Act.put, List.setIfInBounds_toArray, List.set_cons_zero, List.set_cons_succ]
  refine Rg.take (i := 29) (v := ?_) rfl (by kernel_rfl) (by kernel_rfl) (by kernel_rfl) (fun _ _ _ h => h) (Or.inl ⟨by kernel_rfl, ?_⟩) (by assumption) ?_
  rotate_left
  · ((intro w hSw; (try dsimp only at hSw); go_simp) <;> with_reducible rfl)
  try simp only [Act.put, List.setIfInBounds_toArray, List.set_cons_zero, List.set_cons_succ]
  refine wpAnyH_done (by kernel_rfl) ?_ _
  obtain ⟨t1, t2, t4, v0, v1, r0, r1, hsz, K6⟩ := hHeld
  have lt := Nat.lt_of_lt_of_le lt hsz
  have lv := Nat.lt_of_lt_of_le lv hsz
  have lx := Nat.lt_of_lt_of_le lx hsz
  have lr := Nat.lt_of_lt_of_le lr hsz
  clear hsz hz
  clear hS1 hS2 hp hpm
  go_wp2_with fail
  refine (EX.out _).mono ?_
  rintro e w7 ⟨rfl, hb⟩
  have L : Below u.heap.size u w7 := (Below.refl _ _).trans (hb.mono (by simp <;> omega))
  have K7 : Below w.heap.size w w7 := K6.trans (L.mono K6.size)
  have t1 := Rg.keep L lt t1
  have t2 := Rg.keep L lt t2
  have t4 := Rg.keep L lt t4
  have v0 := Rg.keep L lv v0
  have v1 := Rg.keep L lv v1
  have r0 := Rg.keep L lr r0
  have r1 := Rg.keep L lr r1
  have lt := Nat.lt_of_lt_of_le lt L.size
  have lv := Nat.lt_of_lt_of_le lv L.size
  have lx := Nat.lt_of_lt_of_le lx L.size
  have lr := Nat.lt_of_lt_of_le lr L.size
  clear hb L
  go_wp2
  go_ret
  exact ⟨rfl, K7⟩
set_option maxRecDepth 100000 in
set_option maxHeartbeats 16000000 in
theorem re_c1 (K B F R O n d N p H T Q S1 S2 fl ce P1 P2 : Int) (w : World) (k2 : (K != 2) = false) (hp : (2 : Int) ^ F.toNat = p) (p0 : 1 ≤ p) (p1 : p ≤ 1073741824) (f0 : 0 ≤ F) (f1 : F ≤ 30) (hH : (2 : Int) ^ (B.toNat - 1) = H) (H0 : 2 ≤ H) (H1 : H ≤ 1073741824) (g0 : 2 ≤ B) (g1 : B ≤ 31) (hQ : 2147483647 / p = Q) (Q0 : 1 ≤ Q) (Q1 : Q ≤ 2147483647) (N0 : -2147483648 ≤ N) (N1 : N ≤ 2147483648) (d0 : 1 ≤ d) (d1 : d ≤ 2147483647) (n0 : -2147483647 ≤ n) (n1 : n ≤ 2147483647) (VT : Hid (∀ w, Calls Tryd.prog 9 #[T5 K B F R O] w (Ret (.int .i64 0) w))) (VA : Hid (∀ w, Calls Tryd.prog 11 #[T5 1 0 0 0 0, V2 n d] w (Ret (.bool true) w))) (CA : Hid (∀ w, Calls Tryd.prog 16 #[T5 1 0 0 0 0, T5 K B F R O, V2 n d] w (Ret (Frac3 N 1 0) w))) (EX : Hid (∀ w, Calls Tryd.prog 15 #[] w (Ret (.bool true) w))) (FL : Hid (∀ w, Calls Tryd.prog 20 #[V2 n d] w (Ret (.int .i64 fl) w))) (CE : Hid (∀ w, Calls Tryd.prog 21 #[V2 n d] w (Ret (.int .i64 ce) w))) (b1 : (N == -H) = false) (b2 : (N == H - 1) = false) (q3 : n ≤ Q) (q4 : -Q ≤ n) (hT : n * p = T) (T0 : -2147483647 ≤ T) (T1 : T ≤ 2147483647) (hS1 : -H / p = S1) (hS2 : (H - 1) / p = S2) (s0 : -2147483648 ≤ S1) (s1 : S1 ≤ 2147483648) (s2 : -2147483648 ≤ S2) (s3 : S2 ≤ 2147483648) (hP1 : (N - 1) * d = P1) (hP2 : (N + 1) * d = P2) (c1 : -9223372036854775808 ≤ P1) (c2 : P1 ≤ 9223372036854775807) (c3 : -9223372036854775808 ≤ P2) (c4 : P2 ≤ 9223372036854775807) (e1 : P1 < T) (e2 : T < P2) (b5 : (O == 2) = true) (b6 : decide (B ≤ F) = false) (b7 : decide (fl < S1) = false) (b8 : decide (S2 < ce) = false) :
    Calls Tryd.prog 6 #[T5 K B F R O, V2 n d] w (Ret (.bool true) w) := by
  have HP' := Lib.hid hp
  have HH' := Lib.hid hH
  have HQ' := Lib.hid hQ
  have B1' := Lib.hid b1
  have B2' := Lib.hid b2
  have Q3' := Lib.hid q3
  have Q4' := Lib.hid q4
  have HT' := Lib.hid hT
  have HS1' := Lib.hid hS1
  have HS2' := Lib.hid hS2
  have HP1' := Lib.hid hP1
  have HP2' := Lib.hid hP2
  have E1' := Lib.hid e1
  have E2' := Lib.hid e2
  have B5' := Lib.hid b5
  have B6' := Lib.hid b6
  have B7' := Lib.hid b7
  have B8' := Lib.hid b8
  clear hp hH hQ b1 b2 q3 q4 hT hS1 hS2 hP1 hP2 e1 e2 b5 b6 b7 b8
  go_enter Tryd.func6, Tryd.ntmps6
  go_wp2_with fail
  refine (VT.out _).mono ?_
  rintro e w1 ⟨rfl, hb⟩
  have L : Below w.heap.size w w1 := ((((Below.refl _ _).alloc (by simp <;> omega) _).alloc (by simp <;> omega) _).alloc (by simp <;> omega) _).trans (hb.mono (by simp <;> omega))
  have K1 : Below w.heap.size w w1 := L
  have lt : w.heap.size < w1.heap.size := Nat.lt_of_lt_of_le (by simp <;> omega) hb.size
  have t0 : w1.cell? ⟨w.heap.size, 0, none⟩ = some (.int .i64 K) := Rg.keep hb (by simp <;> omega) (by go_cell)
  have t1 : w1.cell? ⟨w.heap.size, 1, none⟩ = some (.int .i64 B) := Rg.keep hb (by simp <;> omega) (by go_cell)
  have t2 : w1.cell? ⟨w.heap.size, 2, none⟩ = some (.int .i64 F) := Rg.keep hb (by simp <;> omega) (by go_cell)
  have t3 : w1.cell? ⟨w.heap.size, 3, none⟩ = some (.int .i64 R) := Rg.keep hb (by simp <;> omega) (by go_cell)
  have t4 : w1.cell? ⟨w.heap.size, 4, none⟩ = some (.int .i64 O) := Rg.keep hb (by simp <;> omega) (by go_cell)
  have lv : w.heap.size + 1 < w1.heap.size := Nat.lt_of_lt_of_le (by simp <;> omega) hb.size
  have v0 : w1.cell? ⟨w.heap.size + 1, 0, none⟩ = some (.int .i64 n) := Rg.keep hb (by simp <;> omega) (by go_cell)
  have v1 : w1.cell? ⟨w.heap.size + 1, 1, none⟩ = some (.int .i64 d) := Rg.keep hb (by simp <;> omega) (by go_cell)
  have lx : w.heap.size + 1 + 1 < w1.heap.size := Nat.lt_of_lt_of_le (by simp <;> omega) hb.size
  have x0 : w1.cell? ⟨w.heap.size + 1 + 1, 0, none⟩ = some (.int .i64 1) := Rg.keep hb (by simp <;> omega) (by go_cell)
  have x1 : w1.cell? ⟨w.heap.size + 1 + 1, 1, none⟩ = some (.int .i64 0) := Rg.keep hb (by simp <;> omega) (by go_cell)
  have x2 : w1.cell? ⟨w.heap.size + 1 + 1, 2, none⟩ = some (.int .i64 0) := Rg.keep hb (by simp <;> omega) (by go_cell)
  have x3 : w1.cell? ⟨w.heap.size + 1 + 1, 3, none⟩ = some (.int .i64 0) := Rg.keep hb (by simp <;> omega) (by go_cell)
  have x4 : w1.cell? ⟨w.heap.size + 1 + 1, 4, none⟩ = some (.int .i64 0) := Rg.keep hb (by simp <;> omega) (by go_cell)
  clear hb L
  go_wp2_with fail
  refine (VA.out _).mono ?_
  rintro e w2 ⟨rfl, hb⟩
  have L : Below w1.heap.size w1 w2 := (Below.refl _ _).trans (hb.mono (by simp <;> omega))
  have K2 : Below w.heap.size w w2 := K1.trans (L.mono K1.size)
  have t0 := Rg.keep L lt t0
  have t1 := Rg.keep L lt t1
  have t2 := Rg.keep L lt t2
  have t3 := Rg.keep L lt t3
  have t4 := Rg.keep L lt t4
  have v0 := Rg.keep L lv v0
  have v1 := Rg.keep L lv v1
  have x0 := Rg.keep L lx x0
  have x1 := Rg.keep L lx x1
  have x2 := Rg.keep L lx x2
  have x3 := Rg.keep L lx x3
  have x4 := Rg.keep L lx x4
  have lt := Nat.lt_of_lt_of_le lt L.size
  have lv := Nat.lt_of_lt_of_le lv L.size
  have lx := Nat.lt_of_lt_of_le lx L.size
  clear hb L
  go_wp2_with fail
  refine (CA.out _).mono ?_
  rintro e w3 ⟨rfl, hb⟩
  have L : Below w2.heap.size w2 w3 := (Below.refl _ _).trans (hb.mono (by simp <;> omega))
  have K3 : Below w.heap.size w w3 := K2.trans (L.mono K2.size)
  have t0 := Rg.keep L lt t0
  have t1 := Rg.keep L lt t1
  have t2 := Rg.keep L lt t2
  have t3 := Rg.keep L lt t3
  have t4 := Rg.keep L lt t4
  have v0 := Rg.keep L lv v0
  have v1 := Rg.keep L lv v1
  have x0 := Rg.keep L lx x0
  have x1 := Rg.keep L lx x1
  have x2 := Rg.keep L lx x2
  have x3 := Rg.keep L lx x3
  have x4 := Rg.keep L lx x4
  have lt := Nat.lt_of_lt_of_le lt L.size
  have lv := Nat.lt_of_lt_of_le lv L.size
  have lx := Nat.lt_of_lt_of_le lx L.size
  clear hb L
  go_wp2_with fail
  obtain ⟨zw4, hzw⟩ : ∃ zw4, zw4 = (w3.alloc (.cells #[.int .i64 N, .int .i64 1] 25)) := ⟨_, rfl⟩
  have hb : Below (w3.alloc (.cells #[.int .i64 N, .int .i64 1] 25)).heap.size (w3.alloc (.cells #[.int .i64 N, .int .i64 1] 25)) zw4 := by rw [hzw]; exact Below.refl _ _
  rw [← hzw]
  clear hzw
  have L : Below w3.heap.size w3 zw4 := ((Below.refl _ _).alloc (by simp <;> omega) _).trans (hb.mono (by simp <;> omega))
  have K4 : Below w.heap.size w zw4 := K3.trans (L.mono K3.size)
  have lr : w3.heap.size < zw4.heap.size := Nat.lt_of_lt_of_le (by simp <;> omega) hb.size
  have r0 : zw4.cell? ⟨w3.heap.size, 0, none⟩ = some (.int .i64 N) := Rg.keep hb (by simp <;> omega) (by go_cell)
  have r1 : zw4.cell? ⟨w3.heap.size, 1, none⟩ = some (.int .i64 1) := Rg.keep hb (by simp <;> omega) (by go_cell)
  have t0 := Rg.keep L lt t0
  have t1 := Rg.keep L lt t1
  have t2 := Rg.keep L lt t2
  have t3 := Rg.keep L lt t3
  have t4 := Rg.keep L lt t4
  have v0 := Rg.keep L lv v0
  have v1 := Rg.keep L lv v1
  have x0 := Rg.keep L lx x0
  have x1 := Rg.keep L lx x1
  have x2 := Rg.keep L lx x2
  have x3 := Rg.keep L lx x3
  have x4 := Rg.keep L lx x4
  have lt := Nat.lt_of_lt_of_le lt L.size
  have lv := Nat.lt_of_lt_of_le lv L.size
  have lx := Nat.lt_of_lt_of_le lx L.size
  clear hb L
  have hH := HH'.out
  go_quiet (fail)
  clear hH
  obtain ⟨yw5, hyw⟩ : ∃ yw5, yw5 = zw4.drewN nq := ⟨_, rfl⟩
  have hb : Below zw4.heap.size zw4 yw5 := by rw [hyw]; exact below_drewN (Below.refl _ _) _
  rw [← hyw]
  clear hyw
  have t0 := Rg.keep hb lt t0
  have t1 := Rg.keep hb lt t1
  have t2 := Rg.keep hb lt t2
  have t3 := Rg.keep hb lt t3
  have t4 := Rg.keep hb lt t4
  have v0 := Rg.keep hb lv v0
  have v1 := Rg.keep hb lv v1
  have x0 := Rg.keep hb lx x0
  have x1 := Rg.keep hb lx x1
  have x2 := Rg.keep hb lx x2
  have x3 := Rg.keep hb lx x3
  have x4 := Rg.keep hb lx x4
  have r0 := Rg.keep hb lr r0
  have r1 := Rg.keep hb lr r1
  have lt := Nat.lt_of_lt_of_le lt hb.size
  have lv := Nat.lt_of_lt_of_le lv hb.size
  have lx := Nat.lt_of_lt_of_le lx hb.size
  have lr := Nat.lt_of_lt_of_le lr hb.size
  have K5 : Below w.heap.size w yw5 := K4.trans (hb.mono K4.size)
  clear hb
  have b1 := B1'.out
  have b2 := B2'.out
  have q3 := Q3'.out
  have q4 := Q4'.out
  have hp := HP'.out
  have hQ := HQ'.out
  have hT := HT'.out
  go_wp2_with fail
  clear hT b1 b2 q3 q4 hQ
  have hpm : (2 : Int) ^ min (IntKind.u64.wrap F).toNat 64 = p := by rw [IntWalk.u64_in F (by omega), Nat.min_eq_left (by omega)]; exact hp
  have hS1 := HS1'.out
  have hS2 := HS2'.out
  have b5 := B5'.out
  have b6 := B6'.out
  have b7 := B7'.out
  have b8 := B8'.out
  have hz : yw5.cell? ⟨w.heap.size, 1, none⟩ = some (.int .i64 B) ∧ yw5.cell? ⟨w.heap.size, 2, none⟩ = some (.int .i64 F) ∧ yw5.cell? ⟨w.heap.size, 4, none⟩ = some (.int .i64 O) ∧ yw5.cell? ⟨w.heap.size + 1, 0, none⟩ = some (.int .i64 n) ∧ yw5.cell? ⟨w.heap.size + 1, 1, none⟩ = some (.int .i64 d) ∧ yw5.cell? ⟨w3.heap.size, 0, none⟩ = some (.int .i64 N) ∧ yw5.cell? ⟨w3.heap.size, 1, none⟩ = some (.int .i64 1) ∧ yw5.heap.size ≤ yw5.heap.size ∧ Below w.heap.size w yw5 := ⟨t1, t2, t4, v0, v1, r0, r1, Nat.le_refl _, K5⟩
  clear t0 t1 t2 t3 t4 v0 v1 x0 x1 x2 x3 x4 r0 r1 K5
  have HS : Hid (∀ u u' : World, (u.cell? ⟨w.heap.size, 1, none⟩ = some (.int .i64 B) ∧ u.cell? ⟨w.heap.size, 2, none⟩ = some (.int .i64 F) ∧ u.cell? ⟨w.heap.size, 4, none⟩ = some (.int .i64 O) ∧ u.cell? ⟨w.heap.size + 1, 0, none⟩ = some (.int .i64 n) ∧ u.cell? ⟨w.heap.size + 1, 1, none⟩ = some (.int .i64 d) ∧ u.cell? ⟨w3.heap.size, 0, none⟩ = some (.int .i64 N) ∧ u.cell? ⟨w3.heap.size, 1, none⟩ = some (.int .i64 1) ∧ yw5.heap.size ≤ u.heap.size ∧ Below w.heap.size w u) → Below u.heap.size u u' → (u'.cell? ⟨w.heap.size, 1, none⟩ = some (.int .i64 B) ∧ u'.cell? ⟨w.heap.size, 2, none⟩ = some (.int .i64 F) ∧ u'.cell? ⟨w.heap.size, 4, none⟩ = some (.int .i64 O) ∧ u'.cell? ⟨w.heap.size + 1, 0, none⟩ = some (.int .i64 n) ∧ u'.cell? ⟨w.heap.size + 1, 1, none⟩ = some (.int .i64 d) ∧ u'.cell? ⟨w3.heap.size, 0, none⟩ = some (.int .i64 N) ∧ u'.cell? ⟨w3.heap.size, 1, none⟩ = some (.int .i64 1) ∧ yw5.heap.size ≤ u'.heap.size ∧ Below w.heap.size w u')) := Lib.hid (fun u u' h hb => ⟨Rg.keep hb (Nat.lt_of_lt_of_le lt h.2.2.2.2.2.2.2.1) h.1, Rg.keep hb (Nat.lt_of_lt_of_le lt h.2.2.2.2.2.2.2.1) h.2.1, Rg.keep hb (Nat.lt_of_lt_of_le lt h.2.2.2.2.2.2.2.1) h.2.2.1, Rg.keep hb (Nat.lt_of_lt_of_le lv h.2.2.2.2.2.2.2.1) h.2.2.2.1, Rg.keep hb (Nat.lt_of_lt_of_le lv h.2.2.2.2.2.2.2.1) h.2.2.2.2.1, Rg.keep hb (Nat.lt_of_lt_of_le lr h.2.2.2.2.2.2.2.1) h.2.2.2.2.2.1, Rg.keep hb (Nat.lt_of_lt_of_le lr h.2.2.2.2.2.2.2.1) h.2.2.2.2.2.2.1, Nat.le_trans h.2.2.2.2.2.2.2.1 hb.size, h.2.2.2.2.2.2.2.2.trans (hb.mono h.2.2.2.2.2.2.2.2.size)⟩)
  refine wp_region_held_drew (S := fun w' => w'.cell? ⟨w.heap.size, 1, none⟩ = some (.int .i64 B) ∧ w'.cell? ⟨w.heap.size, 2, none⟩ = some (.int .i64 F) ∧ w'.cell? ⟨w.heap.size, 4, none⟩ = some (.int .i64 O) ∧ w'.cell? ⟨w.heap.size + 1, 0, none⟩ = some (.int .i64 n) ∧ w'.cell? ⟨w.heap.size + 1, 1, none⟩ = some (.int .i64 d) ∧ w'.cell? ⟨w3.heap.size, 0, none⟩ = some (.int .i64 N) ∧ w'.cell? ⟨w3.heap.size, 1, none⟩ = some (.int .i64 1) ∧ yw5.heap.size ≤ w'.heap.size ∧ Below w.heap.size w w') (by kernel_rfl) (HS.out _ _ hz (Below.drew (Below.refl _ _))) (fun hHeld => ?_)
  refine Rg.take (i := 0) (v := ?_) rfl (by kernel_rfl) (by kernel_rfl) (by kernel_rfl) (fun _ _ _ h => h) (Or.inl ⟨by kernel_rfl, ?_⟩) (by assumption) ?_
  rotate_left
  · ((intro w hSw; (try dsimp only at hSw); go_simp) <;> with_reducible rfl)
  try simp only [Act.put, List.setIfInBounds_toArray, List.set_cons_zero, List.set_cons_succ]
  refine Rg.take (i := 1) (v := ?_) rfl (by kernel_rfl) (by kernel_rfl) (by kernel_rfl) (fun _ _ _ h => h) (Or.inl ⟨by kernel_rfl, ?_⟩) (by assumption) ?_
  rotate_left
  · ((intro w hSw; (try dsimp only at hSw); go_simp) <;> with_reducible rfl)
  try simp only [Act.put, List.setIfInBounds_toArray, List.set_cons_zero, List.set_cons_succ]
  refine Rg.take (i := 2) (v := ?_) rfl (by kernel_rfl) (by kernel_rfl) (by kernel_rfl) (fun _ _ _ h => h) (Or.inl ⟨by kernel_rfl, ?_⟩) (by assumption) ?_
  rotate_left
  · ((intro w hSw; (try dsimp only at hSw); go_simp) <;> with_reducible rfl)
  try simp only [Act.put, List.setIfInBounds_toArray, List.set_cons_zero, List.set_cons_succ]
  refine Rg.take (i := 3) (v := ?_) rfl (by kernel_rfl) (by kernel_rfl) (by kernel_rfl) (fun _ _ _ h => h) (Or.inl ⟨by kernel_rfl, ?_⟩) (by assumption) ?_
  rotate_left
  · ((intro w hSw; (try dsimp only at hSw); go_simp) <;> with_reducible rfl)
  try simp only [Act.put, List.setIfInBounds_toArray, List.set_cons_zero, List.set_cons_succ]
  refine Rg.take (i := 4) (v := ?_) rfl (by kernel_rfl) (by kernel_rfl) (by kernel_rfl) (fun _ _ _ h => h) (Or.inl ⟨by kernel_rfl, ?_⟩) (by assumption) ?_
  rotate_left
  · ((intro w hSw; (try dsimp only at hSw); go_simp) <;> with_reducible rfl)
  try simp only [Act.put, List.setIfInBounds_toArray, List.set_cons_zero, List.set_cons_succ]
  refine Rg.take (i := 5) (v := ?_) rfl (by kernel_rfl) (by kernel_rfl) (by kernel_rfl) (fun _ _ _ h => h) (Or.inl ⟨by kernel_rfl, ?_⟩) (by assumption) ?_
  rotate_left
  · ((intro w hSw; (try dsimp only at hSw); go_simp) <;> with_reducible rfl)
  try simp only [Act.put, List.setIfInBounds_toArray, List.set_cons_zero, List.set_cons_succ]
  refine Rg.take (i := 6) (v := ?_) rfl (by kernel_rfl) (by kernel_rfl) (by kernel_rfl) (fun _ _ _ h => h) (Or.inl ⟨by kernel_rfl, ?_⟩) (by assumption) ?_
  rotate_left
  · ((intro w hSw; (try dsimp only at hSw); go_simp) <;> with_reducible rfl)
  try simp only [Act.put, List.setIfInBounds_toArray, List.set_cons_zero, List.set_cons_succ]
  refine Rg.take (i := 7) (v := ?_) rfl (by kernel_rfl) (by kernel_rfl) (by kernel_rfl) (fun _ _ _ h => h) (Or.inl ⟨by kernel_rfl, ?_⟩) (by assumption) ?_
  rotate_left
  · ((intro w hSw; (try dsimp only at hSw); go_simp) <;> with_reducible rfl)
  try simp only [Act.put, List.setIfInBounds_toArray, List.set_cons_zero, List.set_cons_succ]
  refine Rg.take (i := 8) (v := ?_) rfl (by kernel_rfl) (by kernel_rfl) (by kernel_rfl) (fun _ _ _ h => h) (Or.inl ⟨by kernel_rfl, ?_⟩) (by assumption) ?_
  rotate_left
  · ((intro w hSw; (try dsimp only at hSw); go_simp) <;> with_reducible rfl)
  try simp only [Act.put, List.setIfInBounds_toArray, List.set_cons_zero, List.set_cons_succ]
  refine Rg.take (i := 9) (v := ?_) rfl (by kernel_rfl) (by kernel_rfl) (by kernel_rfl) (fun _ _ _ h => h) (Or.inl ⟨by kernel_rfl, ?_⟩) (by assumption) ?_
  rotate_left
  · ((intro w hSw; (try dsimp only at hSw); go_simp) <;> with_reducible rfl)
  try simp only [Act.put, List.setIfInBounds_toArray, List.set_cons_zero, List.set_cons_succ]
  refine Rg.take (i := 10) (v := ?_) rfl (by kernel_rfl) (by kernel_rfl) (by kernel_rfl) (fun _ _ _ h => h) (Or.inl ⟨by kernel_rfl, ?_⟩) (by assumption) ?_
  rotate_left
  · ((intro w hSw; (try dsimp only at hSw); go_simp) <;> with_reducible rfl)
  try simp only [Act.put, List.setIfInBounds_toArray, List.set_cons_zero, List.set_cons_succ]
  refine Rg.take (i := 12) (v := ?_) rfl (by kernel_rfl) (by kernel_rfl) (by kernel_rfl) (fun _ _ _ h => h) (Or.inl ⟨by kernel_rfl, ?_⟩) (by assumption) ?_
  rotate_left
  · ((intro w hSw; (try dsimp only at hSw); go_simp) <;> with_reducible rfl)
  try simp only [Act.put, List.setIfInBounds_toArray, List.set_cons_zero, List.set_cons_succ]
  refine Rg.take (i := 13) (v := ?_) rfl (by kernel_rfl) (by kernel_rfl) (by kernel_rfl) (fun _ _ _ h => h) (Or.inl ⟨by kernel_rfl, ?_⟩) (by assumption) ?_
  rotate_left
  · ((intro w hSw; (try dsimp only at hSw); go_simp) <;> with_reducible rfl)
  try simp only [Act.put, List.setIfInBounds_toArray, List.set_cons_zero, List.set_cons_succ]
  refine Rg.take (i := 14) (v := ?_) rfl (by kernel_rfl) (by kernel_rfl) (by kernel_rfl) (fun _ _ _ h => h) (Or.inl ⟨by kernel_rfl, ?_⟩) (by assumption) ?_
  rotate_left
  · ((intro w hSw; (try dsimp only at hSw); go_simp) <;> with_reducible rfl)
  try simp only [Act.put, List.setIfInBounds_toArray, List.set_cons_zero, List.set_cons_succ]
  refine Rg.take (i := 15) (v := ?_) rfl (by kernel_rfl) (by kernel_rfl) (by kernel_rfl) (fun _ _ _ h => h) (Or.inl ⟨by kernel_rfl, ?_⟩) (by assumption) ?_
  rotate_left
  · ((intro w hSw; (try dsimp only at hSw); go_simp) <;> with_reducible rfl)
  try simp only [Act.put, List.setIfInBounds_toArray, List.set_cons_zero, List.set_cons_succ]
  refine Rg.take (i := 16) (v := ?_) rfl (by kernel_rfl) (by kernel_rfl) (by kernel_rfl) (fun _ _ _ h => h) (Or.inl ⟨by kernel_rfl, ?_⟩) (by assumption) ?_
  rotate_left
  · ((intro w hSw; (try dsimp only at hSw); go_simp) <;> with_reducible rfl)
  try simp only [Act.put, List.setIfInBounds_toArray, List.set_cons_zero, List.set_cons_succ]
  refine Rg.one (i := 11) (by kernel_rfl) rfl (fun KK hK => ?_)
  rw [if_pos (by kernel_rfl)]
  go_simp
  ((with_reducible refine (FL.out _).mono ?_); rintro e u ⟨rfl, hb⟩)
  have hNew := HS.out _ _ hHeld hb
  first | (refine hK.out _ _ hNew (fun _ => ?_)) | (go_wp2_with fail; refine hK.out _ _ hNew (fun _ => ?_))
  clear hK KK hHeld hb
  have hHeld := hNew
  clear hNew
  refine Rg.take (i := 17) (v := ?_) rfl (by kernel_rfl) (by kernel_rfl) (by kernel_rfl) (fun _ _ _ h => h) (Or.inl ⟨by kernel_rfl, ?_⟩) (by assumption) ?_
  rotate_left
  · ((intro w hSw; (try dsimp only at hSw); go_simp) <;> with_reducible rfl)
  try simp only [Act.put, List.setIfInBounds_toArray, List.set_cons_zero, List.set_cons_succ]
  refine Rg.take (i := 18) (v := ?_) rfl (by kernel_rfl) (by kernel_rfl) (by kernel_rfl) (fun _ _ _ h => h) (Or.inl ⟨by kernel_rfl, ?_⟩) (by assumption) ?_
  rotate_left
  · ((intro w hSw; (try dsimp only at hSw); go_simp) <;> with_reducible rfl)
  try simp only [Act.put, List.setIfInBounds_toArray, List.set_cons_zero, List.set_cons_succ]
  refine Rg.take (i := 19) (v := ?_) rfl (by kernel_rfl) (by kernel_rfl) (by kernel_rfl) (fun _ _ _ h => h) (Or.inl ⟨by kernel_rfl, ?_⟩) (by assumption) ?_
  rotate_left
  · ((intro w hSw; (try dsimp only at hSw); go_simp) <;> with_reducible rfl)
  try simp only [Act.put, List.setIfInBounds_toArray, List.set_cons_zero, List.set_cons_succ]
  refine Rg.take (i := 20) (v := ?_) rfl (by kernel_rfl) (by kernel_rfl) (by kernel_rfl) (fun _ _ _ h => h) (Or.inl ⟨by kernel_rfl, ?_⟩) (by assumption) ?_
  rotate_left
  · ((intro w hSw; (try dsimp only at hSw); go_simp) <;> with_reducible rfl)
  try simp only [Act.put, List.setIfInBounds_toArray, List.set_cons_zero, List.set_cons_succ]
  refine Rg.take (i := 22) (v := ?_) rfl (by kernel_rfl) (by kernel_rfl) (by kernel_rfl) (fun _ _ _ h => h) (Or.inl ⟨by kernel_rfl, ?_⟩) (by assumption) ?_
  rotate_left
  · ((intro w hSw; (try dsimp only at hSw); go_simp) <;> with_reducible rfl)
  try simp only [Act.put, List.setIfInBounds_toArray, List.set_cons_zero, List.set_cons_succ]
  refine Rg.take (i := 23) (v := ?_) rfl (by kernel_rfl) (by kernel_rfl) (by kernel_rfl) (fun _ _ _ h => h) (Or.inl ⟨by kernel_rfl, ?_⟩) (by assumption) ?_
  rotate_left
  · ((intro w hSw; (try dsimp only at hSw); go_simp) <;> with_reducible rfl)
  try simp only [Act.put, List.setIfInBounds_toArray, List.set_cons_zero, List.set_cons_succ]
  refine Rg.take (i := 24) (v := ?_) rfl (by kernel_rfl) (by kernel_rfl) (by kernel_rfl) (fun _ _ _ h => h) (Or.inl ⟨by kernel_rfl, ?_⟩) (by assumption) ?_
  rotate_left
  · ((intro w hSw; (try dsimp only at hSw); go_simp) <;> with_reducible rfl)
  try simp only [Act.put, List.setIfInBounds_toArray, List.set_cons_zero, List.set_cons_succ]
  refine Rg.take (i := 25) (v := ?_) rfl (by kernel_rfl) (by kernel_rfl) (by kernel_rfl) (fun _ _ _ h => h) (Or.inl ⟨by kernel_rfl, ?_⟩) (by assumption) ?_
  rotate_left
  · ((intro w hSw; (try dsimp only at hSw); go_simp) <;> with_reducible rfl)
  try simp only [Act.put, List.setIfInBounds_toArray, List.set_cons_zero, List.set_cons_succ]
  refine Rg.take (i := 26) (v := ?_) rfl (by kernel_rfl) (by kernel_rfl) (by kernel_rfl) (fun _ _ _ h => h) (Or.inl ⟨by kernel_rfl, ?_⟩) (by assumption) ?_
  rotate_left
  · ((intro w hSw; (try dsimp only at hSw); go_simp) <;> with_reducible rfl)
  try simp only [Act.put, List.setIfInBounds_toArray, List.set_cons_zero, List.set_cons_succ]
  refine Rg.one (i := 21) (by kernel_rfl) rfl (fun KK hK => ?_)
  rw [if_pos (by kernel_rfl)]
  go_simp
  ((with_reducible refine (CE.out _).mono ?_); rintro e u ⟨rfl, hb⟩)
  have hNew := HS.out _ _ hHeld hb
  first | (refine hK.out _ _ hNew (fun _ => ?_)) | (go_wp2_with fail; refine hK.out _ _ hNew (fun _ => ?_))
  clear hK KK hHeld hb
  have hHeld := hNew
  clear hNew
  refine Rg.take (i := 27) (v := ?_) rfl (by kernel_rfl) (by kernel_rfl) (by kernel_rfl) (fun _ _ _ h => h) (Or.inl ⟨by kernel_rfl, ?_⟩) (by assumption) ?_
  rotate_left
  · ((intro w hSw; (try dsimp only at hSw); go_simp) <;> with_reducible rfl)
  try simp only [Act.put, List.setIfInBounds_toArray, List.set_cons_zero, List.set_cons_succ]
  refine Rg.take (i := 28) (v := ?_) rfl (by kernel_rfl) (by kernel_rfl) (by kernel_rfl) (fun _ _ _ h => h) (Or.inl ⟨by kernel_rfl, ?_⟩) (by assumption) ?_
  rotate_left
  · ((intro w hSw; (try dsimp only at hSw); go_simp) <;> with_reducible rfl)
  try simp only [Act.put, List.setIfInBounds_toArray, List.set_cons_zero, List.set_cons_succ]
  refine Rg.take (i := 29) (v := ?_) rfl (by kernel_rfl) (by kernel_rfl) (by kernel_rfl) (fun _ _ _ h => h) (Or.inl ⟨by kernel_rfl, ?_⟩) (by assumption) ?_
  rotate_left
  · ((intro w hSw; (try dsimp only at hSw); go_simp) <;> with_reducible rfl)
  try simp only [Act.put, List.setIfInBounds_toArray, List.set_cons_zero, List.set_cons_succ]
  refine wpAnyH_done (by kernel_rfl) ?_ _
  obtain ⟨t1, t2, t4, v0, v1, r0, r1, hsz, K6⟩ := hHeld
  have lt := Nat.lt_of_lt_of_le lt hsz
  have lv := Nat.lt_of_lt_of_le lv hsz
  have lx := Nat.lt_of_lt_of_le lx hsz
  have lr := Nat.lt_of_lt_of_le lr hsz
  clear hsz hz
  clear hS1 hS2 hp hpm
  have hP1 := HP1'.out
  have hP2 := HP2'.out
  have e1 := E1'.out
  have e2 := E2'.out
  go_wp2_with fail
  refine (EX.out _).mono ?_
  rintro e w7 ⟨rfl, hb⟩
  have L : Below u.heap.size u w7 := (Below.refl _ _).trans (hb.mono (by simp <;> omega))
  have K7 : Below w.heap.size w w7 := K6.trans (L.mono K6.size)
  have t1 := Rg.keep L lt t1
  have t2 := Rg.keep L lt t2
  have t4 := Rg.keep L lt t4
  have v0 := Rg.keep L lv v0
  have v1 := Rg.keep L lv v1
  have r0 := Rg.keep L lr r0
  have r1 := Rg.keep L lr r1
  have lt := Nat.lt_of_lt_of_le lt L.size
  have lv := Nat.lt_of_lt_of_le lv L.size
  have lx := Nat.lt_of_lt_of_le lx L.size
  have lr := Nat.lt_of_lt_of_le lr L.size
  clear hb L
  go_wp2
  go_ret
  exact ⟨rfl, K7⟩
end Go.Proofs.YtikcinkbkakkmaaDoor.Va
