/- The law on operators. -/
import Derived.Test.YtikcinkbkakkmaaGreatDoorV15
import Derived.Test.YtikcinkbkakkmaaGreatDoorV9

namespace Go.Proofs.YtikcinkbkakkmaaGreatDoor.Va
open Go.ChangeShapes Go.WideShapes Go.ChangeAt Go.RowKit
open Fr Fx
set_option maxRecDepth 8000
set_option linter.unusedVariables false
set_option linter.unusedSimpArgs false

set_option maxHeartbeats 16000000 in
theorem law_ap (op K B F R O n1 d1 n2 d2 : Int) (w : World) (b0 : -9223372036854775808 ≤ B) (b1 : B ≤ 9223372036854775807) (hn2 : -9223372036854775808 ≤ n2 ∧ n2 ≤ 9223372036854775807) :
    Calls Tryz.prog 3 #[.int .i64 op, T5 K B F R O, .agg #[.int .i64 n1, .int .i64 d1, .int .i64 n2, .int .i64 d2]] w (Ret (.bool true) w) := by
  have CA := Lib.hid fun op w => c_ap op K B F R O n1 d1 n2 d2 w b0 b1 hn2
  have RA := Lib.hid fun op w => r_ap op K B F R O n1 d1 n2 d2 w
  have CP := Lib.hid fun w => c_cmp K B F R O n1 d1 n2 d2 w b0 b1
  have CR := Lib.hid fun w => r_cmp K B F R O n1 d1 n2 d2 w
  have EX := Lib.hid fun w => examples_true w
  have A0 := Lib.hid fun w => CA.out op w
  have B0 := Lib.hid fun w => RA.out op w
  generalize cpv K B F R O n1 d1 n2 d2 = cc at *
  obtain ⟨r, hr⟩ : ∃ r, apv op K B F R O n1 d1 n2 d2 = r := ⟨_, rfl⟩
  rw [hr] at A0 B0
  clear hr b0 b1 hn2
  obtain ⟨x, y, e⟩ := r
  go_enter Tryz.func3, Tryz.ntmps3
  go_wp2_with fail
  refine (A0.out _).mono ?_
  rintro e w1 ⟨rfl, hb⟩
  have L : Below w.heap.size w w1 := (((Below.refl _ _).alloc (by simp <;> omega) _).alloc (by simp <;> omega) _).trans (hb.mono (by simp <;> omega))
  have K1 : Below w.heap.size w w1 := L
  have lt : w.heap.size < w1.heap.size := Nat.lt_of_lt_of_le (by simp <;> omega) hb.size
  have t0 : w1.cell? ⟨w.heap.size, 0, none⟩ = some (.int .i64 K) := Rg.keep hb (by simp <;> omega) (by go_cell)
  have t1 : w1.cell? ⟨w.heap.size, 1, none⟩ = some (.int .i64 B) := Rg.keep hb (by simp <;> omega) (by go_cell)
  have t2 : w1.cell? ⟨w.heap.size, 2, none⟩ = some (.int .i64 F) := Rg.keep hb (by simp <;> omega) (by go_cell)
  have t3 : w1.cell? ⟨w.heap.size, 3, none⟩ = some (.int .i64 R) := Rg.keep hb (by simp <;> omega) (by go_cell)
  have t4 : w1.cell? ⟨w.heap.size, 4, none⟩ = some (.int .i64 O) := Rg.keep hb (by simp <;> omega) (by go_cell)
  have lv : w.heap.size + 1 < w1.heap.size := Nat.lt_of_lt_of_le (by simp <;> omega) hb.size
  have v0 : w1.cell? ⟨w.heap.size + 1, 0, none⟩ = some (.int .i64 n1) := Rg.keep hb (by simp <;> omega) (by go_cell)
  have v1 : w1.cell? ⟨w.heap.size + 1, 1, none⟩ = some (.int .i64 d1) := Rg.keep hb (by simp <;> omega) (by go_cell)
  have v2 : w1.cell? ⟨w.heap.size + 1, 2, none⟩ = some (.int .i64 n2) := Rg.keep hb (by simp <;> omega) (by go_cell)
  have v3 : w1.cell? ⟨w.heap.size + 1, 3, none⟩ = some (.int .i64 d2) := Rg.keep hb (by simp <;> omega) (by go_cell)
  clear hb L
  go_wp2_with fail
  refine (B0.out _).mono ?_
  rintro e w2 ⟨rfl, hb⟩
  have L : Below w1.heap.size w1 w2 := ((Below.refl _ _).alloc (by simp <;> omega) _).trans (hb.mono (by simp <;> omega))
  have K2 : Below w.heap.size w w2 := K1.trans (L.mono K1.size)
  have la : w1.heap.size < w2.heap.size := Nat.lt_of_lt_of_le (by simp <;> omega) hb.size
  have a0 : w2.cell? ⟨w1.heap.size, 0, none⟩ = some (.int .i64 x) := Rg.keep hb (by simp <;> omega) (by go_cell)
  have a1 : w2.cell? ⟨w1.heap.size, 1, none⟩ = some (.int .i64 y) := Rg.keep hb (by simp <;> omega) (by go_cell)
  have t0 := Rg.keep L lt t0
  have t1 := Rg.keep L lt t1
  have t2 := Rg.keep L lt t2
  have t3 := Rg.keep L lt t3
  have t4 := Rg.keep L lt t4
  have v0 := Rg.keep L lv v0
  have v1 := Rg.keep L lv v1
  have v2 := Rg.keep L lv v2
  have v3 := Rg.keep L lv v3
  have lt := Nat.lt_of_lt_of_le lt L.size
  have lv := Nat.lt_of_lt_of_le lv L.size
  clear hb L
  go_wp2_with fail
  obtain ⟨zw3, hzw⟩ : ∃ zw3, zw3 = (w2.alloc (.cells #[.int .i64 x, .int .i64 y] 25)) := ⟨_, rfl⟩
  have hb : Below (w2.alloc (.cells #[.int .i64 x, .int .i64 y] 25)).heap.size (w2.alloc (.cells #[.int .i64 x, .int .i64 y] 25)) zw3 := by rw [hzw]; exact Below.refl _ _
  rw [← hzw]
  clear hzw
  have L : Below w2.heap.size w2 zw3 := ((Below.refl _ _).alloc (by simp <;> omega) _).trans (hb.mono (by simp <;> omega))
  have K3 : Below w.heap.size w zw3 := K2.trans (L.mono K2.size)
  have lb : w2.heap.size < zw3.heap.size := Nat.lt_of_lt_of_le (by simp <;> omega) hb.size
  have b0 : zw3.cell? ⟨w2.heap.size, 0, none⟩ = some (.int .i64 x) := Rg.keep hb (by simp <;> omega) (by go_cell)
  have b1 : zw3.cell? ⟨w2.heap.size, 1, none⟩ = some (.int .i64 y) := Rg.keep hb (by simp <;> omega) (by go_cell)
  have t0 := Rg.keep L lt t0
  have t1 := Rg.keep L lt t1
  have t2 := Rg.keep L lt t2
  have t3 := Rg.keep L lt t3
  have t4 := Rg.keep L lt t4
  have v0 := Rg.keep L lv v0
  have v1 := Rg.keep L lv v1
  have v2 := Rg.keep L lv v2
  have v3 := Rg.keep L lv v3
  have a0 := Rg.keep L la a0
  have a1 := Rg.keep L la a1
  have lt := Nat.lt_of_lt_of_le lt L.size
  have lv := Nat.lt_of_lt_of_le lv L.size
  have la := Nat.lt_of_lt_of_le la L.size
  clear hb L
  have hS : Hid (zw3.cell? ⟨w.heap.size, 0, none⟩ = some (.int .i64 K) ∧ zw3.cell? ⟨w.heap.size, 1, none⟩ = some (.int .i64 B) ∧ zw3.cell? ⟨w.heap.size, 2, none⟩ = some (.int .i64 F) ∧ zw3.cell? ⟨w.heap.size, 3, none⟩ = some (.int .i64 R) ∧ zw3.cell? ⟨w.heap.size, 4, none⟩ = some (.int .i64 O) ∧ zw3.cell? ⟨w.heap.size + 1, 0, none⟩ = some (.int .i64 n1) ∧ zw3.cell? ⟨w.heap.size + 1, 1, none⟩ = some (.int .i64 d1) ∧ zw3.cell? ⟨w.heap.size + 1, 2, none⟩ = some (.int .i64 n2) ∧ zw3.cell? ⟨w.heap.size + 1, 3, none⟩ = some (.int .i64 d2) ∧ zw3.cell? ⟨w1.heap.size, 0, none⟩ = some (.int .i64 x) ∧ zw3.cell? ⟨w1.heap.size, 1, none⟩ = some (.int .i64 y) ∧ zw3.cell? ⟨w2.heap.size, 0, none⟩ = some (.int .i64 x) ∧ zw3.cell? ⟨w2.heap.size, 1, none⟩ = some (.int .i64 y) ∧ Below w.heap.size w zw3) := Lib.hid ⟨t0, t1, t2, t3, t4, v0, v1, v2, v3, a0, a1, b0, b1, K3⟩
  clear t0 t1 t2 t3 t4 v0 v1 v2 v3 a0 a1 b0 b1 K3
  have HS : Hid (∀ u u' : World, (u.cell? ⟨w.heap.size, 0, none⟩ = some (.int .i64 K) ∧ u.cell? ⟨w.heap.size, 1, none⟩ = some (.int .i64 B) ∧ u.cell? ⟨w.heap.size, 2, none⟩ = some (.int .i64 F) ∧ u.cell? ⟨w.heap.size, 3, none⟩ = some (.int .i64 R) ∧ u.cell? ⟨w.heap.size, 4, none⟩ = some (.int .i64 O) ∧ u.cell? ⟨w.heap.size + 1, 0, none⟩ = some (.int .i64 n1) ∧ u.cell? ⟨w.heap.size + 1, 1, none⟩ = some (.int .i64 d1) ∧ u.cell? ⟨w.heap.size + 1, 2, none⟩ = some (.int .i64 n2) ∧ u.cell? ⟨w.heap.size + 1, 3, none⟩ = some (.int .i64 d2) ∧ u.cell? ⟨w1.heap.size, 0, none⟩ = some (.int .i64 x) ∧ u.cell? ⟨w1.heap.size, 1, none⟩ = some (.int .i64 y) ∧ u.cell? ⟨w2.heap.size, 0, none⟩ = some (.int .i64 x) ∧ u.cell? ⟨w2.heap.size, 1, none⟩ = some (.int .i64 y) ∧ Below w.heap.size w u) → Below u.heap.size u u' → (u'.cell? ⟨w.heap.size, 0, none⟩ = some (.int .i64 K) ∧ u'.cell? ⟨w.heap.size, 1, none⟩ = some (.int .i64 B) ∧ u'.cell? ⟨w.heap.size, 2, none⟩ = some (.int .i64 F) ∧ u'.cell? ⟨w.heap.size, 3, none⟩ = some (.int .i64 R) ∧ u'.cell? ⟨w.heap.size, 4, none⟩ = some (.int .i64 O) ∧ u'.cell? ⟨w.heap.size + 1, 0, none⟩ = some (.int .i64 n1) ∧ u'.cell? ⟨w.heap.size + 1, 1, none⟩ = some (.int .i64 d1) ∧ u'.cell? ⟨w.heap.size + 1, 2, none⟩ = some (.int .i64 n2) ∧ u'.cell? ⟨w.heap.size + 1, 3, none⟩ = some (.int .i64 d2) ∧ u'.cell? ⟨w1.heap.size, 0, none⟩ = some (.int .i64 x) ∧ u'.cell? ⟨w1.heap.size, 1, none⟩ = some (.int .i64 y) ∧ u'.cell? ⟨w2.heap.size, 0, none⟩ = some (.int .i64 x) ∧ u'.cell? ⟨w2.heap.size, 1, none⟩ = some (.int .i64 y) ∧ Below w.heap.size w u')) := Lib.hid (fun u u' h hb => ⟨Rg.keep hb (World.block_lt_of_cell? _ _ h.1) h.1, Rg.keep hb (World.block_lt_of_cell? _ _ h.2.1) h.2.1, Rg.keep hb (World.block_lt_of_cell? _ _ h.2.2.1) h.2.2.1, Rg.keep hb (World.block_lt_of_cell? _ _ h.2.2.2.1) h.2.2.2.1, Rg.keep hb (World.block_lt_of_cell? _ _ h.2.2.2.2.1) h.2.2.2.2.1, Rg.keep hb (World.block_lt_of_cell? _ _ h.2.2.2.2.2.1) h.2.2.2.2.2.1, Rg.keep hb (World.block_lt_of_cell? _ _ h.2.2.2.2.2.2.1) h.2.2.2.2.2.2.1, Rg.keep hb (World.block_lt_of_cell? _ _ h.2.2.2.2.2.2.2.1) h.2.2.2.2.2.2.2.1, Rg.keep hb (World.block_lt_of_cell? _ _ h.2.2.2.2.2.2.2.2.1) h.2.2.2.2.2.2.2.2.1, Rg.keep hb (World.block_lt_of_cell? _ _ h.2.2.2.2.2.2.2.2.2.1) h.2.2.2.2.2.2.2.2.2.1, Rg.keep hb (World.block_lt_of_cell? _ _ h.2.2.2.2.2.2.2.2.2.2.1) h.2.2.2.2.2.2.2.2.2.2.1, Rg.keep hb (World.block_lt_of_cell? _ _ h.2.2.2.2.2.2.2.2.2.2.2.1) h.2.2.2.2.2.2.2.2.2.2.2.1, Rg.keep hb (World.block_lt_of_cell? _ _ h.2.2.2.2.2.2.2.2.2.2.2.2.1) h.2.2.2.2.2.2.2.2.2.2.2.2.1, h.2.2.2.2.2.2.2.2.2.2.2.2.2.trans (hb.mono h.2.2.2.2.2.2.2.2.2.2.2.2.2.size)⟩)
  go_wp2
  go_loopw [11] (fun i wr => ∃ (k : Nat), i = .int .i64 k ∧ 4 ≤ k ∧ k ≤ 11 ∧ Hid (wr.cell? ⟨w.heap.size, 0, none⟩ = some (.int .i64 K) ∧ wr.cell? ⟨w.heap.size, 1, none⟩ = some (.int .i64 B) ∧ wr.cell? ⟨w.heap.size, 2, none⟩ = some (.int .i64 F) ∧ wr.cell? ⟨w.heap.size, 3, none⟩ = some (.int .i64 R) ∧ wr.cell? ⟨w.heap.size, 4, none⟩ = some (.int .i64 O) ∧ wr.cell? ⟨w.heap.size + 1, 0, none⟩ = some (.int .i64 n1) ∧ wr.cell? ⟨w.heap.size + 1, 1, none⟩ = some (.int .i64 d1) ∧ wr.cell? ⟨w.heap.size + 1, 2, none⟩ = some (.int .i64 n2) ∧ wr.cell? ⟨w.heap.size + 1, 3, none⟩ = some (.int .i64 d2) ∧ wr.cell? ⟨w1.heap.size, 0, none⟩ = some (.int .i64 x) ∧ wr.cell? ⟨w1.heap.size, 1, none⟩ = some (.int .i64 y) ∧ wr.cell? ⟨w2.heap.size, 0, none⟩ = some (.int .i64 x) ∧ wr.cell? ⟨w2.heap.size, 1, none⟩ = some (.int .i64 y) ∧ Below w.heap.size w wr)) (fun i _ => 11 - (intOf i).toNat)
  case atStart => exact ⟨4, rfl, by omega, by omega, hS⟩
  case round =>
    obtain ⟨k, rfl, k4, k11, hT⟩ := hrel
    clear hS
    obtain ⟨t0, t1, t2, t3, t4, v0, v1, v2, v3, a0, a1, b0, b1, K0⟩ := hT.out
    have lt : w.heap.size < wr.heap.size := World.block_lt_of_cell? _ _ t0
    have lv : w.heap.size + 1 < wr.heap.size := World.block_lt_of_cell? _ _ v0
    have la : w1.heap.size < wr.heap.size := World.block_lt_of_cell? _ _ a0
    have lb : w2.heap.size < wr.heap.size := World.block_lt_of_cell? _ _ b0
    by_cases hk : k ≤ 10
    · have A1 := Lib.hid fun w => CA.out (k : Int) w
      have B1 := Lib.hid fun w => RA.out (k : Int) w
      obtain ⟨r, hr⟩ : ∃ r, apv (k : Int) K B F R O n1 d1 n2 d2 = r := ⟨_, rfl⟩
      rw [hr] at A1 B1
      clear hr CA RA
      obtain ⟨x', y', e'⟩ := r
      have g1 : decide ((k : Int) ≤ 10) = true := by simp; omega
      go_wp2_with (first | (go_at_call 7; (with_reducible refine (A1.out _).mono ?_); rintro e w5 ⟨rfl, hb5⟩; have hc5 := (bcell hb5).1; have hf5 := (bcell hb5).2; have z5_0 : w.heap.size < w5.heap.size := (by have hzz := hb5.size; (try simp at hzz); omega); have z5_1 : w.heap.size + 1 < w5.heap.size := (by have hzz := hb5.size; (try simp at hzz); omega); have z5_2 : w1.heap.size < w5.heap.size := (by have hzz := hb5.size; (try simp at hzz); omega); have z5_3 : w2.heap.size < w5.heap.size := (by have hzz := hb5.size; (try simp at hzz); omega); have K5 : Below w.heap.size w w5 := Below.trans (b := _) (by (repeat' (first | (with_reducible exact Below.refl _ _) | (with_reducible exact K0) | (with_reducible refine Below.alloc ?_ ?_ _) | (with_reducible refine Below.setCell ?_ ?_ _) | (with_reducible refine below_drewN ?_ _) | (simp; done) | omega | (simp; omega)))) (hb5.mono (by have hzz := hb5.size; (try simp at hzz); first | omega | (simp; done) | (simp; omega)))) | (go_at_call 8; (with_reducible refine (B1.out _).mono ?_); rintro e w6 ⟨rfl, hb6⟩; have hc6 := (bcell hb6).1; have hf6 := (bcell hb6).2; have z6_0 : w.heap.size < w6.heap.size := (by have hzz := hb6.size; (try simp at hzz); omega); have z6_1 : w.heap.size + 1 < w6.heap.size := (by have hzz := hb6.size; (try simp at hzz); omega); have z6_2 : w1.heap.size < w6.heap.size := (by have hzz := hb6.size; (try simp at hzz); omega); have z6_3 : w2.heap.size < w6.heap.size := (by have hzz := hb6.size; (try simp at hzz); omega); have z6_4 : w5.heap.size < w6.heap.size := (by have hzz := hb6.size; (try simp at hzz); omega); have K6 : Below w.heap.size w w6 := Below.trans (b := _) (by (repeat' (first | (with_reducible exact Below.refl _ _) | (with_reducible exact K0) | (with_reducible exact K5) | (with_reducible refine Below.alloc ?_ ?_ _) | (with_reducible refine Below.setCell ?_ ?_ _) | (with_reducible refine below_drewN ?_ _) | (simp; done) | omega | (simp; omega)))) (hb6.mono (by have hzz := hb6.size; (try simp at hzz); first | omega | (simp; done) | (simp; omega)))))
      have M6 : Below wr.heap.size wr w6 := Below.trans (b := _) (Below.alloc hb5 hb5.size _) (hb6.mono (by have := hb5.size; simp; omega))
      have hN := HS.out _ _ hT.out (M6.alloc M6.size (Obj.cells #[Value.int .i64 x', Value.int .i64 y'] 25))
      case roundEnd => exact ⟨⟨k + 1, by simp, by omega, by omega, Lib.hid hN⟩, by simp [intOf]; omega⟩
    · have g1 : decide ((k : Int) ≤ 10) = false := by simp; omega
      clear hT
      go_wp2_with fail
      have hz : wr.cell? ⟨w.heap.size, 0, none⟩ = some (.int .i64 K) ∧ wr.cell? ⟨w.heap.size, 1, none⟩ = some (.int .i64 B) ∧ wr.cell? ⟨w.heap.size, 2, none⟩ = some (.int .i64 F) ∧ wr.cell? ⟨w.heap.size, 3, none⟩ = some (.int .i64 R) ∧ wr.cell? ⟨w.heap.size, 4, none⟩ = some (.int .i64 O) ∧ wr.cell? ⟨w.heap.size + 1, 0, none⟩ = some (.int .i64 n1) ∧ wr.cell? ⟨w.heap.size + 1, 1, none⟩ = some (.int .i64 d1) ∧ wr.cell? ⟨w.heap.size + 1, 2, none⟩ = some (.int .i64 n2) ∧ wr.cell? ⟨w.heap.size + 1, 3, none⟩ = some (.int .i64 d2) ∧ wr.cell? ⟨w1.heap.size, 0, none⟩ = some (.int .i64 x) ∧ wr.cell? ⟨w1.heap.size, 1, none⟩ = some (.int .i64 y) ∧ wr.cell? ⟨w2.heap.size, 0, none⟩ = some (.int .i64 x) ∧ wr.cell? ⟨w2.heap.size, 1, none⟩ = some (.int .i64 y) ∧ wr.heap.size ≤ wr.heap.size ∧ Below w.heap.size w wr := ⟨t0, t1, t2, t3, t4, v0, v1, v2, v3, a0, a1, b0, b1, Nat.le_refl _, K0⟩
      clear t0 t1 t2 t3 t4 v0 v1 v2 v3 a0 a1 b0 b1 K0
      have HS : Hid (∀ u u' : World, (u.cell? ⟨w.heap.size, 0, none⟩ = some (.int .i64 K) ∧ u.cell? ⟨w.heap.size, 1, none⟩ = some (.int .i64 B) ∧ u.cell? ⟨w.heap.size, 2, none⟩ = some (.int .i64 F) ∧ u.cell? ⟨w.heap.size, 3, none⟩ = some (.int .i64 R) ∧ u.cell? ⟨w.heap.size, 4, none⟩ = some (.int .i64 O) ∧ u.cell? ⟨w.heap.size + 1, 0, none⟩ = some (.int .i64 n1) ∧ u.cell? ⟨w.heap.size + 1, 1, none⟩ = some (.int .i64 d1) ∧ u.cell? ⟨w.heap.size + 1, 2, none⟩ = some (.int .i64 n2) ∧ u.cell? ⟨w.heap.size + 1, 3, none⟩ = some (.int .i64 d2) ∧ u.cell? ⟨w1.heap.size, 0, none⟩ = some (.int .i64 x) ∧ u.cell? ⟨w1.heap.size, 1, none⟩ = some (.int .i64 y) ∧ u.cell? ⟨w2.heap.size, 0, none⟩ = some (.int .i64 x) ∧ u.cell? ⟨w2.heap.size, 1, none⟩ = some (.int .i64 y) ∧ wr.heap.size ≤ u.heap.size ∧ Below w.heap.size w u) → Below u.heap.size u u' → (u'.cell? ⟨w.heap.size, 0, none⟩ = some (.int .i64 K) ∧ u'.cell? ⟨w.heap.size, 1, none⟩ = some (.int .i64 B) ∧ u'.cell? ⟨w.heap.size, 2, none⟩ = some (.int .i64 F) ∧ u'.cell? ⟨w.heap.size, 3, none⟩ = some (.int .i64 R) ∧ u'.cell? ⟨w.heap.size, 4, none⟩ = some (.int .i64 O) ∧ u'.cell? ⟨w.heap.size + 1, 0, none⟩ = some (.int .i64 n1) ∧ u'.cell? ⟨w.heap.size + 1, 1, none⟩ = some (.int .i64 d1) ∧ u'.cell? ⟨w.heap.size + 1, 2, none⟩ = some (.int .i64 n2) ∧ u'.cell? ⟨w.heap.size + 1, 3, none⟩ = some (.int .i64 d2) ∧ u'.cell? ⟨w1.heap.size, 0, none⟩ = some (.int .i64 x) ∧ u'.cell? ⟨w1.heap.size, 1, none⟩ = some (.int .i64 y) ∧ u'.cell? ⟨w2.heap.size, 0, none⟩ = some (.int .i64 x) ∧ u'.cell? ⟨w2.heap.size, 1, none⟩ = some (.int .i64 y) ∧ wr.heap.size ≤ u'.heap.size ∧ Below w.heap.size w u')) := Lib.hid (fun u u' h hb => ⟨Rg.keep hb (Nat.lt_of_lt_of_le lt h.2.2.2.2.2.2.2.2.2.2.2.2.2.1) h.1, Rg.keep hb (Nat.lt_of_lt_of_le lt h.2.2.2.2.2.2.2.2.2.2.2.2.2.1) h.2.1, Rg.keep hb (Nat.lt_of_lt_of_le lt h.2.2.2.2.2.2.2.2.2.2.2.2.2.1) h.2.2.1, Rg.keep hb (Nat.lt_of_lt_of_le lt h.2.2.2.2.2.2.2.2.2.2.2.2.2.1) h.2.2.2.1, Rg.keep hb (Nat.lt_of_lt_of_le lt h.2.2.2.2.2.2.2.2.2.2.2.2.2.1) h.2.2.2.2.1, Rg.keep hb (Nat.lt_of_lt_of_le lv h.2.2.2.2.2.2.2.2.2.2.2.2.2.1) h.2.2.2.2.2.1, Rg.keep hb (Nat.lt_of_lt_of_le lv h.2.2.2.2.2.2.2.2.2.2.2.2.2.1) h.2.2.2.2.2.2.1, Rg.keep hb (Nat.lt_of_lt_of_le lv h.2.2.2.2.2.2.2.2.2.2.2.2.2.1) h.2.2.2.2.2.2.2.1, Rg.keep hb (Nat.lt_of_lt_of_le lv h.2.2.2.2.2.2.2.2.2.2.2.2.2.1) h.2.2.2.2.2.2.2.2.1, Rg.keep hb (Nat.lt_of_lt_of_le la h.2.2.2.2.2.2.2.2.2.2.2.2.2.1) h.2.2.2.2.2.2.2.2.2.1, Rg.keep hb (Nat.lt_of_lt_of_le la h.2.2.2.2.2.2.2.2.2.2.2.2.2.1) h.2.2.2.2.2.2.2.2.2.2.1, Rg.keep hb (Nat.lt_of_lt_of_le lb h.2.2.2.2.2.2.2.2.2.2.2.2.2.1) h.2.2.2.2.2.2.2.2.2.2.2.1, Rg.keep hb (Nat.lt_of_lt_of_le lb h.2.2.2.2.2.2.2.2.2.2.2.2.2.1) h.2.2.2.2.2.2.2.2.2.2.2.2.1, Nat.le_trans h.2.2.2.2.2.2.2.2.2.2.2.2.2.1 hb.size, h.2.2.2.2.2.2.2.2.2.2.2.2.2.2.trans (hb.mono h.2.2.2.2.2.2.2.2.2.2.2.2.2.2.size)⟩)
      refine wp_region_held_drew (S := fun w' => w'.cell? ⟨w.heap.size, 0, none⟩ = some (.int .i64 K) ∧ w'.cell? ⟨w.heap.size, 1, none⟩ = some (.int .i64 B) ∧ w'.cell? ⟨w.heap.size, 2, none⟩ = some (.int .i64 F) ∧ w'.cell? ⟨w.heap.size, 3, none⟩ = some (.int .i64 R) ∧ w'.cell? ⟨w.heap.size, 4, none⟩ = some (.int .i64 O) ∧ w'.cell? ⟨w.heap.size + 1, 0, none⟩ = some (.int .i64 n1) ∧ w'.cell? ⟨w.heap.size + 1, 1, none⟩ = some (.int .i64 d1) ∧ w'.cell? ⟨w.heap.size + 1, 2, none⟩ = some (.int .i64 n2) ∧ w'.cell? ⟨w.heap.size + 1, 3, none⟩ = some (.int .i64 d2) ∧ w'.cell? ⟨w1.heap.size, 0, none⟩ = some (.int .i64 x) ∧ w'.cell? ⟨w1.heap.size, 1, none⟩ = some (.int .i64 y) ∧ w'.cell? ⟨w2.heap.size, 0, none⟩ = some (.int .i64 x) ∧ w'.cell? ⟨w2.heap.size, 1, none⟩ = some (.int .i64 y) ∧ wr.heap.size ≤ w'.heap.size ∧ Below w.heap.size w w') (by kernel_rfl) (HS.out _ _ hz (Below.drew (Below.refl _ _))) (fun hHeld => ?_)
      refine Rg.take (i := 0) (v := ?_) rfl (by kernel_rfl) (by kernel_rfl) (by kernel_rfl) (fun _ _ _ h => h) (Or.inl ⟨by kernel_rfl, ?_⟩) (by assumption) ?_
      rotate_left
      · ((intro w hSw; (try dsimp only at hSw); go_simp) <;> with_reducible rfl)
      try simp only [Act.put, List.setIfInBounds_toArray, List.set_cons_zero, List.set_cons_succ]
      refine Rg.take (i := 1) (v := ?_) rfl (by kernel_rfl) (by kernel_rfl) (by kernel_rfl) (fun _ _ _ h => h) (Or.inl ⟨by kernel_rfl, ?_⟩) (by assumption) ?_
      rotate_left
      · ((intro w hSw; (try dsimp only at hSw); go_simp) <;> with_reducible rfl)
      try simp only [Act.put, List.setIfInBounds_toArray, List.set_cons_zero, List.set_cons_succ]
      refine Rg.take (i := 2) (v := ?_) rfl (by kernel_rfl) (by kernel_rfl) (by kernel_rfl) (fun _ _ _ h => h) (Or.inl ⟨by kernel_rfl, ?_⟩) (by assumption) ?_
      rotate_left
      · ((intro w hSw; (try dsimp only at hSw); go_simp) <;> with_reducible rfl)
      try simp only [Act.put, List.setIfInBounds_toArray, List.set_cons_zero, List.set_cons_succ]
      refine Rg.take (i := 3) (v := ?_) rfl (by kernel_rfl) (by kernel_rfl) (by kernel_rfl) (fun _ _ _ h => h) (Or.inl ⟨by kernel_rfl, ?_⟩) (by assumption) ?_
      rotate_left
      · ((intro w hSw; (try dsimp only at hSw); go_simp) <;> with_reducible rfl)
      try simp only [Act.put, List.setIfInBounds_toArray, List.set_cons_zero, List.set_cons_succ]
      refine Rg.take (i := 4) (v := ?_) rfl (by kernel_rfl) (by kernel_rfl) (by kernel_rfl) (fun _ _ _ h => h) (Or.inl ⟨by kernel_rfl, ?_⟩) (by assumption) ?_
      rotate_left
      · ((intro w hSw; (try dsimp only at hSw); go_simp) <;> with_reducible rfl)
      try simp only [Act.put, List.setIfInBounds_toArray, List.set_cons_zero, List.set_cons_succ]
      refine Rg.take (i := 5) (v := ?_) rfl (by kernel_rfl) (by kernel_rfl) (by kernel_rfl) (fun _ _ _ h => h) (Or.inl ⟨by kernel_rfl, ?_⟩) (by assumption) ?_
      rotate_left
      · ((intro w hSw; (try dsimp only at hSw); go_simp) <;> with_reducible rfl)
      try simp only [Act.put, List.setIfInBounds_toArray, List.set_cons_zero, List.set_cons_succ]
      refine Rg.take (i := 6) (v := ?_) rfl (by kernel_rfl) (by kernel_rfl) (by kernel_rfl) (fun _ _ _ h => h) (Or.inl ⟨by kernel_rfl, ?_⟩) (by assumption) ?_
      rotate_left
      · ((intro w hSw; (try dsimp only at hSw); go_simp) <;> with_reducible rfl)
      try simp only [Act.put, List.setIfInBounds_toArray, List.set_cons_zero, List.set_cons_succ]
      refine Rg.take (i := 7) (v := ?_) rfl (by kernel_rfl) (by kernel_rfl) (by kernel_rfl) (fun _ _ _ h => h) (Or.inl ⟨by kernel_rfl, ?_⟩) (by assumption) ?_
      rotate_left
      · ((intro w hSw; (try dsimp only at hSw); go_simp) <;> with_reducible rfl)
      try simp only [Act.put, List.setIfInBounds_toArray, List.set_cons_zero, List.set_cons_succ]
      refine Rg.take (i := 8) (v := ?_) rfl (by kernel_rfl) (by kernel_rfl) (by kernel_rfl) (fun _ _ _ h => h) (Or.inl ⟨by kernel_rfl, ?_⟩) (by assumption) ?_
      rotate_left
      · ((intro w hSw; (try dsimp only at hSw); go_simp) <;> with_reducible rfl)
      try simp only [Act.put, List.setIfInBounds_toArray, List.set_cons_zero, List.set_cons_succ]
      refine Rg.take (i := 9) (v := ?_) rfl (by kernel_rfl) (by kernel_rfl) (by kernel_rfl) (fun _ _ _ h => h) (Or.inl ⟨by kernel_rfl, ?_⟩) (by assumption) ?_
      rotate_left
      · ((intro w hSw; (try dsimp only at hSw); go_simp) <;> with_reducible rfl)
      try simp only [Act.put, List.setIfInBounds_toArray, List.set_cons_zero, List.set_cons_succ]
      refine Rg.take (i := 10) (v := ?_) rfl (by kernel_rfl) (by kernel_rfl) (by kernel_rfl) (fun _ _ _ h => h) (Or.inl ⟨by kernel_rfl, ?_⟩) (by assumption) ?_
      rotate_left
      · ((intro w hSw; (try dsimp only at hSw); go_simp) <;> with_reducible rfl)
      try simp only [Act.put, List.setIfInBounds_toArray, List.set_cons_zero, List.set_cons_succ]
      refine Rg.take (i := 11) (v := ?_) rfl (by kernel_rfl) (by kernel_rfl) (by kernel_rfl) (fun _ _ _ h => h) (Or.inl ⟨by kernel_rfl, ?_⟩) (by assumption) ?_
      rotate_left
      · ((intro w hSw; (try dsimp only at hSw); go_simp) <;> with_reducible rfl)
      try simp only [Act.put, List.setIfInBounds_toArray, List.set_cons_zero, List.set_cons_succ]
      refine Rg.take (i := 12) (v := ?_) rfl (by kernel_rfl) (by kernel_rfl) (by kernel_rfl) (fun _ _ _ h => h) (Or.inl ⟨by kernel_rfl, ?_⟩) (by assumption) ?_
      rotate_left
      · ((intro w hSw; (try dsimp only at hSw); go_simp) <;> with_reducible rfl)
      try simp only [Act.put, List.setIfInBounds_toArray, List.set_cons_zero, List.set_cons_succ]
      refine Rg.take (i := 13) (v := ?_) rfl (by kernel_rfl) (by kernel_rfl) (by kernel_rfl) (fun _ _ _ h => h) (Or.inl ⟨by kernel_rfl, ?_⟩) (by assumption) ?_
      rotate_left
      · ((intro w hSw; (try dsimp only at hSw); go_simp) <;> with_reducible rfl)
      try simp only [Act.put, List.setIfInBounds_toArray, List.set_cons_zero, List.set_cons_succ]
      refine Rg.take (i := 15) (v := ?_) rfl (by kernel_rfl) (by kernel_rfl) (by kernel_rfl) (fun _ _ _ h => h) (Or.inl ⟨by kernel_rfl, ?_⟩) (by assumption) ?_
      rotate_left
      · ((intro w hSw; (try dsimp only at hSw); go_simp) <;> with_reducible rfl)
      try simp only [Act.put, List.setIfInBounds_toArray, List.set_cons_zero, List.set_cons_succ]
      refine Rg.take (i := 16) (v := ?_) rfl (by kernel_rfl) (by kernel_rfl) (by kernel_rfl) (fun _ _ _ h => h) (Or.inl ⟨by kernel_rfl, ?_⟩) (by assumption) ?_
      rotate_left
      · ((intro w hSw; (try dsimp only at hSw); go_simp) <;> with_reducible rfl)
      try simp only [Act.put, List.setIfInBounds_toArray, List.set_cons_zero, List.set_cons_succ]
      refine Rg.take (i := 17) (v := ?_) rfl (by kernel_rfl) (by kernel_rfl) (by kernel_rfl) (fun _ _ _ h => h) (Or.inl ⟨by kernel_rfl, ?_⟩) (by assumption) ?_
      rotate_left
      · ((intro w hSw; (try dsimp only at hSw); go_simp) <;> with_reducible rfl)
      try simp only [Act.put, List.setIfInBounds_toArray, List.set_cons_zero, List.set_cons_succ]
      refine Rg.take (i := 18) (v := ?_) rfl (by kernel_rfl) (by kernel_rfl) (by kernel_rfl) (fun _ _ _ h => h) (Or.inl ⟨by kernel_rfl, ?_⟩) (by assumption) ?_
      rotate_left
      · ((intro w hSw; (try dsimp only at hSw); go_simp) <;> with_reducible rfl)
      try simp only [Act.put, List.setIfInBounds_toArray, List.set_cons_zero, List.set_cons_succ]
      refine Rg.take (i := 19) (v := ?_) rfl (by kernel_rfl) (by kernel_rfl) (by kernel_rfl) (fun _ _ _ h => h) (Or.inl ⟨by kernel_rfl, ?_⟩) (by assumption) ?_
      rotate_left
      · ((intro w hSw; (try dsimp only at hSw); go_simp) <;> with_reducible rfl)
      try simp only [Act.put, List.setIfInBounds_toArray, List.set_cons_zero, List.set_cons_succ]
      refine Rg.one (i := 14) (by kernel_rfl) rfl (fun KK hK => ?_)
      rw [if_pos (by kernel_rfl)]
      go_simp
      ((with_reducible refine (CP.out _).mono ?_); rintro e u ⟨rfl, hb⟩)
      have hNew := HS.out _ _ hHeld hb
      first | (refine hK.out _ _ hNew (fun _ => ?_)) | (go_wp2_with fail; refine hK.out _ _ hNew (fun _ => ?_))
      clear hK KK hHeld hb
      have hHeld := hNew
      clear hNew
      refine Rg.one (i := 20) (by kernel_rfl) rfl (fun KK hK => ?_)
      rw [if_pos (by kernel_rfl)]
      go_simp
      ((with_reducible refine (CR.out _).mono ?_); rintro e u ⟨rfl, hb⟩)
      have hNew := HS.out _ _ hHeld hb
      first | (refine hK.out _ _ hNew (fun _ => ?_)) | (go_wp2_with fail; refine hK.out _ _ hNew (fun _ => ?_))
      clear hK KK hHeld hb
      have hHeld := hNew
      clear hNew
      refine Rg.take (i := 21) (v := ?_) rfl (by kernel_rfl) (by kernel_rfl) (by kernel_rfl) (fun _ _ _ h => h) (Or.inl ⟨by kernel_rfl, ?_⟩) (by assumption) ?_
      rotate_left
      · ((intro w hSw; (try dsimp only at hSw); go_simp) <;> with_reducible rfl)
      try simp only [Act.put, List.setIfInBounds_toArray, List.set_cons_zero, List.set_cons_succ]
      refine Rg.take (i := 22) (v := ?_) rfl (by kernel_rfl) (by kernel_rfl) (by kernel_rfl) (fun _ _ _ h => h) (Or.inl ⟨by kernel_rfl, ?_⟩) (by assumption) ?_
      rotate_left
      · ((intro w hSw; (try dsimp only at hSw); go_simp) <;> with_reducible rfl)
      try simp only [Act.put, List.setIfInBounds_toArray, List.set_cons_zero, List.set_cons_succ]
      refine Rg.take (i := 23) (v := ?_) rfl (by kernel_rfl) (by kernel_rfl) (by kernel_rfl) (fun _ _ _ h => h) (Or.inl ⟨by kernel_rfl, ?_⟩) (by assumption) ?_
      rotate_left
      · ((intro w hSw; (try dsimp only at hSw); go_simp) <;> with_reducible rfl)
      try simp only [Act.put, List.setIfInBounds_toArray, List.set_cons_zero, List.set_cons_succ]
      refine Rg.one (i := 24) (by kernel_rfl) rfl (fun KK hK => ?_)
      rw [if_pos (by kernel_rfl)]
      go_simp
      ((with_reducible refine (EX.out _).mono ?_); rintro e u ⟨rfl, hb⟩)
      have hNew := HS.out _ _ hHeld hb
      first | (refine hK.out _ _ hNew (fun _ => ?_)) | (go_wp2_with fail; refine hK.out _ _ hNew (fun _ => ?_))
      clear hK KK hHeld hb
      have hHeld := hNew
      clear hNew
      refine Rg.take (i := 25) (v := ?_) rfl (by kernel_rfl) (by kernel_rfl) (by kernel_rfl) (fun _ _ _ h => h) (Or.inl ⟨by kernel_rfl, ?_⟩) (by assumption) ?_
      rotate_left
      · ((intro w hSw; (try dsimp only at hSw); go_simp) <;> with_reducible rfl)
      try simp only [Act.put, List.setIfInBounds_toArray, List.set_cons_zero, List.set_cons_succ]
      refine Rg.take (i := 26) (v := ?_) rfl (by kernel_rfl) (by kernel_rfl) (by kernel_rfl) (fun _ _ _ h => h) (Or.inl ⟨by kernel_rfl, ?_⟩) (by assumption) ?_
      rotate_left
      · ((intro w hSw; (try dsimp only at hSw); go_simp) <;> with_reducible rfl)
      try simp only [Act.put, List.setIfInBounds_toArray, List.set_cons_zero, List.set_cons_succ]
      refine wpAnyH_done (by kernel_rfl) ?_ _
      go_wp2
      go_ret
      exact ⟨rfl, hHeld.2.2.2.2.2.2.2.2.2.2.2.2.2.2⟩
end Go.Proofs.YtikcinkbkakkmaaGreatDoor.Va
