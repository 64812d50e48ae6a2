/- The examples of the chapter. -/
import Derived.Test.YtikcinkbkakkmaaGreatDoorV7
import Derived.Laws.StructEq

namespace Go.Proofs.YtikcinkbkakkmaaGreatDoor.Va
open Go.ChangeShapes Go.WideShapes Go.ChangeAt Go.RowKit
open Fr Fx
set_option maxRecDepth 8000
set_option linter.unusedVariables false
set_option linter.unusedSimpArgs false

def str2 : ByteArray := ⟨#[50]⟩
def str3 : ByteArray := ⟨#[51]⟩
def str32 : ByteArray := ⟨#[51, 47, 50]⟩
theorem c_op3 (w : World) : Calls Tryz.prog 43 #[.int .i64 3] w fun e w' => e = .returned (.tuple #[.int .i64 9, .bool true]) ∧ w = w' := by
  go_enter Tryz.func43, Tryz.ntmps43
  go_wp2
  go_ret2
  exact ⟨rfl, rfl⟩
theorem c_id3 {K B F R O : Int} (h : ty K B F R O = true) (w : World) : Calls Tryz.prog 14 #[.int .i64 3, T5 K B F R O] w (Ret (.tuple #[V2 0 0, .bool false]) w) := by
  have VT := Lib.hid fun w => vtT h w
  clear h
  go_enter Tryz.func14, Tryz.ntmps14
  go_wp2_with (first | (go_at_call 24; (with_reducible refine (VT.out _).mono ?_); rintro e w1 ⟨rfl, hb1⟩; have hc1 := (bcell hb1).1; have hf1 := (bcell hb1).2; have z1_0 : w.heap.size < w1.heap.size := (by have hzz := hb1.size; (try simp at hzz); omega); have z1_1 : w.heap.size + 1 < w1.heap.size := (by have hzz := hb1.size; (try simp at hzz); omega); have K1 : Below w.heap.size w w1 := Below.trans (b := _) (by (repeat' (first | (with_reducible exact Below.refl _ _) | (with_reducible refine Below.alloc ?_ ?_ _) | (with_reducible refine Below.setCell ?_ ?_ _) | (with_reducible refine below_drewN ?_ _) | (simp; done) | omega | (simp; omega)))) (hb1.mono (by have hzz := hb1.size; (try simp at hzz); first | omega | (simp; done) | (simp; omega)))))
  refine bodyPost_ret (v := .tuple #[V2 0 0, .bool false]) (by simp [results, Tryz.results14, go_sem, hc1, hf1, z1_0, Nat.lt_succ_of_lt z1_0, Nat.ne_of_lt z1_0, Nat.ne_of_gt z1_0, z1_1, Nat.lt_succ_of_lt z1_1, Nat.ne_of_lt z1_1, Nat.ne_of_gt z1_1]) rfl ⟨rfl, ?_⟩; (repeat' (first | (with_reducible exact Below.refl _ _) | (with_reducible exact K1) | (with_reducible refine Below.alloc ?_ ?_ _) | (with_reducible refine Below.setCell ?_ ?_ _) | (with_reducible refine below_drewN ?_ _) | (simp; done) | omega | (simp; omega)))
set_option maxHeartbeats 4000000 in
theorem c_red0 {K B F R O : Int} (h : ty K B F R O = true) (w : World) : Calls Tryz.prog 12 #[.int .i64 3, T5 K B F R O, .slice none 0 0] w (Ret (Frac3 0 0 1) w) := by
  have VT := Lib.hid fun w => vtT h w
  have ID := Lib.hid fun w => c_id3 h w
  have OP := Lib.hid fun w => c_op3 w
  clear h
  go_enter Tryz.func12, Tryz.ntmps12
  go_wp2_with (first | (go_at_call 43; (with_reducible refine (OP.out _).mono ?_); rintro e w9 ⟨rfl, rfl⟩) | (go_at_call 24; (with_reducible refine (VT.out _).mono ?_); rintro e w1 ⟨rfl, hb1⟩; have hc1 := (bcell hb1).1; have hf1 := (bcell hb1).2; have z1_0 : w.heap.size < w1.heap.size := (by have hzz := hb1.size; (try simp at hzz); omega); have z1_1 : w.heap.size + 1 < w1.heap.size := (by have hzz := hb1.size; (try simp at hzz); omega); have K1 : Below w.heap.size w w1 := Below.trans (b := _) (by (repeat' (first | (with_reducible exact Below.refl _ _) | (with_reducible refine Below.alloc ?_ ?_ _) | (with_reducible refine Below.setCell ?_ ?_ _) | (with_reducible refine below_drewN ?_ _) | (simp; done) | omega | (simp; omega)))) (hb1.mono (by have hzz := hb1.size; (try simp at hzz); first | omega | (simp; done) | (simp; omega)))))
  refine wp_loop_rounds 1 ?_
  rw [rounds_succ]
  go_wp2_with (first | (go_at_call 14; (with_reducible refine (ID.out _).mono ?_); rintro e w2 ⟨rfl, hb2⟩; have hc2 := (bcell hb2).1; have hf2 := (bcell hb2).2; have z2_0 : w.heap.size < w2.heap.size := (by have hzz := hb2.size; (try simp at hzz); omega); have z2_1 : w.heap.size + 1 < w2.heap.size := (by have hzz := hb2.size; (try simp at hzz); omega); have K2 : Below w.heap.size w w2 := Below.trans (b := _) (by (repeat' (first | (with_reducible exact Below.refl _ _) | (with_reducible exact K1) | (with_reducible refine Below.alloc ?_ ?_ _) | (with_reducible refine Below.setCell ?_ ?_ _) | (with_reducible refine below_drewN ?_ _) | (simp; done) | omega | (simp; omega)))) (hb2.mono (by have hzz := hb2.size; (try simp at hzz); first | omega | (simp; done) | (simp; omega)))))
  refine bodyPost_ret (v := Frac3 0 0 1) (by simp [results, Tryz.results12, go_sem, hc1, hf1, hc2, hf2, z1_0, Nat.lt_succ_of_lt z1_0, Nat.ne_of_lt z1_0, Nat.ne_of_gt z1_0, z1_1, Nat.lt_succ_of_lt z1_1, Nat.ne_of_lt z1_1, Nat.ne_of_gt z1_1, z2_0, Nat.lt_succ_of_lt z2_0, Nat.ne_of_lt z2_0, Nat.ne_of_gt z2_0, z2_1, Nat.lt_succ_of_lt z2_1, Nat.ne_of_lt z2_1, Nat.ne_of_gt z2_1]) rfl ⟨rfl, ?_⟩; (repeat' (first | (with_reducible exact Below.refl _ _) | (with_reducible exact K1) | (with_reducible exact K2) | (with_reducible refine Below.alloc ?_ ?_ _) | (with_reducible refine Below.setCell ?_ ?_ _) | (with_reducible refine below_drewN ?_ _) | (simp; done) | omega | (simp; omega)))
theorem c_fi2 (w : World) : Calls Tryz.prog 89 #[.int .i64 2, .int .i64 10] w fun e w' => e = .returned (.string str2) ∧ w = w' := by
  go_enter Tryz.func89, Tryz.ntmps89
  go_wp2
  go_ret
  exact ⟨rfl, rfl⟩
theorem c_fi3 (w : World) : Calls Tryz.prog 89 #[.int .i64 3, .int .i64 10] w fun e w' => e = .returned (.string str3) ∧ w = w' := by
  go_enter Tryz.func89, Tryz.ntmps89
  go_wp2
  go_ret
  exact ⟨rfl, rfl⟩
theorem c_ffmt (w : World) : Calls Tryz.prog 52 #[V2 3 2] w (Ret (.string str32) w) := by
  have VA := Lib.hid fun w => (show Calls Tryz.prog 58 #[V2 3 2] w (Ret (.bool true) w) from valid_any 3 2 w)
  have F2 := Lib.hid fun w => c_fi2 w
  have F3' := Lib.hid fun w => c_fi3 w
  go_enter Tryz.func52, Tryz.ntmps52
  go_wp2_with (first | (go_at_call 58; (with_reducible refine (VA.out _).mono ?_); rintro e w1 ⟨rfl, hb1⟩; have hc1 := (bcell hb1).1; have hf1 := (bcell hb1).2; have z1_0 : w.heap.size < w1.heap.size := (by have hzz := hb1.size; (try simp at hzz); omega); have K1 : Below w.heap.size w w1 := Below.trans (b := _) (by (repeat' (first | (with_reducible exact Below.refl _ _) | (with_reducible refine Below.alloc ?_ ?_ _) | (with_reducible refine Below.setCell ?_ ?_ _) | (with_reducible refine below_drewN ?_ _) | (simp; done) | omega | (simp; omega)))) (hb1.mono (by have hzz := hb1.size; (try simp at hzz); first | omega | (simp; done) | (simp; omega)))) | (go_at_call 89; (with_reducible refine (F2.out _).mono ?_); rintro e w9 ⟨rfl, rfl⟩) | (go_at_call 89; (with_reducible refine (F3'.out _).mono ?_); rintro e w9 ⟨rfl, rfl⟩))
  go_ret
  exact ⟨rfl, K1⟩
theorem c_vfmt (w : World) : Calls Tryz.prog 20 #[T5 2 8 4 4 1, V2 24 1] w (Ret (.string str32) w) := by
  have VA := Lib.hid fun w => (show Calls Tryz.prog 23 #[T5 2 8 4 4 1, V2 24 1] w (Ret (.bool true) w) from c_va 2 8 4 4 1 24 1 w (by decide) (by decide))
  have RA := Lib.hid fun w => (show Calls Tryz.prog 53 #[T5 2 8 4 4 1, V2 24 1] w (Ret (V2 3 2) w) from c_rat 2 8 4 4 1 24 1 w (by decide))
  have FF := Lib.hid fun w => c_ffmt w
  go_enter Tryz.func20, Tryz.ntmps20
  go_wp2_with (first | (go_at_call 23; (with_reducible refine (VA.out _).mono ?_); rintro e w1 ⟨rfl, hb1⟩; have hc1 := (bcell hb1).1; have hf1 := (bcell hb1).2; have z1_0 : w.heap.size < w1.heap.size := (by have hzz := hb1.size; (try simp at hzz); omega); have z1_1 : w.heap.size + 1 < w1.heap.size := (by have hzz := hb1.size; (try simp at hzz); omega); have K1 : Below w.heap.size w w1 := Below.trans (b := _) (by (repeat' (first | (with_reducible exact Below.refl _ _) | (with_reducible refine Below.alloc ?_ ?_ _) | (with_reducible refine Below.setCell ?_ ?_ _) | (with_reducible refine below_drewN ?_ _) | (simp; done) | omega | (simp; omega)))) (hb1.mono (by have hzz := hb1.size; (try simp at hzz); first | omega | (simp; done) | (simp; omega)))) | (go_at_call 53; (with_reducible refine (RA.out _).mono ?_); rintro e w2 ⟨rfl, hb2⟩; have hc2 := (bcell hb2).1; have hf2 := (bcell hb2).2; have z2_0 : w.heap.size < w2.heap.size := (by have hzz := hb2.size; (try simp at hzz); omega); have z2_1 : w.heap.size + 1 < w2.heap.size := (by have hzz := hb2.size; (try simp at hzz); omega); have K2 : Below w.heap.size w w2 := Below.trans (b := _) (by (repeat' (first | (with_reducible exact Below.refl _ _) | (with_reducible exact K1) | (with_reducible refine Below.alloc ?_ ?_ _) | (with_reducible refine Below.setCell ?_ ?_ _) | (with_reducible refine below_drewN ?_ _) | (simp; done) | omega | (simp; omega)))) (hb2.mono (by have hzz := hb2.size; (try simp at hzz); first | omega | (simp; done) | (simp; omega)))) | (go_at_call 52; (with_reducible refine (FF.out _).mono ?_); rintro e w3 ⟨rfl, hb3⟩; have hc3 := (bcell hb3).1; have hf3 := (bcell hb3).2; have z3_0 : w.heap.size < w3.heap.size := (by have hzz := hb3.size; (try simp at hzz); omega); have z3_1 : w.heap.size + 1 < w3.heap.size := (by have hzz := hb3.size; (try simp at hzz); omega); have K3 : Below w.heap.size w w3 := Below.trans (b := _) (by (repeat' (first | (with_reducible exact Below.refl _ _) | (with_reducible exact K1) | (with_reducible exact K2) | (with_reducible refine Below.alloc ?_ ?_ _) | (with_reducible refine Below.setCell ?_ ?_ _) | (with_reducible refine below_drewN ?_ _) | (simp; done) | omega | (simp; omega)))) (hb3.mono (by have hzz := hb3.size; (try simp at hzz); first | omega | (simp; done) | (simp; omega)))))
  go_ret
  exact ⟨rfl, K3⟩
def rov (fold K B F R O : Int) : Bool := ty K B F R O && decide (fold = 3 ∨ fold = 4 ∨ (K ≠ 2 ∧ (fold = 1 ∨ fold = 2)))
theorem c_reord (fold K B F R O : Int) (w : World) : Calls Tryz.prog 16 #[.int .i64 fold, T5 K B F R O] w (Ret (.bool (rov fold K B F R O)) w) := by
  unfold rov
  cases h : ty K B F R O
  · have VT := Lib.hid fun w => vtF h w
    rw [Bool.false_and]
    clear h
    go_enter Tryz.func16, Tryz.ntmps16
    go_wp2_with (first | (go_at_call 24; (with_reducible refine (VT.out _).mono ?_); rintro e w1 ⟨rfl, hb1⟩; have hc1 := (bcell hb1).1; have hf1 := (bcell hb1).2; have z1_0 : w.heap.size < w1.heap.size := (by have hzz := hb1.size; (try simp at hzz); omega); have K1 : Below w.heap.size w w1 := Below.trans (b := _) (by (repeat' (first | (with_reducible exact Below.refl _ _) | (with_reducible refine Below.alloc ?_ ?_ _) | (with_reducible refine Below.setCell ?_ ?_ _) | (with_reducible refine below_drewN ?_ _) | (simp; done) | omega | (simp; omega)))) (hb1.mono (by have hzz := hb1.size; (try simp at hzz); first | omega | (simp; done) | (simp; omega)))))
    go_ret
    exact ⟨rfl, K1⟩
  · have VT := Lib.hid fun w => vtT h w
    rw [Bool.true_and]
    clear h
    obtain ⟨A, hA⟩ : ∃ A, decide (fold = 3 ∨ fold = 4 ∨ (K ≠ 2 ∧ (fold = 1 ∨ fold = 2))) = A := ⟨_, rfl⟩
    rw [hA]
    have HA := Lib.hid hA
    clear hA
    go_enter Tryz.func16, Tryz.ntmps16
    go_wp2_with (first | (go_at_call 24; (with_reducible refine (VT.out _).mono ?_); rintro e w1 ⟨rfl, hb1⟩; have hc1 := (bcell hb1).1; have hf1 := (bcell hb1).2; have z1_0 : w.heap.size < w1.heap.size := (by have hzz := hb1.size; (try simp at hzz); omega); have K1 : Below w.heap.size w w1 := Below.trans (b := _) (by (repeat' (first | (with_reducible exact Below.refl _ _) | (with_reducible refine Below.alloc ?_ ?_ _) | (with_reducible refine Below.setCell ?_ ?_ _) | (with_reducible refine below_drewN ?_ _) | (simp; done) | omega | (simp; omega)))) (hb1.mono (by have hzz := hb1.size; (try simp at hzz); first | omega | (simp; done) | (simp; omega)))))
    all_goals
      go_ret
      refine ⟨retb ?_, K1⟩
      have hA := HA.out
      rw [← hA]
      clear hA HA
      first | (simp_all; done) | (refine Bool.eq_iff_iff.mpr ?_; simp_all; done) | (refine Bool.eq_iff_iff.mpr ?_; simp_all; omega)
theorem ex_0 : onv 2 8 4 4 1 = (16, 1, 0) := by decide +kernel
theorem ex_1 : apv 6 2 8 4 4 1 24 1 24 1 = (36, 1, 0) := by decide +kernel
theorem ex_2 : apv 4 2 8 4 4 1 120 1 20 1 = (127, 1, 0) := by decide +kernel
theorem ex_3 : cav 1 0 0 0 0 2 8 4 4 1 1 3 = (5, 1, 0) := by decide +kernel
theorem ex_4 : apv 7 3 0 0 0 0 (-7) 1 2 1 = (-4, 1, 0) := by decide +kernel
set_option maxHeartbeats 8000000 in
theorem examples_true (w : World) : Calls Tryz.prog 11 #[] w (Ret (.bool true) w) := by
  have C0 := Lib.hid fun w => (show Calls Tryz.prog 42 #[T5 2 8 4 4 1] w (Ret (Frac3 16 1 0) w) by have := c_one 2 8 4 4 1 w (by decide) (by decide); rw [ex_0] at this; exact this)
  have C1 := Lib.hid fun w => (show Calls Tryz.prog 7 #[.int .i64 6, T5 2 8 4 4 1, V2 24 1, V2 24 1] w (Ret (Frac3 36 1 0) w) by have := c_ap 6 2 8 4 4 1 24 1 24 1 w (by decide) (by decide) (by decide); rw [ex_1] at this; exact this)
  have C2 := Lib.hid fun w => (show Calls Tryz.prog 7 #[.int .i64 4, T5 2 8 4 4 1, V2 120 1, V2 20 1] w (Ret (Frac3 127 1 0) w) by have := c_ap 4 2 8 4 4 1 120 1 20 1 w (by decide) (by decide) (by decide); rw [ex_2] at this; exact this)
  have C3 := Lib.hid fun w => (show Calls Tryz.prog 22 #[T5 1 0 0 0 0, T5 2 8 4 4 1, V2 1 3] w (Ret (Frac3 5 1 0) w) by have := c_cast 1 0 0 0 0 2 8 4 4 1 1 3 w (by decide) (by decide) (by decide) (by decide); rw [ex_3] at this; exact this)
  have C4 := Lib.hid fun w => (show Calls Tryz.prog 7 #[.int .i64 7, T5 3 0 0 0 0, V2 (-7) 1, V2 2 1] w (Ret (Frac3 (-4) 1 0) w) by have := c_ap 7 3 0 0 0 0 (-7) 1 2 1 w (by decide) (by decide) (by decide); rw [ex_4] at this; exact this)
  have C5 := Lib.hid fun w => c_red0 (show ty 2 8 4 4 1 = true by decide) w
  have C6 := Lib.hid fun w => c_vfmt w
  have C7 := Lib.hid fun w => (show Calls Tryz.prog 16 #[.int .i64 1, T5 2 8 4 4 1] w (Ret (.bool false) w) from c_reord 1 2 8 4 4 1 w)
  have HS : (str32.toList == [51, 47, 50]) = true := by kernel_rfl
  go_enter Tryz.func11, Tryz.ntmps11
  go_wp2_with (first | (go_at_call 42; (with_reducible refine (C0.out _).mono ?_); rintro e w1 ⟨rfl, hb1⟩; have hc1 := (bcell hb1).1; have hf1 := (bcell hb1).2; have z1_0 : w.heap.size < w1.heap.size := (by have hzz := hb1.size; (try simp at hzz); omega); have K1 : Below w.heap.size w w1 := Below.trans (b := _) (by (repeat' (first | (with_reducible exact Below.refl _ _) | (with_reducible refine Below.alloc ?_ ?_ _) | (with_reducible refine Below.setCell ?_ ?_ _) | (with_reducible refine below_drewN ?_ _) | (simp; done) | omega | (simp; omega)))) (hb1.mono (by have hzz := hb1.size; (try simp at hzz); first | omega | (simp; done) | (simp; omega)))) | (go_at_call 7; (with_reducible refine (C1.out _).mono ?_); rintro e w2 ⟨rfl, hb2⟩; have hc2 := (bcell hb2).1; have hf2 := (bcell hb2).2; have z2_0 : w.heap.size < w2.heap.size := (by have hzz := hb2.size; (try simp at hzz); omega); have z2_1 : w1.heap.size < w2.heap.size := (by have hzz := hb2.size; (try simp at hzz); omega); have K2 : Below w.heap.size w w2 := Below.trans (b := _) (by (repeat' (first | (with_reducible exact Below.refl _ _) | (with_reducible exact K1) | (with_reducible refine Below.alloc ?_ ?_ _) | (with_reducible refine Below.setCell ?_ ?_ _) | (with_reducible refine below_drewN ?_ _) | (simp; done) | omega | (simp; omega)))) (hb2.mono (by have hzz := hb2.size; (try simp at hzz); first | omega | (simp; done) | (simp; omega)))) | (go_at_call 7; (with_reducible refine (C2.out _).mono ?_); rintro e w3 ⟨rfl, hb3⟩; have hc3 := (bcell hb3).1; have hf3 := (bcell hb3).2; have z3_0 : w.heap.size < w3.heap.size := (by have hzz := hb3.size; (try simp at hzz); omega); have z3_1 : w1.heap.size < w3.heap.size := (by have hzz := hb3.size; (try simp at hzz); omega); have z3_2 : w2.heap.size < w3.heap.size := (by have hzz := hb3.size; (try simp at hzz); omega); have K3 : Below w.heap.size w w3 := Below.trans (b := _) (by (repeat' (first | (with_reducible exact Below.refl _ _) | (with_reducible exact K1) | (with_reducible exact K2) | (with_reducible refine Below.alloc ?_ ?_ _) | (with_reducible refine Below.setCell ?_ ?_ _) | (with_reducible refine below_drewN ?_ _) | (simp; done) | omega | (simp; omega)))) (hb3.mono (by have hzz := hb3.size; (try simp at hzz); first | omega | (simp; done) | (simp; omega)))) | (go_at_call 22; (with_reducible refine (C3.out _).mono ?_); rintro e w4 ⟨rfl, hb4⟩; have hc4 := (bcell hb4).1; have hf4 := (bcell hb4).2; have z4_0 : w.heap.size < w4.heap.size := (by have hzz := hb4.size; (try simp at hzz); omega); have z4_1 : w1.heap.size < w4.heap.size := (by have hzz := hb4.size; (try simp at hzz); omega); have z4_2 : w2.heap.size < w4.heap.size := (by have hzz := hb4.size; (try simp at hzz); omega); have z4_3 : w3.heap.size < w4.heap.size := (by have hzz := hb4.size; (try simp at hzz); omega); have K4 : Below w.heap.size w w4 := Below.trans (b := _) (by (repeat' (first | (with_reducible exact Below.refl _ _) | (with_reducible exact K1) | (with_reducible exact K2) | (with_reducible exact K3) | (with_reducible refine Below.alloc ?_ ?_ _) | (with_reducible refine Below.setCell ?_ ?_ _) | (with_reducible refine below_drewN ?_ _) | (simp; done) | omega | (simp; omega)))) (hb4.mono (by have hzz := hb4.size; (try simp at hzz); first | omega | (simp; done) | (simp; omega)))) | (go_at_call 7; (with_reducible refine (C4.out _).mono ?_); rintro e w5 ⟨rfl, hb5⟩; have hc5 := (bcell hb5).1; have hf5 := (bcell hb5).2; have z5_0 : w.heap.size < w5.heap.size := (by have hzz := hb5.size; (try simp at hzz); omega); have z5_1 : w1.heap.size < w5.heap.size := (by have hzz := hb5.size; (try simp at hzz); omega); have z5_2 : w2.heap.size < w5.heap.size := (by have hzz := hb5.size; (try simp at hzz); omega); have z5_3 : w3.heap.size < w5.heap.size := (by have hzz := hb5.size; (try simp at hzz); omega); have z5_4 : w4.heap.size < w5.heap.size := (by have hzz := hb5.size; (try simp at hzz); omega); have K5 : Below w.heap.size w w5 := Below.trans (b := _) (by (repeat' (first | (with_reducible exact Below.refl _ _) | (with_reducible exact K1) | (with_reducible exact K2) | (with_reducible exact K3) | (with_reducible exact K4) | (with_reducible refine Below.alloc ?_ ?_ _) | (with_reducible refine Below.setCell ?_ ?_ _) | (with_reducible refine below_drewN ?_ _) | (simp; done) | omega | (simp; omega)))) (hb5.mono (by have hzz := hb5.size; (try simp at hzz); first | omega | (simp; done) | (simp; omega)))) | (go_at_call 12; (with_reducible refine (C5.out _).mono ?_); rintro e w6 ⟨rfl, hb6⟩; have hc6 := (bcell hb6).1; have hf6 := (bcell hb6).2; have z6_0 : w.heap.size < w6.heap.size := (by have hzz := hb6.size; (try simp at hzz); omega); have z6_1 : w1.heap.size < w6.heap.size := (by have hzz := hb6.size; (try simp at hzz); omega); have z6_2 : w2.heap.size < w6.heap.size := (by have hzz := hb6.size; (try simp at hzz); omega); have z6_3 : w3.heap.size < w6.heap.size := (by have hzz := hb6.size; (try simp at hzz); omega); have z6_4 : w4.heap.size < w6.heap.size := (by have hzz := hb6.size; (try simp at hzz); omega); have z6_5 : w5.heap.size < w6.heap.size := (by have hzz := hb6.size; (try simp at hzz); omega); have K6 : Below w.heap.size w w6 := Below.trans (b := _) (by (repeat' (first | (with_reducible exact Below.refl _ _) | (with_reducible exact K1) | (with_reducible exact K2) | (with_reducible exact K3) | (with_reducible exact K4) | (with_reducible exact K5) | (with_reducible refine Below.alloc ?_ ?_ _) | (with_reducible refine Below.setCell ?_ ?_ _) | (with_reducible refine below_drewN ?_ _) | (simp; done) | omega | (simp; omega)))) (hb6.mono (by have hzz := hb6.size; (try simp at hzz); first | omega | (simp; done) | (simp; omega)))) | (go_at_call 20; (with_reducible refine (C6.out _).mono ?_); rintro e w7 ⟨rfl, hb7⟩; have hc7 := (bcell hb7).1; have hf7 := (bcell hb7).2; have z7_0 : w.heap.size < w7.heap.size := (by have hzz := hb7.size; (try simp at hzz); omega); have z7_1 : w1.heap.size < w7.heap.size := (by have hzz := hb7.size; (try simp at hzz); omega); have z7_2 : w2.heap.size < w7.heap.size := (by have hzz := hb7.size; (try simp at hzz); omega); have z7_3 : w3.heap.size < w7.heap.size := (by have hzz := hb7.size; (try simp at hzz); omega); have z7_4 : w4.heap.size < w7.heap.size := (by have hzz := hb7.size; (try simp at hzz); omega); have z7_5 : w5.heap.size < w7.heap.size := (by have hzz := hb7.size; (try simp at hzz); omega); have z7_6 : w6.heap.size < w7.heap.size := (by have hzz := hb7.size; (try simp at hzz); omega); have K7 : Below w.heap.size w w7 := Below.trans (b := _) (by (repeat' (first | (with_reducible exact Below.refl _ _) | (with_reducible exact K1) | (with_reducible exact K2) | (with_reducible exact K3) | (with_reducible exact K4) | (with_reducible exact K5) | (with_reducible exact K6) | (with_reducible refine Below.alloc ?_ ?_ _) | (with_reducible refine Below.setCell ?_ ?_ _) | (with_reducible refine below_drewN ?_ _) | (simp; done) | omega | (simp; omega)))) (hb7.mono (by have hzz := hb7.size; (try simp at hzz); first | omega | (simp; done) | (simp; omega)))) | (go_at_call 16; (with_reducible refine (C7.out _).mono ?_); rintro e w8 ⟨rfl, hb8⟩; have hc8 := (bcell hb8).1; have hf8 := (bcell hb8).2; have z8_0 : w.heap.size < w8.heap.size := (by have hzz := hb8.size; (try simp at hzz); omega); have z8_1 : w1.heap.size < w8.heap.size := (by have hzz := hb8.size; (try simp at hzz); omega); have z8_2 : w2.heap.size < w8.heap.size := (by have hzz := hb8.size; (try simp at hzz); omega); have z8_3 : w3.heap.size < w8.heap.size := (by have hzz := hb8.size; (try simp at hzz); omega); have z8_4 : w4.heap.size < w8.heap.size := (by have hzz := hb8.size; (try simp at hzz); omega); have z8_5 : w5.heap.size < w8.heap.size := (by have hzz := hb8.size; (try simp at hzz); omega); have z8_6 : w6.heap.size < w8.heap.size := (by have hzz := hb8.size; (try simp at hzz); omega); have K8 : Below w.heap.size w w8 := Below.trans (b := _) (by (repeat' (first | (with_reducible exact Below.refl _ _) | (with_reducible exact K1) | (with_reducible exact K2) | (with_reducible exact K3) | (with_reducible exact K4) | (with_reducible exact K5) | (with_reducible exact K6) | (with_reducible exact K7) | (with_reducible refine Below.alloc ?_ ?_ _) | (with_reducible refine Below.setCell ?_ ?_ _) | (with_reducible refine below_drewN ?_ _) | (simp; done) | omega | (simp; omega)))) (hb8.mono (by have hzz := hb8.size; (try simp at hzz); first | omega | (simp; done) | (simp; omega)))))
  go_ret
  exact ⟨rfl, K8⟩
end Go.Proofs.YtikcinkbkakkmaaGreatDoor.Va
