/- Package frac: Parse. -/
import Derived.Test.YtikcinkbkakkmaaGreatDoorGP

namespace Go.Proofs.YtikcinkbkakkmaaGreatDoor.Tx
open Go.ChangeShapes Go.WideShapes Go.ChangeAt Go.RowKit
open Fr Fx
set_option maxRecDepth 8000
set_option linter.unusedVariables false
set_option linter.unusedSimpArgs false

set_option maxHeartbeats 8000000 in
theorem parse1 (s tp bt : ByteArray) (w : World) (w1b w2b g2 g3 f1 f2 vb : Bool) (n d : Int)
    (CU : Hid (∀ w, Calls Tryz.prog 80 #[.string s, .string ⟨#[47]⟩] w fun e w' => e = .returned (.tuple #[.string tp, .string bt, .bool true]) ∧ ∃ n, w' = w.drewN n))
    (I1 : Hid (∀ w, Calls Tryz.prog 81 #[.string tp] w fun e w' => e = .returned (.bool w1b) ∧ w = w'))
    (I2 : Hid (∀ w, Calls Tryz.prog 81 #[.string bt] w fun e w' => e = .returned (.bool w2b) ∧ w = w'))
    (LAh : Hid (LA w))
    (B1 : Hid (w1b = true → f1 = true → ∀ w, Calls Tryz.prog 82 #[.string tp] w (Ret (.tuple #[.int .i64 n, .bool true]) w)))
    (N1 : Hid (w1b = true → f1 = false → ∀ w, LA w → Calls Tryz.prog 82 #[.string tp] w (NoFit w)))
    (B2 : Hid (w2b = true → f2 = true → ∀ w, Calls Tryz.prog 82 #[.string bt] w (Ret (.tuple #[.int .i64 d, .bool true]) w)))
    (N2 : Hid (w2b = true → f2 = false → ∀ w, LA w → Calls Tryz.prog 82 #[.string bt] w (NoFit w)))
    (VA : Hid (∀ w, Calls Tryz.prog 58 #[.agg #[.int .i64 n, .int .i64 d]] w (Ret (.bool vb) w)))
    (HP : Hid (w2b = true → 0 < bt.size)) (g1b : Bool) (G1 : Hid (∀ h : 0 < bt.size, ((bt[0].toNat : Int) == 45) = g1b)) (G2 : (bt.toList == [48]) = g2) (G3 : (bt.toList == [49]) = g3) :
    Calls Tryz.prog 48 #[.string s] w (Ret (if w1b = false ∨ w2b = false ∨ g1b = true ∨ g2 = true ∨ g3 = true then Frac3 0 0 5 else if f1 = false ∨ f2 = false then Frac3 0 0 3 else if vb = false then Frac3 0 0 5 else Frac3 n d 0) w) := by
  cases w1b
  · rw [if_pos (Or.inl rfl)]
    clear B1 N1 B2 N2 VA I2 LAh HP G1 G2 G3
    go_enter Tryz.func48, Tryz.ntmps48
    go_wp2_with fail
    (with_reducible refine (CU.out _).mono ?_); rintro e w9 ⟨rfl, n0, rfl⟩
    go_wp2_with fail
    (with_reducible refine (I1.out _).mono ?_); rintro e w8 ⟨rfl, rfl⟩
    go_wp2
    refine bodyPost_ret (v := Frac3 0 0 5) (by simp [results, Tryz.results48, go_sem]) rfl ⟨rfl, ?_⟩; (repeat' (first | (with_reducible exact Below.refl _ _) | (with_reducible refine Below.alloc ?_ ?_ _) | (with_reducible refine Below.setCell ?_ ?_ _) | (with_reducible refine below_drewN ?_ _) | (simp; done) | omega | (simp; omega)))
  cases w2b
  · rw [if_pos (Or.inr (Or.inl rfl))]
    clear B1 N1 B2 N2 VA LAh HP G1 G2 G3
    go_enter Tryz.func48, Tryz.ntmps48
    go_wp2_with fail
    (with_reducible refine (CU.out _).mono ?_); rintro e w9 ⟨rfl, n0, rfl⟩
    go_wp2_with fail
    (with_reducible refine (I1.out _).mono ?_); rintro e w8 ⟨rfl, rfl⟩
    go_wp2_with fail
    (with_reducible refine (I2.out _).mono ?_); rintro e w7 ⟨rfl, rfl⟩
    go_wp2
    refine bodyPost_ret (v := Frac3 0 0 5) (by simp [results, Tryz.results48, go_sem]) rfl ⟨rfl, ?_⟩; (repeat' (first | (with_reducible exact Below.refl _ _) | (with_reducible refine Below.alloc ?_ ?_ _) | (with_reducible refine Below.setCell ?_ ?_ _) | (with_reducible refine below_drewN ?_ _) | (simp; done) | omega | (simp; omega)))
  replace B1 := Lib.hid (B1.out rfl)
  replace N1 := Lib.hid (N1.out rfl)
  replace B2 := Lib.hid (B2.out rfl)
  replace N2 := Lib.hid (N2.out rfl)
  have hp : 0 < bt.size := HP.out rfl
  have hp2 : (0 : Int) < bt.size := by omega
  have G1 := G1.out hp
  cases g1b
  case true =>
    rw [if_pos (by simp)]
    clear B1 N1 B2 N2 VA LAh HP G2 G3
    go_enter Tryz.func48, Tryz.ntmps48
    go_wp2_with fail
    (with_reducible refine (CU.out _).mono ?_); rintro e w9 ⟨rfl, n0, rfl⟩
    go_wp2_with fail
    (with_reducible refine (I1.out _).mono ?_); rintro e w8 ⟨rfl, rfl⟩
    go_wp2_with fail
    (with_reducible refine (I2.out _).mono ?_); rintro e w7 ⟨rfl, rfl⟩
    go_wp2
    refine bodyPost_ret (v := Frac3 0 0 5) (by simp [results, Tryz.results48, go_sem]) rfl ⟨rfl, ?_⟩; (repeat' (first | (with_reducible exact Below.refl _ _) | (with_reducible refine Below.alloc ?_ ?_ _) | (with_reducible refine Below.setCell ?_ ?_ _) | (with_reducible refine below_drewN ?_ _) | (simp; done) | omega | (simp; omega)))
  cases g2
  case true =>
    rw [if_pos (by simp)]
    clear B1 N1 B2 N2 VA LAh HP G3
    go_enter Tryz.func48, Tryz.ntmps48
    go_wp2_with fail
    (with_reducible refine (CU.out _).mono ?_); rintro e w9 ⟨rfl, n0, rfl⟩
    go_wp2_with fail
    (with_reducible refine (I1.out _).mono ?_); rintro e w8 ⟨rfl, rfl⟩
    go_wp2_with fail
    (with_reducible refine (I2.out _).mono ?_); rintro e w7 ⟨rfl, rfl⟩
    go_wp2
    refine bodyPost_ret (v := Frac3 0 0 5) (by simp [results, Tryz.results48, go_sem]) rfl ⟨rfl, ?_⟩; (repeat' (first | (with_reducible exact Below.refl _ _) | (with_reducible refine Below.alloc ?_ ?_ _) | (with_reducible refine Below.setCell ?_ ?_ _) | (with_reducible refine below_drewN ?_ _) | (simp; done) | omega | (simp; omega)))
  cases g3
  case true =>
    rw [if_pos (by simp)]
    clear B1 N1 B2 N2 VA LAh HP
    go_enter Tryz.func48, Tryz.ntmps48
    go_wp2_with fail
    (with_reducible refine (CU.out _).mono ?_); rintro e w9 ⟨rfl, n0, rfl⟩
    go_wp2_with fail
    (with_reducible refine (I1.out _).mono ?_); rintro e w8 ⟨rfl, rfl⟩
    go_wp2_with fail
    (with_reducible refine (I2.out _).mono ?_); rintro e w7 ⟨rfl, rfl⟩
    go_wp2
    refine bodyPost_ret (v := Frac3 0 0 5) (by simp [results, Tryz.results48, go_sem]) rfl ⟨rfl, ?_⟩; (repeat' (first | (with_reducible exact Below.refl _ _) | (with_reducible refine Below.alloc ?_ ?_ _) | (with_reducible refine Below.setCell ?_ ?_ _) | (with_reducible refine below_drewN ?_ _) | (simp; done) | omega | (simp; omega)))
  clear HP
  rw [if_neg (by simp)]
  cases f1
  · rw [if_pos (Or.inl rfl)]
    replace N1 := Lib.hid (N1.out rfl)
    clear B1
    cases f2
    · replace N2 := Lib.hid (N2.out rfl)
      clear B2
      go_enter Tryz.func48, Tryz.ntmps48
      go_wp2_with fail
      (with_reducible refine (CU.out _).mono ?_); rintro e w9 ⟨rfl, n0, rfl⟩
      go_wp2_with fail
      (with_reducible refine (I1.out _).mono ?_); rintro e w8 ⟨rfl, rfl⟩
      go_wp2_with fail
      (with_reducible refine (I2.out _).mono ?_); rintro e w7 ⟨rfl, rfl⟩
      go_wp2_with fail
      (with_reducible refine (N1.out _ (LAh.out.below (by (repeat' (first | (with_reducible exact Below.refl _ _) | (with_reducible refine Below.alloc ?_ ?_ _) | (with_reducible refine Below.setCell ?_ ?_ _) | (with_reducible refine below_drewN ?_ _) | (simp; done) | omega | (simp; omega)))))).mono ?_); rintro e w1 ⟨nn1, rfl, hb1⟩; have hc1 := (bcell hb1).1; have hf1 := (bcell hb1).2; have z1_0 : w.heap.size < w1.heap.size := (by have hzz := hb1.size; (try simp at hzz); omega); have K1 : Below w.heap.size w w1 := Below.trans (b := _) (by (repeat' (first | (with_reducible exact Below.refl _ _) | (with_reducible refine Below.alloc ?_ ?_ _) | (with_reducible refine Below.setCell ?_ ?_ _) | (with_reducible refine below_drewN ?_ _) | (simp; done) | omega | (simp; omega)))) (hb1.mono (by have hzz := hb1.size; (try simp at hzz); first | omega | (simp; done) | (simp; omega)))
      go_wp2_with fail
      (with_reducible refine (N2.out _ (LAh.out.below (by (repeat' (first | (with_reducible exact Below.refl _ _) | (with_reducible exact K1) | (with_reducible refine Below.alloc ?_ ?_ _) | (with_reducible refine Below.setCell ?_ ?_ _) | (with_reducible refine below_drewN ?_ _) | (simp; done) | omega | (simp; omega)))))).mono ?_); rintro e w2 ⟨nn2, rfl, hb2⟩; have hc2 := (bcell hb2).1; have hf2 := (bcell hb2).2; have z2_0 : w.heap.size < w2.heap.size := (by have hzz := hb2.size; (try simp at hzz); omega); have K2 : Below w.heap.size w w2 := Below.trans (b := _) (by (repeat' (first | (with_reducible exact Below.refl _ _) | (with_reducible exact K1) | (with_reducible refine Below.alloc ?_ ?_ _) | (with_reducible refine Below.setCell ?_ ?_ _) | (with_reducible refine below_drewN ?_ _) | (simp; done) | omega | (simp; omega)))) (hb2.mono (by have hzz := hb2.size; (try simp at hzz); first | omega | (simp; done) | (simp; omega)))
      go_wp2
      refine bodyPost_ret (v := Frac3 0 0 3) (by simp [results, Tryz.results48, go_sem, hc1, hf1, hc2, hf2, z1_0, Nat.lt_succ_of_lt z1_0, Nat.ne_of_lt z1_0, Nat.ne_of_gt z1_0, z2_0, Nat.lt_succ_of_lt z2_0, Nat.ne_of_lt z2_0, Nat.ne_of_gt z2_0]) rfl ⟨rfl, ?_⟩; (repeat' (first | (with_reducible exact Below.refl _ _) | (with_reducible exact K1) | (with_reducible exact K2) | (with_reducible refine Below.alloc ?_ ?_ _) | (with_reducible refine Below.setCell ?_ ?_ _) | (with_reducible refine below_drewN ?_ _) | (simp; done) | omega | (simp; omega)))
    · replace B2 := Lib.hid (B2.out rfl)
      clear N2
      go_enter Tryz.func48, Tryz.ntmps48
      go_wp2_with fail
      (with_reducible refine (CU.out _).mono ?_); rintro e w9 ⟨rfl, n0, rfl⟩
      go_wp2_with fail
      (with_reducible refine (I1.out _).mono ?_); rintro e w8 ⟨rfl, rfl⟩
      go_wp2_with fail
      (with_reducible refine (I2.out _).mono ?_); rintro e w7 ⟨rfl, rfl⟩
      go_wp2_with fail
      (with_reducible refine (N1.out _ (LAh.out.below (by (repeat' (first | (with_reducible exact Below.refl _ _) | (with_reducible refine Below.alloc ?_ ?_ _) | (with_reducible refine Below.setCell ?_ ?_ _) | (with_reducible refine below_drewN ?_ _) | (simp; done) | omega | (simp; omega)))))).mono ?_); rintro e w1 ⟨nn1, rfl, hb1⟩; have hc1 := (bcell hb1).1; have hf1 := (bcell hb1).2; have z1_0 : w.heap.size < w1.heap.size := (by have hzz := hb1.size; (try simp at hzz); omega); have K1 : Below w.heap.size w w1 := Below.trans (b := _) (by (repeat' (first | (with_reducible exact Below.refl _ _) | (with_reducible refine Below.alloc ?_ ?_ _) | (with_reducible refine Below.setCell ?_ ?_ _) | (with_reducible refine below_drewN ?_ _) | (simp; done) | omega | (simp; omega)))) (hb1.mono (by have hzz := hb1.size; (try simp at hzz); first | omega | (simp; done) | (simp; omega)))
      go_wp2_with fail
      (with_reducible refine (B2.out _).mono ?_); rintro e w2 ⟨rfl, hb2⟩; have hc2 := (bcell hb2).1; have hf2 := (bcell hb2).2; have z2_0 : w.heap.size < w2.heap.size := (by have hzz := hb2.size; (try simp at hzz); omega); have K2 : Below w.heap.size w w2 := Below.trans (b := _) (by (repeat' (first | (with_reducible exact Below.refl _ _) | (with_reducible exact K1) | (with_reducible refine Below.alloc ?_ ?_ _) | (with_reducible refine Below.setCell ?_ ?_ _) | (with_reducible refine below_drewN ?_ _) | (simp; done) | omega | (simp; omega)))) (hb2.mono (by have hzz := hb2.size; (try simp at hzz); first | omega | (simp; done) | (simp; omega)))
      go_wp2
      refine bodyPost_ret (v := Frac3 0 0 3) (by simp [results, Tryz.results48, go_sem, hc1, hf1, hc2, hf2, z1_0, Nat.lt_succ_of_lt z1_0, Nat.ne_of_lt z1_0, Nat.ne_of_gt z1_0, z2_0, Nat.lt_succ_of_lt z2_0, Nat.ne_of_lt z2_0, Nat.ne_of_gt z2_0]) rfl ⟨rfl, ?_⟩; (repeat' (first | (with_reducible exact Below.refl _ _) | (with_reducible exact K1) | (with_reducible exact K2) | (with_reducible refine Below.alloc ?_ ?_ _) | (with_reducible refine Below.setCell ?_ ?_ _) | (with_reducible refine below_drewN ?_ _) | (simp; done) | omega | (simp; omega)))
  replace B1 := Lib.hid (B1.out rfl)
  clear N1
  cases f2
  · rw [if_pos (Or.inr rfl)]
    replace N2 := Lib.hid (N2.out rfl)
    clear B2
    go_enter Tryz.func48, Tryz.ntmps48
    go_wp2_with fail
    (with_reducible refine (CU.out _).mono ?_); rintro e w9 ⟨rfl, n0, rfl⟩
    go_wp2_with fail
    (with_reducible refine (I1.out _).mono ?_); rintro e w8 ⟨rfl, rfl⟩
    go_wp2_with fail
    (with_reducible refine (I2.out _).mono ?_); rintro e w7 ⟨rfl, rfl⟩
    go_wp2_with fail
    (with_reducible refine (B1.out _).mono ?_); rintro e w1 ⟨rfl, hb1⟩; have hc1 := (bcell hb1).1; have hf1 := (bcell hb1).2; have z1_0 : w.heap.size < w1.heap.size := (by have hzz := hb1.size; (try simp at hzz); omega); have K1 : Below w.heap.size w w1 := Below.trans (b := _) (by (repeat' (first | (with_reducible exact Below.refl _ _) | (with_reducible refine Below.alloc ?_ ?_ _) | (with_reducible refine Below.setCell ?_ ?_ _) | (with_reducible refine below_drewN ?_ _) | (simp; done) | omega | (simp; omega)))) (hb1.mono (by have hzz := hb1.size; (try simp at hzz); first | omega | (simp; done) | (simp; omega)))
    go_wp2_with fail
    (with_reducible refine (N2.out _ (LAh.out.below (by (repeat' (first | (with_reducible exact Below.refl _ _) | (with_reducible exact K1) | (with_reducible refine Below.alloc ?_ ?_ _) | (with_reducible refine Below.setCell ?_ ?_ _) | (with_reducible refine below_drewN ?_ _) | (simp; done) | omega | (simp; omega)))))).mono ?_); rintro e w2 ⟨nn2, rfl, hb2⟩; have hc2 := (bcell hb2).1; have hf2 := (bcell hb2).2; have z2_0 : w.heap.size < w2.heap.size := (by have hzz := hb2.size; (try simp at hzz); omega); have K2 : Below w.heap.size w w2 := Below.trans (b := _) (by (repeat' (first | (with_reducible exact Below.refl _ _) | (with_reducible exact K1) | (with_reducible refine Below.alloc ?_ ?_ _) | (with_reducible refine Below.setCell ?_ ?_ _) | (with_reducible refine below_drewN ?_ _) | (simp; done) | omega | (simp; omega)))) (hb2.mono (by have hzz := hb2.size; (try simp at hzz); first | omega | (simp; done) | (simp; omega)))
    go_wp2
    refine bodyPost_ret (v := Frac3 0 0 3) (by simp [results, Tryz.results48, go_sem, hc1, hf1, hc2, hf2, z1_0, Nat.lt_succ_of_lt z1_0, Nat.ne_of_lt z1_0, Nat.ne_of_gt z1_0, z2_0, Nat.lt_succ_of_lt z2_0, Nat.ne_of_lt z2_0, Nat.ne_of_gt z2_0]) rfl ⟨rfl, ?_⟩; (repeat' (first | (with_reducible exact Below.refl _ _) | (with_reducible exact K1) | (with_reducible exact K2) | (with_reducible refine Below.alloc ?_ ?_ _) | (with_reducible refine Below.setCell ?_ ?_ _) | (with_reducible refine below_drewN ?_ _) | (simp; done) | omega | (simp; omega)))
  replace B2 := Lib.hid (B2.out rfl)
  clear N2
  rw [if_neg (by simp)]
  cases vb
  · rw [if_pos rfl]
    go_enter Tryz.func48, Tryz.ntmps48
    go_wp2_with fail
    (with_reducible refine (CU.out _).mono ?_); rintro e w9 ⟨rfl, n0, rfl⟩
    go_wp2_with fail
    (with_reducible refine (I1.out _).mono ?_); rintro e w8 ⟨rfl, rfl⟩
    go_wp2_with fail
    (with_reducible refine (I2.out _).mono ?_); rintro e w7 ⟨rfl, rfl⟩
    go_wp2_with fail
    (with_reducible refine (B1.out _).mono ?_); rintro e w1 ⟨rfl, hb1⟩; have hc1 := (bcell hb1).1; have hf1 := (bcell hb1).2; have z1_0 : w.heap.size < w1.heap.size := (by have hzz := hb1.size; (try simp at hzz); omega); have K1 : Below w.heap.size w w1 := Below.trans (b := _) (by (repeat' (first | (with_reducible exact Below.refl _ _) | (with_reducible refine Below.alloc ?_ ?_ _) | (with_reducible refine Below.setCell ?_ ?_ _) | (with_reducible refine below_drewN ?_ _) | (simp; done) | omega | (simp; omega)))) (hb1.mono (by have hzz := hb1.size; (try simp at hzz); first | omega | (simp; done) | (simp; omega)))
    go_wp2_with fail
    (with_reducible refine (B2.out _).mono ?_); rintro e w2 ⟨rfl, hb2⟩; have hc2 := (bcell hb2).1; have hf2 := (bcell hb2).2; have z2_0 : w.heap.size < w2.heap.size := (by have hzz := hb2.size; (try simp at hzz); omega); have K2 : Below w.heap.size w w2 := Below.trans (b := _) (by (repeat' (first | (with_reducible exact Below.refl _ _) | (with_reducible exact K1) | (with_reducible refine Below.alloc ?_ ?_ _) | (with_reducible refine Below.setCell ?_ ?_ _) | (with_reducible refine below_drewN ?_ _) | (simp; done) | omega | (simp; omega)))) (hb2.mono (by have hzz := hb2.size; (try simp at hzz); first | omega | (simp; done) | (simp; omega)))
    go_wp2_with fail
    (with_reducible refine (VA.out _).mono ?_); rintro e w3 ⟨rfl, hb3⟩; have hc3 := (bcell hb3).1; have hf3 := (bcell hb3).2; have z3_0 : w.heap.size < w3.heap.size := (by have hzz := hb3.size; (try simp at hzz); omega); have z3_1 : w2.heap.size < w3.heap.size := (by have hzz := hb3.size; (try simp at hzz); omega); have K3 : Below w.heap.size w w3 := Below.trans (b := _) (by (repeat' (first | (with_reducible exact Below.refl _ _) | (with_reducible exact K1) | (with_reducible exact K2) | (with_reducible refine Below.alloc ?_ ?_ _) | (with_reducible refine Below.setCell ?_ ?_ _) | (with_reducible refine below_drewN ?_ _) | (simp; done) | omega | (simp; omega)))) (hb3.mono (by have hzz := hb3.size; (try simp at hzz); first | omega | (simp; done) | (simp; omega)))
    go_wp2
    refine bodyPost_ret (v := Frac3 0 0 5) (by simp [results, Tryz.results48, go_sem, hc1, hf1, hc2, hf2, hc3, hf3, z1_0, Nat.lt_succ_of_lt z1_0, Nat.ne_of_lt z1_0, Nat.ne_of_gt z1_0, z2_0, Nat.lt_succ_of_lt z2_0, Nat.ne_of_lt z2_0, Nat.ne_of_gt z2_0, z3_0, Nat.lt_succ_of_lt z3_0, Nat.ne_of_lt z3_0, Nat.ne_of_gt z3_0, z3_1, Nat.lt_succ_of_lt z3_1, Nat.ne_of_lt z3_1, Nat.ne_of_gt z3_1]) rfl ⟨rfl, ?_⟩; (repeat' (first | (with_reducible exact Below.refl _ _) | (with_reducible exact K1) | (with_reducible exact K2) | (with_reducible exact K3) | (with_reducible refine Below.alloc ?_ ?_ _) | (with_reducible refine Below.setCell ?_ ?_ _) | (with_reducible refine below_drewN ?_ _) | (simp; done) | omega | (simp; omega)))
  · rw [if_neg (by decide)]
    go_enter Tryz.func48, Tryz.ntmps48
    go_wp2_with fail
    (with_reducible refine (CU.out _).mono ?_); rintro e w9 ⟨rfl, n0, rfl⟩
    go_wp2_with fail
    (with_reducible refine (I1.out _).mono ?_); rintro e w8 ⟨rfl, rfl⟩
    go_wp2_with fail
    (with_reducible refine (I2.out _).mono ?_); rintro e w7 ⟨rfl, rfl⟩
    go_wp2_with fail
    (with_reducible refine (B1.out _).mono ?_); rintro e w1 ⟨rfl, hb1⟩; have hc1 := (bcell hb1).1; have hf1 := (bcell hb1).2; have z1_0 : w.heap.size < w1.heap.size := (by have hzz := hb1.size; (try simp at hzz); omega); have K1 : Below w.heap.size w w1 := Below.trans (b := _) (by (repeat' (first | (with_reducible exact Below.refl _ _) | (with_reducible refine Below.alloc ?_ ?_ _) | (with_reducible refine Below.setCell ?_ ?_ _) | (with_reducible refine below_drewN ?_ _) | (simp; done) | omega | (simp; omega)))) (hb1.mono (by have hzz := hb1.size; (try simp at hzz); first | omega | (simp; done) | (simp; omega)))
    go_wp2_with fail
    (with_reducible refine (B2.out _).mono ?_); rintro e w2 ⟨rfl, hb2⟩; have hc2 := (bcell hb2).1; have hf2 := (bcell hb2).2; have z2_0 : w.heap.size < w2.heap.size := (by have hzz := hb2.size; (try simp at hzz); omega); have K2 : Below w.heap.size w w2 := Below.trans (b := _) (by (repeat' (first | (with_reducible exact Below.refl _ _) | (with_reducible exact K1) | (with_reducible refine Below.alloc ?_ ?_ _) | (with_reducible refine Below.setCell ?_ ?_ _) | (with_reducible refine below_drewN ?_ _) | (simp; done) | omega | (simp; omega)))) (hb2.mono (by have hzz := hb2.size; (try simp at hzz); first | omega | (simp; done) | (simp; omega)))
    go_wp2_with fail
    (with_reducible refine (VA.out _).mono ?_); rintro e w3 ⟨rfl, hb3⟩; have hc3 := (bcell hb3).1; have hf3 := (bcell hb3).2; have z3_0 : w.heap.size < w3.heap.size := (by have hzz := hb3.size; (try simp at hzz); omega); have z3_1 : w2.heap.size < w3.heap.size := (by have hzz := hb3.size; (try simp at hzz); omega); have K3 : Below w.heap.size w w3 := Below.trans (b := _) (by (repeat' (first | (with_reducible exact Below.refl _ _) | (with_reducible exact K1) | (with_reducible exact K2) | (with_reducible refine Below.alloc ?_ ?_ _) | (with_reducible refine Below.setCell ?_ ?_ _) | (with_reducible refine below_drewN ?_ _) | (simp; done) | omega | (simp; omega)))) (hb3.mono (by have hzz := hb3.size; (try simp at hzz); first | omega | (simp; done) | (simp; omega)))
    go_wp2
    refine bodyPost_ret (v := Frac3 n d 0) (by simp [results, Tryz.results48, go_sem, hc1, hf1, hc2, hf2, hc3, hf3, z1_0, Nat.lt_succ_of_lt z1_0, Nat.ne_of_lt z1_0, Nat.ne_of_gt z1_0, z2_0, Nat.lt_succ_of_lt z2_0, Nat.ne_of_lt z2_0, Nat.ne_of_gt z2_0, z3_0, Nat.lt_succ_of_lt z3_0, Nat.ne_of_lt z3_0, Nat.ne_of_gt z3_0, z3_1, Nat.lt_succ_of_lt z3_1, Nat.ne_of_lt z3_1, Nat.ne_of_gt z3_1]) rfl ⟨rfl, ?_⟩; (repeat' (first | (with_reducible exact Below.refl _ _) | (with_reducible exact K1) | (with_reducible exact K2) | (with_reducible exact K3) | (with_reducible refine Below.alloc ?_ ?_ _) | (with_reducible refine Below.setCell ?_ ?_ _) | (with_reducible refine below_drewN ?_ _) | (simp; done) | omega | (simp; omega)))

set_option maxHeartbeats 8000000 in
theorem parse0 (s tp : ByteArray) (w : World) (w1b w2b g2 g3 f1 f2 vb : Bool) (n d : Int)
    (CU : Hid (∀ w, Calls Tryz.prog 80 #[.string s, .string ⟨#[47]⟩] w fun e w' => e = .returned (.tuple #[.string tp, .string ⟨#[]⟩, .bool false]) ∧ ∃ n, w' = w.drewN n))
    (I1 : Hid (∀ w, Calls Tryz.prog 81 #[.string tp] w fun e w' => e = .returned (.bool w1b) ∧ w = w'))
    (I2 : Hid (∀ w, Calls Tryz.prog 81 #[.string ⟨#[49]⟩] w fun e w' => e = .returned (.bool w2b) ∧ w = w'))
    (LAh : Hid (LA w))
    (B1 : Hid (w1b = true → f1 = true → ∀ w, Calls Tryz.prog 82 #[.string tp] w (Ret (.tuple #[.int .i64 n, .bool true]) w)))
    (N1 : Hid (w1b = true → f1 = false → ∀ w, LA w → Calls Tryz.prog 82 #[.string tp] w (NoFit w)))
    (B2 : Hid (w2b = true → f2 = true → ∀ w, Calls Tryz.prog 82 #[.string ⟨#[49]⟩] w (Ret (.tuple #[.int .i64 d, .bool true]) w)))
    (N2 : Hid (w2b = true → f2 = false → ∀ w, LA w → Calls Tryz.prog 82 #[.string ⟨#[49]⟩] w (NoFit w)))
    (VA : Hid (∀ w, Calls Tryz.prog 58 #[.agg #[.int .i64 n, .int .i64 d]] w (Ret (.bool vb) w))) :
    Calls Tryz.prog 48 #[.string s] w (Ret (if w1b = false ∨ w2b = false then Frac3 0 0 5 else if f1 = false ∨ f2 = false then Frac3 0 0 3 else if vb = false then Frac3 0 0 5 else Frac3 n d 0) w) := by
  cases w1b
  · rw [if_pos (Or.inl rfl)]
    clear B1 N1 B2 N2 VA I2 LAh
    go_enter Tryz.func48, Tryz.ntmps48
    go_wp2_with fail
    (with_reducible refine (CU.out _).mono ?_); rintro e w9 ⟨rfl, n0, rfl⟩
    go_wp2_with fail
    (with_reducible refine (I1.out _).mono ?_); rintro e w8 ⟨rfl, rfl⟩
    go_wp2
    refine bodyPost_ret (v := Frac3 0 0 5) (by simp [results, Tryz.results48, go_sem]) rfl ⟨rfl, ?_⟩; (repeat' (first | (with_reducible exact Below.refl _ _) | (with_reducible refine Below.alloc ?_ ?_ _) | (with_reducible refine Below.setCell ?_ ?_ _) | (with_reducible refine below_drewN ?_ _) | (simp; done) | omega | (simp; omega)))
  cases w2b
  · rw [if_pos (Or.inr (rfl))]
    clear B1 N1 B2 N2 VA LAh
    go_enter Tryz.func48, Tryz.ntmps48
    go_wp2_with fail
    (with_reducible refine (CU.out _).mono ?_); rintro e w9 ⟨rfl, n0, rfl⟩
    go_wp2_with fail
    (with_reducible refine (I1.out _).mono ?_); rintro e w8 ⟨rfl, rfl⟩
    go_wp2_with fail
    (with_reducible refine (I2.out _).mono ?_); rintro e w7 ⟨rfl, rfl⟩
    go_wp2
    refine bodyPost_ret (v := Frac3 0 0 5) (by simp [results, Tryz.results48, go_sem]) rfl ⟨rfl, ?_⟩; (repeat' (first | (with_reducible exact Below.refl _ _) | (with_reducible refine Below.alloc ?_ ?_ _) | (with_reducible refine Below.setCell ?_ ?_ _) | (with_reducible refine below_drewN ?_ _) | (simp; done) | omega | (simp; omega)))
  replace B1 := Lib.hid (B1.out rfl)
  replace N1 := Lib.hid (N1.out rfl)
  replace B2 := Lib.hid (B2.out rfl)
  replace N2 := Lib.hid (N2.out rfl)
  rw [if_neg (by simp)]
  cases f1
  · rw [if_pos (Or.inl rfl)]
    replace N1 := Lib.hid (N1.out rfl)
    clear B1
    cases f2
    · replace N2 := Lib.hid (N2.out rfl)
      clear B2
      go_enter Tryz.func48, Tryz.ntmps48
      go_wp2_with fail
      (with_reducible refine (CU.out _).mono ?_); rintro e w9 ⟨rfl, n0, rfl⟩
      go_wp2_with fail
      (with_reducible refine (I1.out _).mono ?_); rintro e w8 ⟨rfl, rfl⟩
      go_wp2_with fail
      (with_reducible refine (I2.out _).mono ?_); rintro e w7 ⟨rfl, rfl⟩
      go_wp2_with fail
      (with_reducible refine (N1.out _ (LAh.out.below (by (repeat' (first | (with_reducible exact Below.refl _ _) | (with_reducible refine Below.alloc ?_ ?_ _) | (with_reducible refine Below.setCell ?_ ?_ _) | (with_reducible refine below_drewN ?_ _) | (simp; done) | omega | (simp; omega)))))).mono ?_); rintro e w1 ⟨nn1, rfl, hb1⟩; have hc1 := (bcell hb1).1; have hf1 := (bcell hb1).2; have z1_0 : w.heap.size < w1.heap.size := (by have hzz := hb1.size; (try simp at hzz); omega); have K1 : Below w.heap.size w w1 := Below.trans (b := _) (by (repeat' (first | (with_reducible exact Below.refl _ _) | (with_reducible refine Below.alloc ?_ ?_ _) | (with_reducible refine Below.setCell ?_ ?_ _) | (with_reducible refine below_drewN ?_ _) | (simp; done) | omega | (simp; omega)))) (hb1.mono (by have hzz := hb1.size; (try simp at hzz); first | omega | (simp; done) | (simp; omega)))
      go_wp2_with fail
      (with_reducible refine (N2.out _ (LAh.out.below (by (repeat' (first | (with_reducible exact Below.refl _ _) | (with_reducible exact K1) | (with_reducible refine Below.alloc ?_ ?_ _) | (with_reducible refine Below.setCell ?_ ?_ _) | (with_reducible refine below_drewN ?_ _) | (simp; done) | omega | (simp; omega)))))).mono ?_); rintro e w2 ⟨nn2, rfl, hb2⟩; have hc2 := (bcell hb2).1; have hf2 := (bcell hb2).2; have z2_0 : w.heap.size < w2.heap.size := (by have hzz := hb2.size; (try simp at hzz); omega); have K2 : Below w.heap.size w w2 := Below.trans (b := _) (by (repeat' (first | (with_reducible exact Below.refl _ _) | (with_reducible exact K1) | (with_reducible refine Below.alloc ?_ ?_ _) | (with_reducible refine Below.setCell ?_ ?_ _) | (with_reducible refine below_drewN ?_ _) | (simp; done) | omega | (simp; omega)))) (hb2.mono (by have hzz := hb2.size; (try simp at hzz); first | omega | (simp; done) | (simp; omega)))
      go_wp2
      refine bodyPost_ret (v := Frac3 0 0 3) (by simp [results, Tryz.results48, go_sem, hc1, hf1, hc2, hf2, z1_0, Nat.lt_succ_of_lt z1_0, Nat.ne_of_lt z1_0, Nat.ne_of_gt z1_0, z2_0, Nat.lt_succ_of_lt z2_0, Nat.ne_of_lt z2_0, Nat.ne_of_gt z2_0]) rfl ⟨rfl, ?_⟩; (repeat' (first | (with_reducible exact Below.refl _ _) | (with_reducible exact K1) | (with_reducible exact K2) | (with_reducible refine Below.alloc ?_ ?_ _) | (with_reducible refine Below.setCell ?_ ?_ _) | (with_reducible refine below_drewN ?_ _) | (simp; done) | omega | (simp; omega)))
    · replace B2 := Lib.hid (B2.out rfl)
      clear N2
      go_enter Tryz.func48, Tryz.ntmps48
      go_wp2_with fail
      (with_reducible refine (CU.out _).mono ?_); rintro e w9 ⟨rfl, n0, rfl⟩
      go_wp2_with fail
      (with_reducible refine (I1.out _).mono ?_); rintro e w8 ⟨rfl, rfl⟩
      go_wp2_with fail
      (with_reducible refine (I2.out _).mono ?_); rintro e w7 ⟨rfl, rfl⟩
      go_wp2_with fail
      (with_reducible refine (N1.out _ (LAh.out.below (by (repeat' (first | (with_reducible exact Below.refl _ _) | (with_reducible refine Below.alloc ?_ ?_ _) | (with_reducible refine Below.setCell ?_ ?_ _) | (with_reducible refine below_drewN ?_ _) | (simp; done) | omega | (simp; omega)))))).mono ?_); rintro e w1 ⟨nn1, rfl, hb1⟩; have hc1 := (bcell hb1).1; have hf1 := (bcell hb1).2; have z1_0 : w.heap.size < w1.heap.size := (by have hzz := hb1.size; (try simp at hzz); omega); have K1 : Below w.heap.size w w1 := Below.trans (b := _) (by (repeat' (first | (with_reducible exact Below.refl _ _) | (with_reducible refine Below.alloc ?_ ?_ _) | (with_reducible refine Below.setCell ?_ ?_ _) | (with_reducible refine below_drewN ?_ _) | (simp; done) | omega | (simp; omega)))) (hb1.mono (by have hzz := hb1.size; (try simp at hzz); first | omega | (simp; done) | (simp; omega)))
      go_wp2_with fail
      (with_reducible refine (B2.out _).mono ?_); rintro e w2 ⟨rfl, hb2⟩; have hc2 := (bcell hb2).1; have hf2 := (bcell hb2).2; have z2_0 : w.heap.size < w2.heap.size := (by have hzz := hb2.size; (try simp at hzz); omega); have K2 : Below w.heap.size w w2 := Below.trans (b := _) (by (repeat' (first | (with_reducible exact Below.refl _ _) | (with_reducible exact K1) | (with_reducible refine Below.alloc ?_ ?_ _) | (with_reducible refine Below.setCell ?_ ?_ _) | (with_reducible refine below_drewN ?_ _) | (simp; done) | omega | (simp; omega)))) (hb2.mono (by have hzz := hb2.size; (try simp at hzz); first | omega | (simp; done) | (simp; omega)))
      go_wp2
      refine bodyPost_ret (v := Frac3 0 0 3) (by simp [results, Tryz.results48, go_sem, hc1, hf1, hc2, hf2, z1_0, Nat.lt_succ_of_lt z1_0, Nat.ne_of_lt z1_0, Nat.ne_of_gt z1_0, z2_0, Nat.lt_succ_of_lt z2_0, Nat.ne_of_lt z2_0, Nat.ne_of_gt z2_0]) rfl ⟨rfl, ?_⟩; (repeat' (first | (with_reducible exact Below.refl _ _) | (with_reducible exact K1) | (with_reducible exact K2) | (with_reducible refine Below.alloc ?_ ?_ _) | (with_reducible refine Below.setCell ?_ ?_ _) | (with_reducible refine below_drewN ?_ _) | (simp; done) | omega | (simp; omega)))
  replace B1 := Lib.hid (B1.out rfl)
  clear N1
  cases f2
  · rw [if_pos (Or.inr rfl)]
    replace N2 := Lib.hid (N2.out rfl)
    clear B2
    go_enter Tryz.func48, Tryz.ntmps48
    go_wp2_with fail
    (with_reducible refine (CU.out _).mono ?_); rintro e w9 ⟨rfl, n0, rfl⟩
    go_wp2_with fail
    (with_reducible refine (I1.out _).mono ?_); rintro e w8 ⟨rfl, rfl⟩
    go_wp2_with fail
    (with_reducible refine (I2.out _).mono ?_); rintro e w7 ⟨rfl, rfl⟩
    go_wp2_with fail
    (with_reducible refine (B1.out _).mono ?_); rintro e w1 ⟨rfl, hb1⟩; have hc1 := (bcell hb1).1; have hf1 := (bcell hb1).2; have z1_0 : w.heap.size < w1.heap.size := (by have hzz := hb1.size; (try simp at hzz); omega); have K1 : Below w.heap.size w w1 := Below.trans (b := _) (by (repeat' (first | (with_reducible exact Below.refl _ _) | (with_reducible refine Below.alloc ?_ ?_ _) | (with_reducible refine Below.setCell ?_ ?_ _) | (with_reducible refine below_drewN ?_ _) | (simp; done) | omega | (simp; omega)))) (hb1.mono (by have hzz := hb1.size; (try simp at hzz); first | omega | (simp; done) | (simp; omega)))
    go_wp2_with fail
    (with_reducible refine (N2.out _ (LAh.out.below (by (repeat' (first | (with_reducible exact Below.refl _ _) | (with_reducible exact K1) | (with_reducible refine Below.alloc ?_ ?_ _) | (with_reducible refine Below.setCell ?_ ?_ _) | (with_reducible refine below_drewN ?_ _) | (simp; done) | omega | (simp; omega)))))).mono ?_); rintro e w2 ⟨nn2, rfl, hb2⟩; have hc2 := (bcell hb2).1; have hf2 := (bcell hb2).2; have z2_0 : w.heap.size < w2.heap.size := (by have hzz := hb2.size; (try simp at hzz); omega); have K2 : Below w.heap.size w w2 := Below.trans (b := _) (by (repeat' (first | (with_reducible exact Below.refl _ _) | (with_reducible exact K1) | (with_reducible refine Below.alloc ?_ ?_ _) | (with_reducible refine Below.setCell ?_ ?_ _) | (with_reducible refine below_drewN ?_ _) | (simp; done) | omega | (simp; omega)))) (hb2.mono (by have hzz := hb2.size; (try simp at hzz); first | omega | (simp; done) | (simp; omega)))
    go_wp2
    refine bodyPost_ret (v := Frac3 0 0 3) (by simp [results, Tryz.results48, go_sem, hc1, hf1, hc2, hf2, z1_0, Nat.lt_succ_of_lt z1_0, Nat.ne_of_lt z1_0, Nat.ne_of_gt z1_0, z2_0, Nat.lt_succ_of_lt z2_0, Nat.ne_of_lt z2_0, Nat.ne_of_gt z2_0]) rfl ⟨rfl, ?_⟩; (repeat' (first | (with_reducible exact Below.refl _ _) | (with_reducible exact K1) | (with_reducible exact K2) | (with_reducible refine Below.alloc ?_ ?_ _) | (with_reducible refine Below.setCell ?_ ?_ _) | (with_reducible refine below_drewN ?_ _) | (simp; done) | omega | (simp; omega)))
  replace B2 := Lib.hid (B2.out rfl)
  clear N2
  rw [if_neg (by simp)]
  cases vb
  · rw [if_pos rfl]
    go_enter Tryz.func48, Tryz.ntmps48
    go_wp2_with fail
    (with_reducible refine (CU.out _).mono ?_); rintro e w9 ⟨rfl, n0, rfl⟩
    go_wp2_with fail
    (with_reducible refine (I1.out _).mono ?_); rintro e w8 ⟨rfl, rfl⟩
    go_wp2_with fail
    (with_reducible refine (I2.out _).mono ?_); rintro e w7 ⟨rfl, rfl⟩
    go_wp2_with fail
    (with_reducible refine (B1.out _).mono ?_); rintro e w1 ⟨rfl, hb1⟩; have hc1 := (bcell hb1).1; have hf1 := (bcell hb1).2; have z1_0 : w.heap.size < w1.heap.size := (by have hzz := hb1.size; (try simp at hzz); omega); have K1 : Below w.heap.size w w1 := Below.trans (b := _) (by (repeat' (first | (with_reducible exact Below.refl _ _) | (with_reducible refine Below.alloc ?_ ?_ _) | (with_reducible refine Below.setCell ?_ ?_ _) | (with_reducible refine below_drewN ?_ _) | (simp; done) | omega | (simp; omega)))) (hb1.mono (by have hzz := hb1.size; (try simp at hzz); first | omega | (simp; done) | (simp; omega)))
    go_wp2_with fail
    (with_reducible refine (B2.out _).mono ?_); rintro e w2 ⟨rfl, hb2⟩; have hc2 := (bcell hb2).1; have hf2 := (bcell hb2).2; have z2_0 : w.heap.size < w2.heap.size := (by have hzz := hb2.size; (try simp at hzz); omega); have K2 : Below w.heap.size w w2 := Below.trans (b := _) (by (repeat' (first | (with_reducible exact Below.refl _ _) | (with_reducible exact K1) | (with_reducible refine Below.alloc ?_ ?_ _) | (with_reducible refine Below.setCell ?_ ?_ _) | (with_reducible refine below_drewN ?_ _) | (simp; done) | omega | (simp; omega)))) (hb2.mono (by have hzz := hb2.size; (try simp at hzz); first | omega | (simp; done) | (simp; omega)))
    go_wp2_with fail
    (with_reducible refine (VA.out _).mono ?_); rintro e w3 ⟨rfl, hb3⟩; have hc3 := (bcell hb3).1; have hf3 := (bcell hb3).2; have z3_0 : w.heap.size < w3.heap.size := (by have hzz := hb3.size; (try simp at hzz); omega); have z3_1 : w2.heap.size < w3.heap.size := (by have hzz := hb3.size; (try simp at hzz); omega); have K3 : Below w.heap.size w w3 := Below.trans (b := _) (by (repeat' (first | (with_reducible exact Below.refl _ _) | (with_reducible exact K1) | (with_reducible exact K2) | (with_reducible refine Below.alloc ?_ ?_ _) | (with_reducible refine Below.setCell ?_ ?_ _) | (with_reducible refine below_drewN ?_ _) | (simp; done) | omega | (simp; omega)))) (hb3.mono (by have hzz := hb3.size; (try simp at hzz); first | omega | (simp; done) | (simp; omega)))
    go_wp2
    refine bodyPost_ret (v := Frac3 0 0 5) (by simp [results, Tryz.results48, go_sem, hc1, hf1, hc2, hf2, hc3, hf3, z1_0, Nat.lt_succ_of_lt z1_0, Nat.ne_of_lt z1_0, Nat.ne_of_gt z1_0, z2_0, Nat.lt_succ_of_lt z2_0, Nat.ne_of_lt z2_0, Nat.ne_of_gt z2_0, z3_0, Nat.lt_succ_of_lt z3_0, Nat.ne_of_lt z3_0, Nat.ne_of_gt z3_0, z3_1, Nat.lt_succ_of_lt z3_1, Nat.ne_of_lt z3_1, Nat.ne_of_gt z3_1]) rfl ⟨rfl, ?_⟩; (repeat' (first | (with_reducible exact Below.refl _ _) | (with_reducible exact K1) | (with_reducible exact K2) | (with_reducible exact K3) | (with_reducible refine Below.alloc ?_ ?_ _) | (with_reducible refine Below.setCell ?_ ?_ _) | (with_reducible refine below_drewN ?_ _) | (simp; done) | omega | (simp; omega)))
  · rw [if_neg (by decide)]
    go_enter Tryz.func48, Tryz.ntmps48
    go_wp2_with fail
    (with_reducible refine (CU.out _).mono ?_); rintro e w9 ⟨rfl, n0, rfl⟩
    go_wp2_with fail
    (with_reducible refine (I1.out _).mono ?_); rintro e w8 ⟨rfl, rfl⟩
    go_wp2_with fail
    (with_reducible refine (I2.out _).mono ?_); rintro e w7 ⟨rfl, rfl⟩
    go_wp2_with fail
    (with_reducible refine (B1.out _).mono ?_); rintro e w1 ⟨rfl, hb1⟩; have hc1 := (bcell hb1).1; have hf1 := (bcell hb1).2; have z1_0 : w.heap.size < w1.heap.size := (by have hzz := hb1.size; (try simp at hzz); omega); have K1 : Below w.heap.size w w1 := Below.trans (b := _) (by (repeat' (first | (with_reducible exact Below.refl _ _) | (with_reducible refine Below.alloc ?_ ?_ _) | (with_reducible refine Below.setCell ?_ ?_ _) | (with_reducible refine below_drewN ?_ _) | (simp; done) | omega | (simp; omega)))) (hb1.mono (by have hzz := hb1.size; (try simp at hzz); first | omega | (simp; done) | (simp; omega)))
    go_wp2_with fail
    (with_reducible refine (B2.out _).mono ?_); rintro e w2 ⟨rfl, hb2⟩; have hc2 := (bcell hb2).1; have hf2 := (bcell hb2).2; have z2_0 : w.heap.size < w2.heap.size := (by have hzz := hb2.size; (try simp at hzz); omega); have K2 : Below w.heap.size w w2 := Below.trans (b := _) (by (repeat' (first | (with_reducible exact Below.refl _ _) | (with_reducible exact K1) | (with_reducible refine Below.alloc ?_ ?_ _) | (with_reducible refine Below.setCell ?_ ?_ _) | (with_reducible refine below_drewN ?_ _) | (simp; done) | omega | (simp; omega)))) (hb2.mono (by have hzz := hb2.size; (try simp at hzz); first | omega | (simp; done) | (simp; omega)))
    go_wp2_with fail
    (with_reducible refine (VA.out _).mono ?_); rintro e w3 ⟨rfl, hb3⟩; have hc3 := (bcell hb3).1; have hf3 := (bcell hb3).2; have z3_0 : w.heap.size < w3.heap.size := (by have hzz := hb3.size; (try simp at hzz); omega); have z3_1 : w2.heap.size < w3.heap.size := (by have hzz := hb3.size; (try simp at hzz); omega); have K3 : Below w.heap.size w w3 := Below.trans (b := _) (by (repeat' (first | (with_reducible exact Below.refl _ _) | (with_reducible exact K1) | (with_reducible exact K2) | (with_reducible refine Below.alloc ?_ ?_ _) | (with_reducible refine Below.setCell ?_ ?_ _) | (with_reducible refine below_drewN ?_ _) | (simp; done) | omega | (simp; omega)))) (hb3.mono (by have hzz := hb3.size; (try simp at hzz); first | omega | (simp; done) | (simp; omega)))
    go_wp2
    refine bodyPost_ret (v := Frac3 n d 0) (by simp [results, Tryz.results48, go_sem, hc1, hf1, hc2, hf2, hc3, hf3, z1_0, Nat.lt_succ_of_lt z1_0, Nat.ne_of_lt z1_0, Nat.ne_of_gt z1_0, z2_0, Nat.lt_succ_of_lt z2_0, Nat.ne_of_lt z2_0, Nat.ne_of_gt z2_0, z3_0, Nat.lt_succ_of_lt z3_0, Nat.ne_of_lt z3_0, Nat.ne_of_gt z3_0, z3_1, Nat.lt_succ_of_lt z3_1, Nat.ne_of_lt z3_1, Nat.ne_of_gt z3_1]) rfl ⟨rfl, ?_⟩; (repeat' (first | (with_reducible exact Below.refl _ _) | (with_reducible exact K1) | (with_reducible exact K2) | (with_reducible exact K3) | (with_reducible refine Below.alloc ?_ ?_ _) | (with_reducible refine Below.setCell ?_ ?_ _) | (with_reducible refine below_drewN ?_ _) | (simp; done) | omega | (simp; omega)))
end Go.Proofs.YtikcinkbkakkmaaGreatDoor.Tx
