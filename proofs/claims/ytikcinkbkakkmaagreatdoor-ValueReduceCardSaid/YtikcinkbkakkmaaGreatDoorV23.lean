/- Identity, Reorderable and Operator of the reference. -/
import Derived.Test.YtikcinkbkakkmaaGreatDoorV18
import Derived.Test.YtikcinkbkakkmaaGreatDoorV15
import Derived.Test.YtikcinkbkakkmaaGreatDoorV9

namespace Go.Proofs.YtikcinkbkakkmaaGreatDoor.Va
open Go.ChangeShapes Go.WideShapes Go.ChangeAt Go.RowKit
open Fr Fx
set_option maxRecDepth 8000
set_option linter.unusedVariables false
set_option linter.unusedSimpArgs false

theorem r_op (fold : Int) (w : World) : Calls Tryz.prog 44 #[.int .i64 fold] w fun e w' => e = .returned (.int .i64 (opv fold)) ∧ w = w' := by
  by_cases h2 : fold = 2
  · subst h2
    go_enter Tryz.func44, Tryz.ntmps44
    go_wp2
    go_ret
    exact ⟨rfl, rfl⟩
  by_cases h3 : fold = 3
  · subst h3
    go_enter Tryz.func44, Tryz.ntmps44
    go_wp2
    go_ret
    exact ⟨rfl, rfl⟩
  by_cases h4 : fold = 4
  · subst h4
    go_enter Tryz.func44, Tryz.ntmps44
    go_wp2
    go_ret
    exact ⟨rfl, rfl⟩
  rw [show opv fold = 4 by unfold opv; rw [if_neg h2, if_neg h3, if_neg h4]]
  have g2 : (fold == 2) = false := by simpa using h2
  have g3 : (fold == 3) = false := by simpa using h3
  have g4 : (fold == 4) = false := by simpa using h4
  clear h2 h3 h4
  go_enter Tryz.func44, Tryz.ntmps44
  go_wp2
  go_ret
  exact ⟨rfl, rfl⟩
theorem r_reord (fold K B F R O : Int) (w : World) : Calls Tryz.prog 17 #[.int .i64 fold, T5 K B F R O] w (Ret (.bool (rov fold K B F R O)) w) := by
  unfold rov
  have VT := Lib.hid fun w => b_ty K B F R O w
  cases h : ty K B F R O
  · rw [h] at VT
    rw [Bool.false_and]
    clear h
    go_enter Tryz.func17, Tryz.ntmps17
    go_wp2_with (first | (go_at_call 29; (with_reducible refine (VT.out _).mono ?_); rintro e w1 ⟨rfl, hb1⟩; have hc1 := (bcell hb1).1; have hf1 := (bcell hb1).2; have z1_0 : w.heap.size < w1.heap.size := (by have hzz := hb1.size; (try simp at hzz); omega); have K1 : Below w.heap.size w w1 := Below.trans (b := _) (by (repeat' (first | (with_reducible exact Below.refl _ _) | (with_reducible refine Below.alloc ?_ ?_ _) | (with_reducible refine Below.setCell ?_ ?_ _) | (with_reducible refine below_drewN ?_ _) | (simp; done) | omega | (simp; omega)))) (hb1.mono (by have hzz := hb1.size; (try simp at hzz); first | omega | (simp; done) | (simp; omega)))))
    go_ret
    exact ⟨rfl, K1⟩
  · rw [h] at VT
    rw [Bool.true_and]
    clear h
    obtain ⟨A, hA⟩ : ∃ A, decide (fold = 3 ∨ fold = 4 ∨ (K ≠ 2 ∧ (fold = 1 ∨ fold = 2))) = A := ⟨_, rfl⟩
    rw [hA]
    have HA := Lib.hid hA
    clear hA
    go_enter Tryz.func17, Tryz.ntmps17
    go_wp2_with (first | (go_at_call 29; (with_reducible refine (VT.out _).mono ?_); rintro e w1 ⟨rfl, hb1⟩; have hc1 := (bcell hb1).1; have hf1 := (bcell hb1).2; have z1_0 : w.heap.size < w1.heap.size := (by have hzz := hb1.size; (try simp at hzz); omega); have K1 : Below w.heap.size w w1 := Below.trans (b := _) (by (repeat' (first | (with_reducible exact Below.refl _ _) | (with_reducible refine Below.alloc ?_ ?_ _) | (with_reducible refine Below.setCell ?_ ?_ _) | (with_reducible refine below_drewN ?_ _) | (simp; done) | omega | (simp; omega)))) (hb1.mono (by have hzz := hb1.size; (try simp at hzz); first | omega | (simp; done) | (simp; omega)))))
    all_goals
      go_ret
      refine ⟨retb ?_, K1⟩
      have hA := HA.out
      rw [← hA]
      clear hA HA
      first | (simp_all; done) | (refine Bool.eq_iff_iff.mpr ?_; simp_all; done) | (refine Bool.eq_iff_iff.mpr ?_; simp_all; omega)
set_option maxHeartbeats 4000000 in
theorem r_id (fold K B F R O : Int) (w : World) : Calls Tryz.prog 15 #[.int .i64 fold, T5 K B F R O] w (Ret (I3 (idv fold K B F R O)) w) := by
  have VT := Lib.hid fun w => b_ty K B F R O w
  have ON := Lib.hid fun w => r_one K B F R O w
  cases h : ty K B F R O
  · rw [show idv fold K B F R O = (0, 0, false) by unfold idv; rw [if_pos h]]
    rw [h] at VT
    rw [show onv K B F R O = (0, 0, 10) by unfold onv; rw [if_pos h]] at ON
    by_cases h2 : fold = 2
    · have g2 : (fold == 2) = true := by simpa using h2
      clear h h2
      go_enter Tryz.func15, Tryz.ntmps15
      go_wp2_with (first | (go_at_call 29; (with_reducible refine (VT.out _).mono ?_); rintro e w1 ⟨rfl, hb1⟩; have hc1 := (bcell hb1).1; have hf1 := (bcell hb1).2; have z1_0 : w.heap.size < w1.heap.size := (by have hzz := hb1.size; (try simp at hzz); omega); have z1_1 : w.heap.size + 1 < w1.heap.size := (by have hzz := hb1.size; (try simp at hzz); omega); have K1 : Below w.heap.size w w1 := Below.trans (b := _) (by (repeat' (first | (with_reducible exact Below.refl _ _) | (with_reducible refine Below.alloc ?_ ?_ _) | (with_reducible refine Below.setCell ?_ ?_ _) | (with_reducible refine below_drewN ?_ _) | (simp; done) | omega | (simp; omega)))) (hb1.mono (by have hzz := hb1.size; (try simp at hzz); first | omega | (simp; done) | (simp; omega)))) | (go_at_call 47; (with_reducible refine (ON.out _).mono ?_); rintro e w2 ⟨rfl, hb2⟩; have hc2 := (bcell hb2).1; have hf2 := (bcell hb2).2; have z2_0 : w.heap.size < w2.heap.size := (by have hzz := hb2.size; (try simp at hzz); omega); have z2_1 : w.heap.size + 1 < w2.heap.size := (by have hzz := hb2.size; (try simp at hzz); omega); have K2 : Below w.heap.size w w2 := Below.trans (b := _) (by (repeat' (first | (with_reducible exact Below.refl _ _) | (with_reducible exact K1) | (with_reducible refine Below.alloc ?_ ?_ _) | (with_reducible refine Below.setCell ?_ ?_ _) | (with_reducible refine below_drewN ?_ _) | (simp; done) | omega | (simp; omega)))) (hb2.mono (by have hzz := hb2.size; (try simp at hzz); first | omega | (simp; done) | (simp; omega)))))
      refine bodyPost_ret (v := .tuple #[V2 0 0, .bool false]) (by simp [results, Tryz.results15, go_sem, hc1, hf1, hc2, hf2, z1_0, Nat.lt_succ_of_lt z1_0, Nat.ne_of_lt z1_0, Nat.ne_of_gt z1_0, z1_1, Nat.lt_succ_of_lt z1_1, Nat.ne_of_lt z1_1, Nat.ne_of_gt z1_1, z2_0, Nat.lt_succ_of_lt z2_0, Nat.ne_of_lt z2_0, Nat.ne_of_gt z2_0, z2_1, Nat.lt_succ_of_lt z2_1, Nat.ne_of_lt z2_1, Nat.ne_of_gt z2_1]) rfl ⟨rfl, ?_⟩; (repeat' (first | (with_reducible exact Below.refl _ _) | (with_reducible exact K1) | (with_reducible exact K2) | (with_reducible refine Below.alloc ?_ ?_ _) | (with_reducible refine Below.setCell ?_ ?_ _) | (with_reducible refine below_drewN ?_ _) | (simp; done) | omega | (simp; omega)))
    · have g2 : (fold == 2) = false := by simpa using h2
      clear h h2
      go_enter Tryz.func15, Tryz.ntmps15
      go_wp2_with (first | (go_at_call 29; (with_reducible refine (VT.out _).mono ?_); rintro e w1 ⟨rfl, hb1⟩; have hc1 := (bcell hb1).1; have hf1 := (bcell hb1).2; have z1_0 : w.heap.size < w1.heap.size := (by have hzz := hb1.size; (try simp at hzz); omega); have z1_1 : w.heap.size + 1 < w1.heap.size := (by have hzz := hb1.size; (try simp at hzz); omega); have K1 : Below w.heap.size w w1 := Below.trans (b := _) (by (repeat' (first | (with_reducible exact Below.refl _ _) | (with_reducible refine Below.alloc ?_ ?_ _) | (with_reducible refine Below.setCell ?_ ?_ _) | (with_reducible refine below_drewN ?_ _) | (simp; done) | omega | (simp; omega)))) (hb1.mono (by have hzz := hb1.size; (try simp at hzz); first | omega | (simp; done) | (simp; omega)))))
      refine bodyPost_ret (v := .tuple #[V2 0 0, .bool false]) (by simp [results, Tryz.results15, go_sem, hc1, hf1, z1_0, Nat.lt_succ_of_lt z1_0, Nat.ne_of_lt z1_0, Nat.ne_of_gt z1_0, z1_1, Nat.lt_succ_of_lt z1_1, Nat.ne_of_lt z1_1, Nat.ne_of_gt z1_1]) rfl ⟨rfl, ?_⟩; (repeat' (first | (with_reducible exact Below.refl _ _) | (with_reducible exact K1) | (with_reducible refine Below.alloc ?_ ?_ _) | (with_reducible refine Below.setCell ?_ ?_ _) | (with_reducible refine below_drewN ?_ _) | (simp; done) | omega | (simp; omega)))
  rw [h] at VT
  have ZE := Lib.hid fun w => r_zero K B F R O w
  rw [h, if_pos rfl] at ZE
  by_cases h1 : fold = 1
  · rw [show idv fold K B F R O = (0, 1, true) by unfold idv; rw [if_neg (by rw [h]; decide), if_pos (Or.inl h1)]]
    have g1 : (fold == 1) = true := by simpa using h1
    clear h h1 ON
    go_enter Tryz.func15, Tryz.ntmps15
    go_wp2_with (first | (go_at_call 29; (with_reducible refine (VT.out _).mono ?_); rintro e w1 ⟨rfl, hb1⟩; have hc1 := (bcell hb1).1; have hf1 := (bcell hb1).2; have z1_0 : w.heap.size < w1.heap.size := (by have hzz := hb1.size; (try simp at hzz); omega); have z1_1 : w.heap.size + 1 < w1.heap.size := (by have hzz := hb1.size; (try simp at hzz); omega); have K1 : Below w.heap.size w w1 := Below.trans (b := _) (by (repeat' (first | (with_reducible exact Below.refl _ _) | (with_reducible refine Below.alloc ?_ ?_ _) | (with_reducible refine Below.setCell ?_ ?_ _) | (with_reducible refine below_drewN ?_ _) | (simp; done) | omega | (simp; omega)))) (hb1.mono (by have hzz := hb1.size; (try simp at hzz); first | omega | (simp; done) | (simp; omega)))) | (go_at_call 46; (with_reducible refine (ZE.out _).mono ?_); rintro e w2 ⟨rfl, hb2⟩; have hc2 := (bcell hb2).1; have hf2 := (bcell hb2).2; have z2_0 : w.heap.size < w2.heap.size := (by have hzz := hb2.size; (try simp at hzz); omega); have z2_1 : w.heap.size + 1 < w2.heap.size := (by have hzz := hb2.size; (try simp at hzz); omega); have K2 : Below w.heap.size w w2 := Below.trans (b := _) (by (repeat' (first | (with_reducible exact Below.refl _ _) | (with_reducible exact K1) | (with_reducible refine Below.alloc ?_ ?_ _) | (with_reducible refine Below.setCell ?_ ?_ _) | (with_reducible refine below_drewN ?_ _) | (simp; done) | omega | (simp; omega)))) (hb2.mono (by have hzz := hb2.size; (try simp at hzz); first | omega | (simp; done) | (simp; omega)))))
    refine bodyPost_ret (v := .tuple #[V2 0 1, .bool true]) (by simp [results, Tryz.results15, go_sem, hc1, hf1, hc2, hf2, z1_0, Nat.lt_succ_of_lt z1_0, Nat.ne_of_lt z1_0, Nat.ne_of_gt z1_0, z1_1, Nat.lt_succ_of_lt z1_1, Nat.ne_of_lt z1_1, Nat.ne_of_gt z1_1, z2_0, Nat.lt_succ_of_lt z2_0, Nat.ne_of_lt z2_0, Nat.ne_of_gt z2_0, z2_1, Nat.lt_succ_of_lt z2_1, Nat.ne_of_lt z2_1, Nat.ne_of_gt z2_1]) rfl ⟨rfl, ?_⟩; (repeat' (first | (with_reducible exact Below.refl _ _) | (with_reducible exact K1) | (with_reducible exact K2) | (with_reducible refine Below.alloc ?_ ?_ _) | (with_reducible refine Below.setCell ?_ ?_ _) | (with_reducible refine below_drewN ?_ _) | (simp; done) | omega | (simp; omega)))
  have g1 : (fold == 1) = false := by simpa using h1
  by_cases h5 : fold = 5
  · rw [show idv fold K B F R O = (0, 1, true) by unfold idv; rw [if_neg (by rw [h]; decide), if_pos (Or.inr h5)]]
    have g5 : (fold == 5) = true := by simpa using h5
    clear h h1 h5 ON
    go_enter Tryz.func15, Tryz.ntmps15
    go_wp2_with (first | (go_at_call 29; (with_reducible refine (VT.out _).mono ?_); rintro e w1 ⟨rfl, hb1⟩; have hc1 := (bcell hb1).1; have hf1 := (bcell hb1).2; have z1_0 : w.heap.size < w1.heap.size := (by have hzz := hb1.size; (try simp at hzz); omega); have z1_1 : w.heap.size + 1 < w1.heap.size := (by have hzz := hb1.size; (try simp at hzz); omega); have K1 : Below w.heap.size w w1 := Below.trans (b := _) (by (repeat' (first | (with_reducible exact Below.refl _ _) | (with_reducible refine Below.alloc ?_ ?_ _) | (with_reducible refine Below.setCell ?_ ?_ _) | (with_reducible refine below_drewN ?_ _) | (simp; done) | omega | (simp; omega)))) (hb1.mono (by have hzz := hb1.size; (try simp at hzz); first | omega | (simp; done) | (simp; omega)))) | (go_at_call 46; (with_reducible refine (ZE.out _).mono ?_); rintro e w2 ⟨rfl, hb2⟩; have hc2 := (bcell hb2).1; have hf2 := (bcell hb2).2; have z2_0 : w.heap.size < w2.heap.size := (by have hzz := hb2.size; (try simp at hzz); omega); have z2_1 : w.heap.size + 1 < w2.heap.size := (by have hzz := hb2.size; (try simp at hzz); omega); have K2 : Below w.heap.size w w2 := Below.trans (b := _) (by (repeat' (first | (with_reducible exact Below.refl _ _) | (with_reducible exact K1) | (with_reducible refine Below.alloc ?_ ?_ _) | (with_reducible refine Below.setCell ?_ ?_ _) | (with_reducible refine below_drewN ?_ _) | (simp; done) | omega | (simp; omega)))) (hb2.mono (by have hzz := hb2.size; (try simp at hzz); first | omega | (simp; done) | (simp; omega)))))
    refine bodyPost_ret (v := .tuple #[V2 0 1, .bool true]) (by simp [results, Tryz.results15, go_sem, hc1, hf1, hc2, hf2, z1_0, Nat.lt_succ_of_lt z1_0, Nat.ne_of_lt z1_0, Nat.ne_of_gt z1_0, z1_1, Nat.lt_succ_of_lt z1_1, Nat.ne_of_lt z1_1, Nat.ne_of_gt z1_1, z2_0, Nat.lt_succ_of_lt z2_0, Nat.ne_of_lt z2_0, Nat.ne_of_gt z2_0, z2_1, Nat.lt_succ_of_lt z2_1, Nat.ne_of_lt z2_1, Nat.ne_of_gt z2_1]) rfl ⟨rfl, ?_⟩; (repeat' (first | (with_reducible exact Below.refl _ _) | (with_reducible exact K1) | (with_reducible exact K2) | (with_reducible refine Below.alloc ?_ ?_ _) | (with_reducible refine Below.setCell ?_ ?_ _) | (with_reducible refine below_drewN ?_ _) | (simp; done) | omega | (simp; omega)))
  have g5 : (fold == 5) = false := by simpa using h5
  by_cases h2 : fold = 2
  · rw [show idv fold K B F R O = ((onv K B F R O).1, (onv K B F R O).2.1, decide ((onv K B F R O).2.2 = 0)) by unfold idv; rw [if_neg (by rw [h]; decide), if_neg (by omega), if_pos h2]]
    have g2 : (fold == 2) = true := by simpa using h2
    obtain ⟨r, hr⟩ : ∃ r, onv K B F R O = r := ⟨_, rfl⟩
    rw [hr] at ON ⊢
    obtain ⟨x, y, z⟩ := r
    clear h h1 h5 h2 hr
    show Calls _ _ _ _ (Ret (.tuple #[Fx.V2 x y, .bool (decide (z = 0))]) w)
    rw [show decide (z = 0) = (z == 0) from by rw [Bool.eq_iff_iff]; simp]
    go_enter Tryz.func15, Tryz.ntmps15
    go_wp2_with (first | (go_at_call 29; (with_reducible refine (VT.out _).mono ?_); rintro e w1 ⟨rfl, hb1⟩; have hc1 := (bcell hb1).1; have hf1 := (bcell hb1).2; have z1_0 : w.heap.size < w1.heap.size := (by have hzz := hb1.size; (try simp at hzz); omega); have z1_1 : w.heap.size + 1 < w1.heap.size := (by have hzz := hb1.size; (try simp at hzz); omega); have K1 : Below w.heap.size w w1 := Below.trans (b := _) (by (repeat' (first | (with_reducible exact Below.refl _ _) | (with_reducible refine Below.alloc ?_ ?_ _) | (with_reducible refine Below.setCell ?_ ?_ _) | (with_reducible refine below_drewN ?_ _) | (simp; done) | omega | (simp; omega)))) (hb1.mono (by have hzz := hb1.size; (try simp at hzz); first | omega | (simp; done) | (simp; omega)))) | (go_at_call 47; (with_reducible refine (ON.out _).mono ?_); rintro e w2 ⟨rfl, hb2⟩; have hc2 := (bcell hb2).1; have hf2 := (bcell hb2).2; have z2_0 : w.heap.size < w2.heap.size := (by have hzz := hb2.size; (try simp at hzz); omega); have z2_1 : w.heap.size + 1 < w2.heap.size := (by have hzz := hb2.size; (try simp at hzz); omega); have K2 : Below w.heap.size w w2 := Below.trans (b := _) (by (repeat' (first | (with_reducible exact Below.refl _ _) | (with_reducible exact K1) | (with_reducible refine Below.alloc ?_ ?_ _) | (with_reducible refine Below.setCell ?_ ?_ _) | (with_reducible refine below_drewN ?_ _) | (simp; done) | omega | (simp; omega)))) (hb2.mono (by have hzz := hb2.size; (try simp at hzz); first | omega | (simp; done) | (simp; omega)))))
    refine bodyPost_ret (v := .tuple #[V2 x y, .bool (z == 0)]) (by simp [results, Tryz.results15, go_sem, hc1, hf1, hc2, hf2, z1_0, Nat.lt_succ_of_lt z1_0, Nat.ne_of_lt z1_0, Nat.ne_of_gt z1_0, z1_1, Nat.lt_succ_of_lt z1_1, Nat.ne_of_lt z1_1, Nat.ne_of_gt z1_1, z2_0, Nat.lt_succ_of_lt z2_0, Nat.ne_of_lt z2_0, Nat.ne_of_gt z2_0, z2_1, Nat.lt_succ_of_lt z2_1, Nat.ne_of_lt z2_1, Nat.ne_of_gt z2_1]) rfl ⟨rfl, ?_⟩; (repeat' (first | (with_reducible exact Below.refl _ _) | (with_reducible exact K1) | (with_reducible exact K2) | (with_reducible refine Below.alloc ?_ ?_ _) | (with_reducible refine Below.setCell ?_ ?_ _) | (with_reducible refine below_drewN ?_ _) | (simp; done) | omega | (simp; omega)))
  · rw [show idv fold K B F R O = (0, 0, false) by unfold idv; rw [if_neg (by rw [h]; decide), if_neg (by omega), if_neg h2]]
    have g2 : (fold == 2) = false := by simpa using h2
    clear h h1 h5 h2 ON
    go_enter Tryz.func15, Tryz.ntmps15
    go_wp2_with (first | (go_at_call 29; (with_reducible refine (VT.out _).mono ?_); rintro e w1 ⟨rfl, hb1⟩; have hc1 := (bcell hb1).1; have hf1 := (bcell hb1).2; have z1_0 : w.heap.size < w1.heap.size := (by have hzz := hb1.size; (try simp at hzz); omega); have z1_1 : w.heap.size + 1 < w1.heap.size := (by have hzz := hb1.size; (try simp at hzz); omega); have K1 : Below w.heap.size w w1 := Below.trans (b := _) (by (repeat' (first | (with_reducible exact Below.refl _ _) | (with_reducible refine Below.alloc ?_ ?_ _) | (with_reducible refine Below.setCell ?_ ?_ _) | (with_reducible refine below_drewN ?_ _) | (simp; done) | omega | (simp; omega)))) (hb1.mono (by have hzz := hb1.size; (try simp at hzz); first | omega | (simp; done) | (simp; omega)))))
    refine bodyPost_ret (v := .tuple #[V2 0 0, .bool false]) (by simp [results, Tryz.results15, go_sem, hc1, hf1, z1_0, Nat.lt_succ_of_lt z1_0, Nat.ne_of_lt z1_0, Nat.ne_of_gt z1_0, z1_1, Nat.lt_succ_of_lt z1_1, Nat.ne_of_lt z1_1, Nat.ne_of_gt z1_1]) rfl ⟨rfl, ?_⟩; (repeat' (first | (with_reducible exact Below.refl _ _) | (with_reducible exact K1) | (with_reducible refine Below.alloc ?_ ?_ _) | (with_reducible refine Below.setCell ?_ ?_ _) | (with_reducible refine below_drewN ?_ _) | (simp; done) | omega | (simp; omega)))
theorem nw_err {n d : Int} (h : (nw n d).2.2 ≠ 0) : nw n d = (0, 0, (nw n d).2.2) := by
  unfold nw at h ⊢
  dsimp only at h ⊢
  unfold newE newN newD at *
  by_cases hd : d = 0
  · simp only [if_pos hd]
  · simp only [if_neg hd] at h ⊢
    unfold lowE lowN lowD at *
    generalize (if n < 0 then -n else n) = a at *
    generalize (if d < 0 then -d else d) = b at *
    by_cases hc : 2147483647 < a / ↑(Int.gcd a b) ∨ 2147483647 < b / ↑(Int.gcd a b)
    · simp only [if_pos hc]
    · simp only [if_neg hc] at h
      exact absurd rfl h
theorem apv_err {op K B F R O n1 d1 n2 d2 : Int} (h : (apv op K B F R O n1 d1 n2 d2).2.2 ≠ 0) : apv op K B F R O n1 d1 n2 d2 = (0, 0, (apv op K B F R O n1 d1 n2 d2).2.2) := by
  unfold apv at h ⊢
  by_cases c1 : op < 4 ∨ 10 < op
  · simp only [if_pos c1]
  simp only [if_neg c1] at h ⊢
  by_cases c2 : ty K B F R O = false
  · simp only [if_pos c2]
  simp only [if_neg c2] at h ⊢
  by_cases c3 : vv K B F R O n1 d1 = false ∨ (op ≠ 8 ∧ vv K B F R O n2 d2 = false)
  · simp only [if_pos c3]
  simp only [if_neg c3] at h ⊢
  by_cases c4 : op = 9
  · simp only [if_pos c4] at h
    split at h <;> exact absurd rfl h
  simp only [if_neg c4] at h ⊢
  by_cases c5 : op = 10
  · simp only [if_pos c5] at h
    split at h <;> exact absurd rfl h
  simp only [if_neg c5] at h ⊢
  by_cases c6 : K = 1
  · simp only [if_pos c6] at h ⊢
    unfold frv at h ⊢
    by_cases e4 : op = 4
    · simp only [if_pos e4] at h ⊢; exact nw_err h
    simp only [if_neg e4] at h ⊢
    by_cases e5 : op = 5
    · simp only [if_pos e5] at h ⊢; exact nw_err h
    simp only [if_neg e5] at h ⊢
    by_cases e6 : op = 6
    · simp only [if_pos e6] at h ⊢; exact nw_err h
    simp only [if_neg e6] at h ⊢
    by_cases e7 : op = 7
    · simp only [if_pos e7] at h ⊢; exact nw_err h
    simp only [if_neg e7] at h
    exact absurd rfl h
  simp only [if_neg c6] at h ⊢
  by_cases c7 : K = 2
  · simp only [if_pos c7] at h ⊢
    unfold fxv at h ⊢
    by_cases e7 : op = 7 ∧ n2 = 0
    · simp only [if_pos e7]
    simp only [if_neg e7] at h
    exact absurd rfl h
  · simp only [if_neg c7] at h ⊢
    unfold whv at h ⊢
    by_cases e7 : op = 7 ∧ n2 = 0
    · simp only [if_pos e7]
    simp only [if_neg e7] at h ⊢
    by_cases e8 : -2147483647 ≤ whn op n1 n2 ∧ whn op n1 n2 ≤ 2147483647
    · simp only [if_pos e8] at h; exact absurd rfl h
    · simp only [if_neg e8]
end Go.Proofs.YtikcinkbkakkmaaGreatDoor.Va
