/- Dual numbers: Reduce of the reference. -/
import Derived.Test.YthkhlhibhkdkkaaG31
import Derived.Test.YthkhlhibhkdkkaaD7

namespace Go.Proofs.Ythkhlhibhkdkkaa.Va
open Go.ChangeShapes Go.WideShapes Go.ChangeAt Go.RowKit
open Fr Fx
set_option maxRecDepth 8000
set_option linter.unusedVariables false
set_option linter.unusedSimpArgs false

set_option maxRecDepth 100000 in
set_option maxHeartbeats 8000000 in
theorem r_rd (fold : Int) (p : Option Addr) (xs : List Q4) (c : Nat) (w : World) (hn : xs.length ≤ maxLen) (hc : xs.length ≤ c) (RA : Hid (SlD w p xs)) (RB : Hid (∀ i, i < xs.length → inB (xs.getD i q0).1)) :
    Calls Try.prog 12 #[.int .i64 fold, .slice p xs.length c] w (Ret (F5 (drd fold xs)) w) := by
  have hn2 : xs.length ≤ 9223372036854775807 := Nat.le_trans hn (by decide)
  clear hn
  have OP := Lib.hid fun w => r_dop fold w
  by_cases hd : dop fold = 0
  · rw [show drd fold xs = (0, 0, 0, 0, 1) by unfold drd; rw [if_pos hd]]
    rw [hd] at OP
    clear RA RB hd
    go_enter Try.func12, Try.ntmps12
    go_wp2_with (first | (go_at_call 23; (with_reducible refine (OP.out _).mono ?_); rintro e w9 ⟨rfl, rfl⟩))
    refine bodyPost_ret (v := F5 (0, 0, 0, 0, 1)) (by simp [results, Try.results12, go_sem]) rfl ⟨rfl, ?_⟩; (repeat' (first | (with_reducible exact Below.refl _ _) | (with_reducible refine Below.alloc ?_ ?_ _) | (with_reducible refine Below.setCell ?_ ?_ _) | (with_reducible refine below_drewN ?_ _) | (simp; done) | omega | (simp; omega)))
  rw [show drd fold xs = drt fold (dop fold) xs by unfold drd; rw [if_neg hd]]
  have hfold : fold = 1 ∨ fold = 2 ∨ fold = 3 ∨ fold = 4 := by
    unfold dop at hd
    by_cases a : fold = 1
    · exact .inl a
    by_cases b : fold = 2
    · exact .inr (.inl b)
    by_cases c : fold = 3
    · exact .inr (.inr (.inl c))
    by_cases d : fold = 4
    · exact .inr (.inr (.inr d))
    simp [a, b, c, d] at hd
  cases xs with
  | nil =>
    clear RA RB hn2
    have NM := Lib.hid fun n w => r_num n w
    rw [List.length_nil] at hc ⊢
    rcases hfold with rfl | rfl | rfl | rfl
    · have OP : Hid (∀ w, Calls Try.prog 23 #[.int .i64 1] w fun e w' => e = .returned (.int .i64 4) ∧ w = w') := OP
      go_enter Try.func12, Try.ntmps12
      go_wp2_with (first | (go_at_call 23; (with_reducible refine (OP.out _).mono ?_); rintro e w9 ⟨rfl, rfl⟩) | (go_at_call 24; (with_reducible refine (NM.out _ _).mono ?_); rintro e w1 ⟨rfl, hb1⟩; have hc1 := (bcell hb1).1; have hf1 := (bcell hb1).2; have z1_0 : w.heap.size < w1.heap.size := (by have hzz := hb1.size; (try simp at hzz); omega); have K1 : Below w.heap.size w w1 := Below.trans (b := _) (by (repeat' (first | (with_reducible exact Below.refl _ _) | (with_reducible refine Below.alloc ?_ ?_ _) | (with_reducible refine Below.setCell ?_ ?_ _) | (with_reducible refine below_drewN ?_ _) | (simp; done) | omega | (simp; omega)))) (hb1.mono (by have hzz := hb1.size; (try simp at hzz); first | omega | (simp; done) | (simp; omega)))))
      refine bodyPost_ret (v := F5 (0, 1, 0, 1, 0)) (by simp [results, Try.results12, go_sem, hc1, hf1, z1_0, Nat.lt_succ_of_lt z1_0, Nat.ne_of_lt z1_0, Nat.ne_of_gt z1_0]) rfl ⟨rfl, ?_⟩; (repeat' (first | (with_reducible exact Below.refl _ _) | (with_reducible exact K1) | (with_reducible exact K1.size) | (with_reducible refine Below.alloc ?_ ?_ _) | (with_reducible refine Below.setCell ?_ ?_ _) | (with_reducible refine below_drewN ?_ _) | (simp; done) | omega | (simp; omega)))
    · have OP : Hid (∀ w, Calls Try.prog 23 #[.int .i64 2] w fun e w' => e = .returned (.int .i64 6) ∧ w = w') := OP
      go_enter Try.func12, Try.ntmps12
      go_wp2_with (first | (go_at_call 23; (with_reducible refine (OP.out _).mono ?_); rintro e w9 ⟨rfl, rfl⟩) | (go_at_call 24; (with_reducible refine (NM.out _ _).mono ?_); rintro e w1 ⟨rfl, hb1⟩; have hc1 := (bcell hb1).1; have hf1 := (bcell hb1).2; have z1_0 : w.heap.size < w1.heap.size := (by have hzz := hb1.size; (try simp at hzz); omega); have K1 : Below w.heap.size w w1 := Below.trans (b := _) (by (repeat' (first | (with_reducible exact Below.refl _ _) | (with_reducible refine Below.alloc ?_ ?_ _) | (with_reducible refine Below.setCell ?_ ?_ _) | (with_reducible refine below_drewN ?_ _) | (simp; done) | omega | (simp; omega)))) (hb1.mono (by have hzz := hb1.size; (try simp at hzz); first | omega | (simp; done) | (simp; omega)))))
      refine bodyPost_ret (v := F5 (1, 1, 0, 1, 0)) (by simp [results, Try.results12, go_sem, hc1, hf1, z1_0, Nat.lt_succ_of_lt z1_0, Nat.ne_of_lt z1_0, Nat.ne_of_gt z1_0]) rfl ⟨rfl, ?_⟩; (repeat' (first | (with_reducible exact Below.refl _ _) | (with_reducible exact K1) | (with_reducible exact K1.size) | (with_reducible refine Below.alloc ?_ ?_ _) | (with_reducible refine Below.setCell ?_ ?_ _) | (with_reducible refine below_drewN ?_ _) | (simp; done) | omega | (simp; omega)))
    · have OP : Hid (∀ w, Calls Try.prog 23 #[.int .i64 3] w fun e w' => e = .returned (.int .i64 9) ∧ w = w') := OP
      go_enter Try.func12, Try.ntmps12
      go_wp2_with (first | (go_at_call 23; (with_reducible refine (OP.out _).mono ?_); rintro e w9 ⟨rfl, rfl⟩))
      refine bodyPost_ret (v := F5 (0, 0, 0, 0, 1)) (by simp [results, Try.results12, go_sem]) rfl ⟨rfl, ?_⟩; (repeat' (first | (with_reducible exact Below.refl _ _) | (with_reducible refine Below.alloc ?_ ?_ _) | (with_reducible refine Below.setCell ?_ ?_ _) | (with_reducible refine below_drewN ?_ _) | (simp; done) | omega | (simp; omega)))
    · have OP : Hid (∀ w, Calls Try.prog 23 #[.int .i64 4] w fun e w' => e = .returned (.int .i64 10) ∧ w = w') := OP
      go_enter Try.func12, Try.ntmps12
      go_wp2_with (first | (go_at_call 23; (with_reducible refine (OP.out _).mono ?_); rintro e w9 ⟨rfl, rfl⟩))
      refine bodyPost_ret (v := F5 (0, 0, 0, 0, 1)) (by simp [results, Try.results12, go_sem]) rfl ⟨rfl, ?_⟩; (repeat' (first | (with_reducible exact Below.refl _ _) | (with_reducible refine Below.alloc ?_ ?_ _) | (with_reducible refine Below.setCell ?_ ?_ _) | (with_reducible refine below_drewN ?_ _) | (simp; done) | omega | (simp; omega)))
  | cons v r =>
    clear hfold
    have gq : (dop fold == 0) = false := by simpa using hd
    have AP := Lib.hid fun a e w (h : inB (e : Q4).1) => r_dap (dop fold) (a : Q4).1 a.2.1 a.2.2.1 a.2.2.2 e.1 e.2.1 e.2.2.1 e.2.2.2 w h
    obtain ⟨A, hA⟩ : ∃ A, drt fold (dop fold) (v :: r) = A := ⟨_, rfl⟩
    rw [hA]
    obtain ⟨oq, hoq⟩ : ∃ q, dop fold = q := ⟨_, rfl⟩
    rw [hoq] at OP AP gq hA
    clear hoq hd
    obtain ⟨b, o, hp, c0, c1, c2, c3⟩ := RA.out 0 (by simp)
    subst hp
    simp only [List.getD_cons_zero, Nat.zero_mul, Nat.add_zero] at c0 c1 c2 c3
    have hbw : b < w.heap.size := World.block_lt_of_cell? _ _ c0
    have hA2 : (if vq v = false then (0, 0, 0, 0, 1) else drf oq r v : A5) = A := hA
    clear hA
    obtain ⟨xs, hxs⟩ : ∃ xs, v :: r = xs := ⟨_, rfl⟩
    have hx1 : 1 ≤ xs.length := by rw [← hxs]; simp
    have HD : Hid (xs.drop 1 = r) := Lib.hid (by rw [← hxs]; rfl)
    have hr : xs.length = r.length + 1 := by rw [← hxs]; simp
    rw [hxs] at RA RB hc hn2 ⊢
    clear hxs
    obtain ⟨n, hnn⟩ : ∃ n, xs.length = n := ⟨_, rfl⟩
    have HR := Lib.hid hnn
    rw [hnn] at hc hn2 hx1 hr ⊢
    clear hnn
    have gn : ((n : Int) == 0) = false := by simp; omega
    have gn2 : (0 : Int) < n := by omega
    by_cases h1 : n = 1
    · have hnil : r = [] := List.eq_nil_of_length_eq_zero (by omega)
      have g3 : ((n : Int) == 1) = true := by simp; omega
      have VL := Lib.hid fun w => r_vl v.1 v.2.1 v.2.2.1 v.2.2.2 w
      rw [show (vld v.1 v.2.1 && vld v.2.2.1 v.2.2.2) = vq v from rfl] at VL
      cases hv : vq v
      · rw [hv, if_pos rfl] at hA2
        subst hA2
        rw [hv] at VL
        clear hv RB HR AP hr h1 hnil HD
        go_enter Try.func12, Try.ntmps12
        go_wp2_with (first | (go_at_call 23; (with_reducible refine (OP.out _).mono ?_); rintro e w9 ⟨rfl, rfl⟩) | (go_at_call 17; (with_reducible refine (VL.out _).mono ?_); rintro e w1 ⟨rfl, hb1⟩; have hc1 := (bcell hb1).1; have hf1 := (bcell hb1).2; have z1_0 : w.heap.size < w1.heap.size := (by have hzz := hb1.size; (try simp at hzz); omega); have K1 : Below w.heap.size w w1 := Below.trans (b := _) (by (repeat' (first | (with_reducible exact Below.refl _ _) | (with_reducible refine Below.alloc ?_ ?_ _) | (with_reducible refine Below.setCell ?_ ?_ _) | (with_reducible refine below_drewN ?_ _) | (simp; done) | omega | (simp; omega)))) (hb1.mono (by have hzz := hb1.size; (try simp at hzz); first | omega | (simp; done) | (simp; omega)))))
        refine bodyPost_ret (v := F5 (0, 0, 0, 0, 1)) (by simp [results, Try.results12, go_sem, hc1, hf1, z1_0, Nat.lt_succ_of_lt z1_0, Nat.ne_of_lt z1_0, Nat.ne_of_gt z1_0]) rfl ⟨rfl, ?_⟩; (repeat' (first | (with_reducible exact Below.refl _ _) | (with_reducible exact K1) | (with_reducible exact K1.size) | (with_reducible refine Below.alloc ?_ ?_ _) | (with_reducible refine Below.setCell ?_ ?_ _) | (with_reducible refine below_drewN ?_ _) | (simp; done) | omega | (simp; omega)))
      · rw [hv, if_neg (by decide)] at hA2
        rw [hv] at VL
        have HW2 : Hid (drf oq (xs.drop 1) v = A) := Lib.hid (by rw [HD.out]; exact hA2)
        have HNIL := Lib.hid hnil
        clear hv hA2 hr hnil
        go_enter Try.func12, Try.ntmps12
        go_wp2_with (first | (go_at_call 23; (with_reducible refine (OP.out _).mono ?_); rintro e w9 ⟨rfl, rfl⟩) | (go_at_call 17; (with_reducible refine (VL.out _).mono ?_); rintro e w1 ⟨rfl, hb1⟩; have hc1 := (bcell hb1).1; have hf1 := (bcell hb1).2; have z1_0 : w.heap.size < w1.heap.size := (by have hzz := hb1.size; (try simp at hzz); omega); have K1 : Below w.heap.size w w1 := Below.trans (b := _) (by (repeat' (first | (with_reducible exact Below.refl _ _) | (with_reducible refine Below.alloc ?_ ?_ _) | (with_reducible refine Below.setCell ?_ ?_ _) | (with_reducible refine below_drewN ?_ _) | (simp; done) | omega | (simp; omega)))) (hb1.mono (by have hzz := hb1.size; (try simp at hzz); first | omega | (simp; done) | (simp; omega))); have d0 := Rg.keep K1 hbw c0; have d1 := Rg.keep K1 hbw c1; have d2 := Rg.keep K1 hbw c2; have d3 := Rg.keep K1 hbw c3; have hbr : b < w1.heap.size := World.block_lt_of_cell? _ _ d0))
        have hS : Hid (w1.cell? ⟨w.heap.size, 0, none⟩ = some (.int .i64 0) ∧ w1.cell? ⟨w.heap.size, 1, none⟩ = some (.int .i64 0) ∧ w1.cell? ⟨w.heap.size, 2, none⟩ = some (.int .i64 0) ∧ w1.cell? ⟨w.heap.size, 3, none⟩ = some (.int .i64 0) ∧ w1.frozen? ⟨w.heap.size, 0, none⟩ = false ∧ w1.frozen? ⟨w.heap.size, 1, none⟩ = false ∧ w1.frozen? ⟨w.heap.size, 2, none⟩ = false ∧ w1.frozen? ⟨w.heap.size, 3, none⟩ = false ∧ Below w.heap.size w w1) := Lib.hid ⟨(by simp [go_sem, hc1, hf1, z1_0, Nat.lt_succ_of_lt z1_0, Nat.ne_of_lt z1_0, Nat.ne_of_gt z1_0]), (by simp [go_sem, hc1, hf1, z1_0, Nat.lt_succ_of_lt z1_0, Nat.ne_of_lt z1_0, Nat.ne_of_gt z1_0]), (by simp [go_sem, hc1, hf1, z1_0, Nat.lt_succ_of_lt z1_0, Nat.ne_of_lt z1_0, Nat.ne_of_gt z1_0]), (by simp [go_sem, hc1, hf1, z1_0, Nat.lt_succ_of_lt z1_0, Nat.ne_of_lt z1_0, Nat.ne_of_gt z1_0]), (by simp [go_sem, hc1, hf1, z1_0, Nat.lt_succ_of_lt z1_0, Nat.ne_of_lt z1_0, Nat.ne_of_gt z1_0]), (by simp [go_sem, hc1, hf1, z1_0, Nat.lt_succ_of_lt z1_0, Nat.ne_of_lt z1_0, Nat.ne_of_gt z1_0]), (by simp [go_sem, hc1, hf1, z1_0, Nat.lt_succ_of_lt z1_0, Nat.ne_of_lt z1_0, Nat.ne_of_gt z1_0]), (by simp [go_sem, hc1, hf1, z1_0, Nat.lt_succ_of_lt z1_0, Nat.ne_of_lt z1_0, Nat.ne_of_gt z1_0]), K1⟩
        obtain ⟨wt, hwt⟩ : ∃ wt : World, wt = w1 := ⟨w1, rfl⟩
        subst hwt
        have lt := z1_0
        clear VL hb1 hc1 hf1 z1_0 K1 d0 d1 d2 d3 hbr g3
        obtain ⟨r0, r1, r2, r3, fr0, fr1, fr2, fr3, K0⟩ := hS.out
        clear hS
        have hS2 : Hid ((wt.alloc (Obj.cells #[Value.int .i64 v.1, Value.int .i64 v.2.1, Value.int .i64 v.2.2.1, Value.int .i64 v.2.2.2] 25)).cell? ⟨w.heap.size, 0, none⟩ = some (.int .i64 0) ∧ (wt.alloc (Obj.cells #[Value.int .i64 v.1, Value.int .i64 v.2.1, Value.int .i64 v.2.2.1, Value.int .i64 v.2.2.2] 25)).cell? ⟨w.heap.size, 1, none⟩ = some (.int .i64 0) ∧ (wt.alloc (Obj.cells #[Value.int .i64 v.1, Value.int .i64 v.2.1, Value.int .i64 v.2.2.1, Value.int .i64 v.2.2.2] 25)).cell? ⟨w.heap.size, 2, none⟩ = some (.int .i64 0) ∧ (wt.alloc (Obj.cells #[Value.int .i64 v.1, Value.int .i64 v.2.1, Value.int .i64 v.2.2.1, Value.int .i64 v.2.2.2] 25)).cell? ⟨w.heap.size, 3, none⟩ = some (.int .i64 0) ∧ (wt.alloc (Obj.cells #[Value.int .i64 v.1, Value.int .i64 v.2.1, Value.int .i64 v.2.2.1, Value.int .i64 v.2.2.2] 25)).cell? ⟨wt.heap.size, 0, none⟩ = some (.int .i64 v.1) ∧ (wt.alloc (Obj.cells #[Value.int .i64 v.1, Value.int .i64 v.2.1, Value.int .i64 v.2.2.1, Value.int .i64 v.2.2.2] 25)).cell? ⟨wt.heap.size, 1, none⟩ = some (.int .i64 v.2.1) ∧ (wt.alloc (Obj.cells #[Value.int .i64 v.1, Value.int .i64 v.2.1, Value.int .i64 v.2.2.1, Value.int .i64 v.2.2.2] 25)).cell? ⟨wt.heap.size, 2, none⟩ = some (.int .i64 v.2.2.1) ∧ (wt.alloc (Obj.cells #[Value.int .i64 v.1, Value.int .i64 v.2.1, Value.int .i64 v.2.2.1, Value.int .i64 v.2.2.2] 25)).cell? ⟨wt.heap.size, 3, none⟩ = some (.int .i64 v.2.2.2) ∧ (wt.alloc (Obj.cells #[Value.int .i64 v.1, Value.int .i64 v.2.1, Value.int .i64 v.2.2.1, Value.int .i64 v.2.2.2] 25)).frozen? ⟨w.heap.size, 0, none⟩ = false ∧ (wt.alloc (Obj.cells #[Value.int .i64 v.1, Value.int .i64 v.2.1, Value.int .i64 v.2.2.1, Value.int .i64 v.2.2.2] 25)).frozen? ⟨w.heap.size, 1, none⟩ = false ∧ (wt.alloc (Obj.cells #[Value.int .i64 v.1, Value.int .i64 v.2.1, Value.int .i64 v.2.2.1, Value.int .i64 v.2.2.2] 25)).frozen? ⟨w.heap.size, 2, none⟩ = false ∧ (wt.alloc (Obj.cells #[Value.int .i64 v.1, Value.int .i64 v.2.1, Value.int .i64 v.2.2.1, Value.int .i64 v.2.2.2] 25)).frozen? ⟨w.heap.size, 3, none⟩ = false ∧ (wt.alloc (Obj.cells #[Value.int .i64 v.1, Value.int .i64 v.2.1, Value.int .i64 v.2.2.1, Value.int .i64 v.2.2.2] 25)).frozen? ⟨wt.heap.size, 0, none⟩ = false ∧ (wt.alloc (Obj.cells #[Value.int .i64 v.1, Value.int .i64 v.2.1, Value.int .i64 v.2.2.1, Value.int .i64 v.2.2.2] 25)).frozen? ⟨wt.heap.size, 1, none⟩ = false ∧ (wt.alloc (Obj.cells #[Value.int .i64 v.1, Value.int .i64 v.2.1, Value.int .i64 v.2.2.1, Value.int .i64 v.2.2.2] 25)).frozen? ⟨wt.heap.size, 2, none⟩ = false ∧ (wt.alloc (Obj.cells #[Value.int .i64 v.1, Value.int .i64 v.2.1, Value.int .i64 v.2.2.1, Value.int .i64 v.2.2.2] 25)).frozen? ⟨wt.heap.size, 3, none⟩ = false ∧ Below w.heap.size w (wt.alloc (Obj.cells #[Value.int .i64 v.1, Value.int .i64 v.2.1, Value.int .i64 v.2.2.1, Value.int .i64 v.2.2.2] 25))) := Lib.hid ⟨Rg.keep ((Below.refl wt.heap.size wt).alloc (Nat.le_refl _) (Obj.cells #[Value.int .i64 v.1, Value.int .i64 v.2.1, Value.int .i64 v.2.2.1, Value.int .i64 v.2.2.2] 25)) lt r0, Rg.keep ((Below.refl wt.heap.size wt).alloc (Nat.le_refl _) (Obj.cells #[Value.int .i64 v.1, Value.int .i64 v.2.1, Value.int .i64 v.2.2.1, Value.int .i64 v.2.2.2] 25)) lt r1, Rg.keep ((Below.refl wt.heap.size wt).alloc (Nat.le_refl _) (Obj.cells #[Value.int .i64 v.1, Value.int .i64 v.2.1, Value.int .i64 v.2.2.1, Value.int .i64 v.2.2.2] 25)) lt r2, Rg.keep ((Below.refl wt.heap.size wt).alloc (Nat.le_refl _) (Obj.cells #[Value.int .i64 v.1, Value.int .i64 v.2.1, Value.int .i64 v.2.2.1, Value.int .i64 v.2.2.2] 25)) lt r3, by go_cell, by go_cell, by go_cell, by go_cell, Rg.keepF ((Below.refl wt.heap.size wt).alloc (Nat.le_refl _) (Obj.cells #[Value.int .i64 v.1, Value.int .i64 v.2.1, Value.int .i64 v.2.2.1, Value.int .i64 v.2.2.2] 25)) lt fr0, Rg.keepF ((Below.refl wt.heap.size wt).alloc (Nat.le_refl _) (Obj.cells #[Value.int .i64 v.1, Value.int .i64 v.2.1, Value.int .i64 v.2.2.1, Value.int .i64 v.2.2.2] 25)) lt fr1, Rg.keepF ((Below.refl wt.heap.size wt).alloc (Nat.le_refl _) (Obj.cells #[Value.int .i64 v.1, Value.int .i64 v.2.1, Value.int .i64 v.2.2.1, Value.int .i64 v.2.2.2] 25)) lt fr2, Rg.keepF ((Below.refl wt.heap.size wt).alloc (Nat.le_refl _) (Obj.cells #[Value.int .i64 v.1, Value.int .i64 v.2.1, Value.int .i64 v.2.2.1, Value.int .i64 v.2.2.2] 25)) lt fr3, by simp only [frozen?_alloc_cells]; exact Rg.notFrozen (Nat.le_refl _), by simp only [frozen?_alloc_cells]; exact Rg.notFrozen (Nat.le_refl _), by simp only [frozen?_alloc_cells]; exact Rg.notFrozen (Nat.le_refl _), by simp only [frozen?_alloc_cells]; exact Rg.notFrozen (Nat.le_refl _), K0.alloc K0.size _⟩
        go_loopw [8] (fun i wr => i = .int .i64 1 ∧ Hid (wr.cell? ⟨w.heap.size, 0, none⟩ = some (.int .i64 0) ∧ wr.cell? ⟨w.heap.size, 1, none⟩ = some (.int .i64 0) ∧ wr.cell? ⟨w.heap.size, 2, none⟩ = some (.int .i64 0) ∧ wr.cell? ⟨w.heap.size, 3, none⟩ = some (.int .i64 0) ∧ wr.cell? ⟨wt.heap.size, 0, none⟩ = some (.int .i64 v.1) ∧ wr.cell? ⟨wt.heap.size, 1, none⟩ = some (.int .i64 v.2.1) ∧ wr.cell? ⟨wt.heap.size, 2, none⟩ = some (.int .i64 v.2.2.1) ∧ wr.cell? ⟨wt.heap.size, 3, none⟩ = some (.int .i64 v.2.2.2) ∧ wr.frozen? ⟨w.heap.size, 0, none⟩ = false ∧ wr.frozen? ⟨w.heap.size, 1, none⟩ = false ∧ wr.frozen? ⟨w.heap.size, 2, none⟩ = false ∧ wr.frozen? ⟨w.heap.size, 3, none⟩ = false ∧ wr.frozen? ⟨wt.heap.size, 0, none⟩ = false ∧ wr.frozen? ⟨wt.heap.size, 1, none⟩ = false ∧ wr.frozen? ⟨wt.heap.size, 2, none⟩ = false ∧ wr.frozen? ⟨wt.heap.size, 3, none⟩ = false ∧ Below w.heap.size w wr)) (fun i _ => 0)
        case atStart => exact ⟨rfl, hS2⟩
        case round =>
          obtain ⟨rfl, hT⟩ := hrel
          clear hS2 r0 r1 r2 r3 fr0 fr1 fr2 fr3 K0 c0 c1 c2 c3 gn gn2
          obtain ⟨r0, r1, r2, r3, T0, T1, T2, T3, fr0, fr1, fr2, fr3, fT0, fT1, fT2, fT3, KB⟩ := hT.out
          have lr : w.heap.size < wr.heap.size := World.block_lt_of_cell? _ _ r0
          have lT : wt.heap.size < wr.heap.size := World.block_lt_of_cell? _ _ T0
          have hAA : A = (v.1, v.2.1, v.2.2.1, v.2.2.2, 0) := by
            rw [← HW2.out, HD.out, HNIL.out]; rfl
          subst hAA
          have g1 : decide ((1 : Int) < n) = false := by simp; omega
          clear HW2 AP
          go_wp2
          refine bodyPost_ret (v := F5 (v.1, v.2.1, v.2.2.1, v.2.2.2, 0)) (by simp [results, Try.results12, go_sem, r0, r1, r2, r3, fr0, fr1, fr2, fr3, T0, T1, T2, T3, lr, lT]) rfl ⟨rfl, ?_⟩; (repeat' (first | (with_reducible exact Below.refl _ _) | (with_reducible exact KB) | (with_reducible exact KB.size) | (with_reducible refine Below.alloc ?_ ?_ _) | (with_reducible refine Below.setCell ?_ ?_ _) | (with_reducible refine below_drewN ?_ _) | (simp; done) | omega | (simp; omega)))
    · have g3 : ((n : Int) == 1) = false := by simp; omega
      have HW2 : Hid (drf oq (xs.drop 1) v = A) := Lib.hid (by
        rw [HD.out, ← hA2]
        cases hv : vq v
        · rw [if_pos rfl]
          cases r with
          | nil => simp at hr; omega
          | cons e r' =>
            have h := dav2_bad oq e hv
            show (if (dav2 oq v e).2.2.2.2 = 0 then _ else _) = _
            rw [h, if_neg (by decide)]
        · rw [if_neg (by decide)])
      clear hA2 hr h1
      go_enter Try.func12, Try.ntmps12
      go_wp2_with (first | (go_at_call 23; (with_reducible refine (OP.out _).mono ?_); rintro e w9 ⟨rfl, rfl⟩))
      have hS2 : Hid (((w.alloc (Obj.cells #[Value.int .i64 0, Value.int .i64 0, Value.int .i64 0, Value.int .i64 0] 25)).alloc (Obj.cells #[Value.int .i64 v.1, Value.int .i64 v.2.1, Value.int .i64 v.2.2.1, Value.int .i64 v.2.2.2] 25)).cell? ⟨w.heap.size, 0, none⟩ = some (.int .i64 0) ∧ ((w.alloc (Obj.cells #[Value.int .i64 0, Value.int .i64 0, Value.int .i64 0, Value.int .i64 0] 25)).alloc (Obj.cells #[Value.int .i64 v.1, Value.int .i64 v.2.1, Value.int .i64 v.2.2.1, Value.int .i64 v.2.2.2] 25)).cell? ⟨w.heap.size, 1, none⟩ = some (.int .i64 0) ∧ ((w.alloc (Obj.cells #[Value.int .i64 0, Value.int .i64 0, Value.int .i64 0, Value.int .i64 0] 25)).alloc (Obj.cells #[Value.int .i64 v.1, Value.int .i64 v.2.1, Value.int .i64 v.2.2.1, Value.int .i64 v.2.2.2] 25)).cell? ⟨w.heap.size, 2, none⟩ = some (.int .i64 0) ∧ ((w.alloc (Obj.cells #[Value.int .i64 0, Value.int .i64 0, Value.int .i64 0, Value.int .i64 0] 25)).alloc (Obj.cells #[Value.int .i64 v.1, Value.int .i64 v.2.1, Value.int .i64 v.2.2.1, Value.int .i64 v.2.2.2] 25)).cell? ⟨w.heap.size, 3, none⟩ = some (.int .i64 0) ∧ ((w.alloc (Obj.cells #[Value.int .i64 0, Value.int .i64 0, Value.int .i64 0, Value.int .i64 0] 25)).alloc (Obj.cells #[Value.int .i64 v.1, Value.int .i64 v.2.1, Value.int .i64 v.2.2.1, Value.int .i64 v.2.2.2] 25)).cell? ⟨w.heap.size + 1, 0, none⟩ = some (.int .i64 v.1) ∧ ((w.alloc (Obj.cells #[Value.int .i64 0, Value.int .i64 0, Value.int .i64 0, Value.int .i64 0] 25)).alloc (Obj.cells #[Value.int .i64 v.1, Value.int .i64 v.2.1, Value.int .i64 v.2.2.1, Value.int .i64 v.2.2.2] 25)).cell? ⟨w.heap.size + 1, 1, none⟩ = some (.int .i64 v.2.1) ∧ ((w.alloc (Obj.cells #[Value.int .i64 0, Value.int .i64 0, Value.int .i64 0, Value.int .i64 0] 25)).alloc (Obj.cells #[Value.int .i64 v.1, Value.int .i64 v.2.1, Value.int .i64 v.2.2.1, Value.int .i64 v.2.2.2] 25)).cell? ⟨w.heap.size + 1, 2, none⟩ = some (.int .i64 v.2.2.1) ∧ ((w.alloc (Obj.cells #[Value.int .i64 0, Value.int .i64 0, Value.int .i64 0, Value.int .i64 0] 25)).alloc (Obj.cells #[Value.int .i64 v.1, Value.int .i64 v.2.1, Value.int .i64 v.2.2.1, Value.int .i64 v.2.2.2] 25)).cell? ⟨w.heap.size + 1, 3, none⟩ = some (.int .i64 v.2.2.2) ∧ ((w.alloc (Obj.cells #[Value.int .i64 0, Value.int .i64 0, Value.int .i64 0, Value.int .i64 0] 25)).alloc (Obj.cells #[Value.int .i64 v.1, Value.int .i64 v.2.1, Value.int .i64 v.2.2.1, Value.int .i64 v.2.2.2] 25)).frozen? ⟨w.heap.size, 0, none⟩ = false ∧ ((w.alloc (Obj.cells #[Value.int .i64 0, Value.int .i64 0, Value.int .i64 0, Value.int .i64 0] 25)).alloc (Obj.cells #[Value.int .i64 v.1, Value.int .i64 v.2.1, Value.int .i64 v.2.2.1, Value.int .i64 v.2.2.2] 25)).frozen? ⟨w.heap.size, 1, none⟩ = false ∧ ((w.alloc (Obj.cells #[Value.int .i64 0, Value.int .i64 0, Value.int .i64 0, Value.int .i64 0] 25)).alloc (Obj.cells #[Value.int .i64 v.1, Value.int .i64 v.2.1, Value.int .i64 v.2.2.1, Value.int .i64 v.2.2.2] 25)).frozen? ⟨w.heap.size, 2, none⟩ = false ∧ ((w.alloc (Obj.cells #[Value.int .i64 0, Value.int .i64 0, Value.int .i64 0, Value.int .i64 0] 25)).alloc (Obj.cells #[Value.int .i64 v.1, Value.int .i64 v.2.1, Value.int .i64 v.2.2.1, Value.int .i64 v.2.2.2] 25)).frozen? ⟨w.heap.size, 3, none⟩ = false ∧ ((w.alloc (Obj.cells #[Value.int .i64 0, Value.int .i64 0, Value.int .i64 0, Value.int .i64 0] 25)).alloc (Obj.cells #[Value.int .i64 v.1, Value.int .i64 v.2.1, Value.int .i64 v.2.2.1, Value.int .i64 v.2.2.2] 25)).frozen? ⟨w.heap.size + 1, 0, none⟩ = false ∧ ((w.alloc (Obj.cells #[Value.int .i64 0, Value.int .i64 0, Value.int .i64 0, Value.int .i64 0] 25)).alloc (Obj.cells #[Value.int .i64 v.1, Value.int .i64 v.2.1, Value.int .i64 v.2.2.1, Value.int .i64 v.2.2.2] 25)).frozen? ⟨w.heap.size + 1, 1, none⟩ = false ∧ ((w.alloc (Obj.cells #[Value.int .i64 0, Value.int .i64 0, Value.int .i64 0, Value.int .i64 0] 25)).alloc (Obj.cells #[Value.int .i64 v.1, Value.int .i64 v.2.1, Value.int .i64 v.2.2.1, Value.int .i64 v.2.2.2] 25)).frozen? ⟨w.heap.size + 1, 2, none⟩ = false ∧ ((w.alloc (Obj.cells #[Value.int .i64 0, Value.int .i64 0, Value.int .i64 0, Value.int .i64 0] 25)).alloc (Obj.cells #[Value.int .i64 v.1, Value.int .i64 v.2.1, Value.int .i64 v.2.2.1, Value.int .i64 v.2.2.2] 25)).frozen? ⟨w.heap.size + 1, 3, none⟩ = false ∧ Below w.heap.size w ((w.alloc (Obj.cells #[Value.int .i64 0, Value.int .i64 0, Value.int .i64 0, Value.int .i64 0] 25)).alloc (Obj.cells #[Value.int .i64 v.1, Value.int .i64 v.2.1, Value.int .i64 v.2.2.1, Value.int .i64 v.2.2.2] 25))) := Lib.hid ⟨by go_cell, by go_cell, by go_cell, by go_cell, by go_cell, by go_cell, by go_cell, by go_cell, (by simp only [frozen?_alloc_cells]; exact Rg.notFrozen (Nat.le_refl _)), (by simp only [frozen?_alloc_cells]; exact Rg.notFrozen (Nat.le_refl _)), (by simp only [frozen?_alloc_cells]; exact Rg.notFrozen (Nat.le_refl _)), (by simp only [frozen?_alloc_cells]; exact Rg.notFrozen (Nat.le_refl _)), (by simp only [frozen?_alloc_cells]; exact Rg.notFrozen (by simp)), (by simp only [frozen?_alloc_cells]; exact Rg.notFrozen (by simp)), (by simp only [frozen?_alloc_cells]; exact Rg.notFrozen (by simp)), (by simp only [frozen?_alloc_cells]; exact Rg.notFrozen (by simp)), ((Below.refl _ _).alloc (Nat.le_refl _) _).alloc (by simp) _⟩
      go_loopw [8] (fun i wr => ∃ (j : Nat) (a : Q4), i = .int .i64 j ∧ 1 ≤ j ∧ j ≤ n ∧ Hid (wr.cell? ⟨w.heap.size, 0, none⟩ = some (.int .i64 0) ∧ wr.cell? ⟨w.heap.size, 1, none⟩ = some (.int .i64 0) ∧ wr.cell? ⟨w.heap.size, 2, none⟩ = some (.int .i64 0) ∧ wr.cell? ⟨w.heap.size, 3, none⟩ = some (.int .i64 0) ∧ wr.cell? ⟨w.heap.size + 1, 0, none⟩ = some (.int .i64 a.1) ∧ wr.cell? ⟨w.heap.size + 1, 1, none⟩ = some (.int .i64 a.2.1) ∧ wr.cell? ⟨w.heap.size + 1, 2, none⟩ = some (.int .i64 a.2.2.1) ∧ wr.cell? ⟨w.heap.size + 1, 3, none⟩ = some (.int .i64 a.2.2.2) ∧ wr.frozen? ⟨w.heap.size, 0, none⟩ = false ∧ wr.frozen? ⟨w.heap.size, 1, none⟩ = false ∧ wr.frozen? ⟨w.heap.size, 2, none⟩ = false ∧ wr.frozen? ⟨w.heap.size, 3, none⟩ = false ∧ wr.frozen? ⟨w.heap.size + 1, 0, none⟩ = false ∧ wr.frozen? ⟨w.heap.size + 1, 1, none⟩ = false ∧ wr.frozen? ⟨w.heap.size + 1, 2, none⟩ = false ∧ wr.frozen? ⟨w.heap.size + 1, 3, none⟩ = false ∧ Below w.heap.size w wr) ∧ Hid (drf oq (xs.drop j) a = A)) (fun i _ => n - (intOf i).toNat)
      case atStart => exact ⟨1, v, rfl, Nat.le_refl _, hx1, hS2, HW2⟩
      case round =>
        obtain ⟨j, a, rfl, hj1, hj, hT, hF⟩ := hrel
        clear hS2 c0 c1 c2 c3 gn gn2
        obtain ⟨r0, r1, r2, r3, T0, T1, T2, T3, fr0, fr1, fr2, fr3, fT0, fT1, fT2, fT3, KB⟩ := hT.out
        have lr : w.heap.size < wr.heap.size := World.block_lt_of_cell? _ _ r0
        have lT : w.heap.size + 1 < wr.heap.size := World.block_lt_of_cell? _ _ T0
        have jj : (0 : Int) ≤ j := by omega
        by_cases hlt : j < n
        · have j2 : (j : Int) < n := by omega
          obtain ⟨b2, o2, hQ2, c0, c1, c2, c3⟩ := RA.out j (by rw [HR.out]; exact hlt)
          cases hQ2
          replace c0 := Rg.keep KB hbw c0
          replace c1 := Rg.keep KB hbw c1
          replace c2 := Rg.keep KB hbw c2
          replace c3 := Rg.keep KB hbw c3
          have hbr : b < wr.heap.size := World.block_lt_of_cell? _ _ c0
          have hst := drf_step (op := oq) (xs := xs) (i := j) (by rw [HR.out]; exact hlt) a
          have hbe := RB.out j (by rw [HR.out]; exact hlt)
          obtain ⟨e, he⟩ : ∃ e, xs.getD j q0 = e := ⟨_, rfl⟩
          rw [he] at c0 c1 c2 c3 hst hbe
          have AC := Lib.hid fun w => AP.out a e w hbe
          obtain ⟨q, hq⟩ : ∃ q, dav2 oq a e = q := ⟨_, rfl⟩
          rw [hq] at hst
          rw [show dav oq a.1 a.2.1 a.2.2.1 a.2.2.2 e.1 e.2.1 e.2.2.1 e.2.2.2 = q from hq] at AC
          obtain ⟨x, y, z, s, f⟩ := q
          clear he hbe hq
          dsimp only at hst
          have hz9 : wr.cell? ⟨w.heap.size, 0, none⟩ = some (.int .i64 0) ∧ wr.cell? ⟨w.heap.size, 1, none⟩ = some (.int .i64 0) ∧ wr.cell? ⟨w.heap.size, 2, none⟩ = some (.int .i64 0) ∧ wr.cell? ⟨w.heap.size, 3, none⟩ = some (.int .i64 0) ∧ wr.cell? ⟨w.heap.size + 1, 0, none⟩ = some (.int .i64 a.1) ∧ wr.cell? ⟨w.heap.size + 1, 1, none⟩ = some (.int .i64 a.2.1) ∧ wr.cell? ⟨w.heap.size + 1, 2, none⟩ = some (.int .i64 a.2.2.1) ∧ wr.cell? ⟨w.heap.size + 1, 3, none⟩ = some (.int .i64 a.2.2.2) ∧ wr.cell? ⟨b, o + j * 4, none⟩ = some (.int .i64 e.1) ∧ wr.cell? ⟨b, o + j * 4 + 1, none⟩ = some (.int .i64 e.2.1) ∧ wr.cell? ⟨b, o + j * 4 + 2, none⟩ = some (.int .i64 e.2.2.1) ∧ wr.cell? ⟨b, o + j * 4 + 3, none⟩ = some (.int .i64 e.2.2.2) ∧ wr.frozen? ⟨w.heap.size, 0, none⟩ = false ∧ wr.frozen? ⟨w.heap.size, 1, none⟩ = false ∧ wr.frozen? ⟨w.heap.size, 2, none⟩ = false ∧ wr.frozen? ⟨w.heap.size, 3, none⟩ = false ∧ wr.frozen? ⟨w.heap.size + 1, 0, none⟩ = false ∧ wr.frozen? ⟨w.heap.size + 1, 1, none⟩ = false ∧ wr.frozen? ⟨w.heap.size + 1, 2, none⟩ = false ∧ wr.frozen? ⟨w.heap.size + 1, 3, none⟩ = false ∧ Below w.heap.size w wr := ⟨r0, r1, r2, r3, T0, T1, T2, T3, c0, c1, c2, c3, fr0, fr1, fr2, fr3, fT0, fT1, fT2, fT3, KB⟩
          clear r0 r1 r2 r3 T0 T1 T2 T3 c0 c1 c2 c3 fr0 fr1 fr2 fr3 fT0 fT1 fT2 fT3 KB
          go_wp2_with fail
          have HS : Hid (∀ u u' : World, (u.cell? ⟨w.heap.size, 0, none⟩ = some (.int .i64 0) ∧ u.cell? ⟨w.heap.size, 1, none⟩ = some (.int .i64 0) ∧ u.cell? ⟨w.heap.size, 2, none⟩ = some (.int .i64 0) ∧ u.cell? ⟨w.heap.size, 3, none⟩ = some (.int .i64 0) ∧ u.cell? ⟨w.heap.size + 1, 0, none⟩ = some (.int .i64 a.1) ∧ u.cell? ⟨w.heap.size + 1, 1, none⟩ = some (.int .i64 a.2.1) ∧ u.cell? ⟨w.heap.size + 1, 2, none⟩ = some (.int .i64 a.2.2.1) ∧ u.cell? ⟨w.heap.size + 1, 3, none⟩ = some (.int .i64 a.2.2.2) ∧ u.cell? ⟨b, o + j * 4, none⟩ = some (.int .i64 e.1) ∧ u.cell? ⟨b, o + j * 4 + 1, none⟩ = some (.int .i64 e.2.1) ∧ u.cell? ⟨b, o + j * 4 + 2, none⟩ = some (.int .i64 e.2.2.1) ∧ u.cell? ⟨b, o + j * 4 + 3, none⟩ = some (.int .i64 e.2.2.2) ∧ u.frozen? ⟨w.heap.size, 0, none⟩ = false ∧ u.frozen? ⟨w.heap.size, 1, none⟩ = false ∧ u.frozen? ⟨w.heap.size, 2, none⟩ = false ∧ u.frozen? ⟨w.heap.size, 3, none⟩ = false ∧ u.frozen? ⟨w.heap.size + 1, 0, none⟩ = false ∧ u.frozen? ⟨w.heap.size + 1, 1, none⟩ = false ∧ u.frozen? ⟨w.heap.size + 1, 2, none⟩ = false ∧ u.frozen? ⟨w.heap.size + 1, 3, none⟩ = false ∧ Below w.heap.size w u) → Below u.heap.size u u' → (u'.cell? ⟨w.heap.size, 0, none⟩ = some (.int .i64 0) ∧ u'.cell? ⟨w.heap.size, 1, none⟩ = some (.int .i64 0) ∧ u'.cell? ⟨w.heap.size, 2, none⟩ = some (.int .i64 0) ∧ u'.cell? ⟨w.heap.size, 3, none⟩ = some (.int .i64 0) ∧ u'.cell? ⟨w.heap.size + 1, 0, none⟩ = some (.int .i64 a.1) ∧ u'.cell? ⟨w.heap.size + 1, 1, none⟩ = some (.int .i64 a.2.1) ∧ u'.cell? ⟨w.heap.size + 1, 2, none⟩ = some (.int .i64 a.2.2.1) ∧ u'.cell? ⟨w.heap.size + 1, 3, none⟩ = some (.int .i64 a.2.2.2) ∧ u'.cell? ⟨b, o + j * 4, none⟩ = some (.int .i64 e.1) ∧ u'.cell? ⟨b, o + j * 4 + 1, none⟩ = some (.int .i64 e.2.1) ∧ u'.cell? ⟨b, o + j * 4 + 2, none⟩ = some (.int .i64 e.2.2.1) ∧ u'.cell? ⟨b, o + j * 4 + 3, none⟩ = some (.int .i64 e.2.2.2) ∧ u'.frozen? ⟨w.heap.size, 0, none⟩ = false ∧ u'.frozen? ⟨w.heap.size, 1, none⟩ = false ∧ u'.frozen? ⟨w.heap.size, 2, none⟩ = false ∧ u'.frozen? ⟨w.heap.size, 3, none⟩ = false ∧ u'.frozen? ⟨w.heap.size + 1, 0, none⟩ = false ∧ u'.frozen? ⟨w.heap.size + 1, 1, none⟩ = false ∧ u'.frozen? ⟨w.heap.size + 1, 2, none⟩ = false ∧ u'.frozen? ⟨w.heap.size + 1, 3, none⟩ = false ∧ Below w.heap.size w u')) := Lib.hid (fun u u' h hb => ⟨Rg.keep hb (World.block_lt_of_cell? _ _ h.1) h.1, Rg.keep hb (World.block_lt_of_cell? _ _ h.2.1) h.2.1, Rg.keep hb (World.block_lt_of_cell? _ _ h.2.2.1) h.2.2.1, Rg.keep hb (World.block_lt_of_cell? _ _ h.2.2.2.1) h.2.2.2.1, Rg.keep hb (World.block_lt_of_cell? _ _ h.2.2.2.2.1) h.2.2.2.2.1, Rg.keep hb (World.block_lt_of_cell? _ _ h.2.2.2.2.2.1) h.2.2.2.2.2.1, Rg.keep hb (World.block_lt_of_cell? _ _ h.2.2.2.2.2.2.1) h.2.2.2.2.2.2.1, Rg.keep hb (World.block_lt_of_cell? _ _ h.2.2.2.2.2.2.2.1) h.2.2.2.2.2.2.2.1, Rg.keep hb (World.block_lt_of_cell? _ _ h.2.2.2.2.2.2.2.2.1) h.2.2.2.2.2.2.2.2.1, Rg.keep hb (World.block_lt_of_cell? _ _ h.2.2.2.2.2.2.2.2.2.1) h.2.2.2.2.2.2.2.2.2.1, Rg.keep hb (World.block_lt_of_cell? _ _ h.2.2.2.2.2.2.2.2.2.2.1) h.2.2.2.2.2.2.2.2.2.2.1, Rg.keep hb (World.block_lt_of_cell? _ _ h.2.2.2.2.2.2.2.2.2.2.2.1) h.2.2.2.2.2.2.2.2.2.2.2.1, Rg.keepF hb (World.block_lt_of_cell? _ _ h.1) h.2.2.2.2.2.2.2.2.2.2.2.2.1, Rg.keepF hb (World.block_lt_of_cell? _ _ h.1) h.2.2.2.2.2.2.2.2.2.2.2.2.2.1, Rg.keepF hb (World.block_lt_of_cell? _ _ h.1) h.2.2.2.2.2.2.2.2.2.2.2.2.2.2.1, Rg.keepF hb (World.block_lt_of_cell? _ _ h.1) h.2.2.2.2.2.2.2.2.2.2.2.2.2.2.2.1, Rg.keepF hb (World.block_lt_of_cell? _ _ h.2.2.2.2.1) h.2.2.2.2.2.2.2.2.2.2.2.2.2.2.2.2.1, Rg.keepF hb (World.block_lt_of_cell? _ _ h.2.2.2.2.1) h.2.2.2.2.2.2.2.2.2.2.2.2.2.2.2.2.2.1, Rg.keepF hb (World.block_lt_of_cell? _ _ h.2.2.2.2.1) h.2.2.2.2.2.2.2.2.2.2.2.2.2.2.2.2.2.2.1, Rg.keepF hb (World.block_lt_of_cell? _ _ h.2.2.2.2.1) h.2.2.2.2.2.2.2.2.2.2.2.2.2.2.2.2.2.2.2.1, h.2.2.2.2.2.2.2.2.2.2.2.2.2.2.2.2.2.2.2.2.trans (hb.mono h.2.2.2.2.2.2.2.2.2.2.2.2.2.2.2.2.2.2.2.2.size)⟩)
          refine Rk.begin (S := fun wS => wS.cell? ⟨w.heap.size, 0, none⟩ = some (.int .i64 0) ∧ wS.cell? ⟨w.heap.size, 1, none⟩ = some (.int .i64 0) ∧ wS.cell? ⟨w.heap.size, 2, none⟩ = some (.int .i64 0) ∧ wS.cell? ⟨w.heap.size, 3, none⟩ = some (.int .i64 0) ∧ wS.cell? ⟨w.heap.size + 1, 0, none⟩ = some (.int .i64 a.1) ∧ wS.cell? ⟨w.heap.size + 1, 1, none⟩ = some (.int .i64 a.2.1) ∧ wS.cell? ⟨w.heap.size + 1, 2, none⟩ = some (.int .i64 a.2.2.1) ∧ wS.cell? ⟨w.heap.size + 1, 3, none⟩ = some (.int .i64 a.2.2.2) ∧ wS.cell? ⟨b, o + j * 4, none⟩ = some (.int .i64 e.1) ∧ wS.cell? ⟨b, o + j * 4 + 1, none⟩ = some (.int .i64 e.2.1) ∧ wS.cell? ⟨b, o + j * 4 + 2, none⟩ = some (.int .i64 e.2.2.1) ∧ wS.cell? ⟨b, o + j * 4 + 3, none⟩ = some (.int .i64 e.2.2.2) ∧ wS.frozen? ⟨w.heap.size, 0, none⟩ = false ∧ wS.frozen? ⟨w.heap.size, 1, none⟩ = false ∧ wS.frozen? ⟨w.heap.size, 2, none⟩ = false ∧ wS.frozen? ⟨w.heap.size, 3, none⟩ = false ∧ wS.frozen? ⟨w.heap.size + 1, 0, none⟩ = false ∧ wS.frozen? ⟨w.heap.size + 1, 1, none⟩ = false ∧ wS.frozen? ⟨w.heap.size + 1, 2, none⟩ = false ∧ wS.frozen? ⟨w.heap.size + 1, 3, none⟩ = false ∧ Below w.heap.size w wS) 11 (by kernel_rfl) (HS.out _ _ hz9 (Below.drew (Below.refl _ _))) (fun hHeld => ?_)
          refine Rk.takeP (i := 0) (v := ?_) rfl (by kernel_rfl) (by kernel_rfl) (by kernel_rfl) (by kernel_rfl) (fun _ _ _ h => h) (Or.inl ⟨by kernel_rfl, ?_⟩) (by assumption) ?_
          rotate_left
          · ((intro w hSw; go_simp) <;> with_reducible rfl)
          try simp only [Act.put, List.setIfInBounds_toArray, List.set_cons_zero, List.set_cons_succ]
          refine Rk.take [11] (i := 1) (v := ?_) rfl (by kernel_rfl) (by kernel_rfl) (by kernel_rfl) (by kernel_rfl) (by kernel_rfl) (fun _ _ _ h => h) (Or.inl ⟨by kernel_rfl, ?_⟩) (by assumption) ?_
          rotate_left
          · ((intro w hSw; (try dsimp only at hSw); go_simp) <;> with_reducible rfl)
          try simp only [Act.put, List.setIfInBounds_toArray, List.set_cons_zero, List.set_cons_succ]
          refine Rk.takeP (i := 2) (v := ?_) rfl (by kernel_rfl) (by kernel_rfl) (by kernel_rfl) (by kernel_rfl) (fun _ _ _ h => h) (Or.inl ⟨by kernel_rfl, ?_⟩) (by assumption) ?_
          rotate_left
          · ((intro w hSw; go_simp) <;> with_reducible rfl)
          try simp only [Act.put, List.setIfInBounds_toArray, List.set_cons_zero, List.set_cons_succ]
          refine Rk.takeP (i := 3) (v := ?_) rfl (by kernel_rfl) (by kernel_rfl) (by kernel_rfl) (by kernel_rfl) (fun _ _ _ h => h) (Or.inl ⟨by kernel_rfl, ?_⟩) (by assumption) ?_
          rotate_left
          · ((intro w hSw; go_simp) <;> with_reducible rfl)
          try simp only [Act.put, List.setIfInBounds_toArray, List.set_cons_zero, List.set_cons_succ]
          refine Rk.takeP (i := 4) (v := ?_) rfl (by kernel_rfl) (by kernel_rfl) (by kernel_rfl) (by kernel_rfl) (fun _ _ _ h => h) (Or.inl ⟨by kernel_rfl, ?_⟩) (by assumption) ?_
          rotate_left
          · ((intro w hSw; go_simp) <;> with_reducible rfl)
          try simp only [Act.put, List.setIfInBounds_toArray, List.set_cons_zero, List.set_cons_succ]
          refine Rk.take [11] (i := 5) (v := ?_) rfl (by kernel_rfl) (by kernel_rfl) (by kernel_rfl) (by kernel_rfl) (by kernel_rfl) (fun _ _ _ h => h) (Or.inl ⟨by kernel_rfl, ?_⟩) (by assumption) ?_
          rotate_left
          · ((intro w hSw; (try dsimp only at hSw); go_simp) <;> with_reducible rfl)
          try simp only [Act.put, List.setIfInBounds_toArray, List.set_cons_zero, List.set_cons_succ]
          refine Rk.two (i := 6) (j := 10) (by kernel_rfl) rfl rfl (fun KK hK => ?_) (fun KK hK => ?_)
          · rw [if_pos (by kernel_rfl)]
            go_simp
            ((with_reducible refine (AC.out _).mono ?_); rintro e uw6 ⟨rfl, hb⟩)
            have hNew := HS.out _ _ hHeld hb
            have hs_uw6 : wr.heap.size ≤ uw6.heap.size := by have hzz := hb.size; (try simp at hzz); omega
            first | (refine hK.out _ _ (fun _ => hNew) (fun _ => ?_)) | (refine hK.out _ _ hNew (fun _ => ?_)) | (go_wp2_with fail; refine hK.out _ _ hNew (fun _ => ?_))
            replace hHeld := hNew
            clear hNew hb
            clear hK KK
            refine Rk.takeP (i := 7) (v := ?_) rfl (by kernel_rfl) (by kernel_rfl) (by kernel_rfl) (by kernel_rfl) (fun _ _ _ h => h) (Or.inl ⟨by kernel_rfl, ?_⟩) (by assumption) ?_
            rotate_left
            · ((intro w hSw; go_simp) <;> with_reducible rfl)
            try simp only [Act.put, List.setIfInBounds_toArray, List.set_cons_zero, List.set_cons_succ]
            refine Rk.takeP (i := 8) (v := ?_) rfl (by kernel_rfl) (by kernel_rfl) (by kernel_rfl) (by kernel_rfl) (fun _ _ _ h => h) (Or.inl ⟨by kernel_rfl, ?_⟩) (by assumption) ?_
            rotate_left
            · ((intro w hSw; go_simp) <;> with_reducible rfl)
            try simp only [Act.put, List.setIfInBounds_toArray, List.set_cons_zero, List.set_cons_succ]
            refine Rk.takeP (i := 9) (v := ?_) rfl (by kernel_rfl) (by kernel_rfl) (by kernel_rfl) (by kernel_rfl) (fun _ _ _ h => h) (Or.inl ⟨by kernel_rfl, ?_⟩) (by assumption) ?_
            rotate_left
            · ((intro w hSw; go_simp) <;> with_reducible rfl)
            try simp only [Act.put, List.setIfInBounds_toArray, List.set_cons_zero, List.set_cons_succ]
            refine Rk.one (i := 10) (by kernel_rfl) rfl (fun KK hK => ?_)
            rw [if_pos (by kernel_rfl)]
            go_simp
            have hNew := HS.out _ _ hHeld ((Below.refl _ _).alloc (Nat.le_refl _) (Obj.cells #[Value.int .i64 0, Value.int .i64 0, Value.int .i64 0, Value.int .i64 0] 25))
            refine hK.out _ _ hNew (fun _ => ?_)
            replace hHeld := hNew
            clear hNew
            clear hK KK
            refine Rk.tail [11, 12] [_, _] (by kernel_rfl) (by kernel_rfl) rfl (by decide) ?_
            obtain ⟨r0, r1, r2, r3, T0, T1, T2, T3, c0, c1, c2, c3, fr0, fr1, fr2, fr3, fT0, fT1, fT2, fT3, KC⟩ := hHeld
            have m0 : (uw6.alloc (Obj.cells #[Value.int .i64 0, Value.int .i64 0, Value.int .i64 0, Value.int .i64 0] 25)).cell? ⟨uw6.heap.size, 0, none⟩ = some (.int .i64 0) := by go_cell
            have fm0 : (uw6.alloc (Obj.cells #[Value.int .i64 0, Value.int .i64 0, Value.int .i64 0, Value.int .i64 0] 25)).frozen? ⟨uw6.heap.size, 0, none⟩ = false := by simp only [frozen?_alloc_cells]; exact Rg.notFrozen (Nat.le_refl _)
            have m1 : (uw6.alloc (Obj.cells #[Value.int .i64 0, Value.int .i64 0, Value.int .i64 0, Value.int .i64 0] 25)).cell? ⟨uw6.heap.size, 1, none⟩ = some (.int .i64 0) := by go_cell
            have fm1 : (uw6.alloc (Obj.cells #[Value.int .i64 0, Value.int .i64 0, Value.int .i64 0, Value.int .i64 0] 25)).frozen? ⟨uw6.heap.size, 1, none⟩ = false := by simp only [frozen?_alloc_cells]; exact Rg.notFrozen (Nat.le_refl _)
            have m2 : (uw6.alloc (Obj.cells #[Value.int .i64 0, Value.int .i64 0, Value.int .i64 0, Value.int .i64 0] 25)).cell? ⟨uw6.heap.size, 2, none⟩ = some (.int .i64 0) := by go_cell
            have fm2 : (uw6.alloc (Obj.cells #[Value.int .i64 0, Value.int .i64 0, Value.int .i64 0, Value.int .i64 0] 25)).frozen? ⟨uw6.heap.size, 2, none⟩ = false := by simp only [frozen?_alloc_cells]; exact Rg.notFrozen (Nat.le_refl _)
            have m3 : (uw6.alloc (Obj.cells #[Value.int .i64 0, Value.int .i64 0, Value.int .i64 0, Value.int .i64 0] 25)).cell? ⟨uw6.heap.size, 3, none⟩ = some (.int .i64 0) := by go_cell
            have fm3 : (uw6.alloc (Obj.cells #[Value.int .i64 0, Value.int .i64 0, Value.int .i64 0, Value.int .i64 0] 25)).frozen? ⟨uw6.heap.size, 3, none⟩ = false := by simp only [frozen?_alloc_cells]; exact Rg.notFrozen (Nat.le_refl _)
            generalize (uw6.alloc (Obj.cells #[Value.int .i64 0, Value.int .i64 0, Value.int .i64 0, Value.int .i64 0] 25)) = gw at *
            have lm : uw6.heap.size < gw.heap.size := World.block_lt_of_cell? _ _ m0
            have lw : w.heap.size ≤ uw6.heap.size := by omega
            have ne0 : uw6.heap.size ≠ w.heap.size := by omega
            have ne1 : uw6.heap.size ≠ w.heap.size + 1 := by omega
            have ne2 : uw6.heap.size ≠ b := by omega
            have lo0 : w.heap.size < gw.heap.size := by omega
            have lo1 : w.heap.size + 1 < gw.heap.size := by omega
            have lo2 : b < gw.heap.size := by omega
            by_cases hz : f = 0
            · subst hz
              rw [if_pos rfl] at hst
              rw [hst] at hF
              clear hst
              go_wp2_with fail
              have r0 : ((((gw.setCell ⟨uw6.heap.size, 0, none⟩ (.int .i64 x)).setCell ⟨uw6.heap.size, 1, none⟩ (.int .i64 y)).setCell ⟨uw6.heap.size, 2, none⟩ (.int .i64 z)).setCell ⟨uw6.heap.size, 3, none⟩ (.int .i64 s)).cell? ⟨w.heap.size, 0, none⟩ = some (.int .i64 0) := far4 ne0 r0
              have r1 : ((((gw.setCell ⟨uw6.heap.size, 0, none⟩ (.int .i64 x)).setCell ⟨uw6.heap.size, 1, none⟩ (.int .i64 y)).setCell ⟨uw6.heap.size, 2, none⟩ (.int .i64 z)).setCell ⟨uw6.heap.size, 3, none⟩ (.int .i64 s)).cell? ⟨w.heap.size, 1, none⟩ = some (.int .i64 0) := far4 ne0 r1
              have r2 : ((((gw.setCell ⟨uw6.heap.size, 0, none⟩ (.int .i64 x)).setCell ⟨uw6.heap.size, 1, none⟩ (.int .i64 y)).setCell ⟨uw6.heap.size, 2, none⟩ (.int .i64 z)).setCell ⟨uw6.heap.size, 3, none⟩ (.int .i64 s)).cell? ⟨w.heap.size, 2, none⟩ = some (.int .i64 0) := far4 ne0 r2
              have r3 : ((((gw.setCell ⟨uw6.heap.size, 0, none⟩ (.int .i64 x)).setCell ⟨uw6.heap.size, 1, none⟩ (.int .i64 y)).setCell ⟨uw6.heap.size, 2, none⟩ (.int .i64 z)).setCell ⟨uw6.heap.size, 3, none⟩ (.int .i64 s)).cell? ⟨w.heap.size, 3, none⟩ = some (.int .i64 0) := far4 ne0 r3
              have T0 : ((((gw.setCell ⟨uw6.heap.size, 0, none⟩ (.int .i64 x)).setCell ⟨uw6.heap.size, 1, none⟩ (.int .i64 y)).setCell ⟨uw6.heap.size, 2, none⟩ (.int .i64 z)).setCell ⟨uw6.heap.size, 3, none⟩ (.int .i64 s)).cell? ⟨w.heap.size + 1, 0, none⟩ = some (.int .i64 a.1) := far4 ne1 T0
              have T1 : ((((gw.setCell ⟨uw6.heap.size, 0, none⟩ (.int .i64 x)).setCell ⟨uw6.heap.size, 1, none⟩ (.int .i64 y)).setCell ⟨uw6.heap.size, 2, none⟩ (.int .i64 z)).setCell ⟨uw6.heap.size, 3, none⟩ (.int .i64 s)).cell? ⟨w.heap.size + 1, 1, none⟩ = some (.int .i64 a.2.1) := far4 ne1 T1
              have T2 : ((((gw.setCell ⟨uw6.heap.size, 0, none⟩ (.int .i64 x)).setCell ⟨uw6.heap.size, 1, none⟩ (.int .i64 y)).setCell ⟨uw6.heap.size, 2, none⟩ (.int .i64 z)).setCell ⟨uw6.heap.size, 3, none⟩ (.int .i64 s)).cell? ⟨w.heap.size + 1, 2, none⟩ = some (.int .i64 a.2.2.1) := far4 ne1 T2
              have T3 : ((((gw.setCell ⟨uw6.heap.size, 0, none⟩ (.int .i64 x)).setCell ⟨uw6.heap.size, 1, none⟩ (.int .i64 y)).setCell ⟨uw6.heap.size, 2, none⟩ (.int .i64 z)).setCell ⟨uw6.heap.size, 3, none⟩ (.int .i64 s)).cell? ⟨w.heap.size + 1, 3, none⟩ = some (.int .i64 a.2.2.2) := far4 ne1 T3
              have c0 : ((((gw.setCell ⟨uw6.heap.size, 0, none⟩ (.int .i64 x)).setCell ⟨uw6.heap.size, 1, none⟩ (.int .i64 y)).setCell ⟨uw6.heap.size, 2, none⟩ (.int .i64 z)).setCell ⟨uw6.heap.size, 3, none⟩ (.int .i64 s)).cell? ⟨b, o + j * 4, none⟩ = some (.int .i64 e.1) := far4 ne2 c0
              have c1 : ((((gw.setCell ⟨uw6.heap.size, 0, none⟩ (.int .i64 x)).setCell ⟨uw6.heap.size, 1, none⟩ (.int .i64 y)).setCell ⟨uw6.heap.size, 2, none⟩ (.int .i64 z)).setCell ⟨uw6.heap.size, 3, none⟩ (.int .i64 s)).cell? ⟨b, o + j * 4 + 1, none⟩ = some (.int .i64 e.2.1) := far4 ne2 c1
              have c2 : ((((gw.setCell ⟨uw6.heap.size, 0, none⟩ (.int .i64 x)).setCell ⟨uw6.heap.size, 1, none⟩ (.int .i64 y)).setCell ⟨uw6.heap.size, 2, none⟩ (.int .i64 z)).setCell ⟨uw6.heap.size, 3, none⟩ (.int .i64 s)).cell? ⟨b, o + j * 4 + 2, none⟩ = some (.int .i64 e.2.2.1) := far4 ne2 c2
              have c3 : ((((gw.setCell ⟨uw6.heap.size, 0, none⟩ (.int .i64 x)).setCell ⟨uw6.heap.size, 1, none⟩ (.int .i64 y)).setCell ⟨uw6.heap.size, 2, none⟩ (.int .i64 z)).setCell ⟨uw6.heap.size, 3, none⟩ (.int .i64 s)).cell? ⟨b, o + j * 4 + 3, none⟩ = some (.int .i64 e.2.2.2) := far4 ne2 c3
              have fr0 : ((((gw.setCell ⟨uw6.heap.size, 0, none⟩ (.int .i64 x)).setCell ⟨uw6.heap.size, 1, none⟩ (.int .i64 y)).setCell ⟨uw6.heap.size, 2, none⟩ (.int .i64 z)).setCell ⟨uw6.heap.size, 3, none⟩ (.int .i64 s)).frozen? ⟨w.heap.size, 0, none⟩ = false := by simpa [World.frozen?_setCell] using fr0
              have fr1 : ((((gw.setCell ⟨uw6.heap.size, 0, none⟩ (.int .i64 x)).setCell ⟨uw6.heap.size, 1, none⟩ (.int .i64 y)).setCell ⟨uw6.heap.size, 2, none⟩ (.int .i64 z)).setCell ⟨uw6.heap.size, 3, none⟩ (.int .i64 s)).frozen? ⟨w.heap.size, 1, none⟩ = false := by simpa [World.frozen?_setCell] using fr1
              have fr2 : ((((gw.setCell ⟨uw6.heap.size, 0, none⟩ (.int .i64 x)).setCell ⟨uw6.heap.size, 1, none⟩ (.int .i64 y)).setCell ⟨uw6.heap.size, 2, none⟩ (.int .i64 z)).setCell ⟨uw6.heap.size, 3, none⟩ (.int .i64 s)).frozen? ⟨w.heap.size, 2, none⟩ = false := by simpa [World.frozen?_setCell] using fr2
              have fr3 : ((((gw.setCell ⟨uw6.heap.size, 0, none⟩ (.int .i64 x)).setCell ⟨uw6.heap.size, 1, none⟩ (.int .i64 y)).setCell ⟨uw6.heap.size, 2, none⟩ (.int .i64 z)).setCell ⟨uw6.heap.size, 3, none⟩ (.int .i64 s)).frozen? ⟨w.heap.size, 3, none⟩ = false := by simpa [World.frozen?_setCell] using fr3
              have fT0 : ((((gw.setCell ⟨uw6.heap.size, 0, none⟩ (.int .i64 x)).setCell ⟨uw6.heap.size, 1, none⟩ (.int .i64 y)).setCell ⟨uw6.heap.size, 2, none⟩ (.int .i64 z)).setCell ⟨uw6.heap.size, 3, none⟩ (.int .i64 s)).frozen? ⟨w.heap.size + 1, 0, none⟩ = false := by simpa [World.frozen?_setCell] using fT0
              have fT1 : ((((gw.setCell ⟨uw6.heap.size, 0, none⟩ (.int .i64 x)).setCell ⟨uw6.heap.size, 1, none⟩ (.int .i64 y)).setCell ⟨uw6.heap.size, 2, none⟩ (.int .i64 z)).setCell ⟨uw6.heap.size, 3, none⟩ (.int .i64 s)).frozen? ⟨w.heap.size + 1, 1, none⟩ = false := by simpa [World.frozen?_setCell] using fT1
              have fT2 : ((((gw.setCell ⟨uw6.heap.size, 0, none⟩ (.int .i64 x)).setCell ⟨uw6.heap.size, 1, none⟩ (.int .i64 y)).setCell ⟨uw6.heap.size, 2, none⟩ (.int .i64 z)).setCell ⟨uw6.heap.size, 3, none⟩ (.int .i64 s)).frozen? ⟨w.heap.size + 1, 2, none⟩ = false := by simpa [World.frozen?_setCell] using fT2
              have fT3 : ((((gw.setCell ⟨uw6.heap.size, 0, none⟩ (.int .i64 x)).setCell ⟨uw6.heap.size, 1, none⟩ (.int .i64 y)).setCell ⟨uw6.heap.size, 2, none⟩ (.int .i64 z)).setCell ⟨uw6.heap.size, 3, none⟩ (.int .i64 s)).frozen? ⟨w.heap.size + 1, 3, none⟩ = false := by simpa [World.frozen?_setCell] using fT3
              have hst := st4 (x := .int .i64 x) (y := .int .i64 y) (z := .int .i64 z) (t := .int .i64 s) m0 m1 m2 m3
              obtain ⟨s0, s1, s2, s3⟩ := hst
              have KS : Below w.heap.size w ((((gw.setCell ⟨uw6.heap.size, 0, none⟩ (.int .i64 x)).setCell ⟨uw6.heap.size, 1, none⟩ (.int .i64 y)).setCell ⟨uw6.heap.size, 2, none⟩ (.int .i64 z)).setCell ⟨uw6.heap.size, 3, none⟩ (.int .i64 s)) := (Below.setCell (Below.setCell (Below.setCell (Below.setCell KC (by dsimp only; omega) _) (by dsimp only; omega) _) (by dsimp only; omega) _) (by dsimp only; omega) _)
              have lm : uw6.heap.size < ((((gw.setCell ⟨uw6.heap.size, 0, none⟩ (.int .i64 x)).setCell ⟨uw6.heap.size, 1, none⟩ (.int .i64 y)).setCell ⟨uw6.heap.size, 2, none⟩ (.int .i64 z)).setCell ⟨uw6.heap.size, 3, none⟩ (.int .i64 s)).heap.size := World.block_lt_of_cell? _ _ s0
              have lo0 : w.heap.size < ((((gw.setCell ⟨uw6.heap.size, 0, none⟩ (.int .i64 x)).setCell ⟨uw6.heap.size, 1, none⟩ (.int .i64 y)).setCell ⟨uw6.heap.size, 2, none⟩ (.int .i64 z)).setCell ⟨uw6.heap.size, 3, none⟩ (.int .i64 s)).heap.size := by simp; omega
              have lo1 : w.heap.size + 1 < ((((gw.setCell ⟨uw6.heap.size, 0, none⟩ (.int .i64 x)).setCell ⟨uw6.heap.size, 1, none⟩ (.int .i64 y)).setCell ⟨uw6.heap.size, 2, none⟩ (.int .i64 z)).setCell ⟨uw6.heap.size, 3, none⟩ (.int .i64 s)).heap.size := by simp; omega
              have lo2 : b < ((((gw.setCell ⟨uw6.heap.size, 0, none⟩ (.int .i64 x)).setCell ⟨uw6.heap.size, 1, none⟩ (.int .i64 y)).setCell ⟨uw6.heap.size, 2, none⟩ (.int .i64 z)).setCell ⟨uw6.heap.size, 3, none⟩ (.int .i64 s)).heap.size := by simp; omega
              clear KC m0 fm0 m1 fm1 m2 fm2 m3 fm3
              generalize ((((gw.setCell ⟨uw6.heap.size, 0, none⟩ (.int .i64 x)).setCell ⟨uw6.heap.size, 1, none⟩ (.int .i64 y)).setCell ⟨uw6.heap.size, 2, none⟩ (.int .i64 z)).setCell ⟨uw6.heap.size, 3, none⟩ (.int .i64 s)) = gs at *
              go_wp2_with fail
              go_roundw
              case rel =>
                have n0 : w.heap.size + 1 ≠ w.heap.size := by omega
                have KD := Below.setCell (p := ⟨w.heap.size + 1, 3, none⟩) (Below.setCell (p := ⟨w.heap.size + 1, 2, none⟩) (Below.setCell (p := ⟨w.heap.size + 1, 1, none⟩) (Below.setCell (p := ⟨w.heap.size + 1, 0, none⟩) KS (by dsimp only; omega) (.int .i64 x)) (by dsimp only; omega) (.int .i64 y)) (by dsimp only; omega) (.int .i64 z)) (by dsimp only; omega) (.int .i64 s)
                have hst := st4 (x := .int .i64 x) (y := .int .i64 y) (z := .int .i64 z) (t := .int .i64 s) T0 T1 T2 T3
                obtain ⟨q0, q1, q2, q3⟩ := hst
                exact ⟨j + 1, (x, y, z, s), by simp, by omega, by omega, Lib.hid ⟨far4 n0 r0, far4 n0 r1, far4 n0 r2, far4 n0 r3, q0, q1, q2, q3, by simpa [World.frozen?_setCell] using fr0, by simpa [World.frozen?_setCell] using fr1, by simpa [World.frozen?_setCell] using fr2, by simpa [World.frozen?_setCell] using fr3, by simpa [World.frozen?_setCell] using fT0, by simpa [World.frozen?_setCell] using fT1, by simpa [World.frozen?_setCell] using fT2, by simpa [World.frozen?_setCell] using fT3, KD⟩, hF⟩
              case measure => simp [intOf]; omega
            · rw [if_neg hz] at hst
              have hAA : A = (0, 0, 0, 0, f) := by rw [← hF.out, hst]
              subst hAA
              have z1 : (f != 0) = true := by simpa using hz
              have z2 : (f == 0) = false := by simpa using hz
              clear hst hF hz hT AP
              go_wp2_with fail
              have r0 : ((((gw.setCell ⟨uw6.heap.size, 0, none⟩ (.int .i64 x)).setCell ⟨uw6.heap.size, 1, none⟩ (.int .i64 y)).setCell ⟨uw6.heap.size, 2, none⟩ (.int .i64 z)).setCell ⟨uw6.heap.size, 3, none⟩ (.int .i64 s)).cell? ⟨w.heap.size, 0, none⟩ = some (.int .i64 0) := far4 ne0 r0
              have r1 : ((((gw.setCell ⟨uw6.heap.size, 0, none⟩ (.int .i64 x)).setCell ⟨uw6.heap.size, 1, none⟩ (.int .i64 y)).setCell ⟨uw6.heap.size, 2, none⟩ (.int .i64 z)).setCell ⟨uw6.heap.size, 3, none⟩ (.int .i64 s)).cell? ⟨w.heap.size, 1, none⟩ = some (.int .i64 0) := far4 ne0 r1
              have r2 : ((((gw.setCell ⟨uw6.heap.size, 0, none⟩ (.int .i64 x)).setCell ⟨uw6.heap.size, 1, none⟩ (.int .i64 y)).setCell ⟨uw6.heap.size, 2, none⟩ (.int .i64 z)).setCell ⟨uw6.heap.size, 3, none⟩ (.int .i64 s)).cell? ⟨w.heap.size, 2, none⟩ = some (.int .i64 0) := far4 ne0 r2
              have r3 : ((((gw.setCell ⟨uw6.heap.size, 0, none⟩ (.int .i64 x)).setCell ⟨uw6.heap.size, 1, none⟩ (.int .i64 y)).setCell ⟨uw6.heap.size, 2, none⟩ (.int .i64 z)).setCell ⟨uw6.heap.size, 3, none⟩ (.int .i64 s)).cell? ⟨w.heap.size, 3, none⟩ = some (.int .i64 0) := far4 ne0 r3
              have T0 : ((((gw.setCell ⟨uw6.heap.size, 0, none⟩ (.int .i64 x)).setCell ⟨uw6.heap.size, 1, none⟩ (.int .i64 y)).setCell ⟨uw6.heap.size, 2, none⟩ (.int .i64 z)).setCell ⟨uw6.heap.size, 3, none⟩ (.int .i64 s)).cell? ⟨w.heap.size + 1, 0, none⟩ = some (.int .i64 a.1) := far4 ne1 T0
              have T1 : ((((gw.setCell ⟨uw6.heap.size, 0, none⟩ (.int .i64 x)).setCell ⟨uw6.heap.size, 1, none⟩ (.int .i64 y)).setCell ⟨uw6.heap.size, 2, none⟩ (.int .i64 z)).setCell ⟨uw6.heap.size, 3, none⟩ (.int .i64 s)).cell? ⟨w.heap.size + 1, 1, none⟩ = some (.int .i64 a.2.1) := far4 ne1 T1
              have T2 : ((((gw.setCell ⟨uw6.heap.size, 0, none⟩ (.int .i64 x)).setCell ⟨uw6.heap.size, 1, none⟩ (.int .i64 y)).setCell ⟨uw6.heap.size, 2, none⟩ (.int .i64 z)).setCell ⟨uw6.heap.size, 3, none⟩ (.int .i64 s)).cell? ⟨w.heap.size + 1, 2, none⟩ = some (.int .i64 a.2.2.1) := far4 ne1 T2
              have T3 : ((((gw.setCell ⟨uw6.heap.size, 0, none⟩ (.int .i64 x)).setCell ⟨uw6.heap.size, 1, none⟩ (.int .i64 y)).setCell ⟨uw6.heap.size, 2, none⟩ (.int .i64 z)).setCell ⟨uw6.heap.size, 3, none⟩ (.int .i64 s)).cell? ⟨w.heap.size + 1, 3, none⟩ = some (.int .i64 a.2.2.2) := far4 ne1 T3
              have c0 : ((((gw.setCell ⟨uw6.heap.size, 0, none⟩ (.int .i64 x)).setCell ⟨uw6.heap.size, 1, none⟩ (.int .i64 y)).setCell ⟨uw6.heap.size, 2, none⟩ (.int .i64 z)).setCell ⟨uw6.heap.size, 3, none⟩ (.int .i64 s)).cell? ⟨b, o + j * 4, none⟩ = some (.int .i64 e.1) := far4 ne2 c0
              have c1 : ((((gw.setCell ⟨uw6.heap.size, 0, none⟩ (.int .i64 x)).setCell ⟨uw6.heap.size, 1, none⟩ (.int .i64 y)).setCell ⟨uw6.heap.size, 2, none⟩ (.int .i64 z)).setCell ⟨uw6.heap.size, 3, none⟩ (.int .i64 s)).cell? ⟨b, o + j * 4 + 1, none⟩ = some (.int .i64 e.2.1) := far4 ne2 c1
              have c2 : ((((gw.setCell ⟨uw6.heap.size, 0, none⟩ (.int .i64 x)).setCell ⟨uw6.heap.size, 1, none⟩ (.int .i64 y)).setCell ⟨uw6.heap.size, 2, none⟩ (.int .i64 z)).setCell ⟨uw6.heap.size, 3, none⟩ (.int .i64 s)).cell? ⟨b, o + j * 4 + 2, none⟩ = some (.int .i64 e.2.2.1) := far4 ne2 c2
              have c3 : ((((gw.setCell ⟨uw6.heap.size, 0, none⟩ (.int .i64 x)).setCell ⟨uw6.heap.size, 1, none⟩ (.int .i64 y)).setCell ⟨uw6.heap.size, 2, none⟩ (.int .i64 z)).setCell ⟨uw6.heap.size, 3, none⟩ (.int .i64 s)).cell? ⟨b, o + j * 4 + 3, none⟩ = some (.int .i64 e.2.2.2) := far4 ne2 c3
              have fr0 : ((((gw.setCell ⟨uw6.heap.size, 0, none⟩ (.int .i64 x)).setCell ⟨uw6.heap.size, 1, none⟩ (.int .i64 y)).setCell ⟨uw6.heap.size, 2, none⟩ (.int .i64 z)).setCell ⟨uw6.heap.size, 3, none⟩ (.int .i64 s)).frozen? ⟨w.heap.size, 0, none⟩ = false := by simpa [World.frozen?_setCell] using fr0
              have fr1 : ((((gw.setCell ⟨uw6.heap.size, 0, none⟩ (.int .i64 x)).setCell ⟨uw6.heap.size, 1, none⟩ (.int .i64 y)).setCell ⟨uw6.heap.size, 2, none⟩ (.int .i64 z)).setCell ⟨uw6.heap.size, 3, none⟩ (.int .i64 s)).frozen? ⟨w.heap.size, 1, none⟩ = false := by simpa [World.frozen?_setCell] using fr1
              have fr2 : ((((gw.setCell ⟨uw6.heap.size, 0, none⟩ (.int .i64 x)).setCell ⟨uw6.heap.size, 1, none⟩ (.int .i64 y)).setCell ⟨uw6.heap.size, 2, none⟩ (.int .i64 z)).setCell ⟨uw6.heap.size, 3, none⟩ (.int .i64 s)).frozen? ⟨w.heap.size, 2, none⟩ = false := by simpa [World.frozen?_setCell] using fr2
              have fr3 : ((((gw.setCell ⟨uw6.heap.size, 0, none⟩ (.int .i64 x)).setCell ⟨uw6.heap.size, 1, none⟩ (.int .i64 y)).setCell ⟨uw6.heap.size, 2, none⟩ (.int .i64 z)).setCell ⟨uw6.heap.size, 3, none⟩ (.int .i64 s)).frozen? ⟨w.heap.size, 3, none⟩ = false := by simpa [World.frozen?_setCell] using fr3
              have fT0 : ((((gw.setCell ⟨uw6.heap.size, 0, none⟩ (.int .i64 x)).setCell ⟨uw6.heap.size, 1, none⟩ (.int .i64 y)).setCell ⟨uw6.heap.size, 2, none⟩ (.int .i64 z)).setCell ⟨uw6.heap.size, 3, none⟩ (.int .i64 s)).frozen? ⟨w.heap.size + 1, 0, none⟩ = false := by simpa [World.frozen?_setCell] using fT0
              have fT1 : ((((gw.setCell ⟨uw6.heap.size, 0, none⟩ (.int .i64 x)).setCell ⟨uw6.heap.size, 1, none⟩ (.int .i64 y)).setCell ⟨uw6.heap.size, 2, none⟩ (.int .i64 z)).setCell ⟨uw6.heap.size, 3, none⟩ (.int .i64 s)).frozen? ⟨w.heap.size + 1, 1, none⟩ = false := by simpa [World.frozen?_setCell] using fT1
              have fT2 : ((((gw.setCell ⟨uw6.heap.size, 0, none⟩ (.int .i64 x)).setCell ⟨uw6.heap.size, 1, none⟩ (.int .i64 y)).setCell ⟨uw6.heap.size, 2, none⟩ (.int .i64 z)).setCell ⟨uw6.heap.size, 3, none⟩ (.int .i64 s)).frozen? ⟨w.heap.size + 1, 2, none⟩ = false := by simpa [World.frozen?_setCell] using fT2
              have fT3 : ((((gw.setCell ⟨uw6.heap.size, 0, none⟩ (.int .i64 x)).setCell ⟨uw6.heap.size, 1, none⟩ (.int .i64 y)).setCell ⟨uw6.heap.size, 2, none⟩ (.int .i64 z)).setCell ⟨uw6.heap.size, 3, none⟩ (.int .i64 s)).frozen? ⟨w.heap.size + 1, 3, none⟩ = false := by simpa [World.frozen?_setCell] using fT3
              have hst := st4 (x := .int .i64 x) (y := .int .i64 y) (z := .int .i64 z) (t := .int .i64 s) m0 m1 m2 m3
              obtain ⟨s0, s1, s2, s3⟩ := hst
              have KS : Below w.heap.size w ((((gw.setCell ⟨uw6.heap.size, 0, none⟩ (.int .i64 x)).setCell ⟨uw6.heap.size, 1, none⟩ (.int .i64 y)).setCell ⟨uw6.heap.size, 2, none⟩ (.int .i64 z)).setCell ⟨uw6.heap.size, 3, none⟩ (.int .i64 s)) := (Below.setCell (Below.setCell (Below.setCell (Below.setCell KC (by dsimp only; omega) _) (by dsimp only; omega) _) (by dsimp only; omega) _) (by dsimp only; omega) _)
              have lm : uw6.heap.size < ((((gw.setCell ⟨uw6.heap.size, 0, none⟩ (.int .i64 x)).setCell ⟨uw6.heap.size, 1, none⟩ (.int .i64 y)).setCell ⟨uw6.heap.size, 2, none⟩ (.int .i64 z)).setCell ⟨uw6.heap.size, 3, none⟩ (.int .i64 s)).heap.size := World.block_lt_of_cell? _ _ s0
              have lo0 : w.heap.size < ((((gw.setCell ⟨uw6.heap.size, 0, none⟩ (.int .i64 x)).setCell ⟨uw6.heap.size, 1, none⟩ (.int .i64 y)).setCell ⟨uw6.heap.size, 2, none⟩ (.int .i64 z)).setCell ⟨uw6.heap.size, 3, none⟩ (.int .i64 s)).heap.size := by simp; omega
              have lo1 : w.heap.size + 1 < ((((gw.setCell ⟨uw6.heap.size, 0, none⟩ (.int .i64 x)).setCell ⟨uw6.heap.size, 1, none⟩ (.int .i64 y)).setCell ⟨uw6.heap.size, 2, none⟩ (.int .i64 z)).setCell ⟨uw6.heap.size, 3, none⟩ (.int .i64 s)).heap.size := by simp; omega
              have lo2 : b < ((((gw.setCell ⟨uw6.heap.size, 0, none⟩ (.int .i64 x)).setCell ⟨uw6.heap.size, 1, none⟩ (.int .i64 y)).setCell ⟨uw6.heap.size, 2, none⟩ (.int .i64 z)).setCell ⟨uw6.heap.size, 3, none⟩ (.int .i64 s)).heap.size := by simp; omega
              clear KC m0 fm0 m1 fm1 m2 fm2 m3 fm3
              generalize ((((gw.setCell ⟨uw6.heap.size, 0, none⟩ (.int .i64 x)).setCell ⟨uw6.heap.size, 1, none⟩ (.int .i64 y)).setCell ⟨uw6.heap.size, 2, none⟩ (.int .i64 z)).setCell ⟨uw6.heap.size, 3, none⟩ (.int .i64 s)) = gs at *
              refine bodyPost_ret (v := F5 (0, 0, 0, 0, f)) (by simp [results, Try.results12, go_sem, r0, r1, r2, r3, fr0, fr1, fr2, fr3, s0, s1, s2, s3, lo0, Nat.lt_succ_of_lt lo0]) rfl ⟨rfl, ?_⟩; (repeat' (first | (with_reducible exact Below.refl _ _) | (with_reducible exact KS) | (with_reducible exact KS.size) | (with_reducible refine Below.alloc ?_ ?_ _) | (with_reducible refine Below.setCell ?_ ?_ _) | (with_reducible refine below_drewN ?_ _) | (simp; done) | omega | (simp; omega)))
          · rw [if_pos (by kernel_rfl)]
            go_simp
            have hNew := HS.out _ _ hHeld ((Below.refl _ _).alloc (Nat.le_refl _) (Obj.cells #[Value.int .i64 0, Value.int .i64 0, Value.int .i64 0, Value.int .i64 0] 25))
            refine hK.out _ _ hNew (fun _ => ?_)
            replace hHeld := hNew
            clear hNew
            clear hK KK
            refine Rk.one (i := 6) (by kernel_rfl) rfl (fun KK hK => ?_)
            rw [if_pos (by kernel_rfl)]
            go_simp
            ((with_reducible refine (AC.out _).mono ?_); rintro e uw6 ⟨rfl, hb⟩)
            have hNew := HS.out _ _ hHeld hb
            have hs_uw6 : wr.heap.size ≤ uw6.heap.size := by have hzz := hb.size; (try simp at hzz); omega
            have m0 : uw6.cell? ⟨wr.heap.size, 0, none⟩ = some (.int .i64 0) := Rg.keep hb (by simp) (by go_cell)
            have fm0 : uw6.frozen? ⟨wr.heap.size, 0, none⟩ = false := Rg.keepF hb (by simp) (by show (wr.drew.alloc (Obj.cells #[Value.int .i64 0, Value.int .i64 0, Value.int .i64 0, Value.int .i64 0] 25)).frozen? ⟨wr.drew.heap.size, 0, none⟩ = false; simp only [frozen?_alloc_cells]; exact Rg.notFrozen (Nat.le_refl _))
            have m1 : uw6.cell? ⟨wr.heap.size, 1, none⟩ = some (.int .i64 0) := Rg.keep hb (by simp) (by go_cell)
            have fm1 : uw6.frozen? ⟨wr.heap.size, 1, none⟩ = false := Rg.keepF hb (by simp) (by show (wr.drew.alloc (Obj.cells #[Value.int .i64 0, Value.int .i64 0, Value.int .i64 0, Value.int .i64 0] 25)).frozen? ⟨wr.drew.heap.size, 1, none⟩ = false; simp only [frozen?_alloc_cells]; exact Rg.notFrozen (Nat.le_refl _))
            have m2 : uw6.cell? ⟨wr.heap.size, 2, none⟩ = some (.int .i64 0) := Rg.keep hb (by simp) (by go_cell)
            have fm2 : uw6.frozen? ⟨wr.heap.size, 2, none⟩ = false := Rg.keepF hb (by simp) (by show (wr.drew.alloc (Obj.cells #[Value.int .i64 0, Value.int .i64 0, Value.int .i64 0, Value.int .i64 0] 25)).frozen? ⟨wr.drew.heap.size, 2, none⟩ = false; simp only [frozen?_alloc_cells]; exact Rg.notFrozen (Nat.le_refl _))
            have m3 : uw6.cell? ⟨wr.heap.size, 3, none⟩ = some (.int .i64 0) := Rg.keep hb (by simp) (by go_cell)
            have fm3 : uw6.frozen? ⟨wr.heap.size, 3, none⟩ = false := Rg.keepF hb (by simp) (by show (wr.drew.alloc (Obj.cells #[Value.int .i64 0, Value.int .i64 0, Value.int .i64 0, Value.int .i64 0] 25)).frozen? ⟨wr.drew.heap.size, 3, none⟩ = false; simp only [frozen?_alloc_cells]; exact Rg.notFrozen (Nat.le_refl _))
            first | (refine hK.out _ _ (fun _ => hNew) (fun _ => ?_)) | (refine hK.out _ _ hNew (fun _ => ?_)) | (go_wp2_with fail; refine hK.out _ _ hNew (fun _ => ?_))
            replace hHeld := hNew
            clear hNew hb
            clear hK KK
            refine Rk.takeP (i := 7) (v := ?_) rfl (by kernel_rfl) (by kernel_rfl) (by kernel_rfl) (by kernel_rfl) (fun _ _ _ h => h) (Or.inl ⟨by kernel_rfl, ?_⟩) (by assumption) ?_
            rotate_left
            · ((intro w hSw; go_simp) <;> with_reducible rfl)
            try simp only [Act.put, List.setIfInBounds_toArray, List.set_cons_zero, List.set_cons_succ]
            refine Rk.takeP (i := 8) (v := ?_) rfl (by kernel_rfl) (by kernel_rfl) (by kernel_rfl) (by kernel_rfl) (fun _ _ _ h => h) (Or.inl ⟨by kernel_rfl, ?_⟩) (by assumption) ?_
            rotate_left
            · ((intro w hSw; go_simp) <;> with_reducible rfl)
            try simp only [Act.put, List.setIfInBounds_toArray, List.set_cons_zero, List.set_cons_succ]
            refine Rk.takeP (i := 9) (v := ?_) rfl (by kernel_rfl) (by kernel_rfl) (by kernel_rfl) (by kernel_rfl) (fun _ _ _ h => h) (Or.inl ⟨by kernel_rfl, ?_⟩) (by assumption) ?_
            rotate_left
            · ((intro w hSw; go_simp) <;> with_reducible rfl)
            try simp only [Act.put, List.setIfInBounds_toArray, List.set_cons_zero, List.set_cons_succ]
            refine Rk.tail [11, 12] [_, _] (by kernel_rfl) (by kernel_rfl) rfl (by decide) ?_
            obtain ⟨r0, r1, r2, r3, T0, T1, T2, T3, c0, c1, c2, c3, fr0, fr1, fr2, fr3, fT0, fT1, fT2, fT3, KC⟩ := hHeld
            have lm : wr.heap.size < uw6.heap.size := World.block_lt_of_cell? _ _ m0
            have lw : w.heap.size ≤ wr.heap.size := by omega
            have ne0 : wr.heap.size ≠ w.heap.size := by omega
            have ne1 : wr.heap.size ≠ w.heap.size + 1 := by omega
            have ne2 : wr.heap.size ≠ b := by omega
            have lo0 : w.heap.size < uw6.heap.size := by omega
            have lo1 : w.heap.size + 1 < uw6.heap.size := by omega
            have lo2 : b < uw6.heap.size := by omega
            by_cases hz : f = 0
            · subst hz
              rw [if_pos rfl] at hst
              rw [hst] at hF
              clear hst
              go_wp2_with fail
              have r0 : ((((uw6.setCell ⟨wr.heap.size, 0, none⟩ (.int .i64 x)).setCell ⟨wr.heap.size, 1, none⟩ (.int .i64 y)).setCell ⟨wr.heap.size, 2, none⟩ (.int .i64 z)).setCell ⟨wr.heap.size, 3, none⟩ (.int .i64 s)).cell? ⟨w.heap.size, 0, none⟩ = some (.int .i64 0) := far4 ne0 r0
              have r1 : ((((uw6.setCell ⟨wr.heap.size, 0, none⟩ (.int .i64 x)).setCell ⟨wr.heap.size, 1, none⟩ (.int .i64 y)).setCell ⟨wr.heap.size, 2, none⟩ (.int .i64 z)).setCell ⟨wr.heap.size, 3, none⟩ (.int .i64 s)).cell? ⟨w.heap.size, 1, none⟩ = some (.int .i64 0) := far4 ne0 r1
              have r2 : ((((uw6.setCell ⟨wr.heap.size, 0, none⟩ (.int .i64 x)).setCell ⟨wr.heap.size, 1, none⟩ (.int .i64 y)).setCell ⟨wr.heap.size, 2, none⟩ (.int .i64 z)).setCell ⟨wr.heap.size, 3, none⟩ (.int .i64 s)).cell? ⟨w.heap.size, 2, none⟩ = some (.int .i64 0) := far4 ne0 r2
              have r3 : ((((uw6.setCell ⟨wr.heap.size, 0, none⟩ (.int .i64 x)).setCell ⟨wr.heap.size, 1, none⟩ (.int .i64 y)).setCell ⟨wr.heap.size, 2, none⟩ (.int .i64 z)).setCell ⟨wr.heap.size, 3, none⟩ (.int .i64 s)).cell? ⟨w.heap.size, 3, none⟩ = some (.int .i64 0) := far4 ne0 r3
              have T0 : ((((uw6.setCell ⟨wr.heap.size, 0, none⟩ (.int .i64 x)).setCell ⟨wr.heap.size, 1, none⟩ (.int .i64 y)).setCell ⟨wr.heap.size, 2, none⟩ (.int .i64 z)).setCell ⟨wr.heap.size, 3, none⟩ (.int .i64 s)).cell? ⟨w.heap.size + 1, 0, none⟩ = some (.int .i64 a.1) := far4 ne1 T0
              have T1 : ((((uw6.setCell ⟨wr.heap.size, 0, none⟩ (.int .i64 x)).setCell ⟨wr.heap.size, 1, none⟩ (.int .i64 y)).setCell ⟨wr.heap.size, 2, none⟩ (.int .i64 z)).setCell ⟨wr.heap.size, 3, none⟩ (.int .i64 s)).cell? ⟨w.heap.size + 1, 1, none⟩ = some (.int .i64 a.2.1) := far4 ne1 T1
              have T2 : ((((uw6.setCell ⟨wr.heap.size, 0, none⟩ (.int .i64 x)).setCell ⟨wr.heap.size, 1, none⟩ (.int .i64 y)).setCell ⟨wr.heap.size, 2, none⟩ (.int .i64 z)).setCell ⟨wr.heap.size, 3, none⟩ (.int .i64 s)).cell? ⟨w.heap.size + 1, 2, none⟩ = some (.int .i64 a.2.2.1) := far4 ne1 T2
              have T3 : ((((uw6.setCell ⟨wr.heap.size, 0, none⟩ (.int .i64 x)).setCell ⟨wr.heap.size, 1, none⟩ (.int .i64 y)).setCell ⟨wr.heap.size, 2, none⟩ (.int .i64 z)).setCell ⟨wr.heap.size, 3, none⟩ (.int .i64 s)).cell? ⟨w.heap.size + 1, 3, none⟩ = some (.int .i64 a.2.2.2) := far4 ne1 T3
              have c0 : ((((uw6.setCell ⟨wr.heap.size, 0, none⟩ (.int .i64 x)).setCell ⟨wr.heap.size, 1, none⟩ (.int .i64 y)).setCell ⟨wr.heap.size, 2, none⟩ (.int .i64 z)).setCell ⟨wr.heap.size, 3, none⟩ (.int .i64 s)).cell? ⟨b, o + j * 4, none⟩ = some (.int .i64 e.1) := far4 ne2 c0
              have c1 : ((((uw6.setCell ⟨wr.heap.size, 0, none⟩ (.int .i64 x)).setCell ⟨wr.heap.size, 1, none⟩ (.int .i64 y)).setCell ⟨wr.heap.size, 2, none⟩ (.int .i64 z)).setCell ⟨wr.heap.size, 3, none⟩ (.int .i64 s)).cell? ⟨b, o + j * 4 + 1, none⟩ = some (.int .i64 e.2.1) := far4 ne2 c1
              have c2 : ((((uw6.setCell ⟨wr.heap.size, 0, none⟩ (.int .i64 x)).setCell ⟨wr.heap.size, 1, none⟩ (.int .i64 y)).setCell ⟨wr.heap.size, 2, none⟩ (.int .i64 z)).setCell ⟨wr.heap.size, 3, none⟩ (.int .i64 s)).cell? ⟨b, o + j * 4 + 2, none⟩ = some (.int .i64 e.2.2.1) := far4 ne2 c2
              have c3 : ((((uw6.setCell ⟨wr.heap.size, 0, none⟩ (.int .i64 x)).setCell ⟨wr.heap.size, 1, none⟩ (.int .i64 y)).setCell ⟨wr.heap.size, 2, none⟩ (.int .i64 z)).setCell ⟨wr.heap.size, 3, none⟩ (.int .i64 s)).cell? ⟨b, o + j * 4 + 3, none⟩ = some (.int .i64 e.2.2.2) := far4 ne2 c3
              have fr0 : ((((uw6.setCell ⟨wr.heap.size, 0, none⟩ (.int .i64 x)).setCell ⟨wr.heap.size, 1, none⟩ (.int .i64 y)).setCell ⟨wr.heap.size, 2, none⟩ (.int .i64 z)).setCell ⟨wr.heap.size, 3, none⟩ (.int .i64 s)).frozen? ⟨w.heap.size, 0, none⟩ = false := by simpa [World.frozen?_setCell] using fr0
              have fr1 : ((((uw6.setCell ⟨wr.heap.size, 0, none⟩ (.int .i64 x)).setCell ⟨wr.heap.size, 1, none⟩ (.int .i64 y)).setCell ⟨wr.heap.size, 2, none⟩ (.int .i64 z)).setCell ⟨wr.heap.size, 3, none⟩ (.int .i64 s)).frozen? ⟨w.heap.size, 1, none⟩ = false := by simpa [World.frozen?_setCell] using fr1
              have fr2 : ((((uw6.setCell ⟨wr.heap.size, 0, none⟩ (.int .i64 x)).setCell ⟨wr.heap.size, 1, none⟩ (.int .i64 y)).setCell ⟨wr.heap.size, 2, none⟩ (.int .i64 z)).setCell ⟨wr.heap.size, 3, none⟩ (.int .i64 s)).frozen? ⟨w.heap.size, 2, none⟩ = false := by simpa [World.frozen?_setCell] using fr2
              have fr3 : ((((uw6.setCell ⟨wr.heap.size, 0, none⟩ (.int .i64 x)).setCell ⟨wr.heap.size, 1, none⟩ (.int .i64 y)).setCell ⟨wr.heap.size, 2, none⟩ (.int .i64 z)).setCell ⟨wr.heap.size, 3, none⟩ (.int .i64 s)).frozen? ⟨w.heap.size, 3, none⟩ = false := by simpa [World.frozen?_setCell] using fr3
              have fT0 : ((((uw6.setCell ⟨wr.heap.size, 0, none⟩ (.int .i64 x)).setCell ⟨wr.heap.size, 1, none⟩ (.int .i64 y)).setCell ⟨wr.heap.size, 2, none⟩ (.int .i64 z)).setCell ⟨wr.heap.size, 3, none⟩ (.int .i64 s)).frozen? ⟨w.heap.size + 1, 0, none⟩ = false := by simpa [World.frozen?_setCell] using fT0
              have fT1 : ((((uw6.setCell ⟨wr.heap.size, 0, none⟩ (.int .i64 x)).setCell ⟨wr.heap.size, 1, none⟩ (.int .i64 y)).setCell ⟨wr.heap.size, 2, none⟩ (.int .i64 z)).setCell ⟨wr.heap.size, 3, none⟩ (.int .i64 s)).frozen? ⟨w.heap.size + 1, 1, none⟩ = false := by simpa [World.frozen?_setCell] using fT1
              have fT2 : ((((uw6.setCell ⟨wr.heap.size, 0, none⟩ (.int .i64 x)).setCell ⟨wr.heap.size, 1, none⟩ (.int .i64 y)).setCell ⟨wr.heap.size, 2, none⟩ (.int .i64 z)).setCell ⟨wr.heap.size, 3, none⟩ (.int .i64 s)).frozen? ⟨w.heap.size + 1, 2, none⟩ = false := by simpa [World.frozen?_setCell] using fT2
              have fT3 : ((((uw6.setCell ⟨wr.heap.size, 0, none⟩ (.int .i64 x)).setCell ⟨wr.heap.size, 1, none⟩ (.int .i64 y)).setCell ⟨wr.heap.size, 2, none⟩ (.int .i64 z)).setCell ⟨wr.heap.size, 3, none⟩ (.int .i64 s)).frozen? ⟨w.heap.size + 1, 3, none⟩ = false := by simpa [World.frozen?_setCell] using fT3
              have hst := st4 (x := .int .i64 x) (y := .int .i64 y) (z := .int .i64 z) (t := .int .i64 s) m0 m1 m2 m3
              obtain ⟨s0, s1, s2, s3⟩ := hst
              have KS : Below w.heap.size w ((((uw6.setCell ⟨wr.heap.size, 0, none⟩ (.int .i64 x)).setCell ⟨wr.heap.size, 1, none⟩ (.int .i64 y)).setCell ⟨wr.heap.size, 2, none⟩ (.int .i64 z)).setCell ⟨wr.heap.size, 3, none⟩ (.int .i64 s)) := (Below.setCell (Below.setCell (Below.setCell (Below.setCell KC (by dsimp only; omega) _) (by dsimp only; omega) _) (by dsimp only; omega) _) (by dsimp only; omega) _)
              have lm : wr.heap.size < ((((uw6.setCell ⟨wr.heap.size, 0, none⟩ (.int .i64 x)).setCell ⟨wr.heap.size, 1, none⟩ (.int .i64 y)).setCell ⟨wr.heap.size, 2, none⟩ (.int .i64 z)).setCell ⟨wr.heap.size, 3, none⟩ (.int .i64 s)).heap.size := World.block_lt_of_cell? _ _ s0
              have lo0 : w.heap.size < ((((uw6.setCell ⟨wr.heap.size, 0, none⟩ (.int .i64 x)).setCell ⟨wr.heap.size, 1, none⟩ (.int .i64 y)).setCell ⟨wr.heap.size, 2, none⟩ (.int .i64 z)).setCell ⟨wr.heap.size, 3, none⟩ (.int .i64 s)).heap.size := by simp; omega
              have lo1 : w.heap.size + 1 < ((((uw6.setCell ⟨wr.heap.size, 0, none⟩ (.int .i64 x)).setCell ⟨wr.heap.size, 1, none⟩ (.int .i64 y)).setCell ⟨wr.heap.size, 2, none⟩ (.int .i64 z)).setCell ⟨wr.heap.size, 3, none⟩ (.int .i64 s)).heap.size := by simp; omega
              have lo2 : b < ((((uw6.setCell ⟨wr.heap.size, 0, none⟩ (.int .i64 x)).setCell ⟨wr.heap.size, 1, none⟩ (.int .i64 y)).setCell ⟨wr.heap.size, 2, none⟩ (.int .i64 z)).setCell ⟨wr.heap.size, 3, none⟩ (.int .i64 s)).heap.size := by simp; omega
              clear KC m0 fm0 m1 fm1 m2 fm2 m3 fm3
              generalize ((((uw6.setCell ⟨wr.heap.size, 0, none⟩ (.int .i64 x)).setCell ⟨wr.heap.size, 1, none⟩ (.int .i64 y)).setCell ⟨wr.heap.size, 2, none⟩ (.int .i64 z)).setCell ⟨wr.heap.size, 3, none⟩ (.int .i64 s)) = gs at *
              go_wp2_with fail
              go_roundw
              case rel =>
                have n0 : w.heap.size + 1 ≠ w.heap.size := by omega
                have KD := Below.setCell (p := ⟨w.heap.size + 1, 3, none⟩) (Below.setCell (p := ⟨w.heap.size + 1, 2, none⟩) (Below.setCell (p := ⟨w.heap.size + 1, 1, none⟩) (Below.setCell (p := ⟨w.heap.size + 1, 0, none⟩) KS (by dsimp only; omega) (.int .i64 x)) (by dsimp only; omega) (.int .i64 y)) (by dsimp only; omega) (.int .i64 z)) (by dsimp only; omega) (.int .i64 s)
                have hst := st4 (x := .int .i64 x) (y := .int .i64 y) (z := .int .i64 z) (t := .int .i64 s) T0 T1 T2 T3
                obtain ⟨q0, q1, q2, q3⟩ := hst
                exact ⟨j + 1, (x, y, z, s), by simp, by omega, by omega, Lib.hid ⟨far4 n0 r0, far4 n0 r1, far4 n0 r2, far4 n0 r3, q0, q1, q2, q3, by simpa [World.frozen?_setCell] using fr0, by simpa [World.frozen?_setCell] using fr1, by simpa [World.frozen?_setCell] using fr2, by simpa [World.frozen?_setCell] using fr3, by simpa [World.frozen?_setCell] using fT0, by simpa [World.frozen?_setCell] using fT1, by simpa [World.frozen?_setCell] using fT2, by simpa [World.frozen?_setCell] using fT3, KD⟩, hF⟩
              case measure => simp [intOf]; omega
            · rw [if_neg hz] at hst
              have hAA : A = (0, 0, 0, 0, f) := by rw [← hF.out, hst]
              subst hAA
              have z1 : (f != 0) = true := by simpa using hz
              have z2 : (f == 0) = false := by simpa using hz
              clear hst hF hz hT AP
              go_wp2_with fail
              have r0 : ((((uw6.setCell ⟨wr.heap.size, 0, none⟩ (.int .i64 x)).setCell ⟨wr.heap.size, 1, none⟩ (.int .i64 y)).setCell ⟨wr.heap.size, 2, none⟩ (.int .i64 z)).setCell ⟨wr.heap.size, 3, none⟩ (.int .i64 s)).cell? ⟨w.heap.size, 0, none⟩ = some (.int .i64 0) := far4 ne0 r0
              have r1 : ((((uw6.setCell ⟨wr.heap.size, 0, none⟩ (.int .i64 x)).setCell ⟨wr.heap.size, 1, none⟩ (.int .i64 y)).setCell ⟨wr.heap.size, 2, none⟩ (.int .i64 z)).setCell ⟨wr.heap.size, 3, none⟩ (.int .i64 s)).cell? ⟨w.heap.size, 1, none⟩ = some (.int .i64 0) := far4 ne0 r1
              have r2 : ((((uw6.setCell ⟨wr.heap.size, 0, none⟩ (.int .i64 x)).setCell ⟨wr.heap.size, 1, none⟩ (.int .i64 y)).setCell ⟨wr.heap.size, 2, none⟩ (.int .i64 z)).setCell ⟨wr.heap.size, 3, none⟩ (.int .i64 s)).cell? ⟨w.heap.size, 2, none⟩ = some (.int .i64 0) := far4 ne0 r2
              have r3 : ((((uw6.setCell ⟨wr.heap.size, 0, none⟩ (.int .i64 x)).setCell ⟨wr.heap.size, 1, none⟩ (.int .i64 y)).setCell ⟨wr.heap.size, 2, none⟩ (.int .i64 z)).setCell ⟨wr.heap.size, 3, none⟩ (.int .i64 s)).cell? ⟨w.heap.size, 3, none⟩ = some (.int .i64 0) := far4 ne0 r3
              have T0 : ((((uw6.setCell ⟨wr.heap.size, 0, none⟩ (.int .i64 x)).setCell ⟨wr.heap.size, 1, none⟩ (.int .i64 y)).setCell ⟨wr.heap.size, 2, none⟩ (.int .i64 z)).setCell ⟨wr.heap.size, 3, none⟩ (.int .i64 s)).cell? ⟨w.heap.size + 1, 0, none⟩ = some (.int .i64 a.1) := far4 ne1 T0
              have T1 : ((((uw6.setCell ⟨wr.heap.size, 0, none⟩ (.int .i64 x)).setCell ⟨wr.heap.size, 1, none⟩ (.int .i64 y)).setCell ⟨wr.heap.size, 2, none⟩ (.int .i64 z)).setCell ⟨wr.heap.size, 3, none⟩ (.int .i64 s)).cell? ⟨w.heap.size + 1, 1, none⟩ = some (.int .i64 a.2.1) := far4 ne1 T1
              have T2 : ((((uw6.setCell ⟨wr.heap.size, 0, none⟩ (.int .i64 x)).setCell ⟨wr.heap.size, 1, none⟩ (.int .i64 y)).setCell ⟨wr.heap.size, 2, none⟩ (.int .i64 z)).setCell ⟨wr.heap.size, 3, none⟩ (.int .i64 s)).cell? ⟨w.heap.size + 1, 2, none⟩ = some (.int .i64 a.2.2.1) := far4 ne1 T2
              have T3 : ((((uw6.setCell ⟨wr.heap.size, 0, none⟩ (.int .i64 x)).setCell ⟨wr.heap.size, 1, none⟩ (.int .i64 y)).setCell ⟨wr.heap.size, 2, none⟩ (.int .i64 z)).setCell ⟨wr.heap.size, 3, none⟩ (.int .i64 s)).cell? ⟨w.heap.size + 1, 3, none⟩ = some (.int .i64 a.2.2.2) := far4 ne1 T3
              have c0 : ((((uw6.setCell ⟨wr.heap.size, 0, none⟩ (.int .i64 x)).setCell ⟨wr.heap.size, 1, none⟩ (.int .i64 y)).setCell ⟨wr.heap.size, 2, none⟩ (.int .i64 z)).setCell ⟨wr.heap.size, 3, none⟩ (.int .i64 s)).cell? ⟨b, o + j * 4, none⟩ = some (.int .i64 e.1) := far4 ne2 c0
              have c1 : ((((uw6.setCell ⟨wr.heap.size, 0, none⟩ (.int .i64 x)).setCell ⟨wr.heap.size, 1, none⟩ (.int .i64 y)).setCell ⟨wr.heap.size, 2, none⟩ (.int .i64 z)).setCell ⟨wr.heap.size, 3, none⟩ (.int .i64 s)).cell? ⟨b, o + j * 4 + 1, none⟩ = some (.int .i64 e.2.1) := far4 ne2 c1
              have c2 : ((((uw6.setCell ⟨wr.heap.size, 0, none⟩ (.int .i64 x)).setCell ⟨wr.heap.size, 1, none⟩ (.int .i64 y)).setCell ⟨wr.heap.size, 2, none⟩ (.int .i64 z)).setCell ⟨wr.heap.size, 3, none⟩ (.int .i64 s)).cell? ⟨b, o + j * 4 + 2, none⟩ = some (.int .i64 e.2.2.1) := far4 ne2 c2
              have c3 : ((((uw6.setCell ⟨wr.heap.size, 0, none⟩ (.int .i64 x)).setCell ⟨wr.heap.size, 1, none⟩ (.int .i64 y)).setCell ⟨wr.heap.size, 2, none⟩ (.int .i64 z)).setCell ⟨wr.heap.size, 3, none⟩ (.int .i64 s)).cell? ⟨b, o + j * 4 + 3, none⟩ = some (.int .i64 e.2.2.2) := far4 ne2 c3
              have fr0 : ((((uw6.setCell ⟨wr.heap.size, 0, none⟩ (.int .i64 x)).setCell ⟨wr.heap.size, 1, none⟩ (.int .i64 y)).setCell ⟨wr.heap.size, 2, none⟩ (.int .i64 z)).setCell ⟨wr.heap.size, 3, none⟩ (.int .i64 s)).frozen? ⟨w.heap.size, 0, none⟩ = false := by simpa [World.frozen?_setCell] using fr0
              have fr1 : ((((uw6.setCell ⟨wr.heap.size, 0, none⟩ (.int .i64 x)).setCell ⟨wr.heap.size, 1, none⟩ (.int .i64 y)).setCell ⟨wr.heap.size, 2, none⟩ (.int .i64 z)).setCell ⟨wr.heap.size, 3, none⟩ (.int .i64 s)).frozen? ⟨w.heap.size, 1, none⟩ = false := by simpa [World.frozen?_setCell] using fr1
              have fr2 : ((((uw6.setCell ⟨wr.heap.size, 0, none⟩ (.int .i64 x)).setCell ⟨wr.heap.size, 1, none⟩ (.int .i64 y)).setCell ⟨wr.heap.size, 2, none⟩ (.int .i64 z)).setCell ⟨wr.heap.size, 3, none⟩ (.int .i64 s)).frozen? ⟨w.heap.size, 2, none⟩ = false := by simpa [World.frozen?_setCell] using fr2
              have fr3 : ((((uw6.setCell ⟨wr.heap.size, 0, none⟩ (.int .i64 x)).setCell ⟨wr.heap.size, 1, none⟩ (.int .i64 y)).setCell ⟨wr.heap.size, 2, none⟩ (.int .i64 z)).setCell ⟨wr.heap.size, 3, none⟩ (.int .i64 s)).frozen? ⟨w.heap.size, 3, none⟩ = false := by simpa [World.frozen?_setCell] using fr3
              have fT0 : ((((uw6.setCell ⟨wr.heap.size, 0, none⟩ (.int .i64 x)).setCell ⟨wr.heap.size, 1, none⟩ (.int .i64 y)).setCell ⟨wr.heap.size, 2, none⟩ (.int .i64 z)).setCell ⟨wr.heap.size, 3, none⟩ (.int .i64 s)).frozen? ⟨w.heap.size + 1, 0, none⟩ = false := by simpa [World.frozen?_setCell] using fT0
              have fT1 : ((((uw6.setCell ⟨wr.heap.size, 0, none⟩ (.int .i64 x)).setCell ⟨wr.heap.size, 1, none⟩ (.int .i64 y)).setCell ⟨wr.heap.size, 2, none⟩ (.int .i64 z)).setCell ⟨wr.heap.size, 3, none⟩ (.int .i64 s)).frozen? ⟨w.heap.size + 1, 1, none⟩ = false := by simpa [World.frozen?_setCell] using fT1
              have fT2 : ((((uw6.setCell ⟨wr.heap.size, 0, none⟩ (.int .i64 x)).setCell ⟨wr.heap.size, 1, none⟩ (.int .i64 y)).setCell ⟨wr.heap.size, 2, none⟩ (.int .i64 z)).setCell ⟨wr.heap.size, 3, none⟩ (.int .i64 s)).frozen? ⟨w.heap.size + 1, 2, none⟩ = false := by simpa [World.frozen?_setCell] using fT2
              have fT3 : ((((uw6.setCell ⟨wr.heap.size, 0, none⟩ (.int .i64 x)).setCell ⟨wr.heap.size, 1, none⟩ (.int .i64 y)).setCell ⟨wr.heap.size, 2, none⟩ (.int .i64 z)).setCell ⟨wr.heap.size, 3, none⟩ (.int .i64 s)).frozen? ⟨w.heap.size + 1, 3, none⟩ = false := by simpa [World.frozen?_setCell] using fT3
              have hst := st4 (x := .int .i64 x) (y := .int .i64 y) (z := .int .i64 z) (t := .int .i64 s) m0 m1 m2 m3
              obtain ⟨s0, s1, s2, s3⟩ := hst
              have KS : Below w.heap.size w ((((uw6.setCell ⟨wr.heap.size, 0, none⟩ (.int .i64 x)).setCell ⟨wr.heap.size, 1, none⟩ (.int .i64 y)).setCell ⟨wr.heap.size, 2, none⟩ (.int .i64 z)).setCell ⟨wr.heap.size, 3, none⟩ (.int .i64 s)) := (Below.setCell (Below.setCell (Below.setCell (Below.setCell KC (by dsimp only; omega) _) (by dsimp only; omega) _) (by dsimp only; omega) _) (by dsimp only; omega) _)
              have lm : wr.heap.size < ((((uw6.setCell ⟨wr.heap.size, 0, none⟩ (.int .i64 x)).setCell ⟨wr.heap.size, 1, none⟩ (.int .i64 y)).setCell ⟨wr.heap.size, 2, none⟩ (.int .i64 z)).setCell ⟨wr.heap.size, 3, none⟩ (.int .i64 s)).heap.size := World.block_lt_of_cell? _ _ s0
              have lo0 : w.heap.size < ((((uw6.setCell ⟨wr.heap.size, 0, none⟩ (.int .i64 x)).setCell ⟨wr.heap.size, 1, none⟩ (.int .i64 y)).setCell ⟨wr.heap.size, 2, none⟩ (.int .i64 z)).setCell ⟨wr.heap.size, 3, none⟩ (.int .i64 s)).heap.size := by simp; omega
              have lo1 : w.heap.size + 1 < ((((uw6.setCell ⟨wr.heap.size, 0, none⟩ (.int .i64 x)).setCell ⟨wr.heap.size, 1, none⟩ (.int .i64 y)).setCell ⟨wr.heap.size, 2, none⟩ (.int .i64 z)).setCell ⟨wr.heap.size, 3, none⟩ (.int .i64 s)).heap.size := by simp; omega
              have lo2 : b < ((((uw6.setCell ⟨wr.heap.size, 0, none⟩ (.int .i64 x)).setCell ⟨wr.heap.size, 1, none⟩ (.int .i64 y)).setCell ⟨wr.heap.size, 2, none⟩ (.int .i64 z)).setCell ⟨wr.heap.size, 3, none⟩ (.int .i64 s)).heap.size := by simp; omega
              clear KC m0 fm0 m1 fm1 m2 fm2 m3 fm3
              generalize ((((uw6.setCell ⟨wr.heap.size, 0, none⟩ (.int .i64 x)).setCell ⟨wr.heap.size, 1, none⟩ (.int .i64 y)).setCell ⟨wr.heap.size, 2, none⟩ (.int .i64 z)).setCell ⟨wr.heap.size, 3, none⟩ (.int .i64 s)) = gs at *
              refine bodyPost_ret (v := F5 (0, 0, 0, 0, f)) (by simp [results, Try.results12, go_sem, r0, r1, r2, r3, fr0, fr1, fr2, fr3, s0, s1, s2, s3, lo0, Nat.lt_succ_of_lt lo0]) rfl ⟨rfl, ?_⟩; (repeat' (first | (with_reducible exact Below.refl _ _) | (with_reducible exact KS) | (with_reducible exact KS.size) | (with_reducible refine Below.alloc ?_ ?_ _) | (with_reducible refine Below.setCell ?_ ?_ _) | (with_reducible refine below_drewN ?_ _) | (simp; done) | omega | (simp; omega)))
        · have ej : j = n := by omega
          subst ej
          have hAA : A = (a.1, a.2.1, a.2.2.1, a.2.2.2, 0) := by rw [← hF.out, ← HR.out, drf_end]
          subst hAA
          have g1 : decide ((j : Int) < j) = false := by simp
          clear hF hT AP
          go_wp2
          refine bodyPost_ret (v := F5 (a.1, a.2.1, a.2.2.1, a.2.2.2, 0)) (by simp [results, Try.results12, go_sem, r0, r1, r2, r3, fr0, fr1, fr2, fr3, T0, T1, T2, T3, lr, lT]) rfl ⟨rfl, ?_⟩; (repeat' (first | (with_reducible exact Below.refl _ _) | (with_reducible exact KB) | (with_reducible exact KB.size) | (with_reducible refine Below.alloc ?_ ?_ _) | (with_reducible refine Below.setCell ?_ ?_ _) | (with_reducible refine below_drewN ?_ _) | (simp; done) | omega | (simp; omega)))
end Go.Proofs.Ythkhlhibhkdkkaa.Va
