/- Reduce of the reference. -/
import Derived.Test.YtikcinkbkakkmaaGreatDoorV23
import Derived.Test.YtikcinkbkakkmaaGreatDoorV19
import Derived.Test.YtikcinkbkakkmaaGreatDoorRk

namespace Go.Proofs.YtikcinkbkakkmaaGreatDoor.Va
open Go.ChangeShapes Go.WideShapes Go.ChangeAt Go.RowKit
open Fr Fx
set_option maxRecDepth 8000
set_option linter.unusedVariables false
set_option linter.unusedSimpArgs false

set_option maxRecDepth 100000 in
set_option maxHeartbeats 16000000 in
theorem r_red (fold K B F R O : Int) (p : Option Addr) (xs : List (Int × Int)) (c : Nat) (w : World) (hn : xs.length ≤ maxLen) (hc : xs.length ≤ c) (RA : Hid (SlV w p xs)) :
    Calls Tryz.prog 13 #[.int .i64 fold, T5 K B F R O, .slice p xs.length c] w (Ret (F3 (rdv fold K B F R O xs)) w) := by
  have HN := Lib.hid hn
  have hn2 : xs.length ≤ 9223372036854775807 := Nat.le_trans hn (by decide)
  clear hn
  cases hk : known fold
  · rw [show rdv fold K B F R O xs = (0, 0, 1) by unfold rdv; rw [if_pos hk]]
    unfold known at hk
    rw [decide_eq_false_iff_not] at hk
    by_cases h1 : fold < 1
    · have g1 : decide (fold < 1) = true := by simpa using h1
      clear hk h1 RA
      go_enter Tryz.func13, Tryz.ntmps13
      go_wp2
      refine bodyPost_ret (v := Frac3 0 0 1) (by simp [results, Tryz.results13, go_sem]) rfl ⟨rfl, ?_⟩; (repeat' (first | (with_reducible exact Below.refl _ _) | (with_reducible refine Below.alloc ?_ ?_ _) | (with_reducible refine Below.setCell ?_ ?_ _) | (with_reducible refine below_drewN ?_ _) | (simp; done) | omega | (simp; omega)))
    · have g1 : decide (fold < 1) = false := by simpa using h1
      have g2 : decide (5 < fold) = true := by simp; omega
      clear hk h1 RA
      go_enter Tryz.func13, Tryz.ntmps13
      go_wp2
      refine bodyPost_ret (v := Frac3 0 0 1) (by simp [results, Tryz.results13, go_sem]) rfl ⟨rfl, ?_⟩; (repeat' (first | (with_reducible exact Below.refl _ _) | (with_reducible refine Below.alloc ?_ ?_ _) | (with_reducible refine Below.setCell ?_ ?_ _) | (with_reducible refine below_drewN ?_ _) | (simp; done) | omega | (simp; omega)))
  have hk' := hk
  unfold known at hk'
  rw [decide_eq_true_iff] at hk'
  have g1 : decide (fold < 1) = false := by simp; omega
  have g2 : decide (5 < fold) = false := by simp; omega
  clear hk'
  have VT := Lib.hid fun w => b_ty K B F R O w
  cases ht : ty K B F R O
  · rw [show rdv fold K B F R O xs = (0, 0, 10) by unfold rdv; rw [if_neg (by rw [hk]; decide), if_pos ht]]
    rw [ht] at VT
    clear hk ht RA
    go_enter Tryz.func13, Tryz.ntmps13
    go_wp2_with (first | (go_at_call 29; (with_reducible refine (VT.out _).mono ?_); rintro e w1 ⟨rfl, hb1⟩; have hc1 := (bcell hb1).1; have hf1 := (bcell hb1).2; have z1_0 : w.heap.size < w1.heap.size := (by have hzz := hb1.size; (try simp at hzz); omega); have z1_1 : w.heap.size + 1 < w1.heap.size := (by have hzz := hb1.size; (try simp at hzz); omega); have K1 : Below w.heap.size w w1 := Below.trans (b := _) (by (repeat' (first | (with_reducible exact Below.refl _ _) | (with_reducible refine Below.alloc ?_ ?_ _) | (with_reducible refine Below.setCell ?_ ?_ _) | (with_reducible refine below_drewN ?_ _) | (simp; done) | omega | (simp; omega)))) (hb1.mono (by have hzz := hb1.size; (try simp at hzz); first | omega | (simp; done) | (simp; omega)))))
    refine bodyPost_ret (v := Frac3 0 0 10) (by simp [results, Tryz.results13, go_sem, hc1, hf1, z1_0, Nat.lt_succ_of_lt z1_0, Nat.ne_of_lt z1_0, Nat.ne_of_gt z1_0, z1_1, Nat.lt_succ_of_lt z1_1, Nat.ne_of_lt z1_1, Nat.ne_of_gt z1_1]) rfl ⟨rfl, ?_⟩; (repeat' (first | (with_reducible exact Below.refl _ _) | (with_reducible exact K1) | (with_reducible refine Below.alloc ?_ ?_ _) | (with_reducible refine Below.setCell ?_ ?_ _) | (with_reducible refine below_drewN ?_ _) | (simp; done) | omega | (simp; omega)))
  rw [ht] at VT
  have CV := Lib.hid fun n d w => b_vv K B F R O n d w ht
  have ID := Lib.hid fun w => r_id fold K B F R O w
  have OP := Lib.hid fun w => r_op fold w
  have AP := Lib.hid fun a e w => r_ap (opv fold) K B F R O (a : Int × Int).1 a.2 (e : Int × Int).1 e.2 w
  have HV : Hid (∀ r : A3, (if (∃ i, i < xs.length ∧ vv K B F R O (xs.getD i (0, 0)).1 (xs.getD i (0, 0)).2 = false) then (0, 0, 1)
      else rdt fold K B F R O xs : A3) = r → rdv fold K B F R O xs = r) := Lib.hid fun r hr => by
    unfold rdv
    rw [if_neg (by rw [hk]; decide), if_neg (by rw [ht]; decide)]
    exact hr
  clear hk ht
  obtain ⟨A, hA⟩ : ∃ A, rdv fold K B F R O xs = A := ⟨_, rfl⟩
  rw [hA] at HV ⊢
  clear hA
  obtain ⟨oq, hoq⟩ : ∃ q, opv fold = q := ⟨_, rfl⟩
  have HOQ := Lib.hid hoq
  rw [hoq] at OP AP
  clear hoq
  go_enter Tryz.func13, Tryz.ntmps13
  go_wp2_with (first | (go_at_call 29; (with_reducible refine (VT.out _).mono ?_); rintro e w1 ⟨rfl, hb1⟩; have hc1 := (bcell hb1).1; have hf1 := (bcell hb1).2; have z1_0 : w.heap.size < w1.heap.size := (by have hzz := hb1.size; (try simp at hzz); omega); have z1_1 : w.heap.size + 1 < w1.heap.size := (by have hzz := hb1.size; (try simp at hzz); omega); have K1 : Below w.heap.size w w1 := Below.trans (b := _) (by (repeat' (first | (with_reducible exact Below.refl _ _) | (with_reducible refine Below.alloc ?_ ?_ _) | (with_reducible refine Below.setCell ?_ ?_ _) | (with_reducible refine below_drewN ?_ _) | (simp; done) | omega | (simp; omega)))) (hb1.mono (by have hzz := hb1.size; (try simp at hzz); first | omega | (simp; done) | (simp; omega)))))
  have hS : Hid (w1.cell? ⟨w.heap.size, 0, none⟩ = some (.int .i64 K) ∧ w1.cell? ⟨w.heap.size, 1, none⟩ = some (.int .i64 B) ∧ w1.cell? ⟨w.heap.size, 2, none⟩ = some (.int .i64 F) ∧ w1.cell? ⟨w.heap.size, 3, none⟩ = some (.int .i64 R) ∧ w1.cell? ⟨w.heap.size, 4, none⟩ = some (.int .i64 O) ∧ w1.cell? ⟨w.heap.size + 1, 0, none⟩ = some (.int .i64 0) ∧ w1.cell? ⟨w.heap.size + 1, 1, none⟩ = some (.int .i64 0) ∧ w1.frozen? ⟨w.heap.size + 1, 0, none⟩ = false ∧ w1.frozen? ⟨w.heap.size + 1, 1, none⟩ = false ∧ Below w.heap.size w w1) := Lib.hid ⟨Rg.keep hb1 (by simp <;> omega) (by go_cell), Rg.keep hb1 (by simp <;> omega) (by go_cell), Rg.keep hb1 (by simp <;> omega) (by go_cell), Rg.keep hb1 (by simp <;> omega) (by go_cell), Rg.keep hb1 (by simp <;> omega) (by go_cell), Rg.keep hb1 (by simp <;> omega) (by go_cell), Rg.keep hb1 (by simp <;> omega) (by go_cell), Rg.keepF hb1 (by simp <;> omega) (by simp only [frozen?_alloc_cells]; exact Rg.notFrozen (by omega)), Rg.keepF hb1 (by simp <;> omega) (by simp only [frozen?_alloc_cells]; exact Rg.notFrozen (by omega)), K1⟩
  have HS : Hid (∀ u u' : World, (u.cell? ⟨w.heap.size, 0, none⟩ = some (.int .i64 K) ∧ u.cell? ⟨w.heap.size, 1, none⟩ = some (.int .i64 B) ∧ u.cell? ⟨w.heap.size, 2, none⟩ = some (.int .i64 F) ∧ u.cell? ⟨w.heap.size, 3, none⟩ = some (.int .i64 R) ∧ u.cell? ⟨w.heap.size, 4, none⟩ = some (.int .i64 O) ∧ u.cell? ⟨w.heap.size + 1, 0, none⟩ = some (.int .i64 0) ∧ u.cell? ⟨w.heap.size + 1, 1, none⟩ = some (.int .i64 0) ∧ u.frozen? ⟨w.heap.size + 1, 0, none⟩ = false ∧ u.frozen? ⟨w.heap.size + 1, 1, none⟩ = false ∧ Below w.heap.size w u) → Below u.heap.size u u' → (u'.cell? ⟨w.heap.size, 0, none⟩ = some (.int .i64 K) ∧ u'.cell? ⟨w.heap.size, 1, none⟩ = some (.int .i64 B) ∧ u'.cell? ⟨w.heap.size, 2, none⟩ = some (.int .i64 F) ∧ u'.cell? ⟨w.heap.size, 3, none⟩ = some (.int .i64 R) ∧ u'.cell? ⟨w.heap.size, 4, none⟩ = some (.int .i64 O) ∧ u'.cell? ⟨w.heap.size + 1, 0, none⟩ = some (.int .i64 0) ∧ u'.cell? ⟨w.heap.size + 1, 1, none⟩ = some (.int .i64 0) ∧ u'.frozen? ⟨w.heap.size + 1, 0, none⟩ = false ∧ u'.frozen? ⟨w.heap.size + 1, 1, none⟩ = false ∧ Below w.heap.size w u')) := Lib.hid (fun u u' h hb => ⟨Rg.keep hb (World.block_lt_of_cell? _ _ h.1) h.1, Rg.keep hb (World.block_lt_of_cell? _ _ h.2.1) h.2.1, Rg.keep hb (World.block_lt_of_cell? _ _ h.2.2.1) h.2.2.1, Rg.keep hb (World.block_lt_of_cell? _ _ h.2.2.2.1) h.2.2.2.1, Rg.keep hb (World.block_lt_of_cell? _ _ h.2.2.2.2.1) h.2.2.2.2.1, Rg.keep hb (World.block_lt_of_cell? _ _ h.2.2.2.2.2.1) h.2.2.2.2.2.1, Rg.keep hb (World.block_lt_of_cell? _ _ h.2.2.2.2.2.2.1) h.2.2.2.2.2.2.1, Rg.keepF hb (World.block_lt_of_cell? _ _ h.2.2.2.2.2.1) h.2.2.2.2.2.2.2.1, Rg.keepF hb (World.block_lt_of_cell? _ _ h.2.2.2.2.2.1) h.2.2.2.2.2.2.2.2.1, h.2.2.2.2.2.2.2.2.2.trans (hb.mono h.2.2.2.2.2.2.2.2.2.size)⟩)
  clear VT hb1 hc1 hf1 z1_0 z1_1 K1 g1 g2
  go_loopw [8] (fun i wr => ∃ (j : Nat), i = .int .i64 j ∧ j ≤ xs.length ∧ Hid (wr.cell? ⟨w.heap.size, 0, none⟩ = some (.int .i64 K) ∧ wr.cell? ⟨w.heap.size, 1, none⟩ = some (.int .i64 B) ∧ wr.cell? ⟨w.heap.size, 2, none⟩ = some (.int .i64 F) ∧ wr.cell? ⟨w.heap.size, 3, none⟩ = some (.int .i64 R) ∧ wr.cell? ⟨w.heap.size, 4, none⟩ = some (.int .i64 O) ∧ wr.cell? ⟨w.heap.size + 1, 0, none⟩ = some (.int .i64 0) ∧ wr.cell? ⟨w.heap.size + 1, 1, none⟩ = some (.int .i64 0) ∧ wr.frozen? ⟨w.heap.size + 1, 0, none⟩ = false ∧ wr.frozen? ⟨w.heap.size + 1, 1, none⟩ = false ∧ Below w.heap.size w wr) ∧ Hid (∀ k, k < j → vv K B F R O (xs.getD k (0, 0)).1 (xs.getD k (0, 0)).2 = true)) (fun i _ => xs.length - (intOf i).toNat)
  case atStart => exact ⟨0, rfl, Nat.zero_le _, hS, Lib.hid fun k h => absurd h (Nat.not_lt_zero _)⟩
  case round =>
    obtain ⟨j, rfl, hj, hT, hL⟩ := hrel
    clear hS
    obtain ⟨t0, t1, t2, t3, t4, r0, r1, fr0, fr1, K0⟩ := hT.out
    have lt : w.heap.size < wr.heap.size := World.block_lt_of_cell? _ _ t0
    have lr : w.heap.size + 1 < wr.heap.size := World.block_lt_of_cell? _ _ r0
    have jj : (0 : Int) ≤ j := by omega
    by_cases hlt : j < xs.length
    · obtain ⟨b, o, rfl, c0, c1⟩ := RA.out j hlt
      have j2 : (j : Int) < xs.length := by omega
      have hbw : b < w.heap.size := World.block_lt_of_cell? _ _ c0
      replace c0 := Rg.keep K0 hbw c0
      replace c1 := Rg.keep K0 hbw c1
      obtain ⟨e, he⟩ : ∃ e, xs.getD j (0, 0) = e := ⟨_, rfl⟩
      rw [he] at c0 c1
      have V := Lib.hid fun w => CV.out e.1 e.2 w
      have HE := Lib.hid he
      have hz8 : wr.cell? ⟨w.heap.size, 0, none⟩ = some (.int .i64 K) ∧ wr.cell? ⟨w.heap.size, 1, none⟩ = some (.int .i64 B) ∧ wr.cell? ⟨w.heap.size, 2, none⟩ = some (.int .i64 F) ∧ wr.cell? ⟨w.heap.size, 3, none⟩ = some (.int .i64 R) ∧ wr.cell? ⟨w.heap.size, 4, none⟩ = some (.int .i64 O) ∧ wr.cell? ⟨w.heap.size + 1, 0, none⟩ = some (.int .i64 0) ∧ wr.cell? ⟨w.heap.size + 1, 1, none⟩ = some (.int .i64 0) ∧ wr.cell? ⟨b, o + j * 2, none⟩ = some (.int .i64 e.1) ∧ wr.cell? ⟨b, o + j * 2 + 1, none⟩ = some (.int .i64 e.2) ∧ wr.frozen? ⟨w.heap.size + 1, 0, none⟩ = false ∧ wr.frozen? ⟨w.heap.size + 1, 1, none⟩ = false ∧ Below w.heap.size w wr := ⟨t0, t1, t2, t3, t4, r0, r1, c0, c1, fr0, fr1, K0⟩
      have HS8 : Hid (∀ u u' : World, (u.cell? ⟨w.heap.size, 0, none⟩ = some (.int .i64 K) ∧ u.cell? ⟨w.heap.size, 1, none⟩ = some (.int .i64 B) ∧ u.cell? ⟨w.heap.size, 2, none⟩ = some (.int .i64 F) ∧ u.cell? ⟨w.heap.size, 3, none⟩ = some (.int .i64 R) ∧ u.cell? ⟨w.heap.size, 4, none⟩ = some (.int .i64 O) ∧ u.cell? ⟨w.heap.size + 1, 0, none⟩ = some (.int .i64 0) ∧ u.cell? ⟨w.heap.size + 1, 1, none⟩ = some (.int .i64 0) ∧ u.cell? ⟨b, o + j * 2, none⟩ = some (.int .i64 e.1) ∧ u.cell? ⟨b, o + j * 2 + 1, none⟩ = some (.int .i64 e.2) ∧ u.frozen? ⟨w.heap.size + 1, 0, none⟩ = false ∧ u.frozen? ⟨w.heap.size + 1, 1, none⟩ = false ∧ Below w.heap.size w u) → Below u.heap.size u u' → (u'.cell? ⟨w.heap.size, 0, none⟩ = some (.int .i64 K) ∧ u'.cell? ⟨w.heap.size, 1, none⟩ = some (.int .i64 B) ∧ u'.cell? ⟨w.heap.size, 2, none⟩ = some (.int .i64 F) ∧ u'.cell? ⟨w.heap.size, 3, none⟩ = some (.int .i64 R) ∧ u'.cell? ⟨w.heap.size, 4, none⟩ = some (.int .i64 O) ∧ u'.cell? ⟨w.heap.size + 1, 0, none⟩ = some (.int .i64 0) ∧ u'.cell? ⟨w.heap.size + 1, 1, none⟩ = some (.int .i64 0) ∧ u'.cell? ⟨b, o + j * 2, none⟩ = some (.int .i64 e.1) ∧ u'.cell? ⟨b, o + j * 2 + 1, none⟩ = some (.int .i64 e.2) ∧ u'.frozen? ⟨w.heap.size + 1, 0, none⟩ = false ∧ u'.frozen? ⟨w.heap.size + 1, 1, none⟩ = false ∧ Below w.heap.size w u')) := Lib.hid (fun u u' h hb => ⟨Rg.keep hb (World.block_lt_of_cell? _ _ h.1) h.1, Rg.keep hb (World.block_lt_of_cell? _ _ h.2.1) h.2.1, Rg.keep hb (World.block_lt_of_cell? _ _ h.2.2.1) h.2.2.1, Rg.keep hb (World.block_lt_of_cell? _ _ h.2.2.2.1) h.2.2.2.1, Rg.keep hb (World.block_lt_of_cell? _ _ h.2.2.2.2.1) h.2.2.2.2.1, Rg.keep hb (World.block_lt_of_cell? _ _ h.2.2.2.2.2.1) h.2.2.2.2.2.1, Rg.keep hb (World.block_lt_of_cell? _ _ h.2.2.2.2.2.2.1) h.2.2.2.2.2.2.1, Rg.keep hb (World.block_lt_of_cell? _ _ h.2.2.2.2.2.2.2.1) h.2.2.2.2.2.2.2.1, Rg.keep hb (World.block_lt_of_cell? _ _ h.2.2.2.2.2.2.2.2.1) h.2.2.2.2.2.2.2.2.1, Rg.keepF hb (World.block_lt_of_cell? _ _ h.2.2.2.2.2.1) h.2.2.2.2.2.2.2.2.2.1, Rg.keepF hb (World.block_lt_of_cell? _ _ h.2.2.2.2.2.1) h.2.2.2.2.2.2.2.2.2.2.1, h.2.2.2.2.2.2.2.2.2.2.2.trans (hb.mono h.2.2.2.2.2.2.2.2.2.2.2.size)⟩)
      clear t0 t1 t2 t3 t4 r0 r1 c0 c1 fr0 fr1 K0
      cases hv : vv K B F R O e.1 e.2
      · rw [hv] at V
        have hA := HV.out (0, 0, 1) (by rw [if_pos ⟨j, hlt, by rw [he]; exact hv⟩])
        subst hA
        clear he hv HV AP ID CV hT hL
        go_wp2_with fail
        refine Rk.begin (S := fun wS => wS.cell? ⟨w.heap.size, 0, none⟩ = some (.int .i64 K) ∧ wS.cell? ⟨w.heap.size, 1, none⟩ = some (.int .i64 B) ∧ wS.cell? ⟨w.heap.size, 2, none⟩ = some (.int .i64 F) ∧ wS.cell? ⟨w.heap.size, 3, none⟩ = some (.int .i64 R) ∧ wS.cell? ⟨w.heap.size, 4, none⟩ = some (.int .i64 O) ∧ wS.cell? ⟨w.heap.size + 1, 0, none⟩ = some (.int .i64 0) ∧ wS.cell? ⟨w.heap.size + 1, 1, none⟩ = some (.int .i64 0) ∧ wS.cell? ⟨b, o + j * 2, none⟩ = some (.int .i64 e.1) ∧ wS.cell? ⟨b, o + j * 2 + 1, none⟩ = some (.int .i64 e.2) ∧ wS.frozen? ⟨w.heap.size + 1, 0, none⟩ = false ∧ wS.frozen? ⟨w.heap.size + 1, 1, none⟩ = false ∧ Below w.heap.size w wS) 6 (by kernel_rfl) (HS8.out _ _ hz8 (Below.drew (Below.refl _ _))) (fun hHeld => ?_)
        refine Rk.take [5, 6] (i := 0) (v := ?_) rfl (by kernel_rfl) (by kernel_rfl) (by kernel_rfl) (by kernel_rfl) (by kernel_rfl) (fun _ _ _ h => h) (Or.inl ⟨by kernel_rfl, ?_⟩) (by assumption) ?_
        rotate_left
        · ((intro w hSw; (try dsimp only at hSw); go_simp) <;> with_reducible rfl)
        try simp only [Act.put, List.setIfInBounds_toArray, List.set_cons_zero, List.set_cons_succ]
        refine Rk.takeP (i := 1) (v := ?_) rfl (by kernel_rfl) (by kernel_rfl) (by kernel_rfl) (by kernel_rfl) (fun _ _ _ h => h) (Or.inl ⟨by kernel_rfl, ?_⟩) (by assumption) ?_
        rotate_left
        · ((intro w hSw; go_simp) <;> with_reducible rfl)
        try simp only [Act.put, List.setIfInBounds_toArray, List.set_cons_zero, List.set_cons_succ]
        refine Rk.takeP (i := 2) (v := ?_) rfl (by kernel_rfl) (by kernel_rfl) (by kernel_rfl) (by kernel_rfl) (fun _ _ _ h => h) (Or.inl ⟨by kernel_rfl, ?_⟩) (by assumption) ?_
        rotate_left
        · ((intro w hSw; go_simp) <;> with_reducible rfl)
        try simp only [Act.put, List.setIfInBounds_toArray, List.set_cons_zero, List.set_cons_succ]
        refine Rk.takeP (i := 3) (v := ?_) rfl (by kernel_rfl) (by kernel_rfl) (by kernel_rfl) (by kernel_rfl) (fun _ _ _ h => h) (Or.inl ⟨by kernel_rfl, ?_⟩) (by assumption) ?_
        rotate_left
        · ((intro w hSw; go_simp) <;> with_reducible rfl)
        try simp only [Act.put, List.setIfInBounds_toArray, List.set_cons_zero, List.set_cons_succ]
        refine Rk.take [5, 6] (i := 4) (v := ?_) rfl (by kernel_rfl) (by kernel_rfl) (by kernel_rfl) (by kernel_rfl) (by kernel_rfl) (fun _ _ _ h => h) (Or.inl ⟨by kernel_rfl, ?_⟩) (by assumption) ?_
        rotate_left
        · ((intro w hSw; (try dsimp only at hSw); go_simp) <;> with_reducible rfl)
        try simp only [Act.put, List.setIfInBounds_toArray, List.set_cons_zero, List.set_cons_succ]
        refine Rk.one (i := 5) (by kernel_rfl) rfl (fun KK hK => ?_)
        rw [if_pos (by kernel_rfl)]
        go_simp
        ((with_reducible refine (V.out _).mono ?_); rintro e u ⟨rfl, hb⟩)
        first | (refine hK.out _ _ (fun _ => HS8.out _ _ hHeld hb) (fun hHeld => ?_)) | (refine hK.out _ _ (HS8.out _ _ hHeld hb) (fun hHeld => ?_)) | (go_wp2_with fail; refine hK.out _ _ (HS8.out _ _ hHeld hb) (fun hHeld => ?_))
        clear hK KK
        refine Rk.tail [6] [_] (by kernel_rfl) (by kernel_rfl) rfl (by decide) ?_
        obtain ⟨t0, t1, t2, t3, t4, r0, r1, c0, c1, fr0, fr1, K9⟩ := hHeld
        clear hz8 HS8
        have lr : w.heap.size + 1 < u.heap.size := World.block_lt_of_cell? _ _ r0
        go_wp2
        refine bodyPost_ret (v := Frac3 0 0 1) (by simp [results, Tryz.results13, go_sem, r0, r1, fr0, fr1, lr]) rfl ⟨rfl, ?_⟩; (repeat' (first | (with_reducible exact Below.refl _ _) | (with_reducible exact K9) | (with_reducible refine Below.alloc ?_ ?_ _) | (with_reducible refine Below.setCell ?_ ?_ _) | (with_reducible refine below_drewN ?_ _) | (simp; done) | omega | (simp; omega)))
      · rw [hv] at V
        have hv2 := Lib.hid hv
        clear he hv
        go_wp2_with fail
        refine Rk.begin (S := fun wS => wS.cell? ⟨w.heap.size, 0, none⟩ = some (.int .i64 K) ∧ wS.cell? ⟨w.heap.size, 1, none⟩ = some (.int .i64 B) ∧ wS.cell? ⟨w.heap.size, 2, none⟩ = some (.int .i64 F) ∧ wS.cell? ⟨w.heap.size, 3, none⟩ = some (.int .i64 R) ∧ wS.cell? ⟨w.heap.size, 4, none⟩ = some (.int .i64 O) ∧ wS.cell? ⟨w.heap.size + 1, 0, none⟩ = some (.int .i64 0) ∧ wS.cell? ⟨w.heap.size + 1, 1, none⟩ = some (.int .i64 0) ∧ wS.cell? ⟨b, o + j * 2, none⟩ = some (.int .i64 e.1) ∧ wS.cell? ⟨b, o + j * 2 + 1, none⟩ = some (.int .i64 e.2) ∧ wS.frozen? ⟨w.heap.size + 1, 0, none⟩ = false ∧ wS.frozen? ⟨w.heap.size + 1, 1, none⟩ = false ∧ Below w.heap.size w wS) 6 (by kernel_rfl) (HS8.out _ _ hz8 (Below.drew (Below.refl _ _))) (fun hHeld => ?_)
        refine Rk.take [5, 6] (i := 0) (v := ?_) rfl (by kernel_rfl) (by kernel_rfl) (by kernel_rfl) (by kernel_rfl) (by kernel_rfl) (fun _ _ _ h => h) (Or.inl ⟨by kernel_rfl, ?_⟩) (by assumption) ?_
        rotate_left
        · ((intro w hSw; (try dsimp only at hSw); go_simp) <;> with_reducible rfl)
        try simp only [Act.put, List.setIfInBounds_toArray, List.set_cons_zero, List.set_cons_succ]
        refine Rk.takeP (i := 1) (v := ?_) rfl (by kernel_rfl) (by kernel_rfl) (by kernel_rfl) (by kernel_rfl) (fun _ _ _ h => h) (Or.inl ⟨by kernel_rfl, ?_⟩) (by assumption) ?_
        rotate_left
        · ((intro w hSw; go_simp) <;> with_reducible rfl)
        try simp only [Act.put, List.setIfInBounds_toArray, List.set_cons_zero, List.set_cons_succ]
        refine Rk.takeP (i := 2) (v := ?_) rfl (by kernel_rfl) (by kernel_rfl) (by kernel_rfl) (by kernel_rfl) (fun _ _ _ h => h) (Or.inl ⟨by kernel_rfl, ?_⟩) (by assumption) ?_
        rotate_left
        · ((intro w hSw; go_simp) <;> with_reducible rfl)
        try simp only [Act.put, List.setIfInBounds_toArray, List.set_cons_zero, List.set_cons_succ]
        refine Rk.takeP (i := 3) (v := ?_) rfl (by kernel_rfl) (by kernel_rfl) (by kernel_rfl) (by kernel_rfl) (fun _ _ _ h => h) (Or.inl ⟨by kernel_rfl, ?_⟩) (by assumption) ?_
        rotate_left
        · ((intro w hSw; go_simp) <;> with_reducible rfl)
        try simp only [Act.put, List.setIfInBounds_toArray, List.set_cons_zero, List.set_cons_succ]
        refine Rk.take [5, 6] (i := 4) (v := ?_) rfl (by kernel_rfl) (by kernel_rfl) (by kernel_rfl) (by kernel_rfl) (by kernel_rfl) (fun _ _ _ h => h) (Or.inl ⟨by kernel_rfl, ?_⟩) (by assumption) ?_
        rotate_left
        · ((intro w hSw; (try dsimp only at hSw); go_simp) <;> with_reducible rfl)
        try simp only [Act.put, List.setIfInBounds_toArray, List.set_cons_zero, List.set_cons_succ]
        refine Rk.one (i := 5) (by kernel_rfl) rfl (fun KK hK => ?_)
        rw [if_pos (by kernel_rfl)]
        go_simp
        ((with_reducible refine (V.out _).mono ?_); rintro e u ⟨rfl, hb⟩)
        first | (refine hK.out _ _ (fun _ => HS8.out _ _ hHeld hb) (fun hHeld => ?_)) | (refine hK.out _ _ (HS8.out _ _ hHeld hb) (fun hHeld => ?_)) | (go_wp2_with fail; refine hK.out _ _ (HS8.out _ _ hHeld hb) (fun hHeld => ?_))
        clear hK KK
        refine Rk.tail [6] [_] (by kernel_rfl) (by kernel_rfl) rfl (by decide) ?_
        obtain ⟨t0, t1, t2, t3, t4, r0, r1, c0, c1, fr0, fr1, K9⟩ := hHeld
        clear hz8 HS8
        have hN : Hid (u.cell? ⟨w.heap.size, 0, none⟩ = some (.int .i64 K) ∧ u.cell? ⟨w.heap.size, 1, none⟩ = some (.int .i64 B) ∧ u.cell? ⟨w.heap.size, 2, none⟩ = some (.int .i64 F) ∧ u.cell? ⟨w.heap.size, 3, none⟩ = some (.int .i64 R) ∧ u.cell? ⟨w.heap.size, 4, none⟩ = some (.int .i64 O) ∧ u.cell? ⟨w.heap.size + 1, 0, none⟩ = some (.int .i64 0) ∧ u.cell? ⟨w.heap.size + 1, 1, none⟩ = some (.int .i64 0) ∧ u.frozen? ⟨w.heap.size + 1, 0, none⟩ = false ∧ u.frozen? ⟨w.heap.size + 1, 1, none⟩ = false ∧ Below w.heap.size w u) := Lib.hid ⟨t0, t1, t2, t3, t4, r0, r1, fr0, fr1, K9⟩
        clear t0 t1 t2 t3 t4 r0 r1 c0 c1 fr0 fr1 K9
        go_wp2_with fail
        case roundEnd =>
          refine ⟨⟨j + 1, by simp, by omega, hN, Lib.hid fun k h => ?_⟩, by simp [intOf]; omega⟩
          rcases (by omega : k < j ∨ k = j) with h | rfl
          · exact hL.out k h
          · rw [HE.out]; exact hv2.out
    · have ej : j = xs.length := by omega
      subst ej
      have hne : ¬ ∃ i, i < xs.length ∧ vv K B F R O (xs.getD i (0, 0)).1 (xs.getD i (0, 0)).2 = false := by
        rintro ⟨i, h1, h2⟩
        rw [hL.out i h1] at h2
        cases h2
      have HW := Lib.hid fun r h => HV.out r (by rw [if_neg hne]; exact h)
      clear HV hL hne
      cases xs with
      | nil =>
        obtain ⟨q, hq⟩ : ∃ q, idv fold K B F R O = q := ⟨_, rfl⟩
        rw [hq] at ID
        obtain ⟨x, y, f⟩ := q
        cases f
        · have hA := HW.out (0, 0, 1) (by unfold rdt; rw [hq]; rfl)
          subst hA
          clear HW hq AP CV RA hT
          go_wp2_with (first | (go_at_call 15; (with_reducible refine (ID.out _).mono ?_); rintro e w5 ⟨rfl, hb5⟩; have hc5 := (bcell hb5).1; have hf5 := (bcell hb5).2; have z5_0 : w.heap.size < w5.heap.size := (by have hzz := hb5.size; (try simp at hzz); omega); have z5_1 : w.heap.size + 1 < w5.heap.size := (by have hzz := hb5.size; (try simp at hzz); omega); have K5 : Below w.heap.size w w5 := Below.trans (b := _) (by (repeat' (first | (with_reducible exact Below.refl _ _) | (with_reducible exact K0) | (with_reducible refine Below.alloc ?_ ?_ _) | (with_reducible refine Below.setCell ?_ ?_ _) | (with_reducible refine below_drewN ?_ _) | (simp; done) | omega | (simp; omega)))) (hb5.mono (by have hzz := hb5.size; (try simp at hzz); first | omega | (simp; done) | (simp; omega)))))
          refine bodyPost_ret (v := Frac3 0 0 1) (by simp [results, Tryz.results13, go_sem, hc5, hf5, z5_0, Nat.lt_succ_of_lt z5_0, Nat.ne_of_lt z5_0, Nat.ne_of_gt z5_0, z5_1, Nat.lt_succ_of_lt z5_1, Nat.ne_of_lt z5_1, Nat.ne_of_gt z5_1, r0, r1, fr0, fr1, lr, Nat.lt_succ_of_lt lr]) rfl ⟨rfl, ?_⟩; (repeat' (first | (with_reducible exact Below.refl _ _) | (with_reducible exact K5) | (with_reducible refine Below.alloc ?_ ?_ _) | (with_reducible refine Below.setCell ?_ ?_ _) | (with_reducible refine below_drewN ?_ _) | (simp; done) | omega | (simp; omega)))
        · have hA := HW.out (x, y, 0) (by unfold rdt; rw [hq]; rfl)
          subst hA
          clear HW hq AP CV RA hT
          go_wp2_with (first | (go_at_call 15; (with_reducible refine (ID.out _).mono ?_); rintro e w5 ⟨rfl, hb5⟩; have hc5 := (bcell hb5).1; have hf5 := (bcell hb5).2; have z5_0 : w.heap.size < w5.heap.size := (by have hzz := hb5.size; (try simp at hzz); omega); have z5_1 : w.heap.size + 1 < w5.heap.size := (by have hzz := hb5.size; (try simp at hzz); omega); have K5 : Below w.heap.size w w5 := Below.trans (b := _) (by (repeat' (first | (with_reducible exact Below.refl _ _) | (with_reducible exact K0) | (with_reducible refine Below.alloc ?_ ?_ _) | (with_reducible refine Below.setCell ?_ ?_ _) | (with_reducible refine below_drewN ?_ _) | (simp; done) | omega | (simp; omega)))) (hb5.mono (by have hzz := hb5.size; (try simp at hzz); first | omega | (simp; done) | (simp; omega)))))
          refine bodyPost_ret (v := Frac3 x y 0) (by simp [results, Tryz.results13, go_sem, hc5, hf5, z5_0, Nat.lt_succ_of_lt z5_0, Nat.ne_of_lt z5_0, Nat.ne_of_gt z5_0, z5_1, Nat.lt_succ_of_lt z5_1, Nat.ne_of_lt z5_1, Nat.ne_of_gt z5_1, r0, r1, fr0, fr1, lr, Nat.lt_succ_of_lt lr]) rfl ⟨rfl, ?_⟩; (repeat' (first | (with_reducible exact Below.refl _ _) | (with_reducible exact K5) | (with_reducible refine Below.alloc ?_ ?_ _) | (with_reducible refine Below.setCell ?_ ?_ _) | (with_reducible refine below_drewN ?_ _) | (simp; done) | omega | (simp; omega)))
      | cons v r =>
        have HW2 : Hid (rdf oq K B F R O r v = A) := Lib.hid (HW.out _ (by unfold rdt; rw [HOQ.out])).symm
        obtain ⟨b, o, hp, c0, c1⟩ := RA.out 0 (by simp)
        subst hp
        simp only [List.getD_cons_zero, Nat.zero_mul, Nat.add_zero] at c0 c1
        have hbw : b < w.heap.size := World.block_lt_of_cell? _ _ c0
        replace c0 := Rg.keep K0 hbw c0
        replace c1 := Rg.keep K0 hbw c1
        have hbr : b < wr.heap.size := World.block_lt_of_cell? _ _ c0
        obtain ⟨xs, hxs⟩ : ∃ xs, v :: r = xs := ⟨_, rfl⟩
        have hx1 : 1 ≤ xs.length := by rw [← hxs]; simp
        have HD : Hid (xs.drop 1 = r) := Lib.hid (by rw [← hxs]; rfl)
        rw [hxs] at RA hc hn2 hj HN ⊢
        clear hxs
        obtain ⟨n, hnn⟩ : ∃ n, xs.length = n := ⟨_, rfl⟩
        have HR := Lib.hid hnn
        rw [hnn] at hc hn2 hx1 ⊢
        clear hnn HW ID CV hlt hj
        have gn : ((n : Int) == 0) = false := by simp; omega
        have gn2 : (0 : Int) < n := by omega
        obtain ⟨wt, hwt⟩ : ∃ wt : World, wt = wr := ⟨wr, rfl⟩
        subst hwt
        have lr0 := lr
        have HS2 : Hid (∀ (a : Int × Int) (u u' : World), (u.cell? ⟨w.heap.size, 0, none⟩ = some (.int .i64 K) ∧ u.cell? ⟨w.heap.size, 1, none⟩ = some (.int .i64 B) ∧ u.cell? ⟨w.heap.size, 2, none⟩ = some (.int .i64 F) ∧ u.cell? ⟨w.heap.size, 3, none⟩ = some (.int .i64 R) ∧ u.cell? ⟨w.heap.size, 4, none⟩ = some (.int .i64 O) ∧ u.cell? ⟨w.heap.size + 1, 0, none⟩ = some (.int .i64 0) ∧ u.cell? ⟨w.heap.size + 1, 1, none⟩ = some (.int .i64 0) ∧ u.cell? ⟨wt.heap.size, 0, none⟩ = some (.int .i64 a.1) ∧ u.cell? ⟨wt.heap.size, 1, none⟩ = some (.int .i64 a.2) ∧ u.frozen? ⟨w.heap.size + 1, 0, none⟩ = false ∧ u.frozen? ⟨w.heap.size + 1, 1, none⟩ = false ∧ u.frozen? ⟨wt.heap.size, 0, none⟩ = false ∧ u.frozen? ⟨wt.heap.size, 1, none⟩ = false ∧ Below w.heap.size w u) → Below u.heap.size u u' → (u'.cell? ⟨w.heap.size, 0, none⟩ = some (.int .i64 K) ∧ u'.cell? ⟨w.heap.size, 1, none⟩ = some (.int .i64 B) ∧ u'.cell? ⟨w.heap.size, 2, none⟩ = some (.int .i64 F) ∧ u'.cell? ⟨w.heap.size, 3, none⟩ = some (.int .i64 R) ∧ u'.cell? ⟨w.heap.size, 4, none⟩ = some (.int .i64 O) ∧ u'.cell? ⟨w.heap.size + 1, 0, none⟩ = some (.int .i64 0) ∧ u'.cell? ⟨w.heap.size + 1, 1, none⟩ = some (.int .i64 0) ∧ u'.cell? ⟨wt.heap.size, 0, none⟩ = some (.int .i64 a.1) ∧ u'.cell? ⟨wt.heap.size, 1, none⟩ = some (.int .i64 a.2) ∧ u'.frozen? ⟨w.heap.size + 1, 0, none⟩ = false ∧ u'.frozen? ⟨w.heap.size + 1, 1, none⟩ = false ∧ u'.frozen? ⟨wt.heap.size, 0, none⟩ = false ∧ u'.frozen? ⟨wt.heap.size, 1, none⟩ = false ∧ Below w.heap.size w u')) := Lib.hid (fun a u u' h hb => ⟨Rg.keep hb (World.block_lt_of_cell? _ _ h.1) h.1, Rg.keep hb (World.block_lt_of_cell? _ _ h.2.1) h.2.1, Rg.keep hb (World.block_lt_of_cell? _ _ h.2.2.1) h.2.2.1, Rg.keep hb (World.block_lt_of_cell? _ _ h.2.2.2.1) h.2.2.2.1, Rg.keep hb (World.block_lt_of_cell? _ _ h.2.2.2.2.1) h.2.2.2.2.1, Rg.keep hb (World.block_lt_of_cell? _ _ h.2.2.2.2.2.1) h.2.2.2.2.2.1, Rg.keep hb (World.block_lt_of_cell? _ _ h.2.2.2.2.2.2.1) h.2.2.2.2.2.2.1, Rg.keep hb (World.block_lt_of_cell? _ _ h.2.2.2.2.2.2.2.1) h.2.2.2.2.2.2.2.1, Rg.keep hb (World.block_lt_of_cell? _ _ h.2.2.2.2.2.2.2.2.1) h.2.2.2.2.2.2.2.2.1, Rg.keepF hb (World.block_lt_of_cell? _ _ h.2.2.2.2.2.1) h.2.2.2.2.2.2.2.2.2.1, Rg.keepF hb (World.block_lt_of_cell? _ _ h.2.2.2.2.2.1) h.2.2.2.2.2.2.2.2.2.2.1, Rg.keepF hb (World.block_lt_of_cell? _ _ h.2.2.2.2.2.2.2.1) h.2.2.2.2.2.2.2.2.2.2.2.1, Rg.keepF hb (World.block_lt_of_cell? _ _ h.2.2.2.2.2.2.2.1) h.2.2.2.2.2.2.2.2.2.2.2.2.1, h.2.2.2.2.2.2.2.2.2.2.2.2.2.trans (hb.mono h.2.2.2.2.2.2.2.2.2.2.2.2.2.size)⟩)
        go_wp2_with fail
        have hS2 : Hid ((wt.alloc (Obj.cells #[Value.int .i64 v.1, Value.int .i64 v.2] 25)).cell? ⟨w.heap.size, 0, none⟩ = some (.int .i64 K) ∧ (wt.alloc (Obj.cells #[Value.int .i64 v.1, Value.int .i64 v.2] 25)).cell? ⟨w.heap.size, 1, none⟩ = some (.int .i64 B) ∧ (wt.alloc (Obj.cells #[Value.int .i64 v.1, Value.int .i64 v.2] 25)).cell? ⟨w.heap.size, 2, none⟩ = some (.int .i64 F) ∧ (wt.alloc (Obj.cells #[Value.int .i64 v.1, Value.int .i64 v.2] 25)).cell? ⟨w.heap.size, 3, none⟩ = some (.int .i64 R) ∧ (wt.alloc (Obj.cells #[Value.int .i64 v.1, Value.int .i64 v.2] 25)).cell? ⟨w.heap.size, 4, none⟩ = some (.int .i64 O) ∧ (wt.alloc (Obj.cells #[Value.int .i64 v.1, Value.int .i64 v.2] 25)).cell? ⟨w.heap.size + 1, 0, none⟩ = some (.int .i64 0) ∧ (wt.alloc (Obj.cells #[Value.int .i64 v.1, Value.int .i64 v.2] 25)).cell? ⟨w.heap.size + 1, 1, none⟩ = some (.int .i64 0) ∧ (wt.alloc (Obj.cells #[Value.int .i64 v.1, Value.int .i64 v.2] 25)).cell? ⟨wt.heap.size, 0, none⟩ = some (.int .i64 v.1) ∧ (wt.alloc (Obj.cells #[Value.int .i64 v.1, Value.int .i64 v.2] 25)).cell? ⟨wt.heap.size, 1, none⟩ = some (.int .i64 v.2) ∧ (wt.alloc (Obj.cells #[Value.int .i64 v.1, Value.int .i64 v.2] 25)).frozen? ⟨w.heap.size + 1, 0, none⟩ = false ∧ (wt.alloc (Obj.cells #[Value.int .i64 v.1, Value.int .i64 v.2] 25)).frozen? ⟨w.heap.size + 1, 1, none⟩ = false ∧ (wt.alloc (Obj.cells #[Value.int .i64 v.1, Value.int .i64 v.2] 25)).frozen? ⟨wt.heap.size, 0, none⟩ = false ∧ (wt.alloc (Obj.cells #[Value.int .i64 v.1, Value.int .i64 v.2] 25)).frozen? ⟨wt.heap.size, 1, none⟩ = false ∧ Below w.heap.size w (wt.alloc (Obj.cells #[Value.int .i64 v.1, Value.int .i64 v.2] 25))) := Lib.hid ⟨Rg.keep ((Below.refl wt.heap.size wt).alloc (Nat.le_refl _) (Obj.cells #[Value.int .i64 v.1, Value.int .i64 v.2] 25)) lt t0, Rg.keep ((Below.refl wt.heap.size wt).alloc (Nat.le_refl _) (Obj.cells #[Value.int .i64 v.1, Value.int .i64 v.2] 25)) lt t1, Rg.keep ((Below.refl wt.heap.size wt).alloc (Nat.le_refl _) (Obj.cells #[Value.int .i64 v.1, Value.int .i64 v.2] 25)) lt t2, Rg.keep ((Below.refl wt.heap.size wt).alloc (Nat.le_refl _) (Obj.cells #[Value.int .i64 v.1, Value.int .i64 v.2] 25)) lt t3, Rg.keep ((Below.refl wt.heap.size wt).alloc (Nat.le_refl _) (Obj.cells #[Value.int .i64 v.1, Value.int .i64 v.2] 25)) lt t4, Rg.keep ((Below.refl wt.heap.size wt).alloc (Nat.le_refl _) (Obj.cells #[Value.int .i64 v.1, Value.int .i64 v.2] 25)) lr r0, Rg.keep ((Below.refl wt.heap.size wt).alloc (Nat.le_refl _) (Obj.cells #[Value.int .i64 v.1, Value.int .i64 v.2] 25)) lr r1, by go_cell, by go_cell, Rg.keepF ((Below.refl wt.heap.size wt).alloc (Nat.le_refl _) (Obj.cells #[Value.int .i64 v.1, Value.int .i64 v.2] 25)) lr fr0, Rg.keepF ((Below.refl wt.heap.size wt).alloc (Nat.le_refl _) (Obj.cells #[Value.int .i64 v.1, Value.int .i64 v.2] 25)) lr fr1, by simp only [frozen?_alloc_cells]; exact Rg.notFrozen (Nat.le_refl _), by simp only [frozen?_alloc_cells]; exact Rg.notFrozen (Nat.le_refl _), K0.alloc K0.size _⟩
        clear hT
        go_loopw [12, 13] (fun ev i wr => ∃ (j : Nat) (a : Int × Int) (z : Int), ev = .int .i64 z ∧ i = .int .i64 j ∧ 1 ≤ j ∧ j ≤ n ∧ Hid (wr.cell? ⟨w.heap.size, 0, none⟩ = some (.int .i64 K) ∧ wr.cell? ⟨w.heap.size, 1, none⟩ = some (.int .i64 B) ∧ wr.cell? ⟨w.heap.size, 2, none⟩ = some (.int .i64 F) ∧ wr.cell? ⟨w.heap.size, 3, none⟩ = some (.int .i64 R) ∧ wr.cell? ⟨w.heap.size, 4, none⟩ = some (.int .i64 O) ∧ wr.cell? ⟨w.heap.size + 1, 0, none⟩ = some (.int .i64 0) ∧ wr.cell? ⟨w.heap.size + 1, 1, none⟩ = some (.int .i64 0) ∧ wr.cell? ⟨wt.heap.size, 0, none⟩ = some (.int .i64 a.1) ∧ wr.cell? ⟨wt.heap.size, 1, none⟩ = some (.int .i64 a.2) ∧ wr.frozen? ⟨w.heap.size + 1, 0, none⟩ = false ∧ wr.frozen? ⟨w.heap.size + 1, 1, none⟩ = false ∧ wr.frozen? ⟨wt.heap.size, 0, none⟩ = false ∧ wr.frozen? ⟨wt.heap.size, 1, none⟩ = false ∧ Below w.heap.size w wr) ∧ Hid ((z = 0 ∧ rdf oq K B F R O (xs.drop j) a = A) ∨ (z ≠ 0 ∧ A = (0, 0, z) ∧ a = (0, 0)))) (fun _ i _ => n - (intOf i).toNat)
        case atStart => exact ⟨1, v, 0, rfl, rfl, Nat.le_refl _, hx1, hS2, Lib.hid (Or.inl ⟨rfl, by rw [HD.out]; exact HW2.out⟩)⟩
        case round =>
          obtain ⟨j, a, z, rfl, rfl, hj1, hj, hT, hF⟩ := hrel
          clear hS2 t0 t1 t2 t3 t4 r0 r1 fr0 fr1 c0 c1 gn gn2
          obtain ⟨t0, t1, t2, t3, t4, r0, r1, T0, T1, fr0, fr1, fT0, fT1, KB⟩ := hT.out
          have lt : w.heap.size < wr.heap.size := World.block_lt_of_cell? _ _ t0
          have lr : w.heap.size + 1 < wr.heap.size := World.block_lt_of_cell? _ _ r0
          have lT : wt.heap.size < wr.heap.size := World.block_lt_of_cell? _ _ T0
          have wT : w.heap.size + 1 < wt.heap.size := lr0
          have jj : (0 : Int) ≤ j := by omega
          by_cases hz : z = 0
          · subst hz
            replace hF : Hid (rdf oq K B F R O (xs.drop j) a = A) := Lib.hid (by
              rcases hF.out with ⟨_, h⟩ | ⟨h, _⟩
              · exact h
              · exact absurd rfl h)
            by_cases hlt : j < n
            · have j2 : (j : Int) < n := by omega
              obtain ⟨b2, o2, hQ2, c0, c1⟩ := RA.out j (by rw [HR.out]; exact hlt)
              cases hQ2
              have hbw2 : b < w.heap.size := World.block_lt_of_cell? _ _ c0
              replace c0 := Rg.keep KB hbw2 c0
              replace c1 := Rg.keep KB hbw2 c1
              have hst := rdf_step (op := oq) (K := K) (B := B) (F := F) (R := R) (O := O) (xs := xs) (i := j) (by rw [HR.out]; exact hlt) a
              obtain ⟨e, he⟩ : ∃ e, xs.getD j (0, 0) = e := ⟨_, rfl⟩
              rw [he] at c0 c1 hst
              have AC := Lib.hid fun w => AP.out a e w
              have herr := @apv_err oq K B F R O a.1 a.2 e.1 e.2
              obtain ⟨q, hq⟩ : ∃ q, apv oq K B F R O a.1 a.2 e.1 e.2 = q := ⟨_, rfl⟩
              rw [hq] at AC hst herr
              obtain ⟨x, y, z⟩ := q
              dsimp only at hst herr
              have HNX : Hid ((z = 0 ∧ rdf oq K B F R O (xs.drop (j + 1)) (x, y) = A) ∨ (z ≠ 0 ∧ A = (0, 0, z) ∧ (x, y) = ((0, 0) : Int × Int))) := Lib.hid (by
                by_cases hz : z = 0
                · left
                  rw [if_pos hz] at hst
                  exact ⟨hz, by rw [← hst]; exact hF.out⟩
                · right
                  rw [if_neg hz] at hst
                  have := herr hz
                  exact ⟨hz, by rw [← hF.out, hst], by cases this; rfl⟩)
              clear he hq hst herr hF AP
              have hz9 : wr.cell? ⟨w.heap.size, 0, none⟩ = some (.int .i64 K) ∧ wr.cell? ⟨w.heap.size, 1, none⟩ = some (.int .i64 B) ∧ wr.cell? ⟨w.heap.size, 2, none⟩ = some (.int .i64 F) ∧ wr.cell? ⟨w.heap.size, 3, none⟩ = some (.int .i64 R) ∧ wr.cell? ⟨w.heap.size, 4, none⟩ = some (.int .i64 O) ∧ wr.cell? ⟨w.heap.size + 1, 0, none⟩ = some (.int .i64 0) ∧ wr.cell? ⟨w.heap.size + 1, 1, none⟩ = some (.int .i64 0) ∧ wr.cell? ⟨wt.heap.size, 0, none⟩ = some (.int .i64 a.1) ∧ wr.cell? ⟨wt.heap.size, 1, none⟩ = some (.int .i64 a.2) ∧ wr.cell? ⟨b, o + j * 2, none⟩ = some (.int .i64 e.1) ∧ wr.cell? ⟨b, o + j * 2 + 1, none⟩ = some (.int .i64 e.2) ∧ wr.frozen? ⟨w.heap.size + 1, 0, none⟩ = false ∧ wr.frozen? ⟨w.heap.size + 1, 1, none⟩ = false ∧ wr.frozen? ⟨wt.heap.size, 0, none⟩ = false ∧ wr.frozen? ⟨wt.heap.size, 1, none⟩ = false ∧ Below w.heap.size w wr := ⟨t0, t1, t2, t3, t4, r0, r1, T0, T1, c0, c1, fr0, fr1, fT0, fT1, KB⟩
              have HS9 : Hid (∀ u u' : World, (u.cell? ⟨w.heap.size, 0, none⟩ = some (.int .i64 K) ∧ u.cell? ⟨w.heap.size, 1, none⟩ = some (.int .i64 B) ∧ u.cell? ⟨w.heap.size, 2, none⟩ = some (.int .i64 F) ∧ u.cell? ⟨w.heap.size, 3, none⟩ = some (.int .i64 R) ∧ u.cell? ⟨w.heap.size, 4, none⟩ = some (.int .i64 O) ∧ u.cell? ⟨w.heap.size + 1, 0, none⟩ = some (.int .i64 0) ∧ u.cell? ⟨w.heap.size + 1, 1, none⟩ = some (.int .i64 0) ∧ u.cell? ⟨wt.heap.size, 0, none⟩ = some (.int .i64 a.1) ∧ u.cell? ⟨wt.heap.size, 1, none⟩ = some (.int .i64 a.2) ∧ u.cell? ⟨b, o + j * 2, none⟩ = some (.int .i64 e.1) ∧ u.cell? ⟨b, o + j * 2 + 1, none⟩ = some (.int .i64 e.2) ∧ u.frozen? ⟨w.heap.size + 1, 0, none⟩ = false ∧ u.frozen? ⟨w.heap.size + 1, 1, none⟩ = false ∧ u.frozen? ⟨wt.heap.size, 0, none⟩ = false ∧ u.frozen? ⟨wt.heap.size, 1, none⟩ = false ∧ Below w.heap.size w u) → Below u.heap.size u u' → (u'.cell? ⟨w.heap.size, 0, none⟩ = some (.int .i64 K) ∧ u'.cell? ⟨w.heap.size, 1, none⟩ = some (.int .i64 B) ∧ u'.cell? ⟨w.heap.size, 2, none⟩ = some (.int .i64 F) ∧ u'.cell? ⟨w.heap.size, 3, none⟩ = some (.int .i64 R) ∧ u'.cell? ⟨w.heap.size, 4, none⟩ = some (.int .i64 O) ∧ u'.cell? ⟨w.heap.size + 1, 0, none⟩ = some (.int .i64 0) ∧ u'.cell? ⟨w.heap.size + 1, 1, none⟩ = some (.int .i64 0) ∧ u'.cell? ⟨wt.heap.size, 0, none⟩ = some (.int .i64 a.1) ∧ u'.cell? ⟨wt.heap.size, 1, none⟩ = some (.int .i64 a.2) ∧ u'.cell? ⟨b, o + j * 2, none⟩ = some (.int .i64 e.1) ∧ u'.cell? ⟨b, o + j * 2 + 1, none⟩ = some (.int .i64 e.2) ∧ u'.frozen? ⟨w.heap.size + 1, 0, none⟩ = false ∧ u'.frozen? ⟨w.heap.size + 1, 1, none⟩ = false ∧ u'.frozen? ⟨wt.heap.size, 0, none⟩ = false ∧ u'.frozen? ⟨wt.heap.size, 1, none⟩ = false ∧ Below w.heap.size w u')) := Lib.hid (fun u u' h hb => ⟨Rg.keep hb (World.block_lt_of_cell? _ _ h.1) h.1, Rg.keep hb (World.block_lt_of_cell? _ _ h.2.1) h.2.1, Rg.keep hb (World.block_lt_of_cell? _ _ h.2.2.1) h.2.2.1, Rg.keep hb (World.block_lt_of_cell? _ _ h.2.2.2.1) h.2.2.2.1, Rg.keep hb (World.block_lt_of_cell? _ _ h.2.2.2.2.1) h.2.2.2.2.1, Rg.keep hb (World.block_lt_of_cell? _ _ h.2.2.2.2.2.1) h.2.2.2.2.2.1, Rg.keep hb (World.block_lt_of_cell? _ _ h.2.2.2.2.2.2.1) h.2.2.2.2.2.2.1, Rg.keep hb (World.block_lt_of_cell? _ _ h.2.2.2.2.2.2.2.1) h.2.2.2.2.2.2.2.1, Rg.keep hb (World.block_lt_of_cell? _ _ h.2.2.2.2.2.2.2.2.1) h.2.2.2.2.2.2.2.2.1, Rg.keep hb (World.block_lt_of_cell? _ _ h.2.2.2.2.2.2.2.2.2.1) h.2.2.2.2.2.2.2.2.2.1, Rg.keep hb (World.block_lt_of_cell? _ _ h.2.2.2.2.2.2.2.2.2.2.1) h.2.2.2.2.2.2.2.2.2.2.1, Rg.keepF hb (World.block_lt_of_cell? _ _ h.2.2.2.2.2.1) h.2.2.2.2.2.2.2.2.2.2.2.1, Rg.keepF hb (World.block_lt_of_cell? _ _ h.2.2.2.2.2.1) h.2.2.2.2.2.2.2.2.2.2.2.2.1, Rg.keepF hb (World.block_lt_of_cell? _ _ h.2.2.2.2.2.2.2.1) h.2.2.2.2.2.2.2.2.2.2.2.2.2.1, Rg.keepF hb (World.block_lt_of_cell? _ _ h.2.2.2.2.2.2.2.1) h.2.2.2.2.2.2.2.2.2.2.2.2.2.2.1, h.2.2.2.2.2.2.2.2.2.2.2.2.2.2.2.trans (hb.mono h.2.2.2.2.2.2.2.2.2.2.2.2.2.2.2.size)⟩)
              clear t0 t1 t2 t3 t4 r0 r1 T0 T1 c0 c1 fr0 fr1 fT0 fT1 KB hT
              go_wp2_with fail
              refine Rk.begin (S := fun wS => wS.cell? ⟨w.heap.size, 0, none⟩ = some (.int .i64 K) ∧ wS.cell? ⟨w.heap.size, 1, none⟩ = some (.int .i64 B) ∧ wS.cell? ⟨w.heap.size, 2, none⟩ = some (.int .i64 F) ∧ wS.cell? ⟨w.heap.size, 3, none⟩ = some (.int .i64 R) ∧ wS.cell? ⟨w.heap.size, 4, none⟩ = some (.int .i64 O) ∧ wS.cell? ⟨w.heap.size + 1, 0, none⟩ = some (.int .i64 0) ∧ wS.cell? ⟨w.heap.size + 1, 1, none⟩ = some (.int .i64 0) ∧ wS.cell? ⟨wt.heap.size, 0, none⟩ = some (.int .i64 a.1) ∧ wS.cell? ⟨wt.heap.size, 1, none⟩ = some (.int .i64 a.2) ∧ wS.cell? ⟨b, o + j * 2, none⟩ = some (.int .i64 e.1) ∧ wS.cell? ⟨b, o + j * 2 + 1, none⟩ = some (.int .i64 e.2) ∧ wS.frozen? ⟨w.heap.size + 1, 0, none⟩ = false ∧ wS.frozen? ⟨w.heap.size + 1, 1, none⟩ = false ∧ wS.frozen? ⟨wt.heap.size, 0, none⟩ = false ∧ wS.frozen? ⟨wt.heap.size, 1, none⟩ = false ∧ Below w.heap.size w wS) 12 (by kernel_rfl) (HS9.out _ _ hz9 (Below.drew (Below.refl _ _))) (fun hHeld => ?_)
              refine Rk.takeP (i := 0) (v := ?_) rfl (by kernel_rfl) (by kernel_rfl) (by kernel_rfl) (by kernel_rfl) (fun _ _ _ h => h) (Or.inl ⟨by kernel_rfl, ?_⟩) (by assumption) ?_
              rotate_left
              · ((intro w hSw; go_simp) <;> with_reducible rfl)
              try simp only [Act.put, List.setIfInBounds_toArray, List.set_cons_zero, List.set_cons_succ]
              refine Rk.take [12] (i := 2) (v := ?_) rfl (by kernel_rfl) (by kernel_rfl) (by kernel_rfl) (by kernel_rfl) (by kernel_rfl) (fun _ _ _ h => h) (Or.inl ⟨by kernel_rfl, ?_⟩) (by assumption) ?_
              rotate_left
              · ((intro w hSw; (try dsimp only at hSw); go_simp) <;> with_reducible rfl)
              try simp only [Act.put, List.setIfInBounds_toArray, List.set_cons_zero, List.set_cons_succ]
              refine Rk.take [12] (i := 3) (v := ?_) rfl (by kernel_rfl) (by kernel_rfl) (by kernel_rfl) (by kernel_rfl) (by kernel_rfl) (fun _ _ _ h => h) (Or.inl ⟨by kernel_rfl, ?_⟩) (by assumption) ?_
              rotate_left
              · ((intro w hSw; (try dsimp only at hSw); go_simp) <;> with_reducible rfl)
              try simp only [Act.put, List.setIfInBounds_toArray, List.set_cons_zero, List.set_cons_succ]
              refine Rk.takeP (i := 4) (v := ?_) rfl (by kernel_rfl) (by kernel_rfl) (by kernel_rfl) (by kernel_rfl) (fun _ _ _ h => h) (Or.inl ⟨by kernel_rfl, ?_⟩) (by assumption) ?_
              rotate_left
              · ((intro w hSw; go_simp) <;> with_reducible rfl)
              try simp only [Act.put, List.setIfInBounds_toArray, List.set_cons_zero, List.set_cons_succ]
              refine Rk.takeP (i := 5) (v := ?_) rfl (by kernel_rfl) (by kernel_rfl) (by kernel_rfl) (by kernel_rfl) (fun _ _ _ h => h) (Or.inl ⟨by kernel_rfl, ?_⟩) (by assumption) ?_
              rotate_left
              · ((intro w hSw; go_simp) <;> with_reducible rfl)
              try simp only [Act.put, List.setIfInBounds_toArray, List.set_cons_zero, List.set_cons_succ]
              refine Rk.takeP (i := 6) (v := ?_) rfl (by kernel_rfl) (by kernel_rfl) (by kernel_rfl) (by kernel_rfl) (fun _ _ _ h => h) (Or.inl ⟨by kernel_rfl, ?_⟩) (by assumption) ?_
              rotate_left
              · ((intro w hSw; go_simp) <;> with_reducible rfl)
              try simp only [Act.put, List.setIfInBounds_toArray, List.set_cons_zero, List.set_cons_succ]
              refine Rk.take [12] (i := 7) (v := ?_) rfl (by kernel_rfl) (by kernel_rfl) (by kernel_rfl) (by kernel_rfl) (by kernel_rfl) (fun _ _ _ h => h) (Or.inl ⟨by kernel_rfl, ?_⟩) (by assumption) ?_
              rotate_left
              · ((intro w hSw; (try dsimp only at hSw); go_simp) <;> with_reducible rfl)
              try simp only [Act.put, List.setIfInBounds_toArray, List.set_cons_zero, List.set_cons_succ]
              refine Rk.one (i := 1) (by kernel_rfl) rfl (fun KK hK => ?_)
              rw [if_pos (by kernel_rfl)]
              go_simp
              ((with_reducible refine (OP.out _).mono ?_); rintro e u9 ⟨rfl, rfl⟩)
              first | (refine hK.out _ _ (fun _ => hHeld) (fun hHeld => ?_)) | (refine hK.out _ _ hHeld (fun hHeld => ?_)) | (go_wp2_with fail; refine hK.out _ _ hHeld (fun hHeld => ?_))
              clear hK KK
              refine Rk.one (i := 8) (by kernel_rfl) rfl (fun KK hK => ?_)
              rw [if_pos (by kernel_rfl)]
              go_simp
              ((with_reducible refine (AC.out _).mono ?_); rintro e u ⟨rfl, hb⟩)
              first | (refine hK.out _ _ (fun _ => HS9.out _ _ hHeld hb) (fun hHeld => ?_)) | (refine hK.out _ _ (HS9.out _ _ hHeld hb) (fun hHeld => ?_)) | (go_wp2_with fail; refine hK.out _ _ (HS9.out _ _ hHeld hb) (fun hHeld => ?_))
              clear hK KK
              refine Rk.takeP (i := 9) (v := ?_) rfl (by kernel_rfl) (by kernel_rfl) (by kernel_rfl) (by kernel_rfl) (fun _ _ _ h => h) (Or.inl ⟨by kernel_rfl, ?_⟩) (by assumption) ?_
              rotate_left
              · ((intro w hSw; go_simp) <;> with_reducible rfl)
              try simp only [Act.put, List.setIfInBounds_toArray, List.set_cons_zero, List.set_cons_succ]
              refine Rk.takeP (i := 10) (v := ?_) rfl (by kernel_rfl) (by kernel_rfl) (by kernel_rfl) (by kernel_rfl) (fun _ _ _ h => h) (Or.inl ⟨by kernel_rfl, ?_⟩) (by assumption) ?_
              rotate_left
              · ((intro w hSw; go_simp) <;> with_reducible rfl)
              try simp only [Act.put, List.setIfInBounds_toArray, List.set_cons_zero, List.set_cons_succ]
              refine Rk.takeP (i := 11) (v := ?_) rfl (by kernel_rfl) (by kernel_rfl) (by kernel_rfl) (by kernel_rfl) (fun _ _ _ h => h) (Or.inl ⟨by kernel_rfl, ?_⟩) (by assumption) ?_
              rotate_left
              · ((intro w hSw; go_simp) <;> with_reducible rfl)
              try simp only [Act.put, List.setIfInBounds_toArray, List.set_cons_zero, List.set_cons_succ]
              refine Rk.tail [12, 13] [_, _] (by kernel_rfl) (by kernel_rfl) rfl (by decide) ?_
              obtain ⟨t0, t1, t2, t3, t4, r0, r1, T0, T1, c0, c1, fr0, fr1, fT0, fT1, KC⟩ := hHeld
              clear hz9 HS9
              have lT : wt.heap.size < u.heap.size := World.block_lt_of_cell? _ _ T0
              go_wp2_with fail
              go_roundw
              case rel =>
                have hRC : Rg.RC wt.heap.size u := Rg.RC.mk T0 T1 fT0 fT1
                have hRS := Rg.RC.store (x := x) (y := y) hRC
                have hRR : Rg.RC (w.heap.size + 1) u := Rg.RC.mk r0 r1 fr0 fr1
                have hRF := Rg.RC.far (r := wt.heap.size) (x := .int .i64 x) (y := .int .i64 y) (by omega) hRR
                have n0 : wt.heap.size ≠ w.heap.size := by omega
                have n1 : wt.heap.size ≠ w.heap.size + 1 := by omega
                have KD := Below.setCell (p := ⟨wt.heap.size, 1, none⟩) (Below.setCell (p := ⟨wt.heap.size, 0, none⟩) KC (by dsimp only; omega) (.int .i64 x)) (by dsimp only; omega) (.int .i64 y)
                exact ⟨j + 1, (x, y), z, rfl, by simp, by omega, by omega, Lib.hid ⟨Rg.far n0 t0, Rg.far n0 t1, Rg.far n0 t2, Rg.far n0 t3, Rg.far n0 t4, Rg.far n1 r0, Rg.far n1 r1, Rg.RC.read0 hRC, Rg.RC.read1 hRC, hRF.2.2.1, hRF.2.2.2, hRS.2.2.1, hRS.2.2.2, KD⟩, HNX⟩
              case measure => simp [intOf]; omega
            · have ej : j = n := by omega
              subst ej
              have hAA : A = (a.1, a.2, 0) := by
                have h := hF.out
                rw [← HR.out, rdf_end] at h
                exact h.symm
              subst hAA
              have g1 : decide ((j : Int) < j) = false := by simp
              clear hF hT AP OP
              go_wp2
              refine bodyPost_ret (v := Frac3 a.1 a.2 0) (by simp [results, Tryz.results13, go_sem, T0, T1, r0, r1, fr0, fr1, lr, lT]) rfl ⟨rfl, ?_⟩; (repeat' (first | (with_reducible exact Below.refl _ _) | (with_reducible exact KB) | (with_reducible refine Below.alloc ?_ ?_ _) | (with_reducible refine Below.setCell ?_ ?_ _) | (with_reducible refine below_drewN ?_ _) | (simp; done) | omega | (simp; omega)))
          · obtain ⟨hA, ha⟩ : A = (0, 0, z) ∧ a = (0, 0) := by
              rcases hF.out with ⟨h, _⟩ | ⟨_, h⟩
              · exact absurd h hz
              · exact h
            subst hA ha
            have gz : (z == 0) = false := by simpa using hz
            clear hF hT AP OP hz
            dsimp only at T0 T1
            by_cases hlt : j < n
            · have j2 : (j : Int) < n := by omega
              go_wp2
              refine bodyPost_ret (v := Frac3 0 0 z) (by simp [results, Tryz.results13, go_sem, T0, T1, r0, r1, fr0, fr1, lr, lT]) rfl ⟨rfl, ?_⟩; (repeat' (first | (with_reducible exact Below.refl _ _) | (with_reducible exact KB) | (with_reducible refine Below.alloc ?_ ?_ _) | (with_reducible refine Below.setCell ?_ ?_ _) | (with_reducible refine below_drewN ?_ _) | (simp; done) | omega | (simp; omega)))
            · obtain rfl : j = n := by omega
              go_wp2
              refine bodyPost_ret (v := Frac3 0 0 z) (by simp [results, Tryz.results13, go_sem, T0, T1, r0, r1, fr0, fr1, lr, lT]) rfl ⟨rfl, ?_⟩; (repeat' (first | (with_reducible exact Below.refl _ _) | (with_reducible exact KB) | (with_reducible refine Below.alloc ?_ ?_ _) | (with_reducible refine Below.setCell ?_ ?_ _) | (with_reducible refine below_drewN ?_ _) | (simp; done) | omega | (simp; omega)))
end Go.Proofs.YtikcinkbkakkmaaGreatDoor.Va
