/- Reduce of package value. -/
import Derived.Test.YteaaikmejacpaaaGreatDoorS10

namespace Go.Proofs.YteaaikmejacpaaaGreatDoor.Va
open Go.ChangeShapes Go.WideShapes Go.ChangeAt Go.RowKit
open Fr Fx
set_option maxRecDepth 8000
set_option linter.unusedVariables false
set_option linter.unusedSimpArgs false
set_option maxRecDepth 8000
theorem kpa {G : World} {b o : Nat} {v : Value} (O : Obj) (h : G.cell? ⟨b, o, none⟩ = some v) : (G.alloc O).cell? ⟨b, o, none⟩ = some v := Rg.keep ((Below.refl _ _).alloc (Nat.le_refl _) O) (World.block_lt_of_cell? _ _ h) h
theorem kpf {G : World} {b o o' : Nat} {v : Value} (O : Obj) (h : G.cell? ⟨b, o', none⟩ = some v) (hf : G.frozen? ⟨b, o, none⟩ = false) : (G.alloc O).frozen? ⟨b, o, none⟩ = false := Rg.keepF ((Below.refl _ _).alloc (Nat.le_refl _) O) (World.block_lt_of_cell? _ _ h) hf
set_option maxRecDepth 100000 in
set_option maxHeartbeats 16000000 in
theorem c_red (fold K B F R O : Int) (p : Option Addr) (xs : List (Int × Int)) (c : Nat) (w : World) (b0 : -9223372036854775808 <= B) (b1 : B <= 9223372036854775807) (hn : xs.length <= maxLen) (hc : xs.length <= c) (RA : Hid (SlV w p xs)) :
  Calls Tryz.prog 66 #[.int .i64 fold, T5 K B F R O, .slice p xs.length c] w (Ret (F3 (rdv fold K B F R O xs)) w) := by
 have HN := Lib.hid hn
 have hn2 : xs.length <= 9223372036854775807 := Nat.le_trans hn (by decide)
 clear hn
 have OP := Lib.hid fun w => c_op fold w
 cases hk : known fold
 ·rw [show rdv fold K B F R O xs = (0, 0, 1) by unfold rdv; rw [if_pos hk]]
  rw [hk] at OP
  rw [if_neg (by decide)] at OP
  clear hk b0 b1 RA
  go_enter Tryz.func66, Tryz.ntmps66
  go_wp2_with (first | (go_at_call 101; (with_reducible refine (OP.out _).mono ?_); rintro e w9 ⟨rfl, rfl⟩))
  refine bodyPost_ret (v := Frac3 0 0 1) (by simp [results, Tryz.results66, go_sem]) rfl ⟨rfl, ?_⟩; (repeat' (first | (with_reducible exact Below.refl _ _) | (with_reducible refine Below.alloc ?_ ?_ _) | (with_reducible refine Below.setCell ?_ ?_ _) | (with_reducible refine below_drewN ?_ _) | (simp; done) | omega | (simp; omega)))
 rw [hk, if_pos rfl] at OP
 cases ht : ty K B F R O
 ·rw [show rdv fold K B F R O xs = (0, 0, 10) by unfold rdv; rw [if_neg (by rw [hk]; decide), if_pos ht]]
  have VT := Lib.hid fun w => vtF ht w
  clear hk ht b0 b1 RA
  go_enter Tryz.func66, Tryz.ntmps66
  go_wp2_with (first | (go_at_call 101; (with_reducible refine (OP.out _).mono ?_); rintro e w9 ⟨rfl, rfl⟩) | (go_at_call 46; (with_reducible refine (VT.out _).mono ?_); rintro e w1 ⟨rfl, hb1⟩; have hc1 := (bcell hb1).1; have hf1 := (bcell hb1).2; have z1_0 : w.heap.size < w1.heap.size := (by have hzz := hb1.size; (try simp at hzz); omega); have z1_1 : w.heap.size + 1 < w1.heap.size := (by have hzz := hb1.size; (try simp at hzz); omega); have K1 : Below w.heap.size w w1 := Below.trans (b := _) (by (repeat' (first | (with_reducible exact Below.refl _ _) | (with_reducible refine Below.alloc ?_ ?_ _) | (with_reducible refine Below.setCell ?_ ?_ _) | (with_reducible refine below_drewN ?_ _) | (simp; done) | omega | (simp; omega)))) (hb1.mono (by have hzz := hb1.size; (try simp at hzz); first | omega | (simp; done) | (simp; omega)))))
  refine bodyPost_ret (v := Frac3 0 0 10) (by simp [results, Tryz.results66, go_sem, hc1, hf1, z1_0, Nat.lt_succ_of_lt z1_0, Nat.ne_of_lt z1_0, Nat.ne_of_gt z1_0, z1_1, Nat.lt_succ_of_lt z1_1, Nat.ne_of_lt z1_1, Nat.ne_of_gt z1_1]) rfl ⟨rfl, ?_⟩; (repeat' (first | (with_reducible exact Below.refl _ _) | (with_reducible exact K1) | (with_reducible refine Below.alloc ?_ ?_ _) | (with_reducible refine Below.setCell ?_ ?_ _) | (with_reducible refine below_drewN ?_ _) | (simp; done) | omega | (simp; omega)))
 have VT := Lib.hid fun w => vtT ht w
 have CV := Lib.hid fun n d w => c_va K B F R O n d w b0 b1
 have ID := Lib.hid fun w => c_id fold K B F R O w b0 b1
 have AP := Lib.hid fun a e w (h : -9223372036854775808 <= (e : Int × Int).1 /\ e.1 <= 9223372036854775807) => c_ap (opv fold) K B F R O (a : Int × Int).1 a.2 e.1 e.2 w b0 b1 h
 clear b0 b1
 have HV : Hid (∀ r : A3, (if (∃ i, i < xs.length /\ vv K B F R O (xs.getD i (0, 0)).1 (xs.getD i (0, 0)).2 = false) then (0, 0, 1)
   else rdt fold K B F R O xs : A3) = r -> rdv fold K B F R O xs = r) := Lib.hid fun r hr => by
  unfold rdv
  rw [if_neg (by rw [hk]; decide), if_neg (by rw [ht]; decide)]
  exact hr
 clear hk ht
 obtain ⟨A, hA⟩ : ∃ A, rdv fold K B F R O xs = A := ⟨_, rfl⟩
 rw [hA] at HV ⊢
 clear hA
 obtain ⟨oq, hoq⟩ : ∃ q, opv fold = q := ⟨_, rfl⟩
 have HOQ := Lib.hid hoq
 rw [hoq] at OP AP
 clear hoq
 go_enter Tryz.func66, Tryz.ntmps66
 go_wp2_with (first | (go_at_call 101; (with_reducible refine (OP.out _).mono ?_); rintro e w9 ⟨rfl, rfl⟩) | (go_at_call 46; (with_reducible refine (VT.out _).mono ?_); rintro e w1 ⟨rfl, hb1⟩; have hc1 := (bcell hb1).1; have hf1 := (bcell hb1).2; have z1_0 : w.heap.size < w1.heap.size := (by have hzz := hb1.size; (try simp at hzz); omega); have z1_1 : w.heap.size + 1 < w1.heap.size := (by have hzz := hb1.size; (try simp at hzz); omega); have K1 : Below w.heap.size w w1 := Below.trans (b := _) (by (repeat' (first | (with_reducible exact Below.refl _ _) | (with_reducible refine Below.alloc ?_ ?_ _) | (with_reducible refine Below.setCell ?_ ?_ _) | (with_reducible refine below_drewN ?_ _) | (simp; done) | omega | (simp; omega)))) (hb1.mono (by have hzz := hb1.size; (try simp at hzz); first | omega | (simp; done) | (simp; omega)))))
 have hS : Hid (w1.cell? ⟨w.heap.size, 0, none⟩ = some (.int .i64 K) /\ w1.cell? ⟨w.heap.size, 1, none⟩ = some (.int .i64 B) /\ w1.cell? ⟨w.heap.size, 2, none⟩ = some (.int .i64 F) /\ w1.cell? ⟨w.heap.size, 3, none⟩ = some (.int .i64 R) /\ w1.cell? ⟨w.heap.size, 4, none⟩ = some (.int .i64 O) /\ w1.cell? ⟨w.heap.size + 1, 0, none⟩ = some (.int .i64 0) /\ w1.cell? ⟨w.heap.size + 1, 1, none⟩ = some (.int .i64 0) /\ w1.frozen? ⟨w.heap.size + 1, 0, none⟩ = false /\ w1.frozen? ⟨w.heap.size + 1, 1, none⟩ = false /\ Below w.heap.size w w1) := Lib.hid ⟨Rg.keep hb1 (by simp <;> omega) (by go_cell), Rg.keep hb1 (by simp <;> omega) (by go_cell), Rg.keep hb1 (by simp <;> omega) (by go_cell), Rg.keep hb1 (by simp <;> omega) (by go_cell), Rg.keep hb1 (by simp <;> omega) (by go_cell), Rg.keep hb1 (by simp <;> omega) (by go_cell), Rg.keep hb1 (by simp <;> omega) (by go_cell), Rg.keepF hb1 (by simp <;> omega) (by simp only [frozen?_alloc_cells]; exact Rg.notFrozen (by omega)), Rg.keepF hb1 (by simp <;> omega) (by simp only [frozen?_alloc_cells]; exact Rg.notFrozen (by omega)), K1⟩
 have HS : Hid (∀ u u' : World, (u.cell? ⟨w.heap.size, 0, none⟩ = some (.int .i64 K) /\ u.cell? ⟨w.heap.size, 1, none⟩ = some (.int .i64 B) /\ u.cell? ⟨w.heap.size, 2, none⟩ = some (.int .i64 F) /\ u.cell? ⟨w.heap.size, 3, none⟩ = some (.int .i64 R) /\ u.cell? ⟨w.heap.size, 4, none⟩ = some (.int .i64 O) /\ u.cell? ⟨w.heap.size + 1, 0, none⟩ = some (.int .i64 0) /\ u.cell? ⟨w.heap.size + 1, 1, none⟩ = some (.int .i64 0) /\ u.frozen? ⟨w.heap.size + 1, 0, none⟩ = false /\ u.frozen? ⟨w.heap.size + 1, 1, none⟩ = false /\ Below w.heap.size w u) -> Below u.heap.size u u' -> (u'.cell? ⟨w.heap.size, 0, none⟩ = some (.int .i64 K) /\ u'.cell? ⟨w.heap.size, 1, none⟩ = some (.int .i64 B) /\ u'.cell? ⟨w.heap.size, 2, none⟩ = some (.int .i64 F) /\ u'.cell? ⟨w.heap.size, 3, none⟩ = some (.int .i64 R) /\ u'.cell? ⟨w.heap.size, 4, none⟩ = some (.int .i64 O) /\ u'.cell? ⟨w.heap.size + 1, 0, none⟩ = some (.int .i64 0) /\ u'.cell? ⟨w.heap.size + 1, 1, none⟩ = some (.int .i64 0) /\ u'.frozen? ⟨w.heap.size + 1, 0, none⟩ = false /\ u'.frozen? ⟨w.heap.size + 1, 1, none⟩ = false /\ Below w.heap.size w u')) := Lib.hid (fun u u' h hb => ⟨Rg.keep hb (World.block_lt_of_cell? _ _ h.1) h.1, Rg.keep hb (World.block_lt_of_cell? _ _ h.2.1) h.2.1, Rg.keep hb (World.block_lt_of_cell? _ _ h.2.2.1) h.2.2.1, Rg.keep hb (World.block_lt_of_cell? _ _ h.2.2.2.1) h.2.2.2.1, Rg.keep hb (World.block_lt_of_cell? _ _ h.2.2.2.2.1) h.2.2.2.2.1, Rg.keep hb (World.block_lt_of_cell? _ _ h.2.2.2.2.2.1) h.2.2.2.2.2.1, Rg.keep hb (World.block_lt_of_cell? _ _ h.2.2.2.2.2.2.1) h.2.2.2.2.2.2.1, Rg.keepF hb (World.block_lt_of_cell? _ _ h.2.2.2.2.2.1) h.2.2.2.2.2.2.2.1, Rg.keepF hb (World.block_lt_of_cell? _ _ h.2.2.2.2.2.1) h.2.2.2.2.2.2.2.2.1, h.2.2.2.2.2.2.2.2.2.trans (hb.mono h.2.2.2.2.2.2.2.2.2.size)⟩)
 clear VT OP hb1 hc1 hf1 z1_0 z1_1 K1
 go_loopw [36] (fun i wr => ∃ (j : Nat), i = .int .i64 j /\ j <= xs.length /\ Hid (wr.cell? ⟨w.heap.size, 0, none⟩ = some (.int .i64 K) /\ wr.cell? ⟨w.heap.size, 1, none⟩ = some (.int .i64 B) /\ wr.cell? ⟨w.heap.size, 2, none⟩ = some (.int .i64 F) /\ wr.cell? ⟨w.heap.size, 3, none⟩ = some (.int .i64 R) /\ wr.cell? ⟨w.heap.size, 4, none⟩ = some (.int .i64 O) /\ wr.cell? ⟨w.heap.size + 1, 0, none⟩ = some (.int .i64 0) /\ wr.cell? ⟨w.heap.size + 1, 1, none⟩ = some (.int .i64 0) /\ wr.frozen? ⟨w.heap.size + 1, 0, none⟩ = false /\ wr.frozen? ⟨w.heap.size + 1, 1, none⟩ = false /\ Below w.heap.size w wr) /\ Hid (∀ k, k < j -> vv K B F R O (xs.getD k (0, 0)).1 (xs.getD k (0, 0)).2 = true)) (fun i _ => xs.length - (intOf i).toNat)
 case atStart => exact ⟨0, rfl, Nat.zero_le _, hS, Lib.hid fun k h => absurd h (Nat.not_lt_zero _)⟩
 case round =>
  obtain ⟨j, rfl, hj, hT, hL⟩ := hrel
  clear hS
  obtain ⟨t0, t1, t2, t3, t4, r0, r1, fr0, fr1, K0⟩ := hT.out
  have lt : w.heap.size < wr.heap.size := World.block_lt_of_cell? _ _ t0
  have lr : w.heap.size + 1 < wr.heap.size := World.block_lt_of_cell? _ _ r0
  have jj : (0 : Int) <= j := by omega
  by_cases hlt : j < xs.length
  ·obtain ⟨b, o, rfl, c0, c1⟩ := RA.out j hlt
   have j2 : (j : Int) < xs.length := by omega
   have hbw : b < w.heap.size := World.block_lt_of_cell? _ _ c0
   replace c0 := Rg.keep K0 hbw c0
   replace c1 := Rg.keep K0 hbw c1
   have hbr : b < wr.heap.size := World.block_lt_of_cell? _ _ c0
   obtain ⟨e, he⟩ : ∃ e, xs.getD j (0, 0) = e := ⟨_, rfl⟩
   rw [he] at c0 c1
   have V := Lib.hid fun w => CV.out e.1 e.2 w
   have HE := Lib.hid he
   cases hv : vv K B F R O e.1 e.2
   ·rw [hv] at V
    have hA := HV.out (0, 0, 1) (by rw [if_pos ⟨j, hlt, by rw [he]; exact hv⟩])
    subst hA
    clear he hv HV AP ID CV hT hL
    go_wp2_with (first | (go_at_call 48; (with_reducible refine (V.out _).mono ?_); rintro e w5 ⟨rfl, hb5⟩; have hc5 := (bcell hb5).1; have hf5 := (bcell hb5).2; have z5_0 : w.heap.size < w5.heap.size := (by have hzz := hb5.size; (try simp at hzz); omega); have z5_1 : w.heap.size + 1 < w5.heap.size := (by have hzz := hb5.size; (try simp at hzz); omega); have z5_2 : wr.heap.size < w5.heap.size := (by have hzz := hb5.size; (try simp at hzz); omega); have K5 : Below w.heap.size w w5 := Below.trans (b := _) (by (repeat' (first | (with_reducible exact Below.refl _ _) | (with_reducible exact K0) | (with_reducible refine Below.alloc ?_ ?_ _) | (with_reducible refine Below.setCell ?_ ?_ _) | (with_reducible refine below_drewN ?_ _) | (simp; done) | omega | (simp; omega)))) (hb5.mono (by have hzz := hb5.size; (try simp at hzz); first | omega | (simp; done) | (simp; omega)))))
    refine bodyPost_ret (v := Frac3 0 0 1) (by simp [results, Tryz.results66, go_sem, hc5, hf5, z5_0, Nat.lt_succ_of_lt z5_0, Nat.ne_of_lt z5_0, Nat.ne_of_gt z5_0, z5_1, Nat.lt_succ_of_lt z5_1, Nat.ne_of_lt z5_1, Nat.ne_of_gt z5_1, z5_2, Nat.lt_succ_of_lt z5_2, Nat.ne_of_lt z5_2, Nat.ne_of_gt z5_2, r0, r1, fr0, fr1, lr, Nat.lt_succ_of_lt lr]) rfl ⟨rfl, ?_⟩; (repeat' (first | (with_reducible exact Below.refl _ _) | (with_reducible exact K5) | (with_reducible refine Below.alloc ?_ ?_ _) | (with_reducible refine Below.setCell ?_ ?_ _) | (with_reducible refine below_drewN ?_ _) | (simp; done) | omega | (simp; omega)))
   ·rw [hv] at V
    have hv2 := Lib.hid hv
    clear he hv
    go_wp2_with (first | (go_at_call 48; (with_reducible refine (V.out _).mono ?_); rintro e w5 ⟨rfl, hb5⟩; have hc5 := (bcell hb5).1; have hf5 := (bcell hb5).2; have z5_0 : w.heap.size < w5.heap.size := (by have hzz := hb5.size; (try simp at hzz); omega); have z5_1 : w.heap.size + 1 < w5.heap.size := (by have hzz := hb5.size; (try simp at hzz); omega); have z5_2 : wr.heap.size < w5.heap.size := (by have hzz := hb5.size; (try simp at hzz); omega); have K5 : Below w.heap.size w w5 := Below.trans (b := _) (by (repeat' (first | (with_reducible exact Below.refl _ _) | (with_reducible exact K0) | (with_reducible refine Below.alloc ?_ ?_ _) | (with_reducible refine Below.setCell ?_ ?_ _) | (with_reducible refine below_drewN ?_ _) | (simp; done) | omega | (simp; omega)))) (hb5.mono (by have hzz := hb5.size; (try simp at hzz); first | omega | (simp; done) | (simp; omega)))))
    case roundEnd =>
     have M5 : Below wr.heap.size wr w5 := Below.trans (b := _) ((Below.refl _ _).alloc (Nat.le_refl _) _) (hb5.mono (by simp))
     refine ⟨⟨j + 1, by simp, by omega, Lib.hid (HS.out _ _ hT.out M5), Lib.hid fun k h => ?_⟩, by simp [intOf]; omega⟩
     rcases (by omega : k < j \/ k = j) with h | rfl
     ·exact hL.out k h
     ·rw [HE.out]; exact hv2.out
  ·have ej : j = xs.length := by omega
   subst ej
   have hne : ¬ ∃ i, i < xs.length /\ vv K B F R O (xs.getD i (0, 0)).1 (xs.getD i (0, 0)).2 = false := by
    rintro ⟨i, h1, h2⟩
    rw [hL.out i h1] at h2
    cases h2
   have HW := Lib.hid fun r h => HV.out r (by rw [if_neg hne]; exact h)
   have hallv := Lib.hid hL.out
   clear HV hL hne
   cases xs with
   | nil =>
    obtain ⟨q, hq⟩ : ∃ q, idv fold K B F R O = q := ⟨_, rfl⟩
    rw [hq] at ID
    obtain ⟨x, y, f⟩ := q
    cases f
    ·have hA := HW.out (0, 0, 1) (by unfold rdt; rw [hq]; rfl)
     subst hA
     clear HW hq AP CV RA hT hallv
     go_wp2_with (first | (go_at_call 102; (with_reducible refine (ID.out _).mono ?_); rintro e w5 ⟨rfl, hb5⟩; have hc5 := (bcell hb5).1; have hf5 := (bcell hb5).2; have z5_0 : w.heap.size < w5.heap.size := (by have hzz := hb5.size; (try simp at hzz); omega); have z5_1 : w.heap.size + 1 < w5.heap.size := (by have hzz := hb5.size; (try simp at hzz); omega); have K5 : Below w.heap.size w w5 := Below.trans (b := _) (by (repeat' (first | (with_reducible exact Below.refl _ _) | (with_reducible exact K0) | (with_reducible refine Below.alloc ?_ ?_ _) | (with_reducible refine Below.setCell ?_ ?_ _) | (with_reducible refine below_drewN ?_ _) | (simp; done) | omega | (simp; omega)))) (hb5.mono (by have hzz := hb5.size; (try simp at hzz); first | omega | (simp; done) | (simp; omega)))))
     refine bodyPost_ret (v := Frac3 0 0 1) (by simp [results, Tryz.results66, go_sem, hc5, hf5, z5_0, Nat.lt_succ_of_lt z5_0, Nat.ne_of_lt z5_0, Nat.ne_of_gt z5_0, z5_1, Nat.lt_succ_of_lt z5_1, Nat.ne_of_lt z5_1, Nat.ne_of_gt z5_1, r0, r1, fr0, fr1, lr, Nat.lt_succ_of_lt lr]) rfl ⟨rfl, ?_⟩; (repeat' (first | (with_reducible exact Below.refl _ _) | (with_reducible exact K5) | (with_reducible refine Below.alloc ?_ ?_ _) | (with_reducible refine Below.setCell ?_ ?_ _) | (with_reducible refine below_drewN ?_ _) | (simp; done) | omega | (simp; omega)))
    ·have hA := HW.out (x, y, 0) (by unfold rdt; rw [hq]; rfl)
     subst hA
     clear HW hq AP CV RA hT hallv
     go_wp2_with (first | (go_at_call 102; (with_reducible refine (ID.out _).mono ?_); rintro e w5 ⟨rfl, hb5⟩; have hc5 := (bcell hb5).1; have hf5 := (bcell hb5).2; have z5_0 : w.heap.size < w5.heap.size := (by have hzz := hb5.size; (try simp at hzz); omega); have z5_1 : w.heap.size + 1 < w5.heap.size := (by have hzz := hb5.size; (try simp at hzz); omega); have K5 : Below w.heap.size w w5 := Below.trans (b := _) (by (repeat' (first | (with_reducible exact Below.refl _ _) | (with_reducible exact K0) | (with_reducible refine Below.alloc ?_ ?_ _) | (with_reducible refine Below.setCell ?_ ?_ _) | (with_reducible refine below_drewN ?_ _) | (simp; done) | omega | (simp; omega)))) (hb5.mono (by have hzz := hb5.size; (try simp at hzz); first | omega | (simp; done) | (simp; omega)))))
     refine bodyPost_ret (v := Frac3 x y 0) (by simp [results, Tryz.results66, go_sem, hc5, hf5, z5_0, Nat.lt_succ_of_lt z5_0, Nat.ne_of_lt z5_0, Nat.ne_of_gt z5_0, z5_1, Nat.lt_succ_of_lt z5_1, Nat.ne_of_lt z5_1, Nat.ne_of_gt z5_1, r0, r1, fr0, fr1, lr, Nat.lt_succ_of_lt lr]) rfl ⟨rfl, ?_⟩; (repeat' (first | (with_reducible exact Below.refl _ _) | (with_reducible exact K5) | (with_reducible refine Below.alloc ?_ ?_ _) | (with_reducible refine Below.setCell ?_ ?_ _) | (with_reducible refine below_drewN ?_ _) | (simp; done) | omega | (simp; omega)))
   | cons v r =>
    have HW2 : Hid (rdf oq K B F R O r v = A) := Lib.hid (HW.out _ (by unfold rdt; rw [HOQ.out])).symm
    obtain ⟨b, o, hp, c0, c1⟩ := RA.out 0 (by simp)
    subst hp
    obtain ⟨Q, hQ, RQ⟩ := cutV RA.out hc
    have RQ := Lib.hid RQ
    simp only [List.getD_cons_zero, Nat.zero_mul, Nat.add_zero] at c0 c1
    have hbw : b < w.heap.size := World.block_lt_of_cell? _ _ c0
    replace c0 := Rg.keep K0 hbw c0
    replace c1 := Rg.keep K0 hbw c1
    have hbr : b < wr.heap.size := World.block_lt_of_cell? _ _ c0
    rw [List.length_cons] at hc hn2 hj
    obtain ⟨n, hnn⟩ : ∃ n, r.length = n := ⟨_, rfl⟩
    rw [List.length_cons]
    have HR := Lib.hid hnn
    rw [hnn] at hc hn2 ⊢
    clear hnn HW ID CV hlt hj
    have c1' : 1 <= c := by omega
    obtain ⟨wt, hwt⟩ : ∃ wt : World, wt = wr := ⟨wr, rfl⟩
    subst hwt
    have lr0 := lr
    have HS2 : Hid (∀ (a : Int × Int) (u u' : World), (u.cell? ⟨w.heap.size, 0, none⟩ = some (.int .i64 K) /\ u.cell? ⟨w.heap.size, 1, none⟩ = some (.int .i64 B) /\ u.cell? ⟨w.heap.size, 2, none⟩ = some (.int .i64 F) /\ u.cell? ⟨w.heap.size, 3, none⟩ = some (.int .i64 R) /\ u.cell? ⟨w.heap.size, 4, none⟩ = some (.int .i64 O) /\ u.cell? ⟨w.heap.size + 1, 0, none⟩ = some (.int .i64 0) /\ u.cell? ⟨w.heap.size + 1, 1, none⟩ = some (.int .i64 0) /\ u.cell? ⟨wt.heap.size, 0, none⟩ = some (.int .i64 a.1) /\ u.cell? ⟨wt.heap.size, 1, none⟩ = some (.int .i64 a.2) /\ u.frozen? ⟨w.heap.size + 1, 0, none⟩ = false /\ u.frozen? ⟨w.heap.size + 1, 1, none⟩ = false /\ u.frozen? ⟨wt.heap.size, 0, none⟩ = false /\ u.frozen? ⟨wt.heap.size, 1, none⟩ = false /\ Below w.heap.size w u) -> Below u.heap.size u u' -> (u'.cell? ⟨w.heap.size, 0, none⟩ = some (.int .i64 K) /\ u'.cell? ⟨w.heap.size, 1, none⟩ = some (.int .i64 B) /\ u'.cell? ⟨w.heap.size, 2, none⟩ = some (.int .i64 F) /\ u'.cell? ⟨w.heap.size, 3, none⟩ = some (.int .i64 R) /\ u'.cell? ⟨w.heap.size, 4, none⟩ = some (.int .i64 O) /\ u'.cell? ⟨w.heap.size + 1, 0, none⟩ = some (.int .i64 0) /\ u'.cell? ⟨w.heap.size + 1, 1, none⟩ = some (.int .i64 0) /\ u'.cell? ⟨wt.heap.size, 0, none⟩ = some (.int .i64 a.1) /\ u'.cell? ⟨wt.heap.size, 1, none⟩ = some (.int .i64 a.2) /\ u'.frozen? ⟨w.heap.size + 1, 0, none⟩ = false /\ u'.frozen? ⟨w.heap.size + 1, 1, none⟩ = false /\ u'.frozen? ⟨wt.heap.size, 0, none⟩ = false /\ u'.frozen? ⟨wt.heap.size, 1, none⟩ = false /\ Below w.heap.size w u')) := Lib.hid (fun a u u' h hb => ⟨Rg.keep hb (World.block_lt_of_cell? _ _ h.1) h.1, Rg.keep hb (World.block_lt_of_cell? _ _ h.2.1) h.2.1, Rg.keep hb (World.block_lt_of_cell? _ _ h.2.2.1) h.2.2.1, Rg.keep hb (World.block_lt_of_cell? _ _ h.2.2.2.1) h.2.2.2.1, Rg.keep hb (World.block_lt_of_cell? _ _ h.2.2.2.2.1) h.2.2.2.2.1, Rg.keep hb (World.block_lt_of_cell? _ _ h.2.2.2.2.2.1) h.2.2.2.2.2.1, Rg.keep hb (World.block_lt_of_cell? _ _ h.2.2.2.2.2.2.1) h.2.2.2.2.2.2.1, Rg.keep hb (World.block_lt_of_cell? _ _ h.2.2.2.2.2.2.2.1) h.2.2.2.2.2.2.2.1, Rg.keep hb (World.block_lt_of_cell? _ _ h.2.2.2.2.2.2.2.2.1) h.2.2.2.2.2.2.2.2.1, Rg.keepF hb (World.block_lt_of_cell? _ _ h.2.2.2.2.2.1) h.2.2.2.2.2.2.2.2.2.1, Rg.keepF hb (World.block_lt_of_cell? _ _ h.2.2.2.2.2.1) h.2.2.2.2.2.2.2.2.2.2.1, Rg.keepF hb (World.block_lt_of_cell? _ _ h.2.2.2.2.2.2.2.1) h.2.2.2.2.2.2.2.2.2.2.2.1, Rg.keepF hb (World.block_lt_of_cell? _ _ h.2.2.2.2.2.2.2.1) h.2.2.2.2.2.2.2.2.2.2.2.2.1, h.2.2.2.2.2.2.2.2.2.2.2.2.2.trans (hb.mono h.2.2.2.2.2.2.2.2.2.2.2.2.2.size)⟩)
    go_wp2_with fail
    have hS2 : Hid ((wt.alloc (Obj.cells #[Value.int .i64 v.1, Value.int .i64 v.2] 29)).cell? ⟨w.heap.size, 0, none⟩ = some (.int .i64 K) /\ (wt.alloc (Obj.cells #[Value.int .i64 v.1, Value.int .i64 v.2] 29)).cell? ⟨w.heap.size, 1, none⟩ = some (.int .i64 B) /\ (wt.alloc (Obj.cells #[Value.int .i64 v.1, Value.int .i64 v.2] 29)).cell? ⟨w.heap.size, 2, none⟩ = some (.int .i64 F) /\ (wt.alloc (Obj.cells #[Value.int .i64 v.1, Value.int .i64 v.2] 29)).cell? ⟨w.heap.size, 3, none⟩ = some (.int .i64 R) /\ (wt.alloc (Obj.cells #[Value.int .i64 v.1, Value.int .i64 v.2] 29)).cell? ⟨w.heap.size, 4, none⟩ = some (.int .i64 O) /\ (wt.alloc (Obj.cells #[Value.int .i64 v.1, Value.int .i64 v.2] 29)).cell? ⟨w.heap.size + 1, 0, none⟩ = some (.int .i64 0) /\ (wt.alloc (Obj.cells #[Value.int .i64 v.1, Value.int .i64 v.2] 29)).cell? ⟨w.heap.size + 1, 1, none⟩ = some (.int .i64 0) /\ (wt.alloc (Obj.cells #[Value.int .i64 v.1, Value.int .i64 v.2] 29)).cell? ⟨wt.heap.size, 0, none⟩ = some (.int .i64 v.1) /\ (wt.alloc (Obj.cells #[Value.int .i64 v.1, Value.int .i64 v.2] 29)).cell? ⟨wt.heap.size, 1, none⟩ = some (.int .i64 v.2) /\ (wt.alloc (Obj.cells #[Value.int .i64 v.1, Value.int .i64 v.2] 29)).frozen? ⟨w.heap.size + 1, 0, none⟩ = false /\ (wt.alloc (Obj.cells #[Value.int .i64 v.1, Value.int .i64 v.2] 29)).frozen? ⟨w.heap.size + 1, 1, none⟩ = false /\ (wt.alloc (Obj.cells #[Value.int .i64 v.1, Value.int .i64 v.2] 29)).frozen? ⟨wt.heap.size, 0, none⟩ = false /\ (wt.alloc (Obj.cells #[Value.int .i64 v.1, Value.int .i64 v.2] 29)).frozen? ⟨wt.heap.size, 1, none⟩ = false /\ Below w.heap.size w (wt.alloc (Obj.cells #[Value.int .i64 v.1, Value.int .i64 v.2] 29))) := Lib.hid ⟨Rg.keep ((Below.refl wt.heap.size wt).alloc (Nat.le_refl _) (Obj.cells #[Value.int .i64 v.1, Value.int .i64 v.2] 29)) lt t0, Rg.keep ((Below.refl wt.heap.size wt).alloc (Nat.le_refl _) (Obj.cells #[Value.int .i64 v.1, Value.int .i64 v.2] 29)) lt t1, Rg.keep ((Below.refl wt.heap.size wt).alloc (Nat.le_refl _) (Obj.cells #[Value.int .i64 v.1, Value.int .i64 v.2] 29)) lt t2, Rg.keep ((Below.refl wt.heap.size wt).alloc (Nat.le_refl _) (Obj.cells #[Value.int .i64 v.1, Value.int .i64 v.2] 29)) lt t3, Rg.keep ((Below.refl wt.heap.size wt).alloc (Nat.le_refl _) (Obj.cells #[Value.int .i64 v.1, Value.int .i64 v.2] 29)) lt t4, Rg.keep ((Below.refl wt.heap.size wt).alloc (Nat.le_refl _) (Obj.cells #[Value.int .i64 v.1, Value.int .i64 v.2] 29)) lr r0, Rg.keep ((Below.refl wt.heap.size wt).alloc (Nat.le_refl _) (Obj.cells #[Value.int .i64 v.1, Value.int .i64 v.2] 29)) lr r1, by go_cell, by go_cell, Rg.keepF ((Below.refl wt.heap.size wt).alloc (Nat.le_refl _) (Obj.cells #[Value.int .i64 v.1, Value.int .i64 v.2] 29)) lr fr0, Rg.keepF ((Below.refl wt.heap.size wt).alloc (Nat.le_refl _) (Obj.cells #[Value.int .i64 v.1, Value.int .i64 v.2] 29)) lr fr1, by simp only [frozen?_alloc_cells]; exact Rg.notFrozen (Nat.le_refl _), by simp only [frozen?_alloc_cells]; exact Rg.notFrozen (Nat.le_refl _), K0.alloc K0.size _⟩
    clear hT
    go_loopw [65] (fun i wr => ∃ (j : Nat) (a : Int × Int), i = .int .i64 j /\ j <= n /\ Hid (wr.cell? ⟨w.heap.size, 0, none⟩ = some (.int .i64 K) /\ wr.cell? ⟨w.heap.size, 1, none⟩ = some (.int .i64 B) /\ wr.cell? ⟨w.heap.size, 2, none⟩ = some (.int .i64 F) /\ wr.cell? ⟨w.heap.size, 3, none⟩ = some (.int .i64 R) /\ wr.cell? ⟨w.heap.size, 4, none⟩ = some (.int .i64 O) /\ wr.cell? ⟨w.heap.size + 1, 0, none⟩ = some (.int .i64 0) /\ wr.cell? ⟨w.heap.size + 1, 1, none⟩ = some (.int .i64 0) /\ wr.cell? ⟨wt.heap.size, 0, none⟩ = some (.int .i64 a.1) /\ wr.cell? ⟨wt.heap.size, 1, none⟩ = some (.int .i64 a.2) /\ wr.frozen? ⟨w.heap.size + 1, 0, none⟩ = false /\ wr.frozen? ⟨w.heap.size + 1, 1, none⟩ = false /\ wr.frozen? ⟨wt.heap.size, 0, none⟩ = false /\ wr.frozen? ⟨wt.heap.size, 1, none⟩ = false /\ Below w.heap.size w wr) /\ Hid (rdf oq K B F R O (r.drop j) a = A)) (fun i _ => n - (intOf i).toNat)
    case atStart => exact ⟨0, v, rfl, Nat.zero_le _, hS2, HW2⟩
    case round =>
     obtain ⟨j, a, rfl, hj, hT, hF⟩ := hrel
     clear hS2 t0 t1 t2 t3 t4 r0 r1 fr0 fr1 c0 c1
     obtain ⟨t0, t1, t2, t3, t4, r0, r1, T0, T1, fr0, fr1, fT0, fT1, KB⟩ := hT.out
     have lt : w.heap.size < wr.heap.size := World.block_lt_of_cell? _ _ t0
     have lr : w.heap.size + 1 < wr.heap.size := World.block_lt_of_cell? _ _ r0
     have lT : wt.heap.size < wr.heap.size := World.block_lt_of_cell? _ _ T0
     have wT : w.heap.size + 1 < wt.heap.size := lr0
     have jj : (0 : Int) <= j := by omega
     by_cases hlt : j < n
     ·obtain ⟨b2, o2, hQ2, c0, c1⟩ := RQ.out j (by rw [HR.out]; exact hlt)
      subst hQ2
      have j2 : (j : Int) < n := by omega
      have hbw2 : b2 < w.heap.size := World.block_lt_of_cell? _ _ c0
      replace c0 := Rg.keep KB hbw2 c0
      replace c1 := Rg.keep KB hbw2 c1
      have hbr2 : b2 < wr.heap.size := World.block_lt_of_cell? _ _ c0
      have hst := rdf_step (op := oq) (K := K) (B := B) (F := F) (R := R) (O := O) (xs := r) (i := j) (by rw [HR.out]; exact hlt) a
      have hev := hallv.out (j + 1) (by simp [HR.out]; omega)
      rw [List.getD_cons_succ] at hev
      obtain ⟨e, he⟩ : ∃ e, r.getD j (0, 0) = e := ⟨_, rfl⟩
      rw [he] at c0 c1 hst hev
      obtain ⟨-, -, e2, e3, -⟩ := vv_small hev
      have AC := Lib.hid fun w => AP.out a e w ⟨by omega, by omega⟩
      obtain ⟨q, hq⟩ : ∃ q, apv oq K B F R O a.1 a.2 e.1 e.2 = q := ⟨_, rfl⟩
      rw [hq] at AC hst
      obtain ⟨x, y, z⟩ := q
      clear he hev hq e2 e3
      dsimp only at hst
      by_cases hz : z = 0
      ·subst hz
       rw [if_pos rfl] at hst
       rw [hst] at hF
       clear hst
       go_wp2_with (first | (go_at_call 100; (with_reducible refine (AC.out _).mono ?_); rintro e w7 ⟨rfl, hb7⟩; have hc7 := (bcell hb7).1; have hf7 := (bcell hb7).2; have z7_0 : w.heap.size < w7.heap.size := (by have hzz := hb7.size; (try simp at hzz); omega); have z7_1 : w.heap.size + 1 < w7.heap.size := (by have hzz := hb7.size; (try simp at hzz); omega); have z7_2 : wt.heap.size < w7.heap.size := (by have hzz := hb7.size; (try simp at hzz); omega); have K7 : Below w.heap.size w w7 := Below.trans (b := _) (by (repeat' (first | (with_reducible exact Below.refl _ _) | (with_reducible exact KB) | (with_reducible refine Below.alloc ?_ ?_ _) | (with_reducible refine Below.setCell ?_ ?_ _) | (with_reducible refine below_drewN ?_ _) | (simp; done) | omega | (simp; omega)))) (hb7.mono (by have hzz := hb7.size; (try simp at hzz); first | omega | (simp; done) | (simp; omega)))))
       go_roundw
       case rel =>
        have M7 : Below wr.heap.size wr w7 := Below.trans (b := _) ((Below.refl _ _).alloc (Nat.le_refl _) _) (hb7.mono (by simp))
        obtain ⟨t0, t1, t2, t3, t4, r0, r1, T0, T1, fr0, fr1, fT0, fT1, KC⟩ := HS2.out _ _ _ hT.out M7
        refine ⟨_, _, _, _, _, _, _, _, _, _, _, _, _, _, _, _, _, _, _, _, _, _, ?_, rfl⟩
        have hRC : Rg.RC wt.heap.size w7 := Rg.RC.mk T0 T1 fT0 fT1
        have hRS := Rg.RC.store (x := x) (y := y) hRC
        have hRR : Rg.RC (w.heap.size + 1) w7 := Rg.RC.mk r0 r1 fr0 fr1
        have hRF := Rg.RC.far (r := wt.heap.size) (x := .int .i64 x) (y := .int .i64 y) (by omega) hRR
        have n0 : wt.heap.size ≠ w.heap.size := by omega
        have n1 : wt.heap.size ≠ w.heap.size + 1 := by omega
        have KD := Below.setCell (p := ⟨wt.heap.size, 1, none⟩) (Below.setCell (p := ⟨wt.heap.size, 0, none⟩) KC (by dsimp only; omega) (.int .i64 x)) (by dsimp only; omega) (.int .i64 y)
        exact ⟨j + 1, (x, y), rfl, by omega, Lib.hid ⟨kpa _ (Rg.far n0 t0), kpa _ (Rg.far n0 t1), kpa _ (Rg.far n0 t2), kpa _ (Rg.far n0 t3), kpa _ (Rg.far n0 t4), kpa _ (Rg.far n1 r0), kpa _ (Rg.far n1 r1), kpa _ (Rg.RC.read0 hRC), kpa _ (Rg.RC.read1 hRC), kpf _ (Rg.far n1 r0) hRF.2.2.1, kpf _ (Rg.far n1 r0) hRF.2.2.2, kpf _ (Rg.RC.read0 hRC) hRS.2.2.1, kpf _ (Rg.RC.read0 hRC) hRS.2.2.2, KD.alloc KD.size _⟩, hF⟩
       case measure => simp [intOf]; omega
      ·rw [if_neg hz] at hst
       have hAA : A = (0, 0, z) := by rw [<- hF.out, hst]
       subst hAA
       have z1 : (z != 0) = true := by simpa using hz
       clear hst hF hz hT HW2 hallv AP
       go_wp2_with (first | (go_at_call 100; (with_reducible refine (AC.out _).mono ?_); rintro e w7 ⟨rfl, hb7⟩; have hc7 := (bcell hb7).1; have hf7 := (bcell hb7).2; have z7_0 : w.heap.size < w7.heap.size := (by have hzz := hb7.size; (try simp at hzz); omega); have z7_1 : w.heap.size + 1 < w7.heap.size := (by have hzz := hb7.size; (try simp at hzz); omega); have z7_2 : wt.heap.size < w7.heap.size := (by have hzz := hb7.size; (try simp at hzz); omega); have K7 : Below w.heap.size w w7 := Below.trans (b := _) (by (repeat' (first | (with_reducible exact Below.refl _ _) | (with_reducible exact KB) | (with_reducible refine Below.alloc ?_ ?_ _) | (with_reducible refine Below.setCell ?_ ?_ _) | (with_reducible refine below_drewN ?_ _) | (simp; done) | omega | (simp; omega)))) (hb7.mono (by have hzz := hb7.size; (try simp at hzz); first | omega | (simp; done) | (simp; omega)))))
       refine bodyPost_ret (v := Frac3 0 0 z) (by simp [results, Tryz.results66, go_sem, hc7, hf7, z7_0, Nat.lt_succ_of_lt z7_0, Nat.ne_of_lt z7_0, Nat.ne_of_gt z7_0, z7_1, Nat.lt_succ_of_lt z7_1, Nat.ne_of_lt z7_1, Nat.ne_of_gt z7_1, z7_2, Nat.lt_succ_of_lt z7_2, Nat.ne_of_lt z7_2, Nat.ne_of_gt z7_2, r0, r1, fr0, fr1, lr, Nat.lt_succ_of_lt lr]) rfl ⟨rfl, ?_⟩; (repeat' (first | (with_reducible exact Below.refl _ _) | (with_reducible exact K7) | (with_reducible refine Below.alloc ?_ ?_ _) | (with_reducible refine Below.setCell ?_ ?_ _) | (with_reducible refine below_drewN ?_ _) | (simp; done) | omega | (simp; omega)))
     ·have ej : j = n := by omega
      subst ej
      have hAA : A = (a.1, a.2, 0) := by rw [<- hF.out, <- HR.out, rdf_end]
      subst hAA
      clear hF hT HW2 hallv AP RQ
      go_wp2
      refine bodyPost_ret (v := Frac3 a.1 a.2 0) (by simp [results, Tryz.results66, go_sem, r0, r1, fr0, fr1, T0, T1, lr, lT]) rfl ⟨rfl, ?_⟩; (repeat' (first | (with_reducible exact Below.refl _ _) | (with_reducible exact KB) | (with_reducible refine Below.alloc ?_ ?_ _) | (with_reducible refine Below.setCell ?_ ?_ _) | (with_reducible refine below_drewN ?_ _) | (simp; done) | omega | (simp; omega)))
end Go.Proofs.YteaaikmejacpaaaGreatDoor.Va
