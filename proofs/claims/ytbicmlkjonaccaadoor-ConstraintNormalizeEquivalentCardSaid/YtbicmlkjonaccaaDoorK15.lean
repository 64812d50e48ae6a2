/- Tighten: an equation whose sign turns. -/
import Derived.Test.YtbicmlkjonaccaaDoorK5
import Derived.Test.YtbicmlkjonaccaaDoorK14
import Derived.Test.YtbicmlkjonaccaaDoorS19
import Derived.Test.YtbicmlkjonaccaaDoorK3
import Derived.Test.YtbicmlkjonaccaaDoorK10
import Derived.Test.YtbicmlkjonaccaaDoorK11

namespace Go.Proofs.YtbicmlkjonaccaaDoor.Ln
open Go.ChangeShapes Go.WideShapes Go.ChangeAt Go.RowKit
open Go.Proofs.YtbicmlkjonaccaaDoor.Nm
set_option linter.unusedVariables false
set_option linter.unusedSimpArgs false
set_option maxRecDepth 8000

theorem turn_end {w w5 : World} {gr B : Nat} {pt : Option Addr} {ys : List Mo} {O : Obj} {x0 x1 x2 x3 x4 : Value} (K5 : Below w.heap.size w w5) (hfr : ∀ b o, pt = some ⟨b, o, none⟩ -> B <= b /\ ∃ cur, w5.heap[b]? = some (.cells cur 59 (0, 0))) (S5 : SlM w5 pt ys) (hg : gr < B) (lw : w.heap.size + 1 < gr) :
  SlM ((((((w5.setCell ⟨gr, 0, none⟩ x0).setCell ⟨gr, 1, none⟩ x1).setCell ⟨w.heap.size + 1, 0, none⟩ x2).setCell ⟨w.heap.size + 1, 1, none⟩ x3).setCell ⟨w.heap.size + 1, 2, none⟩ x4).alloc O) pt ys /\
  (∀ b o, pt = some ⟨b, o, none⟩ -> ys ≠ [] -> ∃ cur, ((((((w5.setCell ⟨gr, 0, none⟩ x0).setCell ⟨gr, 1, none⟩ x1).setCell ⟨w.heap.size + 1, 0, none⟩ x2).setCell ⟨w.heap.size + 1, 1, none⟩ x3).setCell ⟨w.heap.size + 1, 2, none⟩ x4).alloc O).heap[b]? = some (.cells cur 59 (0, 0))) /\
  Below w.heap.size w ((((((w5.setCell ⟨gr, 0, none⟩ x0).setCell ⟨gr, 1, none⟩ x1).setCell ⟨w.heap.size + 1, 0, none⟩ x2).setCell ⟨w.heap.size + 1, 1, none⟩ x3).setCell ⟨w.heap.size + 1, 2, none⟩ x4).alloc O) := by
 have h1 : ∀ b o, pt = some ⟨b, o, none⟩ -> ys ≠ [] -> b ≠ gr := fun b o hq _ => by have := (hfr b o hq).1; omega
 have h2 : ∀ b o, pt = some ⟨b, o, none⟩ -> ys ≠ [] -> b ≠ w.heap.size + 1 := fun b o hq _ => by have := (hfr b o hq).1; omega
 refine ⟨SlM.keep ((Below.refl _ _).alloc (Nat.le_refl _) _) (Sl_set (Sl_set (Sl_set (Sl_set (Sl_set S5 h1) h1) h2) h2) h2), fun b o hq hne => ?_, ?_⟩
 ·obtain ⟨_, cur, hc⟩ := hfr b o hq
  have e1 := h1 b o hq hne
  have e2 := h2 b o hq hne
  have hh := ((((Below.heap_setCell ((((w5.setCell ⟨gr, 0, none⟩ x0).setCell ⟨gr, 1, none⟩ x1).setCell ⟨w.heap.size + 1, 0, none⟩ x2).setCell ⟨w.heap.size + 1, 1, none⟩ x3) ⟨w.heap.size + 1, 2, none⟩ x4 b e2).trans (Below.heap_setCell _ _ _ b e2)).trans (Below.heap_setCell _ _ _ b e2)).trans (Below.heap_setCell _ _ _ b e1)).trans ((Below.heap_setCell _ _ _ b e1).trans hc)
  exact ⟨cur, (Below.heap_alloc _ _ _ (Array.getElem?_eq_some_iff.1 hh).1).trans hh⟩
 ·have hk := ((((K5.setCell (p := ⟨gr, 0, none⟩) (by dsimp only; omega) x0).setCell (p := ⟨gr, 1, none⟩) (by dsimp only; omega) x1).setCell (p := ⟨w.heap.size + 1, 0, none⟩) (by dsimp only; omega) x2).setCell (p := ⟨w.heap.size + 1, 1, none⟩) (by dsimp only; omega) x3).setCell (p := ⟨w.heap.size + 1, 2, none⟩) (by dsimp only; omega) x4
  exact hk.alloc hk.size O
theorem turn_err {w w5 : World} {b1 : Nat} {O : Obj} {x2 x3 x4 : Value} (K5 : Below w.heap.size w w5) (h : w.heap.size <= b1) : Below w.heap.size w ((((w5.setCell ⟨b1, 0, none⟩ x2).setCell ⟨b1, 1, none⟩ x3).setCell ⟨b1, 2, none⟩ x4).alloc O) := by
 have hk := ((K5.setCell (p := ⟨b1, 0, none⟩) h x2).setCell (p := ⟨b1, 1, none⟩) h x3).setCell (p := ⟨b1, 2, none⟩) h x4
 exact hk.alloc hk.size O

set_option maxRecDepth 100000 in
set_option maxHeartbeats 4000000 in
theorem tig_turn (k : Int) (p : Option Addr) (xs : List Mo) (c : Nat) (w : World) (hn : xs.length <= 1000) (RA : Hid (SlM w p xs)) (RS : Hid (∀ i, i < xs.length -> (xs.getD i mo0).1.size <= maxLen /\ -9223372036854775808 <= (xs.getD i mo0).2 /\ (xs.getD i mo0).2 <= 9223372036854775807)) (k1 : -9223372036854775808 <= k) (k2 : k <= 9223372036854775807) (hok : okL xs = true) (h0 : xs.length ≠ 0) (hx : (k % (gcdL 0 xs : Int) == 0) = true) (hneg : decide (((tdY (gcdL 0 xs) xs).getD 0 mo0).2 < 0) = true) (RES : Int × List Mo × Bool × Int × Int) (hres : (if (sclR (-1) (k / (gcdL 0 xs : Int)) (tdY (gcdL 0 xs) xs)).2.2 ≠ 0 then (0, [], false, 0, (sclR (-1) (k / (gcdL 0 xs : Int)) (tdY (gcdL 0 xs) xs)).2.2) else ((sclR (-1) (k / (gcdL 0 xs : Int)) (tdY (gcdL 0 xs) xs)).1, (sclR (-1) (k / (gcdL 0 xs : Int)) (tdY (gcdL 0 xs) xs)).2.1, true, 0, 0)) = RES) : Calls Tryd.prog 28 #[Cv k p xs.length c true] w (TR RES w) := by
 have VL := Lib.hid fun w h => cval1 k p xs c true w (by unfold maxLen; omega) h (Lib.hid fun i hi => (RS.out i hi).1)
 have B0 : Below w.heap.size w ((w.alloc (Obj.cells #[Value.int .i64 k, Value.slice p xs.length c, Value.bool true] 36)).alloc (Obj.cells #[Value.int .i64 0, Value.slice none 0 0, Value.bool false] 36)) := ((Below.refl _ _).alloc (Nat.le_refl _) _).alloc (by simp) _
 have RA2 := Lib.hid (SlM.keep B0 RA.out)
 have hv : vL xs = 0 := by unfold vL; rw [hok]; rfl
 rw [hv] at VL
 obtain ⟨qq0, qq1⟩ := gcdL_bd hok h0 (fun i hi => (RS.out i hi).2)
 have GC := Lib.hid fun w h => gcd1 k p xs c w (by unfold maxLen; omega) h RS
 have g0 : ((xs.length : Int) == 0) = false := by rw [beq_eq_false_iff_ne]; omega
 unfold Cv Lv at *
 obtain ⟨G, hG⟩ : ∃ G : Nat, gcdL 0 xs = G := ⟨_, rfl⟩
 rw [hG] at GC qq0 qq1 hx hneg hres
 have FD := Lib.hid fun w => fdiv k G k1 k2 qq0 qq1 w
 rw [hx] at FD
 have HTB : Hid (∀ i, i < (tdY G xs).length -> ((tdY G xs).getD i mo0).1.size <= maxLen /\ -9223372036854775808 <= ((tdY G xs).getD i mo0).2 /\ ((tdY G xs).getD i mo0).2 <= 9223372036854775807) := Lib.hid fun i hi => by
  rw [tdY_len] at hi
  rw [tdY_get hi]
  have h3 := RS.out i hi
  exact ⟨h3.1, div_bd qq0 h3.2.1 h3.2.2⟩
 have HNG := Lib.hid hneg
 have HRES := Lib.hid hres
 clear hneg hres
 have FA := Lib.hid fun a (a1 : -9223372036854775808 <= a) (a2 : a <= 9223372036854775807) w => fdiv a G a1 a2 qq0 qq1 w
 have Q0 := Lib.hid qq0
 have D0 := Lib.hid (div_bd qq0 k1 k2)
 obtain ⟨H, hH⟩ : ∃ H, wrap64 (G : Int) = H := ⟨_, rfl⟩
 obtain ⟨D, hD⟩ : ∃ D, k / (G : Int) = D := ⟨_, rfl⟩
 have hDD := Lib.hid hD
 rw [hH] at GC FD FA
 rw [hD] at FD D0
 obtain ⟨i0, hi, hz0, hz1, hz2⟩ := info_parts infoMo
 have HN0 := Lib.hid h0
 obtain ⟨n, hnn⟩ : ∃ n, xs.length = n := ⟨_, rfl⟩
 have HN := Lib.hid hnn
 rw [hnn] at VL GC g0 hn B0 RA2 ⊢
 clear hok hv h0 hG hH hD qq0 qq1 hnn
 go_enter Tryd.func28, Tryd.ntmps28
 go_wp2_with (first | (go_at_call 24; (with_reducible refine (VL.out _ RA2).mono ?_); rintro e w1 ⟨rfl, hb1⟩; have hc1 := (Rg.bcell hb1).1; have hf1 := (Rg.bcell hb1).2; have z1_0 : w.heap.size < w1.heap.size := (by have hzz := hb1.size; (try simp at hzz); omega); have z1_1 : w.heap.size + 1 < w1.heap.size := (by have hzz := hb1.size; (try simp at hzz); omega); have K1 : Below w.heap.size w w1 := Below.trans (b := _) (by (repeat' (first | (with_reducible exact Below.refl _ _) | (with_reducible refine Below.alloc ?_ ?_ _) | (with_reducible refine Below.setCell ?_ ?_ _) | (with_reducible refine below_drewN ?_ _) | (simp; done) | omega | (simp; omega)))) (hb1.mono (by have hzz := hb1.size; (try simp at hzz); first | omega | (simp; done) | (simp; omega)))) | (go_at_call 59; (with_reducible refine (GC.out _ (Lib.hid (SlM.keep K1 RA.out))).mono ?_); rintro e w2 ⟨rfl, hb2⟩; have hc2 := (Rg.bcell hb2).1; have hf2 := (Rg.bcell hb2).2; have z2_0 : w.heap.size < w2.heap.size := (by have hzz := hb2.size; (try simp at hzz); omega); have z2_1 : w.heap.size + 1 < w2.heap.size := (by have hzz := hb2.size; (try simp at hzz); omega); have K2 : Below w.heap.size w w2 := Below.trans (b := _) (by (repeat' (first | (with_reducible exact Below.refl _ _) | (with_reducible exact K1) | (with_reducible exact K1.size) | (with_reducible refine Below.alloc ?_ ?_ _) | (with_reducible refine Below.setCell ?_ ?_ _) | (with_reducible refine below_drewN ?_ _) | (simp; done) | omega | (simp; omega)))) (hb2.mono (by have hzz := hb2.size; (try simp at hzz); first | omega | (simp; done) | (simp; omega)))) | (go_at_call 60; (with_reducible refine (FD.out _).mono ?_); rintro e w3 ⟨rfl, hb3⟩; have hc3 := (Rg.bcell hb3).1; have hf3 := (Rg.bcell hb3).2; have z3_0 : w.heap.size < w3.heap.size := (by have hzz := hb3.size; (try simp at hzz); omega); have z3_1 : w.heap.size + 1 < w3.heap.size := (by have hzz := hb3.size; (try simp at hzz); omega); have K3 : Below w.heap.size w w3 := Below.trans (b := _) (by (repeat' (first | (with_reducible exact Below.refl _ _) | (with_reducible exact K1) | (with_reducible exact K1.size) | (with_reducible exact K2) | (with_reducible exact K2.size) | (with_reducible refine Below.alloc ?_ ?_ _) | (with_reducible refine Below.setCell ?_ ?_ _) | (with_reducible refine below_drewN ?_ _) | (simp; done) | omega | (simp; omega)))) (hb3.mono (by have hzz := hb3.size; (try simp at hzz); first | omega | (simp; done) | (simp; omega)))))
 have F0 : Cl [(w.heap.size, 2, .bool true), (w.heap.size + 1, 0, .int .i64 0), (w.heap.size + 1, 1, .slice none 0 0), (w.heap.size + 1, 2, .bool false)] w3 := Cl.cons (by simp [go_sem, hc1, hf1, z1_0, Nat.lt_succ_of_lt z1_0, Nat.ne_of_lt z1_0, Nat.ne_of_gt z1_0, z1_1, Nat.lt_succ_of_lt z1_1, Nat.ne_of_lt z1_1, Nat.ne_of_gt z1_1, hc2, hf2, z2_0, Nat.lt_succ_of_lt z2_0, Nat.ne_of_lt z2_0, Nat.ne_of_gt z2_0, z2_1, Nat.lt_succ_of_lt z2_1, Nat.ne_of_lt z2_1, Nat.ne_of_gt z2_1, hc3, hf3, z3_0, Nat.lt_succ_of_lt z3_0, Nat.ne_of_lt z3_0, Nat.ne_of_gt z3_0, z3_1, Nat.lt_succ_of_lt z3_1, Nat.ne_of_lt z3_1, Nat.ne_of_gt z3_1]) (by simp [go_sem, hc1, hf1, z1_0, Nat.lt_succ_of_lt z1_0, Nat.ne_of_lt z1_0, Nat.ne_of_gt z1_0, z1_1, Nat.lt_succ_of_lt z1_1, Nat.ne_of_lt z1_1, Nat.ne_of_gt z1_1, hc2, hf2, z2_0, Nat.lt_succ_of_lt z2_0, Nat.ne_of_lt z2_0, Nat.ne_of_gt z2_0, z2_1, Nat.lt_succ_of_lt z2_1, Nat.ne_of_lt z2_1, Nat.ne_of_gt z2_1, hc3, hf3, z3_0, Nat.lt_succ_of_lt z3_0, Nat.ne_of_lt z3_0, Nat.ne_of_gt z3_0, z3_1, Nat.lt_succ_of_lt z3_1, Nat.ne_of_lt z3_1, Nat.ne_of_gt z3_1]) (Cl.cons (by simp [go_sem, hc1, hf1, z1_0, Nat.lt_succ_of_lt z1_0, Nat.ne_of_lt z1_0, Nat.ne_of_gt z1_0, z1_1, Nat.lt_succ_of_lt z1_1, Nat.ne_of_lt z1_1, Nat.ne_of_gt z1_1, hc2, hf2, z2_0, Nat.lt_succ_of_lt z2_0, Nat.ne_of_lt z2_0, Nat.ne_of_gt z2_0, z2_1, Nat.lt_succ_of_lt z2_1, Nat.ne_of_lt z2_1, Nat.ne_of_gt z2_1, hc3, hf3, z3_0, Nat.lt_succ_of_lt z3_0, Nat.ne_of_lt z3_0, Nat.ne_of_gt z3_0, z3_1, Nat.lt_succ_of_lt z3_1, Nat.ne_of_lt z3_1, Nat.ne_of_gt z3_1]) (by simp [go_sem, hc1, hf1, z1_0, Nat.lt_succ_of_lt z1_0, Nat.ne_of_lt z1_0, Nat.ne_of_gt z1_0, z1_1, Nat.lt_succ_of_lt z1_1, Nat.ne_of_lt z1_1, Nat.ne_of_gt z1_1, hc2, hf2, z2_0, Nat.lt_succ_of_lt z2_0, Nat.ne_of_lt z2_0, Nat.ne_of_gt z2_0, z2_1, Nat.lt_succ_of_lt z2_1, Nat.ne_of_lt z2_1, Nat.ne_of_gt z2_1, hc3, hf3, z3_0, Nat.lt_succ_of_lt z3_0, Nat.ne_of_lt z3_0, Nat.ne_of_gt z3_0, z3_1, Nat.lt_succ_of_lt z3_1, Nat.ne_of_lt z3_1, Nat.ne_of_gt z3_1]) (Cl.cons (by simp [go_sem, hc1, hf1, z1_0, Nat.lt_succ_of_lt z1_0, Nat.ne_of_lt z1_0, Nat.ne_of_gt z1_0, z1_1, Nat.lt_succ_of_lt z1_1, Nat.ne_of_lt z1_1, Nat.ne_of_gt z1_1, hc2, hf2, z2_0, Nat.lt_succ_of_lt z2_0, Nat.ne_of_lt z2_0, Nat.ne_of_gt z2_0, z2_1, Nat.lt_succ_of_lt z2_1, Nat.ne_of_lt z2_1, Nat.ne_of_gt z2_1, hc3, hf3, z3_0, Nat.lt_succ_of_lt z3_0, Nat.ne_of_lt z3_0, Nat.ne_of_gt z3_0, z3_1, Nat.lt_succ_of_lt z3_1, Nat.ne_of_lt z3_1, Nat.ne_of_gt z3_1]) (by simp [go_sem, hc1, hf1, z1_0, Nat.lt_succ_of_lt z1_0, Nat.ne_of_lt z1_0, Nat.ne_of_gt z1_0, z1_1, Nat.lt_succ_of_lt z1_1, Nat.ne_of_lt z1_1, Nat.ne_of_gt z1_1, hc2, hf2, z2_0, Nat.lt_succ_of_lt z2_0, Nat.ne_of_lt z2_0, Nat.ne_of_gt z2_0, z2_1, Nat.lt_succ_of_lt z2_1, Nat.ne_of_lt z2_1, Nat.ne_of_gt z2_1, hc3, hf3, z3_0, Nat.lt_succ_of_lt z3_0, Nat.ne_of_lt z3_0, Nat.ne_of_gt z3_0, z3_1, Nat.lt_succ_of_lt z3_1, Nat.ne_of_lt z3_1, Nat.ne_of_gt z3_1]) (Cl.cons (by simp [go_sem, hc1, hf1, z1_0, Nat.lt_succ_of_lt z1_0, Nat.ne_of_lt z1_0, Nat.ne_of_gt z1_0, z1_1, Nat.lt_succ_of_lt z1_1, Nat.ne_of_lt z1_1, Nat.ne_of_gt z1_1, hc2, hf2, z2_0, Nat.lt_succ_of_lt z2_0, Nat.ne_of_lt z2_0, Nat.ne_of_gt z2_0, z2_1, Nat.lt_succ_of_lt z2_1, Nat.ne_of_lt z2_1, Nat.ne_of_gt z2_1, hc3, hf3, z3_0, Nat.lt_succ_of_lt z3_0, Nat.ne_of_lt z3_0, Nat.ne_of_gt z3_0, z3_1, Nat.lt_succ_of_lt z3_1, Nat.ne_of_lt z3_1, Nat.ne_of_gt z3_1]) (by simp [go_sem, hc1, hf1, z1_0, Nat.lt_succ_of_lt z1_0, Nat.ne_of_lt z1_0, Nat.ne_of_gt z1_0, z1_1, Nat.lt_succ_of_lt z1_1, Nat.ne_of_lt z1_1, Nat.ne_of_gt z1_1, hc2, hf2, z2_0, Nat.lt_succ_of_lt z2_0, Nat.ne_of_lt z2_0, Nat.ne_of_gt z2_0, z2_1, Nat.lt_succ_of_lt z2_1, Nat.ne_of_lt z2_1, Nat.ne_of_gt z2_1, hc3, hf3, z3_0, Nat.lt_succ_of_lt z3_0, Nat.ne_of_lt z3_0, Nat.ne_of_gt z3_0, z3_1, Nat.lt_succ_of_lt z3_1, Nat.ne_of_lt z3_1, Nat.ne_of_gt z3_1]) (Cl.nil _))))
 have lg : w.heap.size + 1 < w3.heap.size := z3_1
 have K3b := K3
 clear hb1 hc1 hf1 hb2 hc2 hf2 hb3 hc3 hf3 z1_0 z1_1 z2_0 z2_1 z3_0 z3_1 K1 K2 VL GC FD B0 RA2 K3
 obtain ⟨gr, hgr⟩ : ∃ gr, w3.heap.size = gr := ⟨_, rfl⟩
 have F1 : Cl ((gr, 0, .int .i64 D) :: (gr, 1, .slice none 0 0) :: (gr, 2, .bool true) :: [(w.heap.size, 2, .bool true), (w.heap.size + 1, 0, .int .i64 0), (w.heap.size + 1, 1, .slice none 0 0), (w.heap.size + 1, 2, .bool false)]) (w3.alloc (Obj.cells #[Value.int .i64 D, Value.slice none 0 0, Value.bool true] 36)) := by
  have h := F0.below ((Below.refl _ _).alloc (Nat.le_refl _) (Obj.cells #[Value.int .i64 D, Value.slice none 0 0, Value.bool true] 36))
  rw [<- hgr]
  exact Cl.cons (by go_cell) (by simp only [frozen?_alloc_cells]; exact Rg.notFrozen (Nat.le_refl _)) (Cl.cons (by go_cell) (by simp only [frozen?_alloc_cells]; exact Rg.notFrozen (Nat.le_refl _)) (Cl.cons (by go_cell) (by simp only [frozen?_alloc_cells]; exact Rg.notFrozen (Nat.le_refl _)) h))
 have F1h := Lib.hid F1
 have KB0 : Hid (Below w.heap.size w (w3.alloc (Obj.cells #[Value.int .i64 D, Value.slice none 0 0, Value.bool true] 36))) := Lib.hid (K3b.alloc K3b.size _)
 have hlt0 : gr < (w3.alloc (Obj.cells #[Value.int .i64 D, Value.slice none 0 0, Value.bool true] 36)).heap.size := by simp; omega
 have lw : w.heap.size + 1 < gr := by omega
 rw [hgr]
 clear F0 F1 K3b lg
 go_loopw [61] (fun i wr => ∃ (j : Nat) (vl : Value), i = .int .i64 j /\ j <= n /\ gr < wr.heap.size /\ Hid (Cl ((gr, 0, .int .i64 D) :: (gr, 1, vl) :: (gr, 2, .bool true) :: [(w.heap.size, 2, .bool true), (w.heap.size + 1, 0, .int .i64 0), (w.heap.size + 1, 1, .slice none 0 0), (w.heap.size + 1, 2, .bool false)]) wr) /\ Hid (Below w.heap.size w wr) /\ Hid (wr.ownsRow (gr + 1) 59 2 vl j (moCs (tdY G (xs.take j))))) (fun i _ => n - (intOf i).toNat)
 case atStart => exact ⟨0, .slice none 0 0, rfl, Nat.zero_le _, hlt0, F1h, KB0, Lib.hid (World.ownsRow_nil _ _ _ _)⟩
 case round =>
  obtain ⟨j, vl, rfl, hj, hlt9, hF, hB, hO⟩ := hrel
  clear F1h KB0 hlt0
  have jj : (0 : Int) <= j := by omega
  have d0 := hF.out.head
  have d1 := hF.out.tail.head
  have zd1 := hF.out.tail.headF
  have d2 := hF.out.tail.tail.head
  have d3 := hF.out.tail.tail.tail.head
  by_cases hlt : j < n
  ·obtain ⟨b, o, rfl, e0, e1⟩ := RA.out j (by rw [HN.out]; exact hlt)
   have j2 : (j : Int) < n := by omega
   have hbw : b < w.heap.size := World.block_lt_of_cell? _ _ e0
   replace e0 := Rg.keep hB.out hbw e0
   replace e1 := Rg.keep hB.out hbw e1
   have hbr : b < wr.heap.size := World.block_lt_of_cell? _ _ e0
   have hst := tdY_take (G := G) (xs := xs) (j := j) (by rw [HN.out]; exact hlt)
   obtain ⟨-, y0, y1⟩ := RS.out j (by rw [HN.out]; exact hlt)
   obtain ⟨m, hm⟩ : ∃ m, xs.getD j mo0 = m := ⟨_, rfl⟩
   rw [hm] at e0 e1 hst y0 y1
   obtain ⟨z, a⟩ := m
   dsimp only at e0 e1 hst y0 y1
   have FB := Lib.hid fun w => FA.out a y0 y1 w
   have HST := Lib.hid hst
   clear hm hst y0 y1
   have BM := (Below.refl wr.heap.size wr).alloc (Nat.le_refl _) (Obj.cells #[Value.string z, Value.int .i64 a] 59)
   have FM := Lib.hid (hF.out.below BM)
   have OM := Lib.hid (hO.out.alloc (Obj.cells #[Value.string z, Value.int .i64 a] 59))
   have KM := Lib.hid (hB.out.alloc hB.out.size (Obj.cells #[Value.string z, Value.int .i64 a] 59))
   clear hF hO BM
   go_wp2_with (first | (go_at_call 60; (with_reducible refine (FB.out _).mono ?_); rintro e u ⟨rfl, hb⟩; have x0 : u.cell? ⟨wr.heap.size, 0, none⟩ = some (.string z) := Rg.keep hb (by simp) (by go_cell); have FU := FM.out.below hb; have d1' := FU.tail.head; have zd1' := FU.tail.headF; have OU := own_belowE OM.out hb; have KU := KM.out.trans (hb.mono KM.out.size); have hsu : wr.heap.size < u.heap.size := World.block_lt_of_cell? _ _ x0) | (at_builtin; refine wpList_append_own _ rfl _ _ 22 rfl (gr + 1) 59 i0 (.agg #[.string ⟨#[]⟩, .int .i64 0]) 2 24 Tryd.underlying22 hi hz0 hz1 hz2 rfl (by decide) _ _ _ rfl (OU.alloc _) ⟨u.heap.size, 0, none⟩ 1 1 [.string z, .int .i64 (a / (G : Int))] rfl rfl ?_ ?_ ?_ ?_ ?_ ?_))
   ·intro q x hx
    rcases q with _ | _ | q
    ·cases hx; go_cell
    ·cases hx; go_cell
    ·simp at hx
   ·intro x hx
    simp at hx
    rcases hx with rfl | rfl <;> rfl
   ·unfold maxLen; omega
   ·omega
   ·simp; omega
   intro v' w4 hown' hgrow _
   have FV := FU.below ((Below.refl _ _).alloc (Nat.le_refl _) (Obj.cells #[Value.string z, Value.int .i64 (a / (G : Int))] 59))
   have F4 := FV.own (OU.alloc _) hgrow (by simp only [List.forall_mem_cons]; simp; omega)
   have K4 := (KU.alloc KU.size (Obj.cells #[Value.string z, Value.int .i64 (a / (G : Int))] 59)).grown hgrow (KU.alloc KU.size (Obj.cells #[Value.string z, Value.int .i64 (a / (G : Int))] 59)).size (fun q hq => by have := (OU.lt q hq).1; have := KU.size; omega)
   have hown2 : Hid (w4.ownsRow (gr + 1) 59 2 v' (j + 1) (moCs (tdY G (xs.take (j + 1))))) := Lib.hid (by
    rw [HST.out]
    exact hown')
   obtain ⟨q', c', rfl⟩ := own_slice hown2.out
   clear hown' hgrow FU FV OU KU FM OM KM x0 d1' zd1' hi hz0 hz1 hz2
   have e0 := F4.head
   have ze0 := F4.headF
   have e1 := F4.tail.head
   have ze1 := F4.tail.headF
   have e2 := F4.tail.tail.head
   have ze2 := F4.tail.tail.headF
   have F5 := F4.tail.tail.tail
   go_wp2
   go_roundw
   case rel =>
    refine ⟨j + 1, .slice q' (j + 1) c', by go_num, by omega, by rw [World.size_setCell]; exact World.block_lt_of_cell? _ _ e0, Lib.hid (Cl.cons (by go_cell) (by simp [World.frozen?_setCell, ze0]) (Cl.cons (by go_cell) (by simp [World.frozen?_setCell, ze1]) (Cl.cons (by go_cell) (by simp [World.frozen?_setCell, ze2]) (F5.far (by simp only [List.forall_mem_cons]; simp; omega))))), Lib.hid (K4.setCell (p := ⟨gr, 1, none⟩) (by show w.heap.size <= gr; omega) _), Lib.hid (own_set hown2.out (by show gr < gr + 1; omega))⟩
   case measure => simp [intOf]; omega
  ·obtain rfl : j = n := by omega
   have hO2 := hO.out
   rw [show xs.take j = xs by rw [<- HN.out]; exact List.take_length] at hO2
   obtain ⟨q, d, hvl, hS⟩ := own_sl' (l := tdY G xs) hO2 (by rw [tdY_len, HN.out])
   subst hvl
   have r0 := hF.out.tail.tail.tail.tail.head
   have zr0 := hF.out.tail.tail.tail.tail.headF
   have r1 := hF.out.tail.tail.tail.tail.tail.head
   have zr1 := hF.out.tail.tail.tail.tail.tail.headF
   have r2 := hF.out.tail.tail.tail.tail.tail.tail.head
   have zr2 := hF.out.tail.tail.tail.tail.tail.tail.headF
   have lr : w.heap.size + 1 < wr.heap.size := World.block_lt_of_cell? _ _ r0
   have KE := hB.out
   have hlt8 := hlt9
   have FF := hF.out
   have hneg := HNG.out
   obtain ⟨b2, o2, hq2, s0, s1⟩ := hS 0 (by have h1 := HN0.out; rw [tdY_len]; omega)
   have hS9 := Lib.hid hS
   have HS9 : Hid (SlM wr q (tdY G xs)) := Lib.hid hS
   rw [hq2] at HS9
   subst hq2
   simp only [Nat.zero_mul, Nat.add_zero] at s0 s1
   obtain ⟨y, hy⟩ : ∃ y, (tdY G xs).getD 0 mo0 = y := ⟨_, rfl⟩
   rw [hy] at s0 s1 hneg
   have hj0 : (0 : Int) < j := by have h1 := HN0.out; have h2 := HN.out; omega
   have SC := Lib.hid fun w h => scale1k D (some ⟨b2, o2, none⟩) (tdY G xs) d (-1) w (by rw [tdY_len, HN.out]; exact hn) h HTB D0.out.1 D0.out.2 (by decide) (by decide)
   rw [show (tdY G xs).length = j by rw [tdY_len, HN.out]] at SC
   obtain ⟨R9, hR9⟩ : ∃ R9, sclR (-1) D (tdY G xs) = R9 := ⟨_, rfl⟩
   have hres := HRES.out
   rw [hDD.out, hR9] at hres
   rw [hR9] at SC
   obtain ⟨K2, ys, er⟩ := R9
   dsimp only at SC hres
   unfold Lv at SC
   clear hO hO2 hB FA RS RA hy hS hR9 HTB
   by_cases h0 : er = 0
   ·subst h0
    rw [if_neg (by decide)] at hres
    subst hres
    go_wp2_with (go_at_call 61; (with_reducible refine (SC.out _ HS9).mono ?_); rintro e w5 ⟨pt, ct, rfl, _, hfr, S5, hb5⟩; unfold Lv; have F5 := FF.below hb5; have K5 := KE.trans (hb5.mono KE.size); have l5 := hb5.size; have r0 := F5.tail.tail.tail.tail.head; have zr0 := F5.tail.tail.tail.tail.headF; have r1 := F5.tail.tail.tail.tail.tail.head; have zr1 := F5.tail.tail.tail.tail.tail.headF; have r2 := F5.tail.tail.tail.tail.tail.tail.head; have zr2 := F5.tail.tail.tail.tail.tail.tail.headF; have d0 := F5.head; have zd0 := F5.headF; have d1 := F5.tail.head; have zd1 := F5.tail.headF; have d2 := F5.tail.tail.head; have zd2 := F5.tail.tail.headF; have lr : w.heap.size + 1 < w5.heap.size := World.block_lt_of_cell? _ _ r0; have hlt9 : gr < w5.heap.size := World.block_lt_of_cell? _ _ d0; clear hb5 FF hF)
    refine bodyPost_ret (v := .tuple #[.agg #[.int .i64 K2, .slice pt ys.length ct, .bool true], .int .i64 0, .int .i64 0]) (by simp [results, Tryd.results28, go_sem, r0, zr0, r1, zr1, r2, zr2, d0, d1, d2, lr, hlt9, Nat.ne_of_gt lw, Nat.ne_of_lt lw]) rfl ⟨pt, ct, rfl, ?_, ?_, ?_⟩
    all_goals first | exact (turn_end K5 hfr S5 hlt8 lw).1 | exact (turn_end K5 hfr S5 hlt8 lw).2.1 | exact (turn_end K5 hfr S5 hlt8 lw).2.2
   ·have g0 : (er == 0) = false := by simpa using h0
    have g1 : (er != 0) = true := by simpa using h0
    rw [if_pos h0] at hres
    subst hres
    clear h0
    go_wp2_with (go_at_call 61; (with_reducible refine (SC.out _ HS9).mono ?_); rintro e w5 ⟨pt, ct, rfl, _, hfr, S5, hb5⟩; unfold Lv; have F5 := FF.below hb5; have K5 := KE.trans (hb5.mono KE.size); have l5 := hb5.size; have r0 := F5.tail.tail.tail.tail.head; have zr0 := F5.tail.tail.tail.tail.headF; have r1 := F5.tail.tail.tail.tail.tail.head; have zr1 := F5.tail.tail.tail.tail.tail.headF; have r2 := F5.tail.tail.tail.tail.tail.tail.head; have zr2 := F5.tail.tail.tail.tail.tail.tail.headF; have d0 := F5.head; have zd0 := F5.headF; have d1 := F5.tail.head; have zd1 := F5.tail.headF; have d2 := F5.tail.tail.head; have zd2 := F5.tail.tail.headF; have lr : w.heap.size + 1 < w5.heap.size := World.block_lt_of_cell? _ _ r0; have hlt9 : gr < w5.heap.size := World.block_lt_of_cell? _ _ d0; clear hb5 FF hF)
    refine bodyPost_ret (v := .tuple #[.agg #[.int .i64 0, .slice none 0 0, .bool false], .int .i64 0, .int .i64 er]) (by simp [results, Tryd.results28, go_sem, r0, zr0, r1, zr1, r2, zr2, d0, d1, d2, lr, hlt9, Nat.ne_of_gt lw, Nat.ne_of_lt lw]) rfl (TR.nil (turn_err K5 (Nat.le_of_lt (Nat.lt_succ_self _))))
end Go.Proofs.YtbicmlkjonaccaaDoor.Ln


namespace Go.Proofs.YtbicmlkjonaccaaDoor.Ln
open Go.ChangeShapes Go.WideShapes Go.ChangeAt Go.RowKit
open Go.Proofs.YtbicmlkjonaccaaDoor.Nm
set_option linter.unusedVariables false
set_option linter.unusedSimpArgs false
set_option maxRecDepth 8000

theorem tig1 (k : Int) (p : Option Addr) (xs : List Mo) (c : Nat) (eq : Bool) (w : World) (hn : xs.length <= 1000) (RA : Hid (SlM w p xs)) (RS : Hid (∀ i, i < xs.length -> (xs.getD i mo0).1.size <= maxLen /\ -9223372036854775808 <= (xs.getD i mo0).2 /\ (xs.getD i mo0).2 <= 9223372036854775807)) (k1 : -9223372036854775808 <= k) (k2 : k <= 9223372036854775807) : Calls Tryd.prog 28 #[Cv k p xs.length c eq] w (TR (tgR k xs eq) w) := by
 obtain ⟨R, hR⟩ : ∃ R, tgR k xs eq = R := ⟨_, rfl⟩
 rw [hR]
 unfold tgR at hR
 cases hok : okL xs
 ·rw [if_pos hok] at hR
  subst hR
  exact tig_bad k p xs c eq w hn RA RS k1 k2 hok
 ·rw [if_neg (by rw [hok]; decide)] at hR
  by_cases h0 : xs.length = 0
  ·rw [if_pos h0] at hR
   cases hh : hB k eq
   ·rw [if_neg (by rw [hh]; decide)] at hR
    subst hR
    exact tig_false k p xs c eq w hn RA RS k1 k2 hok h0 hh
   ·rw [if_pos hh] at hR
    subst hR
    exact tig_true k p xs c eq w hn RA RS k1 k2 hok h0 hh
  ·rw [if_neg h0] at hR
   cases eq
   ·rw [if_neg (by simp), if_neg (by simp)] at hR
    subst hR
    exact tig_ge k p xs c w hn RA RS k1 k2 hok h0
   ·cases hx : (k % (gcdL 0 xs : Int) == 0)
    ·rw [if_pos (by rw [hx]; rfl)] at hR
     subst hR
     exact tig_no k p xs c true w hn RA RS k1 k2 hok h0 rfl hx
    ·rw [if_neg (by rw [hx]; decide)] at hR
     cases hneg : decide (((tdY (gcdL 0 xs) xs).getD 0 mo0).2 < 0)
     ·rw [if_neg (by rw [hneg]; decide)] at hR
      subst hR
      exact tig_eq k p xs c w hn RA RS k1 k2 hok h0 hx hneg
     ·rw [if_pos (by rw [hneg]; rfl)] at hR
      exact tig_turn k p xs c w hn RA RS k1 k2 hok h0 hx hneg R hR
end Go.Proofs.YtbicmlkjonaccaaDoor.Ln


namespace Go.Proofs.YtbicmlkjonaccaaDoor.Ln
open Go.ChangeShapes Go.WideShapes Go.ChangeAt Go.RowKit
open Go.Proofs.YtbicmlkjonaccaaDoor.Nm
set_option linter.unusedVariables false
set_option linter.unusedSimpArgs false
set_option maxRecDepth 8000

theorem sclR_le (by' k : Int) (xs : List Mo) : (sclR by' k xs).2.1.length <= xs.length := by
 unfold sclR
 split
 ·simp
 ·split
  ·simp
  ·split
   ·simp [sclV]
   ·simp
theorem tgR_len (k : Int) (xs : List Mo) (eq : Bool) : (tgR k xs eq).2.1.length <= xs.length := by
 unfold tgR
 split
 ·simp
 ·split
  ·split <;> simp
  ·split
   ·simp
   ·split
    ·split
     ·simp
     ·dsimp only
      exact Nat.le_trans (sclR_le _ _ _) (by rw [tdY_len]; exact Nat.le_refl _)
    ·dsimp only
     rw [tdY_len]
     exact Nat.le_refl _
end Go.Proofs.YtbicmlkjonaccaaDoor.Ln


namespace Go.Proofs.YtbicmlkjonaccaaDoor.Ln
open Go.ChangeShapes Go.WideShapes Go.ChangeAt Go.RowKit
open Go.Proofs.YtbicmlkjonaccaaDoor.Nm
set_option linter.unusedVariables false
set_option linter.unusedSimpArgs false
set_option maxRecDepth 8000

theorem tgQ_len (f : Qm) : (tgQ f).2.1.length <= f.2.1.length := tgR_len _ _ _
theorem keep_mem {l : List Qm} {t : Qm} (h : t ∈ l.filterMap keepF) : ∃ f ∈ l, tgQ f = (t.1, t.2.1, t.2.2, 0, 0) := by
 obtain ⟨f, hf, hk⟩ := List.mem_filterMap.1 h
 unfold keepF at hk
 split at hk
 ·rename_i h0
  cases hk
  obtain ⟨K, ys, fq, kd, er, hT, _⟩ := tg_kinds f.1 f.2.1 f.2.2
  have hT : tgQ f = (K, ys, fq, kd, er) := hT
  rw [hT] at h0
  obtain ⟨h1, h2⟩ := h0
  dsimp only at h1 h2
  exact ⟨f, hf, by rw [hT, h1, h2]⟩
 ·cases hk
abbrev bdQ (l : List Qm) : Prop := ∀ f ∈ l, f.2.1.length <= 40 /\ (-9223372036854775808 <= f.1 /\ f.1 <= 9223372036854775807) /\ ∀ m ∈ f.2.1, m.1.size <= maxLen /\ -9223372036854775808 <= m.2 /\ m.2 <= 9223372036854775807
/-- Normalize, whatever the list. -/
theorem nrm1 (p : Option Addr) (l : List Qm) (c : Nat) (w : World) (hl : l.length <= 1000) (RA : Hid (SlQ w p l)) (QK : Hid (bdQ l)) : Calls Tryd.prog 36 #[.slice p l.length c] w (NZ l w) := by
 rcases Nat.lt_or_ge 256 l.length with h | h
 ·exact nz_lim p l c w hl h
 ·have T : Hid (∀ f ∈ l, ∀ p c w', SlM w' p f.2.1 -> Calls Tryd.prog 28 #[Cv f.1 p f.2.1.length c f.2.2] w' (TR (tgQ f) w')) := Lib.hid fun f hf p c w' hS =>
   tig1 f.1 p f.2.1 c f.2.2 w' (Nat.le_trans (QK.out f hf).1 (by decide)) (Lib.hid hS) (Lib.hid fun i hi => (QK.out f hf).2.2 _ (getD_mem hi)) (QK.out f hf).2.1.1 (QK.out f hf).2.1.2
  by_cases he : (firF l 0).2 = 0
  ·cases hp : l.all posF
   ·exact nz_nev p l c w h he hp RA T
   ·refine nz_main p l c w h he hp RA (Lib.hid fun t ht => ?_) T
    obtain ⟨f, hf, hT⟩ := keep_mem ht
    have h1 := tgQ_len f
    rw [hT] at h1
    have h2 := (QK.out f hf).1
    dsimp only at h1
    unfold maxLen
    omega
  ·exact nz_err p l c w h he RA T
theorem nodup_len {α : Type} : ∀ (l m : List α), l.Nodup -> (∀ x ∈ l, x ∈ m) -> l.length <= m.length
 | [], m, _, _ => by simp
 | x :: r, m, hn, hs => by
  letI : DecidableEq α := fun a b => Classical.propDecidable (a = b)
  obtain ⟨h1, h2⟩ := List.nodup_cons.1 hn
  have hx := hs x (List.mem_cons_self ..)
  have ih := nodup_len r (m.erase x) h2 (fun y hy => (List.mem_erase_of_ne (fun e => h1 (by rw [<- e]; exact hy))).2 (hs y (List.mem_cons_of_mem _ hy)))
  rw [List.length_erase_of_mem hx] at ih
  have := List.length_pos_of_mem hx
  rw [List.length_cons]
  omega
theorem asc_nodup {l : List Qm} (h : AscM l) : l.Nodup := h.imp fun {a b} h e => by
 rw [e, lc_self] at h
 omega
/-- What is known of an answer. -/
theorem nz_facts {l : List Qm} {a : List Qm × Bool × Int} (h : NzR l a) : a.1.length <= l.length /\ ∀ t ∈ a.1, t ∈ l.filterMap keepF := by
 rcases Nat.lt_or_ge 256 l.length with c | c
 ·rw [h.lim c]; exact ⟨Nat.zero_le _, fun t ht => absurd ht (by simp)⟩
 ·by_cases e : (firF l 0).2 = 0
  ·cases p : l.all posF with
   | false => rw [h.nev c e p]; exact ⟨Nat.zero_le _, fun t ht => absurd ht (by simp)⟩
   | true =>
    by_cases k : Cns (l.filterMap keepF)
    ·obtain ⟨a1, a2, a3⟩ := h.yes c e p k
     have hm : ∀ t ∈ a.1, t ∈ l.filterMap keepF := fun t ht => ((a3 t).1 ht).1
     exact ⟨Nat.le_trans (nodup_len _ _ (asc_nodup a2) hm) (List.length_filterMap_le _ _), hm⟩
    ·rw [h.con c e p k]; exact ⟨Nat.zero_le _, fun t ht => absurd ht (by simp)⟩
  ·rw [h.err c e]; exact ⟨Nat.zero_le _, fun t ht => absurd ht (by simp)⟩
end Go.Proofs.YtbicmlkjonaccaaDoor.Ln


namespace Go.Proofs.YtbicmlkjonaccaaDoor.Ln
open Go.ChangeShapes Go.WideShapes Go.ChangeAt Go.RowKit
open Go.Proofs.YtbicmlkjonaccaaDoor.Nm
set_option linter.unusedVariables false
set_option linter.unusedSimpArgs false
set_option maxRecDepth 8000

theorem conEq (k : Int) (p q : Option Addr) (xs : List Mo) (c d : Nat) (eq : Bool) (w : World) (hn : xs.length <= maxLen) (RA : Hid (SlM w p xs)) (RB : Hid (SlM w q xs)) : Calls Tryd.prog 30 #[Cv k p xs.length c eq, Cv k q xs.length d eq] w fun e w' => e = .returned (.bool true) /\ Below w.heap.size w w' := by
 have LE := Lib.hid fun w h1 h2 => linEq k p xs c q d w hn h1 h2
 have B0 : Below w.heap.size w ((w.alloc (Obj.cells #[Value.int .i64 k, Value.slice p xs.length c, Value.bool eq] 36)).alloc (Obj.cells #[Value.int .i64 k, Value.slice q xs.length d, Value.bool eq] 36)) := ((Below.refl _ _).alloc (Nat.le_refl _) _).alloc (by simp) _
 have RA2 := Lib.hid (SlM.keep B0 RA.out)
 have RB2 := Lib.hid (SlM.keep B0 RB.out)
 unfold Cv
 unfold Lv at LE
 go_enter Tryd.func30, Tryd.ntmps30
 go_wp2_with (go_at_call 66; refine (LE.out _ RA2 RB2).mono ?_; rintro e w1 ⟨rfl, hb⟩)
 go_ret
 exact ⟨by simp, B0.trans (hb.mono B0.size)⟩
end Go.Proofs.YtbicmlkjonaccaaDoor.Ln


namespace Go.Proofs.YtbicmlkjonaccaaDoor.Ln
open Go.ChangeShapes Go.WideShapes Go.ChangeAt Go.RowKit
open Go.Proofs.YtbicmlkjonaccaaDoor.Nm
set_option linter.unusedVariables false
set_option linter.unusedSimpArgs false
set_option maxRecDepth 8000

theorem SlQ.kp {w w' : World} {p : Option Addr} {l : List Qm} (hb : Below w.heap.size w w') (h : SlQ w p l) : SlQ w' p l := fun i hi => by
 obtain ⟨b, o, q, c, hp, c0, c1, c2, hS⟩ := h i hi
 have lb : b < w.heap.size := World.block_lt_of_cell? _ _ c0
 exact ⟨b, o, q, c, hp, Rg.keep hb lb c0, Rg.keep hb lb c1, Rg.keep hb lb c2, SlM.keep hb hS⟩
set_option maxRecDepth 100000 in
set_option maxHeartbeats 8000000 in
/-- Two lists that read the same are the same by the tests. -/
theorem consEq (p q : Option Addr) (l : List Qm) (c d : Nat) (w : World) (hl : l.length <= 1000) (hx : Hid (∀ f ∈ l, f.2.1.length <= maxLen)) (RA : Hid (SlQ w p l)) (RB : Hid (SlQ w q l)) : Calls Tryd.prog 33 #[.slice p l.length c, .slice q l.length d] w fun e w' => e = .returned (.bool true) /\ Below w.heap.size w w' := by
 obtain ⟨n, hnn⟩ : ∃ n, l.length = n := ⟨_, rfl⟩
 have HN := Lib.hid hnn
 rw [hnn] at hl ⊢
 clear hnn
 go_enter Tryd.func33, Tryd.ntmps33
 go_wp2_with fail
 go_loopw [5] (fun i wr => ∃ (j : Nat), i = .int .i64 j /\ j <= n /\ Below w.heap.size w wr) (fun i _ => n - (intOf i).toNat)
 case atStart => exact ⟨0, rfl, Nat.zero_le _, Below.refl _ _⟩
 case round =>
  obtain ⟨j, rfl, hj, hB⟩ := hrel
  have jj : (0 : Int) <= j := by omega
  by_cases hlt : j < n
  ·obtain ⟨b, o, qa, da, rfl, c0, c1, c2, hM⟩ := RA.out j (by rw [HN.out]; exact hlt)
   obtain ⟨b', o', qb, db, rfl, e0, e1, e2, hM'⟩ := RB.out j (by rw [HN.out]; exact hlt)
   have j2 : (j : Int) < n := by omega
   have hbw : b < w.heap.size := World.block_lt_of_cell? _ _ c0
   have hbw' : b' < w.heap.size := World.block_lt_of_cell? _ _ e0
   replace c0 := Rg.keep hB hbw c0
   replace c1 := Rg.keep hB hbw c1
   replace c2 := Rg.keep hB hbw c2
   replace e0 := Rg.keep hB hbw' e0
   replace e1 := Rg.keep hB hbw' e1
   replace e2 := Rg.keep hB hbw' e2
   have HM1 := Lib.hid (SlM.keep hB hM)
   have HM2 := Lib.hid (SlM.keep hB hM')
   have hlx := hx.out _ (qget (l := l) (i := j) (by rw [HN.out]; exact hlt))
   obtain ⟨f, hf⟩ : ∃ f, l.getD j q0m = f := ⟨_, rfl⟩
   rw [hf] at c0 c1 c2 e0 e1 e2 HM1 HM2 hlx
   obtain ⟨k, xs, eq⟩ := f
   dsimp only at c0 c1 c2 e0 e1 e2 HM1 HM2 hlx
   have CE := Lib.hid fun p q c d w h1 h2 => conEq k p q xs c d eq w hlx h1 h2
   have HB := Lib.hid hB
   unfold Cv at CE
   clear hM hM' hf hlx hB
   have HS : Hid (∀ u u' : World, (u.cell? ⟨b, o + j * 3, none⟩ = some (.int .i64 k) /\ u.cell? ⟨b, o + j * 3 + 1, none⟩ = some (.slice qa xs.length da) /\ u.cell? ⟨b, o + j * 3 + 2, none⟩ = some (.bool eq) /\ u.cell? ⟨b', o' + j * 3, none⟩ = some (.int .i64 k) /\ u.cell? ⟨b', o' + j * 3 + 1, none⟩ = some (.slice qb xs.length db) /\ u.cell? ⟨b', o' + j * 3 + 2, none⟩ = some (.bool eq) /\ Below wr.heap.size wr u) -> Below u.heap.size u u' -> (u'.cell? ⟨b, o + j * 3, none⟩ = some (.int .i64 k) /\ u'.cell? ⟨b, o + j * 3 + 1, none⟩ = some (.slice qa xs.length da) /\ u'.cell? ⟨b, o + j * 3 + 2, none⟩ = some (.bool eq) /\ u'.cell? ⟨b', o' + j * 3, none⟩ = some (.int .i64 k) /\ u'.cell? ⟨b', o' + j * 3 + 1, none⟩ = some (.slice qb xs.length db) /\ u'.cell? ⟨b', o' + j * 3 + 2, none⟩ = some (.bool eq) /\ Below wr.heap.size wr u')) := Lib.hid (fun u u' h hb => ⟨Rg.keep hb (World.block_lt_of_cell? _ _ h.1) h.1, Rg.keep hb (World.block_lt_of_cell? _ _ h.2.1) h.2.1, Rg.keep hb (World.block_lt_of_cell? _ _ h.2.2.1) h.2.2.1, Rg.keep hb (World.block_lt_of_cell? _ _ h.2.2.2.1) h.2.2.2.1, Rg.keep hb (World.block_lt_of_cell? _ _ h.2.2.2.2.1) h.2.2.2.2.1, Rg.keep hb (World.block_lt_of_cell? _ _ h.2.2.2.2.2.1) h.2.2.2.2.2.1, h.2.2.2.2.2.2.trans (hb.mono h.2.2.2.2.2.2.size)⟩)
   go_wp2_with fail
   refine Rk.begin (S := fun wS => wS.cell? ⟨b, o + j * 3, none⟩ = some (.int .i64 k) /\ wS.cell? ⟨b, o + j * 3 + 1, none⟩ = some (.slice qa xs.length da) /\ wS.cell? ⟨b, o + j * 3 + 2, none⟩ = some (.bool eq) /\ wS.cell? ⟨b', o' + j * 3, none⟩ = some (.int .i64 k) /\ wS.cell? ⟨b', o' + j * 3 + 1, none⟩ = some (.slice qb xs.length db) /\ wS.cell? ⟨b', o' + j * 3 + 2, none⟩ = some (.bool eq) /\ Below wr.heap.size wr wS) 9 (by kernel_rfl) ⟨c0, c1, c2, e0, e1, e2, (Below.refl _ _).drew⟩ (fun hHeld => ?_)
   refine Rk.takeP (i := 0) (v := ?_) rfl (by kernel_rfl) (by kernel_rfl) (by kernel_rfl) (by kernel_rfl) (fun _ _ _ h => h) (Or.inl ⟨by kernel_rfl, ?_⟩) (by assumption) ?_
   rotate_left
   ·((intro w hSw; go_simp) <;> with_reducible rfl)
   try simp only [Act.put, List.setIfInBounds_toArray, List.set_cons_zero, List.set_cons_succ]
   refine Rk.takeP (i := 1) (v := ?_) rfl (by kernel_rfl) (by kernel_rfl) (by kernel_rfl) (by kernel_rfl) (fun _ _ _ h => h) (Or.inl ⟨by kernel_rfl, ?_⟩) (by assumption) ?_
   rotate_left
   ·((intro w hSw; go_simp) <;> with_reducible rfl)
   try simp only [Act.put, List.setIfInBounds_toArray, List.set_cons_zero, List.set_cons_succ]
   refine Rk.takeP (i := 2) (v := ?_) rfl (by kernel_rfl) (by kernel_rfl) (by kernel_rfl) (by kernel_rfl) (fun _ _ _ h => h) (Or.inl ⟨by kernel_rfl, ?_⟩) (by assumption) ?_
   rotate_left
   ·((intro w hSw; go_simp) <;> with_reducible rfl)
   try simp only [Act.put, List.setIfInBounds_toArray, List.set_cons_zero, List.set_cons_succ]
   refine Rk.take [8, 9] (i := 3) (v := ?_) rfl (by kernel_rfl) (by kernel_rfl) (by kernel_rfl) (by kernel_rfl) (by kernel_rfl) (fun _ _ _ h => h) (Or.inl ⟨by kernel_rfl, ?_⟩) (by assumption) ?_
   rotate_left
   ·((intro w hSw; (try dsimp only at hSw); go_simp) <;> with_reducible rfl)
   try simp only [Act.put, List.setIfInBounds_toArray, List.set_cons_zero, List.set_cons_succ]
   refine Rk.takeP (i := 4) (v := ?_) rfl (by kernel_rfl) (by kernel_rfl) (by kernel_rfl) (by kernel_rfl) (fun _ _ _ h => h) (Or.inl ⟨by kernel_rfl, ?_⟩) (by assumption) ?_
   rotate_left
   ·((intro w hSw; go_simp) <;> with_reducible rfl)
   try simp only [Act.put, List.setIfInBounds_toArray, List.set_cons_zero, List.set_cons_succ]
   refine Rk.takeP (i := 5) (v := ?_) rfl (by kernel_rfl) (by kernel_rfl) (by kernel_rfl) (by kernel_rfl) (fun _ _ _ h => h) (Or.inl ⟨by kernel_rfl, ?_⟩) (by assumption) ?_
   rotate_left
   ·((intro w hSw; go_simp) <;> with_reducible rfl)
   try simp only [Act.put, List.setIfInBounds_toArray, List.set_cons_zero, List.set_cons_succ]
   refine Rk.takeP (i := 6) (v := ?_) rfl (by kernel_rfl) (by kernel_rfl) (by kernel_rfl) (by kernel_rfl) (fun _ _ _ h => h) (Or.inl ⟨by kernel_rfl, ?_⟩) (by assumption) ?_
   rotate_left
   ·((intro w hSw; go_simp) <;> with_reducible rfl)
   try simp only [Act.put, List.setIfInBounds_toArray, List.set_cons_zero, List.set_cons_succ]
   refine Rk.take [8, 9] (i := 7) (v := ?_) rfl (by kernel_rfl) (by kernel_rfl) (by kernel_rfl) (by kernel_rfl) (by kernel_rfl) (fun _ _ _ h => h) (Or.inl ⟨by kernel_rfl, ?_⟩) (by assumption) ?_
   rotate_left
   ·((intro w hSw; (try dsimp only at hSw); go_simp) <;> with_reducible rfl)
   try simp only [Act.put, List.setIfInBounds_toArray, List.set_cons_zero, List.set_cons_succ]
   refine Rk.one (i := 8) (by kernel_rfl) rfl (fun KK hK => ?_)
   rw [if_pos (by kernel_rfl)]
   go_simp
   ((with_reducible refine (CE.out qa qb da db _ (Lib.hid (SlM.keep hHeld.2.2.2.2.2.2 HM1.out)) (Lib.hid (SlM.keep hHeld.2.2.2.2.2.2 HM2.out))).mono ?_); rintro e u ⟨rfl, hb⟩)
   first | (refine hK.out _ _ (fun _ => HS.out _ _ hHeld hb) (fun hHeld => ?_)) | (refine hK.out _ _ (HS.out _ _ hHeld hb) (fun hHeld => ?_)) | (go_wp2_with fail; refine hK.out _ _ (HS.out _ _ hHeld hb) (fun hHeld => ?_))
   clear hK KK
   refine Rk.tail [9] [_] (by kernel_rfl) (by kernel_rfl) rfl (by decide) ?_
   have KU := HB.out.trans ((hHeld.2.2.2.2.2.2).mono HB.out.size)
   clear hHeld
   go_wp2_with fail
   go_roundw
   case rel => exact ⟨j + 1, by go_num, by omega, KU⟩
   case measure => simp [intOf]; omega
  ·obtain rfl : j = n := by omega
   go_wp2
   go_ret
   exact ⟨rfl, hB⟩
end Go.Proofs.YtbicmlkjonaccaaDoor.Ln


namespace Go.Proofs.YtbicmlkjonaccaaDoor.Ln
open Go.ChangeShapes Go.WideShapes Go.ChangeAt Go.RowKit
open Go.Proofs.YtbicmlkjonaccaaDoor.Nm
set_option linter.unusedVariables false
set_option linter.unusedSimpArgs false
set_option maxRecDepth 8000

set_option maxRecDepth 100000 in
set_option maxHeartbeats 8000000 in
/-- Two elements, the second is the smaller. -/
theorem ins2 (g cap base : Nat) (k0 : Int) (p0 : Option Addr) (xs0 : List Mo) (c0 : Nat) (k1 : Int) (p1 : Option Addr) (xs1 : List Mo) (c1 : Nat) (r : Int) (hr : r < 0) (w : World)
  (hO : Hid (w.ownsRow base 36 3 (.slice (some ⟨g, 0, none⟩) 2 cap) 2 [.int .i64 k0, .slice p0 xs0.length c0, .bool false, .int .i64 k1, .slice p1 xs1.length c1, .bool false])) (S0 : Hid (SlM w p0 xs0)) (S1 : Hid (SlM w p1 xs1))
  (NC : Hid (∀ w', SlM w' p1 xs1 -> SlM w' p0 xs0 -> Calls Tryd.prog 72 #[Cv k1 p1 xs1.length c1 false, Cv k0 p0 xs0.length c0 false] w' fun e w2 => e = .returned (.int .i64 r) /\ Below w'.heap.size w' w2)) :
  Calls Tryd.prog 120 #[.slice (some ⟨g, 0, none⟩) 2 cap, .int .i64 0, .int .i64 2, .func (.func 72) #[] #[]] w fun e w' => e = .returned (.tuple #[]) /\ Below base w w' /\ K59 w w' /\ w'.ownsRow base 36 3 (.slice (some ⟨g, 0, none⟩) 2 cap) 2 [.int .i64 k1, .slice p1 xs1.length c1, .bool false, .int .i64 k0, .slice p0 xs0.length c0, .bool false] := by
 have d0 := hO.out.cellAt 0 (by decide)
 have d1 := hO.out.cellAt 1 (by decide)
 have d2 := hO.out.cellAt 2 (by decide)
 have d3 := hO.out.cellAt 3 (by decide)
 have d4 := hO.out.cellAt 4 (by decide)
 have d5 := hO.out.cellAt 5 (by decide)
 simp only [List.getElem?_cons_zero, List.getElem?_cons_succ] at d0 d1 d2 d3 d4 d5
 have HS : Hid (∀ u u' : World, (u.cell? ⟨g, 0, none⟩ = some (.int .i64 k0) /\ u.cell? ⟨g, 1, none⟩ = some (.slice p0 xs0.length c0) /\ u.cell? ⟨g, 2, none⟩ = some (.bool false) /\ u.cell? ⟨g, 3, none⟩ = some (.int .i64 k1) /\ u.cell? ⟨g, 4, none⟩ = some (.slice p1 xs1.length c1) /\ u.cell? ⟨g, 5, none⟩ = some (.bool false) /\ Below w.heap.size w u) -> Below u.heap.size u u' -> (u'.cell? ⟨g, 0, none⟩ = some (.int .i64 k0) /\ u'.cell? ⟨g, 1, none⟩ = some (.slice p0 xs0.length c0) /\ u'.cell? ⟨g, 2, none⟩ = some (.bool false) /\ u'.cell? ⟨g, 3, none⟩ = some (.int .i64 k1) /\ u'.cell? ⟨g, 4, none⟩ = some (.slice p1 xs1.length c1) /\ u'.cell? ⟨g, 5, none⟩ = some (.bool false) /\ Below w.heap.size w u')) := Lib.hid (fun u u' h hb => ⟨Rg.keep hb (World.block_lt_of_cell? _ _ h.1) h.1, Rg.keep hb (World.block_lt_of_cell? _ _ h.2.1) h.2.1, Rg.keep hb (World.block_lt_of_cell? _ _ h.2.2.1) h.2.2.1, Rg.keep hb (World.block_lt_of_cell? _ _ h.2.2.2.1) h.2.2.2.1, Rg.keep hb (World.block_lt_of_cell? _ _ h.2.2.2.2.1) h.2.2.2.2.1, Rg.keep hb (World.block_lt_of_cell? _ _ h.2.2.2.2.2.1) h.2.2.2.2.2.1, h.2.2.2.2.2.2.trans (hb.mono h.2.2.2.2.2.2.size)⟩)
 have hr2 : decide (r < 0) = true := by simpa using hr
 unfold Cv at NC
 have wz : IntKind.i64.wrap 0 = 0 := by decide
 go_enter Tryd.func120, Tryd.ntmps120
 go_wp2_with fail
 refine wp_loop_rounds 2 ?_
 rw [rounds_succ]
 go_wp2_with fail
 refine wp_loop_rounds 2 ?_
 rw [rounds_succ]
 go_wp2_with fail
 refine Rk.begin (S := fun wS => wS.cell? ⟨g, 0, none⟩ = some (.int .i64 k0) /\ wS.cell? ⟨g, 1, none⟩ = some (.slice p0 xs0.length c0) /\ wS.cell? ⟨g, 2, none⟩ = some (.bool false) /\ wS.cell? ⟨g, 3, none⟩ = some (.int .i64 k1) /\ wS.cell? ⟨g, 4, none⟩ = some (.slice p1 xs1.length c1) /\ wS.cell? ⟨g, 5, none⟩ = some (.bool false) /\ Below w.heap.size w wS) 15 (by kernel_rfl) ⟨d0, d1, d2, d3, d4, d5, Below.drew (Below.refl _ _)⟩ (fun hHeld => ?_)
 refine Rk.takeP (i := 0) (v := ?_) rfl (by kernel_rfl) (by kernel_rfl) (by kernel_rfl) (by kernel_rfl) (fun _ _ _ h => h) (Or.inl ⟨by kernel_rfl, ?_⟩) (by assumption) ?_
 rotate_left
 ·((intro w hSw; go_simp) <;> with_reducible rfl)
 try simp only [wz, Act.put, List.setIfInBounds_toArray, List.set_cons_zero, List.set_cons_succ]
 refine Rk.takeP (i := 1) (v := ?_) rfl (by kernel_rfl) (by kernel_rfl) (by kernel_rfl) (by kernel_rfl) (fun _ _ _ h => h) (Or.inl ⟨by kernel_rfl, ?_⟩) (by assumption) ?_
 rotate_left
 ·((intro w hSw; go_simp) <;> with_reducible rfl)
 try simp only [wz, Act.put, List.setIfInBounds_toArray, List.set_cons_zero, List.set_cons_succ]
 refine Rk.takeP (i := 2) (v := ?_) rfl (by kernel_rfl) (by kernel_rfl) (by kernel_rfl) (by kernel_rfl) (fun _ _ _ h => h) (Or.inl ⟨by kernel_rfl, ?_⟩) (by assumption) ?_
 rotate_left
 ·((intro w hSw; go_simp) <;> with_reducible rfl)
 try simp only [wz, Act.put, List.setIfInBounds_toArray, List.set_cons_zero, List.set_cons_succ]
 refine Rk.takeP (i := 3) (v := ?_) rfl (by kernel_rfl) (by kernel_rfl) (by kernel_rfl) (by kernel_rfl) (fun _ _ _ h => h) (Or.inl ⟨by kernel_rfl, ?_⟩) (by assumption) ?_
 rotate_left
 ·((intro w hSw; go_simp) <;> with_reducible rfl)
 try simp only [wz, Act.put, List.setIfInBounds_toArray, List.set_cons_zero, List.set_cons_succ]
 refine Rk.takeP (i := 4) (v := ?_) rfl (by kernel_rfl) (by kernel_rfl) (by kernel_rfl) (by kernel_rfl) (fun _ _ _ h => h) (Or.inl ⟨by kernel_rfl, ?_⟩) (by assumption) ?_
 rotate_left
 ·((intro w hSw; go_simp) <;> with_reducible rfl)
 try simp only [wz, Act.put, List.setIfInBounds_toArray, List.set_cons_zero, List.set_cons_succ]
 refine Rk.takeP (i := 5) (v := ?_) rfl (by kernel_rfl) (by kernel_rfl) (by kernel_rfl) (by kernel_rfl) (fun _ _ _ h => h) (Or.inl ⟨by kernel_rfl, ?_⟩) (by assumption) ?_
 rotate_left
 ·((intro w hSw; go_simp) <;> with_reducible rfl)
 try simp only [wz, Act.put, List.setIfInBounds_toArray, List.set_cons_zero, List.set_cons_succ]
 refine Rk.takeP (i := 6) (v := ?_) rfl (by kernel_rfl) (by kernel_rfl) (by kernel_rfl) (by kernel_rfl) (fun _ _ _ h => h) (Or.inl ⟨by kernel_rfl, ?_⟩) (by assumption) ?_
 rotate_left
 ·((intro w hSw; go_simp) <;> with_reducible rfl)
 try simp only [wz, Act.put, List.setIfInBounds_toArray, List.set_cons_zero, List.set_cons_succ]
 refine Rk.takeP (i := 7) (v := ?_) rfl (by kernel_rfl) (by kernel_rfl) (by kernel_rfl) (by kernel_rfl) (fun _ _ _ h => h) (Or.inl ⟨by kernel_rfl, ?_⟩) (by assumption) ?_
 rotate_left
 ·((intro w hSw; go_simp) <;> with_reducible rfl)
 try simp only [wz, Act.put, List.setIfInBounds_toArray, List.set_cons_zero, List.set_cons_succ]
 refine Rk.take [14, 15] (i := 8) (v := ?_) rfl (by kernel_rfl) (by kernel_rfl) (by kernel_rfl) (by kernel_rfl) (by kernel_rfl) (fun _ _ _ h => h) (Or.inl ⟨by kernel_rfl, ?_⟩) (by assumption) ?_
 rotate_left
 ·((intro w hSw; (try dsimp only at hSw); go_simp) <;> with_reducible rfl)
 try simp only [wz, Act.put, List.setIfInBounds_toArray, List.set_cons_zero, List.set_cons_succ]
 refine Rk.takeP (i := 9) (v := ?_) rfl (by kernel_rfl) (by kernel_rfl) (by kernel_rfl) (by kernel_rfl) (fun _ _ _ h => h) (Or.inl ⟨by kernel_rfl, ?_⟩) (by assumption) ?_
 rotate_left
 ·((intro w hSw; go_simp) <;> with_reducible rfl)
 try simp only [wz, Act.put, List.setIfInBounds_toArray, List.set_cons_zero, List.set_cons_succ]
 refine Rk.takeP (i := 10) (v := ?_) rfl (by kernel_rfl) (by kernel_rfl) (by kernel_rfl) (by kernel_rfl) (fun _ _ _ h => h) (Or.inl ⟨by kernel_rfl, ?_⟩) (by assumption) ?_
 rotate_left
 ·((intro w hSw; go_simp) <;> with_reducible rfl)
 try simp only [wz, Act.put, List.setIfInBounds_toArray, List.set_cons_zero, List.set_cons_succ]
 refine Rk.takeP (i := 11) (v := ?_) rfl (by kernel_rfl) (by kernel_rfl) (by kernel_rfl) (by kernel_rfl) (fun _ _ _ h => h) (Or.inl ⟨by kernel_rfl, ?_⟩) (by assumption) ?_
 rotate_left
 ·((intro w hSw; go_simp) <;> with_reducible rfl)
 try simp only [wz, Act.put, List.setIfInBounds_toArray, List.set_cons_zero, List.set_cons_succ]
 refine Rk.takeP (i := 12) (v := ?_) rfl (by kernel_rfl) (by kernel_rfl) (by kernel_rfl) (by kernel_rfl) (fun _ _ _ h => h) (Or.inl ⟨by kernel_rfl, ?_⟩) (by assumption) ?_
 rotate_left
 ·((intro w hSw; go_simp) <;> with_reducible rfl)
 try simp only [wz, Act.put, List.setIfInBounds_toArray, List.set_cons_zero, List.set_cons_succ]
 refine Rk.take [14, 15] (i := 13) (v := ?_) rfl (by kernel_rfl) (by kernel_rfl) (by kernel_rfl) (by kernel_rfl) (by kernel_rfl) (fun _ _ _ h => h) (Or.inl ⟨by kernel_rfl, ?_⟩) (by assumption) ?_
 rotate_left
 ·((intro w hSw; (try dsimp only at hSw); go_simp) <;> with_reducible rfl)
 try simp only [wz, Act.put, List.setIfInBounds_toArray, List.set_cons_zero, List.set_cons_succ]
 refine Rk.one (i := 14) (by kernel_rfl) rfl (fun KK hK => ?_)
 rw [if_pos (by kernel_rfl)]
 go_simp
 ((with_reducible refine (NC.out _ (SlM.keep hHeld.2.2.2.2.2.2 S1.out) (SlM.keep hHeld.2.2.2.2.2.2 S0.out)).mono ?_); rintro e u ⟨rfl, hb⟩)
 first | (refine hK.out _ _ (fun _ => HS.out _ _ hHeld hb) (fun hHeld => ?_)) | (refine hK.out _ _ (HS.out _ _ hHeld hb) (fun hHeld => ?_)) | (go_wp2_with fail; refine hK.out _ _ (HS.out _ _ hHeld hb) (fun hHeld => ?_))
 clear hK KK
 refine Rk.tail [15, 16] [_, _] (by kernel_rfl) (by kernel_rfl) rfl (by decide) ?_

 go_wp2_with fail
 obtain ⟨e0, e1, e2, e3, e4, e5, KB0⟩ := hHeld
 refine Rk.begin (S := fun wS => wS.cell? ⟨g, 0, none⟩ = some (.int .i64 k0) /\ wS.cell? ⟨g, 1, none⟩ = some (.slice p0 xs0.length c0) /\ wS.cell? ⟨g, 2, none⟩ = some (.bool false) /\ wS.cell? ⟨g, 3, none⟩ = some (.int .i64 k1) /\ wS.cell? ⟨g, 4, none⟩ = some (.slice p1 xs1.length c1) /\ wS.cell? ⟨g, 5, none⟩ = some (.bool false) /\ Below w.heap.size w wS) 15 (by kernel_rfl) ⟨e0, e1, e2, e3, e4, e5, Below.drew KB0⟩ (fun hHeld => ?_)
 refine Rk.takeP (i := 0) (v := ?_) rfl (by kernel_rfl) (by kernel_rfl) (by kernel_rfl) (by kernel_rfl) (fun _ _ _ h => h) (Or.inl ⟨by kernel_rfl, ?_⟩) (by assumption) ?_
 rotate_left
 ·((intro w hSw; go_simp) <;> with_reducible rfl)
 try simp only [wz, Act.put, List.setIfInBounds_toArray, List.set_cons_zero, List.set_cons_succ]
 refine Rk.takeP (i := 1) (v := ?_) rfl (by kernel_rfl) (by kernel_rfl) (by kernel_rfl) (by kernel_rfl) (fun _ _ _ h => h) (Or.inl ⟨by kernel_rfl, ?_⟩) (by assumption) ?_
 rotate_left
 ·((intro w hSw; go_simp) <;> with_reducible rfl)
 try simp only [wz, Act.put, List.setIfInBounds_toArray, List.set_cons_zero, List.set_cons_succ]
 refine Rk.takeP (i := 2) (v := ?_) rfl (by kernel_rfl) (by kernel_rfl) (by kernel_rfl) (by kernel_rfl) (fun _ _ _ h => h) (Or.inl ⟨by kernel_rfl, ?_⟩) (by assumption) ?_
 rotate_left
 ·((intro w hSw; go_simp) <;> with_reducible rfl)
 try simp only [wz, Act.put, List.setIfInBounds_toArray, List.set_cons_zero, List.set_cons_succ]
 refine Rk.takeP (i := 3) (v := ?_) rfl (by kernel_rfl) (by kernel_rfl) (by kernel_rfl) (by kernel_rfl) (fun _ _ _ h => h) (Or.inl ⟨by kernel_rfl, ?_⟩) (by assumption) ?_
 rotate_left
 ·((intro w hSw; go_simp) <;> with_reducible rfl)
 try simp only [wz, Act.put, List.setIfInBounds_toArray, List.set_cons_zero, List.set_cons_succ]
 refine Rk.takeP (i := 4) (v := ?_) rfl (by kernel_rfl) (by kernel_rfl) (by kernel_rfl) (by kernel_rfl) (fun _ _ _ h => h) (Or.inl ⟨by kernel_rfl, ?_⟩) (by assumption) ?_
 rotate_left
 ·((intro w hSw; go_simp) <;> with_reducible rfl)
 try simp only [wz, Act.put, List.setIfInBounds_toArray, List.set_cons_zero, List.set_cons_succ]
 refine Rk.takeP (i := 5) (v := ?_) rfl (by kernel_rfl) (by kernel_rfl) (by kernel_rfl) (by kernel_rfl) (fun _ _ _ h => h) (Or.inl ⟨by kernel_rfl, ?_⟩) (by assumption) ?_
 rotate_left
 ·((intro w hSw; go_simp) <;> with_reducible rfl)
 try simp only [wz, Act.put, List.setIfInBounds_toArray, List.set_cons_zero, List.set_cons_succ]
 refine Rk.takeP (i := 6) (v := ?_) rfl (by kernel_rfl) (by kernel_rfl) (by kernel_rfl) (by kernel_rfl) (fun _ _ _ h => h) (Or.inl ⟨by kernel_rfl, ?_⟩) (by assumption) ?_
 rotate_left
 ·((intro w hSw; go_simp) <;> with_reducible rfl)
 try simp only [wz, Act.put, List.setIfInBounds_toArray, List.set_cons_zero, List.set_cons_succ]
 refine Rk.takeP (i := 7) (v := ?_) rfl (by kernel_rfl) (by kernel_rfl) (by kernel_rfl) (by kernel_rfl) (fun _ _ _ h => h) (Or.inl ⟨by kernel_rfl, ?_⟩) (by assumption) ?_
 rotate_left
 ·((intro w hSw; go_simp) <;> with_reducible rfl)
 try simp only [wz, Act.put, List.setIfInBounds_toArray, List.set_cons_zero, List.set_cons_succ]
 refine Rk.takeP (i := 8) (v := ?_) rfl (by kernel_rfl) (by kernel_rfl) (by kernel_rfl) (by kernel_rfl) (fun _ _ _ h => h) (Or.inl ⟨by kernel_rfl, ?_⟩) (by assumption) ?_
 rotate_left
 ·((intro w hSw; go_simp) <;> with_reducible rfl)
 try simp only [wz, Act.put, List.setIfInBounds_toArray, List.set_cons_zero, List.set_cons_succ]
 refine Rk.take [15] (i := 9) (v := ?_) rfl (by kernel_rfl) (by kernel_rfl) (by kernel_rfl) (by kernel_rfl) (by kernel_rfl) (fun _ _ _ h => h) (Or.inl ⟨by kernel_rfl, ?_⟩) (by assumption) ?_
 rotate_left
 ·((intro w hSw; (try dsimp only at hSw); go_simp) <;> with_reducible rfl)
 try simp only [wz, Act.put, List.setIfInBounds_toArray, List.set_cons_zero, List.set_cons_succ]
 refine Rk.takeP (i := 10) (v := ?_) rfl (by kernel_rfl) (by kernel_rfl) (by kernel_rfl) (by kernel_rfl) (fun _ _ _ h => h) (Or.inl ⟨by kernel_rfl, ?_⟩) (by assumption) ?_
 rotate_left
 ·((intro w hSw; go_simp) <;> with_reducible rfl)
 try simp only [wz, Act.put, List.setIfInBounds_toArray, List.set_cons_zero, List.set_cons_succ]
 refine Rk.takeP (i := 11) (v := ?_) rfl (by kernel_rfl) (by kernel_rfl) (by kernel_rfl) (by kernel_rfl) (fun _ _ _ h => h) (Or.inl ⟨by kernel_rfl, ?_⟩) (by assumption) ?_
 rotate_left
 ·((intro w hSw; go_simp) <;> with_reducible rfl)
 try simp only [wz, Act.put, List.setIfInBounds_toArray, List.set_cons_zero, List.set_cons_succ]
 refine Rk.takeP (i := 12) (v := ?_) rfl (by kernel_rfl) (by kernel_rfl) (by kernel_rfl) (by kernel_rfl) (fun _ _ _ h => h) (Or.inl ⟨by kernel_rfl, ?_⟩) (by assumption) ?_
 rotate_left
 ·((intro w hSw; go_simp) <;> with_reducible rfl)
 try simp only [wz, Act.put, List.setIfInBounds_toArray, List.set_cons_zero, List.set_cons_succ]
 refine Rk.take [15] (i := 13) (v := ?_) rfl (by kernel_rfl) (by kernel_rfl) (by kernel_rfl) (by kernel_rfl) (by kernel_rfl) (fun _ _ _ h => h) (Or.inl ⟨by kernel_rfl, ?_⟩) (by assumption) ?_
 rotate_left
 ·((intro w hSw; (try dsimp only at hSw); go_simp) <;> with_reducible rfl)
 try simp only [wz, Act.put, List.setIfInBounds_toArray, List.set_cons_zero, List.set_cons_succ]
 refine Rk.takeP (i := 14) (v := ?_) rfl (by kernel_rfl) (by kernel_rfl) (by kernel_rfl) (by kernel_rfl) (fun _ _ _ h => h) (Or.inl ⟨by kernel_rfl, ?_⟩) (by assumption) ?_
 rotate_left
 ·((intro w hSw; go_simp) <;> with_reducible rfl)
 try simp only [wz, Act.put, List.setIfInBounds_toArray, List.set_cons_zero, List.set_cons_succ]
 refine Rk.tail [15, 16, 17] [_, _, _] (by kernel_rfl) (by kernel_rfl) rfl (by decide) ?_

 obtain ⟨e0, e1, e2, e3, e4, e5, KB⟩ := hHeld
 have O1 := own_belowE hO.out KB0
 have f0 : u.frozen? ⟨g, 0, none⟩ = false := O1.frozenAt 0
 have f1 : u.frozen? ⟨g, 1, none⟩ = false := O1.frozenAt 1
 have f2 : u.frozen? ⟨g, 2, none⟩ = false := O1.frozenAt 2
 have f3 : u.frozen? ⟨g, 3, none⟩ = false := O1.frozenAt 3
 have f4 : u.frozen? ⟨g, 4, none⟩ = false := O1.frozenAt 4
 have f5 : u.frozen? ⟨g, 5, none⟩ = false := O1.frozenAt 5
 go_wp2_with fail
 rw [rounds_succ]
 go_wp2_with fail
 go_quiet (fail)
 go_wp2_with fail
 rw [rounds_succ]
 go_wp2_with fail
 go_end0
 have hbg : base <= g := by
  rcases hO.out.2 with ⟨h, _⟩ | ⟨g', cap', cur, h, hb, _⟩
  ·simp at h
  ·cases h; exact hb
 have hbw : base <= w.heap.size := by have := World.block_lt_of_cell? _ _ d0; dsimp only at this; omega
 have KB2 : Below base w u := KB0.mono hbw
 have OU : u.ownsRow base 36 3 (.slice (some ⟨g, 0, none⟩) 2 cap) 2 [.int .i64 k0, .slice p0 xs0.length c0, .bool false, .int .i64 k1, .slice p1 xs1.length c1, .bool false] := O1
 have Q0 := OU.stored 3 (.int .i64 k0)
 have J0 := K59.own OU (by decide) Q0.2
 have Q1 := Q0.1.stored 4 (.slice p0 xs0.length c0)
 have J1 := K59.own Q0.1 (by decide) Q1.2
 have Q2 := Q1.1.stored 5 (.bool false)
 have J2 := K59.own Q1.1 (by decide) Q2.2
 have Q3 := Q2.1.stored 0 (.int .i64 k1)
 have J3 := K59.own Q2.1 (by decide) Q3.2
 have Q4 := Q3.1.stored 1 (.slice p1 xs1.length c1)
 have J4 := K59.own Q3.1 (by decide) Q4.2
 have Q5 := Q4.1.stored 2 (.bool false)
 have J5 := K59.own Q4.1 (by decide) Q5.2
 have BB : Below base w ((((((u.setCell ⟨g, 3, none⟩ (.int .i64 k0)).setCell ⟨g, 4, none⟩ (.slice p0 xs0.length c0)).setCell ⟨g, 5, none⟩ (.bool false)).setCell ⟨g, 0, none⟩ (.int .i64 k1)).setCell ⟨g, 1, none⟩ (.slice p1 xs1.length c1)).setCell ⟨g, 2, none⟩ (.bool false)) := ((((((KB2.setCell (p := ⟨g, 3, none⟩) hbg _).setCell (p := ⟨g, 4, none⟩) hbg _).setCell (p := ⟨g, 5, none⟩) hbg _).setCell (p := ⟨g, 0, none⟩) hbg _).setCell (p := ⟨g, 1, none⟩) hbg _).setCell (p := ⟨g, 2, none⟩) hbg _)
 have KK : K59 w ((((((u.setCell ⟨g, 3, none⟩ (.int .i64 k0)).setCell ⟨g, 4, none⟩ (.slice p0 xs0.length c0)).setCell ⟨g, 5, none⟩ (.bool false)).setCell ⟨g, 0, none⟩ (.int .i64 k1)).setCell ⟨g, 1, none⟩ (.slice p1 xs1.length c1)).setCell ⟨g, 2, none⟩ (.bool false)) := (((((((K59.below KB0).trans J0).trans J1).trans J2).trans J3).trans J4).trans J5)
 have dn {B : Nat} {a z : World} (h : Below B a z) (n : Nat) : Below B a (z.drewN n) := h.trans ⟨rfl, rfl, rfl, Nat.le_refl _, fun _ _ => rfl⟩
 exact ⟨rfl, dn BB _, KK.trans (K59.below (dn (Below.refl _ _) _)), own_belowE Q5.1 (dn (Below.refl _ _) _)⟩
end Go.Proofs.YtbicmlkjonaccaaDoor.Ln
