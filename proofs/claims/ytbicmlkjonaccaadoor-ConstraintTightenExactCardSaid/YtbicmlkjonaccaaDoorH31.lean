/- Tighten: an equation whose sign turns. -/
import Derived.Test.YtbicmlkjonaccaaDoorH12
import Derived.Test.YtbicmlkjonaccaaDoorH6
import Derived.Test.YtbicmlkjonaccaaDoorH11
import Derived.Test.YtbicmlkjonaccaaDoorH30

namespace Go.Proofs.YtbicmlkjonaccaaDoor.Ln
open Go.ChangeShapes Go.WideShapes Go.ChangeAt Go.RowKit
open Go.Proofs.YtbicmlkjonaccaaDoor.Nm
set_option linter.unusedVariables false
set_option linter.unusedSimpArgs false
set_option maxRecDepth 8000

theorem turn_end {w w5 : World} {gr B : Nat} {pt : Option Addr} {ys : List Mo} {O : Obj} {x0 x1 x2 x3 x4 : Value} (K5 : Below w.heap.size w w5) (hfr : ∀ b o, pt = some ⟨b, o, none⟩ → B ≤ b ∧ ∃ cur, w5.heap[b]? = some (.cells cur 59 (0, 0))) (S5 : SlM w5 pt ys) (hg : gr < B) (lw : w.heap.size + 1 < gr) :
    SlM ((((((w5.setCell ⟨gr, 0, none⟩ x0).setCell ⟨gr, 1, none⟩ x1).setCell ⟨w.heap.size + 1, 0, none⟩ x2).setCell ⟨w.heap.size + 1, 1, none⟩ x3).setCell ⟨w.heap.size + 1, 2, none⟩ x4).alloc O) pt ys ∧
    (∀ b o, pt = some ⟨b, o, none⟩ → ys ≠ [] → ∃ cur, ((((((w5.setCell ⟨gr, 0, none⟩ x0).setCell ⟨gr, 1, none⟩ x1).setCell ⟨w.heap.size + 1, 0, none⟩ x2).setCell ⟨w.heap.size + 1, 1, none⟩ x3).setCell ⟨w.heap.size + 1, 2, none⟩ x4).alloc O).heap[b]? = some (.cells cur 59 (0, 0))) ∧
    Below w.heap.size w ((((((w5.setCell ⟨gr, 0, none⟩ x0).setCell ⟨gr, 1, none⟩ x1).setCell ⟨w.heap.size + 1, 0, none⟩ x2).setCell ⟨w.heap.size + 1, 1, none⟩ x3).setCell ⟨w.heap.size + 1, 2, none⟩ x4).alloc O) := by
  have h1 : ∀ b o, pt = some ⟨b, o, none⟩ → ys ≠ [] → b ≠ gr := fun b o hq _ => by have := (hfr b o hq).1; omega
  have h2 : ∀ b o, pt = some ⟨b, o, none⟩ → ys ≠ [] → b ≠ w.heap.size + 1 := fun b o hq _ => by have := (hfr b o hq).1; omega
  refine ⟨SlM.keep ((Below.refl _ _).alloc (Nat.le_refl _) _) (Sl_set (Sl_set (Sl_set (Sl_set (Sl_set S5 h1) h1) h2) h2) h2), fun b o hq hne => ?_, ?_⟩
  · obtain ⟨_, cur, hc⟩ := hfr b o hq
    have e1 := h1 b o hq hne
    have e2 := h2 b o hq hne
    have hh := ((((Below.heap_setCell ((((w5.setCell ⟨gr, 0, none⟩ x0).setCell ⟨gr, 1, none⟩ x1).setCell ⟨w.heap.size + 1, 0, none⟩ x2).setCell ⟨w.heap.size + 1, 1, none⟩ x3) ⟨w.heap.size + 1, 2, none⟩ x4 b e2).trans (Below.heap_setCell _ _ _ b e2)).trans (Below.heap_setCell _ _ _ b e2)).trans (Below.heap_setCell _ _ _ b e1)).trans ((Below.heap_setCell _ _ _ b e1).trans hc)
    exact ⟨cur, (Below.heap_alloc _ _ _ (Array.getElem?_eq_some_iff.1 hh).1).trans hh⟩
  · have hk := ((((K5.setCell (p := ⟨gr, 0, none⟩) (by dsimp only; omega) x0).setCell (p := ⟨gr, 1, none⟩) (by dsimp only; omega) x1).setCell (p := ⟨w.heap.size + 1, 0, none⟩) (by dsimp only; omega) x2).setCell (p := ⟨w.heap.size + 1, 1, none⟩) (by dsimp only; omega) x3).setCell (p := ⟨w.heap.size + 1, 2, none⟩) (by dsimp only; omega) x4
    exact hk.alloc hk.size O
theorem turn_err {w w5 : World} {b1 : Nat} {O : Obj} {x2 x3 x4 : Value} (K5 : Below w.heap.size w w5) (h : w.heap.size ≤ b1) : Below w.heap.size w ((((w5.setCell ⟨b1, 0, none⟩ x2).setCell ⟨b1, 1, none⟩ x3).setCell ⟨b1, 2, none⟩ x4).alloc O) := by
  have hk := ((K5.setCell (p := ⟨b1, 0, none⟩) h x2).setCell (p := ⟨b1, 1, none⟩) h x3).setCell (p := ⟨b1, 2, none⟩) h x4
  exact hk.alloc hk.size O

set_option maxRecDepth 100000 in
set_option maxHeartbeats 4000000 in
theorem tig_turn (k : Int) (p : Option Addr) (xs : List Mo) (c : Nat) (w : World) (hn : xs.length ≤ 1000) (RA : Hid (SlM w p xs)) (RS : Hid (∀ i, i < xs.length → (xs.getD i mo0).1.size ≤ maxLen ∧ -9223372036854775808 ≤ (xs.getD i mo0).2 ∧ (xs.getD i mo0).2 ≤ 9223372036854775807)) (k1 : -9223372036854775808 ≤ k) (k2 : k ≤ 9223372036854775807) (hok : okL xs = true) (h0 : xs.length ≠ 0) (hx : (k % (gcdL 0 xs : Int) == 0) = true) (hneg : decide (((tdY (gcdL 0 xs) xs).getD 0 mo0).2 < 0) = true) (RES : Int × List Mo × Bool × Int × Int) (hres : (if (sclR (-1) (k / (gcdL 0 xs : Int)) (tdY (gcdL 0 xs) xs)).2.2 ≠ 0 then (0, [], false, 0, (sclR (-1) (k / (gcdL 0 xs : Int)) (tdY (gcdL 0 xs) xs)).2.2) else ((sclR (-1) (k / (gcdL 0 xs : Int)) (tdY (gcdL 0 xs) xs)).1, (sclR (-1) (k / (gcdL 0 xs : Int)) (tdY (gcdL 0 xs) xs)).2.1, true, 0, 0)) = RES) : Calls Tryd.prog 28 #[Cv k p xs.length c true] w (TR RES w) := by
  have VL := Lib.hid fun w h => cval1 k p xs c true w (by unfold maxLen; omega) h (Lib.hid fun i hi => (RS.out i hi).1)
  have B0 : Below w.heap.size w ((w.alloc (Obj.cells #[Value.int .i64 k, Value.slice p xs.length c, Value.bool true] 36)).alloc (Obj.cells #[Value.int .i64 0, Value.slice none 0 0, Value.bool false] 36)) := ((Below.refl _ _).alloc (Nat.le_refl _) _).alloc (by simp) _
  have RA2 := Lib.hid (SlM.keep B0 RA.out)
  have hv : vL xs = 0 := by unfold vL; rw [hok]; rfl
  rw [hv] at VL
  obtain ⟨qq0, qq1⟩ := gcdL_bd hok h0 (fun i hi => (RS.out i hi).2)
  have GC := Lib.hid fun w h => gcd1 k p xs c w (by unfold maxLen; omega) h RS
  have g0 : ((xs.length : Int) == 0) = false := by rw [beq_eq_false_iff_ne]; omega
  unfold Cv Lv at *
  obtain ⟨G, hG⟩ : ∃ G : Nat, gcdL 0 xs = G := ⟨_, rfl⟩
  rw [hG] at GC qq0 qq1 hx hneg hres
  have FD := Lib.hid fun w => fdiv k G k1 k2 qq0 qq1 w
  rw [hx] at FD
  have HTB : Hid (∀ i, i < (tdY G xs).length → ((tdY G xs).getD i mo0).1.size ≤ maxLen ∧ -9223372036854775808 ≤ ((tdY G xs).getD i mo0).2 ∧ ((tdY G xs).getD i mo0).2 ≤ 9223372036854775807) := Lib.hid fun i hi => by
    rw [tdY_len] at hi
    rw [tdY_get hi]
    have h3 := RS.out i hi
    exact ⟨h3.1, div_bd qq0 h3.2.1 h3.2.2⟩
  have HNG := Lib.hid hneg
  have HRES := Lib.hid hres
  clear hneg hres
  have FA := Lib.hid fun a (a1 : -9223372036854775808 ≤ a) (a2 : a ≤ 9223372036854775807) w => fdiv a G a1 a2 qq0 qq1 w
  have Q0 := Lib.hid qq0
  have D0 := Lib.hid (div_bd qq0 k1 k2)
  obtain ⟨H, hH⟩ : ∃ H, wrap64 (G : Int) = H := ⟨_, rfl⟩
  obtain ⟨D, hD⟩ : ∃ D, k / (G : Int) = D := ⟨_, rfl⟩
  have hDD := Lib.hid hD
  rw [hH] at GC FD FA
  rw [hD] at FD D0
  obtain ⟨i0, hi, hz0, hz1, hz2⟩ := info_parts infoMo
  have HN0 := Lib.hid h0
  obtain ⟨n, hnn⟩ : ∃ n, xs.length = n := ⟨_, rfl⟩
  have HN := Lib.hid hnn
  rw [hnn] at VL GC g0 hn B0 RA2 ⊢
  clear hok hv h0 hG hH hD qq0 qq1 hnn
  go_enter Tryd.func28, Tryd.ntmps28
  go_wp2_with (first | (go_at_call 24; (with_reducible refine (VL.out _ RA2).mono ?_); rintro e w1 ⟨rfl, hb1⟩; have hc1 := (Rg.bcell hb1).1; have hf1 := (Rg.bcell hb1).2; have z1_0 : w.heap.size < w1.heap.size := (by have hzz := hb1.size; (try simp at hzz); omega); have z1_1 : w.heap.size + 1 < w1.heap.size := (by have hzz := hb1.size; (try simp at hzz); omega); have K1 : Below w.heap.size w w1 := Below.trans (b := _) (by (repeat' (first | (with_reducible exact Below.refl _ _) | (with_reducible refine Below.alloc ?_ ?_ _) | (with_reducible refine Below.setCell ?_ ?_ _) | (with_reducible refine below_drewN ?_ _) | (simp; done) | omega | (simp; omega)))) (hb1.mono (by have hzz := hb1.size; (try simp at hzz); first | omega | (simp; done) | (simp; omega)))) | (go_at_call 59; (with_reducible refine (GC.out _ (Lib.hid (SlM.keep K1 RA.out))).mono ?_); rintro e w2 ⟨rfl, hb2⟩; have hc2 := (Rg.bcell hb2).1; have hf2 := (Rg.bcell hb2).2; have z2_0 : w.heap.size < w2.heap.size := (by have hzz := hb2.size; (try simp at hzz); omega); have z2_1 : w.heap.size + 1 < w2.heap.size := (by have hzz := hb2.size; (try simp at hzz); omega); have K2 : Below w.heap.size w w2 := Below.trans (b := _) (by (repeat' (first | (with_reducible exact Below.refl _ _) | (with_reducible exact K1) | (with_reducible exact K1.size) | (with_reducible refine Below.alloc ?_ ?_ _) | (with_reducible refine Below.setCell ?_ ?_ _) | (with_reducible refine below_drewN ?_ _) | (simp; done) | omega | (simp; omega)))) (hb2.mono (by have hzz := hb2.size; (try simp at hzz); first | omega | (simp; done) | (simp; omega)))) | (go_at_call 60; (with_reducible refine (FD.out _).mono ?_); rintro e w3 ⟨rfl, hb3⟩; have hc3 := (Rg.bcell hb3).1; have hf3 := (Rg.bcell hb3).2; have z3_0 : w.heap.size < w3.heap.size := (by have hzz := hb3.size; (try simp at hzz); omega); have z3_1 : w.heap.size + 1 < w3.heap.size := (by have hzz := hb3.size; (try simp at hzz); omega); have K3 : Below w.heap.size w w3 := Below.trans (b := _) (by (repeat' (first | (with_reducible exact Below.refl _ _) | (with_reducible exact K1) | (with_reducible exact K1.size) | (with_reducible exact K2) | (with_reducible exact K2.size) | (with_reducible refine Below.alloc ?_ ?_ _) | (with_reducible refine Below.setCell ?_ ?_ _) | (with_reducible refine below_drewN ?_ _) | (simp; done) | omega | (simp; omega)))) (hb3.mono (by have hzz := hb3.size; (try simp at hzz); first | omega | (simp; done) | (simp; omega)))))
  have F0 : Cl [(w.heap.size, 2, .bool true), (w.heap.size + 1, 0, .int .i64 0), (w.heap.size + 1, 1, .slice none 0 0), (w.heap.size + 1, 2, .bool false)] w3 := Cl.cons (by simp [go_sem, hc1, hf1, z1_0, Nat.lt_succ_of_lt z1_0, Nat.ne_of_lt z1_0, Nat.ne_of_gt z1_0, z1_1, Nat.lt_succ_of_lt z1_1, Nat.ne_of_lt z1_1, Nat.ne_of_gt z1_1, hc2, hf2, z2_0, Nat.lt_succ_of_lt z2_0, Nat.ne_of_lt z2_0, Nat.ne_of_gt z2_0, z2_1, Nat.lt_succ_of_lt z2_1, Nat.ne_of_lt z2_1, Nat.ne_of_gt z2_1, hc3, hf3, z3_0, Nat.lt_succ_of_lt z3_0, Nat.ne_of_lt z3_0, Nat.ne_of_gt z3_0, z3_1, Nat.lt_succ_of_lt z3_1, Nat.ne_of_lt z3_1, Nat.ne_of_gt z3_1]) (by simp [go_sem, hc1, hf1, z1_0, Nat.lt_succ_of_lt z1_0, Nat.ne_of_lt z1_0, Nat.ne_of_gt z1_0, z1_1, Nat.lt_succ_of_lt z1_1, Nat.ne_of_lt z1_1, Nat.ne_of_gt z1_1, hc2, hf2, z2_0, Nat.lt_succ_of_lt z2_0, Nat.ne_of_lt z2_0, Nat.ne_of_gt z2_0, z2_1, Nat.lt_succ_of_lt z2_1, Nat.ne_of_lt z2_1, Nat.ne_of_gt z2_1, hc3, hf3, z3_0, Nat.lt_succ_of_lt z3_0, Nat.ne_of_lt z3_0, Nat.ne_of_gt z3_0, z3_1, Nat.lt_succ_of_lt z3_1, Nat.ne_of_lt z3_1, Nat.ne_of_gt z3_1]) (Cl.cons (by simp [go_sem, hc1, hf1, z1_0, Nat.lt_succ_of_lt z1_0, Nat.ne_of_lt z1_0, Nat.ne_of_gt z1_0, z1_1, Nat.lt_succ_of_lt z1_1, Nat.ne_of_lt z1_1, Nat.ne_of_gt z1_1, hc2, hf2, z2_0, Nat.lt_succ_of_lt z2_0, Nat.ne_of_lt z2_0, Nat.ne_of_gt z2_0, z2_1, Nat.lt_succ_of_lt z2_1, Nat.ne_of_lt z2_1, Nat.ne_of_gt z2_1, hc3, hf3, z3_0, Nat.lt_succ_of_lt z3_0, Nat.ne_of_lt z3_0, Nat.ne_of_gt z3_0, z3_1, Nat.lt_succ_of_lt z3_1, Nat.ne_of_lt z3_1, Nat.ne_of_gt z3_1]) (by simp [go_sem, hc1, hf1, z1_0, Nat.lt_succ_of_lt z1_0, Nat.ne_of_lt z1_0, Nat.ne_of_gt z1_0, z1_1, Nat.lt_succ_of_lt z1_1, Nat.ne_of_lt z1_1, Nat.ne_of_gt z1_1, hc2, hf2, z2_0, Nat.lt_succ_of_lt z2_0, Nat.ne_of_lt z2_0, Nat.ne_of_gt z2_0, z2_1, Nat.lt_succ_of_lt z2_1, Nat.ne_of_lt z2_1, Nat.ne_of_gt z2_1, hc3, hf3, z3_0, Nat.lt_succ_of_lt z3_0, Nat.ne_of_lt z3_0, Nat.ne_of_gt z3_0, z3_1, Nat.lt_succ_of_lt z3_1, Nat.ne_of_lt z3_1, Nat.ne_of_gt z3_1]) (Cl.cons (by simp [go_sem, hc1, hf1, z1_0, Nat.lt_succ_of_lt z1_0, Nat.ne_of_lt z1_0, Nat.ne_of_gt z1_0, z1_1, Nat.lt_succ_of_lt z1_1, Nat.ne_of_lt z1_1, Nat.ne_of_gt z1_1, hc2, hf2, z2_0, Nat.lt_succ_of_lt z2_0, Nat.ne_of_lt z2_0, Nat.ne_of_gt z2_0, z2_1, Nat.lt_succ_of_lt z2_1, Nat.ne_of_lt z2_1, Nat.ne_of_gt z2_1, hc3, hf3, z3_0, Nat.lt_succ_of_lt z3_0, Nat.ne_of_lt z3_0, Nat.ne_of_gt z3_0, z3_1, Nat.lt_succ_of_lt z3_1, Nat.ne_of_lt z3_1, Nat.ne_of_gt z3_1]) (by simp [go_sem, hc1, hf1, z1_0, Nat.lt_succ_of_lt z1_0, Nat.ne_of_lt z1_0, Nat.ne_of_gt z1_0, z1_1, Nat.lt_succ_of_lt z1_1, Nat.ne_of_lt z1_1, Nat.ne_of_gt z1_1, hc2, hf2, z2_0, Nat.lt_succ_of_lt z2_0, Nat.ne_of_lt z2_0, Nat.ne_of_gt z2_0, z2_1, Nat.lt_succ_of_lt z2_1, Nat.ne_of_lt z2_1, Nat.ne_of_gt z2_1, hc3, hf3, z3_0, Nat.lt_succ_of_lt z3_0, Nat.ne_of_lt z3_0, Nat.ne_of_gt z3_0, z3_1, Nat.lt_succ_of_lt z3_1, Nat.ne_of_lt z3_1, Nat.ne_of_gt z3_1]) (Cl.cons (by simp [go_sem, hc1, hf1, z1_0, Nat.lt_succ_of_lt z1_0, Nat.ne_of_lt z1_0, Nat.ne_of_gt z1_0, z1_1, Nat.lt_succ_of_lt z1_1, Nat.ne_of_lt z1_1, Nat.ne_of_gt z1_1, hc2, hf2, z2_0, Nat.lt_succ_of_lt z2_0, Nat.ne_of_lt z2_0, Nat.ne_of_gt z2_0, z2_1, Nat.lt_succ_of_lt z2_1, Nat.ne_of_lt z2_1, Nat.ne_of_gt z2_1, hc3, hf3, z3_0, Nat.lt_succ_of_lt z3_0, Nat.ne_of_lt z3_0, Nat.ne_of_gt z3_0, z3_1, Nat.lt_succ_of_lt z3_1, Nat.ne_of_lt z3_1, Nat.ne_of_gt z3_1]) (by simp [go_sem, hc1, hf1, z1_0, Nat.lt_succ_of_lt z1_0, Nat.ne_of_lt z1_0, Nat.ne_of_gt z1_0, z1_1, Nat.lt_succ_of_lt z1_1, Nat.ne_of_lt z1_1, Nat.ne_of_gt z1_1, hc2, hf2, z2_0, Nat.lt_succ_of_lt z2_0, Nat.ne_of_lt z2_0, Nat.ne_of_gt z2_0, z2_1, Nat.lt_succ_of_lt z2_1, Nat.ne_of_lt z2_1, Nat.ne_of_gt z2_1, hc3, hf3, z3_0, Nat.lt_succ_of_lt z3_0, Nat.ne_of_lt z3_0, Nat.ne_of_gt z3_0, z3_1, Nat.lt_succ_of_lt z3_1, Nat.ne_of_lt z3_1, Nat.ne_of_gt z3_1]) (Cl.nil _))))
  have lg : w.heap.size + 1 < w3.heap.size := z3_1
  have K3b := K3
  clear hb1 hc1 hf1 hb2 hc2 hf2 hb3 hc3 hf3 z1_0 z1_1 z2_0 z2_1 z3_0 z3_1 K1 K2 VL GC FD B0 RA2 K3
  obtain ⟨gr, hgr⟩ : ∃ gr, w3.heap.size = gr := ⟨_, rfl⟩
  have F1 : Cl ((gr, 0, .int .i64 D) :: (gr, 1, .slice none 0 0) :: (gr, 2, .bool true) :: [(w.heap.size, 2, .bool true), (w.heap.size + 1, 0, .int .i64 0), (w.heap.size + 1, 1, .slice none 0 0), (w.heap.size + 1, 2, .bool false)]) (w3.alloc (Obj.cells #[Value.int .i64 D, Value.slice none 0 0, Value.bool true] 36)) := by
    have h := F0.below ((Below.refl _ _).alloc (Nat.le_refl _) (Obj.cells #[Value.int .i64 D, Value.slice none 0 0, Value.bool true] 36))
    rw [← hgr]
    exact Cl.cons (by go_cell) (by simp only [frozen?_alloc_cells]; exact Rg.notFrozen (Nat.le_refl _)) (Cl.cons (by go_cell) (by simp only [frozen?_alloc_cells]; exact Rg.notFrozen (Nat.le_refl _)) (Cl.cons (by go_cell) (by simp only [frozen?_alloc_cells]; exact Rg.notFrozen (Nat.le_refl _)) h))
  have F1h := Lib.hid F1
  have KB0 : Hid (Below w.heap.size w (w3.alloc (Obj.cells #[Value.int .i64 D, Value.slice none 0 0, Value.bool true] 36))) := Lib.hid (K3b.alloc K3b.size _)
  have hlt0 : gr < (w3.alloc (Obj.cells #[Value.int .i64 D, Value.slice none 0 0, Value.bool true] 36)).heap.size := by simp; omega
  have lw : w.heap.size + 1 < gr := by omega
  rw [hgr]
  clear F0 F1 K3b lg
  go_loopw [61] (fun i wr => ∃ (j : Nat) (vl : Value), i = .int .i64 j ∧ j ≤ n ∧ gr < wr.heap.size ∧ Hid (Cl ((gr, 0, .int .i64 D) :: (gr, 1, vl) :: (gr, 2, .bool true) :: [(w.heap.size, 2, .bool true), (w.heap.size + 1, 0, .int .i64 0), (w.heap.size + 1, 1, .slice none 0 0), (w.heap.size + 1, 2, .bool false)]) wr) ∧ Hid (Below w.heap.size w wr) ∧ Hid (wr.ownsRow (gr + 1) 59 2 vl j (moCs (tdY G (xs.take j))))) (fun i _ => n - (intOf i).toNat)
  case atStart => exact ⟨0, .slice none 0 0, rfl, Nat.zero_le _, hlt0, F1h, KB0, Lib.hid (World.ownsRow_nil _ _ _ _)⟩
  case round =>
    obtain ⟨j, vl, rfl, hj, hlt9, hF, hB, hO⟩ := hrel
    clear F1h KB0 hlt0
    have jj : (0 : Int) ≤ j := by omega
    have d0 := hF.out.head
    have d1 := hF.out.tail.head
    have zd1 := hF.out.tail.headF
    have d2 := hF.out.tail.tail.head
    have d3 := hF.out.tail.tail.tail.head
    by_cases hlt : j < n
    · obtain ⟨b, o, rfl, e0, e1⟩ := RA.out j (by rw [HN.out]; exact hlt)
      have j2 : (j : Int) < n := by omega
      have hbw : b < w.heap.size := World.block_lt_of_cell? _ _ e0
      replace e0 := Rg.keep hB.out hbw e0
      replace e1 := Rg.keep hB.out hbw e1
      have hbr : b < wr.heap.size := World.block_lt_of_cell? _ _ e0
      have hst := tdY_take (G := G) (xs := xs) (j := j) (by rw [HN.out]; exact hlt)
      obtain ⟨-, y0, y1⟩ := RS.out j (by rw [HN.out]; exact hlt)
      obtain ⟨m, hm⟩ : ∃ m, xs.getD j mo0 = m := ⟨_, rfl⟩
      rw [hm] at e0 e1 hst y0 y1
      obtain ⟨z, a⟩ := m
      dsimp only at e0 e1 hst y0 y1
      have FB := Lib.hid fun w => FA.out a y0 y1 w
      have HST := Lib.hid hst
      clear hm hst y0 y1
      have BM := (Below.refl wr.heap.size wr).alloc (Nat.le_refl _) (Obj.cells #[Value.string z, Value.int .i64 a] 59)
      have FM := Lib.hid (hF.out.below BM)
      have OM := Lib.hid (hO.out.alloc (Obj.cells #[Value.string z, Value.int .i64 a] 59))
      have KM := Lib.hid (hB.out.alloc hB.out.size (Obj.cells #[Value.string z, Value.int .i64 a] 59))
      clear hF hO BM
      go_wp2_with (first | (go_at_call 60; (with_reducible refine (FB.out _).mono ?_); rintro e u ⟨rfl, hb⟩; have x0 : u.cell? ⟨wr.heap.size, 0, none⟩ = some (.string z) := Rg.keep hb (by simp) (by go_cell); have FU := FM.out.below hb; have d1' := FU.tail.head; have zd1' := FU.tail.headF; have OU := own_belowE OM.out hb; have KU := KM.out.trans (hb.mono KM.out.size); have hsu : wr.heap.size < u.heap.size := World.block_lt_of_cell? _ _ x0) | (at_builtin; refine wpList_append_own _ rfl _ _ 22 rfl (gr + 1) 59 i0 (.agg #[.string ⟨#[]⟩, .int .i64 0]) 2 24 Tryd.underlying22 hi hz0 hz1 hz2 rfl (by decide) _ _ _ rfl (OU.alloc _) ⟨u.heap.size, 0, none⟩ 1 1 [.string z, .int .i64 (a / (G : Int))] rfl rfl ?_ ?_ ?_ ?_ ?_ ?_))
      · intro q x hx
        rcases q with _ | _ | q
        · cases hx; go_cell
        · cases hx; go_cell
        · simp at hx
      · intro x hx
        simp at hx
        rcases hx with rfl | rfl <;> rfl
      · unfold maxLen; omega
      · omega
      · simp; omega
      intro v' w4 hown' hgrow _
      have FV := FU.below ((Below.refl _ _).alloc (Nat.le_refl _) (Obj.cells #[Value.string z, Value.int .i64 (a / (G : Int))] 59))
      have F4 := FV.own (OU.alloc _) hgrow (by simp only [List.forall_mem_cons]; simp; omega)
      have K4 := (KU.alloc KU.size (Obj.cells #[Value.string z, Value.int .i64 (a / (G : Int))] 59)).grown hgrow (KU.alloc KU.size (Obj.cells #[Value.string z, Value.int .i64 (a / (G : Int))] 59)).size (fun q hq => by have := (OU.lt q hq).1; have := KU.size; omega)
      have hown2 : Hid (w4.ownsRow (gr + 1) 59 2 v' (j + 1) (moCs (tdY G (xs.take (j + 1))))) := Lib.hid (by
        rw [HST.out]
        exact hown')
      obtain ⟨q', c', rfl⟩ := own_slice hown2.out
      clear hown' hgrow FU FV OU KU FM OM KM x0 d1' zd1' hi hz0 hz1 hz2
      have e0 := F4.head
      have ze0 := F4.headF
      have e1 := F4.tail.head
      have ze1 := F4.tail.headF
      have e2 := F4.tail.tail.head
      have ze2 := F4.tail.tail.headF
      have F5 := F4.tail.tail.tail
      go_wp2
      go_roundw
      case rel =>
        refine ⟨j + 1, .slice q' (j + 1) c', by go_num, by omega, by rw [World.size_setCell]; exact World.block_lt_of_cell? _ _ e0, Lib.hid (Cl.cons (by go_cell) (by simp [World.frozen?_setCell, ze0]) (Cl.cons (by go_cell) (by simp [World.frozen?_setCell, ze1]) (Cl.cons (by go_cell) (by simp [World.frozen?_setCell, ze2]) (F5.far (by simp only [List.forall_mem_cons]; simp; omega))))), Lib.hid (K4.setCell (p := ⟨gr, 1, none⟩) (by show w.heap.size ≤ gr; omega) _), Lib.hid (own_set hown2.out (by show gr < gr + 1; omega))⟩
      case measure => simp [intOf]; omega
    · obtain rfl : j = n := by omega
      have hO2 := hO.out
      rw [show xs.take j = xs by rw [← HN.out]; exact List.take_length] at hO2
      obtain ⟨q, d, hvl, hS⟩ := own_sl' (l := tdY G xs) hO2 (by rw [tdY_len, HN.out])
      subst hvl
      have r0 := hF.out.tail.tail.tail.tail.head
      have zr0 := hF.out.tail.tail.tail.tail.headF
      have r1 := hF.out.tail.tail.tail.tail.tail.head
      have zr1 := hF.out.tail.tail.tail.tail.tail.headF
      have r2 := hF.out.tail.tail.tail.tail.tail.tail.head
      have zr2 := hF.out.tail.tail.tail.tail.tail.tail.headF
      have lr : w.heap.size + 1 < wr.heap.size := World.block_lt_of_cell? _ _ r0
      have KE := hB.out
      have hlt8 := hlt9
      have FF := hF.out
      have hneg := HNG.out
      obtain ⟨b2, o2, hq2, s0, s1⟩ := hS 0 (by have h1 := HN0.out; rw [tdY_len]; omega)
      have hS9 := Lib.hid hS
      have HS9 : Hid (SlM wr q (tdY G xs)) := Lib.hid hS
      rw [hq2] at HS9
      subst hq2
      simp only [Nat.zero_mul, Nat.add_zero] at s0 s1
      obtain ⟨y, hy⟩ : ∃ y, (tdY G xs).getD 0 mo0 = y := ⟨_, rfl⟩
      rw [hy] at s0 s1 hneg
      have hj0 : (0 : Int) < j := by have h1 := HN0.out; have h2 := HN.out; omega
      have SC := Lib.hid fun w h => scale1k D (some ⟨b2, o2, none⟩) (tdY G xs) d (-1) w (by rw [tdY_len, HN.out]; exact hn) h HTB D0.out.1 D0.out.2 (by decide) (by decide)
      rw [show (tdY G xs).length = j by rw [tdY_len, HN.out]] at SC
      obtain ⟨R9, hR9⟩ : ∃ R9, sclR (-1) D (tdY G xs) = R9 := ⟨_, rfl⟩
      have hres := HRES.out
      rw [hDD.out, hR9] at hres
      rw [hR9] at SC
      obtain ⟨K2, ys, er⟩ := R9
      dsimp only at SC hres
      unfold Lv at SC
      clear hO hO2 hB FA RS RA hy hS hR9 HTB
      by_cases h0 : er = 0
      · subst h0
        rw [if_neg (by decide)] at hres
        subst hres
        go_wp2_with (go_at_call 61; (with_reducible refine (SC.out _ HS9).mono ?_); rintro e w5 ⟨pt, ct, rfl, _, hfr, S5, hb5⟩; unfold Lv; have F5 := FF.below hb5; have K5 := KE.trans (hb5.mono KE.size); have l5 := hb5.size; have r0 := F5.tail.tail.tail.tail.head; have zr0 := F5.tail.tail.tail.tail.headF; have r1 := F5.tail.tail.tail.tail.tail.head; have zr1 := F5.tail.tail.tail.tail.tail.headF; have r2 := F5.tail.tail.tail.tail.tail.tail.head; have zr2 := F5.tail.tail.tail.tail.tail.tail.headF; have d0 := F5.head; have zd0 := F5.headF; have d1 := F5.tail.head; have zd1 := F5.tail.headF; have d2 := F5.tail.tail.head; have zd2 := F5.tail.tail.headF; have lr : w.heap.size + 1 < w5.heap.size := World.block_lt_of_cell? _ _ r0; have hlt9 : gr < w5.heap.size := World.block_lt_of_cell? _ _ d0; clear hb5 FF hF)
        refine bodyPost_ret (v := .tuple #[.agg #[.int .i64 K2, .slice pt ys.length ct, .bool true], .int .i64 0, .int .i64 0]) (by simp [results, Tryd.results28, go_sem, r0, zr0, r1, zr1, r2, zr2, d0, d1, d2, lr, hlt9, Nat.ne_of_gt lw, Nat.ne_of_lt lw]) rfl ⟨pt, ct, rfl, ?_, ?_, ?_⟩
        all_goals first | exact (turn_end K5 hfr S5 hlt8 lw).1 | exact (turn_end K5 hfr S5 hlt8 lw).2.1 | exact (turn_end K5 hfr S5 hlt8 lw).2.2
      · have g0 : (er == 0) = false := by simpa using h0
        have g1 : (er != 0) = true := by simpa using h0
        rw [if_pos h0] at hres
        subst hres
        clear h0
        go_wp2_with (go_at_call 61; (with_reducible refine (SC.out _ HS9).mono ?_); rintro e w5 ⟨pt, ct, rfl, _, hfr, S5, hb5⟩; unfold Lv; have F5 := FF.below hb5; have K5 := KE.trans (hb5.mono KE.size); have l5 := hb5.size; have r0 := F5.tail.tail.tail.tail.head; have zr0 := F5.tail.tail.tail.tail.headF; have r1 := F5.tail.tail.tail.tail.tail.head; have zr1 := F5.tail.tail.tail.tail.tail.headF; have r2 := F5.tail.tail.tail.tail.tail.tail.head; have zr2 := F5.tail.tail.tail.tail.tail.tail.headF; have d0 := F5.head; have zd0 := F5.headF; have d1 := F5.tail.head; have zd1 := F5.tail.headF; have d2 := F5.tail.tail.head; have zd2 := F5.tail.tail.headF; have lr : w.heap.size + 1 < w5.heap.size := World.block_lt_of_cell? _ _ r0; have hlt9 : gr < w5.heap.size := World.block_lt_of_cell? _ _ d0; clear hb5 FF hF)
        refine bodyPost_ret (v := .tuple #[.agg #[.int .i64 0, .slice none 0 0, .bool false], .int .i64 0, .int .i64 er]) (by simp [results, Tryd.results28, go_sem, r0, zr0, r1, zr1, r2, zr2, d0, d1, d2, lr, hlt9, Nat.ne_of_gt lw, Nat.ne_of_lt lw]) rfl (TR.nil (turn_err K5 (Nat.le_of_lt (Nat.lt_succ_self _))))
end Go.Proofs.YtbicmlkjonaccaaDoor.Ln


namespace Go.Proofs.YtbicmlkjonaccaaDoor.Ln
open Go.ChangeShapes Go.WideShapes Go.ChangeAt Go.RowKit
open Go.Proofs.YtbicmlkjonaccaaDoor.Nm
set_option linter.unusedVariables false
set_option linter.unusedSimpArgs false
set_option maxRecDepth 8000

theorem tig1 (k : Int) (p : Option Addr) (xs : List Mo) (c : Nat) (eq : Bool) (w : World) (hn : xs.length ≤ 1000) (RA : Hid (SlM w p xs)) (RS : Hid (∀ i, i < xs.length → (xs.getD i mo0).1.size ≤ maxLen ∧ -9223372036854775808 ≤ (xs.getD i mo0).2 ∧ (xs.getD i mo0).2 ≤ 9223372036854775807)) (k1 : -9223372036854775808 ≤ k) (k2 : k ≤ 9223372036854775807) : Calls Tryd.prog 28 #[Cv k p xs.length c eq] w (TR (tgR k xs eq) w) := by
  obtain ⟨R, hR⟩ : ∃ R, tgR k xs eq = R := ⟨_, rfl⟩
  rw [hR]
  unfold tgR at hR
  cases hok : okL xs
  · rw [if_pos hok] at hR
    subst hR
    exact tig_bad k p xs c eq w hn RA RS k1 k2 hok
  · rw [if_neg (by rw [hok]; decide)] at hR
    by_cases h0 : xs.length = 0
    · rw [if_pos h0] at hR
      cases hh : hB k eq
      · rw [if_neg (by rw [hh]; decide)] at hR
        subst hR
        exact tig_false k p xs c eq w hn RA RS k1 k2 hok h0 hh
      · rw [if_pos hh] at hR
        subst hR
        exact tig_true k p xs c eq w hn RA RS k1 k2 hok h0 hh
    · rw [if_neg h0] at hR
      cases eq
      · rw [if_neg (by simp), if_neg (by simp)] at hR
        subst hR
        exact tig_ge k p xs c w hn RA RS k1 k2 hok h0
      · cases hx : (k % (gcdL 0 xs : Int) == 0)
        · rw [if_pos (by rw [hx]; rfl)] at hR
          subst hR
          exact tig_no k p xs c true w hn RA RS k1 k2 hok h0 rfl hx
        · rw [if_neg (by rw [hx]; decide)] at hR
          cases hneg : decide (((tdY (gcdL 0 xs) xs).getD 0 mo0).2 < 0)
          · rw [if_neg (by rw [hneg]; decide)] at hR
            subst hR
            exact tig_eq k p xs c w hn RA RS k1 k2 hok h0 hx hneg
          · rw [if_pos (by rw [hneg]; rfl)] at hR
            exact tig_turn k p xs c w hn RA RS k1 k2 hok h0 hx hneg R hR
end Go.Proofs.YtbicmlkjonaccaaDoor.Ln


namespace Go.Proofs.YtbicmlkjonaccaaDoor.Ln
open Go.ChangeShapes Go.WideShapes Go.ChangeAt Go.RowKit
open Go.Proofs.YtbicmlkjonaccaaDoor.Nm
set_option linter.unusedVariables false
set_option linter.unusedSimpArgs false
set_option maxRecDepth 8000

theorem sclR_le (by' k : Int) (xs : List Mo) : (sclR by' k xs).2.1.length ≤ xs.length := by
  unfold sclR
  split
  · simp
  · split
    · simp
    · split
      · simp [sclV]
      · simp
theorem tgR_len (k : Int) (xs : List Mo) (eq : Bool) : (tgR k xs eq).2.1.length ≤ xs.length := by
  unfold tgR
  split
  · simp
  · split
    · split <;> simp
    · split
      · simp
      · split
        · split
          · simp
          · dsimp only
            exact Nat.le_trans (sclR_le _ _ _) (by rw [tdY_len]; exact Nat.le_refl _)
        · dsimp only
          rw [tdY_len]
          exact Nat.le_refl _
end Go.Proofs.YtbicmlkjonaccaaDoor.Ln
