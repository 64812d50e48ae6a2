/- Tighten: an equation whose sign stays. -/
import Derived.Test.YtbicmlkjonaccaaDoorK5
import Derived.Test.YtbicmlkjonaccaaDoorK4
import Derived.Test.YtbicmlkjonaccaaDoorK3

namespace Go.Proofs.YtbicmlkjonaccaaDoor.Ln
open Go.ChangeShapes Go.WideShapes Go.ChangeAt Go.RowKit
open Go.Proofs.YtbicmlkjonaccaaDoor.Nm
set_option linter.unusedVariables false
set_option linter.unusedSimpArgs false
set_option maxRecDepth 8000

set_option maxRecDepth 100000 in
set_option maxHeartbeats 4000000 in
theorem tig_eq (k : Int) (p : Option Addr) (xs : List Mo) (c : Nat) (w : World) (hn : xs.length <= 1000) (RA : Hid (SlM w p xs)) (RS : Hid (∀ i, i < xs.length -> (xs.getD i mo0).1.size <= maxLen /\ -9223372036854775808 <= (xs.getD i mo0).2 /\ (xs.getD i mo0).2 <= 9223372036854775807)) (k1 : -9223372036854775808 <= k) (k2 : k <= 9223372036854775807) (hok : okL xs = true) (h0 : xs.length ≠ 0) (hx : (k % (gcdL 0 xs : Int) == 0) = true) (hneg : decide (((tdY (gcdL 0 xs) xs).getD 0 mo0).2 < 0) = false) : Calls Tryd.prog 28 #[Cv k p xs.length c true] w (TR (k / (gcdL 0 xs : Int), tdY (gcdL 0 xs) xs, true, 0, 0) w) := by
 have VL := Lib.hid fun w h => cval1 k p xs c true w (by unfold maxLen; omega) h (Lib.hid fun i hi => (RS.out i hi).1)
 have B0 : Below w.heap.size w ((w.alloc (Obj.cells #[Value.int .i64 k, Value.slice p xs.length c, Value.bool true] 36)).alloc (Obj.cells #[Value.int .i64 0, Value.slice none 0 0, Value.bool false] 36)) := ((Below.refl _ _).alloc (Nat.le_refl _) _).alloc (by simp) _
 have RA2 := Lib.hid (SlM.keep B0 RA.out)
 have hv : vL xs = 0 := by unfold vL; rw [hok]; rfl
 rw [hv] at VL
 obtain ⟨qq0, qq1⟩ := gcdL_bd hok h0 (fun i hi => (RS.out i hi).2)
 have GC := Lib.hid fun w h => gcd1 k p xs c w (by unfold maxLen; omega) h RS
 have g0 : ((xs.length : Int) == 0) = false := by rw [beq_eq_false_iff_ne]; omega
 unfold Cv Lv at *
 obtain ⟨G, hG⟩ : ∃ G : Nat, gcdL 0 xs = G := ⟨_, rfl⟩
 rw [hG] at GC qq0 qq1 hx hneg ⊢
 have FD := Lib.hid fun w => fdiv k G k1 k2 qq0 qq1 w
 rw [hx] at FD
 have FA := Lib.hid fun a (a1 : -9223372036854775808 <= a) (a2 : a <= 9223372036854775807) w => fdiv a G a1 a2 qq0 qq1 w
 have Q0 := Lib.hid qq0
 have D0 := Lib.hid (div_bd qq0 k1 k2)
 obtain ⟨H, hH⟩ : ∃ H, wrap64 (G : Int) = H := ⟨_, rfl⟩
 obtain ⟨D, hD⟩ : ∃ D, k / (G : Int) = D := ⟨_, rfl⟩
 rw [hH] at GC FD FA
 rw [hD] at FD D0 ⊢
 obtain ⟨i0, hi, hz0, hz1, hz2⟩ := info_parts infoMo
 have HN0 := Lib.hid h0
 obtain ⟨n, hnn⟩ : ∃ n, xs.length = n := ⟨_, rfl⟩
 have HN := Lib.hid hnn
 rw [hnn] at VL GC g0 hn B0 RA2 ⊢
 clear hok hv h0 hG hH hD qq0 qq1 hnn
 go_enter Tryd.func28, Tryd.ntmps28
 go_wp2_with (first | (go_at_call 24; (with_reducible refine (VL.out _ RA2).mono ?_); rintro e w1 ⟨rfl, hb1⟩; have hc1 := (Rg.bcell hb1).1; have hf1 := (Rg.bcell hb1).2; have z1_0 : w.heap.size < w1.heap.size := (by have hzz := hb1.size; (try simp at hzz); omega); have z1_1 : w.heap.size + 1 < w1.heap.size := (by have hzz := hb1.size; (try simp at hzz); omega); have K1 : Below w.heap.size w w1 := Below.trans (b := _) (by (repeat' (first | (with_reducible exact Below.refl _ _) | (with_reducible refine Below.alloc ?_ ?_ _) | (with_reducible refine Below.setCell ?_ ?_ _) | (with_reducible refine below_drewN ?_ _) | (simp; done) | omega | (simp; omega)))) (hb1.mono (by have hzz := hb1.size; (try simp at hzz); first | omega | (simp; done) | (simp; omega)))) | (go_at_call 59; (with_reducible refine (GC.out _ (Lib.hid (SlM.keep K1 RA.out))).mono ?_); rintro e w2 ⟨rfl, hb2⟩; have hc2 := (Rg.bcell hb2).1; have hf2 := (Rg.bcell hb2).2; have z2_0 : w.heap.size < w2.heap.size := (by have hzz := hb2.size; (try simp at hzz); omega); have z2_1 : w.heap.size + 1 < w2.heap.size := (by have hzz := hb2.size; (try simp at hzz); omega); have K2 : Below w.heap.size w w2 := Below.trans (b := _) (by (repeat' (first | (with_reducible exact Below.refl _ _) | (with_reducible exact K1) | (with_reducible exact K1.size) | (with_reducible refine Below.alloc ?_ ?_ _) | (with_reducible refine Below.setCell ?_ ?_ _) | (with_reducible refine below_drewN ?_ _) | (simp; done) | omega | (simp; omega)))) (hb2.mono (by have hzz := hb2.size; (try simp at hzz); first | omega | (simp; done) | (simp; omega)))) | (go_at_call 60; (with_reducible refine (FD.out _).mono ?_); rintro e w3 ⟨rfl, hb3⟩; have hc3 := (Rg.bcell hb3).1; have hf3 := (Rg.bcell hb3).2; have z3_0 : w.heap.size < w3.heap.size := (by have hzz := hb3.size; (try simp at hzz); omega); have z3_1 : w.heap.size + 1 < w3.heap.size := (by have hzz := hb3.size; (try simp at hzz); omega); have K3 : Below w.heap.size w w3 := Below.trans (b := _) (by (repeat' (first | (with_reducible exact Below.refl _ _) | (with_reducible exact K1) | (with_reducible exact K1.size) | (with_reducible exact K2) | (with_reducible exact K2.size) | (with_reducible refine Below.alloc ?_ ?_ _) | (with_reducible refine Below.setCell ?_ ?_ _) | (with_reducible refine below_drewN ?_ _) | (simp; done) | omega | (simp; omega)))) (hb3.mono (by have hzz := hb3.size; (try simp at hzz); first | omega | (simp; done) | (simp; omega)))))
 have F0 : Cl [(w.heap.size, 2, .bool true), (w.heap.size + 1, 0, .int .i64 0), (w.heap.size + 1, 1, .slice none 0 0), (w.heap.size + 1, 2, .bool false)] w3 := Cl.cons (by simp [go_sem, hc1, hf1, z1_0, Nat.lt_succ_of_lt z1_0, Nat.ne_of_lt z1_0, Nat.ne_of_gt z1_0, z1_1, Nat.lt_succ_of_lt z1_1, Nat.ne_of_lt z1_1, Nat.ne_of_gt z1_1, hc2, hf2, z2_0, Nat.lt_succ_of_lt z2_0, Nat.ne_of_lt z2_0, Nat.ne_of_gt z2_0, z2_1, Nat.lt_succ_of_lt z2_1, Nat.ne_of_lt z2_1, Nat.ne_of_gt z2_1, hc3, hf3, z3_0, Nat.lt_succ_of_lt z3_0, Nat.ne_of_lt z3_0, Nat.ne_of_gt z3_0, z3_1, Nat.lt_succ_of_lt z3_1, Nat.ne_of_lt z3_1, Nat.ne_of_gt z3_1]) (by simp [go_sem, hc1, hf1, z1_0, Nat.lt_succ_of_lt z1_0, Nat.ne_of_lt z1_0, Nat.ne_of_gt z1_0, z1_1, Nat.lt_succ_of_lt z1_1, Nat.ne_of_lt z1_1, Nat.ne_of_gt z1_1, hc2, hf2, z2_0, Nat.lt_succ_of_lt z2_0, Nat.ne_of_lt z2_0, Nat.ne_of_gt z2_0, z2_1, Nat.lt_succ_of_lt z2_1, Nat.ne_of_lt z2_1, Nat.ne_of_gt z2_1, hc3, hf3, z3_0, Nat.lt_succ_of_lt z3_0, Nat.ne_of_lt z3_0, Nat.ne_of_gt z3_0, z3_1, Nat.lt_succ_of_lt z3_1, Nat.ne_of_lt z3_1, Nat.ne_of_gt z3_1]) (Cl.cons (by simp [go_sem, hc1, hf1, z1_0, Nat.lt_succ_of_lt z1_0, Nat.ne_of_lt z1_0, Nat.ne_of_gt z1_0, z1_1, Nat.lt_succ_of_lt z1_1, Nat.ne_of_lt z1_1, Nat.ne_of_gt z1_1, hc2, hf2, z2_0, Nat.lt_succ_of_lt z2_0, Nat.ne_of_lt z2_0, Nat.ne_of_gt z2_0, z2_1, Nat.lt_succ_of_lt z2_1, Nat.ne_of_lt z2_1, Nat.ne_of_gt z2_1, hc3, hf3, z3_0, Nat.lt_succ_of_lt z3_0, Nat.ne_of_lt z3_0, Nat.ne_of_gt z3_0, z3_1, Nat.lt_succ_of_lt z3_1, Nat.ne_of_lt z3_1, Nat.ne_of_gt z3_1]) (by simp [go_sem, hc1, hf1, z1_0, Nat.lt_succ_of_lt z1_0, Nat.ne_of_lt z1_0, Nat.ne_of_gt z1_0, z1_1, Nat.lt_succ_of_lt z1_1, Nat.ne_of_lt z1_1, Nat.ne_of_gt z1_1, hc2, hf2, z2_0, Nat.lt_succ_of_lt z2_0, Nat.ne_of_lt z2_0, Nat.ne_of_gt z2_0, z2_1, Nat.lt_succ_of_lt z2_1, Nat.ne_of_lt z2_1, Nat.ne_of_gt z2_1, hc3, hf3, z3_0, Nat.lt_succ_of_lt z3_0, Nat.ne_of_lt z3_0, Nat.ne_of_gt z3_0, z3_1, Nat.lt_succ_of_lt z3_1, Nat.ne_of_lt z3_1, Nat.ne_of_gt z3_1]) (Cl.cons (by simp [go_sem, hc1, hf1, z1_0, Nat.lt_succ_of_lt z1_0, Nat.ne_of_lt z1_0, Nat.ne_of_gt z1_0, z1_1, Nat.lt_succ_of_lt z1_1, Nat.ne_of_lt z1_1, Nat.ne_of_gt z1_1, hc2, hf2, z2_0, Nat.lt_succ_of_lt z2_0, Nat.ne_of_lt z2_0, Nat.ne_of_gt z2_0, z2_1, Nat.lt_succ_of_lt z2_1, Nat.ne_of_lt z2_1, Nat.ne_of_gt z2_1, hc3, hf3, z3_0, Nat.lt_succ_of_lt z3_0, Nat.ne_of_lt z3_0, Nat.ne_of_gt z3_0, z3_1, Nat.lt_succ_of_lt z3_1, Nat.ne_of_lt z3_1, Nat.ne_of_gt z3_1]) (by simp [go_sem, hc1, hf1, z1_0, Nat.lt_succ_of_lt z1_0, Nat.ne_of_lt z1_0, Nat.ne_of_gt z1_0, z1_1, Nat.lt_succ_of_lt z1_1, Nat.ne_of_lt z1_1, Nat.ne_of_gt z1_1, hc2, hf2, z2_0, Nat.lt_succ_of_lt z2_0, Nat.ne_of_lt z2_0, Nat.ne_of_gt z2_0, z2_1, Nat.lt_succ_of_lt z2_1, Nat.ne_of_lt z2_1, Nat.ne_of_gt z2_1, hc3, hf3, z3_0, Nat.lt_succ_of_lt z3_0, Nat.ne_of_lt z3_0, Nat.ne_of_gt z3_0, z3_1, Nat.lt_succ_of_lt z3_1, Nat.ne_of_lt z3_1, Nat.ne_of_gt z3_1]) (Cl.cons (by simp [go_sem, hc1, hf1, z1_0, Nat.lt_succ_of_lt z1_0, Nat.ne_of_lt z1_0, Nat.ne_of_gt z1_0, z1_1, Nat.lt_succ_of_lt z1_1, Nat.ne_of_lt z1_1, Nat.ne_of_gt z1_1, hc2, hf2, z2_0, Nat.lt_succ_of_lt z2_0, Nat.ne_of_lt z2_0, Nat.ne_of_gt z2_0, z2_1, Nat.lt_succ_of_lt z2_1, Nat.ne_of_lt z2_1, Nat.ne_of_gt z2_1, hc3, hf3, z3_0, Nat.lt_succ_of_lt z3_0, Nat.ne_of_lt z3_0, Nat.ne_of_gt z3_0, z3_1, Nat.lt_succ_of_lt z3_1, Nat.ne_of_lt z3_1, Nat.ne_of_gt z3_1]) (by simp [go_sem, hc1, hf1, z1_0, Nat.lt_succ_of_lt z1_0, Nat.ne_of_lt z1_0, Nat.ne_of_gt z1_0, z1_1, Nat.lt_succ_of_lt z1_1, Nat.ne_of_lt z1_1, Nat.ne_of_gt z1_1, hc2, hf2, z2_0, Nat.lt_succ_of_lt z2_0, Nat.ne_of_lt z2_0, Nat.ne_of_gt z2_0, z2_1, Nat.lt_succ_of_lt z2_1, Nat.ne_of_lt z2_1, Nat.ne_of_gt z2_1, hc3, hf3, z3_0, Nat.lt_succ_of_lt z3_0, Nat.ne_of_lt z3_0, Nat.ne_of_gt z3_0, z3_1, Nat.lt_succ_of_lt z3_1, Nat.ne_of_lt z3_1, Nat.ne_of_gt z3_1]) (Cl.nil _))))
 have lg : w.heap.size + 1 < w3.heap.size := z3_1
 have K3b := K3
 clear hb1 hc1 hf1 hb2 hc2 hf2 hb3 hc3 hf3 z1_0 z1_1 z2_0 z2_1 z3_0 z3_1 K1 K2 VL GC FD B0 RA2 K3
 obtain ⟨gr, hgr⟩ : ∃ gr, w3.heap.size = gr := ⟨_, rfl⟩
 have F1 : Cl ((gr, 0, .int .i64 D) :: (gr, 1, .slice none 0 0) :: (gr, 2, .bool true) :: [(w.heap.size, 2, .bool true), (w.heap.size + 1, 0, .int .i64 0), (w.heap.size + 1, 1, .slice none 0 0), (w.heap.size + 1, 2, .bool false)]) (w3.alloc (Obj.cells #[Value.int .i64 D, Value.slice none 0 0, Value.bool true] 36)) := by
  have h := F0.below ((Below.refl _ _).alloc (Nat.le_refl _) (Obj.cells #[Value.int .i64 D, Value.slice none 0 0, Value.bool true] 36))
  rw [<- hgr]
  exact Cl.cons (by go_cell) (by simp only [frozen?_alloc_cells]; exact Rg.notFrozen (Nat.le_refl _)) (Cl.cons (by go_cell) (by simp only [frozen?_alloc_cells]; exact Rg.notFrozen (Nat.le_refl _)) (Cl.cons (by go_cell) (by simp only [frozen?_alloc_cells]; exact Rg.notFrozen (Nat.le_refl _)) h))
 have F1h := Lib.hid F1
 have KB0 : Hid (Below w.heap.size w (w3.alloc (Obj.cells #[Value.int .i64 D, Value.slice none 0 0, Value.bool true] 36))) := Lib.hid (K3b.alloc K3b.size _)
 have hlt0 : gr < (w3.alloc (Obj.cells #[Value.int .i64 D, Value.slice none 0 0, Value.bool true] 36)).heap.size := by simp; omega
 have lw : w.heap.size + 1 < gr := by omega
 rw [hgr]
 clear F0 F1 K3b lg
 go_loopw [61] (fun i wr => ∃ (j : Nat) (vl : Value), i = .int .i64 j /\ j <= n /\ gr < wr.heap.size /\ Hid (Cl ((gr, 0, .int .i64 D) :: (gr, 1, vl) :: (gr, 2, .bool true) :: [(w.heap.size, 2, .bool true), (w.heap.size + 1, 0, .int .i64 0), (w.heap.size + 1, 1, .slice none 0 0), (w.heap.size + 1, 2, .bool false)]) wr) /\ Hid (Below w.heap.size w wr) /\ Hid (wr.ownsRow (gr + 1) 59 2 vl j (moCs (tdY G (xs.take j))))) (fun i _ => n - (intOf i).toNat)
 case atStart => exact ⟨0, .slice none 0 0, rfl, Nat.zero_le _, hlt0, F1h, KB0, Lib.hid (World.ownsRow_nil _ _ _ _)⟩
 case round =>
  obtain ⟨j, vl, rfl, hj, hlt9, hF, hB, hO⟩ := hrel
  clear F1h KB0 hlt0
  have jj : (0 : Int) <= j := by omega
  have d0 := hF.out.head
  have d1 := hF.out.tail.head
  have zd1 := hF.out.tail.headF
  have d2 := hF.out.tail.tail.head
  have d3 := hF.out.tail.tail.tail.head
  by_cases hlt : j < n
  ·obtain ⟨b, o, rfl, e0, e1⟩ := RA.out j (by rw [HN.out]; exact hlt)
   have j2 : (j : Int) < n := by omega
   have hbw : b < w.heap.size := World.block_lt_of_cell? _ _ e0
   replace e0 := Rg.keep hB.out hbw e0
   replace e1 := Rg.keep hB.out hbw e1
   have hbr : b < wr.heap.size := World.block_lt_of_cell? _ _ e0
   have hst := tdY_take (G := G) (xs := xs) (j := j) (by rw [HN.out]; exact hlt)
   obtain ⟨-, y0, y1⟩ := RS.out j (by rw [HN.out]; exact hlt)
   obtain ⟨m, hm⟩ : ∃ m, xs.getD j mo0 = m := ⟨_, rfl⟩
   rw [hm] at e0 e1 hst y0 y1
   obtain ⟨z, a⟩ := m
   dsimp only at e0 e1 hst y0 y1
   have FB := Lib.hid fun w => FA.out a y0 y1 w
   have HST := Lib.hid hst
   clear hm hst y0 y1
   have BM := (Below.refl wr.heap.size wr).alloc (Nat.le_refl _) (Obj.cells #[Value.string z, Value.int .i64 a] 59)
   have FM := Lib.hid (hF.out.below BM)
   have OM := Lib.hid (hO.out.alloc (Obj.cells #[Value.string z, Value.int .i64 a] 59))
   have KM := Lib.hid (hB.out.alloc hB.out.size (Obj.cells #[Value.string z, Value.int .i64 a] 59))
   clear hF hO BM
   go_wp2_with (first | (go_at_call 60; (with_reducible refine (FB.out _).mono ?_); rintro e u ⟨rfl, hb⟩; have x0 : u.cell? ⟨wr.heap.size, 0, none⟩ = some (.string z) := Rg.keep hb (by simp) (by go_cell); have FU := FM.out.below hb; have d1' := FU.tail.head; have zd1' := FU.tail.headF; have OU := own_belowE OM.out hb; have KU := KM.out.trans (hb.mono KM.out.size); have hsu : wr.heap.size < u.heap.size := World.block_lt_of_cell? _ _ x0) | (at_builtin; refine wpList_append_own _ rfl _ _ 22 rfl (gr + 1) 59 i0 (.agg #[.string ⟨#[]⟩, .int .i64 0]) 2 24 Tryd.underlying22 hi hz0 hz1 hz2 rfl (by decide) _ _ _ rfl (OU.alloc _) ⟨u.heap.size, 0, none⟩ 1 1 [.string z, .int .i64 (a / (G : Int))] rfl rfl ?_ ?_ ?_ ?_ ?_ ?_))
   ·intro q x hx
    rcases q with _ | _ | q
    ·cases hx; go_cell
    ·cases hx; go_cell
    ·simp at hx
   ·intro x hx
    simp at hx
    rcases hx with rfl | rfl <;> rfl
   ·unfold maxLen; omega
   ·omega
   ·simp; omega
   intro v' w4 hown' hgrow _
   have FV := FU.below ((Below.refl _ _).alloc (Nat.le_refl _) (Obj.cells #[Value.string z, Value.int .i64 (a / (G : Int))] 59))
   have F4 := FV.own (OU.alloc _) hgrow (by simp only [List.forall_mem_cons]; simp; omega)
   have K4 := (KU.alloc KU.size (Obj.cells #[Value.string z, Value.int .i64 (a / (G : Int))] 59)).grown hgrow (KU.alloc KU.size (Obj.cells #[Value.string z, Value.int .i64 (a / (G : Int))] 59)).size (fun q hq => by have := (OU.lt q hq).1; have := KU.size; omega)
   have hown2 : Hid (w4.ownsRow (gr + 1) 59 2 v' (j + 1) (moCs (tdY G (xs.take (j + 1))))) := Lib.hid (by
    rw [HST.out]
    exact hown')
   obtain ⟨q', c', rfl⟩ := own_slice hown2.out
   clear hown' hgrow FU FV OU KU FM OM KM x0 d1' zd1' hi hz0 hz1 hz2
   have e0 := F4.head
   have ze0 := F4.headF
   have e1 := F4.tail.head
   have ze1 := F4.tail.headF
   have e2 := F4.tail.tail.head
   have ze2 := F4.tail.tail.headF
   have F5 := F4.tail.tail.tail
   go_wp2
   go_roundw
   case rel =>
    refine ⟨j + 1, .slice q' (j + 1) c', by go_num, by omega, by rw [World.size_setCell]; exact World.block_lt_of_cell? _ _ e0, Lib.hid (Cl.cons (by go_cell) (by simp [World.frozen?_setCell, ze0]) (Cl.cons (by go_cell) (by simp [World.frozen?_setCell, ze1]) (Cl.cons (by go_cell) (by simp [World.frozen?_setCell, ze2]) (F5.far (by simp only [List.forall_mem_cons]; simp; omega))))), Lib.hid (K4.setCell (p := ⟨gr, 1, none⟩) (by show w.heap.size <= gr; omega) _), Lib.hid (own_set hown2.out (by show gr < gr + 1; omega))⟩
   case measure => simp [intOf]; omega
  ·obtain rfl : j = n := by omega
   have hO2 := hO.out
   rw [show xs.take j = xs by rw [<- HN.out]; exact List.take_length] at hO2
   obtain ⟨q, d, hvl, hS⟩ := own_sl' (l := tdY G xs) hO2 (by rw [tdY_len, HN.out])
   subst hvl
   have r0 := hF.out.tail.tail.tail.tail.head
   have zr0 := hF.out.tail.tail.tail.tail.headF
   have r1 := hF.out.tail.tail.tail.tail.tail.head
   have zr1 := hF.out.tail.tail.tail.tail.tail.headF
   have r2 := hF.out.tail.tail.tail.tail.tail.tail.head
   have zr2 := hF.out.tail.tail.tail.tail.tail.tail.headF
   have lr : w.heap.size + 1 < wr.heap.size := World.block_lt_of_cell? _ _ r0
   have KE := hB.out
   have HO2 := Lib.hid hO2
   obtain ⟨b2, o2, hq2, s0, s1⟩ := hS 0 (by have h1 := HN0.out; rw [tdY_len]; omega)
   have hS9 := Lib.hid hS
   subst hq2
   simp only [Nat.zero_mul, Nat.add_zero] at s0 s1
   obtain ⟨y, hy⟩ : ∃ y, (tdY G xs).getD 0 mo0 = y := ⟨_, rfl⟩
   rw [hy] at s0 s1 hneg
   have hj0 : (0 : Int) < j := by have h1 := HN0.out; have h2 := HN.out; omega
   clear hF hO hO2 hB FA RS RA hy hS
   go_wp2
   refine bodyPost_ret (v := .tuple #[.agg #[.int .i64 D, .slice (some ⟨b2, o2, none⟩) j d, .bool true], .int .i64 0, .int .i64 0]) (by simp [results, Tryd.results28, go_sem, r0, zr0, r1, zr1, r2, zr2, d0, d1, d2, lr, hlt9, Nat.ne_of_gt lw, Nat.ne_of_lt lw]) rfl ⟨some ⟨b2, o2, none⟩, d, by rw [show (tdY G xs).length = j by rw [tdY_len, HN.out]]; rfl, ?_, ?_, ?_⟩
   ·have hq9 : ∀ b o, (some ⟨b2, o2, none⟩ : Option Addr) = some ⟨b, o, none⟩ -> tdY G xs ≠ [] -> b ≠ w.heap.size + 1 := fun b o hq _ => by
     cases hq
     have := (HO2.out.lt b2 rfl).1
     omega
    exact Sl_set (Sl_set (Sl_set hS9.out hq9) hq9) hq9
   ·intro b o hq hne
    cases hq
    have hltb : gr + 1 <= b2 := (HO2.out.lt b2 rfl).1
    rcases HO2.out.2 with ⟨hv, _⟩ | ⟨g, cap, cur, hv, _, hh, _⟩
    ·cases hv
    ·cases hv
     have hk : ∀ (u : World) (o : Nat) (v : Value), u.heap[b2]? = some (.cells cur 59 (0, 0)) -> (u.setCell ⟨w.heap.size + 1, o, none⟩ v).heap[b2]? = some (.cells cur 59 (0, 0)) := fun u o v h => (grown_set.block b2 (by rcases Nat.lt_or_ge b2 u.heap.size with h1 | h1; exact h1; rw [Array.getElem?_eq_none h1] at h; cases h) (fun h2 => by have h3 := Option.some.inj h2; have h4 := hltb; dsimp only at h3; omega)).trans h
     exact ⟨cur, hk _ _ _ (hk _ _ _ (hk _ _ _ hh))⟩
   ·exact ((KE.setCell (p := ⟨w.heap.size + 1, 0, none⟩) (by dsimp only; omega) _).setCell (p := ⟨w.heap.size + 1, 1, none⟩) (by dsimp only; omega) _).setCell (p := ⟨w.heap.size + 1, 2, none⟩) (by dsimp only; omega) _
end Go.Proofs.YtbicmlkjonaccaaDoor.Ln


namespace Go.Proofs.YtbicmlkjonaccaaDoor.Ln
open Go.ChangeShapes Go.WideShapes Go.ChangeAt Go.RowKit

set_option linter.unusedVariables false
set_option linter.unusedSimpArgs false
set_option maxRecDepth 8000

/-- A form as a result in a row of the call's own. -/
def LRk (k : Int) (ys : List Mo) (er : Int) (w : World) (e : Ending) (w' : World) : Prop := ∃ p c, e = .returned (.tuple #[Lv k p ys.length c, .int .i64 er]) /\ ys.length <= c /\ (∀ b o, p = some ⟨b, o, none⟩ -> w.heap.size <= b /\ ∃ cur, w'.heap[b]? = some (.cells cur 59 (0, 0))) /\ SlM w' p ys /\ Below w.heap.size w w'
theorem LRk.zero {er : Int} {w w' : World} {e : Ending} (h : e = .returned (.tuple #[.agg #[.int .i64 0, .slice none 0 0], .int .i64 er])) (hb : Below w.heap.size w w') : LRk 0 [] er w e w' := ⟨none, 0, h, Nat.le_refl _, fun b o e => (by cases e), fun i hi => absurd hi (by simp), hb⟩
theorem own_k {u : World} {base sz n : Nat} {p : Option Addr} {m c : Nat} {xs : List Value} {T : TypeId} (h : u.ownsRow base T sz (.slice p m c) n xs) : n <= c /\ ∀ b o, p = some ⟨b, o, none⟩ -> base <= b /\ ∃ cur, u.heap[b]? = some (.cells cur T (0, 0)) := by
 rcases h.2 with ⟨e, hn⟩ | ⟨g, cap, cur, e, hb, hh, hc, _⟩
 ·cases e; exact ⟨by omega, fun b o e => by cases e⟩
 ·cases e; exact ⟨hc, fun b o e => by cases e; exact ⟨hb, cur, hh⟩⟩
set_option maxRecDepth 100000 in
set_option maxHeartbeats 16000000 in
theorem scale1k (k : Int) (p : Option Addr) (xs : List Mo) (c : Nat) (by' : Int) (w : World) (hn : xs.length <= 1000) (RA : Hid (SlM w p xs)) (RS : Hid (∀ i, i < xs.length -> (xs.getD i mo0).1.size <= maxLen /\ -9223372036854775808 <= (xs.getD i mo0).2 /\ (xs.getD i mo0).2 <= 9223372036854775807))
  (k1 : -9223372036854775808 <= k) (k2 : k <= 9223372036854775807) (b1 : -9223372036854775808 <= by') (b2 : by' <= 9223372036854775807) :
  Calls Tryd.prog 61 #[Lv k p xs.length c, .int .i64 by'] w (LRk (sclR by' k xs).1 (sclR by' k xs).2.1 (sclR by' k xs).2.2 w) := by
 have C1 := Lib.hid fun (u : World) (h : Hid (SlM u p xs)) => val1 k p xs c u (by unfold maxLen; omega) h (Lib.hid fun i hi => (RS.out i hi).1)
 have B0 : Below w.heap.size w (((w.alloc (Obj.cells #[Value.int .i64 k, Value.slice p xs.length c] 24)).alloc (Obj.cells #[Value.int .i64 by'] 2)).alloc (Obj.cells #[Value.int .i64 0, Value.slice none 0 0] 24)) := ((((Below.refl _ _).alloc (Nat.le_refl _) _).alloc (by simp) _).alloc (by simp; omega) _)
 have S0 : w.heap.size + 2 < ((((w.alloc (Obj.cells #[Value.int .i64 k, Value.slice p xs.length c] 24)).alloc (Obj.cells #[Value.int .i64 by'] 2)).alloc (Obj.cells #[Value.int .i64 0, Value.slice none 0 0] 24))).heap.size := by simp
 have F0 : Cl [(w.heap.size, 0, .int .i64 k), (w.heap.size, 1, .slice p xs.length c), (w.heap.size + 1, 0, .int .i64 by'), (w.heap.size + 1 + 1, 0, .int .i64 0), (w.heap.size + 1 + 1, 1, .slice none 0 0)] (((w.alloc (Obj.cells #[Value.int .i64 k, Value.slice p xs.length c] 24)).alloc (Obj.cells #[Value.int .i64 by'] 2)).alloc (Obj.cells #[Value.int .i64 0, Value.slice none 0 0] 24)) :=
  Cl.cons (by go_cell) (by first | go_cell | simp) (Cl.cons (by go_cell) (by first | go_cell | simp) (Cl.cons (by go_cell) (by first | go_cell | simp) (Cl.cons (by go_cell) (by first | go_cell | simp) (Cl.cons (by go_cell) (by first | go_cell | simp) (Cl.nil _)))))
 unfold Lv at *
 obtain ⟨ok, hok⟩ : ∃ ok, okL xs = ok := ⟨_, rfl⟩
 cases ok
 ·have hv : vL xs = 1 := by unfold vL; rw [hok]; rfl
  have hR : sclR by' k xs = (0, [], 1) := by unfold sclR; rw [if_pos hok]
  rw [hR]
  rw [hv] at C1
  go_enter Tryd.func61, Tryd.ntmps61
  go_wp2_with fail
  generalize (((w.alloc (Obj.cells #[Value.int .i64 k, Value.slice p xs.length c] 24)).alloc (Obj.cells #[Value.int .i64 by'] 2)).alloc (Obj.cells #[Value.int .i64 0, Value.slice none 0 0] 24)) = z at *
  have c0 := F0.head
  refine (C1.out _ (Lib.hid (SlM.keep B0 RA.out))).mono ?_
  rintro e w1 ⟨rfl, hb⟩
  have F1 := F0.below hb
  have K1 := B0.trans (hb.mono B0.size)
  have S1 : w.heap.size + 2 < w1.heap.size := Nat.lt_of_lt_of_le S0 hb.size
  clear F0 hb B0 S0 c0
  have q3 := F1.tail.tail.tail.head
  have zq3 := F1.tail.tail.tail.headF
  have q4 := F1.tail.tail.tail.tail.head
  have zq4 := F1.tail.tail.tail.tail.headF
  go_wp2
  exact bodyPost_ret (v := .tuple #[.agg #[.int .i64 0, .slice none 0 0], .int .i64 1]) (by simp [results, Tryd.results61, go_sem, q3, q4]) rfl (LRk.zero rfl (below2 K1 (by omega) _ _))
 ·have hv : vL xs = 0 := by unfold vL; rw [hok]; rfl
  rw [hv] at C1
  by_cases hby : by' = 0
  ·subst hby
   have hR : sclR 0 k xs = (0, [], 0) := by unfold sclR; rw [if_neg (by rw [hok]; decide), if_pos rfl]
   rw [hR]
   go_enter Tryd.func61, Tryd.ntmps61
   go_wp2_with fail
   generalize (((w.alloc (Obj.cells #[Value.int .i64 k, Value.slice p xs.length c] 24)).alloc (Obj.cells #[Value.int .i64 0] 2)).alloc (Obj.cells #[Value.int .i64 0, Value.slice none 0 0] 24)) = z at *
   have c0 := F0.head
   refine (C1.out _ (Lib.hid (SlM.keep B0 RA.out))).mono ?_
   rintro e w1 ⟨rfl, hb⟩
   have F1 := F0.below hb
   have K1 := B0.trans (hb.mono B0.size)
   have S1 : w.heap.size + 2 < w1.heap.size := Nat.lt_of_lt_of_le S0 hb.size
   clear F0 hb B0 S0 c0
   have q2 := F1.tail.tail.head
   have q3 := F1.tail.tail.tail.head
   have zq3 := F1.tail.tail.tail.headF
   have q4 := F1.tail.tail.tail.tail.head
   have zq4 := F1.tail.tail.tail.tail.headF
   go_wp2
   exact bodyPost_ret (v := .tuple #[.agg #[.int .i64 0, .slice none 0 0], .int .i64 0]) (by simp [results, Tryd.results61, go_sem, q3, q4]) rfl (LRk.zero rfl (below2 K1 (by omega) _ _))
  ·have hbf : (by' == 0) = false := beq_false_of_ne hby
   have hR : sclR by' k xs = if sclF by' k xs = true then (wrap64 (k * by'), sclV by' xs, 0) else (0, [], 3) := by unfold sclR; rw [if_neg (by rw [hok]; decide), if_neg hby]
   obtain ⟨R, hRR⟩ : ∃ R, sclR by' k xs = R := ⟨_, rfl⟩
   rw [hRR] at hR ⊢
   have HY := Lib.hid fun h : sclF by' k xs = true => hR.trans (if_pos h)
   have HN := Lib.hid fun h : ¬ sclF by' k xs = true => hR.trans (if_neg h)
   clear hR hby hv hok hRR
   have T1 := Lib.hid fun (x : Int) (f : Bool) (gf : Nat) (u : World) hx1 hx2 hb hf hz h1 h2 => times1 x by' f (w.heap.size + 1) gf u hx1 hx2 b1 b2 hb hf hz h1 h2
   go_enter Tryd.func61, Tryd.ntmps61
   go_wp2_with fail
   generalize (((w.alloc (Obj.cells #[Value.int .i64 k, Value.slice p xs.length c] 24)).alloc (Obj.cells #[Value.int .i64 by'] 2)).alloc (Obj.cells #[Value.int .i64 0, Value.slice none 0 0] 24)) = z at *
   have c0 := F0.head
   refine (C1.out _ (Lib.hid (SlM.keep B0 RA.out))).mono ?_
   rintro e w1 ⟨rfl, hb⟩
   have F1 := F0.below hb
   have K1 := B0.trans (hb.mono B0.size)
   have S1 : w.heap.size + 2 < w1.heap.size := Nat.lt_of_lt_of_le S0 hb.size
   clear F0 hb B0 S0 c0 C1
   have FA := Cl.cons (b := w1.heap.size) (o := 0) (v := .bool true) (by go_cell) (by first | go_cell | simp) (F1.below ((Below.refl _ _).alloc (Nat.le_refl _) (Obj.cells #[Value.bool true] 4)))
   have KA := K1.alloc K1.size (Obj.cells #[Value.bool true] 4)
   have n1 : w.heap.size + 1 ≠ w1.heap.size := by omega
   have n2 : w1.heap.size ≠ w.heap.size + 1 := by omega
   have q2 := F1.tail.tail.head
   have p0 := FA.head
   have zp0 := FA.headF
   have p1 := FA.tail.head
   have p2 := FA.tail.tail.head
   have p3 := FA.tail.tail.tail.head
   have gfz : w.heap.size + 2 < w1.heap.size := S1
   have gfs : w1.heap.size < (w1.alloc (Obj.cells #[Value.bool true] 4)).heap.size := by simp
   go_wp2_with fail
   generalize w1.alloc (Obj.cells #[Value.bool true] 4) = u1 at *
   clear K1 F1 q2
   generalize w1.heap.size = gf at *
   refine (T1.out k true gf u1 k1 k2 p3 p0 zp0 n1 n2).mono ?_
   rintro e u2 ⟨rfl, hgu, hfu, hzu⟩
   have F2 := Cl.cons hfu hzu (FA.tail.grown hgu (by simp only [List.forall_mem_cons, ne_eq, Option.some.injEq]; simp; omega))
   have K2 := below_grown KA hgu KA.size (by intro q hq; cases hq; omega)
   have S2 : gf < u2.heap.size := Nat.lt_of_lt_of_le gfs hgu.size
   have HK0 := Lib.hid (show ∃ K0, wrap64 (k * by') = K0 from ⟨_, rfl⟩)
   obtain ⟨K0, hK0⟩ := HK0.out
   obtain ⟨f0, hf0⟩ : ∃ f0, (true && fit64 (k * by')) = f0 := ⟨_, rfl⟩
   rw [hf0] at F2
   rw [hK0]
   have HK0 := Lib.hid hK0
   have HF0 := Lib.hid hf0
   clear hK0 hf0 hgu hfu hzu FA KA p0 zp0 p1 p2 p3 gfs gfz
   have FB := Cl.cons (b := u2.heap.size) (o := 0) (v := .int .i64 K0) (by go_cell) (by first | go_cell | simp) (Cl.cons (b := u2.heap.size) (o := 1) (v := .slice none 0 0) (by go_cell) (by first | go_cell | simp) (F2.below ((Below.refl _ _).alloc (Nat.le_refl _) (Obj.cells #[Value.int .i64 K0, Value.slice none 0 0] 24))))
   have KB := K2.alloc K2.size (Obj.cells #[Value.int .i64 K0, Value.slice none 0 0] 24)
   have SB : u2.heap.size < (u2.alloc (Obj.cells #[Value.int .i64 K0, Value.slice none 0 0] 24)).heap.size := by simp
   have p1 := FB.tail.tail.tail.tail.head
   go_wp2_with fail
   generalize u2.alloc (Obj.cells #[Value.int .i64 K0, Value.slice none 0 0] 24) = u3 at *
   have hgg : gf < u2.heap.size := S2
   clear S2 p1 F2 K2
   generalize u2.heap.size = gr at *
   have F3 : Hid (Cl [(gr, 0, .int .i64 K0), (gr, 1, .slice none 0 0), (gf, 0, .bool f0), (w.heap.size + 1, 0, .int .i64 by'), (w.heap.size + 1 + 1, 0, .int .i64 0), (w.heap.size + 1 + 1, 1, .slice none 0 0)] u3) := Lib.hid (FB.sub (by intro x hx; simp only [List.mem_cons, List.not_mem_nil, or_false] at hx ⊢; rcases hx with h | h | h | h | h | h <;> simp [h]))
   clear FB
   obtain ⟨i0, hi, hz0, hz1, hz2⟩ := info_parts infoMo
   go_loopw [27] (fun i wr => ∃ (j : Nat) (v : Value) (f : Bool), i = .int .i64 (j : Int) /\ j <= xs.length /\ Below w.heap.size w wr /\ gr < wr.heap.size /\ Hid (Cl [(gr, 0, .int .i64 K0), (gr, 1, v), (gf, 0, .bool f), (w.heap.size + 1, 0, .int .i64 by'), (w.heap.size + 1 + 1, 0, .int .i64 0), (w.heap.size + 1 + 1, 1, .slice none 0 0)] wr) /\ Hid (wr.ownsRow (gr + 1) 59 2 v j (moCs (sclV by' (xs.take j)))) /\ Hid (f = (f0 && (xs.take j).all fun m => fit64 (m.2 * by')))) (fun i _ => xs.length - (intOf i).toNat)
   case atStart => exact ⟨0, .slice none 0 0, f0, rfl, by omega, KB, SB, F3, Lib.hid (World.ownsRow_nil _ _ _ _), Lib.hid (by simp)⟩
   case round =>
    obtain ⟨j, vl, f, rfl, hj, hB, hgr, hF, hO, hf⟩ := hrel
    have j0 : (0 : Int) <= j := by omega
    by_cases hlt : j < xs.length
    ·obtain ⟨b, o, rfl, c0, c1⟩ := SlM.keep hB RA.out j hlt
     have hrs := RS.out j hlt
     have htk := Lib.hid (take_step hlt)
     obtain ⟨⟨s, a⟩, hx⟩ : ∃ x, xs.getD j mo0 = x := ⟨_, rfl⟩
     have htk := Lib.hid (by have h := htk.out; rw [hx] at h; exact h)
     rw [hx] at c0 c1 hrs
     simp only at c0 c1 hrs
     clear hx
     obtain ⟨_, a1, a2⟩ := hrs
     have j1 : (j : Int) < xs.length := by omega
     go_wp2_with fail
     have FM := (Cl.cons (b := wr.heap.size) (o := 0) (v := .string s) (by go_cell) (by first | go_cell | simp) (Cl.cons (b := wr.heap.size) (o := 1) (v := .int .i64 a) (by go_cell) (by first | go_cell | simp) (hF.out.below ((Below.refl _ _).alloc (Nat.le_refl _) (Obj.cells #[Value.string s, Value.int .i64 a] 59))))).drew
     have BM := (hB.alloc hB.size (Obj.cells #[Value.string s, Value.int .i64 a] 59)).drew
     have OM : Hid ((wr.alloc (Obj.cells #[Value.string s, Value.int .i64 a] 59)).drew.ownsRow (gr + 1) 59 2 vl j (moCs (sclV by' (xs.take j)))) := Lib.hid (hO.out.alloc _)
     clear c0 c1 hB hF hO
     generalize wr.alloc (Obj.cells #[Value.string s, Value.int .i64 a] 59) = wm at *
     generalize wr.heap.size = gm at *
     have d0 := FM.head
     have d1 := FM.tail.head
     have d1z := FM.tail.tail.head
     have d2 := FM.tail.tail.tail.head
     have zd2 := FM.tail.tail.tail.headF
     have d3 := FM.tail.tail.tail.tail.head
     have zd3 := FM.tail.tail.tail.tail.headF
     have d4 := FM.tail.tail.tail.tail.tail.head
     have hz := (⟨d2, d0, d1⟩ : wm.drew.cell? ⟨gr, 1, none⟩ = some vl /\ wm.drew.cell? ⟨gm, 0, none⟩ = some (.string s) /\ wm.drew.cell? ⟨gm, 1, none⟩ = some (.int .i64 a))
     refine Rk.begin (S := fun wS => wS.cell? ⟨gr, 1, none⟩ = some vl /\ wS.cell? ⟨gm, 0, none⟩ = some (.string s) /\ wS.cell? ⟨gm, 1, none⟩ = some (.int .i64 a)) 10 (by kernel_rfl) hz (fun hHeld => ?_)
     refine Rk.takeP (i := 0) (v := ?_) rfl (by kernel_rfl) (by kernel_rfl) (by kernel_rfl) (by kernel_rfl) (fun _ _ _ h => h) (Or.inl ⟨by kernel_rfl, ?_⟩) (by assumption) ?_
     rotate_left
     ·((intro w hSw; go_simp) <;> with_reducible rfl)
     try simp only [Act.put, List.setIfInBounds_toArray, List.set_cons_zero, List.set_cons_succ]
     refine Rk.take [10] (i := 1) (v := ?_) rfl (by kernel_rfl) (by kernel_rfl) (by kernel_rfl) (by kernel_rfl) (by kernel_rfl) (fun _ _ _ h => h) (Or.inl ⟨by kernel_rfl, ?_⟩) (by assumption) ?_
     rotate_left
     ·((intro w hSw; (try dsimp only at hSw); go_simp) <;> with_reducible rfl)
     try simp only [Act.put, List.setIfInBounds_toArray, List.set_cons_zero, List.set_cons_succ]
     refine Rk.takeP (i := 2) (v := ?_) rfl (by kernel_rfl) (by kernel_rfl) (by kernel_rfl) (by kernel_rfl) (fun _ _ _ h => h) (Or.inl ⟨by kernel_rfl, ?_⟩) (by assumption) ?_
     rotate_left
     ·((intro w hSw; go_simp) <;> with_reducible rfl)
     try simp only [Act.put, List.setIfInBounds_toArray, List.set_cons_zero, List.set_cons_succ]
     refine Rk.take [8, 9, 10] (i := 3) (v := ?_) rfl (by kernel_rfl) (by kernel_rfl) (by kernel_rfl) (by kernel_rfl) (by kernel_rfl) (fun _ _ _ h => h) (Or.inl ⟨by kernel_rfl, ?_⟩) (by assumption) ?_
     rotate_left
     ·((intro w hSw; (try dsimp only at hSw); go_simp) <;> with_reducible rfl)
     try simp only [Act.put, List.setIfInBounds_toArray, List.set_cons_zero, List.set_cons_succ]
     refine Rk.takeP (i := 4) (v := ?_) rfl (by kernel_rfl) (by kernel_rfl) (by kernel_rfl) (by kernel_rfl) (fun _ _ _ h => h) (Or.inl ⟨by kernel_rfl, ?_⟩) (by assumption) ?_
     rotate_left
     ·((intro w hSw; go_simp) <;> with_reducible rfl)
     try simp only [Act.put, List.setIfInBounds_toArray, List.set_cons_zero, List.set_cons_succ]
     refine Rk.takeP (i := 5) (v := ?_) rfl (by kernel_rfl) (by kernel_rfl) (by kernel_rfl) (by kernel_rfl) (fun _ _ _ h => h) (Or.inl ⟨by kernel_rfl, ?_⟩) (by assumption) ?_
     rotate_left
     ·((intro w hSw; go_simp) <;> with_reducible rfl)
     try simp only [Act.put, List.setIfInBounds_toArray, List.set_cons_zero, List.set_cons_succ]
     refine Rk.take [7, 10] (i := 6) (v := ?_) rfl (by kernel_rfl) (by kernel_rfl) (by kernel_rfl) (by kernel_rfl) (by kernel_rfl) (fun _ _ _ h => h) (Or.inl ⟨by kernel_rfl, ?_⟩) (by assumption) ?_
     rotate_left
     ·((intro w hSw; (try dsimp only at hSw); go_simp) <;> with_reducible rfl)
     try simp only [Act.put, List.setIfInBounds_toArray, List.set_cons_zero, List.set_cons_succ]
     refine Rk.one (i := 7) (by kernel_rfl) rfl (fun KK hK => ?_)
     rw [if_pos (by kernel_rfl)]
     go_simp
     ((with_reducible refine (T1.out a f gf _ a1 a2 d4 d3 zd3 n1 n2).mono ?_); rintro e u ⟨rfl, hgu, hfu, hzu⟩)
     have hNew : u.cell? ⟨gr, 1, none⟩ = some vl /\ u.cell? ⟨gm, 0, none⟩ = some (.string s) /\ u.cell? ⟨gm, 1, none⟩ = some (.int .i64 a) := ⟨hgu.cell d2 (by simp; omega), hgu.cell d0 (by simp; omega), hgu.cell d1 (by simp; omega)⟩
     refine hK.out _ _ hNew (fun hHeld => ?_)
     clear hK KK
     refine Rk.takeP (i := 8) (v := ?_) rfl (by kernel_rfl) (by kernel_rfl) (by kernel_rfl) (by kernel_rfl) (fun _ _ _ h => h) (Or.inl ⟨by kernel_rfl, ?_⟩) (by assumption) ?_
     rotate_left
     ·((intro w hSw; go_simp) <;> with_reducible rfl)
     try simp only [Act.put, List.setIfInBounds_toArray, List.set_cons_zero, List.set_cons_succ]
     refine Rk.one (i := 9) (by kernel_rfl) rfl (fun KK hK => ?_)
     rw [if_pos (by kernel_rfl)]
     go_simp
     have BA := (Below.refl u.heap.size u).alloc (Nat.le_refl _) (Obj.cells #[Value.string s, Value.int .i64 (wrap64 (a * by'))] 59)
     refine hK.out _ _ ⟨kp BA (lt_of_cell hHeld.1) hHeld.1, kp BA (lt_of_cell hHeld.2.1) hHeld.2.1, kp BA (lt_of_cell hHeld.2.2) hHeld.2.2⟩ (fun hHeld => ?_)
     clear hK KK
     refine Rk.tail [10, 11, 12] [_, _, _] (by kernel_rfl) (by kernel_rfl) rfl (by decide) ?_
     have BU := (Below.refl u.heap.size u).alloc (Nat.le_refl _) (Obj.cells #[Value.string s, Value.int .i64 (wrap64 (a * by'))] 59)
     have FU := (Cl.cons hfu hzu ((FM.sub (L' := [(gr, 0, .int .i64 K0), (gr, 1, vl), (w.heap.size + 1, 0, .int .i64 by'), (w.heap.size + 1 + 1, 0, .int .i64 0), (w.heap.size + 1 + 1, 1, .slice none 0 0)]) (by intro x hx; simp only [List.mem_cons, List.not_mem_nil, or_false] at hx ⊢; rcases hx with h | h | h | h | h <;> simp [h])).grown hgu (by simp only [List.forall_mem_cons, ne_eq, Option.some.injEq]; simp; omega))).below BU
     have OU := (OM.out.kept hgu (own_ne OM.out (by omega))).alloc (Obj.cells #[Value.string s, Value.int .i64 (wrap64 (a * by'))] 59)
     have KU1 := below_grown BM hgu BM.size (by intro q hq; cases hq; omega)
     have KU := KU1.alloc KU1.size (Obj.cells #[Value.string s, Value.int .i64 (wrap64 (a * by'))] 59)
     have zU : gr < u.heap.size := Nat.lt_of_lt_of_le (lt_of_cell d2) hgu.size
     clear FM BM OM d0 d1 d2 d3 d4 zd2 zd3 hz hgu hfu hzu hHeld
     go_wp2_with (at_builtin; refine wpList_append_own _ rfl _ _ 22 rfl (gr + 1) 59 i0 (.agg #[.string ⟨#[]⟩, .int .i64 0]) 2 24 Tryd.underlying22 hi hz0 hz1 hz2 rfl (by decide) _ _ _ rfl OU ⟨u.heap.size, 0, none⟩ 1 1 [.string s, .int .i64 (wrap64 (a * by'))] rfl rfl ?_ ?_ ?_ ?_ ?_ ?_)
     ·intro q x hx
      rcases q with _ | _ | q
      ·cases hx; go_cell
      ·cases hx; go_cell
      ·simp at hx
     ·intro x hx
      simp at hx
      rcases hx with rfl | rfl <;> rfl
     ·unfold maxLen; omega
     ·omega
     ·simp; omega
     intro v' w4 hown' hgrow _
     have F4 := FU.own OU hgrow (by simp only [List.forall_mem_cons]; simp; omega)
     have K4 := KU.grown hgrow KU.size (fun q hq => by have := (OU.lt q hq).1; have := KU.size; omega)
     have hown2 : Hid (w4.ownsRow (gr + 1) 59 2 v' (j + 1) (moCs (sclV by' (xs.take (j + 1))))) := Lib.hid (by
      rw [htk.out, sclV, List.map_append, List.map_cons, List.map_nil, moCs_snoc]
      exact hown')
     have hf2 : Hid ((f && fit64 (a * by')) = (f0 && (xs.take (j + 1)).all fun m => fit64 (m.2 * by'))) := Lib.hid (by
      rw [htk.out, hf.out, List.all_append]
      simp [Bool.and_assoc])
     obtain ⟨q', c', rfl⟩ := own_slice hown2.out
     clear hown' hgrow FU OU KU KU1 BU hf htk hi hz0 hz1 hz2
     generalize (f && fit64 (a * by')) = f' at *
     have e0 := F4.head
     have e1 := F4.tail.head
     have ze1 := F4.tail.headF
     have e2 := F4.tail.tail.head
     have ze2 := F4.tail.tail.headF
     go_wp2
     go_roundw
     case rel => exact ⟨j + 1, .slice q' (j + 1) c', f', by go_num, by omega, K4.setCell (p := ⟨gr, 1, none⟩) (by show w.heap.size <= gr; omega) _, by rw [World.size_setCell]; exact lt_of_cell e2, Lib.hid (Cl.cons (by go_cell) (by first | go_cell | simp [World.frozen?_setCell, ze1]) (Cl.cons (by go_cell) (by first | go_cell | simp [World.frozen?_setCell, ze2]) (Cl.far (F4.sub (by intro x hx; simp only [List.mem_cons, List.not_mem_nil, or_false] at hx ⊢; rcases hx with h | h | h | h <;> simp [h])) (by simp only [List.forall_mem_cons]; simp; omega)))), Lib.hid (own_set hown2.out (by simp)), hf2⟩
     case measure => simp [intOf]; omega
    ·have j1 : ¬ (j : Int) < xs.length := by omega
     obtain rfl : j = xs.length := by omega
     have hO2 := hO.out
     have hf2 := hf.out
     rw [List.take_length] at hO2 hf2
     have F4 := hF.out
     clear hF hO hf
     have hlen : (sclV by' xs).length = xs.length := by unfold sclV; rw [List.length_map]
     cases f
     ·have HR := Lib.hid (HN.out (by
       unfold sclF
       rw [<- show (true && fit64 (k * by')) = fit64 (k * by') from Bool.true_and _, HF0.out, <- hf2]
       decide))
      clear hf2
      have e2 := F4.tail.tail.head
      have e4 := F4.tail.tail.tail.tail.head
      have ze4 := F4.tail.tail.tail.tail.headF
      have e5 := F4.tail.tail.tail.tail.tail.head
      have ze5 := F4.tail.tail.tail.tail.tail.headF
      go_wp2
      exact bodyPost_ret (v := .tuple #[.agg #[.int .i64 0, .slice none 0 0], .int .i64 3]) (by simp [results, Tryd.results61, go_sem, e4, e5]) rfl (by rw [HR.out]; exact LRk.zero rfl (below2 hB (by omega) _ _))
     ·have HR := Lib.hid (HY.out (by
       unfold sclF
       rw [<- show (true && fit64 (k * by')) = fit64 (k * by') from Bool.true_and _, HF0.out, <- hf2]))
      have HL := Lib.hid hlen
      clear hf2 hlen
      obtain ⟨q', c', rfl⟩ := own_slice hO2
      have e0 := F4.head
      have e1 := F4.tail.head
      have e2 := F4.tail.tail.head
      have e4 := F4.tail.tail.tail.tail.head
      have ze4 := F4.tail.tail.tail.tail.headF
      have e5 := F4.tail.tail.tail.tail.tail.head
      have ze5 := F4.tail.tail.tail.tail.tail.headF
      go_wp2
      have hOF := own_set (a := ⟨w.heap.size + 1 + 1, 1, none⟩) (y := .slice q' xs.length c') (own_set (a := ⟨w.heap.size + 1 + 1, 0, none⟩) (y := .int .i64 K0) hO2 (by simp; omega)) (by simp; omega)
      obtain ⟨q2, c2, he, hsl⟩ := own_sl' hOF HL.out.symm
      cases he
      exact bodyPost_ret (v := .tuple #[.agg #[.int .i64 K0, .slice q' xs.length c'], .int .i64 0]) (by simp [results, Tryd.results61, go_sem, e4, e5]) rfl (by rw [HR.out, HK0.out]; exact ⟨q', c', by rw [HL.out]; rfl, by rw [HL.out]; exact (own_k hOF).1, fun b o e => ⟨by have h9 := ((own_k hOF).2 b o e).1; omega, ((own_k hOF).2 b o e).2⟩, hsl, below2 hB (by omega) _ _⟩)
end Go.Proofs.YtbicmlkjonaccaaDoor.Ln
