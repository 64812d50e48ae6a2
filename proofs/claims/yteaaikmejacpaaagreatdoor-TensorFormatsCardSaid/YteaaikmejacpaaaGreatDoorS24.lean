/- Tensors: the statement on Set and At. -/
import Derived.Test.YteaaikmejacpaaaGreatDoorS23

namespace Go.Proofs.YteaaikmejacpaaaGreatDoor.Te
open Go.ChangeShapes Go.WideShapes Go.ChangeAt Go.RowKit
open Fx Va Sh
set_option maxRecDepth 8000
set_option linter.unusedVariables false
set_option linter.unusedSimpArgs false

theorem at_pt {K B F R O : Int} (p : Option Addr) {zs : List Int} (c : Nat) (q : Option Addr) {vs : List (Int × Int)} (d : Nat) (x : Option Addr) (e : Nat) (w : World) (b0 : -9223372036854775808 <= B) (b1 : B <= 9223372036854775807) (ht : tE K B F R O zs vs = 0) {i : Nat} (hi : i < vs.length) (RA : Hid (SlI w p zs)) (RB : Hid (SlV w q vs)) (RX : Hid (SlI w x (pt zs i))) :
  Calls Tryz.prog 24 #[Tn K B F R O p zs.length c q vs.length d, .slice x zs.length e] w fun en w' => en = .returned (.tuple #[.agg #[.int .i64 (vs.getD i (0, 0)).1, .int .i64 (vs.getD i (0, 0)).2], .int .i64 0]) /\ Below w.heap.size w w' := by
 obtain ⟨_, hv, hl, _⟩ := tE_ok ht
 obtain ⟨h6, _, _, hs, _⟩ := valid_of hv
 have h := tat K B F R O p zs c q vs d w b0 b1 (by unfold maxLen; omega) (by unfold maxLen; omega) RA RB x (pt zs i) e (by rw [pt_length]; unfold maxLen; omega) RX
 unfold atR at h
 rw [loc_pt ht hi] at h
 simp only [ne_eq, not_true_eq_false, if_false, Int.toNat_natCast, pt_length] at h
 exact h

set_option maxRecDepth 100000 in
set_option maxHeartbeats 2000000 in
theorem sg_e (K B F R O : Int) (p : Option Addr) (zs : List Int) (c : Nat) (q : Option Addr) (vs : List (Int × Int)) (d : Nat) (a a' : Int) (x : Option Addr) (xs : List Int) (e : Nat) (w : World) (b0 : -9223372036854775808 <= B) (b1 : B <= 9223372036854775807) (hn : zs.length <= maxLen) (hm : vs.length <= maxLen) (hx : xs.length <= maxLen) (RA : Hid (SlI w p zs)) (RB : Hid (SlV w q vs)) (RX : Hid (SlI w x xs)) (hLA : Tx.LA w) (hs : (decide ((vs.length : Int) <= 300) && decide (zs.length <= 20)) = true) (hl : ¬ 20 < xs.length) (ht : tE K B F R O zs vs = 0) (he : setE K B F R O zs vs xs a a' = 0) :
  Calls Tryz.prog 6 #[Tn K B F R O p zs.length c q vs.length d, .agg #[.int .i64 a, .int .i64 a'], .slice x xs.length e] w fun en w' => en = .returned (.bool true) /\ Below w.heap.size w w' := by
 have HLA := Lib.hid hLA
 have EX := Lib.hid fun u h => exam12 u h
 have SM0 := fun u => tsmall K B F R O p zs.length c q vs.length d 300 u
 rw [hs] at SM0
 have SM := Lib.hid SM0
 have RV0 := fun u h1 h2 => rval K B F R O p zs c q vs d u hn hm h1 h2
 rw [ht] at RV0
 have hloc : (loc K B F R O zs vs xs).2 = 0 := by
  unfold setE at he
  exact Classical.byContradiction fun h => by rw [if_pos h] at he; exact h he
 have hvv : vv K B F R O a a' = true := by
  unfold setE at he
  rw [if_neg (by simpa using hloc)] at he
  cases h : vv K B F R O a a'
  ·rw [h, if_pos rfl] at he; cases he
  ·rfl
 obtain ⟨k, hk⟩ : ∃ k, (loc K B F R O zs vs xs).1.toNat = k := ⟨_, rfl⟩
 have HIF := Lib.hid fun i (hi : i < vs.length) => loc_iff hloc hi
 rw [hk] at HIF
 have hkl : k < vs.length := by have := loc_bd hloc; omega
 have SET0 := fun u h1 h2 h3 => (tset K B F R O p zs c q vs d a a' u b0 b1 hn hm h1 h2 x xs e hx h3).mono (fun en u' h => (show TU K B F R O zs (vs.set k (a, a')) zs.length vs.length 0 u en u' from by
  rcases h with ⟨h, _⟩ | ⟨_, h⟩
  ·exact absurd he h
  ·rw [hk] at h; exact h.tu rfl (by rw [List.length_set])))
 unfold TU at SET0
 obtain ⟨hty, hv, hsl, hval⟩ := tE_ok ht
 obtain ⟨h6, hlow, -, hsp, -⟩ := valid_of hv
 have RPT := Lib.hid fun (i : Nat) (hi : (i : Int) < sp zs) u h => trpt p zs c i u hv hi h
 have ht2 := tE_set (k := k) ht hvv
 have AS0 := Lib.hid fun (i : Nat) (hi : i < vs.length) ps cs qs ds qq dd u h1 h2 h3 => at_pt (K := K) (B := B) (F := F) (R := R) (O := O) (zs := zs) (vs := vs.set k (a, a')) ps cs qs ds qq dd u b0 b1 ht2 (i := i) (by rw [List.length_set]; exact hi) h1 h2 h3
 rw [List.length_set] at AS0
 have AT0 := Lib.hid fun (i : Nat) (hi : i < vs.length) qq dd u h1 h2 h3 => at_pt (K := K) (B := B) (F := F) (R := R) (O := O) p c q d qq dd u b0 b1 ht (i := i) hi h1 h2 h3
 have IN0 := Lib.hid fun (i : Nat) qq dd u h1 h2 => (c18 x qq xs (pt zs i) e dd u hx (by rw [pt_length]; exact hn) h1 h2).mono (fun en w' h => (show en = .returned (.bool (decide (xs = pt zs i))) /\ Below u.heap.size u w' from by
  obtain ⟨h1, kk, rfl⟩ := h
  exact ⟨h1, below_drewN (Below.refl _ _) _⟩))
 have HGS := Lib.hid fun i (hi : i < vs.length) => (show ((vs.set k (a, a')).getD i (0, 0)) = if k = i then (a, a') else vs.getD i (0, 0) from by
  rw [List.getD_eq_getElem?_getD, List.getElem?_set]
  by_cases h : k = i
  ·rw [if_pos h, if_pos h, if_pos (by omega)]; rfl
  ·rw [if_neg h, if_neg h, List.getD_eq_getElem?_getD])
 have g1 : decide ((20 : Int) < xs.length) = false := by simp; omega
 have g2 : decide (20 < xs.length) = false := by simpa using hl
 obtain ⟨m, hmm⟩ : ∃ m, vs.length = m := ⟨_, rfl⟩
 have HSP := Lib.hid hsl
 have hm3 : m <= 4096 := by omega
 rw [hmm] at SM RV0 SET0 HIF AS0 AT0 HGS HSP ⊢
 have RVV := Lib.hid RV0
 have SET := Lib.hid SET0
 have KB : Hid (Below w.heap.size w ((w.alloc (Obj.cells #[Value.int .i64 K, Value.int .i64 B, Value.int .i64 F, Value.int .i64 R, Value.int .i64 O, Value.slice p zs.length c, Value.slice q m d] 27)).alloc (Obj.cells #[Value.int .i64 a, Value.int .i64 a'] 29))) := Lib.hid (((Below.refl _ _).alloc (Nat.le_refl _) _).alloc (by simp) _)
 have TB : Hid (B7 ((w.alloc (Obj.cells #[Value.int .i64 K, Value.int .i64 B, Value.int .i64 F, Value.int .i64 R, Value.int .i64 O, Value.slice p zs.length c, Value.slice q m d] 27)).alloc (Obj.cells #[Value.int .i64 a, Value.int .i64 a'] 29)) (w.heap.size) (.int .i64 K) (.int .i64 B) (.int .i64 F) (.int .i64 R) (.int .i64 O) (.slice p zs.length c) (.slice q m d)) := Lib.hid ((B7.new w _ (.int .i64 K) (.int .i64 B) (.int .i64 F) (.int .i64 R) (.int .i64 O) (.slice p zs.length c) (.slice q m d)).alloc _)
 have y0 : ((w.alloc (Obj.cells #[Value.int .i64 K, Value.int .i64 B, Value.int .i64 F, Value.int .i64 R, Value.int .i64 O, Value.slice p zs.length c, Value.slice q m d] 27)).alloc (Obj.cells #[Value.int .i64 a, Value.int .i64 a'] 29)).cell? ⟨w.heap.size + 1, 0, none⟩ = some (.int .i64 a) := by go_cell
 have y1 : ((w.alloc (Obj.cells #[Value.int .i64 K, Value.int .i64 B, Value.int .i64 F, Value.int .i64 R, Value.int .i64 O, Value.slice p zs.length c, Value.slice q m d] 27)).alloc (Obj.cells #[Value.int .i64 a, Value.int .i64 a'] 29)).cell? ⟨w.heap.size + 1, 1, none⟩ = some (.int .i64 a') := by go_cell
 clear hs SM0 hm hmm RV0 ht he SET0 hloc hvv hk hkl hty hv hsl hval h6 hlow hsp ht2 hl
 unfold Tn at *
 go_enter Tryz.func6, Tryz.ntmps6
 go_wp2_with (first | (go_at_call 14; (with_reducible refine (SM.out _).mono ?_); rintro e w1 ⟨rfl, hb⟩; have KN := KB.out.trans (hb.mono KB.out.size); have TN9 := B7.keep hb TB.out.lt TB.out; have yl := World.block_lt_of_cell? _ _ y0; have y0 := Rg.keep hb yl y0; have y1 := Rg.keep hb yl y1; have KB := Lib.hid KN; have TB := Lib.hid TN9; obtain ⟨⟨c0, c1, c2, c3, c4, c5, c6⟩, -⟩ := TB.out; have lt9 : w.heap.size < w1.heap.size := TB.out.lt; have ly9 : w.heap.size + 1 < w1.heap.size := World.block_lt_of_cell? _ _ y0; clear KN TN9 yl; clear hb) | (go_at_call 21; (with_reducible refine (RVV.out _ (Lib.hid (SlI.keep KB.out RA.out)) (Lib.hid (SlV.below RB.out KB.out))).mono ?_); rintro e w2 ⟨rfl, hb⟩; have KN := KB.out.trans (hb.mono KB.out.size); have TN9 := B7.keep hb TB.out.lt TB.out; have yl := World.block_lt_of_cell? _ _ y0; have y0 := Rg.keep hb yl y0; have y1 := Rg.keep hb yl y1; have KB := Lib.hid KN; have TB := Lib.hid TN9; obtain ⟨⟨c0, c1, c2, c3, c4, c5, c6⟩, -⟩ := TB.out; have lt9 : w.heap.size < w2.heap.size := TB.out.lt; have ly9 : w.heap.size + 1 < w2.heap.size := World.block_lt_of_cell? _ _ y0; clear KN TN9 yl; clear hb) | (go_at_call 23; (with_reducible refine (SET.out _ (Lib.hid (SlI.keep KB.out RA.out)) (Lib.hid (SlV.below RB.out KB.out)) (Lib.hid (SlI.keep KB.out RX.out))).mono ?_); rintro e w3 ⟨ps, cs, qs, ds, rfl, -, -, -, -, hsi, hsv, hb⟩; have KN := KB.out.trans (hb.mono KB.out.size); have TN9 := B7.keep hb TB.out.lt TB.out; have yl := World.block_lt_of_cell? _ _ y0; have y0 := Rg.keep hb yl y0; have y1 := Rg.keep hb yl y1; have KB := Lib.hid KN; have TB := Lib.hid TN9; obtain ⟨⟨c0, c1, c2, c3, c4, c5, c6⟩, -⟩ := TB.out; have lt9 : w.heap.size < w3.heap.size := TB.out.lt; have ly9 : w.heap.size + 1 < w3.heap.size := World.block_lt_of_cell? _ _ y0; clear KN TN9 yl; have HSI := Lib.hid hsi; have HSV := Lib.hid hsv; clear hb hsi hsv))
 have KBz := KB
 have TBz := TB
 have Yz := Lib.hid (And.intro y0 y1)
 repeat clear KB
 repeat clear TB
 repeat clear y0
 repeat clear y1
 have KB := KBz
 have TB := TBz
 obtain ⟨y0, y1⟩ := Yz.out
 clear KBz TBz Yz
 have W3 : Below w3.heap.size w3 (w3.alloc (Obj.cells #[Value.int .i64 K, Value.int .i64 B, Value.int .i64 F, Value.int .i64 R, Value.int .i64 O, Value.slice ps zs.length cs, Value.slice qs m ds] 27)) := (Below.refl _ _).alloc (Nat.le_refl _) _
 have KB9 := Lib.hid (KB.out.alloc KB.out.size (Obj.cells #[Value.int .i64 K, Value.int .i64 B, Value.int .i64 F, Value.int .i64 R, Value.int .i64 O, Value.slice ps zs.length cs, Value.slice qs m ds] 27))
 have TB9 := Lib.hid (TB.out.alloc (Obj.cells #[Value.int .i64 K, Value.int .i64 B, Value.int .i64 F, Value.int .i64 R, Value.int .i64 O, Value.slice ps zs.length cs, Value.slice qs m ds] 27))
 have SB9 : Hid (B7 (w3.alloc (Obj.cells #[Value.int .i64 K, Value.int .i64 B, Value.int .i64 F, Value.int .i64 R, Value.int .i64 O, Value.slice ps zs.length cs, Value.slice qs m ds] 27)) (w3.heap.size) (.int .i64 K) (.int .i64 B) (.int .i64 F) (.int .i64 R) (.int .i64 O) (.slice ps zs.length cs) (.slice qs m ds)) := Lib.hid (B7.new w3 _ (.int .i64 K) (.int .i64 B) (.int .i64 F) (.int .i64 R) (.int .i64 O) (.slice ps zs.length cs) (.slice qs m ds))
 have yl9 := World.block_lt_of_cell? _ _ y0
 have Y9 : Hid ((w3.alloc (Obj.cells #[Value.int .i64 K, Value.int .i64 B, Value.int .i64 F, Value.int .i64 R, Value.int .i64 O, Value.slice ps zs.length cs, Value.slice qs m ds] 27)).cell? ⟨w.heap.size + 1, 0, none⟩ = some (.int .i64 a) /\ (w3.alloc (Obj.cells #[Value.int .i64 K, Value.int .i64 B, Value.int .i64 F, Value.int .i64 R, Value.int .i64 O, Value.slice ps zs.length cs, Value.slice qs m ds] 27)).cell? ⟨w.heap.size + 1, 1, none⟩ = some (.int .i64 a')) := Lib.hid ⟨Rg.keep W3 yl9 y0, Rg.keep W3 yl9 y1⟩
 have K39 := Lib.hid W3
 go_loopw [9] (fun iv wr => ∃ i : Nat, iv = .int .i64 (i : Int) /\ i <= m /\ Hid (Below w.heap.size w wr) /\ Hid (Below w3.heap.size w3 wr) /\ Hid (B7 wr (w.heap.size) (.int .i64 K) (.int .i64 B) (.int .i64 F) (.int .i64 R) (.int .i64 O) (.slice p zs.length c) (.slice q m d)) /\ Hid (B7 wr (w3.heap.size) (.int .i64 K) (.int .i64 B) (.int .i64 F) (.int .i64 R) (.int .i64 O) (.slice ps zs.length cs) (.slice qs m ds)) /\ Hid (wr.cell? ⟨w.heap.size + 1, 0, none⟩ = some (.int .i64 a) /\ wr.cell? ⟨w.heap.size + 1, 1, none⟩ = some (.int .i64 a'))) (fun iv _ => m - (intOf iv).toNat)
 case atStart => exact ⟨0, rfl, Nat.zero_le _, KB9, K39, TB9, SB9, Y9⟩
 case round =>
  obtain ⟨i, rfl, hi, KBr, K3r, TBr, SBr, Yr⟩ := hrel
  clear KB9 K39 TB9 SB9 Y9 W3 yl9 y0 y1 c0 c1 c2 c3 c4 c5 c6 lt9 ly9 KB TB SET RVV SM
  have KB := KBr
  have K3 := K3r
  have TB := TBr
  have SB := SBr
  obtain ⟨y0, y1⟩ := Yr.out
  obtain ⟨⟨c0, c1, c2, c3, c4, c5, c6⟩, -⟩ := TB.out
  obtain ⟨⟨s0, s1, s2, s3, s4, s5, s6⟩, -⟩ := SB.out
  have lt9 : w.heap.size < wr.heap.size := TB.out.lt
  have ly9 : w.heap.size + 1 < wr.heap.size := World.block_lt_of_cell? _ _ y0
  have ls9 : w3.heap.size < wr.heap.size := SB.out.lt
  by_cases him : i < m
  ·have hi2 : (i : Int) < m := by omega
   have hi0 : (0 : Int) <= i := by omega
   have hi4 : (i : Int) < 4096 := by omega
   have hi9 : Hid ((i : Int) < sp zs) := Lib.hid (by rw [<- HSP.out]; exact hi2)
   have AS := Lib.hid (AS0.out i him)
   have AT := Lib.hid (AT0.out i him)
   have IN := Lib.hid (IN0.out i)
   have hgs := HGS.out i him
   have hif := HIF.out i him
   obtain ⟨⟨t1, t2⟩, hs⟩ : ∃ s, vs.getD i (0, 0) = s := ⟨_, rfl⟩
   rw [hs] at AT hgs
   rw [pt_length] at IN
   obtain ⟨r, hr⟩ : ∃ r, (vs.set k (a, a')).getD i (0, 0) = r := ⟨_, rfl⟩
   rw [hr] at AS hgs
   clear hs hr KBr K3r TBr SBr Yr
   by_cases hxe : xs = pt zs i
   ·have hki : k = i := hif.1 hxe
    rw [if_pos hki] at hgs
    rw [decide_eq_true hxe] at IN
    subst hgs
    clear hxe hki hif
    unfold Tn at *
    go_wp2_with (first | (go_at_call 27; (with_reducible refine (RPT.out i hi9.out _ (Lib.hid (SlI.keep KB.out RA.out))).mono ?_); rintro e w4 ⟨qq, dd, rfl, hq4, hb⟩; have hW : Below wr.heap.size wr wr := Below.refl _ _; have hX := hW.trans (hb.mono hW.size); have KN := Lib.hid (KB.out.trans (hX.mono KB.out.size)); have K3N := Lib.hid (K3.out.trans (hX.mono K3.out.size)); have TN9 := Lib.hid (B7.keep hX TB.out.lt TB.out); have SN9 := Lib.hid (B7.keep hX SB.out.lt SB.out); have yl := World.block_lt_of_cell? _ _ y0; have yy0 := Rg.keep hX yl y0; have yy1 := Rg.keep hX yl y1; have KB := KN; have K3 := K3N; have TB := TN9; have SB := SN9; have y0 := yy0; have y1 := yy1; obtain ⟨⟨c0, c1, c2, c3, c4, c5, c6⟩, -⟩ := TB.out; obtain ⟨⟨s0, s1, s2, s3, s4, s5, s6⟩, -⟩ := SB.out; have lt9 : w.heap.size < w4.heap.size := TB.out.lt; have ly9 : w.heap.size + 1 < w4.heap.size := World.block_lt_of_cell? _ _ y0; have ls9 : w3.heap.size < w4.heap.size := SB.out.lt; have HQ4 := Lib.hid hq4; have K4 := Lib.hid (Below.refl w4.heap.size w4); clear hb hW hX hq4 KN K3N TN9 SN9 yy0 yy1) | (go_at_call 24; (with_reducible refine (AS.out ps cs qs ds qq dd _ (Lib.hid (SlI.keep K3.out HSI.out)) (Lib.hid (SlV.below HSV.out K3.out)) (Lib.hid (SlI.keep K4.out HQ4.out))).mono ?_); rintro e w5 ⟨rfl, hb⟩; have hW : Below w4.heap.size w4 w4 := Below.refl _ _; have hX := hW.trans (hb.mono hW.size); have KN := Lib.hid (KB.out.trans (hX.mono KB.out.size)); have K3N := Lib.hid (K3.out.trans (hX.mono K3.out.size)); have TN9 := Lib.hid (B7.keep hX TB.out.lt TB.out); have SN9 := Lib.hid (B7.keep hX SB.out.lt SB.out); have yl := World.block_lt_of_cell? _ _ y0; have yy0 := Rg.keep hX yl y0; have yy1 := Rg.keep hX yl y1; have KB := KN; have K3 := K3N; have TB := TN9; have SB := SN9; have y0 := yy0; have y1 := yy1; obtain ⟨⟨c0, c1, c2, c3, c4, c5, c6⟩, -⟩ := TB.out; obtain ⟨⟨s0, s1, s2, s3, s4, s5, s6⟩, -⟩ := SB.out; have lt9 : w.heap.size < w5.heap.size := TB.out.lt; have ly9 : w.heap.size + 1 < w5.heap.size := World.block_lt_of_cell? _ _ y0; have ls9 : w3.heap.size < w5.heap.size := SB.out.lt; have K4 := Lib.hid (K4.out.trans (hX.mono K4.out.size)); clear hb hW hX KN K3N TN9 SN9 yy0 yy1) | (go_at_call 24; have K4a := K4.out.alloc K4.out.size (Obj.cells #[Value.int .i64 a, Value.int .i64 a'] 29); have KBa := KB.out.alloc KB.out.size (Obj.cells #[Value.int .i64 a, Value.int .i64 a'] 29); (with_reducible refine (AT.out qq dd _ (Lib.hid (SlI.keep KBa RA.out)) (Lib.hid (SlV.below RB.out KBa)) (Lib.hid (SlI.keep K4a HQ4.out))).mono ?_); rintro e w6 ⟨rfl, hb⟩; have hW : Below w5.heap.size w5 (w5.alloc (Obj.cells #[Value.int .i64 a, Value.int .i64 a'] 29)) := (Below.refl _ _).alloc (Nat.le_refl _) _; have hX := hW.trans (hb.mono hW.size); have n0 : w6.cell? ⟨w5.heap.size, 0, none⟩ = some (.int .i64 a) := Rg.keep hb (by first | omega | (simp; omega) | (simp; done)) (by go_cell); have n1 : w6.cell? ⟨w5.heap.size, 1, none⟩ = some (.int .i64 a') := Rg.keep hb (by first | omega | (simp; omega) | (simp; done)) (by go_cell); have KN := Lib.hid (KB.out.trans (hX.mono KB.out.size)); have K3N := Lib.hid (K3.out.trans (hX.mono K3.out.size)); have TN9 := Lib.hid (B7.keep hX TB.out.lt TB.out); have SN9 := Lib.hid (B7.keep hX SB.out.lt SB.out); have yl := World.block_lt_of_cell? _ _ y0; have yy0 := Rg.keep hX yl y0; have yy1 := Rg.keep hX yl y1; have KB := KN; have K3 := K3N; have TB := TN9; have SB := SN9; have y0 := yy0; have y1 := yy1; obtain ⟨⟨c0, c1, c2, c3, c4, c5, c6⟩, -⟩ := TB.out; obtain ⟨⟨s0, s1, s2, s3, s4, s5, s6⟩, -⟩ := SB.out; have lt9 : w.heap.size < w6.heap.size := TB.out.lt; have ly9 : w.heap.size + 1 < w6.heap.size := World.block_lt_of_cell? _ _ y0; have ls9 : w3.heap.size < w6.heap.size := SB.out.lt; have K4 := Lib.hid (K4.out.trans (hX.mono K4.out.size)); have ln9 : w5.heap.size < w6.heap.size := World.block_lt_of_cell? _ _ n0; clear hb hW hX KN K3N TN9 SN9 yy0 yy1 K4a KBa) | (go_at_call 28; have K4a := K4.out.alloc K4.out.size (Obj.cells #[Value.int .i64 t1, Value.int .i64 t2] 29); have KBa := KB.out.alloc KB.out.size (Obj.cells #[Value.int .i64 t1, Value.int .i64 t2] 29); (with_reducible refine (IN.out qq dd _ (Lib.hid (SlI.keep KBa RX.out)) (Lib.hid (SlI.keep K4a HQ4.out))).mono ?_); rintro e w7 ⟨rfl, hb⟩; have hW : Below w6.heap.size w6 (w6.alloc (Obj.cells #[Value.int .i64 t1, Value.int .i64 t2] 29)) := (Below.refl _ _).alloc (Nat.le_refl _) _; have hX := hW.trans (hb.mono hW.size); have n0 : w7.cell? ⟨w5.heap.size, 0, none⟩ = some (.int .i64 a) := Rg.keep hb (by first | omega | (simp; omega) | (simp; done)) (by go_cell); have n1 : w7.cell? ⟨w5.heap.size, 1, none⟩ = some (.int .i64 a') := Rg.keep hb (by first | omega | (simp; omega) | (simp; done)) (by go_cell); have o0 : w7.cell? ⟨w6.heap.size, 0, none⟩ = some (.int .i64 t1) := Rg.keep hb (by first | omega | (simp; omega) | (simp; done)) (by go_cell); have o1 : w7.cell? ⟨w6.heap.size, 1, none⟩ = some (.int .i64 t2) := Rg.keep hb (by first | omega | (simp; omega) | (simp; done)) (by go_cell); have KN := Lib.hid (KB.out.trans (hX.mono KB.out.size)); have K3N := Lib.hid (K3.out.trans (hX.mono K3.out.size)); have TN9 := Lib.hid (B7.keep hX TB.out.lt TB.out); have SN9 := Lib.hid (B7.keep hX SB.out.lt SB.out); have yl := World.block_lt_of_cell? _ _ y0; have yy0 := Rg.keep hX yl y0; have yy1 := Rg.keep hX yl y1; have KB := KN; have K3 := K3N; have TB := TN9; have SB := SN9; have y0 := yy0; have y1 := yy1; obtain ⟨⟨c0, c1, c2, c3, c4, c5, c6⟩, -⟩ := TB.out; obtain ⟨⟨s0, s1, s2, s3, s4, s5, s6⟩, -⟩ := SB.out; have lt9 : w.heap.size < w7.heap.size := TB.out.lt; have ly9 : w.heap.size + 1 < w7.heap.size := World.block_lt_of_cell? _ _ y0; have ls9 : w3.heap.size < w7.heap.size := SB.out.lt; have K4 := Lib.hid (K4.out.trans (hX.mono K4.out.size)); have ln9 : w5.heap.size < w7.heap.size := World.block_lt_of_cell? _ _ n0; have lo9 : w6.heap.size < w7.heap.size := World.block_lt_of_cell? _ _ o0; clear hb hW hX KN K3N TN9 SN9 yy0 yy1 K4a KBa) | (go_at_call 28; (with_reducible refine (IN.out qq dd _ (Lib.hid (SlI.keep KB.out RX.out)) (Lib.hid (SlI.keep K4.out HQ4.out))).mono ?_); rintro e w8 ⟨rfl, hb⟩; have hW : Below w7.heap.size w7 w7 := Below.refl _ _; have hX := hW.trans (hb.mono hW.size); have n0 : w8.cell? ⟨w5.heap.size, 0, none⟩ = some (.int .i64 a) := Rg.keep hb (by first | omega | (simp; omega) | (simp; done)) (by go_cell); have n1 : w8.cell? ⟨w5.heap.size, 1, none⟩ = some (.int .i64 a') := Rg.keep hb (by first | omega | (simp; omega) | (simp; done)) (by go_cell); have o0 : w8.cell? ⟨w6.heap.size, 0, none⟩ = some (.int .i64 t1) := Rg.keep hb (by first | omega | (simp; omega) | (simp; done)) (by go_cell); have o1 : w8.cell? ⟨w6.heap.size, 1, none⟩ = some (.int .i64 t2) := Rg.keep hb (by first | omega | (simp; omega) | (simp; done)) (by go_cell); have KN := Lib.hid (KB.out.trans (hX.mono KB.out.size)); have K3N := Lib.hid (K3.out.trans (hX.mono K3.out.size)); have TN9 := Lib.hid (B7.keep hX TB.out.lt TB.out); have SN9 := Lib.hid (B7.keep hX SB.out.lt SB.out); have yl := World.block_lt_of_cell? _ _ y0; have yy0 := Rg.keep hX yl y0; have yy1 := Rg.keep hX yl y1; have KB := KN; have K3 := K3N; have TB := TN9; have SB := SN9; have y0 := yy0; have y1 := yy1; obtain ⟨⟨c0, c1, c2, c3, c4, c5, c6⟩, -⟩ := TB.out; obtain ⟨⟨s0, s1, s2, s3, s4, s5, s6⟩, -⟩ := SB.out; have lt9 : w.heap.size < w8.heap.size := TB.out.lt; have ly9 : w.heap.size + 1 < w8.heap.size := World.block_lt_of_cell? _ _ y0; have ls9 : w3.heap.size < w8.heap.size := SB.out.lt; clear hb hW hX KN K3N TN9 SN9 yy0 yy1))
    go_roundw
    case rel => exact ⟨i + 1, by simp, by omega, KB, K3, TB, SB, Lib.hid ⟨y0, y1⟩⟩
    case measure => simp [intOf]; omega
   ·have hki : ¬ k = i := fun h => hxe (hif.2 h)
    rw [if_neg hki] at hgs
    rw [decide_eq_false hxe] at IN
    subst hgs
    clear hxe hki hif
    unfold Tn at *
    go_wp2_with (first | (go_at_call 27; (with_reducible refine (RPT.out i hi9.out _ (Lib.hid (SlI.keep KB.out RA.out))).mono ?_); rintro e w4 ⟨qq, dd, rfl, hq4, hb⟩; have hW : Below wr.heap.size wr wr := Below.refl _ _; have hX := hW.trans (hb.mono hW.size); have KN := Lib.hid (KB.out.trans (hX.mono KB.out.size)); have K3N := Lib.hid (K3.out.trans (hX.mono K3.out.size)); have TN9 := Lib.hid (B7.keep hX TB.out.lt TB.out); have SN9 := Lib.hid (B7.keep hX SB.out.lt SB.out); have yl := World.block_lt_of_cell? _ _ y0; have yy0 := Rg.keep hX yl y0; have yy1 := Rg.keep hX yl y1; have KB := KN; have K3 := K3N; have TB := TN9; have SB := SN9; have y0 := yy0; have y1 := yy1; obtain ⟨⟨c0, c1, c2, c3, c4, c5, c6⟩, -⟩ := TB.out; obtain ⟨⟨s0, s1, s2, s3, s4, s5, s6⟩, -⟩ := SB.out; have lt9 : w.heap.size < w4.heap.size := TB.out.lt; have ly9 : w.heap.size + 1 < w4.heap.size := World.block_lt_of_cell? _ _ y0; have ls9 : w3.heap.size < w4.heap.size := SB.out.lt; have HQ4 := Lib.hid hq4; have K4 := Lib.hid (Below.refl w4.heap.size w4); clear hb hW hX hq4 KN K3N TN9 SN9 yy0 yy1) | (go_at_call 24; (with_reducible refine (AS.out ps cs qs ds qq dd _ (Lib.hid (SlI.keep K3.out HSI.out)) (Lib.hid (SlV.below HSV.out K3.out)) (Lib.hid (SlI.keep K4.out HQ4.out))).mono ?_); rintro e w5 ⟨rfl, hb⟩; have hW : Below w4.heap.size w4 w4 := Below.refl _ _; have hX := hW.trans (hb.mono hW.size); have KN := Lib.hid (KB.out.trans (hX.mono KB.out.size)); have K3N := Lib.hid (K3.out.trans (hX.mono K3.out.size)); have TN9 := Lib.hid (B7.keep hX TB.out.lt TB.out); have SN9 := Lib.hid (B7.keep hX SB.out.lt SB.out); have yl := World.block_lt_of_cell? _ _ y0; have yy0 := Rg.keep hX yl y0; have yy1 := Rg.keep hX yl y1; have KB := KN; have K3 := K3N; have TB := TN9; have SB := SN9; have y0 := yy0; have y1 := yy1; obtain ⟨⟨c0, c1, c2, c3, c4, c5, c6⟩, -⟩ := TB.out; obtain ⟨⟨s0, s1, s2, s3, s4, s5, s6⟩, -⟩ := SB.out; have lt9 : w.heap.size < w5.heap.size := TB.out.lt; have ly9 : w.heap.size + 1 < w5.heap.size := World.block_lt_of_cell? _ _ y0; have ls9 : w3.heap.size < w5.heap.size := SB.out.lt; have K4 := Lib.hid (K4.out.trans (hX.mono K4.out.size)); clear hb hW hX KN K3N TN9 SN9 yy0 yy1) | (go_at_call 24; have K4a := K4.out.alloc K4.out.size (Obj.cells #[Value.int .i64 t1, Value.int .i64 t2] 29); have KBa := KB.out.alloc KB.out.size (Obj.cells #[Value.int .i64 t1, Value.int .i64 t2] 29); (with_reducible refine (AT.out qq dd _ (Lib.hid (SlI.keep KBa RA.out)) (Lib.hid (SlV.below RB.out KBa)) (Lib.hid (SlI.keep K4a HQ4.out))).mono ?_); rintro e w6 ⟨rfl, hb⟩; have hW : Below w5.heap.size w5 (w5.alloc (Obj.cells #[Value.int .i64 t1, Value.int .i64 t2] 29)) := (Below.refl _ _).alloc (Nat.le_refl _) _; have hX := hW.trans (hb.mono hW.size); have n0 : w6.cell? ⟨w5.heap.size, 0, none⟩ = some (.int .i64 t1) := Rg.keep hb (by first | omega | (simp; omega) | (simp; done)) (by go_cell); have n1 : w6.cell? ⟨w5.heap.size, 1, none⟩ = some (.int .i64 t2) := Rg.keep hb (by first | omega | (simp; omega) | (simp; done)) (by go_cell); have KN := Lib.hid (KB.out.trans (hX.mono KB.out.size)); have K3N := Lib.hid (K3.out.trans (hX.mono K3.out.size)); have TN9 := Lib.hid (B7.keep hX TB.out.lt TB.out); have SN9 := Lib.hid (B7.keep hX SB.out.lt SB.out); have yl := World.block_lt_of_cell? _ _ y0; have yy0 := Rg.keep hX yl y0; have yy1 := Rg.keep hX yl y1; have KB := KN; have K3 := K3N; have TB := TN9; have SB := SN9; have y0 := yy0; have y1 := yy1; obtain ⟨⟨c0, c1, c2, c3, c4, c5, c6⟩, -⟩ := TB.out; obtain ⟨⟨s0, s1, s2, s3, s4, s5, s6⟩, -⟩ := SB.out; have lt9 : w.heap.size < w6.heap.size := TB.out.lt; have ly9 : w.heap.size + 1 < w6.heap.size := World.block_lt_of_cell? _ _ y0; have ls9 : w3.heap.size < w6.heap.size := SB.out.lt; have K4 := Lib.hid (K4.out.trans (hX.mono K4.out.size)); have ln9 : w5.heap.size < w6.heap.size := World.block_lt_of_cell? _ _ n0; clear hb hW hX KN K3N TN9 SN9 yy0 yy1 K4a KBa) | (go_at_call 28; have K4a := K4.out.alloc K4.out.size (Obj.cells #[Value.int .i64 t1, Value.int .i64 t2] 29); have KBa := KB.out.alloc KB.out.size (Obj.cells #[Value.int .i64 t1, Value.int .i64 t2] 29); (with_reducible refine (IN.out qq dd _ (Lib.hid (SlI.keep KBa RX.out)) (Lib.hid (SlI.keep K4a HQ4.out))).mono ?_); rintro e w7 ⟨rfl, hb⟩; have hW : Below w6.heap.size w6 (w6.alloc (Obj.cells #[Value.int .i64 t1, Value.int .i64 t2] 29)) := (Below.refl _ _).alloc (Nat.le_refl _) _; have hX := hW.trans (hb.mono hW.size); have n0 : w7.cell? ⟨w5.heap.size, 0, none⟩ = some (.int .i64 t1) := Rg.keep hb (by first | omega | (simp; omega) | (simp; done)) (by go_cell); have n1 : w7.cell? ⟨w5.heap.size, 1, none⟩ = some (.int .i64 t2) := Rg.keep hb (by first | omega | (simp; omega) | (simp; done)) (by go_cell); have o0 : w7.cell? ⟨w6.heap.size, 0, none⟩ = some (.int .i64 t1) := Rg.keep hb (by first | omega | (simp; omega) | (simp; done)) (by go_cell); have o1 : w7.cell? ⟨w6.heap.size, 1, none⟩ = some (.int .i64 t2) := Rg.keep hb (by first | omega | (simp; omega) | (simp; done)) (by go_cell); have KN := Lib.hid (KB.out.trans (hX.mono KB.out.size)); have K3N := Lib.hid (K3.out.trans (hX.mono K3.out.size)); have TN9 := Lib.hid (B7.keep hX TB.out.lt TB.out); have SN9 := Lib.hid (B7.keep hX SB.out.lt SB.out); have yl := World.block_lt_of_cell? _ _ y0; have yy0 := Rg.keep hX yl y0; have yy1 := Rg.keep hX yl y1; have KB := KN; have K3 := K3N; have TB := TN9; have SB := SN9; have y0 := yy0; have y1 := yy1; obtain ⟨⟨c0, c1, c2, c3, c4, c5, c6⟩, -⟩ := TB.out; obtain ⟨⟨s0, s1, s2, s3, s4, s5, s6⟩, -⟩ := SB.out; have lt9 : w.heap.size < w7.heap.size := TB.out.lt; have ly9 : w.heap.size + 1 < w7.heap.size := World.block_lt_of_cell? _ _ y0; have ls9 : w3.heap.size < w7.heap.size := SB.out.lt; have K4 := Lib.hid (K4.out.trans (hX.mono K4.out.size)); have ln9 : w5.heap.size < w7.heap.size := World.block_lt_of_cell? _ _ n0; have lo9 : w6.heap.size < w7.heap.size := World.block_lt_of_cell? _ _ o0; clear hb hW hX KN K3N TN9 SN9 yy0 yy1 K4a KBa) | (go_at_call 28; (with_reducible refine (IN.out qq dd _ (Lib.hid (SlI.keep KB.out RX.out)) (Lib.hid (SlI.keep K4.out HQ4.out))).mono ?_); rintro e w8 ⟨rfl, hb⟩; have hW : Below w7.heap.size w7 w7 := Below.refl _ _; have hX := hW.trans (hb.mono hW.size); have n0 : w8.cell? ⟨w5.heap.size, 0, none⟩ = some (.int .i64 t1) := Rg.keep hb (by first | omega | (simp; omega) | (simp; done)) (by go_cell); have n1 : w8.cell? ⟨w5.heap.size, 1, none⟩ = some (.int .i64 t2) := Rg.keep hb (by first | omega | (simp; omega) | (simp; done)) (by go_cell); have o0 : w8.cell? ⟨w6.heap.size, 0, none⟩ = some (.int .i64 t1) := Rg.keep hb (by first | omega | (simp; omega) | (simp; done)) (by go_cell); have o1 : w8.cell? ⟨w6.heap.size, 1, none⟩ = some (.int .i64 t2) := Rg.keep hb (by first | omega | (simp; omega) | (simp; done)) (by go_cell); have KN := Lib.hid (KB.out.trans (hX.mono KB.out.size)); have K3N := Lib.hid (K3.out.trans (hX.mono K3.out.size)); have TN9 := Lib.hid (B7.keep hX TB.out.lt TB.out); have SN9 := Lib.hid (B7.keep hX SB.out.lt SB.out); have yl := World.block_lt_of_cell? _ _ y0; have yy0 := Rg.keep hX yl y0; have yy1 := Rg.keep hX yl y1; have KB := KN; have K3 := K3N; have TB := TN9; have SB := SN9; have y0 := yy0; have y1 := yy1; obtain ⟨⟨c0, c1, c2, c3, c4, c5, c6⟩, -⟩ := TB.out; obtain ⟨⟨s0, s1, s2, s3, s4, s5, s6⟩, -⟩ := SB.out; have lt9 : w.heap.size < w8.heap.size := TB.out.lt; have ly9 : w.heap.size + 1 < w8.heap.size := World.block_lt_of_cell? _ _ y0; have ls9 : w3.heap.size < w8.heap.size := SB.out.lt; clear hb hW hX KN K3N TN9 SN9 yy0 yy1))
    go_roundw
    case rel => exact ⟨i + 1, by simp, by omega, KB, K3, TB, SB, Lib.hid ⟨y0, y1⟩⟩
    case measure => simp [intOf]; omega
  ·obtain rfl : i = m := by omega
   have gN : decide ((i : Int) < (i : Int)) = false := by simp
   clear hi
   go_wp2_with (first | (go_at_call 15; (with_reducible refine (EX.out _ (HLA.out.below KB.out)).mono ?_); rintro e wX ⟨rfl, hb⟩; have KX := Lib.hid (KB.out.trans (hb.mono KB.out.size)); clear hb))
   go_ret
   exact ⟨rfl, KX.out⟩
end Go.Proofs.YteaaikmejacpaaaGreatDoor.Te


namespace Go.Proofs.YteaaikmejacpaaaGreatDoor.Te
open Go.ChangeShapes Go.WideShapes Go.ChangeAt Go.RowKit
open Fx Va Sh
set_option maxRecDepth 8000
set_option linter.unusedVariables false
set_option linter.unusedSimpArgs false

set_option maxRecDepth 100000 in
set_option maxHeartbeats 2000000 in
theorem law_sg (K B F R O : Int) (p : Option Addr) (zs : List Int) (c : Nat) (q : Option Addr) (vs : List (Int × Int)) (d : Nat) (a a' : Int) (x : Option Addr) (xs : List Int) (e : Nat) (w : World) (b0 : -9223372036854775808 <= B) (b1 : B <= 9223372036854775807) (hn : zs.length <= maxLen) (hm : vs.length <= maxLen) (hx : xs.length <= maxLen) (RA : Hid (SlI w p zs)) (RB : Hid (SlV w q vs)) (RX : Hid (SlI w x xs)) (hLA : Tx.LA w)  :
  Calls Tryz.prog 6 #[Tn K B F R O p zs.length c q vs.length d, .agg #[.int .i64 a, .int .i64 a'], .slice x xs.length e] w fun en w' => en = .returned (.bool true) /\ Below w.heap.size w w' := by
 cases hs : (decide ((vs.length : Int) <= 300) && decide (zs.length <= 20))
 ·exact sg_a K B F R O p zs c q vs d a a' x xs e w b0 b1 hn hm hx RA RB RX hLA hs
 ·by_cases hl : 20 < xs.length
  ·exact sg_b K B F R O p zs c q vs d a a' x xs e w b0 b1 hn hm hx RA RB RX hLA hs hl
  ·by_cases ht : tE K B F R O zs vs = 0
   ·by_cases he : setE K B F R O zs vs xs a a' = 0
    ·exact sg_e K B F R O p zs c q vs d a a' x xs e w b0 b1 hn hm hx RA RB RX hLA hs hl ht he
    ·exact sg_d K B F R O p zs c q vs d a a' x xs e w b0 b1 hn hm hx RA RB RX hLA hs hl ht he
   ·exact sg_c K B F R O p zs c q vs d a a' x xs e w b0 b1 hn hm hx RA RB RX hLA hs hl ht
end Go.Proofs.YteaaikmejacpaaaGreatDoor.Te
