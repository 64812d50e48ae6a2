/- Tensors: Set at a valid element. -/
import Derived.Test.YteaaikmejacpaaaGreatDoorS14
import Derived.Deep.Cut
import Derived.Test.YteaaikmejacpaaaGreatDoorS10
import Derived.Shelf.LaysM
import Derived.Ground.Names2Prog
import Derived.Shelf.Slices.Delete
import Derived.Test.YteaaikmejacpaaaGreatDoorProg
import Derived.Test.YteaaikmejacpaaaGreatDoorS12
import Derived.Lib.OwnBridge

namespace Go.Proofs.YteaaikmejacpaaaGreatDoor.Te
open Go.ChangeShapes Go.WideShapes Go.ChangeAt Go.RowKit
open Fx Va Sh
set_option maxRecDepth 8000
set_option linter.unusedVariables false
set_option linter.unusedSimpArgs false

theorem own_at {u : World} {B n c : Nat} {q : Option Addr} {xs : List Value} (h : u.ownsRow B 29 2 (.slice q n c) n xs) (hn : 1 <= n) : ∃ g, q = some ⟨g, 0, none⟩ /\ B <= g /\ g < u.heap.size := by
 rcases h.2 with ⟨hv, h0⟩ | ⟨g, cap, cur, hv, hb, hh, r⟩
 ·omega
 ·cases hv
  refine ⟨g, rfl, hb, ?_⟩
  rcases Nat.lt_or_ge g u.heap.size with h1 | h1
  ·exact h1
  ·rw [Array.getElem?_eq_none h1] at hh; cases hh

theorem two_store {u w0 : World} {A B1 B2 n1 n g c : Nat} {v1 : Value} {xs1 xs2 : List Value} (h1 : u.ownsRow B1 3 1 v1 n1 xs1) (h2 : u.ownsRow B2 29 2 (.slice (some ⟨g, 0, none⟩) n c) n xs2) (hb : Below A w0 u) (hg : A <= g) (i j : Nat) (x y : Value) :
  ∃ u4, (u.setCell ⟨g, i, none⟩ x).setCell ⟨g, j, none⟩ y = u4 /\ u4.heap.size = u.heap.size /\ u4.ownsRow B1 3 1 v1 n1 xs1 /\ u4.ownsRow B2 29 2 (.slice (some ⟨g, 0, none⟩) n c) n ((xs2.set i x).set j y) /\ Below A w0 u4 /\ (∀ b o, b ≠ g -> u4.cell? ⟨b, o, none⟩ = u.cell? ⟨b, o, none⟩) /\ (∀ b o, u4.frozen? ⟨b, o, none⟩ = u.frozen? ⟨b, o, none⟩) := by
 refine ⟨_, rfl, by rw [World.size_setCell, World.size_setCell], ?_, ?_, ?_, ?_, ?_⟩
 ·have k1 := h1.kept (h2.stored i x).2 (own_two h1 h2)
  have k2 := (h2.stored i x).1
  exact k1.kept (k2.stored j y).2 (own_two k1 k2)
 ·exact ((h2.stored i x).1.stored j y).1
 ·exact (hb.setCell (p := ⟨g, i, none⟩) hg x).setCell (p := ⟨g, j, none⟩) hg y
 ·intro b o hne
  rw [World.cell?_setCell_far _ _ _ _ (Ne.symm hne), World.cell?_setCell_far _ _ _ _ (Ne.symm hne)]
 ·intro b o
  rw [World.frozen?_setCell, World.frozen?_setCell]

set_option maxRecDepth 100000 in
set_option maxHeartbeats 1000000 in
theorem set_c (K B F R O : Int) (p : Option Addr) (zs : List Int) (c : Nat) (q : Option Addr) (vs : List (Int × Int)) (d : Nat) (a a' : Int) (w : World) (b0 : -9223372036854775808 <= B) (b1 : B <= 9223372036854775807) (hn : zs.length <= maxLen) (hm : vs.length <= maxLen) (RA : Hid (SlI w p zs)) (RB : Hid (SlV w q vs)) (x : Option Addr) (xs : List Int) (e : Nat) (hx : xs.length <= maxLen) (RX : Hid (SlI w x xs)) (ht : (loc K B F R O zs vs xs).2 = 0) (hv : vv K B F R O a a' = true) :
  Calls Tryz.prog 23 #[Tn K B F R O p zs.length c q vs.length d, .agg #[.int .i64 a, .int .i64 a'], .slice x xs.length e] w (TRes K B F R O zs (vs.set (loc K B F R O zs vs xs).1.toNat (a, a')) 0 w) := by
 have LO0 := fun w h1 h2 h3 => tloc K B F R O p zs c q vs d w b0 b1 hn hm h1 h2 x xs e hx h3
 obtain ⟨te, l0, l1⟩ := loc_bd ht
 obtain ⟨-, tv0, tl, -⟩ := tE_ok te
 obtain ⟨h6, -, -, hsp, -⟩ := valid_of tv0
 obtain ⟨⟨i, E⟩, hE⟩ : ∃ r, loc K B F R O zs vs xs = r := ⟨_, rfl⟩
 rw [hE] at LO0 ht l0 l1 ⊢
 dsimp only at LO0 ht l0 l1 ⊢
 subst ht
 have VC0 := fun w => c_va K B F R O a a' w b0 b1
 rw [hv] at VC0
 have VC := Lib.hid VC0
 obtain ⟨k, rfl⟩ : ∃ k : Nat, i = (k : Int) := ⟨i.toNat, by omega⟩
 rw [Int.toNat_natCast]
 have hk : k < vs.length := by omega
 have hm4 : vs.length <= 4096 := by omega
 have DT0 := fun w h1 h2 => dtens K B F R O p zs c q vs d w h6 hm4 (by omega) h1 h2
 unfold TW at DT0
 obtain ⟨gv0, gv1⟩ := flV_get vs k hk
 have HV0 := Lib.hid gv0
 have HV1 := Lib.hid gv1
 have HS := Lib.hid (flV_set vs k a a' hk)
 obtain ⟨m, hmm⟩ : ∃ m, vs.length = m := ⟨_, rfl⟩
 have HM := Lib.hid hmm
 rw [hmm] at LO0 DT0 hk hm4
 have LO := Lib.hid LO0
 have B0 : Hid (Below w.heap.size w (((w.alloc (Obj.cells #[Value.int .i64 K, Value.int .i64 B, Value.int .i64 F, Value.int .i64 R, Value.int .i64 O, Value.slice p zs.length c, Value.slice q m d] 27)).alloc (Obj.cells #[Value.int .i64 a, Value.int .i64 a'] 29)).alloc (Obj.cells #[Value.int .i64 0, Value.int .i64 0, Value.int .i64 0, Value.int .i64 0, Value.int .i64 0, Value.slice none 0 0, Value.slice none 0 0] 27))) := Lib.hid ((((Below.refl _ _).alloc (Nat.le_refl _) _).alloc (by simp) _).alloc (by simp; omega) _)
 clear LO0
 rw [hmm]
 have DT := Lib.hid DT0
 have HM1 : Hid (1 <= m) := Lib.hid (by omega)
 have k2 : (k : Int) < m := by omega
 have k0 : (0 : Int) <= k := by omega
 clear hE hmm hm VC0 hv te tv0 tl h6 hsp l0 l1 DT0 gv0 gv1 hm4
 go_enter Tryz.func23, Tryz.ntmps23
 go_upto_region 7 with (first | (go_at_call 58; (with_reducible refine (LO.out _ (Lib.hid (SlI.keep B0.out RA.out)) (Lib.hid (SlV.below RB.out B0.out)) (Lib.hid (SlI.keep B0.out RX.out))).mono ?_); rintro e w1 ⟨rfl, hb⟩; have KB := Lib.hid (B0.out.trans (hb.mono B0.out.size)); have c0 : w1.cell? ⟨w.heap.size, 0, none⟩ = some (.int .i64 K) := Rg.keep hb (by simp <;> omega) (by go_cell); have c1 : w1.cell? ⟨w.heap.size, 1, none⟩ = some (.int .i64 B) := Rg.keep hb (by simp <;> omega) (by go_cell); have c2 : w1.cell? ⟨w.heap.size, 2, none⟩ = some (.int .i64 F) := Rg.keep hb (by simp <;> omega) (by go_cell); have c3 : w1.cell? ⟨w.heap.size, 3, none⟩ = some (.int .i64 R) := Rg.keep hb (by simp <;> omega) (by go_cell); have c4 : w1.cell? ⟨w.heap.size, 4, none⟩ = some (.int .i64 O) := Rg.keep hb (by simp <;> omega) (by go_cell); have c5 : w1.cell? ⟨w.heap.size, 5, none⟩ = some (.slice p zs.length c) := Rg.keep hb (by simp <;> omega) (by go_cell); have c6 : w1.cell? ⟨w.heap.size, 6, none⟩ = some (.slice q m d) := Rg.keep hb (by simp <;> omega) (by go_cell); have y0 : w1.cell? ⟨w.heap.size + 1, 0, none⟩ = some (.int .i64 a) := Rg.keep hb (by simp <;> omega) (by go_cell); have y1 : w1.cell? ⟨w.heap.size + 1, 1, none⟩ = some (.int .i64 a') := Rg.keep hb (by simp <;> omega) (by go_cell); have z0 : w1.cell? ⟨w.heap.size + 1 + 1, 0, none⟩ = some (.int .i64 0) := Rg.keep hb (by simp <;> omega) (by go_cell); have f0 : w1.frozen? ⟨w.heap.size + 1 + 1, 0, none⟩ = false := Rg.keepF hb (by simp <;> omega) (by go_cell); have z1 : w1.cell? ⟨w.heap.size + 1 + 1, 1, none⟩ = some (.int .i64 0) := Rg.keep hb (by simp <;> omega) (by go_cell); have f1 : w1.frozen? ⟨w.heap.size + 1 + 1, 1, none⟩ = false := Rg.keepF hb (by simp <;> omega) (by go_cell); have z2 : w1.cell? ⟨w.heap.size + 1 + 1, 2, none⟩ = some (.int .i64 0) := Rg.keep hb (by simp <;> omega) (by go_cell); have f2 : w1.frozen? ⟨w.heap.size + 1 + 1, 2, none⟩ = false := Rg.keepF hb (by simp <;> omega) (by go_cell); have z3 : w1.cell? ⟨w.heap.size + 1 + 1, 3, none⟩ = some (.int .i64 0) := Rg.keep hb (by simp <;> omega) (by go_cell); have f3 : w1.frozen? ⟨w.heap.size + 1 + 1, 3, none⟩ = false := Rg.keepF hb (by simp <;> omega) (by go_cell); have z4 : w1.cell? ⟨w.heap.size + 1 + 1, 4, none⟩ = some (.int .i64 0) := Rg.keep hb (by simp <;> omega) (by go_cell); have f4 : w1.frozen? ⟨w.heap.size + 1 + 1, 4, none⟩ = false := Rg.keepF hb (by simp <;> omega) (by go_cell); have z5 : w1.cell? ⟨w.heap.size + 1 + 1, 5, none⟩ = some (.slice none 0 0) := Rg.keep hb (by simp <;> omega) (by go_cell); have f5 : w1.frozen? ⟨w.heap.size + 1 + 1, 5, none⟩ = false := Rg.keepF hb (by simp <;> omega) (by go_cell); have z6 : w1.cell? ⟨w.heap.size + 1 + 1, 6, none⟩ = some (.slice none 0 0) := Rg.keep hb (by simp <;> omega) (by go_cell); have f6 : w1.frozen? ⟨w.heap.size + 1 + 1, 6, none⟩ = false := Rg.keepF hb (by simp <;> omega) (by go_cell); have lr : w.heap.size + 1 + 1 < w1.heap.size := World.block_lt_of_cell? _ _ z0; clear hb) | (go_at_call 48; (with_reducible refine (VC.out _).mono ?_); rintro e w2 ⟨rfl, hb2⟩; have lrb : w.heap.size + 1 + 1 < w2.heap.size := Nat.lt_of_lt_of_le lr hb2.size; replace c0 := Rg.keep hb2 (by omega) c0; replace c1 := Rg.keep hb2 (by omega) c1; replace c2 := Rg.keep hb2 (by omega) c2; replace c3 := Rg.keep hb2 (by omega) c3; replace c4 := Rg.keep hb2 (by omega) c4; replace c5 := Rg.keep hb2 (by omega) c5; replace c6 := Rg.keep hb2 (by omega) c6; replace y0 := Rg.keep hb2 (by omega) y0; replace y1 := Rg.keep hb2 (by omega) y1; replace z0 := Rg.keep hb2 lr z0; replace f0 := Rg.keepF hb2 lr f0; replace z1 := Rg.keep hb2 lr z1; replace f1 := Rg.keepF hb2 lr f1; replace z2 := Rg.keep hb2 lr z2; replace f2 := Rg.keepF hb2 lr f2; replace z3 := Rg.keep hb2 lr z3; replace f3 := Rg.keepF hb2 lr f3; replace z4 := Rg.keep hb2 lr z4; replace f4 := Rg.keepF hb2 lr f4; replace z5 := Rg.keep hb2 lr z5; replace f5 := Rg.keepF hb2 lr f5; replace z6 := Rg.keep hb2 lr z6; replace f6 := Rg.keepF hb2 lr f6; have KB2 := Lib.hid (KB.out.trans (hb2.mono KB.out.size)); clear hb2 lr) | (go_at_call 45; (with_reducible refine (DT.out _ (Lib.hid (SlI.keep KB2.out RA.out)) (Lib.hid (SlV.below RB.out KB2.out))).mono ?_); rintro e w3 ⟨v, rfl, p1, ce, q1, d1, rfl, O1, O2, hb3⟩; have lrc : w.heap.size + 1 + 1 < w3.heap.size := Nat.lt_of_lt_of_le lrb hb3.size; replace y0 := Rg.keep hb3 (by omega) y0; replace y1 := Rg.keep hb3 (by omega) y1; replace z0 := Rg.keep hb3 lrb z0; replace f0 := Rg.keepF hb3 lrb f0; replace z1 := Rg.keep hb3 lrb z1; replace f1 := Rg.keepF hb3 lrb f1; replace z2 := Rg.keep hb3 lrb z2; replace f2 := Rg.keepF hb3 lrb f2; replace z3 := Rg.keep hb3 lrb z3; replace f3 := Rg.keepF hb3 lrb f3; replace z4 := Rg.keep hb3 lrb z4; replace f4 := Rg.keepF hb3 lrb f4; replace z5 := Rg.keep hb3 lrb z5; replace f5 := Rg.keepF hb3 lrb f5; replace z6 := Rg.keep hb3 lrb z6; replace f6 := Rg.keepF hb3 lrb f6; have KB3 := Lib.hid (KB2.out.trans (hb3.mono KB2.out.size)); have HO1 := Lib.hid O1; have HO2 := Lib.hid O2; have hb23 := hb3.size; obtain ⟨gq, rfl, hgq, hgl⟩ := own_at O2 HM1.out; have lw1 : w.heap.size + 1 < w3.heap.size := (by omega); have lw0 : w.heap.size < w3.heap.size := (by omega); have lw2 : w.heap.size + 1 + 1 < w3.heap.size := lrc; have hne1 : gq ≠ w.heap.size + 1 + 1 := (by omega); have hne2 : gq < w3.heap.size := hgl; have u0 := (O2.cellAt (k * 2) (by omega)).trans HV0.out; have u1 := (O2.cellAt (k * 2 + 1) (by omega)).trans HV1.out; have h0 := O2.frozenAt (k * 2); have h1 := O2.frozenAt (k * 2 + 1); clear O1 O2 hb3; have lw3 := lrb; have lw4 := hb23; clear lrb))
 go_upto_region 8 with fail
 obtain ⟨w4, hw4, s4, P4, O4, B4, cc, ff⟩ := two_store HO1.out HO2.out KB3.out (show w.heap.size <= gq by omega) (k * 2) (k * 2 + 1) (.int .i64 a) (.int .i64 a')
 rw [hw4]
 rw [HS.out] at O4
 replace z0 := (cc _ 0 (Ne.symm hne1)).trans z0; replace f0 := (ff _ 0).trans f0; replace z1 := (cc _ 1 (Ne.symm hne1)).trans z1; replace f1 := (ff _ 1).trans f1; replace z2 := (cc _ 2 (Ne.symm hne1)).trans z2; replace f2 := (ff _ 2).trans f2; replace z3 := (cc _ 3 (Ne.symm hne1)).trans z3; replace f3 := (ff _ 3).trans f3; replace z4 := (cc _ 4 (Ne.symm hne1)).trans z4; replace f4 := (ff _ 4).trans f4; replace z5 := (cc _ 5 (Ne.symm hne1)).trans z5; replace f5 := (ff _ 5).trans f5; replace z6 := (cc _ 6 (Ne.symm hne1)).trans z6; replace f6 := (ff _ 6).trans f6
 rw [<- s4]
 rw [<- s4] at lw0 lw1 lw2 hgl
 have g4 := Lib.hid (And.intro P4 (And.intro O4 B4))
 have HG := Lib.hid (And.intro hgq (And.intro hgl (And.intro lw3 lw4)))
 clear s4 hb23 hne1 hne2 lw3 lw4 hgq lrc hw4 u0 u1 h0 h1 HO1 HO2 cc ff P4 O4 B4 KB3 KB2 KB y0 y1 c0 c1 c2 c3 c4 c5 c6
 iterate 6 go_step
 rename_i KK hKK
 refine hKK _ _ ?_
 repeat go_step
 obtain ⟨P4, O4, B4⟩ := g4.out
 have lr := lw2
 have SBB := (((((((B4.setCell (p := ⟨w.heap.size + 1 + 1, 0, none⟩) (by dsimp only; omega) (.int .i64 K)).setCell (p := ⟨w.heap.size + 1 + 1, 1, none⟩) (by dsimp only; omega) (.int .i64 B)).setCell (p := ⟨w.heap.size + 1 + 1, 2, none⟩) (by dsimp only; omega) (.int .i64 F)).setCell (p := ⟨w.heap.size + 1 + 1, 3, none⟩) (by dsimp only; omega) (.int .i64 R)).setCell (p := ⟨w.heap.size + 1 + 1, 4, none⟩) (by dsimp only; omega) (.int .i64 O)).setCell (p := ⟨w.heap.size + 1 + 1, 5, none⟩) (by dsimp only; omega) (.slice p1 zs.length ce)).setCell (p := ⟨w.heap.size + 1 + 1, 6, none⟩) (by dsimp only; omega) (.slice (some ⟨gq, 0, none⟩) m d1)).alloc (by simp; omega) (Obj.cells #[Value.int .i64 K, Value.int .i64 B, Value.int .i64 F, Value.int .i64 R, Value.int .i64 O, Value.slice p1 zs.length ce, Value.slice (some ⟨gq, 0, none⟩) m d1] 27)
 obtain ⟨hgq, hgl, lw3, lw4⟩ := HG.out
 have hl3 : (vs.set k (a, a')).length = m := by rw [List.length_set]; exact HM.out
 refine bodyPost_ret (v := .tuple #[Tn K B F R O p1 zs.length ce (some ⟨gq, 0, none⟩) m d1, .int .i64 0]) (by simp [results, Tryz.results23, go_sem, z0, f0, z1, f1, z2, f2, z3, f3, z4, f4, z5, f5, z6, f6, lr, Tn]) rfl ⟨p1, ce, some ⟨gq, 0, none⟩, d1, by rw [hl3], ?_, ?_, SBB⟩
 ·exact (own_base (own_set (own_set (own_set (own_set (own_set (own_set (own_set P4 (by dsimp only; omega)) (by dsimp only; omega)) (by dsimp only; omega)) (by dsimp only; omega)) (by dsimp only; omega)) (by dsimp only; omega)) (by dsimp only; omega)) (by omega)).alloc _
 ·rw [hl3]; exact (own_base (own_set (own_set (own_set (own_set (own_set (own_set (own_set O4 (by dsimp only; omega)) (by dsimp only; omega)) (by dsimp only; omega)) (by dsimp only; omega)) (by dsimp only; omega)) (by dsimp only; omega)) (by dsimp only; omega)) (by omega)).alloc _
end Go.Proofs.YteaaikmejacpaaaGreatDoor.Te


namespace Go.Proofs.YteaaikmejacpaaaGreatDoor.Te
open Go.ChangeShapes Go.WideShapes Go.ChangeAt Go.RowKit
open Fx Va Sh
set_option maxRecDepth 8000
set_option linter.unusedVariables false
set_option linter.unusedSimpArgs false

/-- The error of Set. -/
def setE (K B F R O : Int) (zs : List Int) (vs : List (Int × Int)) (xs : List Int) (a a' : Int) : Int := if (loc K B F R O zs vs xs).2 ≠ 0 then (loc K B F R O zs vs xs).2 else if vv K B F R O a a' = false then 1 else 0
theorem tset (K B F R O : Int) (p : Option Addr) (zs : List Int) (c : Nat) (q : Option Addr) (vs : List (Int × Int)) (d : Nat) (a a' : Int) (w : World) (b0 : -9223372036854775808 <= B) (b1 : B <= 9223372036854775807) (hn : zs.length <= maxLen) (hm : vs.length <= maxLen) (RA : Hid (SlI w p zs)) (RB : Hid (SlV w q vs)) (x : Option Addr) (xs : List Int) (e : Nat) (hx : xs.length <= maxLen) (RX : Hid (SlI w x xs)) :
  Calls Tryz.prog 23 #[Tn K B F R O p zs.length c q vs.length d, .agg #[.int .i64 a, .int .i64 a'], .slice x xs.length e] w fun en w' => (setE K B F R O zs vs xs a a' ≠ 0 /\ TRes 0 0 0 0 0 [] [] (setE K B F R O zs vs xs a a') w en w') \/ (setE K B F R O zs vs xs a a' = 0 /\ TRes K B F R O zs (vs.set (loc K B F R O zs vs xs).1.toNat (a, a')) 0 w en w') := by
 unfold setE
 by_cases ht : (loc K B F R O zs vs xs).2 = 0
 ·rw [if_neg (by simpa using ht)]
  cases hv : vv K B F R O a a'
  ·rw [if_pos rfl]
   exact (set_b K B F R O p zs c q vs d a a' w b0 b1 hn hm RA RB x xs e hx RX ht hv).mono (fun _ _ h => .inl ⟨by decide, h⟩)
  ·rw [if_neg (by decide)]
   exact (set_c K B F R O p zs c q vs d a a' w b0 b1 hn hm RA RB x xs e hx RX ht hv).mono (fun _ _ h => .inr ⟨rfl, h⟩)
 ·rw [if_pos ht]
  exact (set_a K B F R O p zs c q vs d a a' w b0 b1 hn hm RA RB x xs e hx RX ht).mono (fun _ _ h => .inl ⟨ht, h⟩)

set_option maxRecDepth 100000 in
set_option maxHeartbeats 8000000 in
theorem new_a (K B F R O : Int) (p : Option Addr) (zs : List Int) (c : Nat) (q : Option Addr) (vs : List (Int × Int)) (d : Nat) (w : World) (b0 : -9223372036854775808 <= B) (b1 : B <= 9223372036854775807) (hn : zs.length <= maxLen) (hm : vs.length <= maxLen) (RA : Hid (SlI w p zs)) (RB : Hid (SlV w q vs)) (ht : tE K B F R O zs vs ≠ 0) :
  Calls Tryz.prog 16 #[T5 K B F R O, .slice p zs.length c, .slice q vs.length d] w (TRes 0 0 0 0 0 [] [] (tE K B F R O zs vs) w) := by
 have TV0 := fun w h1 h2 => tval K B F R O p zs c q vs d w b0 b1 hn hm h1 h2
 obtain ⟨E, hE⟩ : ∃ E, tE K B F R O zs vs = E := ⟨_, rfl⟩
 rw [hE] at TV0 ht ⊢
 have g1 : (E == 0) = false := by simpa using ht
 have g2 : (E != 0) = true := by simpa using ht
 obtain ⟨m, hmm⟩ : ∃ m, vs.length = m := ⟨_, rfl⟩
 have HM := Lib.hid hmm
 rw [hmm] at TV0 ⊢
 have TV := Lib.hid TV0
 have B0 : Hid (Below w.heap.size w (((w.alloc (Obj.cells #[Value.int .i64 K, Value.int .i64 B, Value.int .i64 F, Value.int .i64 R, Value.int .i64 O] 23)).alloc (Obj.cells #[Value.int .i64 0, Value.int .i64 0, Value.int .i64 0, Value.int .i64 0, Value.int .i64 0, Value.slice none 0 0, Value.slice none 0 0] 27)).alloc (Obj.cells #[Value.int .i64 K, Value.int .i64 B, Value.int .i64 F, Value.int .i64 R, Value.int .i64 O, Value.slice p zs.length c, Value.slice q m d] 27))) := Lib.hid ((((Below.refl _ _).alloc (Nat.le_refl _) _).alloc (by simp) _).alloc (by simp; omega) _)
 clear TV0
 clear hE ht hm hmm
 unfold Tn at *
 go_enter Tryz.func16, Tryz.ntmps16
 go_wp2_with (go_at_call 20; (with_reducible refine (TV.out _ (Lib.hid (SlI.keep B0.out RA.out)) (Lib.hid (SlV.below RB.out B0.out))).mono ?_); rintro e w1 ⟨rfl, hb⟩; have KB := Lib.hid (B0.out.trans (hb.mono B0.out.size)); have c0 : w1.cell? ⟨w.heap.size + 1 + 1, 0, none⟩ = some (.int .i64 K) := Rg.keep hb (by simp <;> omega) (by go_cell); have c1 : w1.cell? ⟨w.heap.size + 1 + 1, 1, none⟩ = some (.int .i64 B) := Rg.keep hb (by simp <;> omega) (by go_cell); have c2 : w1.cell? ⟨w.heap.size + 1 + 1, 2, none⟩ = some (.int .i64 F) := Rg.keep hb (by simp <;> omega) (by go_cell); have c3 : w1.cell? ⟨w.heap.size + 1 + 1, 3, none⟩ = some (.int .i64 R) := Rg.keep hb (by simp <;> omega) (by go_cell); have c4 : w1.cell? ⟨w.heap.size + 1 + 1, 4, none⟩ = some (.int .i64 O) := Rg.keep hb (by simp <;> omega) (by go_cell); have c5 : w1.cell? ⟨w.heap.size + 1 + 1, 5, none⟩ = some (.slice p zs.length c) := Rg.keep hb (by simp <;> omega) (by go_cell); have c6 : w1.cell? ⟨w.heap.size + 1 + 1, 6, none⟩ = some (.slice q m d) := Rg.keep hb (by simp <;> omega) (by go_cell); have z0 : w1.cell? ⟨w.heap.size + 1, 0, none⟩ = some (.int .i64 0) := Rg.keep hb (by simp <;> omega) (by go_cell); have f0 : w1.frozen? ⟨w.heap.size + 1, 0, none⟩ = false := Rg.keepF hb (by simp <;> omega) (by go_cell); have z1 : w1.cell? ⟨w.heap.size + 1, 1, none⟩ = some (.int .i64 0) := Rg.keep hb (by simp <;> omega) (by go_cell); have f1 : w1.frozen? ⟨w.heap.size + 1, 1, none⟩ = false := Rg.keepF hb (by simp <;> omega) (by go_cell); have z2 : w1.cell? ⟨w.heap.size + 1, 2, none⟩ = some (.int .i64 0) := Rg.keep hb (by simp <;> omega) (by go_cell); have f2 : w1.frozen? ⟨w.heap.size + 1, 2, none⟩ = false := Rg.keepF hb (by simp <;> omega) (by go_cell); have z3 : w1.cell? ⟨w.heap.size + 1, 3, none⟩ = some (.int .i64 0) := Rg.keep hb (by simp <;> omega) (by go_cell); have f3 : w1.frozen? ⟨w.heap.size + 1, 3, none⟩ = false := Rg.keepF hb (by simp <;> omega) (by go_cell); have z4 : w1.cell? ⟨w.heap.size + 1, 4, none⟩ = some (.int .i64 0) := Rg.keep hb (by simp <;> omega) (by go_cell); have f4 : w1.frozen? ⟨w.heap.size + 1, 4, none⟩ = false := Rg.keepF hb (by simp <;> omega) (by go_cell); have z5 : w1.cell? ⟨w.heap.size + 1, 5, none⟩ = some (.slice none 0 0) := Rg.keep hb (by simp <;> omega) (by go_cell); have f5 : w1.frozen? ⟨w.heap.size + 1, 5, none⟩ = false := Rg.keepF hb (by simp <;> omega) (by go_cell); have z6 : w1.cell? ⟨w.heap.size + 1, 6, none⟩ = some (.slice none 0 0) := Rg.keep hb (by simp <;> omega) (by go_cell); have f6 : w1.frozen? ⟨w.heap.size + 1, 6, none⟩ = false := Rg.keepF hb (by simp <;> omega) (by go_cell); have lr : w.heap.size + 1 < w1.heap.size := World.block_lt_of_cell? _ _ z0; clear hb)
 have SBB := (((((((KB.out).setCell (p := ⟨w.heap.size + 1, 0, none⟩) (by dsimp only; omega) (.int .i64 0)).setCell (p := ⟨w.heap.size + 1, 1, none⟩) (by dsimp only; omega) (.int .i64 0)).setCell (p := ⟨w.heap.size + 1, 2, none⟩) (by dsimp only; omega) (.int .i64 0)).setCell (p := ⟨w.heap.size + 1, 3, none⟩) (by dsimp only; omega) (.int .i64 0)).setCell (p := ⟨w.heap.size + 1, 4, none⟩) (by dsimp only; omega) (.int .i64 0)).setCell (p := ⟨w.heap.size + 1, 5, none⟩) (by dsimp only; omega) (.slice none 0 0)).setCell (p := ⟨w.heap.size + 1, 6, none⟩) (by dsimp only; omega) (.slice none 0 0)
 refine bodyPost_ret (v := .tuple #[.agg #[.int .i64 0, .int .i64 0, .int .i64 0, .int .i64 0, .int .i64 0, .slice none 0 0, .slice none 0 0], .int .i64 E]) (by simp [results, Tryz.results16, go_sem, z0, f0, z1, f1, z2, f2, z3, f3, z4, f4, z5, f5, z6, f6, lr]) rfl (TRes.no SBB)

set_option maxRecDepth 100000 in
set_option maxHeartbeats 8000000 in
theorem new_b (K B F R O : Int) (p : Option Addr) (zs : List Int) (c : Nat) (q : Option Addr) (vs : List (Int × Int)) (d : Nat) (w : World) (b0 : -9223372036854775808 <= B) (b1 : B <= 9223372036854775807) (hn : zs.length <= maxLen) (hm : vs.length <= maxLen) (RA : Hid (SlI w p zs)) (RB : Hid (SlV w q vs)) (ht : tE K B F R O zs vs = 0) :
  Calls Tryz.prog 16 #[T5 K B F R O, .slice p zs.length c, .slice q vs.length d] w (TRes K B F R O zs vs 0 w) := by
 have TV0 := fun w h1 h2 => tval K B F R O p zs c q vs d w b0 b1 hn hm h1 h2
 obtain ⟨-, tv0, tl, -⟩ := tE_ok ht
 obtain ⟨h6, -, -, hsp, h1s⟩ := valid_of tv0
 have h1 := h1s 0
 rw [List.drop_zero] at h1
 have DT0 := fun w g1 g2 => dtens K B F R O p zs c q vs d w h6 (by omega) (by omega) g1 g2
 unfold TW at DT0
 rw [ht] at TV0
 clear h1s h1
 obtain ⟨m, hmm⟩ : ∃ m, vs.length = m := ⟨_, rfl⟩
 have HM := Lib.hid hmm
 rw [hmm] at TV0 DT0 ⊢
 have TV := Lib.hid TV0
 have B0 : Hid (Below w.heap.size w (((w.alloc (Obj.cells #[Value.int .i64 K, Value.int .i64 B, Value.int .i64 F, Value.int .i64 R, Value.int .i64 O] 23)).alloc (Obj.cells #[Value.int .i64 0, Value.int .i64 0, Value.int .i64 0, Value.int .i64 0, Value.int .i64 0, Value.slice none 0 0, Value.slice none 0 0] 27)).alloc (Obj.cells #[Value.int .i64 K, Value.int .i64 B, Value.int .i64 F, Value.int .i64 R, Value.int .i64 O, Value.slice p zs.length c, Value.slice q m d] 27))) := Lib.hid ((((Below.refl _ _).alloc (Nat.le_refl _) _).alloc (by simp) _).alloc (by simp; omega) _)
 clear TV0
 have DT := Lib.hid DT0
 clear ht hm hmm DT0 tl h6 hsp tv0
 unfold Tn at *
 go_enter Tryz.func16, Tryz.ntmps16
 go_wp2_with (first | (go_at_call 20; (with_reducible refine (TV.out _ (Lib.hid (SlI.keep B0.out RA.out)) (Lib.hid (SlV.below RB.out B0.out))).mono ?_); rintro e w1 ⟨rfl, hb⟩; have KB := Lib.hid (B0.out.trans (hb.mono B0.out.size)); have c0 : w1.cell? ⟨w.heap.size + 1 + 1, 0, none⟩ = some (.int .i64 K) := Rg.keep hb (by simp <;> omega) (by go_cell); have c1 : w1.cell? ⟨w.heap.size + 1 + 1, 1, none⟩ = some (.int .i64 B) := Rg.keep hb (by simp <;> omega) (by go_cell); have c2 : w1.cell? ⟨w.heap.size + 1 + 1, 2, none⟩ = some (.int .i64 F) := Rg.keep hb (by simp <;> omega) (by go_cell); have c3 : w1.cell? ⟨w.heap.size + 1 + 1, 3, none⟩ = some (.int .i64 R) := Rg.keep hb (by simp <;> omega) (by go_cell); have c4 : w1.cell? ⟨w.heap.size + 1 + 1, 4, none⟩ = some (.int .i64 O) := Rg.keep hb (by simp <;> omega) (by go_cell); have c5 : w1.cell? ⟨w.heap.size + 1 + 1, 5, none⟩ = some (.slice p zs.length c) := Rg.keep hb (by simp <;> omega) (by go_cell); have c6 : w1.cell? ⟨w.heap.size + 1 + 1, 6, none⟩ = some (.slice q m d) := Rg.keep hb (by simp <;> omega) (by go_cell); have z0 : w1.cell? ⟨w.heap.size + 1, 0, none⟩ = some (.int .i64 0) := Rg.keep hb (by simp <;> omega) (by go_cell); have f0 : w1.frozen? ⟨w.heap.size + 1, 0, none⟩ = false := Rg.keepF hb (by simp <;> omega) (by go_cell); have z1 : w1.cell? ⟨w.heap.size + 1, 1, none⟩ = some (.int .i64 0) := Rg.keep hb (by simp <;> omega) (by go_cell); have f1 : w1.frozen? ⟨w.heap.size + 1, 1, none⟩ = false := Rg.keepF hb (by simp <;> omega) (by go_cell); have z2 : w1.cell? ⟨w.heap.size + 1, 2, none⟩ = some (.int .i64 0) := Rg.keep hb (by simp <;> omega) (by go_cell); have f2 : w1.frozen? ⟨w.heap.size + 1, 2, none⟩ = false := Rg.keepF hb (by simp <;> omega) (by go_cell); have z3 : w1.cell? ⟨w.heap.size + 1, 3, none⟩ = some (.int .i64 0) := Rg.keep hb (by simp <;> omega) (by go_cell); have f3 : w1.frozen? ⟨w.heap.size + 1, 3, none⟩ = false := Rg.keepF hb (by simp <;> omega) (by go_cell); have z4 : w1.cell? ⟨w.heap.size + 1, 4, none⟩ = some (.int .i64 0) := Rg.keep hb (by simp <;> omega) (by go_cell); have f4 : w1.frozen? ⟨w.heap.size + 1, 4, none⟩ = false := Rg.keepF hb (by simp <;> omega) (by go_cell); have z5 : w1.cell? ⟨w.heap.size + 1, 5, none⟩ = some (.slice none 0 0) := Rg.keep hb (by simp <;> omega) (by go_cell); have f5 : w1.frozen? ⟨w.heap.size + 1, 5, none⟩ = false := Rg.keepF hb (by simp <;> omega) (by go_cell); have z6 : w1.cell? ⟨w.heap.size + 1, 6, none⟩ = some (.slice none 0 0) := Rg.keep hb (by simp <;> omega) (by go_cell); have f6 : w1.frozen? ⟨w.heap.size + 1, 6, none⟩ = false := Rg.keepF hb (by simp <;> omega) (by go_cell); have lr : w.heap.size + 1 < w1.heap.size := World.block_lt_of_cell? _ _ z0; clear hb) | (go_at_call 45; (with_reducible refine (DT.out _ (Lib.hid (SlI.keep KB.out RA.out)) (Lib.hid (SlV.below RB.out KB.out))).mono ?_); rintro e w3 ⟨v, rfl, p1, ce, q1, d1, rfl, O1, O2, hb3⟩; have lrc : w.heap.size + 1 < w3.heap.size := Nat.lt_of_lt_of_le lr hb3.size; replace z0 := Rg.keep hb3 lr z0; replace f0 := Rg.keepF hb3 lr f0; replace z1 := Rg.keep hb3 lr z1; replace f1 := Rg.keepF hb3 lr f1; replace z2 := Rg.keep hb3 lr z2; replace f2 := Rg.keepF hb3 lr f2; replace z3 := Rg.keep hb3 lr z3; replace f3 := Rg.keepF hb3 lr f3; replace z4 := Rg.keep hb3 lr z4; replace f4 := Rg.keepF hb3 lr f4; replace z5 := Rg.keep hb3 lr z5; replace f5 := Rg.keepF hb3 lr f5; replace z6 := Rg.keep hb3 lr z6; replace f6 := Rg.keepF hb3 lr f6; have KB3 := Lib.hid (KB.out.trans (hb3.mono KB.out.size)); have HO1 := Lib.hid O1; have HO2 := Lib.hid O2; have hlw : w.heap.size + 1 < w1.heap.size := lr; replace lr := lrc; clear O1 O2 hb3 lrc))
 have SBB := (((((((KB3.out).setCell (p := ⟨w.heap.size + 1, 0, none⟩) (by dsimp only; omega) (.int .i64 K)).setCell (p := ⟨w.heap.size + 1, 1, none⟩) (by dsimp only; omega) (.int .i64 B)).setCell (p := ⟨w.heap.size + 1, 2, none⟩) (by dsimp only; omega) (.int .i64 F)).setCell (p := ⟨w.heap.size + 1, 3, none⟩) (by dsimp only; omega) (.int .i64 R)).setCell (p := ⟨w.heap.size + 1, 4, none⟩) (by dsimp only; omega) (.int .i64 O)).setCell (p := ⟨w.heap.size + 1, 5, none⟩) (by dsimp only; omega) (.slice p1 zs.length ce)).setCell (p := ⟨w.heap.size + 1, 6, none⟩) (by dsimp only; omega) (.slice q1 m d1)
 refine bodyPost_ret (v := .tuple #[Tn K B F R O p1 zs.length ce q1 m d1, .int .i64 0]) (by simp [results, Tryz.results16, go_sem, z0, f0, z1, f1, z2, f2, z3, f3, z4, f4, z5, f5, z6, f6, lr, Tn]) rfl ⟨p1, ce, q1, d1, by rw [HM.out], ?_, ?_, SBB⟩
 ·exact own_base (own_set (own_set (own_set (own_set (own_set (own_set (own_set HO1.out (by dsimp only; omega)) (by dsimp only; omega)) (by dsimp only; omega)) (by dsimp only; omega)) (by dsimp only; omega)) (by dsimp only; omega)) (by dsimp only; omega)) (by omega)
 ·rw [HM.out]; exact own_base (own_set (own_set (own_set (own_set (own_set (own_set (own_set HO2.out (by dsimp only; omega)) (by dsimp only; omega)) (by dsimp only; omega)) (by dsimp only; omega)) (by dsimp only; omega)) (by dsimp only; omega)) (by dsimp only; omega)) (by omega)
theorem tnew (K B F R O : Int) (p : Option Addr) (zs : List Int) (c : Nat) (q : Option Addr) (vs : List (Int × Int)) (d : Nat) (w : World) (b0 : -9223372036854775808 <= B) (b1 : B <= 9223372036854775807) (hn : zs.length <= maxLen) (hm : vs.length <= maxLen) (RA : Hid (SlI w p zs)) (RB : Hid (SlV w q vs)) :
  Calls Tryz.prog 16 #[T5 K B F R O, .slice p zs.length c, .slice q vs.length d] w fun en w' => (tE K B F R O zs vs ≠ 0 /\ TRes 0 0 0 0 0 [] [] (tE K B F R O zs vs) w en w') \/ (tE K B F R O zs vs = 0 /\ TRes K B F R O zs vs 0 w en w') := by
 by_cases ht : tE K B F R O zs vs = 0
 ·exact (new_b K B F R O p zs c q vs d w b0 b1 hn hm RA RB ht).mono (fun _ _ h => .inr ⟨ht, h⟩)
 ·exact (new_a K B F R O p zs c q vs d w b0 b1 hn hm RA RB ht).mono (fun _ _ h => .inl ⟨ht, h⟩)
end Go.Proofs.YteaaikmejacpaaaGreatDoor.Te


namespace Go.Proofs.YteaaikmejacpaaaGreatDoor.Te
open Go.ChangeShapes Go.WideShapes Go.ChangeAt Go.RowKit
open Va
set_option maxRecDepth 8000
set_option linter.unusedVariables false
set_option linter.unusedSimpArgs false
/-- The number of the line that an element lies in. -/
def lnO (many after a : Nat) : Nat := a / after / many * after + a % after
/-- The place of an element in its line. -/
def lnK (many after a : Nat) : Nat := a / after % many
/-- Where a line begins. -/
def lnF (many after i : Nat) : Nat := i / after * many * after + i % after
theorem ln_pos {many after i k : Nat} (hk : k < many) (ha : 1 <= after) : lnO many after (lnF many after i + k * after) = i /\ lnK many after (lnF many after i + k * after) = k := by
 have e : lnF many after i + k * after = i % after + (i / after * many + k) * after := by unfold lnF; grind
 have h1 : i % after < after := Nat.mod_lt _ ha
 have d : (lnF many after i + k * after) / after = i / after * many + k := by
  rw [e, Nat.add_mul_div_right _ _ ha, Nat.div_eq_of_lt h1, Nat.zero_add]
 have m : (lnF many after i + k * after) % after = i % after := by
  rw [e, Nat.add_mul_mod_self_right, Nat.mod_mod]
 have d2 : (i / after * many + k) / many = i / after := by
  rw [Nat.add_comm, Nat.add_mul_div_right _ _ (by omega), Nat.div_eq_of_lt hk, Nat.zero_add]
 have m2 : (i / after * many + k) % many = k := by
  rw [Nat.add_comm, Nat.add_mul_mod_self_right, Nat.mod_eq_of_lt hk]
 unfold lnO lnK
 rw [d, m, d2, m2]
 exact ⟨by rw [Nat.mul_comm]; exact Nat.div_add_mod i after, rfl⟩
theorem ln_back {many after a : Nat} (ha : 1 <= after) : lnF many after (lnO many after a) + lnK many after a * after = a := by
 have h1 : a % after < after := Nat.mod_lt _ ha
 have d : lnO many after a / after = a / after / many := by
  unfold lnO; rw [Nat.add_comm, Nat.add_mul_div_right _ _ ha, Nat.div_eq_of_lt h1, Nat.zero_add]
 have m : lnO many after a % after = a % after := by
  unfold lnO; rw [Nat.add_comm, Nat.add_mul_mod_self_right, Nat.mod_mod]
 unfold lnF lnK
 rw [d, m]
 have e1 := Nat.div_add_mod (a / after) many
 have e2 := Nat.div_add_mod a after
 have e3 : a / after / many * many * after + a % after + a / after % many * after = after * (many * (a / after / many) + a / after % many) + a % after := by grind
 rw [e3, e1, e2]
theorem ln_lt {before many after i k : Nat} (hk : k < many) (ha : 1 <= after) (hi : i < before * after) : lnF many after i + k * after < before * many * after := by
 have h1 : i % after < after := Nat.mod_lt _ ha
 have h2 : i / after < before := Nat.div_lt_of_lt_mul (by rw [Nat.mul_comm]; exact hi)
 have e : lnF many after i + k * after = i % after + (i / after * many + k) * after := by unfold lnF; grind
 have h3 : i / after * many + k + 1 <= before * many := by
  have := Nat.mul_le_mul_right many (show i / after + 1 <= before by omega)
  have e2 : (i / after + 1) * many = i / after * many + many := by grind
  omega
 have h4 := Nat.mul_le_mul_right after h3
 have e3 : (i / after * many + k + 1) * after = (i / after * many + k) * after + after := by grind
 omega
theorem lnO_lt {before many after a : Nat} (hm : 1 <= many) (ha : 1 <= after) (h : a < before * many * after) : lnO many after a < before * after /\ lnK many after a < many := by
 have h1 : a % after < after := Nat.mod_lt _ ha
 refine ⟨?_, Nat.mod_lt _ hm⟩
 have h2 : a / after < before * many := Nat.div_lt_of_lt_mul (by rw [Nat.mul_comm]; exact h)
 have h3 : a / after / many < before := Nat.div_lt_of_lt_mul (by rw [Nat.mul_comm]; exact h2)
 have h4 := Nat.mul_le_mul_right after (show a / after / many + 1 <= before by omega)
 have e2 : (a / after / many + 1) * after = a / after / many * after + after := by grind
 unfold lnO
 omega
/-- The elements of a line. -/
def lnV (vs : List (Int × Int)) (many after i : Nat) : List (Int × Int) := (List.range many).map fun k => vs.getD (lnF many after i + k * after) (0, 0)
theorem lnV_length (vs : List (Int × Int)) (many after i : Nat) : (lnV vs many after i).length = many := by simp [lnV]
theorem lnV_get {vs : List (Int × Int)} {many after i k : Nat} (h : k < many) : (lnV vs many after i).getD k (0, 0) = vs.getD (lnF many after i + k * after) (0, 0) := by
 unfold lnV
 rw [List.getD_eq_getElem?_getD, List.getElem?_map, List.getElem?_range h]
 rfl
theorem lnV_take (vs : List (Int × Int)) (many after i k : Nat) (h : k < many) : (lnV vs many after i).take (k + 1) = (lnV vs many after i).take k ++ [vs.getD (lnF many after i + k * after) (0, 0)] := by
 have hl : k < (lnV vs many after i).length := by rw [lnV_length]; exact h
 rw [List.take_add_one, List.getElem?_eq_getElem hl]
 have := lnV_get (vs := vs) (after := after) (i := i) h
 rw [List.getD_eq_getElem?_getD, List.getElem?_eq_getElem hl] at this
 simp only [Option.getD_some] at this
 rw [this]; rfl
/-- A row whose first lines (and the first elements of the next) hold another's elements. -/
def mix (S vs : List (Int × Int)) (many after total i k : Nat) : List (Int × Int) := (List.range total).map fun a => if lnO many after a < i \/ lnO many after a = i /\ lnK many after a < k then S.getD a (0, 0) else vs.getD a (0, 0)
theorem mix_length (S vs : List (Int × Int)) (many after total i k : Nat) : (mix S vs many after total i k).length = total := by simp [mix]
theorem mix_get {S vs : List (Int × Int)} {many after total i k a : Nat} (h : a < total) : (mix S vs many after total i k)[a]? = some (if lnO many after a < i \/ lnO many after a = i /\ lnK many after a < k then S.getD a (0, 0) else vs.getD a (0, 0)) := by
 unfold mix
 rw [List.getElem?_map, List.getElem?_range h]
 rfl
theorem mix_set {S vs : List (Int × Int)} {before many after i k : Nat} (ha : 1 <= after) (hk : k < many) (hi : i < before * after) :
  (mix S vs many after (before * many * after) i k).set (lnF many after i + k * after) (S.getD (lnF many after i + k * after) (0, 0)) = mix S vs many after (before * many * after) i (k + 1) := by
 have hlt := ln_lt (before := before) hk ha hi
 obtain ⟨p1, p2⟩ := ln_pos (i := i) hk ha
 refine List.ext_getElem? fun a => ?_
 rw [List.getElem?_set]
 by_cases hat : a < before * many * after
 ·rw [mix_get hat, mix_length]
  by_cases e : lnF many after i + k * after = a
  ·subst e
   rw [if_pos rfl, if_pos hat, mix_get hat, p1, p2, if_pos (.inr ⟨rfl, by omega⟩)]
  ·rw [if_neg e, mix_get hat]
   have hne : ¬ (lnO many after a = i /\ lnK many after a = k) := fun ⟨h1, h2⟩ => e (by rw [<- h1, <- h2]; exact ln_back ha)
   have hiff : (lnO many after a < i \/ lnO many after a = i /\ lnK many after a < k) ↔ (lnO many after a < i \/ lnO many after a = i /\ lnK many after a < k + 1) := by omega
   simp only [hiff]
 ·rw [List.getElem?_eq_none (by rw [mix_length]; omega), List.getElem?_eq_none (by rw [mix_length]; omega)]
  rw [if_neg (by omega)]
theorem mix_next {S vs : List (Int × Int)} {before many after i : Nat} (hm : 1 <= many) : mix S vs many after (before * many * after) i many = mix S vs many after (before * many * after) (i + 1) 0 := by
 unfold mix
 refine List.map_congr_left fun a _ => ?_
 have h2 : lnK many after a < many := Nat.mod_lt _ hm
 have hiff : (lnO many after a < i \/ lnO many after a = i /\ lnK many after a < many) ↔ (lnO many after a < i + 1 \/ lnO many after a = i + 1 /\ lnK many after a < 0) := by omega
 simp only [hiff]
theorem mix_start {S vs : List (Int × Int)} {many after total : Nat} (hl : vs.length = total) : mix S vs many after total 0 0 = vs := by
 refine List.ext_getElem? fun a => ?_
 by_cases h : a < total
 ·rw [mix_get h, if_neg (by omega), List.getElem?_eq_getElem (by omega), List.getD_eq_getElem?_getD, List.getElem?_eq_getElem (by omega)]
  rfl
 ·rw [List.getElem?_eq_none (by rw [mix_length]; omega), List.getElem?_eq_none (by omega)]
theorem mix_end {S vs : List (Int × Int)} {before many after : Nat} (hm : 1 <= many) (ha : 1 <= after) (hl : S.length = before * many * after) : mix S vs many after (before * many * after) (before * after) 0 = S := by
 refine List.ext_getElem? fun a => ?_
 by_cases h : a < before * many * after
 ·rw [mix_get h, if_pos (.inl (lnO_lt hm ha h).1), List.getElem?_eq_getElem (by omega), List.getD_eq_getElem?_getD, List.getElem?_eq_getElem (by omega)]
  rfl
 ·rw [List.getElem?_eq_none (by rw [mix_length]; omega), List.getElem?_eq_none (by omega)]
/-- The running values of an operation. -/
def run (f : Int × Int -> Int × Int -> Int × Int × Int) : Int × Int -> List (Int × Int) -> List (Int × Int)
 | _, [] => []
 | v, x :: l => ((f v x).1, (f v x).2.1) :: run f ((f v x).1, (f v x).2.1) l
/-- The first error of the running values. -/
def runE (f : Int × Int -> Int × Int -> Int × Int × Int) : Int × Int -> List (Int × Int) -> Int
 | _, [] => 0
 | v, x :: l => if (f v x).2.2 ≠ 0 then (f v x).2.2 else runE f ((f v x).1, (f v x).2.1) l
theorem run_length {f : Int × Int -> Int × Int -> Int × Int × Int} : ∀ (l : List (Int × Int)) (v : Int × Int), (run f v l).length = l.length
 | [], v => rfl
 | x :: l, v => by show (run f _ l).length + 1 = l.length + 1; rw [run_length l]
/-- The scan of a line. -/
def scV (f : Int × Int -> Int × Int -> Int × Int × Int) : List (Int × Int) -> List (Int × Int)
 | [] => []
 | v :: l => v :: run f v l
def scE (f : Int × Int -> Int × Int -> Int × Int × Int) : List (Int × Int) -> Int
 | [] => 0
 | v :: l => runE f v l
theorem scV_length {f : Int × Int -> Int × Int -> Int × Int × Int} (l : List (Int × Int)) : (scV f l).length = l.length := by
 cases l with
 | nil => rfl
 | cons v l => show (run f v l).length + 1 = _; rw [run_length]; rfl
/-- The scans of all lines, by the elements' numbers. -/
def scA (f : Int × Int -> Int × Int -> Int × Int × Int) (vs : List (Int × Int)) (many after total : Nat) : List (Int × Int) := (List.range total).map fun a => (scV f (lnV vs many after (lnO many after a))).getD (lnK many after a) (0, 0)
theorem scA_get {f : Int × Int -> Int × Int -> Int × Int × Int} {vs : List (Int × Int)} {before many after i k : Nat} (ha : 1 <= after) (hk : k < many) (hi : i < before * after) : (scA f vs many after (before * many * after)).getD (lnF many after i + k * after) (0, 0) = (scV f (lnV vs many after i)).getD k (0, 0) := by
 have hlt := ln_lt (before := before) hk ha hi
 obtain ⟨p1, p2⟩ := ln_pos (i := i) hk ha
 unfold scA
 rw [List.getD_eq_getElem?_getD, List.getElem?_map, List.getElem?_range hlt]
 simp only [Option.map_some, Option.getD_some, p1, p2]
theorem scA_length {f : Int × Int -> Int × Int -> Int × Int × Int} {vs : List (Int × Int)} {many after total : Nat} : (scA f vs many after total).length = total := by simp [scA]
/-- The first error among the lines from number i on. -/
def fe (g : Nat -> Int) : Nat -> Nat -> Int
 | 0, _ => 0
 | n + 1, i => if g i ≠ 0 then g i else fe g n (i + 1)
theorem fe_go {g : Nat -> Int} {n i : Nat} (h : g i = 0) : fe g (n + 1) i = fe g n (i + 1) := if_neg (by simpa using h)
theorem fe_stop {g : Nat -> Int} {n i : Nat} (h : g i ≠ 0) : fe g (n + 1) i = g i := if_pos h

end Go.Proofs.YteaaikmejacpaaaGreatDoor.Te


namespace Go.Proofs
open Go.Shelf

def Tryz.laysNm223_ren : Go.Shelf.Ren := ⟨fun | 23 => 63 | n => n, fun | 22 => 24 | 3 => 3 | 4 => 4 | 0 => 0 | n => n, fun | n => n⟩

theorem Tryz.laysNm223 : Go.Proofs.Lays2.n23 Tryz.prog Tryz.laysNm223_ren := {
 mixed := by kernel_rfl
 f23 := Tryz.func63.trans (congrArg some (by kernel_rfl))
 t0 := Tryz.underlying0
 a0 := Tryz.isAgg0
 z0 := Tryz.sizeOf0
 v0 := Tryz.zeroValue0
 t3 := Tryz.underlying3
 a3 := Tryz.isAgg3
 z3 := Tryz.sizeOf3
 v3 := Tryz.zeroValue3
 t4 := Tryz.underlying4
 a4 := Tryz.isAgg4
 z4 := Tryz.sizeOf4
 v4 := Tryz.zeroValue4
 t22 := Tryz.underlying24
 a22 := Tryz.isAgg24
 z22 := Tryz.sizeOf24
 v22 := Tryz.zeroValue24
 i3 := by kernel_rfl }

open Go.RowKit Go.Lib Go.Sort in
theorem Tryz.slices_Delete_int (blk off cap i j : Nat) (zs : List Int) (w : World) (hH : Holds (Value.int .i64) w blk off zs.toArray) (hcap : zs.length <= cap) (hm : cap <= 9223372036854775807) (hij : i <= j) (hj : j <= zs.length) :
  Calls Tryz.prog 63 #[.slice (some ⟨blk, off, none⟩) zs.length cap, .int .i64 i, .int .i64 j] w fun e w' => e = .returned (.slice (some ⟨blk, off, none⟩) (zs.length - (j - i)) cap) /\ ∃ q, w' = putRow (Value.int .i64) (Sort.ahead w q) blk off (zs.take i ++ zs.drop j ++ List.replicate (j - i) 0).toArray := Any.slices_Delete_int Tryz.laysNm223 blk off cap i j zs w hH hcap hm hij hj

end Go.Proofs


namespace Go.Proofs.YteaaikmejacpaaaGreatDoor.Te
open Go.ChangeShapes Go.WideShapes Go.ChangeAt Go.RowKit
open Fx Va Sh
set_option maxRecDepth 8000
set_option linter.unusedVariables false
set_option linter.unusedSimpArgs false

theorem sp_append : ∀ a b : List Int, sp (a ++ b) = sp a * sp b
 | [], b => by show sp b = 1 * sp b; omega
 | x :: a, b => by
  have e : ∀ l, sp (x :: l) = x * sp l := fun l => by simp [sp, Int.mul_comm]
  rw [List.cons_append, e, e, sp_append a b, Int.mul_assoc]
theorem low_take {zs : List Int} (h : zs.any low = false) (k : Nat) : (zs.take k).any low = false := by
 rw [List.any_eq_false] at h ⊢
 exact fun x hx => h x (List.mem_of_mem_take hx)
/-- The axes ahead of one and behind it. -/
theorem sp_parts {zs : List Int} (h : vE zs = 0) {a : Nat} (ha : a < zs.length) : sp zs = sp (zs.take a) * zs.getD a 0 * sp (zs.drop (a + 1)) /\ 1 <= sp (zs.take a) /\ 1 <= zs.getD a 0 /\ 1 <= sp (zs.drop (a + 1)) := by
 obtain ⟨h6, hl, _, _, hd⟩ := valid_of h
 have e : zs = zs.take a ++ zs.getD a 0 :: zs.drop (a + 1) := by
  rw [<- drop_cons ha, List.take_append_drop]
 have e2 : ∀ x l, sp (x :: l) = x * sp l := fun x l => by simp [sp, Int.mul_comm]
 refine ⟨?_, sp_pos (low_take hl a), pos_of hl ha, (hd (a + 1)).1⟩
 conv => lhs; rw [e]
 rw [sp_append, e2, Int.mul_assoc]
theorem vE_take {zs : List Int} (h : vE zs = 0) {a : Nat} (ha : a < zs.length) : vE (zs.take a) = 0 := by
 obtain ⟨h6, hl, _, hs, hd⟩ := valid_of h
 obtain ⟨e, p1, p2, p3⟩ := sp_parts h ha
 have b1 : sp (zs.take a) * 1 <= sp (zs.take a) * (zs.getD a 0 * sp (zs.drop (a + 1))) := Int.mul_le_mul_of_nonneg_left (by have := Int.mul_le_mul p2 p3 (by decide) (by omega); omega) (by omega)
 rw [<- Int.mul_assoc, <- e] at b1
 exact vE_some (by rw [List.length_take]; omega) (low_take hl a) (pr_ok _ 1 (by omega) (low_take hl a) (by omega))
theorem SlI_take {w : World} {p : Option Addr} {zs : List Int} (h : SlI w p zs) (k : Nat) : SlI w p (zs.take k) := fun i hi => by
 rw [List.length_take] at hi
 obtain ⟨b, o, e, hc⟩ := h i (by omega)
 refine ⟨b, o, e, ?_⟩
 rw [hc, List.getD_eq_getElem?_getD, List.getD_eq_getElem?_getD, List.getElem?_take_of_lt (by omega)]
set_option maxHeartbeats 1000000 in
theorem tar (p : Option Addr) (zs : List Int) (c a : Nat) (w : World) (ha : a < zs.length) (hc : zs.length <= c) (hc2 : c <= 9223372036854775807) (hv : vE zs = 0) (RA : Hid (SlI w p zs)) :
  Calls Tryz.prog 64 #[.slice p zs.length c, .int .i64 a] w fun e w' => e = .returned (.tuple #[.int .i64 (sp (zs.take a)), .int .i64 (sp (zs.drop (a + 1)))]) /\ Below w.heap.size w w' := by
 obtain ⟨h6, -, -, -, -⟩ := valid_of hv
 obtain ⟨b, o, rfl, _⟩ := RA.out a ha
 have C1 := Lib.hid fun m => (show Calls Tryz.prog 51 #[.slice (some ⟨b, o, none⟩) a c] (w.drewN m) fun e w' => e = .returned (.int .i64 (sp (zs.take a))) /\ w' = w.drewN m from by
  have hb : Below w.heap.size w (w.drewN m) := below_drewN (Below.refl _ _) m
  have h := c16 (some ⟨b, o, none⟩) (zs.take a) c (w.drewN m) (by rw [List.length_take]; unfold maxLen; omega) (Lib.hid (SlI_take (SlI.keep hb RA.out) a))
  rw [sz_ok (vE_take hv ha), List.length_take, Nat.min_eq_left (by omega)] at h
  exact h.mono (fun _ _ g => ⟨g.1, g.2.symm⟩))
 have C2 := Lib.hid fun q (hq : q = some ⟨b, o + (a + 1), none⟩ \/ a + 1 = zs.length) m => (show Calls Tryz.prog 51 #[.slice q (zs.length - (a + 1)) (c - (a + 1))] (w.drewN m) fun e w' => e = .returned (.int .i64 (sp (zs.drop (a + 1)))) /\ w' = w.drewN m from by
  have hb : Below w.heap.size w (w.drewN m) := below_drewN (Below.refl _ _) m
  have hs : SlI (w.drewN m) q (zs.drop (a + 1)) := by
   rcases hq with rfl | hq
   ·exact SlI.drop (SlI.keep hb RA.out) (a + 1)
   ·exact SlI.empty (by rw [List.length_drop]; omega)
  have h := c16 q (zs.drop (a + 1)) (c - (a + 1)) (w.drewN m) (by rw [List.length_drop]; unfold maxLen; omega) (Lib.hid hs)
  rw [sz_drop hv, List.length_drop] at h
  exact h.mono (fun _ _ g => ⟨g.1, g.2.symm⟩))
 have g0 : (0 : Int) <= a := by omega
 have g1 : (a : Int) <= c := by omega
 have g2 : (a : Int) + 1 <= zs.length := by omega
 have g3 : (0 : Int) <= (a : Int) + 1 := by omega
 have g4 : (zs.length : Int) <= c := by omega
 obtain ⟨n, hn⟩ : ∃ n, zs.length = n := ⟨_, rfl⟩
 rw [hn] at C2 g2 g4 ⊢
 obtain ⟨S1, hS1⟩ : ∃ S, sp (zs.take a) = S := ⟨_, rfl⟩
 obtain ⟨S2, hS2⟩ : ∃ S, sp (zs.drop (a + 1)) = S := ⟨_, rfl⟩
 rw [hS1] at C1 ⊢
 rw [hS2] at C2 ⊢
 have hw : IntKind.i64.wrap ((a : Int) + 1) = ((a + 1 : Nat) : Int) := by rw [IntKind.wrap_i64]; omega
 obtain ⟨k, hk⟩ : ∃ k, a + 1 = k := ⟨_, rfl⟩
 rw [hk] at C2 hw
 have g5 : (k : Int) <= n := by omega
 have g6 : (0 : Int) <= k := by omega
 have C3 := Lib.hid (C2.out (if c = k then some ⟨b, o, none⟩ else some ⟨b, o + k, none⟩) (by
  by_cases e : c = k
  ·right; omega
  ·left; rw [if_neg e]))
 clear hn hS1 hS2 RA hv h6 ha hc g2 g3 hk C2
 go_enter Tryz.func64, Tryz.ntmps64
 go_wp2_with fail
 go_quiet ((first | (go_at_call 51; with_reducible exact Calls.quiet_of_same (C1.out _)) | (go_at_call 51; with_reducible exact Calls.quiet_of_same (C3.out _))))
 go_wp2
 all_goals refine bodyPost_ret (v := .tuple #[.int .i64 S1, .int .i64 S2]) (by simp [results, Tryz.results64, go_sem]) rfl ⟨rfl, below_drewN (Below.refl _ _) _⟩

end Go.Proofs.YteaaikmejacpaaaGreatDoor.Te
