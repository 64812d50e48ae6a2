/- Tensors: Permute. -/
import Derived.Test.YteaaikmejacpaaaGreatDoorR0
import Derived.Test.YteaaikmejacpaaaGreatDoorR16
import Derived.Test.YteaaikmejacpaaaGreatDoorR8
import Derived.Test.YteaaikmejacpaaaGreatDoorR11
import Derived.Test.YteaaikmejacpaaaGreatDoorR5
import Derived.Lib.ParseIntB
import Derived.Lib.ItoaNum
import Derived.Lib.Bytealg
import Derived.Lib.Strings
import Derived.Shelf.LaysM
import Derived.Shelf.Strconv.Itoa4
import Derived.Test.YteaaikmejacpaaaGreatDoorProg
import Derived.Test.YteaaikmejacpaaaGreatDoorR3
import Derived.Lib.SmallJoins
import Derived.Lib.Hide
import Derived.IntWalk
import Derived.Lib.AppendIntMem
import Derived.Deep.QuietTactic
import Derived.BigQuiet

namespace Go.Proofs.YteaaikmejacpaaaGreatDoor.Te
open Go.ChangeShapes Go.WideShapes Go.ChangeAt Go.RowKit
open Fx Va Sh
set_option maxRecDepth 8000
set_option linter.unusedVariables false
set_option linter.unusedSimpArgs false

theorem pt_len2 {zs os : List Int} {j : Int} (h : os.length = zs.length) : (pt (pm zs os) j).length = zs.length := by rw [pt_length, pm_length, h]
theorem pm_nums {A1 B1 P1 S S1 : Int} {m k n ax : Nat} (hP : A1 * B1 = P1) (h0 : 0 <= P1) (s0 : 0 <= S) (hf : S1 = S + P1) (hb : 0 <= S1 /\ S1 < m) (m4 : m <= 4096) (hk : k < n) (g1 : (ax : Int) < n)   : wrap64 P1 = P1 /\ wrap64 (S + P1) = S1 /\ (k : Int) < n /\ (0 : Int) <= k /\ (ax : Int) < n /\ (0 : Int) <= ax :=
 ⟨w64 (by omega) (by omega), by rw [<- hf]; exact w64 (by omega) (by omega), by omega, by omega, g1, by omega⟩

set_option maxRecDepth 100000 in
set_option maxHeartbeats 2000000 in
theorem pm_c (K B F R O : Int) (p : Option Addr) (zs : List Int) (c : Nat) (q : Option Addr) (vs : List (Int × Int)) (d : Nat) (x : Option Addr) (os : List Int) (e : Nat) (w : World) (b0 : -9223372036854775808 <= B) (b1 : B <= 9223372036854775807) (hn : zs.length <= maxLen) (hm : vs.length <= maxLen) (RA : Hid (SlI w p zs)) (RB : Hid (SlV w q vs)) (hx : os.length <= maxLen) (RX : Hid (SlI w x os)) (ht : tE K B F R O zs vs = 0) (he : pmE zs os = 0) :
  Calls Tryz.prog 37 #[Tn K B F R O p zs.length c q vs.length d, .slice x os.length e] w (TRes K B F R O (pm zs os) (pmV zs os vs) 0 w) := by
 have TV0 := fun w h1 h2 => tval K B F R O p zs c q vs d w b0 b1 hn hm h1 h2
 rw [ht] at TV0
 obtain ⟨hv, hol, hgd, hpl⟩ := pm_zero he
 obtain ⟨-, -, tl, -⟩ := tE_ok ht
 obtain ⟨h6, -, -, hsp, hd⟩ := valid_of hv
 have h1v : 1 <= sp zs := (hd 0).1
 obtain ⟨hv2, hsp2⟩ := pm_valid hv hol hgd
 have HOL := Lib.hid hol
 have SP0 := fun w h1 h2 => c27 p x zs os c e w hn h1 h2
 unfold QW at SP0
 rw [he, hpl, pm_length, hol] at SP0
 have SP := Lib.hid SP0
 have ST0 := fun w h => c19 p zs c w hn h
 unfold OW at ST0
 rw [show sts zs = st zs from if_pos hv, st_length] at ST0
 have ST := Lib.hid ST0
 have FB := Lib.hid fun a k h => frS_bd (a := a) hv hol hgd k h
 have FT := Lib.hid fun a i h => frS_term (a := a) (i := i) hv hol hgd h
 have HGD := Lib.hid hgd
 have PT0 := fun (pd : Option Addr) (cd : Nat) (j : Int) (h0 : 0 <= j) (h1 : j < sp zs) w h => c23 pd (pm zs os) cd j w (by rw [pm_length]; exact hx) h
 have PTA0 := fun (j : Int) (h0 : 0 <= j) (h1 : j < sp zs) => (show pL (pm zs os) j = pt (pm zs os) j /\ pA (pm zs os) j = true from by
  have hp := pA_ok hv2 h0 (by rw [hsp2]; exact h1)
  exact ⟨if_pos hp, hp⟩)
 have PTF := Lib.hid fun (pd : Option Addr) (cd : Nat) (j : Int) (h0 : 0 <= j) (h1 : j < sp zs) (u : World) (h : Hid (SlI u pd (pm zs os))) => (show Calls Tryz.prog 73 #[.slice pd zs.length cd, .int .i64 j] u (fun e w' => ∃ v, e = .returned (.tuple #[v, .bool true]) /\ Below u.heap.size u w' /\ w'.ownsRow u.heap.size 3 1 v zs.length ((pt (pm zs os) j).map (Value.int .i64))) from by
  have h2 := PT0 pd cd j h0 h1 u h
  obtain ⟨e1, e2⟩ := PTA0 j h0 h1
  unfold PW at h2
  rw [e1, e2, pt_length, pm_length, hol] at h2
  exact h2)
 obtain ⟨vb, vo, hqq, -⟩ := RB.out 0 (by omega)
 subst hqq
 obtain ⟨m, hmm⟩ : ∃ m, vs.length = m := ⟨_, rfl⟩
 have HM := Lib.hid hmm
 rw [hmm] at TV0 tl hm ⊢
 have TV := Lib.hid TV0
 have B0 : Hid (Below w.heap.size w ((w.alloc (Obj.cells #[Value.int .i64 K, Value.int .i64 B, Value.int .i64 F, Value.int .i64 R, Value.int .i64 O, Value.slice p zs.length c, Value.slice (some ⟨vb, vo, none⟩) m d] 27)).alloc (Obj.cells #[Value.int .i64 0, Value.int .i64 0, Value.int .i64 0, Value.int .i64 0, Value.int .i64 0, Value.slice none 0 0, Value.slice none 0 0] 27))) := Lib.hid (((Below.refl _ _).alloc (Nat.le_refl _) _).alloc (by simp) _)
 have T0 : Hid (B7 ((w.alloc (Obj.cells #[Value.int .i64 K, Value.int .i64 B, Value.int .i64 F, Value.int .i64 R, Value.int .i64 O, Value.slice p zs.length c, Value.slice (some ⟨vb, vo, none⟩) m d] 27)).alloc (Obj.cells #[Value.int .i64 0, Value.int .i64 0, Value.int .i64 0, Value.int .i64 0, Value.int .i64 0, Value.slice none 0 0, Value.slice none 0 0] 27)) (w.heap.size) (.int .i64 K) (.int .i64 B) (.int .i64 F) (.int .i64 R) (.int .i64 O) (.slice p zs.length c) (.slice (some ⟨vb, vo, none⟩) m d)) := Lib.hid ((B7.new w _ (.int .i64 K) (.int .i64 B) (.int .i64 F) (.int .i64 R) (.int .i64 O) (.slice p zs.length c) (.slice (some ⟨vb, vo, none⟩) m d)).alloc _)
 have R0 : Hid (B7 ((w.alloc (Obj.cells #[Value.int .i64 K, Value.int .i64 B, Value.int .i64 F, Value.int .i64 R, Value.int .i64 O, Value.slice p zs.length c, Value.slice (some ⟨vb, vo, none⟩) m d] 27)).alloc (Obj.cells #[Value.int .i64 0, Value.int .i64 0, Value.int .i64 0, Value.int .i64 0, Value.int .i64 0, Value.slice none 0 0, Value.slice none 0 0] 27)) (w.heap.size + 1) (.int .i64 0) (.int .i64 0) (.int .i64 0) (.int .i64 0) (.int .i64 0) (.slice none 0 0) (.slice none 0 0)) := Lib.hid (by have h := B7.new (w.alloc (Obj.cells #[Value.int .i64 K, Value.int .i64 B, Value.int .i64 F, Value.int .i64 R, Value.int .i64 O, Value.slice p zs.length c, Value.slice (some ⟨vb, vo, none⟩) m d] 27)) 27 (.int .i64 0) (.int .i64 0) (.int .i64 0) (.int .i64 0) (.int .i64 0) (.slice none 0 0) (.slice none 0 0); simpa using h)
 clear TV0
 have m4 : m <= 4096 := by omega
 have TL := Lib.hid tl
 rw [hol]
 have hvl := pmV_length zs os vs
 rw [hmm] at hvl
 have HVL := Lib.hid hvl
 clear he ht hm hmm SP0 ST0 PT0 PTA0 hpl hol hgd hd hsp hv hv2 hsp2 tl h1v hvl
 unfold Tn at *
 go_enter Tryz.func37, Tryz.ntmps37
 go_upto_region 7 with (first | (go_at_call 20; (with_reducible refine (TV.out _ (Lib.hid (SlI.keep B0.out RA.out)) (Lib.hid (SlV.below RB.out B0.out))).mono ?_); rintro e w1 ⟨rfl, hb⟩; have KB := Lib.hid (B0.out.trans (hb.mono B0.out.size)); have TB := Lib.hid (B7.keep hb (by simp <;> omega) T0.out); have RB9 := Lib.hid (B7.keep hb (by simp <;> omega) R0.out); obtain ⟨⟨c0, c1, c2, c3, c4, c5, c6⟩, -⟩ := TB.out; obtain ⟨⟨z0, z1, z2, z3, z4, z5, z6⟩, ⟨f0, f1, f2, f3, f4, f5, f6⟩⟩ := RB9.out; have lr : w.heap.size + 1 < w1.heap.size := RB9.out.lt; clear hb) | (go_at_call 71; (with_reducible refine (SP.out _ (Lib.hid (SlI.keep KB.out RA.out)) (Lib.hid (SlI.keep KB.out RX.out))).mono ?_); rintro e w2 ⟨v2, rfl, hb2, O2⟩; have KB2 := Lib.hid (KB.out.trans (hb2.mono KB.out.size)); have TB2 := Lib.hid (B7.keep hb2 TB.out.lt TB.out); have RB2 := Lib.hid (B7.keep hb2 RB9.out.lt RB9.out); have lr : w.heap.size + 1 < w2.heap.size := RB2.out.lt; obtain ⟨⟨z0, z1, z2, z3, z4, z5, z6⟩, ⟨f0, f1, f2, f3, f4, f5, f6⟩⟩ := RB2.out; obtain ⟨⟨c0, c1, c2, c3, c4, c5, c6⟩, -⟩ := TB2.out; have hs2 := hb2.size; obtain ⟨pd, cd, rfl⟩ := own_slice O2; have HO2 := Lib.hid O2; clear hb2 O2))
 have HS : Hid (∀ u u' : World, (u.cell? ⟨w.heap.size, 0, none⟩ = some (.int .i64 K) /\ u.cell? ⟨w.heap.size, 1, none⟩ = some (.int .i64 B) /\ u.cell? ⟨w.heap.size, 2, none⟩ = some (.int .i64 F) /\ u.cell? ⟨w.heap.size, 3, none⟩ = some (.int .i64 R) /\ u.cell? ⟨w.heap.size, 4, none⟩ = some (.int .i64 O) /\ u.cell? ⟨w.heap.size, 5, none⟩ = some (.slice p zs.length c) /\ u.cell? ⟨w.heap.size, 6, none⟩ = some (.slice (some ⟨vb, vo, none⟩) m d) /\ Below w2.heap.size w2 u) -> Below u.heap.size u u' -> (u'.cell? ⟨w.heap.size, 0, none⟩ = some (.int .i64 K) /\ u'.cell? ⟨w.heap.size, 1, none⟩ = some (.int .i64 B) /\ u'.cell? ⟨w.heap.size, 2, none⟩ = some (.int .i64 F) /\ u'.cell? ⟨w.heap.size, 3, none⟩ = some (.int .i64 R) /\ u'.cell? ⟨w.heap.size, 4, none⟩ = some (.int .i64 O) /\ u'.cell? ⟨w.heap.size, 5, none⟩ = some (.slice p zs.length c) /\ u'.cell? ⟨w.heap.size, 6, none⟩ = some (.slice (some ⟨vb, vo, none⟩) m d) /\ Below w2.heap.size w2 u')) := Lib.hid (fun u u' h hb => ⟨Rg.keep hb (World.block_lt_of_cell? _ _ h.1) h.1, Rg.keep hb (World.block_lt_of_cell? _ _ h.2.1) h.2.1, Rg.keep hb (World.block_lt_of_cell? _ _ h.2.2.1) h.2.2.1, Rg.keep hb (World.block_lt_of_cell? _ _ h.2.2.2.1) h.2.2.2.1, Rg.keep hb (World.block_lt_of_cell? _ _ h.2.2.2.2.1) h.2.2.2.2.1, Rg.keep hb (World.block_lt_of_cell? _ _ h.2.2.2.2.2.1) h.2.2.2.2.2.1, Rg.keep hb (World.block_lt_of_cell? _ _ h.2.2.2.2.2.2.1) h.2.2.2.2.2.2.1, h.2.2.2.2.2.2.2.trans (hb.mono h.2.2.2.2.2.2.2.size)⟩)
 go_cut [9] from 34 to 41 (fun p9 wx => ∃ (g9 gq : Nat), p9 = .pointer (some ⟨g9, 0, none⟩) /\ Hid (B7 wx (g9) (.int .i64 K) (.int .i64 B) (.int .i64 F) (.int .i64 R) (.int .i64 O) (.slice pd zs.length cd) (.slice (some ⟨gq, 0, none⟩) m m)) /\ Hid (wx.ownsRow w2.heap.size 29 2 (.slice (some ⟨gq, 0, none⟩) m m) m (flV (List.replicate m ((0 : Int), (0 : Int))))) /\ g9 ≠ gq /\ w2.heap.size <= g9 /\ Hid (Below w2.heap.size w2 wx))
 case first =>
  refine Rk.begin (S := fun wS => wS.cell? ⟨w.heap.size, 0, none⟩ = some (.int .i64 K) /\ wS.cell? ⟨w.heap.size, 1, none⟩ = some (.int .i64 B) /\ wS.cell? ⟨w.heap.size, 2, none⟩ = some (.int .i64 F) /\ wS.cell? ⟨w.heap.size, 3, none⟩ = some (.int .i64 R) /\ wS.cell? ⟨w.heap.size, 4, none⟩ = some (.int .i64 O) /\ wS.cell? ⟨w.heap.size, 5, none⟩ = some (.slice p zs.length c) /\ wS.cell? ⟨w.heap.size, 6, none⟩ = some (.slice (some ⟨vb, vo, none⟩) m d) /\ Below w2.heap.size w2 wS) 9 (by kernel_rfl) ⟨c0, c1, c2, c3, c4, c5, c6, Below.drew (Below.refl _ _)⟩ (fun hHeld => ?_)
  refine SqR.p 0 ?_
  refine SqR.l [9] 1 ?_
  refine SqR.p 2 ?_
  refine SqR.p 3 ?_
  refine SqR.l [9] 4 ?_
  refine SqR.p 5 ?_
  refine Rk.two (i := 6) (j := 8) (by kernel_rfl) rfl rfl (fun KK hK => ?_) (fun KK hK => ?_)
  ·rw [if_pos (by kernel_rfl)]
   obtain ⟨i0, hi, hz0, hz1, hz2⟩ := info_parts infoV
   refine wp_make_full _ _ _ 25 rfl w2.heap.size 29 i0 (.agg #[.int .i64 0, .int .i64 0]) 2 Tryz.underlying25 hi hz0 hz1 .i64 .i64 _ _ m rfl rfl rfl rfl (by rw [hz2]; omega) (by unfold maxLen; omega) (hHeld.2.2.2.2.2.2.2).size (w2.heap.size) (by simp) ?_
   intro u6 hown6 hg6
   rw [madeV] at hown6
   have hb6 := below_own (Nat.le_refl _) hg6
   have hNew := HS.out _ _ hHeld hb6
   have hg6l : w2.heap.size < u6.heap.size := (hown6.lt _ rfl).2
   first | (refine hK.out _ _ (fun _ => hNew) (fun _ => ?_)) | (refine hK.out _ _ hNew (fun _ => ?_)) | (go_wp2_with fail; refine hK.out _ _ hNew (fun _ => ?_))
   replace hHeld := hNew
   clear hNew hb6 hg6 hi hz0 hz1 hz2
   clear hK KK
   refine SqR.p 7 ?_
   refine Rk.one (i := 8) (by kernel_rfl) rfl (fun KK hK => ?_)
   rw [if_pos (by kernel_rfl)]
   go_simp
   have hNew := HS.out _ _ hHeld ((Below.refl _ _).alloc (Nat.le_refl _) (Obj.cells #[Value.int .i64 0, Value.int .i64 0, Value.int .i64 0, Value.int .i64 0, Value.int .i64 0, Value.slice none 0 0, Value.slice none 0 0] 27))
   have M7 := B7.new u6 27 (.int .i64 0) (.int .i64 0) (.int .i64 0) (.int .i64 0) (.int .i64 0) (.slice none 0 0) (.slice none 0 0)
   have hne : u6.heap.size ≠ w2.heap.size := by omega
   replace hown6 := hown6.alloc (Obj.cells #[Value.int .i64 0, Value.int .i64 0, Value.int .i64 0, Value.int .i64 0, Value.int .i64 0, Value.slice none 0 0, Value.slice none 0 0] 27)
   refine hK.out _ _ hNew (fun _ => ?_)
   replace hHeld := hNew
   clear hNew
   clear hK KK
   refine Rk.tail [9] [_] (by kernel_rfl) (by kernel_rfl) rfl (by decide) ?_
   obtain ⟨c0, c1, c2, c3, c4, c5, c6, K8⟩ := hHeld
   have M8 := M7
   obtain ⟨⟨m0, m1, m2, m3, m4, m5, m6⟩, ⟨g0, g1, g2, g3, g4, g5, g6⟩⟩ := M7
   have lm := M8.lt
   generalize (u6.alloc (Obj.cells #[Value.int .i64 0, Value.int .i64 0, Value.int .i64 0, Value.int .i64 0, Value.int .i64 0, Value.slice none 0 0, Value.slice none 0 0] 27)) = gw at *
   have hnb : w2.heap.size <= u6.heap.size := by omega
   go_wp2_with fail
   go_meet
   exact ⟨u6.heap.size, w2.heap.size, rfl, Lib.hid M8.st, Lib.hid (own_far7 hown6 (Or.inr (by intro e; have e' : some (w2.heap.size) = some (u6.heap.size) := e; injection e' with e'; exact hne e'.symm))), hne, hnb, Lib.hid (below_set7 K8 hnb)⟩
  ·rw [if_pos (by kernel_rfl)]
   go_simp
   have hNew := HS.out _ _ hHeld ((Below.refl _ _).alloc (Nat.le_refl _) (Obj.cells #[Value.int .i64 0, Value.int .i64 0, Value.int .i64 0, Value.int .i64 0, Value.int .i64 0, Value.slice none 0 0, Value.slice none 0 0] 27))
   have M7 : B7 (w2.alloc (Obj.cells #[Value.int .i64 0, Value.int .i64 0, Value.int .i64 0, Value.int .i64 0, Value.int .i64 0, Value.slice none 0 0, Value.slice none 0 0] 27)).drew (w2.heap.size) (.int .i64 0) (.int .i64 0) (.int .i64 0) (.int .i64 0) (.int .i64 0) (.slice none 0 0) (.slice none 0 0) := B7.new w2 _ (.int .i64 0) (.int .i64 0) (.int .i64 0) (.int .i64 0) (.int .i64 0) (.slice none 0 0) (.slice none 0 0)
   refine hK.out _ _ hNew (fun _ => ?_)
   replace hHeld := hNew
   clear hNew
   replace hHeld : (w2.alloc (Obj.cells #[Value.int .i64 0, Value.int .i64 0, Value.int .i64 0, Value.int .i64 0, Value.int .i64 0, Value.slice none 0 0, Value.slice none 0 0] 27)).drew.cell? ⟨w.heap.size, 0, none⟩ = some (.int .i64 K) /\ (w2.alloc (Obj.cells #[Value.int .i64 0, Value.int .i64 0, Value.int .i64 0, Value.int .i64 0, Value.int .i64 0, Value.slice none 0 0, Value.slice none 0 0] 27)).drew.cell? ⟨w.heap.size, 1, none⟩ = some (.int .i64 B) /\ (w2.alloc (Obj.cells #[Value.int .i64 0, Value.int .i64 0, Value.int .i64 0, Value.int .i64 0, Value.int .i64 0, Value.slice none 0 0, Value.slice none 0 0] 27)).drew.cell? ⟨w.heap.size, 2, none⟩ = some (.int .i64 F) /\ (w2.alloc (Obj.cells #[Value.int .i64 0, Value.int .i64 0, Value.int .i64 0, Value.int .i64 0, Value.int .i64 0, Value.slice none 0 0, Value.slice none 0 0] 27)).drew.cell? ⟨w.heap.size, 3, none⟩ = some (.int .i64 R) /\ (w2.alloc (Obj.cells #[Value.int .i64 0, Value.int .i64 0, Value.int .i64 0, Value.int .i64 0, Value.int .i64 0, Value.slice none 0 0, Value.slice none 0 0] 27)).drew.cell? ⟨w.heap.size, 4, none⟩ = some (.int .i64 O) /\ (w2.alloc (Obj.cells #[Value.int .i64 0, Value.int .i64 0, Value.int .i64 0, Value.int .i64 0, Value.int .i64 0, Value.slice none 0 0, Value.slice none 0 0] 27)).drew.cell? ⟨w.heap.size, 5, none⟩ = some (.slice p zs.length c) /\ (w2.alloc (Obj.cells #[Value.int .i64 0, Value.int .i64 0, Value.int .i64 0, Value.int .i64 0, Value.int .i64 0, Value.slice none 0 0, Value.slice none 0 0] 27)).drew.cell? ⟨w.heap.size, 6, none⟩ = some (.slice (some ⟨vb, vo, none⟩) m d) /\ Below w2.heap.size w2 (w2.alloc (Obj.cells #[Value.int .i64 0, Value.int .i64 0, Value.int .i64 0, Value.int .i64 0, Value.int .i64 0, Value.slice none 0 0, Value.slice none 0 0] 27)).drew := hHeld
   clear hK KK
   refine Rk.one (i := 6) (by kernel_rfl) rfl (fun KK hK => ?_)
   rw [if_pos (by kernel_rfl)]
   obtain ⟨i0, hi, hz0, hz1, hz2⟩ := info_parts infoV
   refine wp_make_full _ _ _ 25 rfl w2.heap.size 29 i0 (.agg #[.int .i64 0, .int .i64 0]) 2 Tryz.underlying25 hi hz0 hz1 .i64 .i64 _ _ m rfl rfl rfl rfl (by rw [hz2]; omega) (by unfold maxLen; omega) (hHeld.2.2.2.2.2.2.2).size (w2.heap.size + 1) (by simp) ?_
   intro u6 hown6 hg6
   rw [madeV] at hown6
   have hb6 := below_own (Nat.le_refl _) hg6
   have hNew := HS.out _ _ hHeld hb6
   replace M7 := B7.keep hb6 M7.lt M7
   have hne : w2.heap.size ≠ w2.heap.size + 1 := by omega
   have hg6l : w2.heap.size + 1 < u6.heap.size := (hown6.lt _ rfl).2
   first | (refine hK.out _ _ (fun _ => hNew) (fun _ => ?_)) | (refine hK.out _ _ hNew (fun _ => ?_)) | (go_wp2_with fail; refine hK.out _ _ hNew (fun _ => ?_))
   replace hHeld := hNew
   clear hNew hb6 hg6 hi hz0 hz1 hz2
   clear hK KK
   refine SqR.p 7 ?_
   refine Rk.tail [9] [_] (by kernel_rfl) (by kernel_rfl) rfl (by decide) ?_
   obtain ⟨c0, c1, c2, c3, c4, c5, c6, K8⟩ := hHeld
   have M8 := M7
   obtain ⟨⟨m0, m1, m2, m3, m4, m5, m6⟩, ⟨g0, g1, g2, g3, g4, g5, g6⟩⟩ := M7
   have lm := M8.lt
   have hnb : w2.heap.size <= w2.heap.size := by omega
   go_wp2_with fail
   go_meet
   exact ⟨w2.heap.size, w2.heap.size + 1, rfl, Lib.hid M8.st, Lib.hid (own_far7 hown6 (Or.inr (by intro e; have e' : some (w2.heap.size + 1) = some (w2.heap.size) := e; injection e' with e'; exact hne e'.symm))), hne, hnb, Lib.hid (below_set7 K8 hnb)⟩

 case rest =>
  obtain ⟨g9, gq, rfl, HD, HV, hne9, hn9, HBX⟩ := hcut
  have KBC := Lib.hid (KB2.out.trans (HBX.out.mono KB2.out.size))
  have TBC := Lib.hid (B7.keep HBX.out TB2.out.lt TB2.out)
  have RBC := Lib.hid (B7.keep HBX.out RB2.out.lt RB2.out)
  have HPC := Lib.hid (own_belowE HO2.out HBX.out)
  have hsx := HBX.out.size
  have hg9 := HD.out.lt
  have lt2 := TB2.out.lt
  have lt3 := RB2.out.lt
  have hgql := (HV.out.lt gq rfl)
  obtain ⟨⟨c0, c1, c2, c3, c4, c5, c6⟩, -⟩ := TBC.out
  clear z0 z1 z2 z3 z4 z5 z6 f0 f1 f2 f3 f4 f5 f6 HS lr SP HO2
  go_wp2_with (go_at_call 72; (with_reducible refine (ST.out _ (Lib.hid (SlI.keep KBC.out RA.out))).mono ?_); rintro e w5 ⟨v5, rfl, hb5, O5⟩; obtain ⟨ps, cs, rfl⟩ := own_slice O5; have KB5 := Lib.hid (KBC.out.trans (hb5.mono KBC.out.size)); have TB5 := Lib.hid (B7.keep hb5 TBC.out.lt TBC.out); have RB5 := Lib.hid (B7.keep hb5 RBC.out.lt RBC.out); have HD5 := Lib.hid (B7.keep hb5 HD.out.lt HD.out); have HP5 := Lib.hid (own_belowE HPC.out hb5); have HV5 := Lib.hid (own_belowE HV.out hb5); have HS5 := Lib.hid O5; have hs5 := hb5.size; obtain ⟨⟨m0, m1, m2, m3, m4, m5, m6⟩, -⟩ := HD5.out; clear hb5 O5)
  have HB0 : Hid ((B7 w5 (w.heap.size) (.int .i64 K) (.int .i64 B) (.int .i64 F) (.int .i64 R) (.int .i64 O) (.slice p zs.length c) (.slice (some ⟨vb, vo, none⟩) m d)) /\ (B7 w5 (w.heap.size + 1) (.int .i64 0) (.int .i64 0) (.int .i64 0) (.int .i64 0) (.int .i64 0) (.slice none 0 0) (.slice none 0 0)) /\ (B7 w5 (g9) (.int .i64 K) (.int .i64 B) (.int .i64 F) (.int .i64 R) (.int .i64 O) (.slice pd zs.length cd) (.slice (some ⟨gq, 0, none⟩) m m)) /\ w5.ownsRow w1.heap.size 3 1 (.slice pd zs.length cd) zs.length ((pm zs os).map (Value.int .i64)) /\ w5.ownsRow wc.heap.size 3 1 (.slice ps zs.length cs) zs.length ((st zs).map (Value.int .i64)) /\ w5.ownsRow w2.heap.size 29 2 (.slice (some ⟨gq, 0, none⟩) m m) m (flV ((pmV zs os vs).take 0 ++ List.replicate (m - 0) ((0 : Int), (0 : Int)))) /\ Below w.heap.size w w5 /\ wc.heap.size <= w5.heap.size) := Lib.hid ⟨TB5.out, RB5.out, HD5.out, HP5.out, HS5.out, by rw [List.take_zero, List.nil_append, Nat.sub_zero]; exact HV5.out, KB5.out, hs5⟩
  go_loopw [48] (fun iv wr => ∃ j : Nat, iv = .int .i64 (j : Int) /\ j <= m /\ Hid ((B7 wr (w.heap.size) (.int .i64 K) (.int .i64 B) (.int .i64 F) (.int .i64 R) (.int .i64 O) (.slice p zs.length c) (.slice (some ⟨vb, vo, none⟩) m d)) /\ (B7 wr (w.heap.size + 1) (.int .i64 0) (.int .i64 0) (.int .i64 0) (.int .i64 0) (.int .i64 0) (.slice none 0 0) (.slice none 0 0)) /\ (B7 wr (g9) (.int .i64 K) (.int .i64 B) (.int .i64 F) (.int .i64 R) (.int .i64 O) (.slice pd zs.length cd) (.slice (some ⟨gq, 0, none⟩) m m)) /\ wr.ownsRow w1.heap.size 3 1 (.slice pd zs.length cd) zs.length ((pm zs os).map (Value.int .i64)) /\ wr.ownsRow wc.heap.size 3 1 (.slice ps zs.length cs) zs.length ((st zs).map (Value.int .i64)) /\ wr.ownsRow w2.heap.size 29 2 (.slice (some ⟨gq, 0, none⟩) m m) m (flV ((pmV zs os vs).take j ++ List.replicate (m - j) ((0 : Int), (0 : Int)))) /\ Below w.heap.size w wr /\ wc.heap.size <= wr.heap.size)) (fun iv _ => m - (intOf iv).toNat)
  case atStart => exact ⟨0, rfl, Nat.zero_le _, HB0⟩
  case round =>
   obtain ⟨j, rfl, hj, HJ⟩ := hrel
   clear c0 c1 c2 c3 c4 c5 c6 m0 m1 m2 m3 m4 m5 m6 TB5 RB5 HD5 HP5 HV5 HS5 KB5 HB0 TBC RBC KBC HPC HD HV HBX TB RB9 KB TB2 RB2 KB2 ST
   obtain ⟨TJ, RJ, DJ, PJ, SJ, VJ, KJ, hsj⟩ := HJ.out
   by_cases hjm : j < m
   ·have hj2 : (j : Int) < m := by omega
    have hj0 : (0 : Int) <= j := by omega
    have PT := Lib.hid fun u h => PTF.out pd cd (j : Int) hj0 (by rw [<- TL.out]; exact hj2) u h
    go_wp2_with (go_at_call 73; (with_reducible refine (PT.out _ (Lib.hid (SlI_of PJ (by rw [pm_length]; exact HOL.out)))).mono ?_); rintro e w6 ⟨v6, rfl, hb6, O6⟩; obtain ⟨pp, cp, rfl⟩ := own_slice O6; obtain ⟨B6, hB6⟩ : ∃ b, wr.heap.size = b := ⟨_, rfl⟩; rw [hB6] at O6; replace hB6 := Lib.hid hB6; have KB6 := KJ.trans (hb6.mono KJ.size); have TB6 := B7.keep hb6 TJ.lt TJ; have RB6 := B7.keep hb6 RJ.lt RJ; have HD6 := B7.keep hb6 DJ.lt DJ; have HP6 := own_belowE PJ hb6; have HS6 := own_belowE SJ hb6; have HV6 := own_belowE VJ hb6; have HQ6 := O6; have hs6 := hb6.size; have HB6 := Lib.hid (And.intro HQ6 (And.intro TB6 (And.intro RB6 (And.intro HD6 (And.intro HP6 (And.intro HS6 (And.intro HV6 (And.intro KB6 (Nat.le_trans hsj hs6))))))))); clear hb6 O6 KB6 TB6 RB6 HD6 HP6 HS6 HV6 HQ6)
    go_loopw [14, 59] (fun fv iv wr => ∃ (k : Nat) (S : Int), fv = .int .i64 S /\ iv = .int .i64 (k : Int) /\ k <= zs.length /\ 0 <= S /\ S < m /\ Hid (S = frS zs os j k) /\ Hid (wr.ownsRow B6 3 1 (.slice pp zs.length cp) zs.length ((pt (pm zs os) j).map (Value.int .i64)) /\ (B7 wr (w.heap.size) (.int .i64 K) (.int .i64 B) (.int .i64 F) (.int .i64 R) (.int .i64 O) (.slice p zs.length c) (.slice (some ⟨vb, vo, none⟩) m d)) /\ (B7 wr (w.heap.size + 1) (.int .i64 0) (.int .i64 0) (.int .i64 0) (.int .i64 0) (.int .i64 0) (.slice none 0 0) (.slice none 0 0)) /\ (B7 wr (g9) (.int .i64 K) (.int .i64 B) (.int .i64 F) (.int .i64 R) (.int .i64 O) (.slice pd zs.length cd) (.slice (some ⟨gq, 0, none⟩) m m)) /\ wr.ownsRow w1.heap.size 3 1 (.slice pd zs.length cd) zs.length ((pm zs os).map (Value.int .i64)) /\ wr.ownsRow wc.heap.size 3 1 (.slice ps zs.length cs) zs.length ((st zs).map (Value.int .i64)) /\ wr.ownsRow w2.heap.size 29 2 (.slice (some ⟨gq, 0, none⟩) m m) m (flV ((pmV zs os vs).take j ++ List.replicate (m - j) ((0 : Int), (0 : Int)))) /\ Below w.heap.size w wr /\ wc.heap.size <= wr.heap.size)) (fun _ iv _ => zs.length - (intOf iv).toNat)
    case atStart => exact ⟨0, 0, rfl, rfl, Nat.zero_le _, Int.le_refl _, by omega, Lib.hid rfl, HB6⟩
    case round =>
     obtain ⟨k, S, rfl, rfl, hk, s0, s1, HSk, HKB⟩ := hrel
     obtain ⟨QK, TK, RK, DK, PK, SK, VK, KK0, hsk⟩ := HKB.out
     by_cases hkn : k < zs.length
     ·obtain ⟨g0, g1, -⟩ := HGD.out k hkn
      obtain ⟨xb, xo, hxx, hxc⟩ := RX.out k (by rw [HOL.out]; exact hkn)
      subst hxx
      have hxw : xb < w.heap.size := World.block_lt_of_cell? _ _ hxc
      replace hxc := Rg.keep KK0 hxw hxc
      obtain ⟨ax, hax⟩ : ∃ ax : Nat, os.getD k 0 = ax := ⟨(os.getD k 0).toNat, by omega⟩
      rw [hax] at hxc g1
      obtain ⟨bp, bo, hpp, hpc⟩ := SlI_of QK (pt_len2 HOL.out) k (by rw [pt_len2 HOL.out]; exact hkn)
      subst hpp
      obtain ⟨bs, bso, hss, hsc⟩ := SlI_of SK (st_length zs) ax (by rw [st_length]; omega)
      subst hss
      have hfs := frS_succ zs os j k
      have hfb := FB.out j (k + 1) hkn
      have hft := FT.out j k hkn
      rw [hax, Int.toNat_natCast] at hfs hft
      obtain ⟨A1, hA1⟩ : ∃ A, (pt (pm zs os) j).getD k 0 = A := ⟨_, rfl⟩
      obtain ⟨B1, hB1⟩ : ∃ A, (st zs).getD ax 0 = A := ⟨_, rfl⟩
      rw [hA1] at hpc hfs hft
      rw [hB1] at hsc hfs hft
      obtain ⟨P1, hP1⟩ : ∃ A, A1 * B1 = A := ⟨_, rfl⟩
      rw [hP1] at hfs hft
      obtain ⟨S1, hS1⟩ : ∃ A, frS zs os j (k + 1) = A := ⟨_, rfl⟩
      rw [hS1] at hfs hfb
      rw [<- HSk.out] at hfs
      rw [<- TL.out] at hfb
      have HS1 := Lib.hid hS1
      obtain ⟨w1', w2', hk2, hk0, ha2, ha0⟩ := pm_nums hP1 hft s0 hfs hfb m4 hkn g1
      have hb0 : 0 <= S1 := hfb.1
      have hb1 : S1 < m := hfb.2
      clear hfs hfb hft hA1 hB1 hS1 hax g0
      go_upto_region 17 with fail
      go_quiet (fail)
      rw [w1', w2']
      have HKB2 : Hid ((wr.drewN nq).ownsRow B6 3 1 (.slice (some ⟨bp, bo, none⟩) zs.length cp) zs.length ((pt (pm zs os) j).map (Value.int .i64)) /\ (B7 (wr.drewN nq) (w.heap.size) (.int .i64 K) (.int .i64 B) (.int .i64 F) (.int .i64 R) (.int .i64 O) (.slice p zs.length c) (.slice (some ⟨vb, vo, none⟩) m d)) /\ (B7 (wr.drewN nq) (w.heap.size + 1) (.int .i64 0) (.int .i64 0) (.int .i64 0) (.int .i64 0) (.int .i64 0) (.slice none 0 0) (.slice none 0 0)) /\ (B7 (wr.drewN nq) (g9) (.int .i64 K) (.int .i64 B) (.int .i64 F) (.int .i64 R) (.int .i64 O) (.slice pd zs.length cd) (.slice (some ⟨gq, 0, none⟩) m m)) /\ (wr.drewN nq).ownsRow w1.heap.size 3 1 (.slice pd zs.length cd) zs.length ((pm zs os).map (Value.int .i64)) /\ (wr.drewN nq).ownsRow wc.heap.size 3 1 (.slice (some ⟨bs, bso, none⟩) zs.length cs) zs.length ((st zs).map (Value.int .i64)) /\ (wr.drewN nq).ownsRow w2.heap.size 29 2 (.slice (some ⟨gq, 0, none⟩) m m) m (flV ((pmV zs os vs).take j ++ List.replicate (m - j) ((0 : Int), (0 : Int)))) /\ Below w.heap.size w (wr.drewN nq) /\ wc.heap.size <= (wr.drewN nq).heap.size) := Lib.hid ⟨QK, TK, RK, DK, PK, SK, VK, below_drewN KK0 _, hsk⟩
      clear w1' w2' hP1 hxc hpc hsc
      go_wp2_with fail
      go_roundw
      case rel => exact ⟨k + 1, S1, rfl, by simp, by omega, hb0, hb1, Lib.hid HS1.out.symm, HKB2⟩
      case measure => simp [intOf]; omega
     ·have hke : k = zs.length := by omega
      subst hke
      obtain ⟨f, rfl⟩ : ∃ f : Nat, S = (f : Int) := ⟨S.toNat, by omega⟩
      have hfm : f < m := by omega
      have hsp9 := HSk.out
      obtain ⟨b', o', ee, v0, v1⟩ := RB.out f (by rw [HM.out]; exact hfm)
      cases ee
      have hvb : vb < w.heap.size := World.block_lt_of_cell? _ _ v0
      replace v0 := Rg.keep KK0 hvb v0
      replace v1 := Rg.keep KK0 hvb v1
      have hfl := fill_len HVL.out hj
      obtain ⟨s0', s1'⟩ := row_get VK hfl hjm
      have t0 := VK.frozenAt (j * 2)
      have t1 := VK.frozenAt (j * 2 + 1)
      have HSET := Lib.hid (fill_set HVL.out hjm)
      have hget := pmV_get (zs := zs) (os := os) (vs := vs) (a := j) (by rw [HM.out]; exact hjm)
      rw [<- hsp9, Int.toNat_natCast] at hget
      rw [hget] at HSET
      obtain ⟨y, hy⟩ : ∃ y, vs.getD f (0, 0) = y := ⟨_, rfl⟩
      rw [hy] at v0 v1 HSET
      obtain ⟨sv, hsv⟩ : ∃ sv, ((pmV zs os vs).take j ++ List.replicate (m - j) ((0 : Int), (0 : Int))).getD j (0, 0) = sv := ⟨_, rfl⟩
      rw [hsv] at s0' s1'
      obtain ⟨⟨c0, c1, c2, c3, c4, c5, c6⟩, -⟩ := TK
      obtain ⟨⟨m0, m1, m2, m3, m4, m5, m6⟩, -⟩ := DK
      have TK := HKB.out.2.1
      have DK := HKB.out.2.2.2.1
      have hgl := (VK.lt gq rfl)
      have hf2 : (f : Int) < m := by omega
      have hf0 : (0 : Int) <= f := by omega
      have hjj := Lib.hid hfl
      clear hy hsv hget hsp9 HSk hfl
      go_upto_region 19 with fail
      refine Rk.begin (S := fun wS => wS.cell? ⟨w.heap.size, 6, none⟩ = some (.slice (some ⟨vb, vo, none⟩) m d) /\ wS.cell? ⟨g9, 6, none⟩ = some (.slice (some ⟨gq, 0, none⟩) m m) /\ wS.cell? ⟨vb, vo + f * 2, none⟩ = some (.int .i64 y.1) /\ wS.cell? ⟨vb, vo + f * 2 + 1, none⟩ = some (.int .i64 y.2) /\ wS.cell? ⟨gq, j * 2, none⟩ = some (.int .i64 sv.1) /\ wS.cell? ⟨gq, j * 2 + 1, none⟩ = some (.int .i64 sv.2) /\ wS.frozen? ⟨gq, j * 2, none⟩ = false /\ wS.frozen? ⟨gq, j * 2 + 1, none⟩ = false /\ Below wr.heap.size wr wS) 9 (by kernel_rfl) ⟨c6, m6, v0, v1, s0', s1', t0, t1, Below.drew (Below.refl _ _)⟩ (fun hHeld => ?_)
      refine SqR.p 0 ?_
      refine SqR.l [9] 1 ?_
      refine SqR.p 2 ?_
      refine SqR.p 3 ?_
      refine SqR.l [9] 4 ?_
      refine SqR.p 5 ?_
      refine SqR.p 6 ?_
      refine SqR.l [9] 7 ?_
      refine SqR.p 8 ?_
      refine Rk.tail [9] [_] (by kernel_rfl) (by kernel_rfl) rfl (by decide) ?_
      obtain ⟨c6, m6, v0, v1, s0', s1', t0, t1, K30⟩ := hHeld
      go_wp2_with fail
      go_roundw
      case rel =>
       have h5 := row_two VK hjj.out hjm y.1 y.2
       rw [HSET.out] at h5
       exact ⟨j + 1, by simp, by omega, Lib.hid ⟨((TK.far (by omega)).far (by omega)).drew, ((RK.far (by omega)).far (by omega)).drew, ((DK.far (Ne.symm hne9)).far (Ne.symm hne9)).drew, ((PK.kept grown_set (own_two PK VK)).kept grown_set (own_two PK VK)).drew, ((SK.kept grown_set (own_two SK VK)).kept grown_set (own_two SK VK)).drew, h5.drew, ((KK0.setCell (p := ⟨gq, j * 2, none⟩) (by dsimp only; omega) _).setCell (p := ⟨gq, j * 2 + 1, none⟩) (by dsimp only; omega) _).drew, by simpa using hsk⟩⟩
      case measure => simp [intOf]; omega
   ·obtain rfl : j = m := by omega
    have HVE := VJ
    rw [fill_full HVL.out rfl] at HVE
    have lr : w.heap.size + 1 < wr.heap.size := RJ.lt
    obtain ⟨⟨z0, z1, z2, z3, z4, z5, z6⟩, ⟨f0, f1, f2, f3, f4, f5, f6⟩⟩ := RJ
    obtain ⟨⟨m0, m1, m2, m3, m4, m5, m6⟩, -⟩ := DJ
    have gN : decide ((j : Int) < j) = false := by simp
    have hg9j := HJ.out.2.2.1.lt
    clear HJ VJ
    go_upto_region 21 with fail
    repeat go_step
    have SBB := (((((((KJ).setCell (p := ⟨w.heap.size + 1, 0, none⟩) (by dsimp only; omega) (.int .i64 K)).setCell (p := ⟨w.heap.size + 1, 1, none⟩) (by dsimp only; omega) (.int .i64 B)).setCell (p := ⟨w.heap.size + 1, 2, none⟩) (by dsimp only; omega) (.int .i64 F)).setCell (p := ⟨w.heap.size + 1, 3, none⟩) (by dsimp only; omega) (.int .i64 R)).setCell (p := ⟨w.heap.size + 1, 4, none⟩) (by dsimp only; omega) (.int .i64 O)).setCell (p := ⟨w.heap.size + 1, 5, none⟩) (by dsimp only; omega) (.slice pd zs.length cd)).setCell (p := ⟨w.heap.size + 1, 6, none⟩) (by dsimp only; omega) (.slice (some ⟨gq, 0, none⟩) j j)
    have hlp : (pm zs os).length = zs.length := by rw [pm_length, HOL.out]
    refine bodyPost_ret (v := .tuple #[Tn K B F R O pd zs.length cd (some ⟨gq, 0, none⟩) j j, .int .i64 0]) (by simp [results, Tryz.results37, go_sem, z0, f0, z1, f1, z2, f2, z3, f3, z4, f4, z5, f5, z6, f6, lr, Tn]) rfl ?_
    refine ⟨pd, cd, some ⟨gq, 0, none⟩, j, by rw [hlp, HVL.out], ?_, ?_, SBB⟩
    ·rw [hlp]; exact own_base (own_set (own_set (own_set (own_set (own_set (own_set (own_set PJ (by dsimp only; omega)) (by dsimp only; omega)) (by dsimp only; omega)) (by dsimp only; omega)) (by dsimp only; omega)) (by dsimp only; omega)) (by dsimp only; omega)) (by omega)
    ·rw [HVL.out]; exact own_base (own_set (own_set (own_set (own_set (own_set (own_set (own_set HVE (by dsimp only; omega)) (by dsimp only; omega)) (by dsimp only; omega)) (by dsimp only; omega)) (by dsimp only; omega)) (by dsimp only; omega)) (by dsimp only; omega)) (by omega)
end Go.Proofs.YteaaikmejacpaaaGreatDoor.Te


namespace Go.Proofs.YteaaikmejacpaaaGreatDoor.Va
open Go.ChangeShapes Go.WideShapes Go.ChangeAt Go.RowKit
open Fr Fx
set_option maxRecDepth 8000
set_option linter.unusedVariables false
set_option linter.unusedSimpArgs false
set_option maxRecDepth 8000
theorem dval_floor {n d : Int} (hd : 0 < d) (n0 : -9223372036854775808 <= n) : Dv.dval 1 n d = n / d /\ Dv.dval 1 n d = (if n.tmod d < 0 then n.tdiv d - 1 else n.tdiv d) := by
 have e1 : Dv.dval 1 n d = Plain.rnd 1 (n.tdiv d) (n.tmod d) d := by unfold Dv.dval; rw [if_neg (by omega), if_neg (by omega), if_neg (by omega)]
 have F := floor_eq n d hd
 rw [e1]
 unfold Plain.rnd
 by_cases h : n.tmod d < 0
 ·obtain ⟨f1, _⟩ := F.1 h
  rw [if_neg (by omega), if_neg (by omega), if_pos rfl, if_neg (by omega), if_pos h]
  exact ⟨f1.symm, rfl⟩
 ·obtain ⟨f1, _⟩ := F.2 h
  by_cases h0 : n.tmod d = 0
  ·rw [if_pos h0, if_neg h]; exact ⟨f1.symm, rfl⟩
  ·rw [if_neg h0, if_neg (by omega), if_pos rfl, if_pos (by omega), if_neg h]; exact ⟨f1.symm, rfl⟩
set_option maxHeartbeats 4000000 in
theorem r_floor (n d : Int) (w : World) (n0 : -4611686020574871552 <= n) (n1 : n <= 4611686020574871552) (d0 : 1 <= d) (d1 : d <= 4611686020574871552) :
  Calls Tryz.prog 120 #[.int .i64 n, .int .i64 d] w fun e w' => e = .returned (.int .i64 (Dv.dval 1 n d)) /\ w = w' := by
 rw [(dval_floor (by omega) (by omega)).2]
 have F := Plain.tfacts n d (by omega)
 have T := tdiv_bound n d (by omega)
 have E := Int.mul_tdiv_add_tmod n d
 rw [Int.mul_comm] at E
 obtain ⟨q, hq⟩ : ∃ q, n.tdiv d = q := ⟨_, rfl⟩
 obtain ⟨r, hr⟩ : ∃ r, n.tmod d = r := ⟨_, rfl⟩
 rw [hq] at T E ⊢
 rw [hr] at E ⊢
 rw [hq, hr] at F
 obtain ⟨P, hP⟩ : ∃ P, q * d = P := ⟨_, rfl⟩
 rw [hP] at E
 obtain ⟨F1, F2, F3, F4, F5⟩ := F
 have dz : (d == 0) = false := by simp; omega
 have P0 : -4611686020574871552 <= P := by omega
 have P1 : P <= 4611686020574871552 := by omega
 have q0 : -4611686020574871552 <= q := by omega
 have q1 : q <= 4611686020574871552 := by omega
 by_cases h : r < 0
 ·rw [if_pos h]
  have k : decide (n < P) = true := by simp; omega
  clear F1 F2 F3 F4 F5 E T h hr
  go_enter Tryz.func120, Tryz.ntmps120
  go_wp2
  go_ret
  exact ⟨rfl, rfl⟩
 ·rw [if_neg h]
  have k : decide (n < P) = false := by simp; omega
  clear F1 F2 F3 F4 F5 E T h hr
  go_enter Tryz.func120, Tryz.ntmps120
  go_wp2
  go_ret
  exact ⟨rfl, rfl⟩
set_option maxHeartbeats 8000000 in
theorem r_round (n d how : Int) (w : World) (m0 : 1 <= how) (m1 : how <= 4) (n0 : -4611686018427387904 <= n) (n1 : n <= 4611686018427387904) (d0 : 1 <= d) (d1 : d <= 2305843009213693952) :
  Calls Tryz.prog 118 #[.int .i64 n, .int .i64 d, .int .i64 how] w fun e w' => e = .returned (.int .i64 (Dv.dval how n d)) /\ w = w' := by
 have FL := Lib.hid fun w => r_floor n d w (by omega) (by omega) d0 (by omega)
 obtain ⟨Q, hQ⟩ : ∃ Q, Dv.dval 1 n d = Q := ⟨_, rfl⟩
 obtain ⟨X0, X1, HR⟩ := rnd_floor how n d Q (by omega) m0 m1 hQ (by omega)
 have QB : -4611686018427387905 <= Q /\ Q <= 4611686018427387904 := by
  have T := tdiv_bound n d (by omega)
  have := (dval_floor (n := n) (d := d) (by omega) (by omega)).2
  rw [hQ] at this
  split at this <;> omega
 rw [hQ] at FL
 have HE := Lib.hid (Plain.even_iff Q)
 obtain ⟨P, hP⟩ : ∃ P, Q * d = P := ⟨_, rfl⟩
 rw [hP] at X0 X1 HR
 obtain ⟨Xn, hX⟩ : ∃ X, n - P = X := ⟨_, rfl⟩
 rw [hX] at X0 X1 HR
 rw [HR]
 obtain ⟨A, hA⟩ : ∃ A, (if Xn = 0 \/ how = 1 then Q else if how = 2 then Q + 1 else if how = 3 then (if n < 0 then Q + 1 else Q) else if d - Xn < Xn \/ (Xn = d - Xn /\ Q % 2 ≠ 0) then Q + 1 else Q) = A := ⟨_, rfl⟩
 rw [hA]
 have HA := Lib.hid hA
 have PB : -9223372036854775808 <= P /\ P <= 9223372036854775807 := by omega
 clear hA HR hQ
 obtain ⟨q0, q1⟩ := QB
 obtain ⟨P0, P1⟩ := PB
 obtain ⟨D, hD⟩ : ∃ D, d - Xn = D := ⟨_, rfl⟩
 have hA := HA.out
 clear HA
 by_cases hz : Xn = 0
 ·subst hz
  rw [if_pos (Or.inl rfl)] at hA
  subst hA
  clear HE hD
  go_enter Tryz.func118, Tryz.ntmps118
  go_wp2_with (first | (go_at_call 120; (with_reducible refine (FL.out _).mono ?_); rintro e w9 ⟨rfl, rfl⟩))
  go_ret
  exact ⟨rfl, rfl⟩
 have z1 : (Xn == 0) = false := by simpa using hz
 rcases (by omega : how = 1 \/ how = 2 \/ how = 3 \/ how = 4) with rfl | rfl | rfl | rfl
 ·rw [if_pos (Or.inr rfl)] at hA
  subst hA
  clear HE hD hz
  go_enter Tryz.func118, Tryz.ntmps118
  go_wp2_with (first | (go_at_call 120; (with_reducible refine (FL.out _).mono ?_); rintro e w9 ⟨rfl, rfl⟩))
  go_ret
  exact ⟨rfl, rfl⟩
 ·rw [if_neg (by omega), if_pos rfl] at hA
  subst hA
  clear HE hD hz
  go_enter Tryz.func118, Tryz.ntmps118
  go_wp2_with (first | (go_at_call 120; (with_reducible refine (FL.out _).mono ?_); rintro e w9 ⟨rfl, rfl⟩))
  go_ret
  exact ⟨rfl, rfl⟩
 ·rw [if_neg (by omega), if_neg (by omega), if_pos rfl] at hA
  by_cases hn : n < 0
  ·rw [if_pos hn] at hA
   have n2 : decide (n < 0) = true := by simpa using hn
   subst hA
   clear HE hD hz hn
   go_enter Tryz.func118, Tryz.ntmps118
   go_wp2_with (first | (go_at_call 120; (with_reducible refine (FL.out _).mono ?_); rintro e w9 ⟨rfl, rfl⟩))
   go_ret
   exact ⟨rfl, rfl⟩
  ·rw [if_neg hn] at hA
   have n2 : decide (n < 0) = false := by simpa using hn
   subst hA
   clear HE hD hz hn
   go_enter Tryz.func118, Tryz.ntmps118
   go_wp2_with (first | (go_at_call 120; (with_reducible refine (FL.out _).mono ?_); rintro e w9 ⟨rfl, rfl⟩))
   go_ret
   exact ⟨rfl, rfl⟩
 ·rw [if_neg (by omega), if_neg (by omega), if_neg (by omega)] at hA
  rw [hD] at hA
  by_cases h1 : D < Xn
  ·rw [if_pos (Or.inl h1)] at hA
   have k1 : decide (D < Xn) = true := by simpa using h1
   subst hA
   clear HE hz h1
   go_enter Tryz.func118, Tryz.ntmps118
   go_wp2_with (first | (go_at_call 120; (with_reducible refine (FL.out _).mono ?_); rintro e w9 ⟨rfl, rfl⟩))
   go_ret
   exact ⟨rfl, rfl⟩
  ·have k1 : decide (D < Xn) = false := by simpa using h1
   by_cases h2 : Xn = D
   ·subst h2
    by_cases h3 : Q % 2 = 0
    ·rw [if_neg (by omega)] at hA
     have k3 : Q.tmod 2 = 0 := HE.out.mpr h3
     subst hA
     clear HE hz h1 h3
     go_enter Tryz.func118, Tryz.ntmps118
     go_wp2_with (first | (go_at_call 120; (with_reducible refine (FL.out _).mono ?_); rintro e w9 ⟨rfl, rfl⟩))
     go_ret
     exact ⟨rfl, rfl⟩
    ·rw [if_pos (Or.inr ⟨rfl, h3⟩)] at hA
     have k3 : (Q.tmod 2 == 0) = false := by
      cases e : (Q.tmod 2 == 0)
      ·rfl
      ·exact absurd (HE.out.mp (by simpa using e)) h3
     subst hA
     clear HE hz h1 h3
     go_enter Tryz.func118, Tryz.ntmps118
     go_wp2_with (first | (go_at_call 120; (with_reducible refine (FL.out _).mono ?_); rintro e w9 ⟨rfl, rfl⟩))
     go_ret
     exact ⟨rfl, rfl⟩
   ·rw [if_neg (by omega)] at hA
    have k2 : (Xn == D) = false := by simpa using h2
    subst hA
    clear HE hz h1 h2
    go_enter Tryz.func118, Tryz.ntmps118
    go_wp2_with (first | (go_at_call 120; (with_reducible refine (FL.out _).mono ?_); rintro e w9 ⟨rfl, rfl⟩))
    go_ret
    exact ⟨rfl, rfl⟩
theorem retV {a b : Int} (h : a = b) : Ending.returned (V2 a 1) = .returned (V2 b 1) := by rw [h]
set_option maxHeartbeats 8000000 in
theorem r_fit (K B F R O n : Int) (w : World) (h : tv K B F R O = true) (n0 : -4611686018427387904 <= n) (n1 : n <= 4611686018427387904) :
  Calls Tryz.prog 117 #[T5 K B F R O, .int .i64 n] w (Ret (V2 (Nx.nv n B O) 1) w) := by
 obtain ⟨-, h2, h3, -, -, -, -, h8⟩ := tv_parts h
 obtain ⟨H1, H2, H3, H4⟩ := half_of h2 h3
 have hg : ¬ Nx.nbad B O := by unfold Nx.nbad; omega
 have HV : Nx.nv n B O = if n < - Nx.half B then (if O = 1 then - Nx.half B else (n + Nx.half B) % (2 * Nx.half B) - Nx.half B)
   else if Nx.half B - 1 < n then (if O = 1 then Nx.half B - 1 else (n + Nx.half B) % (2 * Nx.half B) - Nx.half B) else n := by
  unfold Nx.nv; rw [if_neg hg, H4]
 rw [HV]
 clear HV hg H4 h
 generalize Nx.half B = H at *
 have g1 : 0 <= B - 1 := by omega
 rcases h8 with h8 | h8
 ·subst h8
  have o1 : ((1 : Int) == 2) = false := rfl
  simp only [eq_self, if_true]
  obtain ⟨A, hA⟩ : ∃ A, (if n < -H then -H else if H - 1 < n then H - 1 else n) = A := ⟨_, rfl⟩
  rw [hA]
  have HA := Lib.hid hA
  clear hA
  go_enter Tryz.func117, Tryz.ntmps117
  go_wp2
  all_goals
   refine bodyPost_ret (v := V2 _ 1) (by simp [results, Tryz.results117, go_sem]; first | rfl | exact ⟨rfl, rfl⟩) rfl ⟨?_, by go_grown⟩
   refine retV ?_
   have hA := HA.out
   rw [<- hA]
   clear hA HA
   (repeat' split) <;> omega
 ·subst h8
  have FL := Lib.hid fun w => r_floor (n + H) (2 * H) w (by omega) (by omega) (by omega) (by omega)
  obtain ⟨Q, hQ⟩ : ∃ Q, Dv.dval 1 (n + H) (2 * H) = Q := ⟨_, rfl⟩
  rw [hQ] at FL
  rw [(dval_floor (by omega) (by omega)).1] at hQ
  have E := Int.mul_ediv_add_emod (n + H) (2 * H)
  have X0 := Int.emod_nonneg (n + H) (b := 2 * H) (by omega)
  have X1 := Int.emod_lt_of_pos (n + H) (b := 2 * H) (by omega)
  rw [hQ] at E
  obtain ⟨M, hM⟩ : ∃ M, (n + H) % (2 * H) = M := ⟨_, rfl⟩
  rw [hM] at E X0 X1 ⊢
  obtain ⟨P, hP⟩ : ∃ P, Q * 2 * H = P := ⟨_, rfl⟩
  have E2 : 2 * H * Q = P := by rw [<- hP, Int.mul_comm Q 2, Int.mul_assoc, Int.mul_assoc, Int.mul_comm H Q]
  rw [E2] at E
  have hQB : -4611686020574871552 <= Q /\ Q <= 4611686020574871552 := by
   rw [<- hQ]
   constructor
   ·exact Int.le_ediv_of_mul_le (by omega) (by omega)
   ·exact Int.ediv_le_of_le_mul (by omega) (by omega)
  obtain ⟨A, hA⟩ : ∃ A, (if n < -H then (if (2 : Int) = 1 then -H else M - H) else if H - 1 < n then (if (2 : Int) = 1 then H - 1 else M - H) else n) = A := ⟨_, rfl⟩
  rw [hA]
  have hM2 : 0 <= n + H -> n + H < 2 * H -> M = n + H := fun a b => by rw [<- hM]; exact Int.emod_eq_of_lt a b
  have hA2 : A = M - H := by
   rw [<- hA]
   split
   ·rfl
   ·split
    ·rfl
    ·have := hM2 (by omega) (by omega)
     omega
  have hA3 : n - P = A := by omega
  have A0 : -H <= A := by omega
  have A1 : A <= H - 1 := by omega
  obtain ⟨q0, q1⟩ := hQB
  have qb : -4611686020574871552 <= Q * 2 /\ Q * 2 <= 4611686020574871552 := by
   constructor
   ·by_cases h : -2305843009213693952 <= Q
    ·omega
    ·exfalso
     have := Int.mul_le_mul_of_nonneg_left (show (Q : Int) <= -2305843009213693953 by omega) (show 0 <= 2 * H by omega)
     omega
   ·by_cases h : Q <= 2305843009213693951
    ·omega
    ·exfalso
     have := Int.mul_le_mul_of_nonneg_left (show (2305843009213693952 : Int) <= Q by omega) (show 0 <= 2 * H by omega)
     omega
  have PB : -9223372036854775808 <= P /\ P <= 9223372036854775807 := by omega
  obtain ⟨q2, q3⟩ := qb
  obtain ⟨P0, P1⟩ := PB
  have m1 : min (H - 1) A = A := by omega
  have m2 : max (-H) A = A := by omega
  clear hA hA2 hM2 hM E E2 X0 X1 hQ
  go_enter Tryz.func117, Tryz.ntmps117
  go_wp2_with (first | (go_at_call 120; (with_reducible refine (FL.out _).mono ?_); rintro e w9 ⟨rfl, rfl⟩))
  all_goals
   refine bodyPost_ret (v := V2 _ 1) (by simp [results, Tryz.results117, go_sem]; first | rfl | exact ⟨rfl, rfl⟩) rfl ⟨?_, by go_grown⟩
   refine retV ?_
   omega
end Go.Proofs.YteaaikmejacpaaaGreatDoor.Va


namespace Go.Proofs.YteaaikmejacpaaaGreatDoor.Va
open Go.ChangeShapes Go.WideShapes Go.ChangeAt Go.RowKit
open Fr Fx
set_option maxRecDepth 8000
set_option linter.unusedVariables false
set_option linter.unusedSimpArgs false
set_option maxRecDepth 8000

end Go.Proofs.YteaaikmejacpaaaGreatDoor.Va


namespace Go.Proofs.YteaaikmejacpaaaGreatDoor.Tx
open Go.ChangeShapes Go.WideShapes Go.ChangeAt Go.RowKit
open Fr Fx
set_option maxRecDepth 8000
set_option linter.unusedVariables false
set_option linter.unusedSimpArgs false
set_option maxRecDepth 8000

def neg : List UInt8 -> Bool
 | [] => false
 | c :: _ => decide (c.toNat = 45)
def bd (l : List UInt8) : List UInt8 := if neg l then l.tail else l

def nv10 : Nat -> List UInt8 -> Nat
 | a, [] => a
 | a, c :: r => nv10 (a * 10 + (c.toNat - 48)) r
def av (l : List UInt8) : Nat := nv10 0 (bd l)
def sv (l : List UInt8) : Int := if neg l then -(av l : Int) else av l

/-- The text of Format. -/
def fmv (n d : Int) : List UInt8 := if vld n d = false then [] else if d = 1 then Lib.itoa n else Lib.itoa n ++ 47 :: Lib.itoa d
theorem dec_small {k : Nat} (h : k < 10) : Lib.decDigits k = [UInt8.ofNat (48 + k)] := by rw [Lib.decDigits, dif_pos h]
theorem dec_big {k : Nat} (h : ¬ k < 10) : Lib.decDigits k = Lib.decDigits (k / 10) ++ [UInt8.ofNat (48 + k % 10)] := by rw [Lib.decDigits, dif_neg h]

end Go.Proofs.YteaaikmejacpaaaGreatDoor.Tx


namespace Go.Proofs
open Go.Shelf

def Tryz.laysM173_ren : Go.Shelf.Ren := ⟨fun | 173 => 155 | 246 => 170 | 283 => 174 | 284 => 175 | 285 => 176 | 286 => 177 | 129 => 182 | 317 => 181 | 318 => 183 | 319 => 184 | 320 => 185 | 337 => 186 | 338 => 187 | n => n, fun | 2 => 2 | 3 => 3 | 9 => 9 | 4 => 4 | 171 => 169 | 0 => 0 | 53 => 130 | 37 => 96 | 5 => 5 | 173 => 172 | 212 => 177 | 51 => 134 | 20 => 20 | 213 => 178 | 46 => 106 | 232 => 181 | 233 => 182 | n => n, fun | 17 => 0 | 18 => 1 | 19 => 2 | n => n⟩

theorem Tryz.laysM173 : Go.Proofs.LaysM.n173 Tryz.prog Tryz.laysM173_ren := {
 mixed := by kernel_rfl
 f129 := Tryz.func182.trans (congrArg some (by kernel_rfl))
 f173 := Tryz.func155.trans (congrArg some (by kernel_rfl))
 f246 := Tryz.func170.trans (congrArg some (by kernel_rfl))
 f283 := Tryz.func174.trans (congrArg some (by kernel_rfl))
 f284 := Tryz.func175.trans (congrArg some (by kernel_rfl))
 f285 := Tryz.func176.trans (congrArg some (by kernel_rfl))
 f286 := Tryz.func177.trans (congrArg some (by kernel_rfl))
 f317 := Tryz.func181.trans (congrArg some (by kernel_rfl))
 f318 := Tryz.func183.trans (congrArg some (by kernel_rfl))
 f319 := Tryz.func184.trans (congrArg some (by kernel_rfl))
 f320 := Tryz.func185.trans (congrArg some (by kernel_rfl))
 f337 := Tryz.func186.trans (congrArg some (by kernel_rfl))
 f338 := Tryz.func187.trans (congrArg some (by kernel_rfl))
 t0 := Tryz.underlying0
 a0 := Tryz.isAgg0
 z0 := Tryz.sizeOf0
 v0 := Tryz.zeroValue0
 t2 := Tryz.underlying2
 a2 := Tryz.isAgg2
 z2 := Tryz.sizeOf2
 v2 := Tryz.zeroValue2
 t3 := Tryz.underlying3
 a3 := Tryz.isAgg3
 z3 := Tryz.sizeOf3
 v3 := Tryz.zeroValue3
 t4 := Tryz.underlying4
 a4 := Tryz.isAgg4
 z4 := Tryz.sizeOf4
 v4 := Tryz.zeroValue4
 t5 := Tryz.underlying5
 a5 := Tryz.isAgg5
 z5 := Tryz.sizeOf5
 v5 := Tryz.zeroValue5
 t9 := Tryz.underlying9
 a9 := Tryz.isAgg9
 z9 := Tryz.sizeOf9
 v9 := Tryz.zeroValue9
 t20 := Tryz.underlying20
 a20 := Tryz.isAgg20
 z20 := Tryz.sizeOf20
 v20 := Tryz.zeroValue20
 t37 := Tryz.underlying96
 a37 := Tryz.isAgg96
 z37 := Tryz.sizeOf96
 v37 := Tryz.zeroValue96
 t46 := Tryz.underlying106
 a46 := Tryz.isAgg106
 z46 := Tryz.sizeOf106
 v46 := Tryz.zeroValue106
 t51 := Tryz.underlying134
 a51 := Tryz.isAgg134
 z51 := Tryz.sizeOf134
 v51 := Tryz.zeroValue134
 t53 := Tryz.underlying130
 a53 := Tryz.isAgg130
 z53 := Tryz.sizeOf130
 v53 := Tryz.zeroValue130
 t171 := Tryz.underlying169
 a171 := Tryz.isAgg169
 z171 := Tryz.sizeOf169
 v171 := Tryz.zeroValue169
 t173 := Tryz.underlying172
 a173 := Tryz.isAgg172
 z173 := Tryz.sizeOf172
 v173 := Tryz.zeroValue172
 t212 := Tryz.underlying177
 a212 := Tryz.isAgg177
 z212 := Tryz.sizeOf177
 v212 := Tryz.zeroValue177
 t213 := Tryz.underlying178
 a213 := Tryz.isAgg178
 z213 := Tryz.sizeOf178
 t232 := Tryz.underlying181
 a232 := Tryz.isAgg181
 z232 := Tryz.sizeOf181
 v232 := Tryz.zeroValue181
 t233 := Tryz.underlying182
 a233 := Tryz.isAgg182
 z233 := Tryz.sizeOf182
 v233 := Tryz.zeroValue182
 g17 := by kernel_rfl
 g18 := by kernel_rfl
 g19 := by kernel_rfl
 i0 := by kernel_rfl
 i2 := by kernel_rfl
 i3 := by kernel_rfl
 i4 := by kernel_rfl
 i5 := by kernel_rfl
 i9 := by kernel_rfl
 i20 := by kernel_rfl
 i37 := by kernel_rfl
 i46 := by kernel_rfl
 i51 := by kernel_rfl
 i53 := by kernel_rfl
 i171 := by kernel_rfl
 i173 := by kernel_rfl
 i212 := by kernel_rfl
 i232 := by kernel_rfl
 i233 := by kernel_rfl
 m17 := by kernel_rfl
 m18 := by kernel_rfl
 m19 := by kernel_rfl }

open Go.RowKit Go.Sort Go.Lib in
/-- strconv.FormatInt: "FormatInt returns the string representation of i in the given base": AT BASE 10: i's decimal numeral, for every int64. (LAID: no walk: one application.) -/
theorem Tryz.strconv_FormatInt_10 (n : Int) (h0 : -9223372036854775808 <= n) (h1 : n <= 9223372036854775807) (w : World) (htab : Lib.TabIs Tryz.prog w "internal/strconv.uint64pow10" .u64 Lib.pow10Tab) :
  Calls Tryz.prog 155 #[.int .i64 n, .int .i64 10] w fun e w' => e = .returned (.string ⟨(Lib.itoa n).toArray⟩) /\ ∃ k os, w' = grow (w.drewN k) os := Any.strconv_FormatInt_10 Tryz.laysM173 n h0 h1 w htab

end Go.Proofs


namespace Go.Proofs.YteaaikmejacpaaaGreatDoor.Tx
open Go.ChangeShapes Go.WideShapes Go.ChangeAt Go.RowKit
open Fr Fx
set_option maxRecDepth 8000
set_option linter.unusedVariables false
set_option linter.unusedSimpArgs false
set_option maxRecDepth 8000
theorem rb {a b : Bool} (h : a = b) : Ending.returned (.bool a) = .returned (.bool b) := by rw [h]
/-- What the variables of Go's library hold. -/
def LA (w : World) : Prop := Lib.TabIs Tryz.prog w "internal/strconv.uint64pow10" .u64 Lib.pow10Tab /\ True
theorem LA.below {w w' : World} (h : LA w) (hb : Below w.heap.size w w') : LA w' := ⟨Joins.tab_stays (g := 0) (by kernel_rfl) h.1 hb (Nat.le_refl _), trivial⟩

end Go.Proofs.YteaaikmejacpaaaGreatDoor.Tx


namespace Go.Proofs.YteaaikmejacpaaaGreatDoor.Tx
open Go.ChangeShapes Go.WideShapes Go.ChangeAt Go.RowKit
open Fr Fx
set_option maxRecDepth 8000
set_option linter.unusedVariables false
set_option linter.unusedSimpArgs false
set_option maxRecDepth 8000

end Go.Proofs.YteaaikmejacpaaaGreatDoor.Tx


namespace Go.Proofs.YteaaikmejacpaaaGreatDoor.Tx
open Go.ChangeShapes Go.WideShapes Go.ChangeAt Go.RowKit
open Fr Fx
set_option maxRecDepth 8000
set_option linter.unusedVariables false
set_option linter.unusedSimpArgs false
set_option maxRecDepth 8000
end Go.Proofs.YteaaikmejacpaaaGreatDoor.Tx


namespace Go.Proofs.YteaaikmejacpaaaGreatDoor.Tx
open Go.ChangeShapes Go.WideShapes Go.ChangeAt Go.RowKit
open Fr Fx
set_option maxRecDepth 8000
set_option linter.unusedVariables false
set_option linter.unusedSimpArgs false
set_option maxRecDepth 8000

theorem c_fi (n : Int) (w : World) (n0 : -9223372036854775808 <= n) (n1 : n <= 9223372036854775807) (hL : LA w) : Calls Tryz.prog 155 #[.int .i64 n, .int .i64 10] w (Ret (.string ⟨(Lib.itoa n).toArray⟩) w) :=
 (Tryz.strconv_FormatInt_10 n n0 n1 w hL.1).mono fun e w' ⟨he, k, os, hw⟩ => ⟨he, by rw [hw]; exact Go.Lib.below_grow _ _ (Nat.le_refl _) k os⟩
theorem cat3 (a b : List UInt8) : (⟨a.toArray⟩ : ByteArray) ++ ((⟨#[47]⟩ : ByteArray) ++ (⟨b.toArray⟩ : ByteArray)) = ⟨(a ++ 47 :: b).toArray⟩ := by
 apply ByteArray.ext
 simp
theorem dec_len : ∀ (m k : Nat), k < 10 ^ (m + 1) -> (Lib.decDigits k).length <= m + 1
 | 0, k, h => by rw [dec_small (by simpa using h)]; simp
 | m + 1, k, h => by
  by_cases h10 : k < 10
  ·rw [dec_small h10]; simp
  ·rw [dec_big h10, List.length_append]
   have := dec_len m (k / 10) (by rw [Nat.pow_succ] at h; omega)
   simp; omega
theorem itoa_len {n : Int} (h0 : -2147483647 <= n) (h1 : n <= 2147483647) : (Lib.itoa n).length <= 11 := by
  have h := dec_len 9 n.natAbs (by have : (10 : Nat) ^ (9 + 1) = 10000000000 := by decide
                                   omega)
  unfold Lib.itoa
  split
  · simp; omega
  · rw [show n.toNat = n.natAbs by omega]; omega
theorem arr_size (l : List UInt8) : (⟨l.toArray⟩ : ByteArray).size = l.length := by rw [Lib.size_eq]
set_option maxHeartbeats 4000000 in
theorem c_fmt (n d : Int) (w : World) (hL : LA w) : Calls Tryz.prog 133 #[.agg #[.int .i64 n, .int .i64 d]] w (Ret (.string ⟨(fmv n d).toArray⟩) w) := by
 have LAh := Lib.hid hL
 have VA := Lib.hid fun w => valid_any n d w
 cases hv : vld n d
 ·rw [show fmv n d = [] by unfold fmv; rw [if_pos hv]]
  rw [hv] at VA
  clear hv hL
  go_enter Tryz.func133, Tryz.ntmps133
  go_wp2_with (first | (go_at_call 84; (with_reducible refine (VA.out _).mono ?_); rintro e w1 ⟨rfl, hb1⟩; have hc1 := (bcell hb1).1; have hf1 := (bcell hb1).2; have z1_0 : w.heap.size < w1.heap.size := SqB.z hb1; have K1 : Below w.heap.size w w1 := SqB.t hb1))
  go_ret
  exact ⟨rfl, K1⟩
 rw [hv] at VA
 obtain ⟨d0, d1, n0, n1, _⟩ := vld_parts hv
 have F1 := Lib.hid fun w h => c_fi n w (by omega) (by omega) h
 have F2 := Lib.hid fun w h => c_fi d w (by omega) (by omega) h
 have HF : Hid (∀ l, (if d = 1 then Lib.itoa n else Lib.itoa n ++ 47 :: Lib.itoa d) = l -> fmv n d = l) := Lib.hid fun l hl => by
  unfold fmv; rw [if_neg (by rw [hv]; decide)]; exact hl
 clear hv hL
 by_cases h1 : d = 1
 ·rw [HF.out _ (if_pos h1)]
  have g1 : (d != 1) = false := by simpa using h1
  clear HF h1 F2
  generalize Lib.itoa n = a at *
  go_enter Tryz.func133, Tryz.ntmps133
  go_wp2_with (first | (go_at_call 84; (with_reducible refine (VA.out _).mono ?_); rintro e w1 ⟨rfl, hb1⟩; have hc1 := (bcell hb1).1; have hf1 := (bcell hb1).2; have z1_0 : w.heap.size < w1.heap.size := SqB.z hb1; have K1 : Below w.heap.size w w1 := SqB.t hb1) | (go_at_call 155; (with_reducible refine (F1.out _ (LAh.out.below (by exact SqB.b))).mono ?_); rintro e w2 ⟨rfl, hb2⟩; have hc2 := (bcell hb2).1; have hf2 := (bcell hb2).2; have z2_0 : w.heap.size < w2.heap.size := SqB.z hb2; have K2 : Below w.heap.size w w2 := SqB.t hb2))
  go_ret
  exact ⟨rfl, K2⟩
 ·rw [HF.out _ (if_neg h1), <- cat3]
  have g1 : (d != 1) = true := by simpa using h1
  clear HF h1
  have ha : (⟨(Lib.itoa n).toArray⟩ : ByteArray).size <= 11 := by rw [arr_size]; exact itoa_len n0 n1
  have hb : (⟨(Lib.itoa d).toArray⟩ : ByteArray).size <= 11 := by rw [arr_size]; exact itoa_len (by omega) d1
  generalize (⟨(Lib.itoa n).toArray⟩ : ByteArray) = a at *
  generalize (⟨(Lib.itoa d).toArray⟩ : ByteArray) = b at *
  have h1 : (⟨#[47]⟩ : ByteArray).size = 1 := rfl
  have h2 : ((⟨#[47]⟩ : ByteArray) ++ b).size = 1 + b.size := by rw [ByteArray.size_append, h1]
  have hb9 : ((⟨#[47]⟩ : ByteArray) ++ b).size <= 12 := by omega
  clear h1 h2
  go_enter Tryz.func133, Tryz.ntmps133
  go_wp2_with fail
  (with_reducible refine (VA.out _).mono ?_); rintro e w1 ⟨rfl, hb1⟩; have hc1 := (bcell hb1).1; have hf1 := (bcell hb1).2; have z1_0 : w.heap.size < w1.heap.size := SqB.z hb1; have K1 : Below w.heap.size w w1 := SqB.t hb1
  go_wp2_with fail
  (with_reducible refine (F1.out _ (LAh.out.below (by exact SqB.b))).mono ?_); rintro e w2 ⟨rfl, hb2⟩; have hc2 := (bcell hb2).1; have hf2 := (bcell hb2).2; have z2_0 : w.heap.size < w2.heap.size := SqB.z hb2; have K2 : Below w.heap.size w w2 := SqB.t hb2
  go_wp2_with fail
  (with_reducible refine (F2.out _ (LAh.out.below (by exact SqB.b))).mono ?_); rintro e w3 ⟨rfl, hb3⟩; have hc3 := (bcell hb3).1; have hf3 := (bcell hb3).2; have z3_0 : w.heap.size < w3.heap.size := SqB.z hb3; have K3 : Below w.heap.size w w3 := SqB.t hb3
  go_wp2
  go_ret
  exact ⟨rfl, K3⟩
end Go.Proofs.YteaaikmejacpaaaGreatDoor.Tx


namespace Go.Proofs.YteaaikmejacpaaaGreatDoor.Tx
open Go.ChangeShapes Go.WideShapes Go.ChangeAt Go.RowKit
open Fr Fx
set_option maxRecDepth 8000
set_option linter.unusedVariables false
set_option linter.unusedSimpArgs false
set_option maxRecDepth 8000
end Go.Proofs.YteaaikmejacpaaaGreatDoor.Tx


namespace Go.Proofs.YteaaikmejacpaaaGreatDoor.Tx
open Go.ChangeShapes Go.WideShapes Go.ChangeAt Go.RowKit
open Fr Fx
set_option maxRecDepth 8000
set_option linter.unusedVariables false
set_option linter.unusedSimpArgs false
set_option maxRecDepth 8000

end Go.Proofs.YteaaikmejacpaaaGreatDoor.Tx


namespace Go.Proofs.YteaaikmejacpaaaGreatDoor.Tx
open Go.ChangeShapes Go.WideShapes Go.ChangeAt Go.RowKit
open Fr Fx
set_option maxRecDepth 8000
set_option linter.unusedVariables false
set_option linter.unusedSimpArgs false
set_option maxRecDepth 8000

end Go.Proofs.YteaaikmejacpaaaGreatDoor.Tx


namespace Go.Proofs.YteaaikmejacpaaaGreatDoor.Tx
open Go.ChangeShapes Go.WideShapes Go.ChangeAt Go.RowKit
open Fr Fx
set_option maxRecDepth 8000
set_option linter.unusedVariables false
set_option linter.unusedSimpArgs false
set_option maxRecDepth 8000
end Go.Proofs.YteaaikmejacpaaaGreatDoor.Tx


namespace Go.Proofs.YteaaikmejacpaaaGreatDoor.Tx
open Go.ChangeShapes Go.WideShapes Go.ChangeAt Go.RowKit
open Fr Fx
set_option maxRecDepth 8000
set_option linter.unusedVariables false
set_option linter.unusedSimpArgs false
set_option maxRecDepth 8000

end Go.Proofs.YteaaikmejacpaaaGreatDoor.Tx
