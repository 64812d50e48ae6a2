/- Tensors: the reference's Reduce without a scan. -/
import Derived.Test.YteaaikmejacpaaaGreatDoorR0
import Derived.Test.YteaaikmejacpaaaGreatDoorR20
import Derived.Test.YteaaikmejacpaaaGreatDoorR23
import Derived.Deep.CutRange

namespace Go.Proofs.YteaaikmejacpaaaGreatDoor.Te
open Go.ChangeShapes Go.WideShapes Go.ChangeAt Go.RowKit
open Fx Va Sh
set_option maxRecDepth 8000
set_option linter.unusedVariables false
set_option linter.unusedSimpArgs false

theorem SlI.dropCap {w : World} {b o : Nat} {xs : List Int} (h : SlI w (some ⟨b, o, none⟩) xs) {a c : Nat} (hc : xs.length <= c) : SlI w (if c = a then some ⟨b, o, none⟩ else some ⟨b, o + a, none⟩) (xs.drop a) := by
 by_cases e : c = a
 ·exact SlI.empty (by rw [List.length_drop]; omega)
 ·rw [if_neg e]
  exact SlI.drop h a
/-- An answer that is either an error or a tensor; its rows read as the lists. -/
def TSr (E K B F R O : Int) (zs : List Int) (vs : List (Int × Int)) (w : World) (en : Ending) (w' : World) : Prop := (E ≠ 0 /\ TS 0 0 0 0 0 [] [] E w en w') \/ (E = 0 /\ TS K B F R O zs vs 0 w en w')
theorem rdVs_get {fold K B F R O : Int} {vs : List (Int × Int)} {my af n j : Nat} (h : j < n) : (rdVs fold K B F R O vs my af n).getD j (0, 0) = ((rdL fold K B F R O vs my af j).1, (rdL fold K B F R O vs my af j).2.1) := by
 unfold rdVs
 rw [List.getD_eq_getElem?_getD, List.getElem?_map, List.getElem?_range h]
 rfl
theorem TS.no {er : Int} {w w' : World} (hb : Below w.heap.size w w') : TS 0 0 0 0 0 [] [] er w (.returned (.tuple #[.agg #[.int .i64 0, .int .i64 0, .int .i64 0, .int .i64 0, .int .i64 0, .slice none 0 0, .slice none 0 0], .int .i64 er])) w' := (TRes.no hb).ts

set_option maxRecDepth 100000 in
set_option maxHeartbeats 2000000 in
theorem rrd_e (K B F R O : Int) (p : Option Addr) (zs : List Int) (c : Nat) (q : Option Addr) (vs : List (Int × Int)) (d : Nat) (a : Nat) (fold : Int) (w : World) (b0 : -9223372036854775808 <= B) (b1 : B <= 9223372036854775807) (hn : zs.length <= maxLen) (hm : vs.length <= maxLen) (RA : Hid (SlI w p zs)) (RB : Hid (SlV w q vs)) (ht : tE K B F R O zs vs = 0) (ha : a < zs.length) (hc : zs.length <= c) (hc2 : c <= 9223372036854775807) (bf my af : Nat) (hbf : sp (zs.take a) = bf) (hmy : zs.getD a 0 = my) (haf : sp (zs.drop (a + 1)) = af) (q1 : 1 <= bf) (q2 : 1 <= my) (q3 : 1 <= af) (hmm3 : vs.length = bf * my * af) (q5 : bf * af <= vs.length) (q6 : my <= vs.length) (q7 : bf <= vs.length) (q8 : af <= vs.length) (hf : 1 <= fold) (hf2 : fold <= 4) :
  Calls Tryz.prog 34 #[Tn K B F R O p zs.length c q vs.length d, .int .i64 a, .int .i64 fold] w (TSr (fe (rdE fold K B F R O vs my af) (bf * af) 0) K B F R O (rst zs a) (rdVs fold K B F R O vs my af (bf * af)) w) := by
 have TV0 := fun w h1 h2 => rval K B F R O p zs c q vs d w hn hm h1 h2
 rw [ht] at TV0
 obtain ⟨-, hv, tl, -⟩ := tE_ok ht
 obtain ⟨h6, -, -, hsp, -⟩ := valid_of hv
 have hrv := rst_valid hv ha
 have hrl := rst_length ha
 have hrs : sp (rst zs a) = ((bf * af : Nat) : Int) := by rw [rst_sp, hbf, haf]; push_cast; rfl
 have m4' : vs.length <= 4096 := by omega
 have SZ0 := fun (qr : Option Addr) (cr : Nat) (u : World) h => rsize qr (rst zs a) cr u h hrv
 have PT0 := fun (qr : Option Addr) (cr j : Nat) (hj : j < bf * af) (u : World) h => trpo qr (rst zs a) cr j u hrv (by rw [hrs]; exact_mod_cast hj) h
 have LN0 := fun (gx j : Nat) (hj : j < bf * af) (u : World) h1 h2 h3 => rline K B F R O p zs c q vs d a gx j bf my af u hv ha hbf hmy haf q3 hmm3 m4' q6 q2 hj h1 h2 h3
 rw [hrs] at SZ0
 rw [hrl] at SZ0 PT0
 have hzp : 0 < zs.length := by omega
 obtain ⟨bb, oo, hpp, hcell⟩ := RA.out a ha
 have hbb : bb < w.heap.size := World.block_lt_of_cell? _ _ hcell
 subst hpp
 obtain ⟨vb, vo, hqq, -⟩ := RB.out 0 (by omega)
 subst hqq
 have RED := Lib.hid fun p xs c u h1 h2 h3 => r_red fold K B F R O p xs c u h1 h2 h3
 obtain ⟨ER, hER⟩ : ∃ E, fe (rdE fold K B F R O vs my af) (bf * af) 0 = E := ⟨_, rfl⟩
 rw [hER]
 obtain ⟨N, hN⟩ : ∃ N, bf * af = N := ⟨_, rfl⟩
 rw [hN] at hER q5 SZ0 PT0 LN0 ⊢
 have HER := Lib.hid hER
 obtain ⟨m, hmm⟩ : ∃ m, vs.length = m := ⟨_, rfl⟩
 have HM := Lib.hid hmm
 rw [hmm] at TV0 LN0 hm tl hmm3 q5 q6 q7 q8 m4' ⊢
 have TV := Lib.hid TV0
 have B0 : Hid (Below w.heap.size w ((w.alloc (Obj.cells #[Value.int .i64 K, Value.int .i64 B, Value.int .i64 F, Value.int .i64 R, Value.int .i64 O, Value.slice (some ⟨bb, oo, none⟩) zs.length c, Value.slice (some ⟨vb, vo, none⟩) m d] 27)).alloc (Obj.cells #[Value.int .i64 0, Value.int .i64 0, Value.int .i64 0, Value.int .i64 0, Value.int .i64 0, Value.slice none 0 0, Value.slice none 0 0] 27))) := Lib.hid (((Below.refl _ _).alloc (Nat.le_refl _) _).alloc (by simp) _)
 have T0 : Hid (B7 ((w.alloc (Obj.cells #[Value.int .i64 K, Value.int .i64 B, Value.int .i64 F, Value.int .i64 R, Value.int .i64 O, Value.slice (some ⟨bb, oo, none⟩) zs.length c, Value.slice (some ⟨vb, vo, none⟩) m d] 27)).alloc (Obj.cells #[Value.int .i64 0, Value.int .i64 0, Value.int .i64 0, Value.int .i64 0, Value.int .i64 0, Value.slice none 0 0, Value.slice none 0 0] 27)) (w.heap.size) (.int .i64 K) (.int .i64 B) (.int .i64 F) (.int .i64 R) (.int .i64 O) (.slice (some ⟨bb, oo, none⟩) zs.length c) (.slice (some ⟨vb, vo, none⟩) m d)) := Lib.hid ((B7.new w _ (.int .i64 K) (.int .i64 B) (.int .i64 F) (.int .i64 R) (.int .i64 O) (.slice (some ⟨bb, oo, none⟩) zs.length c) (.slice (some ⟨vb, vo, none⟩) m d)).alloc _)
 have R0 : Hid (B7 ((w.alloc (Obj.cells #[Value.int .i64 K, Value.int .i64 B, Value.int .i64 F, Value.int .i64 R, Value.int .i64 O, Value.slice (some ⟨bb, oo, none⟩) zs.length c, Value.slice (some ⟨vb, vo, none⟩) m d] 27)).alloc (Obj.cells #[Value.int .i64 0, Value.int .i64 0, Value.int .i64 0, Value.int .i64 0, Value.int .i64 0, Value.slice none 0 0, Value.slice none 0 0] 27)) (w.heap.size + 1) (.int .i64 0) (.int .i64 0) (.int .i64 0) (.int .i64 0) (.int .i64 0) (.slice none 0 0) (.slice none 0 0)) := Lib.hid (by have h := B7.new (w.alloc (Obj.cells #[Value.int .i64 K, Value.int .i64 B, Value.int .i64 F, Value.int .i64 R, Value.int .i64 O, Value.slice (some ⟨bb, oo, none⟩) zs.length c, Value.slice (some ⟨vb, vo, none⟩) m d] 27)) 27 (.int .i64 0) (.int .i64 0) (.int .i64 0) (.int .i64 0) (.int .i64 0) (.slice none 0 0) (.slice none 0 0); simpa using h)
 clear TV0
 have HM3 := Lib.hid hmm3
 have HRV := Lib.hid (rdVs_length fold K B F R O vs my af N)
 have SZ := Lib.hid SZ0
 have PT := Lib.hid PT0
 have LN := Lib.hid LN0
 have HRL := Lib.hid hrl
 have g1 : decide ((a : Int) < 0) = false := by simp
 have g2 : decide ((zs.length : Int) <= a) = false := by simp; omega
 have g3 : decide (zs.length <= a) = false := by simp; omega
 have g4 : decide (fold < 1) = false := by simpa using hf
 have g5 : decide (5 < fold) = false := by simp; omega
 have g6 : (fold == 5) = false := by simp; omega
 have g7 : (fold != 5) = true := by simp; omega
 have wa : IntKind.i64.wrap ((a : Int) + 1) = (a : Int) + 1 := by rw [IntKind.wrap_i64]; omega
 have a0 : (0 : Int) <= a := by omega
 have a1 : (a : Int) < zs.length := by omega
 have a2 : (a : Int) <= c := by omega
 have a3 : (a : Int) + 1 <= zs.length := by omega
 have a4 : (zs.length : Int) <= c := by omega
 clear ht hm hmm hmm3 tl hER hN SZ0 PT0 LN0 hv hrv hrl hrs hbf hmy haf hsp hcell
 unfold Tn at *
 obtain ⟨i0, hi, hz0, hz1, hz2⟩ := info_parts info3
 go_enter Tryz.func34, Tryz.ntmps34
 go_upto_region 9 with (go_at_call 21; (with_reducible refine (TV.out _ (Lib.hid (SlI.keep B0.out RA.out)) (Lib.hid (SlV.below RB.out B0.out))).mono ?_); rintro e w1 ⟨rfl, hb⟩; have KB := Lib.hid (B0.out.trans (hb.mono B0.out.size)); have TB := Lib.hid (B7.keep hb (by simp <;> omega) T0.out); have RB9 := Lib.hid (B7.keep hb (by simp <;> omega) R0.out); obtain ⟨⟨c0, c1, c2, c3, c4, c5, c6⟩, -⟩ := TB.out; obtain ⟨⟨z0, z1, z2, z3, z4, z5, z6⟩, ⟨f0, f1, f2, f3, f4, f5, f6⟩⟩ := RB9.out; have lr : w.heap.size + 1 < w1.heap.size := RB9.out.lt; clear hb)
 have lt1 : w.heap.size < w1.heap.size := TB.out.lt
 go_upto_region 11 with (first | (at_builtin; refine wpList_append_slI _ rfl _ _ 24 rfl w1.heap.size 3 i0 (.int .i64 0) 8 Tryz.underlying24 hi hz0 hz1 hz2 rfl (.slice none 0 0) (0) ([]) rfl (World.ownsRow_nil _ _ _ _) (_) (zs.take a) (a) _ rfl (by rw [List.length_take]; omega) (SlI_take (SlI.keep KB.out RA.out) a) (by unfold maxLen; omega) (by omega) (Nat.le_refl _) ?_; intro v1 wq1 hown1 hgr1; have hq1b := below_own (Nat.le_refl _) hgr1; replace hown1 : wq1.ownsRow w1.heap.size 3 1 v1 a ((zs.take a).map (Value.int .i64)) := (by simpa using hown1); have HO1 := Lib.hid hown1; obtain ⟨q1, k1, rfl⟩ := own_slice hown1; have HQ1 := Lib.hid hq1b; have sq1 := hq1b.size; replace c0 := Rg.keep HQ1.out lt1 c0; replace c1 := Rg.keep HQ1.out lt1 c1; replace c2 := Rg.keep HQ1.out lt1 c2; replace c3 := Rg.keep HQ1.out lt1 c3; replace c4 := Rg.keep HQ1.out lt1 c4; replace c5 := Rg.keep HQ1.out lt1 c5; replace c6 := Rg.keep HQ1.out lt1 c6; clear hown1 hgr1 hq1b) | (at_builtin; refine wpList_append_slI _ rfl _ _ 24 rfl w1.heap.size 3 i0 (.int .i64 0) 8 Tryz.underlying24 hi hz0 hz1 hz2 rfl (.slice q1 a k1) (a) ((zs.take a).map (Value.int .i64)) rfl HO1.out (_) (zs.drop (a + 1)) (zs.length - (a + 1)) _ rfl (by rw [List.length_drop]) (SlI.keep HQ1.out (SlI.dropCap (SlI.keep KB.out RA.out) hc)) (by unfold maxLen; omega) (by omega) HQ1.out.size ?_; intro v2 wa hown2 hgr2; have hq2b : Below w1.heap.size w1 wa := HQ1.out.grown hgr2 HQ1.out.size (fun k e => (HO1.out.lt k e).1); replace hown2 : wa.ownsRow w1.heap.size 3 1 v2 (zs.length - 1) ((rst zs a).map (Value.int .i64)) := (by have e1 : a + (zs.length - (a + 1)) = zs.length - 1 := (by omega); rw [e1] at hown2; unfold rst; simpa using hown2); have HOR := Lib.hid hown2; obtain ⟨qr, cr, rfl⟩ := own_slice hown2; have HQ2 := Lib.hid hq2b; have sq2 := hq2b.size; clear hown2 hgr2 hq2b))
 generalize (if c = a + 1 then some (⟨bb, oo, none⟩ : Addr) else some ⟨bb, oo + (a + 1), none⟩) = ad55
 have TA := Lib.hid (B7.keep HQ2.out lt1 TB.out)
 have RA9 := Lib.hid (B7.keep HQ2.out lr RB9.out)
 have KA := Lib.hid (KB.out.trans (HQ2.out.mono KB.out.size))
 have lta : w.heap.size < wa.heap.size := TA.out.lt
 have lra := RA9.out.lt
 have SZA := Lib.hid fun u (h : Below wa.heap.size wa u) => SZ.out qr cr u (Lib.hid (SlI.keep h (SlI_of HOR.out HRL.out)))
 have lr1 : w.heap.size + 1 < w1.heap.size := lr
 clear z0 z1 z2 z3 z4 z5 z6 f0 f1 f2 f3 f4 f5 f6 TB RB9 KB lr HO1 HQ1 c0 c1 c2 c3 c4 c5 c6 i0 hi hz0 hz1 hz2
 obtain ⟨⟨c0, c1, c2, c3, c4, c5, c6⟩, -⟩ := TA.out
 have HS : Hid (∀ u u' : World, (u.cell? ⟨w.heap.size, 0, none⟩ = some (.int .i64 K) /\ u.cell? ⟨w.heap.size, 1, none⟩ = some (.int .i64 B) /\ u.cell? ⟨w.heap.size, 2, none⟩ = some (.int .i64 F) /\ u.cell? ⟨w.heap.size, 3, none⟩ = some (.int .i64 R) /\ u.cell? ⟨w.heap.size, 4, none⟩ = some (.int .i64 O) /\ u.cell? ⟨w.heap.size, 5, none⟩ = some (.slice (some ⟨bb, oo, none⟩) zs.length c) /\ u.cell? ⟨w.heap.size, 6, none⟩ = some (.slice (some ⟨vb, vo, none⟩) m d) /\ Below wa.heap.size wa u) -> Below u.heap.size u u' -> (u'.cell? ⟨w.heap.size, 0, none⟩ = some (.int .i64 K) /\ u'.cell? ⟨w.heap.size, 1, none⟩ = some (.int .i64 B) /\ u'.cell? ⟨w.heap.size, 2, none⟩ = some (.int .i64 F) /\ u'.cell? ⟨w.heap.size, 3, none⟩ = some (.int .i64 R) /\ u'.cell? ⟨w.heap.size, 4, none⟩ = some (.int .i64 O) /\ u'.cell? ⟨w.heap.size, 5, none⟩ = some (.slice (some ⟨bb, oo, none⟩) zs.length c) /\ u'.cell? ⟨w.heap.size, 6, none⟩ = some (.slice (some ⟨vb, vo, none⟩) m d) /\ Below wa.heap.size wa u')) := Lib.hid (fun u u' h hb => ⟨Rg.keep hb (World.block_lt_of_cell? _ _ h.1) h.1, Rg.keep hb (World.block_lt_of_cell? _ _ h.2.1) h.2.1, Rg.keep hb (World.block_lt_of_cell? _ _ h.2.2.1) h.2.2.1, Rg.keep hb (World.block_lt_of_cell? _ _ h.2.2.2.1) h.2.2.2.1, Rg.keep hb (World.block_lt_of_cell? _ _ h.2.2.2.2.1) h.2.2.2.2.1, Rg.keep hb (World.block_lt_of_cell? _ _ h.2.2.2.2.2.1) h.2.2.2.2.2.1, Rg.keep hb (World.block_lt_of_cell? _ _ h.2.2.2.2.2.2.1) h.2.2.2.2.2.2.1, h.2.2.2.2.2.2.2.trans (hb.mono h.2.2.2.2.2.2.2.size)⟩)
 go_cut [10] from 57 to 63 (fun p9 wx => ∃ (g9 gq : Nat), p9 = .pointer (some ⟨g9, 0, none⟩) /\ Hid (B7 wx (g9) (.int .i64 K) (.int .i64 B) (.int .i64 F) (.int .i64 R) (.int .i64 O) (.slice qr (zs.length - 1) cr) (.slice (some ⟨gq, 0, none⟩) N N)) /\ Hid (wx.ownsRow wa.heap.size 29 2 (.slice (some ⟨gq, 0, none⟩) N N) N (flV (List.replicate N ((0 : Int), (0 : Int))))) /\ g9 ≠ gq /\ wa.heap.size <= g9 /\ Hid (Below wa.heap.size wa wx))
 case first =>
  refine Rk.begin (S := fun wS => wS.cell? ⟨w.heap.size, 0, none⟩ = some (.int .i64 K) /\ wS.cell? ⟨w.heap.size, 1, none⟩ = some (.int .i64 B) /\ wS.cell? ⟨w.heap.size, 2, none⟩ = some (.int .i64 F) /\ wS.cell? ⟨w.heap.size, 3, none⟩ = some (.int .i64 R) /\ wS.cell? ⟨w.heap.size, 4, none⟩ = some (.int .i64 O) /\ wS.cell? ⟨w.heap.size, 5, none⟩ = some (.slice (some ⟨bb, oo, none⟩) zs.length c) /\ wS.cell? ⟨w.heap.size, 6, none⟩ = some (.slice (some ⟨vb, vo, none⟩) m d) /\ Below wa.heap.size wa wS) 8 (by kernel_rfl) ⟨c0, c1, c2, c3, c4, c5, c6, Below.drew (Below.refl _ _)⟩ (fun hHeld => ?_)
  refine SqR.p 0 ?_
  refine SqR.l [8] 1 ?_
  refine SqR.p 2 ?_
  refine SqR.p 3 ?_
  refine Rk.two (i := 4) (j := 7) (by kernel_rfl) rfl rfl (fun KK hK => ?_) (fun KK hK => ?_)
  ·rw [if_pos (by kernel_rfl)]
   go_simp
   ((with_reducible refine (SZA.out _ (hHeld.2.2.2.2.2.2.2)).mono ?_); rintro e u9 ⟨rfl, rfl⟩)
   first | (refine hK.out _ _ (fun _ => hHeld) (fun hHeld => ?_)) | (refine hK.out _ _ hHeld (fun hHeld => ?_)) | (go_wp2_with fail; refine hK.out _ _ hHeld (fun hHeld => ?_))
   clear hK KK
   refine Rk.two (i := 5) (j := 7) (by kernel_rfl) rfl rfl (fun KK hK => ?_) (fun KK hK => ?_)
   ·rw [if_pos (by kernel_rfl)]
    obtain ⟨i0, hi, hz0, hz1, hz2⟩ := info_parts infoV
    refine wp_make_full _ _ _ 25 rfl wa.heap.size 29 i0 (.agg #[.int .i64 0, .int .i64 0]) 2 Tryz.underlying25 hi hz0 hz1 .i64 .i64 _ _ N rfl rfl rfl rfl (by rw [hz2]; omega) (by unfold maxLen; omega) (hHeld.2.2.2.2.2.2.2).size (wa.heap.size) (by simp) ?_
    intro u6 hown6 hg6
    rw [madeV] at hown6
    have hb6 := below_own (Nat.le_refl _) hg6
    have hNew := HS.out _ _ hHeld hb6
    have hg6l : wa.heap.size < u6.heap.size := (hown6.lt _ rfl).2
    first | (refine hK.out _ _ (fun _ => hNew) (fun _ => ?_)) | (refine hK.out _ _ hNew (fun _ => ?_)) | (go_wp2_with fail; refine hK.out _ _ hNew (fun _ => ?_))
    replace hHeld := hNew
    clear hNew hb6 hg6 hi hz0 hz1 hz2
    clear hK KK
    refine SqR.p 6 ?_
    refine Rk.one (i := 7) (by kernel_rfl) rfl (fun KK hK => ?_)
    rw [if_pos (by kernel_rfl)]
    go_simp
    have hNew := HS.out _ _ hHeld ((Below.refl _ _).alloc (Nat.le_refl _) (Obj.cells #[Value.int .i64 0, Value.int .i64 0, Value.int .i64 0, Value.int .i64 0, Value.int .i64 0, Value.slice none 0 0, Value.slice none 0 0] 27))
    have M7 := B7.new u6 27 (.int .i64 0) (.int .i64 0) (.int .i64 0) (.int .i64 0) (.int .i64 0) (.slice none 0 0) (.slice none 0 0)
    have hne : u6.heap.size ≠ wa.heap.size := by omega
    replace hown6 := hown6.alloc (Obj.cells #[Value.int .i64 0, Value.int .i64 0, Value.int .i64 0, Value.int .i64 0, Value.int .i64 0, Value.slice none 0 0, Value.slice none 0 0] 27)
    refine hK.out _ _ hNew (fun _ => ?_)
    replace hHeld := hNew
    clear hNew
    clear hK KK
    refine Rk.tail [8] [_] (by kernel_rfl) (by kernel_rfl) rfl (by decide) ?_
    obtain ⟨c0, c1, c2, c3, c4, c5, c6, K8⟩ := hHeld
    have M8 := M7
    obtain ⟨⟨m0, m1, m2, m3, m4, m5, m6⟩, ⟨g0, g1, g2, g3, g4, g5, g6⟩⟩ := M7
    have lm := M8.lt
    generalize (u6.alloc (Obj.cells #[Value.int .i64 0, Value.int .i64 0, Value.int .i64 0, Value.int .i64 0, Value.int .i64 0, Value.slice none 0 0, Value.slice none 0 0] 27)) = gw at *
    have hnb : wa.heap.size <= u6.heap.size := by omega
    go_wp2_with fail
    go_meet
    exact ⟨u6.heap.size, wa.heap.size, rfl, Lib.hid M8.st, Lib.hid (own_far7 hown6 (Or.inr (by intro e; have e' : some (wa.heap.size) = some (u6.heap.size) := e; injection e' with e'; exact hne e'.symm))), hne, hnb, Lib.hid (below_set7 K8 hnb)⟩
   ·rw [if_pos (by kernel_rfl)]
    go_simp
    have hNew := HS.out _ _ hHeld ((Below.refl _ _).alloc (Nat.le_refl _) (Obj.cells #[Value.int .i64 0, Value.int .i64 0, Value.int .i64 0, Value.int .i64 0, Value.int .i64 0, Value.slice none 0 0, Value.slice none 0 0] 27))
    have M7 : B7 (wa.alloc (Obj.cells #[Value.int .i64 0, Value.int .i64 0, Value.int .i64 0, Value.int .i64 0, Value.int .i64 0, Value.slice none 0 0, Value.slice none 0 0] 27)).drew (wa.heap.size) (.int .i64 0) (.int .i64 0) (.int .i64 0) (.int .i64 0) (.int .i64 0) (.slice none 0 0) (.slice none 0 0) := B7.new wa _ (.int .i64 0) (.int .i64 0) (.int .i64 0) (.int .i64 0) (.int .i64 0) (.slice none 0 0) (.slice none 0 0)
    refine hK.out _ _ hNew (fun _ => ?_)
    replace hHeld := hNew
    clear hNew
    replace hHeld : (wa.alloc (Obj.cells #[Value.int .i64 0, Value.int .i64 0, Value.int .i64 0, Value.int .i64 0, Value.int .i64 0, Value.slice none 0 0, Value.slice none 0 0] 27)).drew.cell? ⟨w.heap.size, 0, none⟩ = some (.int .i64 K) /\ (wa.alloc (Obj.cells #[Value.int .i64 0, Value.int .i64 0, Value.int .i64 0, Value.int .i64 0, Value.int .i64 0, Value.slice none 0 0, Value.slice none 0 0] 27)).drew.cell? ⟨w.heap.size, 1, none⟩ = some (.int .i64 B) /\ (wa.alloc (Obj.cells #[Value.int .i64 0, Value.int .i64 0, Value.int .i64 0, Value.int .i64 0, Value.int .i64 0, Value.slice none 0 0, Value.slice none 0 0] 27)).drew.cell? ⟨w.heap.size, 2, none⟩ = some (.int .i64 F) /\ (wa.alloc (Obj.cells #[Value.int .i64 0, Value.int .i64 0, Value.int .i64 0, Value.int .i64 0, Value.int .i64 0, Value.slice none 0 0, Value.slice none 0 0] 27)).drew.cell? ⟨w.heap.size, 3, none⟩ = some (.int .i64 R) /\ (wa.alloc (Obj.cells #[Value.int .i64 0, Value.int .i64 0, Value.int .i64 0, Value.int .i64 0, Value.int .i64 0, Value.slice none 0 0, Value.slice none 0 0] 27)).drew.cell? ⟨w.heap.size, 4, none⟩ = some (.int .i64 O) /\ (wa.alloc (Obj.cells #[Value.int .i64 0, Value.int .i64 0, Value.int .i64 0, Value.int .i64 0, Value.int .i64 0, Value.slice none 0 0, Value.slice none 0 0] 27)).drew.cell? ⟨w.heap.size, 5, none⟩ = some (.slice (some ⟨bb, oo, none⟩) zs.length c) /\ (wa.alloc (Obj.cells #[Value.int .i64 0, Value.int .i64 0, Value.int .i64 0, Value.int .i64 0, Value.int .i64 0, Value.slice none 0 0, Value.slice none 0 0] 27)).drew.cell? ⟨w.heap.size, 6, none⟩ = some (.slice (some ⟨vb, vo, none⟩) m d) /\ Below wa.heap.size wa (wa.alloc (Obj.cells #[Value.int .i64 0, Value.int .i64 0, Value.int .i64 0, Value.int .i64 0, Value.int .i64 0, Value.slice none 0 0, Value.slice none 0 0] 27)).drew := hHeld
    clear hK KK
    refine Rk.one (i := 5) (by kernel_rfl) rfl (fun KK hK => ?_)
    rw [if_pos (by kernel_rfl)]
    obtain ⟨i0, hi, hz0, hz1, hz2⟩ := info_parts infoV
    refine wp_make_full _ _ _ 25 rfl wa.heap.size 29 i0 (.agg #[.int .i64 0, .int .i64 0]) 2 Tryz.underlying25 hi hz0 hz1 .i64 .i64 _ _ N rfl rfl rfl rfl (by rw [hz2]; omega) (by unfold maxLen; omega) (hHeld.2.2.2.2.2.2.2).size (wa.heap.size + 1) (by simp) ?_
    intro u6 hown6 hg6
    rw [madeV] at hown6
    have hb6 := below_own (Nat.le_refl _) hg6
    have hNew := HS.out _ _ hHeld hb6
    replace M7 := B7.keep hb6 M7.lt M7
    have hne : wa.heap.size ≠ wa.heap.size + 1 := by omega
    have hg6l : wa.heap.size + 1 < u6.heap.size := (hown6.lt _ rfl).2
    first | (refine hK.out _ _ (fun _ => hNew) (fun _ => ?_)) | (refine hK.out _ _ hNew (fun _ => ?_)) | (go_wp2_with fail; refine hK.out _ _ hNew (fun _ => ?_))
    replace hHeld := hNew
    clear hNew hb6 hg6 hi hz0 hz1 hz2
    clear hK KK
    refine SqR.p 6 ?_
    refine Rk.tail [8] [_] (by kernel_rfl) (by kernel_rfl) rfl (by decide) ?_
    obtain ⟨c0, c1, c2, c3, c4, c5, c6, K8⟩ := hHeld
    have M8 := M7
    obtain ⟨⟨m0, m1, m2, m3, m4, m5, m6⟩, ⟨g0, g1, g2, g3, g4, g5, g6⟩⟩ := M7
    have lm := M8.lt
    have hnb : wa.heap.size <= wa.heap.size := by omega
    go_wp2_with fail
    go_meet
    exact ⟨wa.heap.size, wa.heap.size + 1, rfl, Lib.hid M8.st, Lib.hid (own_far7 hown6 (Or.inr (by intro e; have e' : some (wa.heap.size + 1) = some (wa.heap.size) := e; injection e' with e'; exact hne e'.symm))), hne, hnb, Lib.hid (below_set7 K8 hnb)⟩
  ·rw [if_pos (by kernel_rfl)]
   go_simp
   have hNew := HS.out _ _ hHeld ((Below.refl _ _).alloc (Nat.le_refl _) (Obj.cells #[Value.int .i64 0, Value.int .i64 0, Value.int .i64 0, Value.int .i64 0, Value.int .i64 0, Value.slice none 0 0, Value.slice none 0 0] 27))
   have M7 : B7 (wa.alloc (Obj.cells #[Value.int .i64 0, Value.int .i64 0, Value.int .i64 0, Value.int .i64 0, Value.int .i64 0, Value.slice none 0 0, Value.slice none 0 0] 27)).drew (wa.heap.size) (.int .i64 0) (.int .i64 0) (.int .i64 0) (.int .i64 0) (.int .i64 0) (.slice none 0 0) (.slice none 0 0) := B7.new wa _ (.int .i64 0) (.int .i64 0) (.int .i64 0) (.int .i64 0) (.int .i64 0) (.slice none 0 0) (.slice none 0 0)
   refine hK.out _ _ hNew (fun _ => ?_)
   replace hHeld := hNew
   clear hNew
   replace hHeld : (wa.alloc (Obj.cells #[Value.int .i64 0, Value.int .i64 0, Value.int .i64 0, Value.int .i64 0, Value.int .i64 0, Value.slice none 0 0, Value.slice none 0 0] 27)).drew.cell? ⟨w.heap.size, 0, none⟩ = some (.int .i64 K) /\ (wa.alloc (Obj.cells #[Value.int .i64 0, Value.int .i64 0, Value.int .i64 0, Value.int .i64 0, Value.int .i64 0, Value.slice none 0 0, Value.slice none 0 0] 27)).drew.cell? ⟨w.heap.size, 1, none⟩ = some (.int .i64 B) /\ (wa.alloc (Obj.cells #[Value.int .i64 0, Value.int .i64 0, Value.int .i64 0, Value.int .i64 0, Value.int .i64 0, Value.slice none 0 0, Value.slice none 0 0] 27)).drew.cell? ⟨w.heap.size, 2, none⟩ = some (.int .i64 F) /\ (wa.alloc (Obj.cells #[Value.int .i64 0, Value.int .i64 0, Value.int .i64 0, Value.int .i64 0, Value.int .i64 0, Value.slice none 0 0, Value.slice none 0 0] 27)).drew.cell? ⟨w.heap.size, 3, none⟩ = some (.int .i64 R) /\ (wa.alloc (Obj.cells #[Value.int .i64 0, Value.int .i64 0, Value.int .i64 0, Value.int .i64 0, Value.int .i64 0, Value.slice none 0 0, Value.slice none 0 0] 27)).drew.cell? ⟨w.heap.size, 4, none⟩ = some (.int .i64 O) /\ (wa.alloc (Obj.cells #[Value.int .i64 0, Value.int .i64 0, Value.int .i64 0, Value.int .i64 0, Value.int .i64 0, Value.slice none 0 0, Value.slice none 0 0] 27)).drew.cell? ⟨w.heap.size, 5, none⟩ = some (.slice (some ⟨bb, oo, none⟩) zs.length c) /\ (wa.alloc (Obj.cells #[Value.int .i64 0, Value.int .i64 0, Value.int .i64 0, Value.int .i64 0, Value.int .i64 0, Value.slice none 0 0, Value.slice none 0 0] 27)).drew.cell? ⟨w.heap.size, 6, none⟩ = some (.slice (some ⟨vb, vo, none⟩) m d) /\ Below wa.heap.size wa (wa.alloc (Obj.cells #[Value.int .i64 0, Value.int .i64 0, Value.int .i64 0, Value.int .i64 0, Value.int .i64 0, Value.slice none 0 0, Value.slice none 0 0] 27)).drew := hHeld
   clear hK KK
   refine Rk.one (i := 4) (by kernel_rfl) rfl (fun KK hK => ?_)
   rw [if_pos (by kernel_rfl)]
   go_simp
   ((with_reducible refine (SZA.out _ (hHeld.2.2.2.2.2.2.2)).mono ?_); rintro e u9 ⟨rfl, rfl⟩)
   first | (refine hK.out _ _ (fun _ => hHeld) (fun hHeld => ?_)) | (refine hK.out _ _ hHeld (fun hHeld => ?_)) | (go_wp2_with fail; refine hK.out _ _ hHeld (fun hHeld => ?_))
   clear hK KK
   refine Rk.one (i := 5) (by kernel_rfl) rfl (fun KK hK => ?_)
   rw [if_pos (by kernel_rfl)]
   obtain ⟨i0, hi, hz0, hz1, hz2⟩ := info_parts infoV
   refine wp_make_full _ _ _ 25 rfl wa.heap.size 29 i0 (.agg #[.int .i64 0, .int .i64 0]) 2 Tryz.underlying25 hi hz0 hz1 .i64 .i64 _ _ N rfl rfl rfl rfl (by rw [hz2]; omega) (by unfold maxLen; omega) (hHeld.2.2.2.2.2.2.2).size (wa.heap.size + 1) (by simp) ?_
   intro u6 hown6 hg6
   rw [madeV] at hown6
   have hb6 := below_own (Nat.le_refl _) hg6
   have hNew := HS.out _ _ hHeld hb6
   replace M7 := B7.keep hb6 M7.lt M7
   have hne : wa.heap.size ≠ wa.heap.size + 1 := by omega
   have hg6l : wa.heap.size + 1 < u6.heap.size := (hown6.lt _ rfl).2
   first | (refine hK.out _ _ (fun _ => hNew) (fun _ => ?_)) | (refine hK.out _ _ hNew (fun _ => ?_)) | (go_wp2_with fail; refine hK.out _ _ hNew (fun _ => ?_))
   replace hHeld := hNew
   clear hNew hb6 hg6 hi hz0 hz1 hz2
   clear hK KK
   refine SqR.p 6 ?_
   refine Rk.tail [8] [_] (by kernel_rfl) (by kernel_rfl) rfl (by decide) ?_
   obtain ⟨c0, c1, c2, c3, c4, c5, c6, K8⟩ := hHeld
   have M8 := M7
   obtain ⟨⟨m0, m1, m2, m3, m4, m5, m6⟩, ⟨g0, g1, g2, g3, g4, g5, g6⟩⟩ := M7
   have lm := M8.lt
   have hnb : wa.heap.size <= wa.heap.size := by omega
   go_wp2_with fail
   go_meet
   exact ⟨wa.heap.size, wa.heap.size + 1, rfl, Lib.hid M8.st, Lib.hid (own_far7 hown6 (Or.inr (by intro e; have e' : some (wa.heap.size + 1) = some (wa.heap.size) := e; injection e' with e'; exact hne e'.symm))), hne, hnb, Lib.hid (below_set7 K8 hnb)⟩

 case rest =>
  obtain ⟨g9, gq, rfl, HD, HV, hne9, hn9, HBX⟩ := hcut
  have KBC := Lib.hid (KA.out.trans (HBX.out.mono KA.out.size))
  have TBC := Lib.hid (B7.keep HBX.out lta TA.out)
  have RBC := Lib.hid (B7.keep HBX.out lra RA9.out)
  have ORC := Lib.hid (own_belowE HOR.out HBX.out)
  have hsx := HBX.out.size
  have hg9 := HD.out.lt
  have hgl := (HV.out.lt gq rfl)
  have hFE0 : Hid (fe (rdE fold K B F R O vs my af) (N - 0) 0 = ER) := HER
  clear c0 c1 c2 c3 c4 c5 c6 HS TA RA9 KA HOR SZA HQ2 HER
  go_wp2_with fail
  have HB0 : Hid ((B7 wc (w.heap.size) (.int .i64 K) (.int .i64 B) (.int .i64 F) (.int .i64 R) (.int .i64 O) (.slice (some ⟨bb, oo, none⟩) zs.length c) (.slice (some ⟨vb, vo, none⟩) m d)) /\ (B7 wc (w.heap.size + 1) (.int .i64 0) (.int .i64 0) (.int .i64 0) (.int .i64 0) (.int .i64 0) (.slice none 0 0) (.slice none 0 0)) /\ (B7 wc (g9) (.int .i64 K) (.int .i64 B) (.int .i64 F) (.int .i64 R) (.int .i64 O) (.slice qr (zs.length - 1) cr) (.slice (some ⟨gq, 0, none⟩) N N)) /\ wc.ownsRow w1.heap.size 3 1 (.slice qr (zs.length - 1) cr) (zs.length - 1) ((rst zs a).map (Value.int .i64)) /\ wc.ownsRow wa.heap.size 29 2 (.slice (some ⟨gq, 0, none⟩) N N) N (flV ((rdVs fold K B F R O vs my af N).take 0 ++ List.replicate (N - 0) ((0 : Int), (0 : Int)))) /\ Below w.heap.size w wc /\ wc.heap.size <= wc.heap.size) := Lib.hid ⟨TBC.out, RBC.out, HD.out, ORC.out, by rw [List.take_zero, List.nil_append, Nat.sub_zero]; exact HV.out, KBC.out, Nat.le_refl _⟩
  go_loopw [11] (fun iv wr => ∃ j : Nat, iv = .int .i64 (j : Int) /\ j <= N /\ Hid ((B7 wr (w.heap.size) (.int .i64 K) (.int .i64 B) (.int .i64 F) (.int .i64 R) (.int .i64 O) (.slice (some ⟨bb, oo, none⟩) zs.length c) (.slice (some ⟨vb, vo, none⟩) m d)) /\ (B7 wr (w.heap.size + 1) (.int .i64 0) (.int .i64 0) (.int .i64 0) (.int .i64 0) (.int .i64 0) (.slice none 0 0) (.slice none 0 0)) /\ (B7 wr (g9) (.int .i64 K) (.int .i64 B) (.int .i64 F) (.int .i64 R) (.int .i64 O) (.slice qr (zs.length - 1) cr) (.slice (some ⟨gq, 0, none⟩) N N)) /\ wr.ownsRow w1.heap.size 3 1 (.slice qr (zs.length - 1) cr) (zs.length - 1) ((rst zs a).map (Value.int .i64)) /\ wr.ownsRow wa.heap.size 29 2 (.slice (some ⟨gq, 0, none⟩) N N) N (flV ((rdVs fold K B F R O vs my af N).take j ++ List.replicate (N - j) ((0 : Int), (0 : Int)))) /\ Below w.heap.size w wr /\ wc.heap.size <= wr.heap.size) /\ Hid (fe (rdE fold K B F R O vs my af) (N - j) j = ER)) (fun iv _ => N - (intOf iv).toNat)
  case atStart => exact ⟨0, rfl, Nat.zero_le _, HB0, hFE0⟩
  case round =>
   obtain ⟨j, rfl, hj, HJ, FJ⟩ := hrel
   clear HB0 hFE0 TBC RBC KBC ORC HD HV HBX
   obtain ⟨TJ, RJ, DJ, PJ, VJ, KJ, hsj⟩ := HJ.out
   have SZJ := Lib.hid (SZ.out qr cr wr (Lib.hid (SlI_of PJ HRL.out)))
   by_cases hjN : j < N
   ·have hj2 : (j : Int) < N := by omega
    have hj0 : (0 : Int) <= j := by omega
    have PTJ := Lib.hid (PT.out qr cr j hjN wr (Lib.hid (SlI_of PJ HRL.out)))
    have hpl : (pt (rst zs a) (j : Int)).length = zs.length - 1 := by rw [pt_length]; exact HRL.out
    have HPL := Lib.hid hpl
    clear hpl
    go_upto_region 20 with (first | (go_at_call 55; (with_reducible refine SZJ.out.mono ?_); rintro e w' ⟨rfl, rfl⟩) | (go_at_call 27; (with_reducible refine PTJ.out.mono ?_); rintro e w5 ⟨rfl, hp5, hb5⟩; have K5 := Lib.hid (KJ.trans (hb5.mono KJ.size)); have T5 := Lib.hid (B7.keep hb5 TJ.lt TJ); have LNJ := Lib.hid (LN.out wr.heap.size j hjN w5 (Lib.hid (SlI.keep K5.out RA.out)) (Lib.hid (SlV.below RB.out K5.out)) (Lib.hid (SlI_of hp5 HPL.out))); obtain ⟨⟨c0, c1, c2, c3, c4, c5, c6⟩, -⟩ := T5.out; have HB5 := Lib.hid hb5; have H5 := Lib.hid hp5; clear hb5 hp5) | (go_at_call 67; (with_reducible refine LNJ.out.mono ?_); rintro e w6 ⟨ql, dl, rfl, hdl, hs6, hb6⟩; have B6 := Lib.hid (HB5.out.trans (hb6.mono HB5.out.size)); have S6 := Lib.hid (SlV_of hs6 (lnV_length _ _ _ _)); have T6 := Lib.hid (B7.keep B6.out TJ.lt TJ); have R6 := Lib.hid (B7.keep B6.out RJ.lt RJ); have D6 := Lib.hid (B7.keep B6.out DJ.lt DJ); have P6 := Lib.hid (own_belowE PJ B6.out); have V6 := Lib.hid (own_belowE VJ B6.out); have K6 := Lib.hid (KJ.trans (B6.out.mono KJ.size)); have sb6 := B6.out.size; clear c0 c1 c2 c3 c4 c5 c6; obtain ⟨⟨c0, c1, c2, c3, c4, c5, c6⟩, -⟩ := T6.out; clear hs6 hb6))
    have hlv : (lnV vs my af j).length = my := lnV_length _ _ _ _
    have RD2 := Lib.hid (RED.out ql (lnV vs my af j) dl w6 (by rw [hlv]; unfold maxLen; omega) (by rw [hlv]; exact hdl) S6)
    rw [hlv] at RD2
    have hstep : N - j = (N - (j + 1)) + 1 := by omega
    have FJ2 := FJ.out
    rw [hstep] at FJ2
    have hget := rdVs_get (fold := fold) (K := K) (B := B) (F := F) (R := R) (O := O) (vs := vs) (my := my) (af := af) hjN
    have hset := fill_set HRV.out hjN
    obtain ⟨r, hr⟩ : ∃ r, rdL fold K B F R O vs my af j = r := ⟨_, rfl⟩
    rw [show rdv fold K B F R O (lnV vs my af j) = r from hr] at RD2
    have hre : rdE fold K B F R O vs my af j = r.2.2 := congrArg (fun x => x.2.2) hr
    rw [hr] at hget
    obtain ⟨r1, r2, f9⟩ := r
    dsimp only at hget hre
    rw [hget] at hset
    have HSET := Lib.hid hset
    have hfl := fill_len HRV.out hj
    obtain ⟨⟨s1, s2⟩, hsv⟩ : ∃ sv, ((rdVs fold K B F R O vs my af N).take j ++ List.replicate (N - j) ((0 : Int), (0 : Int))).getD j (0, 0) = sv := ⟨_, rfl⟩
    have HSV := Lib.hid hsv
    have HFL := Lib.hid hfl
    clear hr hlv hstep hget hset hsv hfl
    by_cases hz : f9 = 0
    ·have FN : Hid (fe (rdE fold K B F R O vs my af) (N - (j + 1)) (j + 1) = ER) := Lib.hid (by rw [<- FJ2, fe_go (by rw [hre]; exact hz)])
     subst hz
     clear FJ2 FJ hre
     go_wp2_with (go_at_call 68; (with_reducible refine RD2.out.mono ?_); rintro e w7 ⟨rfl, hb7⟩; have T7 := Lib.hid (B7.keep hb7 T6.out.lt T6.out); have R7 := Lib.hid (B7.keep hb7 R6.out.lt R6.out); have D7 := Lib.hid (B7.keep hb7 D6.out.lt D6.out); have P7 := Lib.hid (own_belowE P6.out hb7); have V7 := Lib.hid (own_belowE V6.out hb7); have K7 := Lib.hid (K6.out.trans (hb7.mono K6.out.size)); have sb7 := hb7.size; obtain ⟨s0', s1'⟩ := row_get V7.out HFL.out hjN; rw [HSV.out] at s0' s1'; have t0 := V7.out.frozenAt (j * 2); have t1 := V7.out.frozenAt (j * 2 + 1); have lgq := (V7.out.lt gq rfl).2; have lg9 := D7.out.lt; obtain ⟨⟨m0, m1, m2, m3, m4, m5, m6⟩, -⟩ := D7.out; clear hb7)
     go_roundw
     case rel =>
      have h5 := row_two V7.out HFL.out hjN r1 r2
      rw [HSET.out] at h5
      have n1' : gq ≠ w.heap.size := by omega
      have n2' : gq ≠ w.heap.size + 1 := by omega
      have n3' : w.heap.size <= gq := by omega
      exact ⟨j + 1, by simp, by omega, Lib.hid ⟨((T7.out.far n1').far n1').alloc _, ((R7.out.far n2').far n2').alloc _, ((D7.out.far (Ne.symm hne9)).far (Ne.symm hne9)).alloc _, ((P7.out.kept grown_set (own_two P7.out V7.out)).kept grown_set (own_two P7.out V7.out)).alloc _, h5.alloc _, ((K7.out.setCell (p := ⟨gq, j * 2, none⟩) n3' _).setCell (p := ⟨gq, j * 2 + 1, none⟩) n3' _).alloc (by have := K7.out.size; simp; omega) _, by simp; omega⟩, FN⟩
     case measure => simp [intOf]; omega
    ·have hE : ER = f9 := by rw [<- FJ2, fe_stop (by rw [hre]; exact hz), hre]
     have z1' : (f9 != 0) = true := by simpa using hz
     have z2' : (f9 == 0) = false := by simpa using hz
     have HE := Lib.hid hE
     have HZ := Lib.hid hz
     clear FJ2 FJ hre hE hz
     go_upto_region 22 with (go_at_call 68; (with_reducible refine RD2.out.mono ?_); rintro e w7 ⟨rfl, hb7⟩; have T7 := Lib.hid (B7.keep hb7 T6.out.lt T6.out); have R7 := Lib.hid (B7.keep hb7 R6.out.lt R6.out); have D7 := Lib.hid (B7.keep hb7 D6.out.lt D6.out); have P7 := Lib.hid (own_belowE P6.out hb7); have V7 := Lib.hid (own_belowE V6.out hb7); have K7 := Lib.hid (K6.out.trans (hb7.mono K6.out.size)); have sb7 := hb7.size; obtain ⟨s0', s1'⟩ := row_get V7.out HFL.out hjN; rw [HSV.out] at s0' s1'; have t0 := V7.out.frozenAt (j * 2); have t1 := V7.out.frozenAt (j * 2 + 1); have lgq := (V7.out.lt gq rfl).2; have lg9 := D7.out.lt; obtain ⟨⟨m0, m1, m2, m3, m4, m5, m6⟩, -⟩ := D7.out; have lr : w.heap.size + 1 < w7.heap.size := R7.out.lt; obtain ⟨⟨z0, z1, z2, z3, z4, z5, z6⟩, ⟨f0, f1, f2, f3, f4, f5, f6⟩⟩ := R7.out; clear hb7)
     repeat go_step
     have SBB := ((((((((K7.out).setCell (p := ⟨w.heap.size + 1, 0, none⟩) (by dsimp only; omega) (.int .i64 0)).setCell (p := ⟨w.heap.size + 1, 1, none⟩) (by dsimp only; omega) (.int .i64 0)).setCell (p := ⟨w.heap.size + 1, 2, none⟩) (by dsimp only; omega) (.int .i64 0)).setCell (p := ⟨w.heap.size + 1, 3, none⟩) (by dsimp only; omega) (.int .i64 0)).setCell (p := ⟨w.heap.size + 1, 4, none⟩) (by dsimp only; omega) (.int .i64 0)).setCell (p := ⟨w.heap.size + 1, 5, none⟩) (by dsimp only; omega) (.slice none 0 0)).setCell (p := ⟨w.heap.size + 1, 6, none⟩) (by dsimp only; omega) (.slice none 0 0)).alloc (by simp; omega) (Obj.cells #[Value.int .i64 r1, Value.int .i64 r2] 29)
     refine bodyPost_ret (v := .tuple #[.agg #[.int .i64 0, .int .i64 0, .int .i64 0, .int .i64 0, .int .i64 0, .slice none 0 0, .slice none 0 0], .int .i64 f9]) (by simp [results, Tryz.results34, go_sem, z0, f0, z1, f1, z2, f2, z3, f3, z4, f4, z5, f5, z6, f6, lr]) rfl ?_
     exact Or.inl ⟨by rw [HE.out]; exact HZ.out, by rw [HE.out]; exact TS.no SBB⟩
   ·obtain rfl : j = N := by omega
    have hE : (0 : Int) = ER := by
     have h := FJ.out
     rw [Nat.sub_self] at h
     exact h
    subst hE
    have HVE := VJ
    rw [fill_full HRV.out rfl] at HVE
    have HV9 := Lib.hid HVE
    have HP9 := Lib.hid PJ
    have HK9 := Lib.hid KJ
    have lr : w.heap.size + 1 < wr.heap.size := RJ.lt
    obtain ⟨⟨z0, z1, z2, z3, z4, z5, z6⟩, ⟨f0, f1, f2, f3, f4, f5, f6⟩⟩ := RJ
    obtain ⟨⟨m0, m1, m2, m3, m4, m5, m6⟩, -⟩ := DJ
    have gN : decide ((j : Int) < j) = false := by simp
    clear FJ RED LN PT VJ HVE PJ KJ TJ HJ
    go_upto_region 38 with (go_at_call 55; (with_reducible refine SZJ.out.mono ?_); rintro e w' ⟨rfl, rfl⟩)
    repeat go_step
    have SBB := (((((((HK9.out).setCell (p := ⟨w.heap.size + 1, 0, none⟩) (by dsimp only; omega) (.int .i64 K)).setCell (p := ⟨w.heap.size + 1, 1, none⟩) (by dsimp only; omega) (.int .i64 B)).setCell (p := ⟨w.heap.size + 1, 2, none⟩) (by dsimp only; omega) (.int .i64 F)).setCell (p := ⟨w.heap.size + 1, 3, none⟩) (by dsimp only; omega) (.int .i64 R)).setCell (p := ⟨w.heap.size + 1, 4, none⟩) (by dsimp only; omega) (.int .i64 O)).setCell (p := ⟨w.heap.size + 1, 5, none⟩) (by dsimp only; omega) (.slice qr (zs.length - 1) cr)).setCell (p := ⟨w.heap.size + 1, 6, none⟩) (by dsimp only; omega) (.slice (some ⟨gq, 0, none⟩) j j)
    refine bodyPost_ret (v := .tuple #[Tn K B F R O qr (zs.length - 1) cr (some ⟨gq, 0, none⟩) j j, .int .i64 0]) (by simp [results, Tryz.results34, go_sem, z0, f0, z1, f1, z2, f2, z3, f3, z4, f4, z5, f5, z6, f6, lr, Tn]) rfl ?_
    refine Or.inr ⟨rfl, qr, cr, some ⟨gq, 0, none⟩, j, by rw [HRL.out, HRV.out], ?_, ?_, SBB⟩
    ·exact SlI_of (own_set (own_set (own_set (own_set (own_set (own_set (own_set HP9.out (by dsimp only; omega)) (by dsimp only; omega)) (by dsimp only; omega)) (by dsimp only; omega)) (by dsimp only; omega)) (by dsimp only; omega)) (by dsimp only; omega)) HRL.out
    ·exact SlV_of (own_set (own_set (own_set (own_set (own_set (own_set (own_set HV9.out (by dsimp only; omega)) (by dsimp only; omega)) (by dsimp only; omega)) (by dsimp only; omega)) (by dsimp only; omega)) (by dsimp only; omega)) (by dsimp only; omega)) HRV.out
end Go.Proofs.YteaaikmejacpaaaGreatDoor.Te


namespace Go.Proofs.YteaaikmejacpaaaGreatDoor.Te
open Go.ChangeShapes Go.WideShapes Go.ChangeAt Go.RowKit
open Fx Va Sh
set_option maxRecDepth 8000
set_option linter.unusedVariables false
set_option linter.unusedSimpArgs false

section
variable {f : Int × Int -> Int × Int -> Int × Int × Int}
/-- The running value behind an element of a line. -/
def acc (f : Int × Int -> Int × Int -> Int × Int × Int) (L : List (Int × Int)) (k : Nat) : Int × Int := (scV f L).getD k (0, 0)
/-- The first error behind an element of a line. -/
def scF (f : Int × Int -> Int × Int -> Int × Int × Int) (L : List (Int × Int)) (k : Nat) : Int := runE f (acc f L k) (L.drop (k + 1))
theorem sc_next : ∀ (l : List (Int × Int)) (x : Int × Int) (k : Nat), k < l.length -> acc f (x :: l) (k + 1) = ((f (acc f (x :: l) k) (l.getD k (0, 0))).1, (f (acc f (x :: l) k) (l.getD k (0, 0))).2.1)
 | [], _, _, h => absurd h (by simp)
 | y :: l, x, 0, _ => rfl
 | y :: l, x, k + 1, h => sc_next l ((f x y).1, (f x y).2.1) k (by simpa using h)
theorem acc_zero {L : List (Int × Int)} (h : 1 <= L.length) : acc f L 0 = L.getD 0 (0, 0) := by
 cases L with
 | nil => exact absurd h (by simp)
 | cons x l => rfl
theorem acc_next {L : List (Int × Int)} {k : Nat} (h : k + 1 < L.length) : acc f L (k + 1) = ((f (acc f L k) (L.getD (k + 1) (0, 0))).1, (f (acc f L k) (L.getD (k + 1) (0, 0))).2.1) := by
 cases L with
 | nil => exact absurd h (by simp)
 | cons x l => exact sc_next l x k (by simpa using h)
theorem scF_zero {L : List (Int × Int)} (h : 1 <= L.length) : scF f L 0 = scE f L := by
 cases L with
 | nil => exact absurd h (by simp)
 | cons x l => rfl
theorem scF_next {L : List (Int × Int)} {k : Nat} (h : k + 1 < L.length) : scF f L k = if (f (acc f L k) (L.getD (k + 1) (0, 0))).2.2 ≠ 0 then (f (acc f L k) (L.getD (k + 1) (0, 0))).2.2 else scF f L (k + 1) := by
 unfold scF
 have e : L.drop (k + 1) = L.getD (k + 1) (0, 0) :: L.drop (k + 1 + 1) := by
  rw [List.drop_eq_getElem_cons h, List.getD_eq_getElem?_getD, List.getElem?_eq_getElem h]; rfl
 rw [e, runE_cons, acc_next h]
theorem scF_end {L : List (Int × Int)} {k : Nat} (h : L.length <= k + 1) : scF f L k = 0 := by
 unfold scF
 rw [List.drop_of_length_le h]
 rfl
end
theorem repV (m i : Nat) : (List.replicate m ((0 : Int), (0 : Int))).length = m := List.length_replicate
end Go.Proofs.YteaaikmejacpaaaGreatDoor.Te
