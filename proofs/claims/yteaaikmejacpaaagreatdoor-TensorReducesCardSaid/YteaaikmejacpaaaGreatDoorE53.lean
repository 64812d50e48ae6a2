/- Tensors: the reference's Reduce with a scan. -/
import Derived.Test.YteaaikmejacpaaaGreatDoorR0
import Derived.Test.YteaaikmejacpaaaGreatDoorR24

namespace Go.Proofs.YteaaikmejacpaaaGreatDoor.Te
open Go.ChangeShapes Go.WideShapes Go.ChangeAt Go.RowKit
open Fx Va Sh
set_option maxRecDepth 8000
set_option linter.unusedVariables false
set_option linter.unusedSimpArgs false

/-- A block of two cells that may be stored to. -/
def B2 (u : World) (b : Nat) (x y : Value) : Prop := (u.cell? ⟨b, 0, none⟩ = some x /\ u.cell? ⟨b, 1, none⟩ = some y) /\ u.frozen? ⟨b, 0, none⟩ = false /\ u.frozen? ⟨b, 1, none⟩ = false
section
variable {u u' : World} {b r o Bd : Nat} {x y x' y' v : Value}
theorem B2.lt (h : B2 u b x y) : b < u.heap.size := World.block_lt_of_cell? _ _ h.1.1
theorem B2.same (hc : ∀ o, u'.cell? ⟨b, o, none⟩ = u.cell? ⟨b, o, none⟩) (hf : ∀ o, u'.frozen? ⟨b, o, none⟩ = u.frozen? ⟨b, o, none⟩) (h : B2 u b x y) : B2 u' b x y := by
 obtain ⟨⟨c0, c1⟩, f0, f1⟩ := h
 exact ⟨⟨(hc 0).trans c0, (hc 1).trans c1⟩, (hf 0).trans f0, (hf 1).trans f1⟩
theorem B2.keep (hb : Below Bd u u') (hlt : b < Bd) (h : B2 u b x y) : B2 u' b x y :=
 h.same (fun o' => World.cell?_of_block (hb.block b hlt)) (fun o' => World.frozen?_of_block (hb.block b hlt))
theorem B2.far (hr : r ≠ b) (h : B2 u b x y) : B2 (u.setCell ⟨r, o, none⟩ v) b x y := h.same (fun o' => World.cell?_setCell_far _ _ _ _ hr) (fun o' => World.frozen?_setCell _ _ _ _)
theorem B2.st (h : B2 u b x y) : B2 ((u.setCell ⟨b, 0, none⟩ x').setCell ⟨b, 1, none⟩ y') b x' y' := by
 obtain ⟨⟨c0, c1⟩, f0, f1⟩ := h
 refine ⟨⟨?_, ?_⟩, by simpa [World.frozen?_setCell] using f0, by simpa [World.frozen?_setCell] using f1⟩
 ·rw [World.cell?_setCell_other _ _ _ _ (by simp)]
  exact World.cell?_setCell_same _ _ _ c0
 ·exact World.cell?_setCell_same _ _ _ ((World.cell?_setCell_other _ _ _ _ (by simp)).trans c1)
theorem B2.new (u : World) (T : TypeId) (x y : Value) : B2 (u.alloc (Obj.cells #[x, y] T)) u.heap.size x y := by
 refine ⟨⟨?_, ?_⟩, ?_, ?_⟩ <;> go_cell
end
theorem own_setG {u : World} {base : Nat} {E : TypeId} {sz n : Nat} {v : Value} {xs : List Value} (h : u.ownsRow base E sz v n xs) {A g o : Nat} {y : Value} (hA : ∀ k, v.ownBlock = some k -> k < A) (hg : A <= g) : (u.setCell ⟨g, o, none⟩ y).ownsRow base E sz v n xs := h.kept grown_set (by
 cases hb : v.ownBlock with
 | none => exact .inl rfl
 | some q => exact .inr (fun e => by have e' : q = g := Option.some.inj e; have := hA _ hb; omega))
/-- A row of zeros is a row whose no line holds another's elements. -/
theorem mix_zero {S : List (Int × Int)} {many after total : Nat} : mix S (List.replicate total (0, 0)) many after total 0 0 = List.replicate total (0, 0) := mix_start (repV total 0)
theorem mixz_line {K B F R O : Int} {vs Z : List (Int × Int)} {bf my af m j k : Nat} (q3 : 1 <= af) (hk : k < my) (hj : j < bf * af) (hm : m = bf * my * af) : (mix (scA (fop K B F R O) vs my af m) Z my af m j k).set (lnF my af j + k * af) (acc (fop K B F R O) (lnV vs my af j) k) = mix (scA (fop K B F R O) vs my af m) Z my af m j (k + 1) := by
 unfold acc
 rw [hm, <- scA_get q3 hk hj]
 exact mix_set q3 hk hj

set_option maxRecDepth 100000 in
set_option maxHeartbeats 2000000 in
theorem rrd_s (K B F R O : Int) (p : Option Addr) (zs : List Int) (c : Nat) (q : Option Addr) (vs : List (Int × Int)) (d : Nat) (a : Nat) (fold : Int) (w : World) (b0 : -9223372036854775808 <= B) (b1 : B <= 9223372036854775807) (hn : zs.length <= maxLen) (hm : vs.length <= maxLen) (RA : Hid (SlI w p zs)) (RB : Hid (SlV w q vs)) (ht : tE K B F R O zs vs = 0) (ha : a < zs.length) (hc : zs.length <= c) (hc2 : c <= 9223372036854775807) (bf my af : Nat) (hbf : sp (zs.take a) = bf) (hmy : zs.getD a 0 = my) (haf : sp (zs.drop (a + 1)) = af) (q1 : 1 <= bf) (q2 : 1 <= my) (q3 : 1 <= af) (hmm3 : vs.length = bf * my * af) (q5 : bf * af <= vs.length) (q6 : my <= vs.length) (q7 : bf <= vs.length) (q8 : af <= vs.length) (hf : fold = 5) :
  Calls Tryz.prog 34 #[Tn K B F R O p zs.length c q vs.length d, .int .i64 a, .int .i64 fold] w (TSr (fe (snE K B F R O vs my af) (bf * af) 0) K B F R O zs (scA (fop K B F R O) vs my af (bf * my * af)) w) := by
 have TV0 := fun w h1 h2 => rval K B F R O p zs c q vs d w hn hm h1 h2
 rw [ht] at TV0
 obtain ⟨-, hv, tl, -⟩ := tE_ok ht
 obtain ⟨h6, -, -, hsp, -⟩ := valid_of hv
 have hrv := rst_valid hv ha
 have hrl := rst_length ha
 have hrs : sp (rst zs a) = ((bf * af : Nat) : Int) := by rw [rst_sp, hbf, haf]; push_cast; rfl
 have m4' : vs.length <= 4096 := by omega
 have SZ0 := fun (qr : Option Addr) (cr : Nat) (u : World) h => rsize qr (rst zs a) cr u h hrv
 have PT0 := fun (qr : Option Addr) (cr j : Nat) (hj : j < bf * af) (u : World) h => trpo qr (rst zs a) cr j u hrv (by rw [hrs]; exact_mod_cast hj) h
 have LN0 := fun (gx j : Nat) (hj : j < bf * af) (u : World) h1 h2 h3 => rline K B F R O p zs c q vs d a gx j bf my af u hv ha hbf hmy haf q3 hmm3 m4' q6 q2 hj h1 h2 h3
 have CO0 := fun (j : Nat) (hj : j < bf * af) (k : Nat) (hk : k < my) (y : Option Addr) (e : Nat) (u : World) h1 h2 => troff p y zs (ins (pt (rst zs a) j) a k) c e _ u hv (ins_length (by rw [pt_length, hrl]; omega)) (ref_off hv ha hbf hmy haf hj hk) h1 h2
 rw [hrs] at SZ0
 rw [hrl] at SZ0 PT0
 have hzp : 0 < zs.length := by omega
 obtain ⟨bb, oo, hpp, hcell⟩ := RA.out a ha
 have hbb : bb < w.heap.size := World.block_lt_of_cell? _ _ hcell
 subst hpp
 obtain ⟨vb, vo, hqq, -⟩ := RB.out 0 (by omega)
 subst hqq
 subst hf
 obtain ⟨ER, hER⟩ : ∃ E, fe (snE K B F R O vs my af) (bf * af) 0 = E := ⟨_, rfl⟩
 rw [hER]
 obtain ⟨N, hN⟩ : ∃ N, bf * af = N := ⟨_, rfl⟩
 rw [hN] at hER q5 SZ0 PT0 LN0
 rw [<- hmm3]
 have HER := Lib.hid hER
 obtain ⟨m, hmm⟩ : ∃ m, vs.length = m := ⟨_, rfl⟩
 have HM := Lib.hid hmm
 rw [hmm] at TV0 LN0 hm tl hmm3 q5 q6 q7 q8 m4' ⊢
 have TV := Lib.hid TV0
 have B0 : Hid (Below w.heap.size w ((w.alloc (Obj.cells #[Value.int .i64 K, Value.int .i64 B, Value.int .i64 F, Value.int .i64 R, Value.int .i64 O, Value.slice (some ⟨bb, oo, none⟩) zs.length c, Value.slice (some ⟨vb, vo, none⟩) m d] 27)).alloc (Obj.cells #[Value.int .i64 0, Value.int .i64 0, Value.int .i64 0, Value.int .i64 0, Value.int .i64 0, Value.slice none 0 0, Value.slice none 0 0] 27))) := Lib.hid (((Below.refl _ _).alloc (Nat.le_refl _) _).alloc (by simp) _)
 have T0 : Hid (B7 ((w.alloc (Obj.cells #[Value.int .i64 K, Value.int .i64 B, Value.int .i64 F, Value.int .i64 R, Value.int .i64 O, Value.slice (some ⟨bb, oo, none⟩) zs.length c, Value.slice (some ⟨vb, vo, none⟩) m d] 27)).alloc (Obj.cells #[Value.int .i64 0, Value.int .i64 0, Value.int .i64 0, Value.int .i64 0, Value.int .i64 0, Value.slice none 0 0, Value.slice none 0 0] 27)) (w.heap.size) (.int .i64 K) (.int .i64 B) (.int .i64 F) (.int .i64 R) (.int .i64 O) (.slice (some ⟨bb, oo, none⟩) zs.length c) (.slice (some ⟨vb, vo, none⟩) m d)) := Lib.hid ((B7.new w _ (.int .i64 K) (.int .i64 B) (.int .i64 F) (.int .i64 R) (.int .i64 O) (.slice (some ⟨bb, oo, none⟩) zs.length c) (.slice (some ⟨vb, vo, none⟩) m d)).alloc _)
 have R0 : Hid (B7 ((w.alloc (Obj.cells #[Value.int .i64 K, Value.int .i64 B, Value.int .i64 F, Value.int .i64 R, Value.int .i64 O, Value.slice (some ⟨bb, oo, none⟩) zs.length c, Value.slice (some ⟨vb, vo, none⟩) m d] 27)).alloc (Obj.cells #[Value.int .i64 0, Value.int .i64 0, Value.int .i64 0, Value.int .i64 0, Value.int .i64 0, Value.slice none 0 0, Value.slice none 0 0] 27)) (w.heap.size + 1) (.int .i64 0) (.int .i64 0) (.int .i64 0) (.int .i64 0) (.int .i64 0) (.slice none 0 0) (.slice none 0 0)) := Lib.hid (by have h := B7.new (w.alloc (Obj.cells #[Value.int .i64 K, Value.int .i64 B, Value.int .i64 F, Value.int .i64 R, Value.int .i64 O, Value.slice (some ⟨bb, oo, none⟩) zs.length c, Value.slice (some ⟨vb, vo, none⟩) m d] 27)) 27 (.int .i64 0) (.int .i64 0) (.int .i64 0) (.int .i64 0) (.int .i64 0) (.slice none 0 0) (.slice none 0 0); simpa using h)
 clear TV0
 have HM3 := Lib.hid hmm3
 have HNN := Lib.hid hN
 have SZ := Lib.hid SZ0
 have PT := Lib.hid PT0
 have LN := Lib.hid LN0
 rw [hN] at CO0
 have CO := Lib.hid CO0
 have HRL := Lib.hid hrl
 have g1 : decide ((a : Int) < 0) = false := by simp
 have g2 : decide ((zs.length : Int) <= a) = false := by simp; omega
 have g3 : decide (zs.length <= a) = false := by simp; omega
 have wa : IntKind.i64.wrap ((a : Int) + 1) = (a : Int) + 1 := by rw [IntKind.wrap_i64]; omega
 have a0 : (0 : Int) <= a := by omega
 have a1 : (a : Int) < zs.length := by omega
 have a2 : (a : Int) <= c := by omega
 have a3 : (a : Int) + 1 <= zs.length := by omega
 have a4 : (zs.length : Int) <= c := by omega
 clear CO0 ht hm hmm hmm3 tl hER hN SZ0 PT0 LN0 hv hrv hrl hrs hbf hmy haf hsp hcell
 unfold Tn at *
 obtain ⟨i0, hi, hz0, hz1, hz2⟩ := info_parts info3
 go_enter Tryz.func34, Tryz.ntmps34
 go_upto_region 9 with (go_at_call 21; (with_reducible refine (TV.out _ (Lib.hid (SlI.keep B0.out RA.out)) (Lib.hid (SlV.below RB.out B0.out))).mono ?_); rintro e w1 ⟨rfl, hb⟩; have KB := Lib.hid (B0.out.trans (hb.mono B0.out.size)); have TB := Lib.hid (B7.keep hb (by simp <;> omega) T0.out); have RB9 := Lib.hid (B7.keep hb (by simp <;> omega) R0.out); obtain ⟨⟨c0, c1, c2, c3, c4, c5, c6⟩, -⟩ := TB.out; obtain ⟨⟨z0, z1, z2, z3, z4, z5, z6⟩, ⟨f0, f1, f2, f3, f4, f5, f6⟩⟩ := RB9.out; have lr : w.heap.size + 1 < w1.heap.size := RB9.out.lt; clear hb)
 have af1 := q3
 have my1 := q2
 have lt1 : w.heap.size < w1.heap.size := TB.out.lt
 go_upto_region 11 with (first | (at_builtin; refine wpList_append_slI _ rfl _ _ 24 rfl w1.heap.size 3 i0 (.int .i64 0) 8 Tryz.underlying24 hi hz0 hz1 hz2 rfl (.slice none 0 0) (0) ([]) rfl (World.ownsRow_nil _ _ _ _) (_) (zs.take a) (a) _ rfl (by rw [List.length_take]; omega) (SlI_take (SlI.keep KB.out RA.out) a) (by unfold maxLen; omega) (by omega) (Nat.le_refl _) ?_; intro v1 wq1 hown1 hgr1; have hq1b := below_own (Nat.le_refl _) hgr1; replace hown1 : wq1.ownsRow w1.heap.size 3 1 v1 a ((zs.take a).map (Value.int .i64)) := (by simpa using hown1); have HO1 := Lib.hid hown1; obtain ⟨q1, k1, rfl⟩ := own_slice hown1; have HQ1 := Lib.hid hq1b; have sq1 := hq1b.size; replace c0 := Rg.keep HQ1.out lt1 c0; replace c1 := Rg.keep HQ1.out lt1 c1; replace c2 := Rg.keep HQ1.out lt1 c2; replace c3 := Rg.keep HQ1.out lt1 c3; replace c4 := Rg.keep HQ1.out lt1 c4; replace c5 := Rg.keep HQ1.out lt1 c5; replace c6 := Rg.keep HQ1.out lt1 c6; clear hown1 hgr1 hq1b) | (at_builtin; refine wpList_append_slI _ rfl _ _ 24 rfl w1.heap.size 3 i0 (.int .i64 0) 8 Tryz.underlying24 hi hz0 hz1 hz2 rfl (.slice q1 a k1) (a) ((zs.take a).map (Value.int .i64)) rfl HO1.out (_) (zs.drop (a + 1)) (zs.length - (a + 1)) _ rfl (by rw [List.length_drop]) (SlI.keep HQ1.out (SlI.dropCap (SlI.keep KB.out RA.out) hc)) (by unfold maxLen; omega) (by omega) HQ1.out.size ?_; intro v2 wa hown2 hgr2; have hq2b : Below w1.heap.size w1 wa := HQ1.out.grown hgr2 HQ1.out.size (fun k e => (HO1.out.lt k e).1); replace hown2 : wa.ownsRow w1.heap.size 3 1 v2 (zs.length - 1) ((rst zs a).map (Value.int .i64)) := (by have e1 : a + (zs.length - (a + 1)) = zs.length - 1 := (by omega); rw [e1] at hown2; unfold rst; simpa using hown2); have HOR := Lib.hid hown2; obtain ⟨qr, cr, rfl⟩ := own_slice hown2; have HQ2 := Lib.hid hq2b; have sq2 := hq2b.size; clear hown2 hgr2 hq2b))
 generalize (if c = a + 1 then some (⟨bb, oo, none⟩ : Addr) else some ⟨bb, oo + (a + 1), none⟩) = ad55
 have TA := Lib.hid (B7.keep HQ2.out lt1 TB.out)
 have RA9 := Lib.hid (B7.keep HQ2.out lr RB9.out)
 have KA := Lib.hid (KB.out.trans (HQ2.out.mono KB.out.size))
 have lta : w.heap.size < wa.heap.size := TA.out.lt
 have lra := RA9.out.lt
 have SZA := Lib.hid fun u (h : Below wa.heap.size wa u) => SZ.out qr cr u (Lib.hid (SlI.keep h (SlI_of HOR.out HRL.out)))
 have lr1 : w.heap.size + 1 < w1.heap.size := lr
 clear z0 z1 z2 z3 z4 z5 z6 f0 f1 f2 f3 f4 f5 f6 TB RB9 KB lr HO1 HQ1 c0 c1 c2 c3 c4 c5 c6 i0 hi hz0 hz1 hz2
 obtain ⟨⟨c0, c1, c2, c3, c4, c5, c6⟩, -⟩ := TA.out
 have HS : Hid (∀ u u' : World, (u.cell? ⟨w.heap.size, 0, none⟩ = some (.int .i64 K) /\ u.cell? ⟨w.heap.size, 1, none⟩ = some (.int .i64 B) /\ u.cell? ⟨w.heap.size, 2, none⟩ = some (.int .i64 F) /\ u.cell? ⟨w.heap.size, 3, none⟩ = some (.int .i64 R) /\ u.cell? ⟨w.heap.size, 4, none⟩ = some (.int .i64 O) /\ u.cell? ⟨w.heap.size, 5, none⟩ = some (.slice (some ⟨bb, oo, none⟩) zs.length c) /\ u.cell? ⟨w.heap.size, 6, none⟩ = some (.slice (some ⟨vb, vo, none⟩) m d) /\ Below wa.heap.size wa u) -> Below u.heap.size u u' -> (u'.cell? ⟨w.heap.size, 0, none⟩ = some (.int .i64 K) /\ u'.cell? ⟨w.heap.size, 1, none⟩ = some (.int .i64 B) /\ u'.cell? ⟨w.heap.size, 2, none⟩ = some (.int .i64 F) /\ u'.cell? ⟨w.heap.size, 3, none⟩ = some (.int .i64 R) /\ u'.cell? ⟨w.heap.size, 4, none⟩ = some (.int .i64 O) /\ u'.cell? ⟨w.heap.size, 5, none⟩ = some (.slice (some ⟨bb, oo, none⟩) zs.length c) /\ u'.cell? ⟨w.heap.size, 6, none⟩ = some (.slice (some ⟨vb, vo, none⟩) m d) /\ Below wa.heap.size wa u')) := Lib.hid (fun u u' h hb => ⟨Rg.keep hb (World.block_lt_of_cell? _ _ h.1) h.1, Rg.keep hb (World.block_lt_of_cell? _ _ h.2.1) h.2.1, Rg.keep hb (World.block_lt_of_cell? _ _ h.2.2.1) h.2.2.1, Rg.keep hb (World.block_lt_of_cell? _ _ h.2.2.2.1) h.2.2.2.1, Rg.keep hb (World.block_lt_of_cell? _ _ h.2.2.2.2.1) h.2.2.2.2.1, Rg.keep hb (World.block_lt_of_cell? _ _ h.2.2.2.2.2.1) h.2.2.2.2.2.1, Rg.keep hb (World.block_lt_of_cell? _ _ h.2.2.2.2.2.2.1) h.2.2.2.2.2.2.1, h.2.2.2.2.2.2.2.trans (hb.mono h.2.2.2.2.2.2.2.size)⟩)
 go_cut [10] from 57 to 63 (fun p9 wx => ∃ (g9 gq : Nat), p9 = .pointer (some ⟨g9, 0, none⟩) /\ Hid (B7 wx (g9) (.int .i64 K) (.int .i64 B) (.int .i64 F) (.int .i64 R) (.int .i64 O) (.slice qr (zs.length - 1) cr) (.slice (some ⟨gq, 0, none⟩) N N)) /\ Hid (wx.ownsRow wa.heap.size 29 2 (.slice (some ⟨gq, 0, none⟩) N N) N (flV (List.replicate N ((0 : Int), (0 : Int))))) /\ g9 ≠ gq /\ wa.heap.size <= g9 /\ Hid (Below wa.heap.size wa wx))
 case first =>
  refine Rk.begin (S := fun wS => wS.cell? ⟨w.heap.size, 0, none⟩ = some (.int .i64 K) /\ wS.cell? ⟨w.heap.size, 1, none⟩ = some (.int .i64 B) /\ wS.cell? ⟨w.heap.size, 2, none⟩ = some (.int .i64 F) /\ wS.cell? ⟨w.heap.size, 3, none⟩ = some (.int .i64 R) /\ wS.cell? ⟨w.heap.size, 4, none⟩ = some (.int .i64 O) /\ wS.cell? ⟨w.heap.size, 5, none⟩ = some (.slice (some ⟨bb, oo, none⟩) zs.length c) /\ wS.cell? ⟨w.heap.size, 6, none⟩ = some (.slice (some ⟨vb, vo, none⟩) m d) /\ Below wa.heap.size wa wS) 8 (by kernel_rfl) ⟨c0, c1, c2, c3, c4, c5, c6, Below.drew (Below.refl _ _)⟩ (fun hHeld => ?_)
  refine SqR.p 0 ?_
  refine SqR.l [8] 1 ?_
  refine SqR.p 2 ?_
  refine SqR.p 3 ?_
  refine Rk.two (i := 4) (j := 7) (by kernel_rfl) rfl rfl (fun KK hK => ?_) (fun KK hK => ?_)
  ·rw [if_pos (by kernel_rfl)]
   go_simp
   ((with_reducible refine (SZA.out _ (hHeld.2.2.2.2.2.2.2)).mono ?_); rintro e u9 ⟨rfl, rfl⟩)
   first | (refine hK.out _ _ (fun _ => hHeld) (fun hHeld => ?_)) | (refine hK.out _ _ hHeld (fun hHeld => ?_)) | (go_wp2_with fail; refine hK.out _ _ hHeld (fun hHeld => ?_))
   clear hK KK
   refine Rk.two (i := 5) (j := 7) (by kernel_rfl) rfl rfl (fun KK hK => ?_) (fun KK hK => ?_)
   ·rw [if_pos (by kernel_rfl)]
    obtain ⟨i0, hi, hz0, hz1, hz2⟩ := info_parts infoV
    refine wp_make_full _ _ _ 25 rfl wa.heap.size 29 i0 (.agg #[.int .i64 0, .int .i64 0]) 2 Tryz.underlying25 hi hz0 hz1 .i64 .i64 _ _ N rfl rfl rfl rfl (by rw [hz2]; omega) (by unfold maxLen; omega) (hHeld.2.2.2.2.2.2.2).size (wa.heap.size) (by simp) ?_
    intro u6 hown6 hg6
    rw [madeV] at hown6
    have hb6 := below_own (Nat.le_refl _) hg6
    have hNew := HS.out _ _ hHeld hb6
    have hg6l : wa.heap.size < u6.heap.size := (hown6.lt _ rfl).2
    first | (refine hK.out _ _ (fun _ => hNew) (fun _ => ?_)) | (refine hK.out _ _ hNew (fun _ => ?_)) | (go_wp2_with fail; refine hK.out _ _ hNew (fun _ => ?_))
    replace hHeld := hNew
    clear hNew hb6 hg6 hi hz0 hz1 hz2
    clear hK KK
    refine SqR.p 6 ?_
    refine Rk.one (i := 7) (by kernel_rfl) rfl (fun KK hK => ?_)
    rw [if_pos (by kernel_rfl)]
    go_simp
    have hNew := HS.out _ _ hHeld ((Below.refl _ _).alloc (Nat.le_refl _) (Obj.cells #[Value.int .i64 0, Value.int .i64 0, Value.int .i64 0, Value.int .i64 0, Value.int .i64 0, Value.slice none 0 0, Value.slice none 0 0] 27))
    have M7 := B7.new u6 27 (.int .i64 0) (.int .i64 0) (.int .i64 0) (.int .i64 0) (.int .i64 0) (.slice none 0 0) (.slice none 0 0)
    have hne : u6.heap.size ≠ wa.heap.size := by omega
    replace hown6 := hown6.alloc (Obj.cells #[Value.int .i64 0, Value.int .i64 0, Value.int .i64 0, Value.int .i64 0, Value.int .i64 0, Value.slice none 0 0, Value.slice none 0 0] 27)
    refine hK.out _ _ hNew (fun _ => ?_)
    replace hHeld := hNew
    clear hNew
    clear hK KK
    refine Rk.tail [8] [_] (by kernel_rfl) (by kernel_rfl) rfl (by decide) ?_
    obtain ⟨c0, c1, c2, c3, c4, c5, c6, K8⟩ := hHeld
    have M8 := M7
    obtain ⟨⟨m0, m1, m2, m3, m4, m5, m6⟩, ⟨g0, g1, g2, g3, g4, g5, g6⟩⟩ := M7
    have lm := M8.lt
    generalize (u6.alloc (Obj.cells #[Value.int .i64 0, Value.int .i64 0, Value.int .i64 0, Value.int .i64 0, Value.int .i64 0, Value.slice none 0 0, Value.slice none 0 0] 27)) = gw at *
    have hnb : wa.heap.size <= u6.heap.size := by omega
    go_wp2_with fail
    go_meet
    exact ⟨u6.heap.size, wa.heap.size, rfl, Lib.hid M8.st, Lib.hid (own_far7 hown6 (Or.inr (by intro e; have e' : some (wa.heap.size) = some (u6.heap.size) := e; injection e' with e'; exact hne e'.symm))), hne, hnb, Lib.hid (below_set7 K8 hnb)⟩
   ·rw [if_pos (by kernel_rfl)]
    go_simp
    have hNew := HS.out _ _ hHeld ((Below.refl _ _).alloc (Nat.le_refl _) (Obj.cells #[Value.int .i64 0, Value.int .i64 0, Value.int .i64 0, Value.int .i64 0, Value.int .i64 0, Value.slice none 0 0, Value.slice none 0 0] 27))
    have M7 : B7 (wa.alloc (Obj.cells #[Value.int .i64 0, Value.int .i64 0, Value.int .i64 0, Value.int .i64 0, Value.int .i64 0, Value.slice none 0 0, Value.slice none 0 0] 27)).drew (wa.heap.size) (.int .i64 0) (.int .i64 0) (.int .i64 0) (.int .i64 0) (.int .i64 0) (.slice none 0 0) (.slice none 0 0) := B7.new wa _ (.int .i64 0) (.int .i64 0) (.int .i64 0) (.int .i64 0) (.int .i64 0) (.slice none 0 0) (.slice none 0 0)
    refine hK.out _ _ hNew (fun _ => ?_)
    replace hHeld := hNew
    clear hNew
    replace hHeld : (wa.alloc (Obj.cells #[Value.int .i64 0, Value.int .i64 0, Value.int .i64 0, Value.int .i64 0, Value.int .i64 0, Value.slice none 0 0, Value.slice none 0 0] 27)).drew.cell? ⟨w.heap.size, 0, none⟩ = some (.int .i64 K) /\ (wa.alloc (Obj.cells #[Value.int .i64 0, Value.int .i64 0, Value.int .i64 0, Value.int .i64 0, Value.int .i64 0, Value.slice none 0 0, Value.slice none 0 0] 27)).drew.cell? ⟨w.heap.size, 1, none⟩ = some (.int .i64 B) /\ (wa.alloc (Obj.cells #[Value.int .i64 0, Value.int .i64 0, Value.int .i64 0, Value.int .i64 0, Value.int .i64 0, Value.slice none 0 0, Value.slice none 0 0] 27)).drew.cell? ⟨w.heap.size, 2, none⟩ = some (.int .i64 F) /\ (wa.alloc (Obj.cells #[Value.int .i64 0, Value.int .i64 0, Value.int .i64 0, Value.int .i64 0, Value.int .i64 0, Value.slice none 0 0, Value.slice none 0 0] 27)).drew.cell? ⟨w.heap.size, 3, none⟩ = some (.int .i64 R) /\ (wa.alloc (Obj.cells #[Value.int .i64 0, Value.int .i64 0, Value.int .i64 0, Value.int .i64 0, Value.int .i64 0, Value.slice none 0 0, Value.slice none 0 0] 27)).drew.cell? ⟨w.heap.size, 4, none⟩ = some (.int .i64 O) /\ (wa.alloc (Obj.cells #[Value.int .i64 0, Value.int .i64 0, Value.int .i64 0, Value.int .i64 0, Value.int .i64 0, Value.slice none 0 0, Value.slice none 0 0] 27)).drew.cell? ⟨w.heap.size, 5, none⟩ = some (.slice (some ⟨bb, oo, none⟩) zs.length c) /\ (wa.alloc (Obj.cells #[Value.int .i64 0, Value.int .i64 0, Value.int .i64 0, Value.int .i64 0, Value.int .i64 0, Value.slice none 0 0, Value.slice none 0 0] 27)).drew.cell? ⟨w.heap.size, 6, none⟩ = some (.slice (some ⟨vb, vo, none⟩) m d) /\ Below wa.heap.size wa (wa.alloc (Obj.cells #[Value.int .i64 0, Value.int .i64 0, Value.int .i64 0, Value.int .i64 0, Value.int .i64 0, Value.slice none 0 0, Value.slice none 0 0] 27)).drew := hHeld
    clear hK KK
    refine Rk.one (i := 5) (by kernel_rfl) rfl (fun KK hK => ?_)
    rw [if_pos (by kernel_rfl)]
    obtain ⟨i0, hi, hz0, hz1, hz2⟩ := info_parts infoV
    refine wp_make_full _ _ _ 25 rfl wa.heap.size 29 i0 (.agg #[.int .i64 0, .int .i64 0]) 2 Tryz.underlying25 hi hz0 hz1 .i64 .i64 _ _ N rfl rfl rfl rfl (by rw [hz2]; omega) (by unfold maxLen; omega) (hHeld.2.2.2.2.2.2.2).size (wa.heap.size + 1) (by simp) ?_
    intro u6 hown6 hg6
    rw [madeV] at hown6
    have hb6 := below_own (Nat.le_refl _) hg6
    have hNew := HS.out _ _ hHeld hb6
    replace M7 := B7.keep hb6 M7.lt M7
    have hne : wa.heap.size ≠ wa.heap.size + 1 := by omega
    have hg6l : wa.heap.size + 1 < u6.heap.size := (hown6.lt _ rfl).2
    first | (refine hK.out _ _ (fun _ => hNew) (fun _ => ?_)) | (refine hK.out _ _ hNew (fun _ => ?_)) | (go_wp2_with fail; refine hK.out _ _ hNew (fun _ => ?_))
    replace hHeld := hNew
    clear hNew hb6 hg6 hi hz0 hz1 hz2
    clear hK KK
    refine SqR.p 6 ?_
    refine Rk.tail [8] [_] (by kernel_rfl) (by kernel_rfl) rfl (by decide) ?_
    obtain ⟨c0, c1, c2, c3, c4, c5, c6, K8⟩ := hHeld
    have M8 := M7
    obtain ⟨⟨m0, m1, m2, m3, m4, m5, m6⟩, ⟨g0, g1, g2, g3, g4, g5, g6⟩⟩ := M7
    have lm := M8.lt
    have hnb : wa.heap.size <= wa.heap.size := by omega
    go_wp2_with fail
    go_meet
    exact ⟨wa.heap.size, wa.heap.size + 1, rfl, Lib.hid M8.st, Lib.hid (own_far7 hown6 (Or.inr (by intro e; have e' : some (wa.heap.size + 1) = some (wa.heap.size) := e; injection e' with e'; exact hne e'.symm))), hne, hnb, Lib.hid (below_set7 K8 hnb)⟩
  ·rw [if_pos (by kernel_rfl)]
   go_simp
   have hNew := HS.out _ _ hHeld ((Below.refl _ _).alloc (Nat.le_refl _) (Obj.cells #[Value.int .i64 0, Value.int .i64 0, Value.int .i64 0, Value.int .i64 0, Value.int .i64 0, Value.slice none 0 0, Value.slice none 0 0] 27))
   have M7 : B7 (wa.alloc (Obj.cells #[Value.int .i64 0, Value.int .i64 0, Value.int .i64 0, Value.int .i64 0, Value.int .i64 0, Value.slice none 0 0, Value.slice none 0 0] 27)).drew (wa.heap.size) (.int .i64 0) (.int .i64 0) (.int .i64 0) (.int .i64 0) (.int .i64 0) (.slice none 0 0) (.slice none 0 0) := B7.new wa _ (.int .i64 0) (.int .i64 0) (.int .i64 0) (.int .i64 0) (.int .i64 0) (.slice none 0 0) (.slice none 0 0)
   refine hK.out _ _ hNew (fun _ => ?_)
   replace hHeld := hNew
   clear hNew
   replace hHeld : (wa.alloc (Obj.cells #[Value.int .i64 0, Value.int .i64 0, Value.int .i64 0, Value.int .i64 0, Value.int .i64 0, Value.slice none 0 0, Value.slice none 0 0] 27)).drew.cell? ⟨w.heap.size, 0, none⟩ = some (.int .i64 K) /\ (wa.alloc (Obj.cells #[Value.int .i64 0, Value.int .i64 0, Value.int .i64 0, Value.int .i64 0, Value.int .i64 0, Value.slice none 0 0, Value.slice none 0 0] 27)).drew.cell? ⟨w.heap.size, 1, none⟩ = some (.int .i64 B) /\ (wa.alloc (Obj.cells #[Value.int .i64 0, Value.int .i64 0, Value.int .i64 0, Value.int .i64 0, Value.int .i64 0, Value.slice none 0 0, Value.slice none 0 0] 27)).drew.cell? ⟨w.heap.size, 2, none⟩ = some (.int .i64 F) /\ (wa.alloc (Obj.cells #[Value.int .i64 0, Value.int .i64 0, Value.int .i64 0, Value.int .i64 0, Value.int .i64 0, Value.slice none 0 0, Value.slice none 0 0] 27)).drew.cell? ⟨w.heap.size, 3, none⟩ = some (.int .i64 R) /\ (wa.alloc (Obj.cells #[Value.int .i64 0, Value.int .i64 0, Value.int .i64 0, Value.int .i64 0, Value.int .i64 0, Value.slice none 0 0, Value.slice none 0 0] 27)).drew.cell? ⟨w.heap.size, 4, none⟩ = some (.int .i64 O) /\ (wa.alloc (Obj.cells #[Value.int .i64 0, Value.int .i64 0, Value.int .i64 0, Value.int .i64 0, Value.int .i64 0, Value.slice none 0 0, Value.slice none 0 0] 27)).drew.cell? ⟨w.heap.size, 5, none⟩ = some (.slice (some ⟨bb, oo, none⟩) zs.length c) /\ (wa.alloc (Obj.cells #[Value.int .i64 0, Value.int .i64 0, Value.int .i64 0, Value.int .i64 0, Value.int .i64 0, Value.slice none 0 0, Value.slice none 0 0] 27)).drew.cell? ⟨w.heap.size, 6, none⟩ = some (.slice (some ⟨vb, vo, none⟩) m d) /\ Below wa.heap.size wa (wa.alloc (Obj.cells #[Value.int .i64 0, Value.int .i64 0, Value.int .i64 0, Value.int .i64 0, Value.int .i64 0, Value.slice none 0 0, Value.slice none 0 0] 27)).drew := hHeld
   clear hK KK
   refine Rk.one (i := 4) (by kernel_rfl) rfl (fun KK hK => ?_)
   rw [if_pos (by kernel_rfl)]
   go_simp
   ((with_reducible refine (SZA.out _ (hHeld.2.2.2.2.2.2.2)).mono ?_); rintro e u9 ⟨rfl, rfl⟩)
   first | (refine hK.out _ _ (fun _ => hHeld) (fun hHeld => ?_)) | (refine hK.out _ _ hHeld (fun hHeld => ?_)) | (go_wp2_with fail; refine hK.out _ _ hHeld (fun hHeld => ?_))
   clear hK KK
   refine Rk.one (i := 5) (by kernel_rfl) rfl (fun KK hK => ?_)
   rw [if_pos (by kernel_rfl)]
   obtain ⟨i0, hi, hz0, hz1, hz2⟩ := info_parts infoV
   refine wp_make_full _ _ _ 25 rfl wa.heap.size 29 i0 (.agg #[.int .i64 0, .int .i64 0]) 2 Tryz.underlying25 hi hz0 hz1 .i64 .i64 _ _ N rfl rfl rfl rfl (by rw [hz2]; omega) (by unfold maxLen; omega) (hHeld.2.2.2.2.2.2.2).size (wa.heap.size + 1) (by simp) ?_
   intro u6 hown6 hg6
   rw [madeV] at hown6
   have hb6 := below_own (Nat.le_refl _) hg6
   have hNew := HS.out _ _ hHeld hb6
   replace M7 := B7.keep hb6 M7.lt M7
   have hne : wa.heap.size ≠ wa.heap.size + 1 := by omega
   have hg6l : wa.heap.size + 1 < u6.heap.size := (hown6.lt _ rfl).2
   first | (refine hK.out _ _ (fun _ => hNew) (fun _ => ?_)) | (refine hK.out _ _ hNew (fun _ => ?_)) | (go_wp2_with fail; refine hK.out _ _ hNew (fun _ => ?_))
   replace hHeld := hNew
   clear hNew hb6 hg6 hi hz0 hz1 hz2
   clear hK KK
   refine SqR.p 6 ?_
   refine Rk.tail [8] [_] (by kernel_rfl) (by kernel_rfl) rfl (by decide) ?_
   obtain ⟨c0, c1, c2, c3, c4, c5, c6, K8⟩ := hHeld
   have M8 := M7
   obtain ⟨⟨m0, m1, m2, m3, m4, m5, m6⟩, ⟨g0, g1, g2, g3, g4, g5, g6⟩⟩ := M7
   have lm := M8.lt
   have hnb : wa.heap.size <= wa.heap.size := by omega
   go_wp2_with fail
   go_meet
   exact ⟨wa.heap.size, wa.heap.size + 1, rfl, Lib.hid M8.st, Lib.hid (own_far7 hown6 (Or.inr (by intro e; have e' : some (wa.heap.size + 1) = some (wa.heap.size) := e; injection e' with e'; exact hne e'.symm))), hne, hnb, Lib.hid (below_set7 K8 hnb)⟩

 case rest =>
  obtain ⟨g9, gq, rfl, HD, HV, hne9, hn9, HBX⟩ := hcut
  have KBC := Lib.hid (KA.out.trans (HBX.out.mono KA.out.size))
  have TBC := Lib.hid (B7.keep HBX.out lta TA.out)
  have RBC := Lib.hid (B7.keep HBX.out lra RA9.out)
  have ORC := Lib.hid (own_belowE HOR.out HBX.out)
  have HPR := Lib.hid fun k e => (HOR.out.lt k e).2
  have hsx := HBX.out.size
  have hg9 := HD.out.lt
  have hgl := (HV.out.lt gq rfl)
  have hFE0 : Hid (fe (snE K B F R O vs my af) (N - 0) 0 = ER) := HER
  clear c0 c1 c2 c3 c4 c5 c6 HS TA RA9 KA HOR SZA HQ2 HER
  obtain ⟨gm, hgm⟩ : ∃ g, wc.heap.size = g := ⟨_, rfl⟩
  have HGM := Lib.hid hgm
  have hgq9 : gq < gm := by rw [<- hgm]; exact hgl.2
  have hg9m : g9 < gm := by rw [<- hgm]; exact hg9
  have hwm : wa.heap.size <= gm := by rw [<- hgm]; exact hsx
  clear hgm hsx hg9 hgl
  obtain ⟨⟨c0, c1, c2, c3, c4, c5, c6⟩, -⟩ := TBC.out
  obtain ⟨⟨m0, m1, m2, m3, m4, m5, m6⟩, ⟨g0, g1, g2, g3, g4, g5, g6⟩⟩ := HD.out
  go_upto_region 13 with fail
  have HS : Hid (∀ u u' : World, (u.cell? ⟨w.heap.size, 0, none⟩ = some (.int .i64 K) /\ u.cell? ⟨w.heap.size, 1, none⟩ = some (.int .i64 B) /\ u.cell? ⟨w.heap.size, 2, none⟩ = some (.int .i64 F) /\ u.cell? ⟨w.heap.size, 3, none⟩ = some (.int .i64 R) /\ u.cell? ⟨w.heap.size, 4, none⟩ = some (.int .i64 O) /\ u.cell? ⟨w.heap.size, 5, none⟩ = some (.slice (some ⟨bb, oo, none⟩) zs.length c) /\ u.cell? ⟨w.heap.size, 6, none⟩ = some (.slice (some ⟨vb, vo, none⟩) m d) /\ u.cell? ⟨g9, 0, none⟩ = some (.int .i64 K) /\ u.cell? ⟨g9, 1, none⟩ = some (.int .i64 B) /\ u.cell? ⟨g9, 2, none⟩ = some (.int .i64 F) /\ u.cell? ⟨g9, 3, none⟩ = some (.int .i64 R) /\ u.cell? ⟨g9, 4, none⟩ = some (.int .i64 O) /\ u.cell? ⟨g9, 5, none⟩ = some (.slice qr (zs.length - 1) cr) /\ u.cell? ⟨g9, 6, none⟩ = some (.slice (some ⟨gq, 0, none⟩) N N) /\ u.frozen? ⟨g9, 0, none⟩ = false /\ u.frozen? ⟨g9, 1, none⟩ = false /\ u.frozen? ⟨g9, 2, none⟩ = false /\ u.frozen? ⟨g9, 3, none⟩ = false /\ u.frozen? ⟨g9, 4, none⟩ = false /\ u.frozen? ⟨g9, 5, none⟩ = false /\ u.frozen? ⟨g9, 6, none⟩ = false /\ Below wc.heap.size wc u) -> Below u.heap.size u u' -> (u'.cell? ⟨w.heap.size, 0, none⟩ = some (.int .i64 K) /\ u'.cell? ⟨w.heap.size, 1, none⟩ = some (.int .i64 B) /\ u'.cell? ⟨w.heap.size, 2, none⟩ = some (.int .i64 F) /\ u'.cell? ⟨w.heap.size, 3, none⟩ = some (.int .i64 R) /\ u'.cell? ⟨w.heap.size, 4, none⟩ = some (.int .i64 O) /\ u'.cell? ⟨w.heap.size, 5, none⟩ = some (.slice (some ⟨bb, oo, none⟩) zs.length c) /\ u'.cell? ⟨w.heap.size, 6, none⟩ = some (.slice (some ⟨vb, vo, none⟩) m d) /\ u'.cell? ⟨g9, 0, none⟩ = some (.int .i64 K) /\ u'.cell? ⟨g9, 1, none⟩ = some (.int .i64 B) /\ u'.cell? ⟨g9, 2, none⟩ = some (.int .i64 F) /\ u'.cell? ⟨g9, 3, none⟩ = some (.int .i64 R) /\ u'.cell? ⟨g9, 4, none⟩ = some (.int .i64 O) /\ u'.cell? ⟨g9, 5, none⟩ = some (.slice qr (zs.length - 1) cr) /\ u'.cell? ⟨g9, 6, none⟩ = some (.slice (some ⟨gq, 0, none⟩) N N) /\ u'.frozen? ⟨g9, 0, none⟩ = false /\ u'.frozen? ⟨g9, 1, none⟩ = false /\ u'.frozen? ⟨g9, 2, none⟩ = false /\ u'.frozen? ⟨g9, 3, none⟩ = false /\ u'.frozen? ⟨g9, 4, none⟩ = false /\ u'.frozen? ⟨g9, 5, none⟩ = false /\ u'.frozen? ⟨g9, 6, none⟩ = false /\ Below wc.heap.size wc u')) := Lib.hid (fun u u' h hb => ⟨Rg.keep hb (World.block_lt_of_cell? _ _ h.1) h.1, Rg.keep hb (World.block_lt_of_cell? _ _ h.2.1) h.2.1, Rg.keep hb (World.block_lt_of_cell? _ _ h.2.2.1) h.2.2.1, Rg.keep hb (World.block_lt_of_cell? _ _ h.2.2.2.1) h.2.2.2.1, Rg.keep hb (World.block_lt_of_cell? _ _ h.2.2.2.2.1) h.2.2.2.2.1, Rg.keep hb (World.block_lt_of_cell? _ _ h.2.2.2.2.2.1) h.2.2.2.2.2.1, Rg.keep hb (World.block_lt_of_cell? _ _ h.2.2.2.2.2.2.1) h.2.2.2.2.2.2.1, Rg.keep hb (World.block_lt_of_cell? _ _ h.2.2.2.2.2.2.2.1) h.2.2.2.2.2.2.2.1, Rg.keep hb (World.block_lt_of_cell? _ _ h.2.2.2.2.2.2.2.2.1) h.2.2.2.2.2.2.2.2.1, Rg.keep hb (World.block_lt_of_cell? _ _ h.2.2.2.2.2.2.2.2.2.1) h.2.2.2.2.2.2.2.2.2.1, Rg.keep hb (World.block_lt_of_cell? _ _ h.2.2.2.2.2.2.2.2.2.2.1) h.2.2.2.2.2.2.2.2.2.2.1, Rg.keep hb (World.block_lt_of_cell? _ _ h.2.2.2.2.2.2.2.2.2.2.2.1) h.2.2.2.2.2.2.2.2.2.2.2.1, Rg.keep hb (World.block_lt_of_cell? _ _ h.2.2.2.2.2.2.2.2.2.2.2.2.1) h.2.2.2.2.2.2.2.2.2.2.2.2.1, Rg.keep hb (World.block_lt_of_cell? _ _ h.2.2.2.2.2.2.2.2.2.2.2.2.2.1) h.2.2.2.2.2.2.2.2.2.2.2.2.2.1, Rg.keepF hb (World.block_lt_of_cell? _ _ h.2.2.2.2.2.2.2.1) h.2.2.2.2.2.2.2.2.2.2.2.2.2.2.1, Rg.keepF hb (World.block_lt_of_cell? _ _ h.2.2.2.2.2.2.2.1) h.2.2.2.2.2.2.2.2.2.2.2.2.2.2.2.1, Rg.keepF hb (World.block_lt_of_cell? _ _ h.2.2.2.2.2.2.2.1) h.2.2.2.2.2.2.2.2.2.2.2.2.2.2.2.2.1, Rg.keepF hb (World.block_lt_of_cell? _ _ h.2.2.2.2.2.2.2.1) h.2.2.2.2.2.2.2.2.2.2.2.2.2.2.2.2.2.1, Rg.keepF hb (World.block_lt_of_cell? _ _ h.2.2.2.2.2.2.2.1) h.2.2.2.2.2.2.2.2.2.2.2.2.2.2.2.2.2.2.1, Rg.keepF hb (World.block_lt_of_cell? _ _ h.2.2.2.2.2.2.2.1) h.2.2.2.2.2.2.2.2.2.2.2.2.2.2.2.2.2.2.2.1, Rg.keepF hb (World.block_lt_of_cell? _ _ h.2.2.2.2.2.2.2.1) h.2.2.2.2.2.2.2.2.2.2.2.2.2.2.2.2.2.2.2.2.1, h.2.2.2.2.2.2.2.2.2.2.2.2.2.2.2.2.2.2.2.2.2.trans (hb.mono h.2.2.2.2.2.2.2.2.2.2.2.2.2.2.2.2.2.2.2.2.2.size)⟩)
  refine Rk.begin (S := fun wS => wS.cell? ⟨w.heap.size, 0, none⟩ = some (.int .i64 K) /\ wS.cell? ⟨w.heap.size, 1, none⟩ = some (.int .i64 B) /\ wS.cell? ⟨w.heap.size, 2, none⟩ = some (.int .i64 F) /\ wS.cell? ⟨w.heap.size, 3, none⟩ = some (.int .i64 R) /\ wS.cell? ⟨w.heap.size, 4, none⟩ = some (.int .i64 O) /\ wS.cell? ⟨w.heap.size, 5, none⟩ = some (.slice (some ⟨bb, oo, none⟩) zs.length c) /\ wS.cell? ⟨w.heap.size, 6, none⟩ = some (.slice (some ⟨vb, vo, none⟩) m d) /\ wS.cell? ⟨g9, 0, none⟩ = some (.int .i64 K) /\ wS.cell? ⟨g9, 1, none⟩ = some (.int .i64 B) /\ wS.cell? ⟨g9, 2, none⟩ = some (.int .i64 F) /\ wS.cell? ⟨g9, 3, none⟩ = some (.int .i64 R) /\ wS.cell? ⟨g9, 4, none⟩ = some (.int .i64 O) /\ wS.cell? ⟨g9, 5, none⟩ = some (.slice qr (zs.length - 1) cr) /\ wS.cell? ⟨g9, 6, none⟩ = some (.slice (some ⟨gq, 0, none⟩) N N) /\ wS.frozen? ⟨g9, 0, none⟩ = false /\ wS.frozen? ⟨g9, 1, none⟩ = false /\ wS.frozen? ⟨g9, 2, none⟩ = false /\ wS.frozen? ⟨g9, 3, none⟩ = false /\ wS.frozen? ⟨g9, 4, none⟩ = false /\ wS.frozen? ⟨g9, 5, none⟩ = false /\ wS.frozen? ⟨g9, 6, none⟩ = false /\ Below wc.heap.size wc wS) 9 (by kernel_rfl) ⟨c0, c1, c2, c3, c4, c5, c6, m0, m1, m2, m3, m4, m5, m6, g0, g1, g2, g3, g4, g5, g6, Below.drew (Below.refl _ _)⟩ (fun hHeld => ?_)
  refine SqR.p 0 ?_
  refine SqR.l [9] 1 ?_
  refine SqR.p 2 ?_
  refine SqR.l [9] 3 ?_
  refine SqR.p 4 ?_
  refine SqR.l [9] 5 ?_
  refine SqR.p 6 ?_
  refine Rk.one (i := 7) (by kernel_rfl) rfl (fun KK hK => ?_)
  rw [if_pos (by kernel_rfl)]
  obtain ⟨i0, hi, hz0, hz1, hz2⟩ := info_parts infoV
  refine wp_make_full _ _ _ 25 rfl gm 29 i0 (.agg #[.int .i64 0, .int .i64 0]) 2 Tryz.underlying25 hi hz0 hz1 .i64 .i64 _ _ m rfl rfl rfl rfl (by rw [hz2]; omega) (by unfold maxLen; omega) (by first | exact Nat.le_of_eq HGM.out.symm | (simp; exact Nat.le_of_eq HGM.out.symm)) gm (by first | exact HGM.out | (simp; exact HGM.out)) ?_
  intro u6 hown6 hg6
  rw [madeV] at hown6
  have hb6 := below_own (Nat.le_refl _) hg6
  have hNew := HS.out _ _ hHeld hb6
  have hg6l : gm < u6.heap.size := (hown6.lt _ rfl).2
  first | (refine hK.out _ _ (fun _ => hNew) (fun hHeld => ?_)) | (refine hK.out _ _ hNew (fun hHeld => ?_)) | (go_wp2_with fail; refine hK.out _ _ hNew (fun hHeld => ?_))
  clear hK KK
  refine SqR.p 8 ?_
  refine Rk.tail [9] [_] (by kernel_rfl) (by kernel_rfl) rfl (by decide) ?_
  have KU6 := Lib.hid (hHeld.2.2.2.2.2.2.2.2.2.2.2.2.2.2.2.2.2.2.2.2.2)
  clear hHeld HS c0 c1 c2 c3 c4 c5 c6 m0 g0 m1 g1 m2 g2 m3 g3 m4 g4 m5 g5 m6 g6
  go_upto_region 14 with fail
  have hx1 : g9 ≠ w.heap.size := by omega
  have hx2 : g9 ≠ w.heap.size + 1 := by omega
  have hx3 : w.heap.size <= g9 := by omega
  have KW6 := KBC.out.trans (KU6.out.mono KBC.out.size)
  have ltc : w.heap.size < wc.heap.size := TBC.out.lt
  have KD := Lib.hid (below_set7 (x0 := .int .i64 K) (x1 := .int .i64 B) (x2 := .int .i64 F) (x3 := .int .i64 R) (x4 := .int .i64 O) (x5 := .slice (some ⟨bb, oo, none⟩) zs.length c) (x6 := .slice (some ⟨gm, 0, none⟩) m m) KW6 hx3)
  have TD := Lib.hid (b7_far7 (y0 := .int .i64 K) (y1 := .int .i64 B) (y2 := .int .i64 F) (y3 := .int .i64 R) (y4 := .int .i64 O) (y5 := .slice (some ⟨bb, oo, none⟩) zs.length c) (y6 := .slice (some ⟨gm, 0, none⟩) m m) hx1 (B7.keep KU6.out TBC.out.lt TBC.out))
  have RD := Lib.hid (b7_far7 (y0 := .int .i64 K) (y1 := .int .i64 B) (y2 := .int .i64 F) (y3 := .int .i64 R) (y4 := .int .i64 O) (y5 := .slice (some ⟨bb, oo, none⟩) zs.length c) (y6 := .slice (some ⟨gm, 0, none⟩) m m) hx2 (B7.keep KU6.out RBC.out.lt RBC.out))
  have DD := Lib.hid (B7.st (y0 := .int .i64 K) (y1 := .int .i64 B) (y2 := .int .i64 F) (y3 := .int .i64 R) (y4 := .int .i64 O) (y5 := .slice (some ⟨bb, oo, none⟩) zs.length c) (y6 := .slice (some ⟨gm, 0, none⟩) m m) (B7.keep KU6.out HD.out.lt HD.out))
  have hpn : (Value.slice qr (zs.length - 1) cr).ownBlock = none \/ (Value.slice qr (zs.length - 1) cr).ownBlock ≠ some g9 := by
   cases hb : (Value.slice qr (zs.length - 1) cr).ownBlock with
   | none => exact .inl rfl
   | some q => exact .inr (fun e => by cases e; have := HPR.out _ hb; omega)
  have PD := Lib.hid (own_far7 (x0 := .int .i64 K) (x1 := .int .i64 B) (x2 := .int .i64 F) (x3 := .int .i64 R) (x4 := .int .i64 O) (x5 := .slice (some ⟨bb, oo, none⟩) zs.length c) (x6 := .slice (some ⟨gm, 0, none⟩) m m) (own_belowE ORC.out KU6.out) hpn)
  have VD := Lib.hid (own_set7 (x0 := .int .i64 K) (x1 := .int .i64 B) (x2 := .int .i64 F) (x3 := .int .i64 R) (x4 := .int .i64 O) (x5 := .slice (some ⟨bb, oo, none⟩) zs.length c) (x6 := .slice (some ⟨gm, 0, none⟩) m m) hown6 hg9m)
  have hsd : (((((((u6.setCell ⟨g9, 0, none⟩ (.int .i64 K)).setCell ⟨g9, 1, none⟩ (.int .i64 B)).setCell ⟨g9, 2, none⟩ (.int .i64 F)).setCell ⟨g9, 3, none⟩ (.int .i64 R)).setCell ⟨g9, 4, none⟩ (.int .i64 O)).setCell ⟨g9, 5, none⟩ (.slice (some ⟨bb, oo, none⟩) zs.length c)).setCell ⟨g9, 6, none⟩ (.slice (some ⟨gm, 0, none⟩) m m)).heap.size = u6.heap.size := by simp
  generalize (((((((u6.setCell ⟨g9, 0, none⟩ (.int .i64 K)).setCell ⟨g9, 1, none⟩ (.int .i64 B)).setCell ⟨g9, 2, none⟩ (.int .i64 F)).setCell ⟨g9, 3, none⟩ (.int .i64 R)).setCell ⟨g9, 4, none⟩ (.int .i64 O)).setCell ⟨g9, 5, none⟩ (.slice (some ⟨bb, oo, none⟩) zs.length c)).setCell ⟨g9, 6, none⟩ (.slice (some ⟨gm, 0, none⟩) m m)) = wd at *
  have hgd : gm < wd.heap.size := by rw [hsd]; exact hg6l
  clear hsd KW6 ltc hown6 KU6 TBC RBC KBC ORC HD HV HBX hpn hg6l
  have HB0 : Hid ((B7 wd (w.heap.size) (.int .i64 K) (.int .i64 B) (.int .i64 F) (.int .i64 R) (.int .i64 O) (.slice (some ⟨bb, oo, none⟩) zs.length c) (.slice (some ⟨vb, vo, none⟩) m d)) /\ (B7 wd (w.heap.size + 1) (.int .i64 0) (.int .i64 0) (.int .i64 0) (.int .i64 0) (.int .i64 0) (.slice none 0 0) (.slice none 0 0)) /\ (B7 wd (g9) (.int .i64 K) (.int .i64 B) (.int .i64 F) (.int .i64 R) (.int .i64 O) (.slice (some ⟨bb, oo, none⟩) zs.length c) (.slice (some ⟨gm, 0, none⟩) m m)) /\ wd.ownsRow w1.heap.size 3 1 (.slice qr (zs.length - 1) cr) (zs.length - 1) ((rst zs a).map (Value.int .i64)) /\ wd.ownsRow gm 29 2 (.slice (some ⟨gm, 0, none⟩) m m) m (flV (mix (scA (fop K B F R O) vs my af m) (List.replicate m ((0 : Int), (0 : Int))) my af m 0 0)) /\ Below w.heap.size w wd /\ gm < wd.heap.size) := Lib.hid ⟨TD.out, RD.out, DD.out, PD.out, by rw [mix_zero]; exact VD.out, KD.out, hgd⟩
  clear TD RD DD PD VD KD hgd
  go_wp2_with fail
  go_loopw [11] (fun iv wr => ∃ j : Nat, iv = .int .i64 (j : Int) /\ j <= N /\ Hid ((B7 wr (w.heap.size) (.int .i64 K) (.int .i64 B) (.int .i64 F) (.int .i64 R) (.int .i64 O) (.slice (some ⟨bb, oo, none⟩) zs.length c) (.slice (some ⟨vb, vo, none⟩) m d)) /\ (B7 wr (w.heap.size + 1) (.int .i64 0) (.int .i64 0) (.int .i64 0) (.int .i64 0) (.int .i64 0) (.slice none 0 0) (.slice none 0 0)) /\ (B7 wr (g9) (.int .i64 K) (.int .i64 B) (.int .i64 F) (.int .i64 R) (.int .i64 O) (.slice (some ⟨bb, oo, none⟩) zs.length c) (.slice (some ⟨gm, 0, none⟩) m m)) /\ wr.ownsRow w1.heap.size 3 1 (.slice qr (zs.length - 1) cr) (zs.length - 1) ((rst zs a).map (Value.int .i64)) /\ wr.ownsRow gm 29 2 (.slice (some ⟨gm, 0, none⟩) m m) m (flV (mix (scA (fop K B F R O) vs my af m) (List.replicate m ((0 : Int), (0 : Int))) my af m j 0)) /\ Below w.heap.size w wr /\ gm < wr.heap.size) /\ Hid (fe (snE K B F R O vs my af) (N - j) j = ER)) (fun iv _ => N - (intOf iv).toNat)
  case atStart => exact ⟨0, rfl, Nat.zero_le _, HB0, hFE0⟩
  case round =>
   obtain ⟨j, rfl, hj, HJ0, FJ⟩ := hrel
   clear HB0 hFE0
   obtain ⟨wo, hwo⟩ : ∃ wo : World, wo = wr := ⟨wr, rfl⟩
   rw [<- hwo] at HJ0 ⊢
   clear hwo
   have HJ := HJ0
   obtain ⟨TJ, RJ, DJ, PJ, VJ, KJ, hsj⟩ := HJ.out
   have SZJ := Lib.hid (SZ.out qr cr wo (Lib.hid (SlI_of PJ HRL.out)))
   by_cases hjN : j < N
   ·have hj2 : (j : Int) < N := by omega
    have hj0 : (0 : Int) <= j := by omega
    have PTJ := Lib.hid (PT.out qr cr j hjN wo (Lib.hid (SlI_of PJ HRL.out)))
    obtain ⟨xs, hxs⟩ : ∃ xs, pt (rst zs a) (j : Int) = xs := ⟨_, rfl⟩
    have LN1 := LN.out wo.heap.size j hjN
    obtain ⟨L, hL⟩ : ∃ L, lnV vs my af j = L := ⟨_, rfl⟩
    have HL0 := Lib.hid hL
    have HXS := Lib.hid hxs
    have hxl : xs.length = zs.length - 1 := by rw [<- hxs, pt_length]; exact HRL.out
    have hll : L.length = my := by rw [<- hL]; exact lnV_length _ _ _ _
    rw [hxs] at LN1 PTJ
    rw [hL] at LN1
    have LNH := Lib.hid LN1
    have HXL := Lib.hid hxl
    have HLL := Lib.hid hll
    clear hxs hL hxl hll LN1
    go_upto_region 24 with (first | (go_at_call 55; (with_reducible refine SZJ.out.mono ?_); rintro e w' ⟨rfl, rfl⟩) | (go_at_call 27; (with_reducible refine PTJ.out.mono ?_); rintro e w5 ⟨rfl, hp5, hb5⟩; have K5 := Lib.hid (KJ.trans (hb5.mono KJ.size)); have T5 := Lib.hid (B7.keep hb5 TJ.lt TJ); have LNJ := Lib.hid (LNH.out w5 (Lib.hid (SlI.keep K5.out RA.out)) (Lib.hid (SlV.below RB.out K5.out)) (Lib.hid (SlI_of hp5 HXL.out))); obtain ⟨⟨c0, c1, c2, c3, c4, c5, c6⟩, -⟩ := T5.out; have HB5 := Lib.hid hb5; have H5 := Lib.hid hp5; clear hb5 hp5) | (go_at_call 67; (with_reducible refine LNJ.out.mono ?_); rintro e w6 ⟨ql, dl, rfl, hdl, hs6, hb6⟩; obtain ⟨gl, rfl, hgl, hgl6⟩ := own_at hs6 q2; have B6 := Lib.hid (HB5.out.trans (hb6.mono HB5.out.size)); have L6 := Lib.hid (own_base hs6 HB5.out.size); have X6 := Lib.hid (own_belowE H5.out hb6); have T6 := Lib.hid (B7.keep B6.out TJ.lt TJ); have R6 := Lib.hid (B7.keep B6.out RJ.lt RJ); have D6 := Lib.hid (B7.keep B6.out DJ.lt DJ); have P6 := Lib.hid (own_belowE PJ B6.out); have V6 := Lib.hid (own_belowE VJ B6.out); have K6 := Lib.hid (KJ.trans (B6.out.mono KJ.size)); have sb6 := B6.out.size; have sx6 := (X6.out.lt wo.heap.size rfl).2; clear c0 c1 c2 c3 c4 c5 c6 H5 HB5 K5 T5; obtain ⟨⟨c0, c1, c2, c3, c4, c5, c6⟩, -⟩ := T6.out; clear hs6 hb6))
    obtain ⟨l0, l1⟩ := row_get L6.out HLL.out (k := 0) (by omega)
    obtain ⟨⟨x1, x2⟩, hx0⟩ : ∃ y, L.getD 0 (0, 0) = y := ⟨_, rfl⟩
    rw [hx0, Nat.zero_mul] at l0
    rw [hx0, Nat.zero_mul, Nat.zero_add] at l1
    dsimp only at l0 l1
    have HA0 : Hid ((acc (fop K B F R O) L (0 - 1)) = (x1, x2)) := Lib.hid (by
     show (acc (fop K B F R O) L (0)) = _
     rw [acc_zero (by rw [HLL.out]; exact q2)]; exact hx0)
    obtain ⟨f9, hf9⟩ : ∃ e, snE K B F R O vs my af j = e := ⟨_, rfl⟩
    have HF0 : Hid (scF (fop K B F R O) L (0 - 1) = f9) := Lib.hid (by
     show scF (fop K B F R O) L 0 = _
     rw [scF_zero (by rw [HLL.out]; exact q2), <- HL0.out]; exact hf9)
    have HF9 := Lib.hid hf9
    have HXR := Lib.hid fun (k : Nat) (e : (Value.slice (some ⟨wo.heap.size, 0, none⟩) (zs.length - 1) (zs.length - 1)).ownBlock = some k) => (X6.out.lt k e).2
    have h0m : (0 : Int) < my := by omega
    have HBI0 : Hid ((B7 (w6.alloc (Obj.cells #[Value.int .i64 x1, Value.int .i64 x2] 29)) (w.heap.size) (.int .i64 K) (.int .i64 B) (.int .i64 F) (.int .i64 R) (.int .i64 O) (.slice (some ⟨bb, oo, none⟩) zs.length c) (.slice (some ⟨vb, vo, none⟩) m d)) /\ (B7 (w6.alloc (Obj.cells #[Value.int .i64 x1, Value.int .i64 x2] 29)) (w.heap.size + 1) (.int .i64 0) (.int .i64 0) (.int .i64 0) (.int .i64 0) (.int .i64 0) (.slice none 0 0) (.slice none 0 0)) /\ (B7 (w6.alloc (Obj.cells #[Value.int .i64 x1, Value.int .i64 x2] 29)) (g9) (.int .i64 K) (.int .i64 B) (.int .i64 F) (.int .i64 R) (.int .i64 O) (.slice (some ⟨bb, oo, none⟩) zs.length c) (.slice (some ⟨gm, 0, none⟩) m m)) /\ (w6.alloc (Obj.cells #[Value.int .i64 x1, Value.int .i64 x2] 29)).ownsRow w1.heap.size 3 1 (.slice qr (zs.length - 1) cr) (zs.length - 1) ((rst zs a).map (Value.int .i64)) /\ (w6.alloc (Obj.cells #[Value.int .i64 x1, Value.int .i64 x2] 29)).ownsRow gm 29 2 (.slice (some ⟨gm, 0, none⟩) m m) m (flV (mix (scA (fop K B F R O) vs my af m) (List.replicate m ((0 : Int), (0 : Int))) my af m j 0)) /\ (w6.alloc (Obj.cells #[Value.int .i64 x1, Value.int .i64 x2] 29)).ownsRow wo.heap.size 29 2 (.slice (some ⟨gl, 0, none⟩) my dl) my (flV L) /\ (w6.alloc (Obj.cells #[Value.int .i64 x1, Value.int .i64 x2] 29)).ownsRow wo.heap.size 3 1 (.slice (some ⟨wo.heap.size, 0, none⟩) (zs.length - 1) (zs.length - 1)) (zs.length - 1) (xs.map (Value.int .i64)) /\ B2 (w6.alloc (Obj.cells #[Value.int .i64 x1, Value.int .i64 x2] 29)) (w6.heap.size) (.int .i64 (acc (fop K B F R O) L (0 - 1)).1) (.int .i64 (acc (fop K B F R O) L (0 - 1)).2) /\ Below w.heap.size w (w6.alloc (Obj.cells #[Value.int .i64 x1, Value.int .i64 x2] 29)) /\ w6.heap.size < (w6.alloc (Obj.cells #[Value.int .i64 x1, Value.int .i64 x2] 29)).heap.size) := Lib.hid ⟨T6.out.alloc _, R6.out.alloc _, D6.out.alloc _, P6.out.alloc _, V6.out.alloc _, L6.out.alloc _, X6.out.alloc _, by rw [HA0.out]; exact B2.new w6 _ _ _, K6.out.alloc K6.out.size _, by simp⟩
    clear hx0 hf9 HA0
    go_wp2_with fail
    clear l0 l1 c0 c1 c2 c3 c4 c5 c6 T6 R6 D6 P6 V6 L6 X6 K6 HJ HJ0 TJ RJ DJ PJ VJ KJ B6 SZJ
    go_loopw [17] (fun kv wr => ∃ k : Nat, kv = .int .i64 (k : Int) /\ k <= my /\ Hid ((B7 wr (w.heap.size) (.int .i64 K) (.int .i64 B) (.int .i64 F) (.int .i64 R) (.int .i64 O) (.slice (some ⟨bb, oo, none⟩) zs.length c) (.slice (some ⟨vb, vo, none⟩) m d)) /\ (B7 wr (w.heap.size + 1) (.int .i64 0) (.int .i64 0) (.int .i64 0) (.int .i64 0) (.int .i64 0) (.slice none 0 0) (.slice none 0 0)) /\ (B7 wr (g9) (.int .i64 K) (.int .i64 B) (.int .i64 F) (.int .i64 R) (.int .i64 O) (.slice (some ⟨bb, oo, none⟩) zs.length c) (.slice (some ⟨gm, 0, none⟩) m m)) /\ wr.ownsRow w1.heap.size 3 1 (.slice qr (zs.length - 1) cr) (zs.length - 1) ((rst zs a).map (Value.int .i64)) /\ wr.ownsRow gm 29 2 (.slice (some ⟨gm, 0, none⟩) m m) m (flV (mix (scA (fop K B F R O) vs my af m) (List.replicate m ((0 : Int), (0 : Int))) my af m j k)) /\ wr.ownsRow wo.heap.size 29 2 (.slice (some ⟨gl, 0, none⟩) my dl) my (flV L) /\ wr.ownsRow wo.heap.size 3 1 (.slice (some ⟨wo.heap.size, 0, none⟩) (zs.length - 1) (zs.length - 1)) (zs.length - 1) (xs.map (Value.int .i64)) /\ B2 wr (w6.heap.size) (.int .i64 (acc (fop K B F R O) L (k - 1)).1) (.int .i64 (acc (fop K B F R O) L (k - 1)).2) /\ Below w.heap.size w wr /\ w6.heap.size < wr.heap.size) /\ Hid (scF (fop K B F R O) L (k - 1) = f9)) (fun kv _ => my - (intOf kv).toNat)
    case atStart => exact ⟨0, rfl, Nat.zero_le _, HBI0, HF0⟩
    case round =>
     obtain ⟨k, rfl, hk, HI0, SI⟩ := hrel
     clear HBI0 HF0
     have HI := HI0
     obtain ⟨TI, RI, DI, PI, VI, LI, XI, BI, KI, hsi⟩ := HI.out
     by_cases hkm : k < my
     ·have hk2 : (k : Int) < my := by omega
      have hk0 : (0 : Int) <= k := by omega
      go_upto_if 117 with fail
      obtain ⟨tk, htk⟩ : ∃ t, decide (0 < k) = t := ⟨_, rfl⟩
      rw [htk]
      go_cut [18, 19] from 118 to 133 (fun p18 p19 wx => Hid ((B7 wx (w.heap.size) (.int .i64 K) (.int .i64 B) (.int .i64 F) (.int .i64 R) (.int .i64 O) (.slice (some ⟨bb, oo, none⟩) zs.length c) (.slice (some ⟨vb, vo, none⟩) m d)) /\ (B7 wx (w.heap.size + 1) (.int .i64 0) (.int .i64 0) (.int .i64 0) (.int .i64 0) (.int .i64 0) (.slice none 0 0) (.slice none 0 0)) /\ (B7 wx (g9) (.int .i64 K) (.int .i64 B) (.int .i64 F) (.int .i64 R) (.int .i64 O) (.slice (some ⟨bb, oo, none⟩) zs.length c) (.slice (some ⟨gm, 0, none⟩) m m)) /\ wx.ownsRow w1.heap.size 3 1 (.slice qr (zs.length - 1) cr) (zs.length - 1) ((rst zs a).map (Value.int .i64)) /\ wx.ownsRow gm 29 2 (.slice (some ⟨gm, 0, none⟩) m m) m (flV (mix (scA (fop K B F R O) vs my af m) (List.replicate m ((0 : Int), (0 : Int))) my af m j k)) /\ wx.ownsRow wo.heap.size 29 2 (.slice (some ⟨gl, 0, none⟩) my dl) my (flV L) /\ wx.ownsRow wo.heap.size 3 1 (.slice (some ⟨wo.heap.size, 0, none⟩) (zs.length - 1) (zs.length - 1)) (zs.length - 1) (xs.map (Value.int .i64)) /\ B2 wx (w6.heap.size) (.int .i64 (acc (fop K B F R O) L (k)).1) (.int .i64 (acc (fop K B F R O) L (k)).2) /\ Below w.heap.size w wx /\ w6.heap.size < wx.heap.size) /\ Hid (scF (fop K B F R O) L k = f9))
      case first =>
       cases tk
       ·have hz : k = 0 := by simp at htk; omega
        subst hz
        clear htk
        go_wp2_with fail
        go_meet
        exact ⟨HI0, SI⟩
       ·have hz : 0 < k := by simpa using htk
        clear htk
        have hkk : (k - 1) + 1 = k := by omega
        have AN := acc_next (f := (fop K B F R O)) (L := L) (k := k - 1) (by rw [hkk, HLL.out]; exact hkm)
        have SN := scF_next (f := (fop K B F R O)) (L := L) (k := k - 1) (by rw [hkk, HLL.out]; exact hkm)
        rw [hkk] at AN SN
        obtain ⟨v0, v1⟩ := row_get LI HLL.out hkm
        obtain ⟨⟨x3, x4⟩, hx3⟩ : ∃ y, (acc (fop K B F R O) L (k - 1)) = y := ⟨_, rfl⟩
        obtain ⟨⟨y1, y2⟩, hy⟩ : ∃ y, L.getD k (0, 0) = y := ⟨_, rfl⟩
        rw [hx3] at AN SN BI
        rw [hy] at AN SN v0 v1
        dsimp only at v0 v1 BI
        obtain ⟨⟨r1, r2, e3⟩, hr⟩ : ∃ r, apv 4 K B F R O x3 x4 y1 y2 = r := ⟨_, rfl⟩
        rw [show fop K B F R O (x3, x4) (y1, y2) = (r1, r2, e3) from hr] at AN SN
        dsimp only at AN SN
        rw [SI.out] at SN
        have AP0 := fun u => r_ap 4 K B F R O x3 x4 y1 y2 u
        rw [hr] at AP0
        have AP := Lib.hid AP0
        have HAN := Lib.hid AN
        have HSN := Lib.hid SN
        obtain ⟨⟨b0', b1'⟩, hf0, hf1⟩ := BI
        obtain ⟨⟨c0, c1, c2, c3, c4, c5, c6⟩, -⟩ := TI
        have hBI := HI.out.2.2.2.2.2.2.2.1
        have hTI := HI.out.1
        clear hkk AN SN hx3 hy hr AP0 hz
        go_upto_region 29 with fail
        have HS : Hid (∀ u u' : World, (u.cell? ⟨w.heap.size, 0, none⟩ = some (.int .i64 K) /\ u.cell? ⟨w.heap.size, 1, none⟩ = some (.int .i64 B) /\ u.cell? ⟨w.heap.size, 2, none⟩ = some (.int .i64 F) /\ u.cell? ⟨w.heap.size, 3, none⟩ = some (.int .i64 R) /\ u.cell? ⟨w.heap.size, 4, none⟩ = some (.int .i64 O) /\ u.cell? ⟨w.heap.size, 5, none⟩ = some (.slice (some ⟨bb, oo, none⟩) zs.length c) /\ u.cell? ⟨w.heap.size, 6, none⟩ = some (.slice (some ⟨vb, vo, none⟩) m d) /\ u.cell? ⟨w6.heap.size, 0, none⟩ = some (.int .i64 x3) /\ u.cell? ⟨w6.heap.size, 1, none⟩ = some (.int .i64 x4) /\ u.cell? ⟨gl, k * 2, none⟩ = some (.int .i64 y1) /\ u.cell? ⟨gl, k * 2 + 1, none⟩ = some (.int .i64 y2) /\ Below wr.heap.size wr u) -> Below u.heap.size u u' -> (u'.cell? ⟨w.heap.size, 0, none⟩ = some (.int .i64 K) /\ u'.cell? ⟨w.heap.size, 1, none⟩ = some (.int .i64 B) /\ u'.cell? ⟨w.heap.size, 2, none⟩ = some (.int .i64 F) /\ u'.cell? ⟨w.heap.size, 3, none⟩ = some (.int .i64 R) /\ u'.cell? ⟨w.heap.size, 4, none⟩ = some (.int .i64 O) /\ u'.cell? ⟨w.heap.size, 5, none⟩ = some (.slice (some ⟨bb, oo, none⟩) zs.length c) /\ u'.cell? ⟨w.heap.size, 6, none⟩ = some (.slice (some ⟨vb, vo, none⟩) m d) /\ u'.cell? ⟨w6.heap.size, 0, none⟩ = some (.int .i64 x3) /\ u'.cell? ⟨w6.heap.size, 1, none⟩ = some (.int .i64 x4) /\ u'.cell? ⟨gl, k * 2, none⟩ = some (.int .i64 y1) /\ u'.cell? ⟨gl, k * 2 + 1, none⟩ = some (.int .i64 y2) /\ Below wr.heap.size wr u')) := Lib.hid (fun u u' h hb => ⟨Rg.keep hb (World.block_lt_of_cell? _ _ h.1) h.1, Rg.keep hb (World.block_lt_of_cell? _ _ h.2.1) h.2.1, Rg.keep hb (World.block_lt_of_cell? _ _ h.2.2.1) h.2.2.1, Rg.keep hb (World.block_lt_of_cell? _ _ h.2.2.2.1) h.2.2.2.1, Rg.keep hb (World.block_lt_of_cell? _ _ h.2.2.2.2.1) h.2.2.2.2.1, Rg.keep hb (World.block_lt_of_cell? _ _ h.2.2.2.2.2.1) h.2.2.2.2.2.1, Rg.keep hb (World.block_lt_of_cell? _ _ h.2.2.2.2.2.2.1) h.2.2.2.2.2.2.1, Rg.keep hb (World.block_lt_of_cell? _ _ h.2.2.2.2.2.2.2.1) h.2.2.2.2.2.2.2.1, Rg.keep hb (World.block_lt_of_cell? _ _ h.2.2.2.2.2.2.2.2.1) h.2.2.2.2.2.2.2.2.1, Rg.keep hb (World.block_lt_of_cell? _ _ h.2.2.2.2.2.2.2.2.2.1) h.2.2.2.2.2.2.2.2.2.1, Rg.keep hb (World.block_lt_of_cell? _ _ h.2.2.2.2.2.2.2.2.2.2.1) h.2.2.2.2.2.2.2.2.2.2.1, h.2.2.2.2.2.2.2.2.2.2.2.trans (hb.mono h.2.2.2.2.2.2.2.2.2.2.2.size)⟩)
        go_cut [18, 19] from 118 to 128 (fun p18 p19 wx => ∃ gw : Nat, p18 = .pointer (some ⟨gw, 0, none⟩) /\ p19 = .int .i64 e3 /\ Hid (B2 wx gw (.int .i64 r1) (.int .i64 r2)) /\ Hid (Below wr.heap.size wr wx) /\ wr.heap.size <= gw)
        case first =>
         refine Rk.begin (S := fun wS => wS.cell? ⟨w.heap.size, 0, none⟩ = some (.int .i64 K) /\ wS.cell? ⟨w.heap.size, 1, none⟩ = some (.int .i64 B) /\ wS.cell? ⟨w.heap.size, 2, none⟩ = some (.int .i64 F) /\ wS.cell? ⟨w.heap.size, 3, none⟩ = some (.int .i64 R) /\ wS.cell? ⟨w.heap.size, 4, none⟩ = some (.int .i64 O) /\ wS.cell? ⟨w.heap.size, 5, none⟩ = some (.slice (some ⟨bb, oo, none⟩) zs.length c) /\ wS.cell? ⟨w.heap.size, 6, none⟩ = some (.slice (some ⟨vb, vo, none⟩) m d) /\ wS.cell? ⟨w6.heap.size, 0, none⟩ = some (.int .i64 x3) /\ wS.cell? ⟨w6.heap.size, 1, none⟩ = some (.int .i64 x4) /\ wS.cell? ⟨gl, k * 2, none⟩ = some (.int .i64 y1) /\ wS.cell? ⟨gl, k * 2 + 1, none⟩ = some (.int .i64 y2) /\ Below wr.heap.size wr wS) 12 (by kernel_rfl) ⟨c0, c1, c2, c3, c4, c5, c6, b0', b1', v0, v1, Below.drew (Below.refl _ _)⟩ (fun hHeld => ?_)
         refine SqR.p 0 ?_
         refine SqR.l [12] 1 ?_
         refine SqR.l [12] 2 ?_
         refine SqR.p 3 ?_
         refine SqR.p 4 ?_
         refine SqR.p 5 ?_
         refine SqR.l [12] 6 ?_
         refine Rk.two (i := 7) (j := 11) (by kernel_rfl) rfl rfl (fun KK hK => ?_) (fun KK hK => ?_)
         ·rw [if_pos (by kernel_rfl)]
          go_simp
          ((with_reducible refine (AP.out _).mono ?_); rintro e u7 ⟨rfl, hb⟩)
          have hNew := HS.out _ _ hHeld hb
          have hsu := hb.size
          try simp at hsu
          first | (refine hK.out _ _ (fun _ => hNew) (fun _ => ?_)) | (refine hK.out _ _ hNew (fun _ => ?_)) | (go_wp2_with fail; refine hK.out _ _ hNew (fun _ => ?_))
          replace hHeld := hNew
          clear hNew hb
          clear hK KK
          refine SqR.p 8 ?_
          refine SqR.p 9 ?_
          refine SqR.p 10 ?_
          refine Rk.one (i := 11) (by kernel_rfl) rfl (fun KK hK => ?_)
          rw [if_pos (by kernel_rfl)]
          go_simp
          have hNew := HS.out _ _ hHeld ((Below.refl _ _).alloc (Nat.le_refl _) (Obj.cells #[Value.int .i64 0, Value.int .i64 0] 29))
          have M2 := B2.new u7 29 (.int .i64 0) (.int .i64 0)
          refine hK.out _ _ hNew (fun _ => ?_)
          replace hHeld := hNew
          clear hNew
          clear hK KK
          refine Rk.tail [12, 13] [_, _] (by kernel_rfl) (by kernel_rfl) rfl (by decide) ?_
          obtain ⟨-, -, -, -, -, -, -, -, -, -, -, K8⟩ := hHeld
          have M9 := M2
          obtain ⟨⟨m0, m1⟩, g0, g1⟩ := M2
          have lm := M9.lt
          have hnb : wr.heap.size <= u7.heap.size := by first | exact Nat.le_refl _ | omega
          generalize (u7.alloc (Obj.cells #[Value.int .i64 0, Value.int .i64 0] 29)) = gz at *
          go_wp2_with fail
          go_meet
          exact ⟨u7.heap.size, rfl, rfl, Lib.hid M9.st, Lib.hid ((K8.setCell (p := ⟨u7.heap.size, 0, none⟩) hnb _).setCell (p := ⟨u7.heap.size, 1, none⟩) hnb _), hnb⟩
         ·rw [if_pos (by kernel_rfl)]
          go_simp
          have hNew := HS.out _ _ hHeld ((Below.refl _ _).alloc (Nat.le_refl _) (Obj.cells #[Value.int .i64 0, Value.int .i64 0] 29))
          have M2 : B2 ((wr.alloc (Obj.cells #[Value.int .i64 0, Value.int .i64 0] 29)).drew) wr.heap.size (.int .i64 0) (.int .i64 0) := B2.new wr _ _ _
          refine hK.out _ _ hNew (fun _ => ?_)
          replace hHeld := hNew
          clear hNew
          replace hHeld : (wr.alloc (Obj.cells #[Value.int .i64 0, Value.int .i64 0] 29)).drew.cell? ⟨w.heap.size, 0, none⟩ = some (.int .i64 K) /\ (wr.alloc (Obj.cells #[Value.int .i64 0, Value.int .i64 0] 29)).drew.cell? ⟨w.heap.size, 1, none⟩ = some (.int .i64 B) /\ (wr.alloc (Obj.cells #[Value.int .i64 0, Value.int .i64 0] 29)).drew.cell? ⟨w.heap.size, 2, none⟩ = some (.int .i64 F) /\ (wr.alloc (Obj.cells #[Value.int .i64 0, Value.int .i64 0] 29)).drew.cell? ⟨w.heap.size, 3, none⟩ = some (.int .i64 R) /\ (wr.alloc (Obj.cells #[Value.int .i64 0, Value.int .i64 0] 29)).drew.cell? ⟨w.heap.size, 4, none⟩ = some (.int .i64 O) /\ (wr.alloc (Obj.cells #[Value.int .i64 0, Value.int .i64 0] 29)).drew.cell? ⟨w.heap.size, 5, none⟩ = some (.slice (some ⟨bb, oo, none⟩) zs.length c) /\ (wr.alloc (Obj.cells #[Value.int .i64 0, Value.int .i64 0] 29)).drew.cell? ⟨w.heap.size, 6, none⟩ = some (.slice (some ⟨vb, vo, none⟩) m d) /\ (wr.alloc (Obj.cells #[Value.int .i64 0, Value.int .i64 0] 29)).drew.cell? ⟨w6.heap.size, 0, none⟩ = some (.int .i64 x3) /\ (wr.alloc (Obj.cells #[Value.int .i64 0, Value.int .i64 0] 29)).drew.cell? ⟨w6.heap.size, 1, none⟩ = some (.int .i64 x4) /\ (wr.alloc (Obj.cells #[Value.int .i64 0, Value.int .i64 0] 29)).drew.cell? ⟨gl, k * 2, none⟩ = some (.int .i64 y1) /\ (wr.alloc (Obj.cells #[Value.int .i64 0, Value.int .i64 0] 29)).drew.cell? ⟨gl, k * 2 + 1, none⟩ = some (.int .i64 y2) /\ Below wr.heap.size wr (wr.alloc (Obj.cells #[Value.int .i64 0, Value.int .i64 0] 29)).drew := hHeld
          clear hK KK
          refine Rk.one (i := 7) (by kernel_rfl) rfl (fun KK hK => ?_)
          rw [if_pos (by kernel_rfl)]
          go_simp
          ((with_reducible refine (AP.out _).mono ?_); rintro e u7 ⟨rfl, hb⟩)
          have hNew := HS.out _ _ hHeld hb
          have hsu := hb.size
          try simp at hsu
          replace M2 := B2.keep hb M2.lt M2
          first | (refine hK.out _ _ (fun _ => hNew) (fun _ => ?_)) | (refine hK.out _ _ hNew (fun _ => ?_)) | (go_wp2_with fail; refine hK.out _ _ hNew (fun _ => ?_))
          replace hHeld := hNew
          clear hNew hb
          clear hK KK
          refine SqR.p 8 ?_
          refine SqR.p 9 ?_
          refine SqR.p 10 ?_
          refine Rk.tail [12, 13] [_, _] (by kernel_rfl) (by kernel_rfl) rfl (by decide) ?_
          obtain ⟨-, -, -, -, -, -, -, -, -, -, -, K8⟩ := hHeld
          have M9 := M2
          obtain ⟨⟨m0, m1⟩, g0, g1⟩ := M2
          have lm := M9.lt
          have hnb : wr.heap.size <= wr.heap.size := by first | exact Nat.le_refl _ | omega
          go_wp2_with fail
          go_meet
          exact ⟨wr.heap.size, rfl, rfl, Lib.hid M9.st, Lib.hid ((K8.setCell (p := ⟨wr.heap.size, 0, none⟩) hnb _).setCell (p := ⟨wr.heap.size, 1, none⟩) hnb _), hnb⟩

        case rest =>
         obtain ⟨gw, rfl, rfl, M9, KX, hgw⟩ := hcut
         have TX := Lib.hid (B7.keep KX.out hTI.lt hTI)
         have RX9 := Lib.hid (B7.keep KX.out RI.lt RI)
         have DX := Lib.hid (B7.keep KX.out DI.lt DI)
         have PX := Lib.hid (own_belowE PI KX.out)
         have VX := Lib.hid (own_belowE VI KX.out)
         have LX := Lib.hid (own_belowE LI KX.out)
         have XX := Lib.hid (own_belowE XI KX.out)
         have BX := Lib.hid (B2.keep KX.out hBI.lt hBI)
         have KW := Lib.hid (KI.trans (KX.out.mono KI.size))
         have hsc := KX.out.size
         clear HS c0 c1 c2 c3 c4 c5 c6 b0' b1' hf0 hf1 v0 v1 AP hBI hTI RI DI PI VI LI XI KI HI HI0
         by_cases he : e3 = 0
         ·subst he
          have FS : Hid (scF (fop K B F R O) L k = f9) := Lib.hid (by have h := HSN.out; rw [if_neg (by simp)] at h; exact h.symm)
          obtain ⟨⟨n0, n1⟩, -⟩ := M9.out
          obtain ⟨⟨b0', b1'⟩, hf0, hf1⟩ := BX.out
          clear HSN SI
          go_wp2_with fail
          go_meet
          have d1 : w6.heap.size ≠ w.heap.size := by omega
          have d2 : w6.heap.size ≠ w.heap.size + 1 := by omega
          have d3 : w6.heap.size ≠ g9 := by omega
          have d4 : w.heap.size <= w6.heap.size := by omega
          have d5 : ∀ k, (Value.slice (some ⟨gm, 0, none⟩) m m).ownBlock = some k -> k < w6.heap.size := fun k e => by have e' : gm = k := Option.some.inj e; omega
          have d6 : ∀ k, (Value.slice (some ⟨gl, 0, none⟩) my dl).ownBlock = some k -> k < w6.heap.size := fun k e => by have e' : gl = k := Option.some.inj e; omega
          have d7 : wa.heap.size <= w6.heap.size := by omega
          refine ⟨Lib.hid ⟨(TX.out.far d1).far d1, (RX9.out.far d2).far d2, (DX.out.far d3).far d3, own_setG (own_setG PX.out HPR.out d7) HPR.out d7, own_setG (own_setG VX.out d5 (Nat.le_refl _)) d5 (Nat.le_refl _), own_setG (own_setG LX.out d6 (Nat.le_refl _)) d6 (Nat.le_refl _), own_setG (own_setG XX.out HXR.out (Nat.le_refl _)) HXR.out (Nat.le_refl _), ?_, (KW.out.setCell (p := ⟨w6.heap.size, 0, none⟩) d4 _).setCell (p := ⟨w6.heap.size, 1, none⟩) d4 _, ?_⟩, FS⟩
          ·rw [HAN.out]; exact BX.out.st
          ·rw [World.size_setCell, World.size_setCell]; omega
         ·have hE : f9 = e3 := by have h := HSN.out; rw [if_pos he] at h; exact h
          have z1' : (e3 != 0) = true := by simpa using he
          have z2' : (e3 == 0) = false := by simpa using he
          have HE := Lib.hid hE
          have HZ := Lib.hid he
          have lr : w.heap.size + 1 < wc.heap.size := RX9.out.lt
          obtain ⟨⟨z0, z1, z2, z3, z4, z5, z6⟩, ⟨f0, f1, f2, f3, f4, f5, f6⟩⟩ := RX9.out
          have FE : Hid (ER = e3) := Lib.hid (by
           have h := FJ.out
           rw [show N - j = (N - (j + 1)) + 1 by omega, fe_stop (by rw [HF9.out, hE]; exact he), HF9.out, hE] at h
           exact h.symm)
          clear hE he SI HSN
          go_upto_region 31 with fail
          repeat go_step
          have SBB := (((((((KW.out).setCell (p := ⟨w.heap.size + 1, 0, none⟩) (by dsimp only; omega) (.int .i64 0)).setCell (p := ⟨w.heap.size + 1, 1, none⟩) (by dsimp only; omega) (.int .i64 0)).setCell (p := ⟨w.heap.size + 1, 2, none⟩) (by dsimp only; omega) (.int .i64 0)).setCell (p := ⟨w.heap.size + 1, 3, none⟩) (by dsimp only; omega) (.int .i64 0)).setCell (p := ⟨w.heap.size + 1, 4, none⟩) (by dsimp only; omega) (.int .i64 0)).setCell (p := ⟨w.heap.size + 1, 5, none⟩) (by dsimp only; omega) (.slice none 0 0)).setCell (p := ⟨w.heap.size + 1, 6, none⟩) (by dsimp only; omega) (.slice none 0 0)
          refine bodyPost_ret (v := .tuple #[.agg #[.int .i64 0, .int .i64 0, .int .i64 0, .int .i64 0, .int .i64 0, .slice none 0 0, .slice none 0 0], .int .i64 e3]) (by simp [results, Tryz.results34, go_sem, z0, f0, z1, f1, z2, f2, z3, f3, z4, f4, z5, f5, z6, f6, lr]) rfl ?_
          exact Or.inl ⟨by rw [FE.out]; exact HZ.out, by rw [FE.out]; exact TS.no SBB⟩
      case rest =>
       obtain ⟨HI2, SI2⟩ := hcut
       clear TI RI DI PI VI LI XI BI KI hsi HI HI0 SI
       obtain ⟨TI, RI, DI, PI, VI, LI, XI, BI, KI, hsi⟩ := HI2.out
       have XIR := Lib.hid (SlI_of XI HXL.out)
       have KIH := Lib.hid KI
       have a5 : (a : Int) <= ((zs.length - 1 : Nat) : Int) := by omega
       have a6 : a < zs.length := by omega
       have hz6 : zs.length <= 6 := h6
       obtain ⟨i0, hi, hz0, hz1, hz2⟩ := info_parts info3
       go_upto_region 37 with (first | (at_builtin; refine wpList_append_slI _ rfl _ _ 24 rfl wc.heap.size 3 i0 (.int .i64 0) 8 Tryz.underlying24 hi hz0 hz1 hz2 rfl (.slice none 0 0) (0) ([]) rfl (World.ownsRow_nil _ _ _ _) (_) (xs.take a) (a) _ rfl (by rw [List.length_take]; have := HXL.out; omega) (SlI_take XIR.out a) (by unfold maxLen; omega) (by omega) (Nat.le_refl _) ?_; intro v1 wq1 hown1 hgr1; have hq1b := below_own (Nat.le_refl _) hgr1; replace hown1 : wq1.ownsRow wc.heap.size 3 1 v1 a ((xs.take a).map (Value.int .i64)) := (by simpa using hown1); have HO1 := Lib.hid hown1; obtain ⟨q1, c1, rfl⟩ := own_slice hown1; have HQ1 := Lib.hid hq1b; have sq1 := hq1b.size; clear hown1 hgr1 hq1b) | (at_builtin; refine wpList_append_slI _ rfl _ _ 24 rfl wc.heap.size 3 i0 (.int .i64 0) 8 Tryz.underlying24 hi hz0 hz1 hz2 rfl (.slice q1 a c1) (a) ((xs.take a).map (Value.int .i64)) rfl (HO1.out.alloc (Obj.cells #[Value.int .i64 (k : Int)] 3)) (some ⟨wq1.heap.size, 0, none⟩) ([(k : Int)]) (1) _ rfl rfl (sl_new1 wq1 _ 3 rfl) (by unfold maxLen; omega) (by omega) (by simp; omega) ?_; intro v2 wq2 hown2 hgr2; have hq2b : Below wc.heap.size wc wq2 := (HQ1.out.alloc HQ1.out.size (Obj.cells #[Value.int .i64 (k : Int)] 3)).grown hgr2 (by simp; omega) (fun k e => (HO1.out.lt k e).1); replace hown2 : wq2.ownsRow wc.heap.size 3 1 v2 (a + 1) ((xs.take a ++ [(k : Int)]).map (Value.int .i64)) := (by simpa using hown2); have HO2 := Lib.hid hown2; obtain ⟨q2, c2, rfl⟩ := own_slice hown2; have HQ2 := Lib.hid hq2b; have sq2 := hq2b.size; clear hown2 hgr2 hq2b) | (at_builtin; refine wpList_append_slI _ rfl _ _ 24 rfl wc.heap.size 3 i0 (.int .i64 0) 8 Tryz.underlying24 hi hz0 hz1 hz2 rfl (.slice q2 (a + 1) c2) (a + 1) ((xs.take a ++ [(k : Int)]).map (Value.int .i64)) rfl HO2.out (_) (xs.drop a) ((zs.length - 1) - a) _ rfl (by rw [List.length_drop]; have := HXL.out; omega) (SlI.keep HQ2.out (SlI.dropIf XIR.out HXL.out)) (by unfold maxLen; omega) (by omega) HQ2.out.size ?_; intro v3 wq3 hown3 hgr3; have hq3b : Below wc.heap.size wc wq3 := HQ2.out.grown hgr3 (by first | omega | exact HQ2.out.size) (fun k e => (HO2.out.lt k e).1); replace hown3 : wq3.ownsRow wc.heap.size 3 1 v3 zs.length ((ins xs a k).map (Value.int .i64)) := (by have e1 : a + 1 + ((zs.length - 1) - a) = zs.length := (by omega); rw [e1] at hown3; unfold ins; simpa using hown3); have HO3 := Lib.hid hown3; obtain ⟨q3, c3, rfl⟩ := own_slice hown3; have HQ3 := Lib.hid hq3b; have sq3 := hq3b.size; clear hown3 hgr3 hq3b))
       have hlt := ln_lt (before := bf) (k := k) (many := my) (i := j) hkm af1 (by rw [HNN.out]; exact hjN)
       rw [<- HM3.out] at hlt
       have hml := mixz_line (K := K) (B := B) (F := F) (R := R) (O := O) (vs := vs) (Z := List.replicate m ((0 : Int), (0 : Int))) af1 hkm (by rw [HNN.out]; exact hjN) HM3.out
       obtain ⟨x, hx⟩ : ∃ x, lnF my af j + k * af = x := ⟨_, rfl⟩
       have hil : (ins xs a k).length = zs.length := ins_length (by rw [HXL.out]; omega)
       have CO1 := fun y e u h1 h2 => CO.out j hjN k hkm y e u h1 h2
       rw [HXS.out, hx, hil] at CO1
       rw [HL0.out, hx] at hml
       rw [hx] at hlt
       obtain ⟨⟨y1, y2⟩, hy⟩ : ∃ y, (acc (fop K B F R O) L (k)) = y := ⟨_, rfl⟩
       have hBI := BI
       rw [hy] at hml BI
       dsimp only at BI
       have C2 := Lib.hid CO1
       have KQ := Lib.hid (KI.trans (HQ3.out.mono KI.size))
       have C3 : Hid (∀ u, Below wq3.heap.size wq3 u -> Calls Tryz.prog 69 #[.slice (some ⟨bb, oo, none⟩) zs.length c, .slice q3 zs.length c3] u fun e u' => e = .returned (.int .i64 (x : Int)) /\ Below u.heap.size u u') := Lib.hid fun u h => (C2.out q3 c3 u (Lib.hid (SlI.keep (KQ.out.trans (h.mono KQ.out.size)) RA.out)) (Lib.hid (SlI.keep h (SlI_of HO3.out hil)))).mono fun _ _ g => ⟨g.1, by obtain ⟨k, rfl⟩ := g.2; exact below_drewN (Below.refl _ _) k⟩
       have HML := Lib.hid hml
       have HLT := Lib.hid hlt
       have hx2 : (x : Int) < m := by omega
       have hx0 : (0 : Int) <= x := by omega
       have ltT := TI.lt
       obtain ⟨⟨-, -, -, -, -, c5, -⟩, -⟩ := B7.keep HQ3.out TI.lt TI
       obtain ⟨⟨-, -, -, -, -, -, m6⟩, -⟩ := B7.keep HQ3.out DI.lt DI
       obtain ⟨⟨b0', b1'⟩, -⟩ := B2.keep HQ3.out BI.lt BI
       have VQ := Lib.hid (own_belowE VI HQ3.out)
       obtain ⟨s0', s1'⟩ := row_get VQ.out (mix_length _ _ _ _ _ _ _) hlt
       have t0 := VQ.out.frozenAt (x * 2)
       have t1 := VQ.out.frozenAt (x * 2 + 1)
       obtain ⟨⟨s1, s2⟩, hsv⟩ : ∃ sv, (mix (scA (fop K B F R O) vs my af m) (List.replicate m ((0 : Int), (0 : Int))) my af m j k).getD x (0, 0) = sv := ⟨_, rfl⟩
       rw [hsv] at s0' s1'
       dsimp only at s0' s1'
       clear hx hil CO1 hy hml hsv hlt hi hz0 hz1 hz2
       have HS : Hid (∀ u u' : World, (u.cell? ⟨g9, 6, none⟩ = some (.slice (some ⟨gm, 0, none⟩) m m) /\ u.cell? ⟨w.heap.size, 5, none⟩ = some (.slice (some ⟨bb, oo, none⟩) zs.length c) /\ u.cell? ⟨w6.heap.size, 0, none⟩ = some (.int .i64 y1) /\ u.cell? ⟨w6.heap.size, 1, none⟩ = some (.int .i64 y2) /\ u.cell? ⟨gm, x * 2, none⟩ = some (.int .i64 s1) /\ u.cell? ⟨gm, x * 2 + 1, none⟩ = some (.int .i64 s2) /\ u.frozen? ⟨gm, x * 2, none⟩ = false /\ u.frozen? ⟨gm, x * 2 + 1, none⟩ = false /\ Below wq3.heap.size wq3 u) -> Below u.heap.size u u' -> (u'.cell? ⟨g9, 6, none⟩ = some (.slice (some ⟨gm, 0, none⟩) m m) /\ u'.cell? ⟨w.heap.size, 5, none⟩ = some (.slice (some ⟨bb, oo, none⟩) zs.length c) /\ u'.cell? ⟨w6.heap.size, 0, none⟩ = some (.int .i64 y1) /\ u'.cell? ⟨w6.heap.size, 1, none⟩ = some (.int .i64 y2) /\ u'.cell? ⟨gm, x * 2, none⟩ = some (.int .i64 s1) /\ u'.cell? ⟨gm, x * 2 + 1, none⟩ = some (.int .i64 s2) /\ u'.frozen? ⟨gm, x * 2, none⟩ = false /\ u'.frozen? ⟨gm, x * 2 + 1, none⟩ = false /\ Below wq3.heap.size wq3 u')) := Lib.hid (fun u u' h hb => ⟨Rg.keep hb (World.block_lt_of_cell? _ _ h.1) h.1, Rg.keep hb (World.block_lt_of_cell? _ _ h.2.1) h.2.1, Rg.keep hb (World.block_lt_of_cell? _ _ h.2.2.1) h.2.2.1, Rg.keep hb (World.block_lt_of_cell? _ _ h.2.2.2.1) h.2.2.2.1, Rg.keep hb (World.block_lt_of_cell? _ _ h.2.2.2.2.1) h.2.2.2.2.1, Rg.keep hb (World.block_lt_of_cell? _ _ h.2.2.2.2.2.1) h.2.2.2.2.2.1, Rg.keepF hb (World.block_lt_of_cell? _ _ h.2.2.2.2.1) h.2.2.2.2.2.2.1, Rg.keepF hb (World.block_lt_of_cell? _ _ h.2.2.2.2.1) h.2.2.2.2.2.2.2.1, h.2.2.2.2.2.2.2.2.trans (hb.mono h.2.2.2.2.2.2.2.2.size)⟩)
       refine Rk.begin (S := fun wS => wS.cell? ⟨g9, 6, none⟩ = some (.slice (some ⟨gm, 0, none⟩) m m) /\ wS.cell? ⟨w.heap.size, 5, none⟩ = some (.slice (some ⟨bb, oo, none⟩) zs.length c) /\ wS.cell? ⟨w6.heap.size, 0, none⟩ = some (.int .i64 y1) /\ wS.cell? ⟨w6.heap.size, 1, none⟩ = some (.int .i64 y2) /\ wS.cell? ⟨gm, x * 2, none⟩ = some (.int .i64 s1) /\ wS.cell? ⟨gm, x * 2 + 1, none⟩ = some (.int .i64 s2) /\ wS.frozen? ⟨gm, x * 2, none⟩ = false /\ wS.frozen? ⟨gm, x * 2 + 1, none⟩ = false /\ Below wq3.heap.size wq3 wS) 8 (by kernel_rfl) ⟨m6, c5, b0', b1', s0', s1', t0, t1, Below.drew (Below.refl _ _)⟩ (fun hHeld => ?_)
       refine SqR.p 0 ?_
       refine SqR.l [8] 1 ?_
       refine SqR.p 2 ?_
       refine SqR.l [8] 3 ?_
       refine SqR.p 4 ?_
       refine SqR.l [8] 6 ?_
       refine Rk.one (i := 5) (by kernel_rfl) rfl (fun KK hK => ?_)
       rw [if_pos (by kernel_rfl)]
       go_simp
       ((with_reducible refine (C3.out _ (hHeld.2.2.2.2.2.2.2.2)).mono ?_); rintro e u ⟨rfl, hb⟩)
       first | (refine hK.out _ _ (fun _ => HS.out _ _ hHeld hb) (fun hHeld => ?_)) | (refine hK.out _ _ (HS.out _ _ hHeld hb) (fun hHeld => ?_)) | (go_wp2_with fail; refine hK.out _ _ (HS.out _ _ hHeld hb) (fun hHeld => ?_))
       clear hK KK
       refine SqR.p 7 ?_
       refine Rk.tail [8] [_] (by kernel_rfl) (by kernel_rfl) rfl (by decide) ?_
       have KU := Lib.hid (HQ3.out.trans ((hHeld.2.2.2.2.2.2.2.2).mono HQ3.out.size))
       obtain ⟨m6, c5, b0', b1', s0', s1', t0, t1, -⟩ := hHeld
       have HTI := Lib.hid TI
       have HBI := Lib.hid hBI
       clear HS
       go_wp2_with fail
       go_roundw
       case rel =>
        have VU := own_belowE VI KU.out
        have PU := own_belowE PI KU.out
        have h5 := row_two VU (mix_length _ _ _ _ _ _ _) HLT.out y1 y2
        rw [HML.out] at h5
        have d1 : gm ≠ w.heap.size := by omega
        have d2 : gm ≠ w.heap.size + 1 := by omega
        have d3 : gm ≠ g9 := by omega
        have d4 : w.heap.size <= gm := by omega
        have d5 : gm < wo.heap.size := hsj
        have d6 : gm ≠ w6.heap.size := by omega
        have KWU := KI.trans (KU.out.mono KI.size)
        have hsu := KU.out.size
        exact ⟨k + 1, by simp, by omega, Lib.hid ⟨((B7.keep KU.out TI.lt TI).far d1).far d1, ((B7.keep KU.out RI.lt RI).far d2).far d2, ((B7.keep KU.out DI.lt DI).far d3).far d3, (PU.kept grown_set (own_two PU VU)).kept grown_set (own_two PU VU), h5, own_set (own_set (own_belowE LI KU.out) d5) d5, own_set (own_set (own_belowE XI KU.out) d5) d5, ((B2.keep KU.out hBI.lt hBI).far d6).far d6, (KWU.setCell (p := ⟨gm, x * 2, none⟩) d4 _).setCell (p := ⟨gm, x * 2 + 1, none⟩) d4 _, by rw [World.size_setCell, World.size_setCell]; omega⟩, SI2⟩
       case measure => simp [intOf]; omega
     ·have hke : k = my := by omega
      have F0 : f9 = 0 := by
       have h := SI.out
       rw [scF_end (by rw [HLL.out]; omega)] at h
       exact h.symm
      have FN : Hid (fe (snE K B F R O vs my af) (N - (j + 1)) (j + 1) = ER) := Lib.hid (by
       have h := FJ.out
       rw [show N - j = (N - (j + 1)) + 1 by omega, fe_go (by rw [HF9.out]; exact F0)] at h
       exact h)
      have hVN : wr.ownsRow gm 29 2 (.slice (some ⟨gm, 0, none⟩) m m) m (flV (mix (scA (fop K B F R O) vs my af m) (List.replicate m ((0 : Int), (0 : Int))) my af m (j + 1) 0)) := by
       have h := VI
       rw [hke, show (mix (scA (fop K B F R O) vs my af m) (List.replicate m ((0 : Int), (0 : Int))) my af m j my) = (mix (scA (fop K B F R O) vs my af m) (List.replicate m ((0 : Int), (0 : Int))) my af m (j + 1) 0) by rw [HM3.out]; exact mix_next my1] at h
       exact h
      have HN9 := Lib.hid (show (B7 wr (w.heap.size) (.int .i64 K) (.int .i64 B) (.int .i64 F) (.int .i64 R) (.int .i64 O) (.slice (some ⟨bb, oo, none⟩) zs.length c) (.slice (some ⟨vb, vo, none⟩) m d)) /\ (B7 wr (w.heap.size + 1) (.int .i64 0) (.int .i64 0) (.int .i64 0) (.int .i64 0) (.int .i64 0) (.slice none 0 0) (.slice none 0 0)) /\ (B7 wr (g9) (.int .i64 K) (.int .i64 B) (.int .i64 F) (.int .i64 R) (.int .i64 O) (.slice (some ⟨bb, oo, none⟩) zs.length c) (.slice (some ⟨gm, 0, none⟩) m m)) /\ wr.ownsRow w1.heap.size 3 1 (.slice qr (zs.length - 1) cr) (zs.length - 1) ((rst zs a).map (Value.int .i64)) /\ wr.ownsRow gm 29 2 (.slice (some ⟨gm, 0, none⟩) m m) m (flV (mix (scA (fop K B F R O) vs my af m) (List.replicate m ((0 : Int), (0 : Int))) my af m (j + 1) 0)) /\ Below w.heap.size w wr /\ gm < wr.heap.size from ⟨TI, RI, DI, PI, hVN, KI, by omega⟩)
      clear F0 hVN TI RI DI PI VI LI XI BI KI HI HI0
      go_wp2_with fail
      go_roundw
      case rel => exact ⟨j + 1, by simp, by omega, HN9, FN⟩
      case measure => simp [intOf]; omega
   ·obtain rfl : j = N := by omega
    have hE : (0 : Int) = ER := by
     have h := FJ.out
     rw [Nat.sub_self] at h
     exact h
    subst hE
    have HV9 : Hid (wo.ownsRow gm 29 2 (.slice (some ⟨gm, 0, none⟩) m m) m (flV (scA (fop K B F R O) vs my af m))) := Lib.hid (by
     have h := VJ
     rw [show (mix (scA (fop K B F R O) vs my af m) (List.replicate m ((0 : Int), (0 : Int))) my af m j 0) = scA (fop K B F R O) vs my af m by rw [<- HNN.out, HM3.out]; exact mix_end my1 af1 scA_length] at h
     exact h)
    have HK9 := Lib.hid KJ
    have lr : w.heap.size + 1 < wo.heap.size := RJ.lt
    obtain ⟨⟨z0, z1, z2, z3, z4, z5, z6⟩, ⟨f0, f1, f2, f3, f4, f5, f6⟩⟩ := RJ
    obtain ⟨⟨m0, m1, m2, m3, m4, m5, m6⟩, -⟩ := DJ
    have gN : decide ((j : Int) < j) = false := by simp
    clear FJ LN PT VJ PJ KJ TJ HJ HJ0
    go_upto_region 38 with (go_at_call 55; (with_reducible refine SZJ.out.mono ?_); rintro e w' ⟨rfl, rfl⟩)
    repeat go_step
    have SBB := (((((((HK9.out).setCell (p := ⟨w.heap.size + 1, 0, none⟩) (by dsimp only; omega) (.int .i64 K)).setCell (p := ⟨w.heap.size + 1, 1, none⟩) (by dsimp only; omega) (.int .i64 B)).setCell (p := ⟨w.heap.size + 1, 2, none⟩) (by dsimp only; omega) (.int .i64 F)).setCell (p := ⟨w.heap.size + 1, 3, none⟩) (by dsimp only; omega) (.int .i64 R)).setCell (p := ⟨w.heap.size + 1, 4, none⟩) (by dsimp only; omega) (.int .i64 O)).setCell (p := ⟨w.heap.size + 1, 5, none⟩) (by dsimp only; omega) (.slice (some ⟨bb, oo, none⟩) zs.length c)).setCell (p := ⟨w.heap.size + 1, 6, none⟩) (by dsimp only; omega) (.slice (some ⟨gm, 0, none⟩) m m)
    have hvl : (scA (fop K B F R O) vs my af m).length = m := scA_length
    refine bodyPost_ret (v := .tuple #[Tn K B F R O (some ⟨bb, oo, none⟩) zs.length c (some ⟨gm, 0, none⟩) m m, .int .i64 0]) (by simp [results, Tryz.results34, go_sem, z0, f0, z1, f1, z2, f2, z3, f3, z4, f4, z5, f5, z6, f6, lr, Tn]) rfl ?_
    exact Or.inr ⟨rfl, some ⟨bb, oo, none⟩, c, some ⟨gm, 0, none⟩, m, by rw [hvl], SlI.keep SBB RA.out, SlV_of (own_set (own_set (own_set (own_set (own_set (own_set (own_set HV9.out (by dsimp only; omega)) (by dsimp only; omega)) (by dsimp only; omega)) (by dsimp only; omega)) (by dsimp only; omega)) (by dsimp only; omega)) (by dsimp only; omega)) hvl, SBB⟩
end Go.Proofs.YteaaikmejacpaaaGreatDoor.Te
