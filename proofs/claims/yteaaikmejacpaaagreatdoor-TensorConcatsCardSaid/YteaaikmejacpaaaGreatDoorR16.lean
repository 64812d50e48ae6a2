/- Tensors: Reduce with a scan. -/
import Derived.Test.YteaaikmejacpaaaGreatDoorR0
import Derived.Test.YteaaikmejacpaaaGreatDoorE16

namespace Go.Proofs.YteaaikmejacpaaaGreatDoor.Te
open Go.ChangeShapes Go.WideShapes Go.ChangeAt Go.RowKit
open Fx Va Sh
set_option maxRecDepth 8000
set_option linter.unusedVariables false
set_option linter.unusedSimpArgs false

theorem b7_far7 {u : World} {b r : Nat} {x0 x1 x2 x3 x4 x5 x6 y0 y1 y2 y3 y4 y5 y6 : Value} (hr : r ≠ b) (h : B7 u b x0 x1 x2 x3 x4 x5 x6) : B7 (((((((u.setCell ⟨r, 0, none⟩ y0).setCell ⟨r, 1, none⟩ y1).setCell ⟨r, 2, none⟩ y2).setCell ⟨r, 3, none⟩ y3).setCell ⟨r, 4, none⟩ y4).setCell ⟨r, 5, none⟩ y5).setCell ⟨r, 6, none⟩ y6) b x0 x1 x2 x3 x4 x5 x6 := (B7.far hr (B7.far hr (B7.far hr (B7.far hr (B7.far hr (B7.far hr (B7.far hr h)))))))

/-- The error of the scan of a line. -/
def snE (K B F R O : Int) (vs : List (Int × Int)) (my af i : Nat) : Int := scE (fop K B F R O) (lnV vs my af i)
theorem mix_line {K B F R O : Int} {vs : List (Int × Int)} {bf my af m j k : Nat} (q3 : 1 <= af) (hk : k < my) (hj : j < bf * af) (hm : m = bf * my * af) : (mix (scA (fop K B F R O) vs my af m) vs my af m j k).set (lnF my af j + k * af) ((scV (fop K B F R O) (lnV vs my af j)).getD k (0, 0)) = mix (scA (fop K B F R O) vs my af m) vs my af m j (k + 1) := by
 rw [hm, <- scA_get q3 hk hj]
 exact mix_set q3 hk hj
theorem wn {x : Nat} (h : x <= 4096) : wrap64 (x : Int) = x := w64 (by omega) (by omega)
theorem wnI {x : Nat} (h : x <= 4096) : IntKind.i64.wrap (x : Int) = x := by rw [IntKind.wrap_i64]; omega
theorem any_valid {K B F R O : Int} {vs : List (Int × Int)} (h : vs.any (badV K B F R O) = false) {i : Nat} (hi : i < vs.length) : vv K B F R O (vs.getD i (0, 0)).1 (vs.getD i (0, 0)).2 = true := by
 rw [List.any_eq_false] at h
 have hm : vs.getD i (0, 0) ∈ vs := by
  rw [List.getD_eq_getElem?_getD, List.getElem?_eq_getElem hi]
  exact List.getElem_mem hi
 have := h _ hm
 simpa [badV] using this
theorem line_range {K B F R O : Int} {vs : List (Int × Int)} {bf my af j : Nat} (h : vs.any (badV K B F R O) = false) (q3 : 1 <= af) (hj : j < bf * af) (hm : vs.length = bf * my * af) : ∀ i, i < my -> -9223372036854775808 <= ((lnV vs my af j).getD i (0, 0)).1 /\ ((lnV vs my af j).getD i (0, 0)).1 <= 9223372036854775807 := fun i hi => by
 rw [lnV_get hi]
 have := vv_small (any_valid h (by rw [hm]; exact ln_lt hi q3 hj))
 omega
set_option maxRecDepth 100000 in
set_option maxHeartbeats 2000000 in
theorem rd_s (K B F R O : Int) (p : Option Addr) (zs : List Int) (c : Nat) (q : Option Addr) (vs : List (Int × Int)) (d : Nat) (a : Nat) (fold : Int) (w : World) (b0 : -9223372036854775808 <= B) (b1 : B <= 9223372036854775807) (hn : zs.length <= maxLen) (hm : vs.length <= maxLen) (RA : Hid (SlI w p zs)) (RB : Hid (SlV w q vs)) (ht : tE K B F R O zs vs = 0) (ha : a < zs.length) (hc : zs.length <= c) (hc2 : c <= 9223372036854775807) (hf : fold = 5) (bf my af : Nat) (hbf : sp (zs.take a) = bf) (hmy : zs.getD a 0 = my) (haf : sp (zs.drop (a + 1)) = af) (q1 : 1 <= bf) (q2 : 1 <= my) (q3 : 1 <= af) (hmm3 : vs.length = bf * my * af) (q5 : bf * af <= vs.length) (q6 : my <= vs.length) (q7 : bf <= vs.length) (q8 : af <= vs.length) :
  Calls Tryz.prog 33 #[Tn K B F R O p zs.length c q vs.length d, .int .i64 a, .int .i64 fold] w (TOr (fe (snE K B F R O vs my af) (bf * af) 0) K B F R O zs (scA (fop K B F R O) vs my af (bf * my * af)) w) := by
 have TV0 := fun w h1 h2 => tval K B F R O p zs c q vs d w b0 b1 hn hm h1 h2
 rw [ht] at TV0
 obtain ⟨-, hv, tl, hv9⟩ := tE_ok ht
 obtain ⟨h6, -, -, hsp, -⟩ := valid_of hv
 have CD := Lib.hid fun w h => c48g p zs c w hn (by omega) h
 have AR0 := fun w h => tar p zs c a w ha hc hc2 hv h
 rw [hbf, haf] at AR0
 have AR := Lib.hid AR0
 subst hf
 have SCN := Lib.hid fun g n c Bs L u h1 h2 h3 h4 => tscan K B F R O g n c Bs L u b0 b1 h1 h2 h3 h4
 have hval0 := hv9
 have HVAL := Lib.hid hval0
 have hm4 : vs.length <= 4096 := by omega
 have DT0 := fun w g1 g2 => dtens K B F R O p zs c q vs d w h6 hm4 (by omega) g1 g2
 unfold TW at DT0
 have hai : a < zs.length := ha
 have hzp : 0 < zs.length := by omega
 obtain ⟨bb, oo, hpp, hcell⟩ := RA.out a ha
 rw [hmy] at hcell
 have hbb : bb < w.heap.size := World.block_lt_of_cell? _ _ hcell
 subst hpp
 obtain ⟨vb, vo, hqq, -⟩ := RB.out 0 (by omega)
 subst hqq
 obtain ⟨ER, hER⟩ : ∃ E, fe (snE K B F R O vs my af) (bf * af) 0 = E := ⟨_, rfl⟩
 rw [hER]
 obtain ⟨N, hN⟩ : ∃ N, bf * af = N := ⟨_, rfl⟩
 rw [hN] at hER q5
 rw [<- hmm3]
 have HER := Lib.hid hER
 have hNI : (bf : Int) * (af : Int) = (N : Int) := by rw [<- hN]; push_cast; rfl
 have HN := Lib.hid hN
 obtain ⟨m, hmm⟩ : ∃ m, vs.length = m := ⟨_, rfl⟩
 have HM := Lib.hid hmm
 rw [hmm] at TV0 DT0 hm tl hmm3 q5 q6 q7 q8 ⊢
 have TV := Lib.hid TV0
 have B0 : Hid (Below w.heap.size w ((w.alloc (Obj.cells #[Value.int .i64 K, Value.int .i64 B, Value.int .i64 F, Value.int .i64 R, Value.int .i64 O, Value.slice (some ⟨bb, oo, none⟩) zs.length c, Value.slice (some ⟨vb, vo, none⟩) m d] 27)).alloc (Obj.cells #[Value.int .i64 0, Value.int .i64 0, Value.int .i64 0, Value.int .i64 0, Value.int .i64 0, Value.slice none 0 0, Value.slice none 0 0] 27))) := Lib.hid (((Below.refl _ _).alloc (Nat.le_refl _) _).alloc (by simp) _)
 have T0 : Hid (B7 ((w.alloc (Obj.cells #[Value.int .i64 K, Value.int .i64 B, Value.int .i64 F, Value.int .i64 R, Value.int .i64 O, Value.slice (some ⟨bb, oo, none⟩) zs.length c, Value.slice (some ⟨vb, vo, none⟩) m d] 27)).alloc (Obj.cells #[Value.int .i64 0, Value.int .i64 0, Value.int .i64 0, Value.int .i64 0, Value.int .i64 0, Value.slice none 0 0, Value.slice none 0 0] 27)) (w.heap.size) (.int .i64 K) (.int .i64 B) (.int .i64 F) (.int .i64 R) (.int .i64 O) (.slice (some ⟨bb, oo, none⟩) zs.length c) (.slice (some ⟨vb, vo, none⟩) m d)) := Lib.hid ((B7.new w _ (.int .i64 K) (.int .i64 B) (.int .i64 F) (.int .i64 R) (.int .i64 O) (.slice (some ⟨bb, oo, none⟩) zs.length c) (.slice (some ⟨vb, vo, none⟩) m d)).alloc _)
 have R0 : Hid (B7 ((w.alloc (Obj.cells #[Value.int .i64 K, Value.int .i64 B, Value.int .i64 F, Value.int .i64 R, Value.int .i64 O, Value.slice (some ⟨bb, oo, none⟩) zs.length c, Value.slice (some ⟨vb, vo, none⟩) m d] 27)).alloc (Obj.cells #[Value.int .i64 0, Value.int .i64 0, Value.int .i64 0, Value.int .i64 0, Value.int .i64 0, Value.slice none 0 0, Value.slice none 0 0] 27)) (w.heap.size + 1) (.int .i64 0) (.int .i64 0) (.int .i64 0) (.int .i64 0) (.int .i64 0) (.slice none 0 0) (.slice none 0 0)) := Lib.hid (by have h := B7.new (w.alloc (Obj.cells #[Value.int .i64 K, Value.int .i64 B, Value.int .i64 F, Value.int .i64 R, Value.int .i64 O, Value.slice (some ⟨bb, oo, none⟩) zs.length c, Value.slice (some ⟨vb, vo, none⟩) m d] 27)) 27 (.int .i64 0) (.int .i64 0) (.int .i64 0) (.int .i64 0) (.int .i64 0) (.slice none 0 0) (.slice none 0 0); simpa using h)
 clear TV0
 have HM3 := Lib.hid hmm3
 have m4 : m <= 4096 := by omega
 have DT := Lib.hid DT0
 have HM1 : Hid (1 <= m) := Lib.hid (by omega)
 clear DT0 hm4 hv9 hval0
 have g1 : decide ((a : Int) < 0) = false := by simp
 have g2 : decide ((zs.length : Int) <= a) = false := by simp; omega
 have g3 : decide (zs.length <= a) = false := by simp; omega
 have wa : IntKind.i64.wrap ((a : Int) + 1) = (a : Int) + 1 := by rw [IntKind.wrap_i64]; omega
 have a0 : (0 : Int) <= a := by omega
 have a1 : (a : Int) < zs.length := by omega
 clear ht hm hmm hmm3 tl hER hN AR0
 unfold Tn at *
 go_enter Tryz.func33, Tryz.ntmps33
 go_upto_region 8 with (go_at_call 20; (with_reducible refine (TV.out _ (Lib.hid (SlI.keep B0.out RA.out)) (Lib.hid (SlV.below RB.out B0.out))).mono ?_); rintro e w1 ⟨rfl, hb⟩; have KB := Lib.hid (B0.out.trans (hb.mono B0.out.size)); have TB := Lib.hid (B7.keep hb (by simp <;> omega) T0.out); have RB9 := Lib.hid (B7.keep hb (by simp <;> omega) R0.out); obtain ⟨⟨c0, c1, c2, c3, c4, c5, c6⟩, -⟩ := TB.out; obtain ⟨⟨z0, z1, z2, z3, z4, z5, z6⟩, ⟨f0, f1, f2, f3, f4, f5, f6⟩⟩ := RB9.out; have lr : w.heap.size + 1 < w1.heap.size := RB9.out.lt; clear hb)
 have RD := Lib.hid (SlI.keep KB.out RA.out)
 have lt1 : w.heap.size < w1.heap.size := TB.out.lt
 have HSB : Hid (∀ u u' : World, (u.cell? ⟨w.heap.size, 0, none⟩ = some (.int .i64 K) /\ u.cell? ⟨w.heap.size, 1, none⟩ = some (.int .i64 B) /\ u.cell? ⟨w.heap.size, 2, none⟩ = some (.int .i64 F) /\ u.cell? ⟨w.heap.size, 3, none⟩ = some (.int .i64 R) /\ u.cell? ⟨w.heap.size, 4, none⟩ = some (.int .i64 O) /\ u.cell? ⟨w.heap.size, 5, none⟩ = some (.slice (some ⟨bb, oo, none⟩) zs.length c) /\ u.cell? ⟨w.heap.size, 6, none⟩ = some (.slice (some ⟨vb, vo, none⟩) m d) /\ Below w1.heap.size w1 u) -> Below w1.heap.size u u' -> (u'.cell? ⟨w.heap.size, 0, none⟩ = some (.int .i64 K) /\ u'.cell? ⟨w.heap.size, 1, none⟩ = some (.int .i64 B) /\ u'.cell? ⟨w.heap.size, 2, none⟩ = some (.int .i64 F) /\ u'.cell? ⟨w.heap.size, 3, none⟩ = some (.int .i64 R) /\ u'.cell? ⟨w.heap.size, 4, none⟩ = some (.int .i64 O) /\ u'.cell? ⟨w.heap.size, 5, none⟩ = some (.slice (some ⟨bb, oo, none⟩) zs.length c) /\ u'.cell? ⟨w.heap.size, 6, none⟩ = some (.slice (some ⟨vb, vo, none⟩) m d) /\ Below w1.heap.size w1 u')) := Lib.hid (fun u u' h hb => ⟨Rg.keep' hb lt1 h.1, Rg.keep' hb lt1 h.2.1, Rg.keep' hb lt1 h.2.2.1, Rg.keep' hb lt1 h.2.2.2.1, Rg.keep' hb lt1 h.2.2.2.2.1, Rg.keep' hb lt1 h.2.2.2.2.2.1, Rg.keep' hb lt1 h.2.2.2.2.2.2.1, h.2.2.2.2.2.2.2.trans hb⟩)
 go_cut [9] from 44 to 53 (fun p9 wx => ∃ (g9 gd ce : Nat), p9 = .pointer (some ⟨g9, 0, none⟩) /\ Hid (B7 wx (g9) (.int .i64 K) (.int .i64 B) (.int .i64 F) (.int .i64 R) (.int .i64 O) (.slice (some ⟨gd, 0, none⟩) (zs.length - 1) ce) (.slice none 0 0)) /\ Hid (wx.ownsRow w1.heap.size 3 1 (.slice (some ⟨gd, 0, none⟩) (zs.length - 1) ce) (zs.length - 1) ((zs.take a ++ zs.drop (a + 1)).map (Value.int .i64))) /\ g9 ≠ gd /\ w1.heap.size <= g9 /\ Hid (Below w1.heap.size w1 wx))
 case first =>
  refine Rk.begin (S := fun wS => wS.cell? ⟨w.heap.size, 0, none⟩ = some (.int .i64 K) /\ wS.cell? ⟨w.heap.size, 1, none⟩ = some (.int .i64 B) /\ wS.cell? ⟨w.heap.size, 2, none⟩ = some (.int .i64 F) /\ wS.cell? ⟨w.heap.size, 3, none⟩ = some (.int .i64 R) /\ wS.cell? ⟨w.heap.size, 4, none⟩ = some (.int .i64 O) /\ wS.cell? ⟨w.heap.size, 5, none⟩ = some (.slice (some ⟨bb, oo, none⟩) zs.length c) /\ wS.cell? ⟨w.heap.size, 6, none⟩ = some (.slice (some ⟨vb, vo, none⟩) m d) /\ Below w1.heap.size w1 wS) 11 (by kernel_rfl) ⟨c0, c1, c2, c3, c4, c5, c6, Below.drew (Below.refl _ _)⟩ (fun hHeld => ?_)
  refine SqR.p 0 ?_
  refine SqR.l [11] 1 ?_
  refine SqR.p 2 ?_
  refine SqR.l [11] 3 ?_
  refine SqR.p 5 ?_
  refine SqR.p 6 ?_
  refine SqR.p 7 ?_
  refine Rk.two (i := 4) (j := 10) (by kernel_rfl) rfl rfl (fun KK hK => ?_) (fun KK hK => ?_)
  ·rw [if_pos (by kernel_rfl)]
   go_simp
   ((with_reducible refine (CD.out _ (Lib.hid (SlI.keep (hHeld.2.2.2.2.2.2.2) RD.out))).mono ?_); rintro e u4 ⟨v4, rfl, hb, O4⟩)
   obtain ⟨gd, ce, rfl, hg4, hce⟩ := own_form O4 hzp
   have hs4 := hb.size
   have hsz4 := (hHeld.2.2.2.2.2.2.2).size
   have hNew := HSB.out _ _ hHeld (hb.mono (hHeld.2.2.2.2.2.2.2).size)
   have hgw : w1.heap.size <= gd := by omega
   replace O4 := own_base O4 hsz4
   have hlt4 := (O4.lt gd rfl).2
   first | (refine hK.out _ _ (fun _ => hNew) (fun _ => ?_)) | (refine hK.out _ _ hNew (fun _ => ?_)) | (go_wp2_with fail; refine hK.out _ _ hNew (fun _ => ?_))
   replace hHeld := hNew
   clear hNew hb hsz4 hg4
   clear hK KK
   refine Rk.two (i := 8) (j := 10) (by kernel_rfl) rfl rfl (fun KK hK => ?_) (fun KK hK => ?_)
   ·rw [if_pos (by kernel_rfl)]
    go_simp
    ((with_reducible refine (delG O4 hai hgw).mono ?_); rintro e u8 ⟨rfl, hgr, O8⟩)
    have hb8 := (Below.refl w1.heap.size _).grown hgr (hHeld.2.2.2.2.2.2.2).size (fun j hj => by cases hj; exact hgw)
    have hNew := HSB.out _ _ hHeld hb8
    have hs8 := hgr.size
    have hlt8 := (O8.lt gd rfl).2
    first | (refine hK.out _ _ (fun _ => hNew) (fun _ => ?_)) | (refine hK.out _ _ hNew (fun _ => ?_)) | (go_wp2_with fail; refine hK.out _ _ hNew (fun _ => ?_))
    replace hHeld := hNew
    clear hNew hb8 O4
    clear hK KK
    refine SqR.p 9 ?_
    refine Rk.one (i := 10) (by kernel_rfl) rfl (fun KK hK => ?_)
    rw [if_pos (by kernel_rfl)]
    go_simp
    have hNew := HSB.out _ _ hHeld ((Below.refl _ _).alloc (hHeld.2.2.2.2.2.2.2).size (Obj.cells #[Value.int .i64 0, Value.int .i64 0, Value.int .i64 0, Value.int .i64 0, Value.int .i64 0, Value.slice none 0 0, Value.slice none 0 0] 27))
    have M7 := B7.new u8 27 (.int .i64 0) (.int .i64 0) (.int .i64 0) (.int .i64 0) (.int .i64 0) (.slice none 0 0) (.slice none 0 0)
    have hne : u8.heap.size ≠ gd := by omega
    replace O8 := O8.alloc (Obj.cells #[Value.int .i64 0, Value.int .i64 0, Value.int .i64 0, Value.int .i64 0, Value.int .i64 0, Value.slice none 0 0, Value.slice none 0 0] 27)
    refine hK.out _ _ hNew (fun _ => ?_)
    replace hHeld := hNew
    clear hNew
    clear hK KK
    refine Rk.tail [11] [_] (by kernel_rfl) (by kernel_rfl) rfl (by decide) ?_
    obtain ⟨c0, c1, c2, c3, c4, c5, c6, K8⟩ := hHeld
    have M8 := M7
    obtain ⟨⟨m0, m1, m2, m3, m4, m5, m6⟩, ⟨g0, g1, g2, g3, g4, g5, g6⟩⟩ := M7
    have lm := M8.lt
    generalize (u8.alloc (Obj.cells #[Value.int .i64 0, Value.int .i64 0, Value.int .i64 0, Value.int .i64 0, Value.int .i64 0, Value.slice none 0 0, Value.slice none 0 0] 27)) = gw at *
    have hnb : w1.heap.size <= u8.heap.size := by omega
    go_wp2_with fail
    go_meet
    exact ⟨u8.heap.size, gd, ce, rfl, Lib.hid M8.st, Lib.hid (own_far7 O8 (Or.inr (by intro e; cases e; exact hne rfl))), hne, hnb, Lib.hid (below_set7 K8 hnb)⟩
   ·rw [if_pos (by kernel_rfl)]
    go_simp
    have hNew := HSB.out _ _ hHeld ((Below.refl _ _).alloc (hHeld.2.2.2.2.2.2.2).size (Obj.cells #[Value.int .i64 0, Value.int .i64 0, Value.int .i64 0, Value.int .i64 0, Value.int .i64 0, Value.slice none 0 0, Value.slice none 0 0] 27))
    have M7 := B7.new u4 27 (.int .i64 0) (.int .i64 0) (.int .i64 0) (.int .i64 0) (.int .i64 0) (.slice none 0 0) (.slice none 0 0)
    have hne : u4.heap.size ≠ gd := by omega
    replace O4 := O4.alloc (Obj.cells #[Value.int .i64 0, Value.int .i64 0, Value.int .i64 0, Value.int .i64 0, Value.int .i64 0, Value.slice none 0 0, Value.slice none 0 0] 27)
    refine hK.out _ _ hNew (fun _ => ?_)
    replace hHeld := hNew
    clear hNew
    clear hK KK
    refine Rk.one (i := 8) (by kernel_rfl) rfl (fun KK hK => ?_)
    rw [if_pos (by kernel_rfl)]
    go_simp
    ((with_reducible refine (delG O4 hai hgw).mono ?_); rintro e u8 ⟨rfl, hgr, O8⟩)
    have hb8 := (Below.refl w1.heap.size _).grown hgr (hHeld.2.2.2.2.2.2.2).size (fun j hj => by cases hj; exact hgw)
    have hNew := HSB.out _ _ hHeld hb8
    have hs8 := hgr.size
    replace M7 := B7.grown hgr (by intro e; cases e; exact hne rfl) M7
    have hlt8 := (O8.lt gd rfl).2
    first | (refine hK.out _ _ (fun _ => hNew) (fun _ => ?_)) | (refine hK.out _ _ hNew (fun _ => ?_)) | (go_wp2_with fail; refine hK.out _ _ hNew (fun _ => ?_))
    replace hHeld := hNew
    clear hNew hb8 O4
    clear hK KK
    refine SqR.p 9 ?_
    refine Rk.tail [11] [_] (by kernel_rfl) (by kernel_rfl) rfl (by decide) ?_
    obtain ⟨c0, c1, c2, c3, c4, c5, c6, K8⟩ := hHeld
    have M8 := M7
    obtain ⟨⟨m0, m1, m2, m3, m4, m5, m6⟩, ⟨g0, g1, g2, g3, g4, g5, g6⟩⟩ := M7
    have lm := M8.lt
    have hnb : w1.heap.size <= u4.heap.size := by omega
    go_wp2_with fail
    go_meet
    exact ⟨u4.heap.size, gd, ce, rfl, Lib.hid M8.st, Lib.hid (own_far7 O8 (Or.inr (by intro e; cases e; exact hne rfl))), hne, hnb, Lib.hid (below_set7 K8 hnb)⟩
  ·rw [if_pos (by kernel_rfl)]
   go_simp
   have hNew := HSB.out _ _ hHeld ((Below.refl _ _).alloc (hHeld.2.2.2.2.2.2.2).size (Obj.cells #[Value.int .i64 0, Value.int .i64 0, Value.int .i64 0, Value.int .i64 0, Value.int .i64 0, Value.slice none 0 0, Value.slice none 0 0] 27))
   have M7 : B7 (w1.alloc (Obj.cells #[Value.int .i64 0, Value.int .i64 0, Value.int .i64 0, Value.int .i64 0, Value.int .i64 0, Value.slice none 0 0, Value.slice none 0 0] 27)).drew (w1.heap.size) (.int .i64 0) (.int .i64 0) (.int .i64 0) (.int .i64 0) (.int .i64 0) (.slice none 0 0) (.slice none 0 0) := B7.new w1 _ (.int .i64 0) (.int .i64 0) (.int .i64 0) (.int .i64 0) (.int .i64 0) (.slice none 0 0) (.slice none 0 0)
   refine hK.out _ _ hNew (fun _ => ?_)
   replace hHeld := hNew
   clear hNew
   replace hHeld : (w1.alloc (Obj.cells #[Value.int .i64 0, Value.int .i64 0, Value.int .i64 0, Value.int .i64 0, Value.int .i64 0, Value.slice none 0 0, Value.slice none 0 0] 27)).drew.cell? ⟨w.heap.size, 0, none⟩ = some (.int .i64 K) /\ (w1.alloc (Obj.cells #[Value.int .i64 0, Value.int .i64 0, Value.int .i64 0, Value.int .i64 0, Value.int .i64 0, Value.slice none 0 0, Value.slice none 0 0] 27)).drew.cell? ⟨w.heap.size, 1, none⟩ = some (.int .i64 B) /\ (w1.alloc (Obj.cells #[Value.int .i64 0, Value.int .i64 0, Value.int .i64 0, Value.int .i64 0, Value.int .i64 0, Value.slice none 0 0, Value.slice none 0 0] 27)).drew.cell? ⟨w.heap.size, 2, none⟩ = some (.int .i64 F) /\ (w1.alloc (Obj.cells #[Value.int .i64 0, Value.int .i64 0, Value.int .i64 0, Value.int .i64 0, Value.int .i64 0, Value.slice none 0 0, Value.slice none 0 0] 27)).drew.cell? ⟨w.heap.size, 3, none⟩ = some (.int .i64 R) /\ (w1.alloc (Obj.cells #[Value.int .i64 0, Value.int .i64 0, Value.int .i64 0, Value.int .i64 0, Value.int .i64 0, Value.slice none 0 0, Value.slice none 0 0] 27)).drew.cell? ⟨w.heap.size, 4, none⟩ = some (.int .i64 O) /\ (w1.alloc (Obj.cells #[Value.int .i64 0, Value.int .i64 0, Value.int .i64 0, Value.int .i64 0, Value.int .i64 0, Value.slice none 0 0, Value.slice none 0 0] 27)).drew.cell? ⟨w.heap.size, 5, none⟩ = some (.slice (some ⟨bb, oo, none⟩) zs.length c) /\ (w1.alloc (Obj.cells #[Value.int .i64 0, Value.int .i64 0, Value.int .i64 0, Value.int .i64 0, Value.int .i64 0, Value.slice none 0 0, Value.slice none 0 0] 27)).drew.cell? ⟨w.heap.size, 6, none⟩ = some (.slice (some ⟨vb, vo, none⟩) m d) /\ Below w1.heap.size w1 (w1.alloc (Obj.cells #[Value.int .i64 0, Value.int .i64 0, Value.int .i64 0, Value.int .i64 0, Value.int .i64 0, Value.slice none 0 0, Value.slice none 0 0] 27)).drew := hHeld
   clear hK KK
   refine Rk.one (i := 4) (by kernel_rfl) rfl (fun KK hK => ?_)
   rw [if_pos (by kernel_rfl)]
   go_simp
   ((with_reducible refine (CD.out _ (Lib.hid (SlI.keep (hHeld.2.2.2.2.2.2.2) RD.out))).mono ?_); rintro e u4 ⟨v4, rfl, hb, O4⟩)
   obtain ⟨gd, ce, rfl, hg4, hce⟩ := own_form O4 hzp
   have hs4 := hb.size
   have hsz4 := (hHeld.2.2.2.2.2.2.2).size
   have hNew := HSB.out _ _ hHeld (hb.mono (hHeld.2.2.2.2.2.2.2).size)
   have M7l := M7.lt
   replace M7 := B7.keep hb M7.lt M7
   have hne : w1.heap.size ≠ gd := by simp at hg4 M7l; omega
   have hgw : w1.heap.size <= gd := by omega
   replace O4 := own_base O4 hsz4
   have hlt4 := (O4.lt gd rfl).2
   first | (refine hK.out _ _ (fun _ => hNew) (fun _ => ?_)) | (refine hK.out _ _ hNew (fun _ => ?_)) | (go_wp2_with fail; refine hK.out _ _ hNew (fun _ => ?_))
   replace hHeld := hNew
   clear hNew hb hsz4 hg4
   clear hK KK
   refine Rk.one (i := 8) (by kernel_rfl) rfl (fun KK hK => ?_)
   rw [if_pos (by kernel_rfl)]
   go_simp
   ((with_reducible refine (delG O4 hai hgw).mono ?_); rintro e u8 ⟨rfl, hgr, O8⟩)
   have hb8 := (Below.refl w1.heap.size _).grown hgr (hHeld.2.2.2.2.2.2.2).size (fun j hj => by cases hj; exact hgw)
   have hNew := HSB.out _ _ hHeld hb8
   have hs8 := hgr.size
   replace M7 := B7.grown hgr (by intro e; cases e; exact hne rfl) M7
   have hlt8 := (O8.lt gd rfl).2
   first | (refine hK.out _ _ (fun _ => hNew) (fun _ => ?_)) | (refine hK.out _ _ hNew (fun _ => ?_)) | (go_wp2_with fail; refine hK.out _ _ hNew (fun _ => ?_))
   replace hHeld := hNew
   clear hNew hb8 O4
   clear hK KK
   refine SqR.p 9 ?_
   refine Rk.tail [11] [_] (by kernel_rfl) (by kernel_rfl) rfl (by decide) ?_
   obtain ⟨c0, c1, c2, c3, c4, c5, c6, K8⟩ := hHeld
   have M8 := M7
   obtain ⟨⟨m0, m1, m2, m3, m4, m5, m6⟩, ⟨g0, g1, g2, g3, g4, g5, g6⟩⟩ := M7
   have lm := M8.lt
   have hnb : w1.heap.size <= w1.heap.size := by omega
   go_wp2_with fail
   go_meet
   exact ⟨w1.heap.size, gd, ce, rfl, Lib.hid M8.st, Lib.hid (own_far7 O8 (Or.inr (by intro e; cases e; exact hne rfl))), hne, hnb, Lib.hid (below_set7 K8 hnb)⟩

 case rest =>
  obtain ⟨g9, gd, ce, rfl, HD, HO8, hne9, hn9, HBX⟩ := hcut
  have KBC := Lib.hid (KB.out.trans (HBX.out.mono (by omega)))
  have TBC := Lib.hid (B7.keep HBX.out lt1 TB.out)
  have RBC := Lib.hid (B7.keep HBX.out RB9.out.lt RB9.out)
  have hsx := HBX.out.size
  have hg9 := HD.out.lt
  obtain ⟨⟨c0, c1, c2, c3, c4, c5, c6⟩, -⟩ := TBC.out
  clear z0 z1 z2 z3 z4 z5 z6 f0 f1 f2 f3 f4 f5 f6 HSB CD
  go_upto_region 11 with (go_at_call 45; (with_reducible refine (DT.out _ (Lib.hid (SlI.keep KBC.out RA.out)) (Lib.hid (SlV.below RB.out KBC.out))).mono ?_); rintro e w9 ⟨v, rfl, p1, cp1, q1, d1, rfl, O1, O2, hb9⟩; obtain ⟨gq, rfl, hgq, hgl⟩ := own_at O2 HM1.out; have KB9 := Lib.hid (KBC.out.trans (hb9.mono KBC.out.size)); have T9 := Lib.hid (B7.keep hb9 TBC.out.lt TBC.out); have R9 := Lib.hid (B7.keep hb9 RBC.out.lt RBC.out); have D9 := Lib.hid (B7.keep hb9 HD.out.lt HD.out); have HO1 := Lib.hid O1; have HO2 := Lib.hid O2; have hs9 := hb9.size; obtain ⟨⟨m0, m1, m2, m3, m4, m5, m6⟩, ⟨g0, g1, g2, g3, g4, g5, g6⟩⟩ := D9.out; have lD9 := D9.out.lt; clear hb9 O1 O2)
  have hg9w : w.heap.size < g9 := by omega
  have hne1 : g9 ≠ w.heap.size := by omega
  have hne2 : g9 ≠ w.heap.size + 1 := by have := RBC.out.lt; have h2 := RB9.out.lt; omega
  have hq1 : gq ≠ w.heap.size := by omega
  have hq2 : gq ≠ w.heap.size + 1 := by omega
  have hq3 : w.heap.size <= gq := by omega
  have KBD := Lib.hid (below_set7 (x0 := .int .i64 K) (x1 := .int .i64 B) (x2 := .int .i64 F) (x3 := .int .i64 R) (x4 := .int .i64 O) (x5 := .slice p1 zs.length cp1) (x6 := .slice (some ⟨gq, 0, none⟩) m d1) KB9.out (by omega : w.heap.size <= g9))
  have TBD := Lib.hid (b7_far7 (y0 := .int .i64 K) (y1 := .int .i64 B) (y2 := .int .i64 F) (y3 := .int .i64 R) (y4 := .int .i64 O) (y5 := .slice p1 zs.length cp1) (y6 := .slice (some ⟨gq, 0, none⟩) m d1) hne1 T9.out)
  have RBD := Lib.hid (b7_far7 (y0 := .int .i64 K) (y1 := .int .i64 B) (y2 := .int .i64 F) (y3 := .int .i64 R) (y4 := .int .i64 O) (y5 := .slice p1 zs.length cp1) (y6 := .slice (some ⟨gq, 0, none⟩) m d1) hne2 R9.out)
  have HDD := Lib.hid (B7.st (y0 := .int .i64 K) (y1 := .int .i64 B) (y2 := .int .i64 F) (y3 := .int .i64 R) (y4 := .int .i64 O) (y5 := .slice p1 zs.length cp1) (y6 := .slice (some ⟨gq, 0, none⟩) m d1) D9.out)
  have HPD := Lib.hid (own_set7 (x0 := .int .i64 K) (x1 := .int .i64 B) (x2 := .int .i64 F) (x3 := .int .i64 R) (x4 := .int .i64 O) (x5 := .slice p1 zs.length cp1) (x6 := .slice (some ⟨gq, 0, none⟩) m d1) HO1.out hg9)
  have HVD := Lib.hid (own_set7 (x0 := .int .i64 K) (x1 := .int .i64 B) (x2 := .int .i64 F) (x3 := .int .i64 R) (x4 := .int .i64 O) (x5 := .slice p1 zs.length cp1) (x6 := .slice (some ⟨gq, 0, none⟩) m d1) HO2.out hg9)
  have hsd : (((((((w9.setCell ⟨g9, 0, none⟩ (.int .i64 K)).setCell ⟨g9, 1, none⟩ (.int .i64 B)).setCell ⟨g9, 2, none⟩ (.int .i64 F)).setCell ⟨g9, 3, none⟩ (.int .i64 R)).setCell ⟨g9, 4, none⟩ (.int .i64 O)).setCell ⟨g9, 5, none⟩ (.slice p1 zs.length cp1)).setCell ⟨g9, 6, none⟩ (.slice (some ⟨gq, 0, none⟩) m d1)).heap.size = w9.heap.size := by simp
  generalize (((((((w9.setCell ⟨g9, 0, none⟩ (.int .i64 K)).setCell ⟨g9, 1, none⟩ (.int .i64 B)).setCell ⟨g9, 2, none⟩ (.int .i64 F)).setCell ⟨g9, 3, none⟩ (.int .i64 R)).setCell ⟨g9, 4, none⟩ (.int .i64 O)).setCell ⟨g9, 5, none⟩ (.slice p1 zs.length cp1)).setCell ⟨g9, 6, none⟩ (.slice (some ⟨gq, 0, none⟩) m d1)) = wd at *
  clear KB9 T9 R9 D9 HO1 HO2 m0 g0 m1 g1 m2 g2 m3 g3 m4 g4 m5 g5 m6 g6 lD9 KBC TBC RBC HD HO8 HBX DT
  obtain ⟨⟨c0, c1, c2, c3, c4, c5, c6⟩, -⟩ := TBD.out
  go_wp2_with (go_at_call 64; (with_reducible refine (AR.out _ (Lib.hid (SlI.keep KBD.out RA.out))).mono ?_); rintro e w5 ⟨rfl, hb5⟩; have KB5 := Lib.hid (KBD.out.trans (hb5.mono KBD.out.size)); have TB5 := Lib.hid (B7.keep hb5 TBD.out.lt TBD.out); have RB5 := Lib.hid (B7.keep hb5 RBD.out.lt RBD.out); have HD5 := Lib.hid (B7.keep hb5 HDD.out.lt HDD.out); have HP5 := Lib.hid (own_belowE HPD.out hb5); have HV5 := Lib.hid (own_belowE HVD.out hb5); have hs5 := hb5.size; have y5 := Rg.keep KB5.out hbb hcell; obtain ⟨⟨c0, c1, c2, c3, c4, c5, c6⟩, -⟩ := TB5.out; clear hb5)
  have hFE0 : Hid (fe (snE K B F R O vs my af) (N - 0) 0 = ER) := HER
  have HMX0 : Hid (w5.ownsRow wc.heap.size 29 2 (.slice (some ⟨gq, 0, none⟩) m d1) m (flV (mix (scA (fop K B F R O) vs my af m) vs my af m 0 0))) := Lib.hid (by rw [mix_start HM.out]; exact HV5.out)
  have hs55 : wc.heap.size <= w5.heap.size := by omega
  go_loopw [73] (fun iv wr => ∃ (j : Nat), iv = .int .i64 (j : Int) /\ j <= N /\ Hid (B7 wr (w.heap.size) (.int .i64 K) (.int .i64 B) (.int .i64 F) (.int .i64 R) (.int .i64 O) (.slice (some ⟨bb, oo, none⟩) zs.length c) (.slice (some ⟨vb, vo, none⟩) m d)) /\ Hid (B7 wr (w.heap.size + 1) (.int .i64 0) (.int .i64 0) (.int .i64 0) (.int .i64 0) (.int .i64 0) (.slice none 0 0) (.slice none 0 0)) /\ Hid (B7 wr (g9) (.int .i64 K) (.int .i64 B) (.int .i64 F) (.int .i64 R) (.int .i64 O) (.slice p1 zs.length cp1) (.slice (some ⟨gq, 0, none⟩) m d1)) /\ Hid (wr.ownsRow wc.heap.size 3 1 (.slice p1 zs.length cp1) zs.length (zs.map (Value.int .i64))) /\ Hid (wr.ownsRow wc.heap.size 29 2 (.slice (some ⟨gq, 0, none⟩) m d1) m (flV (mix (scA (fop K B F R O) vs my af m) vs my af m j 0))) /\ Hid (fe (snE K B F R O vs my af) (N - j) j = ER) /\ Hid (Below w.heap.size w wr) /\ wc.heap.size <= wr.heap.size) (fun iv _ => N - (intOf iv).toNat)
  case atStart => exact ⟨0, rfl, Nat.zero_le _, TB5, RB5, HD5, HP5, HMX0, hFE0, KB5, hs55⟩
  case round =>
   obtain ⟨j, rfl, hj, TJ, RJ, DJ, PJ, VJ, FJ, KJ, hsj⟩ := hrel
   clear c0 c1 c2 c3 c4 c5 c6 y5 TB5 RB5 HD5 HP5 HV5 HMX0 KB5 hFE0 TBD RBD KBD HPD HVD HDD TB RB9 KB RD hs55 hs5 hsd hs9 hgl
   by_cases hjN : j < N
   ·have hj2 : (j : Int) < N := by omega
    have hj0 : (0 : Int) <= j := by omega
    obtain ⟨j1, j2, j3, j4, e1, e2, e3, e4, e6, e5, hFm⟩ := first_eqs (my := my) q2 q3 (by rw [HN.out]; exact hjN) HM3.out m4
    obtain ⟨jf, hjf⟩ : ∃ x, lnF my af j = x := ⟨_, rfl⟩
    rw [hjf] at e5 hFm
    have e0 : ¬ (af : Int) = 0 := by omega
    have HJF := Lib.hid hjf
    have HJM := Lib.hid hFm
    clear hjf hFm
    go_upto_region 16 with fail
    go_quiet (fail)
    obtain ⟨wo, hwo⟩ : ∃ wo : World, wo = wr.drewN nq := ⟨_, rfl⟩
    rw [<- hwo]
    have TO : Hid (B7 wo (w.heap.size) (.int .i64 K) (.int .i64 B) (.int .i64 F) (.int .i64 R) (.int .i64 O) (.slice (some ⟨bb, oo, none⟩) zs.length c) (.slice (some ⟨vb, vo, none⟩) m d)) := by rw [hwo]; exact TJ
    have RO : Hid (B7 wo (w.heap.size + 1) (.int .i64 0) (.int .i64 0) (.int .i64 0) (.int .i64 0) (.int .i64 0) (.slice none 0 0) (.slice none 0 0)) := by rw [hwo]; exact RJ
    have DO : Hid (B7 wo (g9) (.int .i64 K) (.int .i64 B) (.int .i64 F) (.int .i64 R) (.int .i64 O) (.slice p1 zs.length cp1) (.slice (some ⟨gq, 0, none⟩) m d1)) := by rw [hwo]; exact DJ
    have PO : Hid (wo.ownsRow wc.heap.size 3 1 (.slice p1 zs.length cp1) zs.length (zs.map (Value.int .i64))) := by rw [hwo]; exact PJ
    have VO : Hid (wo.ownsRow wc.heap.size 29 2 (.slice (some ⟨gq, 0, none⟩) m d1) m (flV (mix (scA (fop K B F R O) vs my af m) vs my af m j 0))) := by rw [hwo]; exact VJ
    have KO : Hid (Below w.heap.size w wo) := by rw [hwo]; exact Lib.hid (below_drewN KJ.out _)
    have hso : wc.heap.size <= wo.heap.size := by rw [hwo]; exact hsj
    rw [e5]
    clear e0 e1 e2 e3 e4 e5 e6 TJ RJ DJ PJ VJ KJ hsj hwo
    have lto : w.heap.size < wo.heap.size := TO.out.lt
    have hgqo9 : gq < wo.heap.size := (VO.out.lt gq rfl).2
    obtain ⟨i0, hi, hz0, hz1, hz2⟩ := info_parts infoV
    go_wp2_with (refine wpList_make_full _ rfl _ _ 25 rfl wo.heap.size 29 i0 (.agg #[.int .i64 0, .int .i64 0]) 2 Tryz.underlying25 hi hz0 hz1 .i64 .i64 _ _ my rfl rfl rfl rfl (by rw [hz2]; omega) (by unfold maxLen; omega) (Nat.le_refl _) ?_; intro w6 hown6 hg6; have HB6 := Lib.hid (below_own (Nat.le_refl _) hg6); have HL6 := Lib.hid hown6; rw [madeV] at HL6; clear hown6 hg6)
    go_loopw [91] (fun iv wr => ∃ k : Nat, iv = .int .i64 (k : Int) /\ k <= my /\ Hid (wr.ownsRow wo.heap.size 29 2 (.slice (some ⟨wo.heap.size, 0, none⟩) my my) my (flV ((lnV vs my af j).take k ++ List.replicate (my - k) ((0 : Int), (0 : Int))))) /\ Hid (Below wo.heap.size wo wr)) (fun iv _ => my - (intOf iv).toNat)
    case atStart => exact ⟨0, rfl, Nat.zero_le _, Lib.hid (by rw [List.take_zero, List.nil_append, Nat.sub_zero]; exact HL6.out), HB6⟩
    case round =>
     obtain ⟨k, rfl, hk, LK, BK⟩ := hrel
     clear HL6 HB6 hi hz0 hz1 hz2
     by_cases hkm : k < my
     ·have hk2 : (k : Int) < my := by omega
      have hk0 : (0 : Int) <= k := by omega
      have hlt := ln_lt (before := bf) (k := k) (many := my) (i := j) hkm q3 (by rw [HN.out]; exact hjN)
      rw [<- HM3.out, HJF.out] at hlt
      obtain ⟨P, hP⟩ : ∃ P, k * af = P := ⟨_, rfl⟩
      obtain ⟨x, hx⟩ : ∃ x, jf + P = x := ⟨_, rfl⟩
      rw [hP, hx] at hlt
      have hPI : (k : Int) * (af : Int) = (P : Int) := by rw [<- hP]; push_cast; rfl
      have hxI : (jf : Int) + (P : Int) = (x : Int) := by rw [<- hx]; push_cast; rfl
      have hx2 : (x : Int) < m := by omega
      have hx0 : (0 : Int) <= x := by omega
      obtain ⟨b', o', ee, v0, v1⟩ := RB.out x (by rw [HM.out]; exact hlt)
      cases ee
      have hvb : vb < w.heap.size := World.block_lt_of_cell? _ _ v0
      have KW := KO.out.trans (BK.out.mono KO.out.size)
      replace v0 := Rg.keep KW hvb v0
      replace v1 := Rg.keep KW hvb v1
      obtain ⟨⟨c0, c1, c2, c3, c4, c5, c6⟩, -⟩ := B7.keep BK.out lto TO.out
      have hll := line_len (vs := vs) (af := af) (j := j) hk
      obtain ⟨s0, s1⟩ := row_get LK.out hll hkm
      have t0 := LK.out.frozenAt (k * 2)
      have t1 := LK.out.frozenAt (k * 2 + 1)
      have HSET := Lib.hid (line_set (vs := vs) (af := af) (j := j) hkm)
      rw [HJF.out, hP, hx] at HSET
      obtain ⟨y, hy⟩ : ∃ y, vs.getD x (0, 0) = y := ⟨_, rfl⟩
      rw [hy] at v0 v1 HSET
      have HLL := Lib.hid hll
      clear hP hx hll hy
      go_wp2_with fail
      go_roundw
      case rel =>
       refine ⟨k + 1, by simp, by omega, ?_, Lib.hid ((BK.out.setCell (p := ⟨wo.heap.size, k * 2, none⟩) (Nat.le_refl _) _).setCell (p := ⟨wo.heap.size, k * 2 + 1, none⟩) (Nat.le_refl _) _)⟩
       have h5 := row_two LK.out HLL.out hkm y.1 y.2
       rw [HSET.out] at h5
       exact Lib.hid h5
      case measure => simp [intOf]; omega
     ·have hke : k = my := by omega
      have HLK : Hid (wr.ownsRow wo.heap.size 29 2 (.slice (some ⟨wo.heap.size, 0, none⟩) my my) my (flV (lnV vs my af j))) := Lib.hid (by
       have h := LK.out
       rw [line_full hke] at h
       exact h)
      clear LK
      obtain ⟨wi, hwi⟩ : ∃ wi : World, wi = wr := ⟨wr, rfl⟩
      rw [<- hwi] at HLK BK ⊢
      clear hwi
      have TI := Lib.hid (B7.keep BK.out lto TO.out)
      obtain ⟨⟨c0, c1, c2, c3, c4, c5, c6⟩, -⟩ := TI.out
      have SC2 := Lib.hid (SCN.out wo.heap.size my my wo.heap.size (lnV vs my af j) wi HLK (lnV_length _ _ _ _) (by omega) (Lib.hid (line_range HVAL.out q3 (by rw [HN.out]; exact hjN) (by rw [HM.out]; exact HM3.out))))
      have hstep : N - j = (N - (j + 1)) + 1 := by omega
      have FJ2 := FJ.out
      rw [hstep] at FJ2
      obtain ⟨f9, hr⟩ : ∃ r, scE (fop K B F R O) (lnV vs my af j) = r := ⟨_, rfl⟩
      rw [hr] at SC2
      have hre : snE K B F R O vs my af j = f9 := hr
      have hsl := Lib.hid (scV_length (f := fop K B F R O) (lnV vs my af j))
      clear hr hstep
      by_cases hz : f9 = 0
      ·have FN : Hid (fe (snE K B F R O vs my af) (N - (j + 1)) (j + 1) = ER) := Lib.hid (by rw [<- FJ2, fe_go (by rw [hre]; exact hz)])
       subst hz
       clear FJ2 FJ hre
       go_wp2_with (go_at_call 65; (with_reducible refine SC2.out.mono ?_); rintro e w7 ⟨rfl, hb7, hrow7⟩; have hb7o := hb7.mono (Nat.le_refl _); have K7 := Lib.hid (BK.out.trans hb7); have T7 := Lib.hid (B7.keep K7.out lto TO.out); have R7 := Lib.hid (B7.keep K7.out RO.out.lt RO.out); have D7 := Lib.hid (B7.keep K7.out DO.out.lt DO.out); have P7 := Lib.hid (own_belowE PO.out K7.out); have V7 := Lib.hid (own_belowE VO.out K7.out); have KW7 := Lib.hid (KO.out.trans (K7.out.mono KO.out.size)); have hs7 := K7.out.size; have HR7 := Lib.hid hrow7; have lr : w.heap.size + 1 < w7.heap.size := R7.out.lt; obtain ⟨⟨z0, z1, z2, z3, z4, z5, z6⟩, ⟨f0, f1, f2, f3, f4, f5, f6⟩⟩ := R7.out; clear hb7 hrow7 hb7o)
       have HS7 := Lib.hid (HR7.out (by trivial))
       clear HR7
       go_loopw [119] (fun iv wr => ∃ k : Nat, iv = .int .i64 (k : Int) /\ k <= my /\ Hid (B7 wr (w.heap.size) (.int .i64 K) (.int .i64 B) (.int .i64 F) (.int .i64 R) (.int .i64 O) (.slice (some ⟨bb, oo, none⟩) zs.length c) (.slice (some ⟨vb, vo, none⟩) m d)) /\ Hid (B7 wr (w.heap.size + 1) (.int .i64 0) (.int .i64 0) (.int .i64 0) (.int .i64 0) (.int .i64 0) (.slice none 0 0) (.slice none 0 0)) /\ Hid (B7 wr (g9) (.int .i64 K) (.int .i64 B) (.int .i64 F) (.int .i64 R) (.int .i64 O) (.slice p1 zs.length cp1) (.slice (some ⟨gq, 0, none⟩) m d1)) /\ Hid (wr.ownsRow wc.heap.size 3 1 (.slice p1 zs.length cp1) zs.length (zs.map (Value.int .i64))) /\ Hid (wr.ownsRow wc.heap.size 29 2 (.slice (some ⟨gq, 0, none⟩) m d1) m (flV (mix (scA (fop K B F R O) vs my af m) vs my af m j k))) /\ Hid (wr.ownsRow wo.heap.size 29 2 (.slice (some ⟨wo.heap.size, 0, none⟩) my my) my (flV (scV (fop K B F R O) (lnV vs my af j)))) /\ Hid (Below w.heap.size w wr) /\ wo.heap.size <= wr.heap.size) (fun iv _ => my - (intOf iv).toNat)
       case atStart => exact ⟨0, rfl, Nat.zero_le _, T7, R7, D7, P7, V7, HS7, KW7, hs7⟩
       case round =>
        obtain ⟨k, rfl, hk, TK, RK, DK, PK, VK, LK, KK9, hsk⟩ := hrel
        clear T7 R7 D7 P7 V7 HS7 KW7 hs7 z0 f0 z1 f1 z2 f2 z3 f3 z4 f4 z5 f5 z6 f6 lr c0 c1 c2 c3 c4 c5 c6 K7 TI TO RO DO PO VO KO
        by_cases hkm : k < my
        ·have hk2 : (k : Int) < my := by omega
         have hk0 : (0 : Int) <= k := by omega
         have hlt := ln_lt (before := bf) (k := k) (many := my) (i := j) hkm q3 (by rw [HN.out]; exact hjN)
         have HMS := Lib.hid (mix_line (K := K) (B := B) (F := F) (R := R) (O := O) (vs := vs) q3 hkm (by rw [HN.out]; exact hjN) HM3.out)
         rw [<- HM3.out, HJF.out] at hlt
         rw [HJF.out] at HMS
         obtain ⟨P, hP⟩ : ∃ P, k * af = P := ⟨_, rfl⟩
         obtain ⟨x, hx⟩ : ∃ x, jf + P = x := ⟨_, rfl⟩
         rw [hP, hx] at hlt HMS
         have hP4 : P <= x := by rw [<- hx]; exact Nat.le_add_left _ _
         have hPI : (k : Int) * (af : Int) = (P : Int) := by rw [<- hP]; push_cast; rfl
         have hxI : (jf : Int) + (P : Int) = (x : Int) := by rw [<- hx]; push_cast; rfl
         have hx2 : (x : Int) < m := Int.ofNat_lt.2 hlt
         have hx0 : (0 : Int) <= x := Int.natCast_nonneg _
         have w1' : wrap64 (P : Int) = P := wn (Nat.le_trans hP4 (Nat.le_trans (Nat.le_of_lt hlt) m4))
         have w2' : wrap64 (x : Int) = x := wn (Nat.le_trans (Nat.le_of_lt hlt) m4)
         have w3' : IntKind.i64.wrap (P : Int) = P := wnI (Nat.le_trans hP4 (Nat.le_trans (Nat.le_of_lt hlt) m4))
         have w4' : IntKind.i64.wrap (x : Int) = x := wnI (Nat.le_trans (Nat.le_of_lt hlt) m4)
         obtain ⟨⟨m0, m1, m2, m3, m4, m5, m6⟩, -⟩ := DK.out
         obtain ⟨v0, v1⟩ := row_get LK.out (by rw [hsl.out]; exact lnV_length _ _ _ _) hkm
         obtain ⟨s0, s1⟩ := row_get VK.out (mix_length _ _ _ _ _ _ _) hlt
         have t0 := VK.out.frozenAt (x * 2)
         have t1 := VK.out.frozenAt (x * 2 + 1)
         obtain ⟨y, hy⟩ : ∃ y, (scV (fop K B F R O) (lnV vs my af j)).getD k (0, 0) = y := ⟨_, rfl⟩
         rw [hy] at v0 v1 HMS
         have hgq9 : gq ≠ g9 := Nat.ne_of_gt (Nat.lt_of_lt_of_le hg9 hgq)
         have hgqo : gq < wo.heap.size := hgqo9
         have HXL := Lib.hid hlt
         clear hP hx hy hP4 hlt
         go_upto_region 30 with fail
         obtain ⟨sv, hsv⟩ : ∃ sv, (mix (scA (fop K B F R O) vs my af m) vs my af m j k).getD x (0, 0) = sv := ⟨_, rfl⟩
         rw [hsv] at s0 s1
         clear hsv
         refine Rk.begin (S := fun wS => wS.cell? ⟨g9, 6, none⟩ = some (.slice (some ⟨gq, 0, none⟩) m d1) /\ wS.cell? ⟨wo.heap.size, k * 2, none⟩ = some (.int .i64 y.1) /\ wS.cell? ⟨wo.heap.size, k * 2 + 1, none⟩ = some (.int .i64 y.2) /\ wS.cell? ⟨gq, x * 2, none⟩ = some (.int .i64 sv.1) /\ wS.cell? ⟨gq, x * 2 + 1, none⟩ = some (.int .i64 sv.2) /\ wS.frozen? ⟨gq, x * 2, none⟩ = false /\ wS.frozen? ⟨gq, x * 2 + 1, none⟩ = false /\ Below wr.heap.size wr wS) 12 (by kernel_rfl) ⟨m6, v0, v1, s0, s1, t0, t1, Below.drew (Below.refl _ _)⟩ (fun hHeld => ?_)
         refine SqR.p 0 ?_
         refine SqR.l [12] 1 ?_
         refine SqR.p 2 ?_
         refine SqR.p 3 ?_
         refine SqR.p 4 ?_
         refine SqR.p 5 ?_
         refine SqR.p 6 ?_
         refine SqR.p 7 ?_
         refine SqR.p 8 ?_
         refine SqR.p 9 ?_
         refine SqR.l [12] 10 ?_
         refine SqR.p 11 ?_
         refine Rk.tail [12] [_] (by kernel_rfl) (by kernel_rfl) rfl (by decide) ?_
         obtain ⟨m6, v0, v1, s0, s1, t0, t1, K30⟩ := hHeld
         go_wp2_with fail
         go_roundw
         case rel =>
          have h5 := row_two VK.out (mix_length _ _ _ _ _ _ _) HXL.out y.1 y.2
          rw [HMS.out] at h5
          have hpq := own_two PK.out VK.out
          exact ⟨k + 1, by simp, by omega, Lib.hid ((TK.out.far hq1).far hq1).drew, Lib.hid ((RK.out.far hq2).far hq2).drew, Lib.hid ((DK.out.far hgq9).far hgq9).drew, Lib.hid ((PK.out.kept grown_set hpq).kept grown_set hpq).drew, Lib.hid h5.drew, Lib.hid (own_set (own_set LK.out hgqo) hgqo).drew, Lib.hid ((KK9.out.setCell (p := ⟨gq, x * 2, none⟩) hq3 _).setCell (p := ⟨gq, x * 2 + 1, none⟩) hq3 _).drew, by simpa using hsk⟩
         case measure => simp [intOf]; omega
        ·have hke : k = my := by omega
         have HVN : Hid (wr.ownsRow wc.heap.size 29 2 (.slice (some ⟨gq, 0, none⟩) m d1) m (flV (mix (scA (fop K B F R O) vs my af m) vs my af m (j + 1) 0))) := Lib.hid (by
          have h := VK.out
          rw [hke, show mix (scA (fop K B F R O) vs my af m) vs my af m j my = mix (scA (fop K B F R O) vs my af m) vs my af m (j + 1) 0 by rw [HM3.out]; exact mix_next q2] at h
          exact h)
         clear VK LK
         go_wp2_with fail
         go_roundw
         case rel => exact ⟨j + 1, by simp, by omega, TK, RK, DK, PK, HVN, FN, KK9, by omega⟩
         case measure => simp [intOf]; omega
      ·have hE : ER = f9 := by rw [<- FJ2, fe_stop (by rw [hre]; exact hz), hre]
       have z1' : (f9 != 0) = true := by simpa using hz
       have z2' : (f9 == 0) = false := by simpa using hz
       have HE := Lib.hid hE
       have HZ := Lib.hid hz
       clear FJ2 FJ hre hE hz
       go_upto_region 26 with (go_at_call 65; (with_reducible refine SC2.out.mono ?_); rintro e w7 ⟨rfl, hb7, hrow7⟩; have hb7o := hb7.mono (Nat.le_refl _); have K7 := Lib.hid (BK.out.trans hb7); have T7 := Lib.hid (B7.keep K7.out lto TO.out); have R7 := Lib.hid (B7.keep K7.out RO.out.lt RO.out); have D7 := Lib.hid (B7.keep K7.out DO.out.lt DO.out); have P7 := Lib.hid (own_belowE PO.out K7.out); have V7 := Lib.hid (own_belowE VO.out K7.out); have KW7 := Lib.hid (KO.out.trans (K7.out.mono KO.out.size)); have hs7 := K7.out.size; have HR7 := Lib.hid hrow7; have lr : w.heap.size + 1 < w7.heap.size := R7.out.lt; obtain ⟨⟨z0, z1, z2, z3, z4, z5, z6⟩, ⟨f0, f1, f2, f3, f4, f5, f6⟩⟩ := R7.out; clear hb7 hrow7 hb7o)
       repeat go_step
       have SBB := (((((((KW7.out).setCell (p := ⟨w.heap.size + 1, 0, none⟩) (by dsimp only; omega) (.int .i64 0)).setCell (p := ⟨w.heap.size + 1, 1, none⟩) (by dsimp only; omega) (.int .i64 0)).setCell (p := ⟨w.heap.size + 1, 2, none⟩) (by dsimp only; omega) (.int .i64 0)).setCell (p := ⟨w.heap.size + 1, 3, none⟩) (by dsimp only; omega) (.int .i64 0)).setCell (p := ⟨w.heap.size + 1, 4, none⟩) (by dsimp only; omega) (.int .i64 0)).setCell (p := ⟨w.heap.size + 1, 5, none⟩) (by dsimp only; omega) (.slice none 0 0)).setCell (p := ⟨w.heap.size + 1, 6, none⟩) (by dsimp only; omega) (.slice none 0 0)
       refine bodyPost_ret (v := .tuple #[.agg #[.int .i64 0, .int .i64 0, .int .i64 0, .int .i64 0, .int .i64 0, .slice none 0 0, .slice none 0 0], .int .i64 f9]) (by simp [results, Tryz.results33, go_sem, z0, f0, z1, f1, z2, f2, z3, f3, z4, f4, z5, f5, z6, f6, lr]) rfl ?_
       exact Or.inl ⟨by rw [HE.out]; exact HZ.out, by rw [HE.out]; exact TRes.no SBB⟩
   ·obtain rfl : j = N := by omega
    have hE : (0 : Int) = ER := by
     have h := FJ.out
     rw [Nat.sub_self] at h
     exact h
    subst hE
    have HVE : Hid (wr.ownsRow wc.heap.size 29 2 (.slice (some ⟨gq, 0, none⟩) m d1) m (flV (scA (fop K B F R O) vs my af m))) := Lib.hid (by
     have h := VJ.out
     rw [show mix (scA (fop K B F R O) vs my af m) vs my af m j 0 = scA (fop K B F R O) vs my af m by rw [<- HN.out, HM3.out]; exact mix_end q2 q3 scA_length] at h
     exact h)
    have lr : w.heap.size + 1 < wr.heap.size := RJ.out.lt
    obtain ⟨⟨z0, z1, z2, z3, z4, z5, z6⟩, ⟨f0, f1, f2, f3, f4, f5, f6⟩⟩ := RJ.out
    obtain ⟨⟨m0, m1, m2, m3, m4, m5, m6⟩, -⟩ := DJ.out
    have gN : decide ((j : Int) < j) = false := by simp
    clear FJ AR VJ
    go_upto_region 37 with fail
    repeat go_step
    have SBB := (((((((KJ.out).setCell (p := ⟨w.heap.size + 1, 0, none⟩) (by dsimp only; omega) (.int .i64 K)).setCell (p := ⟨w.heap.size + 1, 1, none⟩) (by dsimp only; omega) (.int .i64 B)).setCell (p := ⟨w.heap.size + 1, 2, none⟩) (by dsimp only; omega) (.int .i64 F)).setCell (p := ⟨w.heap.size + 1, 3, none⟩) (by dsimp only; omega) (.int .i64 R)).setCell (p := ⟨w.heap.size + 1, 4, none⟩) (by dsimp only; omega) (.int .i64 O)).setCell (p := ⟨w.heap.size + 1, 5, none⟩) (by dsimp only; omega) (.slice p1 zs.length cp1)).setCell (p := ⟨w.heap.size + 1, 6, none⟩) (by dsimp only; omega) (.slice (some ⟨gq, 0, none⟩) m d1)
    have hlv : (scA (fop K B F R O) vs my af m).length = m := scA_length
    refine bodyPost_ret (v := .tuple #[Tn K B F R O p1 zs.length cp1 (some ⟨gq, 0, none⟩) m d1, .int .i64 0]) (by simp [results, Tryz.results33, go_sem, z0, f0, z1, f1, z2, f2, z3, f3, z4, f4, z5, f5, z6, f6, lr, Tn]) rfl ?_
    refine Or.inr ⟨rfl, p1, cp1, some ⟨gq, 0, none⟩, d1, by rw [hlv], ?_, ?_, SBB⟩
    ·exact own_base (own_set (own_set (own_set (own_set (own_set (own_set (own_set PJ.out (by dsimp only; omega)) (by dsimp only; omega)) (by dsimp only; omega)) (by dsimp only; omega)) (by dsimp only; omega)) (by dsimp only; omega)) (by dsimp only; omega)) (by omega)
    ·rw [hlv]; exact own_base (own_set (own_set (own_set (own_set (own_set (own_set (own_set HVE.out (by dsimp only; omega)) (by dsimp only; omega)) (by dsimp only; omega)) (by dsimp only; omega)) (by dsimp only; omega)) (by dsimp only; omega)) (by dsimp only; omega)) (by omega)
end Go.Proofs.YteaaikmejacpaaaGreatDoor.Te


namespace Go.Proofs.YteaaikmejacpaaaGreatDoor.Te
open Go.ChangeShapes Go.WideShapes Go.ChangeAt Go.RowKit
open Fx Va Sh
set_option maxRecDepth 8000
set_option linter.unusedVariables false
set_option linter.unusedSimpArgs false

/-- The sum of a list. -/
def sI : List Int -> Int
 | [] => 0
 | x :: l => x + sI l
theorem sI_perm {l m : List Int} (h : l.Perm m) : sI l = sI m := by
 induction h with
 | nil => rfl
 | cons x _ ih => show x + sI _ = x + sI _; rw [ih]
 | swap x y l => show y + (x + sI l) = x + (y + sI l); omega
 | trans _ _ h1 h2 => exact h1.trans h2
theorem sI_app : ∀ l m : List Int, sI (l ++ m) = sI l + sI m
 | [], m => by show sI m = 0 + sI m; omega
 | x :: l, m => by show x + sI (l ++ m) = x + sI l + sI m; rw [sI_app l m]; omega
/-- The number of the element that comes to a place, after some axes. -/
def frS (zs os : List Int) (a : Int) (k : Nat) : Int := sI ((List.range k).map fun i => (pt (pm zs os) a).getD i 0 * (st zs).getD (os.getD i 0).toNat 0)
theorem frS_succ (zs os : List Int) (a : Int) (k : Nat) : frS zs os a (k + 1) = frS zs os a k + (pt (pm zs os) a).getD k 0 * (st zs).getD (os.getD k 0).toNat 0 := by
 unfold frS
 rw [List.range_succ, List.map_append, sI_app]
 show _ + ((pt (pm zs os) a).getD k 0 * (st zs).getD (os.getD k 0).toNat 0 + 0) = _
 rw [Int.add_zero]
theorem sI_le {f g : Nat -> Int} : ∀ n, (∀ i, i < n -> f i <= g i) -> sI ((List.range n).map f) <= sI ((List.range n).map g)
 | 0, _ => Int.le_refl _
 | n + 1, h => by
  rw [List.range_succ, List.map_append, List.map_append, sI_app, sI_app]
  have := sI_le n (fun i hi => h i (by omega))
  have h2 := h n (by omega)
  show _ + (f n + 0) <= _ + (g n + 0)
  omega
theorem sI_mono {f : Nat -> Int} : ∀ n, (∀ i, i < n -> 0 <= f i) -> ∀ k, k <= n -> 0 <= sI ((List.range k).map f) /\ sI ((List.range k).map f) <= sI ((List.range n).map f)
 | 0, _, k, hk => by
  obtain rfl : k = 0 := by omega
  exact ⟨Int.le_refl _, Int.le_refl _⟩
 | n + 1, h, k, hk => by
  have hn := sI_mono n (fun i hi => h i (by omega)) n (Nat.le_refl _)
  have h2 := h n (by omega)
  have e : sI ((List.range (n + 1)).map f) = sI ((List.range n).map f) + f n := by
   rw [List.range_succ, List.map_append, sI_app]; show _ + (f n + 0) = _; omega
  by_cases hk2 : k = n + 1
  ·subst hk2; rw [e]; omega
  ·have := sI_mono n (fun i hi => h i (by omega)) k (by omega)
   rw [e]; omega
theorem tele {zs : List Int} (hv : vE zs = 0) : ∀ n, n <= zs.length -> sI ((List.range n).map fun j => (zs.getD j 0 - 1) * (st zs).getD j 0) = sp zs - sp (zs.drop n)
 | 0, _ => by rw [List.drop_zero]; show (0 : Int) = _; omega
 | n + 1, h => by
  rw [List.range_succ, List.map_append, sI_app, tele hv n (by omega)]
  show _ + ((zs.getD n 0 - 1) * (st zs).getD n 0 + 0) = _
  rw [st_get (by omega), drop_cons (by omega : n < zs.length)]
  have e : sp (zs.getD n 0 :: zs.drop (n + 1)) = zs.getD n 0 * sp (zs.drop (n + 1)) := by simp [sp, Int.mul_comm]
  rw [e, Int.sub_mul]; omega
theorem by_order {n : Nat} {os : List Int} (hl : os.length = n) (h : gd n os n) (f : Nat -> Int) : sI ((List.range n).map fun i => f (os.getD i 0).toNat) = sI ((List.range n).map f) := by
 have h1 := (order_perm hl h).map f
 rw [List.map_map] at h1
 have e1 : (List.range n).map (fun i => f (os.getD i 0).toNat) = os.map (f ∘ Int.toNat) := by
  refine List.ext_getElem (by simp [hl]) fun j h1 h2 => ?_
  rw [List.getElem_map, List.getElem_range, List.getElem_map, getD_at (by rw [List.length_map] at h2; exact h2)]
  rfl
 rw [e1]
 exact sI_perm h1
theorem pm_valid {zs os : List Int} (hv : vE zs = 0) (hl : os.length = zs.length) (h : gd zs.length os zs.length) : vE (pm zs os) = 0 /\ sp (pm zs os) = sp zs :=
 ⟨vE_perm (pm_perm hl h) hv, sp_perm (pm_perm hl h)⟩
/-- All that the walk asks of the sums. -/
theorem frS_bd {zs os : List Int} {a : Int} (hv : vE zs = 0) (hl : os.length = zs.length) (h : gd zs.length os zs.length) : ∀ k, k <= zs.length -> 0 <= frS zs os a k /\ frS zs os a k < sp zs := by
 obtain ⟨hv2, -⟩ := pm_valid hv hl h
 obtain ⟨_, hlow, _, _, hd⟩ := valid_of hv
 obtain ⟨_, hlow2, _, _, _⟩ := valid_of hv2
 have hpl := pm_length zs os
 have term : ∀ i, i < zs.length -> 0 <= (pt (pm zs os) a).getD i 0 * (st zs).getD (os.getD i 0).toNat 0 /\ (pt (pm zs os) a).getD i 0 * (st zs).getD (os.getD i 0).toNat 0 <= (zs.getD (os.getD i 0).toNat 0 - 1) * (st zs).getD (os.getD i 0).toNat 0 := fun i hi => by
  obtain ⟨g0, g1, _⟩ := h i hi
  have hp := pos_of hlow2 (k := i) (by omega)
  rw [pt_get (by omega), pm_get (by omega), st_get (by omega)]
  rw [pm_get (by omega)] at hp
  have x0 := Int.emod_nonneg (a / sp ((pm zs os).drop (i + 1))) (by omega : zs.getD (os.getD i 0).toNat 0 ≠ 0)
  have x1 := Int.emod_lt_of_pos (a / sp ((pm zs os).drop (i + 1))) (by omega : 0 < zs.getD (os.getD i 0).toNat 0)
  have s1 := (hd ((os.getD i 0).toNat + 1)).1
  exact ⟨Int.mul_nonneg x0 (by omega), Int.mul_le_mul_of_nonneg_right (by omega) (by omega)⟩
 intro k hk
 have m := sI_mono zs.length (fun i hi => (term i hi).1) k hk
 have l := sI_le zs.length (fun i hi => (term i hi).2)
 have b := by_order hl h (fun j => (zs.getD j 0 - 1) * (st zs).getD j 0)
 rw [tele hv zs.length (Nat.le_refl _), List.drop_of_length_le (Nat.le_refl _)] at b
 have e : sp ([] : List Int) = 1 := rfl
 rw [e] at b
 have : sI ((List.range zs.length).map fun i => (zs.getD (os.getD i 0).toNat 0 - 1) * (st zs).getD (os.getD i 0).toNat 0) = sp zs - 1 := b
 unfold frS
 omega
theorem frS_term {zs os : List Int} {a : Int} (hv : vE zs = 0) (hl : os.length = zs.length) (h : gd zs.length os zs.length) {i : Nat} (hi : i < zs.length) : 0 <= (pt (pm zs os) a).getD i 0 * (st zs).getD (os.getD i 0).toNat 0 := by
 obtain ⟨hv2, -⟩ := pm_valid hv hl h
 obtain ⟨_, hlow, _, _, hd⟩ := valid_of hv
 obtain ⟨_, hlow2, _, _, _⟩ := valid_of hv2
 have hpl := pm_length zs os
 obtain ⟨g0, g1, _⟩ := h i hi
 have hp := pos_of hlow2 (k := i) (by omega)
 rw [pt_get (by omega), pm_get (by omega), st_get (by omega)]
 rw [pm_get (by omega)] at hp
 have x0 := Int.emod_nonneg (a / sp ((pm zs os).drop (i + 1))) (by omega : zs.getD (os.getD i 0).toNat 0 ≠ 0)
 have s1 := (hd ((os.getD i 0).toNat + 1)).1
 exact Int.mul_nonneg x0 (by omega)
/-- The elements in another order of axes. -/
def pmV (zs os : List Int) (vs : List (Int × Int)) : List (Int × Int) := (List.range vs.length).map fun (a : Nat) => vs.getD (frS zs os (a : Int) zs.length).toNat (0, 0)
theorem pmV_length (zs os : List Int) (vs : List (Int × Int)) : (pmV zs os vs).length = vs.length := by simp [pmV]
theorem pmV_get {zs os : List Int} {vs : List (Int × Int)} {a : Nat} (h : a < vs.length) : (pmV zs os vs).getD a (0, 0) = vs.getD (frS zs os (a : Int) zs.length).toNat (0, 0) := by
 unfold pmV
 rw [List.getD_eq_getElem?_getD, List.getElem?_map, List.getElem?_range h]
 rfl
theorem fill_set {l : List (Int × Int)} {m k : Nat} (hl : l.length = m) (h : k < m) : (l.take k ++ List.replicate (m - k) ((0 : Int), (0 : Int))).set k (l.getD k (0, 0)) = l.take (k + 1) ++ List.replicate (m - (k + 1)) ((0 : Int), (0 : Int)) := by
 have h1 : (l.take k).length = k := by rw [List.length_take]; omega
 have h2 : k < l.length := by omega
 rw [show m - k = (m - (k + 1)) + 1 by omega, List.replicate_succ, set_app h1, List.take_add_one, List.getElem?_eq_getElem h2, List.getD_eq_getElem?_getD, List.getElem?_eq_getElem h2, List.append_assoc]
 rfl
theorem fill_len {l : List (Int × Int)} {m k : Nat} (hl : l.length = m) (h : k <= m) : (l.take k ++ List.replicate (m - k) ((0 : Int), (0 : Int))).length = m := by
 rw [List.length_append, List.length_take, List.length_replicate]; omega
theorem fill_full {l : List (Int × Int)} {m k : Nat} (hl : l.length = m) (h : k = m) : l.take k ++ List.replicate (m - k) ((0 : Int), (0 : Int)) = l := by
 subst h
 rw [Nat.sub_self, List.take_of_length_le (by omega)]
 exact List.append_nil _
theorem wp_make_full {P : Program} (w : World) {o : Oper} {a : Act} {K : Act -> World -> Prop} {Q : Exit -> Act -> World -> Prop}
  (l c : Operand) (t : TypeId) (hop : o.op = Op.makeSlice t l c)
  (base : Nat) (e : TypeId) (i : TypeInfo) (z : Value) (size : Nat) (h1 : P.underlying t = some (.slice e)) (h2 : P.info? e = some i) (h3 : i.zero = some z) (h4 : i.size = size)
  (kl kc : IntKind) (L C : Int) (n : Nat) (hl : a.eval l = .int kl L) (hc : a.eval c = .int kc C) (hL : L = (n : Int)) (hC : C = (n : Int)) (b2 : i.bytes * n <= 281474976710656) (b3 : n <= maxLen) (b4 : base <= w.heap.size) (bk : Nat) (hbk : w.heap.size = bk)
  (hK : ∀ w', w'.ownsRow base e size (.slice (some ⟨bk, 0, none⟩) n n) n (madeCells z.cells (n * size)).toList -> w.grownBy w' none -> K (a.put o.dst (.slice (some ⟨bk, 0, none⟩) n n)) w') :
  o.wp P a w K Q := by
 subst hbk
 obtain ⟨w', hrun, r1, r2⟩ := run_make_full (P := P) w base t e i z size h1 h2 h3 h4 kl kc n b2 b3 b4
 subst hL
 subst hC
 unfold Oper.wp
 simp [execOp, hop, hl, hc, hrun, Result.andThen]
 exact hK w' r1 r2
end Go.Proofs.YteaaikmejacpaaaGreatDoor.Te


namespace Go.Proofs.YteaaikmejacpaaaGreatDoor.Te
open Go.ChangeShapes Go.WideShapes Go.ChangeAt Go.RowKit
open Fx Va Sh
set_option maxRecDepth 8000
set_option linter.unusedVariables false
set_option linter.unusedSimpArgs false

end Go.Proofs.YteaaikmejacpaaaGreatDoor.Te
