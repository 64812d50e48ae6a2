/- The statement on the partition: its walk. -/
import Derived.Test.YtjpcpdaokgkaoaaM20
namespace Go.Proofs.Ytjpcpdaokgkaoaa.Sh
open Go.ChangeShapes Go.WideShapes Go.ChangeAt Go.RowKit
set_option linter.unusedVariables false

theorem own_SlS' {w : World} {b1 b2 : Nat} {q : Option Addr} {c : Nat} {vals : List Value} {ls : List (List Int)} (h : w.ownsRow b1 22 1 (.slice q ls.length c) ls.length vals) (hr : Rows w b2 vals ls) : SlS w q ls := by
  obtain ⟨q', c', e, _, _, hS⟩ := own_SlS h hr
  injection e with e1 e2 e3
  subst e1
  exact hS.out
theorem rows_setCell {w : World} {base : Nat} {vals : List Value} {ls : List (List Int)} (h : Rows w base vals ls) {a : Addr} (ha : a.block < base) (u : Value) : Rows (w.setCell a u) base vals ls := ⟨h.1, fun i hi => ownsRow_setCell_below (h.2 i hi) ha u⟩
theorem cn_le {gl : List (List Int)} {D i k e : Nat} (hi : i < gl.length) (h : e < D) (h1 : (cn gl D gl.length 0).getD e 0 = 1) : 0 ≤ (cn gl D i k).getD e 0 ∧ (cn gl D i k).getD e 0 ≤ 1 := by
  rw [cn_get h, List.take_length, List.take_zero, List.append_nil] at h1
  rw [cn_get h]
  have e2 : gl.getD i [] = gl[i] := by rw [List.getD, List.getElem?_eq_getElem hi]; rfl
  have e3 : gl.flatten = (gl.take i).flatten ++ (gl[i] ++ (gl.drop (i + 1)).flatten) := by
    have : gl = gl.take i ++ gl[i] :: gl.drop (i + 1) := by rw [← List.drop_eq_getElem_cons hi, List.take_append_drop]
    calc gl.flatten = (gl.take i ++ gl[i] :: gl.drop (i + 1)).flatten := by rw [← this]
      _ = _ := by rw [List.flatten_append, List.flatten_cons]
  rw [e3, List.count_append, List.count_append] at h1
  rw [e2, List.count_append]
  have := (List.take_sublist k gl[i]).count_le (e : Int)
  omega
theorem KW.store {v u : Value} {w wr : World} {g o : Nat} (h : KW v w wr) (ha : w.heap.size < g) : KW v w (wr.setCell ⟨g, o, none⟩ u) :=
  ⟨h.1.setCell (by show _ ≤ g; omega) _, by simpa using h.2.1, by rw [World.cell?_setCell_far _ _ _ _ (by show ¬ g = w.heap.size; omega)]; exact h.2.2⟩
set_option maxHeartbeats 4000000 in
theorem law12_out (p : Option Addr) (zs : List Int) (c : Nat) (a0 : Int) (w : World) (hn : zs.length ≤ maxLen) (RA : Hid (SlI w p zs)) (h : ¬ mok zs = true) :
    Calls Try.prog 12 #[.agg #[.slice p zs.length c], .int .u8 a0] w (Ret (.bool true) w) := by
  have EX := Lib.hid ex51
  have C := Lib.hid fun (y : World) (h : Below w.heap.size w y) => c38 p zs c y hn (Lib.hid (SlI.keep h RA.out))
  have hV := mV_bad h
  generalize mV zs = V at C hV
  unfold maxLen at hn
  clear h
  have K0 := KW.mk (.slice p zs.length c) 41 w
  by_cases h1 : 20 < zs.length
  · have l1 : decide ((20 : Int) < zs.length) = true := decide_eq_true (by omega)
    have l2 : decide (20 < zs.length) = true := decide_eq_true (by omega)
    go_enter Try.func12, Try.ntmps12
    go_wp2_with (go_at_call 32; refine (EX.out _).mono ?_; rintro e w1 ⟨rfl, hb⟩)
    go_ret
    exact ⟨rfl, (K0.keep hb).1⟩
  · have l1 : decide ((20 : Int) < zs.length) = false := decide_eq_false (by omega)
    have l2 : decide (20 < zs.length) = false := decide_eq_false (by omega)
    go_enter Try.func12, Try.ntmps12
    go_wp2_with fail
    refine (C.out _ K0.1).mono ?_
    rintro e w1 ⟨rfl, hb⟩
    have K1 := K0.keep hb
    clear hb
    go_wp2_with (go_at_call 32; refine (EX.out _).mono ?_; rintro e w2 ⟨rfl, hb⟩)
    go_ret
    exact ⟨rfl, (K1.keep hb).1⟩
set_option maxRecDepth 100000 in
set_option maxHeartbeats 32000000 in
theorem law12_ok (p : Option Addr) (zs : List Int) (c : Nat) (a0 : Int) (w : World) (RA : Hid (SlI w p zs)) (hm : mok zs = true) (ha0 : 0 ≤ a0) (ha1 : a0 ≤ 255) :
    Calls Try.prog 12 #[.agg #[.slice p zs.length c], .int .u8 a0] w (Ret (.bool true) w) := by
  have EX := Lib.hid ex51
  obtain ⟨h1, h3, _, s0, s1, hv⟩ := mok_facts hm
  have hn : zs.length ≤ maxLen := by unfold maxLen; omega
  have l1 : decide ((20 : Int) < zs.length) = false := decide_eq_false (by omega)
  have l2 : decide (20 < zs.length) = false := decide_eq_false (by omega)
  have x0 := Int.emod_nonneg a0 (show (zs.length : Int) ≠ 0 by omega)
  have x1 := Int.emod_lt_of_pos a0 (show (0 : Int) < zs.length by omega)
  obtain ⟨x, hx⟩ : ∃ x : Nat, a0 % (zs.length : Int) = (x : Int) := ⟨(a0 % (zs.length : Int)).toNat, by omega⟩
  rw [hx] at x0 x1
  have hxn : x < zs.length := by omega
  obtain ⟨Z0, Z1⟩ := mok_el hm hxn
  obtain ⟨D, hD⟩ : ∃ D : Nat, sp zs = (D : Int) := ⟨(sp zs).toNat, by omega⟩
  have C := Lib.hid fun (y : World) (h : Below w.heap.size w y) => c38 p zs c y hn (Lib.hid (SlI.keep h RA.out))
  rw [mV_ok hm] at C
  have E39 := Lib.hid fun (y : World) (h : Below w.heap.size w y) => c39 p zs c y hn (Lib.hid (SlI.keep h RA.out))
  rw [show dv zs = sp zs from if_pos hm, hD] at E39
  have E44 := Lib.hid fun (y : World) (h : Below w.heap.size w y) => c44 p zs c (x : Int) y hn (Lib.hid (SlI.keep h RA.out))
  rw [show dv zs = sp zs from if_pos hm, gs_gsw hm hxn] at E44
  have E33 : Hid (∀ (y : World) (k : Nat), (k : Int) < sp zs → Below w.heap.size w y → Calls Try.prog 33 #[.agg #[.slice p zs.length c], .int .i64 (k : Int)] y (PW (pt zs (k : Int)) true y)) := Lib.hid fun y k hk h => by
    have := c33 p zs c (k : Int) y hn (Lib.hid (SlI.keep h RA.out))
    rw [(c_pt hm (by omega) hk).1, (c_pt hm (by omega) hk).2] at this
    exact this
  have E41 : Hid (∀ (y : World) (k : Nat), (k : Int) < sp zs → Below w.heap.size w y → Calls Try.prog 41 #[.agg #[.slice p zs.length c], .int .i64 (x : Int), .int .i64 (k : Int)] y (OW (gw zs x (k : Int)) y)) := Lib.hid fun y k hk h => by
    have := c41 p zs c (x : Int) (k : Int) y hn (Lib.hid (SlI.keep h RA.out))
    rw [gL_gw hm hxn (by omega) hk] at this
    exact this
  have OK := Lib.hid fun (i : Nat) (hi : i < (gsw zs x).length) => okl_of hm hxn hi
  have CE := Lib.hid fun (i e : Nat) (hi : i = (gsw zs x).length) (he : (e : Int) < sp zs) => cn_end (e := e) hm hxn hi he
  rw [hD] at CE E33 E41 OK s0 s1
  rw [Int.toNat_natCast] at CE
  have HG : Hid ((gsw zs x).length ≤ maxLen) := Lib.hid (by
    unfold gsw
    rw [List.length_map]
    refine Nat.le_trans (List.length_filter_le _ _) ?_
    rw [List.length_range]; unfold maxLen; omega)
  have CB := Lib.hid (fun (i k e : Nat) (hi : i < (gsw zs x).length) (he : e < D) => cn_le (k := k) hi he (CE.out _ e rfl (by omega)))
  have PT := Lib.hid (fun k : Nat => pt_length zs (k : Int))
  have CS := Lib.hid (fun i k e => @cn_step (gsw zs x) D i k e)
  have CX := Lib.hid (fun i k => @cn_next (gsw zs x) D i k)
  have CL := Lib.hid (fun i k => cn_length (gsw zs x) D i k)
  have CZ := Lib.hid (cn_zero (gsw zs x) D)
  obtain ⟨zv, hzc⟩ : ∃ zv : Nat, zs.getD x 0 = (zv : Int) := ⟨(zs.getD x 0).toNat, by omega⟩
  obtain ⟨bz, oz, rfl, hcz⟩ := RA.out x hxn
  rw [hzc] at hcz OK Z0 Z1
  rw [Int.toNat_natCast] at OK
  have hbz : bz < w.heap.size := by have := World.block_lt_of_cell? w _ hcz; simpa using this
  obtain ⟨gl, hgl⟩ : ∃ gl, gsw zs x = gl := ⟨_, rfl⟩
  rw [hgl] at E44 OK CE HG CS CX CL CZ CB
  obtain ⟨n, hnn⟩ : ∃ n, zs.length = n := ⟨_, rfl⟩
  rw [hnn] at C E39 E44 E33 E41 PT h1 h3 l1 l2 x1 hxn hx ⊢
  obtain ⟨i0, hi, hz0, hz1, hz2⟩ := info_parts info3
  clear hnn hgl hzc hD hm hv hn
  have K0 := KW.mk (.slice (some ⟨bz, oz, none⟩) n c) 41 w
  go_enter Try.func12, Try.ntmps12
  go_wp2_with fail
  refine (C.out _ K0.1).mono ?_
  rintro e w1 ⟨rfl, hb⟩
  have K1 := K0.keep hb
  have hx1 := K1.2.2
  clear hb K0 C
  go_wp2_with fail
  refine (E39.out _ K1.1).mono ?_
  rintro e w2 ⟨rfl, hb⟩
  have K2 := K1.keep hb
  have hx2 := K2.2.2
  clear hb K1 hx1
  go_wp2_with (refine wpList_make_full _ rfl _ _ 22 rfl w2.heap.size 3 i0 (.int .i64 0) 1 Try.underlying22 hi hz0 hz1 .i64 .i64 _ _ D rfl rfl rfl rfl (by rw [hz2]; omega) (by unfold maxLen; omega) (Nat.le_refl _) ?_; intro w3 hown hg; have hB3 := below_own (Nat.le_refl _) hg; have K3 := K2.keep hB3; have hx3 := K3.2.2; clear hg hi hz0 hz1 hz2 i0)
  have hM3 : Hid (w3.ownsRow w2.heap.size 3 1 (.slice (some ⟨w2.heap.size, 0, none⟩) D D) D ((cn gl D 0 0).map (Value.int .i64))) := Lib.hid (by
    have h := hown
    rw [show (Value.int IntKind.i64 0).cells = #[.int .i64 0] from rfl, toList_madeCells_one, Nat.mul_one] at h
    rw [CZ.out, List.map_replicate]
    exact h)
  have g6 := (hM3.out.lt w2.heap.size rfl).2
  have g6w := K2.2.1
  obtain ⟨g, hg⟩ : ∃ g, w2.heap.size = g := ⟨_, rfl⟩
  rw [hg] at hM3 g6 g6w ⊢
  clear hown hB3 hx2 K2 hg CZ
  go_wp2_with fail
  refine (E44.out _ K3.1).mono ?_
  rintro e w4 ⟨v4, vals, rfl, hb, ho, hr⟩
  obtain ⟨q7, c7, rfl, _, _, S4⟩ := own_SlS ho hr
  have K4 := K3.keep hb
  have hx4 := K4.2.2
  have M4 := Lib.hid (own_below hM3.out hb)
  have O4 := Lib.hid ho
  have R4 := Lib.hid hr
  obtain ⟨B, hB⟩ : ∃ B, w3.heap.size = B := ⟨_, rfl⟩
  rw [hB] at O4 R4 g6
  clear hb K3 hx3 hM3 ho hr S4 hB E44 E39
  obtain ⟨G, hGl⟩ : ∃ G, gl.length = G := ⟨_, rfl⟩
  have GLn := Lib.hid hGl
  rw [hGl] at O4 OK HG CB CX ⊢
  clear hGl
  have hGm := HG.out
  unfold maxLen at hGm
  go_wp2_with fail
  go_loopw [8] (fun t wr => ∃ (i : Nat), t = .int .i64 i ∧ i ≤ G ∧ KW (.slice (some ⟨bz, oz, none⟩) n c) w wr ∧ Hid (wr.ownsRow g 3 1 (.slice (some ⟨g, 0, none⟩) D D) D ((cn gl D i 0).map (Value.int .i64))) ∧ Hid (wr.ownsRow B 22 1 (.slice q7 G c7) G vals) ∧ Hid (Rows wr B vals gl)) (fun t _ => G - (intOf t).toNat)
  case atStart => exact ⟨0, rfl, by omega, K4, M4, O4, R4⟩
  case round =>
    obtain ⟨i, rfl, hi, KK, hM, hO, hR⟩ := hrel
    clear K4 M4 O4 R4 hx4
    have ii : (0 : Int) ≤ i := by omega
    by_cases hiG : i < G
    · have hi2 : (i : Int) < G := by omega
      have hS := own_SlS' (by rw [GLn.out]; exact hO.out) hR.out
      obtain ⟨b7, o7, pi, ci, rfl, hc7, hl7, hSi⟩ := hS i (by rw [GLn.out]; exact hiG)
      obtain ⟨hll, hel⟩ := OK.out i hiG
      have HEL := Lib.hid hel
      obtain ⟨li, hli⟩ : ∃ li, (gl.getD i []).length = li := ⟨_, rfl⟩
      have HLI := Lib.hid hli
      rw [hli] at hc7 hll HEL
      subst hll
      have hx5 := KK.2.2
      have hcz5 : wr.cell? ⟨bz, oz + x, none⟩ = some (.int .i64 li) := Rg.keep' KK.1 hbz hcz
      have k7 : ((li : Int) != (li : Int)) = false := by simp
      clear hS hel hli hl7 hSi
      go_wp2
      go_quiet (fail)
      go_wp2
      have KD := KK.keep (below_drewN (Below.refl _ _) nq)
      have MD : Hid ((wr.drewN nq).ownsRow g 3 1 (.slice (some ⟨g, 0, none⟩) D D) D ((cn gl D i 0).map (Value.int .i64))) := Lib.hid hM.out
      have OD : Hid ((wr.drewN nq).ownsRow B 22 1 (.slice (some ⟨b7, o7, none⟩) G c7) G vals) := Lib.hid hO.out
      have RD : Hid (Rows (wr.drewN nq) B vals gl) := Lib.hid hR.out
      clear KK hM hO hR hc7 hx5 hcz5
      generalize wr.drewN nq = wd at *
      go_loopw [9] (fun t wr2 => ∃ (k : Nat), t = .int .i64 k ∧ k ≤ li ∧ KW (.slice (some ⟨bz, oz, none⟩) n c) w wr2 ∧ Hid (wr2.ownsRow g 3 1 (.slice (some ⟨g, 0, none⟩) D D) D ((cn gl D i k).map (Value.int .i64))) ∧ Hid (wr2.ownsRow B 22 1 (.slice (some ⟨b7, o7, none⟩) G c7) G vals) ∧ Hid (Rows wr2 B vals gl)) (fun t _ => li - (intOf t).toNat)
      case atStart => exact ⟨0, rfl, by omega, KD, MD, OD, RD⟩
      case round =>
        obtain ⟨k, rfl, hk, KK, hM, hO, hR⟩ := hrel
        clear KD MD OD RD
        have kk : (0 : Int) ≤ k := by omega
        have hx5 := KK.2.2
        have hS := own_SlS' (by rw [GLn.out]; exact hO.out) hR.out
        obtain ⟨b7', o7', pi2, ci2, e7, hc7, hl7, hSi⟩ := hS i (by rw [GLn.out]; exact hiG)
        cases e7
        rw [HLI.out] at hc7 hl7
        clear hS
        by_cases hkl : k < li
        · have hk2 : (k : Int) < li := by omega
          obtain ⟨e, he1, he2, he3, he4⟩ := HEL.out k hkl
          obtain ⟨bi, oi, rfl, hci⟩ := hSi k (by rw [HLI.out]; exact hkl)
          rw [he1] at hci
          have e0 : (0 : Int) ≤ e := by omega
          have HGW := Lib.hid he4
          have HCS := Lib.hid (CS.out i k e (by rw [HLI.out]; exact hkl) he1 (by omega))
          have HP3 := Lib.hid he3
          have SI := Lib.hid hSi
          have HLM : Hid ((gl.getD i []).length ≤ maxLen) := Lib.hid (by rw [HLI.out]; exact hl7)
          clear he1 he4 he3 hSi hl7
          go_wp2_with fail
          refine (E33.out _ e he2 KK.1).mono ?_
          rintro e' z ⟨v11, rfl, hb, ho⟩
          rw [PT.out] at ho
          obtain ⟨q11, d11, hv11, _, _, S11⟩ := own_SlI (l := pt zs (e : Int)) (by rw [PT.out]; exact ho)
          rw [PT.out] at hv11
          subst hv11
          obtain ⟨g11, o11, rfl, hc11⟩ := S11.out x (by rw [PT.out]; exact hxn)
          rw [HP3.out] at hc11
          have KZ := KK.keep hb
          have hxz := KZ.2.2
          have hlt7 : b7 < wr.heap.size := by have := World.block_lt_of_cell? wr _ hc7; simpa using this
          have hc7z := Rg.keep' hb hlt7 hc7
          have hlt7 : b7 < z.heap.size := Nat.lt_of_lt_of_le hlt7 hb.size
          have hlt11 : g11 < z.heap.size := by have := World.block_lt_of_cell? z _ hc11; simpa using this
          have SI := Lib.hid (SlI.keep hb SI.out)
          have MZ := Lib.hid (own_below hM.out hb)
          have OZ := Lib.hid (own_below hO.out hb)
          have RZ := Lib.hid (hR.out.below hb)
          clear hb ho hM hO hR KK hx5 hc7 hci S11
          have hlt := KZ.2.1
          have KZB := KZ.1
          have C41 := Lib.hid fun (y : World) (h : Below z.heap.size z y) => E41.out y e he2 (KZB.trans (h.mono KZB.size))
          have KZZ : Hid (∀ y u : World, Below z.heap.size z y → Below y.heap.size y u → Below z.heap.size z u) := Lib.hid fun y u h h' => h.trans (h'.mono h.size)
          have hz : z.cell? ⟨w.heap.size, 0, none⟩ = some (.slice (some ⟨bz, oz, none⟩) n c) ∧ z.cell? ⟨g11, o11 + x, none⟩ = some (.int .i64 (k : Int)) ∧ z.cell? ⟨b7, o7 + i, none⟩ = some (.slice (some ⟨bi, oi, none⟩) li ci2) ∧ z.heap.size ≤ z.heap.size ∧ Below z.heap.size z z := ⟨hxz, hc11, hc7z, Nat.le_refl _, Below.refl _ _⟩
          clear hxz hc11 hc7z
          have f1 : decide ((e : Int) < 0) = false := decide_eq_false (by omega)
          have f2 : decide ((D : Int) ≤ e) = false := decide_eq_false (by omega)
          have f3 : decide (D ≤ e) = false := decide_eq_false (by omega)
          have eD : e < D := by omega
          go_wp2_with fail
          have HS : Hid (∀ u u' : World, (u.cell? ⟨w.heap.size, 0, none⟩ = some (.slice (some ⟨bz, oz, none⟩) n c) ∧ u.cell? ⟨g11, o11 + x, none⟩ = some (.int .i64 (k : Int)) ∧ u.cell? ⟨b7, o7 + i, none⟩ = some (.slice (some ⟨bi, oi, none⟩) li ci2) ∧ z.heap.size ≤ u.heap.size ∧ Below z.heap.size z u) → Below u.heap.size u u' → (u'.cell? ⟨w.heap.size, 0, none⟩ = some (.slice (some ⟨bz, oz, none⟩) n c) ∧ u'.cell? ⟨g11, o11 + x, none⟩ = some (.int .i64 (k : Int)) ∧ u'.cell? ⟨b7, o7 + i, none⟩ = some (.slice (some ⟨bi, oi, none⟩) li ci2) ∧ z.heap.size ≤ u'.heap.size ∧ Below z.heap.size z u')) := Lib.hid (fun u u' h hb => ⟨Rg.keep hb (Nat.lt_of_lt_of_le hlt h.2.2.2.1) h.1, Rg.keep hb (Nat.lt_of_lt_of_le hlt11 h.2.2.2.1) h.2.1, Rg.keep hb (Nat.lt_of_lt_of_le hlt7 h.2.2.2.1) h.2.2.1, Nat.le_trans h.2.2.2.1 hb.size, h.2.2.2.2.trans (hb.mono h.2.2.2.2.size)⟩)
          refine wp_region_held_drew (S := fun w' => w'.cell? ⟨w.heap.size, 0, none⟩ = some (.slice (some ⟨bz, oz, none⟩) n c) ∧ w'.cell? ⟨g11, o11 + x, none⟩ = some (.int .i64 (k : Int)) ∧ w'.cell? ⟨b7, o7 + i, none⟩ = some (.slice (some ⟨bi, oi, none⟩) li ci2) ∧ z.heap.size ≤ w'.heap.size ∧ Below z.heap.size z w') (by kernel_rfl) (HS.out _ _ hz (Below.drew (Below.refl _ _))) (fun hHeld => ?_)
          refine Rg.take (i := 0) (v := ?_) rfl (by kernel_rfl) (by kernel_rfl) (by kernel_rfl) (fun _ _ _ h => h) (Or.inl ⟨by kernel_rfl, ?_⟩) (by assumption) ?_
          rotate_left
          · ((intro w hSw; (try dsimp only at hSw); go_simp) <;> with_reducible rfl)
          try simp only [Act.put, List.setIfInBounds_toArray, List.set_cons_zero, List.set_cons_succ]
          refine Rg.take (i := 1) (v := ?_) rfl (by kernel_rfl) (by kernel_rfl) (by kernel_rfl) (fun _ _ _ h => h) (Or.inl ⟨by kernel_rfl, ?_⟩) (by assumption) ?_
          rotate_left
          · ((intro w hSw; (try dsimp only at hSw); go_simp) <;> with_reducible rfl)
          try simp only [Act.put, List.setIfInBounds_toArray, List.set_cons_zero, List.set_cons_succ]
          refine Rg.take (i := 2) (v := ?_) rfl (by kernel_rfl) (by kernel_rfl) (by kernel_rfl) (fun _ _ _ h => h) (Or.inl ⟨by kernel_rfl, ?_⟩) (by assumption) ?_
          rotate_left
          · ((intro w hSw; (try dsimp only at hSw); go_simp) <;> with_reducible rfl)
          try simp only [Act.put, List.setIfInBounds_toArray, List.set_cons_zero, List.set_cons_succ]
          refine Rg.take (i := 3) (v := ?_) rfl (by kernel_rfl) (by kernel_rfl) (by kernel_rfl) (fun _ _ _ h => h) (Or.inl ⟨by kernel_rfl, ?_⟩) (by assumption) ?_
          rotate_left
          · ((intro w hSw; (try dsimp only at hSw); go_simp) <;> with_reducible rfl)
          try simp only [Act.put, List.setIfInBounds_toArray, List.set_cons_zero, List.set_cons_succ]
          refine Rg.take (i := 4) (v := ?_) rfl (by kernel_rfl) (by kernel_rfl) (by kernel_rfl) (fun _ _ _ h => h) (Or.inl ⟨by kernel_rfl, ?_⟩) (by assumption) ?_
          rotate_left
          · ((intro w hSw; (try dsimp only at hSw); go_simp) <;> with_reducible rfl)
          try simp only [Act.put, List.setIfInBounds_toArray, List.set_cons_zero, List.set_cons_succ]
          refine Rg.take (i := 5) (v := ?_) rfl (by kernel_rfl) (by kernel_rfl) (by kernel_rfl) (fun _ _ _ h => h) (Or.inl ⟨by kernel_rfl, ?_⟩) (by assumption) ?_
          rotate_left
          · ((intro w hSw; (try dsimp only at hSw); go_simp) <;> with_reducible rfl)
          try simp only [Act.put, List.setIfInBounds_toArray, List.set_cons_zero, List.set_cons_succ]
          refine Rg.take (i := 6) (v := ?_) rfl (by kernel_rfl) (by kernel_rfl) (by kernel_rfl) (fun _ _ _ h => h) (Or.inl ⟨by kernel_rfl, ?_⟩) (by assumption) ?_
          rotate_left
          · ((intro w hSw; (try dsimp only at hSw); go_simp) <;> with_reducible rfl)
          try simp only [Act.put, List.setIfInBounds_toArray, List.set_cons_zero, List.set_cons_succ]
          refine Rg.take (i := 7) (v := ?_) rfl (by kernel_rfl) (by kernel_rfl) (by kernel_rfl) (fun _ _ _ h => h) (Or.inl ⟨by kernel_rfl, ?_⟩) (by assumption) ?_
          rotate_left
          · ((intro w hSw; (try dsimp only at hSw); go_simp) <;> with_reducible rfl)
          try simp only [Act.put, List.setIfInBounds_toArray, List.set_cons_zero, List.set_cons_succ]
          refine Rg.take (i := 8) (v := ?_) rfl (by kernel_rfl) (by kernel_rfl) (by kernel_rfl) (fun _ _ _ h => h) (Or.inl ⟨by kernel_rfl, ?_⟩) (by assumption) ?_
          rotate_left
          · ((intro w hSw; (try dsimp only at hSw); go_simp) <;> with_reducible rfl)
          try simp only [Act.put, List.setIfInBounds_toArray, List.set_cons_zero, List.set_cons_succ]
          refine Rg.take (i := 9) (v := ?_) rfl (by kernel_rfl) (by kernel_rfl) (by kernel_rfl) (fun _ _ _ h => h) (Or.inl ⟨by kernel_rfl, ?_⟩) (by assumption) ?_
          rotate_left
          · ((intro w hSw; (try dsimp only at hSw); go_simp) <;> with_reducible rfl)
          try simp only [Act.put, List.setIfInBounds_toArray, List.set_cons_zero, List.set_cons_succ]
          refine Rg.take (i := 10) (v := ?_) rfl (by kernel_rfl) (by kernel_rfl) (by kernel_rfl) (fun _ _ _ h => h) (Or.inl ⟨by kernel_rfl, ?_⟩) (by assumption) ?_
          rotate_left
          · ((intro w hSw; (try dsimp only at hSw); go_simp) <;> with_reducible rfl)
          try simp only [Act.put, List.setIfInBounds_toArray, List.set_cons_zero, List.set_cons_succ]
          refine Rg.take (i := 11) (v := ?_) rfl (by kernel_rfl) (by kernel_rfl) (by kernel_rfl) (fun _ _ _ h => h) (Or.inl ⟨by kernel_rfl, ?_⟩) (by assumption) ?_
          rotate_left
          · ((intro w hSw; (try dsimp only at hSw); go_simp) <;> with_reducible rfl)
          try simp only [Act.put, List.setIfInBounds_toArray, List.set_cons_zero, List.set_cons_succ]
          refine Rg.take (i := 12) (v := ?_) rfl (by kernel_rfl) (by kernel_rfl) (by kernel_rfl) (fun _ _ _ h => h) (Or.inl ⟨by kernel_rfl, ?_⟩) (by assumption) ?_
          rotate_left
          · ((intro w hSw; (try dsimp only at hSw); go_simp) <;> with_reducible rfl)
          try simp only [Act.put, List.setIfInBounds_toArray, List.set_cons_zero, List.set_cons_succ]
          refine Rg.take (i := 13) (v := ?_) rfl (by kernel_rfl) (by kernel_rfl) (by kernel_rfl) (fun _ _ _ h => h) (Or.inl ⟨by kernel_rfl, ?_⟩) (by assumption) ?_
          rotate_left
          · ((intro w hSw; (try dsimp only at hSw); go_simp) <;> with_reducible rfl)
          try simp only [Act.put, List.setIfInBounds_toArray, List.set_cons_zero, List.set_cons_succ]
          refine Rg.take (i := 14) (v := ?_) rfl (by kernel_rfl) (by kernel_rfl) (by kernel_rfl) (fun _ _ _ h => h) (Or.inl ⟨by kernel_rfl, ?_⟩) (by assumption) ?_
          rotate_left
          · ((intro w hSw; (try dsimp only at hSw); go_simp) <;> with_reducible rfl)
          try simp only [Act.put, List.setIfInBounds_toArray, List.set_cons_zero, List.set_cons_succ]
          refine Rg.take (i := 15) (v := ?_) rfl (by kernel_rfl) (by kernel_rfl) (by kernel_rfl) (fun _ _ _ h => h) (Or.inl ⟨by kernel_rfl, ?_⟩) (by assumption) ?_
          rotate_left
          · ((intro w hSw; (try dsimp only at hSw); go_simp) <;> with_reducible rfl)
          try simp only [Act.put, List.setIfInBounds_toArray, List.set_cons_zero, List.set_cons_succ]
          refine Rg.take (i := 16) (v := ?_) rfl (by kernel_rfl) (by kernel_rfl) (by kernel_rfl) (fun _ _ _ h => h) (Or.inl ⟨by kernel_rfl, ?_⟩) (by assumption) ?_
          rotate_left
          · ((intro w hSw; (try dsimp only at hSw); go_simp) <;> with_reducible rfl)
          try simp only [Act.put, List.setIfInBounds_toArray, List.set_cons_zero, List.set_cons_succ]
          refine Rg.take (i := 17) (v := ?_) rfl (by kernel_rfl) (by kernel_rfl) (by kernel_rfl) (fun _ _ _ h => h) (Or.inl ⟨by kernel_rfl, ?_⟩) (by assumption) ?_
          rotate_left
          · ((intro w hSw; (try dsimp only at hSw); go_simp) <;> with_reducible rfl)
          try simp only [Act.put, List.setIfInBounds_toArray, List.set_cons_zero, List.set_cons_succ]
          refine Rg.take (i := 18) (v := ?_) rfl (by kernel_rfl) (by kernel_rfl) (by kernel_rfl) (fun _ _ _ h => h) (Or.inl ⟨by kernel_rfl, ?_⟩) (by assumption) ?_
          rotate_left
          · ((intro w hSw; (try dsimp only at hSw); go_simp) <;> with_reducible rfl)
          try simp only [Act.put, List.setIfInBounds_toArray, List.set_cons_zero, List.set_cons_succ]
          refine Rg.take (i := 19) (v := ?_) rfl (by kernel_rfl) (by kernel_rfl) (by kernel_rfl) (fun _ _ _ h => h) (Or.inl ⟨by kernel_rfl, ?_⟩) (by assumption) ?_
          rotate_left
          · ((intro w hSw; (try dsimp only at hSw); go_simp) <;> with_reducible rfl)
          try simp only [Act.put, List.setIfInBounds_toArray, List.set_cons_zero, List.set_cons_succ]
          refine Rg.take (i := 20) (v := ?_) rfl (by kernel_rfl) (by kernel_rfl) (by kernel_rfl) (fun _ _ _ h => h) (Or.inl ⟨by kernel_rfl, ?_⟩) (by assumption) ?_
          rotate_left
          · ((intro w hSw; (try dsimp only at hSw); go_simp) <;> with_reducible rfl)
          try simp only [Act.put, List.setIfInBounds_toArray, List.set_cons_zero, List.set_cons_succ]
          refine Rg.take (i := 21) (v := ?_) rfl (by kernel_rfl) (by kernel_rfl) (by kernel_rfl) (fun _ _ _ h => h) (Or.inl ⟨by kernel_rfl, ?_⟩) (by assumption) ?_
          rotate_left
          · ((intro w hSw; (try dsimp only at hSw); go_simp) <;> with_reducible rfl)
          try simp only [Act.put, List.setIfInBounds_toArray, List.set_cons_zero, List.set_cons_succ]
          refine Rg.take (i := 22) (v := ?_) rfl (by kernel_rfl) (by kernel_rfl) (by kernel_rfl) (fun _ _ _ h => h) (Or.inl ⟨by kernel_rfl, ?_⟩) (by assumption) ?_
          rotate_left
          · ((intro w hSw; (try dsimp only at hSw); go_simp) <;> with_reducible rfl)
          try simp only [Act.put, List.setIfInBounds_toArray, List.set_cons_zero, List.set_cons_succ]
          refine Rg.take (i := 23) (v := ?_) rfl (by kernel_rfl) (by kernel_rfl) (by kernel_rfl) (fun _ _ _ h => h) (Or.inl ⟨by kernel_rfl, ?_⟩) (by assumption) ?_
          rotate_left
          · ((intro w hSw; (try dsimp only at hSw); go_simp) <;> with_reducible rfl)
          try simp only [Act.put, List.setIfInBounds_toArray, List.set_cons_zero, List.set_cons_succ]
          refine Rg.take (i := 24) (v := ?_) rfl (by kernel_rfl) (by kernel_rfl) (by kernel_rfl) (fun _ _ _ h => h) (Or.inl ⟨by kernel_rfl, ?_⟩) (by assumption) ?_
          rotate_left
          · ((intro w hSw; (try dsimp only at hSw); go_simp) <;> with_reducible rfl)
          try simp only [Act.put, List.setIfInBounds_toArray, List.set_cons_zero, List.set_cons_succ]
          refine Rg.take (i := 25) (v := ?_) rfl (by kernel_rfl) (by kernel_rfl) (by kernel_rfl) (fun _ _ _ h => h) (Or.inl ⟨by kernel_rfl, ?_⟩) (by assumption) ?_
          rotate_left
          · ((intro w hSw; (try dsimp only at hSw); go_simp) <;> with_reducible rfl)
          try simp only [Act.put, List.setIfInBounds_toArray, List.set_cons_zero, List.set_cons_succ]
          refine Rg.take (i := 26) (v := ?_) rfl (by kernel_rfl) (by kernel_rfl) (by kernel_rfl) (fun _ _ _ h => h) (Or.inl ⟨by kernel_rfl, ?_⟩) (by assumption) ?_
          rotate_left
          · ((intro w hSw; (try dsimp only at hSw); go_simp) <;> with_reducible rfl)
          try simp only [Act.put, List.setIfInBounds_toArray, List.set_cons_zero, List.set_cons_succ]
          refine Rg.take (i := 27) (v := ?_) rfl (by kernel_rfl) (by kernel_rfl) (by kernel_rfl) (fun _ _ _ h => h) (Or.inl ⟨by kernel_rfl, ?_⟩) (by assumption) ?_
          rotate_left
          · ((intro w hSw; (try dsimp only at hSw); go_simp) <;> with_reducible rfl)
          try simp only [Act.put, List.setIfInBounds_toArray, List.set_cons_zero, List.set_cons_succ]
          refine Rg.take (i := 28) (v := ?_) rfl (by kernel_rfl) (by kernel_rfl) (by kernel_rfl) (fun _ _ _ h => h) (Or.inl ⟨by kernel_rfl, ?_⟩) (by assumption) ?_
          rotate_left
          · ((intro w hSw; (try dsimp only at hSw); go_simp) <;> with_reducible rfl)
          try simp only [Act.put, List.setIfInBounds_toArray, List.set_cons_zero, List.set_cons_succ]
          refine Rg.take (i := 29) (v := ?_) rfl (by kernel_rfl) (by kernel_rfl) (by kernel_rfl) (fun _ _ _ h => h) (Or.inl ⟨by kernel_rfl, ?_⟩) (by assumption) ?_
          rotate_left
          · ((intro w hSw; (try dsimp only at hSw); go_simp) <;> with_reducible rfl)
          try simp only [Act.put, List.setIfInBounds_toArray, List.set_cons_zero, List.set_cons_succ]
          refine Rg.take (i := 30) (v := ?_) rfl (by kernel_rfl) (by kernel_rfl) (by kernel_rfl) (fun _ _ _ h => h) (Or.inl ⟨by kernel_rfl, ?_⟩) (by assumption) ?_
          rotate_left
          · ((intro w hSw; (try dsimp only at hSw); go_simp) <;> with_reducible rfl)
          try simp only [Act.put, List.setIfInBounds_toArray, List.set_cons_zero, List.set_cons_succ]
          refine Rg.take (i := 31) (v := ?_) rfl (by kernel_rfl) (by kernel_rfl) (by kernel_rfl) (fun _ _ _ h => h) (Or.inl ⟨by kernel_rfl, ?_⟩) (by assumption) ?_
          rotate_left
          · ((intro w hSw; (try dsimp only at hSw); go_simp) <;> with_reducible rfl)
          try simp only [Act.put, List.setIfInBounds_toArray, List.set_cons_zero, List.set_cons_succ]
          refine Rg.take (i := 33) (v := ?_) rfl (by kernel_rfl) (by kernel_rfl) (by kernel_rfl) (fun _ _ _ h => h) (Or.inl ⟨by kernel_rfl, ?_⟩) (by assumption) ?_
          rotate_left
          · ((intro w hSw; (try dsimp only at hSw); go_simp) <;> with_reducible rfl)
          try simp only [Act.put, List.setIfInBounds_toArray, List.set_cons_zero, List.set_cons_succ]
          refine Rg.take (i := 34) (v := ?_) rfl (by kernel_rfl) (by kernel_rfl) (by kernel_rfl) (fun _ _ _ h => h) (Or.inl ⟨by kernel_rfl, ?_⟩) (by assumption) ?_
          rotate_left
          · ((intro w hSw; (try dsimp only at hSw); go_simp) <;> with_reducible rfl)
          try simp only [Act.put, List.setIfInBounds_toArray, List.set_cons_zero, List.set_cons_succ]
          refine Rg.take (i := 35) (v := ?_) rfl (by kernel_rfl) (by kernel_rfl) (by kernel_rfl) (fun _ _ _ h => h) (Or.inl ⟨by kernel_rfl, ?_⟩) (by assumption) ?_
          rotate_left
          · ((intro w hSw; (try dsimp only at hSw); go_simp) <;> with_reducible rfl)
          try simp only [Act.put, List.setIfInBounds_toArray, List.set_cons_zero, List.set_cons_succ]
          refine Rg.take (i := 36) (v := ?_) rfl (by kernel_rfl) (by kernel_rfl) (by kernel_rfl) (fun _ _ _ h => h) (Or.inl ⟨by kernel_rfl, ?_⟩) (by assumption) ?_
          rotate_left
          · ((intro w hSw; (try dsimp only at hSw); go_simp) <;> with_reducible rfl)
          try simp only [Act.put, List.setIfInBounds_toArray, List.set_cons_zero, List.set_cons_succ]
          refine Rg.one (i := 32) (by kernel_rfl) rfl (fun KK hK => ?_)
          rw [if_pos (by kernel_rfl)]
          go_simp
          ((with_reducible refine (C41.out _ hHeld.2.2.2.2).mono ?_); rintro e u1 ⟨v1, rfl, hb, ho⟩)
          rw [HGW.out] at ho
          obtain ⟨q41, d41, hv41, _, _, S41⟩ := own_SlI ho
          rw [HLI.out] at hv41
          subst hv41
          have hNew := HS.out _ _ hHeld hb
          have TI := Lib.hid (SlI.keep (KZZ.out _ _ hHeld.2.2.2.2 hb) SI.out)
          have CI := c18 q41 (some ⟨bi, oi, none⟩) (gl.getD i []) (gl.getD i []) d41 ci2 _ HLM.out HLM.out S41 TI
          rw [decide_eq_true rfl, HLI.out] at CI
          have CI := Lib.hid CI
          clear ho C41 S41 TI
          first | (refine hK.out _ _ hNew (fun _ => ?_)) | (go_wp2_with fail; refine hK.out _ _ hNew (fun _ => ?_))
          clear hK KK hHeld hb
          have hHeld := hNew
          clear hNew
          refine Rg.one (i := 37) (by kernel_rfl) rfl (fun KK hK => ?_)
          rw [if_pos (by kernel_rfl)]
          go_simp
          ((with_reducible refine (CI.out).mono ?_); rintro e u ⟨rfl, kd, rfl⟩)
          have hNew := HS.out _ _ hHeld (below_drewN (Below.refl _ _) kd)
          first | (refine hK.out _ _ hNew (fun _ => ?_)) | (go_wp2_with fail; refine hK.out _ _ hNew (fun _ => ?_))
          clear hK KK hHeld
          have hHeld := hNew
          clear hNew
          refine Rg.take (i := 38) (v := ?_) rfl (by kernel_rfl) (by kernel_rfl) (by kernel_rfl) (fun _ _ _ h => h) (Or.inl ⟨by kernel_rfl, ?_⟩) (by assumption) ?_
          rotate_left
          · ((intro w hSw; (try dsimp only at hSw); go_simp) <;> with_reducible rfl)
          try simp only [Act.put, List.setIfInBounds_toArray, List.set_cons_zero, List.set_cons_succ]
          refine Rg.take (i := 39) (v := ?_) rfl (by kernel_rfl) (by kernel_rfl) (by kernel_rfl) (fun _ _ _ h => h) (Or.inl ⟨by kernel_rfl, ?_⟩) (by assumption) ?_
          rotate_left
          · ((intro w hSw; (try dsimp only at hSw); go_simp) <;> with_reducible rfl)
          try simp only [Act.put, List.setIfInBounds_toArray, List.set_cons_zero, List.set_cons_succ]
          refine wpAnyH_done (by kernel_rfl) ?_ _
          have hY := hHeld.2.2.2.2
          have KY := KZ.keep hY
          have MY := Lib.hid (own_below MZ.out hY)
          have OY := Lib.hid (own_below OZ.out hY)
          have RY := Lib.hid (RZ.out.below hY)
          have cY := cells_of MY.out (j := e) eD (CL.out i k)
          have fY := MY.out.frozenAt e
          obtain ⟨b0, b1⟩ := CB.out i k e hiG eD
          obtain ⟨V, hV⟩ : ∃ V, (cn gl D i k).getD e 0 = V := ⟨_, rfl⟩
          rw [hV] at cY b0 b1 HCS
          have sY := Lib.hid (MY.out.stored e (.int .i64 (V + 1))).1
          rw [← List.map_set, HCS.out] at sY
          have eD2 : (e : Int) < D := by omega
          clear hHeld hY MZ OZ RZ KZ hz hV
          go_wp2
          go_roundw
          case rel => exact ⟨k + 1, by go_num, by omega, KY.store g6w, sY, Lib.hid (ownsRow_setCell_below OY.out (by show g < B; omega) _), Lib.hid (rows_setCell RY.out (by show g < B; omega) _)⟩
          case measure => simp [intOf]; omega
        · obtain rfl : k = li := by omega
          have HN2 := Lib.hid (CX.out i k hiG (by rw [HLI.out]))
          rw [HN2.out] at hM
          clear hSi
          go_wp2
          go_roundw
          case rel => exact ⟨i + 1, by go_num, by omega, KK, hM, hO, hR⟩
          case measure => simp [intOf]; omega
    · obtain rfl : i = G := by omega
      have KB := KK.1
      have CY : Hid (∀ j, j < D → wr.cell? ⟨g, j, none⟩ = some (.int .i64 1)) := Lib.hid fun j hj => by
        have h := cells_of hM.out hj (CL.out i 0)
        rw [CE.out i j GLn.out.symm (by omega)] at h
        exact h
      clear hM hO hR KK
      go_wp2
      go_loop [13] (fun t => ∃ (j : Nat), t = .int .i64 j ∧ j ≤ D) (fun t => D - (intOf t).toNat)
      case atStart => exact ⟨0, rfl, by omega⟩
      case round =>
        obtain ⟨j, rfl, hj⟩ := hrel
        have j0 : (0 : Int) ≤ j := by omega
        by_cases hjD : j < D
        · have hc := CY.out j hjD
          have j1 : (j : Int) < D := by omega
          go_wp2
          go_round
          case rel => exact ⟨j + 1, by go_num, by omega⟩
          case measure => simp [intOf]; omega
        · go_wp2_with (go_at_call 32; refine (EX.out _).mono ?_; rintro e w6 ⟨rfl, hb⟩)
          go_ret
          exact ⟨rfl, KB.trans (hb.mono KB.size)⟩
theorem law12 (p : Option Addr) (zs : List Int) (c : Nat) (a0 : Int) (w : World) (hc : zs.length ≤ c) (hc' : c ≤ maxLen) (RA : Hid (SlI w p zs)) (ha : 0 ≤ a0 ∧ a0 ≤ 255) :
    Calls Try.prog 12 #[.agg #[.slice p zs.length c], .int .u8 a0] w (Ret (.bool true) w) := by
  by_cases h : mok zs = true
  · exact law12_ok p zs c a0 w RA h ha.1 ha.2
  · exact law12_out p zs c a0 w (Nat.le_trans hc hc') RA h
end Go.Proofs.Ytjpcpdaokgkaoaa.Sh
