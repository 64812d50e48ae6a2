/- free of the reference. -/
import Derived.Test.YtndmpoomdoojpaaRows
import Derived.WalkKit
import Derived.ProofKit
import Derived.OpenShut
import Derived.WalkLawsBesides
import Derived.WalkSpells
import Derived.Outline
import Derived.Handy
import Derived.IntWalk
import Derived.Deep.QuietTactic
import Derived.BigQuiet
import Derived.Lib.Hide
import Derived.Deep.CutRange
import Derived.Test.YtndmpoomdoojpaaKD4
namespace Go.Proofs.Ytndmpoomdoojpaa.Ck.Sr
open Go.ChangeShapes Go.WideShapes Go.ChangeAt Go.RowKit Go.Proofs.Ytndmpoomdoojpaa.Ck Go.Proofs.Ytndmpoomdoojpaa.Ck.Bf
set_option linter.unusedVariables false


theorem DO.yes {S base : Nat} {now left : Int} {v : Value} {now' left' : Int} {s' : List Int} {w : World} {e : Ending} {w' : World} (h : DO S base true now left v now' left' s' w e w') : Below w.heap.size w w' ∧ ∃ qv cv, e = .returned (.tuple #[.agg #[.int .i64 now', .int .i64 left', .slice qv S cv], .bool true]) ∧ w'.ownsRow base 3 1 (.slice qv S cv) S (s'.map (Value.int .i64)) := by
  obtain ⟨h1, ⟨h2, _⟩ | ⟨_, v', h3, h4⟩⟩ := h
  · cases h2
  · obtain ⟨qv, cv, rfl, -⟩ := own_sl h4
    exact ⟨h1, qv, cv, h3, h4⟩
theorem DO.no {S base : Nat} {now left : Int} {v : Value} {now' left' : Int} {s' : List Int} {w : World} {e : Ending} {w' : World} (h : DO S base false now left v now' left' s' w e w') : Below w.heap.size w w' ∧ e = .returned (.tuple #[.agg #[.int .i64 now, .int .i64 left, v], .bool false]) := by
  obtain ⟨h1, ⟨_, h3⟩ | ⟨h2, _⟩⟩ := h
  · exact ⟨h1, h3⟩
  · cases h2
theorem set_gx (w : World) (b o : Nat) (u : Value) : w.grownBy (w.setCell ⟨b, o, none⟩ u) (some b) := ⟨rfl, rfl, rfl, by simp, fun k _ hk => heap_setCell_other w ⟨b, o, none⟩ k u (fun e => hk (by simp [e]))⟩
theorem own_b3 {w : World} {base b : Nat} {n : Nat} {v x y z : Value} {xs : List Value} (h : w.ownsRow base 3 1 v n xs) (hB : B3 w b x y z) : v.ownBlock = none ∨ v.ownBlock ≠ some b := by
  rcases h.2 with ⟨rfl, _⟩ | ⟨g1, c1, u1, rfl, _, hh1, _⟩
  · exact .inl rfl
  · right
    intro e
    have e' : g1 = b := Option.some.inj e
    subst e'
    unfold B3 at hB
    rw [hh1] at hB
    have := Option.some.inj hB
    cases this
theorem own_b3s {w : World} {base b : Nat} {n : Nat} {v x y z x' y' z' : Value} {xs : List Value} (h : w.ownsRow base 3 1 v n xs) (hB : B3 w b x y z) : (((w.setCell ⟨b, 0, none⟩ x').setCell ⟨b, 1, none⟩ y').setCell ⟨b, 2, none⟩ z').ownsRow base 3 1 v n xs := ((h.kept (set_gx _ _ _ _) (own_b3 h hB)).kept (set_gx _ _ _ _) (own_b3 h hB)).kept (set_gx _ _ _ _) (own_b3 h hB)
theorem b3_set {w : World} {b : Nat} {x y z : Value} (h : B3 w b x y z) (x' y' z' : Value) : B3 (((w.setCell ⟨b, 0, none⟩ x').setCell ⟨b, 1, none⟩ y').setCell ⟨b, 2, none⟩ z') b x' y' z' := ((h.s0 x').s1 y').s2 z'
/-- What free answers. -/
def FA (N S base : Nat) (L : List (Sd × Value)) (v : Value) (w : World) (e : Ending) (w' : World) : Prop := ∃ q m c L', e = .returned (.slice q m c) ∧ L'.length = m ∧ m ≤ 1764 ∧ RowS S w' base (.slice q m c) L' ∧ Fr N S (L.map (·.1)) (L'.map (·.1)) ∧ (∀ x ∈ L'.map (·.1), WfS N S x) ∧ w.grownBy w' v.ownBlock ∧ Nw w.heap.size v (.slice q m c)
/-- The list between two states. -/
structure OV (N S base : Nat) (L0 : List Sd) (w : World) (v0 : Value) (i : Nat) (L1 : List (Sd × Value)) (v1 : Value) (wr : World) : Prop where
  fv : Fv N S L0 (L1.map (·.1)) i
  ro : RowS S wr base v1 L1
  gr : w.grownBy wr v0.ownBlock
  nw : Nw w.heap.size v0 v1
theorem OV.fb {N S base : Nat} {L0 : List Sd} {w : World} {v0 : Value} {i : Nat} {L1 : List (Sd × Value)} {v1 : Value} {wr : World} (h : OV N S base L0 w v0 i L1 v1 wr) {a l : Nat} {s : List Int} {qu : Option Addr} {cu : Nat} (hp : L1[i]? = some ((a, l, s), .slice qu S cu)) : FB N S base L0 w v0 i wr.heap.size a l s (.slice qu S cu) L1 v1 (wr.alloc (Obj.cells #[Value.int .i64 (a : Int), Value.int .i64 (l : Int), Value.slice qu S cu] 76)) := by
  have hb : Below wr.heap.size wr (wr.alloc (Obj.cells #[Value.int .i64 (a : Int), Value.int .i64 (l : Int), Value.slice qu S cu] 76)) := (Below.refl _ _).alloc (Nat.le_refl _) _
  exact ⟨h.fv, h.ro.low hb, gx_trans h.gr (gx_below hb none) (.inr fun k e => by cases e), h.nw, fun e => by have := (h.ro.1.lt _ e).2; omega, by go_cell, by go_cell, by go_cell, own_low (h.ro.2 _ (List.mem_of_getElem? hp)) hb, by rw [List.getElem?_map, hp]; rfl⟩
theorem FB.ov {N S base : Nat} {L0 : List Sd} {w : World} {v0 : Value} {i b6 a l : Nat} {s : List Int} {u6 : Value} {L1 : List (Sd × Value)} {v1 : Value} {wr : World} (h : FB N S base L0 w v0 i b6 a l s u6 L1 v1 wr) (ha : ∀ u ∈ sb S (a, l, s), u ∈ L1.map (·.1)) : OV N S base L0 w v0 (i + 1) L1 v1 wr := ⟨h.fv.next h.me ha, h.ro, h.gr, h.nw⟩

set_option maxRecDepth 100000 in
set_option maxHeartbeats 4000000 in
theorem free2 (N S base : Nat) (L : List (Sd × Value)) (q : Option Addr) (m c : Nat) (w : World) (hN : N ≤ 5) (hS : S ≤ 2) (hb : base ≤ w.heap.size) (hm : L.length = m) (hR : Hid (RowS S w base (.slice q m c) L)) (hnd : (L.map (·.1)).Nodup) (hwf : ∀ x ∈ L.map (·.1), WfS N S x) :
    Calls Try.prog 50 #[.slice q m c, .int .i64 (N : Int)] w (FA N S base L (.slice q m c) w) := by
  obtain ⟨L0, hL0⟩ : ∃ x, L.map (·.1) = x := ⟨_, rfl⟩
  have HL0 := Lib.hid hL0
  rw [hL0] at hnd hwf
  obtain ⟨v0, hv0⟩ : ∃ x, Value.slice q m c = x := ⟨_, rfl⟩
  have fv0 := Fv.start hnd hwf
  have hm0 : m ≤ 1764 := by rw [← hm]; have := fv0.few hN hS; rw [← hL0, List.length_map] at this; exact this
  have HO0 : Hid (OV N S base L0 w v0 0 L (.slice q m c) w) := Lib.hid ⟨by rw [hL0]; exact fv0, hR.out, gx_refl _ _, by rw [hv0]; exact Nw.refl _ _⟩
  have HML := Lib.hid hm
  have HV0 := Lib.hid hv0
  have AD1 := Lib.hid fun (L : List (Sd × Value)) (q : Option Addr) (m c : Nat) (y : World) (a l : Nat) (s : List Int) (qv : Option Addr) (cv : Nat) (hR : RowS S y base (.slice q m c) L) (hm : L.length = m) (h9 : L.length ≤ 1764) (hb : base ≤ y.heap.size) (hU : y.ownsRow base 3 1 (.slice qv S cv) S (s.map (Value.int .i64))) => add1 S base L q m c a l s (.slice qv S cv) y (by omega) hb hm (by omega) (Lib.hid hR) (Lib.hid hU)
  unfold rv at AD1
  clear fv0 hm hR hnd hwf hL0 hv0
  go_enter Try.func50, Try.ntmps50
  go_upto_region 2 with fail
  go_loopw [0, 5] (fun lv iv wr => ∃ (i m c : Nat) (q : Option Addr) (L1 : List (Sd × Value)), lv = .slice q m c ∧ iv = .int .i64 (i : Int) ∧ i ≤ m ∧ m ≤ 1764 ∧ Hid (L1.length = m) ∧ Hid (OV N S base L0 w v0 i L1 (.slice q m c) wr)) (fun _ iv _ => 1764 - (intOf iv).toNat)
  case atStart => exact ⟨0, m, c, q, L, rfl, rfl, Nat.zero_le _, hm0, HML, HO0⟩
  case round =>
    clear HO0 HML hm0
    obtain ⟨i, m, c, q, L1, rfl, rfl, him0, hm4, HML, HO⟩ := hrel
    have hO1 := HO.out.ro.1
    rw [HML.out] at hO1
    by_cases him : i < m
    · have i2 : (i : Int) < m := by omega
      have i0 : (0 : Int) ≤ i := by omega
      obtain ⟨⟨⟨a, l, s⟩, u6⟩, hp⟩ : ∃ p, L1[i]? = some p := ⟨_, List.getElem?_eq_getElem (by rw [HML.out]; exact him)⟩
      have hu6 := HO.out.ro.2 _ (List.mem_of_getElem? hp)
      dsimp only at hu6
      obtain ⟨qu, cu, rfl, hqu⟩ := own_sl hu6
      obtain ⟨q9, c9, hv9, hg9⟩ := ownS_slice hO1
      cases hv9
      obtain ⟨g, rfl⟩ := hg9 (by omega)
      obtain ⟨f0, f1, f2⟩ := flS_get hp
      dsimp only at f0 f1 f2
      have y0 := (hO1.cellAt (i * 3) (by omega)).trans f0
      have y1 := (hO1.cellAt (i * 3 + 1) (by omega)).trans f1
      have y2 := (hO1.cellAt (i * 3 + 2) (by omega)).trans f2
      have hwx := HO.out.fv.wf (a, l, s) (List.mem_map.2 ⟨_, List.mem_of_getElem? hp, rfl⟩)
      have HF0 := Lib.hid (HO.out.fb hp)
      have HQU := Lib.hid hqu
      have HWX := Lib.hid hwx
      have ha : a ≤ N := hwx.1
      have hl : l ≤ N := hwx.2.1
      have hsl : s.length = S := hwx.2.2.1
      have HSB : Hid (∀ k, k < S → -1 ≤ s.getD k 0 ∧ s.getD k 0 ≤ N) := Lib.hid fun k hk => hwx.2.2.2 _ (getD_mem (show k < s.length by omega))
      have DS := Lib.hid fun (k : Nat) (hk : k < S) (y : World) h1 h2 => do_store N S base a l s (.slice qu S cu) y h2 hN hS ha hl hsl h1 k hk
      have DR := Lib.hid fun (k : Nat) (hk : k < S) (y : World) h1 h2 => do_rest N S base a l s (.slice qu S cu) y h2 hN hS ha hl hsl h1 k hk (HSB.out k hk).1
      have DZ := Lib.hid fun (y : World) h1 h2 => do_zero N S base a l s (.slice qu S cu) y h2 hN hS ha hl hsl h1
      have DV := Lib.hid fun (y : World) h1 h2 => do_rev N S base a l s (.slice qu S cu) y h2 hN hS ha hl hsl h1
      unfold rv at DS DR DZ DV
      clear hu6 hqu hg9 f0 f1 f2 hwx hp hO1
      go_upto_region 5 with fail
      clear y0 y1 y2
      generalize wr.alloc (Obj.cells #[Value.int .i64 (a : Int), Value.int .i64 (l : Int), Value.slice qu S cu] 76) = wb at *
      generalize wr.heap.size = b6 at *
      have HS0 : Hid (Sl (a, l, s) 0 (L1.map (·.1))) := Lib.hid fun j hj => absurd hj (Nat.not_lt_zero _)
      clear HO
      go_upto_region 6 with fail
      go_loopw [0, 7] (fun lv kv wr => ∃ (k m c : Nat) (q : Option Addr) (L1 : List (Sd × Value)), lv = .slice q m c ∧ kv = .int .i64 (k : Int) ∧ k ≤ S ∧ i < m ∧ m ≤ 1764 ∧ Hid (L1.length = m) ∧ Hid (Sl (a, l, s) k (L1.map (·.1))) ∧ Hid (FB N S base L0 w v0 i b6 a l s (.slice qu S cu) L1 (.slice q m c) wr)) (fun _ kv _ => S - (intOf kv).toNat)
      case atStart => exact ⟨0, m, c, some ⟨g, 0, none⟩, L1, rfl, rfl, Nat.zero_le _, him, hm4, HML, HS0, HF0⟩
      case round =>
        clear HS0 HF0 HML him hm4 him0
        obtain ⟨k, m, c, q, L1, rfl, rfl, hk0, him, hm4, HML, HSL, HF⟩ := hrel
        have b0 := HF.out.c0
        have b1 := HF.out.c1
        have b2 := HF.out.c2
        have ltb := World.block_lt_of_cell? _ _ b0
        by_cases hkS : k < S
        · have k2 : (k : Int) < S := by omega
          have k0 : (0 : Int) ≤ k := by omega
          have DSk := Lib.hid (DS.out k hkS)
          go_upto_region 11 with (first | (go_at_call 52; refine (DSk.out _ (Lib.hid HF.out.ou) (Nat.le_trans hb HF.out.gr.size)).mono ?_; rintro e wd hdo; obtain ⟨hbd, qv, cv, rfl, hov⟩ := DO.yes hdo; have FE := Lib.hid ((HF.out.low hbd).low ((Below.refl _ _).alloc (Nat.le_refl _) (Obj.cells #[Value.int .i64 (a : Int), Value.int .i64 (l : Int), Value.slice qv S cv] 76))); have OVE := Lib.hid (own_low hov ((Below.refl _ _).alloc (Nat.le_refl _) (Obj.cells #[Value.int .i64 (a : Int), Value.int .i64 (l : Int), Value.slice qv S cv] 76))); clear hdo hbd hov) | (go_at_call 53; refine (AD1.out _ _ _ _ _ a l (s.set k (a : Int)) qv cv FE.out.ro HML.out (FE.out.len hN hS) (Nat.le_trans hb FE.out.gr.size) OVE.out).mono ?_; rintro e wx ⟨q2, m2, c2, rfl, hml, hro, hgr, hnw⟩; have F2 := Lib.hid (FE.out.add (sb_store hkS) hro hgr hnw FE.out.gr.size); have HM2 := Lib.hid hml; clear hml hro hgr hnw FE OVE))
          have SL2 : Hid (Sl (a, l, s) k ((adV L1 (a, l, s.set k (a : Int)) (.slice qv S cv)).map (·.1))) := Lib.hid (by rw [adV_map]; exact HSL.out.up)
          have ST2 : Hid ((a, l, s.set k (a : Int)) ∈ (adV L1 (a, l, s.set k (a : Int)) (.slice qv S cv)).map (·.1)) := Lib.hid (by rw [adV_map]; exact adS_me)
          have M24 := F2.out.len hN hS
          rw [HM2.out] at M24
          have him2 : i < m2 := by
            have h := (List.getElem?_eq_some_iff.1 F2.out.me).1
            rw [List.length_map, HM2.out] at h
            exact h
          generalize adV L1 (a, l, s.set k (a : Int)) (.slice qv S cv) = L2 at *
          clear HF HSL HML DSk hm4 him
          by_cases hz : 0 ≤ s.getD k 0
          · obtain ⟨z, hzz⟩ : ∃ z : Nat, s.getD k 0 = (z : Int) := ⟨(s.getD k 0).toNat, by omega⟩
            have DRk := DR.out k hkS
            rw [hzz, decide_eq_true (show 0 ≤ (z : Int) by omega)] at DRk
            have CR : Hid (∀ y, Below wx.heap.size wx y → Calls Try.prog 52 #[.agg #[.int .i64 (a : Int), .int .i64 (l : Int), .slice qu S cu], .int .i64 (N : Int), .agg #[.int .i64 3, .int .i64 (z : Int), .int .i64 (k : Int)]] y fun e y' => Below y.heap.size y y' ∧ ∃ qv cv, e = .returned (.tuple #[.agg #[.int .i64 (z : Int), .int .i64 (l : Int), .slice qv S cv], .bool true]) ∧ y'.ownsRow base 3 1 (.slice qv S cv) S (s.map (Value.int .i64))) := Lib.hid fun y hy => (DRk y (Lib.hid (F2.out.low hy).ou) (Nat.le_trans hb (F2.out.low hy).gr.size)).mono fun _ _ h => h.yes
            clear DRk
            go_cut [10, 11] from 48 to 59 (fun p10 p11 wx => ∃ (b8 : Nat) (qv : Option Addr) (cv : Nat), p10 = .pointer (some ⟨b8, 0, none⟩) ∧ p11 = .bool true ∧ Hid (FB N S base L0 w v0 i b6 a l s (.slice qu S cu) L2 (.slice q2 m2 c2) wx) ∧ Hid (B3 wx b8 (.int .i64 (z : Int)) (.int .i64 (l : Int)) (.slice qv S cv)) ∧ Hid (wx.ownsRow base 3 1 (.slice qv S cv) S (s.map (Value.int .i64))))
            case first =>
              obtain ⟨gu, hgu⟩ := HQU.out (by omega)
              subst hgu
              have b0 := F2.out.c0
              have b1 := F2.out.c1
              have b2 := F2.out.c2
              have x9 := own_sl_get F2.out.ou hkS
              rw [hzz] at x9
              clear hzz hz
              have HS : Hid (∀ u u' : World, (u.cell? ⟨b6, 0, none⟩ = some (.int .i64 (a : Int)) ∧ u.cell? ⟨b6, 1, none⟩ = some (.int .i64 (l : Int)) ∧ u.cell? ⟨b6, 2, none⟩ = some (.slice (some ⟨gu, 0, none⟩) S cu) ∧ u.cell? ⟨gu, k, none⟩ = some (.int .i64 (z : Int)) ∧ Below wx.heap.size wx u) → Below u.heap.size u u' → (u'.cell? ⟨b6, 0, none⟩ = some (.int .i64 (a : Int)) ∧ u'.cell? ⟨b6, 1, none⟩ = some (.int .i64 (l : Int)) ∧ u'.cell? ⟨b6, 2, none⟩ = some (.slice (some ⟨gu, 0, none⟩) S cu) ∧ u'.cell? ⟨gu, k, none⟩ = some (.int .i64 (z : Int)) ∧ Below wx.heap.size wx u')) := Lib.hid (fun u u' h hb => ⟨Rg.keep hb (World.block_lt_of_cell? _ _ h.1) h.1, Rg.keep hb (World.block_lt_of_cell? _ _ h.2.1) h.2.1, Rg.keep hb (World.block_lt_of_cell? _ _ h.2.2.1) h.2.2.1, Rg.keep hb (World.block_lt_of_cell? _ _ h.2.2.2.1) h.2.2.2.1, h.2.2.2.2.trans (hb.mono h.2.2.2.2.size)⟩)
              refine Rk.begin (S := fun wS => wS.cell? ⟨b6, 0, none⟩ = some (.int .i64 (a : Int)) ∧ wS.cell? ⟨b6, 1, none⟩ = some (.int .i64 (l : Int)) ∧ wS.cell? ⟨b6, 2, none⟩ = some (.slice (some ⟨gu, 0, none⟩) S cu) ∧ wS.cell? ⟨gu, k, none⟩ = some (.int .i64 (z : Int)) ∧ Below wx.heap.size wx wS) 14 (by kernel_rfl) ⟨b0, b1, b2, x9, Below.drew (Below.refl _ _)⟩ (fun hHeld => ?_)
              refine Rk.take [14] (i := 0) (v := ?_) rfl (by kernel_rfl) (by kernel_rfl) (by kernel_rfl) (by kernel_rfl) (by kernel_rfl) (fun _ _ _ h => h) (Or.inl ⟨by kernel_rfl, ?_⟩) (by assumption) ?_
              rotate_left
              · ((intro w hSw; (try dsimp only at hSw); go_simp) <;> with_reducible rfl)
              try simp only [Act.put, List.setIfInBounds_toArray, List.set_cons_zero, List.set_cons_succ]
              refine Rk.takeP (i := 1) (v := ?_) rfl (by kernel_rfl) (by kernel_rfl) (by kernel_rfl) (by kernel_rfl) (fun _ _ _ h => h) (Or.inl ⟨by kernel_rfl, ?_⟩) (by assumption) ?_
              rotate_left
              · ((intro w hSw; go_simp) <;> with_reducible rfl)
              try simp only [Act.put, List.setIfInBounds_toArray, List.set_cons_zero, List.set_cons_succ]
              refine Rk.takeP (i := 2) (v := ?_) rfl (by kernel_rfl) (by kernel_rfl) (by kernel_rfl) (by kernel_rfl) (fun _ _ _ h => h) (Or.inl ⟨by kernel_rfl, ?_⟩) (by assumption) ?_
              rotate_left
              · ((intro w hSw; go_simp) <;> with_reducible rfl)
              try simp only [Act.put, List.setIfInBounds_toArray, List.set_cons_zero, List.set_cons_succ]
              refine Rk.take [14] (i := 3) (v := ?_) rfl (by kernel_rfl) (by kernel_rfl) (by kernel_rfl) (by kernel_rfl) (by kernel_rfl) (fun _ _ _ h => h) (Or.inl ⟨by kernel_rfl, ?_⟩) (by assumption) ?_
              rotate_left
              · ((intro w hSw; (try dsimp only at hSw); go_simp) <;> with_reducible rfl)
              try simp only [Act.put, List.setIfInBounds_toArray, List.set_cons_zero, List.set_cons_succ]
              refine Rk.takeP (i := 4) (v := ?_) rfl (by kernel_rfl) (by kernel_rfl) (by kernel_rfl) (by kernel_rfl) (fun _ _ _ h => h) (Or.inl ⟨by kernel_rfl, ?_⟩) (by assumption) ?_
              rotate_left
              · ((intro w hSw; go_simp) <;> with_reducible rfl)
              try simp only [Act.put, List.setIfInBounds_toArray, List.set_cons_zero, List.set_cons_succ]
              refine Rk.takeP (i := 5) (v := ?_) rfl (by kernel_rfl) (by kernel_rfl) (by kernel_rfl) (by kernel_rfl) (fun _ _ _ h => h) (Or.inl ⟨by kernel_rfl, ?_⟩) (by assumption) ?_
              rotate_left
              · ((intro w hSw; go_simp) <;> with_reducible rfl)
              try simp only [Act.put, List.setIfInBounds_toArray, List.set_cons_zero, List.set_cons_succ]
              refine Rk.take [14] (i := 6) (v := ?_) rfl (by kernel_rfl) (by kernel_rfl) (by kernel_rfl) (by kernel_rfl) (by kernel_rfl) (fun _ _ _ h => h) (Or.inl ⟨by kernel_rfl, ?_⟩) (by assumption) ?_
              rotate_left
              · ((intro w hSw; (try dsimp only at hSw); go_simp) <;> with_reducible rfl)
              try simp only [Act.put, List.setIfInBounds_toArray, List.set_cons_zero, List.set_cons_succ]
              refine Rk.takeP (i := 7) (v := ?_) rfl (by kernel_rfl) (by kernel_rfl) (by kernel_rfl) (by kernel_rfl) (fun _ _ _ h => h) (Or.inl ⟨by kernel_rfl, ?_⟩) (by assumption) ?_
              rotate_left
              · ((intro w hSw; go_simp) <;> with_reducible rfl)
              try simp only [Act.put, List.setIfInBounds_toArray, List.set_cons_zero, List.set_cons_succ]
              refine Rk.takeP (i := 8) (v := ?_) rfl (by kernel_rfl) (by kernel_rfl) (by kernel_rfl) (by kernel_rfl) (fun _ _ _ h => h) (Or.inl ⟨by kernel_rfl, ?_⟩) (by assumption) ?_
              rotate_left
              · ((intro w hSw; go_simp) <;> with_reducible rfl)
              try simp only [Act.put, List.setIfInBounds_toArray, List.set_cons_zero, List.set_cons_succ]
              refine Rk.two (i := 9) (j := 13) (by kernel_rfl) rfl rfl (fun KK hK => ?_) (fun KK hK => ?_)
              · rw [if_pos (by kernel_rfl)]
                go_simp
                ((with_reducible refine (CR.out _ (hHeld.2.2.2.2)).mono ?_); rintro e u7 ⟨hb, qv, cv, rfl, hov⟩)
                have hNew := HS.out _ _ hHeld hb
                have hs7 := (hNew.2.2.2.2).size
                first | (refine hK.out _ _ (fun _ => hNew) (fun _ => ?_)) | (refine hK.out _ _ hNew (fun _ => ?_)) | (go_wp2_with fail; refine hK.out _ _ hNew (fun _ => ?_))
                replace hHeld := hNew
                clear hNew hb
                clear hK KK
                refine Rk.takeP (i := 10) (v := ?_) rfl (by kernel_rfl) (by kernel_rfl) (by kernel_rfl) (by kernel_rfl) (fun _ _ _ h => h) (Or.inl ⟨by kernel_rfl, ?_⟩) (by assumption) ?_
                rotate_left
                · ((intro w hSw; go_simp) <;> with_reducible rfl)
                try simp only [Act.put, List.setIfInBounds_toArray, List.set_cons_zero, List.set_cons_succ]
                refine Rk.takeP (i := 11) (v := ?_) rfl (by kernel_rfl) (by kernel_rfl) (by kernel_rfl) (by kernel_rfl) (fun _ _ _ h => h) (Or.inl ⟨by kernel_rfl, ?_⟩) (by assumption) ?_
                rotate_left
                · ((intro w hSw; go_simp) <;> with_reducible rfl)
                try simp only [Act.put, List.setIfInBounds_toArray, List.set_cons_zero, List.set_cons_succ]
                refine Rk.takeP (i := 12) (v := ?_) rfl (by kernel_rfl) (by kernel_rfl) (by kernel_rfl) (by kernel_rfl) (fun _ _ _ h => h) (Or.inl ⟨by kernel_rfl, ?_⟩) (by assumption) ?_
                rotate_left
                · ((intro w hSw; go_simp) <;> with_reducible rfl)
                try simp only [Act.put, List.setIfInBounds_toArray, List.set_cons_zero, List.set_cons_succ]
                refine Rk.one (i := 13) (by kernel_rfl) rfl (fun KK hK => ?_)
                rw [if_pos (by kernel_rfl)]
                go_simp
                have hNew := HS.out _ _ hHeld ((Below.refl _ _).alloc (Nat.le_refl _) (Obj.cells #[Value.int .i64 0, Value.int .i64 0, Value.slice none 0 0] 76))
                have MB : B3 (u7.alloc (Obj.cells #[Value.int .i64 0, Value.int .i64 0, Value.slice none 0 0] 76)) u7.heap.size (.int .i64 0) (.int .i64 0) (.slice none 0 0) := B3.new
                replace hov := own_low hov ((Below.refl _ _).alloc (Nat.le_refl _) (Obj.cells #[Value.int .i64 0, Value.int .i64 0, Value.slice none 0 0] 76))
                refine hK.out _ _ hNew (fun _ => ?_)
                replace hHeld := hNew
                clear hNew
                clear hK KK
                refine Rk.tail [14, 15] [_, _] (by kernel_rfl) (by kernel_rfl) rfl (by decide) ?_
                obtain ⟨-, -, -, -, K8⟩ := hHeld
                have hnb : wx.heap.size ≤ u7.heap.size := by first | exact Nat.le_refl _ | exact hs7
                generalize hgz : (u7.alloc (Obj.cells #[Value.int .i64 0, Value.int .i64 0, Value.slice none 0 0] 76)) = gz at *
                have m0 := MB.c0
                have m1 := MB.c1
                have m2 := MB.c2
                have n0 := MB.fz 0
                have n1 := MB.fz 1
                have n2 := MB.fz 2
                have lm := MB.lt
                go_wp2_with fail
                go_meet
                exact ⟨u7.heap.size, qv, cv, rfl, rfl, Lib.hid (F2.out.low (((K8.setCell (p := ⟨u7.heap.size, 0, none⟩) hnb _).setCell (p := ⟨u7.heap.size, 1, none⟩) hnb _).setCell (p := ⟨u7.heap.size, 2, none⟩) hnb _)), Lib.hid (b3_set MB _ _ _), Lib.hid (own_b3s hov MB)⟩
              · rw [if_pos (by kernel_rfl)]
                go_simp
                have hNew := HS.out _ _ hHeld ((Below.refl _ _).alloc (Nat.le_refl _) (Obj.cells #[Value.int .i64 0, Value.int .i64 0, Value.slice none 0 0] 76))
                have MB : B3 ((wx.alloc (Obj.cells #[Value.int .i64 0, Value.int .i64 0, Value.slice none 0 0] 76)).drew) wx.heap.size (.int .i64 0) (.int .i64 0) (.slice none 0 0) := B3.new (w := wx)
                refine hK.out _ _ hNew (fun _ => ?_)
                replace hHeld := hNew
                clear hNew
                replace hHeld : (wx.alloc (Obj.cells #[Value.int .i64 0, Value.int .i64 0, Value.slice none 0 0] 76)).drew.cell? ⟨b6, 0, none⟩ = some (.int .i64 (a : Int)) ∧ (wx.alloc (Obj.cells #[Value.int .i64 0, Value.int .i64 0, Value.slice none 0 0] 76)).drew.cell? ⟨b6, 1, none⟩ = some (.int .i64 (l : Int)) ∧ (wx.alloc (Obj.cells #[Value.int .i64 0, Value.int .i64 0, Value.slice none 0 0] 76)).drew.cell? ⟨b6, 2, none⟩ = some (.slice (some ⟨gu, 0, none⟩) S cu) ∧ (wx.alloc (Obj.cells #[Value.int .i64 0, Value.int .i64 0, Value.slice none 0 0] 76)).drew.cell? ⟨gu, k, none⟩ = some (.int .i64 (z : Int)) ∧ Below wx.heap.size wx (wx.alloc (Obj.cells #[Value.int .i64 0, Value.int .i64 0, Value.slice none 0 0] 76)).drew := hHeld
                clear hK KK
                refine Rk.one (i := 9) (by kernel_rfl) rfl (fun KK hK => ?_)
                rw [if_pos (by kernel_rfl)]
                go_simp
                ((with_reducible refine (CR.out _ (hHeld.2.2.2.2)).mono ?_); rintro e u7 ⟨hb, qv, cv, rfl, hov⟩)
                have hNew := HS.out _ _ hHeld hb
                have hs7 := (hNew.2.2.2.2).size
                replace MB := MB.below hb
                first | (refine hK.out _ _ (fun _ => hNew) (fun _ => ?_)) | (refine hK.out _ _ hNew (fun _ => ?_)) | (go_wp2_with fail; refine hK.out _ _ hNew (fun _ => ?_))
                replace hHeld := hNew
                clear hNew hb
                clear hK KK
                refine Rk.takeP (i := 10) (v := ?_) rfl (by kernel_rfl) (by kernel_rfl) (by kernel_rfl) (by kernel_rfl) (fun _ _ _ h => h) (Or.inl ⟨by kernel_rfl, ?_⟩) (by assumption) ?_
                rotate_left
                · ((intro w hSw; go_simp) <;> with_reducible rfl)
                try simp only [Act.put, List.setIfInBounds_toArray, List.set_cons_zero, List.set_cons_succ]
                refine Rk.takeP (i := 11) (v := ?_) rfl (by kernel_rfl) (by kernel_rfl) (by kernel_rfl) (by kernel_rfl) (fun _ _ _ h => h) (Or.inl ⟨by kernel_rfl, ?_⟩) (by assumption) ?_
                rotate_left
                · ((intro w hSw; go_simp) <;> with_reducible rfl)
                try simp only [Act.put, List.setIfInBounds_toArray, List.set_cons_zero, List.set_cons_succ]
                refine Rk.takeP (i := 12) (v := ?_) rfl (by kernel_rfl) (by kernel_rfl) (by kernel_rfl) (by kernel_rfl) (fun _ _ _ h => h) (Or.inl ⟨by kernel_rfl, ?_⟩) (by assumption) ?_
                rotate_left
                · ((intro w hSw; go_simp) <;> with_reducible rfl)
                try simp only [Act.put, List.setIfInBounds_toArray, List.set_cons_zero, List.set_cons_succ]
                refine Rk.tail [14, 15] [_, _] (by kernel_rfl) (by kernel_rfl) rfl (by decide) ?_
                obtain ⟨-, -, -, -, K8⟩ := hHeld
                have hnb : wx.heap.size ≤ wx.heap.size := by first | exact Nat.le_refl _ | exact hs7
                have m0 := MB.c0
                have m1 := MB.c1
                have m2 := MB.c2
                have n0 := MB.fz 0
                have n1 := MB.fz 1
                have n2 := MB.fz 2
                have lm := MB.lt
                go_wp2_with fail
                go_meet
                exact ⟨wx.heap.size, qv, cv, rfl, rfl, Lib.hid (F2.out.low (((K8.setCell (p := ⟨wx.heap.size, 0, none⟩) hnb _).setCell (p := ⟨wx.heap.size, 1, none⟩) hnb _).setCell (p := ⟨wx.heap.size, 2, none⟩) hnb _)), Lib.hid (b3_set MB _ _ _), Lib.hid (own_b3s hov MB)⟩
            case rest =>
              obtain ⟨b8, qv2, cv2, rfl, rfl, FE, HB8, OVE⟩ := hcut
              clear F2
              have n0 := HB8.out.c0
              have n1 := HB8.out.c1
              have n2 := HB8.out.c2
              have ln := HB8.out.lt
              have HML := HM2
              go_upto_region 7 with (go_at_call 53; refine (AD1.out _ _ _ _ _ z l s qv2 cv2 FE.out.ro HML.out (FE.out.len hN hS) (Nat.le_trans hb FE.out.gr.size) OVE.out).mono ?_; rintro e wy ⟨q3, m3, c3, rfl, hml, hro, hgr, hnw⟩; have F3 := Lib.hid (FE.out.add (by have h := sb_rest (a := a) (l := l) (s := s) hkS hz; rw [hzz, Int.toNat_natCast] at h; exact h) hro hgr hnw FE.out.gr.size); have HM3 := Lib.hid hml; clear hml hro hgr hnw FE OVE)
              have SN : Hid (Sl (a, l, s) (k + 1) ((adV L2 (z, l, s) (.slice qv2 S cv2)).map (·.1))) := Lib.hid (by rw [adV_map]; exact SL2.out.up.next (adS_up ST2.out) (fun _ => by rw [hzz, Int.toNat_natCast]; exact adS_me))
              have M34 := F3.out.len hN hS
              rw [HM3.out] at M34
              have him3 : i < m3 := by
                have h := (List.getElem?_eq_some_iff.1 F3.out.me).1
                rw [List.length_map, HM3.out] at h
                exact h
              go_wp2_with fail
              go_roundw
              case rel => exact ⟨k + 1, m3, c3, q3, _, rfl, by simp, by omega, him3, M34, HM3, SN, F3⟩
              case measure => simp [intOf]; omega
          · have DRk := DR.out k hkS
            rw [decide_eq_false hz] at DRk
            have CR : Hid (∀ y, Below wx.heap.size wx y → Calls Try.prog 52 #[.agg #[.int .i64 (a : Int), .int .i64 (l : Int), .slice qu S cu], .int .i64 (N : Int), .agg #[.int .i64 3, .int .i64 (s.getD k 0), .int .i64 (k : Int)]] y fun e y' => Below y.heap.size y y' ∧ e = .returned (.tuple #[.agg #[.int .i64 (a : Int), .int .i64 (l : Int), .slice qu S cu], .bool false])) := Lib.hid fun y hy => (DRk y (Lib.hid (F2.out.low hy).ou) (Nat.le_trans hb (F2.out.low hy).gr.size)).mono fun _ _ h => h.no
            clear DRk
            go_cut [10, 11] from 48 to 59 (fun p10 p11 wx => p11 = .bool false ∧ Hid (FB N S base L0 w v0 i b6 a l s (.slice qu S cu) L2 (.slice q2 m2 c2) wx))
            case first =>
              obtain ⟨gu, hgu⟩ := HQU.out (by omega)
              subst hgu
              have b0 := F2.out.c0
              have b1 := F2.out.c1
              have b2 := F2.out.c2
              have x9 := own_sl_get F2.out.ou hkS
              obtain ⟨z9, hz9⟩ : ∃ z, s.getD k 0 = z := ⟨_, rfl⟩
              rw [hz9] at x9 CR
              clear hz9 hz
              have HS : Hid (∀ u u' : World, (u.cell? ⟨b6, 0, none⟩ = some (.int .i64 (a : Int)) ∧ u.cell? ⟨b6, 1, none⟩ = some (.int .i64 (l : Int)) ∧ u.cell? ⟨b6, 2, none⟩ = some (.slice (some ⟨gu, 0, none⟩) S cu) ∧ u.cell? ⟨gu, k, none⟩ = some (.int .i64 z9) ∧ Below wx.heap.size wx u) → Below u.heap.size u u' → (u'.cell? ⟨b6, 0, none⟩ = some (.int .i64 (a : Int)) ∧ u'.cell? ⟨b6, 1, none⟩ = some (.int .i64 (l : Int)) ∧ u'.cell? ⟨b6, 2, none⟩ = some (.slice (some ⟨gu, 0, none⟩) S cu) ∧ u'.cell? ⟨gu, k, none⟩ = some (.int .i64 z9) ∧ Below wx.heap.size wx u')) := Lib.hid (fun u u' h hb => ⟨Rg.keep hb (World.block_lt_of_cell? _ _ h.1) h.1, Rg.keep hb (World.block_lt_of_cell? _ _ h.2.1) h.2.1, Rg.keep hb (World.block_lt_of_cell? _ _ h.2.2.1) h.2.2.1, Rg.keep hb (World.block_lt_of_cell? _ _ h.2.2.2.1) h.2.2.2.1, h.2.2.2.2.trans (hb.mono h.2.2.2.2.size)⟩)
              refine Rk.begin (S := fun wS => wS.cell? ⟨b6, 0, none⟩ = some (.int .i64 (a : Int)) ∧ wS.cell? ⟨b6, 1, none⟩ = some (.int .i64 (l : Int)) ∧ wS.cell? ⟨b6, 2, none⟩ = some (.slice (some ⟨gu, 0, none⟩) S cu) ∧ wS.cell? ⟨gu, k, none⟩ = some (.int .i64 z9) ∧ Below wx.heap.size wx wS) 14 (by kernel_rfl) ⟨b0, b1, b2, x9, Below.drew (Below.refl _ _)⟩ (fun hHeld => ?_)
              refine Rk.take [14] (i := 0) (v := ?_) rfl (by kernel_rfl) (by kernel_rfl) (by kernel_rfl) (by kernel_rfl) (by kernel_rfl) (fun _ _ _ h => h) (Or.inl ⟨by kernel_rfl, ?_⟩) (by assumption) ?_
              rotate_left
              · ((intro w hSw; (try dsimp only at hSw); go_simp) <;> with_reducible rfl)
              try simp only [Act.put, List.setIfInBounds_toArray, List.set_cons_zero, List.set_cons_succ]
              refine Rk.takeP (i := 1) (v := ?_) rfl (by kernel_rfl) (by kernel_rfl) (by kernel_rfl) (by kernel_rfl) (fun _ _ _ h => h) (Or.inl ⟨by kernel_rfl, ?_⟩) (by assumption) ?_
              rotate_left
              · ((intro w hSw; go_simp) <;> with_reducible rfl)
              try simp only [Act.put, List.setIfInBounds_toArray, List.set_cons_zero, List.set_cons_succ]
              refine Rk.takeP (i := 2) (v := ?_) rfl (by kernel_rfl) (by kernel_rfl) (by kernel_rfl) (by kernel_rfl) (fun _ _ _ h => h) (Or.inl ⟨by kernel_rfl, ?_⟩) (by assumption) ?_
              rotate_left
              · ((intro w hSw; go_simp) <;> with_reducible rfl)
              try simp only [Act.put, List.setIfInBounds_toArray, List.set_cons_zero, List.set_cons_succ]
              refine Rk.take [14] (i := 3) (v := ?_) rfl (by kernel_rfl) (by kernel_rfl) (by kernel_rfl) (by kernel_rfl) (by kernel_rfl) (fun _ _ _ h => h) (Or.inl ⟨by kernel_rfl, ?_⟩) (by assumption) ?_
              rotate_left
              · ((intro w hSw; (try dsimp only at hSw); go_simp) <;> with_reducible rfl)
              try simp only [Act.put, List.setIfInBounds_toArray, List.set_cons_zero, List.set_cons_succ]
              refine Rk.takeP (i := 4) (v := ?_) rfl (by kernel_rfl) (by kernel_rfl) (by kernel_rfl) (by kernel_rfl) (fun _ _ _ h => h) (Or.inl ⟨by kernel_rfl, ?_⟩) (by assumption) ?_
              rotate_left
              · ((intro w hSw; go_simp) <;> with_reducible rfl)
              try simp only [Act.put, List.setIfInBounds_toArray, List.set_cons_zero, List.set_cons_succ]
              refine Rk.takeP (i := 5) (v := ?_) rfl (by kernel_rfl) (by kernel_rfl) (by kernel_rfl) (by kernel_rfl) (fun _ _ _ h => h) (Or.inl ⟨by kernel_rfl, ?_⟩) (by assumption) ?_
              rotate_left
              · ((intro w hSw; go_simp) <;> with_reducible rfl)
              try simp only [Act.put, List.setIfInBounds_toArray, List.set_cons_zero, List.set_cons_succ]
              refine Rk.take [14] (i := 6) (v := ?_) rfl (by kernel_rfl) (by kernel_rfl) (by kernel_rfl) (by kernel_rfl) (by kernel_rfl) (fun _ _ _ h => h) (Or.inl ⟨by kernel_rfl, ?_⟩) (by assumption) ?_
              rotate_left
              · ((intro w hSw; (try dsimp only at hSw); go_simp) <;> with_reducible rfl)
              try simp only [Act.put, List.setIfInBounds_toArray, List.set_cons_zero, List.set_cons_succ]
              refine Rk.takeP (i := 7) (v := ?_) rfl (by kernel_rfl) (by kernel_rfl) (by kernel_rfl) (by kernel_rfl) (fun _ _ _ h => h) (Or.inl ⟨by kernel_rfl, ?_⟩) (by assumption) ?_
              rotate_left
              · ((intro w hSw; go_simp) <;> with_reducible rfl)
              try simp only [Act.put, List.setIfInBounds_toArray, List.set_cons_zero, List.set_cons_succ]
              refine Rk.takeP (i := 8) (v := ?_) rfl (by kernel_rfl) (by kernel_rfl) (by kernel_rfl) (by kernel_rfl) (fun _ _ _ h => h) (Or.inl ⟨by kernel_rfl, ?_⟩) (by assumption) ?_
              rotate_left
              · ((intro w hSw; go_simp) <;> with_reducible rfl)
              try simp only [Act.put, List.setIfInBounds_toArray, List.set_cons_zero, List.set_cons_succ]
              refine Rk.two (i := 9) (j := 13) (by kernel_rfl) rfl rfl (fun KK hK => ?_) (fun KK hK => ?_)
              · rw [if_pos (by kernel_rfl)]
                go_simp
                ((with_reducible refine (CR.out _ (hHeld.2.2.2.2)).mono ?_); rintro e u7 ⟨hb, rfl⟩)
                have hNew := HS.out _ _ hHeld hb
                have hs7 := (hNew.2.2.2.2).size
                first | (refine hK.out _ _ (fun _ => hNew) (fun _ => ?_)) | (refine hK.out _ _ hNew (fun _ => ?_)) | (go_wp2_with fail; refine hK.out _ _ hNew (fun _ => ?_))
                replace hHeld := hNew
                clear hNew hb
                clear hK KK
                refine Rk.takeP (i := 10) (v := ?_) rfl (by kernel_rfl) (by kernel_rfl) (by kernel_rfl) (by kernel_rfl) (fun _ _ _ h => h) (Or.inl ⟨by kernel_rfl, ?_⟩) (by assumption) ?_
                rotate_left
                · ((intro w hSw; go_simp) <;> with_reducible rfl)
                try simp only [Act.put, List.setIfInBounds_toArray, List.set_cons_zero, List.set_cons_succ]
                refine Rk.takeP (i := 11) (v := ?_) rfl (by kernel_rfl) (by kernel_rfl) (by kernel_rfl) (by kernel_rfl) (fun _ _ _ h => h) (Or.inl ⟨by kernel_rfl, ?_⟩) (by assumption) ?_
                rotate_left
                · ((intro w hSw; go_simp) <;> with_reducible rfl)
                try simp only [Act.put, List.setIfInBounds_toArray, List.set_cons_zero, List.set_cons_succ]
                refine Rk.takeP (i := 12) (v := ?_) rfl (by kernel_rfl) (by kernel_rfl) (by kernel_rfl) (by kernel_rfl) (fun _ _ _ h => h) (Or.inl ⟨by kernel_rfl, ?_⟩) (by assumption) ?_
                rotate_left
                · ((intro w hSw; go_simp) <;> with_reducible rfl)
                try simp only [Act.put, List.setIfInBounds_toArray, List.set_cons_zero, List.set_cons_succ]
                refine Rk.one (i := 13) (by kernel_rfl) rfl (fun KK hK => ?_)
                rw [if_pos (by kernel_rfl)]
                go_simp
                have hNew := HS.out _ _ hHeld ((Below.refl _ _).alloc (Nat.le_refl _) (Obj.cells #[Value.int .i64 0, Value.int .i64 0, Value.slice none 0 0] 76))
                have MB : B3 (u7.alloc (Obj.cells #[Value.int .i64 0, Value.int .i64 0, Value.slice none 0 0] 76)) u7.heap.size (.int .i64 0) (.int .i64 0) (.slice none 0 0) := B3.new
                refine hK.out _ _ hNew (fun _ => ?_)
                replace hHeld := hNew
                clear hNew
                clear hK KK
                refine Rk.tail [14, 15] [_, _] (by kernel_rfl) (by kernel_rfl) rfl (by decide) ?_
                obtain ⟨-, -, -, -, K8⟩ := hHeld
                have hnb : wx.heap.size ≤ u7.heap.size := by first | exact Nat.le_refl _ | exact hs7
                generalize hgz : (u7.alloc (Obj.cells #[Value.int .i64 0, Value.int .i64 0, Value.slice none 0 0] 76)) = gz at *
                have m0 := MB.c0
                have m1 := MB.c1
                have m2 := MB.c2
                have n0 := MB.fz 0
                have n1 := MB.fz 1
                have n2 := MB.fz 2
                have lm := MB.lt
                go_wp2_with fail
                go_meet
                exact ⟨rfl, Lib.hid (F2.out.low (((K8.setCell (p := ⟨u7.heap.size, 0, none⟩) hnb _).setCell (p := ⟨u7.heap.size, 1, none⟩) hnb _).setCell (p := ⟨u7.heap.size, 2, none⟩) hnb _))⟩
              · rw [if_pos (by kernel_rfl)]
                go_simp
                have hNew := HS.out _ _ hHeld ((Below.refl _ _).alloc (Nat.le_refl _) (Obj.cells #[Value.int .i64 0, Value.int .i64 0, Value.slice none 0 0] 76))
                have MB : B3 ((wx.alloc (Obj.cells #[Value.int .i64 0, Value.int .i64 0, Value.slice none 0 0] 76)).drew) wx.heap.size (.int .i64 0) (.int .i64 0) (.slice none 0 0) := B3.new (w := wx)
                refine hK.out _ _ hNew (fun _ => ?_)
                replace hHeld := hNew
                clear hNew
                replace hHeld : (wx.alloc (Obj.cells #[Value.int .i64 0, Value.int .i64 0, Value.slice none 0 0] 76)).drew.cell? ⟨b6, 0, none⟩ = some (.int .i64 (a : Int)) ∧ (wx.alloc (Obj.cells #[Value.int .i64 0, Value.int .i64 0, Value.slice none 0 0] 76)).drew.cell? ⟨b6, 1, none⟩ = some (.int .i64 (l : Int)) ∧ (wx.alloc (Obj.cells #[Value.int .i64 0, Value.int .i64 0, Value.slice none 0 0] 76)).drew.cell? ⟨b6, 2, none⟩ = some (.slice (some ⟨gu, 0, none⟩) S cu) ∧ (wx.alloc (Obj.cells #[Value.int .i64 0, Value.int .i64 0, Value.slice none 0 0] 76)).drew.cell? ⟨gu, k, none⟩ = some (.int .i64 z9) ∧ Below wx.heap.size wx (wx.alloc (Obj.cells #[Value.int .i64 0, Value.int .i64 0, Value.slice none 0 0] 76)).drew := hHeld
                clear hK KK
                refine Rk.one (i := 9) (by kernel_rfl) rfl (fun KK hK => ?_)
                rw [if_pos (by kernel_rfl)]
                go_simp
                ((with_reducible refine (CR.out _ (hHeld.2.2.2.2)).mono ?_); rintro e u7 ⟨hb, rfl⟩)
                have hNew := HS.out _ _ hHeld hb
                have hs7 := (hNew.2.2.2.2).size
                replace MB := MB.below hb
                first | (refine hK.out _ _ (fun _ => hNew) (fun _ => ?_)) | (refine hK.out _ _ hNew (fun _ => ?_)) | (go_wp2_with fail; refine hK.out _ _ hNew (fun _ => ?_))
                replace hHeld := hNew
                clear hNew hb
                clear hK KK
                refine Rk.takeP (i := 10) (v := ?_) rfl (by kernel_rfl) (by kernel_rfl) (by kernel_rfl) (by kernel_rfl) (fun _ _ _ h => h) (Or.inl ⟨by kernel_rfl, ?_⟩) (by assumption) ?_
                rotate_left
                · ((intro w hSw; go_simp) <;> with_reducible rfl)
                try simp only [Act.put, List.setIfInBounds_toArray, List.set_cons_zero, List.set_cons_succ]
                refine Rk.takeP (i := 11) (v := ?_) rfl (by kernel_rfl) (by kernel_rfl) (by kernel_rfl) (by kernel_rfl) (fun _ _ _ h => h) (Or.inl ⟨by kernel_rfl, ?_⟩) (by assumption) ?_
                rotate_left
                · ((intro w hSw; go_simp) <;> with_reducible rfl)
                try simp only [Act.put, List.setIfInBounds_toArray, List.set_cons_zero, List.set_cons_succ]
                refine Rk.takeP (i := 12) (v := ?_) rfl (by kernel_rfl) (by kernel_rfl) (by kernel_rfl) (by kernel_rfl) (fun _ _ _ h => h) (Or.inl ⟨by kernel_rfl, ?_⟩) (by assumption) ?_
                rotate_left
                · ((intro w hSw; go_simp) <;> with_reducible rfl)
                try simp only [Act.put, List.setIfInBounds_toArray, List.set_cons_zero, List.set_cons_succ]
                refine Rk.tail [14, 15] [_, _] (by kernel_rfl) (by kernel_rfl) rfl (by decide) ?_
                obtain ⟨-, -, -, -, K8⟩ := hHeld
                have hnb : wx.heap.size ≤ wx.heap.size := by first | exact Nat.le_refl _ | exact hs7
                have m0 := MB.c0
                have m1 := MB.c1
                have m2 := MB.c2
                have n0 := MB.fz 0
                have n1 := MB.fz 1
                have n2 := MB.fz 2
                have lm := MB.lt
                go_wp2_with fail
                go_meet
                exact ⟨rfl, Lib.hid (F2.out.low (((K8.setCell (p := ⟨wx.heap.size, 0, none⟩) hnb _).setCell (p := ⟨wx.heap.size, 1, none⟩) hnb _).setCell (p := ⟨wx.heap.size, 2, none⟩) hnb _))⟩
            case rest =>
              obtain ⟨rfl, HF⟩ := hcut
              have SN : Hid (Sl (a, l, s) (k + 1) (L2.map (·.1))) := Lib.hid (SL2.out.next ST2.out (fun h => absurd h hz))
              go_wp2_with fail
              go_roundw
              case rel => exact ⟨k + 1, m2, c2, q2, L2, rfl, by simp, by omega, him2, M24, HM2, SN, HF⟩
              case measure => simp [intOf]; omega
        · obtain rfl : S = k := by omega
          have gN : decide ((S : Int) < S) = false := by simp
          have DZk := Lib.hid fun (y : World) h1 h2 => (DZ.out y h1 h2)
          have F0 := HF
          have HML0 := HML
          go_upto_region 16 with (first | (go_at_call 52; refine (DZk.out _ (Lib.hid HF.out.ou) (Nat.le_trans hb HF.out.gr.size)).mono ?_; rintro e wd hdo; obtain ⟨hbd, qv, cv, rfl, hov⟩ := DO.yes hdo; have FE := Lib.hid ((HF.out.low hbd).low ((Below.refl _ _).alloc (Nat.le_refl _) (Obj.cells #[Value.int .i64 0, Value.int .i64 (l : Int), Value.slice qv S cv] 76))); have OVE := Lib.hid (own_low hov ((Below.refl _ _).alloc (Nat.le_refl _) (Obj.cells #[Value.int .i64 0, Value.int .i64 (l : Int), Value.slice qv S cv] 76))); clear hdo hbd hov) | (go_at_call 53; refine (AD1.out _ _ _ _ _ 0 l s qv cv FE.out.ro HML.out (FE.out.len hN hS) (Nat.le_trans hb FE.out.gr.size) OVE.out).mono ?_; rintro e wx ⟨q2, m2, c2, rfl, hml, hro, hgr, hnw⟩; have F2 := Lib.hid (FE.out.add sb_zero hro hgr hnw FE.out.gr.size); have HM2 := Lib.hid hml; clear hml hro hgr hnw FE OVE))
          have SL2 : Hid (Sl (a, l, s) S ((adV L1 (0, l, s) (.slice qv S cv)).map (·.1))) := Lib.hid (by rw [adV_map]; exact HSL.out.up)
          have ST2 : Hid ((0, l, s) ∈ (adV L1 (0, l, s) (.slice qv S cv)).map (·.1)) := Lib.hid (by rw [adV_map]; exact adS_me)
          have M24 := F2.out.len hN hS
          rw [HM2.out] at M24
          have him2 : i < m2 := by
            have h := (List.getElem?_eq_some_iff.1 F2.out.me).1
            rw [List.length_map, HM2.out] at h
            exact h
          generalize adV L1 (0, l, s) (.slice qv S cv) = L2 at *
          clear HF HSL HML hm4 him F0 HML0 DZk
          have b0 := F2.out.c0
          have b1 := F2.out.c1
          have b2 := F2.out.c2
          clear gN
          have HML := HM2
          by_cases hal : a + 1 = l
          · obtain ⟨l1, hl1, hl2⟩ : ∃ l1 : Nat, (l : Int) - 1 = (l1 : Int) ∧ l - 1 = l1 := ⟨l - 1, by omega, rfl⟩
            have DV1 := DV.out
            rw [decide_eq_true hal, hl1] at DV1
            have DVk := Lib.hid DV1
            have HY : Hid ((a, l1, s) ∈ sb S (a, l, s)) := Lib.hid (by have h := sb_rev (S := S) (s := s) hal; rw [hl2] at h; exact h)
            have HAL := Lib.hid hal
            have HL2 := Lib.hid hl2
            clear DV1 hal hl1 hl2
            go_wp2_with (first | (go_at_call 52; refine (DVk.out _ (Lib.hid F2.out.ou) (Nat.le_trans hb F2.out.gr.size)).mono ?_; rintro e wd2 hdo; obtain ⟨hbd, qv2, cv2, rfl, hov⟩ := DO.yes hdo; have FE := Lib.hid ((F2.out.low hbd).low ((Below.refl _ _).alloc (Nat.le_refl _) (Obj.cells #[Value.int .i64 (a : Int), Value.int .i64 (l1 : Int), Value.slice qv2 S cv2] 76))); have OVE := Lib.hid (own_low hov ((Below.refl _ _).alloc (Nat.le_refl _) (Obj.cells #[Value.int .i64 (a : Int), Value.int .i64 (l1 : Int), Value.slice qv2 S cv2] 76))); clear hdo hbd hov) | (go_at_call 53; refine (AD1.out _ _ _ _ _ a l1 s qv2 cv2 FE.out.ro HML.out (FE.out.len hN hS) (Nat.le_trans hb FE.out.gr.size) OVE.out).mono ?_; rintro e wy ⟨q3, m3, c3, rfl, hml, hro, hgr, hnw⟩; have F3 := Lib.hid (FE.out.add HY.out hro hgr hnw FE.out.gr.size); have HM3 := Lib.hid hml; clear hml hro hgr hnw FE OVE))
            have M34 := F3.out.len hN hS
            rw [HM3.out] at M34
            have him3 : i < m3 := by
              have h := (List.getElem?_eq_some_iff.1 F3.out.me).1
              rw [List.length_map, HM3.out] at h
              exact h
            have HA : Hid (∀ u ∈ sb S (a, l, s), u ∈ (adV L2 (a, l1, s) (.slice qv2 S cv2)).map (·.1)) := Lib.hid (by
              rw [adV_map]
              exact SL2.out.up.all (adS_up ST2.out) (fun _ => by rw [HL2.out]; exact adS_me))
            go_roundw
            case rel => exact ⟨i + 1, m3, c3, q3, _, rfl, by simp, by omega, M34, HM3, Lib.hid (F3.out.ov HA.out)⟩
            case measure => simp [intOf]; omega
          · have DV1 := DV.out
            rw [decide_eq_false hal] at DV1
            have DVk := Lib.hid DV1
            have HA : Hid (∀ u ∈ sb S (a, l, s), u ∈ L2.map (·.1)) := Lib.hid (SL2.out.all ST2.out (fun h => absurd h hal))
            clear DV1 hal
            go_wp2_with (first | (go_at_call 52; refine (DVk.out _ (Lib.hid F2.out.ou) (Nat.le_trans hb F2.out.gr.size)).mono ?_; rintro e wd2 hdo; obtain ⟨hbd, rfl⟩ := DO.no hdo; have FE := Lib.hid ((F2.out.low hbd).low ((Below.refl _ _).alloc (Nat.le_refl _) (Obj.cells #[Value.int .i64 (a : Int), Value.int .i64 (l : Int), Value.slice qu S cu] 76))); clear hdo hbd))
            go_roundw
            case rel => exact ⟨i + 1, m2, c2, q2, L2, rfl, by simp, by omega, M24, HM2, Lib.hid (FE.out.ov HA.out)⟩
            case measure => simp [intOf]; omega
    · obtain rfl : i = m := by omega
      have gN : decide ((i : Int) < i) = false := by simp
      go_wp2_with fail
      go_ret
      have hfr := HO.out.fv
      have hlm : (L1.map (·.1)).length = i := by rw [List.length_map, HML.out]
      have hfd : Fv N S L0 (L1.map (·.1)) (L1.map (·.1)).length := by rw [hlm]; exact hfr
      exact ⟨_, i, _, L1, rfl, HML.out, hm4, HO.out.ro, by rw [HL0.out]; exact hfd.done, hfr.wf, by rw [HV0.out]; exact HO.out.gr, by rw [HV0.out]; exact HO.out.nw⟩
end Go.Proofs.Ytndmpoomdoojpaa.Ck.Sr
