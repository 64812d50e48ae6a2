/- Specs: local. -/
import Derived.Test.YtndmpoomdoojpaaS7
import Derived.RegionTactic
import Derived.ChangeAlike
import Derived.BigRegion
import Derived.Deep.AppendLies
namespace Go.Proofs.Ytndmpoomdoojpaa.Sh
open Go.ChangeShapes Go.WideShapes Go.ChangeAt Go.RowKit
set_option linter.unusedVariables false
set_option linter.unusedSimpArgs false
theorem own_slice {u : World} {base : Nat} {E : TypeId} {sz n : Nat} {v : Value} {xs : List Value} (h : u.ownsRow base E sz v n xs) : ∃ q c, v = .slice q n c := by
  obtain ⟨_, ⟨rfl, rfl⟩ | ⟨g, cap, cur, rfl, _⟩⟩ := h
  · exact ⟨_, _, rfl⟩
  · exact ⟨_, _, rfl⟩
theorem hV_zero {ms zs ss : List Int} (h : hV ms zs ss = 0) : mok ms = true ∧ vE zs = 0 ∧ ss.length = zs.length ∧ plB ms.length ss = true ∧ ∀ j, j < ss.length → sb ms zs ss j = false := by
  unfold hV at h
  by_cases h1 : mok ms = true
  · rw [if_pos h1] at h
    by_cases h2 : vE zs = 0
    · rw [if_pos h2] at h
      by_cases h3 : ss.length = zs.length ∧ plB ms.length ss = true
      · rw [if_pos h3] at h
        by_cases h4 : (List.range ss.length).any (sb ms zs ss) = true
        · rw [if_pos h4] at h; omega
        · rw [Bool.not_eq_true, List.any_eq_false] at h4
          exact ⟨h1, h2, h3.1, h3.2, fun j hj => by simpa using h4 j (List.mem_range.2 hj)⟩
      · rw [if_neg h3] at h; omega
    · rw [if_neg h2] at h; exact absurd h h2
  · rw [if_neg h1] at h; omega
theorem zel {zs : List Int} (h : vE zs = 0) {k : Nat} (hk : k < zs.length) : 1 ≤ zs.getD k 0 ∧ zs.getD k 0 ≤ 4096 := by
  obtain ⟨_, hl, _, _, hd⟩ := valid_of h
  have h1 := pos_of hl hk
  have h3 := hd k
  rw [drop_cons hk] at h3
  change 1 ≤ sp (zs.drop (k + 1)) * zs.getD k 0 ∧ sp (zs.drop (k + 1)) * zs.getD k 0 ≤ 4096 at h3
  have := Int.mul_le_mul_of_nonneg_right (sp_pos (any_drop hl (k + 1))) (by omega : 0 ≤ zs.getD k 0)
  omega
def lv (ms zs ss : List Int) (i : Nat) : Int := if 0 ≤ ss.getD i 0 then zs.getD i 0 / ms.getD (ss.getD i 0).toNat 0 else zs.getD i 0
def ls (ms zs ss : List Int) : List Int := (List.range zs.length).map (lv ms zs ss)
theorem ls_length (ms zs ss : List Int) : (ls ms zs ss).length = zs.length := by unfold ls; simp
theorem ls_get {ms zs ss : List Int} {k : Nat} (h : k < zs.length) : (ls ms zs ss).getD k 0 = lv ms zs ss k := by
  unfold ls
  rw [List.getD_eq_getElem?_getD]
  simp [h]
theorem lv_bd {ms zs ss : List Int} (h : hV ms zs ss = 0) {k : Nat} (hk : k < zs.length) : 0 ≤ lv ms zs ss k ∧ lv ms zs ss k ≤ 4096 := by
  obtain ⟨h1, h2, h3, h4, h5⟩ := hV_zero h
  have hz := zel h2 hk
  unfold lv
  by_cases h0 : 0 ≤ ss.getD k 0
  · rw [if_pos h0]
    have hr := okAt_rg (plB_at h4 (show k < ss.length by omega))
    have hm := mok_el h1 (k := (ss.getD k 0).toNat) (by omega)
    exact ⟨Int.ediv_nonneg (by omega) (by omega), Int.le_trans (Int.ediv_le_self _ (by omega)) hz.2⟩
  · rw [if_neg h0]; omega
set_option maxRecDepth 100000 in
set_option maxHeartbeats 16000000 in
theorem local1 (n : Nat) (p p2 q : Option Addr) (ms zs ss : List Int) (c c2 d : Nat) (w : World) (HV : Hid (hV ms zs ss = 0)) (HZl : Hid (zs.length = n)) (HSl : Hid (ss.length = n)) (RM : Hid (SlI w p ms)) (RZ : Hid (SlI w p2 zs)) (RS : Hid (SlI w q ss)) :
    Calls Try.prog 56 #[.agg #[.slice p ms.length c], .slice p2 n c2, .slice q n d] w (OW (ls ms zs ss) w) := by
  have HX := Lib.hid (hV_zero HV.out)
  have hn : n ≤ 6 := by have := (valid_of HX.out.2.1).1; rw [HZl.out] at this; exact this
  have hm3 : ms.length ≤ 3 := (mok_facts HX.out.1).2.1
  have BA := (Below.refl w.heap.size w).alloc (Nat.le_refl _) (Obj.cells #[Value.slice p ms.length c] 48)
  have hbx : (w.alloc (Obj.cells #[Value.slice p ms.length c] 48)).cell? ⟨w.heap.size, 0, none⟩ = some (.slice p ms.length c) := by go_cell
  have hlt0 : w.heap.size < (w.alloc (Obj.cells #[Value.slice p ms.length c] 48)).heap.size := by simp
  have CL := Lib.hid fun u (hu : Below w.heap.size w u) => c48g p2 zs c2 u (by rw [HZl.out]; unfold maxLen; omega) (by rw [HZl.out]; omega) (Lib.hid (SlI.keep hu RZ.out))
  rw [HZl.out] at CL
  have HBA := Lib.hid BA
  have HLT := Lib.hid hlt0
  clear BA hlt0
  go_enter Try.func56, Try.ntmps56
  go_wp2_with fail
  generalize w.alloc (Obj.cells #[Value.slice p ms.length c] 48) = wb at *
  refine (CL.out wb HBA.out).mono ?_
  rintro e w1 ⟨v, rfl, hb1, ho1⟩
  have K1 := Lib.hid (HBA.out.trans (hb1.mono HBA.out.size))
  have hbx1 : w1.cell? ⟨w.heap.size, 0, none⟩ = some (.slice p ms.length c) := (hb1.cell (p := ⟨w.heap.size, 0, none⟩) HLT.out).trans hbx
  have HO1 := Lib.hid ho1
  rw [HZl.out] at HO1
  clear ho1 hbx hb1 CL
  obtain ⟨q', c', rfl⟩ := own_slice HO1.out
  go_wp2_with fail
  go_loopw [14] (fun i wr => ∃ (k : Nat) (xs : List Int), i = .int .i64 k ∧ k ≤ n ∧ Hid (Below w.heap.size w wr) ∧ wr.cell? ⟨w.heap.size, 0, none⟩ = some (.slice p ms.length c) ∧ Hid (wr.ownsRow wb.heap.size 3 1 (.slice q' n c') n (xs.map (Value.int .i64))) ∧ Hid (xs.length = n) ∧ Hid (∀ j, j < n → xs.getD j 0 = if j < k then lv ms zs ss j else zs.getD j 0)) (fun i _ => n - (intOf i).toNat)
  case atStart => exact ⟨0, zs, rfl, by omega, K1, hbx1, HO1, HZl, Lib.hid fun j hj => by rw [if_neg (by omega)]⟩
  case round =>
    obtain ⟨k, xs, rfl, hk, HB, hbx2, HO, HL, HXS⟩ := hrel
    have k0 : (0 : Int) ≤ k := by omega
    by_cases hlt : k < n
    · obtain ⟨b, o, rfl, hc⟩ := SlI.keep HB.out RS.out k (by rw [HSl.out]; exact hlt)
      have hr := okAt_rg (plB_at HX.out.2.2.2.1 (show k < ss.length by rw [HSl.out]; exact hlt))
      have hz1 := zel HX.out.2.1 (show k < zs.length by rw [HZl.out]; exact hlt)
      obtain ⟨z, hz9⟩ : ∃ z, ss.getD k 0 = z := ⟨_, rfl⟩
      obtain ⟨y, hy9⟩ : ∃ y, zs.getD k 0 = y := ⟨_, rfl⟩
      rw [hz9] at hc hr
      rw [hy9] at hz1
      have HZ := Lib.hid hz9
      have HY := Lib.hid hy9
      have k1 : (k : Int) < n := by omega
      obtain ⟨hr1, hr2, _⟩ := hr
      obtain ⟨y1, y2⟩ := hz1
      clear hz9 hy9
      by_cases h0 : 0 ≤ z
      · obtain ⟨m, rfl⟩ : ∃ m : Nat, (m : Int) = z := ⟨z.toNat, by omega⟩
        have hnl : m < ms.length := by omega
        obtain ⟨b3, o3, rfl, hc3⟩ := SlI.keep HB.out RM.out m hnl
        have hm1 := mok_el HX.out.1 hnl
        obtain ⟨x, hx9⟩ : ∃ x, ms.getD m 0 = x := ⟨_, rfl⟩
        rw [hx9] at hc3 hm1
        have HXX := Lib.hid hx9
        clear hx9
        obtain ⟨m1, m2⟩ := hm1
        have n0 : (0 : Int) ≤ m := by omega
        have x0 : ¬ x = 0 := by omega
        have xq : (x == 0) = false := beq_false_of_ne x0
        have y0 : 0 ≤ y := by omega
        obtain ⟨g, cap, e9, hgb, hgl⟩ := World.ownsRow.form HO.out (by omega)
        cases e9
        have oc := cells_of HO.out (j := k) (by omega) HL.out
        have hxk := HXS.out k hlt
        rw [if_neg (by omega), HY.out] at hxk
        rw [hxk] at oc
        have of := HO.out.frozenAt k
        have oS := Lib.hid (HO.out.stored k (.int .i64 (y / x))).1
        have hwb : w.heap.size < wb.heap.size := HLT.out
        have hg1 : g ≠ w.heap.size := by omega
        have HLV : Hid (lv ms zs ss k = y / x) := Lib.hid (by unfold lv; rw [HZ.out, if_pos n0, HY.out, Int.toNat_natCast, HXX.out])
        have hq0 : 0 ≤ y / x := Int.ediv_nonneg y0 (by omega)
        have hq1 : y / x ≤ y := Int.ediv_le_self x y0
        clear hxk
        go_wp2_with fail
        go_region
        all_goals
          go_wp2
          go_roundw
          case rel =>
            refine ⟨k + 1, xs.set k (y / x), by go_num, by omega, Lib.hid (Below.drew (Below.setCell HB.out (Nat.le_trans (Nat.le_of_lt hwb) hgb) _)), ?_, Lib.hid (World.ownsRow.drew (by rw [List.map_set]; exact oS.out)), Lib.hid (by rw [List.length_set]; exact HL.out), Lib.hid fun j hj => ?_⟩
            · rw [World.cell?_drew, World.cell?_setCell_far _ _ _ _ hg1]; exact hbx2
            · by_cases hjk : j = k
              · subst hjk
                rw [getD_at (by rw [List.length_set, HL.out]; exact hj), List.getElem_set_self, if_pos (by omega)]
                exact HLV.out.symm
              · rw [getD_at (by rw [List.length_set, HL.out]; exact hj), List.getElem_set_ne (by omega), ← getD_at (by rw [HL.out]; exact hj), HXS.out j hj]
                by_cases hj2 : j < k
                · rw [if_pos hj2, if_pos (by omega)]
                · rw [if_neg hj2, if_neg (by omega)]
          case measure => simp [intOf]; omega
      · have q3 : decide (0 ≤ z) = false := decide_eq_false h0
        have q4 : z < 0 := by omega
        have HLV : Hid (lv ms zs ss k = zs.getD k 0) := Lib.hid (by unfold lv; rw [HZ.out, if_neg h0])
        go_wp2
        go_roundw
        case rel =>
          refine ⟨k + 1, xs, by go_num, by omega, HB, hbx2, HO, HL, Lib.hid fun j hj => ?_⟩
          rw [HXS.out j hj]
          by_cases hj2 : j < k
          · rw [if_pos hj2, if_pos (by omega)]
          · by_cases hjk : j = k
            · rw [if_neg hj2, if_pos (by omega), hjk]; exact HLV.out.symm
            · rw [if_neg hj2, if_neg (by omega)]
        case measure => simp [intOf]; omega
    · have HE : Hid (xs = ls ms zs ss) := Lib.hid (by
        refine List.ext_getElem (by rw [ls_length, HL.out, HZl.out]) fun j h1 h2 => ?_
        have h := HXS.out j (by rw [← HL.out]; exact h1)
        rw [getD_at h1, if_pos (by rw [HL.out] at h1; omega)] at h
        rw [h, ← getD_at h2, ls_get (by rw [HZl.out, ← HL.out]; exact h1)])
      have k1 : ¬ (k : Int) < n := by omega
      go_wp2
      go_ret
      refine ⟨_, rfl, HB.out, ?_⟩
      rw [← HE.out, HL.out]
      exact HO.out.mono (Nat.le_of_lt HLT.out)
def QW (l : List Int) (t : Int) (w : World) (e : Ending) (w' : World) : Prop := ∃ v, e = .returned (.tuple #[v, .int .i64 t]) ∧ Below w.heap.size w w' ∧ w'.ownsRow w.heap.size 3 1 v l.length (l.map (Value.int .i64))
def lsv (ms zs ss : List Int) : List Int := if hV ms zs ss = 0 then ls ms zs ss else []
set_option maxRecDepth 100000 in
set_option maxHeartbeats 16000000 in
theorem lshape1 (p p2 q : Option Addr) (ms zs ss : List Int) (c c2 d : Nat) (w : World) (hm : ms.length ≤ maxLen) (hz : zs.length ≤ maxLen) (hn : ss.length ≤ maxLen) (hd : ss.length ≤ d) (RM : Hid (SlI w p ms)) (RZ : Hid (SlI w p2 zs)) (RS : Hid (SlI w q ss)) :
    Calls Try.prog 34 #[.agg #[.slice p ms.length c], .slice p2 zs.length c2, .slice q ss.length d] w (QW (lsv ms zs ss) (hV ms zs ss) w) := by
  have BA := (Below.refl w.heap.size w).alloc (Nat.le_refl _) (Obj.cells #[Value.slice p ms.length c] 48)
  have hbx : (w.alloc (Obj.cells #[Value.slice p ms.length c] 48)).cell? ⟨w.heap.size, 0, none⟩ = some (.slice p ms.length c) := by go_cell
  have hlt0 : w.heap.size < (w.alloc (Obj.cells #[Value.slice p ms.length c] 48)).heap.size := by simp
  have CV := Lib.hid fun u (hu : Below w.heap.size w u) => valid1 p p2 q ms zs ss c c2 d u hm hz hn hd (Lib.hid (SlI.keep hu RM.out)) (Lib.hid (SlI.keep hu RZ.out)) (Lib.hid (SlI.keep hu RS.out))
  have HBA := Lib.hid BA
  have HLT := Lib.hid hlt0
  unfold maxLen at hm hz hn
  clear BA hlt0
  by_cases h : hV ms zs ss = 0
  · have CL := Lib.hid fun u (hu : Below w.heap.size w u) => local1 zs.length p p2 q ms zs ss c c2 d u (Lib.hid h) (Lib.hid rfl) (Lib.hid (hV_zero h).2.2.1) (Lib.hid (SlI.keep hu RM.out)) (Lib.hid (SlI.keep hu RZ.out)) (Lib.hid (SlI.keep hu RS.out))
    rw [show lsv ms zs ss = ls ms zs ss from if_pos h]
    rw [h] at CV ⊢
    have hlen := (hV_zero h).2.2.1
    rw [hlen] at CV ⊢
    clear h hlen
    go_enter Try.func34, Try.ntmps34
    go_wp2_with fail
    generalize w.alloc (Obj.cells #[Value.slice p ms.length c] 48) = wb at *
    refine (CV.out wb HBA.out).mono ?_
    rintro e w1 ⟨rfl, hb1⟩
    have K1 := Lib.hid (HBA.out.trans (hb1.mono HBA.out.size))
    have hbx1 : w1.cell? ⟨w.heap.size, 0, none⟩ = some (.slice p ms.length c) := (hb1.cell (p := ⟨w.heap.size, 0, none⟩) HLT.out).trans hbx
    clear hbx hb1 CV
    go_wp2_with fail
    refine (CL.out w1 K1.out).mono ?_
    rintro e w2 ⟨v, rfl, hb2, ho2⟩
    have K2 := Lib.hid (K1.out.trans (hb2.mono K1.out.size))
    have HO2 := Lib.hid (ho2.mono K1.out.size)
    clear hb2 ho2
    go_wp2
    exact bodyPost_ret (v := .tuple #[v, .int .i64 0]) (by simp [results, Try.results34, go_sem]) rfl ⟨v, rfl, K2.out, HO2.out⟩
  · rw [show lsv ms zs ss = [] from if_neg h]
    obtain ⟨V, hV9⟩ : ∃ V, hV ms zs ss = V := ⟨_, rfl⟩
    rw [hV9] at CV h ⊢
    have q6 : (V == 0) = false := beq_false_of_ne h
    clear hV9
    go_enter Try.func34, Try.ntmps34
    go_wp2_with fail
    generalize w.alloc (Obj.cells #[Value.slice p ms.length c] 48) = wb at *
    refine (CV.out wb HBA.out).mono ?_
    rintro e w1 ⟨rfl, hb1⟩
    have K1 := Lib.hid (HBA.out.trans (hb1.mono HBA.out.size))
    clear hbx hb1 CV
    go_wp2
    exact bodyPost_ret (v := .tuple #[.slice none 0 0, .int .i64 V]) (by simp [results, Try.results34, go_sem]) rfl ⟨_, rfl, K1.out, World.ownsRow_nil _ _ _ _⟩
end Go.Proofs.Ytndmpoomdoojpaa.Sh
