/- Specs: the reference's Origin. -/
import Derived.Test.YtndmpoomdoojpaaS13
namespace Go.Proofs.Ytndmpoomdoojpaa.Sh
open Go.ChangeShapes Go.WideShapes Go.ChangeAt Go.RowKit
set_option linter.unusedVariables false
set_option linter.unusedSimpArgs false
set_option maxRecDepth 100000 in
set_option maxHeartbeats 32000000 in
theorem rorigin1_ok (n : Nat) (p p2 q : Option Addr) (ms zs ss : List Int) (c c2 d : Nat) (a : Int) (w : World) (HV : Hid (hV ms zs ss = 0)) (HC : Hid (cB ms a = true)) (HZl : Hid (zs.length = n)) (HSl : Hid (ss.length = n)) (hd : n ≤ d) (RM : Hid (SlI w p ms)) (RZ : Hid (SlI w p2 zs)) (RS : Hid (SlI w q ss)) :
    Calls Try.prog 42 #[.agg #[.slice p ms.length c], .slice p2 n c2, .slice q n d, .int .i64 a] w (QW (osl ms zs ss a) 0 w) := by
  have HX := Lib.hid (hV_zero HV.out)
  have hn : n ≤ 6 := by have := (valid_of HX.out.2.1).1; rw [HZl.out] at this; exact this
  have hm3 : ms.length ≤ 3 := (mok_facts HX.out.1).2.1
  have hm : ms.length ≤ maxLen := by unfold maxLen; omega
  obtain ⟨i0, hi, hz0, hz1, hz2⟩ := info_parts info3
  have BA := (Below.refl w.heap.size w).alloc (Nat.le_refl _) (Obj.cells #[Value.slice p ms.length c] 48)
  have hbx : (w.alloc (Obj.cells #[Value.slice p ms.length c] 48)).cell? ⟨w.heap.size, 0, none⟩ = some (.slice p ms.length c) := by go_cell
  have hlt0 : w.heap.size < (w.alloc (Obj.cells #[Value.slice p ms.length c] 48)).heap.size := by simp
  have CV := Lib.hid fun u (hu : Below w.heap.size w u) => rlocal1 p p2 q ms zs ss c c2 d u hm (by rw [HZl.out]; unfold maxLen; omega) (by rw [HSl.out]; unfold maxLen; omega) (by rw [HSl.out]; exact hd) (Lib.hid (SlI.keep hu RM.out)) (Lib.hid (SlI.keep hu RZ.out)) (Lib.hid (SlI.keep hu RS.out))
  rw [HV.out, HZl.out, HSl.out] at CV
  rw [show lsv ms zs ss = ls ms zs ss from if_pos HV.out] at CV
  have CC := Lib.hid fun u (hu : Below w.heap.size w u) => c34 p ms c a u hm (Lib.hid (SlI.keep hu RM.out))
  rw [HC.out, cL_ok HC.out] at CC
  have HBA := Lib.hid BA
  have HLT := Lib.hid hlt0
  clear BA hlt0 hm
  go_enter Try.func42, Try.ntmps42
  go_wp2_with fail
  generalize w.alloc (Obj.cells #[Value.slice p ms.length c] 48) = wb at *
  refine (CV.out wb HBA.out).mono ?_
  rintro e w1 hq9
  obtain ⟨qb, cb, rfl, _, _, hb1, SB1⟩ := ret_lsv hq9
  clear hq9
  rw [ls_length, HZl.out]
  have K1 := Lib.hid (HBA.out.trans (hb1.mono HBA.out.size))
  have HLT1 := Lib.hid (Nat.lt_of_lt_of_le HLT.out hb1.size)
  have hbx1 : w1.cell? ⟨w.heap.size, 0, none⟩ = some (.slice p ms.length c) := (hb1.cell (p := ⟨w.heap.size, 0, none⟩) HLT.out).trans hbx
  clear hbx hb1 CV HBA HLT
  go_wp2_with fail
  refine (CC.out w1 K1.out).mono ?_
  rintro e w4 ⟨v, rfl, hb4, ho4⟩
  obtain ⟨qp, cp, rfl, _, _, SP⟩ := own_SlI ho4
  have K4 := Lib.hid (K1.out.trans (hb4.mono K1.out.size))
  have HLT4 := Lib.hid (Nat.lt_of_lt_of_le HLT1.out hb4.size)
  have hbx4 : w4.cell? ⟨w.heap.size, 0, none⟩ = some (.slice p ms.length c) := (hb4.cell (p := ⟨w.heap.size, 0, none⟩) HLT1.out).trans hbx1
  have SB := Lib.hid (SlI.keep hb4 SB1.out)
  rw [pt_length]
  clear hbx1 hb4 ho4 CC
  go_wp2_with (refine wpList_make_full _ rfl _ _ 34 rfl w4.heap.size 3 i0 (.int .i64 0) 1 Try.underlying34 hi hz0 hz1 .i64 .i64 _ _ n rfl rfl rfl rfl (by rw [hz2]; omega) (by unfold maxLen; omega) (Nat.le_refl _) ?_; intro w5 hown hg; have hB := below_own (Nat.le_refl _) hg; clear hg hi hz0 hz1 hz2 i0)
  have hown2 : Hid (w5.ownsRow w4.heap.size 3 1 (.slice (some ⟨w4.heap.size, 0, none⟩) n n) n ((List.replicate n (0 : Int)).map (Value.int .i64))) := Lib.hid (by
    have h := hown
    rw [show (Value.int IntKind.i64 0).cells = #[.int .i64 0] from rfl, toList_madeCells_one, Nat.mul_one] at h
    rw [List.map_replicate]
    exact h)
  have HB0 := Lib.hid hB
  clear hown hB
  go_loopw [15] (fun i wr => ∃ (k : Nat) (xs : List Int), i = .int .i64 k ∧ k ≤ n ∧ Hid (Below w4.heap.size w4 wr) ∧ Hid (wr.ownsRow w4.heap.size 3 1 (.slice (some ⟨w4.heap.size, 0, none⟩) n n) n (xs.map (Value.int .i64))) ∧ Hid (xs.length = n) ∧ Hid (∀ j, j < n → xs.getD j 0 = if j < k then og ms zs ss a j else 0)) (fun i _ => n - (intOf i).toNat)
  case atStart => exact ⟨0, _, rfl, by omega, HB0, hown2, Lib.hid (by simp), Lib.hid fun j hj => by rw [if_neg (by omega), getD_at (by simpa using hj)]; simp⟩
  case round =>
    obtain ⟨k, xs, rfl, hk, HB, HO, HL, HXS⟩ := hrel
    clear HB0 hown2
    have k0 : (0 : Int) ≤ k := by omega
    by_cases hlt : k < n
    · have K5 := Lib.hid (K4.out.trans (HB.out.mono K4.out.size))
      have hbx5 : wr.cell? ⟨w.heap.size, 0, none⟩ = some (.slice p ms.length c) := (HB.out.cell (p := ⟨w.heap.size, 0, none⟩) HLT4.out).trans hbx4
      obtain ⟨b, o, rfl, hc⟩ := SlI.keep K5.out RS.out k (by rw [HSl.out]; exact hlt)
      have hr := okAt_rg (plB_at HX.out.2.2.2.1 (show k < ss.length by rw [HSl.out]; exact hlt))
      obtain ⟨z, hz9⟩ : ∃ z, ss.getD k 0 = z := ⟨_, rfl⟩
      rw [hz9] at hc hr
      have HZ := Lib.hid hz9
      have k1 : (k : Int) < n := by omega
      obtain ⟨hr1, hr2, _⟩ := hr
      clear hz9
      by_cases h0 : 0 ≤ z
      · obtain ⟨m, rfl⟩ : ∃ m : Nat, (m : Int) = z := ⟨z.toNat, by omega⟩
        have hnl : m < ms.length := by omega
        have n0 : (0 : Int) ≤ m := by omega
        obtain ⟨b5, o5, rfl, hc5⟩ := SlI.keep HB.out SP.out m (by rw [pt_length]; exact hnl)
        have hp := pt_bd (a := a) HX.out.1 hnl
        have hm1 := mok_el HX.out.1 hnl
        obtain ⟨P, hP9⟩ : ∃ P, (pt ms a).getD m 0 = P := ⟨_, rfl⟩
        rw [hP9] at hc5 hp
        have HP := Lib.hid hP9
        have hq := lv_bd HV.out (k := k) (by rw [HZl.out]; exact hlt)
        obtain ⟨b2, o2, rfl, hc2⟩ := SlI.keep HB.out SB.out k (by rw [ls_length, HZl.out]; exact hlt)
        rw [ls_get (by rw [HZl.out]; exact hlt)] at hc2
        obtain ⟨Q, hQ⟩ : ∃ Q, lv ms zs ss k = Q := ⟨_, rfl⟩
        rw [hQ] at hc2 hq
        have HQ := Lib.hid hQ
        clear hQ
        obtain ⟨q0, q1⟩ := hq
        obtain ⟨m1, m2⟩ := hm1
        obtain ⟨x, hx9⟩ : ∃ x, ms.getD m 0 = x := ⟨_, rfl⟩
        rw [hx9] at m1 m2 hp
        clear hx9
        obtain ⟨p1, p2'⟩ := hp
        have hpb : P ≤ 16 := by omega
        have ht0 : 0 ≤ P * Q := Int.mul_nonneg p1 q0
        have ht1 : P * Q ≤ 16 * 4096 := Int.le_trans (Int.mul_le_mul_of_nonneg_right hpb q0) (Int.mul_le_mul_of_nonneg_left q1 (by decide))
        obtain ⟨T, hT⟩ : ∃ T, P * Q = T := ⟨_, rfl⟩
        rw [hT] at ht0 ht1
        have HLV : Hid (og ms zs ss a k = T) := Lib.hid (by unfold og; rw [HZ.out, if_pos n0, Int.toNat_natCast, HP.out, HQ.out, hT])
        have oc := cells_of HO.out (j := k) (by omega) HL.out
        have of := HO.out.frozenAt k
        have oS := Lib.hid (HO.out.stored k (.int .i64 T)).1
        clear hP9
        go_wp2_with fail
        go_region
        all_goals
          go_wp2
          go_roundw
          case rel =>
            refine ⟨k + 1, xs.set k T, by go_num, by omega, Lib.hid (Below.drew (Below.setCell HB.out (Nat.le_refl _) _)), Lib.hid (World.ownsRow.drew (by rw [List.map_set]; first | exact oS.out | (rw [hT]; exact oS.out))), Lib.hid (by rw [List.length_set]; exact HL.out), Lib.hid fun j hj => ?_⟩
            by_cases hjk : j = k
            · subst hjk
              rw [getD_at (by rw [List.length_set, HL.out]; exact hj), List.getElem_set_self, if_pos (by omega)]
              exact HLV.out.symm
            · rw [getD_at (by rw [List.length_set, HL.out]; exact hj), List.getElem_set_ne (by omega), ← getD_at (by rw [HL.out]; exact hj), HXS.out j hj]
              by_cases hj2 : j < k
              · rw [if_pos hj2, if_pos (by omega)]
              · rw [if_neg hj2, if_neg (by omega)]
          case measure => simp [intOf]; omega
      · have q3 : decide (0 ≤ z) = false := decide_eq_false h0
        have q4 : z < 0 := by omega
        have HLV : Hid (og ms zs ss a k = 0) := Lib.hid (by unfold og; rw [HZ.out, if_neg h0])
        go_wp2
        go_roundw
        case rel =>
          refine ⟨k + 1, xs, by go_num, by omega, HB, HO, HL, Lib.hid fun j hj => ?_⟩
          rw [HXS.out j hj]
          by_cases hj2 : j < k
          · rw [if_pos hj2, if_pos (by omega)]
          · by_cases hjk : j = k
            · rw [if_neg hj2, if_pos (by omega), hjk]; exact HLV.out.symm
            · rw [if_neg hj2, if_neg (by omega)]
        case measure => simp [intOf]; omega
    · have HE : Hid (xs = osl ms zs ss a) := Lib.hid (by
        refine List.ext_getElem (by rw [osl_length, HL.out, HZl.out]) fun j h1 h2 => ?_
        have h := HXS.out j (by rw [← HL.out]; exact h1)
        rw [getD_at h1, if_pos (by rw [HL.out] at h1; omega)] at h
        rw [h, ← getD_at h2, osl_get (by rw [HZl.out, ← HL.out]; exact h1)])
      have k1 : ¬ (k : Int) < n := by omega
      go_wp2
      refine bodyPost_ret (v := .tuple #[.slice (some ⟨w4.heap.size, 0, none⟩) n n, .int .i64 0]) (by simp [results, Try.results42, go_sem]) rfl ⟨_, rfl, K4.out.trans (HB.out.mono K4.out.size), ?_⟩
      rw [← HE.out, HL.out]
      exact HO.out.mono K4.out.size
set_option maxRecDepth 100000 in
set_option maxHeartbeats 16000000 in
theorem rorigin1 (p p2 q : Option Addr) (ms zs ss : List Int) (c c2 d : Nat) (a : Int) (w : World) (hm : ms.length ≤ maxLen) (hz : zs.length ≤ maxLen) (hn : ss.length ≤ maxLen) (hd : ss.length ≤ d) (RM : Hid (SlI w p ms)) (RZ : Hid (SlI w p2 zs)) (RS : Hid (SlI w q ss)) :
    Calls Try.prog 42 #[.agg #[.slice p ms.length c], .slice p2 zs.length c2, .slice q ss.length d, .int .i64 a] w (QW (oL ms zs ss a) (oE ms zs ss a) w) := by
  have BA := (Below.refl w.heap.size w).alloc (Nat.le_refl _) (Obj.cells #[Value.slice p ms.length c] 48)
  have hbx : (w.alloc (Obj.cells #[Value.slice p ms.length c] 48)).cell? ⟨w.heap.size, 0, none⟩ = some (.slice p ms.length c) := by go_cell
  have hlt0 : w.heap.size < (w.alloc (Obj.cells #[Value.slice p ms.length c] 48)).heap.size := by simp
  have CV := Lib.hid fun u (hu : Below w.heap.size w u) => rlocal1 p p2 q ms zs ss c c2 d u hm hz hn hd (Lib.hid (SlI.keep hu RM.out)) (Lib.hid (SlI.keep hu RZ.out)) (Lib.hid (SlI.keep hu RS.out))
  have CC := Lib.hid fun u (hu : Below w.heap.size w u) => c34 p ms c a u hm (Lib.hid (SlI.keep hu RM.out))
  have HBA := Lib.hid BA
  have HLT := Lib.hid hlt0
  unfold maxLen at hm hz hn
  by_cases h : hV ms zs ss = 0
  · by_cases hb : cB ms a = true
    · obtain ⟨e1, e2⟩ := oE_ok (a := a) h hb
      have hlen := (hV_zero h).2.2.1
      have C := rorigin1_ok zs.length p p2 q ms zs ss c c2 d a w (Lib.hid h) (Lib.hid hb) (Lib.hid rfl) (Lib.hid hlen) (by omega) RM RZ RS
      rw [e1, e2, hlen]
      exact C
    · have hb2 : cB ms a = false := by simpa using hb
      obtain ⟨e1, e2⟩ := oE_out (a := a) h hb2
      have hlen := (hV_zero h).2.2.1
      rw [e1, e2, hlen]
      rw [h, hlen] at CV
      have HVV := Lib.hid h
      rw [hb2] at CC
      clear h hb hb2 e1 e2 hlen BA hlt0
      go_enter Try.func42, Try.ntmps42
      go_wp2_with fail
      generalize w.alloc (Obj.cells #[Value.slice p ms.length c] 48) = wb at *
      refine (CV.out wb HBA.out).mono ?_
      rintro e w1 hq9
      obtain ⟨qb, cb, rfl, _, _, hb1, SB1⟩ := ret_lsv hq9
      clear hq9
      have K1 := Lib.hid (HBA.out.trans (hb1.mono HBA.out.size))
      have HLT1 := Lib.hid (Nat.lt_of_lt_of_le HLT.out hb1.size)
      have hbx1 : w1.cell? ⟨w.heap.size, 0, none⟩ = some (.slice p ms.length c) := (hb1.cell (p := ⟨w.heap.size, 0, none⟩) HLT.out).trans hbx
      clear hbx hb1 CV HBA HLT
      go_wp2_with fail
      refine (CC.out w1 K1.out).mono ?_
      rintro e w4 ⟨v, rfl, hb4, ho4⟩
      have K4 := Lib.hid (K1.out.trans (hb4.mono K1.out.size))
      clear hb4 ho4 hbx1
      go_wp2
      exact bodyPost_ret (v := .tuple #[.slice none 0 0, .int .i64 12]) (by simp [results, Try.results42, go_sem]) rfl ⟨_, rfl, K4.out, World.ownsRow_nil _ _ _ _⟩
  · obtain ⟨e1, e2⟩ := oE_bad (a := a) h
    rw [e1, e2]
    rw [show lsv ms zs ss = [] from if_neg h] at CV
    obtain ⟨V, hV9⟩ : ∃ V, hV ms zs ss = V := ⟨_, rfl⟩
    rw [hV9] at CV h ⊢
    have q6 : (V == 0) = false := beq_false_of_ne h
    clear hV9 e1 e2 BA hlt0
    go_enter Try.func42, Try.ntmps42
    go_wp2_with fail
    generalize w.alloc (Obj.cells #[Value.slice p ms.length c] 48) = wb at *
    refine (CV.out wb HBA.out).mono ?_
    rintro e w1 hq9
    obtain ⟨qb, cb, rfl, _, _, hb1, SB1⟩ := ret_lsv hq9
    clear hq9
    have K1 := Lib.hid (HBA.out.trans (hb1.mono HBA.out.size))
    clear hbx hb1 CV
    go_wp2
    exact bodyPost_ret (v := .tuple #[.slice none 0 0, .int .i64 V]) (by simp [results, Try.results42, go_sem]) rfl ⟨_, rfl, K1.out, World.ownsRow_nil _ _ _ _⟩
end Go.Proofs.Ytndmpoomdoojpaa.Sh
