/- Specs: the reference's LocalShape. -/
import Derived.Test.YtndmpoomdoojpaaS8
import Derived.Deep.Cut
namespace Go.Proofs.Ytndmpoomdoojpaa.Sh
open Go.ChangeShapes Go.WideShapes Go.ChangeAt Go.RowKit
set_option linter.unusedVariables false
set_option linter.unusedSimpArgs false
set_option maxRecDepth 100000 in
set_option maxHeartbeats 16000000 in
theorem rlocal1 (p p2 q : Option Addr) (ms zs ss : List Int) (c c2 d : Nat) (w : World) (hm : ms.length ≤ maxLen) (hz : zs.length ≤ maxLen) (hn : ss.length ≤ maxLen) (hd : ss.length ≤ d) (RM : Hid (SlI w p ms)) (RZ : Hid (SlI w p2 zs)) (RS : Hid (SlI w q ss)) :
    Calls Try.prog 35 #[.agg #[.slice p ms.length c], .slice p2 zs.length c2, .slice q ss.length d] w (QW (lsv ms zs ss) (hV ms zs ss) w) := by
  have BA := (Below.refl w.heap.size w).alloc (Nat.le_refl _) (Obj.cells #[Value.slice p ms.length c] 48)
  have hbx : (w.alloc (Obj.cells #[Value.slice p ms.length c] 48)).cell? ⟨w.heap.size, 0, none⟩ = some (.slice p ms.length c) := by go_cell
  have hlt0 : w.heap.size < (w.alloc (Obj.cells #[Value.slice p ms.length c] 48)).heap.size := by simp
  have CV := Lib.hid fun u (hu : Below w.heap.size w u) => rvalid1 p p2 q ms zs ss c c2 d u hm hz hn hd (Lib.hid (SlI.keep hu RM.out)) (Lib.hid (SlI.keep hu RZ.out)) (Lib.hid (SlI.keep hu RS.out))
  have HBA := Lib.hid BA
  have HLT := Lib.hid hlt0
  unfold maxLen at hm hz hn
  clear BA hlt0
  by_cases h : hV ms zs ss = 0
  · rw [show lsv ms zs ss = ls ms zs ss from if_pos h]
    have HX := Lib.hid (hV_zero h)
    rw [h] at CV ⊢
    have hlen := (hV_zero h).2.2.1
    have HSl := Lib.hid hlen
    have HV := Lib.hid h
    rw [hlen] at CV ⊢
    have hn6 : zs.length ≤ 6 := (valid_of HX.out.2.1).1
    obtain ⟨i0, hi, hz0, hz1, hz2⟩ := info_parts info3
    clear h hlen
    generalize hN : zs.length = n at CV hn6 ⊢
    have HZl := Lib.hid hN
    have HSl2 : Hid (ss.length = n) := Lib.hid (HSl.out.trans hN)
    clear hN hz hn hd HSl
    go_enter Try.func35, Try.ntmps35
    go_wp2_with fail
    generalize w.alloc (Obj.cells #[Value.slice p ms.length c] 48) = wb at *
    refine (CV.out wb HBA.out).mono ?_
    rintro e w1 ⟨rfl, hb1⟩
    have K1 := Lib.hid (HBA.out.trans (hb1.mono HBA.out.size))
    have HLT1 := Lib.hid (Nat.lt_of_lt_of_le HLT.out hb1.size)
    have hbx1 : w1.cell? ⟨w.heap.size, 0, none⟩ = some (.slice p ms.length c) := (hb1.cell (p := ⟨w.heap.size, 0, none⟩) HLT.out).trans hbx
    clear hbx hb1 CV
    go_wp2_with fail
    go_loopw [9, 10] (fun v i wr => ∃ (k : Nat), i = .int .i64 k ∧ k ≤ n ∧ Hid (Below w1.heap.size w1 wr) ∧ Hid (wr.ownsRow w1.heap.size 3 1 v k (((ls ms zs ss).take k).map (Value.int .i64)))) (fun _ i _ => n - (intOf i).toNat)
    case atStart => exact ⟨0, rfl, by omega, Lib.hid (Below.refl _ _), Lib.hid (World.ownsRow_nil _ _ _ _)⟩
    case round =>
      obtain ⟨k, rfl, hk, HB, HO⟩ := hrel
      have k0 : (0 : Int) ≤ k := by omega
      by_cases hlt : k < n
      · have k1 : (k : Int) < n := by omega
        have hbx2 : wr.cell? ⟨w.heap.size, 0, none⟩ = some (.slice p ms.length c) := (HB.out.cell (p := ⟨w.heap.size, 0, none⟩) HLT1.out).trans hbx1
        have K2 := Lib.hid (K1.out.trans (HB.out.mono K1.out.size))
        obtain ⟨b, o, rfl, hc⟩ := SlI.keep K2.out RS.out k (by rw [HSl2.out]; exact hlt)
        obtain ⟨b2, o2, rfl, hc2⟩ := SlI.keep K2.out RZ.out k (by rw [HZl.out]; exact hlt)
        have hr := okAt_rg (plB_at HX.out.2.2.2.1 (show k < ss.length by rw [HSl2.out]; exact hlt))
        have hz1' := zel HX.out.2.1 (show k < zs.length by rw [HZl.out]; exact hlt)
        have tk : (ls ms zs ss).take (k + 1) = (ls ms zs ss).take k ++ [lv ms zs ss k] := by
          rw [List.take_succ_eq_append_getElem (by rw [ls_length, HZl.out]; exact hlt), ← getD_at, ls_get (by rw [HZl.out]; exact hlt)]
        obtain ⟨z, hz9⟩ : ∃ z, ss.getD k 0 = z := ⟨_, rfl⟩
        obtain ⟨y, hy9⟩ : ∃ y, zs.getD k 0 = y := ⟨_, rfl⟩
        rw [hz9] at hc hr
        rw [hy9] at hc2 hz1'
        have HZ := Lib.hid hz9
        have HY := Lib.hid hy9
        obtain ⟨hr1, hr2, _⟩ := hr
        obtain ⟨y1, y2⟩ := hz1'
        clear hz9 hy9
        by_cases h0 : 0 ≤ z
        · obtain ⟨m, rfl⟩ : ∃ m : Nat, (m : Int) = z := ⟨z.toNat, by omega⟩
          have hnl : m < ms.length := by omega
          obtain ⟨b3, o3, rfl, hc3⟩ := SlI.keep K2.out RM.out m hnl
          have hm1 := mok_el HX.out.1 hnl
          obtain ⟨x, hx9⟩ : ∃ x, ms.getD m 0 = x := ⟨_, rfl⟩
          rw [hx9] at hc3 hm1
          have HXX := Lib.hid hx9
          clear hx9
          obtain ⟨m1, m2⟩ := hm1
          have n0 : (0 : Int) ≤ m := by omega
          have x0 : ¬ x = 0 := by omega
          have xq : (x == 0) = false := beq_false_of_ne x0
          have y0 : 0 ≤ y := by omega
          have hlv : lv ms zs ss k = y / x := by unfold lv; rw [HZ.out, if_pos n0, HY.out, Int.toNat_natCast, HXX.out]
          rw [hlv] at tk
          have TK := Lib.hid tk
          have hq0 : 0 ≤ y / x := Int.ediv_nonneg y0 (by omega)
          have hq1 : y / x ≤ y := Int.ediv_le_self x y0
          clear tk hlv
          go_wp2_with fail
          go_quiet (fail)
          have HOD : Hid ((wr.drewN nq).ownsRow w1.heap.size 3 1 u9 k (((ls ms zs ss).take k).map (Value.int .i64))) := Lib.hid HO.out
          have KBD : Below w1.heap.size w1 (wr.drewN nq) := below_drewN HB.out nq
          generalize wr.drewN nq = wd at *
          go_wp2_with (at_builtin; refine wpList_append_own _ rfl _ _ 34 rfl w1.heap.size 3 i0 (.int .i64 0) 1 8 Try.underlying34 hi hz0 hz1 hz2 rfl (by decide) _ _ _ rfl (HOD.out.alloc _) ⟨wd.heap.size, 0, none⟩ 1 1 [.int .i64 (y / x)] rfl rfl ?_ ?_ ?_ ?_ ?_ ?_)
          any_goals (first | with_reducible rfl | (show (Value.int _ _).oneCell' = true; rfl) | omega | (unfold maxLen; omega) | (intro u hu; cases List.mem_singleton.1 hu; rfl) | (intro j u hj; cases j with | zero => (cases hj; go_cell) | succ j => cases hj) | (have := KBD.size; simp; omega; done))
          intro v' w5 hown' hgrow _
          have hO2 : Hid (w5.ownsRow w1.heap.size 3 1 v' (k + 1) (((ls ms zs ss).take (k + 1)).map (Value.int .i64))) := Lib.hid (by
            have h := hown'
            rw [TK.out]
            simpa [List.map_take] using h)
          have hB2 : Below w1.heap.size w1 w5 := (KBD.alloc KBD.size _).grown hgrow (by have := KBD.size; simp; omega) (fun j hj => (HOD.out.lt j hj).1)
          clear hown' hgrow hi hz0 hz1 hz2
          go_wp2
          go_roundw
          case rel => exact ⟨k + 1, by go_num, by omega, Lib.hid hB2, hO2⟩
          case measure => simp [intOf]; omega
        · have q3 : decide (0 ≤ z) = false := decide_eq_false h0
          have q4 : z < 0 := by omega
          have hlv : lv ms zs ss k = y := by unfold lv; rw [HZ.out, if_neg h0, HY.out]
          rw [hlv] at tk
          have TK := Lib.hid tk
          have HOD := HO
          have KBD := HB.out
          clear tk hlv
          go_upto_region 11 with (fail)
          go_wp2_with (at_builtin; refine wpList_append_own _ rfl _ _ 34 rfl w1.heap.size 3 i0 (.int .i64 0) 1 8 Try.underlying34 hi hz0 hz1 hz2 rfl (by decide) _ _ _ rfl (HOD.out.alloc _) ⟨wr.heap.size, 0, none⟩ 1 1 [.int .i64 (y)] rfl rfl ?_ ?_ ?_ ?_ ?_ ?_)
          any_goals (first | with_reducible rfl | (show (Value.int _ _).oneCell' = true; rfl) | omega | (unfold maxLen; omega) | (intro u hu; cases List.mem_singleton.1 hu; rfl) | (intro j u hj; cases j with | zero => (cases hj; go_cell) | succ j => cases hj) | (have := KBD.size; simp; omega; done))
          intro v' w5 hown' hgrow _
          have hO2 : Hid (w5.ownsRow w1.heap.size 3 1 v' (k + 1) (((ls ms zs ss).take (k + 1)).map (Value.int .i64))) := Lib.hid (by
            have h := hown'
            rw [TK.out]
            simpa [List.map_take] using h)
          have hB2 : Below w1.heap.size w1 w5 := (KBD.alloc KBD.size _).grown hgrow (by have := KBD.size; simp; omega) (fun j hj => (HOD.out.lt j hj).1)
          clear hown' hgrow hi hz0 hz1 hz2
          go_wp2
          go_roundw
          case rel => exact ⟨k + 1, by go_num, by omega, Lib.hid hB2, hO2⟩
          case measure => simp [intOf]; omega
      · have k1 : ¬ (k : Int) < n := by omega
        have HE : Hid ((ls ms zs ss).take k = ls ms zs ss) := Lib.hid (List.take_of_length_le (by rw [ls_length, HZl.out]; omega))
        have HL : Hid ((ls ms zs ss).length = k) := Lib.hid (by rw [ls_length, HZl.out]; omega)
        go_wp2
        refine bodyPost_ret (v := .tuple #[u9, .int .i64 0]) (by simp [results, Try.results35, go_sem]) rfl ⟨_, rfl, K1.out.trans (HB.out.mono K1.out.size), ?_⟩
        have h := HO.out
        rw [HE.out] at h
        rw [HL.out]
        exact h.mono K1.out.size
  · rw [show lsv ms zs ss = [] from if_neg h]
    obtain ⟨V, hV9⟩ : ∃ V, hV ms zs ss = V := ⟨_, rfl⟩
    rw [hV9] at CV h ⊢
    have q6 : (V == 0) = false := beq_false_of_ne h
    clear hV9
    go_enter Try.func35, Try.ntmps35
    go_wp2_with fail
    generalize w.alloc (Obj.cells #[Value.slice p ms.length c] 48) = wb at *
    refine (CV.out wb HBA.out).mono ?_
    rintro e w1 ⟨rfl, hb1⟩
    have K1 := Lib.hid (HBA.out.trans (hb1.mono HBA.out.size))
    clear hbx hb1 CV
    go_wp2
    exact bodyPost_ret (v := .tuple #[.slice none 0 0, .int .i64 V]) (by simp [results, Try.results35, go_sem]) rfl ⟨_, rfl, K1.out, World.ownsRow_nil _ _ _ _⟩
end Go.Proofs.Ytndmpoomdoojpaa.Sh
