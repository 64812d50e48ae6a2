/- Boxes: Range. -/
import Derived.Test.YtkdfidjoighknaaB17
namespace Go.Proofs.Ytkdfidjoighknaa.Bx
open Go.ChangeShapes Go.WideShapes Go.ChangeAt Go.RowKit
set_option linter.unusedVariables false
set_option linter.unusedSimpArgs false
open Go.Proofs.Ytkdfidjoighknaa.Nm Go.Proofs.Ytkdfidjoighknaa.Ln
set_option maxRecDepth 100000 in
set_option maxHeartbeats 32000000 in
theorem range1_ok (k : Int) (p q r : Option Addr) (xs : List Mo) (ns : List ByteArray) (zs : List Int) (c d f : Nat) (w : World) (hn : xs.length ≤ maxLen) (hm : ns.length ≤ maxLen) (hz : zs.length ≤ maxLen) (RM : Hid (SlM w p xs)) (RN : Hid (SlT w q ns)) (RZ : Hid (SlI w r zs)) (RS : Hid (∀ i, i < xs.length → (xs.getD i mo0).1.size ≤ maxLen)) (RK : Hid (∀ i, i < xs.length → F64 (xs.getD i mo0).2)) (hk : F64 k) (h1 : okL xs = true) (h2 : bV zs = 0) (h3 : ns.length = zs.length) (h4 : cnt zs ≠ 0) :
    Calls Try.prog 32 #[Lv k p xs.length c, .slice q ns.length d, .slice r zs.length f] w (RW3 (rT k xs ns zs) w) := by
  have BX := Lib.hid ((Below.refl w.heap.size w).alloc (Nat.le_refl _) (Obj.cells #[Value.int .i64 k, Value.slice p xs.length c] 44))
  have hb0 : (w.alloc (Obj.cells #[Value.int .i64 k, Value.slice p xs.length c] 44)).cell? ⟨w.heap.size, 0, none⟩ = some (.int .i64 k) := by go_cell
  have hb1 : (w.alloc (Obj.cells #[Value.int .i64 k, Value.slice p xs.length c] 44)).cell? ⟨w.heap.size, 1, none⟩ = some (.slice p xs.length c) := by go_cell
  have hlt0 : w.heap.size < (w.alloc (Obj.cells #[Value.int .i64 k, Value.slice p xs.length c] 44)).heap.size := by simp
  have HLT := Lib.hid hlt0
  have CV := Lib.hid fun (u : World) (hu : Below w.heap.size w u) => val1 k p xs c u hn (Lib.hid (SlM.keep hu RM.out)) RS
  have CB := Lib.hid fun (u : World) (hu : Below w.heap.size w u) => bval_dr (p := r) (zs := zs) (c := f) (w := u) hz (Lib.hid (SlI.keep hu RZ.out))
  have CC := Lib.hid fun (u : World) (hu : Below w.heap.size w u) => dr_count (p := r) (zs := zs) (c := f) (w := u) hz (Lib.hid (SlI.keep hu RZ.out))
  rw [show vL xs = 0 from if_pos h1] at CV
  have hcp : 0 < cnt zs := by have := (cnt_bd zs).1; omega
  obtain ⟨_, h16, hl, hcs, p0, p1⟩ := cnt_pos (Int.le_refl 0) hcp
  have HLO := Lib.hid hl
  have HSP := Lib.hid p1
  have H1 := Lib.hid h1
  have H2 := Lib.hid h2
  have H3 := Lib.hid (And.intro h3 h4)
  rw [h2] at CB
  obtain ⟨N, hN⟩ : ∃ N, zs.length = N := ⟨_, rfl⟩
  have HZl := Lib.hid hN
  have HNl := Lib.hid (h3.trans hN)
  rw [h3, hN]
  rw [hN] at CB CC h16
  have CSC := Lib.hid fun (u : World) (s : ByteArray) (hu : Below w.heap.size w u) => scont1 q ns d s u hm (Lib.hid (SlT.keep hu RN.out))
  have CSI := Lib.hid fun (u : World) (s : ByteArray) (hu : Below w.heap.size w u) => sidx1 q ns d s u hm (Lib.hid (SlT.keep hu RN.out))
  rw [HNl.out] at CSC CSI
  obtain ⟨CN, hCN⟩ : ∃ CN, cnt zs = CN := ⟨_, rfl⟩
  rw [hCN] at CC hcp
  have q0 : (CN == 0) = false := beq_false_of_ne (by omega)
  unfold maxLen at hn
  clear h1 h2 h3 h4 hl hcs p0 p1 hN hCN hm hz
  unfold Lv
  go_enter Try.func32, Try.ntmps32
  go_wp2_with fail
  generalize w.alloc (Obj.cells #[Value.int .i64 k, Value.slice p xs.length c] 44) = wb at *
  refine (CV.out wb BX.out).mono ?_
  rintro e w1 ⟨rfl, hb⟩
  have K1 := Lib.hid (BX.out.trans (hb.mono BX.out.size))
  have HLT1 := Lib.hid (Nat.lt_of_lt_of_le HLT.out hb.size)
  have hx0 : w1.cell? ⟨w.heap.size, 0, none⟩ = some (.int .i64 k) := (hb.cell (p := ⟨w.heap.size, 0, none⟩) HLT.out).trans hb0
  have hx1 : w1.cell? ⟨w.heap.size, 1, none⟩ = some (.slice p xs.length c) := (hb.cell (p := ⟨w.heap.size, 1, none⟩) HLT.out).trans hb1
  clear hb hb0 hb1 CV BX HLT hlt0
  go_wp2_with fail
  refine (CB.out w1 K1.out).mono ?_
  rintro e w' ⟨rfl, md, rfl⟩
  have K2 := Lib.hid (World.below_drewN' K1.out md)
  have y0 : (w1.drewN md).cell? ⟨w.heap.size, 0, none⟩ = some (.int .i64 k) := hx0
  have y1 : (w1.drewN md).cell? ⟨w.heap.size, 1, none⟩ = some (.slice p xs.length c) := hx1
  have HLT2 : Hid (w.heap.size < (w1.drewN md).heap.size) := HLT1
  clear hx0 hx1 K1 HLT1
  generalize w1.drewN md = w2 at *
  go_wp2_with fail
  refine (CC.out w2 K2.out).mono ?_
  rintro e w' ⟨rfl, me, rfl⟩
  have K3 := Lib.hid (World.below_drewN' K2.out me)
  have x0 : (w2.drewN me).cell? ⟨w.heap.size, 0, none⟩ = some (.int .i64 k) := y0
  have x1 : (w2.drewN me).cell? ⟨w.heap.size, 1, none⟩ = some (.slice p xs.length c) := y1
  have HLT3 : Hid (w.heap.size < (w2.drewN me).heap.size) := HLT2
  clear y0 y1 K2 HLT2 CB CC
  generalize w2.drewN me = w3 at *
  go_wp2_with fail
  go_loopw [42] (fun i wr => ∃ (j : Nat), i = .int .i64 j ∧ j ≤ xs.length ∧ Hid (Below w3.heap.size w3 wr) ∧ Hid (∀ i, i < j → kn ns (xs.getD i mo0) = true)) (fun i _ => xs.length - (intOf i).toNat)
  case atStart => exact ⟨0, rfl, by omega, Lib.hid (Below.refl _ _), Lib.hid fun i hi => by omega⟩
  case round =>
    obtain ⟨j, rfl, hj, HB, HL⟩ := hrel
    have j0 : (0 : Int) ≤ j := by omega
    have KB := Lib.hid (K3.out.trans (HB.out.mono K3.out.size))
    by_cases hjl : j < xs.length
    · have j1 : (j : Int) < xs.length := by omega
      obtain ⟨b, o, rfl, c0, c1⟩ := SlM.keep KB.out RM.out j hjl
      obtain ⟨s, hs⟩ : ∃ s, (xs.getD j mo0).1 = s := ⟨_, rfl⟩
      obtain ⟨a, ha⟩ : ∃ a, (xs.getD j mo0).2 = a := ⟨_, rfl⟩
      rw [hs] at c0
      rw [ha] at c1
      have HKN : Hid (kn ns (xs.getD j mo0) = decide (fx ns s < N)) := Lib.hid (by unfold kn; rw [hs, HNl.out])
      clear hs ha
      have CK := Lib.hid fun (u : World) (hu : Below w.heap.size w u) => CSC.out u s hu
      by_cases hk2 : fx ns s < N
      · have HL2 : Hid (∀ i, i < j + 1 → kn ns (xs.getD i mo0) = true) := Lib.hid fun i hi => by
          rcases (by omega : i < j ∨ i = j) with h | rfl
          · exact HL.out i h
          · rw [HKN.out]; exact decide_eq_true hk2
        rw [decide_eq_true hk2] at CK
        clear hk2
        go_wp2_with fail
        refine (CK.out _ (KB.out.alloc KB.out.size _)).mono ?_
        rintro e w' ⟨rfl, rfl⟩
        go_wp2
        go_roundw
        case rel => exact ⟨j + 1, by go_num, by omega, Lib.hid (HB.out.alloc HB.out.size _), HL2⟩
        case measure => simp [intOf]; omega
      · have HF : Hid (rT k xs ns zs = (0, 0, 9)) := Lib.hid (rT4 H1.out H2.out H3.out (not_kn hjl (by rw [HKN.out]; exact decide_eq_false hk2)))
        rw [decide_eq_false hk2] at CK
        clear hk2
        go_wp2_with fail
        refine (CK.out _ (KB.out.alloc KB.out.size _)).mono ?_
        rintro e w' ⟨rfl, rfl⟩
        go_wp2
        refine bodyPost_ret (v := .tuple #[.int .i64 0, .int .i64 0, .int .i64 9]) (by simp [results, Try.results32, go_sem]) rfl ?_
        rw [HF.out]
        exact ⟨rfl, KB.out.alloc KB.out.size _⟩
    · have j1 : ¬ (j : Int) < xs.length := by omega
      have HALL := Lib.hid (all_kn (by omega : xs.length ≤ j) HL.out)
      have z0 : wr.cell? ⟨w.heap.size, 0, none⟩ = some (.int .i64 k) := (HB.out.cell (p := ⟨w.heap.size, 0, none⟩) HLT3.out).trans x0
      have z1 : wr.cell? ⟨w.heap.size, 1, none⟩ = some (.slice p xs.length c) := (HB.out.cell (p := ⟨w.heap.size, 1, none⟩) HLT3.out).trans x1
      have HLT4 := Lib.hid (Nat.lt_of_lt_of_le HLT3.out HB.out.size)
      clear HB HL x0 x1 HLT3 K3 CSC
      go_wp2_with fail
      go_quiet (fail)
      have KD := Lib.hid (World.below_drewN' KB.out nq)
      have x0 : (wr.drewN nq).cell? ⟨w.heap.size, 0, none⟩ = some (.int .i64 k) := z0
      have x1 : (wr.drewN nq).cell? ⟨w.heap.size, 1, none⟩ = some (.slice p xs.length c) := z1
      have HLT3 : Hid (w.heap.size < (wr.drewN nq).heap.size) := HLT4
      clear z0 z1 HLT4 KB
      generalize wr.drewN nq = w4 at *
      go_wp2_with fail
      go_loopw [13, 14, 59] (fun lo hi i wr => ∃ (j : Nat) (A B : Int), lo = .int .i64 A ∧ hi = .int .i64 B ∧ i = .int .i64 j ∧ j ≤ xs.length ∧ F64 A ∧ F64 B ∧ Hid (Below w4.heap.size w4 wr) ∧ Hid (rfo zs ns xs (k, k) = rfo zs ns (xs.drop j) (A, B))) (fun _ _ i _ => xs.length - (intOf i).toNat)
      case atStart => exact ⟨0, k, k, rfl, rfl, rfl, by omega, hk, hk, Lib.hid (Below.refl _ _), Lib.hid rfl⟩
      case round =>
        obtain ⟨j, A, B, rfl, rfl, rfl, hj, hA, hB, HB, HE⟩ := hrel
        obtain ⟨A0, A1⟩ := hA
        obtain ⟨B0, B1⟩ := hB
        have j0 : (0 : Int) ≤ j := by omega
        have KB := Lib.hid (KD.out.trans (HB.out.mono KD.out.size))
        by_cases hjl : j < xs.length
        · have j1 : (j : Int) < xs.length := by omega
          obtain ⟨b, o, rfl, c0, c1⟩ := SlM.keep KB.out RM.out j hjl
          have hst := rfo_step (zs := zs) (ns := ns) hjl (A, B)
          rw [← HE.out] at hst
          have hkn : fx ns (xs.getD j mo0).1 < N := by
            have := List.all_eq_true.1 HALL.out _ (List.getElem_mem hjl)
            rw [← getM hjl] at this
            unfold kn at this
            rw [HNl.out] at this
            exact of_decide_eq_true this
          have hco := RK.out j hjl
          unfold stp at hst
          obtain ⟨s, hs⟩ : ∃ s, (xs.getD j mo0).1 = s := ⟨_, rfl⟩
          obtain ⟨a, ha⟩ : ∃ a, (xs.getD j mo0).2 = a := ⟨_, rfl⟩
          rw [hs] at c0 hst hkn
          rw [ha] at c1 hst hco
          clear hs ha
          have CX := CSI.out
          have CX2 := Lib.hid fun (u : World) (hu : Below w.heap.size w u) => CX u s hu
          rw [show ixV ns s = (fx ns s : Int) from if_pos (by rw [HNl.out]; exact hkn)] at CX2
          clear CX
          obtain ⟨b3, o3, rfl, c3⟩ := SlI.keep KB.out RZ.out (fx ns s) (by rw [HZl.out]; exact hkn)
          have hzl := z_last HLO.out HSP.out (i := fx ns s) (by rw [HZl.out]; exact hkn)
          obtain ⟨y, hy⟩ : ∃ y, zs.getD (fx ns s) 0 = y := ⟨_, rfl⟩
          rw [hy] at c3 hst hzl
          obtain ⟨t, ht⟩ : ∃ t, fx ns s = t := ⟨_, rfl⟩
          rw [ht] at CX2 c3 hkn
          obtain ⟨a0, a1⟩ := hco
          obtain ⟨y0, y1⟩ := hzl
          have t0 : (0 : Int) ≤ t := by omega
          have t1 : (t : Int) < N := by omega
          have CA := Lib.hid fun (n : Int) (u : World) (n0 : -9223372036854775808 ≤ n) (n1 : n ≤ 9223372036854775807) => addp1 n a (y - 1) u n0 n1 a0 a1 y0 (by omega)
          generalize a * (y - 1) = Q at CA hst
          have BA : Hid (Below w.heap.size w (wr.alloc (Obj.cells #[Value.string s, Value.int .i64 a] 72))) := Lib.hid (KB.out.alloc KB.out.size _)
          have HBA : Hid (Below w4.heap.size w4 (wr.alloc (Obj.cells #[Value.string s, Value.int .i64 a] 72))) := Lib.hid (HB.out.alloc HB.out.size _)
          have hbl : b3 < wr.heap.size := by have := World.block_lt_of_cell? wr _ c3; simpa using this
          have c4 : (wr.alloc (Obj.cells #[Value.string s, Value.int .i64 a] 72)).cell? ⟨b3, o3 + t, none⟩ = some (.int .i64 y) := (((Below.refl wr.heap.size wr).alloc (Nat.le_refl _) _).cell (p := ⟨b3, o3 + t, none⟩) hbl).trans c3
          clear hy ht
          by_cases hneg : a < 0
          · rw [if_pos hneg] at hst
            have HST := Lib.hid hst
            have d1 : decide (a < 0) = true := decide_eq_true hneg
            clear hst
            go_wp2_with fail
            refine (CX2.out _ BA.out).mono ?_
            rintro e w' ⟨rfl, rfl⟩
            go_wp2_with fail
            refine (CA.out A _ A0 A1).mono ?_
            rintro e w' ⟨S, F, rfl, hF, hS, rfl⟩
            by_cases hf : F = true
            · subst hf
              have hfit := hF.1 rfl
              replace hS := hS rfl
              have HE2 := HST.out
              rw [if_pos (show F64 Q ∧ F64 ((A, B).1 + Q) from ⟨hfit.1, hfit.2⟩)] at HE2
              have HE3 := Lib.hid HE2
              have hS64 : F64 S := by rw [hS]; exact hfit.2
              rw [← hS] at HE3
              clear hF hfit hS HE2
              go_wp2
              go_roundw
              case rel => exact ⟨j + 1, S, B, rfl, rfl, by go_num, by omega, hS64, ⟨B0, B1⟩, HBA, HE3⟩
              case measure => simp [intOf]; omega
            · have hF2 : F = false := by simpa using hf
              subst hF2
              have HE2 := HST.out
              rw [if_neg (show ¬ (F64 Q ∧ F64 ((A, B).1 + Q)) from fun e => hf (hF.2 ⟨e.1, e.2⟩))] at HE2
              have HF9 : Hid (rT k xs ns zs = (0, 0, 3)) := Lib.hid (rT5 H1.out H2.out H3.out HALL.out HE2)
              clear hF hS HE2 hf
              go_wp2
              refine bodyPost_ret (v := .tuple #[.int .i64 0, .int .i64 0, .int .i64 3]) (by simp [results, Try.results32, go_sem]) rfl ?_
              rw [HF9.out]
              exact ⟨rfl, BA.out⟩
          · rw [if_neg hneg] at hst
            have HST := Lib.hid hst
            have d1 : decide (a < 0) = false := decide_eq_false hneg
            clear hst
            go_wp2_with fail
            refine (CX2.out _ BA.out).mono ?_
            rintro e w' ⟨rfl, rfl⟩
            go_wp2_with fail
            refine (CA.out B _ B0 B1).mono ?_
            rintro e w' ⟨S, F, rfl, hF, hS, rfl⟩
            by_cases hf : F = true
            · subst hf
              have hfit := hF.1 rfl
              replace hS := hS rfl
              have HE2 := HST.out
              rw [if_pos (show F64 Q ∧ F64 ((A, B).2 + Q) from ⟨hfit.1, hfit.2⟩)] at HE2
              have HE3 := Lib.hid HE2
              have hS64 : F64 S := by rw [hS]; exact hfit.2
              rw [← hS] at HE3
              clear hF hfit hS HE2
              go_wp2
              go_roundw
              case rel => exact ⟨j + 1, A, S, rfl, rfl, by go_num, by omega, ⟨A0, A1⟩, hS64, HBA, HE3⟩
              case measure => simp [intOf]; omega
            · have hF2 : F = false := by simpa using hf
              subst hF2
              have HE2 := HST.out
              rw [if_neg (show ¬ (F64 Q ∧ F64 ((A, B).2 + Q)) from fun e => hf (hF.2 ⟨e.1, e.2⟩))] at HE2
              have HF9 : Hid (rT k xs ns zs = (0, 0, 3)) := Lib.hid (rT5 H1.out H2.out H3.out HALL.out HE2)
              clear hF hS HE2 hf
              go_wp2
              refine bodyPost_ret (v := .tuple #[.int .i64 0, .int .i64 0, .int .i64 3]) (by simp [results, Try.results32, go_sem]) rfl ?_
              rw [HF9.out]
              exact ⟨rfl, BA.out⟩
        · have j1 : ¬ (j : Int) < xs.length := by omega
          have HF9 : Hid (rT k xs ns zs = (A, B, 0)) := Lib.hid (by
            have h := HE.out
            rw [List.drop_of_length_le (by omega)] at h
            exact rT6 H1.out H2.out H3.out HALL.out h)
          go_wp2
          refine bodyPost_ret (v := .tuple #[.int .i64 A, .int .i64 B, .int .i64 0]) (by simp [results, Try.results32, go_sem]) rfl ?_
          rw [HF9.out]
          exact ⟨rfl, KB.out⟩
theorem range1 (k : Int) (p q r : Option Addr) (xs : List Mo) (ns : List ByteArray) (zs : List Int) (c d f : Nat) (w : World) (hn : xs.length ≤ maxLen) (hm : ns.length ≤ maxLen) (hz : zs.length ≤ maxLen) (RM : Hid (SlM w p xs)) (RN : Hid (SlT w q ns)) (RZ : Hid (SlI w r zs)) (RS : Hid (∀ i, i < xs.length → (xs.getD i mo0).1.size ≤ maxLen)) (RK : Hid (∀ i, i < xs.length → F64 (xs.getD i mo0).2)) (hk : F64 k) : Calls Try.prog 32 #[Lv k p xs.length c, .slice q ns.length d, .slice r zs.length f] w (RW3 (rT k xs ns zs) w) := by
  by_cases h : okL xs = true ∧ bV zs = 0 ∧ (ns.length = zs.length ∧ cnt zs ≠ 0)
  · exact range1_ok k p q r xs ns zs c d f w hn hm hz RM RN RZ RS RK hk h.1 h.2.1 h.2.2.1 h.2.2.2
  · exact range1_bad k p q r xs ns zs c d f w hn hm hz RM RN RZ RS RK hk h
end Go.Proofs.Ytkdfidjoighknaa.Bx
