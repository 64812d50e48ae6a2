/- Boxes: the reference's Range. -/
import Derived.Test.YtkdfidjoighknaaB18
namespace Go.Proofs.Ytkdfidjoighknaa.Bx
open Go.ChangeShapes Go.WideShapes Go.ChangeAt Go.RowKit
set_option linter.unusedVariables false
set_option linter.unusedSimpArgs false
open Go.Proofs.Ytkdfidjoighknaa.Nm Go.Proofs.Ytkdfidjoighknaa.Ln
set_option maxRecDepth 100000 in
set_option maxHeartbeats 32000000 in
theorem rrange1_ok (k : Int) (p q r : Option Addr) (xs : List Mo) (ns : List ByteArray) (zs : List Int) (c d f : Nat) (w : World) (hn : xs.length ≤ maxLen) (hm : ns.length ≤ maxLen) (hz : zs.length ≤ maxLen) (RM : Hid (SlM w p xs)) (RN : Hid (SlT w q ns)) (RZ : Hid (SlI w r zs)) (RS : Hid (∀ i, i < xs.length → (xs.getD i mo0).1.size ≤ maxLen)) (RK : Hid (∀ i, i < xs.length → F64 (xs.getD i mo0).2)) (hk : F64 k) (h1 : okL xs = true) (h2 : bV zs = 0) (h3 : ns.length = zs.length) (h4 : cnt zs ≠ 0) :
    Calls Try.prog 33 #[Lv k p xs.length c, .slice q ns.length d, .slice r zs.length f] w (RW3 (rT k xs ns zs) w) := by
  have BX := Lib.hid ((Below.refl w.heap.size w).alloc (Nat.le_refl _) (Obj.cells #[Value.int .i64 k, Value.slice p xs.length c] 44))
  have hb0 : (w.alloc (Obj.cells #[Value.int .i64 k, Value.slice p xs.length c] 44)).cell? ⟨w.heap.size, 0, none⟩ = some (.int .i64 k) := by go_cell
  have hb1 : (w.alloc (Obj.cells #[Value.int .i64 k, Value.slice p xs.length c] 44)).cell? ⟨w.heap.size, 1, none⟩ = some (.slice p xs.length c) := by go_cell
  have hlt0 : w.heap.size < (w.alloc (Obj.cells #[Value.int .i64 k, Value.slice p xs.length c] 44)).heap.size := by simp
  have HLT := Lib.hid hlt0
  have CV := Lib.hid fun (u : World) (hu : Below w.heap.size w u) => right k p xs c u hn (Lib.hid (SlM.keep hu RM.out)) RS
  have CB := Lib.hid fun (u : World) (hu : Below w.heap.size w u) => rbval_dr (p := r) (zs := zs) (c := f) (w := u) hz (Lib.hid (SlI.keep hu RZ.out))
  have CC := Lib.hid fun (u : World) (hu : Below w.heap.size w u) => rcount1 r zs f u hz (Lib.hid (SlI.keep hu RZ.out))
  rw [h1] at CV
  have hcp : 0 < cnt zs := by have := (cnt_bd zs).1; omega
  obtain ⟨_, h16, hl, hcs, p0, p1⟩ := cnt_pos (Int.le_refl 0) hcp
  have HLO := Lib.hid hl
  have HSP := Lib.hid p1
  have H1 := Lib.hid h1
  have H2 := Lib.hid h2
  have H3 := Lib.hid (And.intro h3 h4)
  rw [h2] at CB
  obtain ⟨N, hN⟩ : ∃ N, zs.length = N := ⟨_, rfl⟩
  have HZl := Lib.hid hN
  have HNl := Lib.hid (h3.trans hN)
  rw [h3, hN]
  rw [hN] at CB CC h16
  have CEX := Lib.hid fun (u : World) (s : ByteArray) (hu : Below w.heap.size w u) => ext1 N q r ns zs d f s u (by unfold maxLen; omega) HNl HZl (Lib.hid (SlT.keep hu RN.out)) (Lib.hid (SlI.keep hu RZ.out))
  obtain ⟨CN, hCN⟩ : ∃ CN, cnt zs = CN := ⟨_, rfl⟩
  rw [hCN] at CC hcp
  have q0 : (CN == 0) = false := beq_false_of_ne (by omega)
  unfold maxLen at hn
  clear h1 h2 h3 h4 hl hcs p0 p1 hN hCN hm hz
  unfold Lv
  go_enter Try.func33, Try.ntmps33
  go_wp2_with fail
  generalize w.alloc (Obj.cells #[Value.int .i64 k, Value.slice p xs.length c] 44) = wb at *
  refine (CV.out wb BX.out).mono ?_
  rintro e w1 ⟨rfl, hb⟩
  have K1 := Lib.hid (BX.out.trans (hb.mono BX.out.size))
  have HLT1 := Lib.hid (Nat.lt_of_lt_of_le HLT.out hb.size)
  have hx0 : w1.cell? ⟨w.heap.size, 0, none⟩ = some (.int .i64 k) := (hb.cell (p := ⟨w.heap.size, 0, none⟩) HLT.out).trans hb0
  have hx1 : w1.cell? ⟨w.heap.size, 1, none⟩ = some (.slice p xs.length c) := (hb.cell (p := ⟨w.heap.size, 1, none⟩) HLT.out).trans hb1
  clear hb hb0 hb1 CV BX HLT hlt0
  go_wp2_with fail
  refine (CB.out w1 K1.out).mono ?_
  rintro e w' ⟨rfl, md, rfl⟩
  have K2 := Lib.hid (World.below_drewN' K1.out md)
  have y0 : (w1.drewN md).cell? ⟨w.heap.size, 0, none⟩ = some (.int .i64 k) := hx0
  have y1 : (w1.drewN md).cell? ⟨w.heap.size, 1, none⟩ = some (.slice p xs.length c) := hx1
  have HLT2 : Hid (w.heap.size < (w1.drewN md).heap.size) := HLT1
  clear hx0 hx1 K1 HLT1
  generalize w1.drewN md = w2 at *
  go_wp2_with fail
  refine (CC.out w2 K2.out).mono ?_
  rintro e w' ⟨rfl, me, rfl⟩
  have K3 := Lib.hid (World.below_drewN' K2.out me)
  have x0 : (w2.drewN me).cell? ⟨w.heap.size, 0, none⟩ = some (.int .i64 k) := y0
  have x1 : (w2.drewN me).cell? ⟨w.heap.size, 1, none⟩ = some (.slice p xs.length c) := y1
  have HLT3 : Hid (w.heap.size < (w2.drewN me).heap.size) := HLT2
  clear y0 y1 K2 HLT2 CB CC
  generalize w2.drewN me = w3 at *
  go_wp2_with fail
  go_loop [10] (fun i => ∃ (j : Nat), i = .int .i64 j ∧ j ≤ xs.length ∧ Hid (∀ i, i < j → kn ns (xs.getD i mo0) = true)) (fun i => xs.length - (intOf i).toNat)
  case atStart => exact ⟨0, rfl, by omega, Lib.hid fun i hi => by omega⟩
  case round =>
    obtain ⟨j, rfl, hj, HL⟩ := hrel
    have j0 : (0 : Int) ≤ j := by omega
    by_cases hjl : j < xs.length
    · have j1 : (j : Int) < xs.length := by omega
      obtain ⟨b, o, rfl, c0, c1⟩ := SlM.keep K3.out RM.out j hjl
      obtain ⟨s, hs⟩ : ∃ s, (xs.getD j mo0).1 = s := ⟨_, rfl⟩
      rw [hs] at c0
      have HKN : Hid (kn ns (xs.getD j mo0) = decide (fx ns s < N)) := Lib.hid (by unfold kn; rw [hs, HNl.out])
      clear hs c1
      have CK := Lib.hid (CEX.out w3 s K3.out)
      by_cases hk2 : fx ns s < N
      · have HL2 : Hid (∀ i, i < j + 1 → kn ns (xs.getD i mo0) = true) := Lib.hid fun i hi => by
          rcases (by omega : i < j ∨ i = j) with h | rfl
          · exact HL.out i h
          · rw [HKN.out]; exact decide_eq_true hk2
        rw [decide_eq_true hk2] at CK
        clear hk2
        go_wp2_with fail
        refine CK.out.mono ?_
        rintro e w' ⟨rfl, rfl⟩
        go_wp2
        go_round
        case rel => exact ⟨j + 1, by go_num, by omega, HL2⟩
        case measure => simp [intOf]; omega
      · have HF : Hid (rT k xs ns zs = (0, 0, 9)) := Lib.hid (rT4 H1.out H2.out H3.out (not_kn hjl (by rw [HKN.out]; exact decide_eq_false hk2)))
        rw [decide_eq_false hk2] at CK
        clear hk2
        go_wp2_with fail
        refine CK.out.mono ?_
        rintro e w' ⟨rfl, rfl⟩
        go_wp2
        refine bodyPost_ret (v := .tuple #[.int .i64 0, .int .i64 0, .int .i64 9]) (by simp [results, Try.results33, go_sem]) rfl ?_
        rw [HF.out]
        exact ⟨rfl, K3.out⟩
    · have j1 : ¬ (j : Int) < xs.length := by omega
      have HALL := Lib.hid (all_kn (by omega : xs.length ≤ j) HL.out)
      clear HL
      go_wp2_with fail
      go_loop [13, 14, 15] (fun lo hi i => ∃ (j : Nat) (A B : Int), lo = .int .i64 A ∧ hi = .int .i64 B ∧ i = .int .i64 j ∧ j ≤ xs.length ∧ F64 A ∧ F64 B ∧ Hid (rfo zs ns xs (k, k) = rfo zs ns (xs.drop j) (A, B))) (fun _ _ i => xs.length - (intOf i).toNat)
      case atStart => exact ⟨0, k, k, rfl, rfl, rfl, by omega, hk, hk, Lib.hid rfl⟩
      case round =>
        obtain ⟨j, A, B, rfl, rfl, rfl, hj, hA, hB, HE⟩ := hrel
        obtain ⟨A0, A1⟩ := hA
        obtain ⟨B0, B1⟩ := hB
        have j0 : (0 : Int) ≤ j := by omega
        have KB := K3
        by_cases hjl : j < xs.length
        · have j1 : (j : Int) < xs.length := by omega
          obtain ⟨b, o, rfl, c0, c1⟩ := SlM.keep KB.out RM.out j hjl
          have hst := rfo_step (zs := zs) (ns := ns) hjl (A, B)
          rw [← HE.out] at hst
          have hkn : fx ns (xs.getD j mo0).1 < N := by
            have := List.all_eq_true.1 HALL.out _ (List.getElem_mem hjl)
            rw [← getM hjl] at this
            unfold kn at this
            rw [HNl.out] at this
            exact of_decide_eq_true this
          have hco := RK.out j hjl
          unfold stp at hst
          obtain ⟨s, hs⟩ : ∃ s, (xs.getD j mo0).1 = s := ⟨_, rfl⟩
          obtain ⟨a, ha⟩ : ∃ a, (xs.getD j mo0).2 = a := ⟨_, rfl⟩
          rw [hs] at c0 hst hkn
          rw [ha] at c1 hst hco
          clear hs ha
          have CEX2 := Lib.hid fun (u : World) (hu : Below w.heap.size w u) => CEX.out u s hu
          have hzl := z_last HLO.out HSP.out (i := fx ns s) (by rw [HZl.out]; exact hkn)
          rw [show exV N ns zs s = zs.getD (fx ns s) 0 from if_pos hkn, decide_eq_true hkn] at CEX2
          obtain ⟨y, hy⟩ : ∃ y, zs.getD (fx ns s) 0 = y := ⟨_, rfl⟩
          rw [hy] at hst hzl CEX2
          obtain ⟨a0, a1⟩ := hco
          obtain ⟨y0, y1⟩ := hzl
          have CT := Lib.hid fun (u : World) => times a (y - 1) u a0 a1 (by omega) (by omega)
          generalize a * (y - 1) = Q at CT hst
          have CTY : Hid (fit64 Q = true → Calls Try.prog 60 #[.int .i64 a, .int .i64 (y - 1)] w3 fun e w' => e = .returned (.tuple #[.int .i64 Q, .bool true]) ∧ w3 = w') := Lib.hid fun h => by have c := CT.out w3; rw [h, if_pos rfl] at c; exact c
          have CTN : Hid (fit64 Q = false → Calls Try.prog 60 #[.int .i64 a, .int .i64 (y - 1)] w3 fun e w' => e = .returned (.tuple #[.int .i64 0, .bool false]) ∧ w3 = w') := Lib.hid fun h => by have c := CT.out w3; rw [h, if_neg (by decide)] at c; exact c
          clear hy hkn
          by_cases hneg : a < 0
          · rw [if_pos hneg] at hst
            have d1 : decide (a < 0) = true := decide_eq_true hneg
            have HST := Lib.hid hst
            clear hst
            go_wp2_with fail
            refine (CEX2.out _ KB.out).mono ?_
            rintro e w' ⟨rfl, rfl⟩
            go_wp2_with fail
            by_cases hP : fit64 Q = true
            · rw [hP] at CT
              have CT := Lib.hid (CT.out)
              have hq := fit_yes.1 hP
              refine (CTY.out hP).mono ?_
              rintro e w' ⟨rfl, rfl⟩
              by_cases hS : fit64 (A + Q) = true
              · have CP := Lib.hid fun u => plusY A Q u A0 A1 hq.1 hq.2 hS
                have hsf := fit_yes.1 hS
                rw [show wrap64 (A + Q) = A + Q by unfold wrap64; omega] at CP
                have HE2 := HST.out
                rw [if_pos (show F64 Q ∧ F64 ((A, B).1 + Q) from ⟨hq, hsf⟩)] at HE2
                have HE3 := Lib.hid HE2
                have hS64 : F64 (A + Q) := hsf
                clear hP hq hS hsf HE2 CT CTY CTN
                go_wp2_with fail
                refine (CP.out _).mono ?_
                rintro e w' ⟨rfl, rfl⟩
                go_wp2
                go_round
                case rel => exact ⟨j + 1, A + Q, B, rfl, rfl, by go_num, by omega, hS64, ⟨B0, B1⟩, HE3⟩
                case measure => simp [intOf]; omega
              · have hS2 : fit64 (A + Q) = false := by simpa using hS
                have CP := Lib.hid fun u => plusN A Q u A0 A1 hq.1 hq.2 hS2
                have HE2 := HST.out
                rw [if_neg (show ¬ (F64 Q ∧ F64 ((A, B).1 + Q)) from fun e => hS (fit_yes.2 e.2))] at HE2
                have HF9 : Hid (rT k xs ns zs = (0, 0, 3)) := Lib.hid (rT5 H1.out H2.out H3.out HALL.out HE2)
                clear hP hq hS hS2 HE2 CT CTY CTN
                go_wp2_with fail
                refine (CP.out _).mono ?_
                rintro e w' ⟨rfl, rfl⟩
                go_wp2
                refine bodyPost_ret (v := .tuple #[.int .i64 0, .int .i64 0, .int .i64 3]) (by simp [results, Try.results33, go_sem]) rfl ?_
                rw [HF9.out]
                exact ⟨rfl, KB.out⟩
            · have hP2 : fit64 Q = false := by simpa using hP
              refine (CTN.out hP2).mono ?_
              rintro e w' ⟨rfl, rfl⟩
              have CP := Lib.hid fun u => plusY A 0 u A0 A1 (by decide) (by decide) (by rw [Int.add_zero]; exact fit_yes.2 ⟨A0, A1⟩)
              rw [show wrap64 (A + 0) = A by unfold wrap64; omega] at CP
              have HE2 := HST.out
              rw [if_neg (show ¬ (F64 Q ∧ F64 ((A, B).1 + Q)) from fun e => hP (fit_yes.2 e.1))] at HE2
              have HF9 : Hid (rT k xs ns zs = (0, 0, 3)) := Lib.hid (rT5 H1.out H2.out H3.out HALL.out HE2)
              clear hP hP2 HE2 CT CTY CTN
              go_wp2_with fail
              refine (CP.out _).mono ?_
              rintro e w' ⟨rfl, rfl⟩
              go_wp2
              refine bodyPost_ret (v := .tuple #[.int .i64 0, .int .i64 0, .int .i64 3]) (by simp [results, Try.results33, go_sem]) rfl ?_
              rw [HF9.out]
              exact ⟨rfl, KB.out⟩
          · rw [if_neg hneg] at hst
            have d1 : decide (a < 0) = false := decide_eq_false hneg
            have HST := Lib.hid hst
            clear hst
            go_wp2_with fail
            refine (CEX2.out _ KB.out).mono ?_
            rintro e w' ⟨rfl, rfl⟩
            go_wp2_with fail
            by_cases hP : fit64 Q = true
            · rw [hP] at CT
              have CT := Lib.hid (CT.out)
              have hq := fit_yes.1 hP
              refine (CTY.out hP).mono ?_
              rintro e w' ⟨rfl, rfl⟩
              by_cases hS : fit64 (B + Q) = true
              · have CP := Lib.hid fun u => plusY B Q u B0 B1 hq.1 hq.2 hS
                have hsf := fit_yes.1 hS
                rw [show wrap64 (B + Q) = B + Q by unfold wrap64; omega] at CP
                have HE2 := HST.out
                rw [if_pos (show F64 Q ∧ F64 ((A, B).2 + Q) from ⟨hq, hsf⟩)] at HE2
                have HE3 := Lib.hid HE2
                have hS64 : F64 (B + Q) := hsf
                clear hP hq hS hsf HE2 CT CTY CTN
                go_wp2_with fail
                refine (CP.out _).mono ?_
                rintro e w' ⟨rfl, rfl⟩
                go_wp2
                go_round
                case rel => exact ⟨j + 1, A, B + Q, rfl, rfl, by go_num, by omega, ⟨A0, A1⟩, hS64, HE3⟩
                case measure => simp [intOf]; omega
              · have hS2 : fit64 (B + Q) = false := by simpa using hS
                have CP := Lib.hid fun u => plusN B Q u B0 B1 hq.1 hq.2 hS2
                have HE2 := HST.out
                rw [if_neg (show ¬ (F64 Q ∧ F64 ((A, B).2 + Q)) from fun e => hS (fit_yes.2 e.2))] at HE2
                have HF9 : Hid (rT k xs ns zs = (0, 0, 3)) := Lib.hid (rT5 H1.out H2.out H3.out HALL.out HE2)
                clear hP hq hS hS2 HE2 CT CTY CTN
                go_wp2_with fail
                refine (CP.out _).mono ?_
                rintro e w' ⟨rfl, rfl⟩
                go_wp2
                refine bodyPost_ret (v := .tuple #[.int .i64 0, .int .i64 0, .int .i64 3]) (by simp [results, Try.results33, go_sem]) rfl ?_
                rw [HF9.out]
                exact ⟨rfl, KB.out⟩
            · have hP2 : fit64 Q = false := by simpa using hP
              refine (CTN.out hP2).mono ?_
              rintro e w' ⟨rfl, rfl⟩
              have CP := Lib.hid fun u => plusY B 0 u B0 B1 (by decide) (by decide) (by rw [Int.add_zero]; exact fit_yes.2 ⟨B0, B1⟩)
              rw [show wrap64 (B + 0) = B by unfold wrap64; omega] at CP
              have HE2 := HST.out
              rw [if_neg (show ¬ (F64 Q ∧ F64 ((A, B).2 + Q)) from fun e => hP (fit_yes.2 e.1))] at HE2
              have HF9 : Hid (rT k xs ns zs = (0, 0, 3)) := Lib.hid (rT5 H1.out H2.out H3.out HALL.out HE2)
              clear hP hP2 HE2 CT CTY CTN
              go_wp2_with fail
              refine (CP.out _).mono ?_
              rintro e w' ⟨rfl, rfl⟩
              go_wp2
              refine bodyPost_ret (v := .tuple #[.int .i64 0, .int .i64 0, .int .i64 3]) (by simp [results, Try.results33, go_sem]) rfl ?_
              rw [HF9.out]
              exact ⟨rfl, KB.out⟩
        · have j1 : ¬ (j : Int) < xs.length := by omega
          have HF9 : Hid (rT k xs ns zs = (A, B, 0)) := Lib.hid (by
            have h := HE.out
            rw [List.drop_of_length_le (by omega)] at h
            exact rT6 H1.out H2.out H3.out HALL.out h)
          go_wp2
          refine bodyPost_ret (v := .tuple #[.int .i64 A, .int .i64 B, .int .i64 0]) (by simp [results, Try.results33, go_sem]) rfl ?_
          rw [HF9.out]
          exact ⟨rfl, KB.out⟩
theorem rrange1 (k : Int) (p q r : Option Addr) (xs : List Mo) (ns : List ByteArray) (zs : List Int) (c d f : Nat) (w : World) (hn : xs.length ≤ maxLen) (hm : ns.length ≤ maxLen) (hz : zs.length ≤ maxLen) (RM : Hid (SlM w p xs)) (RN : Hid (SlT w q ns)) (RZ : Hid (SlI w r zs)) (RS : Hid (∀ i, i < xs.length → (xs.getD i mo0).1.size ≤ maxLen)) (RK : Hid (∀ i, i < xs.length → F64 (xs.getD i mo0).2)) (hk : F64 k) : Calls Try.prog 33 #[Lv k p xs.length c, .slice q ns.length d, .slice r zs.length f] w (RW3 (rT k xs ns zs) w) := by
  by_cases h : okL xs = true ∧ bV zs = 0 ∧ (ns.length = zs.length ∧ cnt zs ≠ 0)
  · exact rrange1_ok k p q r xs ns zs c d f w hn hm hz RM RN RZ RS RK hk h.1 h.2.1 h.2.2.1 h.2.2.2
  · exact rrange1_bad k p q r xs ns zs c d f w hn hm hz RM RN RZ RS RK hk h
end Go.Proofs.Ytkdfidjoighknaa.Bx
