/- Specs: the reference's Replicas. -/
import Derived.Test.YtndmpoomdoojpaaS6
namespace Go.Proofs.Ytndmpoomdoojpaa.Sh
open Go.ChangeShapes Go.WideShapes Go.ChangeAt Go.RowKit
set_option linter.unusedVariables false
set_option linter.unusedSimpArgs false
theorem mem_take_succ {ss : List Int} {k : Nat} (h : k < ss.length) (x : Int) : decide (x ∈ ss.take (k + 1)) = (decide (x ∈ ss.take k) || ss.getD k 0 == x) := by
  rw [Bool.eq_iff_iff]
  simp only [decide_eq_true_iff, Bool.or_eq_true, beq_iff_eq]
  rw [List.take_succ_eq_append_getElem h, List.mem_append, List.mem_singleton, getD_at h]
  constructor <;> rintro (h | h)
  · exact .inl h
  · exact .inr h.symm
  · exact .inl h
  · exact .inr h.symm
set_option maxRecDepth 100000 in
set_option maxHeartbeats 16000000 in
theorem rrepl1 (p q : Option Addr) (ms ss : List Int) (c d : Nat) (w : World) (hm : ms.length ≤ maxLen) (hn : ss.length ≤ maxLen) (RM : Hid (SlI w p ms)) (RS : Hid (SlI w q ss)) :
    Calls Try.prog 39 #[.agg #[.slice p ms.length c], .slice q ss.length d] w (Ret (.int .i64 (rV ms ss)) w) := by
  have BA := (Below.refl w.heap.size w).alloc (Nat.le_refl _) (Obj.cells #[Value.slice p ms.length c] 48)
  have hbx : (w.alloc (Obj.cells #[Value.slice p ms.length c] 48)).cell? ⟨w.heap.size, 0, none⟩ = some (.slice p ms.length c) := by go_cell
  have hlt0 : w.heap.size < (w.alloc (Obj.cells #[Value.slice p ms.length c] 48)).heap.size := by simp
  have CM := Lib.hid fun u (hu : Below w.heap.size w u) => c38 p ms c u hm (Lib.hid (SlI.keep hu RM.out))
  have CP := Lib.hid fun u (hu : Below w.heap.size w u) => entries1 p q ms ss c d u hm hn (Lib.hid (SlI.keep hu RS.out))
  have HBA := Lib.hid BA
  have HLT := Lib.hid hlt0
  unfold maxLen at hm hn
  clear BA hlt0
  go_enter Try.func39, Try.ntmps39
  go_wp2_with fail
  generalize w.alloc (Obj.cells #[Value.slice p ms.length c] 48) = wb at *
  refine (CM.out wb HBA.out).mono ?_
  rintro e w1 ⟨rfl, hb1⟩
  have K1 := Lib.hid (HBA.out.trans (hb1.mono HBA.out.size))
  have hbx1 : w1.cell? ⟨w.heap.size, 0, none⟩ = some (.slice p ms.length c) := (hb1.cell (p := ⟨w.heap.size, 0, none⟩) HLT.out).trans hbx
  have HLT1 := Lib.hid (Nat.lt_of_lt_of_le HLT.out hb1.size)
  clear hb1 hbx CM HBA HLT
  by_cases h1 : mok ms = true
  · rw [mV_ok h1]
    have H1 := Lib.hid h1
    clear h1
    go_wp2_with fail
    refine (CP.out w1 K1.out).mono ?_
    rintro e w3 ⟨rfl, hb3⟩
    have K3 := Lib.hid (K1.out.trans (hb3.mono K1.out.size))
    have hbx3 : w3.cell? ⟨w.heap.size, 0, none⟩ = some (.slice p ms.length c) := (hb3.cell (p := ⟨w.heap.size, 0, none⟩) HLT1.out).trans hbx1
    clear hb3 hbx1 HLT1 K1 CP
    by_cases hpl : plB ms.length ss = true
    · have HF : Hid (rV ms ss = rp ms ss ms.length) := Lib.hid (if_pos ⟨H1.out, hpl⟩)
      rw [hpl]
      clear hpl
      go_wp2_with fail
      go_loop [5, 6] (fun r i => ∃ (k : Nat) (R : Int), r = .int .i64 R ∧ i = .int .i64 k ∧ k ≤ ms.length ∧ Hid (R = rp ms ss k)) (fun _ i => ms.length - (intOf i).toNat)
      case atStart => exact ⟨0, 1, rfl, rfl, by omega, Lib.hid rfl⟩
      case round =>
        obtain ⟨k, R, rfl, rfl, hk, hR⟩ := hrel
        have k0 : (0 : Int) ≤ k := by omega
        obtain ⟨r1, r2⟩ := rp_bd (ss := ss) H1.out k hk
        rw [← hR.out] at r1 r2
        by_cases hlt : k < ms.length
        · obtain ⟨b3, o3, rfl, hc3⟩ := SlI.keep K3.out RM.out k hlt
          obtain ⟨z1, z2⟩ := mok_el H1.out hlt
          obtain ⟨z, hz⟩ : ∃ z, ms.getD k 0 = z := ⟨_, rfl⟩
          have HZ := Lib.hid hz
          rw [hz] at hc3 z1 z2
          have k1 : (k : Int) < ms.length := by omega
          clear hz
          go_wp2_with fail
          go_loop [7, 8] (fun u i => ∃ (j : Nat) (U : Bool), u = .bool U ∧ i = .int .i64 j ∧ j ≤ ss.length ∧ Hid (U = decide ((k : Int) ∈ ss.take j))) (fun _ i => ss.length - (intOf i).toNat)
          case atStart => exact ⟨0, false, rfl, rfl, by omega, Lib.hid (by simp)⟩
          case round =>
            obtain ⟨j, U, rfl, rfl, hj, hU⟩ := hrel
            have j0 : (0 : Int) ≤ j := by omega
            by_cases hjl : j < ss.length
            · obtain ⟨b4, o4, rfl, hc4⟩ := SlI.keep K3.out RS.out j hjl
              have j1 : (j : Int) < ss.length := by omega
              have hs := mem_take_succ hjl (k : Int)
              rw [← hU.out] at hs
              obtain ⟨y, hy⟩ : ∃ y, ss.getD j 0 = y := ⟨_, rfl⟩
              rw [hy] at hc4 hs
              have HS := Lib.hid hs
              clear hs hy
              cases U
              · obtain ⟨V, hV⟩ : ∃ V, (y == (k : Int)) = V := ⟨_, rfl⟩
                have HS2 : Hid (V = decide ((k : Int) ∈ ss.take (j + 1))) := Lib.hid (by rw [HS.out, hV]; rfl)
                go_wp2
                go_round
                case rel => exact ⟨j + 1, V, by first | rfl | rw [hV], by go_num, by omega, HS2⟩
                case measure => simp [intOf]; omega
              · have HS2 : Hid (true = decide ((k : Int) ∈ ss.take (j + 1))) := Lib.hid (by rw [HS.out]; rfl)
                go_wp2
                go_round
                case rel => exact ⟨j + 1, true, rfl, by go_num, by omega, HS2⟩
                case measure => simp [intOf]; omega
            · have j1 : ¬ (j : Int) < ss.length := by omega
              have hU2 : U = decide ((k : Int) ∈ ss) := by rw [hU.out, List.take_of_length_le (by omega)]
              by_cases hin : (k : Int) ∈ ss
              · have HL2 : Hid (R = rp ms ss (k + 1)) := Lib.hid (by rw [rp_in hin]; exact hR.out)
                obtain rfl : U = true := by rw [hU2]; exact decide_eq_true hin
                clear hin hU2
                go_wp2
                go_round
                case rel => exact ⟨k + 1, R, rfl, by go_num, by omega, HL2⟩
                case measure => simp [intOf]; omega
              · obtain ⟨T, hT⟩ : ∃ T, R * z = T := ⟨_, rfl⟩
                have HL2 : Hid (T = rp ms ss (k + 1)) := Lib.hid (by rw [rp_out hin, ← hT, HZ.out, hR.out])
                have t1 := rp_bd (ss := ss) H1.out (k + 1) (by omega)
                rw [← HL2.out] at t1
                obtain ⟨t1, t2⟩ := t1
                obtain rfl : U = false := by rw [hU2]; exact decide_eq_false hin
                clear hin hU2
                go_wp2
                go_round
                case rel => exact ⟨k + 1, T, by first | rfl | rw [hT], by go_num, by omega, HL2⟩
                case measure => simp [intOf]; omega
        · have HE : Hid (R = rV ms ss) := Lib.hid (by rw [HF.out, hR.out]; congr 1; omega)
          have k1 : ¬ (k : Int) < ms.length := by omega
          go_wp2
          go_ret
          exact ⟨ret_int HE.out, K3.out⟩
    · have HF : Hid (rV ms ss = 0) := Lib.hid (if_neg fun h => hpl h.2)
      rw [Bool.not_eq_true] at hpl
      rw [hpl]
      clear hpl
      go_wp2
      go_ret
      exact ⟨ret_int HF.out.symm, K3.out⟩
  · have HF : Hid (rV ms ss = 0) := Lib.hid (if_neg fun h => h1 h.1)
    rw [mV_no h1]
    clear h1
    go_wp2
    go_ret
    exact ⟨ret_int HF.out.symm, K1.out⟩
end Go.Proofs.Ytndmpoomdoojpaa.Sh
