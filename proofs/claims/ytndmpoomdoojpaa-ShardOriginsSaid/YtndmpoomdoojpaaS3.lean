/- Specs: the reference's entries. -/
import Derived.Test.YtndmpoomdoojpaaS2
namespace Go.Proofs.Ytndmpoomdoojpaa.Sh
open Go.ChangeShapes Go.WideShapes Go.ChangeAt Go.RowKit
set_option linter.unusedVariables false
set_option linter.unusedSimpArgs false
theorem World.below_drewN' {B : Nat} {w u : World} (h : Below B w u) (n : Nat) : Below B w (u.drewN n) := ⟨h.os, h.tape, h.output, h.size, h.block⟩
set_option maxRecDepth 100000 in
set_option maxHeartbeats 16000000 in
theorem entries1 (p q : Option Addr) (ms ss : List Int) (c d : Nat) (w : World) (hm : ms.length ≤ maxLen) (hn : ss.length ≤ maxLen) (RB : Hid (SlI w q ss)) :
    Calls Try.prog 62 #[.agg #[.slice p ms.length c], .slice q ss.length d] w (Ret (.bool (plB ms.length ss)) w) := by
  have BA := (Below.refl w.heap.size w).alloc (Nat.le_refl _) (Obj.cells #[Value.slice p ms.length c] 48)
  have RB2 := Lib.hid (SlI.keep BA RB.out)
  have hbx : (w.alloc (Obj.cells #[Value.slice p ms.length c] 48)).cell? ⟨w.heap.size, 0, none⟩ = some (.slice p ms.length c) := by go_cell
  have HBA := Lib.hid fun r => BA.trans ((World.below_drewN' (Below.refl _ (w.alloc (Obj.cells #[Value.slice p ms.length c] 48))) r).mono BA.size)
  unfold maxLen at hm hn
  clear BA
  go_enter Try.func62, Try.ntmps62
  go_wp2
  generalize w.alloc (Obj.cells #[Value.slice p ms.length c] 48) = wb at *
  go_loopw [5] (fun i wr => ∃ (k r : Nat), i = .int .i64 k ∧ k ≤ ss.length ∧ wr = wb.drewN r ∧ Hid (∀ j, j < k → okAt ms.length ss j = true)) (fun i _ => ss.length - (intOf i).toNat)
  case atStart => exact ⟨0, 0, rfl, by omega, rfl, Lib.hid fun j hj => by omega⟩
  case round =>
    obtain ⟨k, r, rfl, hk, rfl, hL⟩ := hrel
    have k0 : (0 : Int) ≤ k := by omega
    by_cases hlt : k < ss.length
    · obtain ⟨b, o, rfl, hc⟩ := RB2.out k hlt
      obtain ⟨z, hz⟩ : ∃ z, ss.getD k 0 = z := ⟨_, rfl⟩
      rw [hz] at hc
      have HZ := Lib.hid hz
      clear hz
      have k1 : (k : Int) < ss.length := by omega
      by_cases h1 : z < -1
      · have HF : Hid (plB ms.length ss = false) := Lib.hid (plB_no (okAt_not fun h => by rw [HZ.out] at h; omega) hlt)
        go_wp2
        go_quiet (fail)
        go_wp2
        go_ret
        exact ⟨by rw [HF.out]; rfl, by first | exact HBA.out _ | (rw [World.drewN_drewN]; exact HBA.out _)⟩
      · by_cases h2 : (ms.length : Int) ≤ z
        · have HF : Hid (plB ms.length ss = false) := Lib.hid (plB_no (okAt_not fun h => by rw [HZ.out] at h; omega) hlt)
          go_wp2
          go_quiet (fail)
          go_wp2
          go_ret
          exact ⟨by rw [HF.out]; rfl, by first | exact HBA.out _ | (rw [World.drewN_drewN]; exact HBA.out _)⟩
        · go_wp2
          go_quiet (fail)
          go_wp2
          go_loopw [6] (fun i wr => ∃ (kk r2 : Nat), i = .int .i64 kk ∧ kk ≤ k ∧ wr = wb.drewN r2 ∧ Hid (∀ j, j < kk → ¬ (0 ≤ z ∧ ss.getD j 0 = z))) (fun i _ => k - (intOf i).toNat)
          case atStart => exact ⟨0, _, rfl, by omega, by rw [World.drewN_drewN], Lib.hid fun j hj => by omega⟩
          case round =>
            obtain ⟨kk, r2, rfl, hkk, rfl, hK⟩ := hrel
            have j0 : (0 : Int) ≤ kk := by omega
            by_cases hlt2 : kk < k
            · have j1 : (kk : Int) < k := by omega
              have j2 : (kk : Int) < ss.length := by omega
              obtain ⟨b', o', e', hc2⟩ := RB2.out kk (by omega)
              cases e'
              obtain ⟨y, hy⟩ : ∃ y, ss.getD kk 0 = y := ⟨_, rfl⟩
              rw [hy] at hc2
              have HY := Lib.hid hy
              clear hy
              by_cases h3 : 0 ≤ z
              · by_cases h4 : y = z
                · have HF : Hid (plB ms.length ss = false) := Lib.hid (plB_no (okAt_not fun h => by
                    rw [HZ.out] at h
                    refine h.2.2 h3 (List.mem_iff_getElem.2 ⟨kk, by rw [List.length_take]; omega, ?_⟩)
                    rw [List.getElem_take, ← h4, ← HY.out, getD_at (by omega)]) hlt)
                  have q2 : (y == z) = true := beq_iff_eq.2 h4
                  clear h4
                  go_wp2
                  go_quiet (fail)
                  go_wp2
                  go_ret
                  exact ⟨by rw [HF.out]; rfl, by first | exact HBA.out _ | (rw [World.drewN_drewN]; exact HBA.out _)⟩
                · have q2 : (y == z) = false := beq_false_of_ne h4
                  have HK2 : Hid (∀ j, j < kk + 1 → ¬ (0 ≤ z ∧ ss.getD j 0 = z)) := Lib.hid fun j hj => by
                    rcases Nat.lt_or_ge j kk with h | h
                    · exact hK.out j h
                    · obtain rfl : j = kk := by omega
                      rw [HY.out]; exact fun e => h4 e.2
                  clear h4
                  go_wp2
                  go_quiet (fail)
                  go_wp2
                  go_roundw
                  case rel => exact ⟨kk + 1, _, by go_num, by omega, by first | rfl | rw [World.drewN_drewN], HK2⟩
                  case measure => simp [intOf]; omega
              · have HK2 : Hid (∀ j, j < kk + 1 → ¬ (0 ≤ z ∧ ss.getD j 0 = z)) := Lib.hid fun j hj h => h3 h.1
                have q3 : decide (0 ≤ z) = false := decide_eq_false h3
                have q4 : z < 0 := by omega
                go_wp2
                go_quiet (fail)
                go_wp2
                go_roundw
                case rel => exact ⟨kk + 1, _, by go_num, by omega, by first | rfl | rw [World.drewN_drewN], HK2⟩
                case measure => simp [intOf]; omega
            · have j1 : ¬ (kk : Int) < k := by omega
              have HL2 : Hid (∀ j, j < k + 1 → okAt ms.length ss j = true) := Lib.hid fun j hj => by
                rcases Nat.lt_or_ge j k with h | h
                · exact hL.out j h
                · obtain rfl : j = k := by omega
                  refine okAt_of (by rw [HZ.out]; omega) (by rw [HZ.out]; omega) (fun h0 hmem => ?_)
                  rw [HZ.out] at h0 hmem
                  obtain ⟨i, hi, e⟩ := List.mem_iff_getElem.1 hmem
                  rw [List.length_take] at hi
                  rw [List.getElem_take] at e
                  exact hK.out i (by omega) ⟨h0, by rw [getD_at (by omega)]; exact e⟩
              go_wp2
              go_roundw
              case rel => exact ⟨k + 1, _, by go_num, by omega, rfl, HL2⟩
              case measure => simp [intOf]; omega
    · have HT : Hid (plB ms.length ss = true) := Lib.hid (plB_of hL.out (by omega))
      have k1 : ¬ (k : Int) < ss.length := by omega
      go_wp2
      go_ret
      exact ⟨by rw [HT.out]; rfl, by first | exact HBA.out _ | (rw [World.drewN_drewN]; exact HBA.out _)⟩
end Go.Proofs.Ytndmpoomdoojpaa.Sh
