/- Specs: plain. -/
import Derived.Test.YtndmpoomdoojpaaS1
namespace Go.Proofs.Ytndmpoomdoojpaa.Sh
open Go.ChangeShapes Go.WideShapes Go.ChangeAt Go.RowKit
set_option linter.unusedVariables false
set_option linter.unusedSimpArgs false
def OB (p : Option Addr) (n c : Nat) : Obj := Obj.cells #[Value.slice p n c] 48
theorem okAt_not {n : Nat} {s : List Int} {k : Nat} (h : ¬ (-1 ≤ s.getD k 0 ∧ s.getD k 0 < n ∧ (0 ≤ s.getD k 0 → s.getD k 0 ∉ s.take k))) : okAt n s k = false := by
  cases e : okAt n s k with
  | false => rfl
  | true => exact absurd (okAt_rg e) h
theorem okAt_of {n : Nat} {s : List Int} {k : Nat} (h1 : -1 ≤ s.getD k 0) (h2 : s.getD k 0 < n) (h3 : 0 ≤ s.getD k 0 → s.getD k 0 ∉ s.take k) : okAt n s k = true := by
  unfold okAt
  rw [decide_eq_true h1, decide_eq_true h2]
  by_cases h0 : 0 ≤ s.getD k 0
  · rw [decide_eq_true h0, decide_eq_false (h3 h0)]; rfl
  · rw [decide_eq_false h0]; rfl
set_option maxRecDepth 100000 in
set_option maxHeartbeats 8000000 in
theorem plain1 (p q : Option Addr) (ms ss : List Int) (c d : Nat) (w : World) (hm : ms.length ≤ maxLen) (hn : ss.length ≤ maxLen) (hd : ss.length ≤ d) (RB : Hid (SlI w q ss)) :
    Calls Try.prog 59 #[.agg #[.slice p ms.length c], .slice q ss.length d] w (Ret (.bool (plB ms.length ss)) w) := by
  have HM := Lib.hid hm
  have HS := Lib.hid hn
  have HD := Lib.hid hd
  have BA := (Below.refl w.heap.size w).alloc (Nat.le_refl _) (Obj.cells #[Value.slice p ms.length c] 48)
  have RB2 := Lib.hid (SlI.keep BA RB.out)
  have hbx : (w.alloc (Obj.cells #[Value.slice p ms.length c] 48)).cell? ⟨w.heap.size, 0, none⟩ = some (.slice p ms.length c) := by go_cell
  have HBA := Lib.hid BA
  unfold maxLen at hm hn
  clear BA
  go_enter Try.func59, Try.ntmps59
  go_wp2
  generalize w.alloc (Obj.cells #[Value.slice p ms.length c] 48) = wb at *
  go_loop [9] (fun i => ∃ (k : Nat), i = .int .i64 k ∧ k ≤ ss.length ∧ Hid (∀ j, j < k → okAt ms.length ss j = true)) (fun i => ss.length - (intOf i).toNat)
  case atStart => exact ⟨0, rfl, by omega, Lib.hid fun j hj => by omega⟩
  case round =>
    obtain ⟨k, rfl, hk, hL⟩ := hrel
    by_cases hlt : k < ss.length
    · obtain ⟨b, o, rfl, hc⟩ := RB2.out k hlt
      obtain ⟨z, hz⟩ : ∃ z, ss.getD k 0 = z := ⟨_, rfl⟩
      rw [hz] at hc
      have HZ := Lib.hid hz
      clear hz
      have k1 : (k : Int) < ss.length := by omega
      by_cases h1 : z < -1
      · have HF : Hid (plB ms.length ss = false) := Lib.hid (plB_no (okAt_not fun h => by rw [HZ.out] at h; omega) hlt)
        go_wp2
        go_ret
        exact ⟨by rw [HF.out]; rfl, HBA.out⟩
      · by_cases h2 : (ms.length : Int) ≤ z
        · have HF : Hid (plB ms.length ss = false) := Lib.hid (plB_no (okAt_not fun h => by rw [HZ.out] at h; omega) hlt)
          go_wp2
          go_ret
          exact ⟨by rw [HF.out]; rfl, HBA.out⟩
        · by_cases h3 : 0 ≤ z
          · have CC := contains1 (some ⟨b, o, none⟩) (ss.take k) d z wb (by rw [List.length_take]; exact Nat.le_trans (Nat.min_le_right _ _) HS.out) (Lib.hid (RB2.out.take k))
            rw [List.length_take, Nat.min_eq_left (by omega)] at CC
            have CC := Lib.hid CC
            by_cases h4 : z ∈ ss.take k
            · have HF : Hid (plB ms.length ss = false) := Lib.hid (plB_no (okAt_not fun h => by rw [HZ.out] at h; exact h.2.2 h3 h4) hlt)
              have H4 := Lib.hid (decide_eq_true h4)
              rw [H4.out] at CC
              clear h4
              go_wp2_with fail
              refine CC.out.mono ?_
              rintro e w' ⟨rfl, rfl⟩
              go_wp2
              go_ret
              exact ⟨by rw [HF.out]; rfl, HBA.out⟩
            · have HL2 : Hid (∀ j, j < k + 1 → okAt ms.length ss j = true) := Lib.hid fun j hj => by
                rcases Nat.lt_or_ge j k with h | h
                · exact hL.out j h
                · obtain rfl : j = k := by omega
                  exact okAt_of (by rw [HZ.out]; omega) (by rw [HZ.out]; omega) (fun _ => by rw [HZ.out]; exact h4)
              have H4 := Lib.hid (decide_eq_false h4)
              rw [H4.out] at CC
              clear h4
              go_wp2_with fail
              refine CC.out.mono ?_
              rintro e w' ⟨rfl, rfl⟩
              go_wp2
              go_round
              case rel => exact ⟨k + 1, by go_num, by omega, HL2⟩
              case measure => simp [intOf]; omega
          · have HL2 : Hid (∀ j, j < k + 1 → okAt ms.length ss j = true) := Lib.hid fun j hj => by
              rcases Nat.lt_or_ge j k with h | h
              · exact hL.out j h
              · obtain rfl : j = k := by omega
                exact okAt_of (by rw [HZ.out]; omega) (by rw [HZ.out]; omega) (fun h0 => by rw [HZ.out] at h0; exact absurd h0 h3)
            go_wp2
            go_round
            case rel => exact ⟨k + 1, by go_num, by omega, HL2⟩
            case measure => simp [intOf]; omega
    · have HT : Hid (plB ms.length ss = true) := Lib.hid (plB_of hL.out (by omega))
      have k1 : ¬ (k : Int) < ss.length := by omega
      go_wp2
      go_ret
      exact ⟨by rw [HT.out]; rfl, HBA.out⟩
end Go.Proofs.Ytndmpoomdoojpaa.Sh
