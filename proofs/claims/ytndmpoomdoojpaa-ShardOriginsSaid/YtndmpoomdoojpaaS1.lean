/- Specs: slices.Contains; the entries. -/
import Derived.Test.YtndmpoomdoojpaaS0
namespace Go.Proofs.Ytndmpoomdoojpaa.Sh
open Go.ChangeShapes Go.WideShapes Go.ChangeAt Go.RowKit
set_option linter.unusedVariables false
set_option linter.unusedSimpArgs false
/-- slices.Index of a number. -/
def IDX (zs : List Int) (x : Int) (w : World) (e : Ending) (w' : World) : Prop := w = w' ∧ ((x ∉ zs ∧ e = .returned (.int .i64 (-1))) ∨ ∃ i : Nat, x ∈ zs ∧ e = .returned (.int .i64 (i : Int)))
set_option maxHeartbeats 4000000 in
theorem index1 (p : Option Addr) (zs : List Int) (c : Nat) (x : Int) (w : World) (hn : zs.length ≤ maxLen) (RA : Hid (SlI w p zs)) :
    Calls Try.prog 76 #[.slice p zs.length c, .int .i64 x] w (IDX zs x w) := by
  unfold maxLen at hn
  go_enter Try.func76, Try.ntmps76
  go_wp2
  go_loop [8] (fun i => ∃ (k : Nat), i = .int .i64 k ∧ k ≤ zs.length ∧ Hid (∀ j, j < k → zs.getD j 0 ≠ x)) (fun i => zs.length - (intOf i).toNat)
  case atStart => exact ⟨0, rfl, by omega, Lib.hid fun j hj => by omega⟩
  case round =>
    obtain ⟨k, rfl, hk, hL⟩ := hrel
    by_cases hlt : k < zs.length
    · obtain ⟨b, o, rfl, hc⟩ := RA.out k hlt
      obtain ⟨z, hz⟩ : ∃ z, zs.getD k 0 = z := ⟨_, rfl⟩
      rw [hz] at hc
      have HZ := Lib.hid hz
      clear hz
      by_cases he : x = z
      · have q2 : (x == z) = true := beq_iff_eq.2 he
        have HE := Lib.hid he
        clear he
        go_wp2
        go_ret
        exact ⟨rfl, .inr ⟨k, by rw [HE.out, ← HZ.out, getD_at hlt]; exact List.getElem_mem hlt, rfl⟩⟩
      · have q2 : (x == z) = false := beq_false_of_ne he
        have HL2 : Hid (∀ j, j < k + 1 → zs.getD j 0 ≠ x) := Lib.hid fun j hj => by
          rcases Nat.lt_or_ge j k with h | h
          · exact hL.out j h
          · obtain rfl : j = k := by omega
            rw [HZ.out]; exact fun e => he e.symm
        clear he
        go_wp2
        go_round
        case rel => exact ⟨k + 1, by go_num, by omega, HL2⟩
        case measure => simp [intOf]; omega
    · have HN : Hid (x ∉ zs) := Lib.hid fun h => by
        obtain ⟨j, hj, e⟩ := List.getElem_of_mem h
        exact hL.out j (by omega) (by rw [getD_at hj]; exact e)
      go_wp2
      go_ret
      exact ⟨rfl, .inl ⟨HN.out, rfl⟩⟩
theorem contains1 (p : Option Addr) (zs : List Int) (c : Nat) (x : Int) (w : World) (hn : zs.length ≤ maxLen) (RA : Hid (SlI w p zs)) :
    Calls Try.prog 63 #[.slice p zs.length c, .int .i64 x] w fun e w' => e = .returned (.bool (decide (x ∈ zs))) ∧ w = w' := by
  have C := Lib.hid (index1 p zs c x w hn RA)
  go_enter Try.func63, Try.ntmps63
  go_wp2_with fail
  refine C.out.mono ?_
  rintro e w' ⟨rfl, ⟨h, rfl⟩ | ⟨i, h, rfl⟩⟩
  · have H := Lib.hid h
    clear h
    go_wp2
    go_ret
    exact ⟨by rw [decide_eq_false H.out]; rfl, rfl⟩
  · have H := Lib.hid h
    have i0 : (0 : Int) ≤ i := by omega
    clear h
    go_wp2
    go_ret
    exact ⟨by rw [decide_eq_true H.out]; rfl, rfl⟩
theorem SlI.take {w : World} {p : Option Addr} {zs : List Int} (h : SlI w p zs) (k : Nat) : SlI w p (zs.take k) := fun i hi => by
  rw [List.length_take] at hi
  obtain ⟨b, o, e, hc⟩ := h i (by omega)
  refine ⟨b, o, e, ?_⟩
  rw [hc]
  unfold List.getD
  rw [List.getElem?_take, if_pos (by omega)]
/-- The entries of a spec before place k: axes of a mesh of n axes, each at most once, or -1. -/
def okAt (n : Nat) (s : List Int) (i : Nat) : Bool := (decide (-1 ≤ s.getD i 0) && decide (s.getD i 0 < n)) && !(decide (0 ≤ s.getD i 0) && decide (s.getD i 0 ∈ s.take i))
def plB (n : Nat) (s : List Int) : Bool := (List.range s.length).all (okAt n s)
theorem plB_of {n : Nat} {s : List Int} {k : Nat} (h : ∀ j, j < k → okAt n s j = true) (hk : s.length ≤ k) : plB n s = true := by
  unfold plB
  rw [List.all_eq_true]
  intro j hj
  rw [List.mem_range] at hj
  exact h j (by omega)
theorem plB_no {n : Nat} {s : List Int} {k : Nat} (h : okAt n s k = false) (hk : k < s.length) : plB n s = false := by
  unfold plB
  rw [List.all_eq_false]
  exact ⟨k, List.mem_range.2 hk, by rw [h]; decide⟩
theorem plB_at {n : Nat} {s : List Int} (h : plB n s = true) {k : Nat} (hk : k < s.length) : okAt n s k = true := by
  unfold plB at h
  exact List.all_eq_true.1 h k (List.mem_range.2 hk)
theorem okAt_rg {n : Nat} {s : List Int} {k : Nat} (h : okAt n s k = true) : -1 ≤ s.getD k 0 ∧ s.getD k 0 < n ∧ (0 ≤ s.getD k 0 → s.getD k 0 ∉ s.take k) := by
  unfold okAt at h
  rw [Bool.and_eq_true, Bool.and_eq_true] at h
  refine ⟨of_decide_eq_true h.1.1, of_decide_eq_true h.1.2, fun h0 hm => ?_⟩
  have h2 := h.2
  rw [decide_eq_true h0, decide_eq_true hm] at h2
  cases h2
end Go.Proofs.Ytndmpoomdoojpaa.Sh
