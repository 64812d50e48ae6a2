/- Linear forms: small forms. -/
import Derived.Test.YtbicmlkjonaccaaDoorY6
namespace Go.Proofs.YtbicmlkjonaccaaDoor.Ln
open Go.ChangeShapes Go.WideShapes Go.ChangeAt Go.RowKit
set_option linter.unusedVariables false
set_option linter.unusedSimpArgs false
theorem getD_memS {xs : List Mo} {j : Nat} (h : j < xs.length) : xs.getD j mo0 ∈ xs := by
  have e1 : xs.getD j mo0 = xs[j] := by unfold List.getD; rw [List.getElem?_eq_getElem h]; rfl
  rw [e1]
  exact List.getElem_mem h
theorem take_stepS {xs : List Mo} {j : Nat} (h : j < xs.length) : xs.take (j + 1) = xs.take j ++ [xs.getD j mo0] := by
  rw [List.take_succ_eq_append_getElem h]
  have e1 : xs.getD j mo0 = xs[j] := by unfold List.getD; rw [List.getElem?_eq_getElem h]; rfl
  rw [e1]
def smB (xs : List Mo) : Bool := decide (xs.length ≤ 40) && xs.all fun m => decide (m.1.size ≤ 40)
theorem smB_yes {xs : List Mo} (h : smB xs = true) : xs.length ≤ 40 ∧ ∀ m ∈ xs, m.1.size ≤ 40 := by
  unfold smB at h
  rw [Bool.and_eq_true, decide_eq_true_eq, List.all_eq_true] at h
  exact ⟨h.1, fun m hm => by simpa using h.2 m hm⟩
set_option maxRecDepth 100000 in
set_option maxHeartbeats 8000000 in
theorem small2 (k : Int) (p : Option Addr) (xs : List Mo) (c : Nat) (w : World) (hn : xs.length ≤ maxLen) (RA : Hid (SlM w p xs)) :
    Calls Tryd.prog 14 #[Lv k p xs.length c] w fun e w' => e = .returned (.bool (smB xs)) ∧ Below w.heap.size w w' := by
  have B0 : Below w.heap.size w (w.alloc (Obj.cells #[Value.int .i64 k, Value.slice p xs.length c] 24)) := (Below.refl _ _).alloc (Nat.le_refl _) _
  have f1 : ((w.alloc (Obj.cells #[Value.int .i64 k, Value.slice p xs.length c] 24))).cell? ⟨w.heap.size, 1, none⟩ = some (.slice p xs.length c) := by go_cell
  unfold maxLen at hn
  unfold Lv
  by_cases h40 : 40 < xs.length
  · have d1 : (40 : Int) < xs.length := by omega
    have HT := Lib.hid (show smB xs = false by unfold smB; rw [decide_eq_false (by omega)]; rfl)
    go_enter Tryd.func14, Tryd.ntmps14
    go_wp2
    go_ret
    exact ⟨ret_bool HT.out.symm, B0⟩
  · have d1 : ¬ (40 : Int) < xs.length := by omega
    have HT := Lib.hid (show smB xs = xs.all fun m => decide (m.1.size ≤ 40) by unfold smB; rw [decide_eq_true (by omega)]; rfl)
    go_enter Tryd.func14, Tryd.ntmps14
    go_wp2
    have RA1 := Lib.hid (SlM.keep B0 RA.out)
    generalize (w.alloc (Obj.cells #[Value.int .i64 k, Value.slice p xs.length c] 24)) = z at *
    go_loopw [3] (fun i wr => ∃ j : Nat, i = .int .i64 (j : Int) ∧ j ≤ xs.length ∧ wr = z ∧ Hid (∀ m ∈ xs.take j, m.1.size ≤ 40)) (fun i _ => xs.length - (intOf i).toNat)
    case atStart => exact ⟨0, rfl, by omega, rfl, Lib.hid (by simp)⟩
    case round =>
      obtain ⟨j, rfl, hk, rfl, HJ⟩ := hrel
      have k0 : (0 : Int) ≤ j := by omega
      by_cases hlt : j < xs.length
      · obtain ⟨b, o, rfl, c0, c1⟩ := RA1.out j hlt
        have htk := Lib.hid (take_stepS hlt)
        have hmem := Lib.hid (getD_memS hlt)
        obtain ⟨x, hx⟩ : ∃ x, xs.getD j mo0 = x := ⟨_, rfl⟩
        have htk := Lib.hid (by have h := htk.out; rw [hx] at h; exact h)
        have hmem := Lib.hid (by have h := hmem.out; rw [hx] at h; exact h)
        rw [hx] at c0 c1
        clear hx
        obtain ⟨s, a⟩ := x
        simp only at c0 c1
        have k1 : (j : Int) < xs.length := by omega
        by_cases hs : 40 < s.size
        · have d2 : (40 : Int) < s.size := by omega
          have HF := Lib.hid (HT.out.trans (show (xs.all fun m => decide (m.1.size ≤ 40)) = false from by
            rw [List.all_eq_false]
            exact ⟨_, hmem.out, by simp; omega⟩))
          go_wp2
          go_ret
          exact ⟨ret_bool HF.out.symm, B0⟩
        · have d2 : ¬ (40 : Int) < s.size := by omega
          have HJ2 : Hid (∀ m ∈ xs.take (j + 1), m.1.size ≤ 40) := Lib.hid (by
            rw [htk.out]
            intro m hm
            rcases List.mem_append.1 hm with h | h
            · exact HJ.out m h
            · rw [List.mem_singleton] at h; rw [h]; simp only; omega)
          go_wp2
          go_roundw
          case rel => exact ⟨j + 1, by go_num, by omega, by first | rfl | trivial, HJ2⟩
          case measure => simp [intOf]; omega
      · have k1 : ¬ (j : Int) < xs.length := by omega
        have HF := Lib.hid (HT.out.trans (show (xs.all fun m => decide (m.1.size ≤ 40)) = true from by
          rw [List.all_eq_true]
          have h := HJ.out
          rw [List.take_of_length_le (by omega)] at h
          intro m hm
          simpa using h m hm))
        go_wp2
        go_ret
        exact ⟨ret_bool HF.out.symm, B0⟩
end Go.Proofs.YtbicmlkjonaccaaDoor.Ln
