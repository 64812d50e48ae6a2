/- The examples of the statements on package checkpoint. -/
import Derived.Test.YtndmpoomdoojpaaK4
namespace Go.Proofs.Ytndmpoomdoojpaa.Ck
open Go.ChangeShapes Go.WideShapes Go.ChangeAt Go.RowKit
set_option linter.unusedVariables false

def exl : List Act3 := [(1, 1, 0), (2, 1, 0), (1, 2, 0), (4, 3, 0), (3, 1, 0), (4, 2, 0), (3, 0, -1), (4, 1, 0)]
theorem e1 : cv 10 3 = 14 := by decide +kernel
theorem e2 : ask 10 3 = 0 := by decide
theorem e3 : ck 3 1 exl = (2, 0) := by decide +kernel
theorem e4 : ck 3 1 (exl.drop 3) = (0, 26) := by decide +kernel
theorem e5 : (pkS exl exl.length).length = 1 := by decide +kernel
theorem SlA.keep {w w' : World} {p : Option Addr} {xs : List Act3} (hB : Below w.heap.size w w') (h : SlA w p xs) : SlA w' p xs := fun i hi => by
  obtain ⟨b, o, rfl, c0, c1, c2⟩ := h i hi
  have hb : b < w.heap.size := by have := World.block_lt_of_cell? w _ c0; simpa using this
  exact ⟨b, o, rfl, kp hB hb c0, kp hB hb c1, kp hB hb c2⟩
theorem SlA.drop {w : World} {b o : Nat} {xs : List Act3} (h : SlA w (some ⟨b, o, none⟩) xs) (k : Nat) : SlA w (some ⟨b, o + k * 3, none⟩) (xs.drop k) := fun i hi => by
  rw [List.length_drop] at hi
  obtain ⟨b', o', e, c0, c1, c2⟩ := h (k + i) (by omega)
  cases e
  refine ⟨b, o + k * 3, rfl, ?_⟩
  have e : (xs.drop k).getD i (0, 0, 0) = xs.getD (k + i) (0, 0, 0) := by simp [List.getD, List.getElem?_drop]
  rw [e, show o + k * 3 + i * 3 = o + (k + i) * 3 by omega]
  exact ⟨c0, c1, c2⟩
theorem exl_cells (w : World) : SlA (w.alloc (Obj.cells #[Value.int .i64 1, Value.int .i64 1, Value.int .i64 0, Value.int .i64 2, Value.int .i64 1, Value.int .i64 0, Value.int .i64 1, Value.int .i64 2, Value.int .i64 0, Value.int .i64 4, Value.int .i64 3, Value.int .i64 0, Value.int .i64 3, Value.int .i64 1, Value.int .i64 0, Value.int .i64 4, Value.int .i64 2, Value.int .i64 0, Value.int .i64 3, Value.int .i64 0, Value.int .i64 (-1), Value.int .i64 4, Value.int .i64 1, Value.int .i64 0] 66)) (some ⟨w.heap.size, 0, none⟩) exl := fun i hi => by
  refine ⟨w.heap.size, 0, rfl, ?_⟩
  have : i = 0 ∨ i = 1 ∨ i = 2 ∨ i = 3 ∨ i = 4 ∨ i = 5 ∨ i = 6 ∨ i = 7 := by simp [exl] at hi; omega
  rcases this with rfl | rfl | rfl | rfl | rfl | rfl | rfl | rfl
  · exact ⟨by show World.cell? _ _ = some (.int .i64 1); go_cell, by show World.cell? _ _ = some (.int .i64 1); go_cell, by show World.cell? _ _ = some (.int .i64 0); go_cell⟩
  · exact ⟨by show World.cell? _ _ = some (.int .i64 2); go_cell, by show World.cell? _ _ = some (.int .i64 1); go_cell, by show World.cell? _ _ = some (.int .i64 0); go_cell⟩
  · exact ⟨by show World.cell? _ _ = some (.int .i64 1); go_cell, by show World.cell? _ _ = some (.int .i64 2); go_cell, by show World.cell? _ _ = some (.int .i64 0); go_cell⟩
  · exact ⟨by show World.cell? _ _ = some (.int .i64 4); go_cell, by show World.cell? _ _ = some (.int .i64 3); go_cell, by show World.cell? _ _ = some (.int .i64 0); go_cell⟩
  · exact ⟨by show World.cell? _ _ = some (.int .i64 3); go_cell, by show World.cell? _ _ = some (.int .i64 1); go_cell, by show World.cell? _ _ = some (.int .i64 0); go_cell⟩
  · exact ⟨by show World.cell? _ _ = some (.int .i64 4); go_cell, by show World.cell? _ _ = some (.int .i64 2); go_cell, by show World.cell? _ _ = some (.int .i64 0); go_cell⟩
  · exact ⟨by show World.cell? _ _ = some (.int .i64 3); go_cell, by show World.cell? _ _ = some (.int .i64 0); go_cell, by show World.cell? _ _ = some (.int .i64 (-1)); go_cell⟩
  · exact ⟨by show World.cell? _ _ = some (.int .i64 4); go_cell, by show World.cell? _ _ = some (.int .i64 1); go_cell, by show World.cell? _ _ = some (.int .i64 0); go_cell⟩
set_option maxRecDepth 100000 in
set_option maxHeartbeats 8000000 in
theorem ex28 (w : World) : Calls Try.prog 22 #[] w fun e w' => e = .returned (.bool true) ∧ Below w.heap.size w w' := by
  have C1 := Lib.hid (by have h := cost 10 3; rw [e1, e2] at h; exact h)
  have S0 := Lib.hid (exl_cells w)
  have B0 : Below w.heap.size w (w.alloc (Obj.cells #[Value.int .i64 1, Value.int .i64 1, Value.int .i64 0, Value.int .i64 2, Value.int .i64 1, Value.int .i64 0, Value.int .i64 1, Value.int .i64 2, Value.int .i64 0, Value.int .i64 4, Value.int .i64 3, Value.int .i64 0, Value.int .i64 3, Value.int .i64 1, Value.int .i64 0, Value.int .i64 4, Value.int .i64 2, Value.int .i64 0, Value.int .i64 3, Value.int .i64 0, Value.int .i64 (-1), Value.int .i64 4, Value.int .i64 1, Value.int .i64 0] 66)) := (Below.refl _ _).alloc (Nat.le_refl _) _
  go_enter Try.func22, Try.ntmps22
  go_wp2_with (go_at_call 20; refine (C1.out _).mono ?_; rintro e w' ⟨rfl, rfl⟩; unfold NE)
  refine (cp (some ⟨w.heap.size, 0, none⟩) exl 8 3 1 _ (by unfold maxLen; decide) S0).mono ?_
  rintro e w1 ⟨rfl, hb⟩
  rw [e3]
  unfold NE
  have S1 := Lib.hid (SlA.keep hb S0.out)
  have K1 := B0.trans (hb.mono B0.size)
  have D1 := Lib.hid (SlA.drop S1.out 3)
  clear hb S0 B0
  go_wp2_with fail
  refine (cp (some ⟨w.heap.size, 9, none⟩) (exl.drop 3) 5 3 1 _ (by unfold maxLen; decide) D1).mono ?_
  rintro e w2 ⟨rfl, hb⟩
  rw [e4]
  unfold NE
  have S2 := Lib.hid (SlA.keep hb S1.out)
  have K2 := K1.trans (hb.mono K1.size)
  clear hb S1 K1 D1
  go_wp2_with fail
  refine (peak (some ⟨w.heap.size, 0, none⟩) exl 8 _ (by decide) S2 (Lib.hid (by decide))).mono ?_
  rintro e w3 ⟨rfl, hb⟩
  rw [e5]
  go_wp2
  go_ret
  exact ⟨rfl, K2.trans (hb.mono K2.size)⟩
/-- The law on the cost. -/
theorem law_cost (n s : Int) (w : World) : Calls Try.prog 4 #[.int .i64 n, .int .i64 s] w fun e w' => e = .returned (.bool true) ∧ Below w.heap.size w w' := by
  have C := Lib.hid (cost n s)
  have R := Lib.hid (rcost n s)
  have EX := Lib.hid ex28
  unfold NE at C R
  generalize cv n s = a at C R
  generalize ask n s = b at C R
  go_enter Try.func4, Try.ntmps4
  go_wp2_with (first | (go_at_call 20; refine (C.out _).mono ?_; rintro e w' ⟨rfl, rfl⟩) | (go_at_call 21; refine (R.out _).mono ?_; rintro e w' ⟨rfl, rfl⟩) | (go_at_call 22; refine (EX.out _).mono ?_; rintro e w' ⟨rfl, hb⟩))
  go_ret
  exact ⟨rfl, hb⟩
end Go.Proofs.Ytndmpoomdoojpaa.Ck
