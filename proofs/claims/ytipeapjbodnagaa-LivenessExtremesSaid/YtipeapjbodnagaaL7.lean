/- Lifetimes: what every statement checks first; the law on overlaps. -/
import Derived.Test.YtipeapjbodnagaaL6
import Derived.Deep.RegionHeld3
namespace Go.Proofs.Ytipeapjbodnagaa.Lv
open Go.ChangeShapes Go.WideShapes Go.ChangeAt Go.RowKit
set_option linter.unusedVariables false

theorem ab_cells (w : World) : SlL (w.alloc (Obj.cells #[Value.string ⟨#[97]⟩, Value.int .i64 0, Value.int .i64 2, Value.int .i64 1, Value.string ⟨#[98]⟩, Value.int .i64 2, Value.int .i64 3, Value.int .i64 1] 55)) (some ⟨w.heap.size, 0, none⟩) [(⟨#[97]⟩, 0, 2, 1), (⟨#[98]⟩, 2, 3, 1)] := fun i hi => by
  refine ⟨w.heap.size, 0, rfl, ?_⟩
  have : i = 0 ∨ i = 1 := by simp at hi; omega
  rcases this with rfl | rfl
  · exact ⟨by show World.cell? _ _ = some (Value.string ⟨#[97]⟩); go_cell, by show World.cell? _ _ = some (Value.int .i64 0); go_cell, by show World.cell? _ _ = some (Value.int .i64 2); go_cell, by show World.cell? _ _ = some (Value.int .i64 1); go_cell⟩
  · exact ⟨by show World.cell? _ _ = some (Value.string ⟨#[98]⟩); go_cell, by show World.cell? _ _ = some (Value.int .i64 2); go_cell, by show World.cell? _ _ = some (Value.int .i64 3); go_cell, by show World.cell? _ _ = some (Value.int .i64 1); go_cell⟩
theorem aa_cells (w : World) : SlL (w.alloc (Obj.cells #[Value.string ⟨#[97]⟩, Value.int .i64 0, Value.int .i64 2, Value.int .i64 1, Value.string ⟨#[97]⟩, Value.int .i64 0, Value.int .i64 2, Value.int .i64 1] 55)) (some ⟨w.heap.size, 0, none⟩) [(⟨#[97]⟩, 0, 2, 1), (⟨#[97]⟩, 0, 2, 1)] := fun i hi => by
  refine ⟨w.heap.size, 0, rfl, ?_⟩
  have : i = 0 ∨ i = 1 := by simp at hi; omega
  rcases this with rfl | rfl
  · exact ⟨by show World.cell? _ _ = some (Value.string ⟨#[97]⟩); go_cell, by show World.cell? _ _ = some (Value.int .i64 0); go_cell, by show World.cell? _ _ = some (Value.int .i64 2); go_cell, by show World.cell? _ _ = some (Value.int .i64 1); go_cell⟩
  · exact ⟨by show World.cell? _ _ = some (Value.string ⟨#[97]⟩); go_cell, by show World.cell? _ _ = some (Value.int .i64 0); go_cell, by show World.cell? _ _ = some (Value.int .i64 2); go_cell, by show World.cell? _ _ = some (Value.int .i64 1); go_cell⟩
open Go.Proofs.Ytipeapjbodnagaa.Nm
theorem name1 (c : UInt8) (h : c = 97 ∨ c = 98) : nmB ⟨#[c]⟩ = true := by
  unfold nmB
  rw [ByteArray.toList_eq]
  rcases h with rfl | rfl <;> decide +kernel
theorem ea1 : ov (⟨#[97]⟩, 0, 2, 1) (⟨#[98]⟩, 2, 3, 1) = true := by decide
theorem ea2 : ml [(⟨#[97]⟩, 0, 2, 1), (⟨#[98]⟩, 2, 3, 1)] = 2 := by decide
theorem ea3 : vE [(⟨#[97]⟩, 0, 2, 1), (⟨#[97]⟩, 0, 2, 1)] = 8 := by
  have h1 : vs [] (⟨#[97]⟩, 0, 2, 1) = 0 := vs0 (name1 97 (.inl rfl)) rfl (by decide)
  have h2 : vs [(⟨#[97]⟩, 0, 2, 1)] (⟨#[97]⟩, 0, 2, 1) = 8 := vs8 (name1 97 (.inl rfl)) (by unfold dup; simp)
  show vgo [] [(⟨#[97]⟩, 0, 2, 1), (⟨#[97]⟩, 0, 2, 1)] = 8
  unfold vgo
  rw [if_pos h1]
  unfold vgo
  rw [show ([] ++ [(⟨#[97]⟩, 0, 2, 1)] : List Lf) = [(⟨#[97]⟩, 0, 2, 1)] from rfl, h2]
  rfl
theorem Lv4a : Lv4 (⟨#[97]⟩, 0, 2, 1) = .agg #[Value.string ⟨#[97]⟩, Value.int .i64 0, Value.int .i64 2, Value.int .i64 1] := rfl
theorem Lv4b : Lv4 (⟨#[98]⟩, 2, 3, 1) = .agg #[Value.string ⟨#[98]⟩, Value.int .i64 2, Value.int .i64 3, Value.int .i64 1] := rfl
set_option maxRecDepth 100000 in
set_option maxHeartbeats 8000000 in
theorem alive (w : World) : Calls Try.prog 43 #[] w fun e w' => e = .returned (.bool true) ∧ Below w.heap.size w w' := by
  have C1 := Lib.hid fun w => by have h := over1 (⟨#[97]⟩, 0, 2, 1) (⟨#[98]⟩, 2, 3, 1) w; rw [ea1, Lv4a, Lv4b] at h; exact h
  go_enter Try.func43, Try.ntmps43
  go_wp2_with fail
  refine (C1.out _).mono ?_
  rintro e w1 ⟨rfl, hb⟩
  have B0 : Below w.heap.size w ((w.alloc (Obj.cells #[Value.string ⟨#[97]⟩, Value.int .i64 0, Value.int .i64 2, Value.int .i64 1] 55)).alloc (Obj.cells #[Value.string ⟨#[98]⟩, Value.int .i64 2, Value.int .i64 3, Value.int .i64 1] 55)) := ((Below.refl _ _).alloc (Nat.le_refl _) _).alloc (by simp) _
  have a0 : w1.cell? ⟨w.heap.size, 0, none⟩ = some (Value.string ⟨#[97]⟩) := kp hb (by simp <;> omega) (by go_cell)
  have a1 : w1.cell? ⟨w.heap.size, 1, none⟩ = some (Value.int .i64 0) := kp hb (by simp <;> omega) (by go_cell)
  have a2 : w1.cell? ⟨w.heap.size, 2, none⟩ = some (Value.int .i64 2) := kp hb (by simp <;> omega) (by go_cell)
  have a3 : w1.cell? ⟨w.heap.size, 3, none⟩ = some (Value.int .i64 1) := kp hb (by simp <;> omega) (by go_cell)
  have b0 : w1.cell? ⟨w.heap.size + 1, 0, none⟩ = some (Value.string ⟨#[98]⟩) := kp hb (by simp) (by go_cell)
  have b1 : w1.cell? ⟨w.heap.size + 1, 1, none⟩ = some (Value.int .i64 2) := kp hb (by simp) (by go_cell)
  have b2 : w1.cell? ⟨w.heap.size + 1, 2, none⟩ = some (Value.int .i64 3) := kp hb (by simp) (by go_cell)
  have b3 : w1.cell? ⟨w.heap.size + 1, 3, none⟩ = some (Value.int .i64 1) := kp hb (by simp) (by go_cell)
  have z1 : w.heap.size + 1 < w1.heap.size := by have := hb.size; simp at this; omega
  have K1 := B0.trans (hb.mono B0.size)
  clear hb B0
  go_wp2_with fail
  have S1 := Lib.hid (ab_cells w1)
  have K1a : Below w.heap.size w (w1.alloc (Obj.cells #[Value.string ⟨#[97]⟩, Value.int .i64 0, Value.int .i64 2, Value.int .i64 1, Value.string ⟨#[98]⟩, Value.int .i64 2, Value.int .i64 3, Value.int .i64 1] 55)) := K1.alloc K1.size _
  refine (pml (some ⟨w1.heap.size, 0, none⟩) [(⟨#[97]⟩, 0, 2, 1), (⟨#[98]⟩, 2, 3, 1)] 2 _ (by decide) S1).mono ?_
  rintro e w2 ⟨rfl, hb⟩
  rw [ea2]
  have a0 : w2.cell? ⟨w.heap.size, 0, none⟩ = some (Value.string ⟨#[97]⟩) := kp hb (by simp; omega) (kp ((Below.refl _ _).alloc (Nat.le_refl _) _) (by omega) a0)
  have a1 : w2.cell? ⟨w.heap.size, 1, none⟩ = some (Value.int .i64 0) := kp hb (by simp; omega) (kp ((Below.refl _ _).alloc (Nat.le_refl _) _) (by omega) a1)
  have a2 : w2.cell? ⟨w.heap.size, 2, none⟩ = some (Value.int .i64 2) := kp hb (by simp; omega) (kp ((Below.refl _ _).alloc (Nat.le_refl _) _) (by omega) a2)
  have a3 : w2.cell? ⟨w.heap.size, 3, none⟩ = some (Value.int .i64 1) := kp hb (by simp; omega) (kp ((Below.refl _ _).alloc (Nat.le_refl _) _) (by omega) a3)
  have K2 := K1a.trans (hb.mono K1a.size)
  clear hb K1 K1a S1
  go_wp2_with fail
  have S2 := Lib.hid (aa_cells w2)
  have K2a : Below w.heap.size w (w2.alloc (Obj.cells #[Value.string ⟨#[97]⟩, Value.int .i64 0, Value.int .i64 2, Value.int .i64 1, Value.string ⟨#[97]⟩, Value.int .i64 0, Value.int .i64 2, Value.int .i64 1] 55)) := K2.alloc K2.size _
  refine (pval (some ⟨w2.heap.size, 0, none⟩) [(⟨#[97]⟩, 0, 2, 1), (⟨#[97]⟩, 0, 2, 1)] 2 _ (by decide) S2 (Lib.hid (fun i hi => by rcases (by simp at hi; omega : i = 0 ∨ i = 1) with rfl | rfl <;> (show (⟨#[97]⟩ : ByteArray).size ≤ maxLen; unfold maxLen; decide)))).mono ?_
  rintro e w3 ⟨rfl, hb⟩
  rw [ea3]
  go_wp2
  go_ret
  exact ⟨rfl, K2a.trans (hb.mono K2a.size)⟩
theorem keep {y y' : World} {b o : Nat} {v : Value} (hy : Below y.heap.size y y') (hb : b < y.heap.size) (h : y.cell? ⟨b, o, none⟩ = some v) : y'.cell? ⟨b, o, none⟩ = some v := kp hy hb h
set_option maxRecDepth 100000 in
set_option maxHeartbeats 8000000 in
theorem law_over (s : ByteArray) (f t z : Int) (s' : ByteArray) (f' t' z' : Int) (w : World) :
    Calls Try.prog 11 #[.agg #[.string s, .int .i64 f, .int .i64 t, .int .i64 z], .agg #[.string s', .int .i64 f', .int .i64 t', .int .i64 z']] w fun e w' => e = .returned (.bool true) ∧ Below w.heap.size w w' := by
  have EX := Lib.hid alive
  have hcm : ov (s', f', t', z') (s, f, t, z) = ov (s, f, t, z) (s', f', t', z') := by unfold ov; simp only; rw [Bool.and_comm]
  have C1 := Lib.hid fun w => over1 (s, f, t, z) (s', f', t', z') w
  have C2 := Lib.hid fun w => over1 (s', f', t', z') (s, f, t, z) w
  have C3 := Lib.hid fun w => over2 (s, f, t, z) (s', f', t', z') w
  rw [hcm] at C2
  generalize ov (s, f, t, z) (s', f', t', z') = q at *
  clear hcm
  unfold Lv4 at C1 C2 C3
  simp only at C1 C2 C3
  have h0 : (((w.alloc (.cells #[.string s, .int .i64 f, .int .i64 t, .int .i64 z] 55)).alloc (.cells #[.string s', .int .i64 f', .int .i64 t', .int .i64 z'] 55))).cell? ⟨w.heap.size, 0, none⟩ = some (.string s) := by go_cell
  have h1 : (((w.alloc (.cells #[.string s, .int .i64 f, .int .i64 t, .int .i64 z] 55)).alloc (.cells #[.string s', .int .i64 f', .int .i64 t', .int .i64 z'] 55))).cell? ⟨w.heap.size, 1, none⟩ = some (.int .i64 f) := by go_cell
  have h2 : (((w.alloc (.cells #[.string s, .int .i64 f, .int .i64 t, .int .i64 z] 55)).alloc (.cells #[.string s', .int .i64 f', .int .i64 t', .int .i64 z'] 55))).cell? ⟨w.heap.size, 2, none⟩ = some (.int .i64 t) := by go_cell
  have h3 : (((w.alloc (.cells #[.string s, .int .i64 f, .int .i64 t, .int .i64 z] 55)).alloc (.cells #[.string s', .int .i64 f', .int .i64 t', .int .i64 z'] 55))).cell? ⟨w.heap.size, 3, none⟩ = some (.int .i64 z) := by go_cell
  have h4 : (((w.alloc (.cells #[.string s, .int .i64 f, .int .i64 t, .int .i64 z] 55)).alloc (.cells #[.string s', .int .i64 f', .int .i64 t', .int .i64 z'] 55))).cell? ⟨w.heap.size + 1, 0, none⟩ = some (.string s') := by go_cell
  have h5 : (((w.alloc (.cells #[.string s, .int .i64 f, .int .i64 t, .int .i64 z] 55)).alloc (.cells #[.string s', .int .i64 f', .int .i64 t', .int .i64 z'] 55))).cell? ⟨w.heap.size + 1, 1, none⟩ = some (.int .i64 f') := by go_cell
  have h6 : (((w.alloc (.cells #[.string s, .int .i64 f, .int .i64 t, .int .i64 z] 55)).alloc (.cells #[.string s', .int .i64 f', .int .i64 t', .int .i64 z'] 55))).cell? ⟨w.heap.size + 1, 2, none⟩ = some (.int .i64 t') := by go_cell
  have h7 : (((w.alloc (.cells #[.string s, .int .i64 f, .int .i64 t, .int .i64 z] 55)).alloc (.cells #[.string s', .int .i64 f', .int .i64 t', .int .i64 z'] 55))).cell? ⟨w.heap.size + 1, 3, none⟩ = some (.int .i64 z') := by go_cell
  have z1 : w.heap.size < (((w.alloc (.cells #[.string s, .int .i64 f, .int .i64 t, .int .i64 z] 55)).alloc (.cells #[.string s', .int .i64 f', .int .i64 t', .int .i64 z'] 55))).heap.size := by simp <;> omega
  have z2 : w.heap.size + 1 < (((w.alloc (.cells #[.string s, .int .i64 f, .int .i64 t, .int .i64 z] 55)).alloc (.cells #[.string s', .int .i64 f', .int .i64 t', .int .i64 z'] 55))).heap.size := by simp <;> omega
  have K : Below w.heap.size w (((w.alloc (.cells #[.string s, .int .i64 f, .int .i64 t, .int .i64 z] 55)).alloc (.cells #[.string s', .int .i64 f', .int .i64 t', .int .i64 z'] 55))) := ((Below.refl _ _).alloc (Nat.le_refl _) _).alloc (by simp) _
  go_enter Try.func11, Try.ntmps11
  go_wp2_with fail
  generalize ((w.alloc (.cells #[.string s, .int .i64 f, .int .i64 t, .int .i64 z] 55)).alloc (.cells #[.string s', .int .i64 f', .int .i64 t', .int .i64 z'] 55)) = zw at *
  have HS : Hid (∀ w', Below zw.heap.size zw w' → w'.cell? ⟨w.heap.size, 0, none⟩ = some (.string s) ∧ w'.cell? ⟨w.heap.size, 1, none⟩ = some (.int .i64 f) ∧ w'.cell? ⟨w.heap.size, 2, none⟩ = some (.int .i64 t) ∧ w'.cell? ⟨w.heap.size, 3, none⟩ = some (.int .i64 z) ∧ w'.cell? ⟨w.heap.size + 1, 0, none⟩ = some (.string s') ∧ w'.cell? ⟨w.heap.size + 1, 1, none⟩ = some (.int .i64 f') ∧ w'.cell? ⟨w.heap.size + 1, 2, none⟩ = some (.int .i64 t') ∧ w'.cell? ⟨w.heap.size + 1, 3, none⟩ = some (.int .i64 z') ∧ Below zw.heap.size zw w') := Lib.hid (fun w' h => ⟨keep h z1 h0, keep h z1 h1, keep h z1 h2, keep h z1 h3, keep h z2 h4, keep h z2 h5, keep h z2 h6, keep h z2 h7, h⟩)
  clear h0 h1 h2 h3 h4 h5 h6 h7 z2
  go_region_held3 (fun w' => w'.cell? ⟨w.heap.size, 0, none⟩ = some (.string s) ∧ w'.cell? ⟨w.heap.size, 1, none⟩ = some (.int .i64 f) ∧ w'.cell? ⟨w.heap.size, 2, none⟩ = some (.int .i64 t) ∧ w'.cell? ⟨w.heap.size, 3, none⟩ = some (.int .i64 z) ∧ w'.cell? ⟨w.heap.size + 1, 0, none⟩ = some (.string s') ∧ w'.cell? ⟨w.heap.size + 1, 1, none⟩ = some (.int .i64 f') ∧ w'.cell? ⟨w.heap.size + 1, 2, none⟩ = some (.int .i64 t') ∧ w'.cell? ⟨w.heap.size + 1, 3, none⟩ = some (.int .i64 z') ∧ Below zw.heap.size zw w') (first | exact HS.out _ (by assumption) | exact HS.out _ (Below.drew (Below.refl _ _)) | exact HS.out _ (Below.refl _ _) | exact HS.out _ (Below.drew (by assumption)))
    (first | (go_at_call 41; obtain ⟨_, _, _, _, _, _, _, _, iB⟩ := ‹_ ∧ _ ∧ _ ∧ _ ∧ _ ∧ _ ∧ _ ∧ _ ∧ Below _ _ _›; (first | (with_reducible refine (C1.out _).mono ?_) | (with_reducible refine (C2.out _).mono ?_)); rintro e u ⟨rfl, hb⟩; have jB := iB.trans (hb.mono iB.size)) | (go_at_call 42; obtain ⟨_, _, _, _, _, _, _, _, iB⟩ := ‹_ ∧ _ ∧ _ ∧ _ ∧ _ ∧ _ ∧ _ ∧ _ ∧ Below _ _ _›; ((with_reducible refine (C3.out _).mono ?_); rintro e u ⟨rfl, hb⟩); have jB := iB.trans (hb.mono iB.size)) | (go_at_call 43; obtain ⟨_, _, _, _, _, _, _, _, iB⟩ := ‹_ ∧ _ ∧ _ ∧ _ ∧ _ ∧ _ ∧ _ ∧ _ ∧ Below _ _ _›; ((with_reducible refine (EX.out _).mono ?_); rintro e u ⟨rfl, hb⟩); have jB := iB.trans (hb.mono iB.size)))
  clear HS
  go_wp2
  go_ret
  exact ⟨rfl, K.trans (jB.mono (by omega))⟩
end Go.Proofs.Ytipeapjbodnagaa.Lv
