/- The walk of the law on Compare, Floor and Ceil. -/
import Derived.Test.YtnmjenpeiafnkaaDoorExam
import Derived.Test.YtnmjenpeiafnkaaDoorCmp
import Derived.Deep.RegionHeld3
namespace Go.Proofs.YtnmjenpeiafnkaaDoor.Fr
open Go.ChangeShapes Go.WideShapes Go.ChangeAt Go.RowKit
set_option linter.unusedVariables false

set_option maxHeartbeats 8000000 in
theorem law_order (n1 d1 n2 d2 c f g : Int) (w : World)
    (CP : Hid (∀ w, Calls Tryd.prog 27 #[.agg #[.int .i64 n1, .int .i64 d1], .agg #[.int .i64 n2, .int .i64 d2]] w (Ret (.int .i64 c) w)))
    (RC : Hid (∀ w, Calls Tryd.prog 28 #[.agg #[.int .i64 n1, .int .i64 d1], .agg #[.int .i64 n2, .int .i64 d2]] w (Ret (.int .i64 c) w)))
    (FL : Hid (∀ w, Calls Tryd.prog 29 #[.agg #[.int .i64 n1, .int .i64 d1]] w (Ret (.int .i64 f) w)))
    (RF : Hid (∀ w, Calls Tryd.prog 30 #[.agg #[.int .i64 n1, .int .i64 d1]] w (Ret (.int .i64 f) w)))
    (CE : Hid (∀ w, Calls Tryd.prog 31 #[.agg #[.int .i64 n1, .int .i64 d1]] w (Ret (.int .i64 g) w)))
    (RE : Hid (∀ w, Calls Tryd.prog 32 #[.agg #[.int .i64 n1, .int .i64 d1]] w (Ret (.int .i64 g) w)))
    (EX : Hid (∀ w, Calls Tryd.prog 16 #[] w (Ret (.bool true) w))) :
    Calls Tryd.prog 5 #[.agg #[.int .i64 n1, .int .i64 d1], .agg #[.int .i64 n2, .int .i64 d2]] w fun e w' => e = .returned (.bool true) ∧ Below w.heap.size w w' := by
  have h0 : ((w.alloc (.cells #[.int .i64 n1, .int .i64 d1] 23)).alloc (.cells #[.int .i64 n2, .int .i64 d2] 23)).cell? ⟨w.heap.size, 0, none⟩ = some (.int .i64 n1) := by go_cell
  have h1 : ((w.alloc (.cells #[.int .i64 n1, .int .i64 d1] 23)).alloc (.cells #[.int .i64 n2, .int .i64 d2] 23)).cell? ⟨w.heap.size, 1, none⟩ = some (.int .i64 d1) := by go_cell
  have h2 : ((w.alloc (.cells #[.int .i64 n1, .int .i64 d1] 23)).alloc (.cells #[.int .i64 n2, .int .i64 d2] 23)).cell? ⟨w.heap.size + 1, 0, none⟩ = some (.int .i64 n2) := by go_cell
  have h3 : ((w.alloc (.cells #[.int .i64 n1, .int .i64 d1] 23)).alloc (.cells #[.int .i64 n2, .int .i64 d2] 23)).cell? ⟨w.heap.size + 1, 1, none⟩ = some (.int .i64 d2) := by go_cell
  have z1 : w.heap.size < ((w.alloc (.cells #[.int .i64 n1, .int .i64 d1] 23)).alloc (.cells #[.int .i64 n2, .int .i64 d2] 23)).heap.size := by simp <;> omega
  have z2 : w.heap.size + 1 < ((w.alloc (.cells #[.int .i64 n1, .int .i64 d1] 23)).alloc (.cells #[.int .i64 n2, .int .i64 d2] 23)).heap.size := by simp <;> omega
  have K : Below w.heap.size w ((w.alloc (.cells #[.int .i64 n1, .int .i64 d1] 23)).alloc (.cells #[.int .i64 n2, .int .i64 d2] 23)) := below2 _ _ _
  go_enter Tryd.func5, Tryd.ntmps5
  go_wp2_with fail
  generalize ((w.alloc (.cells #[.int .i64 n1, .int .i64 d1] 23)).alloc (.cells #[.int .i64 n2, .int .i64 d2] 23)) = z at *
  have HS : Hid (∀ w', Below z.heap.size z w' → w'.cell? ⟨w.heap.size, 0, none⟩ = some (.int .i64 n1) ∧ w'.cell? ⟨w.heap.size, 1, none⟩ = some (.int .i64 d1) ∧ w'.cell? ⟨w.heap.size + 1, 0, none⟩ = some (.int .i64 n2) ∧ w'.cell? ⟨w.heap.size + 1, 1, none⟩ = some (.int .i64 d2) ∧ Below z.heap.size z w') := Lib.hid (fun w' h => ⟨keep h z1 h0, keep h z1 h1, keep h z2 h2, keep h z2 h3, h⟩)
  clear h0 h1 h2 h3 z2
  go_region_held3 (fun w' => w'.cell? ⟨w.heap.size, 0, none⟩ = some (.int .i64 n1) ∧ w'.cell? ⟨w.heap.size, 1, none⟩ = some (.int .i64 d1) ∧ w'.cell? ⟨w.heap.size + 1, 0, none⟩ = some (.int .i64 n2) ∧ w'.cell? ⟨w.heap.size + 1, 1, none⟩ = some (.int .i64 d2) ∧ Below z.heap.size z w') (first | exact HS.out _ (by assumption) | exact HS.out _ (Below.drew (Below.refl _ _)) | exact HS.out _ (Below.refl _ _) | exact HS.out _ (Below.drew (by assumption)))
    (first | (go_at_call 27; obtain ⟨_, _, _, _, iB⟩ := ‹_ ∧ _ ∧ _ ∧ _ ∧ Below _ _ _›; ((with_reducible refine (CP.out _).mono ?_); rintro e u ⟨rfl, hb⟩); have jB := iB.trans (hb.mono iB.size)) | (go_at_call 28; obtain ⟨_, _, _, _, iB⟩ := ‹_ ∧ _ ∧ _ ∧ _ ∧ Below _ _ _›; ((with_reducible refine (RC.out _).mono ?_); rintro e u ⟨rfl, hb⟩); have jB := iB.trans (hb.mono iB.size)) | (go_at_call 29; obtain ⟨_, _, _, _, iB⟩ := ‹_ ∧ _ ∧ _ ∧ _ ∧ Below _ _ _›; ((with_reducible refine (FL.out _).mono ?_); rintro e u ⟨rfl, hb⟩); have jB := iB.trans (hb.mono iB.size)) | (go_at_call 30; obtain ⟨_, _, _, _, iB⟩ := ‹_ ∧ _ ∧ _ ∧ _ ∧ Below _ _ _›; ((with_reducible refine (RF.out _).mono ?_); rintro e u ⟨rfl, hb⟩); have jB := iB.trans (hb.mono iB.size)) | (go_at_call 31; obtain ⟨_, _, _, _, iB⟩ := ‹_ ∧ _ ∧ _ ∧ _ ∧ Below _ _ _›; ((with_reducible refine (CE.out _).mono ?_); rintro e u ⟨rfl, hb⟩); have jB := iB.trans (hb.mono iB.size)) | (go_at_call 32; obtain ⟨_, _, _, _, iB⟩ := ‹_ ∧ _ ∧ _ ∧ _ ∧ Below _ _ _›; ((with_reducible refine (RE.out _).mono ?_); rintro e u ⟨rfl, hb⟩); have jB := iB.trans (hb.mono iB.size)) | (go_at_call 16; obtain ⟨_, _, _, _, iB⟩ := ‹_ ∧ _ ∧ _ ∧ _ ∧ Below _ _ _›; ((with_reducible refine (EX.out _).mono ?_); rintro e u ⟨rfl, hb⟩); have jB := iB.trans (hb.mono iB.size)))
  clear HS
  go_wp2
  go_ret
  exact ⟨rfl, K.trans (jB.mono (by omega))⟩
end Go.Proofs.YtnmjenpeiafnkaaDoor.Fr
