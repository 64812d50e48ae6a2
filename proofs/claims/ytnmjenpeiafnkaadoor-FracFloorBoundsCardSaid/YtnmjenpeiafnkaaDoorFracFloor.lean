/- The walk of the law on Floor and Ceil. -/
import Derived.Test.YtnmjenpeiafnkaaDoorExam
import Derived.Deep.RegionHeld3
namespace Go.Proofs.YtnmjenpeiafnkaaDoor.Fr
open Go.ChangeShapes Go.WideShapes Go.ChangeAt Go.RowKit
set_option linter.unusedVariables false

set_option maxHeartbeats 8000000 in
theorem law_floor_out (n d : Int) (w : World)
    (V : Hid (∀ w, Calls Tryd.prog 14 #[.agg #[.int .i64 n, .int .i64 d]] w (Ret (.bool false) w)))
    (FL : Hid (∀ w, Calls Tryd.prog 29 #[.agg #[.int .i64 n, .int .i64 d]] w (Ret (.int .i64 0) w)))
    (CE : Hid (∀ w, Calls Tryd.prog 31 #[.agg #[.int .i64 n, .int .i64 d]] w (Ret (.int .i64 0) w)))
    (EX : Hid (∀ w, Calls Tryd.prog 16 #[] w (Ret (.bool true) w))) :
    Calls Tryd.prog 11 #[.agg #[.int .i64 n, .int .i64 d]] w fun e w' => e = .returned (.bool true) ∧ Below w.heap.size w w' := by
  go_enter Tryd.func11, Tryd.ntmps11
  go_wp2_with fail
  refine (V.out _).mono ?_
  rintro e w1 ⟨rfl, h1⟩
  obtain ⟨c0, c1, z1⟩ := cells1 (h1.mono (by simp))
  have K : Below w.heap.size w w1 := ((Below.refl _ _).alloc (Nat.le_refl _) _).trans (h1.mono (by simp))
  clear h1
  go_wp2_with fail
  refine (FL.out _).mono ?_
  rintro e w2 ⟨rfl, h2⟩
  have d0 := keep h2 z1 c0
  have d1 := keep h2 z1 c1
  have z2 : w.heap.size < w2.heap.size := Nat.lt_of_lt_of_le z1 h2.size
  have K := K.trans (h2.mono (by omega))
  clear c0 c1 z1 h2
  go_wp2_with fail
  refine (CE.out _).mono ?_
  rintro e w3 ⟨rfl, h3⟩
  have z3 : w.heap.size < w3.heap.size := Nat.lt_of_lt_of_le z2 h3.size
  have K := K.trans (h3.mono (by omega))
  go_wp2_with fail
  refine (EX.out _).mono ?_
  rintro e w4 ⟨rfl, h4⟩
  have K := K.trans (h4.mono (by omega))
  go_wp2
  go_ret
  exact ⟨rfl, K⟩
set_option maxHeartbeats 8000000 in
theorem law_floor_in (n d F P Q G : Int) (w : World) (hP : F * d = P) (hQ : (F + 1) * d = Q) (f0 : -2147483647 ≤ F) (f1 : F ≤ 2147483647) (p0 : -10000000000 ≤ P) (p1 : P ≤ n) (q0 : n < Q) (q1 : Q ≤ 10000000000) (n0 : -2147483647 ≤ n) (n1 : n ≤ 2147483647) (g0 : -5000000000 ≤ G) (g1 : G ≤ 5000000000)
    (V : Hid (∀ w, Calls Tryd.prog 14 #[.agg #[.int .i64 n, .int .i64 d]] w (Ret (.bool true) w)))
    (FL : Hid (∀ w, Calls Tryd.prog 29 #[.agg #[.int .i64 n, .int .i64 d]] w (Ret (.int .i64 F) w)))
    (CE : Hid (∀ w, Calls Tryd.prog 31 #[.agg #[.int .i64 n, .int .i64 d]] w (Ret (.int .i64 (-G)) w)))
    (NG : Hid (∀ w, Calls Tryd.prog 25 #[.agg #[.int .i64 n, .int .i64 d]] w (Ret (.agg #[.int .i64 (-n), .int .i64 d]) w)))
    (FN : Hid (∀ w, Calls Tryd.prog 29 #[.agg #[.int .i64 (-n), .int .i64 d]] w (Ret (.int .i64 G) w)))
    (EX : Hid (∀ w, Calls Tryd.prog 16 #[] w (Ret (.bool true) w))) :
    Calls Tryd.prog 11 #[.agg #[.int .i64 n, .int .i64 d]] w fun e w' => e = .returned (.bool true) ∧ Below w.heap.size w w' := by
  have b1 : decide (-2147483647 ≤ F) = true := by simp; omega
  have b2 : decide (F ≤ 2147483647) = true := by simp; omega
  have b3 : decide (P ≤ n) = true := by simp; omega
  have b4 : decide (n < Q) = true := by simp; omega
  go_enter Tryd.func11, Tryd.ntmps11
  go_wp2_with fail
  refine (V.out _).mono ?_
  rintro e w1 ⟨rfl, h1⟩
  obtain ⟨c0, c1, z1⟩ := cells1 (h1.mono (by simp))
  have K : Below w.heap.size w w1 := ((Below.refl _ _).alloc (Nat.le_refl _) _).trans (h1.mono (by simp))
  clear h1
  go_wp2_with fail
  refine (FL.out _).mono ?_
  rintro e w2 ⟨rfl, h2⟩
  have d0 := keep h2 z1 c0
  have d1 := keep h2 z1 c1
  have z2 : w.heap.size < w2.heap.size := Nat.lt_of_lt_of_le z1 h2.size
  have K2 : Below w.heap.size w w2 := K.trans (h2.mono (by omega))
  clear c0 c1 z1 h2 K
  go_wp2_with fail
  generalize w2 = z at *
  have HS : Hid (∀ w', Below z.heap.size z w' → w'.cell? ⟨w.heap.size, 0, none⟩ = some (.int .i64 n) ∧ w'.cell? ⟨w.heap.size, 1, none⟩ = some (.int .i64 d) ∧ Below z.heap.size z w') := Lib.hid (fun w' h => ⟨keep h z2 d0, keep h z2 d1, h⟩)
  clear d0 d1
  have k1 : IntKind.i64.wrap P = P := IntWalk.i64_in _ ⟨by omega, by omega⟩
  have k2 : IntKind.i64.wrap Q = Q := IntWalk.i64_in _ ⟨by clear k1; omega, by clear k1; omega⟩
  have k3 : IntKind.i64.wrap (F + 1) = F + 1 := IntWalk.i64_in _ ⟨by clear k1 k2; omega, by clear k1 k2; omega⟩
  have k4 : IntKind.i64.wrap (-G) = -G := IntWalk.i64_in _ ⟨by clear k1 k2 k3; omega, by clear k1 k2 k3; omega⟩
  go_region_held3 (fun w' => w'.cell? ⟨w.heap.size, 0, none⟩ = some (.int .i64 n) ∧ w'.cell? ⟨w.heap.size, 1, none⟩ = some (.int .i64 d) ∧ Below z.heap.size z w') (first | exact HS.out _ (by assumption) | exact HS.out _ (Below.drew (Below.refl _ _)) | exact HS.out _ (Below.refl _ _) | exact HS.out _ (Below.drew (by assumption)))
    (first | (go_at_call 31; obtain ⟨_, _, iB⟩ := ‹_ ∧ _ ∧ Below _ _ _›; ((with_reducible refine (CE.out _).mono ?_); rintro e u ⟨rfl, hb⟩); have jB := iB.trans (hb.mono iB.size)) | (go_at_call 25; obtain ⟨_, _, iB⟩ := ‹_ ∧ _ ∧ Below _ _ _›; ((with_reducible refine (NG.out _).mono ?_); rintro e u ⟨rfl, hb⟩); have jB := iB.trans (hb.mono iB.size)) | (go_at_call 29; obtain ⟨_, _, iB⟩ := ‹_ ∧ _ ∧ Below _ _ _›; ((with_reducible refine (FN.out _).mono ?_); rintro e u ⟨rfl, hb⟩); have jB := iB.trans (hb.mono iB.size)) | (go_at_call 16; obtain ⟨_, _, iB⟩ := ‹_ ∧ _ ∧ Below _ _ _›; ((with_reducible refine (EX.out _).mono ?_); rintro e u ⟨rfl, hb⟩); have jB := iB.trans (hb.mono iB.size)))
  clear k1 k2 k3 k4 HS
  go_wp2
  go_ret
  exact ⟨rfl, K2.trans (jB.mono (by omega))⟩
end Go.Proofs.YtnmjenpeiafnkaaDoor.Fr
