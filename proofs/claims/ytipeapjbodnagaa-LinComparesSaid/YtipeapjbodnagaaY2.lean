/- Linear forms: the order of two monomials. -/
import Derived.Test.YtipeapjbodnagaaY1
import Derived.Deep.RegionHeld3
import Derived.Deep.RegionWith
namespace Go.Proofs.Ytipeapjbodnagaa.Ln
open Go.ChangeShapes Go.WideShapes Go.ChangeAt Go.RowKit
set_option linter.unusedVariables false

theorem cmpS (a b : ByteArray) (w : World) : Calls Try.prog 64 #[.string a, .string b] w fun e w' => e = .returned (.int .i64 (cs a b)) ∧ w = w' := by
  refine (Try.strings_Compare a b w).mono ?_
  rintro e w' ⟨rfl, rfl⟩
  exact ⟨rfl, rfl⟩
def orV (x y : Int) : Int := if x = 0 then y else x
theorem orN (z : World) (x y : Int) : Calls Try.prog 63 #[.slice (some ⟨z.heap.size, 0, none⟩) 2 2] (z.alloc (Obj.cells #[Value.int .i64 x, Value.int .i64 y] 3)) fun e w' => e = .returned (.int .i64 (orV x y)) ∧ (z.alloc (Obj.cells #[Value.int .i64 x, Value.int .i64 y] 3)) = w' :=
  orI z.heap.size x y _ (by go_cell) (by go_cell)
theorem orD (z : World) (x y : Int) : Calls Try.prog 63 #[.slice (some ⟨z.heap.size, 0, none⟩) 2 2] (z.alloc (Obj.cells #[Value.int .i64 x, Value.int .i64 y] 3)).drew fun e w' => e = .returned (.int .i64 (orV x y)) ∧ (z.alloc (Obj.cells #[Value.int .i64 x, Value.int .i64 y] 3)).drew = w' :=
  orI z.heap.size x y _ (by show World.cell? (z.alloc _) _ = _; go_cell) (by show World.cell? (z.alloc _) _ = _; go_cell)
def Mv (x : Mo) : Value := .agg #[.string x.1, .int .i64 x.2]
set_option maxRecDepth 100000 in
set_option maxHeartbeats 8000000 in
theorem clos (x y : Mo) (w : World) : Calls Try.prog 62 #[Mv x, Mv y] w fun e w' => e = .returned (.int .i64 (mc x y)) ∧ Below w.heap.size w w' := by
  obtain ⟨s, a⟩ := x
  obtain ⟨t, b⟩ := y
  have C1 := Lib.hid cmpS
  have C2 := Lib.hid cmpI
  have C3 := Lib.hid orN
  have C4 := Lib.hid orD
  have B2 : Below w.heap.size w ((w.alloc (Obj.cells #[Value.string s, Value.int .i64 a] 62)).alloc (Obj.cells #[Value.string t, Value.int .i64 b] 62)) := ((Below.refl _ _).alloc (Nat.le_refl _) _).alloc (by simp) _
  have z2 : w.heap.size ≤ ((w.alloc (Obj.cells #[Value.string s, Value.int .i64 a] 62)).alloc (Obj.cells #[Value.string t, Value.int .i64 b] 62)).heap.size := by simp <;> omega
  have z3 : w.heap.size < ((w.alloc (Obj.cells #[Value.string s, Value.int .i64 a] 62)).alloc (Obj.cells #[Value.string t, Value.int .i64 b] 62)).heap.size := by simp <;> omega
  have z4 : w.heap.size + 1 < ((w.alloc (Obj.cells #[Value.string s, Value.int .i64 a] 62)).alloc (Obj.cells #[Value.string t, Value.int .i64 b] 62)).heap.size := by simp <;> omega
  have f0 : ((w.alloc (Obj.cells #[Value.string s, Value.int .i64 a] 62)).alloc (Obj.cells #[Value.string t, Value.int .i64 b] 62)).cell? ⟨w.heap.size, 0, none⟩ = some (.string s) := by go_cell
  have f1 : ((w.alloc (Obj.cells #[Value.string s, Value.int .i64 a] 62)).alloc (Obj.cells #[Value.string t, Value.int .i64 b] 62)).cell? ⟨w.heap.size, 1, none⟩ = some (.int .i64 a) := by go_cell
  have g0 : ((w.alloc (Obj.cells #[Value.string s, Value.int .i64 a] 62)).alloc (Obj.cells #[Value.string t, Value.int .i64 b] 62)).cell? ⟨w.heap.size + 1, 0, none⟩ = some (.string t) := by go_cell
  have g1 : ((w.alloc (Obj.cells #[Value.string s, Value.int .i64 a] 62)).alloc (Obj.cells #[Value.string t, Value.int .i64 b] 62)).cell? ⟨w.heap.size + 1, 1, none⟩ = some (.int .i64 b) := by go_cell
  have HM : mc (s, a) (t, b) = orV (cs s t) (ic a b) := rfl
  rw [HM]
  unfold Mv
  simp only
  clear HM
  go_enter Try.func62, Try.ntmps62
  go_wp2_with fail
  generalize (w.alloc (Obj.cells #[Value.string s, Value.int .i64 a] 62)).alloc (Obj.cells #[Value.string t, Value.int .i64 b] 62) = z at *
  have l1 : w.heap.size < z.heap.size := z3
  have l2 : w.heap.size + 1 < z.heap.size := z4
  have HS : Hid (∀ u : World, Below z.heap.size z u → (u.cell? ⟨w.heap.size, 0, none⟩ = some (.string s) ∧ u.cell? ⟨w.heap.size, 1, none⟩ = some (.int .i64 a) ∧ u.cell? ⟨w.heap.size + 1, 0, none⟩ = some (.string t) ∧ u.cell? ⟨w.heap.size + 1, 1, none⟩ = some (.int .i64 b) ∧ Below z.heap.size z u)) := Lib.hid (fun u hb => ⟨kp hb l1 f0, kp hb l1 f1, kp hb l2 g0, kp hb l2 g1, hb⟩)
  go_region_held3 (fun w' => w'.cell? ⟨w.heap.size, 0, none⟩ = some (.string s) ∧ w'.cell? ⟨w.heap.size, 1, none⟩ = some (.int .i64 a) ∧ w'.cell? ⟨w.heap.size + 1, 0, none⟩ = some (.string t) ∧ w'.cell? ⟨w.heap.size + 1, 1, none⟩ = some (.int .i64 b) ∧ Below z.heap.size z w') (first | exact HS.out _ (by assumption) | exact HS.out _ (Below.refl _ _) | exact HS.out _ (Below.drew (Below.refl _ _)) | exact HS.out _ (Below.drew (by assumption)) | exact HS.out _ (Below.drew (Below.alloc (Below.refl _ _) (Nat.le_refl _) _)) | exact HS.out _ (Below.alloc (Below.refl _ _) (Nat.le_refl _) _))
    (first | (with_reducible refine (C1.out _ _ _).mono ?_; rintro e w' ⟨rfl, rfl⟩) | (with_reducible refine (C2.out _ _ _).mono ?_; rintro e w' ⟨rfl, rfl⟩) | (with_reducible refine (C3.out _ _ _).mono ?_; rintro e w' ⟨rfl, rfl⟩) | (with_reducible refine (C4.out _ _ _).mono ?_; rintro e w' ⟨rfl, rfl⟩))
  all_goals
    go_wp2
    go_ret
    first | exact ⟨rfl, B2.alloc z2 _⟩ | exact ⟨rfl, (B2.alloc z2 _).drew⟩
end Go.Proofs.Ytipeapjbodnagaa.Ln
