/- The closures of a format. -/
import Derived.Test.YtikcinkbkakkmaaGreatDoorGG
import Derived.Test.YtikcinkbkakkmaaGreatDoorFxD
import Derived.Test.YtikcinkbkakkmaaGreatDoorNarAll
import Derived.Laws.EntriesVeiled

namespace Go.Proofs.YtikcinkbkakkmaaGreatDoor.Fx
open Go.ChangeShapes Go.WideShapes Go.ChangeAt Go.RowKit
open Fr
set_option linter.unusedVariables false
set_option linter.unusedSimpArgs false
/-- The five cells of a type. -/
def TyAt (K B F R O : Int) (x : Nat) (w : World) : Prop := w.cell? ⟨x, 0, none⟩ = some (.int .i64 K) ∧ w.cell? ⟨x, 1, none⟩ = some (.int .i64 B) ∧ w.cell? ⟨x, 2, none⟩ = some (.int .i64 F) ∧ w.cell? ⟨x, 3, none⟩ = some (.int .i64 R) ∧ w.cell? ⟨x, 4, none⟩ = some (.int .i64 O)
theorem TyAt.keep {K B F R O : Int} {x : Nat} {y y' : World} (hy : Below y.heap.size y y') (hb : x < y.heap.size) (h : TyAt K B F R O x y) : TyAt K B F R O x y' :=
  ⟨Rg.keep hy hb h.1, Rg.keep hy hb h.2.1, Rg.keep hy hb h.2.2.1, Rg.keep hy hb h.2.2.2.1, Rg.keep hy hb h.2.2.2.2⟩
theorem TyAt.mk {K B F R O : Int} {x : Nat} {w : World} (h0 : w.cell? ⟨x, 0, none⟩ = some (.int .i64 K)) (h1 : w.cell? ⟨x, 1, none⟩ = some (.int .i64 B)) (h2 : w.cell? ⟨x, 2, none⟩ = some (.int .i64 F)) (h3 : w.cell? ⟨x, 3, none⟩ = some (.int .i64 R)) (h4 : w.cell? ⟨x, 4, none⟩ = some (.int .i64 O)) : TyAt K B F R O x w := ⟨h0, h1, h2, h3, h4⟩
abbrev Fo1 (x : Nat) : Value := .func (.func 115) #[] #[.pointer (some ⟨x, 0, none⟩)]
abbrev Fo2 (x : Nat) : Value := .func (.func 116) #[] #[.pointer (some ⟨x, 0, none⟩)]
set_option maxHeartbeats 4000000 in
theorem fo1 (K B F R O n d : Int) (x : Nat) (w : World) (h : TyAt K B F R O x w) (n0 : -9223372036854775808 ≤ n) (n1 : n ≤ 9223372036854775807) (b6 : -9223372036854775808 ≤ d) (b7 : d ≤ 9223372036854775807) :
    Calls Tryz.prog 115 #[.int .i64 n, .int .i64 d, .pointer (some ⟨x, 0, none⟩)] w (Val1 .i64 (Dv.dval R n d) w) := by
  obtain ⟨h0, h1, h2, h3, h4⟩ := h
  have D := Lib.hid fun w => Dv.div_any R n d w n0 n1 b6 b7
  generalize Dv.dval R n d = q at *
  go_enter Tryz.func115, Tryz.ntmps115
  go_wp2_with (go_at_call 71; refine (D.out _).mono ?_; rintro e w' ⟨rfl, k, rfl⟩)
  go_ret
  exact ⟨rfl, _, rfl⟩
set_option maxHeartbeats 4000000 in
theorem fo2 (K B F R O n : Int) (x : Nat) (w : World) (h : TyAt K B F R O x w) (n0 : -9223372036854775808 ≤ n) (n1 : n ≤ 9223372036854775807) (b6 : -9223372036854775808 ≤ B) (b7 : B ≤ 9223372036854775807) :
    Calls Tryz.prog 116 #[.int .i64 n, .pointer (some ⟨x, 0, none⟩)] w fun e w' => e = .returned (.int .i64 (Nx.nv n B O)) ∧ w = w' := by
  obtain ⟨h0, h1, h2, h3, h4⟩ := h
  have D := Lib.hid fun w => Nx.cnar_any n B O w n0 n1 b6 b7
  generalize Nx.nv n B O = q at *
  generalize Nx.nb n B O = q' at *
  go_enter Tryz.func116, Tryz.ntmps116
  go_wp2_with (go_at_call 117; refine (D.out _).mono ?_; rintro e w' ⟨rfl, rfl⟩)
  go_ret
  exact ⟨rfl, rfl⟩
def FO (K B F R O p : Int) (w : World) (e : Ending) (w' : World) : Prop :=
  e = .returned (.agg #[Fo1 w.heap.size, Fo2 w.heap.size, .int .i64 p]) ∧ Below w.heap.size w w' ∧ w.heap.size < w'.heap.size ∧ TyAt K B F R O w.heap.size w'
set_option maxHeartbeats 4000000 in
theorem fo_any (K B F R O p : Int) (w : World) (hp : (2 : Int) ^ F.toNat = p) (p0 : 1 ≤ p) (p1 : p ≤ 1073741824) (f0 : 0 ≤ F) (f1 : F ≤ 30) :
    Calls Tryz.prog 94 #[.agg #[.int .i64 K, .int .i64 B, .int .i64 F, .int .i64 R, .int .i64 O]] w (FO K B F R O p w) := by
  go_enter Tryz.func94, Tryz.ntmps94
  go_wp2
  refine bodyPost_ret (v := .agg #[Fo1 w.heap.size, Fo2 w.heap.size, .int .i64 p]) (by simp [results, Tryz.results94, go_sem]) rfl ⟨rfl, ?_, ?_, ?_, ?_, ?_, ?_, ?_⟩
  · go_grown
  · simp <;> omega
  all_goals go_cell
end Go.Proofs.YtikcinkbkakkmaaGreatDoor.Fx
