/- Insertion sort of two elements. -/
import Derived.Test.YtbicmlkjonaccaaDoorJ13
import Derived.Test.YtbicmlkjonaccaaDoorJ20

namespace Go.Proofs.YtbicmlkjonaccaaDoor.Ln
open Go.ChangeShapes Go.WideShapes Go.ChangeAt Go.RowKit
open Go.Proofs.YtbicmlkjonaccaaDoor.Nm
set_option linter.unusedVariables false
set_option linter.unusedSimpArgs false
set_option maxRecDepth 8000

set_option maxRecDepth 100000 in
set_option maxHeartbeats 8000000 in
/-- Two elements, the second is the smaller. -/
theorem ins2 (g cap base : Nat) (k0 : Int) (p0 : Option Addr) (xs0 : List Mo) (c0 : Nat) (k1 : Int) (p1 : Option Addr) (xs1 : List Mo) (c1 : Nat) (r : Int) (hr : r < 0) (w : World)
    (hO : Hid (w.ownsRow base 36 3 (.slice (some ⟨g, 0, none⟩) 2 cap) 2 [.int .i64 k0, .slice p0 xs0.length c0, .bool false, .int .i64 k1, .slice p1 xs1.length c1, .bool false])) (S0 : Hid (SlM w p0 xs0)) (S1 : Hid (SlM w p1 xs1))
    (NC : Hid (∀ w', SlM w' p1 xs1 → SlM w' p0 xs0 → Calls Tryd.prog 72 #[Cv k1 p1 xs1.length c1 false, Cv k0 p0 xs0.length c0 false] w' fun e w2 => e = .returned (.int .i64 r) ∧ Below w'.heap.size w' w2)) :
    Calls Tryd.prog 120 #[.slice (some ⟨g, 0, none⟩) 2 cap, .int .i64 0, .int .i64 2, .func (.func 72) #[] #[]] w fun e w' => e = .returned (.tuple #[]) ∧ Below base w w' ∧ K59 w w' ∧ w'.ownsRow base 36 3 (.slice (some ⟨g, 0, none⟩) 2 cap) 2 [.int .i64 k1, .slice p1 xs1.length c1, .bool false, .int .i64 k0, .slice p0 xs0.length c0, .bool false] := by
  have d0 := hO.out.cellAt 0 (by decide)
  have d1 := hO.out.cellAt 1 (by decide)
  have d2 := hO.out.cellAt 2 (by decide)
  have d3 := hO.out.cellAt 3 (by decide)
  have d4 := hO.out.cellAt 4 (by decide)
  have d5 := hO.out.cellAt 5 (by decide)
  simp only [List.getElem?_cons_zero, List.getElem?_cons_succ] at d0 d1 d2 d3 d4 d5
  have HS : Hid (∀ u u' : World, (u.cell? ⟨g, 0, none⟩ = some (.int .i64 k0) ∧ u.cell? ⟨g, 1, none⟩ = some (.slice p0 xs0.length c0) ∧ u.cell? ⟨g, 2, none⟩ = some (.bool false) ∧ u.cell? ⟨g, 3, none⟩ = some (.int .i64 k1) ∧ u.cell? ⟨g, 4, none⟩ = some (.slice p1 xs1.length c1) ∧ u.cell? ⟨g, 5, none⟩ = some (.bool false) ∧ Below w.heap.size w u) → Below u.heap.size u u' → (u'.cell? ⟨g, 0, none⟩ = some (.int .i64 k0) ∧ u'.cell? ⟨g, 1, none⟩ = some (.slice p0 xs0.length c0) ∧ u'.cell? ⟨g, 2, none⟩ = some (.bool false) ∧ u'.cell? ⟨g, 3, none⟩ = some (.int .i64 k1) ∧ u'.cell? ⟨g, 4, none⟩ = some (.slice p1 xs1.length c1) ∧ u'.cell? ⟨g, 5, none⟩ = some (.bool false) ∧ Below w.heap.size w u')) := Lib.hid (fun u u' h hb => ⟨Rg.keep hb (World.block_lt_of_cell? _ _ h.1) h.1, Rg.keep hb (World.block_lt_of_cell? _ _ h.2.1) h.2.1, Rg.keep hb (World.block_lt_of_cell? _ _ h.2.2.1) h.2.2.1, Rg.keep hb (World.block_lt_of_cell? _ _ h.2.2.2.1) h.2.2.2.1, Rg.keep hb (World.block_lt_of_cell? _ _ h.2.2.2.2.1) h.2.2.2.2.1, Rg.keep hb (World.block_lt_of_cell? _ _ h.2.2.2.2.2.1) h.2.2.2.2.2.1, h.2.2.2.2.2.2.trans (hb.mono h.2.2.2.2.2.2.size)⟩)
  have hr2 : decide (r < 0) = true := by simpa using hr
  unfold Cv at NC
  have wz : IntKind.i64.wrap 0 = 0 := by decide
  go_enter Tryd.func120, Tryd.ntmps120
  go_wp2_with fail
  refine wp_loop_rounds 2 ?_
  rw [rounds_succ]
  go_wp2_with fail
  refine wp_loop_rounds 2 ?_
  rw [rounds_succ]
  go_wp2_with fail
  refine Rk.begin (S := fun wS => wS.cell? ⟨g, 0, none⟩ = some (.int .i64 k0) ∧ wS.cell? ⟨g, 1, none⟩ = some (.slice p0 xs0.length c0) ∧ wS.cell? ⟨g, 2, none⟩ = some (.bool false) ∧ wS.cell? ⟨g, 3, none⟩ = some (.int .i64 k1) ∧ wS.cell? ⟨g, 4, none⟩ = some (.slice p1 xs1.length c1) ∧ wS.cell? ⟨g, 5, none⟩ = some (.bool false) ∧ Below w.heap.size w wS) 15 (by kernel_rfl) ⟨d0, d1, d2, d3, d4, d5, Below.drew (Below.refl _ _)⟩ (fun hHeld => ?_)
  refine Rk.takeP (i := 0) (v := ?_) rfl (by kernel_rfl) (by kernel_rfl) (by kernel_rfl) (by kernel_rfl) (fun _ _ _ h => h) (Or.inl ⟨by kernel_rfl, ?_⟩) (by assumption) ?_
  rotate_left
  · ((intro w hSw; go_simp) <;> with_reducible rfl)
  try simp only [wz, Act.put, List.setIfInBounds_toArray, List.set_cons_zero, List.set_cons_succ]
  refine Rk.takeP (i := 1) (v := ?_) rfl (by kernel_rfl) (by kernel_rfl) (by kernel_rfl) (by kernel_rfl) (fun _ _ _ h => h) (Or.inl ⟨by kernel_rfl, ?_⟩) (by assumption) ?_
  rotate_left
  · ((intro w hSw; go_simp) <;> with_reducible rfl)
  try simp only [wz, Act.put, List.setIfInBounds_toArray, List.set_cons_zero, List.set_cons_succ]
  refine Rk.takeP (i := 2) (v := ?_) rfl (by kernel_rfl) (by kernel_rfl) (by kernel_rfl) (by kernel_rfl) (fun _ _ _ h => h) (Or.inl ⟨by kernel_rfl, ?_⟩) (by assumption) ?_
  rotate_left
  · ((intro w hSw; go_simp) <;> with_reducible rfl)
  try simp only [wz, Act.put, List.setIfInBounds_toArray, List.set_cons_zero, List.set_cons_succ]
  refine Rk.takeP (i := 3) (v := ?_) rfl (by kernel_rfl) (by kernel_rfl) (by kernel_rfl) (by kernel_rfl) (fun _ _ _ h => h) (Or.inl ⟨by kernel_rfl, ?_⟩) (by assumption) ?_
  rotate_left
  · ((intro w hSw; go_simp) <;> with_reducible rfl)
  try simp only [wz, Act.put, List.setIfInBounds_toArray, List.set_cons_zero, List.set_cons_succ]
  refine Rk.takeP (i := 4) (v := ?_) rfl (by kernel_rfl) (by kernel_rfl) (by kernel_rfl) (by kernel_rfl) (fun _ _ _ h => h) (Or.inl ⟨by kernel_rfl, ?_⟩) (by assumption) ?_
  rotate_left
  · ((intro w hSw; go_simp) <;> with_reducible rfl)
  try simp only [wz, Act.put, List.setIfInBounds_toArray, List.set_cons_zero, List.set_cons_succ]
  refine Rk.takeP (i := 5) (v := ?_) rfl (by kernel_rfl) (by kernel_rfl) (by kernel_rfl) (by kernel_rfl) (fun _ _ _ h => h) (Or.inl ⟨by kernel_rfl, ?_⟩) (by assumption) ?_
  rotate_left
  · ((intro w hSw; go_simp) <;> with_reducible rfl)
  try simp only [wz, Act.put, List.setIfInBounds_toArray, List.set_cons_zero, List.set_cons_succ]
  refine Rk.takeP (i := 6) (v := ?_) rfl (by kernel_rfl) (by kernel_rfl) (by kernel_rfl) (by kernel_rfl) (fun _ _ _ h => h) (Or.inl ⟨by kernel_rfl, ?_⟩) (by assumption) ?_
  rotate_left
  · ((intro w hSw; go_simp) <;> with_reducible rfl)
  try simp only [wz, Act.put, List.setIfInBounds_toArray, List.set_cons_zero, List.set_cons_succ]
  refine Rk.takeP (i := 7) (v := ?_) rfl (by kernel_rfl) (by kernel_rfl) (by kernel_rfl) (by kernel_rfl) (fun _ _ _ h => h) (Or.inl ⟨by kernel_rfl, ?_⟩) (by assumption) ?_
  rotate_left
  · ((intro w hSw; go_simp) <;> with_reducible rfl)
  try simp only [wz, Act.put, List.setIfInBounds_toArray, List.set_cons_zero, List.set_cons_succ]
  refine Rk.take [14, 15] (i := 8) (v := ?_) rfl (by kernel_rfl) (by kernel_rfl) (by kernel_rfl) (by kernel_rfl) (by kernel_rfl) (fun _ _ _ h => h) (Or.inl ⟨by kernel_rfl, ?_⟩) (by assumption) ?_
  rotate_left
  · ((intro w hSw; (try dsimp only at hSw); go_simp) <;> with_reducible rfl)
  try simp only [wz, Act.put, List.setIfInBounds_toArray, List.set_cons_zero, List.set_cons_succ]
  refine Rk.takeP (i := 9) (v := ?_) rfl (by kernel_rfl) (by kernel_rfl) (by kernel_rfl) (by kernel_rfl) (fun _ _ _ h => h) (Or.inl ⟨by kernel_rfl, ?_⟩) (by assumption) ?_
  rotate_left
  · ((intro w hSw; go_simp) <;> with_reducible rfl)
  try simp only [wz, Act.put, List.setIfInBounds_toArray, List.set_cons_zero, List.set_cons_succ]
  refine Rk.takeP (i := 10) (v := ?_) rfl (by kernel_rfl) (by kernel_rfl) (by kernel_rfl) (by kernel_rfl) (fun _ _ _ h => h) (Or.inl ⟨by kernel_rfl, ?_⟩) (by assumption) ?_
  rotate_left
  · ((intro w hSw; go_simp) <;> with_reducible rfl)
  try simp only [wz, Act.put, List.setIfInBounds_toArray, List.set_cons_zero, List.set_cons_succ]
  refine Rk.takeP (i := 11) (v := ?_) rfl (by kernel_rfl) (by kernel_rfl) (by kernel_rfl) (by kernel_rfl) (fun _ _ _ h => h) (Or.inl ⟨by kernel_rfl, ?_⟩) (by assumption) ?_
  rotate_left
  · ((intro w hSw; go_simp) <;> with_reducible rfl)
  try simp only [wz, Act.put, List.setIfInBounds_toArray, List.set_cons_zero, List.set_cons_succ]
  refine Rk.takeP (i := 12) (v := ?_) rfl (by kernel_rfl) (by kernel_rfl) (by kernel_rfl) (by kernel_rfl) (fun _ _ _ h => h) (Or.inl ⟨by kernel_rfl, ?_⟩) (by assumption) ?_
  rotate_left
  · ((intro w hSw; go_simp) <;> with_reducible rfl)
  try simp only [wz, Act.put, List.setIfInBounds_toArray, List.set_cons_zero, List.set_cons_succ]
  refine Rk.take [14, 15] (i := 13) (v := ?_) rfl (by kernel_rfl) (by kernel_rfl) (by kernel_rfl) (by kernel_rfl) (by kernel_rfl) (fun _ _ _ h => h) (Or.inl ⟨by kernel_rfl, ?_⟩) (by assumption) ?_
  rotate_left
  · ((intro w hSw; (try dsimp only at hSw); go_simp) <;> with_reducible rfl)
  try simp only [wz, Act.put, List.setIfInBounds_toArray, List.set_cons_zero, List.set_cons_succ]
  refine Rk.one (i := 14) (by kernel_rfl) rfl (fun KK hK => ?_)
  rw [if_pos (by kernel_rfl)]
  go_simp
  ((with_reducible refine (NC.out _ (SlM.keep hHeld.2.2.2.2.2.2 S1.out) (SlM.keep hHeld.2.2.2.2.2.2 S0.out)).mono ?_); rintro e u ⟨rfl, hb⟩)
  first | (refine hK.out _ _ (fun _ => HS.out _ _ hHeld hb) (fun hHeld => ?_)) | (refine hK.out _ _ (HS.out _ _ hHeld hb) (fun hHeld => ?_)) | (go_wp2_with fail; refine hK.out _ _ (HS.out _ _ hHeld hb) (fun hHeld => ?_))
  clear hK KK
  refine Rk.tail [15, 16] [_, _] (by kernel_rfl) (by kernel_rfl) rfl (by decide) ?_

  go_wp2_with fail
  obtain ⟨e0, e1, e2, e3, e4, e5, KB0⟩ := hHeld
  refine Rk.begin (S := fun wS => wS.cell? ⟨g, 0, none⟩ = some (.int .i64 k0) ∧ wS.cell? ⟨g, 1, none⟩ = some (.slice p0 xs0.length c0) ∧ wS.cell? ⟨g, 2, none⟩ = some (.bool false) ∧ wS.cell? ⟨g, 3, none⟩ = some (.int .i64 k1) ∧ wS.cell? ⟨g, 4, none⟩ = some (.slice p1 xs1.length c1) ∧ wS.cell? ⟨g, 5, none⟩ = some (.bool false) ∧ Below w.heap.size w wS) 15 (by kernel_rfl) ⟨e0, e1, e2, e3, e4, e5, Below.drew KB0⟩ (fun hHeld => ?_)
  refine Rk.takeP (i := 0) (v := ?_) rfl (by kernel_rfl) (by kernel_rfl) (by kernel_rfl) (by kernel_rfl) (fun _ _ _ h => h) (Or.inl ⟨by kernel_rfl, ?_⟩) (by assumption) ?_
  rotate_left
  · ((intro w hSw; go_simp) <;> with_reducible rfl)
  try simp only [wz, Act.put, List.setIfInBounds_toArray, List.set_cons_zero, List.set_cons_succ]
  refine Rk.takeP (i := 1) (v := ?_) rfl (by kernel_rfl) (by kernel_rfl) (by kernel_rfl) (by kernel_rfl) (fun _ _ _ h => h) (Or.inl ⟨by kernel_rfl, ?_⟩) (by assumption) ?_
  rotate_left
  · ((intro w hSw; go_simp) <;> with_reducible rfl)
  try simp only [wz, Act.put, List.setIfInBounds_toArray, List.set_cons_zero, List.set_cons_succ]
  refine Rk.takeP (i := 2) (v := ?_) rfl (by kernel_rfl) (by kernel_rfl) (by kernel_rfl) (by kernel_rfl) (fun _ _ _ h => h) (Or.inl ⟨by kernel_rfl, ?_⟩) (by assumption) ?_
  rotate_left
  · ((intro w hSw; go_simp) <;> with_reducible rfl)
  try simp only [wz, Act.put, List.setIfInBounds_toArray, List.set_cons_zero, List.set_cons_succ]
  refine Rk.takeP (i := 3) (v := ?_) rfl (by kernel_rfl) (by kernel_rfl) (by kernel_rfl) (by kernel_rfl) (fun _ _ _ h => h) (Or.inl ⟨by kernel_rfl, ?_⟩) (by assumption) ?_
  rotate_left
  · ((intro w hSw; go_simp) <;> with_reducible rfl)
  try simp only [wz, Act.put, List.setIfInBounds_toArray, List.set_cons_zero, List.set_cons_succ]
  refine Rk.takeP (i := 4) (v := ?_) rfl (by kernel_rfl) (by kernel_rfl) (by kernel_rfl) (by kernel_rfl) (fun _ _ _ h => h) (Or.inl ⟨by kernel_rfl, ?_⟩) (by assumption) ?_
  rotate_left
  · ((intro w hSw; go_simp) <;> with_reducible rfl)
  try simp only [wz, Act.put, List.setIfInBounds_toArray, List.set_cons_zero, List.set_cons_succ]
  refine Rk.takeP (i := 5) (v := ?_) rfl (by kernel_rfl) (by kernel_rfl) (by kernel_rfl) (by kernel_rfl) (fun _ _ _ h => h) (Or.inl ⟨by kernel_rfl, ?_⟩) (by assumption) ?_
  rotate_left
  · ((intro w hSw; go_simp) <;> with_reducible rfl)
  try simp only [wz, Act.put, List.setIfInBounds_toArray, List.set_cons_zero, List.set_cons_succ]
  refine Rk.takeP (i := 6) (v := ?_) rfl (by kernel_rfl) (by kernel_rfl) (by kernel_rfl) (by kernel_rfl) (fun _ _ _ h => h) (Or.inl ⟨by kernel_rfl, ?_⟩) (by assumption) ?_
  rotate_left
  · ((intro w hSw; go_simp) <;> with_reducible rfl)
  try simp only [wz, Act.put, List.setIfInBounds_toArray, List.set_cons_zero, List.set_cons_succ]
  refine Rk.takeP (i := 7) (v := ?_) rfl (by kernel_rfl) (by kernel_rfl) (by kernel_rfl) (by kernel_rfl) (fun _ _ _ h => h) (Or.inl ⟨by kernel_rfl, ?_⟩) (by assumption) ?_
  rotate_left
  · ((intro w hSw; go_simp) <;> with_reducible rfl)
  try simp only [wz, Act.put, List.setIfInBounds_toArray, List.set_cons_zero, List.set_cons_succ]
  refine Rk.takeP (i := 8) (v := ?_) rfl (by kernel_rfl) (by kernel_rfl) (by kernel_rfl) (by kernel_rfl) (fun _ _ _ h => h) (Or.inl ⟨by kernel_rfl, ?_⟩) (by assumption) ?_
  rotate_left
  · ((intro w hSw; go_simp) <;> with_reducible rfl)
  try simp only [wz, Act.put, List.setIfInBounds_toArray, List.set_cons_zero, List.set_cons_succ]
  refine Rk.take [15] (i := 9) (v := ?_) rfl (by kernel_rfl) (by kernel_rfl) (by kernel_rfl) (by kernel_rfl) (by kernel_rfl) (fun _ _ _ h => h) (Or.inl ⟨by kernel_rfl, ?_⟩) (by assumption) ?_
  rotate_left
  · ((intro w hSw; (try dsimp only at hSw); go_simp) <;> with_reducible rfl)
  try simp only [wz, Act.put, List.setIfInBounds_toArray, List.set_cons_zero, List.set_cons_succ]
  refine Rk.takeP (i := 10) (v := ?_) rfl (by kernel_rfl) (by kernel_rfl) (by kernel_rfl) (by kernel_rfl) (fun _ _ _ h => h) (Or.inl ⟨by kernel_rfl, ?_⟩) (by assumption) ?_
  rotate_left
  · ((intro w hSw; go_simp) <;> with_reducible rfl)
  try simp only [wz, Act.put, List.setIfInBounds_toArray, List.set_cons_zero, List.set_cons_succ]
  refine Rk.takeP (i := 11) (v := ?_) rfl (by kernel_rfl) (by kernel_rfl) (by kernel_rfl) (by kernel_rfl) (fun _ _ _ h => h) (Or.inl ⟨by kernel_rfl, ?_⟩) (by assumption) ?_
  rotate_left
  · ((intro w hSw; go_simp) <;> with_reducible rfl)
  try simp only [wz, Act.put, List.setIfInBounds_toArray, List.set_cons_zero, List.set_cons_succ]
  refine Rk.takeP (i := 12) (v := ?_) rfl (by kernel_rfl) (by kernel_rfl) (by kernel_rfl) (by kernel_rfl) (fun _ _ _ h => h) (Or.inl ⟨by kernel_rfl, ?_⟩) (by assumption) ?_
  rotate_left
  · ((intro w hSw; go_simp) <;> with_reducible rfl)
  try simp only [wz, Act.put, List.setIfInBounds_toArray, List.set_cons_zero, List.set_cons_succ]
  refine Rk.take [15] (i := 13) (v := ?_) rfl (by kernel_rfl) (by kernel_rfl) (by kernel_rfl) (by kernel_rfl) (by kernel_rfl) (fun _ _ _ h => h) (Or.inl ⟨by kernel_rfl, ?_⟩) (by assumption) ?_
  rotate_left
  · ((intro w hSw; (try dsimp only at hSw); go_simp) <;> with_reducible rfl)
  try simp only [wz, Act.put, List.setIfInBounds_toArray, List.set_cons_zero, List.set_cons_succ]
  refine Rk.takeP (i := 14) (v := ?_) rfl (by kernel_rfl) (by kernel_rfl) (by kernel_rfl) (by kernel_rfl) (fun _ _ _ h => h) (Or.inl ⟨by kernel_rfl, ?_⟩) (by assumption) ?_
  rotate_left
  · ((intro w hSw; go_simp) <;> with_reducible rfl)
  try simp only [wz, Act.put, List.setIfInBounds_toArray, List.set_cons_zero, List.set_cons_succ]
  refine Rk.tail [15, 16, 17] [_, _, _] (by kernel_rfl) (by kernel_rfl) rfl (by decide) ?_

  obtain ⟨e0, e1, e2, e3, e4, e5, KB⟩ := hHeld
  have O1 := own_belowE hO.out KB0
  have f0 : u.frozen? ⟨g, 0, none⟩ = false := O1.frozenAt 0
  have f1 : u.frozen? ⟨g, 1, none⟩ = false := O1.frozenAt 1
  have f2 : u.frozen? ⟨g, 2, none⟩ = false := O1.frozenAt 2
  have f3 : u.frozen? ⟨g, 3, none⟩ = false := O1.frozenAt 3
  have f4 : u.frozen? ⟨g, 4, none⟩ = false := O1.frozenAt 4
  have f5 : u.frozen? ⟨g, 5, none⟩ = false := O1.frozenAt 5
  go_wp2_with fail
  rw [rounds_succ]
  go_wp2_with fail
  go_quiet (fail)
  go_wp2_with fail
  rw [rounds_succ]
  go_wp2_with fail
  go_end0
  have hbg : base ≤ g := by
    rcases hO.out.2 with ⟨h, _⟩ | ⟨g', cap', cur, h, hb, _⟩
    · simp at h
    · cases h; exact hb
  have hbw : base ≤ w.heap.size := by have := World.block_lt_of_cell? _ _ d0; dsimp only at this; omega
  have KB2 : Below base w u := KB0.mono hbw
  have OU : u.ownsRow base 36 3 (.slice (some ⟨g, 0, none⟩) 2 cap) 2 [.int .i64 k0, .slice p0 xs0.length c0, .bool false, .int .i64 k1, .slice p1 xs1.length c1, .bool false] := O1
  have Q0 := OU.stored 3 (.int .i64 k0)
  have J0 := K59.own OU (by decide) Q0.2
  have Q1 := Q0.1.stored 4 (.slice p0 xs0.length c0)
  have J1 := K59.own Q0.1 (by decide) Q1.2
  have Q2 := Q1.1.stored 5 (.bool false)
  have J2 := K59.own Q1.1 (by decide) Q2.2
  have Q3 := Q2.1.stored 0 (.int .i64 k1)
  have J3 := K59.own Q2.1 (by decide) Q3.2
  have Q4 := Q3.1.stored 1 (.slice p1 xs1.length c1)
  have J4 := K59.own Q3.1 (by decide) Q4.2
  have Q5 := Q4.1.stored 2 (.bool false)
  have J5 := K59.own Q4.1 (by decide) Q5.2
  have BB : Below base w ((((((u.setCell ⟨g, 3, none⟩ (.int .i64 k0)).setCell ⟨g, 4, none⟩ (.slice p0 xs0.length c0)).setCell ⟨g, 5, none⟩ (.bool false)).setCell ⟨g, 0, none⟩ (.int .i64 k1)).setCell ⟨g, 1, none⟩ (.slice p1 xs1.length c1)).setCell ⟨g, 2, none⟩ (.bool false)) := ((((((KB2.setCell (p := ⟨g, 3, none⟩) hbg _).setCell (p := ⟨g, 4, none⟩) hbg _).setCell (p := ⟨g, 5, none⟩) hbg _).setCell (p := ⟨g, 0, none⟩) hbg _).setCell (p := ⟨g, 1, none⟩) hbg _).setCell (p := ⟨g, 2, none⟩) hbg _)
  have KK : K59 w ((((((u.setCell ⟨g, 3, none⟩ (.int .i64 k0)).setCell ⟨g, 4, none⟩ (.slice p0 xs0.length c0)).setCell ⟨g, 5, none⟩ (.bool false)).setCell ⟨g, 0, none⟩ (.int .i64 k1)).setCell ⟨g, 1, none⟩ (.slice p1 xs1.length c1)).setCell ⟨g, 2, none⟩ (.bool false)) := (((((((K59.below KB0).trans J0).trans J1).trans J2).trans J3).trans J4).trans J5)
  have dn {B : Nat} {a z : World} (h : Below B a z) (n : Nat) : Below B a (z.drewN n) := h.trans ⟨rfl, rfl, rfl, Nat.le_refl _, fun _ _ => rfl⟩
  exact ⟨rfl, dn BB _, KK.trans (K59.below (dn (Below.refl _ _) _)), own_belowE Q5.1 (dn (Below.refl _ _) _)⟩
end Go.Proofs.YtbicmlkjonaccaaDoor.Ln


namespace Go.Proofs.YtbicmlkjonaccaaDoor.Ln
open Go.ChangeShapes Go.WideShapes Go.ChangeAt Go.RowKit
open Go.Proofs.YtbicmlkjonaccaaDoor.Nm
set_option linter.unusedVariables false
set_option linter.unusedSimpArgs false
set_option maxRecDepth 8000

set_option maxRecDepth 100000 in
set_option maxHeartbeats 8000000 in
theorem stab2 (g cap base : Nat) (k0 : Int) (p0 : Option Addr) (xs0 : List Mo) (c0 : Nat) (k1 : Int) (p1 : Option Addr) (xs1 : List Mo) (c1 : Nat) (r : Int) (hr : r < 0) (w : World)
    (hO : Hid (w.ownsRow base 36 3 (.slice (some ⟨g, 0, none⟩) 2 cap) 2 [.int .i64 k0, .slice p0 xs0.length c0, .bool false, .int .i64 k1, .slice p1 xs1.length c1, .bool false])) (S0 : Hid (SlM w p0 xs0)) (S1 : Hid (SlM w p1 xs1))
    (NC : Hid (∀ w', SlM w' p1 xs1 → SlM w' p0 xs0 → Calls Tryd.prog 72 #[Cv k1 p1 xs1.length c1 false, Cv k0 p0 xs0.length c0 false] w' fun e w2 => e = .returned (.int .i64 r) ∧ Below w'.heap.size w' w2)) :
    Calls Tryd.prog 102 #[.slice (some ⟨g, 0, none⟩) 2 cap, .int .i64 2, .func (.func 72) #[] #[]] w fun e w' => e = .returned (.tuple #[]) ∧ Below base w w' ∧ K59 w w' ∧ w'.ownsRow base 36 3 (.slice (some ⟨g, 0, none⟩) 2 cap) 2 [.int .i64 k1, .slice p1 xs1.length c1, .bool false, .int .i64 k0, .slice p0 xs0.length c0, .bool false] := by
  have IC := Lib.hid (ins2 g cap base k0 p0 xs0 c0 k1 p1 xs1 c1 r hr w hO S0 S1 NC)
  go_enter Tryd.func102, Tryd.ntmps102
  go_wp2_with fail
  refine wp_loop_rounds 1 ?_
  rw [rounds_succ]
  go_wp2_with (go_at_call 120; (with_reducible refine IC.out.mono ?_); rintro e w1 ⟨rfl, B1, K1, O1⟩)
  refine wp_loop_rounds 1 ?_
  rw [rounds_succ]
  go_wp2_with fail
  go_end0
  exact ⟨rfl, B1, K1, O1⟩
set_option maxRecDepth 100000 in
set_option maxHeartbeats 8000000 in
theorem sort2 (g cap base : Nat) (k0 : Int) (p0 : Option Addr) (xs0 : List Mo) (c0 : Nat) (k1 : Int) (p1 : Option Addr) (xs1 : List Mo) (c1 : Nat) (r : Int) (hr : r < 0) (w : World)
    (hO : Hid (w.ownsRow base 36 3 (.slice (some ⟨g, 0, none⟩) 2 cap) 2 [.int .i64 k0, .slice p0 xs0.length c0, .bool false, .int .i64 k1, .slice p1 xs1.length c1, .bool false])) (S0 : Hid (SlM w p0 xs0)) (S1 : Hid (SlM w p1 xs1))
    (NC : Hid (∀ w', SlM w' p1 xs1 → SlM w' p0 xs0 → Calls Tryd.prog 72 #[Cv k1 p1 xs1.length c1 false, Cv k0 p0 xs0.length c0 false] w' fun e w2 => e = .returned (.int .i64 r) ∧ Below w'.heap.size w' w2)) :
    Calls Tryd.prog 71 #[.slice (some ⟨g, 0, none⟩) 2 cap, .func (.func 72) #[] #[]] w fun e w' => e = .returned (.tuple #[]) ∧ Below base w w' ∧ K59 w w' ∧ w'.ownsRow base 36 3 (.slice (some ⟨g, 0, none⟩) 2 cap) 2 [.int .i64 k1, .slice p1 xs1.length c1, .bool false, .int .i64 k0, .slice p0 xs0.length c0, .bool false] := by
  have IC := Lib.hid (stab2 g cap base k0 p0 xs0 c0 k1 p1 xs1 c1 r hr w hO S0 S1 NC)
  go_enter Tryd.func71, Tryd.ntmps71
  go_wp2_with (go_at_call 102; (with_reducible refine IC.out.mono ?_); rintro e w1 ⟨rfl, B1, K1, O1⟩)
  go_end0
  exact ⟨rfl, B1, K1, O1⟩
end Go.Proofs.YtbicmlkjonaccaaDoor.Ln


namespace Go.Proofs.YtbicmlkjonaccaaDoor.Ln
open Go.ChangeShapes Go.WideShapes Go.ChangeAt Go.RowKit
open Go.Proofs.YtbicmlkjonaccaaDoor.Nm
set_option linter.unusedVariables false
set_option linter.unusedSimpArgs false
set_option maxRecDepth 8000

set_option maxHeartbeats 4000000 in
theorem un1 (k : Int) (p : Option Addr) (n c : Nat) (w : World) : Calls Tryd.prog 109 #[Cv k p n c false] w fun e w' => e = .returned (.bool false) ∧ Below w.heap.size w w' := by
  unfold Cv
  go_enter Tryd.func109, Tryd.ntmps109
  go_wp2_with fail
  go_ret
  exact ⟨rfl, (Below.refl _ _).alloc (Nat.le_refl _) _⟩
set_option maxRecDepth 100000 in
set_option maxHeartbeats 8000000 in
theorem ixf2 (g cap : Nat) (k0 : Int) (p0 : Option Addr) (n0 c0 : Nat) (k1 : Int) (p1 : Option Addr) (n1 c1 : Nat) (w : World)
    (d0 : w.cell? ⟨g, 0, none⟩ = some (.int .i64 k0)) (d1 : w.cell? ⟨g, 1, none⟩ = some (.slice p0 n0 c0)) (d2 : w.cell? ⟨g, 2, none⟩ = some (.bool false)) (d3 : w.cell? ⟨g, 3, none⟩ = some (.int .i64 k1)) (d4 : w.cell? ⟨g, 4, none⟩ = some (.slice p1 n1 c1)) (d5 : w.cell? ⟨g, 5, none⟩ = some (.bool false)) :
    Calls Tryd.prog 108 #[.slice (some ⟨g, 0, none⟩) 2 cap, .func (.func 109) #[] #[]] w fun e w' => e = .returned (.int .i64 (-1)) ∧ Below w.heap.size w w' := by
  have U0 := Lib.hid fun w => un1 k0 p0 n0 c0 w
  have U1 := Lib.hid fun w => un1 k1 p1 n1 c1 w
  have lg := World.block_lt_of_cell? _ _ d0
  dsimp only at lg
  unfold Cv at U0 U1
  go_enter Tryd.func108, Tryd.ntmps108
  go_wp2_with fail
  refine wp_loop_rounds 3 ?_
  rw [rounds_succ]
  go_wp2_with (go_at_call 109; (with_reducible refine (U0.out _).mono ?_); rintro e w1 ⟨rfl, hb⟩; have d3 := Rg.keep hb lg d3; have d4 := Rg.keep hb lg d4; have d5 := Rg.keep hb lg d5)
  rw [rounds_succ]
  go_wp2_with (go_at_call 109; (with_reducible refine (U1.out _).mono ?_); rintro e w2 ⟨rfl, hb2⟩; have K2 := hb.trans (hb2.mono hb.size))
  rw [rounds_succ]
  go_wp2_with fail
  go_ret
  exact ⟨rfl, K2⟩
set_option maxRecDepth 100000 in
set_option maxHeartbeats 8000000 in
/-- Two inequalities: the first is the strongest. -/
theorem uni2 (g cap : Nat) (k0 : Int) (p0 : Option Addr) (n0 c0 : Nat) (k1 : Int) (p1 : Option Addr) (n1 c1 : Nat) (w : World)
    (d0 : w.cell? ⟨g, 0, none⟩ = some (.int .i64 k0)) (d1 : w.cell? ⟨g, 1, none⟩ = some (.slice p0 n0 c0)) (d2 : w.cell? ⟨g, 2, none⟩ = some (.bool false)) (d3 : w.cell? ⟨g, 3, none⟩ = some (.int .i64 k1)) (d4 : w.cell? ⟨g, 4, none⟩ = some (.slice p1 n1 c1)) (d5 : w.cell? ⟨g, 5, none⟩ = some (.bool false)) :
    Calls Tryd.prog 75 #[.slice (some ⟨g, 0, none⟩) 2 cap] w fun e w' => e = .returned (.tuple #[Cv k0 p0 n0 c0 false, .bool true]) ∧ Below w.heap.size w w' := by
  have lg := World.block_lt_of_cell? _ _ d0
  dsimp only at lg
  have BA : ∀ o, Below w.heap.size w (w.alloc o) := fun o => (Below.refl _ _).alloc (Nat.le_refl _) o
  have IX := Lib.hid fun w d0 d1 d2 d3 d4 d5 => ixf2 g cap k0 p0 n0 c0 k1 p1 n1 c1 w d0 d1 d2 d3 d4 d5
  go_enter Tryd.func75, Tryd.ntmps75
  go_wp2_with (go_at_call 108; (with_reducible refine (IX.out _ (Rg.keep (BA _) lg d0) (Rg.keep (BA _) lg d1) (Rg.keep (BA _) lg d2) (Rg.keep (BA _) lg d3) (Rg.keep (BA _) lg d4) (Rg.keep (BA _) lg d5)).mono ?_); rintro e w1 ⟨rfl, hb⟩; have BB := (BA (Obj.cells #[Value.int .i64 0, Value.slice none 0 0, Value.bool false] 36)).trans (hb.mono (by simp)); have e0 := Rg.keep BB lg d0; have e1 := Rg.keep BB lg d1; have e2 := Rg.keep BB lg d2; have y0 : w1.cell? ⟨w.heap.size, 0, none⟩ = some (.int .i64 0) := Rg.keep hb (by simp) (by go_cell); have y1 : w1.cell? ⟨w.heap.size, 1, none⟩ = some (.slice none 0 0) := Rg.keep hb (by simp) (by go_cell); have y2 : w1.cell? ⟨w.heap.size, 2, none⟩ = some (.bool false) := Rg.keep hb (by simp) (by go_cell); have x0 : w1.frozen? ⟨w.heap.size, 0, none⟩ = false := Rg.keepF hb (by simp) (by go_cell); have x1 : w1.frozen? ⟨w.heap.size, 1, none⟩ = false := Rg.keepF hb (by simp) (by go_cell); have x2 : w1.frozen? ⟨w.heap.size, 2, none⟩ = false := Rg.keepF hb (by simp) (by go_cell); have ng : ¬ w.heap.size = g := (by omega))
  have lw : w.heap.size < w1.heap.size := World.block_lt_of_cell? _ _ y0
  have KB : Below w.heap.size w w1 := BB
  have SB := ((KB.setCell (p := ⟨w.heap.size, 0, none⟩) (Nat.le_refl _) (.int .i64 k0)).setCell (p := ⟨w.heap.size, 1, none⟩) (Nat.le_refl _) (.slice p0 n0 c0)).setCell (p := ⟨w.heap.size, 2, none⟩) (Nat.le_refl _) (.bool false)
  refine bodyPost_ret (v := .tuple #[.agg #[.int .i64 k0, .slice p0 n0 c0, .bool false], .bool true]) (by simp [results, Tryd.results75, go_sem, y0, y1, y2, x0, x1, x2, lw]) rfl ⟨rfl, SB⟩
end Go.Proofs.YtbicmlkjonaccaaDoor.Ln


namespace Go.Proofs.YtbicmlkjonaccaaDoor.Ln
open Go.ChangeShapes Go.WideShapes Go.ChangeAt Go.RowKit
open Go.Proofs.YtbicmlkjonaccaaDoor.Nm
set_option linter.unusedVariables false
set_option linter.unusedSimpArgs false
set_option maxRecDepth 8000

abbrev FmE := Int × List Mo
abbrev f0m : FmE := (0, [])
/-- A slice of inequalities. -/
def SlC (w : World) (p : Option Addr) (l : List FmE) : Prop := ∀ i, i < l.length → ∃ b o q c, p = some ⟨b, o, none⟩ ∧ w.cell? ⟨b, o + i * 3, none⟩ = some (.int .i64 (l.getD i f0m).1) ∧ w.cell? ⟨b, o + i * 3 + 1, none⟩ = some (.slice q (l.getD i f0m).2.length c) ∧ w.cell? ⟨b, o + i * 3 + 2, none⟩ = some (.bool false) ∧ SlM w q (l.getD i f0m).2
/-- The cells of a row of inequalities. -/
def tcs : List FmE → List (Option Addr × Nat) → List Value
  | a :: r, q :: s => [.int .i64 a.1, .slice q.1 a.2.length q.2, .bool false] ++ tcs r s
  | _, _ => []
theorem tcs_snoc (a : FmE) (q : Option Addr × Nat) : ∀ (l : List FmE) (s : List (Option Addr × Nat)), l.length = s.length → tcs (l ++ [a]) (s ++ [q]) = tcs l s ++ [.int .i64 a.1, .slice q.1 a.2.length q.2, .bool false]
  | [], [], _ => rfl
  | b :: l, r :: s, h => by
    have ih := tcs_snoc a q l s (by simpa using h)
    show [.int .i64 b.1, .slice r.1 b.2.length r.2, .bool false] ++ tcs (l ++ [a]) (s ++ [q]) = _
    rw [ih]
    rfl
  | [], r :: s, h => by simp at h
  | b :: l, [], h => by simp at h
/-- What stands behind j constraints. -/
def FS (res : List FmE) (gt j : Nat) (vl : Value) (qs : List (Option Addr × Nat)) (wr : World) : Prop := qs.length = j ∧ wr.heap[gt]? = some (.cells #[vl] 30 (0, 0)) ∧ wr.heap[gt + 1]? = some (.cells #[.bool true] 4 (0, 0)) ∧ wr.ownsRow (gt + 2) 36 3 vl j (tcs (res.take j) qs) ∧ ∀ i, i < j → SlK wr (qs.getD i (none, 0)).1 (res.getD i f0m).2
theorem take_fm {xs : List FmE} {j : Nat} (h : j < xs.length) : xs.take (j + 1) = xs.take j ++ [xs.getD j f0m] := by
  rw [List.take_succ_eq_append_getElem h]
  have e1 : xs.getD j f0m = xs[j] := by unfold List.getD; rw [List.getElem?_eq_getElem h]; rfl
  rw [e1]
theorem FS.step {res : List FmE} {gt j : Nat} {vl3 : Value} {qs : List (Option Addr × Nat)} {q3 : Option Addr} {d3 : Nat} {K : Int} {ys : List Mo} {wr w1 : World} (hj : j < res.length) (hl : qs.length = j) (hE : ∀ i, i < j → SlK wr (qs.getD i (none, 0)).1 (res.getD i f0m).2) (K3 : K59 wr w1) (SK : SlK w1 q3 ys) (hrr : res.getD j f0m = (K, ys))
    (t1 : w1.heap[gt]? = some (.cells #[vl3] 30 (0, 0))) (t2 : w1.heap[gt + 1]? = some (.cells #[.bool true] 4 (0, 0))) (O3 : w1.ownsRow (gt + 2) 36 3 vl3 (j + 1) (tcs (res.take j) qs ++ [.int .i64 K, .slice q3 ys.length d3, .bool false])) : FS res gt (j + 1) vl3 (qs ++ [(q3, d3)]) w1 := by
  refine ⟨by simp [hl], t1, t2, ?_, fun i hi => ?_⟩
  · rw [take_fm hj, hrr, tcs_snoc _ _ _ _ (by rw [hl, List.length_take]; omega)]
    exact O3
  · rcases (by omega : i < j ∨ i = j) with h | rfl
    · have e : (qs ++ [(q3, d3)]).getD i (none, 0) = qs.getD i (none, 0) := by
        rw [List.getD_eq_getElem?_getD, List.getD_eq_getElem?_getD, List.getElem?_append_left (by omega)]
      rw [e]
      exact (hE i h).on K3
    · have e : (qs ++ [(q3, d3)]).getD i (none, 0) = (q3, d3) := by
        rw [List.getD_eq_getElem?_getD, List.getElem?_append_right (by omega)]
        simp [hl]
      rw [e, hrr]
      exact SK
set_option maxRecDepth 100000 in
set_option maxHeartbeats 4000000 in
theorem first1 (p : Option Addr) (l res : List FmE) (c gt : Nat) (vl : Value) (w : World) (hn : l.length ≤ 1000) (hr : res.length = l.length) (RA : Hid (∀ wz, Below gt w wz → SlC wz p l))
    (T : Hid (∀ i, i < l.length → ∀ p c w', SlM w' p (l.getD i f0m).2 → Calls Tryd.prog 28 #[Cv (l.getD i f0m).1 p (l.getD i f0m).2.length c false] w' (TR ((res.getD i f0m).1, (res.getD i f0m).2, false, 0, 0) w')))
    (hS : Hid (FS res gt 0 vl [] w)) (lt : gt + 1 < w.heap.size) :
    Calls Tryd.prog 56 #[.slice p l.length c, .func (.func 70) #[] #[.pointer (some ⟨gt, 0, none⟩), .pointer (some ⟨gt + 1, 0, none⟩)]] w fun e w' => e = .returned (.tuple #[.int .i64 l.length, .int .i64 0]) ∧ Below gt w w' ∧ ∃ vl qs, FS res gt l.length vl qs w' := by
  obtain ⟨n, hnn⟩ : ∃ n, l.length = n := ⟨_, rfl⟩
  have HN := Lib.hid hnn
  rw [hnn] at hn hr ⊢
  clear hnn
  go_enter Tryd.func56, Tryd.ntmps56
  go_wp2_with fail
  go_loopw [11] (fun i wr => ∃ (j : Nat), i = .int .i64 j ∧ j ≤ n ∧ gt + 1 < wr.heap.size ∧ Hid (Below gt w wr) ∧ Hid (∃ vl qs, FS res gt j vl qs wr)) (fun i _ => n - (intOf i).toNat)
  case atStart => exact ⟨0, rfl, Nat.zero_le _, lt, Lib.hid (Below.refl _ _), Lib.hid ⟨vl, [], hS.out⟩⟩
  case round =>
    obtain ⟨j, rfl, hj, lr, hB, hF⟩ := hrel
    have jj : (0 : Int) ≤ j := by omega
    by_cases hlt : j < n
    · obtain ⟨b, o, q, d, rfl, c0, c1, c2, hM⟩ := RA.out wr hB.out j (by rw [HN.out]; exact hlt)
      have j2 : (j : Int) < n := by omega
      have hbr : b < wr.heap.size := World.block_lt_of_cell? _ _ c0
      obtain ⟨vl2, qs, hl, ht, hp, hO, hE⟩ := hF.out
      have TT := Lib.hid (T.out j (by rw [HN.out]; exact hlt))
      have htk := take_fm (xs := res) (j := j) (by omega)
      obtain ⟨f, hf⟩ : ∃ f, l.getD j f0m = f := ⟨_, rfl⟩
      obtain ⟨r, hrr⟩ : ∃ r, res.getD j f0m = r := ⟨_, rfl⟩
      rw [hf] at c0 c1 hM TT
      rw [hrr] at TT htk
      obtain ⟨k, xs⟩ := f
      obtain ⟨K, ys⟩ := r
      dsimp only at c0 c1 hM TT
      have OBJ : ∃ O, O = (Obj.cells #[Value.int .i64 k, Value.slice q xs.length d, Value.bool false] 36) := ⟨_, rfl⟩
      have BA := (Below.refl wr.heap.size wr).alloc (Nat.le_refl _) (Obj.cells #[Value.int .i64 k, Value.slice q xs.length d, Value.bool false] 36)
      have ht2 := (BA.block gt (by omega)).trans ht
      have hp2 := (BA.block (gt + 1) lr).trans hp
      have CL := Lib.hid (nclo k K q xs ys d gt j vl2 (tcs (res.take j) qs) _ (by omega) (Lib.hid fun w' h => TT.out q d w' h) (Lib.hid (SlM.keep BA hM)) ht2 hp2 (Lib.hid (hO.alloc _)))
      have KA : K59 wr (wr.alloc (Obj.cells #[Value.int .i64 k, Value.slice q xs.length d, Value.bool false] 36)) := K59.below BA
      have BG := Lib.hid (hB.out.alloc (by omega) (Obj.cells #[Value.int .i64 k, Value.slice q xs.length d, Value.bool false] 36))
      have HE := Lib.hid hE
      have HT := Lib.hid htk
      have HQ := Lib.hid hl
      have HRR := Lib.hid hrr
      unfold Cv at CL
      clear ht hp hO ht2 hp2 hM hE htk hf hl hrr OBJ hF hB BA
      have hjr : j < res.length := by omega
      have KAh := Lib.hid KA
      clear KA
      go_wp2_with (go_at_call 70; refine CL.out.mono ?_; rintro e w1 ⟨rfl, vl3, q3, d3, t1, t2, O3, SK, B3, K3⟩; have HF2 := Lib.hid (FS.step hjr HQ.out HE.out (KAh.out.trans K3) SK HRR.out t1 t2 O3); have HB2 := Lib.hid (BG.out.trans B3); have lr2 : gt + 1 < w1.heap.size := hlt_of t2)
      go_roundw
      case rel => exact ⟨j + 1, by go_num, by omega, lr2, HB2, Lib.hid ⟨_, _, HF2.out⟩⟩
      case measure => simp [intOf]; omega
    · obtain rfl : j = n := by omega
      have hB2 := hB.out
      go_wp2
      refine bodyPost_ret (v := .tuple #[.int .i64 j, .int .i64 0]) (by simp [results, Tryd.results56, go_sem]) rfl ⟨rfl, hB2, hF.out⟩
end Go.Proofs.YtbicmlkjonaccaaDoor.Ln


namespace Go.Proofs.YtbicmlkjonaccaaDoor.Ln
open Go.ChangeShapes Go.WideShapes Go.ChangeAt Go.RowKit
open Go.Proofs.YtbicmlkjonaccaaDoor.Nm
set_option linter.unusedVariables false
set_option linter.unusedSimpArgs false
set_option maxRecDepth 8000

theorem SlC.keep {w w' : World} {p : Option Addr} {l : List FmE} (hb : Below w.heap.size w w') (h : SlC w p l) : SlC w' p l := fun i hi => by
  obtain ⟨b, o, q, c, hp, c0, c1, c2, hS⟩ := h i hi
  have lb : b < w.heap.size := World.block_lt_of_cell? _ _ c0
  exact ⟨b, o, q, c, hp, Rg.keep hb lb c0, Rg.keep hb lb c1, Rg.keep hb lb c2, SlM.keep hb hS⟩
/-- What Normalize leaves where one inequality remains. -/
def NF (k : Int) (ys : List Mo) (w : World) (e : Ending) (w' : World) : Prop := ∃ g c q d, e = .returned (.tuple #[.slice (some ⟨g, 0, none⟩) 1 c, .bool true, .int .i64 0]) ∧ w'.cell? ⟨g, 0, none⟩ = some (.int .i64 k) ∧ w'.cell? ⟨g, 1, none⟩ = some (.slice q ys.length d) ∧ w'.cell? ⟨g, 2, none⟩ = some (.bool false) ∧ SlM w' q ys ∧ Below w.heap.size w w'
/-- The state behind the sorting: two elements, the smaller first. -/
def N2 (K0 K1 : Int) (ys : List Mo) (w w' : World) : Prop := ∃ g cap q0 d0 q1 d1, w'.heap[w.heap.size]? = some (.cells #[.slice (some ⟨g, 0, none⟩) 2 cap] 30 (0, 0)) ∧ 
  w'.ownsRow (w.heap.size + 2) 36 3 (.slice (some ⟨g, 0, none⟩) 2 cap) 2 [.int .i64 K1, .slice q1 ys.length d1, .bool false, .int .i64 K0, .slice q0 ys.length d0, .bool false] ∧ SlK w' q0 ys ∧ SlK w' q1 ys ∧ Below w.heap.size w w'
theorem first2 (p : Option Addr) (c : Nat) (a0 a1 K0 K1 : Int) (xs ys : List Mo) (w : World) (RA : Hid (SlC w p [(a0, xs), (a1, xs)]))
    (T0 : Hid (∀ p c w', SlM w' p xs → Calls Tryd.prog 28 #[Cv a0 p xs.length c false] w' (TR (K0, ys, false, 0, 0) w')))
    (T1 : Hid (∀ p c w', SlM w' p xs → Calls Tryd.prog 28 #[Cv a1 p xs.length c false] w' (TR (K1, ys, false, 0, 0) w'))) :
    Calls Tryd.prog 56 #[.slice p 2 c, .func (.func 70) #[] #[.pointer (some ⟨w.heap.size, 0, none⟩), .pointer (some ⟨w.heap.size + 1, 0, none⟩)]] ((w.alloc (Obj.cells #[Value.slice none 0 0] 30)).alloc (Obj.cells #[Value.bool true] 4)) fun e w' => e = .returned (.tuple #[.int .i64 2, .int .i64 0]) ∧ Below w.heap.size w w' ∧ w'.heap[w.heap.size + 1]? = some (.cells #[.bool true] 4 (0, 0)) ∧ ∃ g cap q0 d0 q1 d1, w'.heap[w.heap.size]? = some (.cells #[.slice (some ⟨g, 0, none⟩) 2 cap] 30 (0, 0)) ∧
      w'.ownsRow (w.heap.size + 2) 36 3 (.slice (some ⟨g, 0, none⟩) 2 cap) 2 [.int .i64 K0, .slice q0 ys.length d0, .bool false, .int .i64 K1, .slice q1 ys.length d1, .bool false] ∧ SlK w' q0 ys ∧ SlK w' q1 ys := by
  have B2 : Below w.heap.size w ((w.alloc (Obj.cells #[Value.slice none 0 0] 30)).alloc (Obj.cells #[Value.bool true] 4)) := ((Below.refl _ _).alloc (Nat.le_refl _) _).alloc (by simp) _
  have h0 : ((w.alloc (Obj.cells #[Value.slice none 0 0] 30)).alloc (Obj.cells #[Value.bool true] 4)).heap[w.heap.size]? = some (.cells #[.slice none 0 0] 30 (0, 0)) := (Below.heap_alloc _ _ _ (by simp)).trans (heap_alloc_new w _)
  have h1 : ((w.alloc (Obj.cells #[Value.slice none 0 0] 30)).alloc (Obj.cells #[Value.bool true] 4)).heap[w.heap.size + 1]? = some (.cells #[.bool true] 4 (0, 0)) := by have := heap_alloc_new (w.alloc (Obj.cells #[Value.slice none 0 0] 30)) (Obj.cells #[Value.bool true] 4); simpa using this
  have F := first1 p [(a0, xs), (a1, xs)] [(K0, ys), (K1, ys)] c w.heap.size (.slice none 0 0) ((w.alloc (Obj.cells #[Value.slice none 0 0] 30)).alloc (Obj.cells #[Value.bool true] 4)) (by simp) rfl (Lib.hid fun wz hz => SlC.keep (B2.trans hz) RA.out)
    (Lib.hid fun i hi => by
      rcases i with _ | _ | i
      · exact T0.out
      · exact T1.out
      · exact absurd (show i + 2 < 2 from hi) (by omega)) (Lib.hid ⟨rfl, h0, h1, World.ownsRow_nil _ _ _ _, fun i hi => absurd hi (Nat.not_lt_zero _)⟩) (by simp)
  refine F.mono ?_
  rintro e w' ⟨rfl, hb, vl, qs, hl, k0, k1, hO, hS⟩
  refine ⟨rfl, B2.trans hb, k1, ?_⟩
  rcases qs with _ | ⟨⟨q0, d0⟩, _ | ⟨⟨q1, d1⟩, _ | ⟨z, qs⟩⟩⟩
  · simp at hl
  · simp at hl
  · have s0 := hS 0 (by simp)
    have s1 := hS 1 (by simp)
    rcases hO.2 with ⟨hv, hn⟩ | ⟨g, cap, cur, hv, r⟩
    · simp at hn
    · subst hv
      exact ⟨g, cap, q0, d0, q1, d1, k0, hO, s0, s1⟩
  · simp at hl
end Go.Proofs.YtbicmlkjonaccaaDoor.Ln
