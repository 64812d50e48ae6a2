/- The law on Apply. -/
import Derived.Test.YthkhlhibhkdkkaaG19
import Derived.Test.YthkhlhibhkdkkaaD7

namespace Go.Proofs.Ythkhlhibhkdkkaa.Va
open Go.ChangeShapes Go.WideShapes Go.ChangeAt Go.RowKit
open Fr Fx
set_option maxRecDepth 8000
set_option linter.unusedVariables false
set_option linter.unusedSimpArgs false

set_option maxHeartbeats 2000000 in
theorem law_applies (op n1 d1 t1 u1 n2 d2 t2 u2 : Int) (w : World) (hn2 : -9223372036854775808 ≤ n2 ∧ n2 ≤ 9223372036854775807) : Calls Try.prog 3 #[.int .i64 op, D4 n1 d1 t1 u1, D4 n2 d2 t2 u2] w (Ret (.bool true) w) := by
  have IN1 := Lib.hid fun w => law_in n1 d1 t1 u1 w
  have IN2 := Lib.hid fun w => law_in n2 d2 t2 u2 w
  have AP := Lib.hid fun w => c_dap op n1 d1 t1 u1 n2 d2 t2 u2 w hn2
  have RA := Lib.hid fun w => r_dap op n1 d1 t1 u1 n2 d2 t2 u2 w hn2
  have AL := Lib.hid fun w => alive1 w
  obtain ⟨r, hr⟩ : ∃ r, dav op n1 d1 t1 u1 n2 d2 t2 u2 = r := ⟨_, rfl⟩
  rw [hr] at AP RA
  clear hr hn2
  obtain ⟨x, y, z, s, e⟩ := r
  have SM := Lib.hid fun w => law_same x y z s x y z s w
  rw [show decide (x = x ∧ y = y ∧ z = z ∧ s = s) = true by simp] at SM
  go_enter Try.func3, Try.ntmps3
  go_wp2_with fail
  obtain ⟨zw1, hzw⟩ : ∃ zw1, zw1 = ((w.alloc (.cells #[.int .i64 n1, .int .i64 d1, .int .i64 t1, .int .i64 u1] 25)).alloc (.cells #[.int .i64 n2, .int .i64 d2, .int .i64 t2, .int .i64 u2] 25)) := ⟨_, rfl⟩
  have hb : Below ((w.alloc (.cells #[.int .i64 n1, .int .i64 d1, .int .i64 t1, .int .i64 u1] 25)).alloc (.cells #[.int .i64 n2, .int .i64 d2, .int .i64 t2, .int .i64 u2] 25)).heap.size ((w.alloc (.cells #[.int .i64 n1, .int .i64 d1, .int .i64 t1, .int .i64 u1] 25)).alloc (.cells #[.int .i64 n2, .int .i64 d2, .int .i64 t2, .int .i64 u2] 25)) zw1 := by rw [hzw]; exact Below.refl _ _
  rw [← hzw]
  clear hzw
  have L : Below w.heap.size w zw1 := (((Below.refl _ _).alloc (by simp <;> omega) _).alloc (by simp <;> omega) _).trans (hb.mono (by simp <;> omega))
  have K1 : Below w.heap.size w zw1 := L
  have la : w.heap.size < zw1.heap.size := Nat.lt_of_lt_of_le (by simp <;> omega) hb.size
  have a0 : zw1.cell? ⟨w.heap.size, 0, none⟩ = some (.int .i64 n1) := Rg.keep hb (by simp <;> omega) (by go_cell)
  have a1 : zw1.cell? ⟨w.heap.size, 1, none⟩ = some (.int .i64 d1) := Rg.keep hb (by simp <;> omega) (by go_cell)
  have a2 : zw1.cell? ⟨w.heap.size, 2, none⟩ = some (.int .i64 t1) := Rg.keep hb (by simp <;> omega) (by go_cell)
  have a3 : zw1.cell? ⟨w.heap.size, 3, none⟩ = some (.int .i64 u1) := Rg.keep hb (by simp <;> omega) (by go_cell)
  have lb : w.heap.size + 1 < zw1.heap.size := Nat.lt_of_lt_of_le (by simp <;> omega) hb.size
  have b0 : zw1.cell? ⟨w.heap.size + 1, 0, none⟩ = some (.int .i64 n2) := Rg.keep hb (by simp <;> omega) (by go_cell)
  have b1 : zw1.cell? ⟨w.heap.size + 1, 1, none⟩ = some (.int .i64 d2) := Rg.keep hb (by simp <;> omega) (by go_cell)
  have b2 : zw1.cell? ⟨w.heap.size + 1, 2, none⟩ = some (.int .i64 t2) := Rg.keep hb (by simp <;> omega) (by go_cell)
  have b3 : zw1.cell? ⟨w.heap.size + 1, 3, none⟩ = some (.int .i64 u2) := Rg.keep hb (by simp <;> omega) (by go_cell)
  clear hb L
  have hz : zw1.cell? ⟨w.heap.size, 0, none⟩ = some (.int .i64 n1) ∧ zw1.cell? ⟨w.heap.size, 1, none⟩ = some (.int .i64 d1) ∧ zw1.cell? ⟨w.heap.size, 2, none⟩ = some (.int .i64 t1) ∧ zw1.cell? ⟨w.heap.size, 3, none⟩ = some (.int .i64 u1) ∧ zw1.cell? ⟨w.heap.size + 1, 0, none⟩ = some (.int .i64 n2) ∧ zw1.cell? ⟨w.heap.size + 1, 1, none⟩ = some (.int .i64 d2) ∧ zw1.cell? ⟨w.heap.size + 1, 2, none⟩ = some (.int .i64 t2) ∧ zw1.cell? ⟨w.heap.size + 1, 3, none⟩ = some (.int .i64 u2) ∧ Below w.heap.size w zw1 := ⟨a0, a1, a2, a3, b0, b1, b2, b3, K1⟩
  clear a0 a1 a2 a3 b0 b1 b2 b3 K1
  have HS : Hid (∀ u u' : World, (u.cell? ⟨w.heap.size, 0, none⟩ = some (.int .i64 n1) ∧ u.cell? ⟨w.heap.size, 1, none⟩ = some (.int .i64 d1) ∧ u.cell? ⟨w.heap.size, 2, none⟩ = some (.int .i64 t1) ∧ u.cell? ⟨w.heap.size, 3, none⟩ = some (.int .i64 u1) ∧ u.cell? ⟨w.heap.size + 1, 0, none⟩ = some (.int .i64 n2) ∧ u.cell? ⟨w.heap.size + 1, 1, none⟩ = some (.int .i64 d2) ∧ u.cell? ⟨w.heap.size + 1, 2, none⟩ = some (.int .i64 t2) ∧ u.cell? ⟨w.heap.size + 1, 3, none⟩ = some (.int .i64 u2) ∧ Below w.heap.size w u) → Below u.heap.size u u' → (u'.cell? ⟨w.heap.size, 0, none⟩ = some (.int .i64 n1) ∧ u'.cell? ⟨w.heap.size, 1, none⟩ = some (.int .i64 d1) ∧ u'.cell? ⟨w.heap.size, 2, none⟩ = some (.int .i64 t1) ∧ u'.cell? ⟨w.heap.size, 3, none⟩ = some (.int .i64 u1) ∧ u'.cell? ⟨w.heap.size + 1, 0, none⟩ = some (.int .i64 n2) ∧ u'.cell? ⟨w.heap.size + 1, 1, none⟩ = some (.int .i64 d2) ∧ u'.cell? ⟨w.heap.size + 1, 2, none⟩ = some (.int .i64 t2) ∧ u'.cell? ⟨w.heap.size + 1, 3, none⟩ = some (.int .i64 u2) ∧ Below w.heap.size w u')) := Lib.hid (fun u u' h hb => ⟨Rg.keep hb (World.block_lt_of_cell? _ _ h.1) h.1, Rg.keep hb (World.block_lt_of_cell? _ _ h.2.1) h.2.1, Rg.keep hb (World.block_lt_of_cell? _ _ h.2.2.1) h.2.2.1, Rg.keep hb (World.block_lt_of_cell? _ _ h.2.2.2.1) h.2.2.2.1, Rg.keep hb (World.block_lt_of_cell? _ _ h.2.2.2.2.1) h.2.2.2.2.1, Rg.keep hb (World.block_lt_of_cell? _ _ h.2.2.2.2.2.1) h.2.2.2.2.2.1, Rg.keep hb (World.block_lt_of_cell? _ _ h.2.2.2.2.2.2.1) h.2.2.2.2.2.2.1, Rg.keep hb (World.block_lt_of_cell? _ _ h.2.2.2.2.2.2.2.1) h.2.2.2.2.2.2.2.1, h.2.2.2.2.2.2.2.2.trans (hb.mono h.2.2.2.2.2.2.2.2.size)⟩)
  refine Rk.begin (S := fun wS => wS.cell? ⟨w.heap.size, 0, none⟩ = some (.int .i64 n1) ∧ wS.cell? ⟨w.heap.size, 1, none⟩ = some (.int .i64 d1) ∧ wS.cell? ⟨w.heap.size, 2, none⟩ = some (.int .i64 t1) ∧ wS.cell? ⟨w.heap.size, 3, none⟩ = some (.int .i64 u1) ∧ wS.cell? ⟨w.heap.size + 1, 0, none⟩ = some (.int .i64 n2) ∧ wS.cell? ⟨w.heap.size + 1, 1, none⟩ = some (.int .i64 d2) ∧ wS.cell? ⟨w.heap.size + 1, 2, none⟩ = some (.int .i64 t2) ∧ wS.cell? ⟨w.heap.size + 1, 3, none⟩ = some (.int .i64 u2) ∧ Below w.heap.size w wS) 10 (by kernel_rfl) (HS.out _ _ hz (Below.drew (Below.refl _ _))) (fun hHeld => ?_)
  refine Rk.takeP (i := 0) (v := ?_) rfl (by kernel_rfl) (by kernel_rfl) (by kernel_rfl) (by kernel_rfl) (fun _ _ _ h => h) (Or.inl ⟨by kernel_rfl, ?_⟩) (by assumption) ?_
  rotate_left
  · ((intro w hSw; go_simp) <;> with_reducible rfl)
  try simp only [Act.put, List.setIfInBounds_toArray, List.set_cons_zero, List.set_cons_succ]
  refine Rk.take [10] (i := 1) (v := ?_) rfl (by kernel_rfl) (by kernel_rfl) (by kernel_rfl) (by kernel_rfl) (by kernel_rfl) (fun _ _ _ h => h) (Or.inl ⟨by kernel_rfl, ?_⟩) (by assumption) ?_
  rotate_left
  · ((intro w hSw; (try dsimp only at hSw); go_simp) <;> with_reducible rfl)
  try simp only [Act.put, List.setIfInBounds_toArray, List.set_cons_zero, List.set_cons_succ]
  refine Rk.take [10] (i := 3) (v := ?_) rfl (by kernel_rfl) (by kernel_rfl) (by kernel_rfl) (by kernel_rfl) (by kernel_rfl) (fun _ _ _ h => h) (Or.inl ⟨by kernel_rfl, ?_⟩) (by assumption) ?_
  rotate_left
  · ((intro w hSw; (try dsimp only at hSw); go_simp) <;> with_reducible rfl)
  try simp only [Act.put, List.setIfInBounds_toArray, List.set_cons_zero, List.set_cons_succ]
  refine Rk.two (i := 2) (j := 9) (by kernel_rfl) rfl rfl (fun KK hK => ?_) (fun KK hK => ?_)
  · rw [if_pos (by kernel_rfl)]
    go_simp
    (refine (IN1.out _).mono ?_; rintro e uw2 ⟨rfl, hb⟩)
    have hNew := HS.out _ _ hHeld hb
    have hs_uw2 : zw1.heap.size ≤ uw2.heap.size := by have hzz := hb.size; (try simp at hzz); omega
    first | (refine hK.out _ _ (fun _ => hNew) (fun _ => ?_)) | (refine hK.out _ _ hNew (fun _ => ?_)) | (go_wp2_with fail; refine hK.out _ _ hNew (fun _ => ?_))
    replace hHeld := hNew
    clear hNew hb
    clear hK KK
    refine Rk.two (i := 4) (j := 9) (by kernel_rfl) rfl rfl (fun KK hK => ?_) (fun KK hK => ?_)
    · rw [if_pos (by kernel_rfl)]
      go_simp
      (refine (IN2.out _).mono ?_; rintro e uw4 ⟨rfl, hb⟩)
      have hNew := HS.out _ _ hHeld hb
      have hs_uw4 : zw1.heap.size ≤ uw4.heap.size := by have hzz := hb.size; (try simp at hzz); omega
      first | (refine hK.out _ _ (fun _ => hNew) (fun _ => ?_)) | (refine hK.out _ _ hNew (fun _ => ?_)) | (go_wp2_with fail; refine hK.out _ _ hNew (fun _ => ?_))
      replace hHeld := hNew
      clear hNew hb
      clear hK KK
      refine Rk.two (i := 5) (j := 9) (by kernel_rfl) rfl rfl (fun KK hK => ?_) (fun KK hK => ?_)
      · rw [if_pos (by kernel_rfl)]
        go_simp
        (refine (AP.out _).mono ?_; rintro e uw5 ⟨rfl, hb⟩)
        have hNew := HS.out _ _ hHeld hb
        have hs_uw5 : zw1.heap.size ≤ uw5.heap.size := by have hzz := hb.size; (try simp at hzz); omega
        first | (refine hK.out _ _ (fun _ => hNew) (fun _ => ?_)) | (refine hK.out _ _ hNew (fun _ => ?_)) | (go_wp2_with fail; refine hK.out _ _ hNew (fun _ => ?_))
        replace hHeld := hNew
        clear hNew hb
        clear hK KK
        refine Rk.takeP (i := 6) (v := ?_) rfl (by kernel_rfl) (by kernel_rfl) (by kernel_rfl) (by kernel_rfl) (fun _ _ _ h => h) (Or.inl ⟨by kernel_rfl, ?_⟩) (by assumption) ?_
        rotate_left
        · ((intro w hSw; go_simp) <;> with_reducible rfl)
        try simp only [Act.put, List.setIfInBounds_toArray, List.set_cons_zero, List.set_cons_succ]
        refine Rk.takeP (i := 7) (v := ?_) rfl (by kernel_rfl) (by kernel_rfl) (by kernel_rfl) (by kernel_rfl) (fun _ _ _ h => h) (Or.inl ⟨by kernel_rfl, ?_⟩) (by assumption) ?_
        rotate_left
        · ((intro w hSw; go_simp) <;> with_reducible rfl)
        try simp only [Act.put, List.setIfInBounds_toArray, List.set_cons_zero, List.set_cons_succ]
        refine Rk.takeP (i := 8) (v := ?_) rfl (by kernel_rfl) (by kernel_rfl) (by kernel_rfl) (by kernel_rfl) (fun _ _ _ h => h) (Or.inl ⟨by kernel_rfl, ?_⟩) (by assumption) ?_
        rotate_left
        · ((intro w hSw; go_simp) <;> with_reducible rfl)
        try simp only [Act.put, List.setIfInBounds_toArray, List.set_cons_zero, List.set_cons_succ]
        refine Rk.one (i := 9) (by kernel_rfl) rfl (fun KK hK => ?_)
        rw [if_pos (by kernel_rfl)]
        go_simp
        have hNew := HS.out _ _ hHeld ((Below.refl _ _).alloc (Nat.le_refl _) (Obj.cells #[Value.int .i64 0, Value.int .i64 0, Value.int .i64 0, Value.int .i64 0] 26))
        refine hK.out _ _ hNew (fun _ => ?_)
        replace hHeld := hNew
        clear hNew
        clear hK KK
        refine Rk.tail [10, 11] [_, _] (by kernel_rfl) (by kernel_rfl) rfl (by decide) ?_
        obtain ⟨a0, a1, a2, a3, b0, b1, b2, b3, K9⟩ := hHeld
        have m0 : (uw5.alloc (Obj.cells #[Value.int .i64 0, Value.int .i64 0, Value.int .i64 0, Value.int .i64 0] 26)).cell? ⟨uw5.heap.size, 0, none⟩ = some (.int .i64 0) := by go_cell
        have fm0 : (uw5.alloc (Obj.cells #[Value.int .i64 0, Value.int .i64 0, Value.int .i64 0, Value.int .i64 0] 26)).frozen? ⟨uw5.heap.size, 0, none⟩ = false := by simp only [frozen?_alloc_cells]; exact Rg.notFrozen (Nat.le_refl _)
        have m1 : (uw5.alloc (Obj.cells #[Value.int .i64 0, Value.int .i64 0, Value.int .i64 0, Value.int .i64 0] 26)).cell? ⟨uw5.heap.size, 1, none⟩ = some (.int .i64 0) := by go_cell
        have fm1 : (uw5.alloc (Obj.cells #[Value.int .i64 0, Value.int .i64 0, Value.int .i64 0, Value.int .i64 0] 26)).frozen? ⟨uw5.heap.size, 1, none⟩ = false := by simp only [frozen?_alloc_cells]; exact Rg.notFrozen (Nat.le_refl _)
        have m2 : (uw5.alloc (Obj.cells #[Value.int .i64 0, Value.int .i64 0, Value.int .i64 0, Value.int .i64 0] 26)).cell? ⟨uw5.heap.size, 2, none⟩ = some (.int .i64 0) := by go_cell
        have fm2 : (uw5.alloc (Obj.cells #[Value.int .i64 0, Value.int .i64 0, Value.int .i64 0, Value.int .i64 0] 26)).frozen? ⟨uw5.heap.size, 2, none⟩ = false := by simp only [frozen?_alloc_cells]; exact Rg.notFrozen (Nat.le_refl _)
        have m3 : (uw5.alloc (Obj.cells #[Value.int .i64 0, Value.int .i64 0, Value.int .i64 0, Value.int .i64 0] 26)).cell? ⟨uw5.heap.size, 3, none⟩ = some (.int .i64 0) := by go_cell
        have fm3 : (uw5.alloc (Obj.cells #[Value.int .i64 0, Value.int .i64 0, Value.int .i64 0, Value.int .i64 0] 26)).frozen? ⟨uw5.heap.size, 3, none⟩ = false := by simp only [frozen?_alloc_cells]; exact Rg.notFrozen (Nat.le_refl _)
        generalize (uw5.alloc (Obj.cells #[Value.int .i64 0, Value.int .i64 0, Value.int .i64 0, Value.int .i64 0] 26)) = gw at *
        have lm : uw5.heap.size < gw.heap.size := World.block_lt_of_cell? _ _ m0
        have lw : w.heap.size ≤ uw5.heap.size := by omega
        have ne0 : uw5.heap.size ≠ w.heap.size := by omega
        have ne1 : uw5.heap.size ≠ w.heap.size + 1 := by omega
        have lo0 : w.heap.size < gw.heap.size := by omega
        have lo1 : w.heap.size + 1 < gw.heap.size := by omega
        go_wp2_with fail
        have a0 : ((((gw.setCell ⟨uw5.heap.size, 0, none⟩ (.int .i64 x)).setCell ⟨uw5.heap.size, 1, none⟩ (.int .i64 y)).setCell ⟨uw5.heap.size, 2, none⟩ (.int .i64 z)).setCell ⟨uw5.heap.size, 3, none⟩ (.int .i64 s)).cell? ⟨w.heap.size, 0, none⟩ = some (.int .i64 n1) := far4 ne0 a0
        have a1 : ((((gw.setCell ⟨uw5.heap.size, 0, none⟩ (.int .i64 x)).setCell ⟨uw5.heap.size, 1, none⟩ (.int .i64 y)).setCell ⟨uw5.heap.size, 2, none⟩ (.int .i64 z)).setCell ⟨uw5.heap.size, 3, none⟩ (.int .i64 s)).cell? ⟨w.heap.size, 1, none⟩ = some (.int .i64 d1) := far4 ne0 a1
        have a2 : ((((gw.setCell ⟨uw5.heap.size, 0, none⟩ (.int .i64 x)).setCell ⟨uw5.heap.size, 1, none⟩ (.int .i64 y)).setCell ⟨uw5.heap.size, 2, none⟩ (.int .i64 z)).setCell ⟨uw5.heap.size, 3, none⟩ (.int .i64 s)).cell? ⟨w.heap.size, 2, none⟩ = some (.int .i64 t1) := far4 ne0 a2
        have a3 : ((((gw.setCell ⟨uw5.heap.size, 0, none⟩ (.int .i64 x)).setCell ⟨uw5.heap.size, 1, none⟩ (.int .i64 y)).setCell ⟨uw5.heap.size, 2, none⟩ (.int .i64 z)).setCell ⟨uw5.heap.size, 3, none⟩ (.int .i64 s)).cell? ⟨w.heap.size, 3, none⟩ = some (.int .i64 u1) := far4 ne0 a3
        have b0 : ((((gw.setCell ⟨uw5.heap.size, 0, none⟩ (.int .i64 x)).setCell ⟨uw5.heap.size, 1, none⟩ (.int .i64 y)).setCell ⟨uw5.heap.size, 2, none⟩ (.int .i64 z)).setCell ⟨uw5.heap.size, 3, none⟩ (.int .i64 s)).cell? ⟨w.heap.size + 1, 0, none⟩ = some (.int .i64 n2) := far4 ne1 b0
        have b1 : ((((gw.setCell ⟨uw5.heap.size, 0, none⟩ (.int .i64 x)).setCell ⟨uw5.heap.size, 1, none⟩ (.int .i64 y)).setCell ⟨uw5.heap.size, 2, none⟩ (.int .i64 z)).setCell ⟨uw5.heap.size, 3, none⟩ (.int .i64 s)).cell? ⟨w.heap.size + 1, 1, none⟩ = some (.int .i64 d2) := far4 ne1 b1
        have b2 : ((((gw.setCell ⟨uw5.heap.size, 0, none⟩ (.int .i64 x)).setCell ⟨uw5.heap.size, 1, none⟩ (.int .i64 y)).setCell ⟨uw5.heap.size, 2, none⟩ (.int .i64 z)).setCell ⟨uw5.heap.size, 3, none⟩ (.int .i64 s)).cell? ⟨w.heap.size + 1, 2, none⟩ = some (.int .i64 t2) := far4 ne1 b2
        have b3 : ((((gw.setCell ⟨uw5.heap.size, 0, none⟩ (.int .i64 x)).setCell ⟨uw5.heap.size, 1, none⟩ (.int .i64 y)).setCell ⟨uw5.heap.size, 2, none⟩ (.int .i64 z)).setCell ⟨uw5.heap.size, 3, none⟩ (.int .i64 s)).cell? ⟨w.heap.size + 1, 3, none⟩ = some (.int .i64 u2) := far4 ne1 b3
        have hst := st4 (x := .int .i64 x) (y := .int .i64 y) (z := .int .i64 z) (t := .int .i64 s) m0 m1 m2 m3
        obtain ⟨s0, s1, s2, s3⟩ := hst
        have KS : Below w.heap.size w ((((gw.setCell ⟨uw5.heap.size, 0, none⟩ (.int .i64 x)).setCell ⟨uw5.heap.size, 1, none⟩ (.int .i64 y)).setCell ⟨uw5.heap.size, 2, none⟩ (.int .i64 z)).setCell ⟨uw5.heap.size, 3, none⟩ (.int .i64 s)) := (Below.setCell (Below.setCell (Below.setCell (Below.setCell K9 (by dsimp only; omega) _) (by dsimp only; omega) _) (by dsimp only; omega) _) (by dsimp only; omega) _)
        have lm : uw5.heap.size < ((((gw.setCell ⟨uw5.heap.size, 0, none⟩ (.int .i64 x)).setCell ⟨uw5.heap.size, 1, none⟩ (.int .i64 y)).setCell ⟨uw5.heap.size, 2, none⟩ (.int .i64 z)).setCell ⟨uw5.heap.size, 3, none⟩ (.int .i64 s)).heap.size := World.block_lt_of_cell? _ _ s0
        have lo0 : w.heap.size < ((((gw.setCell ⟨uw5.heap.size, 0, none⟩ (.int .i64 x)).setCell ⟨uw5.heap.size, 1, none⟩ (.int .i64 y)).setCell ⟨uw5.heap.size, 2, none⟩ (.int .i64 z)).setCell ⟨uw5.heap.size, 3, none⟩ (.int .i64 s)).heap.size := by simp; omega
        have lo1 : w.heap.size + 1 < ((((gw.setCell ⟨uw5.heap.size, 0, none⟩ (.int .i64 x)).setCell ⟨uw5.heap.size, 1, none⟩ (.int .i64 y)).setCell ⟨uw5.heap.size, 2, none⟩ (.int .i64 z)).setCell ⟨uw5.heap.size, 3, none⟩ (.int .i64 s)).heap.size := by simp; omega
        clear K9 m0 fm0 m1 fm1 m2 fm2 m3 fm3
        generalize ((((gw.setCell ⟨uw5.heap.size, 0, none⟩ (.int .i64 x)).setCell ⟨uw5.heap.size, 1, none⟩ (.int .i64 y)).setCell ⟨uw5.heap.size, 2, none⟩ (.int .i64 z)).setCell ⟨uw5.heap.size, 3, none⟩ (.int .i64 s)) = gs at *
        go_wp2_with (first | (go_at_call 8; (with_reducible refine (RA.out _).mono ?_); rintro e w5 ⟨rfl, hb5⟩; have hc5 := (bcell hb5).1; have hf5 := (bcell hb5).2; have z5_0 : w.heap.size < w5.heap.size := (by have hzz := hb5.size; (try simp at hzz); omega); have z5_1 : w.heap.size + 1 < w5.heap.size := (by have hzz := hb5.size; (try simp at hzz); omega); have z5_2 : uw5.heap.size < w5.heap.size := (by have hzz := hb5.size; (try simp at hzz); omega); have K5 : Below w.heap.size w w5 := Below.trans (b := _) (by (repeat' (first | (with_reducible exact Below.refl _ _) | (with_reducible exact KS) | (with_reducible exact KS.size) | (with_reducible refine Below.alloc ?_ ?_ _) | (with_reducible refine Below.setCell ?_ ?_ _) | (with_reducible refine below_drewN ?_ _) | (simp; done) | omega | (simp; omega)))) (hb5.mono (by have hzz := hb5.size; (try simp at hzz); first | omega | (simp; done) | (simp; omega)))) | (go_at_call 9; (with_reducible refine (SM.out _).mono ?_); rintro e w6 ⟨rfl, hb6⟩; have hc6 := (bcell hb6).1; have hf6 := (bcell hb6).2; have z6_0 : w.heap.size < w6.heap.size := (by have hzz := hb6.size; (try simp at hzz); omega); have z6_1 : w.heap.size + 1 < w6.heap.size := (by have hzz := hb6.size; (try simp at hzz); omega); have z6_2 : uw5.heap.size < w6.heap.size := (by have hzz := hb6.size; (try simp at hzz); omega); have z6_3 : w5.heap.size < w6.heap.size := (by have hzz := hb6.size; (try simp at hzz); omega); have K6 : Below w.heap.size w w6 := Below.trans (b := _) (by (repeat' (first | (with_reducible exact Below.refl _ _) | (with_reducible exact KS) | (with_reducible exact KS.size) | (with_reducible exact K5) | (with_reducible exact K5.size) | (with_reducible refine Below.alloc ?_ ?_ _) | (with_reducible refine Below.setCell ?_ ?_ _) | (with_reducible refine below_drewN ?_ _) | (simp; done) | omega | (simp; omega)))) (hb6.mono (by have hzz := hb6.size; (try simp at hzz); first | omega | (simp; done) | (simp; omega)))) | (go_at_call 10; (with_reducible refine (AL.out _).mono ?_); rintro e w7 ⟨rfl, hb7⟩; have hc7 := (bcell hb7).1; have hf7 := (bcell hb7).2; have K7 : Below w.heap.size w w7 := Below.trans (b := _) (by (repeat' (first | (with_reducible exact Below.refl _ _) | (with_reducible exact KS) | (with_reducible exact KS.size) | (with_reducible exact K5) | (with_reducible exact K5.size) | (with_reducible exact K6) | (with_reducible exact K6.size) | (with_reducible refine Below.alloc ?_ ?_ _) | (with_reducible refine Below.setCell ?_ ?_ _) | (with_reducible refine below_drewN ?_ _) | (simp; done) | omega | (simp; omega)))) (hb7.mono (by have hzz := hb7.size; (try simp at hzz); first | omega | (simp; done) | (simp; omega)))))
        go_ret
        exact ⟨rfl, K7⟩
      · rw [if_pos (by kernel_rfl)]
        go_simp
        have hNew := HS.out _ _ hHeld ((Below.refl _ _).alloc (Nat.le_refl _) (Obj.cells #[Value.int .i64 0, Value.int .i64 0, Value.int .i64 0, Value.int .i64 0] 26))
        refine hK.out _ _ hNew (fun _ => ?_)
        replace hHeld := hNew
        clear hNew
        clear hK KK
        refine Rk.one (i := 5) (by kernel_rfl) rfl (fun KK hK => ?_)
        rw [if_pos (by kernel_rfl)]
        go_simp
        (refine (AP.out _).mono ?_; rintro e uw5 ⟨rfl, hb⟩)
        have hNew := HS.out _ _ hHeld hb
        have hs_uw5 : zw1.heap.size ≤ uw5.heap.size := by have hzz := hb.size; (try simp at hzz); omega
        have m0 : uw5.cell? ⟨uw4.heap.size, 0, none⟩ = some (.int .i64 0) := Rg.keep hb (by simp) (by go_cell)
        have fm0 : uw5.frozen? ⟨uw4.heap.size, 0, none⟩ = false := Rg.keepF hb (by simp) (by show (uw4.alloc (Obj.cells #[Value.int .i64 0, Value.int .i64 0, Value.int .i64 0, Value.int .i64 0] 26)).frozen? ⟨uw4.heap.size, 0, none⟩ = false; simp only [frozen?_alloc_cells]; exact Rg.notFrozen (Nat.le_refl _))
        have m1 : uw5.cell? ⟨uw4.heap.size, 1, none⟩ = some (.int .i64 0) := Rg.keep hb (by simp) (by go_cell)
        have fm1 : uw5.frozen? ⟨uw4.heap.size, 1, none⟩ = false := Rg.keepF hb (by simp) (by show (uw4.alloc (Obj.cells #[Value.int .i64 0, Value.int .i64 0, Value.int .i64 0, Value.int .i64 0] 26)).frozen? ⟨uw4.heap.size, 1, none⟩ = false; simp only [frozen?_alloc_cells]; exact Rg.notFrozen (Nat.le_refl _))
        have m2 : uw5.cell? ⟨uw4.heap.size, 2, none⟩ = some (.int .i64 0) := Rg.keep hb (by simp) (by go_cell)
        have fm2 : uw5.frozen? ⟨uw4.heap.size, 2, none⟩ = false := Rg.keepF hb (by simp) (by show (uw4.alloc (Obj.cells #[Value.int .i64 0, Value.int .i64 0, Value.int .i64 0, Value.int .i64 0] 26)).frozen? ⟨uw4.heap.size, 2, none⟩ = false; simp only [frozen?_alloc_cells]; exact Rg.notFrozen (Nat.le_refl _))
        have m3 : uw5.cell? ⟨uw4.heap.size, 3, none⟩ = some (.int .i64 0) := Rg.keep hb (by simp) (by go_cell)
        have fm3 : uw5.frozen? ⟨uw4.heap.size, 3, none⟩ = false := Rg.keepF hb (by simp) (by show (uw4.alloc (Obj.cells #[Value.int .i64 0, Value.int .i64 0, Value.int .i64 0, Value.int .i64 0] 26)).frozen? ⟨uw4.heap.size, 3, none⟩ = false; simp only [frozen?_alloc_cells]; exact Rg.notFrozen (Nat.le_refl _))
        first | (refine hK.out _ _ (fun _ => hNew) (fun _ => ?_)) | (refine hK.out _ _ hNew (fun _ => ?_)) | (go_wp2_with fail; refine hK.out _ _ hNew (fun _ => ?_))
        replace hHeld := hNew
        clear hNew hb
        clear hK KK
        refine Rk.takeP (i := 6) (v := ?_) rfl (by kernel_rfl) (by kernel_rfl) (by kernel_rfl) (by kernel_rfl) (fun _ _ _ h => h) (Or.inl ⟨by kernel_rfl, ?_⟩) (by assumption) ?_
        rotate_left
        · ((intro w hSw; go_simp) <;> with_reducible rfl)
        try simp only [Act.put, List.setIfInBounds_toArray, List.set_cons_zero, List.set_cons_succ]
        refine Rk.takeP (i := 7) (v := ?_) rfl (by kernel_rfl) (by kernel_rfl) (by kernel_rfl) (by kernel_rfl) (fun _ _ _ h => h) (Or.inl ⟨by kernel_rfl, ?_⟩) (by assumption) ?_
        rotate_left
        · ((intro w hSw; go_simp) <;> with_reducible rfl)
        try simp only [Act.put, List.setIfInBounds_toArray, List.set_cons_zero, List.set_cons_succ]
        refine Rk.takeP (i := 8) (v := ?_) rfl (by kernel_rfl) (by kernel_rfl) (by kernel_rfl) (by kernel_rfl) (fun _ _ _ h => h) (Or.inl ⟨by kernel_rfl, ?_⟩) (by assumption) ?_
        rotate_left
        · ((intro w hSw; go_simp) <;> with_reducible rfl)
        try simp only [Act.put, List.setIfInBounds_toArray, List.set_cons_zero, List.set_cons_succ]
        refine Rk.tail [10, 11] [_, _] (by kernel_rfl) (by kernel_rfl) rfl (by decide) ?_
        obtain ⟨a0, a1, a2, a3, b0, b1, b2, b3, K9⟩ := hHeld
        have lm : uw4.heap.size < uw5.heap.size := World.block_lt_of_cell? _ _ m0
        have lw : w.heap.size ≤ uw4.heap.size := by omega
        have ne0 : uw4.heap.size ≠ w.heap.size := by omega
        have ne1 : uw4.heap.size ≠ w.heap.size + 1 := by omega
        have lo0 : w.heap.size < uw5.heap.size := by omega
        have lo1 : w.heap.size + 1 < uw5.heap.size := by omega
        go_wp2_with fail
        have a0 : ((((uw5.setCell ⟨uw4.heap.size, 0, none⟩ (.int .i64 x)).setCell ⟨uw4.heap.size, 1, none⟩ (.int .i64 y)).setCell ⟨uw4.heap.size, 2, none⟩ (.int .i64 z)).setCell ⟨uw4.heap.size, 3, none⟩ (.int .i64 s)).cell? ⟨w.heap.size, 0, none⟩ = some (.int .i64 n1) := far4 ne0 a0
        have a1 : ((((uw5.setCell ⟨uw4.heap.size, 0, none⟩ (.int .i64 x)).setCell ⟨uw4.heap.size, 1, none⟩ (.int .i64 y)).setCell ⟨uw4.heap.size, 2, none⟩ (.int .i64 z)).setCell ⟨uw4.heap.size, 3, none⟩ (.int .i64 s)).cell? ⟨w.heap.size, 1, none⟩ = some (.int .i64 d1) := far4 ne0 a1
        have a2 : ((((uw5.setCell ⟨uw4.heap.size, 0, none⟩ (.int .i64 x)).setCell ⟨uw4.heap.size, 1, none⟩ (.int .i64 y)).setCell ⟨uw4.heap.size, 2, none⟩ (.int .i64 z)).setCell ⟨uw4.heap.size, 3, none⟩ (.int .i64 s)).cell? ⟨w.heap.size, 2, none⟩ = some (.int .i64 t1) := far4 ne0 a2
        have a3 : ((((uw5.setCell ⟨uw4.heap.size, 0, none⟩ (.int .i64 x)).setCell ⟨uw4.heap.size, 1, none⟩ (.int .i64 y)).setCell ⟨uw4.heap.size, 2, none⟩ (.int .i64 z)).setCell ⟨uw4.heap.size, 3, none⟩ (.int .i64 s)).cell? ⟨w.heap.size, 3, none⟩ = some (.int .i64 u1) := far4 ne0 a3
        have b0 : ((((uw5.setCell ⟨uw4.heap.size, 0, none⟩ (.int .i64 x)).setCell ⟨uw4.heap.size, 1, none⟩ (.int .i64 y)).setCell ⟨uw4.heap.size, 2, none⟩ (.int .i64 z)).setCell ⟨uw4.heap.size, 3, none⟩ (.int .i64 s)).cell? ⟨w.heap.size + 1, 0, none⟩ = some (.int .i64 n2) := far4 ne1 b0
        have b1 : ((((uw5.setCell ⟨uw4.heap.size, 0, none⟩ (.int .i64 x)).setCell ⟨uw4.heap.size, 1, none⟩ (.int .i64 y)).setCell ⟨uw4.heap.size, 2, none⟩ (.int .i64 z)).setCell ⟨uw4.heap.size, 3, none⟩ (.int .i64 s)).cell? ⟨w.heap.size + 1, 1, none⟩ = some (.int .i64 d2) := far4 ne1 b1
        have b2 : ((((uw5.setCell ⟨uw4.heap.size, 0, none⟩ (.int .i64 x)).setCell ⟨uw4.heap.size, 1, none⟩ (.int .i64 y)).setCell ⟨uw4.heap.size, 2, none⟩ (.int .i64 z)).setCell ⟨uw4.heap.size, 3, none⟩ (.int .i64 s)).cell? ⟨w.heap.size + 1, 2, none⟩ = some (.int .i64 t2) := far4 ne1 b2
        have b3 : ((((uw5.setCell ⟨uw4.heap.size, 0, none⟩ (.int .i64 x)).setCell ⟨uw4.heap.size, 1, none⟩ (.int .i64 y)).setCell ⟨uw4.heap.size, 2, none⟩ (.int .i64 z)).setCell ⟨uw4.heap.size, 3, none⟩ (.int .i64 s)).cell? ⟨w.heap.size + 1, 3, none⟩ = some (.int .i64 u2) := far4 ne1 b3
        have hst := st4 (x := .int .i64 x) (y := .int .i64 y) (z := .int .i64 z) (t := .int .i64 s) m0 m1 m2 m3
        obtain ⟨s0, s1, s2, s3⟩ := hst
        have KS : Below w.heap.size w ((((uw5.setCell ⟨uw4.heap.size, 0, none⟩ (.int .i64 x)).setCell ⟨uw4.heap.size, 1, none⟩ (.int .i64 y)).setCell ⟨uw4.heap.size, 2, none⟩ (.int .i64 z)).setCell ⟨uw4.heap.size, 3, none⟩ (.int .i64 s)) := (Below.setCell (Below.setCell (Below.setCell (Below.setCell K9 (by dsimp only; omega) _) (by dsimp only; omega) _) (by dsimp only; omega) _) (by dsimp only; omega) _)
        have lm : uw4.heap.size < ((((uw5.setCell ⟨uw4.heap.size, 0, none⟩ (.int .i64 x)).setCell ⟨uw4.heap.size, 1, none⟩ (.int .i64 y)).setCell ⟨uw4.heap.size, 2, none⟩ (.int .i64 z)).setCell ⟨uw4.heap.size, 3, none⟩ (.int .i64 s)).heap.size := World.block_lt_of_cell? _ _ s0
        have lo0 : w.heap.size < ((((uw5.setCell ⟨uw4.heap.size, 0, none⟩ (.int .i64 x)).setCell ⟨uw4.heap.size, 1, none⟩ (.int .i64 y)).setCell ⟨uw4.heap.size, 2, none⟩ (.int .i64 z)).setCell ⟨uw4.heap.size, 3, none⟩ (.int .i64 s)).heap.size := by simp; omega
        have lo1 : w.heap.size + 1 < ((((uw5.setCell ⟨uw4.heap.size, 0, none⟩ (.int .i64 x)).setCell ⟨uw4.heap.size, 1, none⟩ (.int .i64 y)).setCell ⟨uw4.heap.size, 2, none⟩ (.int .i64 z)).setCell ⟨uw4.heap.size, 3, none⟩ (.int .i64 s)).heap.size := by simp; omega
        clear K9 m0 fm0 m1 fm1 m2 fm2 m3 fm3
        generalize ((((uw5.setCell ⟨uw4.heap.size, 0, none⟩ (.int .i64 x)).setCell ⟨uw4.heap.size, 1, none⟩ (.int .i64 y)).setCell ⟨uw4.heap.size, 2, none⟩ (.int .i64 z)).setCell ⟨uw4.heap.size, 3, none⟩ (.int .i64 s)) = gs at *
        go_wp2_with (first | (go_at_call 8; (with_reducible refine (RA.out _).mono ?_); rintro e w5 ⟨rfl, hb5⟩; have hc5 := (bcell hb5).1; have hf5 := (bcell hb5).2; have z5_0 : w.heap.size < w5.heap.size := (by have hzz := hb5.size; (try simp at hzz); omega); have z5_1 : w.heap.size + 1 < w5.heap.size := (by have hzz := hb5.size; (try simp at hzz); omega); have z5_2 : uw4.heap.size < w5.heap.size := (by have hzz := hb5.size; (try simp at hzz); omega); have K5 : Below w.heap.size w w5 := Below.trans (b := _) (by (repeat' (first | (with_reducible exact Below.refl _ _) | (with_reducible exact KS) | (with_reducible exact KS.size) | (with_reducible refine Below.alloc ?_ ?_ _) | (with_reducible refine Below.setCell ?_ ?_ _) | (with_reducible refine below_drewN ?_ _) | (simp; done) | omega | (simp; omega)))) (hb5.mono (by have hzz := hb5.size; (try simp at hzz); first | omega | (simp; done) | (simp; omega)))) | (go_at_call 9; (with_reducible refine (SM.out _).mono ?_); rintro e w6 ⟨rfl, hb6⟩; have hc6 := (bcell hb6).1; have hf6 := (bcell hb6).2; have z6_0 : w.heap.size < w6.heap.size := (by have hzz := hb6.size; (try simp at hzz); omega); have z6_1 : w.heap.size + 1 < w6.heap.size := (by have hzz := hb6.size; (try simp at hzz); omega); have z6_2 : uw4.heap.size < w6.heap.size := (by have hzz := hb6.size; (try simp at hzz); omega); have z6_3 : w5.heap.size < w6.heap.size := (by have hzz := hb6.size; (try simp at hzz); omega); have K6 : Below w.heap.size w w6 := Below.trans (b := _) (by (repeat' (first | (with_reducible exact Below.refl _ _) | (with_reducible exact KS) | (with_reducible exact KS.size) | (with_reducible exact K5) | (with_reducible exact K5.size) | (with_reducible refine Below.alloc ?_ ?_ _) | (with_reducible refine Below.setCell ?_ ?_ _) | (with_reducible refine below_drewN ?_ _) | (simp; done) | omega | (simp; omega)))) (hb6.mono (by have hzz := hb6.size; (try simp at hzz); first | omega | (simp; done) | (simp; omega)))) | (go_at_call 10; (with_reducible refine (AL.out _).mono ?_); rintro e w7 ⟨rfl, hb7⟩; have hc7 := (bcell hb7).1; have hf7 := (bcell hb7).2; have K7 : Below w.heap.size w w7 := Below.trans (b := _) (by (repeat' (first | (with_reducible exact Below.refl _ _) | (with_reducible exact KS) | (with_reducible exact KS.size) | (with_reducible exact K5) | (with_reducible exact K5.size) | (with_reducible exact K6) | (with_reducible exact K6.size) | (with_reducible refine Below.alloc ?_ ?_ _) | (with_reducible refine Below.setCell ?_ ?_ _) | (with_reducible refine below_drewN ?_ _) | (simp; done) | omega | (simp; omega)))) (hb7.mono (by have hzz := hb7.size; (try simp at hzz); first | omega | (simp; done) | (simp; omega)))))
        go_ret
        exact ⟨rfl, K7⟩
    · rw [if_pos (by kernel_rfl)]
      go_simp
      have hNew := HS.out _ _ hHeld ((Below.refl _ _).alloc (Nat.le_refl _) (Obj.cells #[Value.int .i64 0, Value.int .i64 0, Value.int .i64 0, Value.int .i64 0] 26))
      refine hK.out _ _ hNew (fun _ => ?_)
      replace hHeld := hNew
      clear hNew
      clear hK KK
      refine Rk.one (i := 4) (by kernel_rfl) rfl (fun KK hK => ?_)
      rw [if_pos (by kernel_rfl)]
      go_simp
      (refine (IN2.out _).mono ?_; rintro e uw4 ⟨rfl, hb⟩)
      have hNew := HS.out _ _ hHeld hb
      have hs_uw4 : zw1.heap.size ≤ uw4.heap.size := by have hzz := hb.size; (try simp at hzz); omega
      have m0 : uw4.cell? ⟨uw2.heap.size, 0, none⟩ = some (.int .i64 0) := Rg.keep hb (by simp) (by go_cell)
      have fm0 : uw4.frozen? ⟨uw2.heap.size, 0, none⟩ = false := Rg.keepF hb (by simp) (by show (uw2.alloc (Obj.cells #[Value.int .i64 0, Value.int .i64 0, Value.int .i64 0, Value.int .i64 0] 26)).frozen? ⟨uw2.heap.size, 0, none⟩ = false; simp only [frozen?_alloc_cells]; exact Rg.notFrozen (Nat.le_refl _))
      have m1 : uw4.cell? ⟨uw2.heap.size, 1, none⟩ = some (.int .i64 0) := Rg.keep hb (by simp) (by go_cell)
      have fm1 : uw4.frozen? ⟨uw2.heap.size, 1, none⟩ = false := Rg.keepF hb (by simp) (by show (uw2.alloc (Obj.cells #[Value.int .i64 0, Value.int .i64 0, Value.int .i64 0, Value.int .i64 0] 26)).frozen? ⟨uw2.heap.size, 1, none⟩ = false; simp only [frozen?_alloc_cells]; exact Rg.notFrozen (Nat.le_refl _))
      have m2 : uw4.cell? ⟨uw2.heap.size, 2, none⟩ = some (.int .i64 0) := Rg.keep hb (by simp) (by go_cell)
      have fm2 : uw4.frozen? ⟨uw2.heap.size, 2, none⟩ = false := Rg.keepF hb (by simp) (by show (uw2.alloc (Obj.cells #[Value.int .i64 0, Value.int .i64 0, Value.int .i64 0, Value.int .i64 0] 26)).frozen? ⟨uw2.heap.size, 2, none⟩ = false; simp only [frozen?_alloc_cells]; exact Rg.notFrozen (Nat.le_refl _))
      have m3 : uw4.cell? ⟨uw2.heap.size, 3, none⟩ = some (.int .i64 0) := Rg.keep hb (by simp) (by go_cell)
      have fm3 : uw4.frozen? ⟨uw2.heap.size, 3, none⟩ = false := Rg.keepF hb (by simp) (by show (uw2.alloc (Obj.cells #[Value.int .i64 0, Value.int .i64 0, Value.int .i64 0, Value.int .i64 0] 26)).frozen? ⟨uw2.heap.size, 3, none⟩ = false; simp only [frozen?_alloc_cells]; exact Rg.notFrozen (Nat.le_refl _))
      first | (refine hK.out _ _ (fun _ => hNew) (fun _ => ?_)) | (refine hK.out _ _ hNew (fun _ => ?_)) | (go_wp2_with fail; refine hK.out _ _ hNew (fun _ => ?_))
      replace hHeld := hNew
      clear hNew hb
      clear hK KK
      refine Rk.one (i := 5) (by kernel_rfl) rfl (fun KK hK => ?_)
      rw [if_pos (by kernel_rfl)]
      go_simp
      (refine (AP.out _).mono ?_; rintro e uw5 ⟨rfl, hb⟩)
      have hNew := HS.out _ _ hHeld hb
      have hs_uw5 : zw1.heap.size ≤ uw5.heap.size := by have hzz := hb.size; (try simp at hzz); omega
      have lm : uw2.heap.size < uw4.heap.size := World.block_lt_of_cell? _ _ m0
      have fm0 := Rg.keepF hb lm fm0
      have fm1 := Rg.keepF hb lm fm1
      have fm2 := Rg.keepF hb lm fm2
      have fm3 := Rg.keepF hb lm fm3
      have m0 := Rg.keep hb lm m0
      have m1 := Rg.keep hb lm m1
      have m2 := Rg.keep hb lm m2
      have m3 := Rg.keep hb lm m3
      clear lm
      first | (refine hK.out _ _ (fun _ => hNew) (fun _ => ?_)) | (refine hK.out _ _ hNew (fun _ => ?_)) | (go_wp2_with fail; refine hK.out _ _ hNew (fun _ => ?_))
      replace hHeld := hNew
      clear hNew hb
      clear hK KK
      refine Rk.takeP (i := 6) (v := ?_) rfl (by kernel_rfl) (by kernel_rfl) (by kernel_rfl) (by kernel_rfl) (fun _ _ _ h => h) (Or.inl ⟨by kernel_rfl, ?_⟩) (by assumption) ?_
      rotate_left
      · ((intro w hSw; go_simp) <;> with_reducible rfl)
      try simp only [Act.put, List.setIfInBounds_toArray, List.set_cons_zero, List.set_cons_succ]
      refine Rk.takeP (i := 7) (v := ?_) rfl (by kernel_rfl) (by kernel_rfl) (by kernel_rfl) (by kernel_rfl) (fun _ _ _ h => h) (Or.inl ⟨by kernel_rfl, ?_⟩) (by assumption) ?_
      rotate_left
      · ((intro w hSw; go_simp) <;> with_reducible rfl)
      try simp only [Act.put, List.setIfInBounds_toArray, List.set_cons_zero, List.set_cons_succ]
      refine Rk.takeP (i := 8) (v := ?_) rfl (by kernel_rfl) (by kernel_rfl) (by kernel_rfl) (by kernel_rfl) (fun _ _ _ h => h) (Or.inl ⟨by kernel_rfl, ?_⟩) (by assumption) ?_
      rotate_left
      · ((intro w hSw; go_simp) <;> with_reducible rfl)
      try simp only [Act.put, List.setIfInBounds_toArray, List.set_cons_zero, List.set_cons_succ]
      refine Rk.tail [10, 11] [_, _] (by kernel_rfl) (by kernel_rfl) rfl (by decide) ?_
      obtain ⟨a0, a1, a2, a3, b0, b1, b2, b3, K9⟩ := hHeld
      have lm : uw2.heap.size < uw5.heap.size := World.block_lt_of_cell? _ _ m0
      have lw : w.heap.size ≤ uw2.heap.size := by omega
      have ne0 : uw2.heap.size ≠ w.heap.size := by omega
      have ne1 : uw2.heap.size ≠ w.heap.size + 1 := by omega
      have lo0 : w.heap.size < uw5.heap.size := by omega
      have lo1 : w.heap.size + 1 < uw5.heap.size := by omega
      go_wp2_with fail
      have a0 : ((((uw5.setCell ⟨uw2.heap.size, 0, none⟩ (.int .i64 x)).setCell ⟨uw2.heap.size, 1, none⟩ (.int .i64 y)).setCell ⟨uw2.heap.size, 2, none⟩ (.int .i64 z)).setCell ⟨uw2.heap.size, 3, none⟩ (.int .i64 s)).cell? ⟨w.heap.size, 0, none⟩ = some (.int .i64 n1) := far4 ne0 a0
      have a1 : ((((uw5.setCell ⟨uw2.heap.size, 0, none⟩ (.int .i64 x)).setCell ⟨uw2.heap.size, 1, none⟩ (.int .i64 y)).setCell ⟨uw2.heap.size, 2, none⟩ (.int .i64 z)).setCell ⟨uw2.heap.size, 3, none⟩ (.int .i64 s)).cell? ⟨w.heap.size, 1, none⟩ = some (.int .i64 d1) := far4 ne0 a1
      have a2 : ((((uw5.setCell ⟨uw2.heap.size, 0, none⟩ (.int .i64 x)).setCell ⟨uw2.heap.size, 1, none⟩ (.int .i64 y)).setCell ⟨uw2.heap.size, 2, none⟩ (.int .i64 z)).setCell ⟨uw2.heap.size, 3, none⟩ (.int .i64 s)).cell? ⟨w.heap.size, 2, none⟩ = some (.int .i64 t1) := far4 ne0 a2
      have a3 : ((((uw5.setCell ⟨uw2.heap.size, 0, none⟩ (.int .i64 x)).setCell ⟨uw2.heap.size, 1, none⟩ (.int .i64 y)).setCell ⟨uw2.heap.size, 2, none⟩ (.int .i64 z)).setCell ⟨uw2.heap.size, 3, none⟩ (.int .i64 s)).cell? ⟨w.heap.size, 3, none⟩ = some (.int .i64 u1) := far4 ne0 a3
      have b0 : ((((uw5.setCell ⟨uw2.heap.size, 0, none⟩ (.int .i64 x)).setCell ⟨uw2.heap.size, 1, none⟩ (.int .i64 y)).setCell ⟨uw2.heap.size, 2, none⟩ (.int .i64 z)).setCell ⟨uw2.heap.size, 3, none⟩ (.int .i64 s)).cell? ⟨w.heap.size + 1, 0, none⟩ = some (.int .i64 n2) := far4 ne1 b0
      have b1 : ((((uw5.setCell ⟨uw2.heap.size, 0, none⟩ (.int .i64 x)).setCell ⟨uw2.heap.size, 1, none⟩ (.int .i64 y)).setCell ⟨uw2.heap.size, 2, none⟩ (.int .i64 z)).setCell ⟨uw2.heap.size, 3, none⟩ (.int .i64 s)).cell? ⟨w.heap.size + 1, 1, none⟩ = some (.int .i64 d2) := far4 ne1 b1
      have b2 : ((((uw5.setCell ⟨uw2.heap.size, 0, none⟩ (.int .i64 x)).setCell ⟨uw2.heap.size, 1, none⟩ (.int .i64 y)).setCell ⟨uw2.heap.size, 2, none⟩ (.int .i64 z)).setCell ⟨uw2.heap.size, 3, none⟩ (.int .i64 s)).cell? ⟨w.heap.size + 1, 2, none⟩ = some (.int .i64 t2) := far4 ne1 b2
      have b3 : ((((uw5.setCell ⟨uw2.heap.size, 0, none⟩ (.int .i64 x)).setCell ⟨uw2.heap.size, 1, none⟩ (.int .i64 y)).setCell ⟨uw2.heap.size, 2, none⟩ (.int .i64 z)).setCell ⟨uw2.heap.size, 3, none⟩ (.int .i64 s)).cell? ⟨w.heap.size + 1, 3, none⟩ = some (.int .i64 u2) := far4 ne1 b3
      have hst := st4 (x := .int .i64 x) (y := .int .i64 y) (z := .int .i64 z) (t := .int .i64 s) m0 m1 m2 m3
      obtain ⟨s0, s1, s2, s3⟩ := hst
      have KS : Below w.heap.size w ((((uw5.setCell ⟨uw2.heap.size, 0, none⟩ (.int .i64 x)).setCell ⟨uw2.heap.size, 1, none⟩ (.int .i64 y)).setCell ⟨uw2.heap.size, 2, none⟩ (.int .i64 z)).setCell ⟨uw2.heap.size, 3, none⟩ (.int .i64 s)) := (Below.setCell (Below.setCell (Below.setCell (Below.setCell K9 (by dsimp only; omega) _) (by dsimp only; omega) _) (by dsimp only; omega) _) (by dsimp only; omega) _)
      have lm : uw2.heap.size < ((((uw5.setCell ⟨uw2.heap.size, 0, none⟩ (.int .i64 x)).setCell ⟨uw2.heap.size, 1, none⟩ (.int .i64 y)).setCell ⟨uw2.heap.size, 2, none⟩ (.int .i64 z)).setCell ⟨uw2.heap.size, 3, none⟩ (.int .i64 s)).heap.size := World.block_lt_of_cell? _ _ s0
      have lo0 : w.heap.size < ((((uw5.setCell ⟨uw2.heap.size, 0, none⟩ (.int .i64 x)).setCell ⟨uw2.heap.size, 1, none⟩ (.int .i64 y)).setCell ⟨uw2.heap.size, 2, none⟩ (.int .i64 z)).setCell ⟨uw2.heap.size, 3, none⟩ (.int .i64 s)).heap.size := by simp; omega
      have lo1 : w.heap.size + 1 < ((((uw5.setCell ⟨uw2.heap.size, 0, none⟩ (.int .i64 x)).setCell ⟨uw2.heap.size, 1, none⟩ (.int .i64 y)).setCell ⟨uw2.heap.size, 2, none⟩ (.int .i64 z)).setCell ⟨uw2.heap.size, 3, none⟩ (.int .i64 s)).heap.size := by simp; omega
      clear K9 m0 fm0 m1 fm1 m2 fm2 m3 fm3
      generalize ((((uw5.setCell ⟨uw2.heap.size, 0, none⟩ (.int .i64 x)).setCell ⟨uw2.heap.size, 1, none⟩ (.int .i64 y)).setCell ⟨uw2.heap.size, 2, none⟩ (.int .i64 z)).setCell ⟨uw2.heap.size, 3, none⟩ (.int .i64 s)) = gs at *
      go_wp2_with (first | (go_at_call 8; (with_reducible refine (RA.out _).mono ?_); rintro e w5 ⟨rfl, hb5⟩; have hc5 := (bcell hb5).1; have hf5 := (bcell hb5).2; have z5_0 : w.heap.size < w5.heap.size := (by have hzz := hb5.size; (try simp at hzz); omega); have z5_1 : w.heap.size + 1 < w5.heap.size := (by have hzz := hb5.size; (try simp at hzz); omega); have z5_2 : uw2.heap.size < w5.heap.size := (by have hzz := hb5.size; (try simp at hzz); omega); have K5 : Below w.heap.size w w5 := Below.trans (b := _) (by (repeat' (first | (with_reducible exact Below.refl _ _) | (with_reducible exact KS) | (with_reducible exact KS.size) | (with_reducible refine Below.alloc ?_ ?_ _) | (with_reducible refine Below.setCell ?_ ?_ _) | (with_reducible refine below_drewN ?_ _) | (simp; done) | omega | (simp; omega)))) (hb5.mono (by have hzz := hb5.size; (try simp at hzz); first | omega | (simp; done) | (simp; omega)))) | (go_at_call 9; (with_reducible refine (SM.out _).mono ?_); rintro e w6 ⟨rfl, hb6⟩; have hc6 := (bcell hb6).1; have hf6 := (bcell hb6).2; have z6_0 : w.heap.size < w6.heap.size := (by have hzz := hb6.size; (try simp at hzz); omega); have z6_1 : w.heap.size + 1 < w6.heap.size := (by have hzz := hb6.size; (try simp at hzz); omega); have z6_2 : uw2.heap.size < w6.heap.size := (by have hzz := hb6.size; (try simp at hzz); omega); have z6_3 : w5.heap.size < w6.heap.size := (by have hzz := hb6.size; (try simp at hzz); omega); have K6 : Below w.heap.size w w6 := Below.trans (b := _) (by (repeat' (first | (with_reducible exact Below.refl _ _) | (with_reducible exact KS) | (with_reducible exact KS.size) | (with_reducible exact K5) | (with_reducible exact K5.size) | (with_reducible refine Below.alloc ?_ ?_ _) | (with_reducible refine Below.setCell ?_ ?_ _) | (with_reducible refine below_drewN ?_ _) | (simp; done) | omega | (simp; omega)))) (hb6.mono (by have hzz := hb6.size; (try simp at hzz); first | omega | (simp; done) | (simp; omega)))) | (go_at_call 10; (with_reducible refine (AL.out _).mono ?_); rintro e w7 ⟨rfl, hb7⟩; have hc7 := (bcell hb7).1; have hf7 := (bcell hb7).2; have K7 : Below w.heap.size w w7 := Below.trans (b := _) (by (repeat' (first | (with_reducible exact Below.refl _ _) | (with_reducible exact KS) | (with_reducible exact KS.size) | (with_reducible exact K5) | (with_reducible exact K5.size) | (with_reducible exact K6) | (with_reducible exact K6.size) | (with_reducible refine Below.alloc ?_ ?_ _) | (with_reducible refine Below.setCell ?_ ?_ _) | (with_reducible refine below_drewN ?_ _) | (simp; done) | omega | (simp; omega)))) (hb7.mono (by have hzz := hb7.size; (try simp at hzz); first | omega | (simp; done) | (simp; omega)))))
      go_ret
      exact ⟨rfl, K7⟩
  · rw [if_pos (by kernel_rfl)]
    go_simp
    have hNew := HS.out _ _ hHeld ((Below.refl _ _).alloc (Nat.le_refl _) (Obj.cells #[Value.int .i64 0, Value.int .i64 0, Value.int .i64 0, Value.int .i64 0] 26))
    refine hK.out _ _ hNew (fun _ => ?_)
    replace hHeld := hNew
    clear hNew
    clear hK KK
    refine Rk.one (i := 2) (by kernel_rfl) rfl (fun KK hK => ?_)
    rw [if_pos (by kernel_rfl)]
    go_simp
    (refine (IN1.out _).mono ?_; rintro e uw2 ⟨rfl, hb⟩)
    have hNew := HS.out _ _ hHeld hb
    have hs_uw2 : zw1.heap.size ≤ uw2.heap.size := by have hzz := hb.size; (try simp at hzz); omega
    have m0 : uw2.cell? ⟨zw1.heap.size, 0, none⟩ = some (.int .i64 0) := Rg.keep hb (by simp) (by go_cell)
    have fm0 : uw2.frozen? ⟨zw1.heap.size, 0, none⟩ = false := Rg.keepF hb (by simp) (by show (zw1.drew.alloc (Obj.cells #[Value.int .i64 0, Value.int .i64 0, Value.int .i64 0, Value.int .i64 0] 26)).frozen? ⟨zw1.drew.heap.size, 0, none⟩ = false; simp only [frozen?_alloc_cells]; exact Rg.notFrozen (Nat.le_refl _))
    have m1 : uw2.cell? ⟨zw1.heap.size, 1, none⟩ = some (.int .i64 0) := Rg.keep hb (by simp) (by go_cell)
    have fm1 : uw2.frozen? ⟨zw1.heap.size, 1, none⟩ = false := Rg.keepF hb (by simp) (by show (zw1.drew.alloc (Obj.cells #[Value.int .i64 0, Value.int .i64 0, Value.int .i64 0, Value.int .i64 0] 26)).frozen? ⟨zw1.drew.heap.size, 1, none⟩ = false; simp only [frozen?_alloc_cells]; exact Rg.notFrozen (Nat.le_refl _))
    have m2 : uw2.cell? ⟨zw1.heap.size, 2, none⟩ = some (.int .i64 0) := Rg.keep hb (by simp) (by go_cell)
    have fm2 : uw2.frozen? ⟨zw1.heap.size, 2, none⟩ = false := Rg.keepF hb (by simp) (by show (zw1.drew.alloc (Obj.cells #[Value.int .i64 0, Value.int .i64 0, Value.int .i64 0, Value.int .i64 0] 26)).frozen? ⟨zw1.drew.heap.size, 2, none⟩ = false; simp only [frozen?_alloc_cells]; exact Rg.notFrozen (Nat.le_refl _))
    have m3 : uw2.cell? ⟨zw1.heap.size, 3, none⟩ = some (.int .i64 0) := Rg.keep hb (by simp) (by go_cell)
    have fm3 : uw2.frozen? ⟨zw1.heap.size, 3, none⟩ = false := Rg.keepF hb (by simp) (by show (zw1.drew.alloc (Obj.cells #[Value.int .i64 0, Value.int .i64 0, Value.int .i64 0, Value.int .i64 0] 26)).frozen? ⟨zw1.drew.heap.size, 3, none⟩ = false; simp only [frozen?_alloc_cells]; exact Rg.notFrozen (Nat.le_refl _))
    first | (refine hK.out _ _ (fun _ => hNew) (fun _ => ?_)) | (refine hK.out _ _ hNew (fun _ => ?_)) | (go_wp2_with fail; refine hK.out _ _ hNew (fun _ => ?_))
    replace hHeld := hNew
    clear hNew hb
    clear hK KK
    refine Rk.one (i := 4) (by kernel_rfl) rfl (fun KK hK => ?_)
    rw [if_pos (by kernel_rfl)]
    go_simp
    (refine (IN2.out _).mono ?_; rintro e uw4 ⟨rfl, hb⟩)
    have hNew := HS.out _ _ hHeld hb
    have hs_uw4 : zw1.heap.size ≤ uw4.heap.size := by have hzz := hb.size; (try simp at hzz); omega
    have lm : zw1.heap.size < uw2.heap.size := World.block_lt_of_cell? _ _ m0
    have fm0 := Rg.keepF hb lm fm0
    have fm1 := Rg.keepF hb lm fm1
    have fm2 := Rg.keepF hb lm fm2
    have fm3 := Rg.keepF hb lm fm3
    have m0 := Rg.keep hb lm m0
    have m1 := Rg.keep hb lm m1
    have m2 := Rg.keep hb lm m2
    have m3 := Rg.keep hb lm m3
    clear lm
    first | (refine hK.out _ _ (fun _ => hNew) (fun _ => ?_)) | (refine hK.out _ _ hNew (fun _ => ?_)) | (go_wp2_with fail; refine hK.out _ _ hNew (fun _ => ?_))
    replace hHeld := hNew
    clear hNew hb
    clear hK KK
    refine Rk.one (i := 5) (by kernel_rfl) rfl (fun KK hK => ?_)
    rw [if_pos (by kernel_rfl)]
    go_simp
    (refine (AP.out _).mono ?_; rintro e uw5 ⟨rfl, hb⟩)
    have hNew := HS.out _ _ hHeld hb
    have hs_uw5 : zw1.heap.size ≤ uw5.heap.size := by have hzz := hb.size; (try simp at hzz); omega
    have lm : zw1.heap.size < uw4.heap.size := World.block_lt_of_cell? _ _ m0
    have fm0 := Rg.keepF hb lm fm0
    have fm1 := Rg.keepF hb lm fm1
    have fm2 := Rg.keepF hb lm fm2
    have fm3 := Rg.keepF hb lm fm3
    have m0 := Rg.keep hb lm m0
    have m1 := Rg.keep hb lm m1
    have m2 := Rg.keep hb lm m2
    have m3 := Rg.keep hb lm m3
    clear lm
    first | (refine hK.out _ _ (fun _ => hNew) (fun _ => ?_)) | (refine hK.out _ _ hNew (fun _ => ?_)) | (go_wp2_with fail; refine hK.out _ _ hNew (fun _ => ?_))
    replace hHeld := hNew
    clear hNew hb
    clear hK KK
    refine Rk.takeP (i := 6) (v := ?_) rfl (by kernel_rfl) (by kernel_rfl) (by kernel_rfl) (by kernel_rfl) (fun _ _ _ h => h) (Or.inl ⟨by kernel_rfl, ?_⟩) (by assumption) ?_
    rotate_left
    · ((intro w hSw; go_simp) <;> with_reducible rfl)
    try simp only [Act.put, List.setIfInBounds_toArray, List.set_cons_zero, List.set_cons_succ]
    refine Rk.takeP (i := 7) (v := ?_) rfl (by kernel_rfl) (by kernel_rfl) (by kernel_rfl) (by kernel_rfl) (fun _ _ _ h => h) (Or.inl ⟨by kernel_rfl, ?_⟩) (by assumption) ?_
    rotate_left
    · ((intro w hSw; go_simp) <;> with_reducible rfl)
    try simp only [Act.put, List.setIfInBounds_toArray, List.set_cons_zero, List.set_cons_succ]
    refine Rk.takeP (i := 8) (v := ?_) rfl (by kernel_rfl) (by kernel_rfl) (by kernel_rfl) (by kernel_rfl) (fun _ _ _ h => h) (Or.inl ⟨by kernel_rfl, ?_⟩) (by assumption) ?_
    rotate_left
    · ((intro w hSw; go_simp) <;> with_reducible rfl)
    try simp only [Act.put, List.setIfInBounds_toArray, List.set_cons_zero, List.set_cons_succ]
    refine Rk.tail [10, 11] [_, _] (by kernel_rfl) (by kernel_rfl) rfl (by decide) ?_
    obtain ⟨a0, a1, a2, a3, b0, b1, b2, b3, K9⟩ := hHeld
    have lm : zw1.heap.size < uw5.heap.size := World.block_lt_of_cell? _ _ m0
    have lw : w.heap.size ≤ zw1.heap.size := by omega
    have ne0 : zw1.heap.size ≠ w.heap.size := by omega
    have ne1 : zw1.heap.size ≠ w.heap.size + 1 := by omega
    have lo0 : w.heap.size < uw5.heap.size := by omega
    have lo1 : w.heap.size + 1 < uw5.heap.size := by omega
    go_wp2_with fail
    have a0 : ((((uw5.setCell ⟨zw1.heap.size, 0, none⟩ (.int .i64 x)).setCell ⟨zw1.heap.size, 1, none⟩ (.int .i64 y)).setCell ⟨zw1.heap.size, 2, none⟩ (.int .i64 z)).setCell ⟨zw1.heap.size, 3, none⟩ (.int .i64 s)).cell? ⟨w.heap.size, 0, none⟩ = some (.int .i64 n1) := far4 ne0 a0
    have a1 : ((((uw5.setCell ⟨zw1.heap.size, 0, none⟩ (.int .i64 x)).setCell ⟨zw1.heap.size, 1, none⟩ (.int .i64 y)).setCell ⟨zw1.heap.size, 2, none⟩ (.int .i64 z)).setCell ⟨zw1.heap.size, 3, none⟩ (.int .i64 s)).cell? ⟨w.heap.size, 1, none⟩ = some (.int .i64 d1) := far4 ne0 a1
    have a2 : ((((uw5.setCell ⟨zw1.heap.size, 0, none⟩ (.int .i64 x)).setCell ⟨zw1.heap.size, 1, none⟩ (.int .i64 y)).setCell ⟨zw1.heap.size, 2, none⟩ (.int .i64 z)).setCell ⟨zw1.heap.size, 3, none⟩ (.int .i64 s)).cell? ⟨w.heap.size, 2, none⟩ = some (.int .i64 t1) := far4 ne0 a2
    have a3 : ((((uw5.setCell ⟨zw1.heap.size, 0, none⟩ (.int .i64 x)).setCell ⟨zw1.heap.size, 1, none⟩ (.int .i64 y)).setCell ⟨zw1.heap.size, 2, none⟩ (.int .i64 z)).setCell ⟨zw1.heap.size, 3, none⟩ (.int .i64 s)).cell? ⟨w.heap.size, 3, none⟩ = some (.int .i64 u1) := far4 ne0 a3
    have b0 : ((((uw5.setCell ⟨zw1.heap.size, 0, none⟩ (.int .i64 x)).setCell ⟨zw1.heap.size, 1, none⟩ (.int .i64 y)).setCell ⟨zw1.heap.size, 2, none⟩ (.int .i64 z)).setCell ⟨zw1.heap.size, 3, none⟩ (.int .i64 s)).cell? ⟨w.heap.size + 1, 0, none⟩ = some (.int .i64 n2) := far4 ne1 b0
    have b1 : ((((uw5.setCell ⟨zw1.heap.size, 0, none⟩ (.int .i64 x)).setCell ⟨zw1.heap.size, 1, none⟩ (.int .i64 y)).setCell ⟨zw1.heap.size, 2, none⟩ (.int .i64 z)).setCell ⟨zw1.heap.size, 3, none⟩ (.int .i64 s)).cell? ⟨w.heap.size + 1, 1, none⟩ = some (.int .i64 d2) := far4 ne1 b1
    have b2 : ((((uw5.setCell ⟨zw1.heap.size, 0, none⟩ (.int .i64 x)).setCell ⟨zw1.heap.size, 1, none⟩ (.int .i64 y)).setCell ⟨zw1.heap.size, 2, none⟩ (.int .i64 z)).setCell ⟨zw1.heap.size, 3, none⟩ (.int .i64 s)).cell? ⟨w.heap.size + 1, 2, none⟩ = some (.int .i64 t2) := far4 ne1 b2
    have b3 : ((((uw5.setCell ⟨zw1.heap.size, 0, none⟩ (.int .i64 x)).setCell ⟨zw1.heap.size, 1, none⟩ (.int .i64 y)).setCell ⟨zw1.heap.size, 2, none⟩ (.int .i64 z)).setCell ⟨zw1.heap.size, 3, none⟩ (.int .i64 s)).cell? ⟨w.heap.size + 1, 3, none⟩ = some (.int .i64 u2) := far4 ne1 b3
    have hst := st4 (x := .int .i64 x) (y := .int .i64 y) (z := .int .i64 z) (t := .int .i64 s) m0 m1 m2 m3
    obtain ⟨s0, s1, s2, s3⟩ := hst
    have KS : Below w.heap.size w ((((uw5.setCell ⟨zw1.heap.size, 0, none⟩ (.int .i64 x)).setCell ⟨zw1.heap.size, 1, none⟩ (.int .i64 y)).setCell ⟨zw1.heap.size, 2, none⟩ (.int .i64 z)).setCell ⟨zw1.heap.size, 3, none⟩ (.int .i64 s)) := (Below.setCell (Below.setCell (Below.setCell (Below.setCell K9 (by dsimp only; omega) _) (by dsimp only; omega) _) (by dsimp only; omega) _) (by dsimp only; omega) _)
    have lm : zw1.heap.size < ((((uw5.setCell ⟨zw1.heap.size, 0, none⟩ (.int .i64 x)).setCell ⟨zw1.heap.size, 1, none⟩ (.int .i64 y)).setCell ⟨zw1.heap.size, 2, none⟩ (.int .i64 z)).setCell ⟨zw1.heap.size, 3, none⟩ (.int .i64 s)).heap.size := World.block_lt_of_cell? _ _ s0
    have lo0 : w.heap.size < ((((uw5.setCell ⟨zw1.heap.size, 0, none⟩ (.int .i64 x)).setCell ⟨zw1.heap.size, 1, none⟩ (.int .i64 y)).setCell ⟨zw1.heap.size, 2, none⟩ (.int .i64 z)).setCell ⟨zw1.heap.size, 3, none⟩ (.int .i64 s)).heap.size := by simp; omega
    have lo1 : w.heap.size + 1 < ((((uw5.setCell ⟨zw1.heap.size, 0, none⟩ (.int .i64 x)).setCell ⟨zw1.heap.size, 1, none⟩ (.int .i64 y)).setCell ⟨zw1.heap.size, 2, none⟩ (.int .i64 z)).setCell ⟨zw1.heap.size, 3, none⟩ (.int .i64 s)).heap.size := by simp; omega
    clear K9 m0 fm0 m1 fm1 m2 fm2 m3 fm3
    generalize ((((uw5.setCell ⟨zw1.heap.size, 0, none⟩ (.int .i64 x)).setCell ⟨zw1.heap.size, 1, none⟩ (.int .i64 y)).setCell ⟨zw1.heap.size, 2, none⟩ (.int .i64 z)).setCell ⟨zw1.heap.size, 3, none⟩ (.int .i64 s)) = gs at *
    go_wp2_with (first | (go_at_call 8; (with_reducible refine (RA.out _).mono ?_); rintro e w5 ⟨rfl, hb5⟩; have hc5 := (bcell hb5).1; have hf5 := (bcell hb5).2; have z5_0 : w.heap.size < w5.heap.size := (by have hzz := hb5.size; (try simp at hzz); omega); have z5_1 : w.heap.size + 1 < w5.heap.size := (by have hzz := hb5.size; (try simp at hzz); omega); have z5_2 : zw1.heap.size < w5.heap.size := (by have hzz := hb5.size; (try simp at hzz); omega); have K5 : Below w.heap.size w w5 := Below.trans (b := _) (by (repeat' (first | (with_reducible exact Below.refl _ _) | (with_reducible exact KS) | (with_reducible exact KS.size) | (with_reducible refine Below.alloc ?_ ?_ _) | (with_reducible refine Below.setCell ?_ ?_ _) | (with_reducible refine below_drewN ?_ _) | (simp; done) | omega | (simp; omega)))) (hb5.mono (by have hzz := hb5.size; (try simp at hzz); first | omega | (simp; done) | (simp; omega)))) | (go_at_call 9; (with_reducible refine (SM.out _).mono ?_); rintro e w6 ⟨rfl, hb6⟩; have hc6 := (bcell hb6).1; have hf6 := (bcell hb6).2; have z6_0 : w.heap.size < w6.heap.size := (by have hzz := hb6.size; (try simp at hzz); omega); have z6_1 : w.heap.size + 1 < w6.heap.size := (by have hzz := hb6.size; (try simp at hzz); omega); have z6_2 : zw1.heap.size < w6.heap.size := (by have hzz := hb6.size; (try simp at hzz); omega); have z6_3 : w5.heap.size < w6.heap.size := (by have hzz := hb6.size; (try simp at hzz); omega); have K6 : Below w.heap.size w w6 := Below.trans (b := _) (by (repeat' (first | (with_reducible exact Below.refl _ _) | (with_reducible exact KS) | (with_reducible exact KS.size) | (with_reducible exact K5) | (with_reducible exact K5.size) | (with_reducible refine Below.alloc ?_ ?_ _) | (with_reducible refine Below.setCell ?_ ?_ _) | (with_reducible refine below_drewN ?_ _) | (simp; done) | omega | (simp; omega)))) (hb6.mono (by have hzz := hb6.size; (try simp at hzz); first | omega | (simp; done) | (simp; omega)))) | (go_at_call 10; (with_reducible refine (AL.out _).mono ?_); rintro e w7 ⟨rfl, hb7⟩; have hc7 := (bcell hb7).1; have hf7 := (bcell hb7).2; have K7 : Below w.heap.size w w7 := Below.trans (b := _) (by (repeat' (first | (with_reducible exact Below.refl _ _) | (with_reducible exact KS) | (with_reducible exact KS.size) | (with_reducible exact K5) | (with_reducible exact K5.size) | (with_reducible exact K6) | (with_reducible exact K6.size) | (with_reducible refine Below.alloc ?_ ?_ _) | (with_reducible refine Below.setCell ?_ ?_ _) | (with_reducible refine below_drewN ?_ _) | (simp; done) | omega | (simp; omega)))) (hb7.mono (by have hzz := hb7.size; (try simp at hzz); first | omega | (simp; done) | (simp; omega)))))
    go_ret
    exact ⟨rfl, K7⟩
end Go.Proofs.Ythkhlhibhkdkkaa.Va
