/- The law on quotients. -/
import Derived.Test.YthkhlhibhkdkkaaG19
import Derived.Test.YthkhlhibhkdkkaaD7

namespace Go.Proofs.Ythkhlhibhkdkkaa.Va
open Go.ChangeShapes Go.WideShapes Go.ChangeAt Go.RowKit
open Fr Fx
set_option maxRecDepth 8000
set_option linter.unusedVariables false
set_option linter.unusedSimpArgs false

set_option maxHeartbeats 2000000 in
theorem law_divides (n1 d1 t1 u1 n2 d2 t2 u2 : Int) (w : World) (hn2 : -9223372036854775808 ≤ n2 ∧ n2 ≤ 9223372036854775807) : Calls Try.prog 5 #[D4 n1 d1 t1 u1, D4 n2 d2 t2 u2] w (Ret (.bool true) w) := by
  have IN1 := Lib.hid fun w => law_in n1 d1 t1 u1 w
  have IN2 := Lib.hid fun w => law_in n2 d2 t2 u2 w
  have AP := Lib.hid fun w => c_dap 7 n1 d1 t1 u1 n2 d2 t2 u2 w hn2
  have RA := Lib.hid fun w => r_dap 7 n1 d1 t1 u1 n2 d2 t2 u2 w hn2
  have AL := Lib.hid fun w => alive1 w
  have BACK : Hid (∀ x y z s, dav 7 n1 d1 t1 u1 n2 d2 t2 u2 = (x, y, z, s, 0) → dav 6 x y z s n2 d2 t2 u2 = (n1, d1, t1, u1, 0)) := Lib.hid fun x y z s h => dav_back h
  obtain ⟨r, hr⟩ : ∃ r, dav 7 n1 d1 t1 u1 n2 d2 t2 u2 = r := ⟨_, rfl⟩
  rw [hr] at AP RA BACK
  clear hr
  obtain ⟨x, y, z, s, e⟩ := r
  replace BACK : Hid (e = 0 → dav 6 x y z s n2 d2 t2 u2 = (n1, d1, t1, u1, 0)) := Lib.hid fun h => BACK.out x y z s (by rw [h])
  have AP2 := Lib.hid fun w => c_dap 6 x y z s n2 d2 t2 u2 w hn2
  clear hn2
  have SM := Lib.hid fun w => law_same n1 d1 t1 u1 n1 d1 t1 u1 w
  rw [show decide (n1 = n1 ∧ d1 = d1 ∧ t1 = t1 ∧ u1 = u1) = true by simp] at SM
  go_enter Try.func5, Try.ntmps5
  go_wp2_with fail
  obtain ⟨zw1, hzw⟩ : ∃ zw1, zw1 = ((w.alloc (.cells #[.int .i64 n1, .int .i64 d1, .int .i64 t1, .int .i64 u1] 25)).alloc (.cells #[.int .i64 n2, .int .i64 d2, .int .i64 t2, .int .i64 u2] 25)) := ⟨_, rfl⟩
  have hb : Below ((w.alloc (.cells #[.int .i64 n1, .int .i64 d1, .int .i64 t1, .int .i64 u1] 25)).alloc (.cells #[.int .i64 n2, .int .i64 d2, .int .i64 t2, .int .i64 u2] 25)).heap.size ((w.alloc (.cells #[.int .i64 n1, .int .i64 d1, .int .i64 t1, .int .i64 u1] 25)).alloc (.cells #[.int .i64 n2, .int .i64 d2, .int .i64 t2, .int .i64 u2] 25)) zw1 := by rw [hzw]; exact Below.refl _ _
  rw [← hzw]
  clear hzw
  have L : Below w.heap.size w zw1 := (((Below.refl _ _).alloc (by simp <;> omega) _).alloc (by simp <;> omega) _).trans (hb.mono (by simp <;> omega))
  have K1 : Below w.heap.size w zw1 := L
  have la : w.heap.size < zw1.heap.size := Nat.lt_of_lt_of_le (by simp <;> omega) hb.size
  have a0 : zw1.cell? ⟨w.heap.size, 0, none⟩ = some (.int .i64 n1) := Rg.keep hb (by simp <;> omega) (by go_cell)
  have a1 : zw1.cell? ⟨w.heap.size, 1, none⟩ = some (.int .i64 d1) := Rg.keep hb (by simp <;> omega) (by go_cell)
  have a2 : zw1.cell? ⟨w.heap.size, 2, none⟩ = some (.int .i64 t1) := Rg.keep hb (by simp <;> omega) (by go_cell)
  have a3 : zw1.cell? ⟨w.heap.size, 3, none⟩ = some (.int .i64 u1) := Rg.keep hb (by simp <;> omega) (by go_cell)
  have lb : w.heap.size + 1 < zw1.heap.size := Nat.lt_of_lt_of_le (by simp <;> omega) hb.size
  have b0 : zw1.cell? ⟨w.heap.size + 1, 0, none⟩ = some (.int .i64 n2) := Rg.keep hb (by simp <;> omega) (by go_cell)
  have b1 : zw1.cell? ⟨w.heap.size + 1, 1, none⟩ = some (.int .i64 d2) := Rg.keep hb (by simp <;> omega) (by go_cell)
  have b2 : zw1.cell? ⟨w.heap.size + 1, 2, none⟩ = some (.int .i64 t2) := Rg.keep hb (by simp <;> omega) (by go_cell)
  have b3 : zw1.cell? ⟨w.heap.size + 1, 3, none⟩ = some (.int .i64 u2) := Rg.keep hb (by simp <;> omega) (by go_cell)
  clear hb L
  have hz : zw1.cell? ⟨w.heap.size, 0, none⟩ = some (.int .i64 n1) ∧ zw1.cell? ⟨w.heap.size, 1, none⟩ = some (.int .i64 d1) ∧ zw1.cell? ⟨w.heap.size, 2, none⟩ = some (.int .i64 t1) ∧ zw1.cell? ⟨w.heap.size, 3, none⟩ = some (.int .i64 u1) ∧ zw1.cell? ⟨w.heap.size + 1, 0, none⟩ = some (.int .i64 n2) ∧ zw1.cell? ⟨w.heap.size + 1, 1, none⟩ = some (.int .i64 d2) ∧ zw1.cell? ⟨w.heap.size + 1, 2, none⟩ = some (.int .i64 t2) ∧ zw1.cell? ⟨w.heap.size + 1, 3, none⟩ = some (.int .i64 u2) ∧ Below w.heap.size w zw1 := ⟨a0, a1, a2, a3, b0, b1, b2, b3, K1⟩
  clear a0 a1 a2 a3 b0 b1 b2 b3 K1
  have HS : Hid (∀ u u' : World, (u.cell? ⟨w.heap.size, 0, none⟩ = some (.int .i64 n1) ∧ u.cell? ⟨w.heap.size, 1, none⟩ = some (.int .i64 d1) ∧ u.cell? ⟨w.heap.size, 2, none⟩ = some (.int .i64 t1) ∧ u.cell? ⟨w.heap.size, 3, none⟩ = some (.int .i64 u1) ∧ u.cell? ⟨w.heap.size + 1, 0, none⟩ = some (.int .i64 n2) ∧ u.cell? ⟨w.heap.size + 1, 1, none⟩ = some (.int .i64 d2) ∧ u.cell? ⟨w.heap.size + 1, 2, none⟩ = some (.int .i64 t2) ∧ u.cell? ⟨w.heap.size + 1, 3, none⟩ = some (.int .i64 u2) ∧ Below w.heap.size w u) → Below u.heap.size u u' → (u'.cell? ⟨w.heap.size, 0, none⟩ = some (.int .i64 n1) ∧ u'.cell? ⟨w.heap.size, 1, none⟩ = some (.int .i64 d1) ∧ u'.cell? ⟨w.heap.size, 2, none⟩ = some (.int .i64 t1) ∧ u'.cell? ⟨w.heap.size, 3, none⟩ = some (.int .i64 u1) ∧ u'.cell? ⟨w.heap.size + 1, 0, none⟩ = some (.int .i64 n2) ∧ u'.cell? ⟨w.heap.size + 1, 1, none⟩ = some (.int .i64 d2) ∧ u'.cell? ⟨w.heap.size + 1, 2, none⟩ = some (.int .i64 t2) ∧ u'.cell? ⟨w.heap.size + 1, 3, none⟩ = some (.int .i64 u2) ∧ Below w.heap.size w u')) := Lib.hid (fun u u' h hb => ⟨Rg.keep hb (World.block_lt_of_cell? _ _ h.1) h.1, Rg.keep hb (World.block_lt_of_cell? _ _ h.2.1) h.2.1, Rg.keep hb (World.block_lt_of_cell? _ _ h.2.2.1) h.2.2.1, Rg.keep hb (World.block_lt_of_cell? _ _ h.2.2.2.1) h.2.2.2.1, Rg.keep hb (World.block_lt_of_cell? _ _ h.2.2.2.2.1) h.2.2.2.2.1, Rg.keep hb (World.block_lt_of_cell? _ _ h.2.2.2.2.2.1) h.2.2.2.2.2.1, Rg.keep hb (World.block_lt_of_cell? _ _ h.2.2.2.2.2.2.1) h.2.2.2.2.2.2.1, Rg.keep hb (World.block_lt_of_cell? _ _ h.2.2.2.2.2.2.2.1) h.2.2.2.2.2.2.2.1, h.2.2.2.2.2.2.2.2.trans (hb.mono h.2.2.2.2.2.2.2.2.size)⟩)
  refine Rk.begin (S := fun wS => wS.cell? ⟨w.heap.size, 0, none⟩ = some (.int .i64 n1) ∧ wS.cell? ⟨w.heap.size, 1, none⟩ = some (.int .i64 d1) ∧ wS.cell? ⟨w.heap.size, 2, none⟩ = some (.int .i64 t1) ∧ wS.cell? ⟨w.heap.size, 3, none⟩ = some (.int .i64 u1) ∧ wS.cell? ⟨w.heap.size + 1, 0, none⟩ = some (.int .i64 n2) ∧ wS.cell? ⟨w.heap.size + 1, 1, none⟩ = some (.int .i64 d2) ∧ wS.cell? ⟨w.heap.size + 1, 2, none⟩ = some (.int .i64 t2) ∧ wS.cell? ⟨w.heap.size + 1, 3, none⟩ = some (.int .i64 u2) ∧ Below w.heap.size w wS) 9 (by kernel_rfl) (HS.out _ _ hz (Below.drew (Below.refl _ _))) (fun hHeld => ?_)
  refine Rk.take [9] (i := 0) (v := ?_) rfl (by kernel_rfl) (by kernel_rfl) (by kernel_rfl) (by kernel_rfl) (by kernel_rfl) (fun _ _ _ h => h) (Or.inl ⟨by kernel_rfl, ?_⟩) (by assumption) ?_
  rotate_left
  · ((intro w hSw; (try dsimp only at hSw); go_simp) <;> with_reducible rfl)
  try simp only [Act.put, List.setIfInBounds_toArray, List.set_cons_zero, List.set_cons_succ]
  refine Rk.take [9] (i := 2) (v := ?_) rfl (by kernel_rfl) (by kernel_rfl) (by kernel_rfl) (by kernel_rfl) (by kernel_rfl) (fun _ _ _ h => h) (Or.inl ⟨by kernel_rfl, ?_⟩) (by assumption) ?_
  rotate_left
  · ((intro w hSw; (try dsimp only at hSw); go_simp) <;> with_reducible rfl)
  try simp only [Act.put, List.setIfInBounds_toArray, List.set_cons_zero, List.set_cons_succ]
  refine Rk.two (i := 1) (j := 8) (by kernel_rfl) rfl rfl (fun KK hK => ?_) (fun KK hK => ?_)
  · rw [if_pos (by kernel_rfl)]
    go_simp
    (refine (IN1.out _).mono ?_; rintro e uw1 ⟨rfl, hb⟩)
    have hNew := HS.out _ _ hHeld hb
    have hs_uw1 : zw1.heap.size ≤ uw1.heap.size := by have hzz := hb.size; (try simp at hzz); omega
    first | (refine hK.out _ _ (fun _ => hNew) (fun _ => ?_)) | (refine hK.out _ _ hNew (fun _ => ?_)) | (go_wp2_with fail; refine hK.out _ _ hNew (fun _ => ?_))
    replace hHeld := hNew
    clear hNew hb
    clear hK KK
    refine Rk.two (i := 3) (j := 8) (by kernel_rfl) rfl rfl (fun KK hK => ?_) (fun KK hK => ?_)
    · rw [if_pos (by kernel_rfl)]
      go_simp
      (refine (IN2.out _).mono ?_; rintro e uw3 ⟨rfl, hb⟩)
      have hNew := HS.out _ _ hHeld hb
      have hs_uw3 : zw1.heap.size ≤ uw3.heap.size := by have hzz := hb.size; (try simp at hzz); omega
      first | (refine hK.out _ _ (fun _ => hNew) (fun _ => ?_)) | (refine hK.out _ _ hNew (fun _ => ?_)) | (go_wp2_with fail; refine hK.out _ _ hNew (fun _ => ?_))
      replace hHeld := hNew
      clear hNew hb
      clear hK KK
      refine Rk.two (i := 4) (j := 8) (by kernel_rfl) rfl rfl (fun KK hK => ?_) (fun KK hK => ?_)
      · rw [if_pos (by kernel_rfl)]
        go_simp
        (refine (AP.out _).mono ?_; rintro e uw4 ⟨rfl, hb⟩)
        have hNew := HS.out _ _ hHeld hb
        have hs_uw4 : zw1.heap.size ≤ uw4.heap.size := by have hzz := hb.size; (try simp at hzz); omega
        first | (refine hK.out _ _ (fun _ => hNew) (fun _ => ?_)) | (refine hK.out _ _ hNew (fun _ => ?_)) | (go_wp2_with fail; refine hK.out _ _ hNew (fun _ => ?_))
        replace hHeld := hNew
        clear hNew hb
        clear hK KK
        refine Rk.takeP (i := 5) (v := ?_) rfl (by kernel_rfl) (by kernel_rfl) (by kernel_rfl) (by kernel_rfl) (fun _ _ _ h => h) (Or.inl ⟨by kernel_rfl, ?_⟩) (by assumption) ?_
        rotate_left
        · ((intro w hSw; go_simp) <;> with_reducible rfl)
        try simp only [Act.put, List.setIfInBounds_toArray, List.set_cons_zero, List.set_cons_succ]
        refine Rk.takeP (i := 6) (v := ?_) rfl (by kernel_rfl) (by kernel_rfl) (by kernel_rfl) (by kernel_rfl) (fun _ _ _ h => h) (Or.inl ⟨by kernel_rfl, ?_⟩) (by assumption) ?_
        rotate_left
        · ((intro w hSw; go_simp) <;> with_reducible rfl)
        try simp only [Act.put, List.setIfInBounds_toArray, List.set_cons_zero, List.set_cons_succ]
        refine Rk.takeP (i := 7) (v := ?_) rfl (by kernel_rfl) (by kernel_rfl) (by kernel_rfl) (by kernel_rfl) (fun _ _ _ h => h) (Or.inl ⟨by kernel_rfl, ?_⟩) (by assumption) ?_
        rotate_left
        · ((intro w hSw; go_simp) <;> with_reducible rfl)
        try simp only [Act.put, List.setIfInBounds_toArray, List.set_cons_zero, List.set_cons_succ]
        refine Rk.one (i := 8) (by kernel_rfl) rfl (fun KK hK => ?_)
        rw [if_pos (by kernel_rfl)]
        go_simp
        have hNew := HS.out _ _ hHeld ((Below.refl _ _).alloc (Nat.le_refl _) (Obj.cells #[Value.int .i64 0, Value.int .i64 0, Value.int .i64 0, Value.int .i64 0] 26))
        refine hK.out _ _ hNew (fun _ => ?_)
        replace hHeld := hNew
        clear hNew
        clear hK KK
        refine Rk.tail [9, 10] [_, _] (by kernel_rfl) (by kernel_rfl) rfl (by decide) ?_
        obtain ⟨a0, a1, a2, a3, b0, b1, b2, b3, K9⟩ := hHeld
        have m0 : (uw4.alloc (Obj.cells #[Value.int .i64 0, Value.int .i64 0, Value.int .i64 0, Value.int .i64 0] 26)).cell? ⟨uw4.heap.size, 0, none⟩ = some (.int .i64 0) := by go_cell
        have fm0 : (uw4.alloc (Obj.cells #[Value.int .i64 0, Value.int .i64 0, Value.int .i64 0, Value.int .i64 0] 26)).frozen? ⟨uw4.heap.size, 0, none⟩ = false := by simp only [frozen?_alloc_cells]; exact Rg.notFrozen (Nat.le_refl _)
        have m1 : (uw4.alloc (Obj.cells #[Value.int .i64 0, Value.int .i64 0, Value.int .i64 0, Value.int .i64 0] 26)).cell? ⟨uw4.heap.size, 1, none⟩ = some (.int .i64 0) := by go_cell
        have fm1 : (uw4.alloc (Obj.cells #[Value.int .i64 0, Value.int .i64 0, Value.int .i64 0, Value.int .i64 0] 26)).frozen? ⟨uw4.heap.size, 1, none⟩ = false := by simp only [frozen?_alloc_cells]; exact Rg.notFrozen (Nat.le_refl _)
        have m2 : (uw4.alloc (Obj.cells #[Value.int .i64 0, Value.int .i64 0, Value.int .i64 0, Value.int .i64 0] 26)).cell? ⟨uw4.heap.size, 2, none⟩ = some (.int .i64 0) := by go_cell
        have fm2 : (uw4.alloc (Obj.cells #[Value.int .i64 0, Value.int .i64 0, Value.int .i64 0, Value.int .i64 0] 26)).frozen? ⟨uw4.heap.size, 2, none⟩ = false := by simp only [frozen?_alloc_cells]; exact Rg.notFrozen (Nat.le_refl _)
        have m3 : (uw4.alloc (Obj.cells #[Value.int .i64 0, Value.int .i64 0, Value.int .i64 0, Value.int .i64 0] 26)).cell? ⟨uw4.heap.size, 3, none⟩ = some (.int .i64 0) := by go_cell
        have fm3 : (uw4.alloc (Obj.cells #[Value.int .i64 0, Value.int .i64 0, Value.int .i64 0, Value.int .i64 0] 26)).frozen? ⟨uw4.heap.size, 3, none⟩ = false := by simp only [frozen?_alloc_cells]; exact Rg.notFrozen (Nat.le_refl _)
        generalize (uw4.alloc (Obj.cells #[Value.int .i64 0, Value.int .i64 0, Value.int .i64 0, Value.int .i64 0] 26)) = gw at *
        have lm : uw4.heap.size < gw.heap.size := World.block_lt_of_cell? _ _ m0
        have lw : w.heap.size ≤ uw4.heap.size := by omega
        have ne0 : uw4.heap.size ≠ w.heap.size := by omega
        have ne1 : uw4.heap.size ≠ w.heap.size + 1 := by omega
        have lo0 : w.heap.size < gw.heap.size := by omega
        have lo1 : w.heap.size + 1 < gw.heap.size := by omega
        by_cases he : e = 0
        · subst he
          have hback := BACK.out rfl
          rw [hback] at AP2
          clear RA
          go_wp2_with fail
          have a0 : ((((gw.setCell ⟨uw4.heap.size, 0, none⟩ (.int .i64 x)).setCell ⟨uw4.heap.size, 1, none⟩ (.int .i64 y)).setCell ⟨uw4.heap.size, 2, none⟩ (.int .i64 z)).setCell ⟨uw4.heap.size, 3, none⟩ (.int .i64 s)).cell? ⟨w.heap.size, 0, none⟩ = some (.int .i64 n1) := far4 ne0 a0
          have a1 : ((((gw.setCell ⟨uw4.heap.size, 0, none⟩ (.int .i64 x)).setCell ⟨uw4.heap.size, 1, none⟩ (.int .i64 y)).setCell ⟨uw4.heap.size, 2, none⟩ (.int .i64 z)).setCell ⟨uw4.heap.size, 3, none⟩ (.int .i64 s)).cell? ⟨w.heap.size, 1, none⟩ = some (.int .i64 d1) := far4 ne0 a1
          have a2 : ((((gw.setCell ⟨uw4.heap.size, 0, none⟩ (.int .i64 x)).setCell ⟨uw4.heap.size, 1, none⟩ (.int .i64 y)).setCell ⟨uw4.heap.size, 2, none⟩ (.int .i64 z)).setCell ⟨uw4.heap.size, 3, none⟩ (.int .i64 s)).cell? ⟨w.heap.size, 2, none⟩ = some (.int .i64 t1) := far4 ne0 a2
          have a3 : ((((gw.setCell ⟨uw4.heap.size, 0, none⟩ (.int .i64 x)).setCell ⟨uw4.heap.size, 1, none⟩ (.int .i64 y)).setCell ⟨uw4.heap.size, 2, none⟩ (.int .i64 z)).setCell ⟨uw4.heap.size, 3, none⟩ (.int .i64 s)).cell? ⟨w.heap.size, 3, none⟩ = some (.int .i64 u1) := far4 ne0 a3
          have b0 : ((((gw.setCell ⟨uw4.heap.size, 0, none⟩ (.int .i64 x)).setCell ⟨uw4.heap.size, 1, none⟩ (.int .i64 y)).setCell ⟨uw4.heap.size, 2, none⟩ (.int .i64 z)).setCell ⟨uw4.heap.size, 3, none⟩ (.int .i64 s)).cell? ⟨w.heap.size + 1, 0, none⟩ = some (.int .i64 n2) := far4 ne1 b0
          have b1 : ((((gw.setCell ⟨uw4.heap.size, 0, none⟩ (.int .i64 x)).setCell ⟨uw4.heap.size, 1, none⟩ (.int .i64 y)).setCell ⟨uw4.heap.size, 2, none⟩ (.int .i64 z)).setCell ⟨uw4.heap.size, 3, none⟩ (.int .i64 s)).cell? ⟨w.heap.size + 1, 1, none⟩ = some (.int .i64 d2) := far4 ne1 b1
          have b2 : ((((gw.setCell ⟨uw4.heap.size, 0, none⟩ (.int .i64 x)).setCell ⟨uw4.heap.size, 1, none⟩ (.int .i64 y)).setCell ⟨uw4.heap.size, 2, none⟩ (.int .i64 z)).setCell ⟨uw4.heap.size, 3, none⟩ (.int .i64 s)).cell? ⟨w.heap.size + 1, 2, none⟩ = some (.int .i64 t2) := far4 ne1 b2
          have b3 : ((((gw.setCell ⟨uw4.heap.size, 0, none⟩ (.int .i64 x)).setCell ⟨uw4.heap.size, 1, none⟩ (.int .i64 y)).setCell ⟨uw4.heap.size, 2, none⟩ (.int .i64 z)).setCell ⟨uw4.heap.size, 3, none⟩ (.int .i64 s)).cell? ⟨w.heap.size + 1, 3, none⟩ = some (.int .i64 u2) := far4 ne1 b3
          have hst := st4 (x := .int .i64 x) (y := .int .i64 y) (z := .int .i64 z) (t := .int .i64 s) m0 m1 m2 m3
          obtain ⟨s0, s1, s2, s3⟩ := hst
          have KS : Below w.heap.size w ((((gw.setCell ⟨uw4.heap.size, 0, none⟩ (.int .i64 x)).setCell ⟨uw4.heap.size, 1, none⟩ (.int .i64 y)).setCell ⟨uw4.heap.size, 2, none⟩ (.int .i64 z)).setCell ⟨uw4.heap.size, 3, none⟩ (.int .i64 s)) := (Below.setCell (Below.setCell (Below.setCell (Below.setCell K9 (by dsimp only; omega) _) (by dsimp only; omega) _) (by dsimp only; omega) _) (by dsimp only; omega) _)
          have lm : uw4.heap.size < ((((gw.setCell ⟨uw4.heap.size, 0, none⟩ (.int .i64 x)).setCell ⟨uw4.heap.size, 1, none⟩ (.int .i64 y)).setCell ⟨uw4.heap.size, 2, none⟩ (.int .i64 z)).setCell ⟨uw4.heap.size, 3, none⟩ (.int .i64 s)).heap.size := World.block_lt_of_cell? _ _ s0
          have lo0 : w.heap.size < ((((gw.setCell ⟨uw4.heap.size, 0, none⟩ (.int .i64 x)).setCell ⟨uw4.heap.size, 1, none⟩ (.int .i64 y)).setCell ⟨uw4.heap.size, 2, none⟩ (.int .i64 z)).setCell ⟨uw4.heap.size, 3, none⟩ (.int .i64 s)).heap.size := by simp; omega
          have lo1 : w.heap.size + 1 < ((((gw.setCell ⟨uw4.heap.size, 0, none⟩ (.int .i64 x)).setCell ⟨uw4.heap.size, 1, none⟩ (.int .i64 y)).setCell ⟨uw4.heap.size, 2, none⟩ (.int .i64 z)).setCell ⟨uw4.heap.size, 3, none⟩ (.int .i64 s)).heap.size := by simp; omega
          clear K9 m0 fm0 m1 fm1 m2 fm2 m3 fm3
          generalize ((((gw.setCell ⟨uw4.heap.size, 0, none⟩ (.int .i64 x)).setCell ⟨uw4.heap.size, 1, none⟩ (.int .i64 y)).setCell ⟨uw4.heap.size, 2, none⟩ (.int .i64 z)).setCell ⟨uw4.heap.size, 3, none⟩ (.int .i64 s)) = gs at *
          have hz2 : gs.cell? ⟨w.heap.size, 0, none⟩ = some (.int .i64 n1) ∧ gs.cell? ⟨w.heap.size, 1, none⟩ = some (.int .i64 d1) ∧ gs.cell? ⟨w.heap.size, 2, none⟩ = some (.int .i64 t1) ∧ gs.cell? ⟨w.heap.size, 3, none⟩ = some (.int .i64 u1) ∧ gs.cell? ⟨w.heap.size + 1, 0, none⟩ = some (.int .i64 n2) ∧ gs.cell? ⟨w.heap.size + 1, 1, none⟩ = some (.int .i64 d2) ∧ gs.cell? ⟨w.heap.size + 1, 2, none⟩ = some (.int .i64 t2) ∧ gs.cell? ⟨w.heap.size + 1, 3, none⟩ = some (.int .i64 u2) ∧ gs.cell? ⟨uw4.heap.size, 0, none⟩ = some (.int .i64 x) ∧ gs.cell? ⟨uw4.heap.size, 1, none⟩ = some (.int .i64 y) ∧ gs.cell? ⟨uw4.heap.size, 2, none⟩ = some (.int .i64 z) ∧ gs.cell? ⟨uw4.heap.size, 3, none⟩ = some (.int .i64 s) ∧ Below w.heap.size w gs := ⟨a0, a1, a2, a3, b0, b1, b2, b3, s0, s1, s2, s3, KS⟩
          clear a0 a1 a2 a3 b0 b1 b2 b3 s0 s1 s2 s3 KS
          have qHS : Hid (∀ u u' : World, (u.cell? ⟨w.heap.size, 0, none⟩ = some (.int .i64 n1) ∧ u.cell? ⟨w.heap.size, 1, none⟩ = some (.int .i64 d1) ∧ u.cell? ⟨w.heap.size, 2, none⟩ = some (.int .i64 t1) ∧ u.cell? ⟨w.heap.size, 3, none⟩ = some (.int .i64 u1) ∧ u.cell? ⟨w.heap.size + 1, 0, none⟩ = some (.int .i64 n2) ∧ u.cell? ⟨w.heap.size + 1, 1, none⟩ = some (.int .i64 d2) ∧ u.cell? ⟨w.heap.size + 1, 2, none⟩ = some (.int .i64 t2) ∧ u.cell? ⟨w.heap.size + 1, 3, none⟩ = some (.int .i64 u2) ∧ u.cell? ⟨uw4.heap.size, 0, none⟩ = some (.int .i64 x) ∧ u.cell? ⟨uw4.heap.size, 1, none⟩ = some (.int .i64 y) ∧ u.cell? ⟨uw4.heap.size, 2, none⟩ = some (.int .i64 z) ∧ u.cell? ⟨uw4.heap.size, 3, none⟩ = some (.int .i64 s) ∧ Below w.heap.size w u) → Below u.heap.size u u' → (u'.cell? ⟨w.heap.size, 0, none⟩ = some (.int .i64 n1) ∧ u'.cell? ⟨w.heap.size, 1, none⟩ = some (.int .i64 d1) ∧ u'.cell? ⟨w.heap.size, 2, none⟩ = some (.int .i64 t1) ∧ u'.cell? ⟨w.heap.size, 3, none⟩ = some (.int .i64 u1) ∧ u'.cell? ⟨w.heap.size + 1, 0, none⟩ = some (.int .i64 n2) ∧ u'.cell? ⟨w.heap.size + 1, 1, none⟩ = some (.int .i64 d2) ∧ u'.cell? ⟨w.heap.size + 1, 2, none⟩ = some (.int .i64 t2) ∧ u'.cell? ⟨w.heap.size + 1, 3, none⟩ = some (.int .i64 u2) ∧ u'.cell? ⟨uw4.heap.size, 0, none⟩ = some (.int .i64 x) ∧ u'.cell? ⟨uw4.heap.size, 1, none⟩ = some (.int .i64 y) ∧ u'.cell? ⟨uw4.heap.size, 2, none⟩ = some (.int .i64 z) ∧ u'.cell? ⟨uw4.heap.size, 3, none⟩ = some (.int .i64 s) ∧ Below w.heap.size w u')) := Lib.hid (fun u u' h hb => ⟨Rg.keep hb (World.block_lt_of_cell? _ _ h.1) h.1, Rg.keep hb (World.block_lt_of_cell? _ _ h.2.1) h.2.1, Rg.keep hb (World.block_lt_of_cell? _ _ h.2.2.1) h.2.2.1, Rg.keep hb (World.block_lt_of_cell? _ _ h.2.2.2.1) h.2.2.2.1, Rg.keep hb (World.block_lt_of_cell? _ _ h.2.2.2.2.1) h.2.2.2.2.1, Rg.keep hb (World.block_lt_of_cell? _ _ h.2.2.2.2.2.1) h.2.2.2.2.2.1, Rg.keep hb (World.block_lt_of_cell? _ _ h.2.2.2.2.2.2.1) h.2.2.2.2.2.2.1, Rg.keep hb (World.block_lt_of_cell? _ _ h.2.2.2.2.2.2.2.1) h.2.2.2.2.2.2.2.1, Rg.keep hb (World.block_lt_of_cell? _ _ h.2.2.2.2.2.2.2.2.1) h.2.2.2.2.2.2.2.2.1, Rg.keep hb (World.block_lt_of_cell? _ _ h.2.2.2.2.2.2.2.2.2.1) h.2.2.2.2.2.2.2.2.2.1, Rg.keep hb (World.block_lt_of_cell? _ _ h.2.2.2.2.2.2.2.2.2.2.1) h.2.2.2.2.2.2.2.2.2.2.1, Rg.keep hb (World.block_lt_of_cell? _ _ h.2.2.2.2.2.2.2.2.2.2.2.1) h.2.2.2.2.2.2.2.2.2.2.2.1, h.2.2.2.2.2.2.2.2.2.2.2.2.trans (hb.mono h.2.2.2.2.2.2.2.2.2.2.2.2.size)⟩)
          refine Rk.begin (S := fun wS => wS.cell? ⟨w.heap.size, 0, none⟩ = some (.int .i64 n1) ∧ wS.cell? ⟨w.heap.size, 1, none⟩ = some (.int .i64 d1) ∧ wS.cell? ⟨w.heap.size, 2, none⟩ = some (.int .i64 t1) ∧ wS.cell? ⟨w.heap.size, 3, none⟩ = some (.int .i64 u1) ∧ wS.cell? ⟨w.heap.size + 1, 0, none⟩ = some (.int .i64 n2) ∧ wS.cell? ⟨w.heap.size + 1, 1, none⟩ = some (.int .i64 d2) ∧ wS.cell? ⟨w.heap.size + 1, 2, none⟩ = some (.int .i64 t2) ∧ wS.cell? ⟨w.heap.size + 1, 3, none⟩ = some (.int .i64 u2) ∧ wS.cell? ⟨uw4.heap.size, 0, none⟩ = some (.int .i64 x) ∧ wS.cell? ⟨uw4.heap.size, 1, none⟩ = some (.int .i64 y) ∧ wS.cell? ⟨uw4.heap.size, 2, none⟩ = some (.int .i64 z) ∧ wS.cell? ⟨uw4.heap.size, 3, none⟩ = some (.int .i64 s) ∧ Below w.heap.size w wS) 8 (by kernel_rfl) (qHS.out _ _ hz2 (Below.drew (Below.refl _ _))) (fun hHeld => ?_)
          refine Rk.take [8] (i := 0) (v := ?_) rfl (by kernel_rfl) (by kernel_rfl) (by kernel_rfl) (by kernel_rfl) (by kernel_rfl) (fun _ _ _ h => h) (Or.inl ⟨by kernel_rfl, ?_⟩) (by assumption) ?_
          rotate_left
          · ((intro w hSw; (try dsimp only at hSw); go_simp) <;> with_reducible rfl)
          try simp only [Act.put, List.setIfInBounds_toArray, List.set_cons_zero, List.set_cons_succ]
          refine Rk.take [8] (i := 1) (v := ?_) rfl (by kernel_rfl) (by kernel_rfl) (by kernel_rfl) (by kernel_rfl) (by kernel_rfl) (fun _ _ _ h => h) (Or.inl ⟨by kernel_rfl, ?_⟩) (by assumption) ?_
          rotate_left
          · ((intro w hSw; (try dsimp only at hSw); go_simp) <;> with_reducible rfl)
          try simp only [Act.put, List.setIfInBounds_toArray, List.set_cons_zero, List.set_cons_succ]
          refine Rk.two (i := 2) (j := 7) (by kernel_rfl) rfl rfl (fun KK hK => ?_) (fun KK hK => ?_)
          · rw [if_pos (by kernel_rfl)]
            go_simp
            (refine (IN2.out _).mono ?_; rintro e quw2 ⟨rfl, hb⟩)
            have hNew := qHS.out _ _ hHeld hb
            have hs_quw2 : gs.heap.size ≤ quw2.heap.size := by have hzz := hb.size; (try simp at hzz); omega
            first | (refine hK.out _ _ (fun _ => hNew) (fun _ => ?_)) | (refine hK.out _ _ hNew (fun _ => ?_)) | (go_wp2_with fail; refine hK.out _ _ hNew (fun _ => ?_))
            replace hHeld := hNew
            clear hNew hb
            clear hK KK
            refine Rk.two (i := 3) (j := 7) (by kernel_rfl) rfl rfl (fun KK hK => ?_) (fun KK hK => ?_)
            · rw [if_pos (by kernel_rfl)]
              go_simp
              (refine (AP2.out _).mono ?_; rintro e quw3 ⟨rfl, hb⟩)
              have hNew := qHS.out _ _ hHeld hb
              have hs_quw3 : gs.heap.size ≤ quw3.heap.size := by have hzz := hb.size; (try simp at hzz); omega
              first | (refine hK.out _ _ (fun _ => hNew) (fun _ => ?_)) | (refine hK.out _ _ hNew (fun _ => ?_)) | (go_wp2_with fail; refine hK.out _ _ hNew (fun _ => ?_))
              replace hHeld := hNew
              clear hNew hb
              clear hK KK
              refine Rk.takeP (i := 4) (v := ?_) rfl (by kernel_rfl) (by kernel_rfl) (by kernel_rfl) (by kernel_rfl) (fun _ _ _ h => h) (Or.inl ⟨by kernel_rfl, ?_⟩) (by assumption) ?_
              rotate_left
              · ((intro w hSw; go_simp) <;> with_reducible rfl)
              try simp only [Act.put, List.setIfInBounds_toArray, List.set_cons_zero, List.set_cons_succ]
              refine Rk.takeP (i := 5) (v := ?_) rfl (by kernel_rfl) (by kernel_rfl) (by kernel_rfl) (by kernel_rfl) (fun _ _ _ h => h) (Or.inl ⟨by kernel_rfl, ?_⟩) (by assumption) ?_
              rotate_left
              · ((intro w hSw; go_simp) <;> with_reducible rfl)
              try simp only [Act.put, List.setIfInBounds_toArray, List.set_cons_zero, List.set_cons_succ]
              refine Rk.takeP (i := 6) (v := ?_) rfl (by kernel_rfl) (by kernel_rfl) (by kernel_rfl) (by kernel_rfl) (fun _ _ _ h => h) (Or.inl ⟨by kernel_rfl, ?_⟩) (by assumption) ?_
              rotate_left
              · ((intro w hSw; go_simp) <;> with_reducible rfl)
              try simp only [Act.put, List.setIfInBounds_toArray, List.set_cons_zero, List.set_cons_succ]
              refine Rk.one (i := 7) (by kernel_rfl) rfl (fun KK hK => ?_)
              rw [if_pos (by kernel_rfl)]
              go_simp
              have hNew := qHS.out _ _ hHeld ((Below.refl _ _).alloc (Nat.le_refl _) (Obj.cells #[Value.int .i64 0, Value.int .i64 0, Value.int .i64 0, Value.int .i64 0] 26))
              refine hK.out _ _ hNew (fun _ => ?_)
              replace hHeld := hNew
              clear hNew
              clear hK KK
              refine Rk.tail [8, 9] [_, _] (by kernel_rfl) (by kernel_rfl) rfl (by decide) ?_
              obtain ⟨a0, a1, a2, a3, b0, b1, b2, b3, s0, s1, s2, s3, K8⟩ := hHeld
              have qm0 : (quw3.alloc (Obj.cells #[Value.int .i64 0, Value.int .i64 0, Value.int .i64 0, Value.int .i64 0] 26)).cell? ⟨quw3.heap.size, 0, none⟩ = some (.int .i64 0) := by go_cell
              have qfm0 : (quw3.alloc (Obj.cells #[Value.int .i64 0, Value.int .i64 0, Value.int .i64 0, Value.int .i64 0] 26)).frozen? ⟨quw3.heap.size, 0, none⟩ = false := by simp only [frozen?_alloc_cells]; exact Rg.notFrozen (Nat.le_refl _)
              have qm1 : (quw3.alloc (Obj.cells #[Value.int .i64 0, Value.int .i64 0, Value.int .i64 0, Value.int .i64 0] 26)).cell? ⟨quw3.heap.size, 1, none⟩ = some (.int .i64 0) := by go_cell
              have qfm1 : (quw3.alloc (Obj.cells #[Value.int .i64 0, Value.int .i64 0, Value.int .i64 0, Value.int .i64 0] 26)).frozen? ⟨quw3.heap.size, 1, none⟩ = false := by simp only [frozen?_alloc_cells]; exact Rg.notFrozen (Nat.le_refl _)
              have qm2 : (quw3.alloc (Obj.cells #[Value.int .i64 0, Value.int .i64 0, Value.int .i64 0, Value.int .i64 0] 26)).cell? ⟨quw3.heap.size, 2, none⟩ = some (.int .i64 0) := by go_cell
              have qfm2 : (quw3.alloc (Obj.cells #[Value.int .i64 0, Value.int .i64 0, Value.int .i64 0, Value.int .i64 0] 26)).frozen? ⟨quw3.heap.size, 2, none⟩ = false := by simp only [frozen?_alloc_cells]; exact Rg.notFrozen (Nat.le_refl _)
              have qm3 : (quw3.alloc (Obj.cells #[Value.int .i64 0, Value.int .i64 0, Value.int .i64 0, Value.int .i64 0] 26)).cell? ⟨quw3.heap.size, 3, none⟩ = some (.int .i64 0) := by go_cell
              have qfm3 : (quw3.alloc (Obj.cells #[Value.int .i64 0, Value.int .i64 0, Value.int .i64 0, Value.int .i64 0] 26)).frozen? ⟨quw3.heap.size, 3, none⟩ = false := by simp only [frozen?_alloc_cells]; exact Rg.notFrozen (Nat.le_refl _)
              generalize (quw3.alloc (Obj.cells #[Value.int .i64 0, Value.int .i64 0, Value.int .i64 0, Value.int .i64 0] 26)) = qgw at *
              have qlm : quw3.heap.size < qgw.heap.size := World.block_lt_of_cell? _ _ qm0
              have qlw : w.heap.size ≤ quw3.heap.size := by omega
              have qne0 : quw3.heap.size ≠ w.heap.size := by omega
              have qne1 : quw3.heap.size ≠ w.heap.size + 1 := by omega
              have qne2 : quw3.heap.size ≠ uw4.heap.size := by omega
              have qlo0 : w.heap.size < qgw.heap.size := by omega
              have qlo1 : w.heap.size + 1 < qgw.heap.size := by omega
              have qlo2 : uw4.heap.size < qgw.heap.size := by omega
              go_wp2_with fail
              have a0 : ((((qgw.setCell ⟨quw3.heap.size, 0, none⟩ (.int .i64 n1)).setCell ⟨quw3.heap.size, 1, none⟩ (.int .i64 d1)).setCell ⟨quw3.heap.size, 2, none⟩ (.int .i64 t1)).setCell ⟨quw3.heap.size, 3, none⟩ (.int .i64 u1)).cell? ⟨w.heap.size, 0, none⟩ = some (.int .i64 n1) := far4 qne0 a0
              have a1 : ((((qgw.setCell ⟨quw3.heap.size, 0, none⟩ (.int .i64 n1)).setCell ⟨quw3.heap.size, 1, none⟩ (.int .i64 d1)).setCell ⟨quw3.heap.size, 2, none⟩ (.int .i64 t1)).setCell ⟨quw3.heap.size, 3, none⟩ (.int .i64 u1)).cell? ⟨w.heap.size, 1, none⟩ = some (.int .i64 d1) := far4 qne0 a1
              have a2 : ((((qgw.setCell ⟨quw3.heap.size, 0, none⟩ (.int .i64 n1)).setCell ⟨quw3.heap.size, 1, none⟩ (.int .i64 d1)).setCell ⟨quw3.heap.size, 2, none⟩ (.int .i64 t1)).setCell ⟨quw3.heap.size, 3, none⟩ (.int .i64 u1)).cell? ⟨w.heap.size, 2, none⟩ = some (.int .i64 t1) := far4 qne0 a2
              have a3 : ((((qgw.setCell ⟨quw3.heap.size, 0, none⟩ (.int .i64 n1)).setCell ⟨quw3.heap.size, 1, none⟩ (.int .i64 d1)).setCell ⟨quw3.heap.size, 2, none⟩ (.int .i64 t1)).setCell ⟨quw3.heap.size, 3, none⟩ (.int .i64 u1)).cell? ⟨w.heap.size, 3, none⟩ = some (.int .i64 u1) := far4 qne0 a3
              have b0 : ((((qgw.setCell ⟨quw3.heap.size, 0, none⟩ (.int .i64 n1)).setCell ⟨quw3.heap.size, 1, none⟩ (.int .i64 d1)).setCell ⟨quw3.heap.size, 2, none⟩ (.int .i64 t1)).setCell ⟨quw3.heap.size, 3, none⟩ (.int .i64 u1)).cell? ⟨w.heap.size + 1, 0, none⟩ = some (.int .i64 n2) := far4 qne1 b0
              have b1 : ((((qgw.setCell ⟨quw3.heap.size, 0, none⟩ (.int .i64 n1)).setCell ⟨quw3.heap.size, 1, none⟩ (.int .i64 d1)).setCell ⟨quw3.heap.size, 2, none⟩ (.int .i64 t1)).setCell ⟨quw3.heap.size, 3, none⟩ (.int .i64 u1)).cell? ⟨w.heap.size + 1, 1, none⟩ = some (.int .i64 d2) := far4 qne1 b1
              have b2 : ((((qgw.setCell ⟨quw3.heap.size, 0, none⟩ (.int .i64 n1)).setCell ⟨quw3.heap.size, 1, none⟩ (.int .i64 d1)).setCell ⟨quw3.heap.size, 2, none⟩ (.int .i64 t1)).setCell ⟨quw3.heap.size, 3, none⟩ (.int .i64 u1)).cell? ⟨w.heap.size + 1, 2, none⟩ = some (.int .i64 t2) := far4 qne1 b2
              have b3 : ((((qgw.setCell ⟨quw3.heap.size, 0, none⟩ (.int .i64 n1)).setCell ⟨quw3.heap.size, 1, none⟩ (.int .i64 d1)).setCell ⟨quw3.heap.size, 2, none⟩ (.int .i64 t1)).setCell ⟨quw3.heap.size, 3, none⟩ (.int .i64 u1)).cell? ⟨w.heap.size + 1, 3, none⟩ = some (.int .i64 u2) := far4 qne1 b3
              have s0 : ((((qgw.setCell ⟨quw3.heap.size, 0, none⟩ (.int .i64 n1)).setCell ⟨quw3.heap.size, 1, none⟩ (.int .i64 d1)).setCell ⟨quw3.heap.size, 2, none⟩ (.int .i64 t1)).setCell ⟨quw3.heap.size, 3, none⟩ (.int .i64 u1)).cell? ⟨uw4.heap.size, 0, none⟩ = some (.int .i64 x) := far4 qne2 s0
              have s1 : ((((qgw.setCell ⟨quw3.heap.size, 0, none⟩ (.int .i64 n1)).setCell ⟨quw3.heap.size, 1, none⟩ (.int .i64 d1)).setCell ⟨quw3.heap.size, 2, none⟩ (.int .i64 t1)).setCell ⟨quw3.heap.size, 3, none⟩ (.int .i64 u1)).cell? ⟨uw4.heap.size, 1, none⟩ = some (.int .i64 y) := far4 qne2 s1
              have s2 : ((((qgw.setCell ⟨quw3.heap.size, 0, none⟩ (.int .i64 n1)).setCell ⟨quw3.heap.size, 1, none⟩ (.int .i64 d1)).setCell ⟨quw3.heap.size, 2, none⟩ (.int .i64 t1)).setCell ⟨quw3.heap.size, 3, none⟩ (.int .i64 u1)).cell? ⟨uw4.heap.size, 2, none⟩ = some (.int .i64 z) := far4 qne2 s2
              have s3 : ((((qgw.setCell ⟨quw3.heap.size, 0, none⟩ (.int .i64 n1)).setCell ⟨quw3.heap.size, 1, none⟩ (.int .i64 d1)).setCell ⟨quw3.heap.size, 2, none⟩ (.int .i64 t1)).setCell ⟨quw3.heap.size, 3, none⟩ (.int .i64 u1)).cell? ⟨uw4.heap.size, 3, none⟩ = some (.int .i64 s) := far4 qne2 s3
              have hst := st4 (x := .int .i64 n1) (y := .int .i64 d1) (z := .int .i64 t1) (t := .int .i64 u1) qm0 qm1 qm2 qm3
              obtain ⟨qs0, qs1, qs2, qs3⟩ := hst
              have KqS : Below w.heap.size w ((((qgw.setCell ⟨quw3.heap.size, 0, none⟩ (.int .i64 n1)).setCell ⟨quw3.heap.size, 1, none⟩ (.int .i64 d1)).setCell ⟨quw3.heap.size, 2, none⟩ (.int .i64 t1)).setCell ⟨quw3.heap.size, 3, none⟩ (.int .i64 u1)) := (Below.setCell (Below.setCell (Below.setCell (Below.setCell K8 (by dsimp only; omega) _) (by dsimp only; omega) _) (by dsimp only; omega) _) (by dsimp only; omega) _)
              have qlm : quw3.heap.size < ((((qgw.setCell ⟨quw3.heap.size, 0, none⟩ (.int .i64 n1)).setCell ⟨quw3.heap.size, 1, none⟩ (.int .i64 d1)).setCell ⟨quw3.heap.size, 2, none⟩ (.int .i64 t1)).setCell ⟨quw3.heap.size, 3, none⟩ (.int .i64 u1)).heap.size := World.block_lt_of_cell? _ _ qs0
              have qlo0 : w.heap.size < ((((qgw.setCell ⟨quw3.heap.size, 0, none⟩ (.int .i64 n1)).setCell ⟨quw3.heap.size, 1, none⟩ (.int .i64 d1)).setCell ⟨quw3.heap.size, 2, none⟩ (.int .i64 t1)).setCell ⟨quw3.heap.size, 3, none⟩ (.int .i64 u1)).heap.size := by simp; omega
              have qlo1 : w.heap.size + 1 < ((((qgw.setCell ⟨quw3.heap.size, 0, none⟩ (.int .i64 n1)).setCell ⟨quw3.heap.size, 1, none⟩ (.int .i64 d1)).setCell ⟨quw3.heap.size, 2, none⟩ (.int .i64 t1)).setCell ⟨quw3.heap.size, 3, none⟩ (.int .i64 u1)).heap.size := by simp; omega
              have qlo2 : uw4.heap.size < ((((qgw.setCell ⟨quw3.heap.size, 0, none⟩ (.int .i64 n1)).setCell ⟨quw3.heap.size, 1, none⟩ (.int .i64 d1)).setCell ⟨quw3.heap.size, 2, none⟩ (.int .i64 t1)).setCell ⟨quw3.heap.size, 3, none⟩ (.int .i64 u1)).heap.size := by simp; omega
              clear K8 qm0 qfm0 qm1 qfm1 qm2 qfm2 qm3 qfm3
              generalize ((((qgw.setCell ⟨quw3.heap.size, 0, none⟩ (.int .i64 n1)).setCell ⟨quw3.heap.size, 1, none⟩ (.int .i64 d1)).setCell ⟨quw3.heap.size, 2, none⟩ (.int .i64 t1)).setCell ⟨quw3.heap.size, 3, none⟩ (.int .i64 u1)) = qgs at *
              go_wp2_with (first | (go_at_call 9; (with_reducible refine (SM.out _).mono ?_); rintro e w7 ⟨rfl, hb7⟩; have hc7 := (bcell hb7).1; have hf7 := (bcell hb7).2; have z7_0 : w.heap.size < w7.heap.size := (by have hzz := hb7.size; (try simp at hzz); omega); have z7_1 : w.heap.size + 1 < w7.heap.size := (by have hzz := hb7.size; (try simp at hzz); omega); have z7_2 : uw4.heap.size < w7.heap.size := (by have hzz := hb7.size; (try simp at hzz); omega); have z7_3 : quw3.heap.size < w7.heap.size := (by have hzz := hb7.size; (try simp at hzz); omega); have K7 : Below w.heap.size w w7 := Below.trans (b := _) (by (repeat' (first | (with_reducible exact Below.refl _ _) | (with_reducible exact KqS) | (with_reducible exact KqS.size) | (with_reducible refine Below.alloc ?_ ?_ _) | (with_reducible refine Below.setCell ?_ ?_ _) | (with_reducible refine below_drewN ?_ _) | (simp; done) | omega | (simp; omega)))) (hb7.mono (by have hzz := hb7.size; (try simp at hzz); first | omega | (simp; done) | (simp; omega)))) | (go_at_call 10; (with_reducible refine (AL.out _).mono ?_); rintro e w8 ⟨rfl, hb8⟩; have hc8 := (bcell hb8).1; have hf8 := (bcell hb8).2; have K8 : Below w.heap.size w w8 := Below.trans (b := _) (by (repeat' (first | (with_reducible exact Below.refl _ _) | (with_reducible exact KqS) | (with_reducible exact KqS.size) | (with_reducible exact K7) | (with_reducible exact K7.size) | (with_reducible refine Below.alloc ?_ ?_ _) | (with_reducible refine Below.setCell ?_ ?_ _) | (with_reducible refine below_drewN ?_ _) | (simp; done) | omega | (simp; omega)))) (hb8.mono (by have hzz := hb8.size; (try simp at hzz); first | omega | (simp; done) | (simp; omega)))))
              go_ret
              exact ⟨rfl, K8⟩
            · rw [if_pos (by kernel_rfl)]
              go_simp
              have hNew := qHS.out _ _ hHeld ((Below.refl _ _).alloc (Nat.le_refl _) (Obj.cells #[Value.int .i64 0, Value.int .i64 0, Value.int .i64 0, Value.int .i64 0] 26))
              refine hK.out _ _ hNew (fun _ => ?_)
              replace hHeld := hNew
              clear hNew
              clear hK KK
              refine Rk.one (i := 3) (by kernel_rfl) rfl (fun KK hK => ?_)
              rw [if_pos (by kernel_rfl)]
              go_simp
              (refine (AP2.out _).mono ?_; rintro e quw3 ⟨rfl, hb⟩)
              have hNew := qHS.out _ _ hHeld hb
              have hs_quw3 : gs.heap.size ≤ quw3.heap.size := by have hzz := hb.size; (try simp at hzz); omega
              have qm0 : quw3.cell? ⟨quw2.heap.size, 0, none⟩ = some (.int .i64 0) := Rg.keep hb (by simp) (by go_cell)
              have qfm0 : quw3.frozen? ⟨quw2.heap.size, 0, none⟩ = false := Rg.keepF hb (by simp) (by show (quw2.alloc (Obj.cells #[Value.int .i64 0, Value.int .i64 0, Value.int .i64 0, Value.int .i64 0] 26)).frozen? ⟨quw2.heap.size, 0, none⟩ = false; simp only [frozen?_alloc_cells]; exact Rg.notFrozen (Nat.le_refl _))
              have qm1 : quw3.cell? ⟨quw2.heap.size, 1, none⟩ = some (.int .i64 0) := Rg.keep hb (by simp) (by go_cell)
              have qfm1 : quw3.frozen? ⟨quw2.heap.size, 1, none⟩ = false := Rg.keepF hb (by simp) (by show (quw2.alloc (Obj.cells #[Value.int .i64 0, Value.int .i64 0, Value.int .i64 0, Value.int .i64 0] 26)).frozen? ⟨quw2.heap.size, 1, none⟩ = false; simp only [frozen?_alloc_cells]; exact Rg.notFrozen (Nat.le_refl _))
              have qm2 : quw3.cell? ⟨quw2.heap.size, 2, none⟩ = some (.int .i64 0) := Rg.keep hb (by simp) (by go_cell)
              have qfm2 : quw3.frozen? ⟨quw2.heap.size, 2, none⟩ = false := Rg.keepF hb (by simp) (by show (quw2.alloc (Obj.cells #[Value.int .i64 0, Value.int .i64 0, Value.int .i64 0, Value.int .i64 0] 26)).frozen? ⟨quw2.heap.size, 2, none⟩ = false; simp only [frozen?_alloc_cells]; exact Rg.notFrozen (Nat.le_refl _))
              have qm3 : quw3.cell? ⟨quw2.heap.size, 3, none⟩ = some (.int .i64 0) := Rg.keep hb (by simp) (by go_cell)
              have qfm3 : quw3.frozen? ⟨quw2.heap.size, 3, none⟩ = false := Rg.keepF hb (by simp) (by show (quw2.alloc (Obj.cells #[Value.int .i64 0, Value.int .i64 0, Value.int .i64 0, Value.int .i64 0] 26)).frozen? ⟨quw2.heap.size, 3, none⟩ = false; simp only [frozen?_alloc_cells]; exact Rg.notFrozen (Nat.le_refl _))
              first | (refine hK.out _ _ (fun _ => hNew) (fun _ => ?_)) | (refine hK.out _ _ hNew (fun _ => ?_)) | (go_wp2_with fail; refine hK.out _ _ hNew (fun _ => ?_))
              replace hHeld := hNew
              clear hNew hb
              clear hK KK
              refine Rk.takeP (i := 4) (v := ?_) rfl (by kernel_rfl) (by kernel_rfl) (by kernel_rfl) (by kernel_rfl) (fun _ _ _ h => h) (Or.inl ⟨by kernel_rfl, ?_⟩) (by assumption) ?_
              rotate_left
              · ((intro w hSw; go_simp) <;> with_reducible rfl)
              try simp only [Act.put, List.setIfInBounds_toArray, List.set_cons_zero, List.set_cons_succ]
              refine Rk.takeP (i := 5) (v := ?_) rfl (by kernel_rfl) (by kernel_rfl) (by kernel_rfl) (by kernel_rfl) (fun _ _ _ h => h) (Or.inl ⟨by kernel_rfl, ?_⟩) (by assumption) ?_
              rotate_left
              · ((intro w hSw; go_simp) <;> with_reducible rfl)
              try simp only [Act.put, List.setIfInBounds_toArray, List.set_cons_zero, List.set_cons_succ]
              refine Rk.takeP (i := 6) (v := ?_) rfl (by kernel_rfl) (by kernel_rfl) (by kernel_rfl) (by kernel_rfl) (fun _ _ _ h => h) (Or.inl ⟨by kernel_rfl, ?_⟩) (by assumption) ?_
              rotate_left
              · ((intro w hSw; go_simp) <;> with_reducible rfl)
              try simp only [Act.put, List.setIfInBounds_toArray, List.set_cons_zero, List.set_cons_succ]
              refine Rk.tail [8, 9] [_, _] (by kernel_rfl) (by kernel_rfl) rfl (by decide) ?_
              obtain ⟨a0, a1, a2, a3, b0, b1, b2, b3, s0, s1, s2, s3, K8⟩ := hHeld
              have qlm : quw2.heap.size < quw3.heap.size := World.block_lt_of_cell? _ _ qm0
              have qlw : w.heap.size ≤ quw2.heap.size := by omega
              have qne0 : quw2.heap.size ≠ w.heap.size := by omega
              have qne1 : quw2.heap.size ≠ w.heap.size + 1 := by omega
              have qne2 : quw2.heap.size ≠ uw4.heap.size := by omega
              have qlo0 : w.heap.size < quw3.heap.size := by omega
              have qlo1 : w.heap.size + 1 < quw3.heap.size := by omega
              have qlo2 : uw4.heap.size < quw3.heap.size := by omega
              go_wp2_with fail
              have a0 : ((((quw3.setCell ⟨quw2.heap.size, 0, none⟩ (.int .i64 n1)).setCell ⟨quw2.heap.size, 1, none⟩ (.int .i64 d1)).setCell ⟨quw2.heap.size, 2, none⟩ (.int .i64 t1)).setCell ⟨quw2.heap.size, 3, none⟩ (.int .i64 u1)).cell? ⟨w.heap.size, 0, none⟩ = some (.int .i64 n1) := far4 qne0 a0
              have a1 : ((((quw3.setCell ⟨quw2.heap.size, 0, none⟩ (.int .i64 n1)).setCell ⟨quw2.heap.size, 1, none⟩ (.int .i64 d1)).setCell ⟨quw2.heap.size, 2, none⟩ (.int .i64 t1)).setCell ⟨quw2.heap.size, 3, none⟩ (.int .i64 u1)).cell? ⟨w.heap.size, 1, none⟩ = some (.int .i64 d1) := far4 qne0 a1
              have a2 : ((((quw3.setCell ⟨quw2.heap.size, 0, none⟩ (.int .i64 n1)).setCell ⟨quw2.heap.size, 1, none⟩ (.int .i64 d1)).setCell ⟨quw2.heap.size, 2, none⟩ (.int .i64 t1)).setCell ⟨quw2.heap.size, 3, none⟩ (.int .i64 u1)).cell? ⟨w.heap.size, 2, none⟩ = some (.int .i64 t1) := far4 qne0 a2
              have a3 : ((((quw3.setCell ⟨quw2.heap.size, 0, none⟩ (.int .i64 n1)).setCell ⟨quw2.heap.size, 1, none⟩ (.int .i64 d1)).setCell ⟨quw2.heap.size, 2, none⟩ (.int .i64 t1)).setCell ⟨quw2.heap.size, 3, none⟩ (.int .i64 u1)).cell? ⟨w.heap.size, 3, none⟩ = some (.int .i64 u1) := far4 qne0 a3
              have b0 : ((((quw3.setCell ⟨quw2.heap.size, 0, none⟩ (.int .i64 n1)).setCell ⟨quw2.heap.size, 1, none⟩ (.int .i64 d1)).setCell ⟨quw2.heap.size, 2, none⟩ (.int .i64 t1)).setCell ⟨quw2.heap.size, 3, none⟩ (.int .i64 u1)).cell? ⟨w.heap.size + 1, 0, none⟩ = some (.int .i64 n2) := far4 qne1 b0
              have b1 : ((((quw3.setCell ⟨quw2.heap.size, 0, none⟩ (.int .i64 n1)).setCell ⟨quw2.heap.size, 1, none⟩ (.int .i64 d1)).setCell ⟨quw2.heap.size, 2, none⟩ (.int .i64 t1)).setCell ⟨quw2.heap.size, 3, none⟩ (.int .i64 u1)).cell? ⟨w.heap.size + 1, 1, none⟩ = some (.int .i64 d2) := far4 qne1 b1
              have b2 : ((((quw3.setCell ⟨quw2.heap.size, 0, none⟩ (.int .i64 n1)).setCell ⟨quw2.heap.size, 1, none⟩ (.int .i64 d1)).setCell ⟨quw2.heap.size, 2, none⟩ (.int .i64 t1)).setCell ⟨quw2.heap.size, 3, none⟩ (.int .i64 u1)).cell? ⟨w.heap.size + 1, 2, none⟩ = some (.int .i64 t2) := far4 qne1 b2
              have b3 : ((((quw3.setCell ⟨quw2.heap.size, 0, none⟩ (.int .i64 n1)).setCell ⟨quw2.heap.size, 1, none⟩ (.int .i64 d1)).setCell ⟨quw2.heap.size, 2, none⟩ (.int .i64 t1)).setCell ⟨quw2.heap.size, 3, none⟩ (.int .i64 u1)).cell? ⟨w.heap.size + 1, 3, none⟩ = some (.int .i64 u2) := far4 qne1 b3
              have s0 : ((((quw3.setCell ⟨quw2.heap.size, 0, none⟩ (.int .i64 n1)).setCell ⟨quw2.heap.size, 1, none⟩ (.int .i64 d1)).setCell ⟨quw2.heap.size, 2, none⟩ (.int .i64 t1)).setCell ⟨quw2.heap.size, 3, none⟩ (.int .i64 u1)).cell? ⟨uw4.heap.size, 0, none⟩ = some (.int .i64 x) := far4 qne2 s0
              have s1 : ((((quw3.setCell ⟨quw2.heap.size, 0, none⟩ (.int .i64 n1)).setCell ⟨quw2.heap.size, 1, none⟩ (.int .i64 d1)).setCell ⟨quw2.heap.size, 2, none⟩ (.int .i64 t1)).setCell ⟨quw2.heap.size, 3, none⟩ (.int .i64 u1)).cell? ⟨uw4.heap.size, 1, none⟩ = some (.int .i64 y) := far4 qne2 s1
              have s2 : ((((quw3.setCell ⟨quw2.heap.size, 0, none⟩ (.int .i64 n1)).setCell ⟨quw2.heap.size, 1, none⟩ (.int .i64 d1)).setCell ⟨quw2.heap.size, 2, none⟩ (.int .i64 t1)).setCell ⟨quw2.heap.size, 3, none⟩ (.int .i64 u1)).cell? ⟨uw4.heap.size, 2, none⟩ = some (.int .i64 z) := far4 qne2 s2
              have s3 : ((((quw3.setCell ⟨quw2.heap.size, 0, none⟩ (.int .i64 n1)).setCell ⟨quw2.heap.size, 1, none⟩ (.int .i64 d1)).setCell ⟨quw2.heap.size, 2, none⟩ (.int .i64 t1)).setCell ⟨quw2.heap.size, 3, none⟩ (.int .i64 u1)).cell? ⟨uw4.heap.size, 3, none⟩ = some (.int .i64 s) := far4 qne2 s3
              have hst := st4 (x := .int .i64 n1) (y := .int .i64 d1) (z := .int .i64 t1) (t := .int .i64 u1) qm0 qm1 qm2 qm3
              obtain ⟨qs0, qs1, qs2, qs3⟩ := hst
              have KqS : Below w.heap.size w ((((quw3.setCell ⟨quw2.heap.size, 0, none⟩ (.int .i64 n1)).setCell ⟨quw2.heap.size, 1, none⟩ (.int .i64 d1)).setCell ⟨quw2.heap.size, 2, none⟩ (.int .i64 t1)).setCell ⟨quw2.heap.size, 3, none⟩ (.int .i64 u1)) := (Below.setCell (Below.setCell (Below.setCell (Below.setCell K8 (by dsimp only; omega) _) (by dsimp only; omega) _) (by dsimp only; omega) _) (by dsimp only; omega) _)
              have qlm : quw2.heap.size < ((((quw3.setCell ⟨quw2.heap.size, 0, none⟩ (.int .i64 n1)).setCell ⟨quw2.heap.size, 1, none⟩ (.int .i64 d1)).setCell ⟨quw2.heap.size, 2, none⟩ (.int .i64 t1)).setCell ⟨quw2.heap.size, 3, none⟩ (.int .i64 u1)).heap.size := World.block_lt_of_cell? _ _ qs0
              have qlo0 : w.heap.size < ((((quw3.setCell ⟨quw2.heap.size, 0, none⟩ (.int .i64 n1)).setCell ⟨quw2.heap.size, 1, none⟩ (.int .i64 d1)).setCell ⟨quw2.heap.size, 2, none⟩ (.int .i64 t1)).setCell ⟨quw2.heap.size, 3, none⟩ (.int .i64 u1)).heap.size := by simp; omega
              have qlo1 : w.heap.size + 1 < ((((quw3.setCell ⟨quw2.heap.size, 0, none⟩ (.int .i64 n1)).setCell ⟨quw2.heap.size, 1, none⟩ (.int .i64 d1)).setCell ⟨quw2.heap.size, 2, none⟩ (.int .i64 t1)).setCell ⟨quw2.heap.size, 3, none⟩ (.int .i64 u1)).heap.size := by simp; omega
              have qlo2 : uw4.heap.size < ((((quw3.setCell ⟨quw2.heap.size, 0, none⟩ (.int .i64 n1)).setCell ⟨quw2.heap.size, 1, none⟩ (.int .i64 d1)).setCell ⟨quw2.heap.size, 2, none⟩ (.int .i64 t1)).setCell ⟨quw2.heap.size, 3, none⟩ (.int .i64 u1)).heap.size := by simp; omega
              clear K8 qm0 qfm0 qm1 qfm1 qm2 qfm2 qm3 qfm3
              generalize ((((quw3.setCell ⟨quw2.heap.size, 0, none⟩ (.int .i64 n1)).setCell ⟨quw2.heap.size, 1, none⟩ (.int .i64 d1)).setCell ⟨quw2.heap.size, 2, none⟩ (.int .i64 t1)).setCell ⟨quw2.heap.size, 3, none⟩ (.int .i64 u1)) = qgs at *
              go_wp2_with (first | (go_at_call 9; (with_reducible refine (SM.out _).mono ?_); rintro e w7 ⟨rfl, hb7⟩; have hc7 := (bcell hb7).1; have hf7 := (bcell hb7).2; have z7_0 : w.heap.size < w7.heap.size := (by have hzz := hb7.size; (try simp at hzz); omega); have z7_1 : w.heap.size + 1 < w7.heap.size := (by have hzz := hb7.size; (try simp at hzz); omega); have z7_2 : uw4.heap.size < w7.heap.size := (by have hzz := hb7.size; (try simp at hzz); omega); have z7_3 : quw2.heap.size < w7.heap.size := (by have hzz := hb7.size; (try simp at hzz); omega); have K7 : Below w.heap.size w w7 := Below.trans (b := _) (by (repeat' (first | (with_reducible exact Below.refl _ _) | (with_reducible exact KqS) | (with_reducible exact KqS.size) | (with_reducible refine Below.alloc ?_ ?_ _) | (with_reducible refine Below.setCell ?_ ?_ _) | (with_reducible refine below_drewN ?_ _) | (simp; done) | omega | (simp; omega)))) (hb7.mono (by have hzz := hb7.size; (try simp at hzz); first | omega | (simp; done) | (simp; omega)))) | (go_at_call 10; (with_reducible refine (AL.out _).mono ?_); rintro e w8 ⟨rfl, hb8⟩; have hc8 := (bcell hb8).1; have hf8 := (bcell hb8).2; have K8 : Below w.heap.size w w8 := Below.trans (b := _) (by (repeat' (first | (with_reducible exact Below.refl _ _) | (with_reducible exact KqS) | (with_reducible exact KqS.size) | (with_reducible exact K7) | (with_reducible exact K7.size) | (with_reducible refine Below.alloc ?_ ?_ _) | (with_reducible refine Below.setCell ?_ ?_ _) | (with_reducible refine below_drewN ?_ _) | (simp; done) | omega | (simp; omega)))) (hb8.mono (by have hzz := hb8.size; (try simp at hzz); first | omega | (simp; done) | (simp; omega)))))
              go_ret
              exact ⟨rfl, K8⟩
          · rw [if_pos (by kernel_rfl)]
            go_simp
            have hNew := qHS.out _ _ hHeld ((Below.refl _ _).alloc (Nat.le_refl _) (Obj.cells #[Value.int .i64 0, Value.int .i64 0, Value.int .i64 0, Value.int .i64 0] 26))
            refine hK.out _ _ hNew (fun _ => ?_)
            replace hHeld := hNew
            clear hNew
            clear hK KK
            refine Rk.one (i := 2) (by kernel_rfl) rfl (fun KK hK => ?_)
            rw [if_pos (by kernel_rfl)]
            go_simp
            (refine (IN2.out _).mono ?_; rintro e quw2 ⟨rfl, hb⟩)
            have hNew := qHS.out _ _ hHeld hb
            have hs_quw2 : gs.heap.size ≤ quw2.heap.size := by have hzz := hb.size; (try simp at hzz); omega
            have qm0 : quw2.cell? ⟨gs.heap.size, 0, none⟩ = some (.int .i64 0) := Rg.keep hb (by simp) (by go_cell)
            have qfm0 : quw2.frozen? ⟨gs.heap.size, 0, none⟩ = false := Rg.keepF hb (by simp) (by show (gs.drew.alloc (Obj.cells #[Value.int .i64 0, Value.int .i64 0, Value.int .i64 0, Value.int .i64 0] 26)).frozen? ⟨gs.drew.heap.size, 0, none⟩ = false; simp only [frozen?_alloc_cells]; exact Rg.notFrozen (Nat.le_refl _))
            have qm1 : quw2.cell? ⟨gs.heap.size, 1, none⟩ = some (.int .i64 0) := Rg.keep hb (by simp) (by go_cell)
            have qfm1 : quw2.frozen? ⟨gs.heap.size, 1, none⟩ = false := Rg.keepF hb (by simp) (by show (gs.drew.alloc (Obj.cells #[Value.int .i64 0, Value.int .i64 0, Value.int .i64 0, Value.int .i64 0] 26)).frozen? ⟨gs.drew.heap.size, 1, none⟩ = false; simp only [frozen?_alloc_cells]; exact Rg.notFrozen (Nat.le_refl _))
            have qm2 : quw2.cell? ⟨gs.heap.size, 2, none⟩ = some (.int .i64 0) := Rg.keep hb (by simp) (by go_cell)
            have qfm2 : quw2.frozen? ⟨gs.heap.size, 2, none⟩ = false := Rg.keepF hb (by simp) (by show (gs.drew.alloc (Obj.cells #[Value.int .i64 0, Value.int .i64 0, Value.int .i64 0, Value.int .i64 0] 26)).frozen? ⟨gs.drew.heap.size, 2, none⟩ = false; simp only [frozen?_alloc_cells]; exact Rg.notFrozen (Nat.le_refl _))
            have qm3 : quw2.cell? ⟨gs.heap.size, 3, none⟩ = some (.int .i64 0) := Rg.keep hb (by simp) (by go_cell)
            have qfm3 : quw2.frozen? ⟨gs.heap.size, 3, none⟩ = false := Rg.keepF hb (by simp) (by show (gs.drew.alloc (Obj.cells #[Value.int .i64 0, Value.int .i64 0, Value.int .i64 0, Value.int .i64 0] 26)).frozen? ⟨gs.drew.heap.size, 3, none⟩ = false; simp only [frozen?_alloc_cells]; exact Rg.notFrozen (Nat.le_refl _))
            first | (refine hK.out _ _ (fun _ => hNew) (fun _ => ?_)) | (refine hK.out _ _ hNew (fun _ => ?_)) | (go_wp2_with fail; refine hK.out _ _ hNew (fun _ => ?_))
            replace hHeld := hNew
            clear hNew hb
            clear hK KK
            refine Rk.one (i := 3) (by kernel_rfl) rfl (fun KK hK => ?_)
            rw [if_pos (by kernel_rfl)]
            go_simp
            (refine (AP2.out _).mono ?_; rintro e quw3 ⟨rfl, hb⟩)
            have hNew := qHS.out _ _ hHeld hb
            have hs_quw3 : gs.heap.size ≤ quw3.heap.size := by have hzz := hb.size; (try simp at hzz); omega
            have qlm : gs.heap.size < quw2.heap.size := World.block_lt_of_cell? _ _ qm0
            have qfm0 := Rg.keepF hb qlm qfm0
            have qfm1 := Rg.keepF hb qlm qfm1
            have qfm2 := Rg.keepF hb qlm qfm2
            have qfm3 := Rg.keepF hb qlm qfm3
            have qm0 := Rg.keep hb qlm qm0
            have qm1 := Rg.keep hb qlm qm1
            have qm2 := Rg.keep hb qlm qm2
            have qm3 := Rg.keep hb qlm qm3
            clear qlm
            first | (refine hK.out _ _ (fun _ => hNew) (fun _ => ?_)) | (refine hK.out _ _ hNew (fun _ => ?_)) | (go_wp2_with fail; refine hK.out _ _ hNew (fun _ => ?_))
            replace hHeld := hNew
            clear hNew hb
            clear hK KK
            refine Rk.takeP (i := 4) (v := ?_) rfl (by kernel_rfl) (by kernel_rfl) (by kernel_rfl) (by kernel_rfl) (fun _ _ _ h => h) (Or.inl ⟨by kernel_rfl, ?_⟩) (by assumption) ?_
            rotate_left
            · ((intro w hSw; go_simp) <;> with_reducible rfl)
            try simp only [Act.put, List.setIfInBounds_toArray, List.set_cons_zero, List.set_cons_succ]
            refine Rk.takeP (i := 5) (v := ?_) rfl (by kernel_rfl) (by kernel_rfl) (by kernel_rfl) (by kernel_rfl) (fun _ _ _ h => h) (Or.inl ⟨by kernel_rfl, ?_⟩) (by assumption) ?_
            rotate_left
            · ((intro w hSw; go_simp) <;> with_reducible rfl)
            try simp only [Act.put, List.setIfInBounds_toArray, List.set_cons_zero, List.set_cons_succ]
            refine Rk.takeP (i := 6) (v := ?_) rfl (by kernel_rfl) (by kernel_rfl) (by kernel_rfl) (by kernel_rfl) (fun _ _ _ h => h) (Or.inl ⟨by kernel_rfl, ?_⟩) (by assumption) ?_
            rotate_left
            · ((intro w hSw; go_simp) <;> with_reducible rfl)
            try simp only [Act.put, List.setIfInBounds_toArray, List.set_cons_zero, List.set_cons_succ]
            refine Rk.tail [8, 9] [_, _] (by kernel_rfl) (by kernel_rfl) rfl (by decide) ?_
            obtain ⟨a0, a1, a2, a3, b0, b1, b2, b3, s0, s1, s2, s3, K8⟩ := hHeld
            have qlm : gs.heap.size < quw3.heap.size := World.block_lt_of_cell? _ _ qm0
            have qlw : w.heap.size ≤ gs.heap.size := by omega
            have qne0 : gs.heap.size ≠ w.heap.size := by omega
            have qne1 : gs.heap.size ≠ w.heap.size + 1 := by omega
            have qne2 : gs.heap.size ≠ uw4.heap.size := by omega
            have qlo0 : w.heap.size < quw3.heap.size := by omega
            have qlo1 : w.heap.size + 1 < quw3.heap.size := by omega
            have qlo2 : uw4.heap.size < quw3.heap.size := by omega
            go_wp2_with fail
            have a0 : ((((quw3.setCell ⟨gs.heap.size, 0, none⟩ (.int .i64 n1)).setCell ⟨gs.heap.size, 1, none⟩ (.int .i64 d1)).setCell ⟨gs.heap.size, 2, none⟩ (.int .i64 t1)).setCell ⟨gs.heap.size, 3, none⟩ (.int .i64 u1)).cell? ⟨w.heap.size, 0, none⟩ = some (.int .i64 n1) := far4 qne0 a0
            have a1 : ((((quw3.setCell ⟨gs.heap.size, 0, none⟩ (.int .i64 n1)).setCell ⟨gs.heap.size, 1, none⟩ (.int .i64 d1)).setCell ⟨gs.heap.size, 2, none⟩ (.int .i64 t1)).setCell ⟨gs.heap.size, 3, none⟩ (.int .i64 u1)).cell? ⟨w.heap.size, 1, none⟩ = some (.int .i64 d1) := far4 qne0 a1
            have a2 : ((((quw3.setCell ⟨gs.heap.size, 0, none⟩ (.int .i64 n1)).setCell ⟨gs.heap.size, 1, none⟩ (.int .i64 d1)).setCell ⟨gs.heap.size, 2, none⟩ (.int .i64 t1)).setCell ⟨gs.heap.size, 3, none⟩ (.int .i64 u1)).cell? ⟨w.heap.size, 2, none⟩ = some (.int .i64 t1) := far4 qne0 a2
            have a3 : ((((quw3.setCell ⟨gs.heap.size, 0, none⟩ (.int .i64 n1)).setCell ⟨gs.heap.size, 1, none⟩ (.int .i64 d1)).setCell ⟨gs.heap.size, 2, none⟩ (.int .i64 t1)).setCell ⟨gs.heap.size, 3, none⟩ (.int .i64 u1)).cell? ⟨w.heap.size, 3, none⟩ = some (.int .i64 u1) := far4 qne0 a3
            have b0 : ((((quw3.setCell ⟨gs.heap.size, 0, none⟩ (.int .i64 n1)).setCell ⟨gs.heap.size, 1, none⟩ (.int .i64 d1)).setCell ⟨gs.heap.size, 2, none⟩ (.int .i64 t1)).setCell ⟨gs.heap.size, 3, none⟩ (.int .i64 u1)).cell? ⟨w.heap.size + 1, 0, none⟩ = some (.int .i64 n2) := far4 qne1 b0
            have b1 : ((((quw3.setCell ⟨gs.heap.size, 0, none⟩ (.int .i64 n1)).setCell ⟨gs.heap.size, 1, none⟩ (.int .i64 d1)).setCell ⟨gs.heap.size, 2, none⟩ (.int .i64 t1)).setCell ⟨gs.heap.size, 3, none⟩ (.int .i64 u1)).cell? ⟨w.heap.size + 1, 1, none⟩ = some (.int .i64 d2) := far4 qne1 b1
            have b2 : ((((quw3.setCell ⟨gs.heap.size, 0, none⟩ (.int .i64 n1)).setCell ⟨gs.heap.size, 1, none⟩ (.int .i64 d1)).setCell ⟨gs.heap.size, 2, none⟩ (.int .i64 t1)).setCell ⟨gs.heap.size, 3, none⟩ (.int .i64 u1)).cell? ⟨w.heap.size + 1, 2, none⟩ = some (.int .i64 t2) := far4 qne1 b2
            have b3 : ((((quw3.setCell ⟨gs.heap.size, 0, none⟩ (.int .i64 n1)).setCell ⟨gs.heap.size, 1, none⟩ (.int .i64 d1)).setCell ⟨gs.heap.size, 2, none⟩ (.int .i64 t1)).setCell ⟨gs.heap.size, 3, none⟩ (.int .i64 u1)).cell? ⟨w.heap.size + 1, 3, none⟩ = some (.int .i64 u2) := far4 qne1 b3
            have s0 : ((((quw3.setCell ⟨gs.heap.size, 0, none⟩ (.int .i64 n1)).setCell ⟨gs.heap.size, 1, none⟩ (.int .i64 d1)).setCell ⟨gs.heap.size, 2, none⟩ (.int .i64 t1)).setCell ⟨gs.heap.size, 3, none⟩ (.int .i64 u1)).cell? ⟨uw4.heap.size, 0, none⟩ = some (.int .i64 x) := far4 qne2 s0
            have s1 : ((((quw3.setCell ⟨gs.heap.size, 0, none⟩ (.int .i64 n1)).setCell ⟨gs.heap.size, 1, none⟩ (.int .i64 d1)).setCell ⟨gs.heap.size, 2, none⟩ (.int .i64 t1)).setCell ⟨gs.heap.size, 3, none⟩ (.int .i64 u1)).cell? ⟨uw4.heap.size, 1, none⟩ = some (.int .i64 y) := far4 qne2 s1
            have s2 : ((((quw3.setCell ⟨gs.heap.size, 0, none⟩ (.int .i64 n1)).setCell ⟨gs.heap.size, 1, none⟩ (.int .i64 d1)).setCell ⟨gs.heap.size, 2, none⟩ (.int .i64 t1)).setCell ⟨gs.heap.size, 3, none⟩ (.int .i64 u1)).cell? ⟨uw4.heap.size, 2, none⟩ = some (.int .i64 z) := far4 qne2 s2
            have s3 : ((((quw3.setCell ⟨gs.heap.size, 0, none⟩ (.int .i64 n1)).setCell ⟨gs.heap.size, 1, none⟩ (.int .i64 d1)).setCell ⟨gs.heap.size, 2, none⟩ (.int .i64 t1)).setCell ⟨gs.heap.size, 3, none⟩ (.int .i64 u1)).cell? ⟨uw4.heap.size, 3, none⟩ = some (.int .i64 s) := far4 qne2 s3
            have hst := st4 (x := .int .i64 n1) (y := .int .i64 d1) (z := .int .i64 t1) (t := .int .i64 u1) qm0 qm1 qm2 qm3
            obtain ⟨qs0, qs1, qs2, qs3⟩ := hst
            have KqS : Below w.heap.size w ((((quw3.setCell ⟨gs.heap.size, 0, none⟩ (.int .i64 n1)).setCell ⟨gs.heap.size, 1, none⟩ (.int .i64 d1)).setCell ⟨gs.heap.size, 2, none⟩ (.int .i64 t1)).setCell ⟨gs.heap.size, 3, none⟩ (.int .i64 u1)) := (Below.setCell (Below.setCell (Below.setCell (Below.setCell K8 (by dsimp only; omega) _) (by dsimp only; omega) _) (by dsimp only; omega) _) (by dsimp only; omega) _)
            have qlm : gs.heap.size < ((((quw3.setCell ⟨gs.heap.size, 0, none⟩ (.int .i64 n1)).setCell ⟨gs.heap.size, 1, none⟩ (.int .i64 d1)).setCell ⟨gs.heap.size, 2, none⟩ (.int .i64 t1)).setCell ⟨gs.heap.size, 3, none⟩ (.int .i64 u1)).heap.size := World.block_lt_of_cell? _ _ qs0
            have qlo0 : w.heap.size < ((((quw3.setCell ⟨gs.heap.size, 0, none⟩ (.int .i64 n1)).setCell ⟨gs.heap.size, 1, none⟩ (.int .i64 d1)).setCell ⟨gs.heap.size, 2, none⟩ (.int .i64 t1)).setCell ⟨gs.heap.size, 3, none⟩ (.int .i64 u1)).heap.size := by simp; omega
            have qlo1 : w.heap.size + 1 < ((((quw3.setCell ⟨gs.heap.size, 0, none⟩ (.int .i64 n1)).setCell ⟨gs.heap.size, 1, none⟩ (.int .i64 d1)).setCell ⟨gs.heap.size, 2, none⟩ (.int .i64 t1)).setCell ⟨gs.heap.size, 3, none⟩ (.int .i64 u1)).heap.size := by simp; omega
            have qlo2 : uw4.heap.size < ((((quw3.setCell ⟨gs.heap.size, 0, none⟩ (.int .i64 n1)).setCell ⟨gs.heap.size, 1, none⟩ (.int .i64 d1)).setCell ⟨gs.heap.size, 2, none⟩ (.int .i64 t1)).setCell ⟨gs.heap.size, 3, none⟩ (.int .i64 u1)).heap.size := by simp; omega
            clear K8 qm0 qfm0 qm1 qfm1 qm2 qfm2 qm3 qfm3
            generalize ((((quw3.setCell ⟨gs.heap.size, 0, none⟩ (.int .i64 n1)).setCell ⟨gs.heap.size, 1, none⟩ (.int .i64 d1)).setCell ⟨gs.heap.size, 2, none⟩ (.int .i64 t1)).setCell ⟨gs.heap.size, 3, none⟩ (.int .i64 u1)) = qgs at *
            go_wp2_with (first | (go_at_call 9; (with_reducible refine (SM.out _).mono ?_); rintro e w7 ⟨rfl, hb7⟩; have hc7 := (bcell hb7).1; have hf7 := (bcell hb7).2; have z7_0 : w.heap.size < w7.heap.size := (by have hzz := hb7.size; (try simp at hzz); omega); have z7_1 : w.heap.size + 1 < w7.heap.size := (by have hzz := hb7.size; (try simp at hzz); omega); have z7_2 : uw4.heap.size < w7.heap.size := (by have hzz := hb7.size; (try simp at hzz); omega); have z7_3 : gs.heap.size < w7.heap.size := (by have hzz := hb7.size; (try simp at hzz); omega); have K7 : Below w.heap.size w w7 := Below.trans (b := _) (by (repeat' (first | (with_reducible exact Below.refl _ _) | (with_reducible exact KqS) | (with_reducible exact KqS.size) | (with_reducible refine Below.alloc ?_ ?_ _) | (with_reducible refine Below.setCell ?_ ?_ _) | (with_reducible refine below_drewN ?_ _) | (simp; done) | omega | (simp; omega)))) (hb7.mono (by have hzz := hb7.size; (try simp at hzz); first | omega | (simp; done) | (simp; omega)))) | (go_at_call 10; (with_reducible refine (AL.out _).mono ?_); rintro e w8 ⟨rfl, hb8⟩; have hc8 := (bcell hb8).1; have hf8 := (bcell hb8).2; have K8 : Below w.heap.size w w8 := Below.trans (b := _) (by (repeat' (first | (with_reducible exact Below.refl _ _) | (with_reducible exact KqS) | (with_reducible exact KqS.size) | (with_reducible exact K7) | (with_reducible exact K7.size) | (with_reducible refine Below.alloc ?_ ?_ _) | (with_reducible refine Below.setCell ?_ ?_ _) | (with_reducible refine below_drewN ?_ _) | (simp; done) | omega | (simp; omega)))) (hb8.mono (by have hzz := hb8.size; (try simp at hzz); first | omega | (simp; done) | (simp; omega)))))
            go_ret
            exact ⟨rfl, K8⟩
        · have f1 : (e == 0) = false := by simpa using he
          have f2 : (e != 0) = true := by simpa using he
          clear he AP2
          go_wp2_with fail
          have a0 : ((((gw.setCell ⟨uw4.heap.size, 0, none⟩ (.int .i64 x)).setCell ⟨uw4.heap.size, 1, none⟩ (.int .i64 y)).setCell ⟨uw4.heap.size, 2, none⟩ (.int .i64 z)).setCell ⟨uw4.heap.size, 3, none⟩ (.int .i64 s)).cell? ⟨w.heap.size, 0, none⟩ = some (.int .i64 n1) := far4 ne0 a0
          have a1 : ((((gw.setCell ⟨uw4.heap.size, 0, none⟩ (.int .i64 x)).setCell ⟨uw4.heap.size, 1, none⟩ (.int .i64 y)).setCell ⟨uw4.heap.size, 2, none⟩ (.int .i64 z)).setCell ⟨uw4.heap.size, 3, none⟩ (.int .i64 s)).cell? ⟨w.heap.size, 1, none⟩ = some (.int .i64 d1) := far4 ne0 a1
          have a2 : ((((gw.setCell ⟨uw4.heap.size, 0, none⟩ (.int .i64 x)).setCell ⟨uw4.heap.size, 1, none⟩ (.int .i64 y)).setCell ⟨uw4.heap.size, 2, none⟩ (.int .i64 z)).setCell ⟨uw4.heap.size, 3, none⟩ (.int .i64 s)).cell? ⟨w.heap.size, 2, none⟩ = some (.int .i64 t1) := far4 ne0 a2
          have a3 : ((((gw.setCell ⟨uw4.heap.size, 0, none⟩ (.int .i64 x)).setCell ⟨uw4.heap.size, 1, none⟩ (.int .i64 y)).setCell ⟨uw4.heap.size, 2, none⟩ (.int .i64 z)).setCell ⟨uw4.heap.size, 3, none⟩ (.int .i64 s)).cell? ⟨w.heap.size, 3, none⟩ = some (.int .i64 u1) := far4 ne0 a3
          have b0 : ((((gw.setCell ⟨uw4.heap.size, 0, none⟩ (.int .i64 x)).setCell ⟨uw4.heap.size, 1, none⟩ (.int .i64 y)).setCell ⟨uw4.heap.size, 2, none⟩ (.int .i64 z)).setCell ⟨uw4.heap.size, 3, none⟩ (.int .i64 s)).cell? ⟨w.heap.size + 1, 0, none⟩ = some (.int .i64 n2) := far4 ne1 b0
          have b1 : ((((gw.setCell ⟨uw4.heap.size, 0, none⟩ (.int .i64 x)).setCell ⟨uw4.heap.size, 1, none⟩ (.int .i64 y)).setCell ⟨uw4.heap.size, 2, none⟩ (.int .i64 z)).setCell ⟨uw4.heap.size, 3, none⟩ (.int .i64 s)).cell? ⟨w.heap.size + 1, 1, none⟩ = some (.int .i64 d2) := far4 ne1 b1
          have b2 : ((((gw.setCell ⟨uw4.heap.size, 0, none⟩ (.int .i64 x)).setCell ⟨uw4.heap.size, 1, none⟩ (.int .i64 y)).setCell ⟨uw4.heap.size, 2, none⟩ (.int .i64 z)).setCell ⟨uw4.heap.size, 3, none⟩ (.int .i64 s)).cell? ⟨w.heap.size + 1, 2, none⟩ = some (.int .i64 t2) := far4 ne1 b2
          have b3 : ((((gw.setCell ⟨uw4.heap.size, 0, none⟩ (.int .i64 x)).setCell ⟨uw4.heap.size, 1, none⟩ (.int .i64 y)).setCell ⟨uw4.heap.size, 2, none⟩ (.int .i64 z)).setCell ⟨uw4.heap.size, 3, none⟩ (.int .i64 s)).cell? ⟨w.heap.size + 1, 3, none⟩ = some (.int .i64 u2) := far4 ne1 b3
          have hst := st4 (x := .int .i64 x) (y := .int .i64 y) (z := .int .i64 z) (t := .int .i64 s) m0 m1 m2 m3
          obtain ⟨s0, s1, s2, s3⟩ := hst
          have KS : Below w.heap.size w ((((gw.setCell ⟨uw4.heap.size, 0, none⟩ (.int .i64 x)).setCell ⟨uw4.heap.size, 1, none⟩ (.int .i64 y)).setCell ⟨uw4.heap.size, 2, none⟩ (.int .i64 z)).setCell ⟨uw4.heap.size, 3, none⟩ (.int .i64 s)) := (Below.setCell (Below.setCell (Below.setCell (Below.setCell K9 (by dsimp only; omega) _) (by dsimp only; omega) _) (by dsimp only; omega) _) (by dsimp only; omega) _)
          have lm : uw4.heap.size < ((((gw.setCell ⟨uw4.heap.size, 0, none⟩ (.int .i64 x)).setCell ⟨uw4.heap.size, 1, none⟩ (.int .i64 y)).setCell ⟨uw4.heap.size, 2, none⟩ (.int .i64 z)).setCell ⟨uw4.heap.size, 3, none⟩ (.int .i64 s)).heap.size := World.block_lt_of_cell? _ _ s0
          have lo0 : w.heap.size < ((((gw.setCell ⟨uw4.heap.size, 0, none⟩ (.int .i64 x)).setCell ⟨uw4.heap.size, 1, none⟩ (.int .i64 y)).setCell ⟨uw4.heap.size, 2, none⟩ (.int .i64 z)).setCell ⟨uw4.heap.size, 3, none⟩ (.int .i64 s)).heap.size := by simp; omega
          have lo1 : w.heap.size + 1 < ((((gw.setCell ⟨uw4.heap.size, 0, none⟩ (.int .i64 x)).setCell ⟨uw4.heap.size, 1, none⟩ (.int .i64 y)).setCell ⟨uw4.heap.size, 2, none⟩ (.int .i64 z)).setCell ⟨uw4.heap.size, 3, none⟩ (.int .i64 s)).heap.size := by simp; omega
          clear K9 m0 fm0 m1 fm1 m2 fm2 m3 fm3
          generalize ((((gw.setCell ⟨uw4.heap.size, 0, none⟩ (.int .i64 x)).setCell ⟨uw4.heap.size, 1, none⟩ (.int .i64 y)).setCell ⟨uw4.heap.size, 2, none⟩ (.int .i64 z)).setCell ⟨uw4.heap.size, 3, none⟩ (.int .i64 s)) = gs at *
          go_wp2_with (first | (go_at_call 8; (with_reducible refine (RA.out _).mono ?_); rintro e w5 ⟨rfl, hb5⟩; have hc5 := (bcell hb5).1; have hf5 := (bcell hb5).2; have z5_0 : w.heap.size < w5.heap.size := (by have hzz := hb5.size; (try simp at hzz); omega); have z5_1 : w.heap.size + 1 < w5.heap.size := (by have hzz := hb5.size; (try simp at hzz); omega); have z5_2 : uw4.heap.size < w5.heap.size := (by have hzz := hb5.size; (try simp at hzz); omega); have K5 : Below w.heap.size w w5 := Below.trans (b := _) (by (repeat' (first | (with_reducible exact Below.refl _ _) | (with_reducible exact KS) | (with_reducible exact KS.size) | (with_reducible refine Below.alloc ?_ ?_ _) | (with_reducible refine Below.setCell ?_ ?_ _) | (with_reducible refine below_drewN ?_ _) | (simp; done) | omega | (simp; omega)))) (hb5.mono (by have hzz := hb5.size; (try simp at hzz); first | omega | (simp; done) | (simp; omega)))) | (go_at_call 10; (with_reducible refine (AL.out _).mono ?_); rintro e w6 ⟨rfl, hb6⟩; have hc6 := (bcell hb6).1; have hf6 := (bcell hb6).2; have K6 : Below w.heap.size w w6 := Below.trans (b := _) (by (repeat' (first | (with_reducible exact Below.refl _ _) | (with_reducible exact KS) | (with_reducible exact KS.size) | (with_reducible exact K5) | (with_reducible exact K5.size) | (with_reducible refine Below.alloc ?_ ?_ _) | (with_reducible refine Below.setCell ?_ ?_ _) | (with_reducible refine below_drewN ?_ _) | (simp; done) | omega | (simp; omega)))) (hb6.mono (by have hzz := hb6.size; (try simp at hzz); first | omega | (simp; done) | (simp; omega)))))
          go_ret
          exact ⟨rfl, K6⟩
      · rw [if_pos (by kernel_rfl)]
        go_simp
        have hNew := HS.out _ _ hHeld ((Below.refl _ _).alloc (Nat.le_refl _) (Obj.cells #[Value.int .i64 0, Value.int .i64 0, Value.int .i64 0, Value.int .i64 0] 26))
        refine hK.out _ _ hNew (fun _ => ?_)
        replace hHeld := hNew
        clear hNew
        clear hK KK
        refine Rk.one (i := 4) (by kernel_rfl) rfl (fun KK hK => ?_)
        rw [if_pos (by kernel_rfl)]
        go_simp
        (refine (AP.out _).mono ?_; rintro e uw4 ⟨rfl, hb⟩)
        have hNew := HS.out _ _ hHeld hb
        have hs_uw4 : zw1.heap.size ≤ uw4.heap.size := by have hzz := hb.size; (try simp at hzz); omega
        have m0 : uw4.cell? ⟨uw3.heap.size, 0, none⟩ = some (.int .i64 0) := Rg.keep hb (by simp) (by go_cell)
        have fm0 : uw4.frozen? ⟨uw3.heap.size, 0, none⟩ = false := Rg.keepF hb (by simp) (by show (uw3.alloc (Obj.cells #[Value.int .i64 0, Value.int .i64 0, Value.int .i64 0, Value.int .i64 0] 26)).frozen? ⟨uw3.heap.size, 0, none⟩ = false; simp only [frozen?_alloc_cells]; exact Rg.notFrozen (Nat.le_refl _))
        have m1 : uw4.cell? ⟨uw3.heap.size, 1, none⟩ = some (.int .i64 0) := Rg.keep hb (by simp) (by go_cell)
        have fm1 : uw4.frozen? ⟨uw3.heap.size, 1, none⟩ = false := Rg.keepF hb (by simp) (by show (uw3.alloc (Obj.cells #[Value.int .i64 0, Value.int .i64 0, Value.int .i64 0, Value.int .i64 0] 26)).frozen? ⟨uw3.heap.size, 1, none⟩ = false; simp only [frozen?_alloc_cells]; exact Rg.notFrozen (Nat.le_refl _))
        have m2 : uw4.cell? ⟨uw3.heap.size, 2, none⟩ = some (.int .i64 0) := Rg.keep hb (by simp) (by go_cell)
        have fm2 : uw4.frozen? ⟨uw3.heap.size, 2, none⟩ = false := Rg.keepF hb (by simp) (by show (uw3.alloc (Obj.cells #[Value.int .i64 0, Value.int .i64 0, Value.int .i64 0, Value.int .i64 0] 26)).frozen? ⟨uw3.heap.size, 2, none⟩ = false; simp only [frozen?_alloc_cells]; exact Rg.notFrozen (Nat.le_refl _))
        have m3 : uw4.cell? ⟨uw3.heap.size, 3, none⟩ = some (.int .i64 0) := Rg.keep hb (by simp) (by go_cell)
        have fm3 : uw4.frozen? ⟨uw3.heap.size, 3, none⟩ = false := Rg.keepF hb (by simp) (by show (uw3.alloc (Obj.cells #[Value.int .i64 0, Value.int .i64 0, Value.int .i64 0, Value.int .i64 0] 26)).frozen? ⟨uw3.heap.size, 3, none⟩ = false; simp only [frozen?_alloc_cells]; exact Rg.notFrozen (Nat.le_refl _))
        first | (refine hK.out _ _ (fun _ => hNew) (fun _ => ?_)) | (refine hK.out _ _ hNew (fun _ => ?_)) | (go_wp2_with fail; refine hK.out _ _ hNew (fun _ => ?_))
        replace hHeld := hNew
        clear hNew hb
        clear hK KK
        refine Rk.takeP (i := 5) (v := ?_) rfl (by kernel_rfl) (by kernel_rfl) (by kernel_rfl) (by kernel_rfl) (fun _ _ _ h => h) (Or.inl ⟨by kernel_rfl, ?_⟩) (by assumption) ?_
        rotate_left
        · ((intro w hSw; go_simp) <;> with_reducible rfl)
        try simp only [Act.put, List.setIfInBounds_toArray, List.set_cons_zero, List.set_cons_succ]
        refine Rk.takeP (i := 6) (v := ?_) rfl (by kernel_rfl) (by kernel_rfl) (by kernel_rfl) (by kernel_rfl) (fun _ _ _ h => h) (Or.inl ⟨by kernel_rfl, ?_⟩) (by assumption) ?_
        rotate_left
        · ((intro w hSw; go_simp) <;> with_reducible rfl)
        try simp only [Act.put, List.setIfInBounds_toArray, List.set_cons_zero, List.set_cons_succ]
        refine Rk.takeP (i := 7) (v := ?_) rfl (by kernel_rfl) (by kernel_rfl) (by kernel_rfl) (by kernel_rfl) (fun _ _ _ h => h) (Or.inl ⟨by kernel_rfl, ?_⟩) (by assumption) ?_
        rotate_left
        · ((intro w hSw; go_simp) <;> with_reducible rfl)
        try simp only [Act.put, List.setIfInBounds_toArray, List.set_cons_zero, List.set_cons_succ]
        refine Rk.tail [9, 10] [_, _] (by kernel_rfl) (by kernel_rfl) rfl (by decide) ?_
        obtain ⟨a0, a1, a2, a3, b0, b1, b2, b3, K9⟩ := hHeld
        have lm : uw3.heap.size < uw4.heap.size := World.block_lt_of_cell? _ _ m0
        have lw : w.heap.size ≤ uw3.heap.size := by omega
        have ne0 : uw3.heap.size ≠ w.heap.size := by omega
        have ne1 : uw3.heap.size ≠ w.heap.size + 1 := by omega
        have lo0 : w.heap.size < uw4.heap.size := by omega
        have lo1 : w.heap.size + 1 < uw4.heap.size := by omega
        by_cases he : e = 0
        · subst he
          have hback := BACK.out rfl
          rw [hback] at AP2
          clear RA
          go_wp2_with fail
          have a0 : ((((uw4.setCell ⟨uw3.heap.size, 0, none⟩ (.int .i64 x)).setCell ⟨uw3.heap.size, 1, none⟩ (.int .i64 y)).setCell ⟨uw3.heap.size, 2, none⟩ (.int .i64 z)).setCell ⟨uw3.heap.size, 3, none⟩ (.int .i64 s)).cell? ⟨w.heap.size, 0, none⟩ = some (.int .i64 n1) := far4 ne0 a0
          have a1 : ((((uw4.setCell ⟨uw3.heap.size, 0, none⟩ (.int .i64 x)).setCell ⟨uw3.heap.size, 1, none⟩ (.int .i64 y)).setCell ⟨uw3.heap.size, 2, none⟩ (.int .i64 z)).setCell ⟨uw3.heap.size, 3, none⟩ (.int .i64 s)).cell? ⟨w.heap.size, 1, none⟩ = some (.int .i64 d1) := far4 ne0 a1
          have a2 : ((((uw4.setCell ⟨uw3.heap.size, 0, none⟩ (.int .i64 x)).setCell ⟨uw3.heap.size, 1, none⟩ (.int .i64 y)).setCell ⟨uw3.heap.size, 2, none⟩ (.int .i64 z)).setCell ⟨uw3.heap.size, 3, none⟩ (.int .i64 s)).cell? ⟨w.heap.size, 2, none⟩ = some (.int .i64 t1) := far4 ne0 a2
          have a3 : ((((uw4.setCell ⟨uw3.heap.size, 0, none⟩ (.int .i64 x)).setCell ⟨uw3.heap.size, 1, none⟩ (.int .i64 y)).setCell ⟨uw3.heap.size, 2, none⟩ (.int .i64 z)).setCell ⟨uw3.heap.size, 3, none⟩ (.int .i64 s)).cell? ⟨w.heap.size, 3, none⟩ = some (.int .i64 u1) := far4 ne0 a3
          have b0 : ((((uw4.setCell ⟨uw3.heap.size, 0, none⟩ (.int .i64 x)).setCell ⟨uw3.heap.size, 1, none⟩ (.int .i64 y)).setCell ⟨uw3.heap.size, 2, none⟩ (.int .i64 z)).setCell ⟨uw3.heap.size, 3, none⟩ (.int .i64 s)).cell? ⟨w.heap.size + 1, 0, none⟩ = some (.int .i64 n2) := far4 ne1 b0
          have b1 : ((((uw4.setCell ⟨uw3.heap.size, 0, none⟩ (.int .i64 x)).setCell ⟨uw3.heap.size, 1, none⟩ (.int .i64 y)).setCell ⟨uw3.heap.size, 2, none⟩ (.int .i64 z)).setCell ⟨uw3.heap.size, 3, none⟩ (.int .i64 s)).cell? ⟨w.heap.size + 1, 1, none⟩ = some (.int .i64 d2) := far4 ne1 b1
          have b2 : ((((uw4.setCell ⟨uw3.heap.size, 0, none⟩ (.int .i64 x)).setCell ⟨uw3.heap.size, 1, none⟩ (.int .i64 y)).setCell ⟨uw3.heap.size, 2, none⟩ (.int .i64 z)).setCell ⟨uw3.heap.size, 3, none⟩ (.int .i64 s)).cell? ⟨w.heap.size + 1, 2, none⟩ = some (.int .i64 t2) := far4 ne1 b2
          have b3 : ((((uw4.setCell ⟨uw3.heap.size, 0, none⟩ (.int .i64 x)).setCell ⟨uw3.heap.size, 1, none⟩ (.int .i64 y)).setCell ⟨uw3.heap.size, 2, none⟩ (.int .i64 z)).setCell ⟨uw3.heap.size, 3, none⟩ (.int .i64 s)).cell? ⟨w.heap.size + 1, 3, none⟩ = some (.int .i64 u2) := far4 ne1 b3
          have hst := st4 (x := .int .i64 x) (y := .int .i64 y) (z := .int .i64 z) (t := .int .i64 s) m0 m1 m2 m3
          obtain ⟨s0, s1, s2, s3⟩ := hst
          have KS : Below w.heap.size w ((((uw4.setCell ⟨uw3.heap.size, 0, none⟩ (.int .i64 x)).setCell ⟨uw3.heap.size, 1, none⟩ (.int .i64 y)).setCell ⟨uw3.heap.size, 2, none⟩ (.int .i64 z)).setCell ⟨uw3.heap.size, 3, none⟩ (.int .i64 s)) := (Below.setCell (Below.setCell (Below.setCell (Below.setCell K9 (by dsimp only; omega) _) (by dsimp only; omega) _) (by dsimp only; omega) _) (by dsimp only; omega) _)
          have lm : uw3.heap.size < ((((uw4.setCell ⟨uw3.heap.size, 0, none⟩ (.int .i64 x)).setCell ⟨uw3.heap.size, 1, none⟩ (.int .i64 y)).setCell ⟨uw3.heap.size, 2, none⟩ (.int .i64 z)).setCell ⟨uw3.heap.size, 3, none⟩ (.int .i64 s)).heap.size := World.block_lt_of_cell? _ _ s0
          have lo0 : w.heap.size < ((((uw4.setCell ⟨uw3.heap.size, 0, none⟩ (.int .i64 x)).setCell ⟨uw3.heap.size, 1, none⟩ (.int .i64 y)).setCell ⟨uw3.heap.size, 2, none⟩ (.int .i64 z)).setCell ⟨uw3.heap.size, 3, none⟩ (.int .i64 s)).heap.size := by simp; omega
          have lo1 : w.heap.size + 1 < ((((uw4.setCell ⟨uw3.heap.size, 0, none⟩ (.int .i64 x)).setCell ⟨uw3.heap.size, 1, none⟩ (.int .i64 y)).setCell ⟨uw3.heap.size, 2, none⟩ (.int .i64 z)).setCell ⟨uw3.heap.size, 3, none⟩ (.int .i64 s)).heap.size := by simp; omega
          clear K9 m0 fm0 m1 fm1 m2 fm2 m3 fm3
          generalize ((((uw4.setCell ⟨uw3.heap.size, 0, none⟩ (.int .i64 x)).setCell ⟨uw3.heap.size, 1, none⟩ (.int .i64 y)).setCell ⟨uw3.heap.size, 2, none⟩ (.int .i64 z)).setCell ⟨uw3.heap.size, 3, none⟩ (.int .i64 s)) = gs at *
          have hz2 : gs.cell? ⟨w.heap.size, 0, none⟩ = some (.int .i64 n1) ∧ gs.cell? ⟨w.heap.size, 1, none⟩ = some (.int .i64 d1) ∧ gs.cell? ⟨w.heap.size, 2, none⟩ = some (.int .i64 t1) ∧ gs.cell? ⟨w.heap.size, 3, none⟩ = some (.int .i64 u1) ∧ gs.cell? ⟨w.heap.size + 1, 0, none⟩ = some (.int .i64 n2) ∧ gs.cell? ⟨w.heap.size + 1, 1, none⟩ = some (.int .i64 d2) ∧ gs.cell? ⟨w.heap.size + 1, 2, none⟩ = some (.int .i64 t2) ∧ gs.cell? ⟨w.heap.size + 1, 3, none⟩ = some (.int .i64 u2) ∧ gs.cell? ⟨uw3.heap.size, 0, none⟩ = some (.int .i64 x) ∧ gs.cell? ⟨uw3.heap.size, 1, none⟩ = some (.int .i64 y) ∧ gs.cell? ⟨uw3.heap.size, 2, none⟩ = some (.int .i64 z) ∧ gs.cell? ⟨uw3.heap.size, 3, none⟩ = some (.int .i64 s) ∧ Below w.heap.size w gs := ⟨a0, a1, a2, a3, b0, b1, b2, b3, s0, s1, s2, s3, KS⟩
          clear a0 a1 a2 a3 b0 b1 b2 b3 s0 s1 s2 s3 KS
          have qHS : Hid (∀ u u' : World, (u.cell? ⟨w.heap.size, 0, none⟩ = some (.int .i64 n1) ∧ u.cell? ⟨w.heap.size, 1, none⟩ = some (.int .i64 d1) ∧ u.cell? ⟨w.heap.size, 2, none⟩ = some (.int .i64 t1) ∧ u.cell? ⟨w.heap.size, 3, none⟩ = some (.int .i64 u1) ∧ u.cell? ⟨w.heap.size + 1, 0, none⟩ = some (.int .i64 n2) ∧ u.cell? ⟨w.heap.size + 1, 1, none⟩ = some (.int .i64 d2) ∧ u.cell? ⟨w.heap.size + 1, 2, none⟩ = some (.int .i64 t2) ∧ u.cell? ⟨w.heap.size + 1, 3, none⟩ = some (.int .i64 u2) ∧ u.cell? ⟨uw3.heap.size, 0, none⟩ = some (.int .i64 x) ∧ u.cell? ⟨uw3.heap.size, 1, none⟩ = some (.int .i64 y) ∧ u.cell? ⟨uw3.heap.size, 2, none⟩ = some (.int .i64 z) ∧ u.cell? ⟨uw3.heap.size, 3, none⟩ = some (.int .i64 s) ∧ Below w.heap.size w u) → Below u.heap.size u u' → (u'.cell? ⟨w.heap.size, 0, none⟩ = some (.int .i64 n1) ∧ u'.cell? ⟨w.heap.size, 1, none⟩ = some (.int .i64 d1) ∧ u'.cell? ⟨w.heap.size, 2, none⟩ = some (.int .i64 t1) ∧ u'.cell? ⟨w.heap.size, 3, none⟩ = some (.int .i64 u1) ∧ u'.cell? ⟨w.heap.size + 1, 0, none⟩ = some (.int .i64 n2) ∧ u'.cell? ⟨w.heap.size + 1, 1, none⟩ = some (.int .i64 d2) ∧ u'.cell? ⟨w.heap.size + 1, 2, none⟩ = some (.int .i64 t2) ∧ u'.cell? ⟨w.heap.size + 1, 3, none⟩ = some (.int .i64 u2) ∧ u'.cell? ⟨uw3.heap.size, 0, none⟩ = some (.int .i64 x) ∧ u'.cell? ⟨uw3.heap.size, 1, none⟩ = some (.int .i64 y) ∧ u'.cell? ⟨uw3.heap.size, 2, none⟩ = some (.int .i64 z) ∧ u'.cell? ⟨uw3.heap.size, 3, none⟩ = some (.int .i64 s) ∧ Below w.heap.size w u')) := Lib.hid (fun u u' h hb => ⟨Rg.keep hb (World.block_lt_of_cell? _ _ h.1) h.1, Rg.keep hb (World.block_lt_of_cell? _ _ h.2.1) h.2.1, Rg.keep hb (World.block_lt_of_cell? _ _ h.2.2.1) h.2.2.1, Rg.keep hb (World.block_lt_of_cell? _ _ h.2.2.2.1) h.2.2.2.1, Rg.keep hb (World.block_lt_of_cell? _ _ h.2.2.2.2.1) h.2.2.2.2.1, Rg.keep hb (World.block_lt_of_cell? _ _ h.2.2.2.2.2.1) h.2.2.2.2.2.1, Rg.keep hb (World.block_lt_of_cell? _ _ h.2.2.2.2.2.2.1) h.2.2.2.2.2.2.1, Rg.keep hb (World.block_lt_of_cell? _ _ h.2.2.2.2.2.2.2.1) h.2.2.2.2.2.2.2.1, Rg.keep hb (World.block_lt_of_cell? _ _ h.2.2.2.2.2.2.2.2.1) h.2.2.2.2.2.2.2.2.1, Rg.keep hb (World.block_lt_of_cell? _ _ h.2.2.2.2.2.2.2.2.2.1) h.2.2.2.2.2.2.2.2.2.1, Rg.keep hb (World.block_lt_of_cell? _ _ h.2.2.2.2.2.2.2.2.2.2.1) h.2.2.2.2.2.2.2.2.2.2.1, Rg.keep hb (World.block_lt_of_cell? _ _ h.2.2.2.2.2.2.2.2.2.2.2.1) h.2.2.2.2.2.2.2.2.2.2.2.1, h.2.2.2.2.2.2.2.2.2.2.2.2.trans (hb.mono h.2.2.2.2.2.2.2.2.2.2.2.2.size)⟩)
          refine Rk.begin (S := fun wS => wS.cell? ⟨w.heap.size, 0, none⟩ = some (.int .i64 n1) ∧ wS.cell? ⟨w.heap.size, 1, none⟩ = some (.int .i64 d1) ∧ wS.cell? ⟨w.heap.size, 2, none⟩ = some (.int .i64 t1) ∧ wS.cell? ⟨w.heap.size, 3, none⟩ = some (.int .i64 u1) ∧ wS.cell? ⟨w.heap.size + 1, 0, none⟩ = some (.int .i64 n2) ∧ wS.cell? ⟨w.heap.size + 1, 1, none⟩ = some (.int .i64 d2) ∧ wS.cell? ⟨w.heap.size + 1, 2, none⟩ = some (.int .i64 t2) ∧ wS.cell? ⟨w.heap.size + 1, 3, none⟩ = some (.int .i64 u2) ∧ wS.cell? ⟨uw3.heap.size, 0, none⟩ = some (.int .i64 x) ∧ wS.cell? ⟨uw3.heap.size, 1, none⟩ = some (.int .i64 y) ∧ wS.cell? ⟨uw3.heap.size, 2, none⟩ = some (.int .i64 z) ∧ wS.cell? ⟨uw3.heap.size, 3, none⟩ = some (.int .i64 s) ∧ Below w.heap.size w wS) 8 (by kernel_rfl) (qHS.out _ _ hz2 (Below.drew (Below.refl _ _))) (fun hHeld => ?_)
          refine Rk.take [8] (i := 0) (v := ?_) rfl (by kernel_rfl) (by kernel_rfl) (by kernel_rfl) (by kernel_rfl) (by kernel_rfl) (fun _ _ _ h => h) (Or.inl ⟨by kernel_rfl, ?_⟩) (by assumption) ?_
          rotate_left
          · ((intro w hSw; (try dsimp only at hSw); go_simp) <;> with_reducible rfl)
          try simp only [Act.put, List.setIfInBounds_toArray, List.set_cons_zero, List.set_cons_succ]
          refine Rk.take [8] (i := 1) (v := ?_) rfl (by kernel_rfl) (by kernel_rfl) (by kernel_rfl) (by kernel_rfl) (by kernel_rfl) (fun _ _ _ h => h) (Or.inl ⟨by kernel_rfl, ?_⟩) (by assumption) ?_
          rotate_left
          · ((intro w hSw; (try dsimp only at hSw); go_simp) <;> with_reducible rfl)
          try simp only [Act.put, List.setIfInBounds_toArray, List.set_cons_zero, List.set_cons_succ]
          refine Rk.two (i := 2) (j := 7) (by kernel_rfl) rfl rfl (fun KK hK => ?_) (fun KK hK => ?_)
          · rw [if_pos (by kernel_rfl)]
            go_simp
            (refine (IN2.out _).mono ?_; rintro e quw2 ⟨rfl, hb⟩)
            have hNew := qHS.out _ _ hHeld hb
            have hs_quw2 : gs.heap.size ≤ quw2.heap.size := by have hzz := hb.size; (try simp at hzz); omega
            first | (refine hK.out _ _ (fun _ => hNew) (fun _ => ?_)) | (refine hK.out _ _ hNew (fun _ => ?_)) | (go_wp2_with fail; refine hK.out _ _ hNew (fun _ => ?_))
            replace hHeld := hNew
            clear hNew hb
            clear hK KK
            refine Rk.two (i := 3) (j := 7) (by kernel_rfl) rfl rfl (fun KK hK => ?_) (fun KK hK => ?_)
            · rw [if_pos (by kernel_rfl)]
              go_simp
              (refine (AP2.out _).mono ?_; rintro e quw3 ⟨rfl, hb⟩)
              have hNew := qHS.out _ _ hHeld hb
              have hs_quw3 : gs.heap.size ≤ quw3.heap.size := by have hzz := hb.size; (try simp at hzz); omega
              first | (refine hK.out _ _ (fun _ => hNew) (fun _ => ?_)) | (refine hK.out _ _ hNew (fun _ => ?_)) | (go_wp2_with fail; refine hK.out _ _ hNew (fun _ => ?_))
              replace hHeld := hNew
              clear hNew hb
              clear hK KK
              refine Rk.takeP (i := 4) (v := ?_) rfl (by kernel_rfl) (by kernel_rfl) (by kernel_rfl) (by kernel_rfl) (fun _ _ _ h => h) (Or.inl ⟨by kernel_rfl, ?_⟩) (by assumption) ?_
              rotate_left
              · ((intro w hSw; go_simp) <;> with_reducible rfl)
              try simp only [Act.put, List.setIfInBounds_toArray, List.set_cons_zero, List.set_cons_succ]
              refine Rk.takeP (i := 5) (v := ?_) rfl (by kernel_rfl) (by kernel_rfl) (by kernel_rfl) (by kernel_rfl) (fun _ _ _ h => h) (Or.inl ⟨by kernel_rfl, ?_⟩) (by assumption) ?_
              rotate_left
              · ((intro w hSw; go_simp) <;> with_reducible rfl)
              try simp only [Act.put, List.setIfInBounds_toArray, List.set_cons_zero, List.set_cons_succ]
              refine Rk.takeP (i := 6) (v := ?_) rfl (by kernel_rfl) (by kernel_rfl) (by kernel_rfl) (by kernel_rfl) (fun _ _ _ h => h) (Or.inl ⟨by kernel_rfl, ?_⟩) (by assumption) ?_
              rotate_left
              · ((intro w hSw; go_simp) <;> with_reducible rfl)
              try simp only [Act.put, List.setIfInBounds_toArray, List.set_cons_zero, List.set_cons_succ]
              refine Rk.one (i := 7) (by kernel_rfl) rfl (fun KK hK => ?_)
              rw [if_pos (by kernel_rfl)]
              go_simp
              have hNew := qHS.out _ _ hHeld ((Below.refl _ _).alloc (Nat.le_refl _) (Obj.cells #[Value.int .i64 0, Value.int .i64 0, Value.int .i64 0, Value.int .i64 0] 26))
              refine hK.out _ _ hNew (fun _ => ?_)
              replace hHeld := hNew
              clear hNew
              clear hK KK
              refine Rk.tail [8, 9] [_, _] (by kernel_rfl) (by kernel_rfl) rfl (by decide) ?_
              obtain ⟨a0, a1, a2, a3, b0, b1, b2, b3, s0, s1, s2, s3, K8⟩ := hHeld
              have qm0 : (quw3.alloc (Obj.cells #[Value.int .i64 0, Value.int .i64 0, Value.int .i64 0, Value.int .i64 0] 26)).cell? ⟨quw3.heap.size, 0, none⟩ = some (.int .i64 0) := by go_cell
              have qfm0 : (quw3.alloc (Obj.cells #[Value.int .i64 0, Value.int .i64 0, Value.int .i64 0, Value.int .i64 0] 26)).frozen? ⟨quw3.heap.size, 0, none⟩ = false := by simp only [frozen?_alloc_cells]; exact Rg.notFrozen (Nat.le_refl _)
              have qm1 : (quw3.alloc (Obj.cells #[Value.int .i64 0, Value.int .i64 0, Value.int .i64 0, Value.int .i64 0] 26)).cell? ⟨quw3.heap.size, 1, none⟩ = some (.int .i64 0) := by go_cell
              have qfm1 : (quw3.alloc (Obj.cells #[Value.int .i64 0, Value.int .i64 0, Value.int .i64 0, Value.int .i64 0] 26)).frozen? ⟨quw3.heap.size, 1, none⟩ = false := by simp only [frozen?_alloc_cells]; exact Rg.notFrozen (Nat.le_refl _)
              have qm2 : (quw3.alloc (Obj.cells #[Value.int .i64 0, Value.int .i64 0, Value.int .i64 0, Value.int .i64 0] 26)).cell? ⟨quw3.heap.size, 2, none⟩ = some (.int .i64 0) := by go_cell
              have qfm2 : (quw3.alloc (Obj.cells #[Value.int .i64 0, Value.int .i64 0, Value.int .i64 0, Value.int .i64 0] 26)).frozen? ⟨quw3.heap.size, 2, none⟩ = false := by simp only [frozen?_alloc_cells]; exact Rg.notFrozen (Nat.le_refl _)
              have qm3 : (quw3.alloc (Obj.cells #[Value.int .i64 0, Value.int .i64 0, Value.int .i64 0, Value.int .i64 0] 26)).cell? ⟨quw3.heap.size, 3, none⟩ = some (.int .i64 0) := by go_cell
              have qfm3 : (quw3.alloc (Obj.cells #[Value.int .i64 0, Value.int .i64 0, Value.int .i64 0, Value.int .i64 0] 26)).frozen? ⟨quw3.heap.size, 3, none⟩ = false := by simp only [frozen?_alloc_cells]; exact Rg.notFrozen (Nat.le_refl _)
              generalize (quw3.alloc (Obj.cells #[Value.int .i64 0, Value.int .i64 0, Value.int .i64 0, Value.int .i64 0] 26)) = qgw at *
              have qlm : quw3.heap.size < qgw.heap.size := World.block_lt_of_cell? _ _ qm0
              have qlw : w.heap.size ≤ quw3.heap.size := by omega
              have qne0 : quw3.heap.size ≠ w.heap.size := by omega
              have qne1 : quw3.heap.size ≠ w.heap.size + 1 := by omega
              have qne2 : quw3.heap.size ≠ uw3.heap.size := by omega
              have qlo0 : w.heap.size < qgw.heap.size := by omega
              have qlo1 : w.heap.size + 1 < qgw.heap.size := by omega
              have qlo2 : uw3.heap.size < qgw.heap.size := by omega
              go_wp2_with fail
              have a0 : ((((qgw.setCell ⟨quw3.heap.size, 0, none⟩ (.int .i64 n1)).setCell ⟨quw3.heap.size, 1, none⟩ (.int .i64 d1)).setCell ⟨quw3.heap.size, 2, none⟩ (.int .i64 t1)).setCell ⟨quw3.heap.size, 3, none⟩ (.int .i64 u1)).cell? ⟨w.heap.size, 0, none⟩ = some (.int .i64 n1) := far4 qne0 a0
              have a1 : ((((qgw.setCell ⟨quw3.heap.size, 0, none⟩ (.int .i64 n1)).setCell ⟨quw3.heap.size, 1, none⟩ (.int .i64 d1)).setCell ⟨quw3.heap.size, 2, none⟩ (.int .i64 t1)).setCell ⟨quw3.heap.size, 3, none⟩ (.int .i64 u1)).cell? ⟨w.heap.size, 1, none⟩ = some (.int .i64 d1) := far4 qne0 a1
              have a2 : ((((qgw.setCell ⟨quw3.heap.size, 0, none⟩ (.int .i64 n1)).setCell ⟨quw3.heap.size, 1, none⟩ (.int .i64 d1)).setCell ⟨quw3.heap.size, 2, none⟩ (.int .i64 t1)).setCell ⟨quw3.heap.size, 3, none⟩ (.int .i64 u1)).cell? ⟨w.heap.size, 2, none⟩ = some (.int .i64 t1) := far4 qne0 a2
              have a3 : ((((qgw.setCell ⟨quw3.heap.size, 0, none⟩ (.int .i64 n1)).setCell ⟨quw3.heap.size, 1, none⟩ (.int .i64 d1)).setCell ⟨quw3.heap.size, 2, none⟩ (.int .i64 t1)).setCell ⟨quw3.heap.size, 3, none⟩ (.int .i64 u1)).cell? ⟨w.heap.size, 3, none⟩ = some (.int .i64 u1) := far4 qne0 a3
              have b0 : ((((qgw.setCell ⟨quw3.heap.size, 0, none⟩ (.int .i64 n1)).setCell ⟨quw3.heap.size, 1, none⟩ (.int .i64 d1)).setCell ⟨quw3.heap.size, 2, none⟩ (.int .i64 t1)).setCell ⟨quw3.heap.size, 3, none⟩ (.int .i64 u1)).cell? ⟨w.heap.size + 1, 0, none⟩ = some (.int .i64 n2) := far4 qne1 b0
              have b1 : ((((qgw.setCell ⟨quw3.heap.size, 0, none⟩ (.int .i64 n1)).setCell ⟨quw3.heap.size, 1, none⟩ (.int .i64 d1)).setCell ⟨quw3.heap.size, 2, none⟩ (.int .i64 t1)).setCell ⟨quw3.heap.size, 3, none⟩ (.int .i64 u1)).cell? ⟨w.heap.size + 1, 1, none⟩ = some (.int .i64 d2) := far4 qne1 b1
              have b2 : ((((qgw.setCell ⟨quw3.heap.size, 0, none⟩ (.int .i64 n1)).setCell ⟨quw3.heap.size, 1, none⟩ (.int .i64 d1)).setCell ⟨quw3.heap.size, 2, none⟩ (.int .i64 t1)).setCell ⟨quw3.heap.size, 3, none⟩ (.int .i64 u1)).cell? ⟨w.heap.size + 1, 2, none⟩ = some (.int .i64 t2) := far4 qne1 b2
              have b3 : ((((qgw.setCell ⟨quw3.heap.size, 0, none⟩ (.int .i64 n1)).setCell ⟨quw3.heap.size, 1, none⟩ (.int .i64 d1)).setCell ⟨quw3.heap.size, 2, none⟩ (.int .i64 t1)).setCell ⟨quw3.heap.size, 3, none⟩ (.int .i64 u1)).cell? ⟨w.heap.size + 1, 3, none⟩ = some (.int .i64 u2) := far4 qne1 b3
              have s0 : ((((qgw.setCell ⟨quw3.heap.size, 0, none⟩ (.int .i64 n1)).setCell ⟨quw3.heap.size, 1, none⟩ (.int .i64 d1)).setCell ⟨quw3.heap.size, 2, none⟩ (.int .i64 t1)).setCell ⟨quw3.heap.size, 3, none⟩ (.int .i64 u1)).cell? ⟨uw3.heap.size, 0, none⟩ = some (.int .i64 x) := far4 qne2 s0
              have s1 : ((((qgw.setCell ⟨quw3.heap.size, 0, none⟩ (.int .i64 n1)).setCell ⟨quw3.heap.size, 1, none⟩ (.int .i64 d1)).setCell ⟨quw3.heap.size, 2, none⟩ (.int .i64 t1)).setCell ⟨quw3.heap.size, 3, none⟩ (.int .i64 u1)).cell? ⟨uw3.heap.size, 1, none⟩ = some (.int .i64 y) := far4 qne2 s1
              have s2 : ((((qgw.setCell ⟨quw3.heap.size, 0, none⟩ (.int .i64 n1)).setCell ⟨quw3.heap.size, 1, none⟩ (.int .i64 d1)).setCell ⟨quw3.heap.size, 2, none⟩ (.int .i64 t1)).setCell ⟨quw3.heap.size, 3, none⟩ (.int .i64 u1)).cell? ⟨uw3.heap.size, 2, none⟩ = some (.int .i64 z) := far4 qne2 s2
              have s3 : ((((qgw.setCell ⟨quw3.heap.size, 0, none⟩ (.int .i64 n1)).setCell ⟨quw3.heap.size, 1, none⟩ (.int .i64 d1)).setCell ⟨quw3.heap.size, 2, none⟩ (.int .i64 t1)).setCell ⟨quw3.heap.size, 3, none⟩ (.int .i64 u1)).cell? ⟨uw3.heap.size, 3, none⟩ = some (.int .i64 s) := far4 qne2 s3
              have hst := st4 (x := .int .i64 n1) (y := .int .i64 d1) (z := .int .i64 t1) (t := .int .i64 u1) qm0 qm1 qm2 qm3
              obtain ⟨qs0, qs1, qs2, qs3⟩ := hst
              have KqS : Below w.heap.size w ((((qgw.setCell ⟨quw3.heap.size, 0, none⟩ (.int .i64 n1)).setCell ⟨quw3.heap.size, 1, none⟩ (.int .i64 d1)).setCell ⟨quw3.heap.size, 2, none⟩ (.int .i64 t1)).setCell ⟨quw3.heap.size, 3, none⟩ (.int .i64 u1)) := (Below.setCell (Below.setCell (Below.setCell (Below.setCell K8 (by dsimp only; omega) _) (by dsimp only; omega) _) (by dsimp only; omega) _) (by dsimp only; omega) _)
              have qlm : quw3.heap.size < ((((qgw.setCell ⟨quw3.heap.size, 0, none⟩ (.int .i64 n1)).setCell ⟨quw3.heap.size, 1, none⟩ (.int .i64 d1)).setCell ⟨quw3.heap.size, 2, none⟩ (.int .i64 t1)).setCell ⟨quw3.heap.size, 3, none⟩ (.int .i64 u1)).heap.size := World.block_lt_of_cell? _ _ qs0
              have qlo0 : w.heap.size < ((((qgw.setCell ⟨quw3.heap.size, 0, none⟩ (.int .i64 n1)).setCell ⟨quw3.heap.size, 1, none⟩ (.int .i64 d1)).setCell ⟨quw3.heap.size, 2, none⟩ (.int .i64 t1)).setCell ⟨quw3.heap.size, 3, none⟩ (.int .i64 u1)).heap.size := by simp; omega
              have qlo1 : w.heap.size + 1 < ((((qgw.setCell ⟨quw3.heap.size, 0, none⟩ (.int .i64 n1)).setCell ⟨quw3.heap.size, 1, none⟩ (.int .i64 d1)).setCell ⟨quw3.heap.size, 2, none⟩ (.int .i64 t1)).setCell ⟨quw3.heap.size, 3, none⟩ (.int .i64 u1)).heap.size := by simp; omega
              have qlo2 : uw3.heap.size < ((((qgw.setCell ⟨quw3.heap.size, 0, none⟩ (.int .i64 n1)).setCell ⟨quw3.heap.size, 1, none⟩ (.int .i64 d1)).setCell ⟨quw3.heap.size, 2, none⟩ (.int .i64 t1)).setCell ⟨quw3.heap.size, 3, none⟩ (.int .i64 u1)).heap.size := by simp; omega
              clear K8 qm0 qfm0 qm1 qfm1 qm2 qfm2 qm3 qfm3
              generalize ((((qgw.setCell ⟨quw3.heap.size, 0, none⟩ (.int .i64 n1)).setCell ⟨quw3.heap.size, 1, none⟩ (.int .i64 d1)).setCell ⟨quw3.heap.size, 2, none⟩ (.int .i64 t1)).setCell ⟨quw3.heap.size, 3, none⟩ (.int .i64 u1)) = qgs at *
              go_wp2_with (first | (go_at_call 9; (with_reducible refine (SM.out _).mono ?_); rintro e w7 ⟨rfl, hb7⟩; have hc7 := (bcell hb7).1; have hf7 := (bcell hb7).2; have z7_0 : w.heap.size < w7.heap.size := (by have hzz := hb7.size; (try simp at hzz); omega); have z7_1 : w.heap.size + 1 < w7.heap.size := (by have hzz := hb7.size; (try simp at hzz); omega); have z7_2 : uw3.heap.size < w7.heap.size := (by have hzz := hb7.size; (try simp at hzz); omega); have z7_3 : quw3.heap.size < w7.heap.size := (by have hzz := hb7.size; (try simp at hzz); omega); have K7 : Below w.heap.size w w7 := Below.trans (b := _) (by (repeat' (first | (with_reducible exact Below.refl _ _) | (with_reducible exact KqS) | (with_reducible exact KqS.size) | (with_reducible refine Below.alloc ?_ ?_ _) | (with_reducible refine Below.setCell ?_ ?_ _) | (with_reducible refine below_drewN ?_ _) | (simp; done) | omega | (simp; omega)))) (hb7.mono (by have hzz := hb7.size; (try simp at hzz); first | omega | (simp; done) | (simp; omega)))) | (go_at_call 10; (with_reducible refine (AL.out _).mono ?_); rintro e w8 ⟨rfl, hb8⟩; have hc8 := (bcell hb8).1; have hf8 := (bcell hb8).2; have K8 : Below w.heap.size w w8 := Below.trans (b := _) (by (repeat' (first | (with_reducible exact Below.refl _ _) | (with_reducible exact KqS) | (with_reducible exact KqS.size) | (with_reducible exact K7) | (with_reducible exact K7.size) | (with_reducible refine Below.alloc ?_ ?_ _) | (with_reducible refine Below.setCell ?_ ?_ _) | (with_reducible refine below_drewN ?_ _) | (simp; done) | omega | (simp; omega)))) (hb8.mono (by have hzz := hb8.size; (try simp at hzz); first | omega | (simp; done) | (simp; omega)))))
              go_ret
              exact ⟨rfl, K8⟩
            · rw [if_pos (by kernel_rfl)]
              go_simp
              have hNew := qHS.out _ _ hHeld ((Below.refl _ _).alloc (Nat.le_refl _) (Obj.cells #[Value.int .i64 0, Value.int .i64 0, Value.int .i64 0, Value.int .i64 0] 26))
              refine hK.out _ _ hNew (fun _ => ?_)
              replace hHeld := hNew
              clear hNew
              clear hK KK
              refine Rk.one (i := 3) (by kernel_rfl) rfl (fun KK hK => ?_)
              rw [if_pos (by kernel_rfl)]
              go_simp
              (refine (AP2.out _).mono ?_; rintro e quw3 ⟨rfl, hb⟩)
              have hNew := qHS.out _ _ hHeld hb
              have hs_quw3 : gs.heap.size ≤ quw3.heap.size := by have hzz := hb.size; (try simp at hzz); omega
              have qm0 : quw3.cell? ⟨quw2.heap.size, 0, none⟩ = some (.int .i64 0) := Rg.keep hb (by simp) (by go_cell)
              have qfm0 : quw3.frozen? ⟨quw2.heap.size, 0, none⟩ = false := Rg.keepF hb (by simp) (by show (quw2.alloc (Obj.cells #[Value.int .i64 0, Value.int .i64 0, Value.int .i64 0, Value.int .i64 0] 26)).frozen? ⟨quw2.heap.size, 0, none⟩ = false; simp only [frozen?_alloc_cells]; exact Rg.notFrozen (Nat.le_refl _))
              have qm1 : quw3.cell? ⟨quw2.heap.size, 1, none⟩ = some (.int .i64 0) := Rg.keep hb (by simp) (by go_cell)
              have qfm1 : quw3.frozen? ⟨quw2.heap.size, 1, none⟩ = false := Rg.keepF hb (by simp) (by show (quw2.alloc (Obj.cells #[Value.int .i64 0, Value.int .i64 0, Value.int .i64 0, Value.int .i64 0] 26)).frozen? ⟨quw2.heap.size, 1, none⟩ = false; simp only [frozen?_alloc_cells]; exact Rg.notFrozen (Nat.le_refl _))
              have qm2 : quw3.cell? ⟨quw2.heap.size, 2, none⟩ = some (.int .i64 0) := Rg.keep hb (by simp) (by go_cell)
              have qfm2 : quw3.frozen? ⟨quw2.heap.size, 2, none⟩ = false := Rg.keepF hb (by simp) (by show (quw2.alloc (Obj.cells #[Value.int .i64 0, Value.int .i64 0, Value.int .i64 0, Value.int .i64 0] 26)).frozen? ⟨quw2.heap.size, 2, none⟩ = false; simp only [frozen?_alloc_cells]; exact Rg.notFrozen (Nat.le_refl _))
              have qm3 : quw3.cell? ⟨quw2.heap.size, 3, none⟩ = some (.int .i64 0) := Rg.keep hb (by simp) (by go_cell)
              have qfm3 : quw3.frozen? ⟨quw2.heap.size, 3, none⟩ = false := Rg.keepF hb (by simp) (by show (quw2.alloc (Obj.cells #[Value.int .i64 0, Value.int .i64 0, Value.int .i64 0, Value.int .i64 0] 26)).frozen? ⟨quw2.heap.size, 3, none⟩ = false; simp only [frozen?_alloc_cells]; exact Rg.notFrozen (Nat.le_refl _))
              first | (refine hK.out _ _ (fun _ => hNew) (fun _ => ?_)) | (refine hK.out _ _ hNew (fun _ => ?_)) | (go_wp2_with fail; refine hK.out _ _ hNew (fun _ => ?_))
              replace hHeld := hNew
              clear hNew hb
              clear hK KK
              refine Rk.takeP (i := 4) (v := ?_) rfl (by kernel_rfl) (by kernel_rfl) (by kernel_rfl) (by kernel_rfl) (fun _ _ _ h => h) (Or.inl ⟨by kernel_rfl, ?_⟩) (by assumption) ?_
              rotate_left
              · ((intro w hSw; go_simp) <;> with_reducible rfl)
              try simp only [Act.put, List.setIfInBounds_toArray, List.set_cons_zero, List.set_cons_succ]
              refine Rk.takeP (i := 5) (v := ?_) rfl (by kernel_rfl) (by kernel_rfl) (by kernel_rfl) (by kernel_rfl) (fun _ _ _ h => h) (Or.inl ⟨by kernel_rfl, ?_⟩) (by assumption) ?_
              rotate_left
              · ((intro w hSw; go_simp) <;> with_reducible rfl)
              try simp only [Act.put, List.setIfInBounds_toArray, List.set_cons_zero, List.set_cons_succ]
              refine Rk.takeP (i := 6) (v := ?_) rfl (by kernel_rfl) (by kernel_rfl) (by kernel_rfl) (by kernel_rfl) (fun _ _ _ h => h) (Or.inl ⟨by kernel_rfl, ?_⟩) (by assumption) ?_
              rotate_left
              · ((intro w hSw; go_simp) <;> with_reducible rfl)
              try simp only [Act.put, List.setIfInBounds_toArray, List.set_cons_zero, List.set_cons_succ]
              refine Rk.tail [8, 9] [_, _] (by kernel_rfl) (by kernel_rfl) rfl (by decide) ?_
              obtain ⟨a0, a1, a2, a3, b0, b1, b2, b3, s0, s1, s2, s3, K8⟩ := hHeld
              have qlm : quw2.heap.size < quw3.heap.size := World.block_lt_of_cell? _ _ qm0
              have qlw : w.heap.size ≤ quw2.heap.size := by omega
              have qne0 : quw2.heap.size ≠ w.heap.size := by omega
              have qne1 : quw2.heap.size ≠ w.heap.size + 1 := by omega
              have qne2 : quw2.heap.size ≠ uw3.heap.size := by omega
              have qlo0 : w.heap.size < quw3.heap.size := by omega
              have qlo1 : w.heap.size + 1 < quw3.heap.size := by omega
              have qlo2 : uw3.heap.size < quw3.heap.size := by omega
              go_wp2_with fail
              have a0 : ((((quw3.setCell ⟨quw2.heap.size, 0, none⟩ (.int .i64 n1)).setCell ⟨quw2.heap.size, 1, none⟩ (.int .i64 d1)).setCell ⟨quw2.heap.size, 2, none⟩ (.int .i64 t1)).setCell ⟨quw2.heap.size, 3, none⟩ (.int .i64 u1)).cell? ⟨w.heap.size, 0, none⟩ = some (.int .i64 n1) := far4 qne0 a0
              have a1 : ((((quw3.setCell ⟨quw2.heap.size, 0, none⟩ (.int .i64 n1)).setCell ⟨quw2.heap.size, 1, none⟩ (.int .i64 d1)).setCell ⟨quw2.heap.size, 2, none⟩ (.int .i64 t1)).setCell ⟨quw2.heap.size, 3, none⟩ (.int .i64 u1)).cell? ⟨w.heap.size, 1, none⟩ = some (.int .i64 d1) := far4 qne0 a1
              have a2 : ((((quw3.setCell ⟨quw2.heap.size, 0, none⟩ (.int .i64 n1)).setCell ⟨quw2.heap.size, 1, none⟩ (.int .i64 d1)).setCell ⟨quw2.heap.size, 2, none⟩ (.int .i64 t1)).setCell ⟨quw2.heap.size, 3, none⟩ (.int .i64 u1)).cell? ⟨w.heap.size, 2, none⟩ = some (.int .i64 t1) := far4 qne0 a2
              have a3 : ((((quw3.setCell ⟨quw2.heap.size, 0, none⟩ (.int .i64 n1)).setCell ⟨quw2.heap.size, 1, none⟩ (.int .i64 d1)).setCell ⟨quw2.heap.size, 2, none⟩ (.int .i64 t1)).setCell ⟨quw2.heap.size, 3, none⟩ (.int .i64 u1)).cell? ⟨w.heap.size, 3, none⟩ = some (.int .i64 u1) := far4 qne0 a3
              have b0 : ((((quw3.setCell ⟨quw2.heap.size, 0, none⟩ (.int .i64 n1)).setCell ⟨quw2.heap.size, 1, none⟩ (.int .i64 d1)).setCell ⟨quw2.heap.size, 2, none⟩ (.int .i64 t1)).setCell ⟨quw2.heap.size, 3, none⟩ (.int .i64 u1)).cell? ⟨w.heap.size + 1, 0, none⟩ = some (.int .i64 n2) := far4 qne1 b0
              have b1 : ((((quw3.setCell ⟨quw2.heap.size, 0, none⟩ (.int .i64 n1)).setCell ⟨quw2.heap.size, 1, none⟩ (.int .i64 d1)).setCell ⟨quw2.heap.size, 2, none⟩ (.int .i64 t1)).setCell ⟨quw2.heap.size, 3, none⟩ (.int .i64 u1)).cell? ⟨w.heap.size + 1, 1, none⟩ = some (.int .i64 d2) := far4 qne1 b1
              have b2 : ((((quw3.setCell ⟨quw2.heap.size, 0, none⟩ (.int .i64 n1)).setCell ⟨quw2.heap.size, 1, none⟩ (.int .i64 d1)).setCell ⟨quw2.heap.size, 2, none⟩ (.int .i64 t1)).setCell ⟨quw2.heap.size, 3, none⟩ (.int .i64 u1)).cell? ⟨w.heap.size + 1, 2, none⟩ = some (.int .i64 t2) := far4 qne1 b2
              have b3 : ((((quw3.setCell ⟨quw2.heap.size, 0, none⟩ (.int .i64 n1)).setCell ⟨quw2.heap.size, 1, none⟩ (.int .i64 d1)).setCell ⟨quw2.heap.size, 2, none⟩ (.int .i64 t1)).setCell ⟨quw2.heap.size, 3, none⟩ (.int .i64 u1)).cell? ⟨w.heap.size + 1, 3, none⟩ = some (.int .i64 u2) := far4 qne1 b3
              have s0 : ((((quw3.setCell ⟨quw2.heap.size, 0, none⟩ (.int .i64 n1)).setCell ⟨quw2.heap.size, 1, none⟩ (.int .i64 d1)).setCell ⟨quw2.heap.size, 2, none⟩ (.int .i64 t1)).setCell ⟨quw2.heap.size, 3, none⟩ (.int .i64 u1)).cell? ⟨uw3.heap.size, 0, none⟩ = some (.int .i64 x) := far4 qne2 s0
              have s1 : ((((quw3.setCell ⟨quw2.heap.size, 0, none⟩ (.int .i64 n1)).setCell ⟨quw2.heap.size, 1, none⟩ (.int .i64 d1)).setCell ⟨quw2.heap.size, 2, none⟩ (.int .i64 t1)).setCell ⟨quw2.heap.size, 3, none⟩ (.int .i64 u1)).cell? ⟨uw3.heap.size, 1, none⟩ = some (.int .i64 y) := far4 qne2 s1
              have s2 : ((((quw3.setCell ⟨quw2.heap.size, 0, none⟩ (.int .i64 n1)).setCell ⟨quw2.heap.size, 1, none⟩ (.int .i64 d1)).setCell ⟨quw2.heap.size, 2, none⟩ (.int .i64 t1)).setCell ⟨quw2.heap.size, 3, none⟩ (.int .i64 u1)).cell? ⟨uw3.heap.size, 2, none⟩ = some (.int .i64 z) := far4 qne2 s2
              have s3 : ((((quw3.setCell ⟨quw2.heap.size, 0, none⟩ (.int .i64 n1)).setCell ⟨quw2.heap.size, 1, none⟩ (.int .i64 d1)).setCell ⟨quw2.heap.size, 2, none⟩ (.int .i64 t1)).setCell ⟨quw2.heap.size, 3, none⟩ (.int .i64 u1)).cell? ⟨uw3.heap.size, 3, none⟩ = some (.int .i64 s) := far4 qne2 s3
              have hst := st4 (x := .int .i64 n1) (y := .int .i64 d1) (z := .int .i64 t1) (t := .int .i64 u1) qm0 qm1 qm2 qm3
              obtain ⟨qs0, qs1, qs2, qs3⟩ := hst
              have KqS : Below w.heap.size w ((((quw3.setCell ⟨quw2.heap.size, 0, none⟩ (.int .i64 n1)).setCell ⟨quw2.heap.size, 1, none⟩ (.int .i64 d1)).setCell ⟨quw2.heap.size, 2, none⟩ (.int .i64 t1)).setCell ⟨quw2.heap.size, 3, none⟩ (.int .i64 u1)) := (Below.setCell (Below.setCell (Below.setCell (Below.setCell K8 (by dsimp only; omega) _) (by dsimp only; omega) _) (by dsimp only; omega) _) (by dsimp only; omega) _)
              have qlm : quw2.heap.size < ((((quw3.setCell ⟨quw2.heap.size, 0, none⟩ (.int .i64 n1)).setCell ⟨quw2.heap.size, 1, none⟩ (.int .i64 d1)).setCell ⟨quw2.heap.size, 2, none⟩ (.int .i64 t1)).setCell ⟨quw2.heap.size, 3, none⟩ (.int .i64 u1)).heap.size := World.block_lt_of_cell? _ _ qs0
              have qlo0 : w.heap.size < ((((quw3.setCell ⟨quw2.heap.size, 0, none⟩ (.int .i64 n1)).setCell ⟨quw2.heap.size, 1, none⟩ (.int .i64 d1)).setCell ⟨quw2.heap.size, 2, none⟩ (.int .i64 t1)).setCell ⟨quw2.heap.size, 3, none⟩ (.int .i64 u1)).heap.size := by simp; omega
              have qlo1 : w.heap.size + 1 < ((((quw3.setCell ⟨quw2.heap.size, 0, none⟩ (.int .i64 n1)).setCell ⟨quw2.heap.size, 1, none⟩ (.int .i64 d1)).setCell ⟨quw2.heap.size, 2, none⟩ (.int .i64 t1)).setCell ⟨quw2.heap.size, 3, none⟩ (.int .i64 u1)).heap.size := by simp; omega
              have qlo2 : uw3.heap.size < ((((quw3.setCell ⟨quw2.heap.size, 0, none⟩ (.int .i64 n1)).setCell ⟨quw2.heap.size, 1, none⟩ (.int .i64 d1)).setCell ⟨quw2.heap.size, 2, none⟩ (.int .i64 t1)).setCell ⟨quw2.heap.size, 3, none⟩ (.int .i64 u1)).heap.size := by simp; omega
              clear K8 qm0 qfm0 qm1 qfm1 qm2 qfm2 qm3 qfm3
              generalize ((((quw3.setCell ⟨quw2.heap.size, 0, none⟩ (.int .i64 n1)).setCell ⟨quw2.heap.size, 1, none⟩ (.int .i64 d1)).setCell ⟨quw2.heap.size, 2, none⟩ (.int .i64 t1)).setCell ⟨quw2.heap.size, 3, none⟩ (.int .i64 u1)) = qgs at *
              go_wp2_with (first | (go_at_call 9; (with_reducible refine (SM.out _).mono ?_); rintro e w7 ⟨rfl, hb7⟩; have hc7 := (bcell hb7).1; have hf7 := (bcell hb7).2; have z7_0 : w.heap.size < w7.heap.size := (by have hzz := hb7.size; (try simp at hzz); omega); have z7_1 : w.heap.size + 1 < w7.heap.size := (by have hzz := hb7.size; (try simp at hzz); omega); have z7_2 : uw3.heap.size < w7.heap.size := (by have hzz := hb7.size; (try simp at hzz); omega); have z7_3 : quw2.heap.size < w7.heap.size := (by have hzz := hb7.size; (try simp at hzz); omega); have K7 : Below w.heap.size w w7 := Below.trans (b := _) (by (repeat' (first | (with_reducible exact Below.refl _ _) | (with_reducible exact KqS) | (with_reducible exact KqS.size) | (with_reducible refine Below.alloc ?_ ?_ _) | (with_reducible refine Below.setCell ?_ ?_ _) | (with_reducible refine below_drewN ?_ _) | (simp; done) | omega | (simp; omega)))) (hb7.mono (by have hzz := hb7.size; (try simp at hzz); first | omega | (simp; done) | (simp; omega)))) | (go_at_call 10; (with_reducible refine (AL.out _).mono ?_); rintro e w8 ⟨rfl, hb8⟩; have hc8 := (bcell hb8).1; have hf8 := (bcell hb8).2; have K8 : Below w.heap.size w w8 := Below.trans (b := _) (by (repeat' (first | (with_reducible exact Below.refl _ _) | (with_reducible exact KqS) | (with_reducible exact KqS.size) | (with_reducible exact K7) | (with_reducible exact K7.size) | (with_reducible refine Below.alloc ?_ ?_ _) | (with_reducible refine Below.setCell ?_ ?_ _) | (with_reducible refine below_drewN ?_ _) | (simp; done) | omega | (simp; omega)))) (hb8.mono (by have hzz := hb8.size; (try simp at hzz); first | omega | (simp; done) | (simp; omega)))))
              go_ret
              exact ⟨rfl, K8⟩
          · rw [if_pos (by kernel_rfl)]
            go_simp
            have hNew := qHS.out _ _ hHeld ((Below.refl _ _).alloc (Nat.le_refl _) (Obj.cells #[Value.int .i64 0, Value.int .i64 0, Value.int .i64 0, Value.int .i64 0] 26))
            refine hK.out _ _ hNew (fun _ => ?_)
            replace hHeld := hNew
            clear hNew
            clear hK KK
            refine Rk.one (i := 2) (by kernel_rfl) rfl (fun KK hK => ?_)
            rw [if_pos (by kernel_rfl)]
            go_simp
            (refine (IN2.out _).mono ?_; rintro e quw2 ⟨rfl, hb⟩)
            have hNew := qHS.out _ _ hHeld hb
            have hs_quw2 : gs.heap.size ≤ quw2.heap.size := by have hzz := hb.size; (try simp at hzz); omega
            have qm0 : quw2.cell? ⟨gs.heap.size, 0, none⟩ = some (.int .i64 0) := Rg.keep hb (by simp) (by go_cell)
            have qfm0 : quw2.frozen? ⟨gs.heap.size, 0, none⟩ = false := Rg.keepF hb (by simp) (by show (gs.drew.alloc (Obj.cells #[Value.int .i64 0, Value.int .i64 0, Value.int .i64 0, Value.int .i64 0] 26)).frozen? ⟨gs.drew.heap.size, 0, none⟩ = false; simp only [frozen?_alloc_cells]; exact Rg.notFrozen (Nat.le_refl _))
            have qm1 : quw2.cell? ⟨gs.heap.size, 1, none⟩ = some (.int .i64 0) := Rg.keep hb (by simp) (by go_cell)
            have qfm1 : quw2.frozen? ⟨gs.heap.size, 1, none⟩ = false := Rg.keepF hb (by simp) (by show (gs.drew.alloc (Obj.cells #[Value.int .i64 0, Value.int .i64 0, Value.int .i64 0, Value.int .i64 0] 26)).frozen? ⟨gs.drew.heap.size, 1, none⟩ = false; simp only [frozen?_alloc_cells]; exact Rg.notFrozen (Nat.le_refl _))
            have qm2 : quw2.cell? ⟨gs.heap.size, 2, none⟩ = some (.int .i64 0) := Rg.keep hb (by simp) (by go_cell)
            have qfm2 : quw2.frozen? ⟨gs.heap.size, 2, none⟩ = false := Rg.keepF hb (by simp) (by show (gs.drew.alloc (Obj.cells #[Value.int .i64 0, Value.int .i64 0, Value.int .i64 0, Value.int .i64 0] 26)).frozen? ⟨gs.drew.heap.size, 2, none⟩ = false; simp only [frozen?_alloc_cells]; exact Rg.notFrozen (Nat.le_refl _))
            have qm3 : quw2.cell? ⟨gs.heap.size, 3, none⟩ = some (.int .i64 0) := Rg.keep hb (by simp) (by go_cell)
            have qfm3 : quw2.frozen? ⟨gs.heap.size, 3, none⟩ = false := Rg.keepF hb (by simp) (by show (gs.drew.alloc (Obj.cells #[Value.int .i64 0, Value.int .i64 0, Value.int .i64 0, Value.int .i64 0] 26)).frozen? ⟨gs.drew.heap.size, 3, none⟩ = false; simp only [frozen?_alloc_cells]; exact Rg.notFrozen (Nat.le_refl _))
            first | (refine hK.out _ _ (fun _ => hNew) (fun _ => ?_)) | (refine hK.out _ _ hNew (fun _ => ?_)) | (go_wp2_with fail; refine hK.out _ _ hNew (fun _ => ?_))
            replace hHeld := hNew
            clear hNew hb
            clear hK KK
            refine Rk.one (i := 3) (by kernel_rfl) rfl (fun KK hK => ?_)
            rw [if_pos (by kernel_rfl)]
            go_simp
            (refine (AP2.out _).mono ?_; rintro e quw3 ⟨rfl, hb⟩)
            have hNew := qHS.out _ _ hHeld hb
            have hs_quw3 : gs.heap.size ≤ quw3.heap.size := by have hzz := hb.size; (try simp at hzz); omega
            have qlm : gs.heap.size < quw2.heap.size := World.block_lt_of_cell? _ _ qm0
            have qfm0 := Rg.keepF hb qlm qfm0
            have qfm1 := Rg.keepF hb qlm qfm1
            have qfm2 := Rg.keepF hb qlm qfm2
            have qfm3 := Rg.keepF hb qlm qfm3
            have qm0 := Rg.keep hb qlm qm0
            have qm1 := Rg.keep hb qlm qm1
            have qm2 := Rg.keep hb qlm qm2
            have qm3 := Rg.keep hb qlm qm3
            clear qlm
            first | (refine hK.out _ _ (fun _ => hNew) (fun _ => ?_)) | (refine hK.out _ _ hNew (fun _ => ?_)) | (go_wp2_with fail; refine hK.out _ _ hNew (fun _ => ?_))
            replace hHeld := hNew
            clear hNew hb
            clear hK KK
            refine Rk.takeP (i := 4) (v := ?_) rfl (by kernel_rfl) (by kernel_rfl) (by kernel_rfl) (by kernel_rfl) (fun _ _ _ h => h) (Or.inl ⟨by kernel_rfl, ?_⟩) (by assumption) ?_
            rotate_left
            · ((intro w hSw; go_simp) <;> with_reducible rfl)
            try simp only [Act.put, List.setIfInBounds_toArray, List.set_cons_zero, List.set_cons_succ]
            refine Rk.takeP (i := 5) (v := ?_) rfl (by kernel_rfl) (by kernel_rfl) (by kernel_rfl) (by kernel_rfl) (fun _ _ _ h => h) (Or.inl ⟨by kernel_rfl, ?_⟩) (by assumption) ?_
            rotate_left
            · ((intro w hSw; go_simp) <;> with_reducible rfl)
            try simp only [Act.put, List.setIfInBounds_toArray, List.set_cons_zero, List.set_cons_succ]
            refine Rk.takeP (i := 6) (v := ?_) rfl (by kernel_rfl) (by kernel_rfl) (by kernel_rfl) (by kernel_rfl) (fun _ _ _ h => h) (Or.inl ⟨by kernel_rfl, ?_⟩) (by assumption) ?_
            rotate_left
            · ((intro w hSw; go_simp) <;> with_reducible rfl)
            try simp only [Act.put, List.setIfInBounds_toArray, List.set_cons_zero, List.set_cons_succ]
            refine Rk.tail [8, 9] [_, _] (by kernel_rfl) (by kernel_rfl) rfl (by decide) ?_
            obtain ⟨a0, a1, a2, a3, b0, b1, b2, b3, s0, s1, s2, s3, K8⟩ := hHeld
            have qlm : gs.heap.size < quw3.heap.size := World.block_lt_of_cell? _ _ qm0
            have qlw : w.heap.size ≤ gs.heap.size := by omega
            have qne0 : gs.heap.size ≠ w.heap.size := by omega
            have qne1 : gs.heap.size ≠ w.heap.size + 1 := by omega
            have qne2 : gs.heap.size ≠ uw3.heap.size := by omega
            have qlo0 : w.heap.size < quw3.heap.size := by omega
            have qlo1 : w.heap.size + 1 < quw3.heap.size := by omega
            have qlo2 : uw3.heap.size < quw3.heap.size := by omega
            go_wp2_with fail
            have a0 : ((((quw3.setCell ⟨gs.heap.size, 0, none⟩ (.int .i64 n1)).setCell ⟨gs.heap.size, 1, none⟩ (.int .i64 d1)).setCell ⟨gs.heap.size, 2, none⟩ (.int .i64 t1)).setCell ⟨gs.heap.size, 3, none⟩ (.int .i64 u1)).cell? ⟨w.heap.size, 0, none⟩ = some (.int .i64 n1) := far4 qne0 a0
            have a1 : ((((quw3.setCell ⟨gs.heap.size, 0, none⟩ (.int .i64 n1)).setCell ⟨gs.heap.size, 1, none⟩ (.int .i64 d1)).setCell ⟨gs.heap.size, 2, none⟩ (.int .i64 t1)).setCell ⟨gs.heap.size, 3, none⟩ (.int .i64 u1)).cell? ⟨w.heap.size, 1, none⟩ = some (.int .i64 d1) := far4 qne0 a1
            have a2 : ((((quw3.setCell ⟨gs.heap.size, 0, none⟩ (.int .i64 n1)).setCell ⟨gs.heap.size, 1, none⟩ (.int .i64 d1)).setCell ⟨gs.heap.size, 2, none⟩ (.int .i64 t1)).setCell ⟨gs.heap.size, 3, none⟩ (.int .i64 u1)).cell? ⟨w.heap.size, 2, none⟩ = some (.int .i64 t1) := far4 qne0 a2
            have a3 : ((((quw3.setCell ⟨gs.heap.size, 0, none⟩ (.int .i64 n1)).setCell ⟨gs.heap.size, 1, none⟩ (.int .i64 d1)).setCell ⟨gs.heap.size, 2, none⟩ (.int .i64 t1)).setCell ⟨gs.heap.size, 3, none⟩ (.int .i64 u1)).cell? ⟨w.heap.size, 3, none⟩ = some (.int .i64 u1) := far4 qne0 a3
            have b0 : ((((quw3.setCell ⟨gs.heap.size, 0, none⟩ (.int .i64 n1)).setCell ⟨gs.heap.size, 1, none⟩ (.int .i64 d1)).setCell ⟨gs.heap.size, 2, none⟩ (.int .i64 t1)).setCell ⟨gs.heap.size, 3, none⟩ (.int .i64 u1)).cell? ⟨w.heap.size + 1, 0, none⟩ = some (.int .i64 n2) := far4 qne1 b0
            have b1 : ((((quw3.setCell ⟨gs.heap.size, 0, none⟩ (.int .i64 n1)).setCell ⟨gs.heap.size, 1, none⟩ (.int .i64 d1)).setCell ⟨gs.heap.size, 2, none⟩ (.int .i64 t1)).setCell ⟨gs.heap.size, 3, none⟩ (.int .i64 u1)).cell? ⟨w.heap.size + 1, 1, none⟩ = some (.int .i64 d2) := far4 qne1 b1
            have b2 : ((((quw3.setCell ⟨gs.heap.size, 0, none⟩ (.int .i64 n1)).setCell ⟨gs.heap.size, 1, none⟩ (.int .i64 d1)).setCell ⟨gs.heap.size, 2, none⟩ (.int .i64 t1)).setCell ⟨gs.heap.size, 3, none⟩ (.int .i64 u1)).cell? ⟨w.heap.size + 1, 2, none⟩ = some (.int .i64 t2) := far4 qne1 b2
            have b3 : ((((quw3.setCell ⟨gs.heap.size, 0, none⟩ (.int .i64 n1)).setCell ⟨gs.heap.size, 1, none⟩ (.int .i64 d1)).setCell ⟨gs.heap.size, 2, none⟩ (.int .i64 t1)).setCell ⟨gs.heap.size, 3, none⟩ (.int .i64 u1)).cell? ⟨w.heap.size + 1, 3, none⟩ = some (.int .i64 u2) := far4 qne1 b3
            have s0 : ((((quw3.setCell ⟨gs.heap.size, 0, none⟩ (.int .i64 n1)).setCell ⟨gs.heap.size, 1, none⟩ (.int .i64 d1)).setCell ⟨gs.heap.size, 2, none⟩ (.int .i64 t1)).setCell ⟨gs.heap.size, 3, none⟩ (.int .i64 u1)).cell? ⟨uw3.heap.size, 0, none⟩ = some (.int .i64 x) := far4 qne2 s0
            have s1 : ((((quw3.setCell ⟨gs.heap.size, 0, none⟩ (.int .i64 n1)).setCell ⟨gs.heap.size, 1, none⟩ (.int .i64 d1)).setCell ⟨gs.heap.size, 2, none⟩ (.int .i64 t1)).setCell ⟨gs.heap.size, 3, none⟩ (.int .i64 u1)).cell? ⟨uw3.heap.size, 1, none⟩ = some (.int .i64 y) := far4 qne2 s1
            have s2 : ((((quw3.setCell ⟨gs.heap.size, 0, none⟩ (.int .i64 n1)).setCell ⟨gs.heap.size, 1, none⟩ (.int .i64 d1)).setCell ⟨gs.heap.size, 2, none⟩ (.int .i64 t1)).setCell ⟨gs.heap.size, 3, none⟩ (.int .i64 u1)).cell? ⟨uw3.heap.size, 2, none⟩ = some (.int .i64 z) := far4 qne2 s2
            have s3 : ((((quw3.setCell ⟨gs.heap.size, 0, none⟩ (.int .i64 n1)).setCell ⟨gs.heap.size, 1, none⟩ (.int .i64 d1)).setCell ⟨gs.heap.size, 2, none⟩ (.int .i64 t1)).setCell ⟨gs.heap.size, 3, none⟩ (.int .i64 u1)).cell? ⟨uw3.heap.size, 3, none⟩ = some (.int .i64 s) := far4 qne2 s3
            have hst := st4 (x := .int .i64 n1) (y := .int .i64 d1) (z := .int .i64 t1) (t := .int .i64 u1) qm0 qm1 qm2 qm3
            obtain ⟨qs0, qs1, qs2, qs3⟩ := hst
            have KqS : Below w.heap.size w ((((quw3.setCell ⟨gs.heap.size, 0, none⟩ (.int .i64 n1)).setCell ⟨gs.heap.size, 1, none⟩ (.int .i64 d1)).setCell ⟨gs.heap.size, 2, none⟩ (.int .i64 t1)).setCell ⟨gs.heap.size, 3, none⟩ (.int .i64 u1)) := (Below.setCell (Below.setCell (Below.setCell (Below.setCell K8 (by dsimp only; omega) _) (by dsimp only; omega) _) (by dsimp only; omega) _) (by dsimp only; omega) _)
            have qlm : gs.heap.size < ((((quw3.setCell ⟨gs.heap.size, 0, none⟩ (.int .i64 n1)).setCell ⟨gs.heap.size, 1, none⟩ (.int .i64 d1)).setCell ⟨gs.heap.size, 2, none⟩ (.int .i64 t1)).setCell ⟨gs.heap.size, 3, none⟩ (.int .i64 u1)).heap.size := World.block_lt_of_cell? _ _ qs0
            have qlo0 : w.heap.size < ((((quw3.setCell ⟨gs.heap.size, 0, none⟩ (.int .i64 n1)).setCell ⟨gs.heap.size, 1, none⟩ (.int .i64 d1)).setCell ⟨gs.heap.size, 2, none⟩ (.int .i64 t1)).setCell ⟨gs.heap.size, 3, none⟩ (.int .i64 u1)).heap.size := by simp; omega
            have qlo1 : w.heap.size + 1 < ((((quw3.setCell ⟨gs.heap.size, 0, none⟩ (.int .i64 n1)).setCell ⟨gs.heap.size, 1, none⟩ (.int .i64 d1)).setCell ⟨gs.heap.size, 2, none⟩ (.int .i64 t1)).setCell ⟨gs.heap.size, 3, none⟩ (.int .i64 u1)).heap.size := by simp; omega
            have qlo2 : uw3.heap.size < ((((quw3.setCell ⟨gs.heap.size, 0, none⟩ (.int .i64 n1)).setCell ⟨gs.heap.size, 1, none⟩ (.int .i64 d1)).setCell ⟨gs.heap.size, 2, none⟩ (.int .i64 t1)).setCell ⟨gs.heap.size, 3, none⟩ (.int .i64 u1)).heap.size := by simp; omega
            clear K8 qm0 qfm0 qm1 qfm1 qm2 qfm2 qm3 qfm3
            generalize ((((quw3.setCell ⟨gs.heap.size, 0, none⟩ (.int .i64 n1)).setCell ⟨gs.heap.size, 1, none⟩ (.int .i64 d1)).setCell ⟨gs.heap.size, 2, none⟩ (.int .i64 t1)).setCell ⟨gs.heap.size, 3, none⟩ (.int .i64 u1)) = qgs at *
            go_wp2_with (first | (go_at_call 9; (with_reducible refine (SM.out _).mono ?_); rintro e w7 ⟨rfl, hb7⟩; have hc7 := (bcell hb7).1; have hf7 := (bcell hb7).2; have z7_0 : w.heap.size < w7.heap.size := (by have hzz := hb7.size; (try simp at hzz); omega); have z7_1 : w.heap.size + 1 < w7.heap.size := (by have hzz := hb7.size; (try simp at hzz); omega); have z7_2 : uw3.heap.size < w7.heap.size := (by have hzz := hb7.size; (try simp at hzz); omega); have z7_3 : gs.heap.size < w7.heap.size := (by have hzz := hb7.size; (try simp at hzz); omega); have K7 : Below w.heap.size w w7 := Below.trans (b := _) (by (repeat' (first | (with_reducible exact Below.refl _ _) | (with_reducible exact KqS) | (with_reducible exact KqS.size) | (with_reducible refine Below.alloc ?_ ?_ _) | (with_reducible refine Below.setCell ?_ ?_ _) | (with_reducible refine below_drewN ?_ _) | (simp; done) | omega | (simp; omega)))) (hb7.mono (by have hzz := hb7.size; (try simp at hzz); first | omega | (simp; done) | (simp; omega)))) | (go_at_call 10; (with_reducible refine (AL.out _).mono ?_); rintro e w8 ⟨rfl, hb8⟩; have hc8 := (bcell hb8).1; have hf8 := (bcell hb8).2; have K8 : Below w.heap.size w w8 := Below.trans (b := _) (by (repeat' (first | (with_reducible exact Below.refl _ _) | (with_reducible exact KqS) | (with_reducible exact KqS.size) | (with_reducible exact K7) | (with_reducible exact K7.size) | (with_reducible refine Below.alloc ?_ ?_ _) | (with_reducible refine Below.setCell ?_ ?_ _) | (with_reducible refine below_drewN ?_ _) | (simp; done) | omega | (simp; omega)))) (hb8.mono (by have hzz := hb8.size; (try simp at hzz); first | omega | (simp; done) | (simp; omega)))))
            go_ret
            exact ⟨rfl, K8⟩
        · have f1 : (e == 0) = false := by simpa using he
          have f2 : (e != 0) = true := by simpa using he
          clear he AP2
          go_wp2_with fail
          have a0 : ((((uw4.setCell ⟨uw3.heap.size, 0, none⟩ (.int .i64 x)).setCell ⟨uw3.heap.size, 1, none⟩ (.int .i64 y)).setCell ⟨uw3.heap.size, 2, none⟩ (.int .i64 z)).setCell ⟨uw3.heap.size, 3, none⟩ (.int .i64 s)).cell? ⟨w.heap.size, 0, none⟩ = some (.int .i64 n1) := far4 ne0 a0
          have a1 : ((((uw4.setCell ⟨uw3.heap.size, 0, none⟩ (.int .i64 x)).setCell ⟨uw3.heap.size, 1, none⟩ (.int .i64 y)).setCell ⟨uw3.heap.size, 2, none⟩ (.int .i64 z)).setCell ⟨uw3.heap.size, 3, none⟩ (.int .i64 s)).cell? ⟨w.heap.size, 1, none⟩ = some (.int .i64 d1) := far4 ne0 a1
          have a2 : ((((uw4.setCell ⟨uw3.heap.size, 0, none⟩ (.int .i64 x)).setCell ⟨uw3.heap.size, 1, none⟩ (.int .i64 y)).setCell ⟨uw3.heap.size, 2, none⟩ (.int .i64 z)).setCell ⟨uw3.heap.size, 3, none⟩ (.int .i64 s)).cell? ⟨w.heap.size, 2, none⟩ = some (.int .i64 t1) := far4 ne0 a2
          have a3 : ((((uw4.setCell ⟨uw3.heap.size, 0, none⟩ (.int .i64 x)).setCell ⟨uw3.heap.size, 1, none⟩ (.int .i64 y)).setCell ⟨uw3.heap.size, 2, none⟩ (.int .i64 z)).setCell ⟨uw3.heap.size, 3, none⟩ (.int .i64 s)).cell? ⟨w.heap.size, 3, none⟩ = some (.int .i64 u1) := far4 ne0 a3
          have b0 : ((((uw4.setCell ⟨uw3.heap.size, 0, none⟩ (.int .i64 x)).setCell ⟨uw3.heap.size, 1, none⟩ (.int .i64 y)).setCell ⟨uw3.heap.size, 2, none⟩ (.int .i64 z)).setCell ⟨uw3.heap.size, 3, none⟩ (.int .i64 s)).cell? ⟨w.heap.size + 1, 0, none⟩ = some (.int .i64 n2) := far4 ne1 b0
          have b1 : ((((uw4.setCell ⟨uw3.heap.size, 0, none⟩ (.int .i64 x)).setCell ⟨uw3.heap.size, 1, none⟩ (.int .i64 y)).setCell ⟨uw3.heap.size, 2, none⟩ (.int .i64 z)).setCell ⟨uw3.heap.size, 3, none⟩ (.int .i64 s)).cell? ⟨w.heap.size + 1, 1, none⟩ = some (.int .i64 d2) := far4 ne1 b1
          have b2 : ((((uw4.setCell ⟨uw3.heap.size, 0, none⟩ (.int .i64 x)).setCell ⟨uw3.heap.size, 1, none⟩ (.int .i64 y)).setCell ⟨uw3.heap.size, 2, none⟩ (.int .i64 z)).setCell ⟨uw3.heap.size, 3, none⟩ (.int .i64 s)).cell? ⟨w.heap.size + 1, 2, none⟩ = some (.int .i64 t2) := far4 ne1 b2
          have b3 : ((((uw4.setCell ⟨uw3.heap.size, 0, none⟩ (.int .i64 x)).setCell ⟨uw3.heap.size, 1, none⟩ (.int .i64 y)).setCell ⟨uw3.heap.size, 2, none⟩ (.int .i64 z)).setCell ⟨uw3.heap.size, 3, none⟩ (.int .i64 s)).cell? ⟨w.heap.size + 1, 3, none⟩ = some (.int .i64 u2) := far4 ne1 b3
          have hst := st4 (x := .int .i64 x) (y := .int .i64 y) (z := .int .i64 z) (t := .int .i64 s) m0 m1 m2 m3
          obtain ⟨s0, s1, s2, s3⟩ := hst
          have KS : Below w.heap.size w ((((uw4.setCell ⟨uw3.heap.size, 0, none⟩ (.int .i64 x)).setCell ⟨uw3.heap.size, 1, none⟩ (.int .i64 y)).setCell ⟨uw3.heap.size, 2, none⟩ (.int .i64 z)).setCell ⟨uw3.heap.size, 3, none⟩ (.int .i64 s)) := (Below.setCell (Below.setCell (Below.setCell (Below.setCell K9 (by dsimp only; omega) _) (by dsimp only; omega) _) (by dsimp only; omega) _) (by dsimp only; omega) _)
          have lm : uw3.heap.size < ((((uw4.setCell ⟨uw3.heap.size, 0, none⟩ (.int .i64 x)).setCell ⟨uw3.heap.size, 1, none⟩ (.int .i64 y)).setCell ⟨uw3.heap.size, 2, none⟩ (.int .i64 z)).setCell ⟨uw3.heap.size, 3, none⟩ (.int .i64 s)).heap.size := World.block_lt_of_cell? _ _ s0
          have lo0 : w.heap.size < ((((uw4.setCell ⟨uw3.heap.size, 0, none⟩ (.int .i64 x)).setCell ⟨uw3.heap.size, 1, none⟩ (.int .i64 y)).setCell ⟨uw3.heap.size, 2, none⟩ (.int .i64 z)).setCell ⟨uw3.heap.size, 3, none⟩ (.int .i64 s)).heap.size := by simp; omega
          have lo1 : w.heap.size + 1 < ((((uw4.setCell ⟨uw3.heap.size, 0, none⟩ (.int .i64 x)).setCell ⟨uw3.heap.size, 1, none⟩ (.int .i64 y)).setCell ⟨uw3.heap.size, 2, none⟩ (.int .i64 z)).setCell ⟨uw3.heap.size, 3, none⟩ (.int .i64 s)).heap.size := by simp; omega
          clear K9 m0 fm0 m1 fm1 m2 fm2 m3 fm3
          generalize ((((uw4.setCell ⟨uw3.heap.size, 0, none⟩ (.int .i64 x)).setCell ⟨uw3.heap.size, 1, none⟩ (.int .i64 y)).setCell ⟨uw3.heap.size, 2, none⟩ (.int .i64 z)).setCell ⟨uw3.heap.size, 3, none⟩ (.int .i64 s)) = gs at *
          go_wp2_with (first | (go_at_call 8; (with_reducible refine (RA.out _).mono ?_); rintro e w5 ⟨rfl, hb5⟩; have hc5 := (bcell hb5).1; have hf5 := (bcell hb5).2; have z5_0 : w.heap.size < w5.heap.size := (by have hzz := hb5.size; (try simp at hzz); omega); have z5_1 : w.heap.size + 1 < w5.heap.size := (by have hzz := hb5.size; (try simp at hzz); omega); have z5_2 : uw3.heap.size < w5.heap.size := (by have hzz := hb5.size; (try simp at hzz); omega); have K5 : Below w.heap.size w w5 := Below.trans (b := _) (by (repeat' (first | (with_reducible exact Below.refl _ _) | (with_reducible exact KS) | (with_reducible exact KS.size) | (with_reducible refine Below.alloc ?_ ?_ _) | (with_reducible refine Below.setCell ?_ ?_ _) | (with_reducible refine below_drewN ?_ _) | (simp; done) | omega | (simp; omega)))) (hb5.mono (by have hzz := hb5.size; (try simp at hzz); first | omega | (simp; done) | (simp; omega)))) | (go_at_call 10; (with_reducible refine (AL.out _).mono ?_); rintro e w6 ⟨rfl, hb6⟩; have hc6 := (bcell hb6).1; have hf6 := (bcell hb6).2; have K6 : Below w.heap.size w w6 := Below.trans (b := _) (by (repeat' (first | (with_reducible exact Below.refl _ _) | (with_reducible exact KS) | (with_reducible exact KS.size) | (with_reducible exact K5) | (with_reducible exact K5.size) | (with_reducible refine Below.alloc ?_ ?_ _) | (with_reducible refine Below.setCell ?_ ?_ _) | (with_reducible refine below_drewN ?_ _) | (simp; done) | omega | (simp; omega)))) (hb6.mono (by have hzz := hb6.size; (try simp at hzz); first | omega | (simp; done) | (simp; omega)))))
          go_ret
          exact ⟨rfl, K6⟩
    · rw [if_pos (by kernel_rfl)]
      go_simp
      have hNew := HS.out _ _ hHeld ((Below.refl _ _).alloc (Nat.le_refl _) (Obj.cells #[Value.int .i64 0, Value.int .i64 0, Value.int .i64 0, Value.int .i64 0] 26))
      refine hK.out _ _ hNew (fun _ => ?_)
      replace hHeld := hNew
      clear hNew
      clear hK KK
      refine Rk.one (i := 3) (by kernel_rfl) rfl (fun KK hK => ?_)
      rw [if_pos (by kernel_rfl)]
      go_simp
      (refine (IN2.out _).mono ?_; rintro e uw3 ⟨rfl, hb⟩)
      have hNew := HS.out _ _ hHeld hb
      have hs_uw3 : zw1.heap.size ≤ uw3.heap.size := by have hzz := hb.size; (try simp at hzz); omega
      have m0 : uw3.cell? ⟨uw1.heap.size, 0, none⟩ = some (.int .i64 0) := Rg.keep hb (by simp) (by go_cell)
      have fm0 : uw3.frozen? ⟨uw1.heap.size, 0, none⟩ = false := Rg.keepF hb (by simp) (by show (uw1.alloc (Obj.cells #[Value.int .i64 0, Value.int .i64 0, Value.int .i64 0, Value.int .i64 0] 26)).frozen? ⟨uw1.heap.size, 0, none⟩ = false; simp only [frozen?_alloc_cells]; exact Rg.notFrozen (Nat.le_refl _))
      have m1 : uw3.cell? ⟨uw1.heap.size, 1, none⟩ = some (.int .i64 0) := Rg.keep hb (by simp) (by go_cell)
      have fm1 : uw3.frozen? ⟨uw1.heap.size, 1, none⟩ = false := Rg.keepF hb (by simp) (by show (uw1.alloc (Obj.cells #[Value.int .i64 0, Value.int .i64 0, Value.int .i64 0, Value.int .i64 0] 26)).frozen? ⟨uw1.heap.size, 1, none⟩ = false; simp only [frozen?_alloc_cells]; exact Rg.notFrozen (Nat.le_refl _))
      have m2 : uw3.cell? ⟨uw1.heap.size, 2, none⟩ = some (.int .i64 0) := Rg.keep hb (by simp) (by go_cell)
      have fm2 : uw3.frozen? ⟨uw1.heap.size, 2, none⟩ = false := Rg.keepF hb (by simp) (by show (uw1.alloc (Obj.cells #[Value.int .i64 0, Value.int .i64 0, Value.int .i64 0, Value.int .i64 0] 26)).frozen? ⟨uw1.heap.size, 2, none⟩ = false; simp only [frozen?_alloc_cells]; exact Rg.notFrozen (Nat.le_refl _))
      have m3 : uw3.cell? ⟨uw1.heap.size, 3, none⟩ = some (.int .i64 0) := Rg.keep hb (by simp) (by go_cell)
      have fm3 : uw3.frozen? ⟨uw1.heap.size, 3, none⟩ = false := Rg.keepF hb (by simp) (by show (uw1.alloc (Obj.cells #[Value.int .i64 0, Value.int .i64 0, Value.int .i64 0, Value.int .i64 0] 26)).frozen? ⟨uw1.heap.size, 3, none⟩ = false; simp only [frozen?_alloc_cells]; exact Rg.notFrozen (Nat.le_refl _))
      first | (refine hK.out _ _ (fun _ => hNew) (fun _ => ?_)) | (refine hK.out _ _ hNew (fun _ => ?_)) | (go_wp2_with fail; refine hK.out _ _ hNew (fun _ => ?_))
      replace hHeld := hNew
      clear hNew hb
      clear hK KK
      refine Rk.one (i := 4) (by kernel_rfl) rfl (fun KK hK => ?_)
      rw [if_pos (by kernel_rfl)]
      go_simp
      (refine (AP.out _).mono ?_; rintro e uw4 ⟨rfl, hb⟩)
      have hNew := HS.out _ _ hHeld hb
      have hs_uw4 : zw1.heap.size ≤ uw4.heap.size := by have hzz := hb.size; (try simp at hzz); omega
      have lm : uw1.heap.size < uw3.heap.size := World.block_lt_of_cell? _ _ m0
      have fm0 := Rg.keepF hb lm fm0
      have fm1 := Rg.keepF hb lm fm1
      have fm2 := Rg.keepF hb lm fm2
      have fm3 := Rg.keepF hb lm fm3
      have m0 := Rg.keep hb lm m0
      have m1 := Rg.keep hb lm m1
      have m2 := Rg.keep hb lm m2
      have m3 := Rg.keep hb lm m3
      clear lm
      first | (refine hK.out _ _ (fun _ => hNew) (fun _ => ?_)) | (refine hK.out _ _ hNew (fun _ => ?_)) | (go_wp2_with fail; refine hK.out _ _ hNew (fun _ => ?_))
      replace hHeld := hNew
      clear hNew hb
      clear hK KK
      refine Rk.takeP (i := 5) (v := ?_) rfl (by kernel_rfl) (by kernel_rfl) (by kernel_rfl) (by kernel_rfl) (fun _ _ _ h => h) (Or.inl ⟨by kernel_rfl, ?_⟩) (by assumption) ?_
      rotate_left
      · ((intro w hSw; go_simp) <;> with_reducible rfl)
      try simp only [Act.put, List.setIfInBounds_toArray, List.set_cons_zero, List.set_cons_succ]
      refine Rk.takeP (i := 6) (v := ?_) rfl (by kernel_rfl) (by kernel_rfl) (by kernel_rfl) (by kernel_rfl) (fun _ _ _ h => h) (Or.inl ⟨by kernel_rfl, ?_⟩) (by assumption) ?_
      rotate_left
      · ((intro w hSw; go_simp) <;> with_reducible rfl)
      try simp only [Act.put, List.setIfInBounds_toArray, List.set_cons_zero, List.set_cons_succ]
      refine Rk.takeP (i := 7) (v := ?_) rfl (by kernel_rfl) (by kernel_rfl) (by kernel_rfl) (by kernel_rfl) (fun _ _ _ h => h) (Or.inl ⟨by kernel_rfl, ?_⟩) (by assumption) ?_
      rotate_left
      · ((intro w hSw; go_simp) <;> with_reducible rfl)
      try simp only [Act.put, List.setIfInBounds_toArray, List.set_cons_zero, List.set_cons_succ]
      refine Rk.tail [9, 10] [_, _] (by kernel_rfl) (by kernel_rfl) rfl (by decide) ?_
      obtain ⟨a0, a1, a2, a3, b0, b1, b2, b3, K9⟩ := hHeld
      have lm : uw1.heap.size < uw4.heap.size := World.block_lt_of_cell? _ _ m0
      have lw : w.heap.size ≤ uw1.heap.size := by omega
      have ne0 : uw1.heap.size ≠ w.heap.size := by omega
      have ne1 : uw1.heap.size ≠ w.heap.size + 1 := by omega
      have lo0 : w.heap.size < uw4.heap.size := by omega
      have lo1 : w.heap.size + 1 < uw4.heap.size := by omega
      by_cases he : e = 0
      · subst he
        have hback := BACK.out rfl
        rw [hback] at AP2
        clear RA
        go_wp2_with fail
        have a0 : ((((uw4.setCell ⟨uw1.heap.size, 0, none⟩ (.int .i64 x)).setCell ⟨uw1.heap.size, 1, none⟩ (.int .i64 y)).setCell ⟨uw1.heap.size, 2, none⟩ (.int .i64 z)).setCell ⟨uw1.heap.size, 3, none⟩ (.int .i64 s)).cell? ⟨w.heap.size, 0, none⟩ = some (.int .i64 n1) := far4 ne0 a0
        have a1 : ((((uw4.setCell ⟨uw1.heap.size, 0, none⟩ (.int .i64 x)).setCell ⟨uw1.heap.size, 1, none⟩ (.int .i64 y)).setCell ⟨uw1.heap.size, 2, none⟩ (.int .i64 z)).setCell ⟨uw1.heap.size, 3, none⟩ (.int .i64 s)).cell? ⟨w.heap.size, 1, none⟩ = some (.int .i64 d1) := far4 ne0 a1
        have a2 : ((((uw4.setCell ⟨uw1.heap.size, 0, none⟩ (.int .i64 x)).setCell ⟨uw1.heap.size, 1, none⟩ (.int .i64 y)).setCell ⟨uw1.heap.size, 2, none⟩ (.int .i64 z)).setCell ⟨uw1.heap.size, 3, none⟩ (.int .i64 s)).cell? ⟨w.heap.size, 2, none⟩ = some (.int .i64 t1) := far4 ne0 a2
        have a3 : ((((uw4.setCell ⟨uw1.heap.size, 0, none⟩ (.int .i64 x)).setCell ⟨uw1.heap.size, 1, none⟩ (.int .i64 y)).setCell ⟨uw1.heap.size, 2, none⟩ (.int .i64 z)).setCell ⟨uw1.heap.size, 3, none⟩ (.int .i64 s)).cell? ⟨w.heap.size, 3, none⟩ = some (.int .i64 u1) := far4 ne0 a3
        have b0 : ((((uw4.setCell ⟨uw1.heap.size, 0, none⟩ (.int .i64 x)).setCell ⟨uw1.heap.size, 1, none⟩ (.int .i64 y)).setCell ⟨uw1.heap.size, 2, none⟩ (.int .i64 z)).setCell ⟨uw1.heap.size, 3, none⟩ (.int .i64 s)).cell? ⟨w.heap.size + 1, 0, none⟩ = some (.int .i64 n2) := far4 ne1 b0
        have b1 : ((((uw4.setCell ⟨uw1.heap.size, 0, none⟩ (.int .i64 x)).setCell ⟨uw1.heap.size, 1, none⟩ (.int .i64 y)).setCell ⟨uw1.heap.size, 2, none⟩ (.int .i64 z)).setCell ⟨uw1.heap.size, 3, none⟩ (.int .i64 s)).cell? ⟨w.heap.size + 1, 1, none⟩ = some (.int .i64 d2) := far4 ne1 b1
        have b2 : ((((uw4.setCell ⟨uw1.heap.size, 0, none⟩ (.int .i64 x)).setCell ⟨uw1.heap.size, 1, none⟩ (.int .i64 y)).setCell ⟨uw1.heap.size, 2, none⟩ (.int .i64 z)).setCell ⟨uw1.heap.size, 3, none⟩ (.int .i64 s)).cell? ⟨w.heap.size + 1, 2, none⟩ = some (.int .i64 t2) := far4 ne1 b2
        have b3 : ((((uw4.setCell ⟨uw1.heap.size, 0, none⟩ (.int .i64 x)).setCell ⟨uw1.heap.size, 1, none⟩ (.int .i64 y)).setCell ⟨uw1.heap.size, 2, none⟩ (.int .i64 z)).setCell ⟨uw1.heap.size, 3, none⟩ (.int .i64 s)).cell? ⟨w.heap.size + 1, 3, none⟩ = some (.int .i64 u2) := far4 ne1 b3
        have hst := st4 (x := .int .i64 x) (y := .int .i64 y) (z := .int .i64 z) (t := .int .i64 s) m0 m1 m2 m3
        obtain ⟨s0, s1, s2, s3⟩ := hst
        have KS : Below w.heap.size w ((((uw4.setCell ⟨uw1.heap.size, 0, none⟩ (.int .i64 x)).setCell ⟨uw1.heap.size, 1, none⟩ (.int .i64 y)).setCell ⟨uw1.heap.size, 2, none⟩ (.int .i64 z)).setCell ⟨uw1.heap.size, 3, none⟩ (.int .i64 s)) := (Below.setCell (Below.setCell (Below.setCell (Below.setCell K9 (by dsimp only; omega) _) (by dsimp only; omega) _) (by dsimp only; omega) _) (by dsimp only; omega) _)
        have lm : uw1.heap.size < ((((uw4.setCell ⟨uw1.heap.size, 0, none⟩ (.int .i64 x)).setCell ⟨uw1.heap.size, 1, none⟩ (.int .i64 y)).setCell ⟨uw1.heap.size, 2, none⟩ (.int .i64 z)).setCell ⟨uw1.heap.size, 3, none⟩ (.int .i64 s)).heap.size := World.block_lt_of_cell? _ _ s0
        have lo0 : w.heap.size < ((((uw4.setCell ⟨uw1.heap.size, 0, none⟩ (.int .i64 x)).setCell ⟨uw1.heap.size, 1, none⟩ (.int .i64 y)).setCell ⟨uw1.heap.size, 2, none⟩ (.int .i64 z)).setCell ⟨uw1.heap.size, 3, none⟩ (.int .i64 s)).heap.size := by simp; omega
        have lo1 : w.heap.size + 1 < ((((uw4.setCell ⟨uw1.heap.size, 0, none⟩ (.int .i64 x)).setCell ⟨uw1.heap.size, 1, none⟩ (.int .i64 y)).setCell ⟨uw1.heap.size, 2, none⟩ (.int .i64 z)).setCell ⟨uw1.heap.size, 3, none⟩ (.int .i64 s)).heap.size := by simp; omega
        clear K9 m0 fm0 m1 fm1 m2 fm2 m3 fm3
        generalize ((((uw4.setCell ⟨uw1.heap.size, 0, none⟩ (.int .i64 x)).setCell ⟨uw1.heap.size, 1, none⟩ (.int .i64 y)).setCell ⟨uw1.heap.size, 2, none⟩ (.int .i64 z)).setCell ⟨uw1.heap.size, 3, none⟩ (.int .i64 s)) = gs at *
        have hz2 : gs.cell? ⟨w.heap.size, 0, none⟩ = some (.int .i64 n1) ∧ gs.cell? ⟨w.heap.size, 1, none⟩ = some (.int .i64 d1) ∧ gs.cell? ⟨w.heap.size, 2, none⟩ = some (.int .i64 t1) ∧ gs.cell? ⟨w.heap.size, 3, none⟩ = some (.int .i64 u1) ∧ gs.cell? ⟨w.heap.size + 1, 0, none⟩ = some (.int .i64 n2) ∧ gs.cell? ⟨w.heap.size + 1, 1, none⟩ = some (.int .i64 d2) ∧ gs.cell? ⟨w.heap.size + 1, 2, none⟩ = some (.int .i64 t2) ∧ gs.cell? ⟨w.heap.size + 1, 3, none⟩ = some (.int .i64 u2) ∧ gs.cell? ⟨uw1.heap.size, 0, none⟩ = some (.int .i64 x) ∧ gs.cell? ⟨uw1.heap.size, 1, none⟩ = some (.int .i64 y) ∧ gs.cell? ⟨uw1.heap.size, 2, none⟩ = some (.int .i64 z) ∧ gs.cell? ⟨uw1.heap.size, 3, none⟩ = some (.int .i64 s) ∧ Below w.heap.size w gs := ⟨a0, a1, a2, a3, b0, b1, b2, b3, s0, s1, s2, s3, KS⟩
        clear a0 a1 a2 a3 b0 b1 b2 b3 s0 s1 s2 s3 KS
        have qHS : Hid (∀ u u' : World, (u.cell? ⟨w.heap.size, 0, none⟩ = some (.int .i64 n1) ∧ u.cell? ⟨w.heap.size, 1, none⟩ = some (.int .i64 d1) ∧ u.cell? ⟨w.heap.size, 2, none⟩ = some (.int .i64 t1) ∧ u.cell? ⟨w.heap.size, 3, none⟩ = some (.int .i64 u1) ∧ u.cell? ⟨w.heap.size + 1, 0, none⟩ = some (.int .i64 n2) ∧ u.cell? ⟨w.heap.size + 1, 1, none⟩ = some (.int .i64 d2) ∧ u.cell? ⟨w.heap.size + 1, 2, none⟩ = some (.int .i64 t2) ∧ u.cell? ⟨w.heap.size + 1, 3, none⟩ = some (.int .i64 u2) ∧ u.cell? ⟨uw1.heap.size, 0, none⟩ = some (.int .i64 x) ∧ u.cell? ⟨uw1.heap.size, 1, none⟩ = some (.int .i64 y) ∧ u.cell? ⟨uw1.heap.size, 2, none⟩ = some (.int .i64 z) ∧ u.cell? ⟨uw1.heap.size, 3, none⟩ = some (.int .i64 s) ∧ Below w.heap.size w u) → Below u.heap.size u u' → (u'.cell? ⟨w.heap.size, 0, none⟩ = some (.int .i64 n1) ∧ u'.cell? ⟨w.heap.size, 1, none⟩ = some (.int .i64 d1) ∧ u'.cell? ⟨w.heap.size, 2, none⟩ = some (.int .i64 t1) ∧ u'.cell? ⟨w.heap.size, 3, none⟩ = some (.int .i64 u1) ∧ u'.cell? ⟨w.heap.size + 1, 0, none⟩ = some (.int .i64 n2) ∧ u'.cell? ⟨w.heap.size + 1, 1, none⟩ = some (.int .i64 d2) ∧ u'.cell? ⟨w.heap.size + 1, 2, none⟩ = some (.int .i64 t2) ∧ u'.cell? ⟨w.heap.size + 1, 3, none⟩ = some (.int .i64 u2) ∧ u'.cell? ⟨uw1.heap.size, 0, none⟩ = some (.int .i64 x) ∧ u'.cell? ⟨uw1.heap.size, 1, none⟩ = some (.int .i64 y) ∧ u'.cell? ⟨uw1.heap.size, 2, none⟩ = some (.int .i64 z) ∧ u'.cell? ⟨uw1.heap.size, 3, none⟩ = some (.int .i64 s) ∧ Below w.heap.size w u')) := Lib.hid (fun u u' h hb => ⟨Rg.keep hb (World.block_lt_of_cell? _ _ h.1) h.1, Rg.keep hb (World.block_lt_of_cell? _ _ h.2.1) h.2.1, Rg.keep hb (World.block_lt_of_cell? _ _ h.2.2.1) h.2.2.1, Rg.keep hb (World.block_lt_of_cell? _ _ h.2.2.2.1) h.2.2.2.1, Rg.keep hb (World.block_lt_of_cell? _ _ h.2.2.2.2.1) h.2.2.2.2.1, Rg.keep hb (World.block_lt_of_cell? _ _ h.2.2.2.2.2.1) h.2.2.2.2.2.1, Rg.keep hb (World.block_lt_of_cell? _ _ h.2.2.2.2.2.2.1) h.2.2.2.2.2.2.1, Rg.keep hb (World.block_lt_of_cell? _ _ h.2.2.2.2.2.2.2.1) h.2.2.2.2.2.2.2.1, Rg.keep hb (World.block_lt_of_cell? _ _ h.2.2.2.2.2.2.2.2.1) h.2.2.2.2.2.2.2.2.1, Rg.keep hb (World.block_lt_of_cell? _ _ h.2.2.2.2.2.2.2.2.2.1) h.2.2.2.2.2.2.2.2.2.1, Rg.keep hb (World.block_lt_of_cell? _ _ h.2.2.2.2.2.2.2.2.2.2.1) h.2.2.2.2.2.2.2.2.2.2.1, Rg.keep hb (World.block_lt_of_cell? _ _ h.2.2.2.2.2.2.2.2.2.2.2.1) h.2.2.2.2.2.2.2.2.2.2.2.1, h.2.2.2.2.2.2.2.2.2.2.2.2.trans (hb.mono h.2.2.2.2.2.2.2.2.2.2.2.2.size)⟩)
        refine Rk.begin (S := fun wS => wS.cell? ⟨w.heap.size, 0, none⟩ = some (.int .i64 n1) ∧ wS.cell? ⟨w.heap.size, 1, none⟩ = some (.int .i64 d1) ∧ wS.cell? ⟨w.heap.size, 2, none⟩ = some (.int .i64 t1) ∧ wS.cell? ⟨w.heap.size, 3, none⟩ = some (.int .i64 u1) ∧ wS.cell? ⟨w.heap.size + 1, 0, none⟩ = some (.int .i64 n2) ∧ wS.cell? ⟨w.heap.size + 1, 1, none⟩ = some (.int .i64 d2) ∧ wS.cell? ⟨w.heap.size + 1, 2, none⟩ = some (.int .i64 t2) ∧ wS.cell? ⟨w.heap.size + 1, 3, none⟩ = some (.int .i64 u2) ∧ wS.cell? ⟨uw1.heap.size, 0, none⟩ = some (.int .i64 x) ∧ wS.cell? ⟨uw1.heap.size, 1, none⟩ = some (.int .i64 y) ∧ wS.cell? ⟨uw1.heap.size, 2, none⟩ = some (.int .i64 z) ∧ wS.cell? ⟨uw1.heap.size, 3, none⟩ = some (.int .i64 s) ∧ Below w.heap.size w wS) 8 (by kernel_rfl) (qHS.out _ _ hz2 (Below.drew (Below.refl _ _))) (fun hHeld => ?_)
        refine Rk.take [8] (i := 0) (v := ?_) rfl (by kernel_rfl) (by kernel_rfl) (by kernel_rfl) (by kernel_rfl) (by kernel_rfl) (fun _ _ _ h => h) (Or.inl ⟨by kernel_rfl, ?_⟩) (by assumption) ?_
        rotate_left
        · ((intro w hSw; (try dsimp only at hSw); go_simp) <;> with_reducible rfl)
        try simp only [Act.put, List.setIfInBounds_toArray, List.set_cons_zero, List.set_cons_succ]
        refine Rk.take [8] (i := 1) (v := ?_) rfl (by kernel_rfl) (by kernel_rfl) (by kernel_rfl) (by kernel_rfl) (by kernel_rfl) (fun _ _ _ h => h) (Or.inl ⟨by kernel_rfl, ?_⟩) (by assumption) ?_
        rotate_left
        · ((intro w hSw; (try dsimp only at hSw); go_simp) <;> with_reducible rfl)
        try simp only [Act.put, List.setIfInBounds_toArray, List.set_cons_zero, List.set_cons_succ]
        refine Rk.two (i := 2) (j := 7) (by kernel_rfl) rfl rfl (fun KK hK => ?_) (fun KK hK => ?_)
        · rw [if_pos (by kernel_rfl)]
          go_simp
          (refine (IN2.out _).mono ?_; rintro e quw2 ⟨rfl, hb⟩)
          have hNew := qHS.out _ _ hHeld hb
          have hs_quw2 : gs.heap.size ≤ quw2.heap.size := by have hzz := hb.size; (try simp at hzz); omega
          first | (refine hK.out _ _ (fun _ => hNew) (fun _ => ?_)) | (refine hK.out _ _ hNew (fun _ => ?_)) | (go_wp2_with fail; refine hK.out _ _ hNew (fun _ => ?_))
          replace hHeld := hNew
          clear hNew hb
          clear hK KK
          refine Rk.two (i := 3) (j := 7) (by kernel_rfl) rfl rfl (fun KK hK => ?_) (fun KK hK => ?_)
          · rw [if_pos (by kernel_rfl)]
            go_simp
            (refine (AP2.out _).mono ?_; rintro e quw3 ⟨rfl, hb⟩)
            have hNew := qHS.out _ _ hHeld hb
            have hs_quw3 : gs.heap.size ≤ quw3.heap.size := by have hzz := hb.size; (try simp at hzz); omega
            first | (refine hK.out _ _ (fun _ => hNew) (fun _ => ?_)) | (refine hK.out _ _ hNew (fun _ => ?_)) | (go_wp2_with fail; refine hK.out _ _ hNew (fun _ => ?_))
            replace hHeld := hNew
            clear hNew hb
            clear hK KK
            refine Rk.takeP (i := 4) (v := ?_) rfl (by kernel_rfl) (by kernel_rfl) (by kernel_rfl) (by kernel_rfl) (fun _ _ _ h => h) (Or.inl ⟨by kernel_rfl, ?_⟩) (by assumption) ?_
            rotate_left
            · ((intro w hSw; go_simp) <;> with_reducible rfl)
            try simp only [Act.put, List.setIfInBounds_toArray, List.set_cons_zero, List.set_cons_succ]
            refine Rk.takeP (i := 5) (v := ?_) rfl (by kernel_rfl) (by kernel_rfl) (by kernel_rfl) (by kernel_rfl) (fun _ _ _ h => h) (Or.inl ⟨by kernel_rfl, ?_⟩) (by assumption) ?_
            rotate_left
            · ((intro w hSw; go_simp) <;> with_reducible rfl)
            try simp only [Act.put, List.setIfInBounds_toArray, List.set_cons_zero, List.set_cons_succ]
            refine Rk.takeP (i := 6) (v := ?_) rfl (by kernel_rfl) (by kernel_rfl) (by kernel_rfl) (by kernel_rfl) (fun _ _ _ h => h) (Or.inl ⟨by kernel_rfl, ?_⟩) (by assumption) ?_
            rotate_left
            · ((intro w hSw; go_simp) <;> with_reducible rfl)
            try simp only [Act.put, List.setIfInBounds_toArray, List.set_cons_zero, List.set_cons_succ]
            refine Rk.one (i := 7) (by kernel_rfl) rfl (fun KK hK => ?_)
            rw [if_pos (by kernel_rfl)]
            go_simp
            have hNew := qHS.out _ _ hHeld ((Below.refl _ _).alloc (Nat.le_refl _) (Obj.cells #[Value.int .i64 0, Value.int .i64 0, Value.int .i64 0, Value.int .i64 0] 26))
            refine hK.out _ _ hNew (fun _ => ?_)
            replace hHeld := hNew
            clear hNew
            clear hK KK
            refine Rk.tail [8, 9] [_, _] (by kernel_rfl) (by kernel_rfl) rfl (by decide) ?_
            obtain ⟨a0, a1, a2, a3, b0, b1, b2, b3, s0, s1, s2, s3, K8⟩ := hHeld
            have qm0 : (quw3.alloc (Obj.cells #[Value.int .i64 0, Value.int .i64 0, Value.int .i64 0, Value.int .i64 0] 26)).cell? ⟨quw3.heap.size, 0, none⟩ = some (.int .i64 0) := by go_cell
            have qfm0 : (quw3.alloc (Obj.cells #[Value.int .i64 0, Value.int .i64 0, Value.int .i64 0, Value.int .i64 0] 26)).frozen? ⟨quw3.heap.size, 0, none⟩ = false := by simp only [frozen?_alloc_cells]; exact Rg.notFrozen (Nat.le_refl _)
            have qm1 : (quw3.alloc (Obj.cells #[Value.int .i64 0, Value.int .i64 0, Value.int .i64 0, Value.int .i64 0] 26)).cell? ⟨quw3.heap.size, 1, none⟩ = some (.int .i64 0) := by go_cell
            have qfm1 : (quw3.alloc (Obj.cells #[Value.int .i64 0, Value.int .i64 0, Value.int .i64 0, Value.int .i64 0] 26)).frozen? ⟨quw3.heap.size, 1, none⟩ = false := by simp only [frozen?_alloc_cells]; exact Rg.notFrozen (Nat.le_refl _)
            have qm2 : (quw3.alloc (Obj.cells #[Value.int .i64 0, Value.int .i64 0, Value.int .i64 0, Value.int .i64 0] 26)).cell? ⟨quw3.heap.size, 2, none⟩ = some (.int .i64 0) := by go_cell
            have qfm2 : (quw3.alloc (Obj.cells #[Value.int .i64 0, Value.int .i64 0, Value.int .i64 0, Value.int .i64 0] 26)).frozen? ⟨quw3.heap.size, 2, none⟩ = false := by simp only [frozen?_alloc_cells]; exact Rg.notFrozen (Nat.le_refl _)
            have qm3 : (quw3.alloc (Obj.cells #[Value.int .i64 0, Value.int .i64 0, Value.int .i64 0, Value.int .i64 0] 26)).cell? ⟨quw3.heap.size, 3, none⟩ = some (.int .i64 0) := by go_cell
            have qfm3 : (quw3.alloc (Obj.cells #[Value.int .i64 0, Value.int .i64 0, Value.int .i64 0, Value.int .i64 0] 26)).frozen? ⟨quw3.heap.size, 3, none⟩ = false := by simp only [frozen?_alloc_cells]; exact Rg.notFrozen (Nat.le_refl _)
            generalize (quw3.alloc (Obj.cells #[Value.int .i64 0, Value.int .i64 0, Value.int .i64 0, Value.int .i64 0] 26)) = qgw at *
            have qlm : quw3.heap.size < qgw.heap.size := World.block_lt_of_cell? _ _ qm0
            have qlw : w.heap.size ≤ quw3.heap.size := by omega
            have qne0 : quw3.heap.size ≠ w.heap.size := by omega
            have qne1 : quw3.heap.size ≠ w.heap.size + 1 := by omega
            have qne2 : quw3.heap.size ≠ uw1.heap.size := by omega
            have qlo0 : w.heap.size < qgw.heap.size := by omega
            have qlo1 : w.heap.size + 1 < qgw.heap.size := by omega
            have qlo2 : uw1.heap.size < qgw.heap.size := by omega
            go_wp2_with fail
            have a0 : ((((qgw.setCell ⟨quw3.heap.size, 0, none⟩ (.int .i64 n1)).setCell ⟨quw3.heap.size, 1, none⟩ (.int .i64 d1)).setCell ⟨quw3.heap.size, 2, none⟩ (.int .i64 t1)).setCell ⟨quw3.heap.size, 3, none⟩ (.int .i64 u1)).cell? ⟨w.heap.size, 0, none⟩ = some (.int .i64 n1) := far4 qne0 a0
            have a1 : ((((qgw.setCell ⟨quw3.heap.size, 0, none⟩ (.int .i64 n1)).setCell ⟨quw3.heap.size, 1, none⟩ (.int .i64 d1)).setCell ⟨quw3.heap.size, 2, none⟩ (.int .i64 t1)).setCell ⟨quw3.heap.size, 3, none⟩ (.int .i64 u1)).cell? ⟨w.heap.size, 1, none⟩ = some (.int .i64 d1) := far4 qne0 a1
            have a2 : ((((qgw.setCell ⟨quw3.heap.size, 0, none⟩ (.int .i64 n1)).setCell ⟨quw3.heap.size, 1, none⟩ (.int .i64 d1)).setCell ⟨quw3.heap.size, 2, none⟩ (.int .i64 t1)).setCell ⟨quw3.heap.size, 3, none⟩ (.int .i64 u1)).cell? ⟨w.heap.size, 2, none⟩ = some (.int .i64 t1) := far4 qne0 a2
            have a3 : ((((qgw.setCell ⟨quw3.heap.size, 0, none⟩ (.int .i64 n1)).setCell ⟨quw3.heap.size, 1, none⟩ (.int .i64 d1)).setCell ⟨quw3.heap.size, 2, none⟩ (.int .i64 t1)).setCell ⟨quw3.heap.size, 3, none⟩ (.int .i64 u1)).cell? ⟨w.heap.size, 3, none⟩ = some (.int .i64 u1) := far4 qne0 a3
            have b0 : ((((qgw.setCell ⟨quw3.heap.size, 0, none⟩ (.int .i64 n1)).setCell ⟨quw3.heap.size, 1, none⟩ (.int .i64 d1)).setCell ⟨quw3.heap.size, 2, none⟩ (.int .i64 t1)).setCell ⟨quw3.heap.size, 3, none⟩ (.int .i64 u1)).cell? ⟨w.heap.size + 1, 0, none⟩ = some (.int .i64 n2) := far4 qne1 b0
            have b1 : ((((qgw.setCell ⟨quw3.heap.size, 0, none⟩ (.int .i64 n1)).setCell ⟨quw3.heap.size, 1, none⟩ (.int .i64 d1)).setCell ⟨quw3.heap.size, 2, none⟩ (.int .i64 t1)).setCell ⟨quw3.heap.size, 3, none⟩ (.int .i64 u1)).cell? ⟨w.heap.size + 1, 1, none⟩ = some (.int .i64 d2) := far4 qne1 b1
            have b2 : ((((qgw.setCell ⟨quw3.heap.size, 0, none⟩ (.int .i64 n1)).setCell ⟨quw3.heap.size, 1, none⟩ (.int .i64 d1)).setCell ⟨quw3.heap.size, 2, none⟩ (.int .i64 t1)).setCell ⟨quw3.heap.size, 3, none⟩ (.int .i64 u1)).cell? ⟨w.heap.size + 1, 2, none⟩ = some (.int .i64 t2) := far4 qne1 b2
            have b3 : ((((qgw.setCell ⟨quw3.heap.size, 0, none⟩ (.int .i64 n1)).setCell ⟨quw3.heap.size, 1, none⟩ (.int .i64 d1)).setCell ⟨quw3.heap.size, 2, none⟩ (.int .i64 t1)).setCell ⟨quw3.heap.size, 3, none⟩ (.int .i64 u1)).cell? ⟨w.heap.size + 1, 3, none⟩ = some (.int .i64 u2) := far4 qne1 b3
            have s0 : ((((qgw.setCell ⟨quw3.heap.size, 0, none⟩ (.int .i64 n1)).setCell ⟨quw3.heap.size, 1, none⟩ (.int .i64 d1)).setCell ⟨quw3.heap.size, 2, none⟩ (.int .i64 t1)).setCell ⟨quw3.heap.size, 3, none⟩ (.int .i64 u1)).cell? ⟨uw1.heap.size, 0, none⟩ = some (.int .i64 x) := far4 qne2 s0
            have s1 : ((((qgw.setCell ⟨quw3.heap.size, 0, none⟩ (.int .i64 n1)).setCell ⟨quw3.heap.size, 1, none⟩ (.int .i64 d1)).setCell ⟨quw3.heap.size, 2, none⟩ (.int .i64 t1)).setCell ⟨quw3.heap.size, 3, none⟩ (.int .i64 u1)).cell? ⟨uw1.heap.size, 1, none⟩ = some (.int .i64 y) := far4 qne2 s1
            have s2 : ((((qgw.setCell ⟨quw3.heap.size, 0, none⟩ (.int .i64 n1)).setCell ⟨quw3.heap.size, 1, none⟩ (.int .i64 d1)).setCell ⟨quw3.heap.size, 2, none⟩ (.int .i64 t1)).setCell ⟨quw3.heap.size, 3, none⟩ (.int .i64 u1)).cell? ⟨uw1.heap.size, 2, none⟩ = some (.int .i64 z) := far4 qne2 s2
            have s3 : ((((qgw.setCell ⟨quw3.heap.size, 0, none⟩ (.int .i64 n1)).setCell ⟨quw3.heap.size, 1, none⟩ (.int .i64 d1)).setCell ⟨quw3.heap.size, 2, none⟩ (.int .i64 t1)).setCell ⟨quw3.heap.size, 3, none⟩ (.int .i64 u1)).cell? ⟨uw1.heap.size, 3, none⟩ = some (.int .i64 s) := far4 qne2 s3
            have hst := st4 (x := .int .i64 n1) (y := .int .i64 d1) (z := .int .i64 t1) (t := .int .i64 u1) qm0 qm1 qm2 qm3
            obtain ⟨qs0, qs1, qs2, qs3⟩ := hst
            have KqS : Below w.heap.size w ((((qgw.setCell ⟨quw3.heap.size, 0, none⟩ (.int .i64 n1)).setCell ⟨quw3.heap.size, 1, none⟩ (.int .i64 d1)).setCell ⟨quw3.heap.size, 2, none⟩ (.int .i64 t1)).setCell ⟨quw3.heap.size, 3, none⟩ (.int .i64 u1)) := (Below.setCell (Below.setCell (Below.setCell (Below.setCell K8 (by dsimp only; omega) _) (by dsimp only; omega) _) (by dsimp only; omega) _) (by dsimp only; omega) _)
            have qlm : quw3.heap.size < ((((qgw.setCell ⟨quw3.heap.size, 0, none⟩ (.int .i64 n1)).setCell ⟨quw3.heap.size, 1, none⟩ (.int .i64 d1)).setCell ⟨quw3.heap.size, 2, none⟩ (.int .i64 t1)).setCell ⟨quw3.heap.size, 3, none⟩ (.int .i64 u1)).heap.size := World.block_lt_of_cell? _ _ qs0
            have qlo0 : w.heap.size < ((((qgw.setCell ⟨quw3.heap.size, 0, none⟩ (.int .i64 n1)).setCell ⟨quw3.heap.size, 1, none⟩ (.int .i64 d1)).setCell ⟨quw3.heap.size, 2, none⟩ (.int .i64 t1)).setCell ⟨quw3.heap.size, 3, none⟩ (.int .i64 u1)).heap.size := by simp; omega
            have qlo1 : w.heap.size + 1 < ((((qgw.setCell ⟨quw3.heap.size, 0, none⟩ (.int .i64 n1)).setCell ⟨quw3.heap.size, 1, none⟩ (.int .i64 d1)).setCell ⟨quw3.heap.size, 2, none⟩ (.int .i64 t1)).setCell ⟨quw3.heap.size, 3, none⟩ (.int .i64 u1)).heap.size := by simp; omega
            have qlo2 : uw1.heap.size < ((((qgw.setCell ⟨quw3.heap.size, 0, none⟩ (.int .i64 n1)).setCell ⟨quw3.heap.size, 1, none⟩ (.int .i64 d1)).setCell ⟨quw3.heap.size, 2, none⟩ (.int .i64 t1)).setCell ⟨quw3.heap.size, 3, none⟩ (.int .i64 u1)).heap.size := by simp; omega
            clear K8 qm0 qfm0 qm1 qfm1 qm2 qfm2 qm3 qfm3
            generalize ((((qgw.setCell ⟨quw3.heap.size, 0, none⟩ (.int .i64 n1)).setCell ⟨quw3.heap.size, 1, none⟩ (.int .i64 d1)).setCell ⟨quw3.heap.size, 2, none⟩ (.int .i64 t1)).setCell ⟨quw3.heap.size, 3, none⟩ (.int .i64 u1)) = qgs at *
            go_wp2_with (first | (go_at_call 9; (with_reducible refine (SM.out _).mono ?_); rintro e w7 ⟨rfl, hb7⟩; have hc7 := (bcell hb7).1; have hf7 := (bcell hb7).2; have z7_0 : w.heap.size < w7.heap.size := (by have hzz := hb7.size; (try simp at hzz); omega); have z7_1 : w.heap.size + 1 < w7.heap.size := (by have hzz := hb7.size; (try simp at hzz); omega); have z7_2 : uw1.heap.size < w7.heap.size := (by have hzz := hb7.size; (try simp at hzz); omega); have z7_3 : quw3.heap.size < w7.heap.size := (by have hzz := hb7.size; (try simp at hzz); omega); have K7 : Below w.heap.size w w7 := Below.trans (b := _) (by (repeat' (first | (with_reducible exact Below.refl _ _) | (with_reducible exact KqS) | (with_reducible exact KqS.size) | (with_reducible refine Below.alloc ?_ ?_ _) | (with_reducible refine Below.setCell ?_ ?_ _) | (with_reducible refine below_drewN ?_ _) | (simp; done) | omega | (simp; omega)))) (hb7.mono (by have hzz := hb7.size; (try simp at hzz); first | omega | (simp; done) | (simp; omega)))) | (go_at_call 10; (with_reducible refine (AL.out _).mono ?_); rintro e w8 ⟨rfl, hb8⟩; have hc8 := (bcell hb8).1; have hf8 := (bcell hb8).2; have K8 : Below w.heap.size w w8 := Below.trans (b := _) (by (repeat' (first | (with_reducible exact Below.refl _ _) | (with_reducible exact KqS) | (with_reducible exact KqS.size) | (with_reducible exact K7) | (with_reducible exact K7.size) | (with_reducible refine Below.alloc ?_ ?_ _) | (with_reducible refine Below.setCell ?_ ?_ _) | (with_reducible refine below_drewN ?_ _) | (simp; done) | omega | (simp; omega)))) (hb8.mono (by have hzz := hb8.size; (try simp at hzz); first | omega | (simp; done) | (simp; omega)))))
            go_ret
            exact ⟨rfl, K8⟩
          · rw [if_pos (by kernel_rfl)]
            go_simp
            have hNew := qHS.out _ _ hHeld ((Below.refl _ _).alloc (Nat.le_refl _) (Obj.cells #[Value.int .i64 0, Value.int .i64 0, Value.int .i64 0, Value.int .i64 0] 26))
            refine hK.out _ _ hNew (fun _ => ?_)
            replace hHeld := hNew
            clear hNew
            clear hK KK
            refine Rk.one (i := 3) (by kernel_rfl) rfl (fun KK hK => ?_)
            rw [if_pos (by kernel_rfl)]
            go_simp
            (refine (AP2.out _).mono ?_; rintro e quw3 ⟨rfl, hb⟩)
            have hNew := qHS.out _ _ hHeld hb
            have hs_quw3 : gs.heap.size ≤ quw3.heap.size := by have hzz := hb.size; (try simp at hzz); omega
            have qm0 : quw3.cell? ⟨quw2.heap.size, 0, none⟩ = some (.int .i64 0) := Rg.keep hb (by simp) (by go_cell)
            have qfm0 : quw3.frozen? ⟨quw2.heap.size, 0, none⟩ = false := Rg.keepF hb (by simp) (by show (quw2.alloc (Obj.cells #[Value.int .i64 0, Value.int .i64 0, Value.int .i64 0, Value.int .i64 0] 26)).frozen? ⟨quw2.heap.size, 0, none⟩ = false; simp only [frozen?_alloc_cells]; exact Rg.notFrozen (Nat.le_refl _))
            have qm1 : quw3.cell? ⟨quw2.heap.size, 1, none⟩ = some (.int .i64 0) := Rg.keep hb (by simp) (by go_cell)
            have qfm1 : quw3.frozen? ⟨quw2.heap.size, 1, none⟩ = false := Rg.keepF hb (by simp) (by show (quw2.alloc (Obj.cells #[Value.int .i64 0, Value.int .i64 0, Value.int .i64 0, Value.int .i64 0] 26)).frozen? ⟨quw2.heap.size, 1, none⟩ = false; simp only [frozen?_alloc_cells]; exact Rg.notFrozen (Nat.le_refl _))
            have qm2 : quw3.cell? ⟨quw2.heap.size, 2, none⟩ = some (.int .i64 0) := Rg.keep hb (by simp) (by go_cell)
            have qfm2 : quw3.frozen? ⟨quw2.heap.size, 2, none⟩ = false := Rg.keepF hb (by simp) (by show (quw2.alloc (Obj.cells #[Value.int .i64 0, Value.int .i64 0, Value.int .i64 0, Value.int .i64 0] 26)).frozen? ⟨quw2.heap.size, 2, none⟩ = false; simp only [frozen?_alloc_cells]; exact Rg.notFrozen (Nat.le_refl _))
            have qm3 : quw3.cell? ⟨quw2.heap.size, 3, none⟩ = some (.int .i64 0) := Rg.keep hb (by simp) (by go_cell)
            have qfm3 : quw3.frozen? ⟨quw2.heap.size, 3, none⟩ = false := Rg.keepF hb (by simp) (by show (quw2.alloc (Obj.cells #[Value.int .i64 0, Value.int .i64 0, Value.int .i64 0, Value.int .i64 0] 26)).frozen? ⟨quw2.heap.size, 3, none⟩ = false; simp only [frozen?_alloc_cells]; exact Rg.notFrozen (Nat.le_refl _))
            first | (refine hK.out _ _ (fun _ => hNew) (fun _ => ?_)) | (refine hK.out _ _ hNew (fun _ => ?_)) | (go_wp2_with fail; refine hK.out _ _ hNew (fun _ => ?_))
            replace hHeld := hNew
            clear hNew hb
            clear hK KK
            refine Rk.takeP (i := 4) (v := ?_) rfl (by kernel_rfl) (by kernel_rfl) (by kernel_rfl) (by kernel_rfl) (fun _ _ _ h => h) (Or.inl ⟨by kernel_rfl, ?_⟩) (by assumption) ?_
            rotate_left
            · ((intro w hSw; go_simp) <;> with_reducible rfl)
            try simp only [Act.put, List.setIfInBounds_toArray, List.set_cons_zero, List.set_cons_succ]
            refine Rk.takeP (i := 5) (v := ?_) rfl (by kernel_rfl) (by kernel_rfl) (by kernel_rfl) (by kernel_rfl) (fun _ _ _ h => h) (Or.inl ⟨by kernel_rfl, ?_⟩) (by assumption) ?_
            rotate_left
            · ((intro w hSw; go_simp) <;> with_reducible rfl)
            try simp only [Act.put, List.setIfInBounds_toArray, List.set_cons_zero, List.set_cons_succ]
            refine Rk.takeP (i := 6) (v := ?_) rfl (by kernel_rfl) (by kernel_rfl) (by kernel_rfl) (by kernel_rfl) (fun _ _ _ h => h) (Or.inl ⟨by kernel_rfl, ?_⟩) (by assumption) ?_
            rotate_left
            · ((intro w hSw; go_simp) <;> with_reducible rfl)
            try simp only [Act.put, List.setIfInBounds_toArray, List.set_cons_zero, List.set_cons_succ]
            refine Rk.tail [8, 9] [_, _] (by kernel_rfl) (by kernel_rfl) rfl (by decide) ?_
            obtain ⟨a0, a1, a2, a3, b0, b1, b2, b3, s0, s1, s2, s3, K8⟩ := hHeld
            have qlm : quw2.heap.size < quw3.heap.size := World.block_lt_of_cell? _ _ qm0
            have qlw : w.heap.size ≤ quw2.heap.size := by omega
            have qne0 : quw2.heap.size ≠ w.heap.size := by omega
            have qne1 : quw2.heap.size ≠ w.heap.size + 1 := by omega
            have qne2 : quw2.heap.size ≠ uw1.heap.size := by omega
            have qlo0 : w.heap.size < quw3.heap.size := by omega
            have qlo1 : w.heap.size + 1 < quw3.heap.size := by omega
            have qlo2 : uw1.heap.size < quw3.heap.size := by omega
            go_wp2_with fail
            have a0 : ((((quw3.setCell ⟨quw2.heap.size, 0, none⟩ (.int .i64 n1)).setCell ⟨quw2.heap.size, 1, none⟩ (.int .i64 d1)).setCell ⟨quw2.heap.size, 2, none⟩ (.int .i64 t1)).setCell ⟨quw2.heap.size, 3, none⟩ (.int .i64 u1)).cell? ⟨w.heap.size, 0, none⟩ = some (.int .i64 n1) := far4 qne0 a0
            have a1 : ((((quw3.setCell ⟨quw2.heap.size, 0, none⟩ (.int .i64 n1)).setCell ⟨quw2.heap.size, 1, none⟩ (.int .i64 d1)).setCell ⟨quw2.heap.size, 2, none⟩ (.int .i64 t1)).setCell ⟨quw2.heap.size, 3, none⟩ (.int .i64 u1)).cell? ⟨w.heap.size, 1, none⟩ = some (.int .i64 d1) := far4 qne0 a1
            have a2 : ((((quw3.setCell ⟨quw2.heap.size, 0, none⟩ (.int .i64 n1)).setCell ⟨quw2.heap.size, 1, none⟩ (.int .i64 d1)).setCell ⟨quw2.heap.size, 2, none⟩ (.int .i64 t1)).setCell ⟨quw2.heap.size, 3, none⟩ (.int .i64 u1)).cell? ⟨w.heap.size, 2, none⟩ = some (.int .i64 t1) := far4 qne0 a2
            have a3 : ((((quw3.setCell ⟨quw2.heap.size, 0, none⟩ (.int .i64 n1)).setCell ⟨quw2.heap.size, 1, none⟩ (.int .i64 d1)).setCell ⟨quw2.heap.size, 2, none⟩ (.int .i64 t1)).setCell ⟨quw2.heap.size, 3, none⟩ (.int .i64 u1)).cell? ⟨w.heap.size, 3, none⟩ = some (.int .i64 u1) := far4 qne0 a3
            have b0 : ((((quw3.setCell ⟨quw2.heap.size, 0, none⟩ (.int .i64 n1)).setCell ⟨quw2.heap.size, 1, none⟩ (.int .i64 d1)).setCell ⟨quw2.heap.size, 2, none⟩ (.int .i64 t1)).setCell ⟨quw2.heap.size, 3, none⟩ (.int .i64 u1)).cell? ⟨w.heap.size + 1, 0, none⟩ = some (.int .i64 n2) := far4 qne1 b0
            have b1 : ((((quw3.setCell ⟨quw2.heap.size, 0, none⟩ (.int .i64 n1)).setCell ⟨quw2.heap.size, 1, none⟩ (.int .i64 d1)).setCell ⟨quw2.heap.size, 2, none⟩ (.int .i64 t1)).setCell ⟨quw2.heap.size, 3, none⟩ (.int .i64 u1)).cell? ⟨w.heap.size + 1, 1, none⟩ = some (.int .i64 d2) := far4 qne1 b1
            have b2 : ((((quw3.setCell ⟨quw2.heap.size, 0, none⟩ (.int .i64 n1)).setCell ⟨quw2.heap.size, 1, none⟩ (.int .i64 d1)).setCell ⟨quw2.heap.size, 2, none⟩ (.int .i64 t1)).setCell ⟨quw2.heap.size, 3, none⟩ (.int .i64 u1)).cell? ⟨w.heap.size + 1, 2, none⟩ = some (.int .i64 t2) := far4 qne1 b2
            have b3 : ((((quw3.setCell ⟨quw2.heap.size, 0, none⟩ (.int .i64 n1)).setCell ⟨quw2.heap.size, 1, none⟩ (.int .i64 d1)).setCell ⟨quw2.heap.size, 2, none⟩ (.int .i64 t1)).setCell ⟨quw2.heap.size, 3, none⟩ (.int .i64 u1)).cell? ⟨w.heap.size + 1, 3, none⟩ = some (.int .i64 u2) := far4 qne1 b3
            have s0 : ((((quw3.setCell ⟨quw2.heap.size, 0, none⟩ (.int .i64 n1)).setCell ⟨quw2.heap.size, 1, none⟩ (.int .i64 d1)).setCell ⟨quw2.heap.size, 2, none⟩ (.int .i64 t1)).setCell ⟨quw2.heap.size, 3, none⟩ (.int .i64 u1)).cell? ⟨uw1.heap.size, 0, none⟩ = some (.int .i64 x) := far4 qne2 s0
            have s1 : ((((quw3.setCell ⟨quw2.heap.size, 0, none⟩ (.int .i64 n1)).setCell ⟨quw2.heap.size, 1, none⟩ (.int .i64 d1)).setCell ⟨quw2.heap.size, 2, none⟩ (.int .i64 t1)).setCell ⟨quw2.heap.size, 3, none⟩ (.int .i64 u1)).cell? ⟨uw1.heap.size, 1, none⟩ = some (.int .i64 y) := far4 qne2 s1
            have s2 : ((((quw3.setCell ⟨quw2.heap.size, 0, none⟩ (.int .i64 n1)).setCell ⟨quw2.heap.size, 1, none⟩ (.int .i64 d1)).setCell ⟨quw2.heap.size, 2, none⟩ (.int .i64 t1)).setCell ⟨quw2.heap.size, 3, none⟩ (.int .i64 u1)).cell? ⟨uw1.heap.size, 2, none⟩ = some (.int .i64 z) := far4 qne2 s2
            have s3 : ((((quw3.setCell ⟨quw2.heap.size, 0, none⟩ (.int .i64 n1)).setCell ⟨quw2.heap.size, 1, none⟩ (.int .i64 d1)).setCell ⟨quw2.heap.size, 2, none⟩ (.int .i64 t1)).setCell ⟨quw2.heap.size, 3, none⟩ (.int .i64 u1)).cell? ⟨uw1.heap.size, 3, none⟩ = some (.int .i64 s) := far4 qne2 s3
            have hst := st4 (x := .int .i64 n1) (y := .int .i64 d1) (z := .int .i64 t1) (t := .int .i64 u1) qm0 qm1 qm2 qm3
            obtain ⟨qs0, qs1, qs2, qs3⟩ := hst
            have KqS : Below w.heap.size w ((((quw3.setCell ⟨quw2.heap.size, 0, none⟩ (.int .i64 n1)).setCell ⟨quw2.heap.size, 1, none⟩ (.int .i64 d1)).setCell ⟨quw2.heap.size, 2, none⟩ (.int .i64 t1)).setCell ⟨quw2.heap.size, 3, none⟩ (.int .i64 u1)) := (Below.setCell (Below.setCell (Below.setCell (Below.setCell K8 (by dsimp only; omega) _) (by dsimp only; omega) _) (by dsimp only; omega) _) (by dsimp only; omega) _)
            have qlm : quw2.heap.size < ((((quw3.setCell ⟨quw2.heap.size, 0, none⟩ (.int .i64 n1)).setCell ⟨quw2.heap.size, 1, none⟩ (.int .i64 d1)).setCell ⟨quw2.heap.size, 2, none⟩ (.int .i64 t1)).setCell ⟨quw2.heap.size, 3, none⟩ (.int .i64 u1)).heap.size := World.block_lt_of_cell? _ _ qs0
            have qlo0 : w.heap.size < ((((quw3.setCell ⟨quw2.heap.size, 0, none⟩ (.int .i64 n1)).setCell ⟨quw2.heap.size, 1, none⟩ (.int .i64 d1)).setCell ⟨quw2.heap.size, 2, none⟩ (.int .i64 t1)).setCell ⟨quw2.heap.size, 3, none⟩ (.int .i64 u1)).heap.size := by simp; omega
            have qlo1 : w.heap.size + 1 < ((((quw3.setCell ⟨quw2.heap.size, 0, none⟩ (.int .i64 n1)).setCell ⟨quw2.heap.size, 1, none⟩ (.int .i64 d1)).setCell ⟨quw2.heap.size, 2, none⟩ (.int .i64 t1)).setCell ⟨quw2.heap.size, 3, none⟩ (.int .i64 u1)).heap.size := by simp; omega
            have qlo2 : uw1.heap.size < ((((quw3.setCell ⟨quw2.heap.size, 0, none⟩ (.int .i64 n1)).setCell ⟨quw2.heap.size, 1, none⟩ (.int .i64 d1)).setCell ⟨quw2.heap.size, 2, none⟩ (.int .i64 t1)).setCell ⟨quw2.heap.size, 3, none⟩ (.int .i64 u1)).heap.size := by simp; omega
            clear K8 qm0 qfm0 qm1 qfm1 qm2 qfm2 qm3 qfm3
            generalize ((((quw3.setCell ⟨quw2.heap.size, 0, none⟩ (.int .i64 n1)).setCell ⟨quw2.heap.size, 1, none⟩ (.int .i64 d1)).setCell ⟨quw2.heap.size, 2, none⟩ (.int .i64 t1)).setCell ⟨quw2.heap.size, 3, none⟩ (.int .i64 u1)) = qgs at *
            go_wp2_with (first | (go_at_call 9; (with_reducible refine (SM.out _).mono ?_); rintro e w7 ⟨rfl, hb7⟩; have hc7 := (bcell hb7).1; have hf7 := (bcell hb7).2; have z7_0 : w.heap.size < w7.heap.size := (by have hzz := hb7.size; (try simp at hzz); omega); have z7_1 : w.heap.size + 1 < w7.heap.size := (by have hzz := hb7.size; (try simp at hzz); omega); have z7_2 : uw1.heap.size < w7.heap.size := (by have hzz := hb7.size; (try simp at hzz); omega); have z7_3 : quw2.heap.size < w7.heap.size := (by have hzz := hb7.size; (try simp at hzz); omega); have K7 : Below w.heap.size w w7 := Below.trans (b := _) (by (repeat' (first | (with_reducible exact Below.refl _ _) | (with_reducible exact KqS) | (with_reducible exact KqS.size) | (with_reducible refine Below.alloc ?_ ?_ _) | (with_reducible refine Below.setCell ?_ ?_ _) | (with_reducible refine below_drewN ?_ _) | (simp; done) | omega | (simp; omega)))) (hb7.mono (by have hzz := hb7.size; (try simp at hzz); first | omega | (simp; done) | (simp; omega)))) | (go_at_call 10; (with_reducible refine (AL.out _).mono ?_); rintro e w8 ⟨rfl, hb8⟩; have hc8 := (bcell hb8).1; have hf8 := (bcell hb8).2; have K8 : Below w.heap.size w w8 := Below.trans (b := _) (by (repeat' (first | (with_reducible exact Below.refl _ _) | (with_reducible exact KqS) | (with_reducible exact KqS.size) | (with_reducible exact K7) | (with_reducible exact K7.size) | (with_reducible refine Below.alloc ?_ ?_ _) | (with_reducible refine Below.setCell ?_ ?_ _) | (with_reducible refine below_drewN ?_ _) | (simp; done) | omega | (simp; omega)))) (hb8.mono (by have hzz := hb8.size; (try simp at hzz); first | omega | (simp; done) | (simp; omega)))))
            go_ret
            exact ⟨rfl, K8⟩
        · rw [if_pos (by kernel_rfl)]
          go_simp
          have hNew := qHS.out _ _ hHeld ((Below.refl _ _).alloc (Nat.le_refl _) (Obj.cells #[Value.int .i64 0, Value.int .i64 0, Value.int .i64 0, Value.int .i64 0] 26))
          refine hK.out _ _ hNew (fun _ => ?_)
          replace hHeld := hNew
          clear hNew
          clear hK KK
          refine Rk.one (i := 2) (by kernel_rfl) rfl (fun KK hK => ?_)
          rw [if_pos (by kernel_rfl)]
          go_simp
          (refine (IN2.out _).mono ?_; rintro e quw2 ⟨rfl, hb⟩)
          have hNew := qHS.out _ _ hHeld hb
          have hs_quw2 : gs.heap.size ≤ quw2.heap.size := by have hzz := hb.size; (try simp at hzz); omega
          have qm0 : quw2.cell? ⟨gs.heap.size, 0, none⟩ = some (.int .i64 0) := Rg.keep hb (by simp) (by go_cell)
          have qfm0 : quw2.frozen? ⟨gs.heap.size, 0, none⟩ = false := Rg.keepF hb (by simp) (by show (gs.drew.alloc (Obj.cells #[Value.int .i64 0, Value.int .i64 0, Value.int .i64 0, Value.int .i64 0] 26)).frozen? ⟨gs.drew.heap.size, 0, none⟩ = false; simp only [frozen?_alloc_cells]; exact Rg.notFrozen (Nat.le_refl _))
          have qm1 : quw2.cell? ⟨gs.heap.size, 1, none⟩ = some (.int .i64 0) := Rg.keep hb (by simp) (by go_cell)
          have qfm1 : quw2.frozen? ⟨gs.heap.size, 1, none⟩ = false := Rg.keepF hb (by simp) (by show (gs.drew.alloc (Obj.cells #[Value.int .i64 0, Value.int .i64 0, Value.int .i64 0, Value.int .i64 0] 26)).frozen? ⟨gs.drew.heap.size, 1, none⟩ = false; simp only [frozen?_alloc_cells]; exact Rg.notFrozen (Nat.le_refl _))
          have qm2 : quw2.cell? ⟨gs.heap.size, 2, none⟩ = some (.int .i64 0) := Rg.keep hb (by simp) (by go_cell)
          have qfm2 : quw2.frozen? ⟨gs.heap.size, 2, none⟩ = false := Rg.keepF hb (by simp) (by show (gs.drew.alloc (Obj.cells #[Value.int .i64 0, Value.int .i64 0, Value.int .i64 0, Value.int .i64 0] 26)).frozen? ⟨gs.drew.heap.size, 2, none⟩ = false; simp only [frozen?_alloc_cells]; exact Rg.notFrozen (Nat.le_refl _))
          have qm3 : quw2.cell? ⟨gs.heap.size, 3, none⟩ = some (.int .i64 0) := Rg.keep hb (by simp) (by go_cell)
          have qfm3 : quw2.frozen? ⟨gs.heap.size, 3, none⟩ = false := Rg.keepF hb (by simp) (by show (gs.drew.alloc (Obj.cells #[Value.int .i64 0, Value.int .i64 0, Value.int .i64 0, Value.int .i64 0] 26)).frozen? ⟨gs.drew.heap.size, 3, none⟩ = false; simp only [frozen?_alloc_cells]; exact Rg.notFrozen (Nat.le_refl _))
          first | (refine hK.out _ _ (fun _ => hNew) (fun _ => ?_)) | (refine hK.out _ _ hNew (fun _ => ?_)) | (go_wp2_with fail; refine hK.out _ _ hNew (fun _ => ?_))
          replace hHeld := hNew
          clear hNew hb
          clear hK KK
          refine Rk.one (i := 3) (by kernel_rfl) rfl (fun KK hK => ?_)
          rw [if_pos (by kernel_rfl)]
          go_simp
          (refine (AP2.out _).mono ?_; rintro e quw3 ⟨rfl, hb⟩)
          have hNew := qHS.out _ _ hHeld hb
          have hs_quw3 : gs.heap.size ≤ quw3.heap.size := by have hzz := hb.size; (try simp at hzz); omega
          have qlm : gs.heap.size < quw2.heap.size := World.block_lt_of_cell? _ _ qm0
          have qfm0 := Rg.keepF hb qlm qfm0
          have qfm1 := Rg.keepF hb qlm qfm1
          have qfm2 := Rg.keepF hb qlm qfm2
          have qfm3 := Rg.keepF hb qlm qfm3
          have qm0 := Rg.keep hb qlm qm0
          have qm1 := Rg.keep hb qlm qm1
          have qm2 := Rg.keep hb qlm qm2
          have qm3 := Rg.keep hb qlm qm3
          clear qlm
          first | (refine hK.out _ _ (fun _ => hNew) (fun _ => ?_)) | (refine hK.out _ _ hNew (fun _ => ?_)) | (go_wp2_with fail; refine hK.out _ _ hNew (fun _ => ?_))
          replace hHeld := hNew
          clear hNew hb
          clear hK KK
          refine Rk.takeP (i := 4) (v := ?_) rfl (by kernel_rfl) (by kernel_rfl) (by kernel_rfl) (by kernel_rfl) (fun _ _ _ h => h) (Or.inl ⟨by kernel_rfl, ?_⟩) (by assumption) ?_
          rotate_left
          · ((intro w hSw; go_simp) <;> with_reducible rfl)
          try simp only [Act.put, List.setIfInBounds_toArray, List.set_cons_zero, List.set_cons_succ]
          refine Rk.takeP (i := 5) (v := ?_) rfl (by kernel_rfl) (by kernel_rfl) (by kernel_rfl) (by kernel_rfl) (fun _ _ _ h => h) (Or.inl ⟨by kernel_rfl, ?_⟩) (by assumption) ?_
          rotate_left
          · ((intro w hSw; go_simp) <;> with_reducible rfl)
          try simp only [Act.put, List.setIfInBounds_toArray, List.set_cons_zero, List.set_cons_succ]
          refine Rk.takeP (i := 6) (v := ?_) rfl (by kernel_rfl) (by kernel_rfl) (by kernel_rfl) (by kernel_rfl) (fun _ _ _ h => h) (Or.inl ⟨by kernel_rfl, ?_⟩) (by assumption) ?_
          rotate_left
          · ((intro w hSw; go_simp) <;> with_reducible rfl)
          try simp only [Act.put, List.setIfInBounds_toArray, List.set_cons_zero, List.set_cons_succ]
          refine Rk.tail [8, 9] [_, _] (by kernel_rfl) (by kernel_rfl) rfl (by decide) ?_
          obtain ⟨a0, a1, a2, a3, b0, b1, b2, b3, s0, s1, s2, s3, K8⟩ := hHeld
          have qlm : gs.heap.size < quw3.heap.size := World.block_lt_of_cell? _ _ qm0
          have qlw : w.heap.size ≤ gs.heap.size := by omega
          have qne0 : gs.heap.size ≠ w.heap.size := by omega
          have qne1 : gs.heap.size ≠ w.heap.size + 1 := by omega
          have qne2 : gs.heap.size ≠ uw1.heap.size := by omega
          have qlo0 : w.heap.size < quw3.heap.size := by omega
          have qlo1 : w.heap.size + 1 < quw3.heap.size := by omega
          have qlo2 : uw1.heap.size < quw3.heap.size := by omega
          go_wp2_with fail
          have a0 : ((((quw3.setCell ⟨gs.heap.size, 0, none⟩ (.int .i64 n1)).setCell ⟨gs.heap.size, 1, none⟩ (.int .i64 d1)).setCell ⟨gs.heap.size, 2, none⟩ (.int .i64 t1)).setCell ⟨gs.heap.size, 3, none⟩ (.int .i64 u1)).cell? ⟨w.heap.size, 0, none⟩ = some (.int .i64 n1) := far4 qne0 a0
          have a1 : ((((quw3.setCell ⟨gs.heap.size, 0, none⟩ (.int .i64 n1)).setCell ⟨gs.heap.size, 1, none⟩ (.int .i64 d1)).setCell ⟨gs.heap.size, 2, none⟩ (.int .i64 t1)).setCell ⟨gs.heap.size, 3, none⟩ (.int .i64 u1)).cell? ⟨w.heap.size, 1, none⟩ = some (.int .i64 d1) := far4 qne0 a1
          have a2 : ((((quw3.setCell ⟨gs.heap.size, 0, none⟩ (.int .i64 n1)).setCell ⟨gs.heap.size, 1, none⟩ (.int .i64 d1)).setCell ⟨gs.heap.size, 2, none⟩ (.int .i64 t1)).setCell ⟨gs.heap.size, 3, none⟩ (.int .i64 u1)).cell? ⟨w.heap.size, 2, none⟩ = some (.int .i64 t1) := far4 qne0 a2
          have a3 : ((((quw3.setCell ⟨gs.heap.size, 0, none⟩ (.int .i64 n1)).setCell ⟨gs.heap.size, 1, none⟩ (.int .i64 d1)).setCell ⟨gs.heap.size, 2, none⟩ (.int .i64 t1)).setCell ⟨gs.heap.size, 3, none⟩ (.int .i64 u1)).cell? ⟨w.heap.size, 3, none⟩ = some (.int .i64 u1) := far4 qne0 a3
          have b0 : ((((quw3.setCell ⟨gs.heap.size, 0, none⟩ (.int .i64 n1)).setCell ⟨gs.heap.size, 1, none⟩ (.int .i64 d1)).setCell ⟨gs.heap.size, 2, none⟩ (.int .i64 t1)).setCell ⟨gs.heap.size, 3, none⟩ (.int .i64 u1)).cell? ⟨w.heap.size + 1, 0, none⟩ = some (.int .i64 n2) := far4 qne1 b0
          have b1 : ((((quw3.setCell ⟨gs.heap.size, 0, none⟩ (.int .i64 n1)).setCell ⟨gs.heap.size, 1, none⟩ (.int .i64 d1)).setCell ⟨gs.heap.size, 2, none⟩ (.int .i64 t1)).setCell ⟨gs.heap.size, 3, none⟩ (.int .i64 u1)).cell? ⟨w.heap.size + 1, 1, none⟩ = some (.int .i64 d2) := far4 qne1 b1
          have b2 : ((((quw3.setCell ⟨gs.heap.size, 0, none⟩ (.int .i64 n1)).setCell ⟨gs.heap.size, 1, none⟩ (.int .i64 d1)).setCell ⟨gs.heap.size, 2, none⟩ (.int .i64 t1)).setCell ⟨gs.heap.size, 3, none⟩ (.int .i64 u1)).cell? ⟨w.heap.size + 1, 2, none⟩ = some (.int .i64 t2) := far4 qne1 b2
          have b3 : ((((quw3.setCell ⟨gs.heap.size, 0, none⟩ (.int .i64 n1)).setCell ⟨gs.heap.size, 1, none⟩ (.int .i64 d1)).setCell ⟨gs.heap.size, 2, none⟩ (.int .i64 t1)).setCell ⟨gs.heap.size, 3, none⟩ (.int .i64 u1)).cell? ⟨w.heap.size + 1, 3, none⟩ = some (.int .i64 u2) := far4 qne1 b3
          have s0 : ((((quw3.setCell ⟨gs.heap.size, 0, none⟩ (.int .i64 n1)).setCell ⟨gs.heap.size, 1, none⟩ (.int .i64 d1)).setCell ⟨gs.heap.size, 2, none⟩ (.int .i64 t1)).setCell ⟨gs.heap.size, 3, none⟩ (.int .i64 u1)).cell? ⟨uw1.heap.size, 0, none⟩ = some (.int .i64 x) := far4 qne2 s0
          have s1 : ((((quw3.setCell ⟨gs.heap.size, 0, none⟩ (.int .i64 n1)).setCell ⟨gs.heap.size, 1, none⟩ (.int .i64 d1)).setCell ⟨gs.heap.size, 2, none⟩ (.int .i64 t1)).setCell ⟨gs.heap.size, 3, none⟩ (.int .i64 u1)).cell? ⟨uw1.heap.size, 1, none⟩ = some (.int .i64 y) := far4 qne2 s1
          have s2 : ((((quw3.setCell ⟨gs.heap.size, 0, none⟩ (.int .i64 n1)).setCell ⟨gs.heap.size, 1, none⟩ (.int .i64 d1)).setCell ⟨gs.heap.size, 2, none⟩ (.int .i64 t1)).setCell ⟨gs.heap.size, 3, none⟩ (.int .i64 u1)).cell? ⟨uw1.heap.size, 2, none⟩ = some (.int .i64 z) := far4 qne2 s2
          have s3 : ((((quw3.setCell ⟨gs.heap.size, 0, none⟩ (.int .i64 n1)).setCell ⟨gs.heap.size, 1, none⟩ (.int .i64 d1)).setCell ⟨gs.heap.size, 2, none⟩ (.int .i64 t1)).setCell ⟨gs.heap.size, 3, none⟩ (.int .i64 u1)).cell? ⟨uw1.heap.size, 3, none⟩ = some (.int .i64 s) := far4 qne2 s3
          have hst := st4 (x := .int .i64 n1) (y := .int .i64 d1) (z := .int .i64 t1) (t := .int .i64 u1) qm0 qm1 qm2 qm3
          obtain ⟨qs0, qs1, qs2, qs3⟩ := hst
          have KqS : Below w.heap.size w ((((quw3.setCell ⟨gs.heap.size, 0, none⟩ (.int .i64 n1)).setCell ⟨gs.heap.size, 1, none⟩ (.int .i64 d1)).setCell ⟨gs.heap.size, 2, none⟩ (.int .i64 t1)).setCell ⟨gs.heap.size, 3, none⟩ (.int .i64 u1)) := (Below.setCell (Below.setCell (Below.setCell (Below.setCell K8 (by dsimp only; omega) _) (by dsimp only; omega) _) (by dsimp only; omega) _) (by dsimp only; omega) _)
          have qlm : gs.heap.size < ((((quw3.setCell ⟨gs.heap.size, 0, none⟩ (.int .i64 n1)).setCell ⟨gs.heap.size, 1, none⟩ (.int .i64 d1)).setCell ⟨gs.heap.size, 2, none⟩ (.int .i64 t1)).setCell ⟨gs.heap.size, 3, none⟩ (.int .i64 u1)).heap.size := World.block_lt_of_cell? _ _ qs0
          have qlo0 : w.heap.size < ((((quw3.setCell ⟨gs.heap.size, 0, none⟩ (.int .i64 n1)).setCell ⟨gs.heap.size, 1, none⟩ (.int .i64 d1)).setCell ⟨gs.heap.size, 2, none⟩ (.int .i64 t1)).setCell ⟨gs.heap.size, 3, none⟩ (.int .i64 u1)).heap.size := by simp; omega
          have qlo1 : w.heap.size + 1 < ((((quw3.setCell ⟨gs.heap.size, 0, none⟩ (.int .i64 n1)).setCell ⟨gs.heap.size, 1, none⟩ (.int .i64 d1)).setCell ⟨gs.heap.size, 2, none⟩ (.int .i64 t1)).setCell ⟨gs.heap.size, 3, none⟩ (.int .i64 u1)).heap.size := by simp; omega
          have qlo2 : uw1.heap.size < ((((quw3.setCell ⟨gs.heap.size, 0, none⟩ (.int .i64 n1)).setCell ⟨gs.heap.size, 1, none⟩ (.int .i64 d1)).setCell ⟨gs.heap.size, 2, none⟩ (.int .i64 t1)).setCell ⟨gs.heap.size, 3, none⟩ (.int .i64 u1)).heap.size := by simp; omega
          clear K8 qm0 qfm0 qm1 qfm1 qm2 qfm2 qm3 qfm3
          generalize ((((quw3.setCell ⟨gs.heap.size, 0, none⟩ (.int .i64 n1)).setCell ⟨gs.heap.size, 1, none⟩ (.int .i64 d1)).setCell ⟨gs.heap.size, 2, none⟩ (.int .i64 t1)).setCell ⟨gs.heap.size, 3, none⟩ (.int .i64 u1)) = qgs at *
          go_wp2_with (first | (go_at_call 9; (with_reducible refine (SM.out _).mono ?_); rintro e w7 ⟨rfl, hb7⟩; have hc7 := (bcell hb7).1; have hf7 := (bcell hb7).2; have z7_0 : w.heap.size < w7.heap.size := (by have hzz := hb7.size; (try simp at hzz); omega); have z7_1 : w.heap.size + 1 < w7.heap.size := (by have hzz := hb7.size; (try simp at hzz); omega); have z7_2 : uw1.heap.size < w7.heap.size := (by have hzz := hb7.size; (try simp at hzz); omega); have z7_3 : gs.heap.size < w7.heap.size := (by have hzz := hb7.size; (try simp at hzz); omega); have K7 : Below w.heap.size w w7 := Below.trans (b := _) (by (repeat' (first | (with_reducible exact Below.refl _ _) | (with_reducible exact KqS) | (with_reducible exact KqS.size) | (with_reducible refine Below.alloc ?_ ?_ _) | (with_reducible refine Below.setCell ?_ ?_ _) | (with_reducible refine below_drewN ?_ _) | (simp; done) | omega | (simp; omega)))) (hb7.mono (by have hzz := hb7.size; (try simp at hzz); first | omega | (simp; done) | (simp; omega)))) | (go_at_call 10; (with_reducible refine (AL.out _).mono ?_); rintro e w8 ⟨rfl, hb8⟩; have hc8 := (bcell hb8).1; have hf8 := (bcell hb8).2; have K8 : Below w.heap.size w w8 := Below.trans (b := _) (by (repeat' (first | (with_reducible exact Below.refl _ _) | (with_reducible exact KqS) | (with_reducible exact KqS.size) | (with_reducible exact K7) | (with_reducible exact K7.size) | (with_reducible refine Below.alloc ?_ ?_ _) | (with_reducible refine Below.setCell ?_ ?_ _) | (with_reducible refine below_drewN ?_ _) | (simp; done) | omega | (simp; omega)))) (hb8.mono (by have hzz := hb8.size; (try simp at hzz); first | omega | (simp; done) | (simp; omega)))))
          go_ret
          exact ⟨rfl, K8⟩
      · have f1 : (e == 0) = false := by simpa using he
        have f2 : (e != 0) = true := by simpa using he
        clear he AP2
        go_wp2_with fail
        have a0 : ((((uw4.setCell ⟨uw1.heap.size, 0, none⟩ (.int .i64 x)).setCell ⟨uw1.heap.size, 1, none⟩ (.int .i64 y)).setCell ⟨uw1.heap.size, 2, none⟩ (.int .i64 z)).setCell ⟨uw1.heap.size, 3, none⟩ (.int .i64 s)).cell? ⟨w.heap.size, 0, none⟩ = some (.int .i64 n1) := far4 ne0 a0
        have a1 : ((((uw4.setCell ⟨uw1.heap.size, 0, none⟩ (.int .i64 x)).setCell ⟨uw1.heap.size, 1, none⟩ (.int .i64 y)).setCell ⟨uw1.heap.size, 2, none⟩ (.int .i64 z)).setCell ⟨uw1.heap.size, 3, none⟩ (.int .i64 s)).cell? ⟨w.heap.size, 1, none⟩ = some (.int .i64 d1) := far4 ne0 a1
        have a2 : ((((uw4.setCell ⟨uw1.heap.size, 0, none⟩ (.int .i64 x)).setCell ⟨uw1.heap.size, 1, none⟩ (.int .i64 y)).setCell ⟨uw1.heap.size, 2, none⟩ (.int .i64 z)).setCell ⟨uw1.heap.size, 3, none⟩ (.int .i64 s)).cell? ⟨w.heap.size, 2, none⟩ = some (.int .i64 t1) := far4 ne0 a2
        have a3 : ((((uw4.setCell ⟨uw1.heap.size, 0, none⟩ (.int .i64 x)).setCell ⟨uw1.heap.size, 1, none⟩ (.int .i64 y)).setCell ⟨uw1.heap.size, 2, none⟩ (.int .i64 z)).setCell ⟨uw1.heap.size, 3, none⟩ (.int .i64 s)).cell? ⟨w.heap.size, 3, none⟩ = some (.int .i64 u1) := far4 ne0 a3
        have b0 : ((((uw4.setCell ⟨uw1.heap.size, 0, none⟩ (.int .i64 x)).setCell ⟨uw1.heap.size, 1, none⟩ (.int .i64 y)).setCell ⟨uw1.heap.size, 2, none⟩ (.int .i64 z)).setCell ⟨uw1.heap.size, 3, none⟩ (.int .i64 s)).cell? ⟨w.heap.size + 1, 0, none⟩ = some (.int .i64 n2) := far4 ne1 b0
        have b1 : ((((uw4.setCell ⟨uw1.heap.size, 0, none⟩ (.int .i64 x)).setCell ⟨uw1.heap.size, 1, none⟩ (.int .i64 y)).setCell ⟨uw1.heap.size, 2, none⟩ (.int .i64 z)).setCell ⟨uw1.heap.size, 3, none⟩ (.int .i64 s)).cell? ⟨w.heap.size + 1, 1, none⟩ = some (.int .i64 d2) := far4 ne1 b1
        have b2 : ((((uw4.setCell ⟨uw1.heap.size, 0, none⟩ (.int .i64 x)).setCell ⟨uw1.heap.size, 1, none⟩ (.int .i64 y)).setCell ⟨uw1.heap.size, 2, none⟩ (.int .i64 z)).setCell ⟨uw1.heap.size, 3, none⟩ (.int .i64 s)).cell? ⟨w.heap.size + 1, 2, none⟩ = some (.int .i64 t2) := far4 ne1 b2
        have b3 : ((((uw4.setCell ⟨uw1.heap.size, 0, none⟩ (.int .i64 x)).setCell ⟨uw1.heap.size, 1, none⟩ (.int .i64 y)).setCell ⟨uw1.heap.size, 2, none⟩ (.int .i64 z)).setCell ⟨uw1.heap.size, 3, none⟩ (.int .i64 s)).cell? ⟨w.heap.size + 1, 3, none⟩ = some (.int .i64 u2) := far4 ne1 b3
        have hst := st4 (x := .int .i64 x) (y := .int .i64 y) (z := .int .i64 z) (t := .int .i64 s) m0 m1 m2 m3
        obtain ⟨s0, s1, s2, s3⟩ := hst
        have KS : Below w.heap.size w ((((uw4.setCell ⟨uw1.heap.size, 0, none⟩ (.int .i64 x)).setCell ⟨uw1.heap.size, 1, none⟩ (.int .i64 y)).setCell ⟨uw1.heap.size, 2, none⟩ (.int .i64 z)).setCell ⟨uw1.heap.size, 3, none⟩ (.int .i64 s)) := (Below.setCell (Below.setCell (Below.setCell (Below.setCell K9 (by dsimp only; omega) _) (by dsimp only; omega) _) (by dsimp only; omega) _) (by dsimp only; omega) _)
        have lm : uw1.heap.size < ((((uw4.setCell ⟨uw1.heap.size, 0, none⟩ (.int .i64 x)).setCell ⟨uw1.heap.size, 1, none⟩ (.int .i64 y)).setCell ⟨uw1.heap.size, 2, none⟩ (.int .i64 z)).setCell ⟨uw1.heap.size, 3, none⟩ (.int .i64 s)).heap.size := World.block_lt_of_cell? _ _ s0
        have lo0 : w.heap.size < ((((uw4.setCell ⟨uw1.heap.size, 0, none⟩ (.int .i64 x)).setCell ⟨uw1.heap.size, 1, none⟩ (.int .i64 y)).setCell ⟨uw1.heap.size, 2, none⟩ (.int .i64 z)).setCell ⟨uw1.heap.size, 3, none⟩ (.int .i64 s)).heap.size := by simp; omega
        have lo1 : w.heap.size + 1 < ((((uw4.setCell ⟨uw1.heap.size, 0, none⟩ (.int .i64 x)).setCell ⟨uw1.heap.size, 1, none⟩ (.int .i64 y)).setCell ⟨uw1.heap.size, 2, none⟩ (.int .i64 z)).setCell ⟨uw1.heap.size, 3, none⟩ (.int .i64 s)).heap.size := by simp; omega
        clear K9 m0 fm0 m1 fm1 m2 fm2 m3 fm3
        generalize ((((uw4.setCell ⟨uw1.heap.size, 0, none⟩ (.int .i64 x)).setCell ⟨uw1.heap.size, 1, none⟩ (.int .i64 y)).setCell ⟨uw1.heap.size, 2, none⟩ (.int .i64 z)).setCell ⟨uw1.heap.size, 3, none⟩ (.int .i64 s)) = gs at *
        go_wp2_with (first | (go_at_call 8; (with_reducible refine (RA.out _).mono ?_); rintro e w5 ⟨rfl, hb5⟩; have hc5 := (bcell hb5).1; have hf5 := (bcell hb5).2; have z5_0 : w.heap.size < w5.heap.size := (by have hzz := hb5.size; (try simp at hzz); omega); have z5_1 : w.heap.size + 1 < w5.heap.size := (by have hzz := hb5.size; (try simp at hzz); omega); have z5_2 : uw1.heap.size < w5.heap.size := (by have hzz := hb5.size; (try simp at hzz); omega); have K5 : Below w.heap.size w w5 := Below.trans (b := _) (by (repeat' (first | (with_reducible exact Below.refl _ _) | (with_reducible exact KS) | (with_reducible exact KS.size) | (with_reducible refine Below.alloc ?_ ?_ _) | (with_reducible refine Below.setCell ?_ ?_ _) | (with_reducible refine below_drewN ?_ _) | (simp; done) | omega | (simp; omega)))) (hb5.mono (by have hzz := hb5.size; (try simp at hzz); first | omega | (simp; done) | (simp; omega)))) | (go_at_call 10; (with_reducible refine (AL.out _).mono ?_); rintro e w6 ⟨rfl, hb6⟩; have hc6 := (bcell hb6).1; have hf6 := (bcell hb6).2; have K6 : Below w.heap.size w w6 := Below.trans (b := _) (by (repeat' (first | (with_reducible exact Below.refl _ _) | (with_reducible exact KS) | (with_reducible exact KS.size) | (with_reducible exact K5) | (with_reducible exact K5.size) | (with_reducible refine Below.alloc ?_ ?_ _) | (with_reducible refine Below.setCell ?_ ?_ _) | (with_reducible refine below_drewN ?_ _) | (simp; done) | omega | (simp; omega)))) (hb6.mono (by have hzz := hb6.size; (try simp at hzz); first | omega | (simp; done) | (simp; omega)))))
        go_ret
        exact ⟨rfl, K6⟩
  · rw [if_pos (by kernel_rfl)]
    go_simp
    have hNew := HS.out _ _ hHeld ((Below.refl _ _).alloc (Nat.le_refl _) (Obj.cells #[Value.int .i64 0, Value.int .i64 0, Value.int .i64 0, Value.int .i64 0] 26))
    refine hK.out _ _ hNew (fun _ => ?_)
    replace hHeld := hNew
    clear hNew
    clear hK KK
    refine Rk.one (i := 1) (by kernel_rfl) rfl (fun KK hK => ?_)
    rw [if_pos (by kernel_rfl)]
    go_simp
    (refine (IN1.out _).mono ?_; rintro e uw1 ⟨rfl, hb⟩)
    have hNew := HS.out _ _ hHeld hb
    have hs_uw1 : zw1.heap.size ≤ uw1.heap.size := by have hzz := hb.size; (try simp at hzz); omega
    have m0 : uw1.cell? ⟨zw1.heap.size, 0, none⟩ = some (.int .i64 0) := Rg.keep hb (by simp) (by go_cell)
    have fm0 : uw1.frozen? ⟨zw1.heap.size, 0, none⟩ = false := Rg.keepF hb (by simp) (by show (zw1.drew.alloc (Obj.cells #[Value.int .i64 0, Value.int .i64 0, Value.int .i64 0, Value.int .i64 0] 26)).frozen? ⟨zw1.drew.heap.size, 0, none⟩ = false; simp only [frozen?_alloc_cells]; exact Rg.notFrozen (Nat.le_refl _))
    have m1 : uw1.cell? ⟨zw1.heap.size, 1, none⟩ = some (.int .i64 0) := Rg.keep hb (by simp) (by go_cell)
    have fm1 : uw1.frozen? ⟨zw1.heap.size, 1, none⟩ = false := Rg.keepF hb (by simp) (by show (zw1.drew.alloc (Obj.cells #[Value.int .i64 0, Value.int .i64 0, Value.int .i64 0, Value.int .i64 0] 26)).frozen? ⟨zw1.drew.heap.size, 1, none⟩ = false; simp only [frozen?_alloc_cells]; exact Rg.notFrozen (Nat.le_refl _))
    have m2 : uw1.cell? ⟨zw1.heap.size, 2, none⟩ = some (.int .i64 0) := Rg.keep hb (by simp) (by go_cell)
    have fm2 : uw1.frozen? ⟨zw1.heap.size, 2, none⟩ = false := Rg.keepF hb (by simp) (by show (zw1.drew.alloc (Obj.cells #[Value.int .i64 0, Value.int .i64 0, Value.int .i64 0, Value.int .i64 0] 26)).frozen? ⟨zw1.drew.heap.size, 2, none⟩ = false; simp only [frozen?_alloc_cells]; exact Rg.notFrozen (Nat.le_refl _))
    have m3 : uw1.cell? ⟨zw1.heap.size, 3, none⟩ = some (.int .i64 0) := Rg.keep hb (by simp) (by go_cell)
    have fm3 : uw1.frozen? ⟨zw1.heap.size, 3, none⟩ = false := Rg.keepF hb (by simp) (by show (zw1.drew.alloc (Obj.cells #[Value.int .i64 0, Value.int .i64 0, Value.int .i64 0, Value.int .i64 0] 26)).frozen? ⟨zw1.drew.heap.size, 3, none⟩ = false; simp only [frozen?_alloc_cells]; exact Rg.notFrozen (Nat.le_refl _))
    first | (refine hK.out _ _ (fun _ => hNew) (fun _ => ?_)) | (refine hK.out _ _ hNew (fun _ => ?_)) | (go_wp2_with fail; refine hK.out _ _ hNew (fun _ => ?_))
    replace hHeld := hNew
    clear hNew hb
    clear hK KK
    refine Rk.one (i := 3) (by kernel_rfl) rfl (fun KK hK => ?_)
    rw [if_pos (by kernel_rfl)]
    go_simp
    (refine (IN2.out _).mono ?_; rintro e uw3 ⟨rfl, hb⟩)
    have hNew := HS.out _ _ hHeld hb
    have hs_uw3 : zw1.heap.size ≤ uw3.heap.size := by have hzz := hb.size; (try simp at hzz); omega
    have lm : zw1.heap.size < uw1.heap.size := World.block_lt_of_cell? _ _ m0
    have fm0 := Rg.keepF hb lm fm0
    have fm1 := Rg.keepF hb lm fm1
    have fm2 := Rg.keepF hb lm fm2
    have fm3 := Rg.keepF hb lm fm3
    have m0 := Rg.keep hb lm m0
    have m1 := Rg.keep hb lm m1
    have m2 := Rg.keep hb lm m2
    have m3 := Rg.keep hb lm m3
    clear lm
    first | (refine hK.out _ _ (fun _ => hNew) (fun _ => ?_)) | (refine hK.out _ _ hNew (fun _ => ?_)) | (go_wp2_with fail; refine hK.out _ _ hNew (fun _ => ?_))
    replace hHeld := hNew
    clear hNew hb
    clear hK KK
    refine Rk.one (i := 4) (by kernel_rfl) rfl (fun KK hK => ?_)
    rw [if_pos (by kernel_rfl)]
    go_simp
    (refine (AP.out _).mono ?_; rintro e uw4 ⟨rfl, hb⟩)
    have hNew := HS.out _ _ hHeld hb
    have hs_uw4 : zw1.heap.size ≤ uw4.heap.size := by have hzz := hb.size; (try simp at hzz); omega
    have lm : zw1.heap.size < uw3.heap.size := World.block_lt_of_cell? _ _ m0
    have fm0 := Rg.keepF hb lm fm0
    have fm1 := Rg.keepF hb lm fm1
    have fm2 := Rg.keepF hb lm fm2
    have fm3 := Rg.keepF hb lm fm3
    have m0 := Rg.keep hb lm m0
    have m1 := Rg.keep hb lm m1
    have m2 := Rg.keep hb lm m2
    have m3 := Rg.keep hb lm m3
    clear lm
    first | (refine hK.out _ _ (fun _ => hNew) (fun _ => ?_)) | (refine hK.out _ _ hNew (fun _ => ?_)) | (go_wp2_with fail; refine hK.out _ _ hNew (fun _ => ?_))
    replace hHeld := hNew
    clear hNew hb
    clear hK KK
    refine Rk.takeP (i := 5) (v := ?_) rfl (by kernel_rfl) (by kernel_rfl) (by kernel_rfl) (by kernel_rfl) (fun _ _ _ h => h) (Or.inl ⟨by kernel_rfl, ?_⟩) (by assumption) ?_
    rotate_left
    · ((intro w hSw; go_simp) <;> with_reducible rfl)
    try simp only [Act.put, List.setIfInBounds_toArray, List.set_cons_zero, List.set_cons_succ]
    refine Rk.takeP (i := 6) (v := ?_) rfl (by kernel_rfl) (by kernel_rfl) (by kernel_rfl) (by kernel_rfl) (fun _ _ _ h => h) (Or.inl ⟨by kernel_rfl, ?_⟩) (by assumption) ?_
    rotate_left
    · ((intro w hSw; go_simp) <;> with_reducible rfl)
    try simp only [Act.put, List.setIfInBounds_toArray, List.set_cons_zero, List.set_cons_succ]
    refine Rk.takeP (i := 7) (v := ?_) rfl (by kernel_rfl) (by kernel_rfl) (by kernel_rfl) (by kernel_rfl) (fun _ _ _ h => h) (Or.inl ⟨by kernel_rfl, ?_⟩) (by assumption) ?_
    rotate_left
    · ((intro w hSw; go_simp) <;> with_reducible rfl)
    try simp only [Act.put, List.setIfInBounds_toArray, List.set_cons_zero, List.set_cons_succ]
    refine Rk.tail [9, 10] [_, _] (by kernel_rfl) (by kernel_rfl) rfl (by decide) ?_
    obtain ⟨a0, a1, a2, a3, b0, b1, b2, b3, K9⟩ := hHeld
    have lm : zw1.heap.size < uw4.heap.size := World.block_lt_of_cell? _ _ m0
    have lw : w.heap.size ≤ zw1.heap.size := by omega
    have ne0 : zw1.heap.size ≠ w.heap.size := by omega
    have ne1 : zw1.heap.size ≠ w.heap.size + 1 := by omega
    have lo0 : w.heap.size < uw4.heap.size := by omega
    have lo1 : w.heap.size + 1 < uw4.heap.size := by omega
    by_cases he : e = 0
    · subst he
      have hback := BACK.out rfl
      rw [hback] at AP2
      clear RA
      go_wp2_with fail
      have a0 : ((((uw4.setCell ⟨zw1.heap.size, 0, none⟩ (.int .i64 x)).setCell ⟨zw1.heap.size, 1, none⟩ (.int .i64 y)).setCell ⟨zw1.heap.size, 2, none⟩ (.int .i64 z)).setCell ⟨zw1.heap.size, 3, none⟩ (.int .i64 s)).cell? ⟨w.heap.size, 0, none⟩ = some (.int .i64 n1) := far4 ne0 a0
      have a1 : ((((uw4.setCell ⟨zw1.heap.size, 0, none⟩ (.int .i64 x)).setCell ⟨zw1.heap.size, 1, none⟩ (.int .i64 y)).setCell ⟨zw1.heap.size, 2, none⟩ (.int .i64 z)).setCell ⟨zw1.heap.size, 3, none⟩ (.int .i64 s)).cell? ⟨w.heap.size, 1, none⟩ = some (.int .i64 d1) := far4 ne0 a1
      have a2 : ((((uw4.setCell ⟨zw1.heap.size, 0, none⟩ (.int .i64 x)).setCell ⟨zw1.heap.size, 1, none⟩ (.int .i64 y)).setCell ⟨zw1.heap.size, 2, none⟩ (.int .i64 z)).setCell ⟨zw1.heap.size, 3, none⟩ (.int .i64 s)).cell? ⟨w.heap.size, 2, none⟩ = some (.int .i64 t1) := far4 ne0 a2
      have a3 : ((((uw4.setCell ⟨zw1.heap.size, 0, none⟩ (.int .i64 x)).setCell ⟨zw1.heap.size, 1, none⟩ (.int .i64 y)).setCell ⟨zw1.heap.size, 2, none⟩ (.int .i64 z)).setCell ⟨zw1.heap.size, 3, none⟩ (.int .i64 s)).cell? ⟨w.heap.size, 3, none⟩ = some (.int .i64 u1) := far4 ne0 a3
      have b0 : ((((uw4.setCell ⟨zw1.heap.size, 0, none⟩ (.int .i64 x)).setCell ⟨zw1.heap.size, 1, none⟩ (.int .i64 y)).setCell ⟨zw1.heap.size, 2, none⟩ (.int .i64 z)).setCell ⟨zw1.heap.size, 3, none⟩ (.int .i64 s)).cell? ⟨w.heap.size + 1, 0, none⟩ = some (.int .i64 n2) := far4 ne1 b0
      have b1 : ((((uw4.setCell ⟨zw1.heap.size, 0, none⟩ (.int .i64 x)).setCell ⟨zw1.heap.size, 1, none⟩ (.int .i64 y)).setCell ⟨zw1.heap.size, 2, none⟩ (.int .i64 z)).setCell ⟨zw1.heap.size, 3, none⟩ (.int .i64 s)).cell? ⟨w.heap.size + 1, 1, none⟩ = some (.int .i64 d2) := far4 ne1 b1
      have b2 : ((((uw4.setCell ⟨zw1.heap.size, 0, none⟩ (.int .i64 x)).setCell ⟨zw1.heap.size, 1, none⟩ (.int .i64 y)).setCell ⟨zw1.heap.size, 2, none⟩ (.int .i64 z)).setCell ⟨zw1.heap.size, 3, none⟩ (.int .i64 s)).cell? ⟨w.heap.size + 1, 2, none⟩ = some (.int .i64 t2) := far4 ne1 b2
      have b3 : ((((uw4.setCell ⟨zw1.heap.size, 0, none⟩ (.int .i64 x)).setCell ⟨zw1.heap.size, 1, none⟩ (.int .i64 y)).setCell ⟨zw1.heap.size, 2, none⟩ (.int .i64 z)).setCell ⟨zw1.heap.size, 3, none⟩ (.int .i64 s)).cell? ⟨w.heap.size + 1, 3, none⟩ = some (.int .i64 u2) := far4 ne1 b3
      have hst := st4 (x := .int .i64 x) (y := .int .i64 y) (z := .int .i64 z) (t := .int .i64 s) m0 m1 m2 m3
      obtain ⟨s0, s1, s2, s3⟩ := hst
      have KS : Below w.heap.size w ((((uw4.setCell ⟨zw1.heap.size, 0, none⟩ (.int .i64 x)).setCell ⟨zw1.heap.size, 1, none⟩ (.int .i64 y)).setCell ⟨zw1.heap.size, 2, none⟩ (.int .i64 z)).setCell ⟨zw1.heap.size, 3, none⟩ (.int .i64 s)) := (Below.setCell (Below.setCell (Below.setCell (Below.setCell K9 (by dsimp only; omega) _) (by dsimp only; omega) _) (by dsimp only; omega) _) (by dsimp only; omega) _)
      have lm : zw1.heap.size < ((((uw4.setCell ⟨zw1.heap.size, 0, none⟩ (.int .i64 x)).setCell ⟨zw1.heap.size, 1, none⟩ (.int .i64 y)).setCell ⟨zw1.heap.size, 2, none⟩ (.int .i64 z)).setCell ⟨zw1.heap.size, 3, none⟩ (.int .i64 s)).heap.size := World.block_lt_of_cell? _ _ s0
      have lo0 : w.heap.size < ((((uw4.setCell ⟨zw1.heap.size, 0, none⟩ (.int .i64 x)).setCell ⟨zw1.heap.size, 1, none⟩ (.int .i64 y)).setCell ⟨zw1.heap.size, 2, none⟩ (.int .i64 z)).setCell ⟨zw1.heap.size, 3, none⟩ (.int .i64 s)).heap.size := by simp; omega
      have lo1 : w.heap.size + 1 < ((((uw4.setCell ⟨zw1.heap.size, 0, none⟩ (.int .i64 x)).setCell ⟨zw1.heap.size, 1, none⟩ (.int .i64 y)).setCell ⟨zw1.heap.size, 2, none⟩ (.int .i64 z)).setCell ⟨zw1.heap.size, 3, none⟩ (.int .i64 s)).heap.size := by simp; omega
      clear K9 m0 fm0 m1 fm1 m2 fm2 m3 fm3
      generalize ((((uw4.setCell ⟨zw1.heap.size, 0, none⟩ (.int .i64 x)).setCell ⟨zw1.heap.size, 1, none⟩ (.int .i64 y)).setCell ⟨zw1.heap.size, 2, none⟩ (.int .i64 z)).setCell ⟨zw1.heap.size, 3, none⟩ (.int .i64 s)) = gs at *
      have hz2 : gs.cell? ⟨w.heap.size, 0, none⟩ = some (.int .i64 n1) ∧ gs.cell? ⟨w.heap.size, 1, none⟩ = some (.int .i64 d1) ∧ gs.cell? ⟨w.heap.size, 2, none⟩ = some (.int .i64 t1) ∧ gs.cell? ⟨w.heap.size, 3, none⟩ = some (.int .i64 u1) ∧ gs.cell? ⟨w.heap.size + 1, 0, none⟩ = some (.int .i64 n2) ∧ gs.cell? ⟨w.heap.size + 1, 1, none⟩ = some (.int .i64 d2) ∧ gs.cell? ⟨w.heap.size + 1, 2, none⟩ = some (.int .i64 t2) ∧ gs.cell? ⟨w.heap.size + 1, 3, none⟩ = some (.int .i64 u2) ∧ gs.cell? ⟨zw1.heap.size, 0, none⟩ = some (.int .i64 x) ∧ gs.cell? ⟨zw1.heap.size, 1, none⟩ = some (.int .i64 y) ∧ gs.cell? ⟨zw1.heap.size, 2, none⟩ = some (.int .i64 z) ∧ gs.cell? ⟨zw1.heap.size, 3, none⟩ = some (.int .i64 s) ∧ Below w.heap.size w gs := ⟨a0, a1, a2, a3, b0, b1, b2, b3, s0, s1, s2, s3, KS⟩
      clear a0 a1 a2 a3 b0 b1 b2 b3 s0 s1 s2 s3 KS
      have qHS : Hid (∀ u u' : World, (u.cell? ⟨w.heap.size, 0, none⟩ = some (.int .i64 n1) ∧ u.cell? ⟨w.heap.size, 1, none⟩ = some (.int .i64 d1) ∧ u.cell? ⟨w.heap.size, 2, none⟩ = some (.int .i64 t1) ∧ u.cell? ⟨w.heap.size, 3, none⟩ = some (.int .i64 u1) ∧ u.cell? ⟨w.heap.size + 1, 0, none⟩ = some (.int .i64 n2) ∧ u.cell? ⟨w.heap.size + 1, 1, none⟩ = some (.int .i64 d2) ∧ u.cell? ⟨w.heap.size + 1, 2, none⟩ = some (.int .i64 t2) ∧ u.cell? ⟨w.heap.size + 1, 3, none⟩ = some (.int .i64 u2) ∧ u.cell? ⟨zw1.heap.size, 0, none⟩ = some (.int .i64 x) ∧ u.cell? ⟨zw1.heap.size, 1, none⟩ = some (.int .i64 y) ∧ u.cell? ⟨zw1.heap.size, 2, none⟩ = some (.int .i64 z) ∧ u.cell? ⟨zw1.heap.size, 3, none⟩ = some (.int .i64 s) ∧ Below w.heap.size w u) → Below u.heap.size u u' → (u'.cell? ⟨w.heap.size, 0, none⟩ = some (.int .i64 n1) ∧ u'.cell? ⟨w.heap.size, 1, none⟩ = some (.int .i64 d1) ∧ u'.cell? ⟨w.heap.size, 2, none⟩ = some (.int .i64 t1) ∧ u'.cell? ⟨w.heap.size, 3, none⟩ = some (.int .i64 u1) ∧ u'.cell? ⟨w.heap.size + 1, 0, none⟩ = some (.int .i64 n2) ∧ u'.cell? ⟨w.heap.size + 1, 1, none⟩ = some (.int .i64 d2) ∧ u'.cell? ⟨w.heap.size + 1, 2, none⟩ = some (.int .i64 t2) ∧ u'.cell? ⟨w.heap.size + 1, 3, none⟩ = some (.int .i64 u2) ∧ u'.cell? ⟨zw1.heap.size, 0, none⟩ = some (.int .i64 x) ∧ u'.cell? ⟨zw1.heap.size, 1, none⟩ = some (.int .i64 y) ∧ u'.cell? ⟨zw1.heap.size, 2, none⟩ = some (.int .i64 z) ∧ u'.cell? ⟨zw1.heap.size, 3, none⟩ = some (.int .i64 s) ∧ Below w.heap.size w u')) := Lib.hid (fun u u' h hb => ⟨Rg.keep hb (World.block_lt_of_cell? _ _ h.1) h.1, Rg.keep hb (World.block_lt_of_cell? _ _ h.2.1) h.2.1, Rg.keep hb (World.block_lt_of_cell? _ _ h.2.2.1) h.2.2.1, Rg.keep hb (World.block_lt_of_cell? _ _ h.2.2.2.1) h.2.2.2.1, Rg.keep hb (World.block_lt_of_cell? _ _ h.2.2.2.2.1) h.2.2.2.2.1, Rg.keep hb (World.block_lt_of_cell? _ _ h.2.2.2.2.2.1) h.2.2.2.2.2.1, Rg.keep hb (World.block_lt_of_cell? _ _ h.2.2.2.2.2.2.1) h.2.2.2.2.2.2.1, Rg.keep hb (World.block_lt_of_cell? _ _ h.2.2.2.2.2.2.2.1) h.2.2.2.2.2.2.2.1, Rg.keep hb (World.block_lt_of_cell? _ _ h.2.2.2.2.2.2.2.2.1) h.2.2.2.2.2.2.2.2.1, Rg.keep hb (World.block_lt_of_cell? _ _ h.2.2.2.2.2.2.2.2.2.1) h.2.2.2.2.2.2.2.2.2.1, Rg.keep hb (World.block_lt_of_cell? _ _ h.2.2.2.2.2.2.2.2.2.2.1) h.2.2.2.2.2.2.2.2.2.2.1, Rg.keep hb (World.block_lt_of_cell? _ _ h.2.2.2.2.2.2.2.2.2.2.2.1) h.2.2.2.2.2.2.2.2.2.2.2.1, h.2.2.2.2.2.2.2.2.2.2.2.2.trans (hb.mono h.2.2.2.2.2.2.2.2.2.2.2.2.size)⟩)
      refine Rk.begin (S := fun wS => wS.cell? ⟨w.heap.size, 0, none⟩ = some (.int .i64 n1) ∧ wS.cell? ⟨w.heap.size, 1, none⟩ = some (.int .i64 d1) ∧ wS.cell? ⟨w.heap.size, 2, none⟩ = some (.int .i64 t1) ∧ wS.cell? ⟨w.heap.size, 3, none⟩ = some (.int .i64 u1) ∧ wS.cell? ⟨w.heap.size + 1, 0, none⟩ = some (.int .i64 n2) ∧ wS.cell? ⟨w.heap.size + 1, 1, none⟩ = some (.int .i64 d2) ∧ wS.cell? ⟨w.heap.size + 1, 2, none⟩ = some (.int .i64 t2) ∧ wS.cell? ⟨w.heap.size + 1, 3, none⟩ = some (.int .i64 u2) ∧ wS.cell? ⟨zw1.heap.size, 0, none⟩ = some (.int .i64 x) ∧ wS.cell? ⟨zw1.heap.size, 1, none⟩ = some (.int .i64 y) ∧ wS.cell? ⟨zw1.heap.size, 2, none⟩ = some (.int .i64 z) ∧ wS.cell? ⟨zw1.heap.size, 3, none⟩ = some (.int .i64 s) ∧ Below w.heap.size w wS) 8 (by kernel_rfl) (qHS.out _ _ hz2 (Below.drew (Below.refl _ _))) (fun hHeld => ?_)
      refine Rk.take [8] (i := 0) (v := ?_) rfl (by kernel_rfl) (by kernel_rfl) (by kernel_rfl) (by kernel_rfl) (by kernel_rfl) (fun _ _ _ h => h) (Or.inl ⟨by kernel_rfl, ?_⟩) (by assumption) ?_
      rotate_left
      · ((intro w hSw; (try dsimp only at hSw); go_simp) <;> with_reducible rfl)
      try simp only [Act.put, List.setIfInBounds_toArray, List.set_cons_zero, List.set_cons_succ]
      refine Rk.take [8] (i := 1) (v := ?_) rfl (by kernel_rfl) (by kernel_rfl) (by kernel_rfl) (by kernel_rfl) (by kernel_rfl) (fun _ _ _ h => h) (Or.inl ⟨by kernel_rfl, ?_⟩) (by assumption) ?_
      rotate_left
      · ((intro w hSw; (try dsimp only at hSw); go_simp) <;> with_reducible rfl)
      try simp only [Act.put, List.setIfInBounds_toArray, List.set_cons_zero, List.set_cons_succ]
      refine Rk.two (i := 2) (j := 7) (by kernel_rfl) rfl rfl (fun KK hK => ?_) (fun KK hK => ?_)
      · rw [if_pos (by kernel_rfl)]
        go_simp
        (refine (IN2.out _).mono ?_; rintro e quw2 ⟨rfl, hb⟩)
        have hNew := qHS.out _ _ hHeld hb
        have hs_quw2 : gs.heap.size ≤ quw2.heap.size := by have hzz := hb.size; (try simp at hzz); omega
        first | (refine hK.out _ _ (fun _ => hNew) (fun _ => ?_)) | (refine hK.out _ _ hNew (fun _ => ?_)) | (go_wp2_with fail; refine hK.out _ _ hNew (fun _ => ?_))
        replace hHeld := hNew
        clear hNew hb
        clear hK KK
        refine Rk.two (i := 3) (j := 7) (by kernel_rfl) rfl rfl (fun KK hK => ?_) (fun KK hK => ?_)
        · rw [if_pos (by kernel_rfl)]
          go_simp
          (refine (AP2.out _).mono ?_; rintro e quw3 ⟨rfl, hb⟩)
          have hNew := qHS.out _ _ hHeld hb
          have hs_quw3 : gs.heap.size ≤ quw3.heap.size := by have hzz := hb.size; (try simp at hzz); omega
          first | (refine hK.out _ _ (fun _ => hNew) (fun _ => ?_)) | (refine hK.out _ _ hNew (fun _ => ?_)) | (go_wp2_with fail; refine hK.out _ _ hNew (fun _ => ?_))
          replace hHeld := hNew
          clear hNew hb
          clear hK KK
          refine Rk.takeP (i := 4) (v := ?_) rfl (by kernel_rfl) (by kernel_rfl) (by kernel_rfl) (by kernel_rfl) (fun _ _ _ h => h) (Or.inl ⟨by kernel_rfl, ?_⟩) (by assumption) ?_
          rotate_left
          · ((intro w hSw; go_simp) <;> with_reducible rfl)
          try simp only [Act.put, List.setIfInBounds_toArray, List.set_cons_zero, List.set_cons_succ]
          refine Rk.takeP (i := 5) (v := ?_) rfl (by kernel_rfl) (by kernel_rfl) (by kernel_rfl) (by kernel_rfl) (fun _ _ _ h => h) (Or.inl ⟨by kernel_rfl, ?_⟩) (by assumption) ?_
          rotate_left
          · ((intro w hSw; go_simp) <;> with_reducible rfl)
          try simp only [Act.put, List.setIfInBounds_toArray, List.set_cons_zero, List.set_cons_succ]
          refine Rk.takeP (i := 6) (v := ?_) rfl (by kernel_rfl) (by kernel_rfl) (by kernel_rfl) (by kernel_rfl) (fun _ _ _ h => h) (Or.inl ⟨by kernel_rfl, ?_⟩) (by assumption) ?_
          rotate_left
          · ((intro w hSw; go_simp) <;> with_reducible rfl)
          try simp only [Act.put, List.setIfInBounds_toArray, List.set_cons_zero, List.set_cons_succ]
          refine Rk.one (i := 7) (by kernel_rfl) rfl (fun KK hK => ?_)
          rw [if_pos (by kernel_rfl)]
          go_simp
          have hNew := qHS.out _ _ hHeld ((Below.refl _ _).alloc (Nat.le_refl _) (Obj.cells #[Value.int .i64 0, Value.int .i64 0, Value.int .i64 0, Value.int .i64 0] 26))
          refine hK.out _ _ hNew (fun _ => ?_)
          replace hHeld := hNew
          clear hNew
          clear hK KK
          refine Rk.tail [8, 9] [_, _] (by kernel_rfl) (by kernel_rfl) rfl (by decide) ?_
          obtain ⟨a0, a1, a2, a3, b0, b1, b2, b3, s0, s1, s2, s3, K8⟩ := hHeld
          have qm0 : (quw3.alloc (Obj.cells #[Value.int .i64 0, Value.int .i64 0, Value.int .i64 0, Value.int .i64 0] 26)).cell? ⟨quw3.heap.size, 0, none⟩ = some (.int .i64 0) := by go_cell
          have qfm0 : (quw3.alloc (Obj.cells #[Value.int .i64 0, Value.int .i64 0, Value.int .i64 0, Value.int .i64 0] 26)).frozen? ⟨quw3.heap.size, 0, none⟩ = false := by simp only [frozen?_alloc_cells]; exact Rg.notFrozen (Nat.le_refl _)
          have qm1 : (quw3.alloc (Obj.cells #[Value.int .i64 0, Value.int .i64 0, Value.int .i64 0, Value.int .i64 0] 26)).cell? ⟨quw3.heap.size, 1, none⟩ = some (.int .i64 0) := by go_cell
          have qfm1 : (quw3.alloc (Obj.cells #[Value.int .i64 0, Value.int .i64 0, Value.int .i64 0, Value.int .i64 0] 26)).frozen? ⟨quw3.heap.size, 1, none⟩ = false := by simp only [frozen?_alloc_cells]; exact Rg.notFrozen (Nat.le_refl _)
          have qm2 : (quw3.alloc (Obj.cells #[Value.int .i64 0, Value.int .i64 0, Value.int .i64 0, Value.int .i64 0] 26)).cell? ⟨quw3.heap.size, 2, none⟩ = some (.int .i64 0) := by go_cell
          have qfm2 : (quw3.alloc (Obj.cells #[Value.int .i64 0, Value.int .i64 0, Value.int .i64 0, Value.int .i64 0] 26)).frozen? ⟨quw3.heap.size, 2, none⟩ = false := by simp only [frozen?_alloc_cells]; exact Rg.notFrozen (Nat.le_refl _)
          have qm3 : (quw3.alloc (Obj.cells #[Value.int .i64 0, Value.int .i64 0, Value.int .i64 0, Value.int .i64 0] 26)).cell? ⟨quw3.heap.size, 3, none⟩ = some (.int .i64 0) := by go_cell
          have qfm3 : (quw3.alloc (Obj.cells #[Value.int .i64 0, Value.int .i64 0, Value.int .i64 0, Value.int .i64 0] 26)).frozen? ⟨quw3.heap.size, 3, none⟩ = false := by simp only [frozen?_alloc_cells]; exact Rg.notFrozen (Nat.le_refl _)
          generalize (quw3.alloc (Obj.cells #[Value.int .i64 0, Value.int .i64 0, Value.int .i64 0, Value.int .i64 0] 26)) = qgw at *
          have qlm : quw3.heap.size < qgw.heap.size := World.block_lt_of_cell? _ _ qm0
          have qlw : w.heap.size ≤ quw3.heap.size := by omega
          have qne0 : quw3.heap.size ≠ w.heap.size := by omega
          have qne1 : quw3.heap.size ≠ w.heap.size + 1 := by omega
          have qne2 : quw3.heap.size ≠ zw1.heap.size := by omega
          have qlo0 : w.heap.size < qgw.heap.size := by omega
          have qlo1 : w.heap.size + 1 < qgw.heap.size := by omega
          have qlo2 : zw1.heap.size < qgw.heap.size := by omega
          go_wp2_with fail
          have a0 : ((((qgw.setCell ⟨quw3.heap.size, 0, none⟩ (.int .i64 n1)).setCell ⟨quw3.heap.size, 1, none⟩ (.int .i64 d1)).setCell ⟨quw3.heap.size, 2, none⟩ (.int .i64 t1)).setCell ⟨quw3.heap.size, 3, none⟩ (.int .i64 u1)).cell? ⟨w.heap.size, 0, none⟩ = some (.int .i64 n1) := far4 qne0 a0
          have a1 : ((((qgw.setCell ⟨quw3.heap.size, 0, none⟩ (.int .i64 n1)).setCell ⟨quw3.heap.size, 1, none⟩ (.int .i64 d1)).setCell ⟨quw3.heap.size, 2, none⟩ (.int .i64 t1)).setCell ⟨quw3.heap.size, 3, none⟩ (.int .i64 u1)).cell? ⟨w.heap.size, 1, none⟩ = some (.int .i64 d1) := far4 qne0 a1
          have a2 : ((((qgw.setCell ⟨quw3.heap.size, 0, none⟩ (.int .i64 n1)).setCell ⟨quw3.heap.size, 1, none⟩ (.int .i64 d1)).setCell ⟨quw3.heap.size, 2, none⟩ (.int .i64 t1)).setCell ⟨quw3.heap.size, 3, none⟩ (.int .i64 u1)).cell? ⟨w.heap.size, 2, none⟩ = some (.int .i64 t1) := far4 qne0 a2
          have a3 : ((((qgw.setCell ⟨quw3.heap.size, 0, none⟩ (.int .i64 n1)).setCell ⟨quw3.heap.size, 1, none⟩ (.int .i64 d1)).setCell ⟨quw3.heap.size, 2, none⟩ (.int .i64 t1)).setCell ⟨quw3.heap.size, 3, none⟩ (.int .i64 u1)).cell? ⟨w.heap.size, 3, none⟩ = some (.int .i64 u1) := far4 qne0 a3
          have b0 : ((((qgw.setCell ⟨quw3.heap.size, 0, none⟩ (.int .i64 n1)).setCell ⟨quw3.heap.size, 1, none⟩ (.int .i64 d1)).setCell ⟨quw3.heap.size, 2, none⟩ (.int .i64 t1)).setCell ⟨quw3.heap.size, 3, none⟩ (.int .i64 u1)).cell? ⟨w.heap.size + 1, 0, none⟩ = some (.int .i64 n2) := far4 qne1 b0
          have b1 : ((((qgw.setCell ⟨quw3.heap.size, 0, none⟩ (.int .i64 n1)).setCell ⟨quw3.heap.size, 1, none⟩ (.int .i64 d1)).setCell ⟨quw3.heap.size, 2, none⟩ (.int .i64 t1)).setCell ⟨quw3.heap.size, 3, none⟩ (.int .i64 u1)).cell? ⟨w.heap.size + 1, 1, none⟩ = some (.int .i64 d2) := far4 qne1 b1
          have b2 : ((((qgw.setCell ⟨quw3.heap.size, 0, none⟩ (.int .i64 n1)).setCell ⟨quw3.heap.size, 1, none⟩ (.int .i64 d1)).setCell ⟨quw3.heap.size, 2, none⟩ (.int .i64 t1)).setCell ⟨quw3.heap.size, 3, none⟩ (.int .i64 u1)).cell? ⟨w.heap.size + 1, 2, none⟩ = some (.int .i64 t2) := far4 qne1 b2
          have b3 : ((((qgw.setCell ⟨quw3.heap.size, 0, none⟩ (.int .i64 n1)).setCell ⟨quw3.heap.size, 1, none⟩ (.int .i64 d1)).setCell ⟨quw3.heap.size, 2, none⟩ (.int .i64 t1)).setCell ⟨quw3.heap.size, 3, none⟩ (.int .i64 u1)).cell? ⟨w.heap.size + 1, 3, none⟩ = some (.int .i64 u2) := far4 qne1 b3
          have s0 : ((((qgw.setCell ⟨quw3.heap.size, 0, none⟩ (.int .i64 n1)).setCell ⟨quw3.heap.size, 1, none⟩ (.int .i64 d1)).setCell ⟨quw3.heap.size, 2, none⟩ (.int .i64 t1)).setCell ⟨quw3.heap.size, 3, none⟩ (.int .i64 u1)).cell? ⟨zw1.heap.size, 0, none⟩ = some (.int .i64 x) := far4 qne2 s0
          have s1 : ((((qgw.setCell ⟨quw3.heap.size, 0, none⟩ (.int .i64 n1)).setCell ⟨quw3.heap.size, 1, none⟩ (.int .i64 d1)).setCell ⟨quw3.heap.size, 2, none⟩ (.int .i64 t1)).setCell ⟨quw3.heap.size, 3, none⟩ (.int .i64 u1)).cell? ⟨zw1.heap.size, 1, none⟩ = some (.int .i64 y) := far4 qne2 s1
          have s2 : ((((qgw.setCell ⟨quw3.heap.size, 0, none⟩ (.int .i64 n1)).setCell ⟨quw3.heap.size, 1, none⟩ (.int .i64 d1)).setCell ⟨quw3.heap.size, 2, none⟩ (.int .i64 t1)).setCell ⟨quw3.heap.size, 3, none⟩ (.int .i64 u1)).cell? ⟨zw1.heap.size, 2, none⟩ = some (.int .i64 z) := far4 qne2 s2
          have s3 : ((((qgw.setCell ⟨quw3.heap.size, 0, none⟩ (.int .i64 n1)).setCell ⟨quw3.heap.size, 1, none⟩ (.int .i64 d1)).setCell ⟨quw3.heap.size, 2, none⟩ (.int .i64 t1)).setCell ⟨quw3.heap.size, 3, none⟩ (.int .i64 u1)).cell? ⟨zw1.heap.size, 3, none⟩ = some (.int .i64 s) := far4 qne2 s3
          have hst := st4 (x := .int .i64 n1) (y := .int .i64 d1) (z := .int .i64 t1) (t := .int .i64 u1) qm0 qm1 qm2 qm3
          obtain ⟨qs0, qs1, qs2, qs3⟩ := hst
          have KqS : Below w.heap.size w ((((qgw.setCell ⟨quw3.heap.size, 0, none⟩ (.int .i64 n1)).setCell ⟨quw3.heap.size, 1, none⟩ (.int .i64 d1)).setCell ⟨quw3.heap.size, 2, none⟩ (.int .i64 t1)).setCell ⟨quw3.heap.size, 3, none⟩ (.int .i64 u1)) := (Below.setCell (Below.setCell (Below.setCell (Below.setCell K8 (by dsimp only; omega) _) (by dsimp only; omega) _) (by dsimp only; omega) _) (by dsimp only; omega) _)
          have qlm : quw3.heap.size < ((((qgw.setCell ⟨quw3.heap.size, 0, none⟩ (.int .i64 n1)).setCell ⟨quw3.heap.size, 1, none⟩ (.int .i64 d1)).setCell ⟨quw3.heap.size, 2, none⟩ (.int .i64 t1)).setCell ⟨quw3.heap.size, 3, none⟩ (.int .i64 u1)).heap.size := World.block_lt_of_cell? _ _ qs0
          have qlo0 : w.heap.size < ((((qgw.setCell ⟨quw3.heap.size, 0, none⟩ (.int .i64 n1)).setCell ⟨quw3.heap.size, 1, none⟩ (.int .i64 d1)).setCell ⟨quw3.heap.size, 2, none⟩ (.int .i64 t1)).setCell ⟨quw3.heap.size, 3, none⟩ (.int .i64 u1)).heap.size := by simp; omega
          have qlo1 : w.heap.size + 1 < ((((qgw.setCell ⟨quw3.heap.size, 0, none⟩ (.int .i64 n1)).setCell ⟨quw3.heap.size, 1, none⟩ (.int .i64 d1)).setCell ⟨quw3.heap.size, 2, none⟩ (.int .i64 t1)).setCell ⟨quw3.heap.size, 3, none⟩ (.int .i64 u1)).heap.size := by simp; omega
          have qlo2 : zw1.heap.size < ((((qgw.setCell ⟨quw3.heap.size, 0, none⟩ (.int .i64 n1)).setCell ⟨quw3.heap.size, 1, none⟩ (.int .i64 d1)).setCell ⟨quw3.heap.size, 2, none⟩ (.int .i64 t1)).setCell ⟨quw3.heap.size, 3, none⟩ (.int .i64 u1)).heap.size := by simp; omega
          clear K8 qm0 qfm0 qm1 qfm1 qm2 qfm2 qm3 qfm3
          generalize ((((qgw.setCell ⟨quw3.heap.size, 0, none⟩ (.int .i64 n1)).setCell ⟨quw3.heap.size, 1, none⟩ (.int .i64 d1)).setCell ⟨quw3.heap.size, 2, none⟩ (.int .i64 t1)).setCell ⟨quw3.heap.size, 3, none⟩ (.int .i64 u1)) = qgs at *
          go_wp2_with (first | (go_at_call 9; (with_reducible refine (SM.out _).mono ?_); rintro e w7 ⟨rfl, hb7⟩; have hc7 := (bcell hb7).1; have hf7 := (bcell hb7).2; have z7_0 : w.heap.size < w7.heap.size := (by have hzz := hb7.size; (try simp at hzz); omega); have z7_1 : w.heap.size + 1 < w7.heap.size := (by have hzz := hb7.size; (try simp at hzz); omega); have z7_2 : zw1.heap.size < w7.heap.size := (by have hzz := hb7.size; (try simp at hzz); omega); have z7_3 : quw3.heap.size < w7.heap.size := (by have hzz := hb7.size; (try simp at hzz); omega); have K7 : Below w.heap.size w w7 := Below.trans (b := _) (by (repeat' (first | (with_reducible exact Below.refl _ _) | (with_reducible exact KqS) | (with_reducible exact KqS.size) | (with_reducible refine Below.alloc ?_ ?_ _) | (with_reducible refine Below.setCell ?_ ?_ _) | (with_reducible refine below_drewN ?_ _) | (simp; done) | omega | (simp; omega)))) (hb7.mono (by have hzz := hb7.size; (try simp at hzz); first | omega | (simp; done) | (simp; omega)))) | (go_at_call 10; (with_reducible refine (AL.out _).mono ?_); rintro e w8 ⟨rfl, hb8⟩; have hc8 := (bcell hb8).1; have hf8 := (bcell hb8).2; have K8 : Below w.heap.size w w8 := Below.trans (b := _) (by (repeat' (first | (with_reducible exact Below.refl _ _) | (with_reducible exact KqS) | (with_reducible exact KqS.size) | (with_reducible exact K7) | (with_reducible exact K7.size) | (with_reducible refine Below.alloc ?_ ?_ _) | (with_reducible refine Below.setCell ?_ ?_ _) | (with_reducible refine below_drewN ?_ _) | (simp; done) | omega | (simp; omega)))) (hb8.mono (by have hzz := hb8.size; (try simp at hzz); first | omega | (simp; done) | (simp; omega)))))
          go_ret
          exact ⟨rfl, K8⟩
        · rw [if_pos (by kernel_rfl)]
          go_simp
          have hNew := qHS.out _ _ hHeld ((Below.refl _ _).alloc (Nat.le_refl _) (Obj.cells #[Value.int .i64 0, Value.int .i64 0, Value.int .i64 0, Value.int .i64 0] 26))
          refine hK.out _ _ hNew (fun _ => ?_)
          replace hHeld := hNew
          clear hNew
          clear hK KK
          refine Rk.one (i := 3) (by kernel_rfl) rfl (fun KK hK => ?_)
          rw [if_pos (by kernel_rfl)]
          go_simp
          (refine (AP2.out _).mono ?_; rintro e quw3 ⟨rfl, hb⟩)
          have hNew := qHS.out _ _ hHeld hb
          have hs_quw3 : gs.heap.size ≤ quw3.heap.size := by have hzz := hb.size; (try simp at hzz); omega
          have qm0 : quw3.cell? ⟨quw2.heap.size, 0, none⟩ = some (.int .i64 0) := Rg.keep hb (by simp) (by go_cell)
          have qfm0 : quw3.frozen? ⟨quw2.heap.size, 0, none⟩ = false := Rg.keepF hb (by simp) (by show (quw2.alloc (Obj.cells #[Value.int .i64 0, Value.int .i64 0, Value.int .i64 0, Value.int .i64 0] 26)).frozen? ⟨quw2.heap.size, 0, none⟩ = false; simp only [frozen?_alloc_cells]; exact Rg.notFrozen (Nat.le_refl _))
          have qm1 : quw3.cell? ⟨quw2.heap.size, 1, none⟩ = some (.int .i64 0) := Rg.keep hb (by simp) (by go_cell)
          have qfm1 : quw3.frozen? ⟨quw2.heap.size, 1, none⟩ = false := Rg.keepF hb (by simp) (by show (quw2.alloc (Obj.cells #[Value.int .i64 0, Value.int .i64 0, Value.int .i64 0, Value.int .i64 0] 26)).frozen? ⟨quw2.heap.size, 1, none⟩ = false; simp only [frozen?_alloc_cells]; exact Rg.notFrozen (Nat.le_refl _))
          have qm2 : quw3.cell? ⟨quw2.heap.size, 2, none⟩ = some (.int .i64 0) := Rg.keep hb (by simp) (by go_cell)
          have qfm2 : quw3.frozen? ⟨quw2.heap.size, 2, none⟩ = false := Rg.keepF hb (by simp) (by show (quw2.alloc (Obj.cells #[Value.int .i64 0, Value.int .i64 0, Value.int .i64 0, Value.int .i64 0] 26)).frozen? ⟨quw2.heap.size, 2, none⟩ = false; simp only [frozen?_alloc_cells]; exact Rg.notFrozen (Nat.le_refl _))
          have qm3 : quw3.cell? ⟨quw2.heap.size, 3, none⟩ = some (.int .i64 0) := Rg.keep hb (by simp) (by go_cell)
          have qfm3 : quw3.frozen? ⟨quw2.heap.size, 3, none⟩ = false := Rg.keepF hb (by simp) (by show (quw2.alloc (Obj.cells #[Value.int .i64 0, Value.int .i64 0, Value.int .i64 0, Value.int .i64 0] 26)).frozen? ⟨quw2.heap.size, 3, none⟩ = false; simp only [frozen?_alloc_cells]; exact Rg.notFrozen (Nat.le_refl _))
          first | (refine hK.out _ _ (fun _ => hNew) (fun _ => ?_)) | (refine hK.out _ _ hNew (fun _ => ?_)) | (go_wp2_with fail; refine hK.out _ _ hNew (fun _ => ?_))
          replace hHeld := hNew
          clear hNew hb
          clear hK KK
          refine Rk.takeP (i := 4) (v := ?_) rfl (by kernel_rfl) (by kernel_rfl) (by kernel_rfl) (by kernel_rfl) (fun _ _ _ h => h) (Or.inl ⟨by kernel_rfl, ?_⟩) (by assumption) ?_
          rotate_left
          · ((intro w hSw; go_simp) <;> with_reducible rfl)
          try simp only [Act.put, List.setIfInBounds_toArray, List.set_cons_zero, List.set_cons_succ]
          refine Rk.takeP (i := 5) (v := ?_) rfl (by kernel_rfl) (by kernel_rfl) (by kernel_rfl) (by kernel_rfl) (fun _ _ _ h => h) (Or.inl ⟨by kernel_rfl, ?_⟩) (by assumption) ?_
          rotate_left
          · ((intro w hSw; go_simp) <;> with_reducible rfl)
          try simp only [Act.put, List.setIfInBounds_toArray, List.set_cons_zero, List.set_cons_succ]
          refine Rk.takeP (i := 6) (v := ?_) rfl (by kernel_rfl) (by kernel_rfl) (by kernel_rfl) (by kernel_rfl) (fun _ _ _ h => h) (Or.inl ⟨by kernel_rfl, ?_⟩) (by assumption) ?_
          rotate_left
          · ((intro w hSw; go_simp) <;> with_reducible rfl)
          try simp only [Act.put, List.setIfInBounds_toArray, List.set_cons_zero, List.set_cons_succ]
          refine Rk.tail [8, 9] [_, _] (by kernel_rfl) (by kernel_rfl) rfl (by decide) ?_
          obtain ⟨a0, a1, a2, a3, b0, b1, b2, b3, s0, s1, s2, s3, K8⟩ := hHeld
          have qlm : quw2.heap.size < quw3.heap.size := World.block_lt_of_cell? _ _ qm0
          have qlw : w.heap.size ≤ quw2.heap.size := by omega
          have qne0 : quw2.heap.size ≠ w.heap.size := by omega
          have qne1 : quw2.heap.size ≠ w.heap.size + 1 := by omega
          have qne2 : quw2.heap.size ≠ zw1.heap.size := by omega
          have qlo0 : w.heap.size < quw3.heap.size := by omega
          have qlo1 : w.heap.size + 1 < quw3.heap.size := by omega
          have qlo2 : zw1.heap.size < quw3.heap.size := by omega
          go_wp2_with fail
          have a0 : ((((quw3.setCell ⟨quw2.heap.size, 0, none⟩ (.int .i64 n1)).setCell ⟨quw2.heap.size, 1, none⟩ (.int .i64 d1)).setCell ⟨quw2.heap.size, 2, none⟩ (.int .i64 t1)).setCell ⟨quw2.heap.size, 3, none⟩ (.int .i64 u1)).cell? ⟨w.heap.size, 0, none⟩ = some (.int .i64 n1) := far4 qne0 a0
          have a1 : ((((quw3.setCell ⟨quw2.heap.size, 0, none⟩ (.int .i64 n1)).setCell ⟨quw2.heap.size, 1, none⟩ (.int .i64 d1)).setCell ⟨quw2.heap.size, 2, none⟩ (.int .i64 t1)).setCell ⟨quw2.heap.size, 3, none⟩ (.int .i64 u1)).cell? ⟨w.heap.size, 1, none⟩ = some (.int .i64 d1) := far4 qne0 a1
          have a2 : ((((quw3.setCell ⟨quw2.heap.size, 0, none⟩ (.int .i64 n1)).setCell ⟨quw2.heap.size, 1, none⟩ (.int .i64 d1)).setCell ⟨quw2.heap.size, 2, none⟩ (.int .i64 t1)).setCell ⟨quw2.heap.size, 3, none⟩ (.int .i64 u1)).cell? ⟨w.heap.size, 2, none⟩ = some (.int .i64 t1) := far4 qne0 a2
          have a3 : ((((quw3.setCell ⟨quw2.heap.size, 0, none⟩ (.int .i64 n1)).setCell ⟨quw2.heap.size, 1, none⟩ (.int .i64 d1)).setCell ⟨quw2.heap.size, 2, none⟩ (.int .i64 t1)).setCell ⟨quw2.heap.size, 3, none⟩ (.int .i64 u1)).cell? ⟨w.heap.size, 3, none⟩ = some (.int .i64 u1) := far4 qne0 a3
          have b0 : ((((quw3.setCell ⟨quw2.heap.size, 0, none⟩ (.int .i64 n1)).setCell ⟨quw2.heap.size, 1, none⟩ (.int .i64 d1)).setCell ⟨quw2.heap.size, 2, none⟩ (.int .i64 t1)).setCell ⟨quw2.heap.size, 3, none⟩ (.int .i64 u1)).cell? ⟨w.heap.size + 1, 0, none⟩ = some (.int .i64 n2) := far4 qne1 b0
          have b1 : ((((quw3.setCell ⟨quw2.heap.size, 0, none⟩ (.int .i64 n1)).setCell ⟨quw2.heap.size, 1, none⟩ (.int .i64 d1)).setCell ⟨quw2.heap.size, 2, none⟩ (.int .i64 t1)).setCell ⟨quw2.heap.size, 3, none⟩ (.int .i64 u1)).cell? ⟨w.heap.size + 1, 1, none⟩ = some (.int .i64 d2) := far4 qne1 b1
          have b2 : ((((quw3.setCell ⟨quw2.heap.size, 0, none⟩ (.int .i64 n1)).setCell ⟨quw2.heap.size, 1, none⟩ (.int .i64 d1)).setCell ⟨quw2.heap.size, 2, none⟩ (.int .i64 t1)).setCell ⟨quw2.heap.size, 3, none⟩ (.int .i64 u1)).cell? ⟨w.heap.size + 1, 2, none⟩ = some (.int .i64 t2) := far4 qne1 b2
          have b3 : ((((quw3.setCell ⟨quw2.heap.size, 0, none⟩ (.int .i64 n1)).setCell ⟨quw2.heap.size, 1, none⟩ (.int .i64 d1)).setCell ⟨quw2.heap.size, 2, none⟩ (.int .i64 t1)).setCell ⟨quw2.heap.size, 3, none⟩ (.int .i64 u1)).cell? ⟨w.heap.size + 1, 3, none⟩ = some (.int .i64 u2) := far4 qne1 b3
          have s0 : ((((quw3.setCell ⟨quw2.heap.size, 0, none⟩ (.int .i64 n1)).setCell ⟨quw2.heap.size, 1, none⟩ (.int .i64 d1)).setCell ⟨quw2.heap.size, 2, none⟩ (.int .i64 t1)).setCell ⟨quw2.heap.size, 3, none⟩ (.int .i64 u1)).cell? ⟨zw1.heap.size, 0, none⟩ = some (.int .i64 x) := far4 qne2 s0
          have s1 : ((((quw3.setCell ⟨quw2.heap.size, 0, none⟩ (.int .i64 n1)).setCell ⟨quw2.heap.size, 1, none⟩ (.int .i64 d1)).setCell ⟨quw2.heap.size, 2, none⟩ (.int .i64 t1)).setCell ⟨quw2.heap.size, 3, none⟩ (.int .i64 u1)).cell? ⟨zw1.heap.size, 1, none⟩ = some (.int .i64 y) := far4 qne2 s1
          have s2 : ((((quw3.setCell ⟨quw2.heap.size, 0, none⟩ (.int .i64 n1)).setCell ⟨quw2.heap.size, 1, none⟩ (.int .i64 d1)).setCell ⟨quw2.heap.size, 2, none⟩ (.int .i64 t1)).setCell ⟨quw2.heap.size, 3, none⟩ (.int .i64 u1)).cell? ⟨zw1.heap.size, 2, none⟩ = some (.int .i64 z) := far4 qne2 s2
          have s3 : ((((quw3.setCell ⟨quw2.heap.size, 0, none⟩ (.int .i64 n1)).setCell ⟨quw2.heap.size, 1, none⟩ (.int .i64 d1)).setCell ⟨quw2.heap.size, 2, none⟩ (.int .i64 t1)).setCell ⟨quw2.heap.size, 3, none⟩ (.int .i64 u1)).cell? ⟨zw1.heap.size, 3, none⟩ = some (.int .i64 s) := far4 qne2 s3
          have hst := st4 (x := .int .i64 n1) (y := .int .i64 d1) (z := .int .i64 t1) (t := .int .i64 u1) qm0 qm1 qm2 qm3
          obtain ⟨qs0, qs1, qs2, qs3⟩ := hst
          have KqS : Below w.heap.size w ((((quw3.setCell ⟨quw2.heap.size, 0, none⟩ (.int .i64 n1)).setCell ⟨quw2.heap.size, 1, none⟩ (.int .i64 d1)).setCell ⟨quw2.heap.size, 2, none⟩ (.int .i64 t1)).setCell ⟨quw2.heap.size, 3, none⟩ (.int .i64 u1)) := (Below.setCell (Below.setCell (Below.setCell (Below.setCell K8 (by dsimp only; omega) _) (by dsimp only; omega) _) (by dsimp only; omega) _) (by dsimp only; omega) _)
          have qlm : quw2.heap.size < ((((quw3.setCell ⟨quw2.heap.size, 0, none⟩ (.int .i64 n1)).setCell ⟨quw2.heap.size, 1, none⟩ (.int .i64 d1)).setCell ⟨quw2.heap.size, 2, none⟩ (.int .i64 t1)).setCell ⟨quw2.heap.size, 3, none⟩ (.int .i64 u1)).heap.size := World.block_lt_of_cell? _ _ qs0
          have qlo0 : w.heap.size < ((((quw3.setCell ⟨quw2.heap.size, 0, none⟩ (.int .i64 n1)).setCell ⟨quw2.heap.size, 1, none⟩ (.int .i64 d1)).setCell ⟨quw2.heap.size, 2, none⟩ (.int .i64 t1)).setCell ⟨quw2.heap.size, 3, none⟩ (.int .i64 u1)).heap.size := by simp; omega
          have qlo1 : w.heap.size + 1 < ((((quw3.setCell ⟨quw2.heap.size, 0, none⟩ (.int .i64 n1)).setCell ⟨quw2.heap.size, 1, none⟩ (.int .i64 d1)).setCell ⟨quw2.heap.size, 2, none⟩ (.int .i64 t1)).setCell ⟨quw2.heap.size, 3, none⟩ (.int .i64 u1)).heap.size := by simp; omega
          have qlo2 : zw1.heap.size < ((((quw3.setCell ⟨quw2.heap.size, 0, none⟩ (.int .i64 n1)).setCell ⟨quw2.heap.size, 1, none⟩ (.int .i64 d1)).setCell ⟨quw2.heap.size, 2, none⟩ (.int .i64 t1)).setCell ⟨quw2.heap.size, 3, none⟩ (.int .i64 u1)).heap.size := by simp; omega
          clear K8 qm0 qfm0 qm1 qfm1 qm2 qfm2 qm3 qfm3
          generalize ((((quw3.setCell ⟨quw2.heap.size, 0, none⟩ (.int .i64 n1)).setCell ⟨quw2.heap.size, 1, none⟩ (.int .i64 d1)).setCell ⟨quw2.heap.size, 2, none⟩ (.int .i64 t1)).setCell ⟨quw2.heap.size, 3, none⟩ (.int .i64 u1)) = qgs at *
          go_wp2_with (first | (go_at_call 9; (with_reducible refine (SM.out _).mono ?_); rintro e w7 ⟨rfl, hb7⟩; have hc7 := (bcell hb7).1; have hf7 := (bcell hb7).2; have z7_0 : w.heap.size < w7.heap.size := (by have hzz := hb7.size; (try simp at hzz); omega); have z7_1 : w.heap.size + 1 < w7.heap.size := (by have hzz := hb7.size; (try simp at hzz); omega); have z7_2 : zw1.heap.size < w7.heap.size := (by have hzz := hb7.size; (try simp at hzz); omega); have z7_3 : quw2.heap.size < w7.heap.size := (by have hzz := hb7.size; (try simp at hzz); omega); have K7 : Below w.heap.size w w7 := Below.trans (b := _) (by (repeat' (first | (with_reducible exact Below.refl _ _) | (with_reducible exact KqS) | (with_reducible exact KqS.size) | (with_reducible refine Below.alloc ?_ ?_ _) | (with_reducible refine Below.setCell ?_ ?_ _) | (with_reducible refine below_drewN ?_ _) | (simp; done) | omega | (simp; omega)))) (hb7.mono (by have hzz := hb7.size; (try simp at hzz); first | omega | (simp; done) | (simp; omega)))) | (go_at_call 10; (with_reducible refine (AL.out _).mono ?_); rintro e w8 ⟨rfl, hb8⟩; have hc8 := (bcell hb8).1; have hf8 := (bcell hb8).2; have K8 : Below w.heap.size w w8 := Below.trans (b := _) (by (repeat' (first | (with_reducible exact Below.refl _ _) | (with_reducible exact KqS) | (with_reducible exact KqS.size) | (with_reducible exact K7) | (with_reducible exact K7.size) | (with_reducible refine Below.alloc ?_ ?_ _) | (with_reducible refine Below.setCell ?_ ?_ _) | (with_reducible refine below_drewN ?_ _) | (simp; done) | omega | (simp; omega)))) (hb8.mono (by have hzz := hb8.size; (try simp at hzz); first | omega | (simp; done) | (simp; omega)))))
          go_ret
          exact ⟨rfl, K8⟩
      · rw [if_pos (by kernel_rfl)]
        go_simp
        have hNew := qHS.out _ _ hHeld ((Below.refl _ _).alloc (Nat.le_refl _) (Obj.cells #[Value.int .i64 0, Value.int .i64 0, Value.int .i64 0, Value.int .i64 0] 26))
        refine hK.out _ _ hNew (fun _ => ?_)
        replace hHeld := hNew
        clear hNew
        clear hK KK
        refine Rk.one (i := 2) (by kernel_rfl) rfl (fun KK hK => ?_)
        rw [if_pos (by kernel_rfl)]
        go_simp
        (refine (IN2.out _).mono ?_; rintro e quw2 ⟨rfl, hb⟩)
        have hNew := qHS.out _ _ hHeld hb
        have hs_quw2 : gs.heap.size ≤ quw2.heap.size := by have hzz := hb.size; (try simp at hzz); omega
        have qm0 : quw2.cell? ⟨gs.heap.size, 0, none⟩ = some (.int .i64 0) := Rg.keep hb (by simp) (by go_cell)
        have qfm0 : quw2.frozen? ⟨gs.heap.size, 0, none⟩ = false := Rg.keepF hb (by simp) (by show (gs.drew.alloc (Obj.cells #[Value.int .i64 0, Value.int .i64 0, Value.int .i64 0, Value.int .i64 0] 26)).frozen? ⟨gs.drew.heap.size, 0, none⟩ = false; simp only [frozen?_alloc_cells]; exact Rg.notFrozen (Nat.le_refl _))
        have qm1 : quw2.cell? ⟨gs.heap.size, 1, none⟩ = some (.int .i64 0) := Rg.keep hb (by simp) (by go_cell)
        have qfm1 : quw2.frozen? ⟨gs.heap.size, 1, none⟩ = false := Rg.keepF hb (by simp) (by show (gs.drew.alloc (Obj.cells #[Value.int .i64 0, Value.int .i64 0, Value.int .i64 0, Value.int .i64 0] 26)).frozen? ⟨gs.drew.heap.size, 1, none⟩ = false; simp only [frozen?_alloc_cells]; exact Rg.notFrozen (Nat.le_refl _))
        have qm2 : quw2.cell? ⟨gs.heap.size, 2, none⟩ = some (.int .i64 0) := Rg.keep hb (by simp) (by go_cell)
        have qfm2 : quw2.frozen? ⟨gs.heap.size, 2, none⟩ = false := Rg.keepF hb (by simp) (by show (gs.drew.alloc (Obj.cells #[Value.int .i64 0, Value.int .i64 0, Value.int .i64 0, Value.int .i64 0] 26)).frozen? ⟨gs.drew.heap.size, 2, none⟩ = false; simp only [frozen?_alloc_cells]; exact Rg.notFrozen (Nat.le_refl _))
        have qm3 : quw2.cell? ⟨gs.heap.size, 3, none⟩ = some (.int .i64 0) := Rg.keep hb (by simp) (by go_cell)
        have qfm3 : quw2.frozen? ⟨gs.heap.size, 3, none⟩ = false := Rg.keepF hb (by simp) (by show (gs.drew.alloc (Obj.cells #[Value.int .i64 0, Value.int .i64 0, Value.int .i64 0, Value.int .i64 0] 26)).frozen? ⟨gs.drew.heap.size, 3, none⟩ = false; simp only [frozen?_alloc_cells]; exact Rg.notFrozen (Nat.le_refl _))
        first | (refine hK.out _ _ (fun _ => hNew) (fun _ => ?_)) | (refine hK.out _ _ hNew (fun _ => ?_)) | (go_wp2_with fail; refine hK.out _ _ hNew (fun _ => ?_))
        replace hHeld := hNew
        clear hNew hb
        clear hK KK
        refine Rk.one (i := 3) (by kernel_rfl) rfl (fun KK hK => ?_)
        rw [if_pos (by kernel_rfl)]
        go_simp
        (refine (AP2.out _).mono ?_; rintro e quw3 ⟨rfl, hb⟩)
        have hNew := qHS.out _ _ hHeld hb
        have hs_quw3 : gs.heap.size ≤ quw3.heap.size := by have hzz := hb.size; (try simp at hzz); omega
        have qlm : gs.heap.size < quw2.heap.size := World.block_lt_of_cell? _ _ qm0
        have qfm0 := Rg.keepF hb qlm qfm0
        have qfm1 := Rg.keepF hb qlm qfm1
        have qfm2 := Rg.keepF hb qlm qfm2
        have qfm3 := Rg.keepF hb qlm qfm3
        have qm0 := Rg.keep hb qlm qm0
        have qm1 := Rg.keep hb qlm qm1
        have qm2 := Rg.keep hb qlm qm2
        have qm3 := Rg.keep hb qlm qm3
        clear qlm
        first | (refine hK.out _ _ (fun _ => hNew) (fun _ => ?_)) | (refine hK.out _ _ hNew (fun _ => ?_)) | (go_wp2_with fail; refine hK.out _ _ hNew (fun _ => ?_))
        replace hHeld := hNew
        clear hNew hb
        clear hK KK
        refine Rk.takeP (i := 4) (v := ?_) rfl (by kernel_rfl) (by kernel_rfl) (by kernel_rfl) (by kernel_rfl) (fun _ _ _ h => h) (Or.inl ⟨by kernel_rfl, ?_⟩) (by assumption) ?_
        rotate_left
        · ((intro w hSw; go_simp) <;> with_reducible rfl)
        try simp only [Act.put, List.setIfInBounds_toArray, List.set_cons_zero, List.set_cons_succ]
        refine Rk.takeP (i := 5) (v := ?_) rfl (by kernel_rfl) (by kernel_rfl) (by kernel_rfl) (by kernel_rfl) (fun _ _ _ h => h) (Or.inl ⟨by kernel_rfl, ?_⟩) (by assumption) ?_
        rotate_left
        · ((intro w hSw; go_simp) <;> with_reducible rfl)
        try simp only [Act.put, List.setIfInBounds_toArray, List.set_cons_zero, List.set_cons_succ]
        refine Rk.takeP (i := 6) (v := ?_) rfl (by kernel_rfl) (by kernel_rfl) (by kernel_rfl) (by kernel_rfl) (fun _ _ _ h => h) (Or.inl ⟨by kernel_rfl, ?_⟩) (by assumption) ?_
        rotate_left
        · ((intro w hSw; go_simp) <;> with_reducible rfl)
        try simp only [Act.put, List.setIfInBounds_toArray, List.set_cons_zero, List.set_cons_succ]
        refine Rk.tail [8, 9] [_, _] (by kernel_rfl) (by kernel_rfl) rfl (by decide) ?_
        obtain ⟨a0, a1, a2, a3, b0, b1, b2, b3, s0, s1, s2, s3, K8⟩ := hHeld
        have qlm : gs.heap.size < quw3.heap.size := World.block_lt_of_cell? _ _ qm0
        have qlw : w.heap.size ≤ gs.heap.size := by omega
        have qne0 : gs.heap.size ≠ w.heap.size := by omega
        have qne1 : gs.heap.size ≠ w.heap.size + 1 := by omega
        have qne2 : gs.heap.size ≠ zw1.heap.size := by omega
        have qlo0 : w.heap.size < quw3.heap.size := by omega
        have qlo1 : w.heap.size + 1 < quw3.heap.size := by omega
        have qlo2 : zw1.heap.size < quw3.heap.size := by omega
        go_wp2_with fail
        have a0 : ((((quw3.setCell ⟨gs.heap.size, 0, none⟩ (.int .i64 n1)).setCell ⟨gs.heap.size, 1, none⟩ (.int .i64 d1)).setCell ⟨gs.heap.size, 2, none⟩ (.int .i64 t1)).setCell ⟨gs.heap.size, 3, none⟩ (.int .i64 u1)).cell? ⟨w.heap.size, 0, none⟩ = some (.int .i64 n1) := far4 qne0 a0
        have a1 : ((((quw3.setCell ⟨gs.heap.size, 0, none⟩ (.int .i64 n1)).setCell ⟨gs.heap.size, 1, none⟩ (.int .i64 d1)).setCell ⟨gs.heap.size, 2, none⟩ (.int .i64 t1)).setCell ⟨gs.heap.size, 3, none⟩ (.int .i64 u1)).cell? ⟨w.heap.size, 1, none⟩ = some (.int .i64 d1) := far4 qne0 a1
        have a2 : ((((quw3.setCell ⟨gs.heap.size, 0, none⟩ (.int .i64 n1)).setCell ⟨gs.heap.size, 1, none⟩ (.int .i64 d1)).setCell ⟨gs.heap.size, 2, none⟩ (.int .i64 t1)).setCell ⟨gs.heap.size, 3, none⟩ (.int .i64 u1)).cell? ⟨w.heap.size, 2, none⟩ = some (.int .i64 t1) := far4 qne0 a2
        have a3 : ((((quw3.setCell ⟨gs.heap.size, 0, none⟩ (.int .i64 n1)).setCell ⟨gs.heap.size, 1, none⟩ (.int .i64 d1)).setCell ⟨gs.heap.size, 2, none⟩ (.int .i64 t1)).setCell ⟨gs.heap.size, 3, none⟩ (.int .i64 u1)).cell? ⟨w.heap.size, 3, none⟩ = some (.int .i64 u1) := far4 qne0 a3
        have b0 : ((((quw3.setCell ⟨gs.heap.size, 0, none⟩ (.int .i64 n1)).setCell ⟨gs.heap.size, 1, none⟩ (.int .i64 d1)).setCell ⟨gs.heap.size, 2, none⟩ (.int .i64 t1)).setCell ⟨gs.heap.size, 3, none⟩ (.int .i64 u1)).cell? ⟨w.heap.size + 1, 0, none⟩ = some (.int .i64 n2) := far4 qne1 b0
        have b1 : ((((quw3.setCell ⟨gs.heap.size, 0, none⟩ (.int .i64 n1)).setCell ⟨gs.heap.size, 1, none⟩ (.int .i64 d1)).setCell ⟨gs.heap.size, 2, none⟩ (.int .i64 t1)).setCell ⟨gs.heap.size, 3, none⟩ (.int .i64 u1)).cell? ⟨w.heap.size + 1, 1, none⟩ = some (.int .i64 d2) := far4 qne1 b1
        have b2 : ((((quw3.setCell ⟨gs.heap.size, 0, none⟩ (.int .i64 n1)).setCell ⟨gs.heap.size, 1, none⟩ (.int .i64 d1)).setCell ⟨gs.heap.size, 2, none⟩ (.int .i64 t1)).setCell ⟨gs.heap.size, 3, none⟩ (.int .i64 u1)).cell? ⟨w.heap.size + 1, 2, none⟩ = some (.int .i64 t2) := far4 qne1 b2
        have b3 : ((((quw3.setCell ⟨gs.heap.size, 0, none⟩ (.int .i64 n1)).setCell ⟨gs.heap.size, 1, none⟩ (.int .i64 d1)).setCell ⟨gs.heap.size, 2, none⟩ (.int .i64 t1)).setCell ⟨gs.heap.size, 3, none⟩ (.int .i64 u1)).cell? ⟨w.heap.size + 1, 3, none⟩ = some (.int .i64 u2) := far4 qne1 b3
        have s0 : ((((quw3.setCell ⟨gs.heap.size, 0, none⟩ (.int .i64 n1)).setCell ⟨gs.heap.size, 1, none⟩ (.int .i64 d1)).setCell ⟨gs.heap.size, 2, none⟩ (.int .i64 t1)).setCell ⟨gs.heap.size, 3, none⟩ (.int .i64 u1)).cell? ⟨zw1.heap.size, 0, none⟩ = some (.int .i64 x) := far4 qne2 s0
        have s1 : ((((quw3.setCell ⟨gs.heap.size, 0, none⟩ (.int .i64 n1)).setCell ⟨gs.heap.size, 1, none⟩ (.int .i64 d1)).setCell ⟨gs.heap.size, 2, none⟩ (.int .i64 t1)).setCell ⟨gs.heap.size, 3, none⟩ (.int .i64 u1)).cell? ⟨zw1.heap.size, 1, none⟩ = some (.int .i64 y) := far4 qne2 s1
        have s2 : ((((quw3.setCell ⟨gs.heap.size, 0, none⟩ (.int .i64 n1)).setCell ⟨gs.heap.size, 1, none⟩ (.int .i64 d1)).setCell ⟨gs.heap.size, 2, none⟩ (.int .i64 t1)).setCell ⟨gs.heap.size, 3, none⟩ (.int .i64 u1)).cell? ⟨zw1.heap.size, 2, none⟩ = some (.int .i64 z) := far4 qne2 s2
        have s3 : ((((quw3.setCell ⟨gs.heap.size, 0, none⟩ (.int .i64 n1)).setCell ⟨gs.heap.size, 1, none⟩ (.int .i64 d1)).setCell ⟨gs.heap.size, 2, none⟩ (.int .i64 t1)).setCell ⟨gs.heap.size, 3, none⟩ (.int .i64 u1)).cell? ⟨zw1.heap.size, 3, none⟩ = some (.int .i64 s) := far4 qne2 s3
        have hst := st4 (x := .int .i64 n1) (y := .int .i64 d1) (z := .int .i64 t1) (t := .int .i64 u1) qm0 qm1 qm2 qm3
        obtain ⟨qs0, qs1, qs2, qs3⟩ := hst
        have KqS : Below w.heap.size w ((((quw3.setCell ⟨gs.heap.size, 0, none⟩ (.int .i64 n1)).setCell ⟨gs.heap.size, 1, none⟩ (.int .i64 d1)).setCell ⟨gs.heap.size, 2, none⟩ (.int .i64 t1)).setCell ⟨gs.heap.size, 3, none⟩ (.int .i64 u1)) := (Below.setCell (Below.setCell (Below.setCell (Below.setCell K8 (by dsimp only; omega) _) (by dsimp only; omega) _) (by dsimp only; omega) _) (by dsimp only; omega) _)
        have qlm : gs.heap.size < ((((quw3.setCell ⟨gs.heap.size, 0, none⟩ (.int .i64 n1)).setCell ⟨gs.heap.size, 1, none⟩ (.int .i64 d1)).setCell ⟨gs.heap.size, 2, none⟩ (.int .i64 t1)).setCell ⟨gs.heap.size, 3, none⟩ (.int .i64 u1)).heap.size := World.block_lt_of_cell? _ _ qs0
        have qlo0 : w.heap.size < ((((quw3.setCell ⟨gs.heap.size, 0, none⟩ (.int .i64 n1)).setCell ⟨gs.heap.size, 1, none⟩ (.int .i64 d1)).setCell ⟨gs.heap.size, 2, none⟩ (.int .i64 t1)).setCell ⟨gs.heap.size, 3, none⟩ (.int .i64 u1)).heap.size := by simp; omega
        have qlo1 : w.heap.size + 1 < ((((quw3.setCell ⟨gs.heap.size, 0, none⟩ (.int .i64 n1)).setCell ⟨gs.heap.size, 1, none⟩ (.int .i64 d1)).setCell ⟨gs.heap.size, 2, none⟩ (.int .i64 t1)).setCell ⟨gs.heap.size, 3, none⟩ (.int .i64 u1)).heap.size := by simp; omega
        have qlo2 : zw1.heap.size < ((((quw3.setCell ⟨gs.heap.size, 0, none⟩ (.int .i64 n1)).setCell ⟨gs.heap.size, 1, none⟩ (.int .i64 d1)).setCell ⟨gs.heap.size, 2, none⟩ (.int .i64 t1)).setCell ⟨gs.heap.size, 3, none⟩ (.int .i64 u1)).heap.size := by simp; omega
        clear K8 qm0 qfm0 qm1 qfm1 qm2 qfm2 qm3 qfm3
        generalize ((((quw3.setCell ⟨gs.heap.size, 0, none⟩ (.int .i64 n1)).setCell ⟨gs.heap.size, 1, none⟩ (.int .i64 d1)).setCell ⟨gs.heap.size, 2, none⟩ (.int .i64 t1)).setCell ⟨gs.heap.size, 3, none⟩ (.int .i64 u1)) = qgs at *
        go_wp2_with (first | (go_at_call 9; (with_reducible refine (SM.out _).mono ?_); rintro e w7 ⟨rfl, hb7⟩; have hc7 := (bcell hb7).1; have hf7 := (bcell hb7).2; have z7_0 : w.heap.size < w7.heap.size := (by have hzz := hb7.size; (try simp at hzz); omega); have z7_1 : w.heap.size + 1 < w7.heap.size := (by have hzz := hb7.size; (try simp at hzz); omega); have z7_2 : zw1.heap.size < w7.heap.size := (by have hzz := hb7.size; (try simp at hzz); omega); have z7_3 : gs.heap.size < w7.heap.size := (by have hzz := hb7.size; (try simp at hzz); omega); have K7 : Below w.heap.size w w7 := Below.trans (b := _) (by (repeat' (first | (with_reducible exact Below.refl _ _) | (with_reducible exact KqS) | (with_reducible exact KqS.size) | (with_reducible refine Below.alloc ?_ ?_ _) | (with_reducible refine Below.setCell ?_ ?_ _) | (with_reducible refine below_drewN ?_ _) | (simp; done) | omega | (simp; omega)))) (hb7.mono (by have hzz := hb7.size; (try simp at hzz); first | omega | (simp; done) | (simp; omega)))) | (go_at_call 10; (with_reducible refine (AL.out _).mono ?_); rintro e w8 ⟨rfl, hb8⟩; have hc8 := (bcell hb8).1; have hf8 := (bcell hb8).2; have K8 : Below w.heap.size w w8 := Below.trans (b := _) (by (repeat' (first | (with_reducible exact Below.refl _ _) | (with_reducible exact KqS) | (with_reducible exact KqS.size) | (with_reducible exact K7) | (with_reducible exact K7.size) | (with_reducible refine Below.alloc ?_ ?_ _) | (with_reducible refine Below.setCell ?_ ?_ _) | (with_reducible refine below_drewN ?_ _) | (simp; done) | omega | (simp; omega)))) (hb8.mono (by have hzz := hb8.size; (try simp at hzz); first | omega | (simp; done) | (simp; omega)))))
        go_ret
        exact ⟨rfl, K8⟩
    · have f1 : (e == 0) = false := by simpa using he
      have f2 : (e != 0) = true := by simpa using he
      clear he AP2
      go_wp2_with fail
      have a0 : ((((uw4.setCell ⟨zw1.heap.size, 0, none⟩ (.int .i64 x)).setCell ⟨zw1.heap.size, 1, none⟩ (.int .i64 y)).setCell ⟨zw1.heap.size, 2, none⟩ (.int .i64 z)).setCell ⟨zw1.heap.size, 3, none⟩ (.int .i64 s)).cell? ⟨w.heap.size, 0, none⟩ = some (.int .i64 n1) := far4 ne0 a0
      have a1 : ((((uw4.setCell ⟨zw1.heap.size, 0, none⟩ (.int .i64 x)).setCell ⟨zw1.heap.size, 1, none⟩ (.int .i64 y)).setCell ⟨zw1.heap.size, 2, none⟩ (.int .i64 z)).setCell ⟨zw1.heap.size, 3, none⟩ (.int .i64 s)).cell? ⟨w.heap.size, 1, none⟩ = some (.int .i64 d1) := far4 ne0 a1
      have a2 : ((((uw4.setCell ⟨zw1.heap.size, 0, none⟩ (.int .i64 x)).setCell ⟨zw1.heap.size, 1, none⟩ (.int .i64 y)).setCell ⟨zw1.heap.size, 2, none⟩ (.int .i64 z)).setCell ⟨zw1.heap.size, 3, none⟩ (.int .i64 s)).cell? ⟨w.heap.size, 2, none⟩ = some (.int .i64 t1) := far4 ne0 a2
      have a3 : ((((uw4.setCell ⟨zw1.heap.size, 0, none⟩ (.int .i64 x)).setCell ⟨zw1.heap.size, 1, none⟩ (.int .i64 y)).setCell ⟨zw1.heap.size, 2, none⟩ (.int .i64 z)).setCell ⟨zw1.heap.size, 3, none⟩ (.int .i64 s)).cell? ⟨w.heap.size, 3, none⟩ = some (.int .i64 u1) := far4 ne0 a3
      have b0 : ((((uw4.setCell ⟨zw1.heap.size, 0, none⟩ (.int .i64 x)).setCell ⟨zw1.heap.size, 1, none⟩ (.int .i64 y)).setCell ⟨zw1.heap.size, 2, none⟩ (.int .i64 z)).setCell ⟨zw1.heap.size, 3, none⟩ (.int .i64 s)).cell? ⟨w.heap.size + 1, 0, none⟩ = some (.int .i64 n2) := far4 ne1 b0
      have b1 : ((((uw4.setCell ⟨zw1.heap.size, 0, none⟩ (.int .i64 x)).setCell ⟨zw1.heap.size, 1, none⟩ (.int .i64 y)).setCell ⟨zw1.heap.size, 2, none⟩ (.int .i64 z)).setCell ⟨zw1.heap.size, 3, none⟩ (.int .i64 s)).cell? ⟨w.heap.size + 1, 1, none⟩ = some (.int .i64 d2) := far4 ne1 b1
      have b2 : ((((uw4.setCell ⟨zw1.heap.size, 0, none⟩ (.int .i64 x)).setCell ⟨zw1.heap.size, 1, none⟩ (.int .i64 y)).setCell ⟨zw1.heap.size, 2, none⟩ (.int .i64 z)).setCell ⟨zw1.heap.size, 3, none⟩ (.int .i64 s)).cell? ⟨w.heap.size + 1, 2, none⟩ = some (.int .i64 t2) := far4 ne1 b2
      have b3 : ((((uw4.setCell ⟨zw1.heap.size, 0, none⟩ (.int .i64 x)).setCell ⟨zw1.heap.size, 1, none⟩ (.int .i64 y)).setCell ⟨zw1.heap.size, 2, none⟩ (.int .i64 z)).setCell ⟨zw1.heap.size, 3, none⟩ (.int .i64 s)).cell? ⟨w.heap.size + 1, 3, none⟩ = some (.int .i64 u2) := far4 ne1 b3
      have hst := st4 (x := .int .i64 x) (y := .int .i64 y) (z := .int .i64 z) (t := .int .i64 s) m0 m1 m2 m3
      obtain ⟨s0, s1, s2, s3⟩ := hst
      have KS : Below w.heap.size w ((((uw4.setCell ⟨zw1.heap.size, 0, none⟩ (.int .i64 x)).setCell ⟨zw1.heap.size, 1, none⟩ (.int .i64 y)).setCell ⟨zw1.heap.size, 2, none⟩ (.int .i64 z)).setCell ⟨zw1.heap.size, 3, none⟩ (.int .i64 s)) := (Below.setCell (Below.setCell (Below.setCell (Below.setCell K9 (by dsimp only; omega) _) (by dsimp only; omega) _) (by dsimp only; omega) _) (by dsimp only; omega) _)
      have lm : zw1.heap.size < ((((uw4.setCell ⟨zw1.heap.size, 0, none⟩ (.int .i64 x)).setCell ⟨zw1.heap.size, 1, none⟩ (.int .i64 y)).setCell ⟨zw1.heap.size, 2, none⟩ (.int .i64 z)).setCell ⟨zw1.heap.size, 3, none⟩ (.int .i64 s)).heap.size := World.block_lt_of_cell? _ _ s0
      have lo0 : w.heap.size < ((((uw4.setCell ⟨zw1.heap.size, 0, none⟩ (.int .i64 x)).setCell ⟨zw1.heap.size, 1, none⟩ (.int .i64 y)).setCell ⟨zw1.heap.size, 2, none⟩ (.int .i64 z)).setCell ⟨zw1.heap.size, 3, none⟩ (.int .i64 s)).heap.size := by simp; omega
      have lo1 : w.heap.size + 1 < ((((uw4.setCell ⟨zw1.heap.size, 0, none⟩ (.int .i64 x)).setCell ⟨zw1.heap.size, 1, none⟩ (.int .i64 y)).setCell ⟨zw1.heap.size, 2, none⟩ (.int .i64 z)).setCell ⟨zw1.heap.size, 3, none⟩ (.int .i64 s)).heap.size := by simp; omega
      clear K9 m0 fm0 m1 fm1 m2 fm2 m3 fm3
      generalize ((((uw4.setCell ⟨zw1.heap.size, 0, none⟩ (.int .i64 x)).setCell ⟨zw1.heap.size, 1, none⟩ (.int .i64 y)).setCell ⟨zw1.heap.size, 2, none⟩ (.int .i64 z)).setCell ⟨zw1.heap.size, 3, none⟩ (.int .i64 s)) = gs at *
      go_wp2_with (first | (go_at_call 8; (with_reducible refine (RA.out _).mono ?_); rintro e w5 ⟨rfl, hb5⟩; have hc5 := (bcell hb5).1; have hf5 := (bcell hb5).2; have z5_0 : w.heap.size < w5.heap.size := (by have hzz := hb5.size; (try simp at hzz); omega); have z5_1 : w.heap.size + 1 < w5.heap.size := (by have hzz := hb5.size; (try simp at hzz); omega); have z5_2 : zw1.heap.size < w5.heap.size := (by have hzz := hb5.size; (try simp at hzz); omega); have K5 : Below w.heap.size w w5 := Below.trans (b := _) (by (repeat' (first | (with_reducible exact Below.refl _ _) | (with_reducible exact KS) | (with_reducible exact KS.size) | (with_reducible refine Below.alloc ?_ ?_ _) | (with_reducible refine Below.setCell ?_ ?_ _) | (with_reducible refine below_drewN ?_ _) | (simp; done) | omega | (simp; omega)))) (hb5.mono (by have hzz := hb5.size; (try simp at hzz); first | omega | (simp; done) | (simp; omega)))) | (go_at_call 10; (with_reducible refine (AL.out _).mono ?_); rintro e w6 ⟨rfl, hb6⟩; have hc6 := (bcell hb6).1; have hf6 := (bcell hb6).2; have K6 : Below w.heap.size w w6 := Below.trans (b := _) (by (repeat' (first | (with_reducible exact Below.refl _ _) | (with_reducible exact KS) | (with_reducible exact KS.size) | (with_reducible exact K5) | (with_reducible exact K5.size) | (with_reducible refine Below.alloc ?_ ?_ _) | (with_reducible refine Below.setCell ?_ ?_ _) | (with_reducible refine below_drewN ?_ _) | (simp; done) | omega | (simp; omega)))) (hb6.mono (by have hzz := hb6.size; (try simp at hzz); first | omega | (simp; done) | (simp; omega)))))
      go_ret
      exact ⟨rfl, K6⟩
end Go.Proofs.Ythkhlhibhkdkkaa.Va
