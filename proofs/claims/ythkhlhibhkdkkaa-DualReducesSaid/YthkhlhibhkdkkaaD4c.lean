/- Dual numbers: Apply, one operand. -/
import Derived.Test.YthkhlhibhkdkkaaG11
import Derived.Test.YthkhlhibhkdkkaaG13

namespace Go.Proofs.Ythkhlhibhkdkkaa.Va
open Go.ChangeShapes Go.WideShapes Go.ChangeAt Go.RowKit
open Fr Fx
set_option maxRecDepth 8000
set_option linter.unusedVariables false
set_option linter.unusedSimpArgs false

set_option maxHeartbeats 2000000 in
theorem c_da_ok1 (op n1 d1 t1 u1 n2 d2 t2 u2 : Int) (x y e p q f : Int) (w : World) (g1 : decide (op < 4) = false) (g2 : decide (10 < op) = false) (g3 : (op == 8) = true) (g4 : (op != 8) = false)
    (WA : Hid (∀ b w, w.cell? ⟨b, 0, none⟩ = some (.int .i64 n1) → w.cell? ⟨b, 1, none⟩ = some (.int .i64 d1) → w.cell? ⟨b, 2, none⟩ = some (.int .i64 t1) → w.cell? ⟨b, 3, none⟩ = some (.int .i64 u1) → Calls Try.prog 13 #[.slice (some ⟨b, 0, none⟩) 1 1] w (Ret (.bool true) w)))  (KF : Hid (∀ w, Calls Try.prog 15 #[] w (Ret (T5 1 0 0 0 0) w)))
    (AP : Hid (∀ w, Calls Try.prog 14 #[.int .i64 op, T5 1 0 0 0 0, V2 n1 d1, V2 n2 d2] w (Ret (F3 (x, y, e)) w)))
    (TN : Hid (e = 0 → ∀ w, Calls Try.prog 16 #[.int .i64 op, D4 n1 d1 t1 u1, D4 n2 d2 t2 u2, V2 x y] w (Ret (F3 (p, q, f)) w))) :
    Calls Try.prog 6 #[.int .i64 op, D4 n1 d1 t1 u1, D4 n2 d2 t2 u2] w (Ret (F5 (if e ≠ 0 then (0, 0, 0, 0, e) else if f ≠ 0 then (0, 0, 0, 0, f) else (x, y, p, q, 0))) w) := by
  obtain ⟨res, hres⟩ : ∃ r : A5, (if e ≠ 0 then (0, 0, 0, 0, e) else if f ≠ 0 then (0, 0, 0, 0, f) else (x, y, p, q, 0)) = r := ⟨_, rfl⟩
  rw [hres]
  have HRES := Lib.hid hres
  clear hres
  go_enter Try.func6, Try.ntmps6
  go_wp2_with (first | (go_at_call 13; (with_reducible refine (WA.out _ _ ?_ ?_ ?_ ?_).mono ?_); (any_goals (go_cell; done)); rintro e w1 ⟨rfl, hb1⟩; have hc1 := (bcell hb1).1; have hf1 := (bcell hb1).2; have z1_0 : w.heap.size < w1.heap.size := (by have hzz := hb1.size; (try simp at hzz); omega); have z1_1 : w.heap.size + 1 < w1.heap.size := (by have hzz := hb1.size; (try simp at hzz); omega); have z1_2 : w.heap.size + 1 + 1 < w1.heap.size := (by have hzz := hb1.size; (try simp at hzz); omega); have K1 : Below w.heap.size w w1 := Below.trans (b := _) (by (repeat' (first | (with_reducible exact Below.refl _ _) | (with_reducible refine Below.alloc ?_ ?_ _) | (with_reducible refine Below.setCell ?_ ?_ _) | (with_reducible refine below_drewN ?_ _) | (simp; done) | omega | (simp; omega)))) (hb1.mono (by have hzz := hb1.size; (try simp at hzz); first | omega | (simp; done) | (simp; omega)))))
  have hz : w1.cell? ⟨w.heap.size, 0, none⟩ = some (.int .i64 n1) ∧ w1.cell? ⟨w.heap.size, 1, none⟩ = some (.int .i64 d1) ∧ w1.cell? ⟨w.heap.size, 2, none⟩ = some (.int .i64 t1) ∧ w1.cell? ⟨w.heap.size, 3, none⟩ = some (.int .i64 u1) ∧ w1.cell? ⟨w.heap.size + 1, 0, none⟩ = some (.int .i64 n2) ∧ w1.cell? ⟨w.heap.size + 1, 1, none⟩ = some (.int .i64 d2) ∧ w1.cell? ⟨w.heap.size + 1, 2, none⟩ = some (.int .i64 t2) ∧ w1.cell? ⟨w.heap.size + 1, 3, none⟩ = some (.int .i64 u2) ∧ w1.cell? ⟨w.heap.size + 1 + 1, 0, none⟩ = some (.int .i64 0) ∧ w1.cell? ⟨w.heap.size + 1 + 1, 1, none⟩ = some (.int .i64 0) ∧ w1.cell? ⟨w.heap.size + 1 + 1, 2, none⟩ = some (.int .i64 0) ∧ w1.cell? ⟨w.heap.size + 1 + 1, 3, none⟩ = some (.int .i64 0) ∧ w1.frozen? ⟨w.heap.size + 1 + 1, 0, none⟩ = false ∧ w1.frozen? ⟨w.heap.size + 1 + 1, 1, none⟩ = false ∧ w1.frozen? ⟨w.heap.size + 1 + 1, 2, none⟩ = false ∧ w1.frozen? ⟨w.heap.size + 1 + 1, 3, none⟩ = false ∧ Below w.heap.size w w1 := ⟨(by simp [go_sem, hc1, hf1, z1_0, Nat.lt_succ_of_lt z1_0, Nat.ne_of_lt z1_0, Nat.ne_of_gt z1_0, z1_1, Nat.lt_succ_of_lt z1_1, Nat.ne_of_lt z1_1, Nat.ne_of_gt z1_1, z1_2, Nat.lt_succ_of_lt z1_2, Nat.ne_of_lt z1_2, Nat.ne_of_gt z1_2]), (by simp [go_sem, hc1, hf1, z1_0, Nat.lt_succ_of_lt z1_0, Nat.ne_of_lt z1_0, Nat.ne_of_gt z1_0, z1_1, Nat.lt_succ_of_lt z1_1, Nat.ne_of_lt z1_1, Nat.ne_of_gt z1_1, z1_2, Nat.lt_succ_of_lt z1_2, Nat.ne_of_lt z1_2, Nat.ne_of_gt z1_2]), (by simp [go_sem, hc1, hf1, z1_0, Nat.lt_succ_of_lt z1_0, Nat.ne_of_lt z1_0, Nat.ne_of_gt z1_0, z1_1, Nat.lt_succ_of_lt z1_1, Nat.ne_of_lt z1_1, Nat.ne_of_gt z1_1, z1_2, Nat.lt_succ_of_lt z1_2, Nat.ne_of_lt z1_2, Nat.ne_of_gt z1_2]), (by simp [go_sem, hc1, hf1, z1_0, Nat.lt_succ_of_lt z1_0, Nat.ne_of_lt z1_0, Nat.ne_of_gt z1_0, z1_1, Nat.lt_succ_of_lt z1_1, Nat.ne_of_lt z1_1, Nat.ne_of_gt z1_1, z1_2, Nat.lt_succ_of_lt z1_2, Nat.ne_of_lt z1_2, Nat.ne_of_gt z1_2]), (by simp [go_sem, hc1, hf1, z1_0, Nat.lt_succ_of_lt z1_0, Nat.ne_of_lt z1_0, Nat.ne_of_gt z1_0, z1_1, Nat.lt_succ_of_lt z1_1, Nat.ne_of_lt z1_1, Nat.ne_of_gt z1_1, z1_2, Nat.lt_succ_of_lt z1_2, Nat.ne_of_lt z1_2, Nat.ne_of_gt z1_2]), (by simp [go_sem, hc1, hf1, z1_0, Nat.lt_succ_of_lt z1_0, Nat.ne_of_lt z1_0, Nat.ne_of_gt z1_0, z1_1, Nat.lt_succ_of_lt z1_1, Nat.ne_of_lt z1_1, Nat.ne_of_gt z1_1, z1_2, Nat.lt_succ_of_lt z1_2, Nat.ne_of_lt z1_2, Nat.ne_of_gt z1_2]), (by simp [go_sem, hc1, hf1, z1_0, Nat.lt_succ_of_lt z1_0, Nat.ne_of_lt z1_0, Nat.ne_of_gt z1_0, z1_1, Nat.lt_succ_of_lt z1_1, Nat.ne_of_lt z1_1, Nat.ne_of_gt z1_1, z1_2, Nat.lt_succ_of_lt z1_2, Nat.ne_of_lt z1_2, Nat.ne_of_gt z1_2]), (by simp [go_sem, hc1, hf1, z1_0, Nat.lt_succ_of_lt z1_0, Nat.ne_of_lt z1_0, Nat.ne_of_gt z1_0, z1_1, Nat.lt_succ_of_lt z1_1, Nat.ne_of_lt z1_1, Nat.ne_of_gt z1_1, z1_2, Nat.lt_succ_of_lt z1_2, Nat.ne_of_lt z1_2, Nat.ne_of_gt z1_2]), (by simp [go_sem, hc1, hf1, z1_0, Nat.lt_succ_of_lt z1_0, Nat.ne_of_lt z1_0, Nat.ne_of_gt z1_0, z1_1, Nat.lt_succ_of_lt z1_1, Nat.ne_of_lt z1_1, Nat.ne_of_gt z1_1, z1_2, Nat.lt_succ_of_lt z1_2, Nat.ne_of_lt z1_2, Nat.ne_of_gt z1_2]), (by simp [go_sem, hc1, hf1, z1_0, Nat.lt_succ_of_lt z1_0, Nat.ne_of_lt z1_0, Nat.ne_of_gt z1_0, z1_1, Nat.lt_succ_of_lt z1_1, Nat.ne_of_lt z1_1, Nat.ne_of_gt z1_1, z1_2, Nat.lt_succ_of_lt z1_2, Nat.ne_of_lt z1_2, Nat.ne_of_gt z1_2]), (by simp [go_sem, hc1, hf1, z1_0, Nat.lt_succ_of_lt z1_0, Nat.ne_of_lt z1_0, Nat.ne_of_gt z1_0, z1_1, Nat.lt_succ_of_lt z1_1, Nat.ne_of_lt z1_1, Nat.ne_of_gt z1_1, z1_2, Nat.lt_succ_of_lt z1_2, Nat.ne_of_lt z1_2, Nat.ne_of_gt z1_2]), (by simp [go_sem, hc1, hf1, z1_0, Nat.lt_succ_of_lt z1_0, Nat.ne_of_lt z1_0, Nat.ne_of_gt z1_0, z1_1, Nat.lt_succ_of_lt z1_1, Nat.ne_of_lt z1_1, Nat.ne_of_gt z1_1, z1_2, Nat.lt_succ_of_lt z1_2, Nat.ne_of_lt z1_2, Nat.ne_of_gt z1_2]), (by simp [go_sem, hc1, hf1, z1_0, Nat.lt_succ_of_lt z1_0, Nat.ne_of_lt z1_0, Nat.ne_of_gt z1_0, z1_1, Nat.lt_succ_of_lt z1_1, Nat.ne_of_lt z1_1, Nat.ne_of_gt z1_1, z1_2, Nat.lt_succ_of_lt z1_2, Nat.ne_of_lt z1_2, Nat.ne_of_gt z1_2]), (by simp [go_sem, hc1, hf1, z1_0, Nat.lt_succ_of_lt z1_0, Nat.ne_of_lt z1_0, Nat.ne_of_gt z1_0, z1_1, Nat.lt_succ_of_lt z1_1, Nat.ne_of_lt z1_1, Nat.ne_of_gt z1_1, z1_2, Nat.lt_succ_of_lt z1_2, Nat.ne_of_lt z1_2, Nat.ne_of_gt z1_2]), (by simp [go_sem, hc1, hf1, z1_0, Nat.lt_succ_of_lt z1_0, Nat.ne_of_lt z1_0, Nat.ne_of_gt z1_0, z1_1, Nat.lt_succ_of_lt z1_1, Nat.ne_of_lt z1_1, Nat.ne_of_gt z1_1, z1_2, Nat.lt_succ_of_lt z1_2, Nat.ne_of_lt z1_2, Nat.ne_of_gt z1_2]), (by simp [go_sem, hc1, hf1, z1_0, Nat.lt_succ_of_lt z1_0, Nat.ne_of_lt z1_0, Nat.ne_of_gt z1_0, z1_1, Nat.lt_succ_of_lt z1_1, Nat.ne_of_lt z1_1, Nat.ne_of_gt z1_1, z1_2, Nat.lt_succ_of_lt z1_2, Nat.ne_of_lt z1_2, Nat.ne_of_gt z1_2]), K1⟩
  have z0 := z1_0
  have z1 := z1_1
  have z2 := z1_2
  clear hb1 hc1 hf1 K1 z1_0 z1_1 z1_2 WA 
  have HS : Hid (∀ u u' : World, (u.cell? ⟨w.heap.size, 0, none⟩ = some (.int .i64 n1) ∧ u.cell? ⟨w.heap.size, 1, none⟩ = some (.int .i64 d1) ∧ u.cell? ⟨w.heap.size, 2, none⟩ = some (.int .i64 t1) ∧ u.cell? ⟨w.heap.size, 3, none⟩ = some (.int .i64 u1) ∧ u.cell? ⟨w.heap.size + 1, 0, none⟩ = some (.int .i64 n2) ∧ u.cell? ⟨w.heap.size + 1, 1, none⟩ = some (.int .i64 d2) ∧ u.cell? ⟨w.heap.size + 1, 2, none⟩ = some (.int .i64 t2) ∧ u.cell? ⟨w.heap.size + 1, 3, none⟩ = some (.int .i64 u2) ∧ u.cell? ⟨w.heap.size + 1 + 1, 0, none⟩ = some (.int .i64 0) ∧ u.cell? ⟨w.heap.size + 1 + 1, 1, none⟩ = some (.int .i64 0) ∧ u.cell? ⟨w.heap.size + 1 + 1, 2, none⟩ = some (.int .i64 0) ∧ u.cell? ⟨w.heap.size + 1 + 1, 3, none⟩ = some (.int .i64 0) ∧ u.frozen? ⟨w.heap.size + 1 + 1, 0, none⟩ = false ∧ u.frozen? ⟨w.heap.size + 1 + 1, 1, none⟩ = false ∧ u.frozen? ⟨w.heap.size + 1 + 1, 2, none⟩ = false ∧ u.frozen? ⟨w.heap.size + 1 + 1, 3, none⟩ = false ∧ Below w.heap.size w u) → Below u.heap.size u u' → (u'.cell? ⟨w.heap.size, 0, none⟩ = some (.int .i64 n1) ∧ u'.cell? ⟨w.heap.size, 1, none⟩ = some (.int .i64 d1) ∧ u'.cell? ⟨w.heap.size, 2, none⟩ = some (.int .i64 t1) ∧ u'.cell? ⟨w.heap.size, 3, none⟩ = some (.int .i64 u1) ∧ u'.cell? ⟨w.heap.size + 1, 0, none⟩ = some (.int .i64 n2) ∧ u'.cell? ⟨w.heap.size + 1, 1, none⟩ = some (.int .i64 d2) ∧ u'.cell? ⟨w.heap.size + 1, 2, none⟩ = some (.int .i64 t2) ∧ u'.cell? ⟨w.heap.size + 1, 3, none⟩ = some (.int .i64 u2) ∧ u'.cell? ⟨w.heap.size + 1 + 1, 0, none⟩ = some (.int .i64 0) ∧ u'.cell? ⟨w.heap.size + 1 + 1, 1, none⟩ = some (.int .i64 0) ∧ u'.cell? ⟨w.heap.size + 1 + 1, 2, none⟩ = some (.int .i64 0) ∧ u'.cell? ⟨w.heap.size + 1 + 1, 3, none⟩ = some (.int .i64 0) ∧ u'.frozen? ⟨w.heap.size + 1 + 1, 0, none⟩ = false ∧ u'.frozen? ⟨w.heap.size + 1 + 1, 1, none⟩ = false ∧ u'.frozen? ⟨w.heap.size + 1 + 1, 2, none⟩ = false ∧ u'.frozen? ⟨w.heap.size + 1 + 1, 3, none⟩ = false ∧ Below w.heap.size w u')) := Lib.hid (fun u u' h hb => ⟨Rg.keep hb (World.block_lt_of_cell? _ _ h.1) h.1, Rg.keep hb (World.block_lt_of_cell? _ _ h.2.1) h.2.1, Rg.keep hb (World.block_lt_of_cell? _ _ h.2.2.1) h.2.2.1, Rg.keep hb (World.block_lt_of_cell? _ _ h.2.2.2.1) h.2.2.2.1, Rg.keep hb (World.block_lt_of_cell? _ _ h.2.2.2.2.1) h.2.2.2.2.1, Rg.keep hb (World.block_lt_of_cell? _ _ h.2.2.2.2.2.1) h.2.2.2.2.2.1, Rg.keep hb (World.block_lt_of_cell? _ _ h.2.2.2.2.2.2.1) h.2.2.2.2.2.2.1, Rg.keep hb (World.block_lt_of_cell? _ _ h.2.2.2.2.2.2.2.1) h.2.2.2.2.2.2.2.1, Rg.keep hb (World.block_lt_of_cell? _ _ h.2.2.2.2.2.2.2.2.1) h.2.2.2.2.2.2.2.2.1, Rg.keep hb (World.block_lt_of_cell? _ _ h.2.2.2.2.2.2.2.2.2.1) h.2.2.2.2.2.2.2.2.2.1, Rg.keep hb (World.block_lt_of_cell? _ _ h.2.2.2.2.2.2.2.2.2.2.1) h.2.2.2.2.2.2.2.2.2.2.1, Rg.keep hb (World.block_lt_of_cell? _ _ h.2.2.2.2.2.2.2.2.2.2.2.1) h.2.2.2.2.2.2.2.2.2.2.2.1, Rg.keepF hb (World.block_lt_of_cell? _ _ h.2.2.2.2.2.2.2.2.1) h.2.2.2.2.2.2.2.2.2.2.2.2.1, Rg.keepF hb (World.block_lt_of_cell? _ _ h.2.2.2.2.2.2.2.2.1) h.2.2.2.2.2.2.2.2.2.2.2.2.2.1, Rg.keepF hb (World.block_lt_of_cell? _ _ h.2.2.2.2.2.2.2.2.1) h.2.2.2.2.2.2.2.2.2.2.2.2.2.2.1, Rg.keepF hb (World.block_lt_of_cell? _ _ h.2.2.2.2.2.2.2.2.1) h.2.2.2.2.2.2.2.2.2.2.2.2.2.2.2.1, h.2.2.2.2.2.2.2.2.2.2.2.2.2.2.2.2.trans (hb.mono h.2.2.2.2.2.2.2.2.2.2.2.2.2.2.2.2.size)⟩)
  refine Rk.begin (S := fun wS => wS.cell? ⟨w.heap.size, 0, none⟩ = some (.int .i64 n1) ∧ wS.cell? ⟨w.heap.size, 1, none⟩ = some (.int .i64 d1) ∧ wS.cell? ⟨w.heap.size, 2, none⟩ = some (.int .i64 t1) ∧ wS.cell? ⟨w.heap.size, 3, none⟩ = some (.int .i64 u1) ∧ wS.cell? ⟨w.heap.size + 1, 0, none⟩ = some (.int .i64 n2) ∧ wS.cell? ⟨w.heap.size + 1, 1, none⟩ = some (.int .i64 d2) ∧ wS.cell? ⟨w.heap.size + 1, 2, none⟩ = some (.int .i64 t2) ∧ wS.cell? ⟨w.heap.size + 1, 3, none⟩ = some (.int .i64 u2) ∧ wS.cell? ⟨w.heap.size + 1 + 1, 0, none⟩ = some (.int .i64 0) ∧ wS.cell? ⟨w.heap.size + 1 + 1, 1, none⟩ = some (.int .i64 0) ∧ wS.cell? ⟨w.heap.size + 1 + 1, 2, none⟩ = some (.int .i64 0) ∧ wS.cell? ⟨w.heap.size + 1 + 1, 3, none⟩ = some (.int .i64 0) ∧ wS.frozen? ⟨w.heap.size + 1 + 1, 0, none⟩ = false ∧ wS.frozen? ⟨w.heap.size + 1 + 1, 1, none⟩ = false ∧ wS.frozen? ⟨w.heap.size + 1 + 1, 2, none⟩ = false ∧ wS.frozen? ⟨w.heap.size + 1 + 1, 3, none⟩ = false ∧ Below w.heap.size w wS) 11 (by kernel_rfl) (HS.out _ _ hz (Below.drew (Below.refl _ _))) (fun hHeld => ?_)
  refine Rk.takeP (i := 0) (v := ?_) rfl (by kernel_rfl) (by kernel_rfl) (by kernel_rfl) (by kernel_rfl) (fun _ _ _ h => h) (Or.inl ⟨by kernel_rfl, ?_⟩) (by assumption) ?_
  rotate_left
  · ((intro w hSw; go_simp) <;> with_reducible rfl)
  try simp only [Act.put, List.setIfInBounds_toArray, List.set_cons_zero, List.set_cons_succ]
  refine Rk.takeP (i := 2) (v := ?_) rfl (by kernel_rfl) (by kernel_rfl) (by kernel_rfl) (by kernel_rfl) (fun _ _ _ h => h) (Or.inl ⟨by kernel_rfl, ?_⟩) (by assumption) ?_
  rotate_left
  · ((intro w hSw; go_simp) <;> with_reducible rfl)
  try simp only [Act.put, List.setIfInBounds_toArray, List.set_cons_zero, List.set_cons_succ]
  refine Rk.take [11] (i := 3) (v := ?_) rfl (by kernel_rfl) (by kernel_rfl) (by kernel_rfl) (by kernel_rfl) (by kernel_rfl) (fun _ _ _ h => h) (Or.inl ⟨by kernel_rfl, ?_⟩) (by assumption) ?_
  rotate_left
  · ((intro w hSw; (try dsimp only at hSw); go_simp) <;> with_reducible rfl)
  try simp only [Act.put, List.setIfInBounds_toArray, List.set_cons_zero, List.set_cons_succ]
  refine Rk.takeP (i := 4) (v := ?_) rfl (by kernel_rfl) (by kernel_rfl) (by kernel_rfl) (by kernel_rfl) (fun _ _ _ h => h) (Or.inl ⟨by kernel_rfl, ?_⟩) (by assumption) ?_
  rotate_left
  · ((intro w hSw; go_simp) <;> with_reducible rfl)
  try simp only [Act.put, List.setIfInBounds_toArray, List.set_cons_zero, List.set_cons_succ]
  refine Rk.take [11] (i := 5) (v := ?_) rfl (by kernel_rfl) (by kernel_rfl) (by kernel_rfl) (by kernel_rfl) (by kernel_rfl) (fun _ _ _ h => h) (Or.inl ⟨by kernel_rfl, ?_⟩) (by assumption) ?_
  rotate_left
  · ((intro w hSw; (try dsimp only at hSw); go_simp) <;> with_reducible rfl)
  try simp only [Act.put, List.setIfInBounds_toArray, List.set_cons_zero, List.set_cons_succ]
  refine Rk.two (i := 1) (j := 10) (by kernel_rfl) rfl rfl (fun KK hK => ?_) (fun KK hK => ?_)
  · rw [if_pos (by kernel_rfl)]
    go_simp
    (refine (KF.out _).mono ?_; rintro e uw1 ⟨rfl, hb⟩)
    have hNew := HS.out _ _ hHeld hb
    have hs_uw1 : w1.heap.size ≤ uw1.heap.size := by have hzz := hb.size; (try simp at hzz); omega
    first | (refine hK.out _ _ (fun _ => hNew) (fun _ => ?_)) | (refine hK.out _ _ hNew (fun _ => ?_)) | (go_wp2_with fail; refine hK.out _ _ hNew (fun _ => ?_))
    replace hHeld := hNew
    clear hNew hb
    clear hK KK
    refine Rk.two (i := 6) (j := 10) (by kernel_rfl) rfl rfl (fun KK hK => ?_) (fun KK hK => ?_)
    · rw [if_pos (by kernel_rfl)]
      go_simp
      (refine (AP.out _).mono ?_; rintro e uw6 ⟨rfl, hb⟩)
      have hNew := HS.out _ _ hHeld hb
      have hs_uw6 : w1.heap.size ≤ uw6.heap.size := by have hzz := hb.size; (try simp at hzz); omega
      first | (refine hK.out _ _ (fun _ => hNew) (fun _ => ?_)) | (refine hK.out _ _ hNew (fun _ => ?_)) | (go_wp2_with fail; refine hK.out _ _ hNew (fun _ => ?_))
      replace hHeld := hNew
      clear hNew hb
      clear hK KK
      refine Rk.takeP (i := 7) (v := ?_) rfl (by kernel_rfl) (by kernel_rfl) (by kernel_rfl) (by kernel_rfl) (fun _ _ _ h => h) (Or.inl ⟨by kernel_rfl, ?_⟩) (by assumption) ?_
      rotate_left
      · ((intro w hSw; go_simp) <;> with_reducible rfl)
      try simp only [Act.put, List.setIfInBounds_toArray, List.set_cons_zero, List.set_cons_succ]
      refine Rk.takeP (i := 8) (v := ?_) rfl (by kernel_rfl) (by kernel_rfl) (by kernel_rfl) (by kernel_rfl) (fun _ _ _ h => h) (Or.inl ⟨by kernel_rfl, ?_⟩) (by assumption) ?_
      rotate_left
      · ((intro w hSw; go_simp) <;> with_reducible rfl)
      try simp only [Act.put, List.setIfInBounds_toArray, List.set_cons_zero, List.set_cons_succ]
      refine Rk.takeP (i := 9) (v := ?_) rfl (by kernel_rfl) (by kernel_rfl) (by kernel_rfl) (by kernel_rfl) (fun _ _ _ h => h) (Or.inl ⟨by kernel_rfl, ?_⟩) (by assumption) ?_
      rotate_left
      · ((intro w hSw; go_simp) <;> with_reducible rfl)
      try simp only [Act.put, List.setIfInBounds_toArray, List.set_cons_zero, List.set_cons_succ]
      refine Rk.one (i := 10) (by kernel_rfl) rfl (fun KK hK => ?_)
      rw [if_pos (by kernel_rfl)]
      go_simp
      have hNew := HS.out _ _ hHeld ((Below.refl _ _).alloc (Nat.le_refl _) (Obj.cells #[Value.int .i64 0, Value.int .i64 0] 23))
      refine hK.out _ _ hNew (fun _ => ?_)
      replace hHeld := hNew
      clear hNew
      clear hK KK
      refine Rk.tail [11, 12] [_, _] (by kernel_rfl) (by kernel_rfl) rfl (by decide) ?_
      obtain ⟨a0, a1, a2, a3, b0, b1, b2, b3, r0, r1, r2, r3, fr0, fr1, fr2, fr3, K9⟩ := hHeld
      have m0 : (uw6.alloc (Obj.cells #[Value.int .i64 0, Value.int .i64 0] 23)).cell? ⟨uw6.heap.size, 0, none⟩ = some (.int .i64 0) := by go_cell
      have fm0 : (uw6.alloc (Obj.cells #[Value.int .i64 0, Value.int .i64 0] 23)).frozen? ⟨uw6.heap.size, 0, none⟩ = false := by simp only [frozen?_alloc_cells]; exact Rg.notFrozen (Nat.le_refl _)
      have m1 : (uw6.alloc (Obj.cells #[Value.int .i64 0, Value.int .i64 0] 23)).cell? ⟨uw6.heap.size, 1, none⟩ = some (.int .i64 0) := by go_cell
      have fm1 : (uw6.alloc (Obj.cells #[Value.int .i64 0, Value.int .i64 0] 23)).frozen? ⟨uw6.heap.size, 1, none⟩ = false := by simp only [frozen?_alloc_cells]; exact Rg.notFrozen (Nat.le_refl _)
      generalize (uw6.alloc (Obj.cells #[Value.int .i64 0, Value.int .i64 0] 23)) = gw at *
      have lm : uw6.heap.size < gw.heap.size := World.block_lt_of_cell? _ _ m0
      have lw : w.heap.size ≤ uw6.heap.size := by omega
      have ne0 : uw6.heap.size ≠ w.heap.size := by omega
      have ne1 : uw6.heap.size ≠ w.heap.size + 1 := by omega
      have ne2 : uw6.heap.size ≠ w.heap.size + 1 + 1 := by omega
      have lo0 : w.heap.size < gw.heap.size := by omega
      have lo1 : w.heap.size + 1 < gw.heap.size := by omega
      have lo2 : w.heap.size + 1 + 1 < gw.heap.size := by omega
      by_cases he : e = 0
      · subst he
        replace TN := Lib.hid (TN.out rfl)
        obtain hr := HRES.out
        rw [if_neg (by decide)] at hr
        go_wp2_with fail
        have a0 : ((gw.setCell ⟨uw6.heap.size, 0, none⟩ (.int .i64 x)).setCell ⟨uw6.heap.size, 1, none⟩ (.int .i64 y)).cell? ⟨w.heap.size, 0, none⟩ = some (.int .i64 n1) := Rg.far ne0 a0
        have a1 : ((gw.setCell ⟨uw6.heap.size, 0, none⟩ (.int .i64 x)).setCell ⟨uw6.heap.size, 1, none⟩ (.int .i64 y)).cell? ⟨w.heap.size, 1, none⟩ = some (.int .i64 d1) := Rg.far ne0 a1
        have a2 : ((gw.setCell ⟨uw6.heap.size, 0, none⟩ (.int .i64 x)).setCell ⟨uw6.heap.size, 1, none⟩ (.int .i64 y)).cell? ⟨w.heap.size, 2, none⟩ = some (.int .i64 t1) := Rg.far ne0 a2
        have a3 : ((gw.setCell ⟨uw6.heap.size, 0, none⟩ (.int .i64 x)).setCell ⟨uw6.heap.size, 1, none⟩ (.int .i64 y)).cell? ⟨w.heap.size, 3, none⟩ = some (.int .i64 u1) := Rg.far ne0 a3
        have b0 : ((gw.setCell ⟨uw6.heap.size, 0, none⟩ (.int .i64 x)).setCell ⟨uw6.heap.size, 1, none⟩ (.int .i64 y)).cell? ⟨w.heap.size + 1, 0, none⟩ = some (.int .i64 n2) := Rg.far ne1 b0
        have b1 : ((gw.setCell ⟨uw6.heap.size, 0, none⟩ (.int .i64 x)).setCell ⟨uw6.heap.size, 1, none⟩ (.int .i64 y)).cell? ⟨w.heap.size + 1, 1, none⟩ = some (.int .i64 d2) := Rg.far ne1 b1
        have b2 : ((gw.setCell ⟨uw6.heap.size, 0, none⟩ (.int .i64 x)).setCell ⟨uw6.heap.size, 1, none⟩ (.int .i64 y)).cell? ⟨w.heap.size + 1, 2, none⟩ = some (.int .i64 t2) := Rg.far ne1 b2
        have b3 : ((gw.setCell ⟨uw6.heap.size, 0, none⟩ (.int .i64 x)).setCell ⟨uw6.heap.size, 1, none⟩ (.int .i64 y)).cell? ⟨w.heap.size + 1, 3, none⟩ = some (.int .i64 u2) := Rg.far ne1 b3
        have r0 : ((gw.setCell ⟨uw6.heap.size, 0, none⟩ (.int .i64 x)).setCell ⟨uw6.heap.size, 1, none⟩ (.int .i64 y)).cell? ⟨w.heap.size + 1 + 1, 0, none⟩ = some (.int .i64 0) := Rg.far ne2 r0
        have r1 : ((gw.setCell ⟨uw6.heap.size, 0, none⟩ (.int .i64 x)).setCell ⟨uw6.heap.size, 1, none⟩ (.int .i64 y)).cell? ⟨w.heap.size + 1 + 1, 1, none⟩ = some (.int .i64 0) := Rg.far ne2 r1
        have r2 : ((gw.setCell ⟨uw6.heap.size, 0, none⟩ (.int .i64 x)).setCell ⟨uw6.heap.size, 1, none⟩ (.int .i64 y)).cell? ⟨w.heap.size + 1 + 1, 2, none⟩ = some (.int .i64 0) := Rg.far ne2 r2
        have r3 : ((gw.setCell ⟨uw6.heap.size, 0, none⟩ (.int .i64 x)).setCell ⟨uw6.heap.size, 1, none⟩ (.int .i64 y)).cell? ⟨w.heap.size + 1 + 1, 3, none⟩ = some (.int .i64 0) := Rg.far ne2 r3
        have fr0 : ((gw.setCell ⟨uw6.heap.size, 0, none⟩ (.int .i64 x)).setCell ⟨uw6.heap.size, 1, none⟩ (.int .i64 y)).frozen? ⟨w.heap.size + 1 + 1, 0, none⟩ = false := by simpa [World.frozen?_setCell] using fr0
        have fr1 : ((gw.setCell ⟨uw6.heap.size, 0, none⟩ (.int .i64 x)).setCell ⟨uw6.heap.size, 1, none⟩ (.int .i64 y)).frozen? ⟨w.heap.size + 1 + 1, 1, none⟩ = false := by simpa [World.frozen?_setCell] using fr1
        have fr2 : ((gw.setCell ⟨uw6.heap.size, 0, none⟩ (.int .i64 x)).setCell ⟨uw6.heap.size, 1, none⟩ (.int .i64 y)).frozen? ⟨w.heap.size + 1 + 1, 2, none⟩ = false := by simpa [World.frozen?_setCell] using fr2
        have fr3 : ((gw.setCell ⟨uw6.heap.size, 0, none⟩ (.int .i64 x)).setCell ⟨uw6.heap.size, 1, none⟩ (.int .i64 y)).frozen? ⟨w.heap.size + 1 + 1, 3, none⟩ = false := by simpa [World.frozen?_setCell] using fr3
        have hst := st2 (x := .int .i64 x) (y := .int .i64 y) m0 m1
        obtain ⟨s0, s1⟩ := hst
        have KS : Below w.heap.size w ((gw.setCell ⟨uw6.heap.size, 0, none⟩ (.int .i64 x)).setCell ⟨uw6.heap.size, 1, none⟩ (.int .i64 y)) := (Below.setCell (Below.setCell K9 (by dsimp only; omega) _) (by dsimp only; omega) _)
        have lm : uw6.heap.size < ((gw.setCell ⟨uw6.heap.size, 0, none⟩ (.int .i64 x)).setCell ⟨uw6.heap.size, 1, none⟩ (.int .i64 y)).heap.size := World.block_lt_of_cell? _ _ s0
        have lo0 : w.heap.size < ((gw.setCell ⟨uw6.heap.size, 0, none⟩ (.int .i64 x)).setCell ⟨uw6.heap.size, 1, none⟩ (.int .i64 y)).heap.size := by simp; omega
        have lo1 : w.heap.size + 1 < ((gw.setCell ⟨uw6.heap.size, 0, none⟩ (.int .i64 x)).setCell ⟨uw6.heap.size, 1, none⟩ (.int .i64 y)).heap.size := by simp; omega
        have lo2 : w.heap.size + 1 + 1 < ((gw.setCell ⟨uw6.heap.size, 0, none⟩ (.int .i64 x)).setCell ⟨uw6.heap.size, 1, none⟩ (.int .i64 y)).heap.size := by simp; omega
        clear K9 m0 fm0 m1 fm1
        generalize ((gw.setCell ⟨uw6.heap.size, 0, none⟩ (.int .i64 x)).setCell ⟨uw6.heap.size, 1, none⟩ (.int .i64 y)) = gs at *
        by_cases hf : f = 0
        · subst hf
          rw [if_neg (by decide)] at hr
          subst hr
          clear HRES
          go_wp2_with (first | (go_at_call 16; (with_reducible refine (TN.out _).mono ?_); rintro e w5 ⟨rfl, hb5⟩; have hc5 := (bcell hb5).1; have hf5 := (bcell hb5).2; have z5_0 : w.heap.size < w5.heap.size := (by have hzz := hb5.size; (try simp at hzz); omega); have z5_1 : w.heap.size + 1 < w5.heap.size := (by have hzz := hb5.size; (try simp at hzz); omega); have z5_2 : w.heap.size + 1 + 1 < w5.heap.size := (by have hzz := hb5.size; (try simp at hzz); omega); have z5_3 : uw6.heap.size < w5.heap.size := (by have hzz := hb5.size; (try simp at hzz); omega); have K5 : Below w.heap.size w w5 := Below.trans (b := _) (by (repeat' (first | (with_reducible exact Below.refl _ _) | (with_reducible exact KS) | (with_reducible exact KS.size) | (with_reducible refine Below.alloc ?_ ?_ _) | (with_reducible refine Below.setCell ?_ ?_ _) | (with_reducible refine below_drewN ?_ _) | (simp; done) | omega | (simp; omega)))) (hb5.mono (by have hzz := hb5.size; (try simp at hzz); first | omega | (simp; done) | (simp; omega)))))
          refine bodyPost_ret (v := F5 (x, y, p, q, 0)) (by simp [results, Try.results6, go_sem, hc5, hf5, z5_0, Nat.lt_succ_of_lt z5_0, Nat.ne_of_lt z5_0, Nat.ne_of_gt z5_0, z5_1, Nat.lt_succ_of_lt z5_1, Nat.ne_of_lt z5_1, Nat.ne_of_gt z5_1, z5_2, Nat.lt_succ_of_lt z5_2, Nat.ne_of_lt z5_2, Nat.ne_of_gt z5_2, z5_3, Nat.lt_succ_of_lt z5_3, Nat.ne_of_lt z5_3, Nat.ne_of_gt z5_3, r0, r1, r2, r3, fr0, fr1, fr2, fr3, s0, s1, lo0, lo1, lo2, lm, Nat.lt_succ_of_lt lo2, Nat.ne_of_lt lo2, Nat.ne_of_gt lo2]) rfl ⟨rfl, ?_⟩; (repeat' (first | (with_reducible exact Below.refl _ _) | (with_reducible exact K5) | (with_reducible exact K5.size) | (with_reducible exact KS) | (with_reducible exact KS.size) | (with_reducible refine Below.alloc ?_ ?_ _) | (with_reducible refine Below.setCell ?_ ?_ _) | (with_reducible refine below_drewN ?_ _) | (simp; done) | omega | (simp; omega)))
        · rw [if_pos hf] at hr
          subst hr
          clear HRES
          have f1 : (f == 0) = false := by simpa using hf
          have f2 : (f != 0) = true := by simpa using hf
          clear hf
          go_wp2_with (first | (go_at_call 16; (with_reducible refine (TN.out _).mono ?_); rintro e w5 ⟨rfl, hb5⟩; have hc5 := (bcell hb5).1; have hf5 := (bcell hb5).2; have z5_0 : w.heap.size < w5.heap.size := (by have hzz := hb5.size; (try simp at hzz); omega); have z5_1 : w.heap.size + 1 < w5.heap.size := (by have hzz := hb5.size; (try simp at hzz); omega); have z5_2 : w.heap.size + 1 + 1 < w5.heap.size := (by have hzz := hb5.size; (try simp at hzz); omega); have z5_3 : uw6.heap.size < w5.heap.size := (by have hzz := hb5.size; (try simp at hzz); omega); have K5 : Below w.heap.size w w5 := Below.trans (b := _) (by (repeat' (first | (with_reducible exact Below.refl _ _) | (with_reducible exact KS) | (with_reducible exact KS.size) | (with_reducible refine Below.alloc ?_ ?_ _) | (with_reducible refine Below.setCell ?_ ?_ _) | (with_reducible refine below_drewN ?_ _) | (simp; done) | omega | (simp; omega)))) (hb5.mono (by have hzz := hb5.size; (try simp at hzz); first | omega | (simp; done) | (simp; omega)))))
          refine bodyPost_ret (v := F5 (0, 0, 0, 0, f)) (by simp [results, Try.results6, go_sem, hc5, hf5, z5_0, Nat.lt_succ_of_lt z5_0, Nat.ne_of_lt z5_0, Nat.ne_of_gt z5_0, z5_1, Nat.lt_succ_of_lt z5_1, Nat.ne_of_lt z5_1, Nat.ne_of_gt z5_1, z5_2, Nat.lt_succ_of_lt z5_2, Nat.ne_of_lt z5_2, Nat.ne_of_gt z5_2, z5_3, Nat.lt_succ_of_lt z5_3, Nat.ne_of_lt z5_3, Nat.ne_of_gt z5_3, r0, r1, r2, r3, fr0, fr1, fr2, fr3, s0, s1, lo0, lo1, lo2, lm, Nat.lt_succ_of_lt lo2, Nat.ne_of_lt lo2, Nat.ne_of_gt lo2]) rfl ⟨rfl, ?_⟩; (repeat' (first | (with_reducible exact Below.refl _ _) | (with_reducible exact K5) | (with_reducible exact K5.size) | (with_reducible exact KS) | (with_reducible exact KS.size) | (with_reducible refine Below.alloc ?_ ?_ _) | (with_reducible refine Below.setCell ?_ ?_ _) | (with_reducible refine below_drewN ?_ _) | (simp; done) | omega | (simp; omega)))
      · obtain hr := HRES.out
        rw [if_pos he] at hr
        subst hr
        clear HRES
        have f1 : (e == 0) = false := by simpa using he
        have f2 : (e != 0) = true := by simpa using he
        clear he TN
        go_wp2_with fail
        have a0 : ((gw.setCell ⟨uw6.heap.size, 0, none⟩ (.int .i64 x)).setCell ⟨uw6.heap.size, 1, none⟩ (.int .i64 y)).cell? ⟨w.heap.size, 0, none⟩ = some (.int .i64 n1) := Rg.far ne0 a0
        have a1 : ((gw.setCell ⟨uw6.heap.size, 0, none⟩ (.int .i64 x)).setCell ⟨uw6.heap.size, 1, none⟩ (.int .i64 y)).cell? ⟨w.heap.size, 1, none⟩ = some (.int .i64 d1) := Rg.far ne0 a1
        have a2 : ((gw.setCell ⟨uw6.heap.size, 0, none⟩ (.int .i64 x)).setCell ⟨uw6.heap.size, 1, none⟩ (.int .i64 y)).cell? ⟨w.heap.size, 2, none⟩ = some (.int .i64 t1) := Rg.far ne0 a2
        have a3 : ((gw.setCell ⟨uw6.heap.size, 0, none⟩ (.int .i64 x)).setCell ⟨uw6.heap.size, 1, none⟩ (.int .i64 y)).cell? ⟨w.heap.size, 3, none⟩ = some (.int .i64 u1) := Rg.far ne0 a3
        have b0 : ((gw.setCell ⟨uw6.heap.size, 0, none⟩ (.int .i64 x)).setCell ⟨uw6.heap.size, 1, none⟩ (.int .i64 y)).cell? ⟨w.heap.size + 1, 0, none⟩ = some (.int .i64 n2) := Rg.far ne1 b0
        have b1 : ((gw.setCell ⟨uw6.heap.size, 0, none⟩ (.int .i64 x)).setCell ⟨uw6.heap.size, 1, none⟩ (.int .i64 y)).cell? ⟨w.heap.size + 1, 1, none⟩ = some (.int .i64 d2) := Rg.far ne1 b1
        have b2 : ((gw.setCell ⟨uw6.heap.size, 0, none⟩ (.int .i64 x)).setCell ⟨uw6.heap.size, 1, none⟩ (.int .i64 y)).cell? ⟨w.heap.size + 1, 2, none⟩ = some (.int .i64 t2) := Rg.far ne1 b2
        have b3 : ((gw.setCell ⟨uw6.heap.size, 0, none⟩ (.int .i64 x)).setCell ⟨uw6.heap.size, 1, none⟩ (.int .i64 y)).cell? ⟨w.heap.size + 1, 3, none⟩ = some (.int .i64 u2) := Rg.far ne1 b3
        have r0 : ((gw.setCell ⟨uw6.heap.size, 0, none⟩ (.int .i64 x)).setCell ⟨uw6.heap.size, 1, none⟩ (.int .i64 y)).cell? ⟨w.heap.size + 1 + 1, 0, none⟩ = some (.int .i64 0) := Rg.far ne2 r0
        have r1 : ((gw.setCell ⟨uw6.heap.size, 0, none⟩ (.int .i64 x)).setCell ⟨uw6.heap.size, 1, none⟩ (.int .i64 y)).cell? ⟨w.heap.size + 1 + 1, 1, none⟩ = some (.int .i64 0) := Rg.far ne2 r1
        have r2 : ((gw.setCell ⟨uw6.heap.size, 0, none⟩ (.int .i64 x)).setCell ⟨uw6.heap.size, 1, none⟩ (.int .i64 y)).cell? ⟨w.heap.size + 1 + 1, 2, none⟩ = some (.int .i64 0) := Rg.far ne2 r2
        have r3 : ((gw.setCell ⟨uw6.heap.size, 0, none⟩ (.int .i64 x)).setCell ⟨uw6.heap.size, 1, none⟩ (.int .i64 y)).cell? ⟨w.heap.size + 1 + 1, 3, none⟩ = some (.int .i64 0) := Rg.far ne2 r3
        have fr0 : ((gw.setCell ⟨uw6.heap.size, 0, none⟩ (.int .i64 x)).setCell ⟨uw6.heap.size, 1, none⟩ (.int .i64 y)).frozen? ⟨w.heap.size + 1 + 1, 0, none⟩ = false := by simpa [World.frozen?_setCell] using fr0
        have fr1 : ((gw.setCell ⟨uw6.heap.size, 0, none⟩ (.int .i64 x)).setCell ⟨uw6.heap.size, 1, none⟩ (.int .i64 y)).frozen? ⟨w.heap.size + 1 + 1, 1, none⟩ = false := by simpa [World.frozen?_setCell] using fr1
        have fr2 : ((gw.setCell ⟨uw6.heap.size, 0, none⟩ (.int .i64 x)).setCell ⟨uw6.heap.size, 1, none⟩ (.int .i64 y)).frozen? ⟨w.heap.size + 1 + 1, 2, none⟩ = false := by simpa [World.frozen?_setCell] using fr2
        have fr3 : ((gw.setCell ⟨uw6.heap.size, 0, none⟩ (.int .i64 x)).setCell ⟨uw6.heap.size, 1, none⟩ (.int .i64 y)).frozen? ⟨w.heap.size + 1 + 1, 3, none⟩ = false := by simpa [World.frozen?_setCell] using fr3
        have hst := st2 (x := .int .i64 x) (y := .int .i64 y) m0 m1
        obtain ⟨s0, s1⟩ := hst
        have KS : Below w.heap.size w ((gw.setCell ⟨uw6.heap.size, 0, none⟩ (.int .i64 x)).setCell ⟨uw6.heap.size, 1, none⟩ (.int .i64 y)) := (Below.setCell (Below.setCell K9 (by dsimp only; omega) _) (by dsimp only; omega) _)
        have lm : uw6.heap.size < ((gw.setCell ⟨uw6.heap.size, 0, none⟩ (.int .i64 x)).setCell ⟨uw6.heap.size, 1, none⟩ (.int .i64 y)).heap.size := World.block_lt_of_cell? _ _ s0
        have lo0 : w.heap.size < ((gw.setCell ⟨uw6.heap.size, 0, none⟩ (.int .i64 x)).setCell ⟨uw6.heap.size, 1, none⟩ (.int .i64 y)).heap.size := by simp; omega
        have lo1 : w.heap.size + 1 < ((gw.setCell ⟨uw6.heap.size, 0, none⟩ (.int .i64 x)).setCell ⟨uw6.heap.size, 1, none⟩ (.int .i64 y)).heap.size := by simp; omega
        have lo2 : w.heap.size + 1 + 1 < ((gw.setCell ⟨uw6.heap.size, 0, none⟩ (.int .i64 x)).setCell ⟨uw6.heap.size, 1, none⟩ (.int .i64 y)).heap.size := by simp; omega
        clear K9 m0 fm0 m1 fm1
        generalize ((gw.setCell ⟨uw6.heap.size, 0, none⟩ (.int .i64 x)).setCell ⟨uw6.heap.size, 1, none⟩ (.int .i64 y)) = gs at *
        refine bodyPost_ret (v := F5 (0, 0, 0, 0, e)) (by simp [results, Try.results6, go_sem, r0, r1, r2, r3, fr0, fr1, fr2, fr3, s0, s1, lo0, lo1, lo2, lm, Nat.lt_succ_of_lt lo2, Nat.ne_of_lt lo2, Nat.ne_of_gt lo2, lo2]) rfl ⟨rfl, ?_⟩; (repeat' (first | (with_reducible exact Below.refl _ _) | (with_reducible exact KS) | (with_reducible exact KS.size) | (with_reducible refine Below.alloc ?_ ?_ _) | (with_reducible refine Below.setCell ?_ ?_ _) | (with_reducible refine below_drewN ?_ _) | (simp; done) | omega | (simp; omega)))
    · rw [if_pos (by kernel_rfl)]
      go_simp
      have hNew := HS.out _ _ hHeld ((Below.refl _ _).alloc (Nat.le_refl _) (Obj.cells #[Value.int .i64 0, Value.int .i64 0] 23))
      refine hK.out _ _ hNew (fun _ => ?_)
      replace hHeld := hNew
      clear hNew
      clear hK KK
      refine Rk.one (i := 6) (by kernel_rfl) rfl (fun KK hK => ?_)
      rw [if_pos (by kernel_rfl)]
      go_simp
      (refine (AP.out _).mono ?_; rintro e uw6 ⟨rfl, hb⟩)
      have hNew := HS.out _ _ hHeld hb
      have hs_uw6 : w1.heap.size ≤ uw6.heap.size := by have hzz := hb.size; (try simp at hzz); omega
      have m0 : uw6.cell? ⟨uw1.heap.size, 0, none⟩ = some (.int .i64 0) := Rg.keep hb (by simp) (by go_cell)
      have fm0 : uw6.frozen? ⟨uw1.heap.size, 0, none⟩ = false := Rg.keepF hb (by simp) (by show (uw1.alloc (Obj.cells #[Value.int .i64 0, Value.int .i64 0] 23)).frozen? ⟨uw1.heap.size, 0, none⟩ = false; simp only [frozen?_alloc_cells]; exact Rg.notFrozen (Nat.le_refl _))
      have m1 : uw6.cell? ⟨uw1.heap.size, 1, none⟩ = some (.int .i64 0) := Rg.keep hb (by simp) (by go_cell)
      have fm1 : uw6.frozen? ⟨uw1.heap.size, 1, none⟩ = false := Rg.keepF hb (by simp) (by show (uw1.alloc (Obj.cells #[Value.int .i64 0, Value.int .i64 0] 23)).frozen? ⟨uw1.heap.size, 1, none⟩ = false; simp only [frozen?_alloc_cells]; exact Rg.notFrozen (Nat.le_refl _))
      first | (refine hK.out _ _ (fun _ => hNew) (fun _ => ?_)) | (refine hK.out _ _ hNew (fun _ => ?_)) | (go_wp2_with fail; refine hK.out _ _ hNew (fun _ => ?_))
      replace hHeld := hNew
      clear hNew hb
      clear hK KK
      refine Rk.takeP (i := 7) (v := ?_) rfl (by kernel_rfl) (by kernel_rfl) (by kernel_rfl) (by kernel_rfl) (fun _ _ _ h => h) (Or.inl ⟨by kernel_rfl, ?_⟩) (by assumption) ?_
      rotate_left
      · ((intro w hSw; go_simp) <;> with_reducible rfl)
      try simp only [Act.put, List.setIfInBounds_toArray, List.set_cons_zero, List.set_cons_succ]
      refine Rk.takeP (i := 8) (v := ?_) rfl (by kernel_rfl) (by kernel_rfl) (by kernel_rfl) (by kernel_rfl) (fun _ _ _ h => h) (Or.inl ⟨by kernel_rfl, ?_⟩) (by assumption) ?_
      rotate_left
      · ((intro w hSw; go_simp) <;> with_reducible rfl)
      try simp only [Act.put, List.setIfInBounds_toArray, List.set_cons_zero, List.set_cons_succ]
      refine Rk.takeP (i := 9) (v := ?_) rfl (by kernel_rfl) (by kernel_rfl) (by kernel_rfl) (by kernel_rfl) (fun _ _ _ h => h) (Or.inl ⟨by kernel_rfl, ?_⟩) (by assumption) ?_
      rotate_left
      · ((intro w hSw; go_simp) <;> with_reducible rfl)
      try simp only [Act.put, List.setIfInBounds_toArray, List.set_cons_zero, List.set_cons_succ]
      refine Rk.tail [11, 12] [_, _] (by kernel_rfl) (by kernel_rfl) rfl (by decide) ?_
      obtain ⟨a0, a1, a2, a3, b0, b1, b2, b3, r0, r1, r2, r3, fr0, fr1, fr2, fr3, K9⟩ := hHeld
      have lm : uw1.heap.size < uw6.heap.size := World.block_lt_of_cell? _ _ m0
      have lw : w.heap.size ≤ uw1.heap.size := by omega
      have ne0 : uw1.heap.size ≠ w.heap.size := by omega
      have ne1 : uw1.heap.size ≠ w.heap.size + 1 := by omega
      have ne2 : uw1.heap.size ≠ w.heap.size + 1 + 1 := by omega
      have lo0 : w.heap.size < uw6.heap.size := by omega
      have lo1 : w.heap.size + 1 < uw6.heap.size := by omega
      have lo2 : w.heap.size + 1 + 1 < uw6.heap.size := by omega
      by_cases he : e = 0
      · subst he
        replace TN := Lib.hid (TN.out rfl)
        obtain hr := HRES.out
        rw [if_neg (by decide)] at hr
        go_wp2_with fail
        have a0 : ((uw6.setCell ⟨uw1.heap.size, 0, none⟩ (.int .i64 x)).setCell ⟨uw1.heap.size, 1, none⟩ (.int .i64 y)).cell? ⟨w.heap.size, 0, none⟩ = some (.int .i64 n1) := Rg.far ne0 a0
        have a1 : ((uw6.setCell ⟨uw1.heap.size, 0, none⟩ (.int .i64 x)).setCell ⟨uw1.heap.size, 1, none⟩ (.int .i64 y)).cell? ⟨w.heap.size, 1, none⟩ = some (.int .i64 d1) := Rg.far ne0 a1
        have a2 : ((uw6.setCell ⟨uw1.heap.size, 0, none⟩ (.int .i64 x)).setCell ⟨uw1.heap.size, 1, none⟩ (.int .i64 y)).cell? ⟨w.heap.size, 2, none⟩ = some (.int .i64 t1) := Rg.far ne0 a2
        have a3 : ((uw6.setCell ⟨uw1.heap.size, 0, none⟩ (.int .i64 x)).setCell ⟨uw1.heap.size, 1, none⟩ (.int .i64 y)).cell? ⟨w.heap.size, 3, none⟩ = some (.int .i64 u1) := Rg.far ne0 a3
        have b0 : ((uw6.setCell ⟨uw1.heap.size, 0, none⟩ (.int .i64 x)).setCell ⟨uw1.heap.size, 1, none⟩ (.int .i64 y)).cell? ⟨w.heap.size + 1, 0, none⟩ = some (.int .i64 n2) := Rg.far ne1 b0
        have b1 : ((uw6.setCell ⟨uw1.heap.size, 0, none⟩ (.int .i64 x)).setCell ⟨uw1.heap.size, 1, none⟩ (.int .i64 y)).cell? ⟨w.heap.size + 1, 1, none⟩ = some (.int .i64 d2) := Rg.far ne1 b1
        have b2 : ((uw6.setCell ⟨uw1.heap.size, 0, none⟩ (.int .i64 x)).setCell ⟨uw1.heap.size, 1, none⟩ (.int .i64 y)).cell? ⟨w.heap.size + 1, 2, none⟩ = some (.int .i64 t2) := Rg.far ne1 b2
        have b3 : ((uw6.setCell ⟨uw1.heap.size, 0, none⟩ (.int .i64 x)).setCell ⟨uw1.heap.size, 1, none⟩ (.int .i64 y)).cell? ⟨w.heap.size + 1, 3, none⟩ = some (.int .i64 u2) := Rg.far ne1 b3
        have r0 : ((uw6.setCell ⟨uw1.heap.size, 0, none⟩ (.int .i64 x)).setCell ⟨uw1.heap.size, 1, none⟩ (.int .i64 y)).cell? ⟨w.heap.size + 1 + 1, 0, none⟩ = some (.int .i64 0) := Rg.far ne2 r0
        have r1 : ((uw6.setCell ⟨uw1.heap.size, 0, none⟩ (.int .i64 x)).setCell ⟨uw1.heap.size, 1, none⟩ (.int .i64 y)).cell? ⟨w.heap.size + 1 + 1, 1, none⟩ = some (.int .i64 0) := Rg.far ne2 r1
        have r2 : ((uw6.setCell ⟨uw1.heap.size, 0, none⟩ (.int .i64 x)).setCell ⟨uw1.heap.size, 1, none⟩ (.int .i64 y)).cell? ⟨w.heap.size + 1 + 1, 2, none⟩ = some (.int .i64 0) := Rg.far ne2 r2
        have r3 : ((uw6.setCell ⟨uw1.heap.size, 0, none⟩ (.int .i64 x)).setCell ⟨uw1.heap.size, 1, none⟩ (.int .i64 y)).cell? ⟨w.heap.size + 1 + 1, 3, none⟩ = some (.int .i64 0) := Rg.far ne2 r3
        have fr0 : ((uw6.setCell ⟨uw1.heap.size, 0, none⟩ (.int .i64 x)).setCell ⟨uw1.heap.size, 1, none⟩ (.int .i64 y)).frozen? ⟨w.heap.size + 1 + 1, 0, none⟩ = false := by simpa [World.frozen?_setCell] using fr0
        have fr1 : ((uw6.setCell ⟨uw1.heap.size, 0, none⟩ (.int .i64 x)).setCell ⟨uw1.heap.size, 1, none⟩ (.int .i64 y)).frozen? ⟨w.heap.size + 1 + 1, 1, none⟩ = false := by simpa [World.frozen?_setCell] using fr1
        have fr2 : ((uw6.setCell ⟨uw1.heap.size, 0, none⟩ (.int .i64 x)).setCell ⟨uw1.heap.size, 1, none⟩ (.int .i64 y)).frozen? ⟨w.heap.size + 1 + 1, 2, none⟩ = false := by simpa [World.frozen?_setCell] using fr2
        have fr3 : ((uw6.setCell ⟨uw1.heap.size, 0, none⟩ (.int .i64 x)).setCell ⟨uw1.heap.size, 1, none⟩ (.int .i64 y)).frozen? ⟨w.heap.size + 1 + 1, 3, none⟩ = false := by simpa [World.frozen?_setCell] using fr3
        have hst := st2 (x := .int .i64 x) (y := .int .i64 y) m0 m1
        obtain ⟨s0, s1⟩ := hst
        have KS : Below w.heap.size w ((uw6.setCell ⟨uw1.heap.size, 0, none⟩ (.int .i64 x)).setCell ⟨uw1.heap.size, 1, none⟩ (.int .i64 y)) := (Below.setCell (Below.setCell K9 (by dsimp only; omega) _) (by dsimp only; omega) _)
        have lm : uw1.heap.size < ((uw6.setCell ⟨uw1.heap.size, 0, none⟩ (.int .i64 x)).setCell ⟨uw1.heap.size, 1, none⟩ (.int .i64 y)).heap.size := World.block_lt_of_cell? _ _ s0
        have lo0 : w.heap.size < ((uw6.setCell ⟨uw1.heap.size, 0, none⟩ (.int .i64 x)).setCell ⟨uw1.heap.size, 1, none⟩ (.int .i64 y)).heap.size := by simp; omega
        have lo1 : w.heap.size + 1 < ((uw6.setCell ⟨uw1.heap.size, 0, none⟩ (.int .i64 x)).setCell ⟨uw1.heap.size, 1, none⟩ (.int .i64 y)).heap.size := by simp; omega
        have lo2 : w.heap.size + 1 + 1 < ((uw6.setCell ⟨uw1.heap.size, 0, none⟩ (.int .i64 x)).setCell ⟨uw1.heap.size, 1, none⟩ (.int .i64 y)).heap.size := by simp; omega
        clear K9 m0 fm0 m1 fm1
        generalize ((uw6.setCell ⟨uw1.heap.size, 0, none⟩ (.int .i64 x)).setCell ⟨uw1.heap.size, 1, none⟩ (.int .i64 y)) = gs at *
        by_cases hf : f = 0
        · subst hf
          rw [if_neg (by decide)] at hr
          subst hr
          clear HRES
          go_wp2_with (first | (go_at_call 16; (with_reducible refine (TN.out _).mono ?_); rintro e w5 ⟨rfl, hb5⟩; have hc5 := (bcell hb5).1; have hf5 := (bcell hb5).2; have z5_0 : w.heap.size < w5.heap.size := (by have hzz := hb5.size; (try simp at hzz); omega); have z5_1 : w.heap.size + 1 < w5.heap.size := (by have hzz := hb5.size; (try simp at hzz); omega); have z5_2 : w.heap.size + 1 + 1 < w5.heap.size := (by have hzz := hb5.size; (try simp at hzz); omega); have z5_3 : uw1.heap.size < w5.heap.size := (by have hzz := hb5.size; (try simp at hzz); omega); have K5 : Below w.heap.size w w5 := Below.trans (b := _) (by (repeat' (first | (with_reducible exact Below.refl _ _) | (with_reducible exact KS) | (with_reducible exact KS.size) | (with_reducible refine Below.alloc ?_ ?_ _) | (with_reducible refine Below.setCell ?_ ?_ _) | (with_reducible refine below_drewN ?_ _) | (simp; done) | omega | (simp; omega)))) (hb5.mono (by have hzz := hb5.size; (try simp at hzz); first | omega | (simp; done) | (simp; omega)))))
          refine bodyPost_ret (v := F5 (x, y, p, q, 0)) (by simp [results, Try.results6, go_sem, hc5, hf5, z5_0, Nat.lt_succ_of_lt z5_0, Nat.ne_of_lt z5_0, Nat.ne_of_gt z5_0, z5_1, Nat.lt_succ_of_lt z5_1, Nat.ne_of_lt z5_1, Nat.ne_of_gt z5_1, z5_2, Nat.lt_succ_of_lt z5_2, Nat.ne_of_lt z5_2, Nat.ne_of_gt z5_2, z5_3, Nat.lt_succ_of_lt z5_3, Nat.ne_of_lt z5_3, Nat.ne_of_gt z5_3, r0, r1, r2, r3, fr0, fr1, fr2, fr3, s0, s1, lo0, lo1, lo2, lm, Nat.lt_succ_of_lt lo2, Nat.ne_of_lt lo2, Nat.ne_of_gt lo2]) rfl ⟨rfl, ?_⟩; (repeat' (first | (with_reducible exact Below.refl _ _) | (with_reducible exact K5) | (with_reducible exact K5.size) | (with_reducible exact KS) | (with_reducible exact KS.size) | (with_reducible refine Below.alloc ?_ ?_ _) | (with_reducible refine Below.setCell ?_ ?_ _) | (with_reducible refine below_drewN ?_ _) | (simp; done) | omega | (simp; omega)))
        · rw [if_pos hf] at hr
          subst hr
          clear HRES
          have f1 : (f == 0) = false := by simpa using hf
          have f2 : (f != 0) = true := by simpa using hf
          clear hf
          go_wp2_with (first | (go_at_call 16; (with_reducible refine (TN.out _).mono ?_); rintro e w5 ⟨rfl, hb5⟩; have hc5 := (bcell hb5).1; have hf5 := (bcell hb5).2; have z5_0 : w.heap.size < w5.heap.size := (by have hzz := hb5.size; (try simp at hzz); omega); have z5_1 : w.heap.size + 1 < w5.heap.size := (by have hzz := hb5.size; (try simp at hzz); omega); have z5_2 : w.heap.size + 1 + 1 < w5.heap.size := (by have hzz := hb5.size; (try simp at hzz); omega); have z5_3 : uw1.heap.size < w5.heap.size := (by have hzz := hb5.size; (try simp at hzz); omega); have K5 : Below w.heap.size w w5 := Below.trans (b := _) (by (repeat' (first | (with_reducible exact Below.refl _ _) | (with_reducible exact KS) | (with_reducible exact KS.size) | (with_reducible refine Below.alloc ?_ ?_ _) | (with_reducible refine Below.setCell ?_ ?_ _) | (with_reducible refine below_drewN ?_ _) | (simp; done) | omega | (simp; omega)))) (hb5.mono (by have hzz := hb5.size; (try simp at hzz); first | omega | (simp; done) | (simp; omega)))))
          refine bodyPost_ret (v := F5 (0, 0, 0, 0, f)) (by simp [results, Try.results6, go_sem, hc5, hf5, z5_0, Nat.lt_succ_of_lt z5_0, Nat.ne_of_lt z5_0, Nat.ne_of_gt z5_0, z5_1, Nat.lt_succ_of_lt z5_1, Nat.ne_of_lt z5_1, Nat.ne_of_gt z5_1, z5_2, Nat.lt_succ_of_lt z5_2, Nat.ne_of_lt z5_2, Nat.ne_of_gt z5_2, z5_3, Nat.lt_succ_of_lt z5_3, Nat.ne_of_lt z5_3, Nat.ne_of_gt z5_3, r0, r1, r2, r3, fr0, fr1, fr2, fr3, s0, s1, lo0, lo1, lo2, lm, Nat.lt_succ_of_lt lo2, Nat.ne_of_lt lo2, Nat.ne_of_gt lo2]) rfl ⟨rfl, ?_⟩; (repeat' (first | (with_reducible exact Below.refl _ _) | (with_reducible exact K5) | (with_reducible exact K5.size) | (with_reducible exact KS) | (with_reducible exact KS.size) | (with_reducible refine Below.alloc ?_ ?_ _) | (with_reducible refine Below.setCell ?_ ?_ _) | (with_reducible refine below_drewN ?_ _) | (simp; done) | omega | (simp; omega)))
      · obtain hr := HRES.out
        rw [if_pos he] at hr
        subst hr
        clear HRES
        have f1 : (e == 0) = false := by simpa using he
        have f2 : (e != 0) = true := by simpa using he
        clear he TN
        go_wp2_with fail
        have a0 : ((uw6.setCell ⟨uw1.heap.size, 0, none⟩ (.int .i64 x)).setCell ⟨uw1.heap.size, 1, none⟩ (.int .i64 y)).cell? ⟨w.heap.size, 0, none⟩ = some (.int .i64 n1) := Rg.far ne0 a0
        have a1 : ((uw6.setCell ⟨uw1.heap.size, 0, none⟩ (.int .i64 x)).setCell ⟨uw1.heap.size, 1, none⟩ (.int .i64 y)).cell? ⟨w.heap.size, 1, none⟩ = some (.int .i64 d1) := Rg.far ne0 a1
        have a2 : ((uw6.setCell ⟨uw1.heap.size, 0, none⟩ (.int .i64 x)).setCell ⟨uw1.heap.size, 1, none⟩ (.int .i64 y)).cell? ⟨w.heap.size, 2, none⟩ = some (.int .i64 t1) := Rg.far ne0 a2
        have a3 : ((uw6.setCell ⟨uw1.heap.size, 0, none⟩ (.int .i64 x)).setCell ⟨uw1.heap.size, 1, none⟩ (.int .i64 y)).cell? ⟨w.heap.size, 3, none⟩ = some (.int .i64 u1) := Rg.far ne0 a3
        have b0 : ((uw6.setCell ⟨uw1.heap.size, 0, none⟩ (.int .i64 x)).setCell ⟨uw1.heap.size, 1, none⟩ (.int .i64 y)).cell? ⟨w.heap.size + 1, 0, none⟩ = some (.int .i64 n2) := Rg.far ne1 b0
        have b1 : ((uw6.setCell ⟨uw1.heap.size, 0, none⟩ (.int .i64 x)).setCell ⟨uw1.heap.size, 1, none⟩ (.int .i64 y)).cell? ⟨w.heap.size + 1, 1, none⟩ = some (.int .i64 d2) := Rg.far ne1 b1
        have b2 : ((uw6.setCell ⟨uw1.heap.size, 0, none⟩ (.int .i64 x)).setCell ⟨uw1.heap.size, 1, none⟩ (.int .i64 y)).cell? ⟨w.heap.size + 1, 2, none⟩ = some (.int .i64 t2) := Rg.far ne1 b2
        have b3 : ((uw6.setCell ⟨uw1.heap.size, 0, none⟩ (.int .i64 x)).setCell ⟨uw1.heap.size, 1, none⟩ (.int .i64 y)).cell? ⟨w.heap.size + 1, 3, none⟩ = some (.int .i64 u2) := Rg.far ne1 b3
        have r0 : ((uw6.setCell ⟨uw1.heap.size, 0, none⟩ (.int .i64 x)).setCell ⟨uw1.heap.size, 1, none⟩ (.int .i64 y)).cell? ⟨w.heap.size + 1 + 1, 0, none⟩ = some (.int .i64 0) := Rg.far ne2 r0
        have r1 : ((uw6.setCell ⟨uw1.heap.size, 0, none⟩ (.int .i64 x)).setCell ⟨uw1.heap.size, 1, none⟩ (.int .i64 y)).cell? ⟨w.heap.size + 1 + 1, 1, none⟩ = some (.int .i64 0) := Rg.far ne2 r1
        have r2 : ((uw6.setCell ⟨uw1.heap.size, 0, none⟩ (.int .i64 x)).setCell ⟨uw1.heap.size, 1, none⟩ (.int .i64 y)).cell? ⟨w.heap.size + 1 + 1, 2, none⟩ = some (.int .i64 0) := Rg.far ne2 r2
        have r3 : ((uw6.setCell ⟨uw1.heap.size, 0, none⟩ (.int .i64 x)).setCell ⟨uw1.heap.size, 1, none⟩ (.int .i64 y)).cell? ⟨w.heap.size + 1 + 1, 3, none⟩ = some (.int .i64 0) := Rg.far ne2 r3
        have fr0 : ((uw6.setCell ⟨uw1.heap.size, 0, none⟩ (.int .i64 x)).setCell ⟨uw1.heap.size, 1, none⟩ (.int .i64 y)).frozen? ⟨w.heap.size + 1 + 1, 0, none⟩ = false := by simpa [World.frozen?_setCell] using fr0
        have fr1 : ((uw6.setCell ⟨uw1.heap.size, 0, none⟩ (.int .i64 x)).setCell ⟨uw1.heap.size, 1, none⟩ (.int .i64 y)).frozen? ⟨w.heap.size + 1 + 1, 1, none⟩ = false := by simpa [World.frozen?_setCell] using fr1
        have fr2 : ((uw6.setCell ⟨uw1.heap.size, 0, none⟩ (.int .i64 x)).setCell ⟨uw1.heap.size, 1, none⟩ (.int .i64 y)).frozen? ⟨w.heap.size + 1 + 1, 2, none⟩ = false := by simpa [World.frozen?_setCell] using fr2
        have fr3 : ((uw6.setCell ⟨uw1.heap.size, 0, none⟩ (.int .i64 x)).setCell ⟨uw1.heap.size, 1, none⟩ (.int .i64 y)).frozen? ⟨w.heap.size + 1 + 1, 3, none⟩ = false := by simpa [World.frozen?_setCell] using fr3
        have hst := st2 (x := .int .i64 x) (y := .int .i64 y) m0 m1
        obtain ⟨s0, s1⟩ := hst
        have KS : Below w.heap.size w ((uw6.setCell ⟨uw1.heap.size, 0, none⟩ (.int .i64 x)).setCell ⟨uw1.heap.size, 1, none⟩ (.int .i64 y)) := (Below.setCell (Below.setCell K9 (by dsimp only; omega) _) (by dsimp only; omega) _)
        have lm : uw1.heap.size < ((uw6.setCell ⟨uw1.heap.size, 0, none⟩ (.int .i64 x)).setCell ⟨uw1.heap.size, 1, none⟩ (.int .i64 y)).heap.size := World.block_lt_of_cell? _ _ s0
        have lo0 : w.heap.size < ((uw6.setCell ⟨uw1.heap.size, 0, none⟩ (.int .i64 x)).setCell ⟨uw1.heap.size, 1, none⟩ (.int .i64 y)).heap.size := by simp; omega
        have lo1 : w.heap.size + 1 < ((uw6.setCell ⟨uw1.heap.size, 0, none⟩ (.int .i64 x)).setCell ⟨uw1.heap.size, 1, none⟩ (.int .i64 y)).heap.size := by simp; omega
        have lo2 : w.heap.size + 1 + 1 < ((uw6.setCell ⟨uw1.heap.size, 0, none⟩ (.int .i64 x)).setCell ⟨uw1.heap.size, 1, none⟩ (.int .i64 y)).heap.size := by simp; omega
        clear K9 m0 fm0 m1 fm1
        generalize ((uw6.setCell ⟨uw1.heap.size, 0, none⟩ (.int .i64 x)).setCell ⟨uw1.heap.size, 1, none⟩ (.int .i64 y)) = gs at *
        refine bodyPost_ret (v := F5 (0, 0, 0, 0, e)) (by simp [results, Try.results6, go_sem, r0, r1, r2, r3, fr0, fr1, fr2, fr3, s0, s1, lo0, lo1, lo2, lm, Nat.lt_succ_of_lt lo2, Nat.ne_of_lt lo2, Nat.ne_of_gt lo2, lo2]) rfl ⟨rfl, ?_⟩; (repeat' (first | (with_reducible exact Below.refl _ _) | (with_reducible exact KS) | (with_reducible exact KS.size) | (with_reducible refine Below.alloc ?_ ?_ _) | (with_reducible refine Below.setCell ?_ ?_ _) | (with_reducible refine below_drewN ?_ _) | (simp; done) | omega | (simp; omega)))
  · rw [if_pos (by kernel_rfl)]
    go_simp
    have hNew := HS.out _ _ hHeld ((Below.refl _ _).alloc (Nat.le_refl _) (Obj.cells #[Value.int .i64 0, Value.int .i64 0] 23))
    refine hK.out _ _ hNew (fun _ => ?_)
    replace hHeld := hNew
    clear hNew
    clear hK KK
    refine Rk.one (i := 1) (by kernel_rfl) rfl (fun KK hK => ?_)
    rw [if_pos (by kernel_rfl)]
    go_simp
    (refine (KF.out _).mono ?_; rintro e uw1 ⟨rfl, hb⟩)
    have hNew := HS.out _ _ hHeld hb
    have hs_uw1 : w1.heap.size ≤ uw1.heap.size := by have hzz := hb.size; (try simp at hzz); omega
    have m0 : uw1.cell? ⟨w1.heap.size, 0, none⟩ = some (.int .i64 0) := Rg.keep hb (by simp) (by go_cell)
    have fm0 : uw1.frozen? ⟨w1.heap.size, 0, none⟩ = false := Rg.keepF hb (by simp) (by show (w1.drew.alloc (Obj.cells #[Value.int .i64 0, Value.int .i64 0] 23)).frozen? ⟨w1.drew.heap.size, 0, none⟩ = false; simp only [frozen?_alloc_cells]; exact Rg.notFrozen (Nat.le_refl _))
    have m1 : uw1.cell? ⟨w1.heap.size, 1, none⟩ = some (.int .i64 0) := Rg.keep hb (by simp) (by go_cell)
    have fm1 : uw1.frozen? ⟨w1.heap.size, 1, none⟩ = false := Rg.keepF hb (by simp) (by show (w1.drew.alloc (Obj.cells #[Value.int .i64 0, Value.int .i64 0] 23)).frozen? ⟨w1.drew.heap.size, 1, none⟩ = false; simp only [frozen?_alloc_cells]; exact Rg.notFrozen (Nat.le_refl _))
    first | (refine hK.out _ _ (fun _ => hNew) (fun _ => ?_)) | (refine hK.out _ _ hNew (fun _ => ?_)) | (go_wp2_with fail; refine hK.out _ _ hNew (fun _ => ?_))
    replace hHeld := hNew
    clear hNew hb
    clear hK KK
    refine Rk.one (i := 6) (by kernel_rfl) rfl (fun KK hK => ?_)
    rw [if_pos (by kernel_rfl)]
    go_simp
    (refine (AP.out _).mono ?_; rintro e uw6 ⟨rfl, hb⟩)
    have hNew := HS.out _ _ hHeld hb
    have hs_uw6 : w1.heap.size ≤ uw6.heap.size := by have hzz := hb.size; (try simp at hzz); omega
    have lm : w1.heap.size < uw1.heap.size := World.block_lt_of_cell? _ _ m0
    have fm0 := Rg.keepF hb lm fm0
    have fm1 := Rg.keepF hb lm fm1
    have m0 := Rg.keep hb lm m0
    have m1 := Rg.keep hb lm m1
    clear lm
    first | (refine hK.out _ _ (fun _ => hNew) (fun _ => ?_)) | (refine hK.out _ _ hNew (fun _ => ?_)) | (go_wp2_with fail; refine hK.out _ _ hNew (fun _ => ?_))
    replace hHeld := hNew
    clear hNew hb
    clear hK KK
    refine Rk.takeP (i := 7) (v := ?_) rfl (by kernel_rfl) (by kernel_rfl) (by kernel_rfl) (by kernel_rfl) (fun _ _ _ h => h) (Or.inl ⟨by kernel_rfl, ?_⟩) (by assumption) ?_
    rotate_left
    · ((intro w hSw; go_simp) <;> with_reducible rfl)
    try simp only [Act.put, List.setIfInBounds_toArray, List.set_cons_zero, List.set_cons_succ]
    refine Rk.takeP (i := 8) (v := ?_) rfl (by kernel_rfl) (by kernel_rfl) (by kernel_rfl) (by kernel_rfl) (fun _ _ _ h => h) (Or.inl ⟨by kernel_rfl, ?_⟩) (by assumption) ?_
    rotate_left
    · ((intro w hSw; go_simp) <;> with_reducible rfl)
    try simp only [Act.put, List.setIfInBounds_toArray, List.set_cons_zero, List.set_cons_succ]
    refine Rk.takeP (i := 9) (v := ?_) rfl (by kernel_rfl) (by kernel_rfl) (by kernel_rfl) (by kernel_rfl) (fun _ _ _ h => h) (Or.inl ⟨by kernel_rfl, ?_⟩) (by assumption) ?_
    rotate_left
    · ((intro w hSw; go_simp) <;> with_reducible rfl)
    try simp only [Act.put, List.setIfInBounds_toArray, List.set_cons_zero, List.set_cons_succ]
    refine Rk.tail [11, 12] [_, _] (by kernel_rfl) (by kernel_rfl) rfl (by decide) ?_
    obtain ⟨a0, a1, a2, a3, b0, b1, b2, b3, r0, r1, r2, r3, fr0, fr1, fr2, fr3, K9⟩ := hHeld
    have lm : w1.heap.size < uw6.heap.size := World.block_lt_of_cell? _ _ m0
    have lw : w.heap.size ≤ w1.heap.size := by omega
    have ne0 : w1.heap.size ≠ w.heap.size := by omega
    have ne1 : w1.heap.size ≠ w.heap.size + 1 := by omega
    have ne2 : w1.heap.size ≠ w.heap.size + 1 + 1 := by omega
    have lo0 : w.heap.size < uw6.heap.size := by omega
    have lo1 : w.heap.size + 1 < uw6.heap.size := by omega
    have lo2 : w.heap.size + 1 + 1 < uw6.heap.size := by omega
    by_cases he : e = 0
    · subst he
      replace TN := Lib.hid (TN.out rfl)
      obtain hr := HRES.out
      rw [if_neg (by decide)] at hr
      go_wp2_with fail
      have a0 : ((uw6.setCell ⟨w1.heap.size, 0, none⟩ (.int .i64 x)).setCell ⟨w1.heap.size, 1, none⟩ (.int .i64 y)).cell? ⟨w.heap.size, 0, none⟩ = some (.int .i64 n1) := Rg.far ne0 a0
      have a1 : ((uw6.setCell ⟨w1.heap.size, 0, none⟩ (.int .i64 x)).setCell ⟨w1.heap.size, 1, none⟩ (.int .i64 y)).cell? ⟨w.heap.size, 1, none⟩ = some (.int .i64 d1) := Rg.far ne0 a1
      have a2 : ((uw6.setCell ⟨w1.heap.size, 0, none⟩ (.int .i64 x)).setCell ⟨w1.heap.size, 1, none⟩ (.int .i64 y)).cell? ⟨w.heap.size, 2, none⟩ = some (.int .i64 t1) := Rg.far ne0 a2
      have a3 : ((uw6.setCell ⟨w1.heap.size, 0, none⟩ (.int .i64 x)).setCell ⟨w1.heap.size, 1, none⟩ (.int .i64 y)).cell? ⟨w.heap.size, 3, none⟩ = some (.int .i64 u1) := Rg.far ne0 a3
      have b0 : ((uw6.setCell ⟨w1.heap.size, 0, none⟩ (.int .i64 x)).setCell ⟨w1.heap.size, 1, none⟩ (.int .i64 y)).cell? ⟨w.heap.size + 1, 0, none⟩ = some (.int .i64 n2) := Rg.far ne1 b0
      have b1 : ((uw6.setCell ⟨w1.heap.size, 0, none⟩ (.int .i64 x)).setCell ⟨w1.heap.size, 1, none⟩ (.int .i64 y)).cell? ⟨w.heap.size + 1, 1, none⟩ = some (.int .i64 d2) := Rg.far ne1 b1
      have b2 : ((uw6.setCell ⟨w1.heap.size, 0, none⟩ (.int .i64 x)).setCell ⟨w1.heap.size, 1, none⟩ (.int .i64 y)).cell? ⟨w.heap.size + 1, 2, none⟩ = some (.int .i64 t2) := Rg.far ne1 b2
      have b3 : ((uw6.setCell ⟨w1.heap.size, 0, none⟩ (.int .i64 x)).setCell ⟨w1.heap.size, 1, none⟩ (.int .i64 y)).cell? ⟨w.heap.size + 1, 3, none⟩ = some (.int .i64 u2) := Rg.far ne1 b3
      have r0 : ((uw6.setCell ⟨w1.heap.size, 0, none⟩ (.int .i64 x)).setCell ⟨w1.heap.size, 1, none⟩ (.int .i64 y)).cell? ⟨w.heap.size + 1 + 1, 0, none⟩ = some (.int .i64 0) := Rg.far ne2 r0
      have r1 : ((uw6.setCell ⟨w1.heap.size, 0, none⟩ (.int .i64 x)).setCell ⟨w1.heap.size, 1, none⟩ (.int .i64 y)).cell? ⟨w.heap.size + 1 + 1, 1, none⟩ = some (.int .i64 0) := Rg.far ne2 r1
      have r2 : ((uw6.setCell ⟨w1.heap.size, 0, none⟩ (.int .i64 x)).setCell ⟨w1.heap.size, 1, none⟩ (.int .i64 y)).cell? ⟨w.heap.size + 1 + 1, 2, none⟩ = some (.int .i64 0) := Rg.far ne2 r2
      have r3 : ((uw6.setCell ⟨w1.heap.size, 0, none⟩ (.int .i64 x)).setCell ⟨w1.heap.size, 1, none⟩ (.int .i64 y)).cell? ⟨w.heap.size + 1 + 1, 3, none⟩ = some (.int .i64 0) := Rg.far ne2 r3
      have fr0 : ((uw6.setCell ⟨w1.heap.size, 0, none⟩ (.int .i64 x)).setCell ⟨w1.heap.size, 1, none⟩ (.int .i64 y)).frozen? ⟨w.heap.size + 1 + 1, 0, none⟩ = false := by simpa [World.frozen?_setCell] using fr0
      have fr1 : ((uw6.setCell ⟨w1.heap.size, 0, none⟩ (.int .i64 x)).setCell ⟨w1.heap.size, 1, none⟩ (.int .i64 y)).frozen? ⟨w.heap.size + 1 + 1, 1, none⟩ = false := by simpa [World.frozen?_setCell] using fr1
      have fr2 : ((uw6.setCell ⟨w1.heap.size, 0, none⟩ (.int .i64 x)).setCell ⟨w1.heap.size, 1, none⟩ (.int .i64 y)).frozen? ⟨w.heap.size + 1 + 1, 2, none⟩ = false := by simpa [World.frozen?_setCell] using fr2
      have fr3 : ((uw6.setCell ⟨w1.heap.size, 0, none⟩ (.int .i64 x)).setCell ⟨w1.heap.size, 1, none⟩ (.int .i64 y)).frozen? ⟨w.heap.size + 1 + 1, 3, none⟩ = false := by simpa [World.frozen?_setCell] using fr3
      have hst := st2 (x := .int .i64 x) (y := .int .i64 y) m0 m1
      obtain ⟨s0, s1⟩ := hst
      have KS : Below w.heap.size w ((uw6.setCell ⟨w1.heap.size, 0, none⟩ (.int .i64 x)).setCell ⟨w1.heap.size, 1, none⟩ (.int .i64 y)) := (Below.setCell (Below.setCell K9 (by dsimp only; omega) _) (by dsimp only; omega) _)
      have lm : w1.heap.size < ((uw6.setCell ⟨w1.heap.size, 0, none⟩ (.int .i64 x)).setCell ⟨w1.heap.size, 1, none⟩ (.int .i64 y)).heap.size := World.block_lt_of_cell? _ _ s0
      have lo0 : w.heap.size < ((uw6.setCell ⟨w1.heap.size, 0, none⟩ (.int .i64 x)).setCell ⟨w1.heap.size, 1, none⟩ (.int .i64 y)).heap.size := by simp; omega
      have lo1 : w.heap.size + 1 < ((uw6.setCell ⟨w1.heap.size, 0, none⟩ (.int .i64 x)).setCell ⟨w1.heap.size, 1, none⟩ (.int .i64 y)).heap.size := by simp; omega
      have lo2 : w.heap.size + 1 + 1 < ((uw6.setCell ⟨w1.heap.size, 0, none⟩ (.int .i64 x)).setCell ⟨w1.heap.size, 1, none⟩ (.int .i64 y)).heap.size := by simp; omega
      clear K9 m0 fm0 m1 fm1
      generalize ((uw6.setCell ⟨w1.heap.size, 0, none⟩ (.int .i64 x)).setCell ⟨w1.heap.size, 1, none⟩ (.int .i64 y)) = gs at *
      by_cases hf : f = 0
      · subst hf
        rw [if_neg (by decide)] at hr
        subst hr
        clear HRES
        go_wp2_with (first | (go_at_call 16; (with_reducible refine (TN.out _).mono ?_); rintro e w5 ⟨rfl, hb5⟩; have hc5 := (bcell hb5).1; have hf5 := (bcell hb5).2; have z5_0 : w.heap.size < w5.heap.size := (by have hzz := hb5.size; (try simp at hzz); omega); have z5_1 : w.heap.size + 1 < w5.heap.size := (by have hzz := hb5.size; (try simp at hzz); omega); have z5_2 : w.heap.size + 1 + 1 < w5.heap.size := (by have hzz := hb5.size; (try simp at hzz); omega); have z5_3 : w1.heap.size < w5.heap.size := (by have hzz := hb5.size; (try simp at hzz); omega); have K5 : Below w.heap.size w w5 := Below.trans (b := _) (by (repeat' (first | (with_reducible exact Below.refl _ _) | (with_reducible exact KS) | (with_reducible exact KS.size) | (with_reducible refine Below.alloc ?_ ?_ _) | (with_reducible refine Below.setCell ?_ ?_ _) | (with_reducible refine below_drewN ?_ _) | (simp; done) | omega | (simp; omega)))) (hb5.mono (by have hzz := hb5.size; (try simp at hzz); first | omega | (simp; done) | (simp; omega)))))
        refine bodyPost_ret (v := F5 (x, y, p, q, 0)) (by simp [results, Try.results6, go_sem, hc5, hf5, z5_0, Nat.lt_succ_of_lt z5_0, Nat.ne_of_lt z5_0, Nat.ne_of_gt z5_0, z5_1, Nat.lt_succ_of_lt z5_1, Nat.ne_of_lt z5_1, Nat.ne_of_gt z5_1, z5_2, Nat.lt_succ_of_lt z5_2, Nat.ne_of_lt z5_2, Nat.ne_of_gt z5_2, z5_3, Nat.lt_succ_of_lt z5_3, Nat.ne_of_lt z5_3, Nat.ne_of_gt z5_3, r0, r1, r2, r3, fr0, fr1, fr2, fr3, s0, s1, lo0, lo1, lo2, lm, Nat.lt_succ_of_lt lo2, Nat.ne_of_lt lo2, Nat.ne_of_gt lo2]) rfl ⟨rfl, ?_⟩; (repeat' (first | (with_reducible exact Below.refl _ _) | (with_reducible exact K5) | (with_reducible exact K5.size) | (with_reducible exact KS) | (with_reducible exact KS.size) | (with_reducible refine Below.alloc ?_ ?_ _) | (with_reducible refine Below.setCell ?_ ?_ _) | (with_reducible refine below_drewN ?_ _) | (simp; done) | omega | (simp; omega)))
      · rw [if_pos hf] at hr
        subst hr
        clear HRES
        have f1 : (f == 0) = false := by simpa using hf
        have f2 : (f != 0) = true := by simpa using hf
        clear hf
        go_wp2_with (first | (go_at_call 16; (with_reducible refine (TN.out _).mono ?_); rintro e w5 ⟨rfl, hb5⟩; have hc5 := (bcell hb5).1; have hf5 := (bcell hb5).2; have z5_0 : w.heap.size < w5.heap.size := (by have hzz := hb5.size; (try simp at hzz); omega); have z5_1 : w.heap.size + 1 < w5.heap.size := (by have hzz := hb5.size; (try simp at hzz); omega); have z5_2 : w.heap.size + 1 + 1 < w5.heap.size := (by have hzz := hb5.size; (try simp at hzz); omega); have z5_3 : w1.heap.size < w5.heap.size := (by have hzz := hb5.size; (try simp at hzz); omega); have K5 : Below w.heap.size w w5 := Below.trans (b := _) (by (repeat' (first | (with_reducible exact Below.refl _ _) | (with_reducible exact KS) | (with_reducible exact KS.size) | (with_reducible refine Below.alloc ?_ ?_ _) | (with_reducible refine Below.setCell ?_ ?_ _) | (with_reducible refine below_drewN ?_ _) | (simp; done) | omega | (simp; omega)))) (hb5.mono (by have hzz := hb5.size; (try simp at hzz); first | omega | (simp; done) | (simp; omega)))))
        refine bodyPost_ret (v := F5 (0, 0, 0, 0, f)) (by simp [results, Try.results6, go_sem, hc5, hf5, z5_0, Nat.lt_succ_of_lt z5_0, Nat.ne_of_lt z5_0, Nat.ne_of_gt z5_0, z5_1, Nat.lt_succ_of_lt z5_1, Nat.ne_of_lt z5_1, Nat.ne_of_gt z5_1, z5_2, Nat.lt_succ_of_lt z5_2, Nat.ne_of_lt z5_2, Nat.ne_of_gt z5_2, z5_3, Nat.lt_succ_of_lt z5_3, Nat.ne_of_lt z5_3, Nat.ne_of_gt z5_3, r0, r1, r2, r3, fr0, fr1, fr2, fr3, s0, s1, lo0, lo1, lo2, lm, Nat.lt_succ_of_lt lo2, Nat.ne_of_lt lo2, Nat.ne_of_gt lo2]) rfl ⟨rfl, ?_⟩; (repeat' (first | (with_reducible exact Below.refl _ _) | (with_reducible exact K5) | (with_reducible exact K5.size) | (with_reducible exact KS) | (with_reducible exact KS.size) | (with_reducible refine Below.alloc ?_ ?_ _) | (with_reducible refine Below.setCell ?_ ?_ _) | (with_reducible refine below_drewN ?_ _) | (simp; done) | omega | (simp; omega)))
    · obtain hr := HRES.out
      rw [if_pos he] at hr
      subst hr
      clear HRES
      have f1 : (e == 0) = false := by simpa using he
      have f2 : (e != 0) = true := by simpa using he
      clear he TN
      go_wp2_with fail
      have a0 : ((uw6.setCell ⟨w1.heap.size, 0, none⟩ (.int .i64 x)).setCell ⟨w1.heap.size, 1, none⟩ (.int .i64 y)).cell? ⟨w.heap.size, 0, none⟩ = some (.int .i64 n1) := Rg.far ne0 a0
      have a1 : ((uw6.setCell ⟨w1.heap.size, 0, none⟩ (.int .i64 x)).setCell ⟨w1.heap.size, 1, none⟩ (.int .i64 y)).cell? ⟨w.heap.size, 1, none⟩ = some (.int .i64 d1) := Rg.far ne0 a1
      have a2 : ((uw6.setCell ⟨w1.heap.size, 0, none⟩ (.int .i64 x)).setCell ⟨w1.heap.size, 1, none⟩ (.int .i64 y)).cell? ⟨w.heap.size, 2, none⟩ = some (.int .i64 t1) := Rg.far ne0 a2
      have a3 : ((uw6.setCell ⟨w1.heap.size, 0, none⟩ (.int .i64 x)).setCell ⟨w1.heap.size, 1, none⟩ (.int .i64 y)).cell? ⟨w.heap.size, 3, none⟩ = some (.int .i64 u1) := Rg.far ne0 a3
      have b0 : ((uw6.setCell ⟨w1.heap.size, 0, none⟩ (.int .i64 x)).setCell ⟨w1.heap.size, 1, none⟩ (.int .i64 y)).cell? ⟨w.heap.size + 1, 0, none⟩ = some (.int .i64 n2) := Rg.far ne1 b0
      have b1 : ((uw6.setCell ⟨w1.heap.size, 0, none⟩ (.int .i64 x)).setCell ⟨w1.heap.size, 1, none⟩ (.int .i64 y)).cell? ⟨w.heap.size + 1, 1, none⟩ = some (.int .i64 d2) := Rg.far ne1 b1
      have b2 : ((uw6.setCell ⟨w1.heap.size, 0, none⟩ (.int .i64 x)).setCell ⟨w1.heap.size, 1, none⟩ (.int .i64 y)).cell? ⟨w.heap.size + 1, 2, none⟩ = some (.int .i64 t2) := Rg.far ne1 b2
      have b3 : ((uw6.setCell ⟨w1.heap.size, 0, none⟩ (.int .i64 x)).setCell ⟨w1.heap.size, 1, none⟩ (.int .i64 y)).cell? ⟨w.heap.size + 1, 3, none⟩ = some (.int .i64 u2) := Rg.far ne1 b3
      have r0 : ((uw6.setCell ⟨w1.heap.size, 0, none⟩ (.int .i64 x)).setCell ⟨w1.heap.size, 1, none⟩ (.int .i64 y)).cell? ⟨w.heap.size + 1 + 1, 0, none⟩ = some (.int .i64 0) := Rg.far ne2 r0
      have r1 : ((uw6.setCell ⟨w1.heap.size, 0, none⟩ (.int .i64 x)).setCell ⟨w1.heap.size, 1, none⟩ (.int .i64 y)).cell? ⟨w.heap.size + 1 + 1, 1, none⟩ = some (.int .i64 0) := Rg.far ne2 r1
      have r2 : ((uw6.setCell ⟨w1.heap.size, 0, none⟩ (.int .i64 x)).setCell ⟨w1.heap.size, 1, none⟩ (.int .i64 y)).cell? ⟨w.heap.size + 1 + 1, 2, none⟩ = some (.int .i64 0) := Rg.far ne2 r2
      have r3 : ((uw6.setCell ⟨w1.heap.size, 0, none⟩ (.int .i64 x)).setCell ⟨w1.heap.size, 1, none⟩ (.int .i64 y)).cell? ⟨w.heap.size + 1 + 1, 3, none⟩ = some (.int .i64 0) := Rg.far ne2 r3
      have fr0 : ((uw6.setCell ⟨w1.heap.size, 0, none⟩ (.int .i64 x)).setCell ⟨w1.heap.size, 1, none⟩ (.int .i64 y)).frozen? ⟨w.heap.size + 1 + 1, 0, none⟩ = false := by simpa [World.frozen?_setCell] using fr0
      have fr1 : ((uw6.setCell ⟨w1.heap.size, 0, none⟩ (.int .i64 x)).setCell ⟨w1.heap.size, 1, none⟩ (.int .i64 y)).frozen? ⟨w.heap.size + 1 + 1, 1, none⟩ = false := by simpa [World.frozen?_setCell] using fr1
      have fr2 : ((uw6.setCell ⟨w1.heap.size, 0, none⟩ (.int .i64 x)).setCell ⟨w1.heap.size, 1, none⟩ (.int .i64 y)).frozen? ⟨w.heap.size + 1 + 1, 2, none⟩ = false := by simpa [World.frozen?_setCell] using fr2
      have fr3 : ((uw6.setCell ⟨w1.heap.size, 0, none⟩ (.int .i64 x)).setCell ⟨w1.heap.size, 1, none⟩ (.int .i64 y)).frozen? ⟨w.heap.size + 1 + 1, 3, none⟩ = false := by simpa [World.frozen?_setCell] using fr3
      have hst := st2 (x := .int .i64 x) (y := .int .i64 y) m0 m1
      obtain ⟨s0, s1⟩ := hst
      have KS : Below w.heap.size w ((uw6.setCell ⟨w1.heap.size, 0, none⟩ (.int .i64 x)).setCell ⟨w1.heap.size, 1, none⟩ (.int .i64 y)) := (Below.setCell (Below.setCell K9 (by dsimp only; omega) _) (by dsimp only; omega) _)
      have lm : w1.heap.size < ((uw6.setCell ⟨w1.heap.size, 0, none⟩ (.int .i64 x)).setCell ⟨w1.heap.size, 1, none⟩ (.int .i64 y)).heap.size := World.block_lt_of_cell? _ _ s0
      have lo0 : w.heap.size < ((uw6.setCell ⟨w1.heap.size, 0, none⟩ (.int .i64 x)).setCell ⟨w1.heap.size, 1, none⟩ (.int .i64 y)).heap.size := by simp; omega
      have lo1 : w.heap.size + 1 < ((uw6.setCell ⟨w1.heap.size, 0, none⟩ (.int .i64 x)).setCell ⟨w1.heap.size, 1, none⟩ (.int .i64 y)).heap.size := by simp; omega
      have lo2 : w.heap.size + 1 + 1 < ((uw6.setCell ⟨w1.heap.size, 0, none⟩ (.int .i64 x)).setCell ⟨w1.heap.size, 1, none⟩ (.int .i64 y)).heap.size := by simp; omega
      clear K9 m0 fm0 m1 fm1
      generalize ((uw6.setCell ⟨w1.heap.size, 0, none⟩ (.int .i64 x)).setCell ⟨w1.heap.size, 1, none⟩ (.int .i64 y)) = gs at *
      refine bodyPost_ret (v := F5 (0, 0, 0, 0, e)) (by simp [results, Try.results6, go_sem, r0, r1, r2, r3, fr0, fr1, fr2, fr3, s0, s1, lo0, lo1, lo2, lm, Nat.lt_succ_of_lt lo2, Nat.ne_of_lt lo2, Nat.ne_of_gt lo2, lo2]) rfl ⟨rfl, ?_⟩; (repeat' (first | (with_reducible exact Below.refl _ _) | (with_reducible exact KS) | (with_reducible exact KS.size) | (with_reducible refine Below.alloc ?_ ?_ _) | (with_reducible refine Below.setCell ?_ ?_ _) | (with_reducible refine below_drewN ?_ _) | (simp; done) | omega | (simp; omega)))
end Go.Proofs.Ythkhlhibhkdkkaa.Va
