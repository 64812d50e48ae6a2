/- Sum of package frac at one half, one third and one sixth. -/
import Derived.Test.YtnmjenpeiafnkaaDoorOps
namespace Go.Proofs.YtnmjenpeiafnkaaDoor.Fr
open Go.ChangeShapes Go.WideShapes Go.ChangeAt Go.RowKit
set_option linter.unusedVariables false

theorem add_val {n1 d1 n2 d2 n d : Int} (h : both n1 d1 n2 d2 = true) {a b c : Int} (hA : n1 * d2 = a) (hB : n2 * d1 = b) (hC : d1 * d2 = c) (p0 : -1000 ≤ a) (p1 : a ≤ 1000) (q0 : -1000 ≤ b) (q1 : b ≤ 1000) (r0 : -1000 ≤ c) (r1 : c ≤ 1000)
    (e1 : newN (a + b) c = n) (e2 : newD (a + b) c = d) (e3 : newE (a + b) c = 0) (w : World) :
    Calls Tryd.prog 17 #[.agg #[.int .i64 n1, .int .i64 d1], .agg #[.int .i64 n2, .int .i64 d2]] w (Ret (Frac3 n d 0) w) := by
  have := add_ok n1 d1 n2 d2 w h hA hB hC (by omega) (by omega) (by omega) (by omega) (by omega) (by omega)
  rw [e1, e2, e3] at this
  exact this
theorem sumcells {w w1 : World} {b : Nat} (hb : b < w.heap.size) (s0 : w.cell? ⟨b, 0, none⟩ = some (.int .i64 1)) (s1 : w.cell? ⟨b, 1, none⟩ = some (.int .i64 2)) (s2 : w.cell? ⟨b, 2, none⟩ = some (.int .i64 1)) (s3 : w.cell? ⟨b, 3, none⟩ = some (.int .i64 3)) (s4 : w.cell? ⟨b, 4, none⟩ = some (.int .i64 1)) (s5 : w.cell? ⟨b, 5, none⟩ = some (.int .i64 6))
    (h : Below (w.heap.size + 1) (w.alloc (.cells #[.int .i64 0, .int .i64 0] 23)) w1) :
    w1.cell? ⟨b, 0, none⟩ = some (.int .i64 1) ∧ w1.cell? ⟨b, 1, none⟩ = some (.int .i64 2) ∧ w1.cell? ⟨b, 2, none⟩ = some (.int .i64 1) ∧ w1.cell? ⟨b, 3, none⟩ = some (.int .i64 3) ∧ w1.cell? ⟨b, 4, none⟩ = some (.int .i64 1) ∧ w1.cell? ⟨b, 5, none⟩ = some (.int .i64 6) ∧
    w1.cell? ⟨w.heap.size, 0, none⟩ = some (.int .i64 0) ∧ w1.cell? ⟨w.heap.size, 1, none⟩ = some (.int .i64 0) ∧ w1.frozen? ⟨w.heap.size, 0, none⟩ = false ∧ w1.frozen? ⟨w.heap.size, 1, none⟩ = false ∧ w.heap.size + 1 ≤ w1.heap.size := by
  have s := h.size
  simp at s
  have hbb : b < w.heap.size + 1 := by omega
  refine ⟨?_, ?_, ?_, ?_, ?_, ?_, ?_, ?_, ?_, ?_, by omega⟩
  · rw [h.cell (p := ⟨b, 0, none⟩) hbb]; exact Go.Lib.cell?_alloc_some _ s0
  · rw [h.cell (p := ⟨b, 1, none⟩) hbb]; exact Go.Lib.cell?_alloc_some _ s1
  · rw [h.cell (p := ⟨b, 2, none⟩) hbb]; exact Go.Lib.cell?_alloc_some _ s2
  · rw [h.cell (p := ⟨b, 3, none⟩) hbb]; exact Go.Lib.cell?_alloc_some _ s3
  · rw [h.cell (p := ⟨b, 4, none⟩) hbb]; exact Go.Lib.cell?_alloc_some _ s4
  · rw [h.cell (p := ⟨b, 5, none⟩) hbb]; exact Go.Lib.cell?_alloc_some _ s5
  · rw [h.cell (p := ⟨w.heap.size, 0, none⟩) (show w.heap.size < w.heap.size + 1 by omega)]; go_cell
  · rw [h.cell (p := ⟨w.heap.size, 1, none⟩) (show w.heap.size < w.heap.size + 1 by omega)]; go_cell
  · rw [h.frozen (p := ⟨w.heap.size, 0, none⟩) (show w.heap.size < w.heap.size + 1 by omega)]; go_cell
  · rw [h.frozen (p := ⟨w.heap.size, 1, none⟩) (show w.heap.size < w.heap.size + 1 by omega)]; go_cell
set_option maxHeartbeats 8000000 in
theorem sum3 (w : World) (b : Nat) (hb : b < w.heap.size) (s0 : w.cell? ⟨b, 0, none⟩ = some (.int .i64 1)) (s1 : w.cell? ⟨b, 1, none⟩ = some (.int .i64 2)) (s2 : w.cell? ⟨b, 2, none⟩ = some (.int .i64 1)) (s3 : w.cell? ⟨b, 3, none⟩ = some (.int .i64 3)) (s4 : w.cell? ⟨b, 4, none⟩ = some (.int .i64 1)) (s5 : w.cell? ⟨b, 5, none⟩ = some (.int .i64 6)) :
    Calls Tryd.prog 33 #[.slice (some ⟨b, 0, none⟩) 3 3] w (Ret (Frac3 1 1 0) w) := by
  have V1 := Lib.hid (fun w => show Calls Tryd.prog 14 #[.agg #[.int .i64 1, .int .i64 2]] w (Ret (.bool true) w) from valid_any 1 2 w)
  have V2 := Lib.hid (fun w => show Calls Tryd.prog 14 #[.agg #[.int .i64 1, .int .i64 3]] w (Ret (.bool true) w) from valid_any 1 3 w)
  have V3 := Lib.hid (fun w => show Calls Tryd.prog 14 #[.agg #[.int .i64 1, .int .i64 6]] w (Ret (.bool true) w) from valid_any 1 6 w)
  have A1 := Lib.hid (fun w => add_val (n1 := 0) (d1 := 1) (n2 := 1) (d2 := 2) (n := 1) (d := 2) rfl rfl rfl rfl (by decide) (by decide) (by decide) (by decide) (by decide) (by decide) rfl rfl rfl w)
  have A2 := Lib.hid (fun w => add_val (n1 := 1) (d1 := 2) (n2 := 1) (d2 := 3) (n := 5) (d := 6) rfl rfl rfl rfl (by decide) (by decide) (by decide) (by decide) (by decide) (by decide) rfl rfl rfl w)
  have A3 := Lib.hid (fun w => add_val (n1 := 5) (d1 := 6) (n2 := 1) (d2 := 6) (n := 1) (d := 1) rfl rfl rfl rfl (by decide) (by decide) (by decide) (by decide) (by decide) (by decide) rfl rfl rfl w)
  have SC : Hid (∀ w1, Below (w.heap.size + 1) (w.alloc (.cells #[.int .i64 0, .int .i64 0] 23)) w1 → _) := Lib.hid (fun w1 h => sumcells hb s0 s1 s2 s3 s4 s5 h)
  go_enter Tryd.func33, Tryd.ntmps33
  go_wp2_with fail
  refine wp_loop_rounds 4 ?_
  rw [rounds_succ]
  go_wp2_with fail
  refine (V1.out _).mono ?_
  rintro e v1 ⟨rfl, hv1⟩
  have B1 : Below (w.heap.size + 1) (w.alloc (.cells #[.int .i64 0, .int .i64 0] 23)) v1 := (((Below.refl _ _).alloc (by simp) _).trans (hv1.mono (by simp)))
  obtain ⟨c0, c1, c2, c3, c4, c5, r0, r1, f0, f1, z1⟩ := SC.out _ B1
  go_wp2_with fail
  rw [rounds_succ]
  go_wp2_with fail
  refine (V2.out _).mono ?_
  rintro e v2 ⟨rfl, hv2⟩
  have B2 : Below (w.heap.size + 1) (w.alloc (.cells #[.int .i64 0, .int .i64 0] 23)) v2 := B1.trans (((Below.refl _ _).alloc z1 _).trans (hv2.mono (by have := z1; simp; omega)))
  clear c0 c1 c2 c3 c4 c5 r0 r1 f0 f1
  obtain ⟨c0, c1, c2, c3, c4, c5, r0, r1, f0, f1, z2⟩ := SC.out _ B2
  go_wp2_with fail
  rw [rounds_succ]
  go_wp2_with fail
  refine (V3.out _).mono ?_
  rintro e v3 ⟨rfl, hv3⟩
  have B3 : Below (w.heap.size + 1) (w.alloc (.cells #[.int .i64 0, .int .i64 0] 23)) v3 := B2.trans (((Below.refl _ _).alloc z2 _).trans (hv3.mono (by have := z2; simp; omega)))
  clear c0 c1 c2 c3 c4 c5 r0 r1 f0 f1
  obtain ⟨c0, c1, c2, c3, c4, c5, r0, r1, f0, f1, z3⟩ := SC.out _ B3
  go_wp2_with fail
  rw [rounds_succ]
  go_wp2_with fail
  have E0 : Below (w.heap.size + 1) (w.alloc (.cells #[.int .i64 0, .int .i64 0] 23)) (v3.alloc (.cells #[.int .i64 0, .int .i64 1] 23)) := B3.alloc z3 _
  have t0 : (v3.alloc (.cells #[.int .i64 0, .int .i64 1] 23)).cell? ⟨v3.heap.size, 0, none⟩ = some (.int .i64 0) := by go_cell
  have t1 : (v3.alloc (.cells #[.int .i64 0, .int .i64 1] 23)).cell? ⟨v3.heap.size, 1, none⟩ = some (.int .i64 1) := by go_cell
  have g0 : (v3.alloc (.cells #[.int .i64 0, .int .i64 1] 23)).frozen? ⟨v3.heap.size, 0, none⟩ = false := by go_cell
  have g1 : (v3.alloc (.cells #[.int .i64 0, .int .i64 1] 23)).frozen? ⟨v3.heap.size, 1, none⟩ = false := by go_cell
  have ez : v3.heap.size + 1 ≤ (v3.alloc (.cells #[.int .i64 0, .int .i64 1] 23)).heap.size := by simp
  clear c0 c1 c2 c3 c4 c5 r0 r1 f0 f1 B1 B2 B3 hv1 hv2 hv3
  obtain ⟨c0, c1, c2, c3, c4, c5, r0, r1, f0, f1, zz⟩ := SC.out _ E0
  generalize v3.alloc (.cells #[.int .i64 0, .int .i64 1] 23) = y0 at *
  generalize v3.heap.size = T at *
  refine wp_loop_rounds 4 ?_
  rw [rounds_succ]
  have lt0 : T < y0.heap.size := ez
  have ne0 : ¬ T = y0.heap.size := by omega
  have ne1 : ¬ y0.heap.size = T := by omega
  go_wp2_with fail
  refine (A1.out _).mono ?_
  rintro e u1 ⟨rfl, hu⟩
  have hy : Below y0.heap.size y0 u1 := ((Below.refl _ _).alloc (Nat.le_refl _) _).trans (hu.mono (by simp))
  have D : Below (w.heap.size + 1) (w.alloc (.cells #[.int .i64 0, .int .i64 0] 23)) u1 := E0.trans (hy.mono zz)
  have a0 := (hy.cell (p := ⟨T, 0, none⟩) ez).trans t0
  have a1 := (hy.cell (p := ⟨T, 1, none⟩) ez).trans t1
  have b0 := (hy.frozen (p := ⟨T, 0, none⟩) ez).trans g0
  have b1 := (hy.frozen (p := ⟨T, 1, none⟩) ez).trans g1
  have eu : T + 1 ≤ u1.heap.size := Nat.le_trans ez hy.size
  clear c0 c1 c2 c3 c4 c5 r0 r1 f0 f1 t0 t1 g0 g1 zz ez hy hu E0 lt0 ne0 ne1
  have lt0 : T < u1.heap.size := eu
  have ne0 : ¬ T = u1.heap.size := by omega
  have ne1 : ¬ u1.heap.size = T := by omega
  go_wp2_with fail
  have E1 : Below (w.heap.size + 1) (w.alloc (.cells #[.int .i64 0, .int .i64 0] 23)) (((u1.setCell ⟨T, 0, none⟩ (.int .i64 1)).setCell ⟨T, 1, none⟩ (.int .i64 2)).alloc (.cells #[.int .i64 1, .int .i64 2] 23)) := ((D.setCell (show w.heap.size + 1 ≤ T by omega) _).setCell (show w.heap.size + 1 ≤ T by omega) _).alloc (by simp; omega) _
  have t0 : (((u1.setCell ⟨T, 0, none⟩ (.int .i64 1)).setCell ⟨T, 1, none⟩ (.int .i64 2)).alloc (.cells #[.int .i64 1, .int .i64 2] 23)).cell? ⟨T, 0, none⟩ = some (.int .i64 1) := by go_cell
  have t1 : (((u1.setCell ⟨T, 0, none⟩ (.int .i64 1)).setCell ⟨T, 1, none⟩ (.int .i64 2)).alloc (.cells #[.int .i64 1, .int .i64 2] 23)).cell? ⟨T, 1, none⟩ = some (.int .i64 2) := by go_cell
  have g0 : (((u1.setCell ⟨T, 0, none⟩ (.int .i64 1)).setCell ⟨T, 1, none⟩ (.int .i64 2)).alloc (.cells #[.int .i64 1, .int .i64 2] 23)).frozen? ⟨T, 0, none⟩ = false := by go_cell
  have g1 : (((u1.setCell ⟨T, 0, none⟩ (.int .i64 1)).setCell ⟨T, 1, none⟩ (.int .i64 2)).alloc (.cells #[.int .i64 1, .int .i64 2] 23)).frozen? ⟨T, 1, none⟩ = false := by go_cell
  have ez : T + 1 ≤ (((u1.setCell ⟨T, 0, none⟩ (.int .i64 1)).setCell ⟨T, 1, none⟩ (.int .i64 2)).alloc (.cells #[.int .i64 1, .int .i64 2] 23)).heap.size := by simp; omega
  clear a0 a1 b0 b1 D eu lt0 ne0 ne1
  obtain ⟨c0, c1, c2, c3, c4, c5, r0, r1, f0, f1, zz⟩ := SC.out _ E1
  generalize (((u1.setCell ⟨T, 0, none⟩ (.int .i64 1)).setCell ⟨T, 1, none⟩ (.int .i64 2)).alloc (.cells #[.int .i64 1, .int .i64 2] 23)) = y1 at *
  rw [rounds_succ]
  have lt0 : T < y1.heap.size := ez
  have ne0 : ¬ T = y1.heap.size := by omega
  have ne1 : ¬ y1.heap.size = T := by omega
  go_wp2_with fail
  refine (A2.out _).mono ?_
  rintro e u2 ⟨rfl, hu⟩
  have hy : Below y1.heap.size y1 u2 := ((Below.refl _ _).alloc (Nat.le_refl _) _).trans (hu.mono (by simp))
  have D : Below (w.heap.size + 1) (w.alloc (.cells #[.int .i64 0, .int .i64 0] 23)) u2 := E1.trans (hy.mono zz)
  have a0 := (hy.cell (p := ⟨T, 0, none⟩) ez).trans t0
  have a1 := (hy.cell (p := ⟨T, 1, none⟩) ez).trans t1
  have b0 := (hy.frozen (p := ⟨T, 0, none⟩) ez).trans g0
  have b1 := (hy.frozen (p := ⟨T, 1, none⟩) ez).trans g1
  have eu : T + 1 ≤ u2.heap.size := Nat.le_trans ez hy.size
  clear c0 c1 c2 c3 c4 c5 r0 r1 f0 f1 t0 t1 g0 g1 zz ez hy hu E1 lt0 ne0 ne1
  have lt0 : T < u2.heap.size := eu
  have ne0 : ¬ T = u2.heap.size := by omega
  have ne1 : ¬ u2.heap.size = T := by omega
  go_wp2_with fail
  have E2 : Below (w.heap.size + 1) (w.alloc (.cells #[.int .i64 0, .int .i64 0] 23)) (((u2.setCell ⟨T, 0, none⟩ (.int .i64 5)).setCell ⟨T, 1, none⟩ (.int .i64 6)).alloc (.cells #[.int .i64 5, .int .i64 6] 23)) := ((D.setCell (show w.heap.size + 1 ≤ T by omega) _).setCell (show w.heap.size + 1 ≤ T by omega) _).alloc (by simp; omega) _
  have t0 : (((u2.setCell ⟨T, 0, none⟩ (.int .i64 5)).setCell ⟨T, 1, none⟩ (.int .i64 6)).alloc (.cells #[.int .i64 5, .int .i64 6] 23)).cell? ⟨T, 0, none⟩ = some (.int .i64 5) := by go_cell
  have t1 : (((u2.setCell ⟨T, 0, none⟩ (.int .i64 5)).setCell ⟨T, 1, none⟩ (.int .i64 6)).alloc (.cells #[.int .i64 5, .int .i64 6] 23)).cell? ⟨T, 1, none⟩ = some (.int .i64 6) := by go_cell
  have g0 : (((u2.setCell ⟨T, 0, none⟩ (.int .i64 5)).setCell ⟨T, 1, none⟩ (.int .i64 6)).alloc (.cells #[.int .i64 5, .int .i64 6] 23)).frozen? ⟨T, 0, none⟩ = false := by go_cell
  have g1 : (((u2.setCell ⟨T, 0, none⟩ (.int .i64 5)).setCell ⟨T, 1, none⟩ (.int .i64 6)).alloc (.cells #[.int .i64 5, .int .i64 6] 23)).frozen? ⟨T, 1, none⟩ = false := by go_cell
  have ez : T + 1 ≤ (((u2.setCell ⟨T, 0, none⟩ (.int .i64 5)).setCell ⟨T, 1, none⟩ (.int .i64 6)).alloc (.cells #[.int .i64 5, .int .i64 6] 23)).heap.size := by simp; omega
  clear a0 a1 b0 b1 D eu lt0 ne0 ne1
  obtain ⟨c0, c1, c2, c3, c4, c5, r0, r1, f0, f1, zz⟩ := SC.out _ E2
  generalize (((u2.setCell ⟨T, 0, none⟩ (.int .i64 5)).setCell ⟨T, 1, none⟩ (.int .i64 6)).alloc (.cells #[.int .i64 5, .int .i64 6] 23)) = y2 at *
  rw [rounds_succ]
  have lt0 : T < y2.heap.size := ez
  have ne0 : ¬ T = y2.heap.size := by omega
  have ne1 : ¬ y2.heap.size = T := by omega
  go_wp2_with fail
  refine (A3.out _).mono ?_
  rintro e u3 ⟨rfl, hu⟩
  have hy : Below y2.heap.size y2 u3 := ((Below.refl _ _).alloc (Nat.le_refl _) _).trans (hu.mono (by simp))
  have D : Below (w.heap.size + 1) (w.alloc (.cells #[.int .i64 0, .int .i64 0] 23)) u3 := E2.trans (hy.mono zz)
  have a0 := (hy.cell (p := ⟨T, 0, none⟩) ez).trans t0
  have a1 := (hy.cell (p := ⟨T, 1, none⟩) ez).trans t1
  have b0 := (hy.frozen (p := ⟨T, 0, none⟩) ez).trans g0
  have b1 := (hy.frozen (p := ⟨T, 1, none⟩) ez).trans g1
  have eu : T + 1 ≤ u3.heap.size := Nat.le_trans ez hy.size
  clear c0 c1 c2 c3 c4 c5 r0 r1 f0 f1 t0 t1 g0 g1 zz ez hy hu E2 lt0 ne0 ne1
  have lt0 : T < u3.heap.size := eu
  have ne0 : ¬ T = u3.heap.size := by omega
  have ne1 : ¬ u3.heap.size = T := by omega
  go_wp2_with fail
  have E3 : Below (w.heap.size + 1) (w.alloc (.cells #[.int .i64 0, .int .i64 0] 23)) (((u3.setCell ⟨T, 0, none⟩ (.int .i64 1)).setCell ⟨T, 1, none⟩ (.int .i64 1)).alloc (.cells #[.int .i64 1, .int .i64 1] 23)) := ((D.setCell (show w.heap.size + 1 ≤ T by omega) _).setCell (show w.heap.size + 1 ≤ T by omega) _).alloc (by simp; omega) _
  have t0 : (((u3.setCell ⟨T, 0, none⟩ (.int .i64 1)).setCell ⟨T, 1, none⟩ (.int .i64 1)).alloc (.cells #[.int .i64 1, .int .i64 1] 23)).cell? ⟨T, 0, none⟩ = some (.int .i64 1) := by go_cell
  have t1 : (((u3.setCell ⟨T, 0, none⟩ (.int .i64 1)).setCell ⟨T, 1, none⟩ (.int .i64 1)).alloc (.cells #[.int .i64 1, .int .i64 1] 23)).cell? ⟨T, 1, none⟩ = some (.int .i64 1) := by go_cell
  have g0 : (((u3.setCell ⟨T, 0, none⟩ (.int .i64 1)).setCell ⟨T, 1, none⟩ (.int .i64 1)).alloc (.cells #[.int .i64 1, .int .i64 1] 23)).frozen? ⟨T, 0, none⟩ = false := by go_cell
  have g1 : (((u3.setCell ⟨T, 0, none⟩ (.int .i64 1)).setCell ⟨T, 1, none⟩ (.int .i64 1)).alloc (.cells #[.int .i64 1, .int .i64 1] 23)).frozen? ⟨T, 1, none⟩ = false := by go_cell
  have ez : T + 1 ≤ (((u3.setCell ⟨T, 0, none⟩ (.int .i64 1)).setCell ⟨T, 1, none⟩ (.int .i64 1)).alloc (.cells #[.int .i64 1, .int .i64 1] 23)).heap.size := by simp; omega
  clear a0 a1 b0 b1 D eu lt0 ne0 ne1
  obtain ⟨c0, c1, c2, c3, c4, c5, r0, r1, f0, f1, zz⟩ := SC.out _ E3
  generalize (((u3.setCell ⟨T, 0, none⟩ (.int .i64 1)).setCell ⟨T, 1, none⟩ (.int .i64 1)).alloc (.cells #[.int .i64 1, .int .i64 1] 23)) = y3 at *
  rw [rounds_succ]
  go_wp2
  refine bodyPost_ret (v := Frac3 1 1 0) (by simp [results, Tryd.results33, go_sem, r0, r1]) rfl ⟨rfl, ?_⟩
  refine Below.setCell (Below.setCell ?_ (by simp <;> omega) _) (by simp <;> omega) _
  exact ((Below.refl _ _).alloc (Nat.le_refl _) _).trans (E3.mono (by omega))
end Go.Proofs.YtnmjenpeiafnkaaDoor.Fr
