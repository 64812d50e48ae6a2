/- The examples of package frac: the law's own function 'examples' returns true. -/
import Derived.Test.YtnmjenpeiafnkaaDoorFlo
import Derived.Test.YtnmjenpeiafnkaaDoorSum3
import Derived.Test.YtnmjenpeiafnkaaDoorStr
namespace Go.Proofs.YtnmjenpeiafnkaaDoor.Fr
open Go.ChangeShapes Go.WideShapes Go.ChangeAt Go.RowKit
set_option linter.unusedVariables false

theorem keep {y y' : World} {b o : Nat} {v : Value} (hy : Below y.heap.size y y') (hb : b < y.heap.size) (h : y.cell? ⟨b, o, none⟩ = some v) : y'.cell? ⟨b, o, none⟩ = some v := (hy.cell (p := ⟨b, o, none⟩) hb).trans h
set_option maxHeartbeats 8000000 in
theorem examples_true (w : World) : Calls Tryd.prog 16 #[] w (Ret (.bool true) w) := by
  have N1 := Lib.hid (fun w => show Calls Tryd.prog 12 #[.int .i64 6, .int .i64 (-4)] w (Ret (Frac3 (-3) 2 0) w) from new_any 6 (-4) w (by decide) (by decide) (by decide) (by decide))
  have A1 := Lib.hid (fun w => add_val (n1 := 1) (d1 := 2) (n2 := 1) (d2 := 3) (n := 5) (d := 6) rfl rfl rfl rfl (by decide) (by decide) (by decide) (by decide) (by decide) (by decide) rfl rfl rfl w)
  have F1 := Lib.hid (fun w => show Calls Tryd.prog 29 #[.agg #[.int .i64 (-3), .int .i64 2]] w (Ret (.int .i64 (-2)) w) from floor_any (-3) 2 w)
  have P1 := Lib.hid (fun w => show Calls Tryd.prog 35 #[.string ⟨#[50, 47, 52]⟩] w (Ret (Frac3 0 0 5) w) from parse24 w)
  have S1 := Lib.hid (fun w b hb s0 s1 s2 s3 s4 s5 => sum3 w b hb s0 s1 s2 s3 s4 s5)
  go_enter Tryd.func16, Tryd.ntmps16
  go_wp2_with fail
  refine (N1.out _).mono ?_
  rintro e w1 ⟨rfl, h1⟩
  have Bt := h1.mono (B' := w.heap.size + 3) (by simp)
  obtain ⟨c0, c1, c2, c3, c4, c5, _, _, z1⟩ := cells3 Bt
  have K : Below w.heap.size w w1 := (below3 _ _ _ _).trans (Bt.mono (by omega))
  have hs1 : w.heap.size < w1.heap.size := by omega
  have hs2 : w.heap.size + 1 < w1.heap.size := by omega
  have hs3 : w.heap.size + 1 + 1 < w1.heap.size := by omega
  clear h1 Bt
  have K : Below w.heap.size w (w1.alloc (.cells #[.int .i64 (-3), .int .i64 2] 23)) := K.alloc (by omega) _
  have hy : Below w1.heap.size w1 (w1.alloc (.cells #[.int .i64 (-3), .int .i64 2] 23)) := (Below.refl _ _).alloc (Nat.le_refl _) _
  have c0 := keep hy hs1 c0
  have c1 := keep hy hs1 c1
  have c2 := keep hy hs2 c2
  have c3 := keep hy hs2 c3
  have c4 := keep hy hs3 c4
  have c5 := keep hy hs3 c5
  have a0 : (w1.alloc (.cells #[.int .i64 (-3), .int .i64 2] 23)).cell? ⟨w1.heap.size, 0, none⟩ = some (.int .i64 (-3)) := by go_cell
  have a1 : (w1.alloc (.cells #[.int .i64 (-3), .int .i64 2] 23)).cell? ⟨w1.heap.size, 1, none⟩ = some (.int .i64 2) := by go_cell
  have la : w1.heap.size < (w1.alloc (.cells #[.int .i64 (-3), .int .i64 2] 23)).heap.size := by simp
  clear hy
  have l1 : w.heap.size < (w1.alloc (.cells #[.int .i64 (-3), .int .i64 2] 23)).heap.size := by simp; omega
  have l2 : w.heap.size + 1 < (w1.alloc (.cells #[.int .i64 (-3), .int .i64 2] 23)).heap.size := by simp; omega
  have l3 : w.heap.size + 1 + 1 < (w1.alloc (.cells #[.int .i64 (-3), .int .i64 2] 23)).heap.size := by simp; omega
  go_wp2_with fail
  refine (A1.out _).mono ?_
  rintro e u2 ⟨rfl, h2⟩
  generalize w1.alloc (.cells #[.int .i64 (-3), .int .i64 2] 23) = y1 at *
  generalize w1.heap.size = p1 at *
  clear hs1 hs2 hs3 z1
  have hy : Below y1.heap.size y1 (u2.alloc (.cells #[.int .i64 5, .int .i64 6] 23)) := h2.alloc h2.size _
  have K2 : Below w.heap.size w (u2.alloc (.cells #[.int .i64 5, .int .i64 6] 23)) := K.trans (hy.mono (by omega))
  have m1 := Nat.lt_of_lt_of_le l1 hy.size
  have m2 := Nat.lt_of_lt_of_le l2 hy.size
  have m3 := Nat.lt_of_lt_of_le l3 hy.size
  have ma := Nat.lt_of_lt_of_le la hy.size
  have d0 := keep hy l1 c0
  have d1 := keep hy l1 c1
  have d2 := keep hy l2 c2
  have d3 := keep hy l2 c3
  have d4 := keep hy l3 c4
  have d5 := keep hy l3 c5
  have a2 := keep hy la a0
  have a3 := keep hy la a1
  have b0 : (u2.alloc (.cells #[.int .i64 5, .int .i64 6] 23)).cell? ⟨u2.heap.size, 0, none⟩ = some (.int .i64 5) := by go_cell
  have b1 : (u2.alloc (.cells #[.int .i64 5, .int .i64 6] 23)).cell? ⟨u2.heap.size, 1, none⟩ = some (.int .i64 6) := by go_cell
  have lb : u2.heap.size < (u2.alloc (.cells #[.int .i64 5, .int .i64 6] 23)).heap.size := by simp
  clear c0 c1 c2 c3 c4 c5 a0 a1 l1 l2 l3 la hy h2 K
  go_wp2_with fail
  refine (S1.out _ _ (by simp) (by go_cell) (by go_cell) (by go_cell) (by go_cell) (by go_cell) (by go_cell)).mono ?_
  rintro e u3 ⟨rfl, h3⟩
  have hq : Below (u2.alloc (.cells #[.int .i64 5, .int .i64 6] 23)).heap.size (u2.alloc (.cells #[.int .i64 5, .int .i64 6] 23)) u3 := ((Below.refl _ _).alloc (Nat.le_refl _) _).trans (h3.mono (by simp))
  clear h3
  generalize u2.alloc (.cells #[.int .i64 5, .int .i64 6] 23) = y2 at *
  generalize u2.heap.size = p2 at *
  have hy : Below y2.heap.size y2 (u3.alloc (.cells #[.int .i64 1, .int .i64 1] 23)) := hq.alloc hq.size _
  have K3 : Below w.heap.size w (u3.alloc (.cells #[.int .i64 1, .int .i64 1] 23)) := K2.trans (hy.mono (by omega))
  have na := Nat.lt_of_lt_of_le ma hy.size
  have nb := Nat.lt_of_lt_of_le lb hy.size
  have a4 := keep hy ma a2
  have a5 := keep hy ma a3
  have b2 := keep hy lb b0
  have b3 := keep hy lb b1
  have c0 : (u3.alloc (.cells #[.int .i64 1, .int .i64 1] 23)).cell? ⟨u3.heap.size, 0, none⟩ = some (.int .i64 1) := by go_cell
  have c1 : (u3.alloc (.cells #[.int .i64 1, .int .i64 1] 23)).cell? ⟨u3.heap.size, 1, none⟩ = some (.int .i64 1) := by go_cell
  have lc : u3.heap.size < (u3.alloc (.cells #[.int .i64 1, .int .i64 1] 23)).heap.size := by simp
  have wz : w.heap.size < (u3.alloc (.cells #[.int .i64 1, .int .i64 1] 23)).heap.size := Nat.lt_of_lt_of_le m1 hy.size
  clear d0 d1 d2 d3 d4 d5 a2 a3 b0 b1 m1 m2 m3 ma lb hy hq K2
  go_wp2_with fail
  refine (P1.out _).mono ?_
  rintro e u4 ⟨rfl, h4⟩
  generalize u3.alloc (.cells #[.int .i64 1, .int .i64 1] 23) = y3 at *
  generalize u3.heap.size = p3 at *
  have hy : Below y3.heap.size y3 (u4.alloc (.cells #[.int .i64 0, .int .i64 0] 23)) := h4.alloc h4.size _
  have K4 : Below w.heap.size w (u4.alloc (.cells #[.int .i64 0, .int .i64 0] 23)) := K3.trans (hy.mono (by omega))
  have a0 := keep hy na a4
  have a1 := keep hy na a5
  have b0 := keep hy nb b2
  have b1 := keep hy nb b3
  have c2 := keep hy lc c0
  have c3 := keep hy lc c1
  have wy : w.heap.size < (u4.alloc (.cells #[.int .i64 0, .int .i64 0] 23)).heap.size := Nat.lt_of_lt_of_le wz hy.size
  clear a4 a5 b2 b3 c0 c1 na nb lc wz hy h4 K3
  go_wp2_with (go_at_call 29; refine (F1.out _).mono ?_; rintro e u5 ⟨rfl, h5⟩)
  go_ret
  exact ⟨rfl, K4.trans (h5.mono (by omega))⟩
end Go.Proofs.YtnmjenpeiafnkaaDoor.Fr
