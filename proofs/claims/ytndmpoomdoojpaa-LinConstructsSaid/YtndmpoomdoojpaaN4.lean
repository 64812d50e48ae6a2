/- Constant forms and variables. -/
import Derived.Test.YtndmpoomdoojpaaN3
namespace Go.Proofs.Ytndmpoomdoojpaa.Nm
open Go.ChangeShapes Go.WideShapes Go.ChangeAt Go.RowKit
set_option linter.unusedVariables false

/-- A linear form without variables. -/
def Lk (k : Int) : Value := .agg #[.int .i64 k, .slice none 0 0]
theorem const1 (k : Int) (w : World) : Calls Try.prog 15 #[.int .i64 k] w fun e w' => e = .returned (Lk k) ∧ Below w.heap.size w w' := by
  go_enter Try.func15, Try.ntmps15
  go_wp2
  exact bodyPost_ret (v := .agg #[.int .i64 k, .slice none 0 0]) (by simp [results, Try.results15, go_sem]) rfl ⟨rfl, (Below.refl _ _).alloc (Nat.le_refl _) _⟩
theorem const2 (k : Int) (w : World) : Calls Try.prog 16 #[.int .i64 k] w fun e w' => e = .returned (Lk k) ∧ Below w.heap.size w w' := by
  go_enter Try.func16, Try.ntmps16
  go_wp2
  exact bodyPost_ret (v := .agg #[.int .i64 k, .slice none 0 0]) (by simp [results, Try.results16, go_sem]) rfl ⟨rfl, (Below.refl _ _).alloc (Nat.le_refl _) _⟩
def VW (s : ByteArray) (w : World) (e : Ending) (w' : World) : Prop := ∃ g c, e = .returned (.agg #[.int .i64 0, .slice (some ⟨g, 0, none⟩) 1 c]) ∧ w'.cell? ⟨g, 0, none⟩ = some (.string s) ∧ w'.cell? ⟨g, 1, none⟩ = some (.int .i64 1) ∧ Below w.heap.size w w'
theorem var1_no (s : ByteArray) (w : World) (hs : s.size ≤ maxLen) (h : nmB s = false) : Calls Try.prog 18 #[.string s] w fun e w' => e = .returned (Lk 0) ∧ Below w.heap.size w w' := by
  have C := Lib.hid fun w => isName s w hs
  rw [h] at C
  go_enter Try.func18, Try.ntmps18
  go_wp2_with (go_at_call 44; refine (C.out _).mono ?_; rintro e w' ⟨rfl, rfl⟩)
  exact bodyPost_ret (v := .agg #[.int .i64 0, .slice none 0 0]) (by simp [results, Try.results18, go_sem]) rfl ⟨rfl, (Below.refl _ _).alloc (Nat.le_refl _) _⟩
theorem var1_ok (s : ByteArray) (w : World) (hs : s.size ≤ maxLen) (h : nmB s = true) : Calls Try.prog 18 #[.string s] w (VW s w) := by
  have C := Lib.hid fun w => isName s w hs
  rw [h] at C
  go_enter Try.func18, Try.ntmps18
  go_wp2_with (go_at_call 44; refine (C.out _).mono ?_; rintro e w' ⟨rfl, rfl⟩)
  refine bodyPost_ret (v := .agg #[.int .i64 0, .slice (some ⟨w.heap.size + 1, 0, none⟩) 1 1]) (by simp [results, Try.results18, go_sem]) rfl ⟨w.heap.size + 1, 1, rfl, by go_cell, by go_cell, ((Below.refl _ _).alloc (Nat.le_refl _) _).alloc (by simp) _⟩
set_option maxHeartbeats 4000000 in
theorem equal0 (w : World) : Calls Try.prog 43 #[.slice none 0 0, .slice none 0 0] w fun e w' => e = .returned (.bool true) ∧ w = w' := by
  go_enter Try.func43, Try.ntmps43
  go_wp2
  refine wp_loop_rounds 1 ?_
  rw [rounds_succ]
  go_wp2
  go_ret
  exact ⟨rfl, rfl⟩
theorem notFrozen {w : World} {b o : Nat} (h : w.heap.size ≤ b) : w.frozen? ⟨b, o, none⟩ = false := by
  unfold World.frozen?
  rw [Array.getElem?_eq_none (by simpa using h)]
theorem read0 {u : World} {r : Nat} {x y a : Value} (ha : u.cell? ⟨r, 0, none⟩ = some a) : ((u.setCell ⟨r, 0, none⟩ x).setCell ⟨r, 1, none⟩ y).cell? ⟨r, 0, none⟩ = some x := (World.cell?_setCell_other _ _ _ _ (by simp)).trans (World.cell?_setCell_same _ _ _ ha)
theorem read1 {u : World} {r : Nat} {x y b : Value} (hb : u.cell? ⟨r, 1, none⟩ = some b) : ((u.setCell ⟨r, 0, none⟩ x).setCell ⟨r, 1, none⟩ y).cell? ⟨r, 1, none⟩ = some y := World.cell?_setCell_same _ _ _ ((World.cell?_setCell_other _ _ _ _ (by simp)).trans hb)
theorem kp {y y' : World} {b o : Nat} {v : Value} (hy : Below y.heap.size y y') (hb : b < y.heap.size) (h : y.cell? ⟨b, o, none⟩ = some v) : y'.cell? ⟨b, o, none⟩ = some v := (hy.cell (p := ⟨b, o, none⟩) hb).trans h
set_option maxHeartbeats 4000000 in
theorem var2_no (s : ByteArray) (w : World) (hs : s.size ≤ maxLen) (h : nmB s = false) : Calls Try.prog 19 #[.string s] w fun e w' => e = .returned (Lk 0) ∧ Below w.heap.size w w' := by
  have C := Lib.hid fun w => name s w hs
  rw [h] at C
  clear h
  go_enter Try.func19, Try.ntmps19
  go_wp2_with fail
  refine (C.out _).mono ?_
  rintro e w1 ⟨rfl, hb⟩
  have c0 : w1.cell? ⟨w.heap.size, 0, none⟩ = some (.int .i64 0) := by rw [hb.cell (p := ⟨w.heap.size, 0, none⟩) (by simp)]; go_cell
  have c1 : w1.cell? ⟨w.heap.size, 1, none⟩ = some (.slice none 0 0) := by rw [hb.cell (p := ⟨w.heap.size, 1, none⟩) (by simp)]; go_cell
  have f0 : w1.frozen? ⟨w.heap.size, 0, none⟩ = false := by rw [hb.frozen (p := ⟨w.heap.size, 0, none⟩) (by simp)]; simp only [frozen?_alloc_cells]; exact notFrozen (by omega)
  have f1 : w1.frozen? ⟨w.heap.size, 1, none⟩ = false := by rw [hb.frozen (p := ⟨w.heap.size, 1, none⟩) (by simp)]; simp only [frozen?_alloc_cells]; exact notFrozen (by omega)
  have hB : Below w.heap.size w w1 := ((Below.refl _ _).alloc (Nat.le_refl _) _).trans (hb.mono (by simp))
  have hsz : w.heap.size < w1.heap.size := by have := hb.size; simp at this; omega
  clear hb
  go_wp2
  have r0 := read0 (x := .int .i64 0) (y := .slice none 0 0) c0
  have r1 := read1 (x := .int .i64 0) (y := .slice none 0 0) c1
  exact bodyPost_ret (v := .agg #[.int .i64 0, .slice none 0 0]) (by simp [results, Try.results19, go_sem, r0, r1]) rfl ⟨rfl, (hB.setCell (Nat.le_refl _) _).setCell (Nat.le_refl _) _⟩
set_option maxHeartbeats 4000000 in
theorem var2_ok (s : ByteArray) (w : World) (hs : s.size ≤ maxLen) (h : nmB s = true) : Calls Try.prog 19 #[.string s] w (VW s w) := by
  have C := Lib.hid fun w => name s w hs
  rw [h] at C
  clear h
  go_enter Try.func19, Try.ntmps19
  go_wp2_with fail
  refine (C.out _).mono ?_
  rintro e w1 ⟨rfl, hb⟩
  have c0 : w1.cell? ⟨w.heap.size, 0, none⟩ = some (.int .i64 0) := by rw [hb.cell (p := ⟨w.heap.size, 0, none⟩) (by simp)]; go_cell
  have c1 : w1.cell? ⟨w.heap.size, 1, none⟩ = some (.slice none 0 0) := by rw [hb.cell (p := ⟨w.heap.size, 1, none⟩) (by simp)]; go_cell
  have f0 : w1.frozen? ⟨w.heap.size, 0, none⟩ = false := by rw [hb.frozen (p := ⟨w.heap.size, 0, none⟩) (by simp)]; simp only [frozen?_alloc_cells]; exact notFrozen (by omega)
  have f1 : w1.frozen? ⟨w.heap.size, 1, none⟩ = false := by rw [hb.frozen (p := ⟨w.heap.size, 1, none⟩) (by simp)]; simp only [frozen?_alloc_cells]; exact notFrozen (by omega)
  have hB : Below w.heap.size w w1 := ((Below.refl _ _).alloc (Nat.le_refl _) _).trans (hb.mono (by simp))
  have hsz : w.heap.size < w1.heap.size := by have := hb.size; simp at this; omega
  clear hb
  go_wp2
  have r0 := read0 (x := .int .i64 0) (y := .slice (some ⟨w1.heap.size, 0, none⟩) 1 1) c0
  have r1 := read1 (x := .int .i64 0) (y := .slice (some ⟨w1.heap.size, 0, none⟩) 1 1) c1
  obtain ⟨X, hX⟩ : ∃ X, X = (w1.setCell ⟨w.heap.size, 0, none⟩ (.int .i64 0)).setCell ⟨w.heap.size, 1, none⟩ (.slice (some ⟨w1.heap.size, 0, none⟩) 1 1) := ⟨_, rfl⟩
  have hXs : X.heap.size = w1.heap.size := by rw [hX]; simp
  have hXB : Below w.heap.size w X := by rw [hX]; exact (hB.setCell (Nat.le_refl _) _).setCell (Nat.le_refl _) _
  rw [← hX] at r0 r1 ⊢
  have q0 := kp ((Below.refl X.heap.size X).alloc (Nat.le_refl _) (Obj.cells #[Value.string s, Value.int IntKind.i64 1] 63)) (by omega) r0
  have q1 := kp ((Below.refl X.heap.size X).alloc (Nat.le_refl _) (Obj.cells #[Value.string s, Value.int IntKind.i64 1] 63)) (by omega) r1
  rw [← hXs] at q1 ⊢
  clear hX
  refine bodyPost_ret (v := .agg #[.int .i64 0, .slice (some ⟨X.heap.size, 0, none⟩) 1 1]) (by simp [results, Try.results19, go_sem, q0, q1]) rfl ⟨X.heap.size, 1, rfl, by go_cell, by go_cell, hXB.alloc (by omega) _⟩
theorem same0 (k : Int) (w : World) : Calls Try.prog 14 #[Lk k, Lk k] w fun e w' => e = .returned (.bool true) ∧ Below w.heap.size w w' := by
  unfold Lk
  go_enter Try.func14, Try.ntmps14
  go_wp2_with (go_at_call 43; refine (equal0 _).mono ?_; rintro e w' ⟨rfl, rfl⟩)
  go_ret
  exact ⟨rfl, ((Below.refl _ _).alloc (Nat.le_refl _) _).alloc (by simp) _⟩
set_option maxHeartbeats 4000000 in
theorem lin0 (k : Int) (w : World) : Calls Try.prog 17 #[Lk k, Lk k] w fun e w' => e = .returned (.bool true) ∧ Below w.heap.size w w' := by
  unfold Lk
  go_enter Try.func17, Try.ntmps17
  go_wp2
  refine wp_loop_rounds 1 ?_
  rw [rounds_succ]
  go_wp2
  go_ret
  exact ⟨rfl, ((Below.refl _ _).alloc (Nat.le_refl _) _).alloc (by simp) _⟩
theorem below_drewN {B : Nat} {a w : World} (h : Below B a w) (n : Nat) : Below B a (w.drewN n) := ⟨h.os, h.tape, h.output, h.size, h.block⟩
set_option maxHeartbeats 4000000 in
theorem lin1 (s : ByteArray) (g c g' c' : Nat) (w : World) (a0 : w.cell? ⟨g, 0, none⟩ = some (.string s)) (a1 : w.cell? ⟨g, 1, none⟩ = some (.int .i64 1)) (b0 : w.cell? ⟨g', 0, none⟩ = some (.string s)) (b1 : w.cell? ⟨g', 1, none⟩ = some (.int .i64 1)) :
    Calls Try.prog 17 #[.agg #[.int .i64 0, .slice (some ⟨g, 0, none⟩) 1 c], .agg #[.int .i64 0, .slice (some ⟨g', 0, none⟩) 1 c']] w fun e w' => e = .returned (.bool true) ∧ Below w.heap.size w w' := by
  have A : Below w.heap.size w ((w.alloc (Obj.cells #[.int .i64 0, .slice (some ⟨g, 0, none⟩) 1 c] 25)).alloc (Obj.cells #[.int .i64 0, .slice (some ⟨g', 0, none⟩) 1 c'] 25)) := ((Below.refl _ _).alloc (Nat.le_refl _) _).alloc (by simp) _
  have hg : g < w.heap.size := by have := World.block_lt_of_cell? w _ a0; simpa using this
  have hg' : g' < w.heap.size := by have := World.block_lt_of_cell? w _ b0; simpa using this
  have a0 := kp A hg a0
  have a1 := kp A hg a1
  have b0 := kp A hg' b0
  have b1 := kp A hg' b1
  have HA := A
  clear A
  go_enter Try.func17, Try.ntmps17
  go_wp2
  refine wp_loop_rounds 2 ?_
  rw [rounds_succ]
  go_wp2
  go_quiet (fail)
  go_wp2
  rw [rounds_succ]
  go_wp2
  go_ret
  exact ⟨rfl, below_drewN HA _⟩
set_option maxHeartbeats 4000000 in
theorem law (k : Int) (s : ByteArray) (w : World) (_ : -9223372036854775808 ≤ k ∧ k ≤ 9223372036854775807) (hs : s.size ≤ maxLen) : Calls Try.prog 3 #[.int .i64 k, .string s] w fun e w' => e = .returned (.bool true) ∧ Below w.heap.size w w' := by
  go_enter Try.func3, Try.ntmps3
  go_wp2_with fail
  refine (const1 k _).mono ?_
  rintro e w1 ⟨rfl, hb⟩
  have K1 := hb
  clear hb
  go_wp2_with fail
  refine (const2 k _).mono ?_
  rintro e w2 ⟨rfl, hb⟩
  have K2 := K1.trans (hb.mono K1.size)
  clear hb K1
  go_wp2_with fail
  refine (same0 k _).mono ?_
  rintro e w3 ⟨rfl, hb⟩
  have K3 := K2.trans (hb.mono K2.size)
  clear hb K2
  go_wp2_with fail
  refine (const1 k _).mono ?_
  rintro e w4 ⟨rfl, hb⟩
  have K4 := K3.trans (hb.mono K3.size)
  clear hb K3
  go_wp2_with fail
  refine (const2 k _).mono ?_
  rintro e w5 ⟨rfl, hb⟩
  have K5 := K4.trans (hb.mono K4.size)
  clear hb K4
  go_wp2_with fail
  refine (lin0 k _).mono ?_
  rintro e w6 ⟨rfl, hb⟩
  have K6 := K5.trans (hb.mono K5.size)
  clear hb K5
  by_cases h : nmB s = true
  · go_wp2_with fail
    refine (var1_ok s _ hs h).mono ?_
    rintro e w7 ⟨g, c, rfl, a0, a1, hb⟩
    have K7 := K6.trans (hb.mono K6.size)
    clear hb K6
    go_wp2_with fail
    refine (var2_ok s _ hs h).mono ?_
    rintro e w8 ⟨g', c', rfl, b0, b1, hb⟩
    have hg : g < w7.heap.size := by have := World.block_lt_of_cell? w7 _ a0; simpa using this
    have a0 := kp hb hg a0
    have a1 := kp hb hg a1
    have K8 := K7.trans (hb.mono K7.size)
    clear hb K7
    go_wp2_with fail
    refine (lin1 s g c g' c' _ a0 a1 b0 b1).mono ?_
    rintro e w9 ⟨rfl, hb⟩
    go_wp2
    go_ret
    exact ⟨rfl, K8.trans (hb.mono K8.size)⟩
  · have h : nmB s = false := by simpa using h
    go_wp2_with fail
    refine (var1_no s _ hs h).mono ?_
    rintro e w7 ⟨rfl, hb⟩
    have K7 := K6.trans (hb.mono K6.size)
    clear hb K6
    go_wp2_with fail
    refine (var2_no s _ hs h).mono ?_
    rintro e w8 ⟨rfl, hb⟩
    have K8 := K7.trans (hb.mono K7.size)
    clear hb K7
    go_wp2_with fail
    refine (lin0 0 _).mono ?_
    rintro e w9 ⟨rfl, hb⟩
    go_wp2
    go_ret
    exact ⟨rfl, K8.trans (hb.mono K8.size)⟩
end Go.Proofs.Ytndmpoomdoojpaa.Nm
