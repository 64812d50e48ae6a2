/- The walk of the ring laws, one of three ways through. -/
import Derived.Test.YtnmjenpeiafnkaaDoorExam
import Derived.Test.YtnmjenpeiafnkaaDoorCmp
namespace Go.Proofs.YtnmjenpeiafnkaaDoor.Fr
open Go.ChangeShapes Go.WideShapes Go.ChangeAt Go.RowKit
set_option linter.unusedVariables false

set_option maxHeartbeats 32000000 in
theorem ring_III (n1 d1 n2 d2 n3 d3 sN sD pN pD tN tD rN rD lN lD lE mN mD mE : Int) (w : World)
    (A1 : Hid (∀ w, Calls Tryd.prog 17 #[.agg #[.int .i64 n1, .int .i64 d1], .agg #[.int .i64 n2, .int .i64 d2]] w (Ret (Frac3 sN sD 0) w)))
    (A2 : Hid (∀ w, Calls Tryd.prog 17 #[.agg #[.int .i64 n2, .int .i64 d2], .agg #[.int .i64 n1, .int .i64 d1]] w (Ret (Frac3 sN sD 0) w)))
    (M1 : Hid (∀ w, Calls Tryd.prog 21 #[.agg #[.int .i64 n1, .int .i64 d1], .agg #[.int .i64 n2, .int .i64 d2]] w (Ret (Frac3 pN pD 0) w)))
    (M2 : Hid (∀ w, Calls Tryd.prog 21 #[.agg #[.int .i64 n2, .int .i64 d2], .agg #[.int .i64 n1, .int .i64 d1]] w (Ret (Frac3 pN pD 0) w)))
    (SB : Hid (∀ w, Calls Tryd.prog 19 #[.agg #[.int .i64 sN, .int .i64 sD], .agg #[.int .i64 n2, .int .i64 d2]] w (Ret (Frac3 n1 d1 0) w)))
    (BC : Hid (∀ w, Calls Tryd.prog 17 #[.agg #[.int .i64 n2, .int .i64 d2], .agg #[.int .i64 n3, .int .i64 d3]] w (Ret (Frac3 tN tD 0) w)))
    (AC : Hid (∀ w, Calls Tryd.prog 21 #[.agg #[.int .i64 n1, .int .i64 d1], .agg #[.int .i64 n3, .int .i64 d3]] w (Ret (Frac3 rN rD 0) w)))
    (LF : Hid (∀ w, Calls Tryd.prog 17 #[.agg #[.int .i64 sN, .int .i64 sD], .agg #[.int .i64 n3, .int .i64 d3]] w (Ret (Frac3 lN lD lE) w)))
    (RT : Hid (∀ w, Calls Tryd.prog 17 #[.agg #[.int .i64 n1, .int .i64 d1], .agg #[.int .i64 tN, .int .i64 tD]] w (Ret (Frac3 lN lD lE) w)))
    (MM : Hid (∀ w, Calls Tryd.prog 21 #[.agg #[.int .i64 n1, .int .i64 d1], .agg #[.int .i64 tN, .int .i64 tD]] w (Ret (Frac3 mN mD mE) w)))
    (OO : Hid (∀ w, Calls Tryd.prog 17 #[.agg #[.int .i64 pN, .int .i64 pD], .agg #[.int .i64 rN, .int .i64 rD]] w (Ret (Frac3 mN mD mE) w)))
    (EX : Hid (∀ w, Calls Tryd.prog 16 #[] w (Ret (.bool true) w))) :
    Calls Tryd.prog 9 #[.agg #[.int .i64 n1, .int .i64 d1], .agg #[.int .i64 n2, .int .i64 d2], .agg #[.int .i64 n3, .int .i64 d3]] w fun e w' => e = .returned (.bool true) ∧ Below w.heap.size w w' := by
  go_enter Tryd.func9, Tryd.ntmps9
  have K : Below w.heap.size w (((w.alloc (.cells #[.int .i64 n1, .int .i64 d1] 23)).alloc (.cells #[.int .i64 n2, .int .i64 d2] 23)).alloc (.cells #[.int .i64 n3, .int .i64 d3] 23)) := below3 _ _ _ _
  have h0 : (((w.alloc (.cells #[.int .i64 n1, .int .i64 d1] 23)).alloc (.cells #[.int .i64 n2, .int .i64 d2] 23)).alloc (.cells #[.int .i64 n3, .int .i64 d3] 23)).cell? ⟨w.heap.size, 0, none⟩ = some (.int .i64 n1) := by go_cell
  have h1 : (((w.alloc (.cells #[.int .i64 n1, .int .i64 d1] 23)).alloc (.cells #[.int .i64 n2, .int .i64 d2] 23)).alloc (.cells #[.int .i64 n3, .int .i64 d3] 23)).cell? ⟨w.heap.size, 1, none⟩ = some (.int .i64 d1) := by go_cell
  have h2 : (((w.alloc (.cells #[.int .i64 n1, .int .i64 d1] 23)).alloc (.cells #[.int .i64 n2, .int .i64 d2] 23)).alloc (.cells #[.int .i64 n3, .int .i64 d3] 23)).cell? ⟨w.heap.size + 1, 0, none⟩ = some (.int .i64 n2) := by go_cell
  have h3 : (((w.alloc (.cells #[.int .i64 n1, .int .i64 d1] 23)).alloc (.cells #[.int .i64 n2, .int .i64 d2] 23)).alloc (.cells #[.int .i64 n3, .int .i64 d3] 23)).cell? ⟨w.heap.size + 1, 1, none⟩ = some (.int .i64 d2) := by go_cell
  have h4 : (((w.alloc (.cells #[.int .i64 n1, .int .i64 d1] 23)).alloc (.cells #[.int .i64 n2, .int .i64 d2] 23)).alloc (.cells #[.int .i64 n3, .int .i64 d3] 23)).cell? ⟨w.heap.size + 1 + 1, 0, none⟩ = some (.int .i64 n3) := by go_cell
  have h5 : (((w.alloc (.cells #[.int .i64 n1, .int .i64 d1] 23)).alloc (.cells #[.int .i64 n2, .int .i64 d2] 23)).alloc (.cells #[.int .i64 n3, .int .i64 d3] 23)).cell? ⟨w.heap.size + 1 + 1, 1, none⟩ = some (.int .i64 d3) := by go_cell
  have l0 : w.heap.size < (((w.alloc (.cells #[.int .i64 n1, .int .i64 d1] 23)).alloc (.cells #[.int .i64 n2, .int .i64 d2] 23)).alloc (.cells #[.int .i64 n3, .int .i64 d3] 23)).heap.size := by simp <;> omega
  have l1 : w.heap.size + 1 < (((w.alloc (.cells #[.int .i64 n1, .int .i64 d1] 23)).alloc (.cells #[.int .i64 n2, .int .i64 d2] 23)).alloc (.cells #[.int .i64 n3, .int .i64 d3] 23)).heap.size := by simp <;> omega
  have l2 : w.heap.size + 1 + 1 < (((w.alloc (.cells #[.int .i64 n1, .int .i64 d1] 23)).alloc (.cells #[.int .i64 n2, .int .i64 d2] 23)).alloc (.cells #[.int .i64 n3, .int .i64 d3] 23)).heap.size := by simp <;> omega
  go_wp2_with fail
  generalize (((w.alloc (.cells #[.int .i64 n1, .int .i64 d1] 23)).alloc (.cells #[.int .i64 n2, .int .i64 d2] 23)).alloc (.cells #[.int .i64 n3, .int .i64 d3] 23)) = y0 at *
  refine (A1.out _).mono ?_
  rintro e u1 ⟨rfl, hu⟩
  have hy : Below y0.heap.size y0 (u1.alloc (.cells #[.int .i64 sN, .int .i64 sD] 23)) := hu.alloc hu.size _
  have K' : Below w.heap.size w (u1.alloc (.cells #[.int .i64 sN, .int .i64 sD] 23)) := K.trans (hy.mono (by omega))
  have h0' := keep hy l0 h0
  have h1' := keep hy l0 h1
  have h2' := keep hy l1 h2
  have h3' := keep hy l1 h3
  have h4' := keep hy l2 h4
  have h5' := keep hy l2 h5
  have l0' := Nat.lt_of_lt_of_le l0 hy.size
  have l1' := Nat.lt_of_lt_of_le l1 hy.size
  have l2' := Nat.lt_of_lt_of_le l2 hy.size
  have r1a : (u1.alloc (.cells #[.int .i64 sN, .int .i64 sD] 23)).cell? ⟨u1.heap.size, 0, none⟩ = some (.int .i64 sN) := by go_cell
  have r1b : (u1.alloc (.cells #[.int .i64 sN, .int .i64 sD] 23)).cell? ⟨u1.heap.size, 1, none⟩ = some (.int .i64 sD) := by go_cell
  have q1 : u1.heap.size < (u1.alloc (.cells #[.int .i64 sN, .int .i64 sD] 23)).heap.size := by simp
  clear hu hy K h0 h1 h2 h3 h4 h5 l0 l1 l2 
  have K := K'
  have h0 := h0'
  have h1 := h1'
  have h2 := h2'
  have h3 := h3'
  have h4 := h4'
  have h5 := h5'
  have l0 := l0'
  have l1 := l1'
  have l2 := l2'
  clear K' h0' h1' h2' h3' h4' h5' l0' l1' l2'
  go_wp2_with fail
  generalize (u1.alloc (.cells #[.int .i64 sN, .int .i64 sD] 23)) = y1 at *
  generalize u1.heap.size = t1 at *
  refine (A2.out _).mono ?_
  rintro e u2 ⟨rfl, hu⟩
  have hy : Below y1.heap.size y1 (u2.alloc (.cells #[.int .i64 sN, .int .i64 sD] 23)) := hu.alloc hu.size _
  have K' : Below w.heap.size w (u2.alloc (.cells #[.int .i64 sN, .int .i64 sD] 23)) := K.trans (hy.mono (by omega))
  have h0' := keep hy l0 h0
  have h1' := keep hy l0 h1
  have h2' := keep hy l1 h2
  have h3' := keep hy l1 h3
  have h4' := keep hy l2 h4
  have h5' := keep hy l2 h5
  have l0' := Nat.lt_of_lt_of_le l0 hy.size
  have l1' := Nat.lt_of_lt_of_le l1 hy.size
  have l2' := Nat.lt_of_lt_of_le l2 hy.size
  have r1a' := keep hy q1 r1a
  have r1b' := keep hy q1 r1b
  have q1' := Nat.lt_of_lt_of_le q1 hy.size
  have r2a : (u2.alloc (.cells #[.int .i64 sN, .int .i64 sD] 23)).cell? ⟨u2.heap.size, 0, none⟩ = some (.int .i64 sN) := by go_cell
  have r2b : (u2.alloc (.cells #[.int .i64 sN, .int .i64 sD] 23)).cell? ⟨u2.heap.size, 1, none⟩ = some (.int .i64 sD) := by go_cell
  have q2 : u2.heap.size < (u2.alloc (.cells #[.int .i64 sN, .int .i64 sD] 23)).heap.size := by simp
  clear hu hy K h0 h1 h2 h3 h4 h5 l0 l1 l2 r1a r1b q1
  have K := K'
  have h0 := h0'
  have h1 := h1'
  have h2 := h2'
  have h3 := h3'
  have h4 := h4'
  have h5 := h5'
  have l0 := l0'
  have l1 := l1'
  have l2 := l2'
  have r1a := r1a'
  have r1b := r1b'
  have q1 := q1'
  clear K' h0' h1' h2' h3' h4' h5' l0' l1' l2' r1a' r1b' q1'
  go_wp2_with fail
  generalize (u2.alloc (.cells #[.int .i64 sN, .int .i64 sD] 23)) = y2 at *
  generalize u2.heap.size = t2 at *
  refine (M1.out _).mono ?_
  rintro e u3 ⟨rfl, hu⟩
  have hy : Below y2.heap.size y2 (u3.alloc (.cells #[.int .i64 pN, .int .i64 pD] 23)) := hu.alloc hu.size _
  have K' : Below w.heap.size w (u3.alloc (.cells #[.int .i64 pN, .int .i64 pD] 23)) := K.trans (hy.mono (by omega))
  have h0' := keep hy l0 h0
  have h1' := keep hy l0 h1
  have h2' := keep hy l1 h2
  have h3' := keep hy l1 h3
  have h4' := keep hy l2 h4
  have h5' := keep hy l2 h5
  have l0' := Nat.lt_of_lt_of_le l0 hy.size
  have l1' := Nat.lt_of_lt_of_le l1 hy.size
  have l2' := Nat.lt_of_lt_of_le l2 hy.size
  have r1a' := keep hy q1 r1a
  have r1b' := keep hy q1 r1b
  have q1' := Nat.lt_of_lt_of_le q1 hy.size
  have r2a' := keep hy q2 r2a
  have r2b' := keep hy q2 r2b
  have q2' := Nat.lt_of_lt_of_le q2 hy.size
  have r3a : (u3.alloc (.cells #[.int .i64 pN, .int .i64 pD] 23)).cell? ⟨u3.heap.size, 0, none⟩ = some (.int .i64 pN) := by go_cell
  have r3b : (u3.alloc (.cells #[.int .i64 pN, .int .i64 pD] 23)).cell? ⟨u3.heap.size, 1, none⟩ = some (.int .i64 pD) := by go_cell
  have q3 : u3.heap.size < (u3.alloc (.cells #[.int .i64 pN, .int .i64 pD] 23)).heap.size := by simp
  clear hu hy K h0 h1 h2 h3 h4 h5 l0 l1 l2 r1a r1b q1 r2a r2b q2
  have K := K'
  have h0 := h0'
  have h1 := h1'
  have h2 := h2'
  have h3 := h3'
  have h4 := h4'
  have h5 := h5'
  have l0 := l0'
  have l1 := l1'
  have l2 := l2'
  have r1a := r1a'
  have r1b := r1b'
  have q1 := q1'
  have r2a := r2a'
  have r2b := r2b'
  have q2 := q2'
  clear K' h0' h1' h2' h3' h4' h5' l0' l1' l2' r1a' r1b' q1' r2a' r2b' q2'
  go_wp2_with fail
  generalize (u3.alloc (.cells #[.int .i64 pN, .int .i64 pD] 23)) = y3 at *
  generalize u3.heap.size = t3 at *
  refine (M2.out _).mono ?_
  rintro e u4 ⟨rfl, hu⟩
  have hy : Below y3.heap.size y3 (u4.alloc (.cells #[.int .i64 pN, .int .i64 pD] 23)) := hu.alloc hu.size _
  have K' : Below w.heap.size w (u4.alloc (.cells #[.int .i64 pN, .int .i64 pD] 23)) := K.trans (hy.mono (by omega))
  have h0' := keep hy l0 h0
  have h1' := keep hy l0 h1
  have h2' := keep hy l1 h2
  have h3' := keep hy l1 h3
  have h4' := keep hy l2 h4
  have h5' := keep hy l2 h5
  have l0' := Nat.lt_of_lt_of_le l0 hy.size
  have l1' := Nat.lt_of_lt_of_le l1 hy.size
  have l2' := Nat.lt_of_lt_of_le l2 hy.size
  have r1a' := keep hy q1 r1a
  have r1b' := keep hy q1 r1b
  have q1' := Nat.lt_of_lt_of_le q1 hy.size
  have r2a' := keep hy q2 r2a
  have r2b' := keep hy q2 r2b
  have q2' := Nat.lt_of_lt_of_le q2 hy.size
  have r3a' := keep hy q3 r3a
  have r3b' := keep hy q3 r3b
  have q3' := Nat.lt_of_lt_of_le q3 hy.size
  have r4a : (u4.alloc (.cells #[.int .i64 pN, .int .i64 pD] 23)).cell? ⟨u4.heap.size, 0, none⟩ = some (.int .i64 pN) := by go_cell
  have r4b : (u4.alloc (.cells #[.int .i64 pN, .int .i64 pD] 23)).cell? ⟨u4.heap.size, 1, none⟩ = some (.int .i64 pD) := by go_cell
  have q4 : u4.heap.size < (u4.alloc (.cells #[.int .i64 pN, .int .i64 pD] 23)).heap.size := by simp
  clear hu hy K h0 h1 h2 h3 h4 h5 l0 l1 l2 r1a r1b q1 r2a r2b q2 r3a r3b q3
  have K := K'
  have h0 := h0'
  have h1 := h1'
  have h2 := h2'
  have h3 := h3'
  have h4 := h4'
  have h5 := h5'
  have l0 := l0'
  have l1 := l1'
  have l2 := l2'
  have r1a := r1a'
  have r1b := r1b'
  have q1 := q1'
  have r2a := r2a'
  have r2b := r2b'
  have q2 := q2'
  have r3a := r3a'
  have r3b := r3b'
  have q3 := q3'
  clear K' h0' h1' h2' h3' h4' h5' l0' l1' l2' r1a' r1b' q1' r2a' r2b' q2' r3a' r3b' q3'
  go_wp2_with fail
  generalize (u4.alloc (.cells #[.int .i64 pN, .int .i64 pD] 23)) = y4 at *
  generalize u4.heap.size = t4 at *
  refine (SB.out _).mono ?_
  rintro e u5 ⟨rfl, hu⟩
  have hy : Below y4.heap.size y4 (u5.alloc (.cells #[.int .i64 n1, .int .i64 d1] 23)) := hu.alloc hu.size _
  have K' : Below w.heap.size w (u5.alloc (.cells #[.int .i64 n1, .int .i64 d1] 23)) := K.trans (hy.mono (by omega))
  have h0' := keep hy l0 h0
  have h1' := keep hy l0 h1
  have h2' := keep hy l1 h2
  have h3' := keep hy l1 h3
  have h4' := keep hy l2 h4
  have h5' := keep hy l2 h5
  have l0' := Nat.lt_of_lt_of_le l0 hy.size
  have l1' := Nat.lt_of_lt_of_le l1 hy.size
  have l2' := Nat.lt_of_lt_of_le l2 hy.size
  have r1a' := keep hy q1 r1a
  have r1b' := keep hy q1 r1b
  have q1' := Nat.lt_of_lt_of_le q1 hy.size
  have r2a' := keep hy q2 r2a
  have r2b' := keep hy q2 r2b
  have q2' := Nat.lt_of_lt_of_le q2 hy.size
  have r3a' := keep hy q3 r3a
  have r3b' := keep hy q3 r3b
  have q3' := Nat.lt_of_lt_of_le q3 hy.size
  have r4a' := keep hy q4 r4a
  have r4b' := keep hy q4 r4b
  have q4' := Nat.lt_of_lt_of_le q4 hy.size
  have r5a : (u5.alloc (.cells #[.int .i64 n1, .int .i64 d1] 23)).cell? ⟨u5.heap.size, 0, none⟩ = some (.int .i64 n1) := by go_cell
  have r5b : (u5.alloc (.cells #[.int .i64 n1, .int .i64 d1] 23)).cell? ⟨u5.heap.size, 1, none⟩ = some (.int .i64 d1) := by go_cell
  have q5 : u5.heap.size < (u5.alloc (.cells #[.int .i64 n1, .int .i64 d1] 23)).heap.size := by simp
  clear hu hy K h0 h1 h2 h3 h4 h5 l0 l1 l2 r1a r1b q1 r2a r2b q2 r3a r3b q3 r4a r4b q4
  have K := K'
  have h0 := h0'
  have h1 := h1'
  have h2 := h2'
  have h3 := h3'
  have h4 := h4'
  have h5 := h5'
  have l0 := l0'
  have l1 := l1'
  have l2 := l2'
  have r1a := r1a'
  have r1b := r1b'
  have q1 := q1'
  have r2a := r2a'
  have r2b := r2b'
  have q2 := q2'
  have r3a := r3a'
  have r3b := r3b'
  have q3 := q3'
  have r4a := r4a'
  have r4b := r4b'
  have q4 := q4'
  clear K' h0' h1' h2' h3' h4' h5' l0' l1' l2' r1a' r1b' q1' r2a' r2b' q2' r3a' r3b' q3' r4a' r4b' q4'
  go_wp2_with fail
  generalize (u5.alloc (.cells #[.int .i64 n1, .int .i64 d1] 23)) = y5 at *
  generalize u5.heap.size = t5 at *
  refine (BC.out _).mono ?_
  rintro e u6 ⟨rfl, hu⟩
  have hy : Below y5.heap.size y5 (u6.alloc (.cells #[.int .i64 tN, .int .i64 tD] 23)) := hu.alloc hu.size _
  have K' : Below w.heap.size w (u6.alloc (.cells #[.int .i64 tN, .int .i64 tD] 23)) := K.trans (hy.mono (by omega))
  have h0' := keep hy l0 h0
  have h1' := keep hy l0 h1
  have h2' := keep hy l1 h2
  have h3' := keep hy l1 h3
  have h4' := keep hy l2 h4
  have h5' := keep hy l2 h5
  have l0' := Nat.lt_of_lt_of_le l0 hy.size
  have l1' := Nat.lt_of_lt_of_le l1 hy.size
  have l2' := Nat.lt_of_lt_of_le l2 hy.size
  have r1a' := keep hy q1 r1a
  have r1b' := keep hy q1 r1b
  have q1' := Nat.lt_of_lt_of_le q1 hy.size
  have r2a' := keep hy q2 r2a
  have r2b' := keep hy q2 r2b
  have q2' := Nat.lt_of_lt_of_le q2 hy.size
  have r3a' := keep hy q3 r3a
  have r3b' := keep hy q3 r3b
  have q3' := Nat.lt_of_lt_of_le q3 hy.size
  have r4a' := keep hy q4 r4a
  have r4b' := keep hy q4 r4b
  have q4' := Nat.lt_of_lt_of_le q4 hy.size
  have r5a' := keep hy q5 r5a
  have r5b' := keep hy q5 r5b
  have q5' := Nat.lt_of_lt_of_le q5 hy.size
  have r6a : (u6.alloc (.cells #[.int .i64 tN, .int .i64 tD] 23)).cell? ⟨u6.heap.size, 0, none⟩ = some (.int .i64 tN) := by go_cell
  have r6b : (u6.alloc (.cells #[.int .i64 tN, .int .i64 tD] 23)).cell? ⟨u6.heap.size, 1, none⟩ = some (.int .i64 tD) := by go_cell
  have q6 : u6.heap.size < (u6.alloc (.cells #[.int .i64 tN, .int .i64 tD] 23)).heap.size := by simp
  clear hu hy K h0 h1 h2 h3 h4 h5 l0 l1 l2 r1a r1b q1 r2a r2b q2 r3a r3b q3 r4a r4b q4 r5a r5b q5
  have K := K'
  have h0 := h0'
  have h1 := h1'
  have h2 := h2'
  have h3 := h3'
  have h4 := h4'
  have h5 := h5'
  have l0 := l0'
  have l1 := l1'
  have l2 := l2'
  have r1a := r1a'
  have r1b := r1b'
  have q1 := q1'
  have r2a := r2a'
  have r2b := r2b'
  have q2 := q2'
  have r3a := r3a'
  have r3b := r3b'
  have q3 := q3'
  have r4a := r4a'
  have r4b := r4b'
  have q4 := q4'
  have r5a := r5a'
  have r5b := r5b'
  have q5 := q5'
  clear K' h0' h1' h2' h3' h4' h5' l0' l1' l2' r1a' r1b' q1' r2a' r2b' q2' r3a' r3b' q3' r4a' r4b' q4' r5a' r5b' q5'
  go_wp2_with fail
  generalize (u6.alloc (.cells #[.int .i64 tN, .int .i64 tD] 23)) = y6 at *
  generalize u6.heap.size = t6 at *
  refine (AC.out _).mono ?_
  rintro e u7 ⟨rfl, hu⟩
  have hy : Below y6.heap.size y6 (u7.alloc (.cells #[.int .i64 rN, .int .i64 rD] 23)) := hu.alloc hu.size _
  have K' : Below w.heap.size w (u7.alloc (.cells #[.int .i64 rN, .int .i64 rD] 23)) := K.trans (hy.mono (by omega))
  have h0' := keep hy l0 h0
  have h1' := keep hy l0 h1
  have h2' := keep hy l1 h2
  have h3' := keep hy l1 h3
  have h4' := keep hy l2 h4
  have h5' := keep hy l2 h5
  have l0' := Nat.lt_of_lt_of_le l0 hy.size
  have l1' := Nat.lt_of_lt_of_le l1 hy.size
  have l2' := Nat.lt_of_lt_of_le l2 hy.size
  have r1a' := keep hy q1 r1a
  have r1b' := keep hy q1 r1b
  have q1' := Nat.lt_of_lt_of_le q1 hy.size
  have r2a' := keep hy q2 r2a
  have r2b' := keep hy q2 r2b
  have q2' := Nat.lt_of_lt_of_le q2 hy.size
  have r3a' := keep hy q3 r3a
  have r3b' := keep hy q3 r3b
  have q3' := Nat.lt_of_lt_of_le q3 hy.size
  have r4a' := keep hy q4 r4a
  have r4b' := keep hy q4 r4b
  have q4' := Nat.lt_of_lt_of_le q4 hy.size
  have r5a' := keep hy q5 r5a
  have r5b' := keep hy q5 r5b
  have q5' := Nat.lt_of_lt_of_le q5 hy.size
  have r6a' := keep hy q6 r6a
  have r6b' := keep hy q6 r6b
  have q6' := Nat.lt_of_lt_of_le q6 hy.size
  have r7a : (u7.alloc (.cells #[.int .i64 rN, .int .i64 rD] 23)).cell? ⟨u7.heap.size, 0, none⟩ = some (.int .i64 rN) := by go_cell
  have r7b : (u7.alloc (.cells #[.int .i64 rN, .int .i64 rD] 23)).cell? ⟨u7.heap.size, 1, none⟩ = some (.int .i64 rD) := by go_cell
  have q7 : u7.heap.size < (u7.alloc (.cells #[.int .i64 rN, .int .i64 rD] 23)).heap.size := by simp
  clear hu hy K h0 h1 h2 h3 h4 h5 l0 l1 l2 r1a r1b q1 r2a r2b q2 r3a r3b q3 r4a r4b q4 r5a r5b q5 r6a r6b q6
  have K := K'
  have h0 := h0'
  have h1 := h1'
  have h2 := h2'
  have h3 := h3'
  have h4 := h4'
  have h5 := h5'
  have l0 := l0'
  have l1 := l1'
  have l2 := l2'
  have r1a := r1a'
  have r1b := r1b'
  have q1 := q1'
  have r2a := r2a'
  have r2b := r2b'
  have q2 := q2'
  have r3a := r3a'
  have r3b := r3b'
  have q3 := q3'
  have r4a := r4a'
  have r4b := r4b'
  have q4 := q4'
  have r5a := r5a'
  have r5b := r5b'
  have q5 := q5'
  have r6a := r6a'
  have r6b := r6b'
  have q6 := q6'
  clear K' h0' h1' h2' h3' h4' h5' l0' l1' l2' r1a' r1b' q1' r2a' r2b' q2' r3a' r3b' q3' r4a' r4b' q4' r5a' r5b' q5' r6a' r6b' q6'
  go_wp2_with fail
  generalize (u7.alloc (.cells #[.int .i64 rN, .int .i64 rD] 23)) = y7 at *
  generalize u7.heap.size = t7 at *
  refine (LF.out _).mono ?_
  rintro e u8 ⟨rfl, hu⟩
  have hy : Below y7.heap.size y7 (u8.alloc (.cells #[.int .i64 lN, .int .i64 lD] 23)) := hu.alloc hu.size _
  have K' : Below w.heap.size w (u8.alloc (.cells #[.int .i64 lN, .int .i64 lD] 23)) := K.trans (hy.mono (by omega))
  have h0' := keep hy l0 h0
  have h1' := keep hy l0 h1
  have h2' := keep hy l1 h2
  have h3' := keep hy l1 h3
  have h4' := keep hy l2 h4
  have h5' := keep hy l2 h5
  have l0' := Nat.lt_of_lt_of_le l0 hy.size
  have l1' := Nat.lt_of_lt_of_le l1 hy.size
  have l2' := Nat.lt_of_lt_of_le l2 hy.size
  have r1a' := keep hy q1 r1a
  have r1b' := keep hy q1 r1b
  have q1' := Nat.lt_of_lt_of_le q1 hy.size
  have r2a' := keep hy q2 r2a
  have r2b' := keep hy q2 r2b
  have q2' := Nat.lt_of_lt_of_le q2 hy.size
  have r3a' := keep hy q3 r3a
  have r3b' := keep hy q3 r3b
  have q3' := Nat.lt_of_lt_of_le q3 hy.size
  have r4a' := keep hy q4 r4a
  have r4b' := keep hy q4 r4b
  have q4' := Nat.lt_of_lt_of_le q4 hy.size
  have r5a' := keep hy q5 r5a
  have r5b' := keep hy q5 r5b
  have q5' := Nat.lt_of_lt_of_le q5 hy.size
  have r6a' := keep hy q6 r6a
  have r6b' := keep hy q6 r6b
  have q6' := Nat.lt_of_lt_of_le q6 hy.size
  have r7a' := keep hy q7 r7a
  have r7b' := keep hy q7 r7b
  have q7' := Nat.lt_of_lt_of_le q7 hy.size
  have r8a : (u8.alloc (.cells #[.int .i64 lN, .int .i64 lD] 23)).cell? ⟨u8.heap.size, 0, none⟩ = some (.int .i64 lN) := by go_cell
  have r8b : (u8.alloc (.cells #[.int .i64 lN, .int .i64 lD] 23)).cell? ⟨u8.heap.size, 1, none⟩ = some (.int .i64 lD) := by go_cell
  have q8 : u8.heap.size < (u8.alloc (.cells #[.int .i64 lN, .int .i64 lD] 23)).heap.size := by simp
  clear hu hy K h0 h1 h2 h3 h4 h5 l0 l1 l2 r1a r1b q1 r2a r2b q2 r3a r3b q3 r4a r4b q4 r5a r5b q5 r6a r6b q6 r7a r7b q7
  have K := K'
  have h0 := h0'
  have h1 := h1'
  have h2 := h2'
  have h3 := h3'
  have h4 := h4'
  have h5 := h5'
  have l0 := l0'
  have l1 := l1'
  have l2 := l2'
  have r1a := r1a'
  have r1b := r1b'
  have q1 := q1'
  have r2a := r2a'
  have r2b := r2b'
  have q2 := q2'
  have r3a := r3a'
  have r3b := r3b'
  have q3 := q3'
  have r4a := r4a'
  have r4b := r4b'
  have q4 := q4'
  have r5a := r5a'
  have r5b := r5b'
  have q5 := q5'
  have r6a := r6a'
  have r6b := r6b'
  have q6 := q6'
  have r7a := r7a'
  have r7b := r7b'
  have q7 := q7'
  clear K' h0' h1' h2' h3' h4' h5' l0' l1' l2' r1a' r1b' q1' r2a' r2b' q2' r3a' r3b' q3' r4a' r4b' q4' r5a' r5b' q5' r6a' r6b' q6' r7a' r7b' q7'
  go_wp2_with fail
  generalize (u8.alloc (.cells #[.int .i64 lN, .int .i64 lD] 23)) = y8 at *
  generalize u8.heap.size = t8 at *
  refine (RT.out _).mono ?_
  rintro e u9 ⟨rfl, hu⟩
  have hy : Below y8.heap.size y8 (u9.alloc (.cells #[.int .i64 lN, .int .i64 lD] 23)) := hu.alloc hu.size _
  have K' : Below w.heap.size w (u9.alloc (.cells #[.int .i64 lN, .int .i64 lD] 23)) := K.trans (hy.mono (by omega))
  have h0' := keep hy l0 h0
  have h1' := keep hy l0 h1
  have h2' := keep hy l1 h2
  have h3' := keep hy l1 h3
  have h4' := keep hy l2 h4
  have h5' := keep hy l2 h5
  have l0' := Nat.lt_of_lt_of_le l0 hy.size
  have l1' := Nat.lt_of_lt_of_le l1 hy.size
  have l2' := Nat.lt_of_lt_of_le l2 hy.size
  have r1a' := keep hy q1 r1a
  have r1b' := keep hy q1 r1b
  have q1' := Nat.lt_of_lt_of_le q1 hy.size
  have r2a' := keep hy q2 r2a
  have r2b' := keep hy q2 r2b
  have q2' := Nat.lt_of_lt_of_le q2 hy.size
  have r3a' := keep hy q3 r3a
  have r3b' := keep hy q3 r3b
  have q3' := Nat.lt_of_lt_of_le q3 hy.size
  have r4a' := keep hy q4 r4a
  have r4b' := keep hy q4 r4b
  have q4' := Nat.lt_of_lt_of_le q4 hy.size
  have r5a' := keep hy q5 r5a
  have r5b' := keep hy q5 r5b
  have q5' := Nat.lt_of_lt_of_le q5 hy.size
  have r6a' := keep hy q6 r6a
  have r6b' := keep hy q6 r6b
  have q6' := Nat.lt_of_lt_of_le q6 hy.size
  have r7a' := keep hy q7 r7a
  have r7b' := keep hy q7 r7b
  have q7' := Nat.lt_of_lt_of_le q7 hy.size
  have r8a' := keep hy q8 r8a
  have r8b' := keep hy q8 r8b
  have q8' := Nat.lt_of_lt_of_le q8 hy.size
  have r9a : (u9.alloc (.cells #[.int .i64 lN, .int .i64 lD] 23)).cell? ⟨u9.heap.size, 0, none⟩ = some (.int .i64 lN) := by go_cell
  have r9b : (u9.alloc (.cells #[.int .i64 lN, .int .i64 lD] 23)).cell? ⟨u9.heap.size, 1, none⟩ = some (.int .i64 lD) := by go_cell
  have q9 : u9.heap.size < (u9.alloc (.cells #[.int .i64 lN, .int .i64 lD] 23)).heap.size := by simp
  clear hu hy K h0 h1 h2 h3 h4 h5 l0 l1 l2 r1a r1b q1 r2a r2b q2 r3a r3b q3 r4a r4b q4 r5a r5b q5 r6a r6b q6 r7a r7b q7 r8a r8b q8
  have K := K'
  have h0 := h0'
  have h1 := h1'
  have h2 := h2'
  have h3 := h3'
  have h4 := h4'
  have h5 := h5'
  have l0 := l0'
  have l1 := l1'
  have l2 := l2'
  have r1a := r1a'
  have r1b := r1b'
  have q1 := q1'
  have r2a := r2a'
  have r2b := r2b'
  have q2 := q2'
  have r3a := r3a'
  have r3b := r3b'
  have q3 := q3'
  have r4a := r4a'
  have r4b := r4b'
  have q4 := q4'
  have r5a := r5a'
  have r5b := r5b'
  have q5 := q5'
  have r6a := r6a'
  have r6b := r6b'
  have q6 := q6'
  have r7a := r7a'
  have r7b := r7b'
  have q7 := q7'
  have r8a := r8a'
  have r8b := r8b'
  have q8 := q8'
  clear K' h0' h1' h2' h3' h4' h5' l0' l1' l2' r1a' r1b' q1' r2a' r2b' q2' r3a' r3b' q3' r4a' r4b' q4' r5a' r5b' q5' r6a' r6b' q6' r7a' r7b' q7' r8a' r8b' q8'
  go_wp2_with fail
  generalize (u9.alloc (.cells #[.int .i64 lN, .int .i64 lD] 23)) = y9 at *
  generalize u9.heap.size = t9 at *
  refine (MM.out _).mono ?_
  rintro e u10 ⟨rfl, hu⟩
  have hy : Below y9.heap.size y9 (u10.alloc (.cells #[.int .i64 mN, .int .i64 mD] 23)) := hu.alloc hu.size _
  have K' : Below w.heap.size w (u10.alloc (.cells #[.int .i64 mN, .int .i64 mD] 23)) := K.trans (hy.mono (by omega))
  have h0' := keep hy l0 h0
  have h1' := keep hy l0 h1
  have h2' := keep hy l1 h2
  have h3' := keep hy l1 h3
  have h4' := keep hy l2 h4
  have h5' := keep hy l2 h5
  have l0' := Nat.lt_of_lt_of_le l0 hy.size
  have l1' := Nat.lt_of_lt_of_le l1 hy.size
  have l2' := Nat.lt_of_lt_of_le l2 hy.size
  have r1a' := keep hy q1 r1a
  have r1b' := keep hy q1 r1b
  have q1' := Nat.lt_of_lt_of_le q1 hy.size
  have r2a' := keep hy q2 r2a
  have r2b' := keep hy q2 r2b
  have q2' := Nat.lt_of_lt_of_le q2 hy.size
  have r3a' := keep hy q3 r3a
  have r3b' := keep hy q3 r3b
  have q3' := Nat.lt_of_lt_of_le q3 hy.size
  have r4a' := keep hy q4 r4a
  have r4b' := keep hy q4 r4b
  have q4' := Nat.lt_of_lt_of_le q4 hy.size
  have r5a' := keep hy q5 r5a
  have r5b' := keep hy q5 r5b
  have q5' := Nat.lt_of_lt_of_le q5 hy.size
  have r6a' := keep hy q6 r6a
  have r6b' := keep hy q6 r6b
  have q6' := Nat.lt_of_lt_of_le q6 hy.size
  have r7a' := keep hy q7 r7a
  have r7b' := keep hy q7 r7b
  have q7' := Nat.lt_of_lt_of_le q7 hy.size
  have r8a' := keep hy q8 r8a
  have r8b' := keep hy q8 r8b
  have q8' := Nat.lt_of_lt_of_le q8 hy.size
  have r9a' := keep hy q9 r9a
  have r9b' := keep hy q9 r9b
  have q9' := Nat.lt_of_lt_of_le q9 hy.size
  have r10a : (u10.alloc (.cells #[.int .i64 mN, .int .i64 mD] 23)).cell? ⟨u10.heap.size, 0, none⟩ = some (.int .i64 mN) := by go_cell
  have r10b : (u10.alloc (.cells #[.int .i64 mN, .int .i64 mD] 23)).cell? ⟨u10.heap.size, 1, none⟩ = some (.int .i64 mD) := by go_cell
  have q10 : u10.heap.size < (u10.alloc (.cells #[.int .i64 mN, .int .i64 mD] 23)).heap.size := by simp
  clear hu hy K h0 h1 h2 h3 h4 h5 l0 l1 l2 r1a r1b q1 r2a r2b q2 r3a r3b q3 r4a r4b q4 r5a r5b q5 r6a r6b q6 r7a r7b q7 r8a r8b q8 r9a r9b q9
  have K := K'
  have h0 := h0'
  have h1 := h1'
  have h2 := h2'
  have h3 := h3'
  have h4 := h4'
  have h5 := h5'
  have l0 := l0'
  have l1 := l1'
  have l2 := l2'
  have r1a := r1a'
  have r1b := r1b'
  have q1 := q1'
  have r2a := r2a'
  have r2b := r2b'
  have q2 := q2'
  have r3a := r3a'
  have r3b := r3b'
  have q3 := q3'
  have r4a := r4a'
  have r4b := r4b'
  have q4 := q4'
  have r5a := r5a'
  have r5b := r5b'
  have q5 := q5'
  have r6a := r6a'
  have r6b := r6b'
  have q6 := q6'
  have r7a := r7a'
  have r7b := r7b'
  have q7 := q7'
  have r8a := r8a'
  have r8b := r8b'
  have q8 := q8'
  have r9a := r9a'
  have r9b := r9b'
  have q9 := q9'
  clear K' h0' h1' h2' h3' h4' h5' l0' l1' l2' r1a' r1b' q1' r2a' r2b' q2' r3a' r3b' q3' r4a' r4b' q4' r5a' r5b' q5' r6a' r6b' q6' r7a' r7b' q7' r8a' r8b' q8' r9a' r9b' q9'
  go_wp2_with fail
  generalize (u10.alloc (.cells #[.int .i64 mN, .int .i64 mD] 23)) = y10 at *
  generalize u10.heap.size = t10 at *
  refine (OO.out _).mono ?_
  rintro e u11 ⟨rfl, hu⟩
  have hy : Below y10.heap.size y10 (u11.alloc (.cells #[.int .i64 mN, .int .i64 mD] 23)) := hu.alloc hu.size _
  have K' : Below w.heap.size w (u11.alloc (.cells #[.int .i64 mN, .int .i64 mD] 23)) := K.trans (hy.mono (by omega))
  have h0' := keep hy l0 h0
  have h1' := keep hy l0 h1
  have h2' := keep hy l1 h2
  have h3' := keep hy l1 h3
  have h4' := keep hy l2 h4
  have h5' := keep hy l2 h5
  have l0' := Nat.lt_of_lt_of_le l0 hy.size
  have l1' := Nat.lt_of_lt_of_le l1 hy.size
  have l2' := Nat.lt_of_lt_of_le l2 hy.size
  have r1a' := keep hy q1 r1a
  have r1b' := keep hy q1 r1b
  have q1' := Nat.lt_of_lt_of_le q1 hy.size
  have r2a' := keep hy q2 r2a
  have r2b' := keep hy q2 r2b
  have q2' := Nat.lt_of_lt_of_le q2 hy.size
  have r3a' := keep hy q3 r3a
  have r3b' := keep hy q3 r3b
  have q3' := Nat.lt_of_lt_of_le q3 hy.size
  have r4a' := keep hy q4 r4a
  have r4b' := keep hy q4 r4b
  have q4' := Nat.lt_of_lt_of_le q4 hy.size
  have r5a' := keep hy q5 r5a
  have r5b' := keep hy q5 r5b
  have q5' := Nat.lt_of_lt_of_le q5 hy.size
  have r6a' := keep hy q6 r6a
  have r6b' := keep hy q6 r6b
  have q6' := Nat.lt_of_lt_of_le q6 hy.size
  have r7a' := keep hy q7 r7a
  have r7b' := keep hy q7 r7b
  have q7' := Nat.lt_of_lt_of_le q7 hy.size
  have r8a' := keep hy q8 r8a
  have r8b' := keep hy q8 r8b
  have q8' := Nat.lt_of_lt_of_le q8 hy.size
  have r9a' := keep hy q9 r9a
  have r9b' := keep hy q9 r9b
  have q9' := Nat.lt_of_lt_of_le q9 hy.size
  have r10a' := keep hy q10 r10a
  have r10b' := keep hy q10 r10b
  have q10' := Nat.lt_of_lt_of_le q10 hy.size
  have r11a : (u11.alloc (.cells #[.int .i64 mN, .int .i64 mD] 23)).cell? ⟨u11.heap.size, 0, none⟩ = some (.int .i64 mN) := by go_cell
  have r11b : (u11.alloc (.cells #[.int .i64 mN, .int .i64 mD] 23)).cell? ⟨u11.heap.size, 1, none⟩ = some (.int .i64 mD) := by go_cell
  have q11 : u11.heap.size < (u11.alloc (.cells #[.int .i64 mN, .int .i64 mD] 23)).heap.size := by simp
  clear hu hy K h0 h1 h2 h3 h4 h5 l0 l1 l2 r1a r1b q1 r2a r2b q2 r3a r3b q3 r4a r4b q4 r5a r5b q5 r6a r6b q6 r7a r7b q7 r8a r8b q8 r9a r9b q9 r10a r10b q10
  have K := K'
  have h0 := h0'
  have h1 := h1'
  have h2 := h2'
  have h3 := h3'
  have h4 := h4'
  have h5 := h5'
  have l0 := l0'
  have l1 := l1'
  have l2 := l2'
  have r1a := r1a'
  have r1b := r1b'
  have q1 := q1'
  have r2a := r2a'
  have r2b := r2b'
  have q2 := q2'
  have r3a := r3a'
  have r3b := r3b'
  have q3 := q3'
  have r4a := r4a'
  have r4b := r4b'
  have q4 := q4'
  have r5a := r5a'
  have r5b := r5b'
  have q5 := q5'
  have r6a := r6a'
  have r6b := r6b'
  have q6 := q6'
  have r7a := r7a'
  have r7b := r7b'
  have q7 := q7'
  have r8a := r8a'
  have r8b := r8b'
  have q8 := q8'
  have r9a := r9a'
  have r9b := r9b'
  have q9 := q9'
  have r10a := r10a'
  have r10b := r10b'
  have q10 := q10'
  clear K' h0' h1' h2' h3' h4' h5' l0' l1' l2' r1a' r1b' q1' r2a' r2b' q2' r3a' r3b' q3' r4a' r4b' q4' r5a' r5b' q5' r6a' r6b' q6' r7a' r7b' q7' r8a' r8b' q8' r9a' r9b' q9' r10a' r10b' q10'
  go_wp2_with fail
  generalize (u11.alloc (.cells #[.int .i64 mN, .int .i64 mD] 23)) = y11 at *
  generalize u11.heap.size = t11 at *
  refine (EX.out _).mono ?_
  rintro e z ⟨rfl, hz⟩
  have K := K.trans (hz.mono (by omega))
  go_wp2
  go_ret
  exact ⟨rfl, K⟩
end Go.Proofs.YtnmjenpeiafnkaaDoor.Fr
