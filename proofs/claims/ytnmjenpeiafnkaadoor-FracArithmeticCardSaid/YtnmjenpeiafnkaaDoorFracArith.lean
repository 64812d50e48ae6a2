/- The walk of the law on Add, Sub, Mul, Div and Neg. -/
import Derived.Test.YtnmjenpeiafnkaaDoorExam
import Derived.Test.YtnmjenpeiafnkaaDoorCmp
import Derived.Deep.RegionHeld3
namespace Go.Proofs.YtnmjenpeiafnkaaDoor.Fr
open Go.ChangeShapes Go.WideShapes Go.ChangeAt Go.RowKit
set_option linter.unusedVariables false

set_option maxHeartbeats 32000000 in
theorem law_arith (n1 d1 n2 d2 xsN xsD xsE xdN xdD xdE xmN xmD xmE xqN xqD xqE gN gD : Int) (w : World)
    (A1 : Hid (∀ w, Calls Tryd.prog 17 #[.agg #[.int .i64 n1, .int .i64 d1], .agg #[.int .i64 n2, .int .i64 d2]] w (Ret (Frac3 xsN xsD xsE) w)))
    (A2 : Hid (∀ w, Calls Tryd.prog 18 #[.agg #[.int .i64 n1, .int .i64 d1], .agg #[.int .i64 n2, .int .i64 d2]] w (Ret (Frac3 xsN xsD xsE) w)))
    (S1 : Hid (∀ w, Calls Tryd.prog 19 #[.agg #[.int .i64 n1, .int .i64 d1], .agg #[.int .i64 n2, .int .i64 d2]] w (Ret (Frac3 xdN xdD xdE) w)))
    (S2 : Hid (∀ w, Calls Tryd.prog 20 #[.agg #[.int .i64 n1, .int .i64 d1], .agg #[.int .i64 n2, .int .i64 d2]] w (Ret (Frac3 xdN xdD xdE) w)))
    (M1 : Hid (∀ w, Calls Tryd.prog 21 #[.agg #[.int .i64 n1, .int .i64 d1], .agg #[.int .i64 n2, .int .i64 d2]] w (Ret (Frac3 xmN xmD xmE) w)))
    (M2 : Hid (∀ w, Calls Tryd.prog 22 #[.agg #[.int .i64 n1, .int .i64 d1], .agg #[.int .i64 n2, .int .i64 d2]] w (Ret (Frac3 xmN xmD xmE) w)))
    (D1 : Hid (∀ w, Calls Tryd.prog 23 #[.agg #[.int .i64 n1, .int .i64 d1], .agg #[.int .i64 n2, .int .i64 d2]] w (Ret (Frac3 xqN xqD xqE) w)))
    (D2 : Hid (∀ w, Calls Tryd.prog 24 #[.agg #[.int .i64 n1, .int .i64 d1], .agg #[.int .i64 n2, .int .i64 d2]] w (Ret (Frac3 xqN xqD xqE) w)))
    (G1 : Hid (∀ w, Calls Tryd.prog 25 #[.agg #[.int .i64 n1, .int .i64 d1]] w (Ret (.agg #[.int .i64 gN, .int .i64 gD]) w)))
    (G2 : Hid (∀ w, Calls Tryd.prog 26 #[.agg #[.int .i64 n1, .int .i64 d1]] w (Ret (.agg #[.int .i64 gN, .int .i64 gD]) w)))
    (EX : Hid (∀ w, Calls Tryd.prog 16 #[] w (Ret (.bool true) w))) :
    Calls Tryd.prog 4 #[.agg #[.int .i64 n1, .int .i64 d1], .agg #[.int .i64 n2, .int .i64 d2]] w fun e w' => e = .returned (.bool true) ∧ Below w.heap.size w w' := by
  go_enter Tryd.func4, Tryd.ntmps4
  have K : Below w.heap.size w ((w.alloc (.cells #[.int .i64 n1, .int .i64 d1] 23)).alloc (.cells #[.int .i64 n2, .int .i64 d2] 23)) := below2 _ _ _
  have h0 : ((w.alloc (.cells #[.int .i64 n1, .int .i64 d1] 23)).alloc (.cells #[.int .i64 n2, .int .i64 d2] 23)).cell? ⟨w.heap.size, 0, none⟩ = some (.int .i64 n1) := by go_cell
  have h1 : ((w.alloc (.cells #[.int .i64 n1, .int .i64 d1] 23)).alloc (.cells #[.int .i64 n2, .int .i64 d2] 23)).cell? ⟨w.heap.size, 1, none⟩ = some (.int .i64 d1) := by go_cell
  have h2 : ((w.alloc (.cells #[.int .i64 n1, .int .i64 d1] 23)).alloc (.cells #[.int .i64 n2, .int .i64 d2] 23)).cell? ⟨w.heap.size + 1, 0, none⟩ = some (.int .i64 n2) := by go_cell
  have h3 : ((w.alloc (.cells #[.int .i64 n1, .int .i64 d1] 23)).alloc (.cells #[.int .i64 n2, .int .i64 d2] 23)).cell? ⟨w.heap.size + 1, 1, none⟩ = some (.int .i64 d2) := by go_cell
  have l0 : w.heap.size < ((w.alloc (.cells #[.int .i64 n1, .int .i64 d1] 23)).alloc (.cells #[.int .i64 n2, .int .i64 d2] 23)).heap.size := by simp <;> omega
  have l1 : w.heap.size + 1 < ((w.alloc (.cells #[.int .i64 n1, .int .i64 d1] 23)).alloc (.cells #[.int .i64 n2, .int .i64 d2] 23)).heap.size := by simp <;> omega
  go_wp2_with fail
  generalize ((w.alloc (.cells #[.int .i64 n1, .int .i64 d1] 23)).alloc (.cells #[.int .i64 n2, .int .i64 d2] 23)) = y0 at *
  refine (A1.out _).mono ?_
  rintro e u1 ⟨rfl, hu⟩
  have hy : Below y0.heap.size y0 (u1.alloc (.cells #[.int .i64 xsN, .int .i64 xsD] 23)) := hu.alloc hu.size _
  have K' : Below w.heap.size w (u1.alloc (.cells #[.int .i64 xsN, .int .i64 xsD] 23)) := K.trans (hy.mono (by omega))
  have h0' := keep hy l0 h0
  have h1' := keep hy l0 h1
  have h2' := keep hy l1 h2
  have h3' := keep hy l1 h3
  have l0' := Nat.lt_of_lt_of_le l0 hy.size
  have l1' := Nat.lt_of_lt_of_le l1 hy.size
  have r1a : (u1.alloc (.cells #[.int .i64 xsN, .int .i64 xsD] 23)).cell? ⟨u1.heap.size, 0, none⟩ = some (.int .i64 xsN) := by go_cell
  have r1b : (u1.alloc (.cells #[.int .i64 xsN, .int .i64 xsD] 23)).cell? ⟨u1.heap.size, 1, none⟩ = some (.int .i64 xsD) := by go_cell
  have q1 : u1.heap.size < (u1.alloc (.cells #[.int .i64 xsN, .int .i64 xsD] 23)).heap.size := by simp
  clear hu hy K h0 h1 h2 h3 l0 l1 
  have K := K'
  have h0 := h0'
  have h1 := h1'
  have h2 := h2'
  have h3 := h3'
  have l0 := l0'
  have l1 := l1'
  clear K' h0' h1' h2' h3' l0' l1'
  go_wp2_with fail
  generalize (u1.alloc (.cells #[.int .i64 xsN, .int .i64 xsD] 23)) = y1 at *
  generalize u1.heap.size = t1 at *
  refine (A2.out _).mono ?_
  rintro e u2 ⟨rfl, hu⟩
  have hy : Below y1.heap.size y1 (u2.alloc (.cells #[.int .i64 xsN, .int .i64 xsD] 23)) := hu.alloc hu.size _
  have K' : Below w.heap.size w (u2.alloc (.cells #[.int .i64 xsN, .int .i64 xsD] 23)) := K.trans (hy.mono (by omega))
  have h0' := keep hy l0 h0
  have h1' := keep hy l0 h1
  have h2' := keep hy l1 h2
  have h3' := keep hy l1 h3
  have l0' := Nat.lt_of_lt_of_le l0 hy.size
  have l1' := Nat.lt_of_lt_of_le l1 hy.size
  have r1a' := keep hy q1 r1a
  have r1b' := keep hy q1 r1b
  have q1' := Nat.lt_of_lt_of_le q1 hy.size
  have r2a : (u2.alloc (.cells #[.int .i64 xsN, .int .i64 xsD] 23)).cell? ⟨u2.heap.size, 0, none⟩ = some (.int .i64 xsN) := by go_cell
  have r2b : (u2.alloc (.cells #[.int .i64 xsN, .int .i64 xsD] 23)).cell? ⟨u2.heap.size, 1, none⟩ = some (.int .i64 xsD) := by go_cell
  have q2 : u2.heap.size < (u2.alloc (.cells #[.int .i64 xsN, .int .i64 xsD] 23)).heap.size := by simp
  clear hu hy K h0 h1 h2 h3 l0 l1 r1a r1b q1
  have K := K'
  have h0 := h0'
  have h1 := h1'
  have h2 := h2'
  have h3 := h3'
  have l0 := l0'
  have l1 := l1'
  clear K' h0' h1' h2' h3' l0' l1'
  have r1a := r1a'
  have r1b := r1b'
  have q1 := q1'
  clear r1a' r1b' q1'
  go_wp2_with fail
  generalize (u2.alloc (.cells #[.int .i64 xsN, .int .i64 xsD] 23)) = y2 at *
  generalize u2.heap.size = t2 at *
  refine (S1.out _).mono ?_
  rintro e u3 ⟨rfl, hu⟩
  have hy : Below y2.heap.size y2 (u3.alloc (.cells #[.int .i64 xdN, .int .i64 xdD] 23)) := hu.alloc hu.size _
  have K' : Below w.heap.size w (u3.alloc (.cells #[.int .i64 xdN, .int .i64 xdD] 23)) := K.trans (hy.mono (by omega))
  have h0' := keep hy l0 h0
  have h1' := keep hy l0 h1
  have h2' := keep hy l1 h2
  have h3' := keep hy l1 h3
  have l0' := Nat.lt_of_lt_of_le l0 hy.size
  have l1' := Nat.lt_of_lt_of_le l1 hy.size
  have r1a' := keep hy q1 r1a
  have r1b' := keep hy q1 r1b
  have q1' := Nat.lt_of_lt_of_le q1 hy.size
  have r2a' := keep hy q2 r2a
  have r2b' := keep hy q2 r2b
  have q2' := Nat.lt_of_lt_of_le q2 hy.size
  have r3a : (u3.alloc (.cells #[.int .i64 xdN, .int .i64 xdD] 23)).cell? ⟨u3.heap.size, 0, none⟩ = some (.int .i64 xdN) := by go_cell
  have r3b : (u3.alloc (.cells #[.int .i64 xdN, .int .i64 xdD] 23)).cell? ⟨u3.heap.size, 1, none⟩ = some (.int .i64 xdD) := by go_cell
  have q3 : u3.heap.size < (u3.alloc (.cells #[.int .i64 xdN, .int .i64 xdD] 23)).heap.size := by simp
  clear hu hy K h0 h1 h2 h3 l0 l1 r1a r1b q1 r2a r2b q2
  have K := K'
  have h0 := h0'
  have h1 := h1'
  have h2 := h2'
  have h3 := h3'
  have l0 := l0'
  have l1 := l1'
  clear K' h0' h1' h2' h3' l0' l1'
  have r1a := r1a'
  have r1b := r1b'
  have q1 := q1'
  clear r1a' r1b' q1'
  have r2a := r2a'
  have r2b := r2b'
  have q2 := q2'
  clear r2a' r2b' q2'
  go_wp2_with fail
  generalize (u3.alloc (.cells #[.int .i64 xdN, .int .i64 xdD] 23)) = y3 at *
  generalize u3.heap.size = t3 at *
  refine (S2.out _).mono ?_
  rintro e u4 ⟨rfl, hu⟩
  have hy : Below y3.heap.size y3 (u4.alloc (.cells #[.int .i64 xdN, .int .i64 xdD] 23)) := hu.alloc hu.size _
  have K' : Below w.heap.size w (u4.alloc (.cells #[.int .i64 xdN, .int .i64 xdD] 23)) := K.trans (hy.mono (by omega))
  have h0' := keep hy l0 h0
  have h1' := keep hy l0 h1
  have h2' := keep hy l1 h2
  have h3' := keep hy l1 h3
  have l0' := Nat.lt_of_lt_of_le l0 hy.size
  have l1' := Nat.lt_of_lt_of_le l1 hy.size
  have r1a' := keep hy q1 r1a
  have r1b' := keep hy q1 r1b
  have q1' := Nat.lt_of_lt_of_le q1 hy.size
  have r2a' := keep hy q2 r2a
  have r2b' := keep hy q2 r2b
  have q2' := Nat.lt_of_lt_of_le q2 hy.size
  have r3a' := keep hy q3 r3a
  have r3b' := keep hy q3 r3b
  have q3' := Nat.lt_of_lt_of_le q3 hy.size
  have r4a : (u4.alloc (.cells #[.int .i64 xdN, .int .i64 xdD] 23)).cell? ⟨u4.heap.size, 0, none⟩ = some (.int .i64 xdN) := by go_cell
  have r4b : (u4.alloc (.cells #[.int .i64 xdN, .int .i64 xdD] 23)).cell? ⟨u4.heap.size, 1, none⟩ = some (.int .i64 xdD) := by go_cell
  have q4 : u4.heap.size < (u4.alloc (.cells #[.int .i64 xdN, .int .i64 xdD] 23)).heap.size := by simp
  clear hu hy K h0 h1 h2 h3 l0 l1 r1a r1b q1 r2a r2b q2 r3a r3b q3
  have K := K'
  have h0 := h0'
  have h1 := h1'
  have h2 := h2'
  have h3 := h3'
  have l0 := l0'
  have l1 := l1'
  clear K' h0' h1' h2' h3' l0' l1'
  have r1a := r1a'
  have r1b := r1b'
  have q1 := q1'
  clear r1a' r1b' q1'
  have r2a := r2a'
  have r2b := r2b'
  have q2 := q2'
  clear r2a' r2b' q2'
  have r3a := r3a'
  have r3b := r3b'
  have q3 := q3'
  clear r3a' r3b' q3'
  go_wp2_with fail
  generalize (u4.alloc (.cells #[.int .i64 xdN, .int .i64 xdD] 23)) = y4 at *
  generalize u4.heap.size = t4 at *
  refine (M1.out _).mono ?_
  rintro e u5 ⟨rfl, hu⟩
  have hy : Below y4.heap.size y4 (u5.alloc (.cells #[.int .i64 xmN, .int .i64 xmD] 23)) := hu.alloc hu.size _
  have K' : Below w.heap.size w (u5.alloc (.cells #[.int .i64 xmN, .int .i64 xmD] 23)) := K.trans (hy.mono (by omega))
  have h0' := keep hy l0 h0
  have h1' := keep hy l0 h1
  have h2' := keep hy l1 h2
  have h3' := keep hy l1 h3
  have l0' := Nat.lt_of_lt_of_le l0 hy.size
  have l1' := Nat.lt_of_lt_of_le l1 hy.size
  have r1a' := keep hy q1 r1a
  have r1b' := keep hy q1 r1b
  have q1' := Nat.lt_of_lt_of_le q1 hy.size
  have r2a' := keep hy q2 r2a
  have r2b' := keep hy q2 r2b
  have q2' := Nat.lt_of_lt_of_le q2 hy.size
  have r3a' := keep hy q3 r3a
  have r3b' := keep hy q3 r3b
  have q3' := Nat.lt_of_lt_of_le q3 hy.size
  have r4a' := keep hy q4 r4a
  have r4b' := keep hy q4 r4b
  have q4' := Nat.lt_of_lt_of_le q4 hy.size
  have r5a : (u5.alloc (.cells #[.int .i64 xmN, .int .i64 xmD] 23)).cell? ⟨u5.heap.size, 0, none⟩ = some (.int .i64 xmN) := by go_cell
  have r5b : (u5.alloc (.cells #[.int .i64 xmN, .int .i64 xmD] 23)).cell? ⟨u5.heap.size, 1, none⟩ = some (.int .i64 xmD) := by go_cell
  have q5 : u5.heap.size < (u5.alloc (.cells #[.int .i64 xmN, .int .i64 xmD] 23)).heap.size := by simp
  clear hu hy K h0 h1 h2 h3 l0 l1 r1a r1b q1 r2a r2b q2 r3a r3b q3 r4a r4b q4
  have K := K'
  have h0 := h0'
  have h1 := h1'
  have h2 := h2'
  have h3 := h3'
  have l0 := l0'
  have l1 := l1'
  clear K' h0' h1' h2' h3' l0' l1'
  have r1a := r1a'
  have r1b := r1b'
  have q1 := q1'
  clear r1a' r1b' q1'
  have r2a := r2a'
  have r2b := r2b'
  have q2 := q2'
  clear r2a' r2b' q2'
  have r3a := r3a'
  have r3b := r3b'
  have q3 := q3'
  clear r3a' r3b' q3'
  have r4a := r4a'
  have r4b := r4b'
  have q4 := q4'
  clear r4a' r4b' q4'
  go_wp2_with fail
  generalize (u5.alloc (.cells #[.int .i64 xmN, .int .i64 xmD] 23)) = y5 at *
  generalize u5.heap.size = t5 at *
  refine (M2.out _).mono ?_
  rintro e u6 ⟨rfl, hu⟩
  have hy : Below y5.heap.size y5 (u6.alloc (.cells #[.int .i64 xmN, .int .i64 xmD] 23)) := hu.alloc hu.size _
  have K' : Below w.heap.size w (u6.alloc (.cells #[.int .i64 xmN, .int .i64 xmD] 23)) := K.trans (hy.mono (by omega))
  have h0' := keep hy l0 h0
  have h1' := keep hy l0 h1
  have h2' := keep hy l1 h2
  have h3' := keep hy l1 h3
  have l0' := Nat.lt_of_lt_of_le l0 hy.size
  have l1' := Nat.lt_of_lt_of_le l1 hy.size
  have r1a' := keep hy q1 r1a
  have r1b' := keep hy q1 r1b
  have q1' := Nat.lt_of_lt_of_le q1 hy.size
  have r2a' := keep hy q2 r2a
  have r2b' := keep hy q2 r2b
  have q2' := Nat.lt_of_lt_of_le q2 hy.size
  have r3a' := keep hy q3 r3a
  have r3b' := keep hy q3 r3b
  have q3' := Nat.lt_of_lt_of_le q3 hy.size
  have r4a' := keep hy q4 r4a
  have r4b' := keep hy q4 r4b
  have q4' := Nat.lt_of_lt_of_le q4 hy.size
  have r5a' := keep hy q5 r5a
  have r5b' := keep hy q5 r5b
  have q5' := Nat.lt_of_lt_of_le q5 hy.size
  have r6a : (u6.alloc (.cells #[.int .i64 xmN, .int .i64 xmD] 23)).cell? ⟨u6.heap.size, 0, none⟩ = some (.int .i64 xmN) := by go_cell
  have r6b : (u6.alloc (.cells #[.int .i64 xmN, .int .i64 xmD] 23)).cell? ⟨u6.heap.size, 1, none⟩ = some (.int .i64 xmD) := by go_cell
  have q6 : u6.heap.size < (u6.alloc (.cells #[.int .i64 xmN, .int .i64 xmD] 23)).heap.size := by simp
  clear hu hy K h0 h1 h2 h3 l0 l1 r1a r1b q1 r2a r2b q2 r3a r3b q3 r4a r4b q4 r5a r5b q5
  have K := K'
  have h0 := h0'
  have h1 := h1'
  have h2 := h2'
  have h3 := h3'
  have l0 := l0'
  have l1 := l1'
  clear K' h0' h1' h2' h3' l0' l1'
  have r1a := r1a'
  have r1b := r1b'
  have q1 := q1'
  clear r1a' r1b' q1'
  have r2a := r2a'
  have r2b := r2b'
  have q2 := q2'
  clear r2a' r2b' q2'
  have r3a := r3a'
  have r3b := r3b'
  have q3 := q3'
  clear r3a' r3b' q3'
  have r4a := r4a'
  have r4b := r4b'
  have q4 := q4'
  clear r4a' r4b' q4'
  have r5a := r5a'
  have r5b := r5b'
  have q5 := q5'
  clear r5a' r5b' q5'
  go_wp2_with fail
  generalize (u6.alloc (.cells #[.int .i64 xmN, .int .i64 xmD] 23)) = y6 at *
  generalize u6.heap.size = t6 at *
  refine (D1.out _).mono ?_
  rintro e u7 ⟨rfl, hu⟩
  have hy : Below y6.heap.size y6 (u7.alloc (.cells #[.int .i64 xqN, .int .i64 xqD] 23)) := hu.alloc hu.size _
  have K' : Below w.heap.size w (u7.alloc (.cells #[.int .i64 xqN, .int .i64 xqD] 23)) := K.trans (hy.mono (by omega))
  have h0' := keep hy l0 h0
  have h1' := keep hy l0 h1
  have h2' := keep hy l1 h2
  have h3' := keep hy l1 h3
  have l0' := Nat.lt_of_lt_of_le l0 hy.size
  have l1' := Nat.lt_of_lt_of_le l1 hy.size
  have r1a' := keep hy q1 r1a
  have r1b' := keep hy q1 r1b
  have q1' := Nat.lt_of_lt_of_le q1 hy.size
  have r2a' := keep hy q2 r2a
  have r2b' := keep hy q2 r2b
  have q2' := Nat.lt_of_lt_of_le q2 hy.size
  have r3a' := keep hy q3 r3a
  have r3b' := keep hy q3 r3b
  have q3' := Nat.lt_of_lt_of_le q3 hy.size
  have r4a' := keep hy q4 r4a
  have r4b' := keep hy q4 r4b
  have q4' := Nat.lt_of_lt_of_le q4 hy.size
  have r5a' := keep hy q5 r5a
  have r5b' := keep hy q5 r5b
  have q5' := Nat.lt_of_lt_of_le q5 hy.size
  have r6a' := keep hy q6 r6a
  have r6b' := keep hy q6 r6b
  have q6' := Nat.lt_of_lt_of_le q6 hy.size
  have r7a : (u7.alloc (.cells #[.int .i64 xqN, .int .i64 xqD] 23)).cell? ⟨u7.heap.size, 0, none⟩ = some (.int .i64 xqN) := by go_cell
  have r7b : (u7.alloc (.cells #[.int .i64 xqN, .int .i64 xqD] 23)).cell? ⟨u7.heap.size, 1, none⟩ = some (.int .i64 xqD) := by go_cell
  have q7 : u7.heap.size < (u7.alloc (.cells #[.int .i64 xqN, .int .i64 xqD] 23)).heap.size := by simp
  clear hu hy K h0 h1 h2 h3 l0 l1 r1a r1b q1 r2a r2b q2 r3a r3b q3 r4a r4b q4 r5a r5b q5 r6a r6b q6
  have K := K'
  have h0 := h0'
  have h1 := h1'
  have h2 := h2'
  have h3 := h3'
  have l0 := l0'
  have l1 := l1'
  clear K' h0' h1' h2' h3' l0' l1'
  have r1a := r1a'
  have r1b := r1b'
  have q1 := q1'
  clear r1a' r1b' q1'
  have r2a := r2a'
  have r2b := r2b'
  have q2 := q2'
  clear r2a' r2b' q2'
  have r3a := r3a'
  have r3b := r3b'
  have q3 := q3'
  clear r3a' r3b' q3'
  have r4a := r4a'
  have r4b := r4b'
  have q4 := q4'
  clear r4a' r4b' q4'
  have r5a := r5a'
  have r5b := r5b'
  have q5 := q5'
  clear r5a' r5b' q5'
  have r6a := r6a'
  have r6b := r6b'
  have q6 := q6'
  clear r6a' r6b' q6'
  go_wp2_with fail
  generalize (u7.alloc (.cells #[.int .i64 xqN, .int .i64 xqD] 23)) = y7 at *
  generalize u7.heap.size = t7 at *
  refine (D2.out _).mono ?_
  rintro e u8 ⟨rfl, hu⟩
  have hy : Below y7.heap.size y7 (u8.alloc (.cells #[.int .i64 xqN, .int .i64 xqD] 23)) := hu.alloc hu.size _
  have K' : Below w.heap.size w (u8.alloc (.cells #[.int .i64 xqN, .int .i64 xqD] 23)) := K.trans (hy.mono (by omega))
  have h0' := keep hy l0 h0
  have h1' := keep hy l0 h1
  have h2' := keep hy l1 h2
  have h3' := keep hy l1 h3
  have l0' := Nat.lt_of_lt_of_le l0 hy.size
  have l1' := Nat.lt_of_lt_of_le l1 hy.size
  have r1a' := keep hy q1 r1a
  have r1b' := keep hy q1 r1b
  have q1' := Nat.lt_of_lt_of_le q1 hy.size
  have r2a' := keep hy q2 r2a
  have r2b' := keep hy q2 r2b
  have q2' := Nat.lt_of_lt_of_le q2 hy.size
  have r3a' := keep hy q3 r3a
  have r3b' := keep hy q3 r3b
  have q3' := Nat.lt_of_lt_of_le q3 hy.size
  have r4a' := keep hy q4 r4a
  have r4b' := keep hy q4 r4b
  have q4' := Nat.lt_of_lt_of_le q4 hy.size
  have r5a' := keep hy q5 r5a
  have r5b' := keep hy q5 r5b
  have q5' := Nat.lt_of_lt_of_le q5 hy.size
  have r6a' := keep hy q6 r6a
  have r6b' := keep hy q6 r6b
  have q6' := Nat.lt_of_lt_of_le q6 hy.size
  have r7a' := keep hy q7 r7a
  have r7b' := keep hy q7 r7b
  have q7' := Nat.lt_of_lt_of_le q7 hy.size
  have r8a : (u8.alloc (.cells #[.int .i64 xqN, .int .i64 xqD] 23)).cell? ⟨u8.heap.size, 0, none⟩ = some (.int .i64 xqN) := by go_cell
  have r8b : (u8.alloc (.cells #[.int .i64 xqN, .int .i64 xqD] 23)).cell? ⟨u8.heap.size, 1, none⟩ = some (.int .i64 xqD) := by go_cell
  have q8 : u8.heap.size < (u8.alloc (.cells #[.int .i64 xqN, .int .i64 xqD] 23)).heap.size := by simp
  clear hu hy K h0 h1 h2 h3 l0 l1 r1a r1b q1 r2a r2b q2 r3a r3b q3 r4a r4b q4 r5a r5b q5 r6a r6b q6 r7a r7b q7
  have K := K'
  have h0 := h0'
  have h1 := h1'
  have h2 := h2'
  have h3 := h3'
  have l0 := l0'
  have l1 := l1'
  clear K' h0' h1' h2' h3' l0' l1'
  have r1a := r1a'
  have r1b := r1b'
  have q1 := q1'
  clear r1a' r1b' q1'
  have r2a := r2a'
  have r2b := r2b'
  have q2 := q2'
  clear r2a' r2b' q2'
  have r3a := r3a'
  have r3b := r3b'
  have q3 := q3'
  clear r3a' r3b' q3'
  have r4a := r4a'
  have r4b := r4b'
  have q4 := q4'
  clear r4a' r4b' q4'
  have r5a := r5a'
  have r5b := r5b'
  have q5 := q5'
  clear r5a' r5b' q5'
  have r6a := r6a'
  have r6b := r6b'
  have q6 := q6'
  clear r6a' r6b' q6'
  have r7a := r7a'
  have r7b := r7b'
  have q7 := q7'
  clear r7a' r7b' q7'
  go_wp2_with fail
  generalize (u8.alloc (.cells #[.int .i64 xqN, .int .i64 xqD] 23)) = y8 at *
  generalize u8.heap.size = t8 at *
  have HS : Hid (∀ w', Below y8.heap.size y8 w' → w'.cell? ⟨w.heap.size, 0, none⟩ = some (.int .i64 n1) ∧ w'.cell? ⟨w.heap.size, 1, none⟩ = some (.int .i64 d1) ∧ w'.cell? ⟨t1, 0, none⟩ = some (.int .i64 xsN) ∧ w'.cell? ⟨t1, 1, none⟩ = some (.int .i64 xsD) ∧ w'.cell? ⟨t2, 0, none⟩ = some (.int .i64 xsN) ∧ w'.cell? ⟨t2, 1, none⟩ = some (.int .i64 xsD) ∧ w'.cell? ⟨t3, 0, none⟩ = some (.int .i64 xdN) ∧ w'.cell? ⟨t3, 1, none⟩ = some (.int .i64 xdD) ∧ w'.cell? ⟨t4, 0, none⟩ = some (.int .i64 xdN) ∧ w'.cell? ⟨t4, 1, none⟩ = some (.int .i64 xdD) ∧ w'.cell? ⟨t5, 0, none⟩ = some (.int .i64 xmN) ∧ w'.cell? ⟨t5, 1, none⟩ = some (.int .i64 xmD) ∧ w'.cell? ⟨t6, 0, none⟩ = some (.int .i64 xmN) ∧ w'.cell? ⟨t6, 1, none⟩ = some (.int .i64 xmD) ∧ w'.cell? ⟨t7, 0, none⟩ = some (.int .i64 xqN) ∧ w'.cell? ⟨t7, 1, none⟩ = some (.int .i64 xqD) ∧ w'.cell? ⟨t8, 0, none⟩ = some (.int .i64 xqN) ∧ w'.cell? ⟨t8, 1, none⟩ = some (.int .i64 xqD) ∧ Below y8.heap.size y8 w') := Lib.hid (fun w' h => ⟨keep h l0 h0, keep h l0 h1, keep h q1 r1a, keep h q1 r1b, keep h q2 r2a, keep h q2 r2b, keep h q3 r3a, keep h q3 r3b, keep h q4 r4a, keep h q4 r4b, keep h q5 r5a, keep h q5 r5b, keep h q6 r6a, keep h q6 r6b, keep h q7 r7a, keep h q7 r7b, keep h q8 r8a, keep h q8 r8b, h⟩)
  clear h0 h1 h2 h3 l1 r1a r1b q1 r2a r2b q2 r3a r3b q3 r4a r4b q4 r5a r5b q5 r6a r6b q6 r7a r7b q7 r8a r8b q8
  go_region_held3 (fun w' => w'.cell? ⟨w.heap.size, 0, none⟩ = some (.int .i64 n1) ∧ w'.cell? ⟨w.heap.size, 1, none⟩ = some (.int .i64 d1) ∧ w'.cell? ⟨t1, 0, none⟩ = some (.int .i64 xsN) ∧ w'.cell? ⟨t1, 1, none⟩ = some (.int .i64 xsD) ∧ w'.cell? ⟨t2, 0, none⟩ = some (.int .i64 xsN) ∧ w'.cell? ⟨t2, 1, none⟩ = some (.int .i64 xsD) ∧ w'.cell? ⟨t3, 0, none⟩ = some (.int .i64 xdN) ∧ w'.cell? ⟨t3, 1, none⟩ = some (.int .i64 xdD) ∧ w'.cell? ⟨t4, 0, none⟩ = some (.int .i64 xdN) ∧ w'.cell? ⟨t4, 1, none⟩ = some (.int .i64 xdD) ∧ w'.cell? ⟨t5, 0, none⟩ = some (.int .i64 xmN) ∧ w'.cell? ⟨t5, 1, none⟩ = some (.int .i64 xmD) ∧ w'.cell? ⟨t6, 0, none⟩ = some (.int .i64 xmN) ∧ w'.cell? ⟨t6, 1, none⟩ = some (.int .i64 xmD) ∧ w'.cell? ⟨t7, 0, none⟩ = some (.int .i64 xqN) ∧ w'.cell? ⟨t7, 1, none⟩ = some (.int .i64 xqD) ∧ w'.cell? ⟨t8, 0, none⟩ = some (.int .i64 xqN) ∧ w'.cell? ⟨t8, 1, none⟩ = some (.int .i64 xqD) ∧ Below y8.heap.size y8 w') (first | exact HS.out _ (by assumption) | exact HS.out _ (Below.drew (Below.refl _ _)) | exact HS.out _ (Below.refl _ _) | exact HS.out _ (Below.drew (by assumption)))
    (first | (go_at_call 25; obtain ⟨_, _, _, _, _, _, _, _, _, _, _, _, _, _, _, _, _, _, iB⟩ := ‹_ ∧ _ ∧ _ ∧ _ ∧ _ ∧ _ ∧ _ ∧ _ ∧ _ ∧ _ ∧ _ ∧ _ ∧ _ ∧ _ ∧ _ ∧ _ ∧ _ ∧ _ ∧ Below _ _ _›; ((with_reducible refine (G1.out _).mono ?_); rintro e u ⟨rfl, hb⟩); have jB := iB.trans (hb.mono iB.size)) | (go_at_call 26; obtain ⟨_, _, _, _, _, _, _, _, _, _, _, _, _, _, _, _, _, _, iB⟩ := ‹_ ∧ _ ∧ _ ∧ _ ∧ _ ∧ _ ∧ _ ∧ _ ∧ _ ∧ _ ∧ _ ∧ _ ∧ _ ∧ _ ∧ _ ∧ _ ∧ _ ∧ _ ∧ Below _ _ _›; ((with_reducible refine (G2.out _).mono ?_); rintro e u ⟨rfl, hb⟩); have jB := iB.trans (hb.mono iB.size)) | (go_at_call 16; obtain ⟨_, _, _, _, _, _, _, _, _, _, _, _, _, _, _, _, _, _, iB⟩ := ‹_ ∧ _ ∧ _ ∧ _ ∧ _ ∧ _ ∧ _ ∧ _ ∧ _ ∧ _ ∧ _ ∧ _ ∧ _ ∧ _ ∧ _ ∧ _ ∧ _ ∧ _ ∧ Below _ _ _›; ((with_reducible refine (EX.out _).mono ?_); rintro e u ⟨rfl, hb⟩); have jB := iB.trans (hb.mono iB.size)))
  clear HS
  go_wp2
  go_ret
  exact ⟨rfl, K.trans (jB.mono (by omega))⟩
end Go.Proofs.YtnmjenpeiafnkaaDoor.Fr
