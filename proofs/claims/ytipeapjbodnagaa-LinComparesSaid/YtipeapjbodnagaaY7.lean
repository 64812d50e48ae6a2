/- Linear forms: the statement on the order. -/
import Derived.Test.YtipeapjbodnagaaY5
import Derived.Test.YtipeapjbodnagaaY6
namespace Go.Proofs.Ytipeapjbodnagaa.Ln
open Go.ChangeShapes Go.WideShapes Go.ChangeAt Go.RowKit
set_option linter.unusedVariables false

set_option maxRecDepth 100000 in
set_option maxHeartbeats 8000000 in
theorem law_cmp (k : Int) (p : Option Addr) (xs : List Mo) (c : Nat) (k' : Int) (q : Option Addr) (ys : List Mo) (d : Nat) (w : World) (hn : xs.length ≤ maxLen) (hm : ys.length ≤ maxLen) (RA : Hid (SlM w p xs)) (RB : Hid (SlM w q ys)) :
    Calls Try.prog 5 #[Lv k p xs.length c, Lv k' q ys.length d] w fun e w' => e = .returned (.bool true) ∧ Below w.heap.size w w' := by
  have EX := Lib.hid alive
  have CA := Lib.hid fun w R1 => small k p xs c w hn R1
  have CB := Lib.hid fun w R1 => small k' q ys d w hm R1
  have C1 := fun w R1 R2 => cmp1 k p xs c k' q ys d w hn hm R1 R2
  have C2 := fun w R1 R2 => cmp2 k p xs c k' q ys d w hn hm R1 R2
  have C3 := fun w R1 R2 => cmp1 k' q ys d k p xs c w hm hn R1 R2
  have C4 := fun w R1 R2 => same1 k p xs c k' q ys d w hn hm R1 R2
  rw [cl_swap k xs k' ys] at C3
  have hbd := cl_bd k xs k' ys
  generalize cl k xs k' ys = m at *
  have C1 := Lib.hid C1
  have C2 := Lib.hid C2
  have C3 := Lib.hid C3
  have C4 := Lib.hid C4
  have K : Below w.heap.size w ((w.alloc (Obj.cells #[Value.int .i64 k, Value.slice p xs.length c] 24)).alloc (Obj.cells #[Value.int .i64 k', Value.slice q ys.length d] 24)) := two_below _ _
  have S0 := two_size (w := w) (Obj.cells #[Value.int .i64 k, Value.slice p xs.length c] 24) (Obj.cells #[Value.int .i64 k', Value.slice q ys.length d] 24)
  have f0 : (((w.alloc (Obj.cells #[Value.int .i64 k, Value.slice p xs.length c] 24)).alloc (Obj.cells #[Value.int .i64 k', Value.slice q ys.length d] 24))).cell? ⟨w.heap.size, 0, none⟩ = some (.int .i64 k) := by go_cell
  have f1 : (((w.alloc (Obj.cells #[Value.int .i64 k, Value.slice p xs.length c] 24)).alloc (Obj.cells #[Value.int .i64 k', Value.slice q ys.length d] 24))).cell? ⟨w.heap.size, 1, none⟩ = some (.slice p xs.length c) := by go_cell
  have g0 : (((w.alloc (Obj.cells #[Value.int .i64 k, Value.slice p xs.length c] 24)).alloc (Obj.cells #[Value.int .i64 k', Value.slice q ys.length d] 24))).cell? ⟨w.heap.size + 1, 0, none⟩ = some (.int .i64 k') := by go_cell
  have g1 : (((w.alloc (Obj.cells #[Value.int .i64 k, Value.slice p xs.length c] 24)).alloc (Obj.cells #[Value.int .i64 k', Value.slice q ys.length d] 24))).cell? ⟨w.heap.size + 1, 1, none⟩ = some (.slice q ys.length d) := by go_cell
  unfold Lv at *
  have hm3 : m = -1 ∨ m = 0 ∨ m = 1 := by omega
  clear hbd
  go_enter Try.func5, Try.ntmps5
  go_wp2_with fail
  generalize ((w.alloc (Obj.cells #[Value.int .i64 k, Value.slice p xs.length c] 24)).alloc (Obj.cells #[Value.int .i64 k', Value.slice q ys.length d] 24)) = z at *
  obtain ⟨s1, s2⟩ := S0
  go_wp2_with fail
  refine (CA.out _ (Lib.hid (SlM.keep K RA.out))).mono ?_
  rintro e wn ⟨⟨v1, rfl⟩, hb⟩
  replace f0 := kp hb s1 f0
  replace f1 := kp hb s1 f1
  replace g0 := kp hb s2 g0
  replace g1 := kp hb s2 g1
  replace s1 := Nat.lt_of_lt_of_le s1 hb.size
  replace s2 := Nat.lt_of_lt_of_le s2 hb.size
  replace K := K.trans (hb.mono K.size)
  clear hb
  cases v1
  case false =>
    go_wp2_with fail
    refine (EX.out _).mono ?_
    rintro e wn ⟨rfl, hb⟩
    go_wp2
    go_ret
    exact ⟨rfl, K.trans (hb.mono K.size)⟩
  case true =>
    go_wp2_with fail
    refine (CB.out _ (Lib.hid (SlM.keep K RB.out))).mono ?_
    rintro e wn ⟨⟨v2, rfl⟩, hb⟩
    replace f0 := kp hb s1 f0
    replace f1 := kp hb s1 f1
    replace g0 := kp hb s2 g0
    replace g1 := kp hb s2 g1
    replace s1 := Nat.lt_of_lt_of_le s1 hb.size
    replace s2 := Nat.lt_of_lt_of_le s2 hb.size
    replace K := K.trans (hb.mono K.size)
    clear hb
    cases v2
    case false =>
      go_wp2_with fail
      refine (EX.out _).mono ?_
      rintro e wn ⟨rfl, hb⟩
      go_wp2
      go_ret
      exact ⟨rfl, K.trans (hb.mono K.size)⟩
    case true =>
      rcases hm3 with rfl | rfl | rfl
      all_goals
        go_wp2_with fail
        refine (C1.out _ (Lib.hid (SlM.keep K RA.out)) (Lib.hid (SlM.keep K RB.out))).mono ?_
        rintro e wn ⟨rfl, hb⟩
        replace f0 := kp hb s1 f0
        replace f1 := kp hb s1 f1
        replace g0 := kp hb s2 g0
        replace g1 := kp hb s2 g1
        replace s1 := Nat.lt_of_lt_of_le s1 hb.size
        replace s2 := Nat.lt_of_lt_of_le s2 hb.size
        replace K := K.trans (hb.mono K.size)
        clear hb
        go_wp2_with fail
        refine (C2.out _ (Lib.hid (SlM.keep K RA.out)) (Lib.hid (SlM.keep K RB.out))).mono ?_
        rintro e wn ⟨rfl, hb⟩
        replace f0 := kp hb s1 f0
        replace f1 := kp hb s1 f1
        replace g0 := kp hb s2 g0
        replace g1 := kp hb s2 g1
        replace s1 := Nat.lt_of_lt_of_le s1 hb.size
        replace s2 := Nat.lt_of_lt_of_le s2 hb.size
        replace K := K.trans (hb.mono K.size)
        clear hb
        go_wp2_with fail
        refine (C3.out _ (Lib.hid (SlM.keep K RB.out)) (Lib.hid (SlM.keep K RA.out))).mono ?_
        rintro e wn ⟨rfl, hb⟩
        replace f0 := kp hb s1 f0
        replace f1 := kp hb s1 f1
        replace g0 := kp hb s2 g0
        replace g1 := kp hb s2 g1
        replace s1 := Nat.lt_of_lt_of_le s1 hb.size
        replace s2 := Nat.lt_of_lt_of_le s2 hb.size
        replace K := K.trans (hb.mono K.size)
        clear hb
        go_wp2_with fail
        refine (C4.out _ (Lib.hid (SlM.keep K RA.out)) (Lib.hid (SlM.keep K RB.out))).mono ?_
        rintro e wn ⟨rfl, hb⟩
        replace f0 := kp hb s1 f0
        replace f1 := kp hb s1 f1
        replace g0 := kp hb s2 g0
        replace g1 := kp hb s2 g1
        replace s1 := Nat.lt_of_lt_of_le s1 hb.size
        replace s2 := Nat.lt_of_lt_of_le s2 hb.size
        replace K := K.trans (hb.mono K.size)
        clear hb
        go_wp2_with fail
        refine (EX.out _).mono ?_
        rintro e wn ⟨rfl, hb⟩
        go_wp2
        go_ret
        exact ⟨rfl, K.trans (hb.mono K.size)⟩
end Go.Proofs.Ytipeapjbodnagaa.Ln
