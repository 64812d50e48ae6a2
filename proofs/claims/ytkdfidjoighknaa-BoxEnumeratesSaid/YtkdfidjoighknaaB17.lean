/- Boxes: Range where it refuses. -/
import Derived.Test.YtkdfidjoighknaaB16
namespace Go.Proofs.Ytkdfidjoighknaa.Bx
open Go.ChangeShapes Go.WideShapes Go.ChangeAt Go.RowKit
set_option linter.unusedVariables false
set_option linter.unusedSimpArgs false
open Go.Proofs.Ytkdfidjoighknaa.Nm Go.Proofs.Ytkdfidjoighknaa.Ln
def F64 (x : Int) : Prop := -9223372036854775808 ≤ x ∧ x ≤ 9223372036854775807
instance (x : Int) : Decidable (F64 x) := inferInstanceAs (Decidable (_ ∧ _))
def stp (zs : List Int) (ns : List ByteArray) (m : Mo) (a : Int × Int) : Option (Int × Int) :=
  if m.2 < 0 then (if F64 (m.2 * (zs.getD (fx ns m.1) 0 - 1)) ∧ F64 (a.1 + m.2 * (zs.getD (fx ns m.1) 0 - 1)) then some (a.1 + m.2 * (zs.getD (fx ns m.1) 0 - 1), a.2) else none)
  else (if F64 (m.2 * (zs.getD (fx ns m.1) 0 - 1)) ∧ F64 (a.2 + m.2 * (zs.getD (fx ns m.1) 0 - 1)) then some (a.1, a.2 + m.2 * (zs.getD (fx ns m.1) 0 - 1)) else none)
def rfo (zs : List Int) (ns : List ByteArray) : List Mo → Int × Int → Option (Int × Int)
  | [], a => some a
  | m :: ms, a => match stp zs ns m a with
    | none => none
    | some b => rfo zs ns ms b
def kn (ns : List ByteArray) (m : Mo) : Bool := decide (fx ns m.1 < ns.length)
/-- The answer of Range. -/
def rT (k : Int) (xs : List Mo) (ns : List ByteArray) (zs : List Int) : Int × Int × Int :=
  if okL xs = true then (if bV zs = 0 then (if ns.length = zs.length ∧ cnt zs ≠ 0 then (if xs.all (kn ns) = true then (match rfo zs ns xs (k, k) with
    | none => (0, 0, 3)
    | some p => (p.1, p.2, 0)) else (0, 0, 9)) else (0, 0, 1)) else (0, 0, bV zs)) else (0, 0, 1)
theorem rT1 {k : Int} {xs : List Mo} {ns : List ByteArray} {zs : List Int} (h : ¬ okL xs = true) : rT k xs ns zs = (0, 0, 1) := if_neg h
theorem rT2 {k : Int} {xs : List Mo} {ns : List ByteArray} {zs : List Int} (h : okL xs = true) (h2 : ¬ bV zs = 0) : rT k xs ns zs = (0, 0, bV zs) := by unfold rT; rw [if_pos h, if_neg h2]
theorem rT3 {k : Int} {xs : List Mo} {ns : List ByteArray} {zs : List Int} (h : okL xs = true) (h2 : bV zs = 0) (h3 : ¬ (ns.length = zs.length ∧ cnt zs ≠ 0)) : rT k xs ns zs = (0, 0, 1) := by unfold rT; rw [if_pos h, if_pos h2, if_neg h3]
theorem rT4 {k : Int} {xs : List Mo} {ns : List ByteArray} {zs : List Int} (h : okL xs = true) (h2 : bV zs = 0) (h3 : ns.length = zs.length ∧ cnt zs ≠ 0) (h4 : ¬ xs.all (kn ns) = true) : rT k xs ns zs = (0, 0, 9) := by unfold rT; rw [if_pos h, if_pos h2, if_pos h3, if_neg h4]
theorem rT5 {k : Int} {xs : List Mo} {ns : List ByteArray} {zs : List Int} (h : okL xs = true) (h2 : bV zs = 0) (h3 : ns.length = zs.length ∧ cnt zs ≠ 0) (h4 : xs.all (kn ns) = true) (h5 : rfo zs ns xs (k, k) = none) : rT k xs ns zs = (0, 0, 3) := by unfold rT; rw [if_pos h, if_pos h2, if_pos h3, if_pos h4, h5]
theorem rT6 {k : Int} {xs : List Mo} {ns : List ByteArray} {zs : List Int} (h : okL xs = true) (h2 : bV zs = 0) (h3 : ns.length = zs.length ∧ cnt zs ≠ 0) (h4 : xs.all (kn ns) = true) {p : Int × Int} (h5 : rfo zs ns xs (k, k) = some p) : rT k xs ns zs = (p.1, p.2, 0) := by unfold rT; rw [if_pos h, if_pos h2, if_pos h3, if_pos h4, h5]
theorem getM {xs : List Mo} {j : Nat} (h : j < xs.length) : xs.getD j mo0 = xs[j] := by rw [List.getD, List.getElem?_eq_getElem h]; rfl
theorem dropM {xs : List Mo} {j : Nat} (h : j < xs.length) : xs.drop j = xs.getD j mo0 :: xs.drop (j + 1) := by rw [getM h]; exact List.drop_eq_getElem_cons h
theorem rfo_step {zs : List Int} {ns : List ByteArray} {xs : List Mo} {j : Nat} (h : j < xs.length) (a : Int × Int) : rfo zs ns (xs.drop j) a = match stp zs ns (xs.getD j mo0) a with
    | none => none
    | some b => rfo zs ns (xs.drop (j + 1)) b := by rw [dropM h]; rfl
theorem all_kn {ns : List ByteArray} {xs : List Mo} {j : Nat} (hk : xs.length ≤ j) (h : ∀ i, i < j → kn ns (xs.getD i mo0) = true) : xs.all (kn ns) = true := by
  rw [List.all_eq_true]
  intro x hx
  obtain ⟨i, hi, rfl⟩ := List.getElem_of_mem hx
  rw [← getM hi]; exact h i (by omega)
theorem not_kn {ns : List ByteArray} {xs : List Mo} {j : Nat} (hj : j < xs.length) (h : kn ns (xs.getD j mo0) = false) : ¬ xs.all (kn ns) = true := fun e => by
  have := List.all_eq_true.1 e _ (List.getElem_mem hj)
  rw [← getM hj, h] at this; cases this
def RW3 (t : Int × Int × Int) (w : World) (e : Ending) (w' : World) : Prop := e = .returned (.tuple #[.int .i64 t.1, .int .i64 t.2.1, .int .i64 t.2.2]) ∧ Below w.heap.size w w'
theorem SlT.keep {w w' : World} {p : Option Addr} {ls : List ByteArray} (hB : Below w.heap.size w w') (h : SlT w p ls) : SlT w' p ls := fun i hi => by
  obtain ⟨b, o, e, hc⟩ := h i hi
  exact ⟨b, o, e, (hB.cell (p := ⟨b, o + i, none⟩) (by have := World.block_lt_of_cell? w _ hc; simpa using this)).trans hc⟩
theorem z_last {zs : List Int} (hl : zs.any low = false) (hs : sp zs ≤ 65536) {i : Nat} (hi : i < zs.length) : 0 ≤ zs.getD i 0 - 1 ∧ zs.getD i 0 - 1 ≤ 65535 := by
  have h1 := pos_of hl hi
  have h2 := zle hl hi rfl hs
  omega
set_option maxRecDepth 100000 in
set_option maxHeartbeats 8000000 in
theorem range1_bad (k : Int) (p q r : Option Addr) (xs : List Mo) (ns : List ByteArray) (zs : List Int) (c d f : Nat) (w : World) (hn : xs.length ≤ maxLen) (hm : ns.length ≤ maxLen) (hz : zs.length ≤ maxLen) (RM : Hid (SlM w p xs)) (RN : Hid (SlT w q ns)) (RZ : Hid (SlI w r zs)) (RS : Hid (∀ i, i < xs.length → (xs.getD i mo0).1.size ≤ maxLen)) (RK : Hid (∀ i, i < xs.length → F64 (xs.getD i mo0).2)) (hk : F64 k) (h : ¬ (okL xs = true ∧ bV zs = 0 ∧ (ns.length = zs.length ∧ cnt zs ≠ 0))) :
    Calls Try.prog 32 #[Lv k p xs.length c, .slice q ns.length d, .slice r zs.length f] w (RW3 (rT k xs ns zs) w) := by
  have BX := Lib.hid ((Below.refl w.heap.size w).alloc (Nat.le_refl _) (Obj.cells #[Value.int .i64 k, Value.slice p xs.length c] 44))
  have hb0 : (w.alloc (Obj.cells #[Value.int .i64 k, Value.slice p xs.length c] 44)).cell? ⟨w.heap.size, 0, none⟩ = some (.int .i64 k) := by go_cell
  have hb1 : (w.alloc (Obj.cells #[Value.int .i64 k, Value.slice p xs.length c] 44)).cell? ⟨w.heap.size, 1, none⟩ = some (.slice p xs.length c) := by go_cell
  have hlt0 : w.heap.size < (w.alloc (Obj.cells #[Value.int .i64 k, Value.slice p xs.length c] 44)).heap.size := by simp
  have HLT := Lib.hid hlt0
  have CV := Lib.hid fun (u : World) (hu : Below w.heap.size w u) => val1 k p xs c u hn (Lib.hid (SlM.keep hu RM.out)) RS
  have CB := Lib.hid fun (u : World) (hu : Below w.heap.size w u) => bval_dr (p := r) (zs := zs) (c := f) (w := u) hz (Lib.hid (SlI.keep hu RZ.out))
  have CC := Lib.hid fun (u : World) (hu : Below w.heap.size w u) => dr_count (p := r) (zs := zs) (c := f) (w := u) hz (Lib.hid (SlI.keep hu RZ.out))
  unfold maxLen at hn hm hz
  by_cases h1 : okL xs = true
  · rw [show vL xs = 0 from if_pos h1] at CV
    by_cases h2 : bV zs = 0
    · rw [h2] at CB
      rw [rT3 h1 h2 (fun e => h ⟨h1, h2, e⟩)]
      by_cases h3 : ns.length = zs.length
      · have h4 : cnt zs = 0 := by
          by_cases h5 : cnt zs = 0
          · exact h5
          · exact absurd ⟨h1, h2, h3, h5⟩ h
        rw [h4] at CC
        rw [h3]
        clear h h1 h2 h3 h4
        unfold Lv
        go_enter Try.func32, Try.ntmps32
        go_wp2_with fail
        generalize w.alloc (Obj.cells #[Value.int .i64 k, Value.slice p xs.length c] 44) = wb at *
        refine (CV.out wb BX.out).mono ?_
        rintro e w1 ⟨rfl, hb⟩
        have K1 := Lib.hid (BX.out.trans (hb.mono BX.out.size))
        have HLT1 := Lib.hid (Nat.lt_of_lt_of_le HLT.out hb.size)
        have hx0 : w1.cell? ⟨w.heap.size, 0, none⟩ = some (.int .i64 k) := (hb.cell (p := ⟨w.heap.size, 0, none⟩) HLT.out).trans hb0
        have hx1 : w1.cell? ⟨w.heap.size, 1, none⟩ = some (.slice p xs.length c) := (hb.cell (p := ⟨w.heap.size, 1, none⟩) HLT.out).trans hb1
        clear hb hb0 hb1 CV BX HLT hlt0
        go_wp2_with fail
        refine (CB.out w1 K1.out).mono ?_
        rintro e w' ⟨rfl, md, rfl⟩
        have K2 := Lib.hid (World.below_drewN' K1.out md)
        clear K1 hx0 hx1 HLT1
        generalize w1.drewN md = w2 at *
        go_wp2_with fail
        refine (CC.out w2 K2.out).mono ?_
        rintro e w' ⟨rfl, me, rfl⟩
        have K3 := Lib.hid (World.below_drewN' K2.out me)
        generalize w2.drewN me = w3 at *
        go_wp2
        exact bodyPost_ret (v := .tuple #[.int .i64 0, .int .i64 0, .int .i64 1]) (by simp [results, Try.results32, go_sem]) rfl ⟨rfl, K3.out⟩
      · have q1 : ((ns.length : Int) == zs.length) = false := beq_false_of_ne (by omega)
        have q2 : (ns.length == zs.length) = false := beq_false_of_ne h3
        have q3 : ((ns.length : Int) != zs.length) = true := by simp <;> omega
        have q4 : (ns.length != zs.length) = true := by simpa using h3
        have H3 := Lib.hid h3
        clear h h1 h2 h3
        unfold Lv
        go_enter Try.func32, Try.ntmps32
        go_wp2_with fail
        generalize w.alloc (Obj.cells #[Value.int .i64 k, Value.slice p xs.length c] 44) = wb at *
        refine (CV.out wb BX.out).mono ?_
        rintro e w1 ⟨rfl, hb⟩
        have K1 := Lib.hid (BX.out.trans (hb.mono BX.out.size))
        have HLT1 := Lib.hid (Nat.lt_of_lt_of_le HLT.out hb.size)
        have hx0 : w1.cell? ⟨w.heap.size, 0, none⟩ = some (.int .i64 k) := (hb.cell (p := ⟨w.heap.size, 0, none⟩) HLT.out).trans hb0
        have hx1 : w1.cell? ⟨w.heap.size, 1, none⟩ = some (.slice p xs.length c) := (hb.cell (p := ⟨w.heap.size, 1, none⟩) HLT.out).trans hb1
        clear hb hb0 hb1 CV BX HLT hlt0
        go_wp2_with fail
        refine (CB.out w1 K1.out).mono ?_
        rintro e w' ⟨rfl, md, rfl⟩
        have K2 := Lib.hid (World.below_drewN' K1.out md)
        clear K1 hx0 hx1 HLT1
        generalize w1.drewN md = w2 at *
        go_wp2
        exact bodyPost_ret (v := .tuple #[.int .i64 0, .int .i64 0, .int .i64 1]) (by simp [results, Try.results32, go_sem]) rfl ⟨rfl, K2.out⟩
    · rw [rT2 h1 h2]
      obtain ⟨V, hV⟩ : ∃ V, bV zs = V := ⟨_, rfl⟩
      rw [hV] at CB h2 ⊢
      have q1 : (V == 0) = false := beq_false_of_ne h2
      clear h h1 h2 hV
      unfold Lv
      go_enter Try.func32, Try.ntmps32
      go_wp2_with fail
      generalize w.alloc (Obj.cells #[Value.int .i64 k, Value.slice p xs.length c] 44) = wb at *
      refine (CV.out wb BX.out).mono ?_
      rintro e w1 ⟨rfl, hb⟩
      have K1 := Lib.hid (BX.out.trans (hb.mono BX.out.size))
      have HLT1 := Lib.hid (Nat.lt_of_lt_of_le HLT.out hb.size)
      have hx0 : w1.cell? ⟨w.heap.size, 0, none⟩ = some (.int .i64 k) := (hb.cell (p := ⟨w.heap.size, 0, none⟩) HLT.out).trans hb0
      have hx1 : w1.cell? ⟨w.heap.size, 1, none⟩ = some (.slice p xs.length c) := (hb.cell (p := ⟨w.heap.size, 1, none⟩) HLT.out).trans hb1
      clear hb hb0 hb1 CV BX HLT hlt0
      go_wp2_with fail
      refine (CB.out w1 K1.out).mono ?_
      rintro e w' ⟨rfl, md, rfl⟩
      have K2 := Lib.hid (World.below_drewN' K1.out md)
      clear K1 hx0 hx1 HLT1
      generalize w1.drewN md = w2 at *
      go_wp2
      exact bodyPost_ret (v := .tuple #[.int .i64 0, .int .i64 0, .int .i64 V]) (by simp [results, Try.results32, go_sem]) rfl ⟨rfl, K2.out⟩
  · rw [rT1 h1]
    rw [show vL xs = 1 from if_neg h1] at CV
    clear h h1
    unfold Lv
    go_enter Try.func32, Try.ntmps32
    go_wp2_with fail
    generalize w.alloc (Obj.cells #[Value.int .i64 k, Value.slice p xs.length c] 44) = wb at *
    refine (CV.out wb BX.out).mono ?_
    rintro e w1 ⟨rfl, hb⟩
    have K1 := Lib.hid (BX.out.trans (hb.mono BX.out.size))
    have HLT1 := Lib.hid (Nat.lt_of_lt_of_le HLT.out hb.size)
    have hx0 : w1.cell? ⟨w.heap.size, 0, none⟩ = some (.int .i64 k) := (hb.cell (p := ⟨w.heap.size, 0, none⟩) HLT.out).trans hb0
    have hx1 : w1.cell? ⟨w.heap.size, 1, none⟩ = some (.slice p xs.length c) := (hb.cell (p := ⟨w.heap.size, 1, none⟩) HLT.out).trans hb1
    clear hb hb0 hb1 CV BX HLT hlt0
    go_wp2
    exact bodyPost_ret (v := .tuple #[.int .i64 0, .int .i64 0, .int .i64 1]) (by simp [results, Try.results32, go_sem]) rfl ⟨rfl, K1.out⟩
set_option maxRecDepth 100000 in
set_option maxHeartbeats 8000000 in
theorem rrange1_bad (k : Int) (p q r : Option Addr) (xs : List Mo) (ns : List ByteArray) (zs : List Int) (c d f : Nat) (w : World) (hn : xs.length ≤ maxLen) (hm : ns.length ≤ maxLen) (hz : zs.length ≤ maxLen) (RM : Hid (SlM w p xs)) (RN : Hid (SlT w q ns)) (RZ : Hid (SlI w r zs)) (RS : Hid (∀ i, i < xs.length → (xs.getD i mo0).1.size ≤ maxLen)) (RK : Hid (∀ i, i < xs.length → F64 (xs.getD i mo0).2)) (hk : F64 k) (h : ¬ (okL xs = true ∧ bV zs = 0 ∧ (ns.length = zs.length ∧ cnt zs ≠ 0))) :
    Calls Try.prog 33 #[Lv k p xs.length c, .slice q ns.length d, .slice r zs.length f] w (RW3 (rT k xs ns zs) w) := by
  have BX := Lib.hid ((Below.refl w.heap.size w).alloc (Nat.le_refl _) (Obj.cells #[Value.int .i64 k, Value.slice p xs.length c] 44))
  have hb0 : (w.alloc (Obj.cells #[Value.int .i64 k, Value.slice p xs.length c] 44)).cell? ⟨w.heap.size, 0, none⟩ = some (.int .i64 k) := by go_cell
  have hb1 : (w.alloc (Obj.cells #[Value.int .i64 k, Value.slice p xs.length c] 44)).cell? ⟨w.heap.size, 1, none⟩ = some (.slice p xs.length c) := by go_cell
  have hlt0 : w.heap.size < (w.alloc (Obj.cells #[Value.int .i64 k, Value.slice p xs.length c] 44)).heap.size := by simp
  have HLT := Lib.hid hlt0
  have CV := Lib.hid fun (u : World) (hu : Below w.heap.size w u) => right k p xs c u hn (Lib.hid (SlM.keep hu RM.out)) RS
  have CB := Lib.hid fun (u : World) (hu : Below w.heap.size w u) => rbval_dr (p := r) (zs := zs) (c := f) (w := u) hz (Lib.hid (SlI.keep hu RZ.out))
  have CC := Lib.hid fun (u : World) (hu : Below w.heap.size w u) => rcount1 r zs f u hz (Lib.hid (SlI.keep hu RZ.out))
  unfold maxLen at hn hm hz
  by_cases h1 : okL xs = true
  · rw [h1] at CV
    by_cases h2 : bV zs = 0
    · rw [h2] at CB
      rw [rT3 h1 h2 (fun e => h ⟨h1, h2, e⟩)]
      by_cases h3 : ns.length = zs.length
      · have h4 : cnt zs = 0 := by
          by_cases h5 : cnt zs = 0
          · exact h5
          · exact absurd ⟨h1, h2, h3, h5⟩ h
        rw [h4] at CC
        rw [h3]
        clear h h1 h2 h3 h4
        unfold Lv
        go_enter Try.func33, Try.ntmps33
        go_wp2_with fail
        generalize w.alloc (Obj.cells #[Value.int .i64 k, Value.slice p xs.length c] 44) = wb at *
        refine (CV.out wb BX.out).mono ?_
        rintro e w1 ⟨rfl, hb⟩
        have K1 := Lib.hid (BX.out.trans (hb.mono BX.out.size))
        have HLT1 := Lib.hid (Nat.lt_of_lt_of_le HLT.out hb.size)
        have hx0 : w1.cell? ⟨w.heap.size, 0, none⟩ = some (.int .i64 k) := (hb.cell (p := ⟨w.heap.size, 0, none⟩) HLT.out).trans hb0
        have hx1 : w1.cell? ⟨w.heap.size, 1, none⟩ = some (.slice p xs.length c) := (hb.cell (p := ⟨w.heap.size, 1, none⟩) HLT.out).trans hb1
        clear hb hb0 hb1 CV BX HLT hlt0
        go_wp2_with fail
        refine (CB.out w1 K1.out).mono ?_
        rintro e w' ⟨rfl, md, rfl⟩
        have K2 := Lib.hid (World.below_drewN' K1.out md)
        clear K1 hx0 hx1 HLT1
        generalize w1.drewN md = w2 at *
        go_wp2_with fail
        refine (CC.out w2 K2.out).mono ?_
        rintro e w' ⟨rfl, me, rfl⟩
        have K3 := Lib.hid (World.below_drewN' K2.out me)
        generalize w2.drewN me = w3 at *
        go_wp2
        exact bodyPost_ret (v := .tuple #[.int .i64 0, .int .i64 0, .int .i64 1]) (by simp [results, Try.results33, go_sem]) rfl ⟨rfl, K3.out⟩
      · have q1 : ((ns.length : Int) == zs.length) = false := beq_false_of_ne (by omega)
        have q2 : (ns.length == zs.length) = false := beq_false_of_ne h3
        have q3 : ((ns.length : Int) != zs.length) = true := by simp <;> omega
        have q4 : (ns.length != zs.length) = true := by simpa using h3
        have H3 := Lib.hid h3
        clear h h1 h2 h3
        unfold Lv
        go_enter Try.func33, Try.ntmps33
        go_wp2_with fail
        generalize w.alloc (Obj.cells #[Value.int .i64 k, Value.slice p xs.length c] 44) = wb at *
        refine (CV.out wb BX.out).mono ?_
        rintro e w1 ⟨rfl, hb⟩
        have K1 := Lib.hid (BX.out.trans (hb.mono BX.out.size))
        have HLT1 := Lib.hid (Nat.lt_of_lt_of_le HLT.out hb.size)
        have hx0 : w1.cell? ⟨w.heap.size, 0, none⟩ = some (.int .i64 k) := (hb.cell (p := ⟨w.heap.size, 0, none⟩) HLT.out).trans hb0
        have hx1 : w1.cell? ⟨w.heap.size, 1, none⟩ = some (.slice p xs.length c) := (hb.cell (p := ⟨w.heap.size, 1, none⟩) HLT.out).trans hb1
        clear hb hb0 hb1 CV BX HLT hlt0
        go_wp2_with fail
        refine (CB.out w1 K1.out).mono ?_
        rintro e w' ⟨rfl, md, rfl⟩
        have K2 := Lib.hid (World.below_drewN' K1.out md)
        clear K1 hx0 hx1 HLT1
        generalize w1.drewN md = w2 at *
        go_wp2
        exact bodyPost_ret (v := .tuple #[.int .i64 0, .int .i64 0, .int .i64 1]) (by simp [results, Try.results33, go_sem]) rfl ⟨rfl, K2.out⟩
    · rw [rT2 h1 h2]
      obtain ⟨V, hV⟩ : ∃ V, bV zs = V := ⟨_, rfl⟩
      rw [hV] at CB h2 ⊢
      have q1 : (V == 0) = false := beq_false_of_ne h2
      clear h h1 h2 hV
      unfold Lv
      go_enter Try.func33, Try.ntmps33
      go_wp2_with fail
      generalize w.alloc (Obj.cells #[Value.int .i64 k, Value.slice p xs.length c] 44) = wb at *
      refine (CV.out wb BX.out).mono ?_
      rintro e w1 ⟨rfl, hb⟩
      have K1 := Lib.hid (BX.out.trans (hb.mono BX.out.size))
      have HLT1 := Lib.hid (Nat.lt_of_lt_of_le HLT.out hb.size)
      have hx0 : w1.cell? ⟨w.heap.size, 0, none⟩ = some (.int .i64 k) := (hb.cell (p := ⟨w.heap.size, 0, none⟩) HLT.out).trans hb0
      have hx1 : w1.cell? ⟨w.heap.size, 1, none⟩ = some (.slice p xs.length c) := (hb.cell (p := ⟨w.heap.size, 1, none⟩) HLT.out).trans hb1
      clear hb hb0 hb1 CV BX HLT hlt0
      go_wp2_with fail
      refine (CB.out w1 K1.out).mono ?_
      rintro e w' ⟨rfl, md, rfl⟩
      have K2 := Lib.hid (World.below_drewN' K1.out md)
      clear K1 hx0 hx1 HLT1
      generalize w1.drewN md = w2 at *
      go_wp2
      exact bodyPost_ret (v := .tuple #[.int .i64 0, .int .i64 0, .int .i64 V]) (by simp [results, Try.results33, go_sem]) rfl ⟨rfl, K2.out⟩
  · rw [rT1 h1]
    rw [show okL xs = false by simpa using h1] at CV
    clear h h1
    unfold Lv
    go_enter Try.func33, Try.ntmps33
    go_wp2_with fail
    generalize w.alloc (Obj.cells #[Value.int .i64 k, Value.slice p xs.length c] 44) = wb at *
    refine (CV.out wb BX.out).mono ?_
    rintro e w1 ⟨rfl, hb⟩
    have K1 := Lib.hid (BX.out.trans (hb.mono BX.out.size))
    have HLT1 := Lib.hid (Nat.lt_of_lt_of_le HLT.out hb.size)
    have hx0 : w1.cell? ⟨w.heap.size, 0, none⟩ = some (.int .i64 k) := (hb.cell (p := ⟨w.heap.size, 0, none⟩) HLT.out).trans hb0
    have hx1 : w1.cell? ⟨w.heap.size, 1, none⟩ = some (.slice p xs.length c) := (hb.cell (p := ⟨w.heap.size, 1, none⟩) HLT.out).trans hb1
    clear hb hb0 hb1 CV BX HLT hlt0
    go_wp2
    exact bodyPost_ret (v := .tuple #[.int .i64 0, .int .i64 0, .int .i64 1]) (by simp [results, Try.results33, go_sem]) rfl ⟨rfl, K1.out⟩
end Go.Proofs.Ytkdfidjoighknaa.Bx
