/- Linear forms: Validate of the reference. -/
import Derived.Test.YtbicmlkjonaccaaDoorY10
import Derived.Test.YtbicmlkjonaccaaDoorH1
import Derived.IntWalk

namespace Go.Proofs.YtbicmlkjonaccaaDoor.Ln
open Go.ChangeShapes Go.WideShapes Go.ChangeAt Go.RowKit
set_option linter.unusedVariables false
set_option linter.unusedSimpArgs false
set_option maxRecDepth 100000 in
set_option maxHeartbeats 4000000 in
theorem val2 (k : Int) (p : Option Addr) (xs : List Mo) (c : Nat) (w : World) (hn : xs.length ≤ maxLen) (RA : Hid (SlM w p xs)) (RS : Hid (∀ i, i < xs.length → (xs.getD i mo0).1.size ≤ maxLen)) :
    Calls Tryd.prog 17 #[Lv k p xs.length c] w fun e w' => e = .returned (.int .i64 (vL xs)) ∧ Below w.heap.size w w' := by
  have C := Lib.hid fun w R1 => right k p xs c w hn R1 RS
  have B0 : Below w.heap.size w (w.alloc (Obj.cells #[Value.int .i64 k, Value.slice p xs.length c] 24)) := (Below.refl _ _).alloc (Nat.le_refl _) _
  unfold vL
  generalize okL xs = v at *
  unfold Lv at *
  cases v
  all_goals
    go_enter Tryd.func17, Tryd.ntmps17
    go_wp2_with fail
    refine (C.out _ (Lib.hid (SlM.keep B0 RA.out))).mono ?_
    rintro e w1 ⟨rfl, hb⟩
    go_wp2
    go_ret
    exact ⟨rfl, B0.trans (hb.mono B0.size)⟩
end Go.Proofs.YtbicmlkjonaccaaDoor.Ln


namespace Go.Proofs.YtbicmlkjonaccaaDoor.Ln
open Go.ChangeShapes Go.WideShapes Go.ChangeAt Go.RowKit
open Go.Proofs.YtbicmlkjonaccaaDoor.Nm
set_option linter.unusedVariables false
set_option linter.unusedSimpArgs false
set_option maxRecDepth 8000

/-- A constraint as a value. -/
def Cv (k : Int) (p : Option Addr) (n c : Nat) (eq : Bool) : Value := .agg #[.int .i64 k, .slice p n c, .bool eq]
def hB (k : Int) (eq : Bool) : Bool := (k == 0) || (decide (0 < k) && !eq)
theorem never1 (w : World) : Calls Tryd.prog 58 #[] w fun e w' => e = .returned (Cv (-1) none 0 0 false) ∧ Below w.heap.size w w' := by
  unfold Cv
  go_enter Tryd.func58, Tryd.ntmps58
  go_wp2
  refine bodyPost_ret (v := .agg #[.int .i64 (-1), .slice none 0 0, .bool false]) (by simp [results, Tryd.results58, go_sem]) rfl ⟨rfl, ?_⟩; (repeat' (first | (with_reducible exact Below.refl _ _) | (with_reducible refine Below.alloc ?_ ?_ _) | (with_reducible refine Below.setCell ?_ ?_ _) | (with_reducible refine below_drewN ?_ _) | (simp; done) | omega | (simp; omega)))
theorem never2 (w : World) : Calls Tryd.prog 62 #[] w fun e w' => e = .returned (Cv (-1) none 0 0 false) ∧ Below w.heap.size w w' := by
  unfold Cv
  go_enter Tryd.func62, Tryd.ntmps62
  go_wp2
  refine bodyPost_ret (v := .agg #[.int .i64 (-1), .slice none 0 0, .bool false]) (by simp [results, Tryd.results62, go_sem]) rfl ⟨rfl, ?_⟩; (repeat' (first | (with_reducible exact Below.refl _ _) | (with_reducible refine Below.alloc ?_ ?_ _) | (with_reducible refine Below.setCell ?_ ?_ _) | (with_reducible refine below_drewN ?_ _) | (simp; done) | omega | (simp; omega)))
theorem holdsF (k : Int) (p : Option Addr) (n c : Nat) (eq : Bool) (m : Int) (w : World) : Calls Tryd.prog 54 #[Cv k p n c eq, .int .i64 m] w fun e w' => e = .returned (.bool (hB m eq)) ∧ Below w.heap.size w w' := by
  unfold Cv hB
  have B0 : Below w.heap.size w (w.alloc (Obj.cells #[Value.int .i64 k, Value.slice p n c, Value.bool eq] 36)) := (Below.refl _ _).alloc (Nat.le_refl _) _
  by_cases h0 : m = 0
  · subst h0
    go_enter Tryd.func54, Tryd.ntmps54
    go_wp2
    go_ret
    exact ⟨by simp, B0⟩
  · have g0 : (m == 0) = false := by simpa using h0
    by_cases h1 : 0 < m
    · have g1 : decide (0 < m) = true := by simpa using h1
      rw [g0, g1]
      cases eq
      · go_enter Tryd.func54, Tryd.ntmps54
        go_wp2
        go_ret
        exact ⟨by simp, B0⟩
      · go_enter Tryd.func54, Tryd.ntmps54
        go_wp2
        go_ret
        exact ⟨by simp, B0⟩
    · have g1 : decide (0 < m) = false := by simpa using h1
      rw [g0, g1]
      clear h0 h1
      go_enter Tryd.func54, Tryd.ntmps54
      go_wp2
      go_ret
      exact ⟨by simp, B0⟩
theorem cval1 (k : Int) (p : Option Addr) (xs : List Mo) (c : Nat) (eq : Bool) (w : World) (hn : xs.length ≤ maxLen) (RA : Hid (SlM w p xs)) (RS : Hid (∀ i, i < xs.length → (xs.getD i mo0).1.size ≤ maxLen)) : Calls Tryd.prog 24 #[Cv k p xs.length c eq] w fun e w' => e = .returned (.int .i64 (vL xs)) ∧ Below w.heap.size w w' := by
  have VL := Lib.hid fun w h => val1 k p xs c w hn h RS
  have B0 : Below w.heap.size w (w.alloc (Obj.cells #[Value.int .i64 k, Value.slice p xs.length c, Value.bool eq] 36)) := (Below.refl _ _).alloc (Nat.le_refl _) _
  have RA2 := Lib.hid (SlM.keep B0 RA.out)
  unfold Cv
  unfold Lv at VL
  go_enter Tryd.func24, Tryd.ntmps24
  go_wp2_with (go_at_call 16; refine (VL.out _ RA2).mono ?_; rintro e w1 ⟨rfl, hb⟩)
  go_ret
  exact ⟨rfl, B0.trans (hb.mono B0.size)⟩
theorem cval2 (k : Int) (p : Option Addr) (xs : List Mo) (c : Nat) (eq : Bool) (w : World) (hn : xs.length ≤ maxLen) (RA : Hid (SlM w p xs)) (RS : Hid (∀ i, i < xs.length → (xs.getD i mo0).1.size ≤ maxLen)) : Calls Tryd.prog 25 #[Cv k p xs.length c eq] w fun e w' => e = .returned (.int .i64 (vL xs)) ∧ Below w.heap.size w w' := by
  have VL := Lib.hid fun w h => right k p xs c w hn h RS
  have B0 : Below w.heap.size w (w.alloc (Obj.cells #[Value.int .i64 k, Value.slice p xs.length c, Value.bool eq] 36)) := (Below.refl _ _).alloc (Nat.le_refl _) _
  have RA2 := Lib.hid (SlM.keep B0 RA.out)
  unfold Cv vL
  unfold Lv at VL
  cases hok : okL xs
  · rw [hok] at VL
    clear hok
    go_enter Tryd.func25, Tryd.ntmps25
    go_wp2_with (go_at_call 45; refine (VL.out _ RA2).mono ?_; rintro e w1 ⟨rfl, hb⟩)
    go_ret
    exact ⟨by simp, B0.trans (hb.mono B0.size)⟩
  · rw [hok] at VL
    clear hok
    go_enter Tryd.func25, Tryd.ntmps25
    go_wp2_with (go_at_call 45; refine (VL.out _ RA2).mono ?_; rintro e w1 ⟨rfl, hb⟩)
    go_ret
    exact ⟨by simp, B0.trans (hb.mono B0.size)⟩
end Go.Proofs.YtbicmlkjonaccaaDoor.Ln


namespace Go.Proofs.YtbicmlkjonaccaaDoor.Ln
open Go.ChangeShapes Go.WideShapes Go.ChangeAt Go.RowKit
set_option linter.unusedVariables false
set_option linter.unusedSimpArgs false
def co : List Mo → ByteArray → Int
  | [], _ => 0
  | x :: r, s => if (x.1.toList == s.toList) = true then x.2 else co r s
theorem co_step {xs : List Mo} {j : Nat} (h : j < xs.length) (s : ByteArray) : co (xs.drop j) s = if ((xs.getD j mo0).1.toList == s.toList) = true then (xs.getD j mo0).2 else co (xs.drop (j + 1)) s := by
  rw [List.drop_eq_getElem_cons h]
  have e1 : xs.getD j mo0 = xs[j] := by unfold List.getD; rw [List.getElem?_eq_getElem h]; rfl
  rw [e1]
  rfl
theorem co_end {xs : List Mo} {j : Nat} (h : j = xs.length) (s : ByteArray) : co (xs.drop j) s = 0 := by
  rw [List.drop_of_length_le (Nat.le_of_eq h.symm)]
  rfl
set_option maxRecDepth 100000 in
set_option maxHeartbeats 8000000 in
theorem coeff2 (k : Int) (p : Option Addr) (xs : List Mo) (c : Nat) (s : ByteArray) (w : World) (hn : xs.length ≤ maxLen) (RA : Hid (SlM w p xs)) :
    Calls Tryd.prog 101 #[Lv k p xs.length c, .string s] w fun e w' => e = .returned (.int .i64 (co xs s)) ∧ Below w.heap.size w w' := by
  have B0 : Below w.heap.size w (w.alloc (Obj.cells #[Value.int .i64 k, Value.slice p xs.length c] 24)) := (Below.refl _ _).alloc (Nat.le_refl _) _
  have f1 : ((w.alloc (Obj.cells #[Value.int .i64 k, Value.slice p xs.length c] 24))).cell? ⟨w.heap.size, 1, none⟩ = some (.slice p xs.length c) := by go_cell
  unfold maxLen at hn
  unfold Lv
  go_enter Tryd.func101, Tryd.ntmps101
  go_wp2
  have RA1 := Lib.hid (SlM.keep B0 RA.out)
  generalize (w.alloc (Obj.cells #[Value.int .i64 k, Value.slice p xs.length c] 24)) = z at *
  go_loopw [5] (fun i wr => ∃ j : Nat, i = .int .i64 (j : Int) ∧ j ≤ xs.length ∧ wr = z ∧ Hid (co xs s = co (xs.drop j) s)) (fun i _ => xs.length - (intOf i).toNat)
  case atStart => exact ⟨0, rfl, by omega, rfl, Lib.hid rfl⟩
  case round =>
    obtain ⟨j, rfl, hk, rfl, HL⟩ := hrel
    have k0 : (0 : Int) ≤ j := by omega
    by_cases hlt : j < xs.length
    · obtain ⟨b, o, rfl, c0, c1⟩ := RA1.out j hlt
      have hst := Lib.hid (co_step hlt s)
      obtain ⟨⟨t, a⟩, hx⟩ : ∃ x, xs.getD j mo0 = x := ⟨_, rfl⟩
      have hst := Lib.hid (by have h := hst.out; rw [hx] at h; exact h)
      rw [hx] at c0 c1
      simp only at c0 c1
      have k1 : (j : Int) < xs.length := by omega
      clear hx
      obtain ⟨q1, hq1⟩ : ∃ q, (t.toList == s.toList) = q := ⟨_, rfl⟩
      cases q1
      · have HS := Lib.hid (show co xs s = co (xs.drop (j + 1)) s by rw [HL.out, hst.out]; simp only [hq1]; rfl)
        clear HL hst
        go_wp2
        go_roundw
        case rel => exact ⟨j + 1, by go_num, by omega, by first | rfl | trivial, HS⟩
        case measure => simp [intOf]; omega
      · have HS := Lib.hid (show co xs s = a by rw [HL.out, hst.out]; simp only [hq1]; rfl)
        clear HL hst
        go_wp2
        go_ret
        exact ⟨ret_int (by rw [HS.out]), B0⟩
    · have k1 : ¬ (j : Int) < xs.length := by omega
      have HS := Lib.hid (show co xs s = 0 by rw [HL.out, co_end (by omega)])
      go_wp2
      go_ret
      exact ⟨ret_int (by rw [HS.out]), B0⟩
set_option maxRecDepth 100000 in
set_option maxHeartbeats 8000000 in
theorem linEq (k : Int) (p : Option Addr) (xs : List Mo) (c : Nat) (q : Option Addr) (d : Nat) (w : World) (hn : xs.length ≤ maxLen) (RA : Hid (SlM w p xs)) (RB : Hid (SlM w q xs)) :
    Calls Tryd.prog 66 #[Lv k p xs.length c, Lv k q xs.length d] w fun e w' => e = .returned (.bool true) ∧ Below w.heap.size w w' := by
  have B0 : Below w.heap.size w ((w.alloc (Obj.cells #[Value.int .i64 k, Value.slice p xs.length c] 24)).alloc (Obj.cells #[Value.int .i64 k, Value.slice q xs.length d] 24)) := two_below _ _
  have f1 : (((w.alloc (Obj.cells #[Value.int .i64 k, Value.slice p xs.length c] 24)).alloc (Obj.cells #[Value.int .i64 k, Value.slice q xs.length d] 24))).cell? ⟨w.heap.size, 1, none⟩ = some (.slice p xs.length c) := by go_cell
  have g1 : (((w.alloc (Obj.cells #[Value.int .i64 k, Value.slice p xs.length c] 24)).alloc (Obj.cells #[Value.int .i64 k, Value.slice q xs.length d] 24))).cell? ⟨w.heap.size + 1, 1, none⟩ = some (.slice q xs.length d) := by go_cell
  unfold maxLen at hn
  unfold Lv
  go_enter Tryd.func66, Tryd.ntmps66
  go_wp2
  have RA1 := Lib.hid (SlM.keep B0 RA.out)
  have RB1 := Lib.hid (SlM.keep B0 RB.out)
  generalize ((w.alloc (Obj.cells #[Value.int .i64 k, Value.slice p xs.length c] 24)).alloc (Obj.cells #[Value.int .i64 k, Value.slice q xs.length d] 24)) = z at *
  go_loopw [5] (fun i wr => ∃ j r : Nat, i = .int .i64 (j : Int) ∧ j ≤ xs.length ∧ wr = z.drewN r) (fun i _ => xs.length - (intOf i).toNat)
  case atStart => exact ⟨0, 0, rfl, by omega, rfl⟩
  case round =>
    obtain ⟨j, r, rfl, hk, rfl⟩ := hrel
    have k0 : (0 : Int) ≤ j := by omega
    by_cases hlt : j < xs.length
    · obtain ⟨b, o, rfl, c0, c1⟩ := RA1.out j hlt
      obtain ⟨b', o', rfl, d0, d1⟩ := RB1.out j hlt
      obtain ⟨⟨t, a⟩, hx⟩ : ∃ x, xs.getD j mo0 = x := ⟨_, rfl⟩
      rw [hx] at c0 c1 d0 d1
      simp only at c0 c1 d0 d1
      have k1 : (j : Int) < xs.length := by omega
      clear hx
      go_wp2
      go_quiet (fail)
      go_wp2
      go_roundw
      case rel => exact ⟨j + 1, _, by go_num, by omega, rfl⟩
      case measure => simp [intOf]; omega
    · have k1 : ¬ (j : Int) < xs.length := by omega
      go_wp2
      go_ret
      exact ⟨rfl, below_drewN B0 _⟩
end Go.Proofs.YtbicmlkjonaccaaDoor.Ln


namespace Go.Proofs.YtbicmlkjonaccaaDoor.Ln
open Go.ChangeShapes Go.WideShapes Go.ChangeAt Go.RowKit
open Go.Proofs.YtbicmlkjonaccaaDoor.Nm
set_option linter.unusedVariables false
set_option linter.unusedSimpArgs false
set_option maxRecDepth 8000

theorem conEq (k : Int) (p q : Option Addr) (xs : List Mo) (c d : Nat) (eq : Bool) (w : World) (hn : xs.length ≤ maxLen) (RA : Hid (SlM w p xs)) (RB : Hid (SlM w q xs)) : Calls Tryd.prog 30 #[Cv k p xs.length c eq, Cv k q xs.length d eq] w fun e w' => e = .returned (.bool true) ∧ Below w.heap.size w w' := by
  have LE := Lib.hid fun w h1 h2 => linEq k p xs c q d w hn h1 h2
  have B0 : Below w.heap.size w ((w.alloc (Obj.cells #[Value.int .i64 k, Value.slice p xs.length c, Value.bool eq] 36)).alloc (Obj.cells #[Value.int .i64 k, Value.slice q xs.length d, Value.bool eq] 36)) := ((Below.refl _ _).alloc (Nat.le_refl _) _).alloc (by simp) _
  have RA2 := Lib.hid (SlM.keep B0 RA.out)
  have RB2 := Lib.hid (SlM.keep B0 RB.out)
  unfold Cv
  unfold Lv at LE
  go_enter Tryd.func30, Tryd.ntmps30
  go_wp2_with (go_at_call 66; refine (LE.out _ RA2 RB2).mono ?_; rintro e w1 ⟨rfl, hb⟩)
  go_ret
  exact ⟨by simp, B0.trans (hb.mono B0.size)⟩
end Go.Proofs.YtbicmlkjonaccaaDoor.Ln


namespace Go.Proofs.YtbicmlkjonaccaaDoor.Ln
open Go.ChangeShapes Go.WideShapes Go.ChangeAt Go.RowKit
set_option linter.unusedVariables false
set_option linter.unusedSimpArgs false
theorem getD_memS {xs : List Mo} {j : Nat} (h : j < xs.length) : xs.getD j mo0 ∈ xs := by
  have e1 : xs.getD j mo0 = xs[j] := by unfold List.getD; rw [List.getElem?_eq_getElem h]; rfl
  rw [e1]
  exact List.getElem_mem h
theorem take_stepS {xs : List Mo} {j : Nat} (h : j < xs.length) : xs.take (j + 1) = xs.take j ++ [xs.getD j mo0] := by
  rw [List.take_succ_eq_append_getElem h]
  have e1 : xs.getD j mo0 = xs[j] := by unfold List.getD; rw [List.getElem?_eq_getElem h]; rfl
  rw [e1]
def smB (xs : List Mo) : Bool := decide (xs.length ≤ 40) && xs.all fun m => decide (m.1.size ≤ 40)
theorem smB_yes {xs : List Mo} (h : smB xs = true) : xs.length ≤ 40 ∧ ∀ m ∈ xs, m.1.size ≤ 40 := by
  unfold smB at h
  rw [Bool.and_eq_true, decide_eq_true_eq, List.all_eq_true] at h
  exact ⟨h.1, fun m hm => by simpa using h.2 m hm⟩
set_option maxRecDepth 100000 in
set_option maxHeartbeats 8000000 in
theorem small2 (k : Int) (p : Option Addr) (xs : List Mo) (c : Nat) (w : World) (hn : xs.length ≤ maxLen) (RA : Hid (SlM w p xs)) :
    Calls Tryd.prog 14 #[Lv k p xs.length c] w fun e w' => e = .returned (.bool (smB xs)) ∧ Below w.heap.size w w' := by
  have B0 : Below w.heap.size w (w.alloc (Obj.cells #[Value.int .i64 k, Value.slice p xs.length c] 24)) := (Below.refl _ _).alloc (Nat.le_refl _) _
  have f1 : ((w.alloc (Obj.cells #[Value.int .i64 k, Value.slice p xs.length c] 24))).cell? ⟨w.heap.size, 1, none⟩ = some (.slice p xs.length c) := by go_cell
  unfold maxLen at hn
  unfold Lv
  by_cases h40 : 40 < xs.length
  · have d1 : (40 : Int) < xs.length := by omega
    have HT := Lib.hid (show smB xs = false by unfold smB; rw [decide_eq_false (by omega)]; rfl)
    go_enter Tryd.func14, Tryd.ntmps14
    go_wp2
    go_ret
    exact ⟨ret_bool HT.out.symm, B0⟩
  · have d1 : ¬ (40 : Int) < xs.length := by omega
    have HT := Lib.hid (show smB xs = xs.all fun m => decide (m.1.size ≤ 40) by unfold smB; rw [decide_eq_true (by omega)]; rfl)
    go_enter Tryd.func14, Tryd.ntmps14
    go_wp2
    have RA1 := Lib.hid (SlM.keep B0 RA.out)
    generalize (w.alloc (Obj.cells #[Value.int .i64 k, Value.slice p xs.length c] 24)) = z at *
    go_loopw [3] (fun i wr => ∃ j : Nat, i = .int .i64 (j : Int) ∧ j ≤ xs.length ∧ wr = z ∧ Hid (∀ m ∈ xs.take j, m.1.size ≤ 40)) (fun i _ => xs.length - (intOf i).toNat)
    case atStart => exact ⟨0, rfl, by omega, rfl, Lib.hid (by simp)⟩
    case round =>
      obtain ⟨j, rfl, hk, rfl, HJ⟩ := hrel
      have k0 : (0 : Int) ≤ j := by omega
      by_cases hlt : j < xs.length
      · obtain ⟨b, o, rfl, c0, c1⟩ := RA1.out j hlt
        have htk := Lib.hid (take_stepS hlt)
        have hmem := Lib.hid (getD_memS hlt)
        obtain ⟨x, hx⟩ : ∃ x, xs.getD j mo0 = x := ⟨_, rfl⟩
        have htk := Lib.hid (by have h := htk.out; rw [hx] at h; exact h)
        have hmem := Lib.hid (by have h := hmem.out; rw [hx] at h; exact h)
        rw [hx] at c0 c1
        clear hx
        obtain ⟨s, a⟩ := x
        simp only at c0 c1
        have k1 : (j : Int) < xs.length := by omega
        by_cases hs : 40 < s.size
        · have d2 : (40 : Int) < s.size := by omega
          have HF := Lib.hid (HT.out.trans (show (xs.all fun m => decide (m.1.size ≤ 40)) = false from by
            rw [List.all_eq_false]
            exact ⟨_, hmem.out, by simp; omega⟩))
          go_wp2
          go_ret
          exact ⟨ret_bool HF.out.symm, B0⟩
        · have d2 : ¬ (40 : Int) < s.size := by omega
          have HJ2 : Hid (∀ m ∈ xs.take (j + 1), m.1.size ≤ 40) := Lib.hid (by
            rw [htk.out]
            intro m hm
            rcases List.mem_append.1 hm with h | h
            · exact HJ.out m h
            · rw [List.mem_singleton] at h; rw [h]; simp only; omega)
          go_wp2
          go_roundw
          case rel => exact ⟨j + 1, by go_num, by omega, by first | rfl | trivial, HJ2⟩
          case measure => simp [intOf]; omega
      · have k1 : ¬ (j : Int) < xs.length := by omega
        have HF := Lib.hid (HT.out.trans (show (xs.all fun m => decide (m.1.size ≤ 40)) = true from by
          rw [List.all_eq_true]
          have h := HJ.out
          rw [List.take_of_length_le (by omega)] at h
          intro m hm
          simpa using h m hm))
        go_wp2
        go_ret
        exact ⟨ret_bool HF.out.symm, B0⟩
end Go.Proofs.YtbicmlkjonaccaaDoor.Ln


namespace Go.Proofs.YtbicmlkjonaccaaDoor.Ln
open Go.ChangeShapes Go.WideShapes Go.ChangeAt Go.RowKit
open Go.Proofs.YtbicmlkjonaccaaDoor.Nm
set_option linter.unusedVariables false
set_option linter.unusedSimpArgs false
set_option maxRecDepth 8000

abbrev Qm := Int × List Mo × Bool
abbrev q0m : Qm := (0, [], false)
/-- A slice of constraints. -/
def SlQ (w : World) (p : Option Addr) (l : List Qm) : Prop := ∀ i, i < l.length → ∃ b o q c, p = some ⟨b, o, none⟩ ∧ w.cell? ⟨b, o + i * 3, none⟩ = some (.int .i64 (l.getD i q0m).1) ∧ w.cell? ⟨b, o + i * 3 + 1, none⟩ = some (.slice q (l.getD i q0m).2.1.length c) ∧ w.cell? ⟨b, o + i * 3 + 2, none⟩ = some (.bool (l.getD i q0m).2.2) ∧ SlM w q (l.getD i q0m).2.1
def smN (m : Mo) : Bool := decide (m.1.size ≤ 100)
def smF (f : Qm) : Bool := decide (f.2.1.length ≤ 40) && f.2.1.all smN
/-- What the laws on constraints take as small. -/
def smQ (lim : Nat) (l : List Qm) : Bool := decide (l.length ≤ lim) && l.all smF
theorem qget {l : List Qm} {i : Nat} (h : i < l.length) : l.getD i q0m ∈ l := by
  have e1 : l.getD i q0m = l[i] := by unfold List.getD; rw [List.getElem?_eq_getElem h]; rfl
  rw [e1]
  exact List.getElem_mem h
theorem qtake {l : List Qm} {i : Nat} (h : i < l.length) : l.take (i + 1) = l.take i ++ [l.getD i q0m] := by
  rw [List.take_succ_eq_append_getElem h]
  have e1 : l.getD i q0m = l[i] := by unfold List.getD; rw [List.getElem?_eq_getElem h]; rfl
  rw [e1]
set_option maxRecDepth 100000 in
set_option maxHeartbeats 8000000 in
theorem small6 (p : Option Addr) (l : List Qm) (c lim : Nat) (w : World) (hn : l.length ≤ maxLen) (hv : Hid (∀ f ∈ l, f.2.1.length ≤ maxLen)) (hlim : lim ≤ 1000) (RA : Hid (SlQ w p l)) :
    Calls Tryd.prog 20 #[.slice p l.length c, .int .i64 lim] w fun e w' => e = .returned (.bool (smQ lim l)) ∧ w = w' := by
  obtain ⟨R, hR⟩ : ∃ R, smQ lim l = R := ⟨_, rfl⟩
  rw [hR]
  have HR := Lib.hid hR
  clear hR
  unfold maxLen at hn
  by_cases hb : lim < l.length
  · have d1 : (lim : Int) < l.length := by omega
    have HT : R = false := by rw [← HR.out]; unfold smQ; rw [decide_eq_false (by omega)]; rfl
    subst HT
    go_enter Tryd.func20, Tryd.ntmps20
    go_wp2
    go_ret
    exact ⟨rfl, rfl⟩
  · have d1 : ¬ (lim : Int) < l.length := by omega
    have HT := Lib.hid (show l.all smF = R by rw [← HR.out]; unfold smQ; rw [decide_eq_true (by omega)]; rfl)
    clear HR
    go_enter Tryd.func20, Tryd.ntmps20
    go_wp2
    go_loopw [5] (fun i wr => ∃ j : Nat, i = .int .i64 (j : Int) ∧ j ≤ l.length ∧ wr = w ∧ Hid ((l.take j).all smF = true)) (fun i _ => l.length - (intOf i).toNat)
    case atStart => exact ⟨0, rfl, by omega, rfl, Lib.hid rfl⟩
    case round =>
      obtain ⟨j, rfl, hj, rfl, HJ⟩ := hrel
      have j0 : (0 : Int) ≤ j := by omega
      by_cases hlt : j < l.length
      · obtain ⟨b, o, q, d, rfl, c0, c1, c2, hS⟩ := RA.out j hlt
        have htk := Lib.hid (qtake hlt)
        have hmem := Lib.hid (qget hlt)
        obtain ⟨f, hf⟩ : ∃ f, l.getD j q0m = f := ⟨_, rfl⟩
        have htk := Lib.hid (by have h := htk.out; rw [hf] at h; exact h)
        have hmem := Lib.hid (by have h := hmem.out; rw [hf] at h; exact h)
        rw [hf] at c0 c1 c2 hS
        have hfl := hv.out _ hmem.out
        clear hf
        obtain ⟨k, xs, eq⟩ := f
        dsimp only at c0 c1 c2 hS hfl
        unfold maxLen at hfl
        have RS := Lib.hid hS
        clear hS
        have j1 : (j : Int) < l.length := by omega
        by_cases h40 : 40 < xs.length
        · have d2 : (40 : Int) < xs.length := by omega
          have HF : R = false := by
            rw [← HT.out, List.all_eq_false]
            exact ⟨_, hmem.out, by unfold smF; rw [decide_eq_false (by dsimp only; omega)]; simp⟩
          subst HF
          go_wp2
          go_ret
          exact ⟨rfl, rfl⟩
        · have d2 : ¬ (40 : Int) < xs.length := by omega
          go_wp2
          go_loopw [6] (fun i w5 => ∃ m : Nat, i = .int .i64 (m : Int) ∧ m ≤ xs.length ∧ w5 = wr ∧ Hid ((xs.take m).all smN = true)) (fun i _ => xs.length - (intOf i).toNat)
          case atStart => exact ⟨0, rfl, by omega, rfl, Lib.hid rfl⟩
          case round =>
            obtain ⟨m, rfl, hm, rfl, HM⟩ := hrel
            have m0 : (0 : Int) ≤ m := by omega
            by_cases hlm : m < xs.length
            · obtain ⟨b', o', rfl, e0, e1⟩ := RS.out m hlm
              have htk2 := Lib.hid (take_stepS hlm)
              have hmem2 := Lib.hid (getD_memS hlm)
              obtain ⟨x, hx⟩ : ∃ x, xs.getD m mo0 = x := ⟨_, rfl⟩
              have htk2 := Lib.hid (by have h := htk2.out; rw [hx] at h; exact h)
              have hmem2 := Lib.hid (by have h := hmem2.out; rw [hx] at h; exact h)
              rw [hx] at e0 e1
              clear hx
              obtain ⟨s, a⟩ := x
              simp only at e0 e1
              have m1 : (m : Int) < xs.length := by omega
              by_cases hs : 100 < s.size
              · have d3 : (100 : Int) < s.size := by omega
                have HF : R = false := by
                  rw [← HT.out, List.all_eq_false]
                  exact ⟨_, hmem.out, by
                    unfold smF
                    have : xs.all smN = false := by
                      rw [List.all_eq_false]
                      exact ⟨_, hmem2.out, by unfold smN; simp; omega⟩
                    simp [this]⟩
                subst HF
                go_wp2
                go_ret
                exact ⟨rfl, rfl⟩
              · have d3 : ¬ (100 : Int) < s.size := by omega
                have HM2 : Hid ((xs.take (m + 1)).all smN = true) := Lib.hid (by
                  rw [htk2.out, List.all_append, HM.out]
                  simp [smN]
                  omega)
                clear HM htk2 hmem2
                go_wp2
                go_roundw
                case rel => exact ⟨m + 1, by go_num, by omega, by first | rfl | trivial, HM2⟩
                case measure => simp [intOf]; omega
            · have m1 : ¬ (m : Int) < xs.length := by omega
              have HJ2 : Hid ((l.take (j + 1)).all smF = true) := Lib.hid (by
                rw [htk.out, List.all_append, HJ.out]
                have h := HM.out
                rw [List.take_of_length_le (by omega)] at h
                simp [smF, h]
                omega)
              clear HJ htk hmem
              go_wp2
              go_roundw
              case rel => exact ⟨j + 1, by go_num, by omega, by first | rfl | trivial, HJ2⟩
              case measure => simp [intOf]; omega
      · have j1 : ¬ (j : Int) < l.length := by omega
        have HF : R = true := by
          rw [← HT.out]
          have h := HJ.out
          rw [List.take_of_length_le (by omega)] at h
          exact h
        subst HF
        go_wp2
        go_ret
        exact ⟨rfl, rfl⟩
end Go.Proofs.YtbicmlkjonaccaaDoor.Ln


namespace Go.Proofs.YtbicmlkjonaccaaDoor.Rk
open Go.ChangeShapes Go.WideShapes Go.ChangeAt Go.RowKit
set_option linter.unusedVariables false
set_option linter.unusedSimpArgs false

section
variable {P : Program} {ops : Array Oper} {Q : Exit → Act → World → Prop} {md : Region.Mode} {S : World → Prop} {K : Nat}
/-- Operation K has not come up. -/
def Un (K : Nat) (listed : Array Bool) : Prop := listed.getD K true = false
/-- Whatever order is picked, S holds as long as operation K has not come up. -/
def wpK (P : Program) (md : Region.Mode) (ops : Array Oper) (Q : Exit → Act → World → Prop) (S : World → Prop) (K : Nat) : Nat → Array Bool → Act → World → Prop
  | 0, listed, a, w => Region.ready md ops listed = [] ∧ Q .normal a w
  | fuel + 1, listed, a, w =>
    (Region.ready md ops listed = [] → Q .normal a w) ∧
    ∀ i ∈ Region.ready md ops listed, wpOp P ops Q i (fun a' w' => (Un K (listed.setIfInBounds i true) → S w') ∧ wpK P md ops Q S K fuel (listed.setIfInBounds i true) a' w') a w
theorem wpAny_of : ∀ (fuel : Nat) (listed : Array Bool) (a : Act) (w : World), wpK P md ops Q S K fuel listed a w → wpAny P md ops Q fuel listed a w
  | 0, _, _, _, h => h
  | fuel + 1, _, _, _, h => ⟨h.1, fun i hi => wpOp_mono (fun a' w' h' => wpAny_of fuel _ a' w' h'.2) (h.2 i hi)⟩
def waits (md : Region.Mode) (ops : Array Oper) (j i : Nat) : Bool :=
  match ops.toList[j]? with
  | some o => o.after.any fun e => Region.binds md e && e.on == i
  | none => false
/-- None of them has come up, and each waits for the one before it. -/
def chain (md : Region.Mode) (ops : Array Oper) (listed : Array Bool) : List Nat → Bool
  | [] => true
  | [i] => !(listed.getD i true)
  | i :: j :: r => !(listed.getD i true) && waits md ops j i && chain md ops listed (j :: r)
theorem waits_ready {i j : Nat} {listed : Array Bool} (h : waits md ops j i = true) (hu : listed.getD i true = false) : j ∉ Region.ready md ops listed := by
  intro hj
  obtain ⟨_, o, ho, hall⟩ := mem_ready.1 hj
  unfold waits at h
  rw [Array.getElem?_toList, ho] at h
  simp only at h
  rw [Array.any_eq_true] at h
  obtain ⟨k, hk, he⟩ := h
  rw [Bool.and_eq_true, beq_iff_eq] at he
  have := hall _ (Array.getElem_mem hk) he.1
  rw [he.2] at this
  rcases Nat.lt_or_ge i listed.size with h' | h'
  · simp [h'] at hu this; rw [hu] at this; cases this
  · simp [Array.getElem?_eq_none h'] at hu
theorem chain_step {j : Nat} {listed : Array Bool} (hj : j ∈ Region.ready md ops listed) : ∀ (i : Nat) (cs : List Nat), j ≠ i → chain md ops listed (i :: cs) = true → chain md ops (listed.setIfInBounds j true) (i :: cs) = true
  | i, [], hne, h => by
    unfold chain at h ⊢
    rw [Bool.not_eq_true'] at h ⊢
    rw [getD_set_ne true hne]; exact h
  | i, c :: r, hne, h => by
    unfold chain at h ⊢
    rw [Bool.and_eq_true, Bool.and_eq_true, Bool.not_eq_true'] at h ⊢
    obtain ⟨⟨h1, h2⟩, h3⟩ := h
    have hc : j ≠ c := fun he => waits_ready h2 h1 (he ▸ hj)
    exact ⟨⟨by rw [getD_set_ne true hne]; exact h1, h2⟩, chain_step hj c r hc h3⟩
theorem chain_un {listed : Array Bool} : ∀ (i : Nat) (cs : List Nat), chain md ops listed (i :: cs) = true → ∀ c ∈ i :: cs, Un c listed
  | i, [], h, c, hc => by
    rw [List.mem_singleton] at hc
    subst hc
    unfold chain at h
    unfold Un
    simpa using h
  | i, d :: r, h, c, hc => by
    unfold chain at h
    rw [Bool.and_eq_true, Bool.and_eq_true, Bool.not_eq_true'] at h
    rcases List.mem_cons.1 hc with rfl | hc
    · exact h.1.1
    · exact chain_un d r h.2 c hc
theorem not_on {i : Nat} {listed : Array Bool} {oj : Oper} (hr : i ∈ Region.ready md ops listed) (hall : ∀ e ∈ oj.after, Region.binds md e = true → listed.getD e.on false = true) : ∀ e ∈ oj.after, Region.binds md e = true → e.on ≠ i := fun e he hb heq => by
  have h1 := hall e he hb
  have h0 := (mem_ready.1 hr).1
  rw [heq] at h1
  rcases Nat.lt_or_ge i listed.size with h' | h'
  · simp [h'] at h0 h1; rw [h0] at h1; cases h1
  · simp [Array.getElem?_eq_none h'] at h0
theorem first {i : Nat} {oi : Oper} {v : Value} {cs : List Nat} (hi : ops[i]? = some oi) (hsel : ∀ (j : Nat) (o : Oper) cs b, ops[j]? = some o → o.op ≠ .select cs b)
    (hT : K ∈ cs) (hiK : i ≠ K)
    (hQ : ∀ c a w, Q (.panic c) (a.put oi.dst v) w → Q (.panic c) a w) :
    ∀ (fuel : Nat) (listed : Array Bool) (a : Act) (w : World), chain md ops listed (i :: cs) = true →
      (∀ j oj, ops[j]? = some oj → j ≠ i → listed.getD j true = false → (∀ e ∈ oj.after, Region.binds md e = true → e.on ≠ i) → oi.apart ops oj = true) →
      i ∈ Region.ready md ops listed → YieldsIf P ops S oi v a → S w →
      wpK P md ops Q S K fuel (listed.setIfInBounds i true) (a.put oi.dst v) w → wpK P md ops Q S K (fuel + 1) listed a w := by
  intro fuel
  induction fuel with
  | zero =>
    intro listed a w _ _ hr hy hS H
    refine ⟨fun h => (by rw [h] at hr; cases hr), fun j hj => ?_⟩
    by_cases hji : j = i
    · subst hji; exact hy.wpOp hi hS ⟨fun _ => hS, H⟩
    · have := ready_mono hj hji
      rw [H.1] at this
      cases this
  | succ fuel ih =>
    intro listed a w hc hfree hr hy hS H
    refine ⟨fun h => (by rw [h] at hr; cases hr), fun j hj => ?_⟩
    by_cases hji : j = i
    · subst hji; exact hy.wpOp hi hS ⟨fun _ => hS, H⟩
    · have hc2 := chain_step hj i cs hji hc
      have h1 := H.2 j (ready_mono hj hji)
      obtain ⟨hjun, oj, hoj, hall⟩ := mem_ready.1 hj
      have h2 := wpOp_putIf hoj (hfree j oj hoj hji hjun (not_on hr hall)) (fun cs b => hsel i oi cs b hi) (fun cs b => hsel j oj cs b hoj) hQ hy h1
      have hfree' : ∀ k ok, ops[k]? = some ok → k ≠ i → (listed.setIfInBounds j true).getD k true = false →
          (∀ e ∈ ok.after, Region.binds md e = true → e.on ≠ i) → oi.apart ops ok = true := fun k ok hk hki hun hno => by
        refine hfree k ok hk hki ?_ hno
        by_cases hjk : j = k
        · subst hjk; exact hjun
        · rw [getD_set_ne true hjk] at hun; exact hun
      have hUn : Un K (listed.setIfInBounds j true) := chain_un i cs hc2 K (List.mem_cons_of_mem _ hT)
      have hst : i ≠ K → Un K ((listed.setIfInBounds i true).setIfInBounds j true) := fun hne => by
        rw [Array.setIfInBounds_comm _ _ (Ne.symm hji)]
        unfold Un at hUn ⊢
        rw [getD_set_ne true hne]
        exact hUn
      refine wpOp_mono (fun a' w' h3 => ?_) h2
      have hSw := h3.2.1 (hst hiK)
      refine ⟨fun _ => hSw, ih (listed.setIfInBounds j true) a' w' hc2 hfree' (ready_mono hr (Ne.symm hji)) h3.1 hSw ?_⟩
      rw [Array.setIfInBounds_comm _ _ hji]
      exact h3.2.2
/-- One that yields in whatever world. -/
theorem firstP {i : Nat} {oi : Oper} {v : Value} (hi : ops[i]? = some oi) (hsel : ∀ (j : Nat) (o : Oper) cs b, ops[j]? = some o → o.op ≠ .select cs b)
    (hiK : i ≠ K) (hQ : ∀ c a w, Q (.panic c) (a.put oi.dst v) w → Q (.panic c) a w) :
    ∀ (fuel : Nat) (listed : Array Bool) (a : Act) (w : World),
      (∀ j oj, ops[j]? = some oj → j ≠ i → listed.getD j true = false → (∀ e ∈ oj.after, Region.binds md e = true → e.on ≠ i) → oi.apart ops oj = true) →
      i ∈ Region.ready md ops listed → YieldsIf P ops (fun _ => True) oi v a → (Un K listed → S w) →
      wpK P md ops Q S K fuel (listed.setIfInBounds i true) (a.put oi.dst v) w → wpK P md ops Q S K (fuel + 1) listed a w := by
  have hset : ∀ listed : Array Bool, Un K (listed.setIfInBounds i true) ↔ Un K listed := fun l => by
    unfold Un
    rw [getD_set_ne true hiK]
  intro fuel
  induction fuel with
  | zero =>
    intro listed a w _ hr hy hS H
    refine ⟨fun h => (by rw [h] at hr; cases hr), fun j hj => ?_⟩
    by_cases hji : j = i
    · subst hji; exact hy.wpOp hi trivial ⟨fun hu => hS ((hset _).1 hu), H⟩
    · have := ready_mono hj hji
      rw [H.1] at this
      cases this
  | succ fuel ih =>
    intro listed a w hfree hr hy hS H
    refine ⟨fun h => (by rw [h] at hr; cases hr), fun j hj => ?_⟩
    by_cases hji : j = i
    · subst hji; exact hy.wpOp hi trivial ⟨fun hu => hS ((hset _).1 hu), H⟩
    · have h1 := H.2 j (ready_mono hj hji)
      obtain ⟨hjun, oj, hoj, hall⟩ := mem_ready.1 hj
      have h2 := wpOp_putIf hoj (hfree j oj hoj hji hjun (not_on hr hall)) (fun cs b => hsel i oi cs b hi) (fun cs b => hsel j oj cs b hoj) hQ hy h1
      have hfree' : ∀ k ok, ops[k]? = some ok → k ≠ i → (listed.setIfInBounds j true).getD k true = false →
          (∀ e ∈ ok.after, Region.binds md e = true → e.on ≠ i) → oi.apart ops ok = true := fun k ok hk hki hun hno => by
        refine hfree k ok hk hki ?_ hno
        by_cases hjk : j = k
        · subst hjk; exact hjun
        · rw [getD_set_ne true hjk] at hun; exact hun
      refine wpOp_mono (fun a' w' h3 => ?_) h2
      have hSw : Un K (listed.setIfInBounds j true) → S w' := fun hu => h3.2.1 (by
        rw [Array.setIfInBounds_comm _ _ (Ne.symm hji)]
        exact (hset _).2 hu)
      refine ⟨hSw, ih (listed.setIfInBounds j true) a' w' hfree' (ready_mono hr (Ne.symm hji)) h3.1 hSw ?_⟩
      rw [Array.setIfInBounds_comm _ _ hji]
      exact h3.2.2
/-- An operation that is carried out, or left out, first. -/
theorem take (cs : List Nat) {i : Nat} {oi : Oper} {v : Value} {fuel : Nat} {listed : Array Bool} {a : Act} {w : World} (hi : ops.toList[i]? = some oi)
    (hs : Region.noSelect ops = true) (hf : Region.free md ops listed i = true) (hr : (Region.ready md ops listed).contains i = true)
    (hc : chain md ops listed (i :: cs) = true) (hT : (cs.contains K && !(i == K)) = true)
    (hQ : ∀ c a w, Q (.panic c) (a.put oi.dst v) w → Q (.panic c) a w) (hy : YieldsIf P ops S oi v a) (hS : S w)
    (h : wpK P md ops Q S K fuel (listed.setIfInBounds i true) (a.put oi.dst v) w) : wpK P md ops Q S K (fuel + 1) listed a w :=
  have hi' : ops[i]? = some oi := by rw [← Array.getElem?_toList]; exact hi
  have hT' : K ∈ cs ∧ i ≠ K := by simpa using hT
  first hi' (Region.noSelect_spec hs) hT'.1 hT'.2 hQ fuel listed a w hc (Region.free_spec hi' hf) (by simpa using hr) hy hS h
theorem takeP {i : Nat} {oi : Oper} {v : Value} {fuel : Nat} {listed : Array Bool} {a : Act} {w : World} (hi : ops.toList[i]? = some oi)
    (hs : Region.noSelect ops = true) (hf : Region.free md ops listed i = true) (hr : (Region.ready md ops listed).contains i = true) (hT : (i == K) = false)
    (hQ : ∀ c a w, Q (.panic c) (a.put oi.dst v) w → Q (.panic c) a w) (hy : YieldsIf P ops (fun _ => True) oi v a) (hS : S w)
    (h : wpK P md ops Q S K fuel (listed.setIfInBounds i true) (a.put oi.dst v) w) : wpK P md ops Q S K (fuel + 1) listed a w :=
  have hi' : ops[i]? = some oi := by rw [← Array.getElem?_toList]; exact hi
  firstP hi' (Region.noSelect_spec hs) (by simpa using hT) hQ fuel listed a w (Region.free_spec hi' hf) (by simpa using hr) hy (fun _ => hS) h
/-- The one operation that may come up. -/
theorem one {i : Nat} {o : Oper} {fuel : Nat} {listed : Array Bool} {a : Act} {w : World} (hr : Region.ready md ops listed = [i]) (ho : ops.toList[i]? = some o)
    (h : ∀ K' : Act → World → Prop, Shut (∀ a w, S w → (S w → wpK P md ops Q S K fuel (listed.setIfInBounds i true) a w) → K' a w) → if Region.wanted o (yielded ops a.tmps) = true then Oper.wp P o a w K' Q else K' (a.put o.dst undef) w) :
    wpK P md ops Q S K (fuel + 1) listed a w := by
  have ho' : ops[i]? = some o := by rw [← Array.getElem?_toList]; exact ho
  refine ⟨fun h0 => (by rw [hr] at h0; cases h0), fun j hj => ?_⟩
  rw [hr, List.mem_singleton] at hj
  subst hj
  exact wpOp_step ho' (fun K' hK => h K' (fun a w hS hW => hK a w ⟨fun _ => hS, hW hS⟩))
/-- One of two comes up. -/
theorem two {i j : Nat} {o o' : Oper} {fuel : Nat} {listed : Array Bool} {a : Act} {w : World} (hr : Region.ready md ops listed = [i, j]) (ho : ops.toList[i]? = some o) (ho' : ops.toList[j]? = some o')
    (h : ∀ K' : Act → World → Prop, Shut (∀ a w, S w → (S w → wpK P md ops Q S K fuel (listed.setIfInBounds i true) a w) → K' a w) → if Region.wanted o (yielded ops a.tmps) = true then Oper.wp P o a w K' Q else K' (a.put o.dst undef) w)
    (h' : ∀ K' : Act → World → Prop, Shut (∀ a w, S w → (S w → wpK P md ops Q S K fuel (listed.setIfInBounds j true) a w) → K' a w) → if Region.wanted o' (yielded ops a.tmps) = true then Oper.wp P o' a w K' Q else K' (a.put o'.dst undef) w) :
    wpK P md ops Q S K (fuel + 1) listed a w := by
  have ho1 : ops[i]? = some o := by rw [← Array.getElem?_toList]; exact ho
  have ho2 : ops[j]? = some o' := by rw [← Array.getElem?_toList]; exact ho'
  refine ⟨fun h0 => (by rw [hr] at h0; cases h0), fun k hk => ?_⟩
  rw [hr, List.mem_cons, List.mem_singleton] at hk
  rcases hk with rfl | rfl
  · exact wpOp_step ho1 (fun K' hK => h K' (fun a w hS hW => hK a w ⟨fun _ => hS, hW hS⟩))
  · exact wpOp_step ho2 (fun K' hK => h' K' (fun a w hS hW => hK a w ⟨fun _ => hS, hW hS⟩))
/-- The operations that are left come up in this order. -/
def forced (md : Region.Mode) (ops : Array Oper) : Array Bool → List Nat → Bool
  | listed, [] => (Region.ready md ops listed).isEmpty
  | listed, i :: r => (Region.ready md ops listed == [i]) && forced md ops (listed.setIfInBounds i true) r
theorem set_self (l : Array Bool) (k : Nat) : (l.setIfInBounds k true).getD k true = true := by
  rcases Nat.lt_or_ge k l.size with h | h <;> simp [h]
theorem not_un {l : Array Bool} {k : Nat} (j : Nat) (h : ¬ Un k l) : ¬ Un k (l.setIfInBounds j true) := by
  unfold Un at h ⊢
  by_cases hj : j = k
  · subst hj; rw [set_self]; decide
  · rw [getD_set_ne true hj]; exact h
theorem rest : ∀ (l : List Nat) (os : List Oper) (fuel : Nat) (listed : Array Bool) (a : Act) (w : World), (∀ i, l.head? = some i → ¬ Un K (listed.setIfInBounds i true)) → forced md ops listed l = true → l.map (fun i => ops.toList[i]?) = os.map some → l.length ≤ fuel →
    wpList P ops Q os a w → wpK P md ops Q S K fuel listed a w
  | [], os, fuel, listed, a, w, _, hf, hm, _, h => by
    obtain rfl : os = [] := by cases os with | nil => rfl | cons => simp at hm
    unfold forced at hf
    have hr : Region.ready md ops listed = [] := by simpa using hf
    cases fuel with
    | zero => exact ⟨hr, h⟩
    | succ n => exact ⟨fun _ => h, by rw [hr]; simp⟩
  | i :: l, os, fuel, listed, a, w, hs, hf, hm, hl, h => by
    cases fuel with
    | zero => simp at hl
    | succ fuel =>
      cases os with
      | nil => simp at hm
      | cons o os =>
        have hs1 := hs i rfl
        unfold forced at hf
        rw [Bool.and_eq_true, beq_iff_eq] at hf
        rw [List.map_cons, List.map_cons, List.cons.injEq] at hm
        have ho : ops[i]? = some o := by rw [← Array.getElem?_toList]; exact hm.1
        refine ⟨fun h0 => (by rw [hf.1] at h0; cases h0), fun j hj => ?_⟩
        rw [hf.1, List.mem_singleton] at hj
        subst hj
        unfold wpList at h
        unfold wpOp
        simp only [ho]
        have go : ∀ a' w', wpList P ops Q os a' w' → (Un K (listed.setIfInBounds j true) → S w') ∧ wpK P md ops Q S K fuel (listed.setIfInBounds j true) a' w' := fun a' w' h' =>
          ⟨fun hn => absurd hn hs1, rest l os fuel _ a' w' (fun k _ => not_un k hs1) hf.2 hm.2 (by simpa using hl) h'⟩
        by_cases hw : Region.wanted o (yielded ops a.tmps) = true
        · simp only [hw, if_true] at h ⊢
          rcases h with h | h
          · exact .inl (Oper.wp_mono go h)
          · exact .inr h
        · simp only [hw] at h ⊢
          exact go _ _ h
/-- From operation K on the rest comes up in this order: it is walked as it stands. -/
theorem tail (l : List Nat) (os : List Oper) {fuel : Nat} {listed : Array Bool} {a : Act} {w : World} (hs : (l.head? == some K) = true) (hf : forced md ops listed l = true) (hm : l.map (fun i => ops.toList[i]?) = os.map some) (hl : l.length ≤ fuel)
    (h : wpList P ops Q os a w) : wpK P md ops Q S K fuel listed a w := by
  refine rest l os fuel listed a w (fun i hi => ?_) hf hm hl h
  rw [beq_iff_eq, hi] at hs
  injection hs with hs
  subst hs
  unfold Un
  rw [set_self]
  decide
theorem done {fuel : Nat} {listed : Array Bool} {a : Act} {w : World} (hr : Region.ready md ops listed = []) (h : Q .normal a w) : wpK P md ops Q S K fuel listed a w := by
  cases fuel with
  | zero => exact ⟨hr, h⟩
  | succ n => exact ⟨fun _ => h, by rw [hr]; simp⟩
/-- The beginning: S is shown of the world behind the draw, once, and handed on. -/
theorem begin {id : Nat} {a : Act} {w : World} (K : Nat) (hm : P.follows .mixedOrders = true) (hS : S w.drew)
    (h : S w.drew → wpK P .any ops Q S K ops.size (Array.replicate ops.size false) a w.drew) : (Code.region id ops true).wp P Q a w :=
  wp_region_any hm (wpAny_of _ _ _ _ (h hS))
end
end Go.Proofs.YtbicmlkjonaccaaDoor.Rk
