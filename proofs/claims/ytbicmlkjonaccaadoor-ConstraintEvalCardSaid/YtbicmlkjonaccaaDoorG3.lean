/- Linear forms: Validate of the reference. -/
import Derived.Test.YtbicmlkjonaccaaDoorY10
import Derived.Test.YtbicmlkjonaccaaDoorG1
import Derived.IntWalk
import Derived.WalkKit
import Derived.ProofKit
import Derived.OpenShut

namespace Go.Proofs.YtbicmlkjonaccaaDoor.Ln
open Go.ChangeShapes Go.WideShapes Go.ChangeAt Go.RowKit
set_option linter.unusedVariables false
set_option linter.unusedSimpArgs false
set_option maxRecDepth 100000 in
set_option maxHeartbeats 4000000 in
theorem val2 (k : Int) (p : Option Addr) (xs : List Mo) (c : Nat) (w : World) (hn : xs.length ≤ maxLen) (RA : Hid (SlM w p xs)) (RS : Hid (∀ i, i < xs.length → (xs.getD i mo0).1.size ≤ maxLen)) :
    Calls Tryd.prog 17 #[Lv k p xs.length c] w fun e w' => e = .returned (.int .i64 (vL xs)) ∧ Below w.heap.size w w' := by
  have C := Lib.hid fun w R1 => right k p xs c w hn R1 RS
  have B0 : Below w.heap.size w (w.alloc (Obj.cells #[Value.int .i64 k, Value.slice p xs.length c] 24)) := (Below.refl _ _).alloc (Nat.le_refl _) _
  unfold vL
  generalize okL xs = v at *
  unfold Lv at *
  cases v
  all_goals
    go_enter Tryd.func17, Tryd.ntmps17
    go_wp2_with fail
    refine (C.out _ (Lib.hid (SlM.keep B0 RA.out))).mono ?_
    rintro e w1 ⟨rfl, hb⟩
    go_wp2
    go_ret
    exact ⟨rfl, B0.trans (hb.mono B0.size)⟩
end Go.Proofs.YtbicmlkjonaccaaDoor.Ln


namespace Go.Proofs.YtbicmlkjonaccaaDoor.Ln
open Go.ChangeShapes Go.WideShapes Go.ChangeAt Go.RowKit
open Go.Proofs.YtbicmlkjonaccaaDoor.Nm
set_option linter.unusedVariables false
set_option linter.unusedSimpArgs false
set_option maxRecDepth 8000

/-- A constraint as a value. -/
def Cv (k : Int) (p : Option Addr) (n c : Nat) (eq : Bool) : Value := .agg #[.int .i64 k, .slice p n c, .bool eq]
def hB (k : Int) (eq : Bool) : Bool := (k == 0) || (decide (0 < k) && !eq)
theorem never1 (w : World) : Calls Tryd.prog 58 #[] w fun e w' => e = .returned (Cv (-1) none 0 0 false) ∧ Below w.heap.size w w' := by
  unfold Cv
  go_enter Tryd.func58, Tryd.ntmps58
  go_wp2
  refine bodyPost_ret (v := .agg #[.int .i64 (-1), .slice none 0 0, .bool false]) (by simp [results, Tryd.results58, go_sem]) rfl ⟨rfl, ?_⟩; (repeat' (first | (with_reducible exact Below.refl _ _) | (with_reducible refine Below.alloc ?_ ?_ _) | (with_reducible refine Below.setCell ?_ ?_ _) | (with_reducible refine below_drewN ?_ _) | (simp; done) | omega | (simp; omega)))
theorem never2 (w : World) : Calls Tryd.prog 62 #[] w fun e w' => e = .returned (Cv (-1) none 0 0 false) ∧ Below w.heap.size w w' := by
  unfold Cv
  go_enter Tryd.func62, Tryd.ntmps62
  go_wp2
  refine bodyPost_ret (v := .agg #[.int .i64 (-1), .slice none 0 0, .bool false]) (by simp [results, Tryd.results62, go_sem]) rfl ⟨rfl, ?_⟩; (repeat' (first | (with_reducible exact Below.refl _ _) | (with_reducible refine Below.alloc ?_ ?_ _) | (with_reducible refine Below.setCell ?_ ?_ _) | (with_reducible refine below_drewN ?_ _) | (simp; done) | omega | (simp; omega)))
theorem holdsF (k : Int) (p : Option Addr) (n c : Nat) (eq : Bool) (m : Int) (w : World) : Calls Tryd.prog 54 #[Cv k p n c eq, .int .i64 m] w fun e w' => e = .returned (.bool (hB m eq)) ∧ Below w.heap.size w w' := by
  unfold Cv hB
  have B0 : Below w.heap.size w (w.alloc (Obj.cells #[Value.int .i64 k, Value.slice p n c, Value.bool eq] 36)) := (Below.refl _ _).alloc (Nat.le_refl _) _
  by_cases h0 : m = 0
  · subst h0
    go_enter Tryd.func54, Tryd.ntmps54
    go_wp2
    go_ret
    exact ⟨by simp, B0⟩
  · have g0 : (m == 0) = false := by simpa using h0
    by_cases h1 : 0 < m
    · have g1 : decide (0 < m) = true := by simpa using h1
      rw [g0, g1]
      cases eq
      · go_enter Tryd.func54, Tryd.ntmps54
        go_wp2
        go_ret
        exact ⟨by simp, B0⟩
      · go_enter Tryd.func54, Tryd.ntmps54
        go_wp2
        go_ret
        exact ⟨by simp, B0⟩
    · have g1 : decide (0 < m) = false := by simpa using h1
      rw [g0, g1]
      clear h0 h1
      go_enter Tryd.func54, Tryd.ntmps54
      go_wp2
      go_ret
      exact ⟨by simp, B0⟩
theorem cval1 (k : Int) (p : Option Addr) (xs : List Mo) (c : Nat) (eq : Bool) (w : World) (hn : xs.length ≤ maxLen) (RA : Hid (SlM w p xs)) (RS : Hid (∀ i, i < xs.length → (xs.getD i mo0).1.size ≤ maxLen)) : Calls Tryd.prog 24 #[Cv k p xs.length c eq] w fun e w' => e = .returned (.int .i64 (vL xs)) ∧ Below w.heap.size w w' := by
  have VL := Lib.hid fun w h => val1 k p xs c w hn h RS
  have B0 : Below w.heap.size w (w.alloc (Obj.cells #[Value.int .i64 k, Value.slice p xs.length c, Value.bool eq] 36)) := (Below.refl _ _).alloc (Nat.le_refl _) _
  have RA2 := Lib.hid (SlM.keep B0 RA.out)
  unfold Cv
  unfold Lv at VL
  go_enter Tryd.func24, Tryd.ntmps24
  go_wp2_with (go_at_call 16; refine (VL.out _ RA2).mono ?_; rintro e w1 ⟨rfl, hb⟩)
  go_ret
  exact ⟨rfl, B0.trans (hb.mono B0.size)⟩
theorem cval2 (k : Int) (p : Option Addr) (xs : List Mo) (c : Nat) (eq : Bool) (w : World) (hn : xs.length ≤ maxLen) (RA : Hid (SlM w p xs)) (RS : Hid (∀ i, i < xs.length → (xs.getD i mo0).1.size ≤ maxLen)) : Calls Tryd.prog 25 #[Cv k p xs.length c eq] w fun e w' => e = .returned (.int .i64 (vL xs)) ∧ Below w.heap.size w w' := by
  have VL := Lib.hid fun w h => right k p xs c w hn h RS
  have B0 : Below w.heap.size w (w.alloc (Obj.cells #[Value.int .i64 k, Value.slice p xs.length c, Value.bool eq] 36)) := (Below.refl _ _).alloc (Nat.le_refl _) _
  have RA2 := Lib.hid (SlM.keep B0 RA.out)
  unfold Cv vL
  unfold Lv at VL
  cases hok : okL xs
  · rw [hok] at VL
    clear hok
    go_enter Tryd.func25, Tryd.ntmps25
    go_wp2_with (go_at_call 45; refine (VL.out _ RA2).mono ?_; rintro e w1 ⟨rfl, hb⟩)
    go_ret
    exact ⟨by simp, B0.trans (hb.mono B0.size)⟩
  · rw [hok] at VL
    clear hok
    go_enter Tryd.func25, Tryd.ntmps25
    go_wp2_with (go_at_call 45; refine (VL.out _ RA2).mono ?_; rintro e w1 ⟨rfl, hb⟩)
    go_ret
    exact ⟨by simp, B0.trans (hb.mono B0.size)⟩
end Go.Proofs.YtbicmlkjonaccaaDoor.Ln


namespace Go.Proofs.YtbicmlkjonaccaaDoor.Ln
open Go.ChangeShapes Go.WideShapes Go.ChangeAt Go.RowKit
set_option linter.unusedVariables false
set_option linter.unusedSimpArgs false
def co : List Mo → ByteArray → Int
  | [], _ => 0
  | x :: r, s => if (x.1.toList == s.toList) = true then x.2 else co r s
theorem co_step {xs : List Mo} {j : Nat} (h : j < xs.length) (s : ByteArray) : co (xs.drop j) s = if ((xs.getD j mo0).1.toList == s.toList) = true then (xs.getD j mo0).2 else co (xs.drop (j + 1)) s := by
  rw [List.drop_eq_getElem_cons h]
  have e1 : xs.getD j mo0 = xs[j] := by unfold List.getD; rw [List.getElem?_eq_getElem h]; rfl
  rw [e1]
  rfl
theorem co_end {xs : List Mo} {j : Nat} (h : j = xs.length) (s : ByteArray) : co (xs.drop j) s = 0 := by
  rw [List.drop_of_length_le (Nat.le_of_eq h.symm)]
  rfl
set_option maxRecDepth 100000 in
set_option maxHeartbeats 8000000 in
theorem coeff2 (k : Int) (p : Option Addr) (xs : List Mo) (c : Nat) (s : ByteArray) (w : World) (hn : xs.length ≤ maxLen) (RA : Hid (SlM w p xs)) :
    Calls Tryd.prog 101 #[Lv k p xs.length c, .string s] w fun e w' => e = .returned (.int .i64 (co xs s)) ∧ Below w.heap.size w w' := by
  have B0 : Below w.heap.size w (w.alloc (Obj.cells #[Value.int .i64 k, Value.slice p xs.length c] 24)) := (Below.refl _ _).alloc (Nat.le_refl _) _
  have f1 : ((w.alloc (Obj.cells #[Value.int .i64 k, Value.slice p xs.length c] 24))).cell? ⟨w.heap.size, 1, none⟩ = some (.slice p xs.length c) := by go_cell
  unfold maxLen at hn
  unfold Lv
  go_enter Tryd.func101, Tryd.ntmps101
  go_wp2
  have RA1 := Lib.hid (SlM.keep B0 RA.out)
  generalize (w.alloc (Obj.cells #[Value.int .i64 k, Value.slice p xs.length c] 24)) = z at *
  go_loopw [5] (fun i wr => ∃ j : Nat, i = .int .i64 (j : Int) ∧ j ≤ xs.length ∧ wr = z ∧ Hid (co xs s = co (xs.drop j) s)) (fun i _ => xs.length - (intOf i).toNat)
  case atStart => exact ⟨0, rfl, by omega, rfl, Lib.hid rfl⟩
  case round =>
    obtain ⟨j, rfl, hk, rfl, HL⟩ := hrel
    have k0 : (0 : Int) ≤ j := by omega
    by_cases hlt : j < xs.length
    · obtain ⟨b, o, rfl, c0, c1⟩ := RA1.out j hlt
      have hst := Lib.hid (co_step hlt s)
      obtain ⟨⟨t, a⟩, hx⟩ : ∃ x, xs.getD j mo0 = x := ⟨_, rfl⟩
      have hst := Lib.hid (by have h := hst.out; rw [hx] at h; exact h)
      rw [hx] at c0 c1
      simp only at c0 c1
      have k1 : (j : Int) < xs.length := by omega
      clear hx
      obtain ⟨q1, hq1⟩ : ∃ q, (t.toList == s.toList) = q := ⟨_, rfl⟩
      cases q1
      · have HS := Lib.hid (show co xs s = co (xs.drop (j + 1)) s by rw [HL.out, hst.out]; simp only [hq1]; rfl)
        clear HL hst
        go_wp2
        go_roundw
        case rel => exact ⟨j + 1, by go_num, by omega, by first | rfl | trivial, HS⟩
        case measure => simp [intOf]; omega
      · have HS := Lib.hid (show co xs s = a by rw [HL.out, hst.out]; simp only [hq1]; rfl)
        clear HL hst
        go_wp2
        go_ret
        exact ⟨ret_int (by rw [HS.out]), B0⟩
    · have k1 : ¬ (j : Int) < xs.length := by omega
      have HS := Lib.hid (show co xs s = 0 by rw [HL.out, co_end (by omega)])
      go_wp2
      go_ret
      exact ⟨ret_int (by rw [HS.out]), B0⟩
set_option maxRecDepth 100000 in
set_option maxHeartbeats 8000000 in
theorem linEq (k : Int) (p : Option Addr) (xs : List Mo) (c : Nat) (q : Option Addr) (d : Nat) (w : World) (hn : xs.length ≤ maxLen) (RA : Hid (SlM w p xs)) (RB : Hid (SlM w q xs)) :
    Calls Tryd.prog 66 #[Lv k p xs.length c, Lv k q xs.length d] w fun e w' => e = .returned (.bool true) ∧ Below w.heap.size w w' := by
  have B0 : Below w.heap.size w ((w.alloc (Obj.cells #[Value.int .i64 k, Value.slice p xs.length c] 24)).alloc (Obj.cells #[Value.int .i64 k, Value.slice q xs.length d] 24)) := two_below _ _
  have f1 : (((w.alloc (Obj.cells #[Value.int .i64 k, Value.slice p xs.length c] 24)).alloc (Obj.cells #[Value.int .i64 k, Value.slice q xs.length d] 24))).cell? ⟨w.heap.size, 1, none⟩ = some (.slice p xs.length c) := by go_cell
  have g1 : (((w.alloc (Obj.cells #[Value.int .i64 k, Value.slice p xs.length c] 24)).alloc (Obj.cells #[Value.int .i64 k, Value.slice q xs.length d] 24))).cell? ⟨w.heap.size + 1, 1, none⟩ = some (.slice q xs.length d) := by go_cell
  unfold maxLen at hn
  unfold Lv
  go_enter Tryd.func66, Tryd.ntmps66
  go_wp2
  have RA1 := Lib.hid (SlM.keep B0 RA.out)
  have RB1 := Lib.hid (SlM.keep B0 RB.out)
  generalize ((w.alloc (Obj.cells #[Value.int .i64 k, Value.slice p xs.length c] 24)).alloc (Obj.cells #[Value.int .i64 k, Value.slice q xs.length d] 24)) = z at *
  go_loopw [5] (fun i wr => ∃ j r : Nat, i = .int .i64 (j : Int) ∧ j ≤ xs.length ∧ wr = z.drewN r) (fun i _ => xs.length - (intOf i).toNat)
  case atStart => exact ⟨0, 0, rfl, by omega, rfl⟩
  case round =>
    obtain ⟨j, r, rfl, hk, rfl⟩ := hrel
    have k0 : (0 : Int) ≤ j := by omega
    by_cases hlt : j < xs.length
    · obtain ⟨b, o, rfl, c0, c1⟩ := RA1.out j hlt
      obtain ⟨b', o', rfl, d0, d1⟩ := RB1.out j hlt
      obtain ⟨⟨t, a⟩, hx⟩ : ∃ x, xs.getD j mo0 = x := ⟨_, rfl⟩
      rw [hx] at c0 c1 d0 d1
      simp only at c0 c1 d0 d1
      have k1 : (j : Int) < xs.length := by omega
      clear hx
      go_wp2
      go_quiet (fail)
      go_wp2
      go_roundw
      case rel => exact ⟨j + 1, _, by go_num, by omega, rfl⟩
      case measure => simp [intOf]; omega
    · have k1 : ¬ (j : Int) < xs.length := by omega
      go_wp2
      go_ret
      exact ⟨rfl, below_drewN B0 _⟩
end Go.Proofs.YtbicmlkjonaccaaDoor.Ln


namespace Go.Proofs.YtbicmlkjonaccaaDoor.Ln
open Go.ChangeShapes Go.WideShapes Go.ChangeAt Go.RowKit
set_option linter.unusedVariables false
set_option linter.unusedSimpArgs false
def fit64 (n : Int) : Bool := decide (-9223372036854775808 ≤ n) && decide (n ≤ 9223372036854775807)
theorem fit_yes {n : Int} : fit64 n = true ↔ -9223372036854775808 ≤ n ∧ n ≤ 9223372036854775807 := by
  unfold fit64
  rw [Bool.and_eq_true, decide_eq_true_eq, decide_eq_true_eq]
theorem wrap_off (n : Int) : ∃ m : Int, IntKind.i64.wrap n = n - m * 18446744073709551616 ∧ -9223372036854775808 ≤ IntKind.i64.wrap n ∧ IntKind.i64.wrap n ≤ 9223372036854775807 := by
  rw [IntKind.wrap_i64]
  refine ⟨(n + 9223372036854775808) / 18446744073709551616, ?_, ?_, ?_⟩ <;> omega
/-- The quotient gives the factor back just where the product fits. -/
theorem back {a b C : Int} (hb : b ≠ 0) (hb1 : -9223372036854775808 ≤ b) (hb2 : b ≤ 9223372036854775807) (hC : C = IntKind.i64.wrap (a * b)) (h : C.tdiv b = a) : fit64 (a * b) = true := by
  obtain ⟨m, h1, h2, h3⟩ := wrap_off (a * b)
  rw [← hC] at h1 h2 h3
  have e := Int.mul_tdiv_add_tmod C b
  rw [h] at e
  have hm : (C.tmod b).natAbs < b.natAbs := by rw [Int.natAbs_tmod]; exact Nat.mod_lt _ (by omega)
  have hc : b * a = a * b := Int.mul_comm b a
  rw [hc] at e
  rw [fit_yes]
  generalize C.tmod b = r at *
  generalize a * b = P at *
  omega
theorem there {a b C : Int} (hb : b ≠ 0) (hC : C = IntKind.i64.wrap (a * b)) (h : fit64 (a * b) = true) : C = a * b ∧ C.tdiv b = a := by
  have hf := fit_yes.1 h
  have : C = a * b := by rw [hC]; exact IntWalk.i64_in _ hf
  exact ⟨this, by rw [this]; exact Int.mul_tdiv_cancel a hb⟩
set_option maxRecDepth 100000 in
set_option maxHeartbeats 8000000 in
theorem times (a b : Int) (w : World) (ha1 : -9223372036854775808 ≤ a) (ha2 : a ≤ 9223372036854775807) (hb1 : -9223372036854775808 ≤ b) (hb2 : b ≤ 9223372036854775807) :
    Calls Tryd.prog 98 #[.int .i64 a, .int .i64 b] w fun e w' => e = .returned (.tuple #[.int .i64 (if fit64 (a * b) = true then a * b else 0), .bool (fit64 (a * b))]) ∧ w = w' := by
  by_cases ha : a = 0
  · subst ha
    rw [Int.zero_mul, show fit64 0 = true from rfl, if_pos rfl]
    go_enter Tryd.func98, Tryd.ntmps98
    go_wp2
    exact bodyPost_ret (v := .tuple #[.int .i64 0, .bool true]) (by simp [results, Tryd.results98, go_sem]) rfl ⟨rfl, rfl⟩
  · have ha' : (a == 0) = false := beq_false_of_ne ha
    by_cases hb : b = 0
    · subst hb
      rw [Int.mul_zero, show fit64 0 = true from rfl, if_pos rfl]
      go_enter Tryd.func98, Tryd.ntmps98
      go_wp2
      exact bodyPost_ret (v := .tuple #[.int .i64 0, .bool true]) (by simp [results, Tryd.results98, go_sem]) rfl ⟨rfl, rfl⟩
    · have hb' : (b == 0) = false := beq_false_of_ne hb
      obtain ⟨C, hC⟩ : ∃ C, C = IntKind.i64.wrap (a * b) := ⟨_, rfl⟩
      obtain ⟨m, hmm, hC1, hC2⟩ := wrap_off (a * b)
      clear hmm
      rw [← hC] at hC1 hC2
      obtain ⟨D, hD⟩ : ∃ D, D = IntKind.i64.wrap (C.tdiv b) := ⟨_, rfl⟩
      by_cases hs : (a = -1 ∧ b = -9223372036854775808) ∨ (b = -1 ∧ a = -9223372036854775808)
      · rcases hs with ⟨rfl, rfl⟩ | ⟨rfl, rfl⟩
        · rw [show fit64 (-1 * -9223372036854775808) = false from rfl, if_neg (by decide)]
          go_enter Tryd.func98, Tryd.ntmps98
          go_wp2
          exact bodyPost_ret (v := .tuple #[.int .i64 0, .bool false]) (by simp [results, Tryd.results98, go_sem]) rfl ⟨rfl, rfl⟩
        · rw [show fit64 (-9223372036854775808 * -1) = false from rfl, if_neg (by decide)]
          go_enter Tryd.func98, Tryd.ntmps98
          go_wp2
          exact bodyPost_ret (v := .tuple #[.int .i64 0, .bool false]) (by simp [results, Tryd.results98, go_sem]) rfl ⟨rfl, rfl⟩
      · have W1 : wrap64 (a * b) = C := by rw [hC, IntKind.wrap_i64]; first | rfl | simp [wrap64]
        have W2 : wrap64 (C.tdiv b) = D := by rw [hD, IntKind.wrap_i64]; first | rfl | simp [wrap64]
        have W1' := hC.symm
        have W2' := hD.symm
        obtain ⟨q1, h1⟩ : ∃ q, (a == -1) = q := ⟨_, rfl⟩
        obtain ⟨q2, h2⟩ : ∃ q, (b == -9223372036854775808) = q := ⟨_, rfl⟩
        obtain ⟨q3, h3⟩ : ∃ q, (b == -1) = q := ⟨_, rfl⟩
        obtain ⟨q4, h4⟩ : ∃ q, (a == -9223372036854775808) = q := ⟨_, rfl⟩
        obtain ⟨q5, h5⟩ : ∃ q, (D == a) = q := ⟨_, rfl⟩
        have HF : fit64 (a * b) = q5 ∧ (q5 = true → C = a * b) := by
          have hr : -9223372036854775808 ≤ C.tdiv b ∧ C.tdiv b ≤ 9223372036854775807 := by
            by_cases hbm : b = -1
            · subst hbm
              have hn : C ≠ -9223372036854775808 := by
                rw [hC, show a * -1 = -a by omega, IntKind.wrap_i64]
                intro h
                exact hs (.inr ⟨rfl, by omega⟩)
              rw [Int.tdiv_neg, Int.tdiv_one]
              omega
            · by_cases hbp : b = 1
              · subst hbp
                rw [Int.tdiv_one]
                omega
              · have e1 : (C.tdiv b).natAbs = C.natAbs / b.natAbs := Int.natAbs_tdiv C b
                have e2 : C.natAbs / b.natAbs ≤ C.natAbs / 2 := Nat.div_le_div_left (by omega) (by omega)
                omega
          have hDC : D = C.tdiv b := by rw [hD]; exact IntWalk.i64_in _ hr
          have HA : q5 = true → fit64 (a * b) = true := fun h => back hb hb1 hb2 hC (by rw [← hDC]; rw [h] at h5; exact beq_iff_eq.1 h5)
          have HB : fit64 (a * b) = true → q5 = true := fun h => by rw [← h5, beq_iff_eq, hDC]; exact (there hb hC h).2
          exact ⟨by rw [Bool.eq_iff_iff]; exact ⟨HB, HA⟩, fun h => (there hb hC (HA h)).1⟩
        have H1 : ¬ (q1 = true ∧ q2 = true) := fun h => hs (.inl ⟨by have := h.1; rw [← h1, beq_iff_eq] at this; exact this, by have := h.2; rw [← h2, beq_iff_eq] at this; exact this⟩)
        have H2 : ¬ (q3 = true ∧ q4 = true) := fun h => hs (.inr ⟨by have := h.1; rw [← h3, beq_iff_eq] at this; exact this, by have := h.2; rw [← h4, beq_iff_eq] at this; exact this⟩)
        rw [HF.1]
        have HC := Lib.hid HF.2
        clear HF hD hC hs
        cases q5
        · rw [if_neg (by decide)]
          clear HC
          cases q1 <;> cases q2 <;> cases q3 <;> cases q4 <;> first | exact absurd ⟨rfl, rfl⟩ H1 | exact absurd ⟨rfl, rfl⟩ H2 | skip
          all_goals
            go_enter Tryd.func98, Tryd.ntmps98
            go_wp2
            first | done | exact bodyPost_ret (v := .tuple #[.int .i64 0, .bool false]) (by simp [results, Tryd.results98, go_sem]) rfl ⟨rfl, rfl⟩
        · rw [if_pos rfl, ← HC.out rfl]
          clear HC
          cases q1 <;> cases q2 <;> cases q3 <;> cases q4 <;> first | exact absurd ⟨rfl, rfl⟩ H1 | exact absurd ⟨rfl, rfl⟩ H2 | skip
          all_goals
            go_enter Tryd.func98, Tryd.ntmps98
            go_wp2
            first | done | exact bodyPost_ret (v := .tuple #[.int .i64 C, .bool true]) (by simp [results, Tryd.results98, go_sem]) rfl ⟨rfl, rfl⟩
end Go.Proofs.YtbicmlkjonaccaaDoor.Ln


namespace Go.Proofs.YtbicmlkjonaccaaDoor.Ln
open Go.ChangeShapes Go.WideShapes Go.ChangeAt Go.RowKit
set_option linter.unusedVariables false
set_option linter.unusedSimpArgs false
/-- The three limbs of a number in two's complement. -/
def l0 (V : Int) : Int := V % 18446744073709551616
def l1 (V : Int) : Int := V / 18446744073709551616 % 18446744073709551616
def l2 (V : Int) : Int := V / 340282366920938463463374607431768211456 % 18446744073709551616
theorem l0_add (V X : Int) : (l0 V + l0 X) % 18446744073709551616 = l0 (V + X) := by unfold l0; omega
theorem l1_add (V X : Int) : (l1 V + l1 X + (l0 V + l0 X) / 18446744073709551616) % 18446744073709551616 = l1 (V + X) := by unfold l1 l0; omega
theorem l2_add (V X : Int) : (l2 V + l2 X + (l1 V + l1 X + (l0 V + l0 X) / 18446744073709551616) / 18446744073709551616) % 18446744073709551616 = l2 (V + X) := by
  have e : ∀ Y : Int, Y / 340282366920938463463374607431768211456 = Y / 18446744073709551616 / 18446744073709551616 := fun Y => by omega
  unfold l2 l1 l0
  rw [e V, e X, e (V + X)]
  obtain ⟨q, hq⟩ : ∃ q, V / 18446744073709551616 = q := ⟨_, rfl⟩
  obtain ⟨r, hr⟩ : ∃ r, X / 18446744073709551616 = r := ⟨_, rfl⟩
  obtain ⟨u, hu⟩ : ∃ u, (V + X) / 18446744073709551616 = u := ⟨_, rfl⟩
  have hc : u = q + r + (V % 18446744073709551616 + X % 18446744073709551616) / 18446744073709551616 := by omega
  rw [hq, hr, hu, hc]
  generalize (V % 18446744073709551616 + X % 18446744073709551616) / 18446744073709551616 = c
  clear hq hr hu hc e
  omega
theorem l_bd (V : Int) : (0 ≤ l0 V ∧ l0 V < 18446744073709551616) ∧ (0 ≤ l1 V ∧ l1 V < 18446744073709551616) ∧ (0 ≤ l2 V ∧ l2 V < 18446744073709551616) := by unfold l2 l1 l0; omega
/-- The two limbs that the unsigned product gives. -/
theorem mul_pp {a b : Int} (ha : 0 ≤ a) (ha2 : a ≤ 9223372036854775807) (hb : 0 ≤ b) (hb2 : b ≤ 9223372036854775807) : (a % 18446744073709551616) * (b % 18446744073709551616) = a * b := by
  rw [Int.emod_eq_of_lt ha (by omega), Int.emod_eq_of_lt hb (by omega)]
theorem neg_mod {a : Int} (ha : a < 0) (ha2 : -9223372036854775808 ≤ a) : a % 18446744073709551616 = a + 18446744073709551616 := by omega
theorem pos_mod {a : Int} (ha : 0 ≤ a) (ha2 : a ≤ 9223372036854775807) : a % 18446744073709551616 = a := by omega
theorem lo_eq {a b : Int} (ha1 : -9223372036854775808 ≤ a) (ha2 : a ≤ 9223372036854775807) (hb1 : -9223372036854775808 ≤ b) (hb2 : b ≤ 9223372036854775807) : (a % 18446744073709551616) * (b % 18446744073709551616) % 18446744073709551616 = l0 (a * b) := by
  unfold l0
  rw [← Int.mul_emod]
theorem hi_eq {a b : Int} (ha1 : -9223372036854775808 ≤ a) (ha2 : a ≤ 9223372036854775807) (hb1 : -9223372036854775808 ≤ b) (hb2 : b ≤ 9223372036854775807) :
    ((a % 18446744073709551616) * (b % 18446744073709551616) / 18446744073709551616 - (if a < 0 then b % 18446744073709551616 else 0) - (if b < 0 then a % 18446744073709551616 else 0)) % 18446744073709551616 = l1 (a * b) := by
  unfold l1
  by_cases h1 : a < 0
  · by_cases h2 : b < 0
    · rw [if_pos h1, if_pos h2, neg_mod h1 ha1, neg_mod h2 hb1]
      have e : (a + 18446744073709551616) * (b + 18446744073709551616) = a * b + 18446744073709551616 * a + 18446744073709551616 * b + 340282366920938463463374607431768211456 := by grind
      rw [e]
      generalize a * b = X
      omega
    · rw [if_pos h1, if_neg h2, neg_mod h1 ha1, pos_mod (by omega) hb2]
      have e : (a + 18446744073709551616) * b = a * b + 18446744073709551616 * b := by grind
      rw [e]
      generalize a * b = X
      omega
  · by_cases h2 : b < 0
    · rw [if_neg h1, if_pos h2, pos_mod (by omega) ha2, neg_mod h2 hb1]
      have e : a * (b + 18446744073709551616) = a * b + 18446744073709551616 * a := by grind
      rw [e]
      generalize a * b = X
      omega
    · rw [if_neg h1, if_neg h2, pos_mod (by omega) ha2, pos_mod (by omega) hb2]
      generalize a * b = X
      omega
theorem prod_bd {a b : Int} (ha1 : -9223372036854775808 ≤ a) (ha2 : a ≤ 9223372036854775807) (hb1 : -9223372036854775808 ≤ b) (hb2 : b ≤ 9223372036854775807) : -85070591730234615865843651857942052864 ≤ a * b ∧ a * b ≤ 85070591730234615865843651857942052864 := by
  have h : (a * b).natAbs ≤ 9223372036854775808 * 9223372036854775808 := by
    rw [Int.natAbs_mul]
    exact Nat.mul_le_mul (by omega) (by omega)
  omega
theorem sg_eq {X : Int} (h1 : -85070591730234615865843651857942052864 ≤ X) (h2 : X ≤ 85070591730234615865843651857942052864) : (if l1 X < 9223372036854775808 then 0 else 18446744073709551615) = l2 X := by
  unfold l1 l2
  split <;> omega
/-- A sum in 192 bits that fits in 64: both upper limbs repeat the lower one's sign. -/
theorem fits_iff {V : Int} (h1 : -1569275433846670190958947355801916604025588861116008628224 ≤ V) (h2 : V ≤ 1569275433846670190958947355801916604025588861116008628224) :
    (l1 V = (if l0 V < 9223372036854775808 then 0 else 18446744073709551615) ∧ l2 V = (if l0 V < 9223372036854775808 then 0 else 18446744073709551615)) ↔ (-9223372036854775808 ≤ V ∧ V ≤ 9223372036854775807) := by
  unfold l0 l1 l2
  constructor
  · intro h
    split at h <;> omega
  · intro h
    split <;> omega
end Go.Proofs.YtbicmlkjonaccaaDoor.Ln


namespace Go.Proofs.YtbicmlkjonaccaaDoor.Ln
open Go.ChangeShapes Go.WideShapes Go.ChangeAt Go.RowKit
set_option linter.unusedVariables false
set_option linter.unusedSimpArgs false
theorem u64w (n : Int) : IntKind.u64.wrap n = n % 18446744073709551616 := by simp [IntKind.wrap, IntKind.bits, IntKind.signed]
def addS (x y c : Int) : Int := (x + y + c) % 18446744073709551616
def addC (x y c : Int) : Int := (x + y + c) / 18446744073709551616
theorem addG (x y c : Int) (hx : 0 ≤ x ∧ x < 18446744073709551616) (hy : 0 ≤ y ∧ y < 18446744073709551616) (hc : 0 ≤ c ∧ c ≤ 1) (w : World) : (callFunc 112 #[.int .u64 x, .int .u64 y, .int .u64 c]).run Tryd.prog w = .ok (.value (.tuple #[.int .u64 (addS x y c), .int .u64 (addC x y c)])) w := by
  rw [run_callFunc_extern Tryd.func112 (by kernel_rfl) (by kernel_rfl) (by kernel_rfl) (e := add64Entry) (by kernel_rfl), run_add64 x y c hx.1 hy.1 hc.1 hc.2]
  rfl
theorem mulG (x y : Int) (hx : 0 ≤ x ∧ x < 18446744073709551616) (hy : 0 ≤ y ∧ y < 18446744073709551616) (w : World) : Calls Tryd.prog 111 #[.int .u64 x, .int .u64 y] w fun e w' => e = .returned (.tuple #[.int .u64 (x * y / 18446744073709551616), .int .u64 (x * y % 18446744073709551616)]) ∧ w = w' := by
  obtain ⟨n, rfl⟩ := Int.eq_ofNat_of_zero_le hx.1
  obtain ⟨m, rfl⟩ := Int.eq_ofNat_of_zero_le hy.1
  refine (Tryd.bits_Mul64 n m (by omega) (by omega) w).mono ?_
  rintro e w' ⟨rfl, rfl⟩
  exact ⟨by rw [Int.natCast_ediv, Int.natCast_emod, Int.natCast_mul]; rfl, rfl⟩
set_option maxRecDepth 100000 in
set_option maxHeartbeats 8000000 in
theorem waddT (g : Nat) (x0 x1 x2 a b A B H H1 H2 L : Int) (w : World) (hA : IntKind.u64.wrap a = A) (hB : IntKind.u64.wrap b = B)
    (C1 : Hid (∀ w, Calls Tryd.prog 111 #[.int .u64 A, .int .u64 B] w fun e w' => e = .returned (.tuple #[.int .u64 H, .int .u64 L]) ∧ w = w'))
    (e1 : Hid (a < 0 → IntKind.u64.wrap (H - B) = H1)) (e1' : Hid (¬ a < 0 → H = H1)) (e2 : Hid (b < 0 → IntKind.u64.wrap (H1 - A) = H2)) (e2' : Hid (¬ b < 0 → H1 = H2))
    (a0 : w.cell? ⟨g, 0, none⟩ = some (.int .u64 x2)) (a1 : w.cell? ⟨g, 1, none⟩ = some (.int .u64 x1)) (a2 : w.cell? ⟨g, 2, none⟩ = some (.int .u64 x0)) (z0 : w.frozen? ⟨g, 0, none⟩ = false) (z1 : w.frozen? ⟨g, 1, none⟩ = false) (z2 : w.frozen? ⟨g, 2, none⟩ = false) 
    (y0 c0 y1 c1 y2 c2 S : Int) (hS : IntKind.u64.wrap (wrap64 H2 / 9223372036854775808) = S)
    (D0 : ∀ w, (callFunc 112 #[.int .u64 x0, .int .u64 L, .int .u64 0]).run Tryd.prog w = .ok (.value (.tuple #[.int .u64 y0, .int .u64 c0])) w)
    (D1 : ∀ w, (callFunc 112 #[.int .u64 x1, .int .u64 H2, .int .u64 c0]).run Tryd.prog w = .ok (.value (.tuple #[.int .u64 y1, .int .u64 c1])) w)
    (D2 : ∀ w, (callFunc 112 #[.int .u64 x2, .int .u64 S, .int .u64 c1]).run Tryd.prog w = .ok (.value (.tuple #[.int .u64 y2, .int .u64 c2])) w) :
    Calls Tryd.prog 80 #[.pointer (some ⟨g, 0, none⟩), .int .i64 a, .int .i64 b] w fun e w' => e = .returned (.tuple #[]) ∧ w' = ((w.setCell ⟨g, 2, none⟩ (.int .u64 y0)).setCell ⟨g, 1, none⟩ (.int .u64 y1)).setCell ⟨g, 0, none⟩ (.int .u64 y2) := by
  by_cases ha : a < 0
  · have f1 := e1.out ha
    by_cases hb : b < 0
    · have f2 := e2.out hb
      go_enter Tryd.func80, Tryd.ntmps80
      go_wp2_with fail
      refine (C1.out _).mono ?_
      rintro e w' ⟨rfl, rfl⟩
      go_wp2
      go_end0
      exact ⟨rfl, rfl⟩
    · obtain rfl := e2'.out hb
      go_enter Tryd.func80, Tryd.ntmps80
      go_wp2_with fail
      refine (C1.out _).mono ?_
      rintro e w' ⟨rfl, rfl⟩
      go_wp2
      go_end0
      exact ⟨rfl, rfl⟩
  · obtain rfl := e1'.out ha
    by_cases hb : b < 0
    · have f2 := e2.out hb
      go_enter Tryd.func80, Tryd.ntmps80
      go_wp2_with fail
      refine (C1.out _).mono ?_
      rintro e w' ⟨rfl, rfl⟩
      go_wp2
      go_end0
      exact ⟨rfl, rfl⟩
    · obtain rfl := e2'.out hb
      go_enter Tryd.func80, Tryd.ntmps80
      go_wp2_with fail
      refine (C1.out _).mono ?_
      rintro e w' ⟨rfl, rfl⟩
      go_wp2
      go_end0
      exact ⟨rfl, rfl⟩
theorem sgn {X : Int} (h1 : -85070591730234615865843651857942052864 ≤ X) (h2 : X ≤ 85070591730234615865843651857942052864) : IntKind.u64.wrap (wrap64 (l1 X) / 9223372036854775808) = l2 X := by
  have hb := l_bd X
  rw [← sg_eq h1 h2, u64w]
  unfold wrap64
  split <;> omega
theorem hbd {A B : Int} (a0 : 0 ≤ A) (a1 : A < 18446744073709551616) (b0 : 0 ≤ B) (b1 : B < 18446744073709551616) : 0 ≤ A * B / 18446744073709551616 ∧ A * B / 18446744073709551616 < 18446744073709551616 := by
  have h1 : A * B ≤ 18446744073709551615 * B := Int.mul_le_mul_of_nonneg_right (by omega) b0
  have h0 : 0 ≤ A * B := Int.mul_nonneg a0 b0
  generalize A * B = P at *
  omega
theorem modd (h c d : Int) : ((h - c) % 18446744073709551616 - d) % 18446744073709551616 = (h - c - d) % 18446744073709551616 := by omega
theorem waddG (g : Nat) (V a b : Int) (w : World) (ha1 : -9223372036854775808 ≤ a) (ha2 : a ≤ 9223372036854775807) (hb1 : -9223372036854775808 ≤ b) (hb2 : b ≤ 9223372036854775807)
    (a0 : w.cell? ⟨g, 0, none⟩ = some (.int .u64 (l2 V))) (a1 : w.cell? ⟨g, 1, none⟩ = some (.int .u64 (l1 V))) (a2 : w.cell? ⟨g, 2, none⟩ = some (.int .u64 (l0 V))) (z0 : w.frozen? ⟨g, 0, none⟩ = false) (z1 : w.frozen? ⟨g, 1, none⟩ = false) (z2 : w.frozen? ⟨g, 2, none⟩ = false) :
    Calls Tryd.prog 80 #[.pointer (some ⟨g, 0, none⟩), .int .i64 a, .int .i64 b] w fun e w' => e = .returned (.tuple #[]) ∧ w' = ((w.setCell ⟨g, 2, none⟩ (.int .u64 (l0 (V + a * b)))).setCell ⟨g, 1, none⟩ (.int .u64 (l1 (V + a * b)))).setCell ⟨g, 0, none⟩ (.int .u64 (l2 (V + a * b))) := by
  have hp := prod_bd ha1 ha2 hb1 hb2
  have lo := lo_eq ha1 ha2 hb1 hb2
  have hi := hi_eq ha1 ha2 hb1 hb2
  have bV := l_bd V
  have bX := l_bd (a * b)
  have A0 := l0_add V (a * b)
  have A1 := l1_add V (a * b)
  have A2 := l2_add V (a * b)
  have hS := sgn hp.1 hp.2
  generalize a * b = X at *
  have c0 : addC (l0 V) (l0 X) 0 = (l0 V + l0 X) / 18446744073709551616 := by unfold addC; rw [Int.add_zero]
  have c1 : addC (l1 V) (l1 X) (addC (l0 V) (l0 X) 0) = (l1 V + l1 X + (l0 V + l0 X) / 18446744073709551616) / 18446744073709551616 := by rw [c0]; rfl
  have s0 : addS (l0 V) (l0 X) 0 = l0 (V + X) := by unfold addS; rw [Int.add_zero, A0]
  have s1 : addS (l1 V) (l1 X) (addC (l0 V) (l0 X) 0) = l1 (V + X) := by rw [c0]; unfold addS; rw [A1]
  have s2 : addS (l2 V) (l2 X) (addC (l1 V) (l1 X) (addC (l0 V) (l0 X) 0)) = l2 (V + X) := by rw [c1]; unfold addS; rw [A2]
  have D0 := addG (l0 V) (l0 X) 0 bV.1 bX.1 (by omega)
  have D1 := addG (l1 V) (l1 X) (addC (l0 V) (l0 X) 0) bV.2.1 bX.2.1 (by rw [c0]; omega)
  have D2 := addG (l2 V) (l2 X) (addC (l1 V) (l1 X) (addC (l0 V) (l0 X) 0)) bV.2.2 bX.2.2 (by rw [c1]; omega)
  rw [s0] at D0
  rw [s1] at D1
  rw [s2] at D2
  refine waddT g (l0 V) (l1 V) (l2 V) a b (a % 18446744073709551616) (b % 18446744073709551616) (a % 18446744073709551616 * (b % 18446744073709551616) / 18446744073709551616)
    ((a % 18446744073709551616 * (b % 18446744073709551616) / 18446744073709551616 - (if a < 0 then b % 18446744073709551616 else 0)) % 18446744073709551616) (l1 X) (l0 X) w (u64w a) (u64w b) (Lib.hid ?_) (Lib.hid ?_) (Lib.hid ?_) (Lib.hid ?_) (Lib.hid ?_) a0 a1 a2 z0 z1 z2 _ _ _ _ _ _ _ hS D0 D1 D2
  · intro w
    rw [← lo]
    exact mulG _ _ ⟨Int.emod_nonneg _ (by decide), Int.emod_lt_of_pos _ (by decide)⟩ ⟨Int.emod_nonneg _ (by decide), Int.emod_lt_of_pos _ (by decide)⟩ w
  · intro h
    rw [u64w, if_pos h]
  · intro h
    have hh := hbd (A := a % 18446744073709551616) (B := b % 18446744073709551616) (Int.emod_nonneg _ (by decide)) (Int.emod_lt_of_pos _ (by decide)) (Int.emod_nonneg _ (by decide)) (Int.emod_lt_of_pos _ (by decide))
    rw [if_neg h, Int.sub_zero, Int.emod_eq_of_lt hh.1 hh.2]
  · intro h
    rw [u64w, ← hi, if_pos h, modd]
  · intro h
    rw [← hi, if_neg h, Int.sub_zero]
set_option maxRecDepth 100000 in
set_option maxHeartbeats 8000000 in
theorem wfitT (g : Nat) (x0 x1 x2 S : Int) (q1 q2 : Bool) (w : World) (hS : IntKind.u64.wrap (wrap64 x0 / 9223372036854775808) = S) (h1 : (x1 == S) = q1) (h2 : (x2 == S) = q2)
    (a0 : w.cell? ⟨g, 0, none⟩ = some (.int .u64 x2)) (a1 : w.cell? ⟨g, 1, none⟩ = some (.int .u64 x1)) (a2 : w.cell? ⟨g, 2, none⟩ = some (.int .u64 x0)) :
    Calls Tryd.prog 83 #[.pointer (some ⟨g, 0, none⟩)] w fun e w' => e = .returned (.bool (q1 && q2)) ∧ ∃ n, w' = w.drewN n := by
  cases q1 <;> cases q2
  all_goals
    go_enter Tryd.func83, Tryd.ntmps83
    go_wp2
    go_ret
    first | exact ⟨rfl, 0, rfl⟩ | exact ⟨rfl, 1, rfl⟩
end Go.Proofs.YtbicmlkjonaccaaDoor.Ln
