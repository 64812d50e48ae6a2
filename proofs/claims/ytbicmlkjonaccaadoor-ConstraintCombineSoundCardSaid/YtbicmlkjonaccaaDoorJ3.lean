/- Linear forms: Validate of the reference. -/
import Derived.Test.YtbicmlkjonaccaaDoorY10
import Derived.Test.YtbicmlkjonaccaaDoorJ1
import Derived.IntWalk
import Derived.WalkKit
import Derived.ProofKit
import Derived.OpenShut

namespace Go.Proofs.YtbicmlkjonaccaaDoor.Ln
open Go.ChangeShapes Go.WideShapes Go.ChangeAt Go.RowKit
set_option linter.unusedVariables false
set_option linter.unusedSimpArgs false
set_option maxRecDepth 100000 in
set_option maxHeartbeats 4000000 in
theorem val2 (k : Int) (p : Option Addr) (xs : List Mo) (c : Nat) (w : World) (hn : xs.length ≤ maxLen) (RA : Hid (SlM w p xs)) (RS : Hid (∀ i, i < xs.length → (xs.getD i mo0).1.size ≤ maxLen)) :
    Calls Tryd.prog 17 #[Lv k p xs.length c] w fun e w' => e = .returned (.int .i64 (vL xs)) ∧ Below w.heap.size w w' := by
  have C := Lib.hid fun w R1 => right k p xs c w hn R1 RS
  have B0 : Below w.heap.size w (w.alloc (Obj.cells #[Value.int .i64 k, Value.slice p xs.length c] 24)) := (Below.refl _ _).alloc (Nat.le_refl _) _
  unfold vL
  generalize okL xs = v at *
  unfold Lv at *
  cases v
  all_goals
    go_enter Tryd.func17, Tryd.ntmps17
    go_wp2_with fail
    refine (C.out _ (Lib.hid (SlM.keep B0 RA.out))).mono ?_
    rintro e w1 ⟨rfl, hb⟩
    go_wp2
    go_ret
    exact ⟨rfl, B0.trans (hb.mono B0.size)⟩
end Go.Proofs.YtbicmlkjonaccaaDoor.Ln


namespace Go.Proofs.YtbicmlkjonaccaaDoor.Ln
open Go.ChangeShapes Go.WideShapes Go.ChangeAt Go.RowKit
open Go.Proofs.YtbicmlkjonaccaaDoor.Nm
set_option linter.unusedVariables false
set_option linter.unusedSimpArgs false
set_option maxRecDepth 8000

/-- A constraint as a value. -/
def Cv (k : Int) (p : Option Addr) (n c : Nat) (eq : Bool) : Value := .agg #[.int .i64 k, .slice p n c, .bool eq]
def hB (k : Int) (eq : Bool) : Bool := (k == 0) || (decide (0 < k) && !eq)
theorem never1 (w : World) : Calls Tryd.prog 58 #[] w fun e w' => e = .returned (Cv (-1) none 0 0 false) ∧ Below w.heap.size w w' := by
  unfold Cv
  go_enter Tryd.func58, Tryd.ntmps58
  go_wp2
  refine bodyPost_ret (v := .agg #[.int .i64 (-1), .slice none 0 0, .bool false]) (by simp [results, Tryd.results58, go_sem]) rfl ⟨rfl, ?_⟩; (repeat' (first | (with_reducible exact Below.refl _ _) | (with_reducible refine Below.alloc ?_ ?_ _) | (with_reducible refine Below.setCell ?_ ?_ _) | (with_reducible refine below_drewN ?_ _) | (simp; done) | omega | (simp; omega)))
theorem never2 (w : World) : Calls Tryd.prog 62 #[] w fun e w' => e = .returned (Cv (-1) none 0 0 false) ∧ Below w.heap.size w w' := by
  unfold Cv
  go_enter Tryd.func62, Tryd.ntmps62
  go_wp2
  refine bodyPost_ret (v := .agg #[.int .i64 (-1), .slice none 0 0, .bool false]) (by simp [results, Tryd.results62, go_sem]) rfl ⟨rfl, ?_⟩; (repeat' (first | (with_reducible exact Below.refl _ _) | (with_reducible refine Below.alloc ?_ ?_ _) | (with_reducible refine Below.setCell ?_ ?_ _) | (with_reducible refine below_drewN ?_ _) | (simp; done) | omega | (simp; omega)))
theorem holdsF (k : Int) (p : Option Addr) (n c : Nat) (eq : Bool) (m : Int) (w : World) : Calls Tryd.prog 54 #[Cv k p n c eq, .int .i64 m] w fun e w' => e = .returned (.bool (hB m eq)) ∧ Below w.heap.size w w' := by
  unfold Cv hB
  have B0 : Below w.heap.size w (w.alloc (Obj.cells #[Value.int .i64 k, Value.slice p n c, Value.bool eq] 36)) := (Below.refl _ _).alloc (Nat.le_refl _) _
  by_cases h0 : m = 0
  · subst h0
    go_enter Tryd.func54, Tryd.ntmps54
    go_wp2
    go_ret
    exact ⟨by simp, B0⟩
  · have g0 : (m == 0) = false := by simpa using h0
    by_cases h1 : 0 < m
    · have g1 : decide (0 < m) = true := by simpa using h1
      rw [g0, g1]
      cases eq
      · go_enter Tryd.func54, Tryd.ntmps54
        go_wp2
        go_ret
        exact ⟨by simp, B0⟩
      · go_enter Tryd.func54, Tryd.ntmps54
        go_wp2
        go_ret
        exact ⟨by simp, B0⟩
    · have g1 : decide (0 < m) = false := by simpa using h1
      rw [g0, g1]
      clear h0 h1
      go_enter Tryd.func54, Tryd.ntmps54
      go_wp2
      go_ret
      exact ⟨by simp, B0⟩
theorem cval1 (k : Int) (p : Option Addr) (xs : List Mo) (c : Nat) (eq : Bool) (w : World) (hn : xs.length ≤ maxLen) (RA : Hid (SlM w p xs)) (RS : Hid (∀ i, i < xs.length → (xs.getD i mo0).1.size ≤ maxLen)) : Calls Tryd.prog 24 #[Cv k p xs.length c eq] w fun e w' => e = .returned (.int .i64 (vL xs)) ∧ Below w.heap.size w w' := by
  have VL := Lib.hid fun w h => val1 k p xs c w hn h RS
  have B0 : Below w.heap.size w (w.alloc (Obj.cells #[Value.int .i64 k, Value.slice p xs.length c, Value.bool eq] 36)) := (Below.refl _ _).alloc (Nat.le_refl _) _
  have RA2 := Lib.hid (SlM.keep B0 RA.out)
  unfold Cv
  unfold Lv at VL
  go_enter Tryd.func24, Tryd.ntmps24
  go_wp2_with (go_at_call 16; refine (VL.out _ RA2).mono ?_; rintro e w1 ⟨rfl, hb⟩)
  go_ret
  exact ⟨rfl, B0.trans (hb.mono B0.size)⟩
theorem cval2 (k : Int) (p : Option Addr) (xs : List Mo) (c : Nat) (eq : Bool) (w : World) (hn : xs.length ≤ maxLen) (RA : Hid (SlM w p xs)) (RS : Hid (∀ i, i < xs.length → (xs.getD i mo0).1.size ≤ maxLen)) : Calls Tryd.prog 25 #[Cv k p xs.length c eq] w fun e w' => e = .returned (.int .i64 (vL xs)) ∧ Below w.heap.size w w' := by
  have VL := Lib.hid fun w h => right k p xs c w hn h RS
  have B0 : Below w.heap.size w (w.alloc (Obj.cells #[Value.int .i64 k, Value.slice p xs.length c, Value.bool eq] 36)) := (Below.refl _ _).alloc (Nat.le_refl _) _
  have RA2 := Lib.hid (SlM.keep B0 RA.out)
  unfold Cv vL
  unfold Lv at VL
  cases hok : okL xs
  · rw [hok] at VL
    clear hok
    go_enter Tryd.func25, Tryd.ntmps25
    go_wp2_with (go_at_call 45; refine (VL.out _ RA2).mono ?_; rintro e w1 ⟨rfl, hb⟩)
    go_ret
    exact ⟨by simp, B0.trans (hb.mono B0.size)⟩
  · rw [hok] at VL
    clear hok
    go_enter Tryd.func25, Tryd.ntmps25
    go_wp2_with (go_at_call 45; refine (VL.out _ RA2).mono ?_; rintro e w1 ⟨rfl, hb⟩)
    go_ret
    exact ⟨by simp, B0.trans (hb.mono B0.size)⟩
end Go.Proofs.YtbicmlkjonaccaaDoor.Ln


namespace Go.Proofs.YtbicmlkjonaccaaDoor.Ln
open Go.ChangeShapes Go.WideShapes Go.ChangeAt Go.RowKit
set_option linter.unusedVariables false
set_option linter.unusedSimpArgs false
theorem getD_memS {xs : List Mo} {j : Nat} (h : j < xs.length) : xs.getD j mo0 ∈ xs := by
  have e1 : xs.getD j mo0 = xs[j] := by unfold List.getD; rw [List.getElem?_eq_getElem h]; rfl
  rw [e1]
  exact List.getElem_mem h
theorem take_stepS {xs : List Mo} {j : Nat} (h : j < xs.length) : xs.take (j + 1) = xs.take j ++ [xs.getD j mo0] := by
  rw [List.take_succ_eq_append_getElem h]
  have e1 : xs.getD j mo0 = xs[j] := by unfold List.getD; rw [List.getElem?_eq_getElem h]; rfl
  rw [e1]
def smB (xs : List Mo) : Bool := decide (xs.length ≤ 40) && xs.all fun m => decide (m.1.size ≤ 40)
theorem smB_yes {xs : List Mo} (h : smB xs = true) : xs.length ≤ 40 ∧ ∀ m ∈ xs, m.1.size ≤ 40 := by
  unfold smB at h
  rw [Bool.and_eq_true, decide_eq_true_eq, List.all_eq_true] at h
  exact ⟨h.1, fun m hm => by simpa using h.2 m hm⟩
set_option maxRecDepth 100000 in
set_option maxHeartbeats 8000000 in
theorem small2 (k : Int) (p : Option Addr) (xs : List Mo) (c : Nat) (w : World) (hn : xs.length ≤ maxLen) (RA : Hid (SlM w p xs)) :
    Calls Tryd.prog 14 #[Lv k p xs.length c] w fun e w' => e = .returned (.bool (smB xs)) ∧ Below w.heap.size w w' := by
  have B0 : Below w.heap.size w (w.alloc (Obj.cells #[Value.int .i64 k, Value.slice p xs.length c] 24)) := (Below.refl _ _).alloc (Nat.le_refl _) _
  have f1 : ((w.alloc (Obj.cells #[Value.int .i64 k, Value.slice p xs.length c] 24))).cell? ⟨w.heap.size, 1, none⟩ = some (.slice p xs.length c) := by go_cell
  unfold maxLen at hn
  unfold Lv
  by_cases h40 : 40 < xs.length
  · have d1 : (40 : Int) < xs.length := by omega
    have HT := Lib.hid (show smB xs = false by unfold smB; rw [decide_eq_false (by omega)]; rfl)
    go_enter Tryd.func14, Tryd.ntmps14
    go_wp2
    go_ret
    exact ⟨ret_bool HT.out.symm, B0⟩
  · have d1 : ¬ (40 : Int) < xs.length := by omega
    have HT := Lib.hid (show smB xs = xs.all fun m => decide (m.1.size ≤ 40) by unfold smB; rw [decide_eq_true (by omega)]; rfl)
    go_enter Tryd.func14, Tryd.ntmps14
    go_wp2
    have RA1 := Lib.hid (SlM.keep B0 RA.out)
    generalize (w.alloc (Obj.cells #[Value.int .i64 k, Value.slice p xs.length c] 24)) = z at *
    go_loopw [3] (fun i wr => ∃ j : Nat, i = .int .i64 (j : Int) ∧ j ≤ xs.length ∧ wr = z ∧ Hid (∀ m ∈ xs.take j, m.1.size ≤ 40)) (fun i _ => xs.length - (intOf i).toNat)
    case atStart => exact ⟨0, rfl, by omega, rfl, Lib.hid (by simp)⟩
    case round =>
      obtain ⟨j, rfl, hk, rfl, HJ⟩ := hrel
      have k0 : (0 : Int) ≤ j := by omega
      by_cases hlt : j < xs.length
      · obtain ⟨b, o, rfl, c0, c1⟩ := RA1.out j hlt
        have htk := Lib.hid (take_stepS hlt)
        have hmem := Lib.hid (getD_memS hlt)
        obtain ⟨x, hx⟩ : ∃ x, xs.getD j mo0 = x := ⟨_, rfl⟩
        have htk := Lib.hid (by have h := htk.out; rw [hx] at h; exact h)
        have hmem := Lib.hid (by have h := hmem.out; rw [hx] at h; exact h)
        rw [hx] at c0 c1
        clear hx
        obtain ⟨s, a⟩ := x
        simp only at c0 c1
        have k1 : (j : Int) < xs.length := by omega
        by_cases hs : 40 < s.size
        · have d2 : (40 : Int) < s.size := by omega
          have HF := Lib.hid (HT.out.trans (show (xs.all fun m => decide (m.1.size ≤ 40)) = false from by
            rw [List.all_eq_false]
            exact ⟨_, hmem.out, by simp; omega⟩))
          go_wp2
          go_ret
          exact ⟨ret_bool HF.out.symm, B0⟩
        · have d2 : ¬ (40 : Int) < s.size := by omega
          have HJ2 : Hid (∀ m ∈ xs.take (j + 1), m.1.size ≤ 40) := Lib.hid (by
            rw [htk.out]
            intro m hm
            rcases List.mem_append.1 hm with h | h
            · exact HJ.out m h
            · rw [List.mem_singleton] at h; rw [h]; simp only; omega)
          go_wp2
          go_roundw
          case rel => exact ⟨j + 1, by go_num, by omega, by first | rfl | trivial, HJ2⟩
          case measure => simp [intOf]; omega
      · have k1 : ¬ (j : Int) < xs.length := by omega
        have HF := Lib.hid (HT.out.trans (show (xs.all fun m => decide (m.1.size ≤ 40)) = true from by
          rw [List.all_eq_true]
          have h := HJ.out
          rw [List.take_of_length_le (by omega)] at h
          intro m hm
          simpa using h m hm))
        go_wp2
        go_ret
        exact ⟨ret_bool HF.out.symm, B0⟩
end Go.Proofs.YtbicmlkjonaccaaDoor.Ln


namespace Go.Proofs.YtbicmlkjonaccaaDoor.Ln
open Go.ChangeShapes Go.WideShapes Go.ChangeAt Go.RowKit
open Go.Proofs.YtbicmlkjonaccaaDoor.Nm
set_option linter.unusedVariables false
set_option linter.unusedSimpArgs false
set_option maxRecDepth 8000

abbrev Qm := Int × List Mo × Bool
abbrev q0m : Qm := (0, [], false)
/-- A slice of constraints. -/
def SlQ (w : World) (p : Option Addr) (l : List Qm) : Prop := ∀ i, i < l.length → ∃ b o q c, p = some ⟨b, o, none⟩ ∧ w.cell? ⟨b, o + i * 3, none⟩ = some (.int .i64 (l.getD i q0m).1) ∧ w.cell? ⟨b, o + i * 3 + 1, none⟩ = some (.slice q (l.getD i q0m).2.1.length c) ∧ w.cell? ⟨b, o + i * 3 + 2, none⟩ = some (.bool (l.getD i q0m).2.2) ∧ SlM w q (l.getD i q0m).2.1
def smN (m : Mo) : Bool := decide (m.1.size ≤ 100)
def smF (f : Qm) : Bool := decide (f.2.1.length ≤ 40) && f.2.1.all smN
/-- What the laws on constraints take as small. -/
def smQ (lim : Nat) (l : List Qm) : Bool := decide (l.length ≤ lim) && l.all smF
theorem qget {l : List Qm} {i : Nat} (h : i < l.length) : l.getD i q0m ∈ l := by
  have e1 : l.getD i q0m = l[i] := by unfold List.getD; rw [List.getElem?_eq_getElem h]; rfl
  rw [e1]
  exact List.getElem_mem h
theorem qtake {l : List Qm} {i : Nat} (h : i < l.length) : l.take (i + 1) = l.take i ++ [l.getD i q0m] := by
  rw [List.take_succ_eq_append_getElem h]
  have e1 : l.getD i q0m = l[i] := by unfold List.getD; rw [List.getElem?_eq_getElem h]; rfl
  rw [e1]
set_option maxRecDepth 100000 in
set_option maxHeartbeats 8000000 in
theorem small6 (p : Option Addr) (l : List Qm) (c lim : Nat) (w : World) (hn : l.length ≤ maxLen) (hv : Hid (∀ f ∈ l, f.2.1.length ≤ maxLen)) (hlim : lim ≤ 1000) (RA : Hid (SlQ w p l)) :
    Calls Tryd.prog 20 #[.slice p l.length c, .int .i64 lim] w fun e w' => e = .returned (.bool (smQ lim l)) ∧ w = w' := by
  obtain ⟨R, hR⟩ : ∃ R, smQ lim l = R := ⟨_, rfl⟩
  rw [hR]
  have HR := Lib.hid hR
  clear hR
  unfold maxLen at hn
  by_cases hb : lim < l.length
  · have d1 : (lim : Int) < l.length := by omega
    have HT : R = false := by rw [← HR.out]; unfold smQ; rw [decide_eq_false (by omega)]; rfl
    subst HT
    go_enter Tryd.func20, Tryd.ntmps20
    go_wp2
    go_ret
    exact ⟨rfl, rfl⟩
  · have d1 : ¬ (lim : Int) < l.length := by omega
    have HT := Lib.hid (show l.all smF = R by rw [← HR.out]; unfold smQ; rw [decide_eq_true (by omega)]; rfl)
    clear HR
    go_enter Tryd.func20, Tryd.ntmps20
    go_wp2
    go_loopw [5] (fun i wr => ∃ j : Nat, i = .int .i64 (j : Int) ∧ j ≤ l.length ∧ wr = w ∧ Hid ((l.take j).all smF = true)) (fun i _ => l.length - (intOf i).toNat)
    case atStart => exact ⟨0, rfl, by omega, rfl, Lib.hid rfl⟩
    case round =>
      obtain ⟨j, rfl, hj, rfl, HJ⟩ := hrel
      have j0 : (0 : Int) ≤ j := by omega
      by_cases hlt : j < l.length
      · obtain ⟨b, o, q, d, rfl, c0, c1, c2, hS⟩ := RA.out j hlt
        have htk := Lib.hid (qtake hlt)
        have hmem := Lib.hid (qget hlt)
        obtain ⟨f, hf⟩ : ∃ f, l.getD j q0m = f := ⟨_, rfl⟩
        have htk := Lib.hid (by have h := htk.out; rw [hf] at h; exact h)
        have hmem := Lib.hid (by have h := hmem.out; rw [hf] at h; exact h)
        rw [hf] at c0 c1 c2 hS
        have hfl := hv.out _ hmem.out
        clear hf
        obtain ⟨k, xs, eq⟩ := f
        dsimp only at c0 c1 c2 hS hfl
        unfold maxLen at hfl
        have RS := Lib.hid hS
        clear hS
        have j1 : (j : Int) < l.length := by omega
        by_cases h40 : 40 < xs.length
        · have d2 : (40 : Int) < xs.length := by omega
          have HF : R = false := by
            rw [← HT.out, List.all_eq_false]
            exact ⟨_, hmem.out, by unfold smF; rw [decide_eq_false (by dsimp only; omega)]; simp⟩
          subst HF
          go_wp2
          go_ret
          exact ⟨rfl, rfl⟩
        · have d2 : ¬ (40 : Int) < xs.length := by omega
          go_wp2
          go_loopw [6] (fun i w5 => ∃ m : Nat, i = .int .i64 (m : Int) ∧ m ≤ xs.length ∧ w5 = wr ∧ Hid ((xs.take m).all smN = true)) (fun i _ => xs.length - (intOf i).toNat)
          case atStart => exact ⟨0, rfl, by omega, rfl, Lib.hid rfl⟩
          case round =>
            obtain ⟨m, rfl, hm, rfl, HM⟩ := hrel
            have m0 : (0 : Int) ≤ m := by omega
            by_cases hlm : m < xs.length
            · obtain ⟨b', o', rfl, e0, e1⟩ := RS.out m hlm
              have htk2 := Lib.hid (take_stepS hlm)
              have hmem2 := Lib.hid (getD_memS hlm)
              obtain ⟨x, hx⟩ : ∃ x, xs.getD m mo0 = x := ⟨_, rfl⟩
              have htk2 := Lib.hid (by have h := htk2.out; rw [hx] at h; exact h)
              have hmem2 := Lib.hid (by have h := hmem2.out; rw [hx] at h; exact h)
              rw [hx] at e0 e1
              clear hx
              obtain ⟨s, a⟩ := x
              simp only at e0 e1
              have m1 : (m : Int) < xs.length := by omega
              by_cases hs : 100 < s.size
              · have d3 : (100 : Int) < s.size := by omega
                have HF : R = false := by
                  rw [← HT.out, List.all_eq_false]
                  exact ⟨_, hmem.out, by
                    unfold smF
                    have : xs.all smN = false := by
                      rw [List.all_eq_false]
                      exact ⟨_, hmem2.out, by unfold smN; simp; omega⟩
                    simp [this]⟩
                subst HF
                go_wp2
                go_ret
                exact ⟨rfl, rfl⟩
              · have d3 : ¬ (100 : Int) < s.size := by omega
                have HM2 : Hid ((xs.take (m + 1)).all smN = true) := Lib.hid (by
                  rw [htk2.out, List.all_append, HM.out]
                  simp [smN]
                  omega)
                clear HM htk2 hmem2
                go_wp2
                go_roundw
                case rel => exact ⟨m + 1, by go_num, by omega, by first | rfl | trivial, HM2⟩
                case measure => simp [intOf]; omega
            · have m1 : ¬ (m : Int) < xs.length := by omega
              have HJ2 : Hid ((l.take (j + 1)).all smF = true) := Lib.hid (by
                rw [htk.out, List.all_append, HJ.out]
                have h := HM.out
                rw [List.take_of_length_le (by omega)] at h
                simp [smF, h]
                omega)
              clear HJ htk hmem
              go_wp2
              go_roundw
              case rel => exact ⟨j + 1, by go_num, by omega, by first | rfl | trivial, HJ2⟩
              case measure => simp [intOf]; omega
      · have j1 : ¬ (j : Int) < l.length := by omega
        have HF : R = true := by
          rw [← HT.out]
          have h := HJ.out
          rw [List.take_of_length_le (by omega)] at h
          exact h
        subst HF
        go_wp2
        go_ret
        exact ⟨rfl, rfl⟩
end Go.Proofs.YtbicmlkjonaccaaDoor.Ln


namespace Go.Proofs.YtbicmlkjonaccaaDoor.Ln
open Go.ChangeShapes Go.WideShapes Go.ChangeAt Go.RowKit
open Go.Proofs.YtbicmlkjonaccaaDoor.Nm
set_option linter.unusedVariables false
set_option linter.unusedSimpArgs false
set_option maxRecDepth 8000

theorem smQ_bd {lim : Nat} {l : List Qm} (h : smQ lim l = true) : l.length ≤ lim ∧ ∀ f ∈ l, f.2.1.length ≤ 40 := by
  unfold smQ at h
  simp only [Bool.and_eq_true, decide_eq_true_eq, List.all_eq_true] at h
  refine ⟨h.1, fun f hf => ?_⟩
  have h2 := h.2 f hf
  unfold smF at h2
  simp only [Bool.and_eq_true, decide_eq_true_eq] at h2
  exact h2.1
/-- What an argument that is a list of constraints is known to be. -/
def argQ (l : List Qm) : Prop := ∀ f ∈ l, (-9223372036854775808 ≤ f.1 ∧ f.1 ≤ 9223372036854775807) ∧ f.2.1.length ≤ maxLen ∧ ∀ y ∈ f.2.1, y.1.size ≤ maxLen ∧ (-9223372036854775808 ≤ y.2 ∧ y.2 ≤ 9223372036854775807)
theorem SlQ.keep {w w' : World} {p : Option Addr} {l : List Qm} (hb : Below w.heap.size w w') (h : SlQ w p l) : SlQ w' p l := fun i hi => by
  obtain ⟨b, o, q, c, hp, c0, c1, c2, hS⟩ := h i hi
  have lb : b < w.heap.size := World.block_lt_of_cell? _ _ c0
  exact ⟨b, o, q, c, hp, Rg.keep hb lb c0, Rg.keep hb lb c1, Rg.keep hb lb c2, SlM.keep hb hS⟩
end Go.Proofs.YtbicmlkjonaccaaDoor.Ln


namespace Go.Proofs.YtbicmlkjonaccaaDoor.Ln
open Go.ChangeShapes Go.WideShapes Go.ChangeAt Go.RowKit
set_option linter.unusedVariables false
set_option linter.unusedSimpArgs false
def co : List Mo → ByteArray → Int
  | [], _ => 0
  | x :: r, s => if (x.1.toList == s.toList) = true then x.2 else co r s
theorem co_step {xs : List Mo} {j : Nat} (h : j < xs.length) (s : ByteArray) : co (xs.drop j) s = if ((xs.getD j mo0).1.toList == s.toList) = true then (xs.getD j mo0).2 else co (xs.drop (j + 1)) s := by
  rw [List.drop_eq_getElem_cons h]
  have e1 : xs.getD j mo0 = xs[j] := by unfold List.getD; rw [List.getElem?_eq_getElem h]; rfl
  rw [e1]
  rfl
theorem co_end {xs : List Mo} {j : Nat} (h : j = xs.length) (s : ByteArray) : co (xs.drop j) s = 0 := by
  rw [List.drop_of_length_le (Nat.le_of_eq h.symm)]
  rfl
set_option maxRecDepth 100000 in
set_option maxHeartbeats 8000000 in
theorem coeff2 (k : Int) (p : Option Addr) (xs : List Mo) (c : Nat) (s : ByteArray) (w : World) (hn : xs.length ≤ maxLen) (RA : Hid (SlM w p xs)) :
    Calls Tryd.prog 101 #[Lv k p xs.length c, .string s] w fun e w' => e = .returned (.int .i64 (co xs s)) ∧ Below w.heap.size w w' := by
  have B0 : Below w.heap.size w (w.alloc (Obj.cells #[Value.int .i64 k, Value.slice p xs.length c] 24)) := (Below.refl _ _).alloc (Nat.le_refl _) _
  have f1 : ((w.alloc (Obj.cells #[Value.int .i64 k, Value.slice p xs.length c] 24))).cell? ⟨w.heap.size, 1, none⟩ = some (.slice p xs.length c) := by go_cell
  unfold maxLen at hn
  unfold Lv
  go_enter Tryd.func101, Tryd.ntmps101
  go_wp2
  have RA1 := Lib.hid (SlM.keep B0 RA.out)
  generalize (w.alloc (Obj.cells #[Value.int .i64 k, Value.slice p xs.length c] 24)) = z at *
  go_loopw [5] (fun i wr => ∃ j : Nat, i = .int .i64 (j : Int) ∧ j ≤ xs.length ∧ wr = z ∧ Hid (co xs s = co (xs.drop j) s)) (fun i _ => xs.length - (intOf i).toNat)
  case atStart => exact ⟨0, rfl, by omega, rfl, Lib.hid rfl⟩
  case round =>
    obtain ⟨j, rfl, hk, rfl, HL⟩ := hrel
    have k0 : (0 : Int) ≤ j := by omega
    by_cases hlt : j < xs.length
    · obtain ⟨b, o, rfl, c0, c1⟩ := RA1.out j hlt
      have hst := Lib.hid (co_step hlt s)
      obtain ⟨⟨t, a⟩, hx⟩ : ∃ x, xs.getD j mo0 = x := ⟨_, rfl⟩
      have hst := Lib.hid (by have h := hst.out; rw [hx] at h; exact h)
      rw [hx] at c0 c1
      simp only at c0 c1
      have k1 : (j : Int) < xs.length := by omega
      clear hx
      obtain ⟨q1, hq1⟩ : ∃ q, (t.toList == s.toList) = q := ⟨_, rfl⟩
      cases q1
      · have HS := Lib.hid (show co xs s = co (xs.drop (j + 1)) s by rw [HL.out, hst.out]; simp only [hq1]; rfl)
        clear HL hst
        go_wp2
        go_roundw
        case rel => exact ⟨j + 1, by go_num, by omega, by first | rfl | trivial, HS⟩
        case measure => simp [intOf]; omega
      · have HS := Lib.hid (show co xs s = a by rw [HL.out, hst.out]; simp only [hq1]; rfl)
        clear HL hst
        go_wp2
        go_ret
        exact ⟨ret_int (by rw [HS.out]), B0⟩
    · have k1 : ¬ (j : Int) < xs.length := by omega
      have HS := Lib.hid (show co xs s = 0 by rw [HL.out, co_end (by omega)])
      go_wp2
      go_ret
      exact ⟨ret_int (by rw [HS.out]), B0⟩
set_option maxRecDepth 100000 in
set_option maxHeartbeats 8000000 in
theorem linEq (k : Int) (p : Option Addr) (xs : List Mo) (c : Nat) (q : Option Addr) (d : Nat) (w : World) (hn : xs.length ≤ maxLen) (RA : Hid (SlM w p xs)) (RB : Hid (SlM w q xs)) :
    Calls Tryd.prog 66 #[Lv k p xs.length c, Lv k q xs.length d] w fun e w' => e = .returned (.bool true) ∧ Below w.heap.size w w' := by
  have B0 : Below w.heap.size w ((w.alloc (Obj.cells #[Value.int .i64 k, Value.slice p xs.length c] 24)).alloc (Obj.cells #[Value.int .i64 k, Value.slice q xs.length d] 24)) := two_below _ _
  have f1 : (((w.alloc (Obj.cells #[Value.int .i64 k, Value.slice p xs.length c] 24)).alloc (Obj.cells #[Value.int .i64 k, Value.slice q xs.length d] 24))).cell? ⟨w.heap.size, 1, none⟩ = some (.slice p xs.length c) := by go_cell
  have g1 : (((w.alloc (Obj.cells #[Value.int .i64 k, Value.slice p xs.length c] 24)).alloc (Obj.cells #[Value.int .i64 k, Value.slice q xs.length d] 24))).cell? ⟨w.heap.size + 1, 1, none⟩ = some (.slice q xs.length d) := by go_cell
  unfold maxLen at hn
  unfold Lv
  go_enter Tryd.func66, Tryd.ntmps66
  go_wp2
  have RA1 := Lib.hid (SlM.keep B0 RA.out)
  have RB1 := Lib.hid (SlM.keep B0 RB.out)
  generalize ((w.alloc (Obj.cells #[Value.int .i64 k, Value.slice p xs.length c] 24)).alloc (Obj.cells #[Value.int .i64 k, Value.slice q xs.length d] 24)) = z at *
  go_loopw [5] (fun i wr => ∃ j r : Nat, i = .int .i64 (j : Int) ∧ j ≤ xs.length ∧ wr = z.drewN r) (fun i _ => xs.length - (intOf i).toNat)
  case atStart => exact ⟨0, 0, rfl, by omega, rfl⟩
  case round =>
    obtain ⟨j, r, rfl, hk, rfl⟩ := hrel
    have k0 : (0 : Int) ≤ j := by omega
    by_cases hlt : j < xs.length
    · obtain ⟨b, o, rfl, c0, c1⟩ := RA1.out j hlt
      obtain ⟨b', o', rfl, d0, d1⟩ := RB1.out j hlt
      obtain ⟨⟨t, a⟩, hx⟩ : ∃ x, xs.getD j mo0 = x := ⟨_, rfl⟩
      rw [hx] at c0 c1 d0 d1
      simp only at c0 c1 d0 d1
      have k1 : (j : Int) < xs.length := by omega
      clear hx
      go_wp2
      go_quiet (fail)
      go_wp2
      go_roundw
      case rel => exact ⟨j + 1, _, by go_num, by omega, rfl⟩
      case measure => simp [intOf]; omega
    · have k1 : ¬ (j : Int) < xs.length := by omega
      go_wp2
      go_ret
      exact ⟨rfl, below_drewN B0 _⟩
end Go.Proofs.YtbicmlkjonaccaaDoor.Ln


namespace Go.Proofs.YtbicmlkjonaccaaDoor.Ln
open Go.ChangeShapes Go.WideShapes Go.ChangeAt Go.RowKit
set_option linter.unusedVariables false
set_option linter.unusedSimpArgs false
def fit64 (n : Int) : Bool := decide (-9223372036854775808 ≤ n) && decide (n ≤ 9223372036854775807)
theorem fit_yes {n : Int} : fit64 n = true ↔ -9223372036854775808 ≤ n ∧ n ≤ 9223372036854775807 := by
  unfold fit64
  rw [Bool.and_eq_true, decide_eq_true_eq, decide_eq_true_eq]
theorem wrap_off (n : Int) : ∃ m : Int, IntKind.i64.wrap n = n - m * 18446744073709551616 ∧ -9223372036854775808 ≤ IntKind.i64.wrap n ∧ IntKind.i64.wrap n ≤ 9223372036854775807 := by
  rw [IntKind.wrap_i64]
  refine ⟨(n + 9223372036854775808) / 18446744073709551616, ?_, ?_, ?_⟩ <;> omega
/-- The quotient gives the factor back just where the product fits. -/
theorem back {a b C : Int} (hb : b ≠ 0) (hb1 : -9223372036854775808 ≤ b) (hb2 : b ≤ 9223372036854775807) (hC : C = IntKind.i64.wrap (a * b)) (h : C.tdiv b = a) : fit64 (a * b) = true := by
  obtain ⟨m, h1, h2, h3⟩ := wrap_off (a * b)
  rw [← hC] at h1 h2 h3
  have e := Int.mul_tdiv_add_tmod C b
  rw [h] at e
  have hm : (C.tmod b).natAbs < b.natAbs := by rw [Int.natAbs_tmod]; exact Nat.mod_lt _ (by omega)
  have hc : b * a = a * b := Int.mul_comm b a
  rw [hc] at e
  rw [fit_yes]
  generalize C.tmod b = r at *
  generalize a * b = P at *
  omega
theorem there {a b C : Int} (hb : b ≠ 0) (hC : C = IntKind.i64.wrap (a * b)) (h : fit64 (a * b) = true) : C = a * b ∧ C.tdiv b = a := by
  have hf := fit_yes.1 h
  have : C = a * b := by rw [hC]; exact IntWalk.i64_in _ hf
  exact ⟨this, by rw [this]; exact Int.mul_tdiv_cancel a hb⟩
set_option maxRecDepth 100000 in
set_option maxHeartbeats 8000000 in
theorem times (a b : Int) (w : World) (ha1 : -9223372036854775808 ≤ a) (ha2 : a ≤ 9223372036854775807) (hb1 : -9223372036854775808 ≤ b) (hb2 : b ≤ 9223372036854775807) :
    Calls Tryd.prog 98 #[.int .i64 a, .int .i64 b] w fun e w' => e = .returned (.tuple #[.int .i64 (if fit64 (a * b) = true then a * b else 0), .bool (fit64 (a * b))]) ∧ w = w' := by
  by_cases ha : a = 0
  · subst ha
    rw [Int.zero_mul, show fit64 0 = true from rfl, if_pos rfl]
    go_enter Tryd.func98, Tryd.ntmps98
    go_wp2
    exact bodyPost_ret (v := .tuple #[.int .i64 0, .bool true]) (by simp [results, Tryd.results98, go_sem]) rfl ⟨rfl, rfl⟩
  · have ha' : (a == 0) = false := beq_false_of_ne ha
    by_cases hb : b = 0
    · subst hb
      rw [Int.mul_zero, show fit64 0 = true from rfl, if_pos rfl]
      go_enter Tryd.func98, Tryd.ntmps98
      go_wp2
      exact bodyPost_ret (v := .tuple #[.int .i64 0, .bool true]) (by simp [results, Tryd.results98, go_sem]) rfl ⟨rfl, rfl⟩
    · have hb' : (b == 0) = false := beq_false_of_ne hb
      obtain ⟨C, hC⟩ : ∃ C, C = IntKind.i64.wrap (a * b) := ⟨_, rfl⟩
      obtain ⟨m, hmm, hC1, hC2⟩ := wrap_off (a * b)
      clear hmm
      rw [← hC] at hC1 hC2
      obtain ⟨D, hD⟩ : ∃ D, D = IntKind.i64.wrap (C.tdiv b) := ⟨_, rfl⟩
      by_cases hs : (a = -1 ∧ b = -9223372036854775808) ∨ (b = -1 ∧ a = -9223372036854775808)
      · rcases hs with ⟨rfl, rfl⟩ | ⟨rfl, rfl⟩
        · rw [show fit64 (-1 * -9223372036854775808) = false from rfl, if_neg (by decide)]
          go_enter Tryd.func98, Tryd.ntmps98
          go_wp2
          exact bodyPost_ret (v := .tuple #[.int .i64 0, .bool false]) (by simp [results, Tryd.results98, go_sem]) rfl ⟨rfl, rfl⟩
        · rw [show fit64 (-9223372036854775808 * -1) = false from rfl, if_neg (by decide)]
          go_enter Tryd.func98, Tryd.ntmps98
          go_wp2
          exact bodyPost_ret (v := .tuple #[.int .i64 0, .bool false]) (by simp [results, Tryd.results98, go_sem]) rfl ⟨rfl, rfl⟩
      · have W1 : wrap64 (a * b) = C := by rw [hC, IntKind.wrap_i64]; first | rfl | simp [wrap64]
        have W2 : wrap64 (C.tdiv b) = D := by rw [hD, IntKind.wrap_i64]; first | rfl | simp [wrap64]
        have W1' := hC.symm
        have W2' := hD.symm
        obtain ⟨q1, h1⟩ : ∃ q, (a == -1) = q := ⟨_, rfl⟩
        obtain ⟨q2, h2⟩ : ∃ q, (b == -9223372036854775808) = q := ⟨_, rfl⟩
        obtain ⟨q3, h3⟩ : ∃ q, (b == -1) = q := ⟨_, rfl⟩
        obtain ⟨q4, h4⟩ : ∃ q, (a == -9223372036854775808) = q := ⟨_, rfl⟩
        obtain ⟨q5, h5⟩ : ∃ q, (D == a) = q := ⟨_, rfl⟩
        have HF : fit64 (a * b) = q5 ∧ (q5 = true → C = a * b) := by
          have hr : -9223372036854775808 ≤ C.tdiv b ∧ C.tdiv b ≤ 9223372036854775807 := by
            by_cases hbm : b = -1
            · subst hbm
              have hn : C ≠ -9223372036854775808 := by
                rw [hC, show a * -1 = -a by omega, IntKind.wrap_i64]
                intro h
                exact hs (.inr ⟨rfl, by omega⟩)
              rw [Int.tdiv_neg, Int.tdiv_one]
              omega
            · by_cases hbp : b = 1
              · subst hbp
                rw [Int.tdiv_one]
                omega
              · have e1 : (C.tdiv b).natAbs = C.natAbs / b.natAbs := Int.natAbs_tdiv C b
                have e2 : C.natAbs / b.natAbs ≤ C.natAbs / 2 := Nat.div_le_div_left (by omega) (by omega)
                omega
          have hDC : D = C.tdiv b := by rw [hD]; exact IntWalk.i64_in _ hr
          have HA : q5 = true → fit64 (a * b) = true := fun h => back hb hb1 hb2 hC (by rw [← hDC]; rw [h] at h5; exact beq_iff_eq.1 h5)
          have HB : fit64 (a * b) = true → q5 = true := fun h => by rw [← h5, beq_iff_eq, hDC]; exact (there hb hC h).2
          exact ⟨by rw [Bool.eq_iff_iff]; exact ⟨HB, HA⟩, fun h => (there hb hC (HA h)).1⟩
        have H1 : ¬ (q1 = true ∧ q2 = true) := fun h => hs (.inl ⟨by have := h.1; rw [← h1, beq_iff_eq] at this; exact this, by have := h.2; rw [← h2, beq_iff_eq] at this; exact this⟩)
        have H2 : ¬ (q3 = true ∧ q4 = true) := fun h => hs (.inr ⟨by have := h.1; rw [← h3, beq_iff_eq] at this; exact this, by have := h.2; rw [← h4, beq_iff_eq] at this; exact this⟩)
        rw [HF.1]
        have HC := Lib.hid HF.2
        clear HF hD hC hs
        cases q5
        · rw [if_neg (by decide)]
          clear HC
          cases q1 <;> cases q2 <;> cases q3 <;> cases q4 <;> first | exact absurd ⟨rfl, rfl⟩ H1 | exact absurd ⟨rfl, rfl⟩ H2 | skip
          all_goals
            go_enter Tryd.func98, Tryd.ntmps98
            go_wp2
            first | done | exact bodyPost_ret (v := .tuple #[.int .i64 0, .bool false]) (by simp [results, Tryd.results98, go_sem]) rfl ⟨rfl, rfl⟩
        · rw [if_pos rfl, ← HC.out rfl]
          clear HC
          cases q1 <;> cases q2 <;> cases q3 <;> cases q4 <;> first | exact absurd ⟨rfl, rfl⟩ H1 | exact absurd ⟨rfl, rfl⟩ H2 | skip
          all_goals
            go_enter Tryd.func98, Tryd.ntmps98
            go_wp2
            first | done | exact bodyPost_ret (v := .tuple #[.int .i64 C, .bool true]) (by simp [results, Tryd.results98, go_sem]) rfl ⟨rfl, rfl⟩
end Go.Proofs.YtbicmlkjonaccaaDoor.Ln


namespace Go.Proofs.YtbicmlkjonaccaaDoor.Ln
open Go.ChangeShapes Go.WideShapes Go.ChangeAt Go.RowKit
set_option linter.unusedVariables false
set_option linter.unusedSimpArgs false
/-- The three limbs of a number in two's complement. -/
def l0 (V : Int) : Int := V % 18446744073709551616
def l1 (V : Int) : Int := V / 18446744073709551616 % 18446744073709551616
def l2 (V : Int) : Int := V / 340282366920938463463374607431768211456 % 18446744073709551616
theorem l0_add (V X : Int) : (l0 V + l0 X) % 18446744073709551616 = l0 (V + X) := by unfold l0; omega
theorem l1_add (V X : Int) : (l1 V + l1 X + (l0 V + l0 X) / 18446744073709551616) % 18446744073709551616 = l1 (V + X) := by unfold l1 l0; omega
theorem l2_add (V X : Int) : (l2 V + l2 X + (l1 V + l1 X + (l0 V + l0 X) / 18446744073709551616) / 18446744073709551616) % 18446744073709551616 = l2 (V + X) := by
  have e : ∀ Y : Int, Y / 340282366920938463463374607431768211456 = Y / 18446744073709551616 / 18446744073709551616 := fun Y => by omega
  unfold l2 l1 l0
  rw [e V, e X, e (V + X)]
  obtain ⟨q, hq⟩ : ∃ q, V / 18446744073709551616 = q := ⟨_, rfl⟩
  obtain ⟨r, hr⟩ : ∃ r, X / 18446744073709551616 = r := ⟨_, rfl⟩
  obtain ⟨u, hu⟩ : ∃ u, (V + X) / 18446744073709551616 = u := ⟨_, rfl⟩
  have hc : u = q + r + (V % 18446744073709551616 + X % 18446744073709551616) / 18446744073709551616 := by omega
  rw [hq, hr, hu, hc]
  generalize (V % 18446744073709551616 + X % 18446744073709551616) / 18446744073709551616 = c
  clear hq hr hu hc e
  omega
theorem l_bd (V : Int) : (0 ≤ l0 V ∧ l0 V < 18446744073709551616) ∧ (0 ≤ l1 V ∧ l1 V < 18446744073709551616) ∧ (0 ≤ l2 V ∧ l2 V < 18446744073709551616) := by unfold l2 l1 l0; omega
/-- The two limbs that the unsigned product gives. -/
theorem mul_pp {a b : Int} (ha : 0 ≤ a) (ha2 : a ≤ 9223372036854775807) (hb : 0 ≤ b) (hb2 : b ≤ 9223372036854775807) : (a % 18446744073709551616) * (b % 18446744073709551616) = a * b := by
  rw [Int.emod_eq_of_lt ha (by omega), Int.emod_eq_of_lt hb (by omega)]
theorem neg_mod {a : Int} (ha : a < 0) (ha2 : -9223372036854775808 ≤ a) : a % 18446744073709551616 = a + 18446744073709551616 := by omega
theorem pos_mod {a : Int} (ha : 0 ≤ a) (ha2 : a ≤ 9223372036854775807) : a % 18446744073709551616 = a := by omega
theorem lo_eq {a b : Int} (ha1 : -9223372036854775808 ≤ a) (ha2 : a ≤ 9223372036854775807) (hb1 : -9223372036854775808 ≤ b) (hb2 : b ≤ 9223372036854775807) : (a % 18446744073709551616) * (b % 18446744073709551616) % 18446744073709551616 = l0 (a * b) := by
  unfold l0
  rw [← Int.mul_emod]
theorem hi_eq {a b : Int} (ha1 : -9223372036854775808 ≤ a) (ha2 : a ≤ 9223372036854775807) (hb1 : -9223372036854775808 ≤ b) (hb2 : b ≤ 9223372036854775807) :
    ((a % 18446744073709551616) * (b % 18446744073709551616) / 18446744073709551616 - (if a < 0 then b % 18446744073709551616 else 0) - (if b < 0 then a % 18446744073709551616 else 0)) % 18446744073709551616 = l1 (a * b) := by
  unfold l1
  by_cases h1 : a < 0
  · by_cases h2 : b < 0
    · rw [if_pos h1, if_pos h2, neg_mod h1 ha1, neg_mod h2 hb1]
      have e : (a + 18446744073709551616) * (b + 18446744073709551616) = a * b + 18446744073709551616 * a + 18446744073709551616 * b + 340282366920938463463374607431768211456 := by grind
      rw [e]
      generalize a * b = X
      omega
    · rw [if_pos h1, if_neg h2, neg_mod h1 ha1, pos_mod (by omega) hb2]
      have e : (a + 18446744073709551616) * b = a * b + 18446744073709551616 * b := by grind
      rw [e]
      generalize a * b = X
      omega
  · by_cases h2 : b < 0
    · rw [if_neg h1, if_pos h2, pos_mod (by omega) ha2, neg_mod h2 hb1]
      have e : a * (b + 18446744073709551616) = a * b + 18446744073709551616 * a := by grind
      rw [e]
      generalize a * b = X
      omega
    · rw [if_neg h1, if_neg h2, pos_mod (by omega) ha2, pos_mod (by omega) hb2]
      generalize a * b = X
      omega
theorem prod_bd {a b : Int} (ha1 : -9223372036854775808 ≤ a) (ha2 : a ≤ 9223372036854775807) (hb1 : -9223372036854775808 ≤ b) (hb2 : b ≤ 9223372036854775807) : -85070591730234615865843651857942052864 ≤ a * b ∧ a * b ≤ 85070591730234615865843651857942052864 := by
  have h : (a * b).natAbs ≤ 9223372036854775808 * 9223372036854775808 := by
    rw [Int.natAbs_mul]
    exact Nat.mul_le_mul (by omega) (by omega)
  omega
theorem sg_eq {X : Int} (h1 : -85070591730234615865843651857942052864 ≤ X) (h2 : X ≤ 85070591730234615865843651857942052864) : (if l1 X < 9223372036854775808 then 0 else 18446744073709551615) = l2 X := by
  unfold l1 l2
  split <;> omega
/-- A sum in 192 bits that fits in 64: both upper limbs repeat the lower one's sign. -/
theorem fits_iff {V : Int} (h1 : -1569275433846670190958947355801916604025588861116008628224 ≤ V) (h2 : V ≤ 1569275433846670190958947355801916604025588861116008628224) :
    (l1 V = (if l0 V < 9223372036854775808 then 0 else 18446744073709551615) ∧ l2 V = (if l0 V < 9223372036854775808 then 0 else 18446744073709551615)) ↔ (-9223372036854775808 ≤ V ∧ V ≤ 9223372036854775807) := by
  unfold l0 l1 l2
  constructor
  · intro h
    split at h <;> omega
  · intro h
    split <;> omega
end Go.Proofs.YtbicmlkjonaccaaDoor.Ln
