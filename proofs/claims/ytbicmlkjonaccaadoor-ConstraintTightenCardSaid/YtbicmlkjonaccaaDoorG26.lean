/- Holds of both. -/
import Derived.Test.YtbicmlkjonaccaaDoorG3
import Derived.Test.YtbicmlkjonaccaaDoorG20
import Derived.Test.YtbicmlkjonaccaaDoorY36
import Derived.Test.YtbicmlkjonaccaaDoorG22
import Derived.Test.YtbicmlkjonaccaaDoorG19

namespace Go.Proofs.YtbicmlkjonaccaaDoor.Ln
open Go.ChangeShapes Go.WideShapes Go.ChangeAt Go.RowKit
open Go.Proofs.YtbicmlkjonaccaaDoor.Nm
set_option linter.unusedVariables false
set_option linter.unusedSimpArgs false
set_option maxRecDepth 8000

/-- The value of a form, or the error. -/
def evF (k : Int) (xs es : List Mo) : Int × Int :=
  if okL xs = false then (0, 1) else if (xs.all fun m => (es.map (·.1)).any fun s => s.toList == m.1.toList) = false then (0, 9)
  else if fit64 (k + evS es xs) = true then (k + evS es xs, 0) else (0, 3)
theorem evF_EV (k : Int) (xs es : List Mo) : EV k xs es (evF k xs es).1 (evF k xs es).2 := by
  unfold evF
  cases ho : okL xs
  · exact .inl ⟨ho, by simp, by simp⟩
  · cases ha : (xs.all fun m => (es.map (·.1)).any fun s => s.toList == m.1.toList)
    · refine .inr (.inl ⟨ho, ?_, by simp, by simp⟩)
      rw [List.all_eq_false] at ha
      obtain ⟨m, hm, h⟩ := ha
      exact ⟨m, hm, fun hin => h (any_yes hin)⟩
    · have hall : ∀ m ∈ xs, m.1 ∈ es.map (·.1) := fun m hm => by
        have h := List.all_eq_true.1 ha m hm
        by_cases hin : m.1 ∈ es.map (·.1)
        · exact hin
        · rw [any_no hin] at h; cases h
      cases hf : fit64 (k + evS es xs)
      · exact .inr (.inr (.inr ⟨ho, hall, hf, by simp, by simp⟩))
      · exact .inr (.inr (.inl ⟨ho, hall, hf, by simp, by simp⟩))
theorem evF_er (k : Int) (xs es : List Mo) : (evF k xs es).2 = 0 ∨ (evF k xs es).2 = 1 ∨ (evF k xs es).2 = 9 ∨ (evF k xs es).2 = 3 := by
  unfold evF
  split
  · simp
  · split
    · simp
    · split <;> simp
/-- Whether a constraint holds, and the error. -/
def hvF (k : Int) (xs : List Mo) (eq : Bool) (es : List Mo) : Bool × Int := (if (evF k xs es).2 = 0 then hB (evF k xs es).1 eq else false, (evF k xs es).2)
theorem ev1 (k : Int) (p : Option Addr) (xs : List Mo) (c : Nat) (q : Option Addr) (es : List Mo) (d : Nat) (w : World) (hn : xs.length ≤ 1000) (hm : es.length ≤ maxLen) (RA : Hid (SlM w p xs)) (RB : Hid (SlM w q es)) (RS : Hid (∀ i, i < xs.length → (xs.getD i mo0).1.size ≤ maxLen ∧ -9223372036854775808 ≤ (xs.getD i mo0).2 ∧ (xs.getD i mo0).2 ≤ 9223372036854775807)) (RT : Hid (∀ i, i < es.length → (es.getD i mo0).1.size ≤ maxLen ∧ -9223372036854775808 ≤ (es.getD i mo0).2 ∧ (es.getD i mo0).2 ≤ 9223372036854775807)) (k1 : -9223372036854775808 ≤ k) (k2 : k ≤ 9223372036854775807) :
    Calls Tryd.prog 41 #[Lv k p xs.length c, .slice q es.length d] w fun e w' => e = .returned (.tuple #[.int .i64 (evF k xs es).1, .int .i64 (evF k xs es).2]) ∧ Below w.heap.size w w' :=
  (eval1 k p xs c q es d w hn hm RA RB RS RT k1 k2).mono fun e w' ⟨x, er, he, hE, hb⟩ => by
    obtain ⟨rfl, rfl⟩ := EV_one hE (evF_EV k xs es)
    exact ⟨he, hb⟩
theorem ev2 (k : Int) (p : Option Addr) (xs : List Mo) (c : Nat) (q : Option Addr) (es : List Mo) (d : Nat) (w : World) (hn : xs.length ≤ 1000) (hm : es.length ≤ maxLen) (RA : Hid (SlM w p xs)) (RB : Hid (SlM w q es)) (RS : Hid (∀ i, i < xs.length → (xs.getD i mo0).1.size ≤ maxLen ∧ -9223372036854775808 ≤ (xs.getD i mo0).2 ∧ (xs.getD i mo0).2 ≤ 9223372036854775807)) (RT : Hid (∀ i, i < es.length → (es.getD i mo0).1.size ≤ maxLen ∧ -9223372036854775808 ≤ (es.getD i mo0).2 ∧ (es.getD i mo0).2 ≤ 9223372036854775807)) (k1 : -9223372036854775808 ≤ k) (k2 : k ≤ 9223372036854775807) :
    Calls Tryd.prog 55 #[Lv k p xs.length c, .slice q es.length d] w fun e w' => e = .returned (.tuple #[.int .i64 (evF k xs es).1, .int .i64 (evF k xs es).2]) ∧ Below w.heap.size w w' :=
  (eval2 k p xs c q es d w hn hm RA RB RS RT k1 k2).mono fun e w' ⟨x, er, he, hE, hb⟩ => by
    obtain ⟨rfl, rfl⟩ := EV_one hE (evF_EV k xs es)
    exact ⟨he, hb⟩

set_option maxHeartbeats 4000000 in
theorem holds1 (k : Int) (p : Option Addr) (xs : List Mo) (c : Nat) (eq : Bool) (q : Option Addr) (es : List Mo) (d : Nat) (w : World) (hn : xs.length ≤ 1000) (hm : es.length ≤ maxLen) (RA : Hid (SlM w p xs)) (RB : Hid (SlM w q es)) (RS : Hid (∀ i, i < xs.length → (xs.getD i mo0).1.size ≤ maxLen ∧ -9223372036854775808 ≤ (xs.getD i mo0).2 ∧ (xs.getD i mo0).2 ≤ 9223372036854775807)) (RT : Hid (∀ i, i < es.length → (es.getD i mo0).1.size ≤ maxLen ∧ -9223372036854775808 ≤ (es.getD i mo0).2 ∧ (es.getD i mo0).2 ≤ 9223372036854775807)) (k1 : -9223372036854775808 ≤ k) (k2 : k ≤ 9223372036854775807) :
    Calls Tryd.prog 22 #[Cv k p xs.length c eq, .slice q es.length d] w fun e w' => e = .returned (.tuple #[.bool (hvF k xs eq es).1, .int .i64 (hvF k xs eq es).2]) ∧ Below w.heap.size w w' := by
  have EC := Lib.hid fun w h1 h2 => ev1 k p xs c q es d w hn hm h1 h2 RS RT k1 k2
  have B0 : Below w.heap.size w (w.alloc (Obj.cells #[Value.int .i64 k, Value.slice p xs.length c, Value.bool eq] 36)) := (Below.refl _ _).alloc (Nat.le_refl _) _
  have RA2 := Lib.hid (SlM.keep B0 RA.out)
  have RB2 := Lib.hid (SlM.keep B0 RB.out)
  unfold hvF
  generalize evF k xs es = r at *
  obtain ⟨x, er⟩ := r
  dsimp only at EC ⊢
  by_cases h0 : er = 0
  · subst h0
    rw [if_pos rfl]
    have HC := Lib.hid fun w => holdsF k p xs.length c eq x w
    unfold Cv Lv at *
    go_enter Tryd.func22, Tryd.ntmps22
    go_wp2_with (first | (go_at_call 41; (with_reducible refine (EC.out _ RA2 RB2).mono ?_); rintro e w1 ⟨rfl, hb1⟩; have hc1 := (Rg.bcell hb1).1; have hf1 := (Rg.bcell hb1).2; have z1_0 : w.heap.size < w1.heap.size := (by have hzz := hb1.size; (try simp at hzz); omega); have K1 : Below w.heap.size w w1 := Below.trans (b := _) (by (repeat' (first | (with_reducible exact Below.refl _ _) | (with_reducible refine Below.alloc ?_ ?_ _) | (with_reducible refine Below.setCell ?_ ?_ _) | (with_reducible refine below_drewN ?_ _) | (simp; done) | omega | (simp; omega)))) (hb1.mono (by have hzz := hb1.size; (try simp at hzz); first | omega | (simp; done) | (simp; omega)))) | (go_at_call 54; (with_reducible refine (HC.out _).mono ?_); rintro e w2 ⟨rfl, hb2⟩; have hc2 := (Rg.bcell hb2).1; have hf2 := (Rg.bcell hb2).2; have z2_0 : w.heap.size < w2.heap.size := (by have hzz := hb2.size; (try simp at hzz); omega); have K2 : Below w.heap.size w w2 := Below.trans (b := _) (by (repeat' (first | (with_reducible exact Below.refl _ _) | (with_reducible exact K1) | (with_reducible exact K1.size) | (with_reducible refine Below.alloc ?_ ?_ _) | (with_reducible refine Below.setCell ?_ ?_ _) | (with_reducible refine below_drewN ?_ _) | (simp; done) | omega | (simp; omega)))) (hb2.mono (by have hzz := hb2.size; (try simp at hzz); first | omega | (simp; done) | (simp; omega)))))
    go_ret2
    exact ⟨rfl, K2⟩
  · have g0 : (er == 0) = false := by simpa using h0
    have g1 : (er != 0) = true := by simpa using h0
    rw [if_neg h0]
    clear h0
    unfold Cv Lv at *
    go_enter Tryd.func22, Tryd.ntmps22
    go_wp2_with (first | (go_at_call 41; (with_reducible refine (EC.out _ RA2 RB2).mono ?_); rintro e w1 ⟨rfl, hb1⟩; have hc1 := (Rg.bcell hb1).1; have hf1 := (Rg.bcell hb1).2; have z1_0 : w.heap.size < w1.heap.size := (by have hzz := hb1.size; (try simp at hzz); omega); have K1 : Below w.heap.size w w1 := Below.trans (b := _) (by (repeat' (first | (with_reducible exact Below.refl _ _) | (with_reducible refine Below.alloc ?_ ?_ _) | (with_reducible refine Below.setCell ?_ ?_ _) | (with_reducible refine below_drewN ?_ _) | (simp; done) | omega | (simp; omega)))) (hb1.mono (by have hzz := hb1.size; (try simp at hzz); first | omega | (simp; done) | (simp; omega)))))
    go_ret2
    exact ⟨rfl, K1⟩

set_option maxHeartbeats 4000000 in
theorem holds2 (k : Int) (p : Option Addr) (xs : List Mo) (c : Nat) (eq : Bool) (q : Option Addr) (es : List Mo) (d : Nat) (w : World) (hn : xs.length ≤ 1000) (hm : es.length ≤ maxLen) (RA : Hid (SlM w p xs)) (RB : Hid (SlM w q es)) (RS : Hid (∀ i, i < xs.length → (xs.getD i mo0).1.size ≤ maxLen ∧ -9223372036854775808 ≤ (xs.getD i mo0).2 ∧ (xs.getD i mo0).2 ≤ 9223372036854775807)) (RT : Hid (∀ i, i < es.length → (es.getD i mo0).1.size ≤ maxLen ∧ -9223372036854775808 ≤ (es.getD i mo0).2 ∧ (es.getD i mo0).2 ≤ 9223372036854775807)) (k1 : -9223372036854775808 ≤ k) (k2 : k ≤ 9223372036854775807) :
    Calls Tryd.prog 23 #[Cv k p xs.length c eq, .slice q es.length d] w fun e w' => e = .returned (.tuple #[.bool (hvF k xs eq es).1, .int .i64 (hvF k xs eq es).2]) ∧ Below w.heap.size w w' := by
  have EC := Lib.hid fun w h1 h2 => ev2 k p xs c q es d w hn hm h1 h2 RS RT k1 k2
  have B0 : Below w.heap.size w (w.alloc (Obj.cells #[Value.int .i64 k, Value.slice p xs.length c, Value.bool eq] 36)) := (Below.refl _ _).alloc (Nat.le_refl _) _
  have RA2 := Lib.hid (SlM.keep B0 RA.out)
  have RB2 := Lib.hid (SlM.keep B0 RB.out)
  unfold hvF
  generalize evF k xs es = r at *
  obtain ⟨x, er⟩ := r
  dsimp only at EC ⊢
  by_cases h0 : er = 0
  · subst h0
    rw [if_pos rfl]
    unfold hB
    unfold Cv Lv at *
    by_cases h0 : x = 0
    · subst h0
      go_enter Tryd.func23, Tryd.ntmps23
      go_wp2_with (first | (go_at_call 55; (with_reducible refine (EC.out _ RA2 RB2).mono ?_); rintro e w1 ⟨rfl, hb1⟩; have hc1 := (Rg.bcell hb1).1; have hf1 := (Rg.bcell hb1).2; have z1_0 : w.heap.size < w1.heap.size := (by have hzz := hb1.size; (try simp at hzz); omega); have K1 : Below w.heap.size w w1 := Below.trans (b := _) (by (repeat' (first | (with_reducible exact Below.refl _ _) | (with_reducible refine Below.alloc ?_ ?_ _) | (with_reducible refine Below.setCell ?_ ?_ _) | (with_reducible refine below_drewN ?_ _) | (simp; done) | omega | (simp; omega)))) (hb1.mono (by have hzz := hb1.size; (try simp at hzz); first | omega | (simp; done) | (simp; omega)))))
      go_ret2
      exact ⟨by simp, K1⟩
    · have g0 : (x == 0) = false := by simpa using h0
      by_cases h1 : 0 < x
      · have g1 : decide (0 < x) = true := by simpa using h1
        rw [g0, g1]
        cases eq
        all_goals
          go_enter Tryd.func23, Tryd.ntmps23
          go_wp2_with (first | (go_at_call 55; (with_reducible refine (EC.out _ RA2 RB2).mono ?_); rintro e w1 ⟨rfl, hb1⟩; have hc1 := (Rg.bcell hb1).1; have hf1 := (Rg.bcell hb1).2; have z1_0 : w.heap.size < w1.heap.size := (by have hzz := hb1.size; (try simp at hzz); omega); have K1 : Below w.heap.size w w1 := Below.trans (b := _) (by (repeat' (first | (with_reducible exact Below.refl _ _) | (with_reducible refine Below.alloc ?_ ?_ _) | (with_reducible refine Below.setCell ?_ ?_ _) | (with_reducible refine below_drewN ?_ _) | (simp; done) | omega | (simp; omega)))) (hb1.mono (by have hzz := hb1.size; (try simp at hzz); first | omega | (simp; done) | (simp; omega)))))
          go_ret2
          exact ⟨by simp, K1⟩
      · have g1 : decide (0 < x) = false := by simpa using h1
        rw [g0, g1]
        clear h0 h1
        go_enter Tryd.func23, Tryd.ntmps23
        go_wp2_with (first | (go_at_call 55; (with_reducible refine (EC.out _ RA2 RB2).mono ?_); rintro e w1 ⟨rfl, hb1⟩; have hc1 := (Rg.bcell hb1).1; have hf1 := (Rg.bcell hb1).2; have z1_0 : w.heap.size < w1.heap.size := (by have hzz := hb1.size; (try simp at hzz); omega); have K1 : Below w.heap.size w w1 := Below.trans (b := _) (by (repeat' (first | (with_reducible exact Below.refl _ _) | (with_reducible refine Below.alloc ?_ ?_ _) | (with_reducible refine Below.setCell ?_ ?_ _) | (with_reducible refine below_drewN ?_ _) | (simp; done) | omega | (simp; omega)))) (hb1.mono (by have hzz := hb1.size; (try simp at hzz); first | omega | (simp; done) | (simp; omega)))))
        go_ret2
        exact ⟨by simp, K1⟩
  · have g0 : (er == 0) = false := by simpa using h0
    have g1 : (er != 0) = true := by simpa using h0
    rw [if_neg h0]
    clear h0
    unfold Cv Lv at *
    go_enter Tryd.func23, Tryd.ntmps23
    go_wp2_with (first | (go_at_call 55; (with_reducible refine (EC.out _ RA2 RB2).mono ?_); rintro e w1 ⟨rfl, hb1⟩; have hc1 := (Rg.bcell hb1).1; have hf1 := (Rg.bcell hb1).2; have z1_0 : w.heap.size < w1.heap.size := (by have hzz := hb1.size; (try simp at hzz); omega); have K1 : Below w.heap.size w w1 := Below.trans (b := _) (by (repeat' (first | (with_reducible exact Below.refl _ _) | (with_reducible refine Below.alloc ?_ ?_ _) | (with_reducible refine Below.setCell ?_ ?_ _) | (with_reducible refine below_drewN ?_ _) | (simp; done) | omega | (simp; omega)))) (hb1.mono (by have hzz := hb1.size; (try simp at hzz); first | omega | (simp; done) | (simp; omega)))))
    go_ret2
    exact ⟨rfl, K1⟩
end Go.Proofs.YtbicmlkjonaccaaDoor.Ln


namespace Go.Proofs.YtbicmlkjonaccaaDoor.Ln
open Go.ChangeShapes Go.WideShapes Go.ChangeAt Go.RowKit
open Go.Proofs.YtbicmlkjonaccaaDoor.Nm
set_option linter.unusedVariables false
set_option linter.unusedSimpArgs false
set_option maxRecDepth 8000

/-- What the tests know of a constraint that stands in memory. -/
def okQ (f : Qm) : Prop := f.2.1.length ≤ 1000 ∧ (-9223372036854775808 ≤ f.1 ∧ f.1 ≤ 9223372036854775807) ∧ ∀ i, i < f.2.1.length → (f.2.1.getD i mo0).1.size ≤ maxLen ∧ -9223372036854775808 ≤ (f.2.1.getD i mo0).2 ∧ (f.2.1.getD i mo0).2 ≤ 9223372036854775807
theorem SlQ.keep {w w' : World} {p : Option Addr} {l : List Qm} (hb : Below w.heap.size w w') (h : SlQ w p l) : SlQ w' p l := fun i hi => by
  obtain ⟨b, o, q, c, hp, c0, c1, c2, hS⟩ := h i hi
  have lb : b < w.heap.size := World.block_lt_of_cell? _ _ c0
  exact ⟨b, o, q, c, hp, Rg.keep hb lb c0, Rg.keep hb lb c1, Rg.keep hb lb c2, SlM.keep hb hS⟩
def vioE (r : Bool × Int) : Int := if r.2 = 0 ∧ r.1 = false then -1 else r.2
def hq (es : List Mo) (f : Qm) : Bool × Int := hvF f.1 f.2.1 f.2.2 es
/-- The first error of the closure. -/
def feF (es : List Mo) : List Qm → Int × Int
  | [] => (0, 0)
  | a :: r => if vioE (hq es a) ≠ 0 then (0, vioE (hq es a)) else ((feF es r).1 + 1, (feF es r).2)
/-- The index of the first constraint that does not hold, and the error. -/
def fvF (es : List Mo) : List Qm → Int × Int
  | [] => (0, 0)
  | a :: r => if (hq es a).2 ≠ 0 ∨ (hq es a).1 = false then (0, (hq es a).2) else ((fvF es r).1 + 1, (fvF es r).2)
theorem hq_er (es : List Mo) (f : Qm) : (hq es f).2 = 0 ∨ (hq es f).2 = 1 ∨ (hq es f).2 = 9 ∨ (hq es f).2 = 3 := evF_er _ _ _
theorem vio_zero {es : List Mo} {f : Qm} : vioE (hq es f) = 0 ↔ ¬ ((hq es f).2 ≠ 0 ∨ (hq es f).1 = false) := by
  have h := hq_er es f
  unfold vioE
  split
  · rename_i hc
    simp [hc]
  · rename_i hc
    constructor
    · intro h0 h1
      rcases h1 with h1 | h1
      · exact h1 h0
      · exact hc ⟨h0, h1⟩
    · intro h1
      exact Classical.byContradiction fun h2 => h1 (.inl h2)
theorem fv_fe (es : List Mo) : ∀ l, fvF es l = if (feF es l).2 = -1 then ((feF es l).1, 0) else feF es l
  | [] => by simp [fvF, feF]
  | a :: r => by
    have ih := fv_fe es r
    have he := hq_er es a
    by_cases h : vioE (hq es a) = 0
    · have e2 : feF es (a :: r) = ((feF es r).1 + 1, (feF es r).2) := by
        show (if _ then _ else _) = _
        rw [if_neg (by simpa using h)]
      have e1 : fvF es (a :: r) = ((fvF es r).1 + 1, (fvF es r).2) := by
        show (if _ then _ else _) = _
        rw [if_neg (vio_zero.1 h)]
      rw [e1, e2, ih]
      by_cases h2 : (feF es r).2 = -1
      · simp [h2]
      · simp [h2]
    · have h2 : (hq es a).2 ≠ 0 ∨ (hq es a).1 = false := Classical.byContradiction fun h3 => h (vio_zero.2 h3)
      have e2 : feF es (a :: r) = (0, vioE (hq es a)) := by
        show (if _ then _ else _) = _
        rw [if_pos h]
      have e1 : fvF es (a :: r) = (0, (hq es a).2) := by
        show (if _ then _ else _) = _
        rw [if_pos h2]
      rw [e1, e2]
      dsimp only
      unfold vioE
      by_cases hc : (hq es a).2 = 0 ∧ (hq es a).1 = false
      · rw [if_pos hc, if_pos rfl, hc.1]
      · rw [if_neg hc, if_neg (by rcases he with h | h | h | h <;> rw [h] <;> decide)]
theorem fe_step {es : List Mo} {l : List Qm} {j : Nat} (h : j < l.length) : feF es (l.drop j) = if vioE (hq es (l.getD j q0m)) ≠ 0 then (0, vioE (hq es (l.getD j q0m))) else ((feF es (l.drop (j + 1))).1 + 1, (feF es (l.drop (j + 1))).2) := by
  rw [List.drop_eq_getElem_cons h]
  have e1 : l.getD j q0m = l[j] := by unfold List.getD; rw [List.getElem?_eq_getElem h]; rfl
  rw [e1]
  rfl
theorem fv_step {es : List Mo} {l : List Qm} {j : Nat} (h : j < l.length) : fvF es (l.drop j) = if (hq es (l.getD j q0m)).2 ≠ 0 ∨ (hq es (l.getD j q0m)).1 = false then (0, (hq es (l.getD j q0m)).2) else ((fvF es (l.drop (j + 1))).1 + 1, (fvF es (l.drop (j + 1))).2) := by
  rw [List.drop_eq_getElem_cons h]
  have e1 : l.getD j q0m = l[j] := by unfold List.getD; rw [List.getElem?_eq_getElem h]; rfl
  rw [e1]
  rfl
set_option maxHeartbeats 4000000 in
theorem vclo (k : Int) (p : Option Addr) (xs : List Mo) (c : Nat) (eq : Bool) (q : Option Addr) (es : List Mo) (d : Nat) (ge : Nat) (w : World) (hn : xs.length ≤ 1000) (hm : es.length ≤ maxLen) (RA : Hid (SlM w p xs)) (RB : Hid (SlM w q es)) (RS : Hid (∀ i, i < xs.length → (xs.getD i mo0).1.size ≤ maxLen ∧ -9223372036854775808 ≤ (xs.getD i mo0).2 ∧ (xs.getD i mo0).2 ≤ 9223372036854775807)) (RT : Hid (∀ i, i < es.length → (es.getD i mo0).1.size ≤ maxLen ∧ -9223372036854775808 ≤ (es.getD i mo0).2 ∧ (es.getD i mo0).2 ≤ 9223372036854775807)) (k1 : -9223372036854775808 ≤ k) (k2 : k ≤ 9223372036854775807) (hg : w.cell? ⟨ge, 0, none⟩ = some (.slice q es.length d)) :
    Calls Tryd.prog 57 #[Cv k p xs.length c eq, .pointer (some ⟨ge, 0, none⟩)] w fun e w' => e = .returned (.int .i64 (vioE (hvF k xs eq es))) ∧ Below w.heap.size w w' := by
  have HC := Lib.hid fun w h1 h2 => holds1 k p xs c eq q es d w hn hm h1 h2 RS RT k1 k2
  have B0 : Below w.heap.size w (w.alloc (Obj.cells #[Value.int .i64 k, Value.slice p xs.length c, Value.bool eq] 36)) := (Below.refl _ _).alloc (Nat.le_refl _) _
  have RA2 := Lib.hid (SlM.keep B0 RA.out)
  have RB2 := Lib.hid (SlM.keep B0 RB.out)
  have f0 := Rg.keep B0 (World.block_lt_of_cell? _ _ hg) hg
  generalize hvF k xs eq es = r at *
  obtain ⟨v, er⟩ := r
  dsimp only at HC
  unfold vioE
  unfold Cv at *
  by_cases h0 : er = 0
  · subst h0
    cases v
    · rw [if_pos ⟨rfl, rfl⟩]
      go_enter Tryd.func57, Tryd.ntmps57
      go_wp2_with (first | (go_at_call 22; (with_reducible refine (HC.out _ RA2 RB2).mono ?_); rintro e w1 ⟨rfl, hb1⟩; have hc1 := (Rg.bcell hb1).1; have hf1 := (Rg.bcell hb1).2; have z1_0 : w.heap.size < w1.heap.size := (by have hzz := hb1.size; (try simp at hzz); omega); have K1 : Below w.heap.size w w1 := Below.trans (b := _) (by (repeat' (first | (with_reducible exact Below.refl _ _) | (with_reducible refine Below.alloc ?_ ?_ _) | (with_reducible refine Below.setCell ?_ ?_ _) | (with_reducible refine below_drewN ?_ _) | (simp; done) | omega | (simp; omega)))) (hb1.mono (by have hzz := hb1.size; (try simp at hzz); first | omega | (simp; done) | (simp; omega)))))
      go_ret
      exact ⟨rfl, K1⟩
    · rw [if_neg (fun h => by cases h.2)]
      go_enter Tryd.func57, Tryd.ntmps57
      go_wp2_with (first | (go_at_call 22; (with_reducible refine (HC.out _ RA2 RB2).mono ?_); rintro e w1 ⟨rfl, hb1⟩; have hc1 := (Rg.bcell hb1).1; have hf1 := (Rg.bcell hb1).2; have z1_0 : w.heap.size < w1.heap.size := (by have hzz := hb1.size; (try simp at hzz); omega); have K1 : Below w.heap.size w w1 := Below.trans (b := _) (by (repeat' (first | (with_reducible exact Below.refl _ _) | (with_reducible refine Below.alloc ?_ ?_ _) | (with_reducible refine Below.setCell ?_ ?_ _) | (with_reducible refine below_drewN ?_ _) | (simp; done) | omega | (simp; omega)))) (hb1.mono (by have hzz := hb1.size; (try simp at hzz); first | omega | (simp; done) | (simp; omega)))))
      go_ret
      exact ⟨rfl, K1⟩
  · have g0 : (er == 0) = false := by simpa using h0
    rw [if_neg (fun h => h0 h.1)]
    clear h0
    go_enter Tryd.func57, Tryd.ntmps57
    go_wp2_with (first | (go_at_call 22; (with_reducible refine (HC.out _ RA2 RB2).mono ?_); rintro e w1 ⟨rfl, hb1⟩; have hc1 := (Rg.bcell hb1).1; have hf1 := (Rg.bcell hb1).2; have z1_0 : w.heap.size < w1.heap.size := (by have hzz := hb1.size; (try simp at hzz); omega); have K1 : Below w.heap.size w w1 := Below.trans (b := _) (by (repeat' (first | (with_reducible exact Below.refl _ _) | (with_reducible refine Below.alloc ?_ ?_ _) | (with_reducible refine Below.setCell ?_ ?_ _) | (with_reducible refine below_drewN ?_ _) | (simp; done) | omega | (simp; omega)))) (hb1.mono (by have hzz := hb1.size; (try simp at hzz); first | omega | (simp; done) | (simp; omega)))))
    go_ret
    exact ⟨rfl, K1⟩
set_option maxRecDepth 100000 in
set_option maxHeartbeats 4000000 in
theorem fe1 (p : Option Addr) (l : List Qm) (c : Nat) (q : Option Addr) (es : List Mo) (d : Nat) (ge : Nat) (w : World) (hn : l.length ≤ 1000) (hm : es.length ≤ maxLen) (RA : Hid (SlQ w p l)) (RB : Hid (SlM w q es)) (RT : Hid (∀ i, i < es.length → (es.getD i mo0).1.size ≤ maxLen ∧ -9223372036854775808 ≤ (es.getD i mo0).2 ∧ (es.getD i mo0).2 ≤ 9223372036854775807)) (QK : Hid (∀ f ∈ l, okQ f)) (hg : w.cell? ⟨ge, 0, none⟩ = some (.slice q es.length d)) :
    Calls Tryd.prog 56 #[.slice p l.length c, .func (.func 57) #[] #[.pointer (some ⟨ge, 0, none⟩)]] w fun e w' => e = .returned (.tuple #[.int .i64 (feF es l).1, .int .i64 (feF es l).2]) ∧ Below w.heap.size w w' := by
  obtain ⟨n, hnn⟩ : ∃ n, l.length = n := ⟨_, rfl⟩
  have HN := Lib.hid hnn
  have HG := Lib.hid hg
  obtain ⟨R, hR⟩ : ∃ R, feF es l = R := ⟨_, rfl⟩
  have HR := Lib.hid hR
  rw [hnn] at hn ⊢
  rw [hR]
  clear hnn hg hR
  obtain ⟨r1, r2⟩ := R
  go_enter Tryd.func56, Tryd.ntmps56
  go_wp2_with fail
  go_loopw [11] (fun i wr => ∃ (j : Nat), i = .int .i64 j ∧ j ≤ n ∧ Below w.heap.size w wr ∧ Hid (feF es l = ((feF es (l.drop j)).1 + j, (feF es (l.drop j)).2))) (fun i _ => n - (intOf i).toNat)
  case atStart => exact ⟨0, rfl, Nat.zero_le _, Below.refl _ _, Lib.hid (by simp)⟩
  case round =>
    obtain ⟨j, rfl, hj, hB, HI⟩ := hrel
    have jj : (0 : Int) ≤ j := by omega
    by_cases hlt : j < n
    · obtain ⟨b, o, qa, da, rfl, c0, c1, c2, hM⟩ := RA.out j (by rw [HN.out]; exact hlt)
      have j2 : (j : Int) < n := by omega
      have hbw : b < w.heap.size := World.block_lt_of_cell? _ _ c0
      replace c0 := Rg.keep hB hbw c0
      replace c1 := Rg.keep hB hbw c1
      replace c2 := Rg.keep hB hbw c2
      have hbr : b < wr.heap.size := World.block_lt_of_cell? _ _ c0
      have hM2 := Lib.hid (SlM.keep hB hM)
      have HB2 := Lib.hid (SlM.keep hB RB.out)
      have hok := QK.out _ (qget (l := l) (i := j) (by rw [HN.out]; exact hlt))
      have hst := fe_step (es := es) (l := l) (j := j) (by rw [HN.out]; exact hlt)
      unfold hq at hst
      obtain ⟨f, hf⟩ : ∃ f, l.getD j q0m = f := ⟨_, rfl⟩
      rw [hf] at c0 c1 c2 hM hM2 hok hst
      obtain ⟨k, xs, eq⟩ := f
      dsimp only at c0 c1 c2 hM hM2 hok hst
      obtain ⟨o1, o2, o3⟩ := hok
      have BA := (Below.refl wr.heap.size wr).alloc (Nat.le_refl _) (Obj.cells #[Value.int .i64 k, Value.slice qa xs.length da, Value.bool eq] 36)
      have hB3 := hB.alloc hB.size (Obj.cells #[Value.int .i64 k, Value.slice qa xs.length da, Value.bool eq] 36)
      have CC := Lib.hid (vclo k qa xs da eq q es d ge _ o1 hm (Lib.hid (SlM.keep BA hM2.out)) (Lib.hid (SlM.keep BA HB2.out)) (Lib.hid o3) RT o2.1 o2.2 (Rg.keep hB3 (World.block_lt_of_cell? _ _ HG.out) HG.out))
      obtain ⟨v, hv⟩ : ∃ v, vioE (hvF k xs eq es) = v := ⟨_, rfl⟩
      rw [hv] at CC hst
      unfold Cv at CC
      clear hM hf BA hv o1 o2 o3
      by_cases h0 : v = 0
      · subst h0
        rw [if_neg (by simp)] at hst
        have HI2 : Hid (feF es l = ((feF es (l.drop (j + 1))).1 + ((j + 1 : Nat) : Int), (feF es (l.drop (j + 1))).2)) := Lib.hid (by rw [HI.out, hst]; simp; omega)
        have HB3 := Lib.hid hB3
        clear hst HI hB3
        go_wp2_with (go_at_call 57; (with_reducible refine CC.out.mono ?_); rintro e w1 ⟨rfl, hb⟩; have HB4 := HB3.out.trans (hb.mono HB3.out.size))
        go_roundw
        case rel => exact ⟨j + 1, by go_num, by omega, HB4, HI2⟩
        case measure => simp [intOf]; omega
      · have g0 : (v == 0) = false := by simpa using h0
        have g1 : (v != 0) = true := by simpa using h0
        rw [if_pos h0] at hst
        have HE := Lib.hid (show (r1, r2) = ((j : Int), v) by rw [← HR.out, HI.out, hst]; simp)
        have HB3 := Lib.hid hB3
        clear hst HI hB3 h0
        go_wp2_with (go_at_call 57; (with_reducible refine CC.out.mono ?_); rintro e w1 ⟨rfl, hb⟩; have HB4 := Lib.hid (HB3.out.trans (hb.mono HB3.out.size)))
        have h9 := HE.out
        cases h9
        refine bodyPost_ret (v := .tuple #[.int .i64 j, .int .i64 r2]) (by simp [results, Tryd.results56, go_sem]) rfl ⟨rfl, HB4.out⟩
    · obtain rfl : j = n := by omega
      have HE := Lib.hid (show (r1, r2) = ((j : Int), 0) by rw [← HR.out, HI.out, List.drop_of_length_le (by rw [HN.out]; exact Nat.le_refl _)]; simp [feF])
      have HB4 := Lib.hid hB
      clear HI hB
      go_wp2
      have h9 := HE.out
      cases h9
      refine bodyPost_ret (v := .tuple #[.int .i64 j, .int .i64 0]) (by simp [results, Tryd.results56, go_sem]) rfl ⟨rfl, HB4.out⟩
set_option maxHeartbeats 4000000 in
theorem fv1 (p : Option Addr) (l : List Qm) (c : Nat) (q : Option Addr) (es : List Mo) (d : Nat) (w : World) (hn : l.length ≤ 1000) (hm : es.length ≤ maxLen) (RA : Hid (SlQ w p l)) (RB : Hid (SlM w q es)) (RT : Hid (∀ i, i < es.length → (es.getD i mo0).1.size ≤ maxLen ∧ -9223372036854775808 ≤ (es.getD i mo0).2 ∧ (es.getD i mo0).2 ≤ 9223372036854775807)) (QK : Hid (∀ f ∈ l, okQ f)) :
    Calls Tryd.prog 26 #[.slice p l.length c, .slice q es.length d] w fun e w' => e = .returned (.tuple #[.int .i64 (fvF es l).1, .int .i64 (fvF es l).2]) ∧ Below w.heap.size w w' := by
  have B0 : Below w.heap.size w (w.alloc (Obj.cells #[Value.slice q es.length d] 31)) := (Below.refl _ _).alloc (Nat.le_refl _) _
  have FE := Lib.hid (fe1 p l c q es d w.heap.size (w.alloc (Obj.cells #[Value.slice q es.length d] 31)) hn hm (Lib.hid (SlQ.keep B0 RA.out)) (Lib.hid (SlM.keep B0 RB.out)) RT QK (by go_cell))
  rw [fv_fe]
  generalize feF es l = r at *
  obtain ⟨x, er⟩ := r
  dsimp only at FE ⊢
  by_cases h0 : er = -1
  · subst h0
    rw [if_pos rfl]
    go_enter Tryd.func26, Tryd.ntmps26
    go_wp2_with (go_at_call 56; (with_reducible refine FE.out.mono ?_); rintro e w1 ⟨rfl, hb⟩; have HB4 := Lib.hid (B0.trans (hb.mono B0.size)))
    refine bodyPost_ret (v := .tuple #[.int .i64 x, .int .i64 0]) (by simp [results, Tryd.results26, go_sem]) rfl ⟨rfl, HB4.out⟩
  · have g0 : (er == -1) = false := by simpa using h0
    rw [if_neg h0]
    clear h0
    go_enter Tryd.func26, Tryd.ntmps26
    go_wp2_with (go_at_call 56; (with_reducible refine FE.out.mono ?_); rintro e w1 ⟨rfl, hb⟩; have HB4 := Lib.hid (B0.trans (hb.mono B0.size)))
    refine bodyPost_ret (v := .tuple #[.int .i64 x, .int .i64 er]) (by simp [results, Tryd.results26, go_sem]) rfl ⟨rfl, HB4.out⟩
set_option maxRecDepth 100000 in
set_option maxHeartbeats 4000000 in
theorem fv2 (p : Option Addr) (l : List Qm) (c : Nat) (q : Option Addr) (es : List Mo) (d : Nat) (w : World) (hn : l.length ≤ 1000) (hm : es.length ≤ maxLen) (RA : Hid (SlQ w p l)) (RB : Hid (SlM w q es)) (RT : Hid (∀ i, i < es.length → (es.getD i mo0).1.size ≤ maxLen ∧ -9223372036854775808 ≤ (es.getD i mo0).2 ∧ (es.getD i mo0).2 ≤ 9223372036854775807)) (QK : Hid (∀ f ∈ l, okQ f)) :
    Calls Tryd.prog 27 #[.slice p l.length c, .slice q es.length d] w fun e w' => e = .returned (.tuple #[.int .i64 (fvF es l).1, .int .i64 (fvF es l).2]) ∧ Below w.heap.size w w' := by
  obtain ⟨n, hnn⟩ : ∃ n, l.length = n := ⟨_, rfl⟩
  have HN := Lib.hid hnn
  obtain ⟨R, hR⟩ : ∃ R, fvF es l = R := ⟨_, rfl⟩
  have HR := Lib.hid hR
  rw [hnn] at hn ⊢
  rw [hR]
  clear hnn hR
  obtain ⟨r1, r2⟩ := R
  go_enter Tryd.func27, Tryd.ntmps27
  go_wp2_with fail
  go_loopw [6] (fun i wr => ∃ (j : Nat), i = .int .i64 j ∧ j ≤ n ∧ Below w.heap.size w wr ∧ Hid (fvF es l = ((fvF es (l.drop j)).1 + j, (fvF es (l.drop j)).2))) (fun i _ => n - (intOf i).toNat)
  case atStart => exact ⟨0, rfl, Nat.zero_le _, Below.refl _ _, Lib.hid (by simp)⟩
  case round =>
    obtain ⟨j, rfl, hj, hB, HI⟩ := hrel
    have jj : (0 : Int) ≤ j := by omega
    by_cases hlt : j < n
    · obtain ⟨b, o, qa, da, rfl, c0, c1, c2, hM⟩ := RA.out j (by rw [HN.out]; exact hlt)
      have j2 : (j : Int) < n := by omega
      have hbw : b < w.heap.size := World.block_lt_of_cell? _ _ c0
      replace c0 := Rg.keep hB hbw c0
      replace c1 := Rg.keep hB hbw c1
      replace c2 := Rg.keep hB hbw c2
      have hbr : b < wr.heap.size := World.block_lt_of_cell? _ _ c0
      have hM2 := Lib.hid (SlM.keep hB hM)
      have HB2 := Lib.hid (SlM.keep hB RB.out)
      have hok := QK.out _ (qget (l := l) (i := j) (by rw [HN.out]; exact hlt))
      have hst := fv_step (es := es) (l := l) (j := j) (by rw [HN.out]; exact hlt)
      unfold hq at hst
      obtain ⟨f, hf⟩ : ∃ f, l.getD j q0m = f := ⟨_, rfl⟩
      rw [hf] at c0 c1 c2 hM hM2 hok hst
      obtain ⟨k, xs, eq⟩ := f
      dsimp only at c0 c1 c2 hM hM2 hok hst
      obtain ⟨o1, o2, o3⟩ := hok
      have CC := Lib.hid (holds2 k qa xs da eq q es d wr o1 hm hM2 HB2 (Lib.hid o3) RT o2.1 o2.2)
      generalize hvF k xs eq es = r at *
      obtain ⟨v, er⟩ := r
      dsimp only at CC hst
      unfold Cv at CC
      clear hM hf o1 o2 o3
      have HB3 := Lib.hid hB
      clear hB
      by_cases h0 : er = 0
      · subst h0
        cases v
        · rw [if_pos (.inr rfl)] at hst
          have HE := Lib.hid (show (r1, r2) = ((j : Int), 0) by rw [← HR.out, HI.out, hst]; simp)
          clear hst HI
          go_wp2_with (go_at_call 23; (with_reducible refine CC.out.mono ?_); rintro e w1 ⟨rfl, hb⟩; have HB4 := Lib.hid (HB3.out.trans (hb.mono HB3.out.size)))
          have h9 := HE.out
          cases h9
          refine bodyPost_ret (v := .tuple #[.int .i64 j, .int .i64 0]) (by simp [results, Tryd.results27, go_sem]) rfl ⟨rfl, HB4.out⟩
        · rw [if_neg (by simp)] at hst
          have HI2 : Hid (fvF es l = ((fvF es (l.drop (j + 1))).1 + ((j + 1 : Nat) : Int), (fvF es (l.drop (j + 1))).2)) := Lib.hid (by rw [HI.out, hst]; simp; omega)
          clear hst HI
          go_wp2_with (go_at_call 23; (with_reducible refine CC.out.mono ?_); rintro e w1 ⟨rfl, hb⟩; have HB4 := HB3.out.trans (hb.mono HB3.out.size))
          go_roundw
          case rel => exact ⟨j + 1, by go_num, by omega, HB4, HI2⟩
          case measure => simp [intOf]; omega
      · have g0 : (er == 0) = false := by simpa using h0
        have g1 : (er != 0) = true := by simpa using h0
        rw [if_pos (.inl h0)] at hst
        have HE := Lib.hid (show (r1, r2) = ((j : Int), er) by rw [← HR.out, HI.out, hst]; simp)
        clear hst HI h0
        go_wp2_with (go_at_call 23; (with_reducible refine CC.out.mono ?_); rintro e w1 ⟨rfl, hb⟩; have HB4 := Lib.hid (HB3.out.trans (hb.mono HB3.out.size)))
        have h9 := HE.out
        cases h9
        refine bodyPost_ret (v := .tuple #[.int .i64 j, .int .i64 r2]) (by simp [results, Tryd.results27, go_sem]) rfl ⟨rfl, HB4.out⟩
    · obtain rfl : j = n := by omega
      have HE := Lib.hid (show (r1, r2) = ((j : Int), 0) by rw [← HR.out, HI.out, List.drop_of_length_le (by rw [HN.out]; exact Nat.le_refl _)]; simp [fvF])
      have HB4 := Lib.hid hB
      clear HI hB
      go_wp2
      have h9 := HE.out
      cases h9
      refine bodyPost_ret (v := .tuple #[.int .i64 j, .int .i64 0]) (by simp [results, Tryd.results27, go_sem]) rfl ⟨rfl, HB4.out⟩
end Go.Proofs.YtbicmlkjonaccaaDoor.Ln


namespace Go.Proofs.YtbicmlkjonaccaaDoor.Ln
open Go.ChangeShapes Go.WideShapes Go.ChangeAt Go.RowKit
open Go.Proofs.YtbicmlkjonaccaaDoor.Nm
set_option linter.unusedVariables false
set_option linter.unusedSimpArgs false
set_option maxRecDepth 8000

theorem smQ_bd {lim : Nat} {l : List Qm} (h : smQ lim l = true) : l.length ≤ lim ∧ ∀ f ∈ l, f.2.1.length ≤ 40 := by
  unfold smQ at h
  simp only [Bool.and_eq_true, decide_eq_true_eq, List.all_eq_true] at h
  refine ⟨h.1, fun f hf => ?_⟩
  have h2 := h.2 f hf
  unfold smF at h2
  simp only [Bool.and_eq_true, decide_eq_true_eq] at h2
  exact h2.1
/-- What an argument that is a list of constraints is known to be. -/
def argQ (l : List Qm) : Prop := ∀ f ∈ l, (-9223372036854775808 ≤ f.1 ∧ f.1 ≤ 9223372036854775807) ∧ f.2.1.length ≤ maxLen ∧ ∀ y ∈ f.2.1, y.1.size ≤ maxLen ∧ (-9223372036854775808 ≤ y.2 ∧ y.2 ≤ 9223372036854775807)
theorem okQ_of {l : List Qm} (h : argQ l) (hs : ∀ f ∈ l, f.2.1.length ≤ 40) : ∀ f ∈ l, okQ f := fun f hf => ⟨Nat.le_trans (hs f hf) (by decide), (h f hf).1, fun i hi => (h f hf).2.2 _ (getD_memS hi)⟩
set_option maxRecDepth 100000 in
set_option maxHeartbeats 8000000 in
theorem law_ceval (p : Option Addr) (l : List Qm) (c : Nat) (q : Option Addr) (es : List Mo) (d : Nat) (w : World) (hn : l.length ≤ maxLen) (hm : es.length ≤ maxLen) (RA : Hid (SlQ w p l)) (RB : Hid (SlM w q es)) (AQ : Hid (argQ l))
    (RT : Hid (∀ i, i < es.length → (es.getD i mo0).1.size ≤ maxLen ∧ -9223372036854775808 ≤ (es.getD i mo0).2 ∧ (es.getD i mo0).2 ≤ 9223372036854775807)) (hL : Hid (∀ w', Below w.heap.size w w' → LA w')) :
    Calls Tryd.prog 4 #[.slice p l.length c, .slice q es.length d] w fun e w' => e = .returned (.bool true) ∧ Below w.heap.size w w' := by
  have SM := Lib.hid (small6 p l c 60 w hn (Lib.hid fun f hf => (AQ.out f hf).2.1) (by decide) RA)
  have EX := Lib.hid fun w h => exam6 w h
  have KX : Hid (Below w.heap.size w w) := Lib.hid (Below.refl _ _)
  have HM9 := Lib.hid hm
  unfold maxLen at hm
  cases hsm : smQ 60 l
  · rw [hsm] at SM
    clear hsm
    go_enter Tryd.func4, Tryd.ntmps4
    go_wp2_with (first | (go_at_call 20; refine SM.out.mono ?_; rintro e w1 ⟨rfl, rfl⟩) | (go_at_call 21; (with_reducible refine (EX.out _ (Lib.hid fun w' h => hL.out _ (KX.out.trans (h.mono KX.out.size)))).mono ?_); rintro e w9 ⟨rfl, hb9⟩))
    go_ret
    exact ⟨rfl, hb9⟩
  · have HB := smQ_bd hsm
    rw [hsm] at SM
    clear hsm
    by_cases he : 100 < es.length
    · have he1 : (100 : Int) < es.length := by omega
      clear HB
      go_enter Tryd.func4, Tryd.ntmps4
      go_wp2_with (first | (go_at_call 20; refine SM.out.mono ?_; rintro e w1 ⟨rfl, rfl⟩) | (go_at_call 21; (with_reducible refine (EX.out _ (Lib.hid fun w' h => hL.out _ (KX.out.trans (h.mono KX.out.size)))).mono ?_); rintro e w9 ⟨rfl, hb9⟩))
      go_ret
      exact ⟨rfl, hb9⟩
    · have he1 : ¬ (100 : Int) < es.length := by omega
      have QK := Lib.hid (okQ_of AQ.out HB.2)
      have hl60 := HB.1
      have F1 := Lib.hid fun w h1 h2 => fv1 p l c q es d w (Nat.le_trans hl60 (by decide)) HM9.out h1 h2 RT QK
      have F2 := Lib.hid fun w h1 h2 => fv2 p l c q es d w (Nat.le_trans hl60 (by decide)) HM9.out h1 h2 RT QK
      have HE := Lib.hid fun k p xs c eq w hn h1 h2 RS k1 k2 => holds1 k p xs c eq q es d w hn HM9.out h1 h2 RS RT k1 k2
      have HE2 := Lib.hid fun k p xs c eq w hn h1 h2 RS k1 k2 => holds2 k p xs c eq q es d w hn HM9.out h1 h2 RS RT k1 k2
      obtain ⟨⟨r1, r2⟩, hR⟩ : ∃ R, fvF es l = R := ⟨_, rfl⟩
      rw [hR] at F1 F2
      dsimp only at F1 F2
      clear HB hR
      obtain ⟨n, hnn⟩ : ∃ n, l.length = n := ⟨_, rfl⟩
      have HN := Lib.hid hnn
      rw [hnn] at SM F1 F2 hl60 ⊢
      clear hnn hn
      go_enter Tryd.func4, Tryd.ntmps4
      go_wp2_with (go_at_call 20; refine SM.out.mono ?_; rintro e w1 ⟨rfl, rfl⟩)
      go_loopw [5] (fun i wr => ∃ (j : Nat), i = .int .i64 j ∧ j ≤ n ∧ Below w.heap.size w wr) (fun i _ => n - (intOf i).toNat)
      case atStart => exact ⟨0, rfl, Nat.zero_le _, Below.refl _ _⟩
      case round =>
      obtain ⟨j, rfl, hj, hB⟩ := hrel
      have jj : (0 : Int) ≤ j := by omega
      by_cases hlt : j < n
      · obtain ⟨b, o, qa, da, rfl, c0, c1, c2, hM⟩ := RA.out j (by rw [HN.out]; exact hlt)
        have j2 : (j : Int) < n := by omega
        have hbw : b < w.heap.size := World.block_lt_of_cell? _ _ c0
        replace c0 := Rg.keep hB hbw c0
        replace c1 := Rg.keep hB hbw c1
        replace c2 := Rg.keep hB hbw c2
        have hbr : b < wr.heap.size := World.block_lt_of_cell? _ _ c0
        have HM2 := Lib.hid (SlM.keep hB hM)
        have HB2 := Lib.hid (SlM.keep hB RB.out)
        have hok := QK.out _ (qget (l := l) (i := j) (by rw [HN.out]; exact hlt))
        obtain ⟨f, hf⟩ : ∃ f, l.getD j q0m = f := ⟨_, rfl⟩
        rw [hf] at c0 c1 c2 hM HM2 hok
        obtain ⟨k, xs, eq⟩ := f
        dsimp only at c0 c1 c2 hM HM2 hok
        obtain ⟨o1, o2, o3⟩ := hok
        have C1 := Lib.hid fun w h1 h2 => HE.out k qa xs da eq w o1 h1 h2 (Lib.hid o3) o2.1 o2.2
        have C2 := Lib.hid fun w h1 h2 => HE2.out k qa xs da eq w o1 h1 h2 (Lib.hid o3) o2.1 o2.2
        have V1 := Lib.hid fun w h => cval1 k qa xs da eq w (Nat.le_trans o1 (by decide)) h (Lib.hid fun i hi => (o3 i hi).1)
        have V2 := Lib.hid fun w h => cval2 k qa xs da eq w (Nat.le_trans o1 (by decide)) h (Lib.hid fun i hi => (o3 i hi).1)
        obtain ⟨⟨v, er⟩, hv⟩ : ∃ R, hvF k xs eq es = R := ⟨_, rfl⟩
        rw [hv] at C1 C2
        dsimp only at C1 C2
        generalize vL xs = vv at V1 V2
        have g1 : (er != er) = false := by simp
        have g2 : (vv != vv) = false := by simp
        have g3 : (v != v) = false := by simp
        have HB3 := Lib.hid hB
        unfold Cv at C1 C2 V1 V2
        clear hM hf o1 o2 o3 hv hB
        go_wp2_with (first | (go_at_call 22; (with_reducible refine (C1.out _ HM2 HB2).mono ?_); rintro e w1 ⟨rfl, hb1⟩; have c0 := Rg.keep hb1 hbr c0; have c1 := Rg.keep hb1 hbr c1; have c2 := Rg.keep hb1 hbr c2; have hbr1 : b < w1.heap.size := World.block_lt_of_cell? _ _ c0) | (go_at_call 23; (with_reducible refine (C2.out _ (Lib.hid (SlM.keep hb1 HM2.out)) (Lib.hid (SlM.keep hb1 HB2.out))).mono ?_); rintro e w2 ⟨rfl, hb2⟩; have c0 := Rg.keep hb2 hbr1 c0; have c1 := Rg.keep hb2 hbr1 c1; have c2 := Rg.keep hb2 hbr1 c2; have hbr2 : b < w2.heap.size := World.block_lt_of_cell? _ _ c0))
        have K12 := hb1.trans (hb2.mono hb1.size)
        have HM3 := Lib.hid (SlM.keep K12 HM2.out)
        have KB := Lib.hid (HB3.out.trans (K12.mono HB3.out.size))
        have HS : Hid (∀ u u' : World, (u.cell? ⟨b, o + j * 3, none⟩ = some (.int .i64 k) ∧ u.cell? ⟨b, o + j * 3 + 1, none⟩ = some (.slice qa xs.length da) ∧ u.cell? ⟨b, o + j * 3 + 2, none⟩ = some (.bool eq) ∧ Below w2.heap.size w2 u) → Below u.heap.size u u' → (u'.cell? ⟨b, o + j * 3, none⟩ = some (.int .i64 k) ∧ u'.cell? ⟨b, o + j * 3 + 1, none⟩ = some (.slice qa xs.length da) ∧ u'.cell? ⟨b, o + j * 3 + 2, none⟩ = some (.bool eq) ∧ Below w2.heap.size w2 u')) := Lib.hid (fun u u' h hb => ⟨Rg.keep hb (World.block_lt_of_cell? _ _ h.1) h.1, Rg.keep hb (World.block_lt_of_cell? _ _ h.2.1) h.2.1, Rg.keep hb (World.block_lt_of_cell? _ _ h.2.2.1) h.2.2.1, h.2.2.2.trans (hb.mono h.2.2.2.size)⟩)
        clear hb1 hb2 K12 HM2 HB2 C1 C2
        refine Rk.begin (S := fun wS => wS.cell? ⟨b, o + j * 3, none⟩ = some (.int .i64 k) ∧ wS.cell? ⟨b, o + j * 3 + 1, none⟩ = some (.slice qa xs.length da) ∧ wS.cell? ⟨b, o + j * 3 + 2, none⟩ = some (.bool eq) ∧ Below w2.heap.size w2 wS) 20 (by kernel_rfl) ⟨c0, c1, c2, (Below.refl _ _).drew⟩ (fun hHeld => ?_)
        refine Rk.takeP (i := 0) (v := ?_) rfl (by kernel_rfl) (by kernel_rfl) (by kernel_rfl) (by kernel_rfl) (fun _ _ _ h => h) (Or.inl ⟨by kernel_rfl, ?_⟩) (by assumption) ?_
        rotate_left
        · ((intro w hSw; go_simp) <;> with_reducible rfl)
        try simp only [Act.put, List.setIfInBounds_toArray, List.set_cons_zero, List.set_cons_succ]
        refine Rk.takeP (i := 1) (v := ?_) rfl (by kernel_rfl) (by kernel_rfl) (by kernel_rfl) (by kernel_rfl) (fun _ _ _ h => h) (Or.inl ⟨by kernel_rfl, ?_⟩) (by assumption) ?_
        rotate_left
        · ((intro w hSw; go_simp) <;> with_reducible rfl)
        try simp only [Act.put, List.setIfInBounds_toArray, List.set_cons_zero, List.set_cons_succ]
        refine Rk.takeP (i := 2) (v := ?_) rfl (by kernel_rfl) (by kernel_rfl) (by kernel_rfl) (by kernel_rfl) (fun _ _ _ h => h) (Or.inl ⟨by kernel_rfl, ?_⟩) (by assumption) ?_
        rotate_left
        · ((intro w hSw; go_simp) <;> with_reducible rfl)
        try simp only [Act.put, List.setIfInBounds_toArray, List.set_cons_zero, List.set_cons_succ]
        refine Rk.takeP (i := 3) (v := ?_) rfl (by kernel_rfl) (by kernel_rfl) (by kernel_rfl) (by kernel_rfl) (fun _ _ _ h => h) (Or.inl ⟨by kernel_rfl, ?_⟩) (by assumption) ?_
        rotate_left
        · ((intro w hSw; go_simp) <;> with_reducible rfl)
        try simp only [Act.put, List.setIfInBounds_toArray, List.set_cons_zero, List.set_cons_succ]
        refine Rk.takeP (i := 4) (v := ?_) rfl (by kernel_rfl) (by kernel_rfl) (by kernel_rfl) (by kernel_rfl) (fun _ _ _ h => h) (Or.inl ⟨by kernel_rfl, ?_⟩) (by assumption) ?_
        rotate_left
        · ((intro w hSw; go_simp) <;> with_reducible rfl)
        try simp only [Act.put, List.setIfInBounds_toArray, List.set_cons_zero, List.set_cons_succ]
        refine Rk.takeP (i := 5) (v := ?_) rfl (by kernel_rfl) (by kernel_rfl) (by kernel_rfl) (by kernel_rfl) (fun _ _ _ h => h) (Or.inl ⟨by kernel_rfl, ?_⟩) (by assumption) ?_
        rotate_left
        · ((intro w hSw; go_simp) <;> with_reducible rfl)
        try simp only [Act.put, List.setIfInBounds_toArray, List.set_cons_zero, List.set_cons_succ]
        refine Rk.takeP (i := 6) (v := ?_) rfl (by kernel_rfl) (by kernel_rfl) (by kernel_rfl) (by kernel_rfl) (fun _ _ _ h => h) (Or.inl ⟨by kernel_rfl, ?_⟩) (by assumption) ?_
        rotate_left
        · ((intro w hSw; go_simp) <;> with_reducible rfl)
        try simp only [Act.put, List.setIfInBounds_toArray, List.set_cons_zero, List.set_cons_succ]
        refine Rk.takeP (i := 7) (v := ?_) rfl (by kernel_rfl) (by kernel_rfl) (by kernel_rfl) (by kernel_rfl) (fun _ _ _ h => h) (Or.inl ⟨by kernel_rfl, ?_⟩) (by assumption) ?_
        rotate_left
        · ((intro w hSw; go_simp) <;> with_reducible rfl)
        try simp only [Act.put, List.setIfInBounds_toArray, List.set_cons_zero, List.set_cons_succ]
        refine Rk.takeP (i := 8) (v := ?_) rfl (by kernel_rfl) (by kernel_rfl) (by kernel_rfl) (by kernel_rfl) (fun _ _ _ h => h) (Or.inl ⟨by kernel_rfl, ?_⟩) (by assumption) ?_
        rotate_left
        · ((intro w hSw; go_simp) <;> with_reducible rfl)
        try simp only [Act.put, List.setIfInBounds_toArray, List.set_cons_zero, List.set_cons_succ]
        refine Rk.takeP (i := 9) (v := ?_) rfl (by kernel_rfl) (by kernel_rfl) (by kernel_rfl) (by kernel_rfl) (fun _ _ _ h => h) (Or.inl ⟨by kernel_rfl, ?_⟩) (by assumption) ?_
        rotate_left
        · ((intro w hSw; go_simp) <;> with_reducible rfl)
        try simp only [Act.put, List.setIfInBounds_toArray, List.set_cons_zero, List.set_cons_succ]
        refine Rk.takeP (i := 10) (v := ?_) rfl (by kernel_rfl) (by kernel_rfl) (by kernel_rfl) (by kernel_rfl) (fun _ _ _ h => h) (Or.inl ⟨by kernel_rfl, ?_⟩) (by assumption) ?_
        rotate_left
        · ((intro w hSw; go_simp) <;> with_reducible rfl)
        try simp only [Act.put, List.setIfInBounds_toArray, List.set_cons_zero, List.set_cons_succ]
        refine Rk.takeP (i := 11) (v := ?_) rfl (by kernel_rfl) (by kernel_rfl) (by kernel_rfl) (by kernel_rfl) (fun _ _ _ h => h) (Or.inl ⟨by kernel_rfl, ?_⟩) (by assumption) ?_
        rotate_left
        · ((intro w hSw; go_simp) <;> with_reducible rfl)
        try simp only [Act.put, List.setIfInBounds_toArray, List.set_cons_zero, List.set_cons_succ]
        refine Rk.take [13, 19, 20] (i := 12) (v := ?_) rfl (by kernel_rfl) (by kernel_rfl) (by kernel_rfl) (by kernel_rfl) (by kernel_rfl) (fun _ _ _ h => h) (Or.inl ⟨by kernel_rfl, ?_⟩) (by assumption) ?_
        rotate_left
        · ((intro w hSw; (try dsimp only at hSw); go_simp) <;> with_reducible rfl)
        try simp only [Act.put, List.setIfInBounds_toArray, List.set_cons_zero, List.set_cons_succ]
        refine Rk.takeP (i := 14) (v := ?_) rfl (by kernel_rfl) (by kernel_rfl) (by kernel_rfl) (by kernel_rfl) (fun _ _ _ h => h) (Or.inl ⟨by kernel_rfl, ?_⟩) (by assumption) ?_
        rotate_left
        · ((intro w hSw; go_simp) <;> with_reducible rfl)
        try simp only [Act.put, List.setIfInBounds_toArray, List.set_cons_zero, List.set_cons_succ]
        refine Rk.takeP (i := 15) (v := ?_) rfl (by kernel_rfl) (by kernel_rfl) (by kernel_rfl) (by kernel_rfl) (fun _ _ _ h => h) (Or.inl ⟨by kernel_rfl, ?_⟩) (by assumption) ?_
        rotate_left
        · ((intro w hSw; go_simp) <;> with_reducible rfl)
        try simp only [Act.put, List.setIfInBounds_toArray, List.set_cons_zero, List.set_cons_succ]
        refine Rk.takeP (i := 16) (v := ?_) rfl (by kernel_rfl) (by kernel_rfl) (by kernel_rfl) (by kernel_rfl) (fun _ _ _ h => h) (Or.inl ⟨by kernel_rfl, ?_⟩) (by assumption) ?_
        rotate_left
        · ((intro w hSw; go_simp) <;> with_reducible rfl)
        try simp only [Act.put, List.setIfInBounds_toArray, List.set_cons_zero, List.set_cons_succ]
        refine Rk.take [18, 19, 20] (i := 17) (v := ?_) rfl (by kernel_rfl) (by kernel_rfl) (by kernel_rfl) (by kernel_rfl) (by kernel_rfl) (fun _ _ _ h => h) (Or.inl ⟨by kernel_rfl, ?_⟩) (by assumption) ?_
        rotate_left
        · ((intro w hSw; (try dsimp only at hSw); go_simp) <;> with_reducible rfl)
        try simp only [Act.put, List.setIfInBounds_toArray, List.set_cons_zero, List.set_cons_succ]
        refine Rk.one (i := 13) (by kernel_rfl) rfl (fun KK hK => ?_)
        rw [if_pos (by kernel_rfl)]
        go_simp
        ((with_reducible refine (V1.out _ (Lib.hid (SlM.keep hHeld.2.2.2 HM3.out))).mono ?_); rintro e u ⟨rfl, hb⟩)
        first | (refine hK.out _ _ (fun _ => HS.out _ _ hHeld hb) (fun hHeld => ?_)) | (refine hK.out _ _ (HS.out _ _ hHeld hb) (fun hHeld => ?_)) | (go_wp2_with fail; refine hK.out _ _ (HS.out _ _ hHeld hb) (fun hHeld => ?_))
        clear hK KK
        refine Rk.one (i := 18) (by kernel_rfl) rfl (fun KK hK => ?_)
        rw [if_pos (by kernel_rfl)]
        go_simp
        ((with_reducible refine (V2.out _ (Lib.hid (SlM.keep hHeld.2.2.2 HM3.out))).mono ?_); rintro e u ⟨rfl, hb⟩)
        first | (refine hK.out _ _ (fun _ => HS.out _ _ hHeld hb) (fun hHeld => ?_)) | (refine hK.out _ _ (HS.out _ _ hHeld hb) (fun hHeld => ?_)) | (go_wp2_with fail; refine hK.out _ _ (HS.out _ _ hHeld hb) (fun hHeld => ?_))
        clear hK KK
        refine Rk.takeP (i := 19) (v := ?_) rfl (by kernel_rfl) (by kernel_rfl) (by kernel_rfl) (by kernel_rfl) (fun _ _ _ h => h) (Or.inl ⟨by kernel_rfl, ?_⟩) (by assumption) ?_
        rotate_left
        · ((intro w hSw; go_simp) <;> with_reducible rfl)
        try simp only [Act.put, List.setIfInBounds_toArray, List.set_cons_zero, List.set_cons_succ]
        refine Rk.tail [20] [_] (by kernel_rfl) (by kernel_rfl) rfl (by decide) ?_
        have KU := KB.out.trans (hHeld.2.2.2.mono KB.out.size)
        clear hHeld
        go_wp2_with fail
        go_roundw
        case rel => exact ⟨j + 1, by go_num, by omega, KU⟩
        case measure => simp [intOf]; omega
      · obtain rfl : j = n := by omega
        have HB3 := Lib.hid hB
        have HQ3 := Lib.hid (SlQ.keep hB RA.out)
        have HM3 := Lib.hid (SlM.keep hB RB.out)
        have g1 : (r1 == r1) = true := by simp
        have g2 : (r2 == r2) = true := by simp
        clear hB
        go_wp2_with (first | (go_at_call 26; (with_reducible refine (F1.out _ HQ3 HM3).mono ?_); rintro e w1 ⟨rfl, hb1⟩) | (go_at_call 27; (with_reducible refine (F2.out _ (Lib.hid (SlQ.keep hb1 HQ3.out)) (Lib.hid (SlM.keep hb1 HM3.out))).mono ?_); rintro e w2 ⟨rfl, hb2⟩; have K12 := hb1.trans (hb2.mono hb1.size); have KB := Lib.hid (HB3.out.trans (K12.mono HB3.out.size))) | (go_at_call 21; (with_reducible refine (EX.out _ (Lib.hid fun w' h => hL.out _ (KB.out.trans (h.mono KB.out.size)))).mono ?_); rintro e w9 ⟨rfl, hb9⟩))
        go_ret
        exact ⟨rfl, KB.out.trans (hb9.mono KB.out.size)⟩
end Go.Proofs.YtbicmlkjonaccaaDoor.Ln
