/- Negate, in full. -/
import Derived.Test.YtbicmlkjonaccaaDoorE38
import Derived.Test.YtbicmlkjonaccaaDoorH12
import Derived.Test.YtbicmlkjonaccaaDoorH3
import Derived.Test.YtbicmlkjonaccaaDoorH1
import Derived.Deep.Cut
import Derived.Deep.CutRange

namespace Go.Proofs.YtbicmlkjonaccaaDoor.Ln
open Go.ChangeShapes Go.WideShapes Go.ChangeAt Go.RowKit
open Go.Proofs.YtbicmlkjonaccaaDoor.Nm
set_option linter.unusedVariables false
set_option linter.unusedSimpArgs false
set_option maxRecDepth 8000
theorem Sl_over {u : World} {q : Option Addr} {xs : List Mo} {g : Nat} {n : Int} {a : Option Addr} {m c : Nat} {x y : Value} (h : SlM u q xs) (h0 : u.cell? ⟨g, 0, none⟩ = some (.int .i64 n)) (h1 : u.cell? ⟨g, 1, none⟩ = some (.slice a m c)) : SlM ((u.setCell ⟨g, 0, none⟩ x).setCell ⟨g, 1, none⟩ y) q xs := fun i hi => by
  obtain ⟨b, o, rfl, c0, c1⟩ := h i hi
  refine ⟨b, o, rfl, ?_⟩
  by_cases hb : b = g
  · subst hb
    have n0 : o + i * 2 ≠ 0 := fun e => by rw [e, h0] at c0; cases c0
    have n1 : o + i * 2 ≠ 1 := fun e => by rw [e, h1] at c0; cases c0
    have n2 : o + i * 2 + 1 ≠ 0 := by omega
    have n3 : o + i * 2 + 1 ≠ 1 := by omega
    constructor
    · rw [World.cell?_setCell_other _ _ _ _ (by intro e; injection e with _ e2 _; omega), World.cell?_setCell_other _ _ _ _ (by intro e; injection e with _ e2 _; omega)]; exact c0
    · rw [World.cell?_setCell_other _ _ _ _ (by intro e; injection e with _ e2 _; omega), World.cell?_setCell_other _ _ _ _ (by intro e; injection e with _ e2 _; omega)]; exact c1
  · constructor
    · rw [World.cell?_setCell_far _ _ _ _ (fun e => hb e.symm), World.cell?_setCell_far _ _ _ _ (fun e => hb e.symm)]; exact c0
    · rw [World.cell?_setCell_far _ _ _ _ (fun e => hb e.symm), World.cell?_setCell_far _ _ _ _ (fun e => hb e.symm)]; exact c1
theorem st2 {u : World} {r : Nat} {x y a b : Value} (h0 : u.cell? ⟨r, 0, none⟩ = some a) (h1 : u.cell? ⟨r, 1, none⟩ = some b) :
    ((u.setCell ⟨r, 0, none⟩ x).setCell ⟨r, 1, none⟩ y).cell? ⟨r, 0, none⟩ = some x ∧ ((u.setCell ⟨r, 0, none⟩ x).setCell ⟨r, 1, none⟩ y).cell? ⟨r, 1, none⟩ = some y := by
  have g1 : (u.setCell ⟨r, 0, none⟩ x).cell? ⟨r, 1, none⟩ = some b := (World.cell?_setCell_other _ _ _ _ (by simp)).trans h1
  exact ⟨(World.cell?_setCell_other _ _ _ _ (by simp)).trans (World.cell?_setCell_same _ _ _ h0), World.cell?_setCell_same _ _ _ g1⟩

def ngm (m : Mo) : Mo := (m.1, -m.2)
def nmin (m : Mo) : Bool := !(m.2 == -9223372036854775808)
/-- What Negate answers. -/
def ngR (k : Int) (xs : List Mo) (eq : Bool) : List Qm × Int :=
  if okL xs = false then ([], 1) else if xs.all nmin = false then ([], 3)
  else if eq = false then ([(-1 - k, xs.map ngm, false)], 0)
  else if k = -9223372036854775808 then ([], 3) else ([(k - 1, xs, false), (-1 - k, xs.map ngm, false)], 0)
/-- A list of constraints as a result. -/
def CsW (r : List Qm × Int) (w : World) (e : Ending) (w' : World) : Prop := ∃ p c, e = .returned (.tuple #[.slice p r.1.length c, .int .i64 r.2]) ∧ SlQ w' p r.1 ∧ Below w.heap.size w w'
theorem CsW.nil {er : Int} {w w' : World} (hb : Below w.heap.size w w') : CsW ([], er) w (.returned (.tuple #[.slice none 0 0, .int .i64 er])) w' := ⟨none, 0, rfl, fun i hi => absurd hi (by simp), hb⟩
theorem mo_bd {xs : List Mo} (hb : ∀ i, i < xs.length → (xs.getD i mo0).1.size ≤ maxLen ∧ -9223372036854775808 ≤ (xs.getD i mo0).2 ∧ (xs.getD i mo0).2 ≤ 9223372036854775807) : ∀ m ∈ xs, -9223372036854775808 ≤ m.2 ∧ m.2 ≤ 9223372036854775807 := fun m hm => by
  obtain ⟨j, hj, rfl⟩ := List.getElem_of_mem hm
  have h := hb j hj
  rw [show xs.getD j mo0 = xs[j] by unfold List.getD; rw [List.getElem?_eq_getElem hj]; rfl] at h
  exact h.2
theorem fit_ng {a : Int} (h1 : -9223372036854775808 ≤ a) (h2 : a ≤ 9223372036854775807) : fit64 (a * -1) = !(a == -9223372036854775808) := by
  unfold fit64
  by_cases h : a = -9223372036854775808
  · subst h; decide
  · have e : (a == -9223372036854775808) = false := by simpa using h
    rw [e]
    simp
    omega
theorem scl_ng {xs : List Mo} (hok : okL xs = true) (hb : ∀ m ∈ xs, -9223372036854775808 ≤ m.2 ∧ m.2 ≤ 9223372036854775807) : sclR (-1) 0 xs = if xs.all nmin = true then (0, xs.map ngm, 0) else (0, [], 3) := by
  have hall : (xs.all fun m => fit64 (m.2 * -1)) = xs.all nmin := by
    rw [Bool.eq_iff_iff, List.all_eq_true, List.all_eq_true]
    constructor
    · intro h m hm
      have h1 := h m hm
      rw [fit_ng (hb m hm).1 (hb m hm).2] at h1
      exact h1
    · intro h m hm
      rw [fit_ng (hb m hm).1 (hb m hm).2]
      exact h m hm
  unfold sclR
  rw [if_neg (by rw [hok]; decide), if_neg (by decide)]
  unfold sclF
  rw [show fit64 (0 * -1) = true by decide, Bool.true_and, hall]
  by_cases h : xs.all nmin = true
  · rw [if_pos h, if_pos h]
    have e2 : sclV (-1) xs = xs.map ngm := by
      unfold sclV
      apply List.map_congr_left
      intro m hm
      have h1 := List.all_eq_true.1 h m hm
      have h2 := hb m hm
      unfold nmin at h1
      have h3 : m.2 ≠ -9223372036854775808 := by simpa using h1
      have : wrap64 (m.2 * -1) = -m.2 := by unfold wrap64; omega
      rw [this]; rfl
    rw [e2, show wrap64 (0 * -1) = 0 by decide +kernel]
  · rw [if_neg h, if_neg h]
theorem flt_ok {xs : List Mo} (hok : okL xs = true) (hb : ∀ m ∈ xs, -9223372036854775808 ≤ m.2 ∧ m.2 ≤ 9223372036854775807) : flt xs = xs := by
  unfold flt
  have e1 : (xs.map fun m => (m.1, wrap64 m.2)) = xs := by
    conv => rhs; rw [← List.map_id xs]
    apply List.map_congr_left
    intro m hm
    have h2 := hb m hm
    have : wrap64 m.2 = m.2 := by unfold wrap64; omega
    rw [this]; rfl
  rw [e1, List.filter_eq_self]
  intro m hm
  have h := ((okL_iff.1 hok).2 m hm).2
  simpa using h
theorem add_m1 {k : Int} {xs : List Mo} (k1 : -9223372036854775808 ≤ k) (k2 : k ≤ 9223372036854775807) (hok : okL xs = true) (hb : ∀ m ∈ xs, -9223372036854775808 ≤ m.2 ∧ m.2 ≤ 9223372036854775807) : adR k xs (-1) [] = if k = -9223372036854775808 then (0, [], 3) else (k - 1, xs, 0) := by
  unfold adR
  have h0 : okL [] = true := rfl
  rw [if_neg (by rw [hok, h0]; decide), mg_nil]
  unfold adF
  have hall : (xs.all fun m => fit64 m.2) = true := List.all_eq_true.2 fun m hm => fit_yes.2 (hb m hm)
  rw [hall, Bool.and_true]
  by_cases h : k = -9223372036854775808
  · subst h
    rw [if_pos rfl, if_neg (by decide)]
  · rw [if_neg h, if_pos (fit_yes.2 (by omega)), flt_ok hok hb]
    have : wrap64 (k + -1) = k - 1 := by unfold wrap64; omega
    rw [this]
theorem slq1 {w : World} {g : Nat} {q : Option Addr} {K : Int} {ys : List Mo} {d : Nat} {eq : Bool} (h0 : w.cell? ⟨g, 0, none⟩ = some (.int .i64 K)) (h1 : w.cell? ⟨g, 1, none⟩ = some (.slice q ys.length d)) (h2 : w.cell? ⟨g, 2, none⟩ = some (.bool eq)) (hs : SlM w q ys) : SlQ w (some ⟨g, 0, none⟩) [(K, ys, eq)] := fun i hi => by
  rcases i with _ | i
  · exact ⟨g, 0, q, d, rfl, h0, h1, h2, hs⟩
  · exact absurd (show i + 1 < 1 from hi) (by omega)
theorem slq2 {w : World} {g : Nat} {q q' : Option Addr} {K K' : Int} {ys ys' : List Mo} {d d' : Nat} {eq eq' : Bool} (h0 : w.cell? ⟨g, 0, none⟩ = some (.int .i64 K)) (h1 : w.cell? ⟨g, 1, none⟩ = some (.slice q ys.length d)) (h2 : w.cell? ⟨g, 2, none⟩ = some (.bool eq)) (hs : SlM w q ys)
    (g0 : w.cell? ⟨g, 3, none⟩ = some (.int .i64 K')) (g1 : w.cell? ⟨g, 4, none⟩ = some (.slice q' ys'.length d')) (g2 : w.cell? ⟨g, 5, none⟩ = some (.bool eq')) (gs : SlM w q' ys') : SlQ w (some ⟨g, 0, none⟩) [(K, ys, eq), (K', ys', eq')] := fun i hi => by
  rcases i with _ | _ | i
  · exact ⟨g, 0, q, d, rfl, h0, h1, h2, hs⟩
  · exact ⟨g, 0, q', d', rfl, g0, g1, g2, gs⟩
  · exact absurd (show i + 2 < 2 from hi) (by omega)

set_option maxHeartbeats 4000000 in
theorem neg_bad (k : Int) (p : Option Addr) (xs : List Mo) (c : Nat) (eq : Bool) (w : World) (hn : xs.length ≤ 1000) (hc : xs.length ≤ c) (RA : Hid (SlM w p xs)) (RS : Hid (∀ i, i < xs.length → (xs.getD i mo0).1.size ≤ maxLen ∧ -9223372036854775808 ≤ (xs.getD i mo0).2 ∧ (xs.getD i mo0).2 ≤ 9223372036854775807)) (k1 : -9223372036854775808 ≤ k) (k2 : k ≤ 9223372036854775807) (hok : okL xs = false) : Calls Tryd.prog 31 #[Cv k p xs.length c eq] w (CsW ([], 1) w) := by
  have VL := Lib.hid fun w h => cval1 k p xs c eq w (by unfold maxLen; omega) h (Lib.hid fun i hi => (RS.out i hi).1)
  have B0 : Below w.heap.size w (w.alloc (Obj.cells #[Value.int .i64 k, Value.slice p xs.length c, Value.bool eq] 36)) := (Below.refl _ _).alloc (Nat.le_refl _) _
  have RA2 := Lib.hid (SlM.keep B0 RA.out)
  have hv : vL xs = 1 := by unfold vL; rw [hok]; rfl
  rw [hv] at VL
  unfold Cv at *
  clear hok hv RS hc
  go_enter Tryd.func31, Tryd.ntmps31
  go_wp2_with (first | (go_at_call 24; (with_reducible refine (VL.out _ RA2).mono ?_); rintro e w1 ⟨rfl, hb1⟩; have hc1 := (Rg.bcell hb1).1; have hf1 := (Rg.bcell hb1).2; have z1_0 : w.heap.size < w1.heap.size := (by have hzz := hb1.size; (try simp at hzz); omega); have K1 : Below w.heap.size w w1 := Below.trans (b := _) (by (repeat' (first | (with_reducible exact Below.refl _ _) | (with_reducible refine Below.alloc ?_ ?_ _) | (with_reducible refine Below.setCell ?_ ?_ _) | (with_reducible refine below_drewN ?_ _) | (simp; done) | omega | (simp; omega)))) (hb1.mono (by have hzz := hb1.size; (try simp at hzz); first | omega | (simp; done) | (simp; omega)))))
  go_ret2
  exact CsW.nil K1
set_option maxHeartbeats 4000000 in
theorem neg_min (k : Int) (p : Option Addr) (xs : List Mo) (c : Nat) (eq : Bool) (w : World) (hn : xs.length ≤ 1000) (hc : xs.length ≤ c) (RA : Hid (SlM w p xs)) (RS : Hid (∀ i, i < xs.length → (xs.getD i mo0).1.size ≤ maxLen ∧ -9223372036854775808 ≤ (xs.getD i mo0).2 ∧ (xs.getD i mo0).2 ≤ 9223372036854775807)) (k1 : -9223372036854775808 ≤ k) (k2 : k ≤ 9223372036854775807) (hok : okL xs = true) (hm : xs.all nmin = false) : Calls Tryd.prog 31 #[Cv k p xs.length c eq] w (CsW ([], 3) w) := by
  have VL := Lib.hid fun w h => cval1 k p xs c eq w (by unfold maxLen; omega) h (Lib.hid fun i hi => (RS.out i hi).1)
  have B0 : Below w.heap.size w (w.alloc (Obj.cells #[Value.int .i64 k, Value.slice p xs.length c, Value.bool eq] 36)) := (Below.refl _ _).alloc (Nat.le_refl _) _
  have RA2 := Lib.hid (SlM.keep B0 RA.out)
  have hv : vL xs = 0 := by unfold vL; rw [hok]; rfl
  rw [hv] at VL
  have SC := Lib.hid fun w h => scale1 0 p xs c (-1) w hn h RS (by decide) (by decide) (by decide) (by decide)
  rw [scl_ng hok (mo_bd RS.out), if_neg (by rw [hm]; decide)] at SC
  unfold Cv Lv at *
  dsimp only at SC
  clear hok hv RS hm hc
  go_enter Tryd.func31, Tryd.ntmps31
  go_wp2_with (first | (go_at_call 24; (with_reducible refine (VL.out _ RA2).mono ?_); rintro e w1 ⟨rfl, hb1⟩; have hc1 := (Rg.bcell hb1).1; have hf1 := (Rg.bcell hb1).2; have z1_0 : w.heap.size < w1.heap.size := (by have hzz := hb1.size; (try simp at hzz); omega); have K1 : Below w.heap.size w w1 := Below.trans (b := _) (by (repeat' (first | (with_reducible exact Below.refl _ _) | (with_reducible refine Below.alloc ?_ ?_ _) | (with_reducible refine Below.setCell ?_ ?_ _) | (with_reducible refine below_drewN ?_ _) | (simp; done) | omega | (simp; omega)))) (hb1.mono (by have hzz := hb1.size; (try simp at hzz); first | omega | (simp; done) | (simp; omega)))) | (go_at_call 61; (with_reducible refine (SC.out _ (Lib.hid (SlM.keep K1 RA.out))).mono ?_); rintro e w2 ⟨p2, c2, rfl, S2, hb2⟩; unfold Lv; (try dsimp only [List.length_nil]); have a0 : w1.cell? ⟨w.heap.size, 0, none⟩ = some (.int .i64 k) := (hc1 _ _ (by simp)).trans (by go_cell); have a1 : w1.cell? ⟨w.heap.size, 1, none⟩ = some (.slice p xs.length c) := (hc1 _ _ (by simp)).trans (by go_cell); have a2 : w1.cell? ⟨w.heap.size, 2, none⟩ = some (.bool eq) := (hc1 _ _ (by simp)).trans (by go_cell); have d0 := Rg.keep hb2 z1_0 a0; have d1 := Rg.keep hb2 z1_0 a1; have d2 := Rg.keep hb2 z1_0 a2; have K2 : Below w.heap.size w w2 := K1.trans (hb2.mono K1.size); have l2 : w.heap.size < w2.heap.size := World.block_lt_of_cell? _ _ d0))
  go_ret2
  exact CsW.nil (K2.alloc K2.size _)
set_option maxRecDepth 100000 in
set_option maxHeartbeats 8000000 in
theorem neg_eq (k : Int) (p : Option Addr) (xs : List Mo) (c : Nat) (w : World) (hn : xs.length ≤ 1000) (hc : xs.length ≤ c) (RA : Hid (SlM w p xs)) (RS : Hid (∀ i, i < xs.length → (xs.getD i mo0).1.size ≤ maxLen ∧ -9223372036854775808 ≤ (xs.getD i mo0).2 ∧ (xs.getD i mo0).2 ≤ 9223372036854775807)) (k1 : -9223372036854775808 ≤ k) (k2 : k ≤ 9223372036854775807) (hok : okL xs = true) (hm : xs.all nmin = true) : Calls Tryd.prog 31 #[Cv k p xs.length c true] w (CsW (if k = -9223372036854775808 then ([], 3) else ([(k - 1, xs, false), (-1 - k, xs.map ngm, false)], 0)) w) := by
  have VL := Lib.hid fun w h => cval1 k p xs c true w (by unfold maxLen; omega) h (Lib.hid fun i hi => (RS.out i hi).1)
  have B0 : Below w.heap.size w (w.alloc (Obj.cells #[Value.int .i64 k, Value.slice p xs.length c, Value.bool true] 36)) := (Below.refl _ _).alloc (Nat.le_refl _) _
  have RA2 := Lib.hid (SlM.keep B0 RA.out)
  have hv : vL xs = 0 := by unfold vL; rw [hok]; rfl
  rw [hv] at VL
  have SC := Lib.hid fun w h => scale1 0 p xs c (-1) w hn h RS (by decide) (by decide) (by decide) (by decide)
  rw [scl_ng hok (mo_bd RS.out), if_pos hm] at SC
  have AD := Lib.hid fun w h => add1c k p xs c (-1) none [] 0 w hn (by simp) hc (by simp) h (Lib.hid (fun i hi => absurd hi (by simp))) RS (Lib.hid (fun i hi => absurd hi (by simp))) k1 k2 (by decide) (by decide)
  have CN := Lib.hid fun w => const1 (-1) w
  have hres := add_m1 k1 k2 hok (mo_bd RS.out)
  obtain ⟨R9, hR9⟩ : ∃ R9, adR k xs (-1) [] = R9 := ⟨_, rfl⟩
  rw [hR9] at AD hres
  obtain ⟨K9, ys9, er9⟩ := R9
  have HRES := Lib.hid hres
  obtain ⟨ys, hys⟩ : ∃ ys, xs.map ngm = ys := ⟨_, rfl⟩
  rw [hys] at SC ⊢
  have hw : IntKind.i64.wrap (-1 - k) = -1 - k := by rw [IntKind.wrap_i64]; omega
  have hw2 : wrap64 (-1 - k) = -1 - k := by unfold wrap64; omega
  obtain ⟨RES, hRES⟩ : ∃ RES : List Qm × Int, (if k = -9223372036854775808 then ([], 3) else ([(k - 1, xs, false), (-1 - k, ys, false)], 0)) = RES := ⟨_, rfl⟩
  rw [hRES]
  have HR2 := Lib.hid hRES
  unfold LRd at AD
  unfold Cv Lv at *
  dsimp only [List.length_nil] at SC AD
  clear hok hv RS hm hc B0 hres hR9 hys hRES
  go_enter Tryd.func31, Tryd.ntmps31
  go_upto_region 10 with (first | (go_at_call 24; (with_reducible refine (VL.out _ RA2).mono ?_); rintro e w1 ⟨rfl, hb1⟩; have hc1 := (Rg.bcell hb1).1; have hf1 := (Rg.bcell hb1).2; have z1_0 : w.heap.size < w1.heap.size := (by have hzz := hb1.size; (try simp at hzz); omega); have K1 : Below w.heap.size w w1 := Below.trans (b := _) (by (repeat' (first | (with_reducible exact Below.refl _ _) | (with_reducible refine Below.alloc ?_ ?_ _) | (with_reducible refine Below.setCell ?_ ?_ _) | (with_reducible refine below_drewN ?_ _) | (simp; done) | omega | (simp; omega)))) (hb1.mono (by have hzz := hb1.size; (try simp at hzz); first | omega | (simp; done) | (simp; omega)))) | (go_at_call 61; (with_reducible refine (SC.out _ (Lib.hid (SlM.keep K1 RA.out))).mono ?_); rintro e w2 ⟨p2, c2, rfl, S2, hb2⟩; unfold Lv; (try dsimp only [List.length_nil]); have a0 : w1.cell? ⟨w.heap.size, 0, none⟩ = some (.int .i64 k) := (hc1 _ _ (by simp)).trans (by go_cell); have a1 : w1.cell? ⟨w.heap.size, 1, none⟩ = some (.slice p xs.length c) := (hc1 _ _ (by simp)).trans (by go_cell); have a2 : w1.cell? ⟨w.heap.size, 2, none⟩ = some (.bool true) := (hc1 _ _ (by simp)).trans (by go_cell); have d0 := Rg.keep hb2 z1_0 a0; have d1 := Rg.keep hb2 z1_0 a1; have d2 := Rg.keep hb2 z1_0 a2; have K2 : Below w.heap.size w w2 := K1.trans (hb2.mono K1.size); have l2 : w.heap.size < w2.heap.size := World.block_lt_of_cell? _ _ d0))
  have hb5 : Below w2.heap.size w2 (w2.alloc (Obj.cells #[Value.int .i64 (-1 - k), Value.slice p2 ys.length c2] 24)) := (Below.refl _ _).alloc (Nat.le_refl _) _
  have f0 := Rg.keep hb5 l2 d0
  have f1 := Rg.keep hb5 l2 d1
  have f2 := Rg.keep hb5 l2 d2
  have f3 : (w2.alloc (Obj.cells #[Value.int .i64 (-1 - k), Value.slice p2 ys.length c2] 24)).cell? ⟨w2.heap.size, 0, none⟩ = some (.int .i64 (-1 - k)) := by go_cell
  have f4 : (w2.alloc (Obj.cells #[Value.int .i64 (-1 - k), Value.slice p2 ys.length c2] 24)).cell? ⟨w2.heap.size, 1, none⟩ = some (.slice p2 ys.length c2) := by go_cell
  have l6 : w2.heap.size < (w2.alloc (Obj.cells #[Value.int .i64 (-1 - k), Value.slice p2 ys.length c2] 24)).heap.size := by simp
  have l5 : w.heap.size < (w2.alloc (Obj.cells #[Value.int .i64 (-1 - k), Value.slice p2 ys.length c2] 24)).heap.size := by simp; omega
  have RW := Lib.hid (SlM.keep K2 RA.out)
  have HS2 := Lib.hid S2
  have HK2 := Lib.hid K2
  clear a0 a1 a2 d0 d1 d2 S2 K2 K1 hc1 hf1 hb1 hb2 z1_0 VL SC RA2
  generalize (w2.alloc (Obj.cells #[Value.int .i64 (-1 - k), Value.slice p2 ys.length c2] 24)) = z5 at *
  go_cut [6, 7] from 35 to 41 (fun e6 p7 wx => ∃ (g7 : Nat) (q2 : Option Addr) (d9 : Nat), p7 = .pointer (some ⟨g7, 0, none⟩) ∧ e6 = .int .i64 er9 ∧ Below w2.heap.size w2 wx ∧ wx.cell? ⟨g7, 0, none⟩ = some (.int .i64 K9) ∧ wx.cell? ⟨g7, 1, none⟩ = some (.slice q2 ys9.length d9) ∧ Hid (SlM wx q2 ys9) ∧ wx.cell? ⟨w2.heap.size, 0, none⟩ = some (.int .i64 (-1 - k)) ∧ wx.cell? ⟨w2.heap.size, 1, none⟩ = some (.slice p2 ys.length c2))
  case first =>
    have hz10 := And.intro f0 (And.intro f1 (And.intro f2 (And.intro f3 (And.intro f4 hb5))))
    clear f0 f1 f2 f3 f4
    have HS : Hid (∀ u u' : World, (u.cell? ⟨w.heap.size, 0, none⟩ = some (.int .i64 k) ∧ u.cell? ⟨w.heap.size, 1, none⟩ = some (.slice p xs.length c) ∧ u.cell? ⟨w.heap.size, 2, none⟩ = some (.bool true) ∧ u.cell? ⟨w2.heap.size, 0, none⟩ = some (.int .i64 (-1 - k)) ∧ u.cell? ⟨w2.heap.size, 1, none⟩ = some (.slice p2 ys.length c2) ∧ Below w2.heap.size w2 u) → Below u.heap.size u u' → (u'.cell? ⟨w.heap.size, 0, none⟩ = some (.int .i64 k) ∧ u'.cell? ⟨w.heap.size, 1, none⟩ = some (.slice p xs.length c) ∧ u'.cell? ⟨w.heap.size, 2, none⟩ = some (.bool true) ∧ u'.cell? ⟨w2.heap.size, 0, none⟩ = some (.int .i64 (-1 - k)) ∧ u'.cell? ⟨w2.heap.size, 1, none⟩ = some (.slice p2 ys.length c2) ∧ Below w2.heap.size w2 u')) := Lib.hid (fun u u' h hb => ⟨Rg.keep hb (World.block_lt_of_cell? _ _ h.1) h.1, Rg.keep hb (World.block_lt_of_cell? _ _ h.2.1) h.2.1, Rg.keep hb (World.block_lt_of_cell? _ _ h.2.2.1) h.2.2.1, Rg.keep hb (World.block_lt_of_cell? _ _ h.2.2.2.1) h.2.2.2.1, Rg.keep hb (World.block_lt_of_cell? _ _ h.2.2.2.2.1) h.2.2.2.2.1, h.2.2.2.2.2.trans (hb.mono h.2.2.2.2.2.size)⟩)
    refine Rk.begin (S := fun wS => wS.cell? ⟨w.heap.size, 0, none⟩ = some (.int .i64 k) ∧ wS.cell? ⟨w.heap.size, 1, none⟩ = some (.slice p xs.length c) ∧ wS.cell? ⟨w.heap.size, 2, none⟩ = some (.bool true) ∧ wS.cell? ⟨w2.heap.size, 0, none⟩ = some (.int .i64 (-1 - k)) ∧ wS.cell? ⟨w2.heap.size, 1, none⟩ = some (.slice p2 ys.length c2) ∧ Below w2.heap.size w2 wS) 8 (by kernel_rfl) (HS.out _ _ hz10 (Below.drew (Below.refl _ _))) (fun hHeld => ?_)
    refine Rk.takeP (i := 0) (v := ?_) rfl (by kernel_rfl) (by kernel_rfl) (by kernel_rfl) (by kernel_rfl) (fun _ _ _ h => h) (Or.inl ⟨by kernel_rfl, ?_⟩) (by assumption) ?_
    rotate_left
    · ((intro w hSw; go_simp) <;> with_reducible rfl)
    try simp only [Act.put, List.setIfInBounds_toArray, List.set_cons_zero, List.set_cons_succ]
    refine Rk.take [8] (i := 1) (v := ?_) rfl (by kernel_rfl) (by kernel_rfl) (by kernel_rfl) (by kernel_rfl) (by kernel_rfl) (fun _ _ _ h => h) (Or.inl ⟨by kernel_rfl, ?_⟩) (by assumption) ?_
    rotate_left
    · ((intro w hSw; (try dsimp only at hSw); go_simp) <;> with_reducible rfl)
    try simp only [Act.put, List.setIfInBounds_toArray, List.set_cons_zero, List.set_cons_succ]
    refine Rk.two (i := 2) (j := 7) (by kernel_rfl) rfl rfl (fun KK hK => ?_) (fun KK hK => ?_)
    · rw [if_pos (by kernel_rfl)]
      go_simp
      ((with_reducible refine (CN.out _).mono ?_); rintro e uw2 ⟨rfl, hb⟩)
      have hNew := HS.out _ _ hHeld hb
      have hs_uw2 : z5.heap.size ≤ uw2.heap.size := by have hzz := hb.size; (try simp at hzz); omega
      first | (refine hK.out _ _ (fun _ => hNew) (fun _ => ?_)) | (refine hK.out _ _ hNew (fun _ => ?_)) | (go_wp2_with fail; refine hK.out _ _ hNew (fun _ => ?_))
      replace hHeld := hNew
      clear hNew hb
      clear hK KK
      refine Rk.two (i := 3) (j := 7) (by kernel_rfl) rfl rfl (fun KK hK => ?_) (fun KK hK => ?_)
      · rw [if_pos (by kernel_rfl)]
        go_simp
        ((with_reducible refine (AD.out _ (Lib.hid (SlM.keep (hHeld.2.2.2.2.2) RW.out))).mono ?_); rintro e uw3 ⟨q2, d9, rfl, _, S2, hb⟩)
        have hNew := HS.out _ _ hHeld hb
        have hs_uw3 : z5.heap.size ≤ uw3.heap.size := by have hzz := hb.size; (try simp at hzz); omega
        first | (refine hK.out _ _ (fun _ => hNew) (fun _ => ?_)) | (refine hK.out _ _ hNew (fun _ => ?_)) | (go_wp2_with fail; refine hK.out _ _ hNew (fun _ => ?_))
        replace hHeld := hNew
        clear hNew hb
        clear hK KK
        refine Rk.takeP (i := 4) (v := ?_) rfl (by kernel_rfl) (by kernel_rfl) (by kernel_rfl) (by kernel_rfl) (fun _ _ _ h => h) (Or.inl ⟨by kernel_rfl, ?_⟩) (by assumption) ?_
        rotate_left
        · ((intro w hSw; go_simp) <;> with_reducible rfl)
        try simp only [Act.put, List.setIfInBounds_toArray, List.set_cons_zero, List.set_cons_succ]
        refine Rk.takeP (i := 5) (v := ?_) rfl (by kernel_rfl) (by kernel_rfl) (by kernel_rfl) (by kernel_rfl) (fun _ _ _ h => h) (Or.inl ⟨by kernel_rfl, ?_⟩) (by assumption) ?_
        rotate_left
        · ((intro w hSw; go_simp) <;> with_reducible rfl)
        try simp only [Act.put, List.setIfInBounds_toArray, List.set_cons_zero, List.set_cons_succ]
        refine Rk.takeP (i := 6) (v := ?_) rfl (by kernel_rfl) (by kernel_rfl) (by kernel_rfl) (by kernel_rfl) (fun _ _ _ h => h) (Or.inl ⟨by kernel_rfl, ?_⟩) (by assumption) ?_
        rotate_left
        · ((intro w hSw; go_simp) <;> with_reducible rfl)
        try simp only [Act.put, List.setIfInBounds_toArray, List.set_cons_zero, List.set_cons_succ]
        refine Rk.one (i := 7) (by kernel_rfl) rfl (fun KK hK => ?_)
        rw [if_pos (by kernel_rfl)]
        go_simp
        replace S2 := SlM.keep ((Below.refl _ _).alloc (Nat.le_refl _) (Obj.cells #[Value.int .i64 0, Value.slice none 0 0] 24)) S2
        have hNew := HS.out _ _ hHeld ((Below.refl _ _).alloc (Nat.le_refl _) (Obj.cells #[Value.int .i64 0, Value.slice none 0 0] 24))
        refine hK.out _ _ hNew (fun _ => ?_)
        replace hHeld := hNew
        clear hNew
        clear hK KK
        refine Rk.tail [8, 9] [_, _] (by kernel_rfl) (by kernel_rfl) rfl (by decide) ?_
        obtain ⟨f0, f1, f2, f3, f4, KF⟩ := hHeld
        have m0 : (uw3.alloc (Obj.cells #[Value.int .i64 0, Value.slice none 0 0] 24)).cell? ⟨uw3.heap.size, 0, none⟩ = some (.int .i64 0) := by go_cell
        have fm0 : (uw3.alloc (Obj.cells #[Value.int .i64 0, Value.slice none 0 0] 24)).frozen? ⟨uw3.heap.size, 0, none⟩ = false := by simp only [frozen?_alloc_cells]; exact Rg.notFrozen (Nat.le_refl _)
        have m1 : (uw3.alloc (Obj.cells #[Value.int .i64 0, Value.slice none 0 0] 24)).cell? ⟨uw3.heap.size, 1, none⟩ = some (.slice none 0 0) := by go_cell
        have fm1 : (uw3.alloc (Obj.cells #[Value.int .i64 0, Value.slice none 0 0] 24)).frozen? ⟨uw3.heap.size, 1, none⟩ = false := by simp only [frozen?_alloc_cells]; exact Rg.notFrozen (Nat.le_refl _)
        generalize (uw3.alloc (Obj.cells #[Value.int .i64 0, Value.slice none 0 0] 24)) = gw at *
        have lm : uw3.heap.size < gw.heap.size := World.block_lt_of_cell? _ _ m0
        have lw : w2.heap.size ≤ uw3.heap.size := by omega
        have ne0 : uw3.heap.size ≠ w.heap.size := by omega
        have ne1 : uw3.heap.size ≠ w2.heap.size := by omega
        have lo0 : w.heap.size < gw.heap.size := by omega
        have lo1 : w2.heap.size < gw.heap.size := by omega
        have S3 := Sl_over (x := .int .i64 K9) (y := .slice q2 ys9.length d9) S2 m0 m1
        go_wp2_with fail
        have f0 : ((gw.setCell ⟨uw3.heap.size, 0, none⟩ (.int .i64 K9)).setCell ⟨uw3.heap.size, 1, none⟩ (.slice q2 ys9.length d9)).cell? ⟨w.heap.size, 0, none⟩ = some (.int .i64 k) := Rg.far ne0 f0
        have f1 : ((gw.setCell ⟨uw3.heap.size, 0, none⟩ (.int .i64 K9)).setCell ⟨uw3.heap.size, 1, none⟩ (.slice q2 ys9.length d9)).cell? ⟨w.heap.size, 1, none⟩ = some (.slice p xs.length c) := Rg.far ne0 f1
        have f2 : ((gw.setCell ⟨uw3.heap.size, 0, none⟩ (.int .i64 K9)).setCell ⟨uw3.heap.size, 1, none⟩ (.slice q2 ys9.length d9)).cell? ⟨w.heap.size, 2, none⟩ = some (.bool true) := Rg.far ne0 f2
        have f3 : ((gw.setCell ⟨uw3.heap.size, 0, none⟩ (.int .i64 K9)).setCell ⟨uw3.heap.size, 1, none⟩ (.slice q2 ys9.length d9)).cell? ⟨w2.heap.size, 0, none⟩ = some (.int .i64 (-1 - k)) := Rg.far ne1 f3
        have f4 : ((gw.setCell ⟨uw3.heap.size, 0, none⟩ (.int .i64 K9)).setCell ⟨uw3.heap.size, 1, none⟩ (.slice q2 ys9.length d9)).cell? ⟨w2.heap.size, 1, none⟩ = some (.slice p2 ys.length c2) := Rg.far ne1 f4
        have hst := st2 (x := .int .i64 K9) (y := .slice q2 ys9.length d9) m0 m1
        obtain ⟨s0, s1⟩ := hst
        have KS : Below w2.heap.size w2 ((gw.setCell ⟨uw3.heap.size, 0, none⟩ (.int .i64 K9)).setCell ⟨uw3.heap.size, 1, none⟩ (.slice q2 ys9.length d9)) := (Below.setCell (Below.setCell KF (by dsimp only; omega) _) (by dsimp only; omega) _)
        have lm : uw3.heap.size < ((gw.setCell ⟨uw3.heap.size, 0, none⟩ (.int .i64 K9)).setCell ⟨uw3.heap.size, 1, none⟩ (.slice q2 ys9.length d9)).heap.size := World.block_lt_of_cell? _ _ s0
        have lo0 : w.heap.size < ((gw.setCell ⟨uw3.heap.size, 0, none⟩ (.int .i64 K9)).setCell ⟨uw3.heap.size, 1, none⟩ (.slice q2 ys9.length d9)).heap.size := by simp; omega
        have lo1 : w2.heap.size < ((gw.setCell ⟨uw3.heap.size, 0, none⟩ (.int .i64 K9)).setCell ⟨uw3.heap.size, 1, none⟩ (.slice q2 ys9.length d9)).heap.size := by simp; omega
        clear KF m0 fm0 m1 fm1
        generalize ((gw.setCell ⟨uw3.heap.size, 0, none⟩ (.int .i64 K9)).setCell ⟨uw3.heap.size, 1, none⟩ (.slice q2 ys9.length d9)) = gs at *
        go_meet
        exact ⟨uw3.heap.size, q2, d9, rfl, rfl, KS, s0, s1, Lib.hid S3, f3, f4⟩
      · rw [if_pos (by kernel_rfl)]
        go_simp
        have hNew := HS.out _ _ hHeld ((Below.refl _ _).alloc (Nat.le_refl _) (Obj.cells #[Value.int .i64 0, Value.slice none 0 0] 24))
        refine hK.out _ _ hNew (fun _ => ?_)
        replace hHeld := hNew
        clear hNew
        clear hK KK
        refine Rk.one (i := 3) (by kernel_rfl) rfl (fun KK hK => ?_)
        rw [if_pos (by kernel_rfl)]
        go_simp
        ((with_reducible refine (AD.out _ (Lib.hid (SlM.keep (hHeld.2.2.2.2.2) RW.out))).mono ?_); rintro e uw3 ⟨q2, d9, rfl, _, S2, hb⟩)
        have hNew := HS.out _ _ hHeld hb
        have hs_uw3 : z5.heap.size ≤ uw3.heap.size := by have hzz := hb.size; (try simp at hzz); omega
        have m0 : uw3.cell? ⟨uw2.heap.size, 0, none⟩ = some (.int .i64 0) := Rg.keep hb (by simp) (by go_cell)
        have fm0 : uw3.frozen? ⟨uw2.heap.size, 0, none⟩ = false := Rg.keepF hb (by simp) (by show (uw2.alloc (Obj.cells #[Value.int .i64 0, Value.slice none 0 0] 24)).frozen? ⟨uw2.heap.size, 0, none⟩ = false; simp only [frozen?_alloc_cells]; exact Rg.notFrozen (Nat.le_refl _))
        have m1 : uw3.cell? ⟨uw2.heap.size, 1, none⟩ = some (.slice none 0 0) := Rg.keep hb (by simp) (by go_cell)
        have fm1 : uw3.frozen? ⟨uw2.heap.size, 1, none⟩ = false := Rg.keepF hb (by simp) (by show (uw2.alloc (Obj.cells #[Value.int .i64 0, Value.slice none 0 0] 24)).frozen? ⟨uw2.heap.size, 1, none⟩ = false; simp only [frozen?_alloc_cells]; exact Rg.notFrozen (Nat.le_refl _))
        first | (refine hK.out _ _ (fun _ => hNew) (fun _ => ?_)) | (refine hK.out _ _ hNew (fun _ => ?_)) | (go_wp2_with fail; refine hK.out _ _ hNew (fun _ => ?_))
        replace hHeld := hNew
        clear hNew hb
        clear hK KK
        refine Rk.takeP (i := 4) (v := ?_) rfl (by kernel_rfl) (by kernel_rfl) (by kernel_rfl) (by kernel_rfl) (fun _ _ _ h => h) (Or.inl ⟨by kernel_rfl, ?_⟩) (by assumption) ?_
        rotate_left
        · ((intro w hSw; go_simp) <;> with_reducible rfl)
        try simp only [Act.put, List.setIfInBounds_toArray, List.set_cons_zero, List.set_cons_succ]
        refine Rk.takeP (i := 5) (v := ?_) rfl (by kernel_rfl) (by kernel_rfl) (by kernel_rfl) (by kernel_rfl) (fun _ _ _ h => h) (Or.inl ⟨by kernel_rfl, ?_⟩) (by assumption) ?_
        rotate_left
        · ((intro w hSw; go_simp) <;> with_reducible rfl)
        try simp only [Act.put, List.setIfInBounds_toArray, List.set_cons_zero, List.set_cons_succ]
        refine Rk.takeP (i := 6) (v := ?_) rfl (by kernel_rfl) (by kernel_rfl) (by kernel_rfl) (by kernel_rfl) (fun _ _ _ h => h) (Or.inl ⟨by kernel_rfl, ?_⟩) (by assumption) ?_
        rotate_left
        · ((intro w hSw; go_simp) <;> with_reducible rfl)
        try simp only [Act.put, List.setIfInBounds_toArray, List.set_cons_zero, List.set_cons_succ]
        refine Rk.tail [8, 9] [_, _] (by kernel_rfl) (by kernel_rfl) rfl (by decide) ?_
        obtain ⟨f0, f1, f2, f3, f4, KF⟩ := hHeld
        have lm : uw2.heap.size < uw3.heap.size := World.block_lt_of_cell? _ _ m0
        have lw : w2.heap.size ≤ uw2.heap.size := by omega
        have ne0 : uw2.heap.size ≠ w.heap.size := by omega
        have ne1 : uw2.heap.size ≠ w2.heap.size := by omega
        have lo0 : w.heap.size < uw3.heap.size := by omega
        have lo1 : w2.heap.size < uw3.heap.size := by omega
        have S3 := Sl_over (x := .int .i64 K9) (y := .slice q2 ys9.length d9) S2 m0 m1
        go_wp2_with fail
        have f0 : ((uw3.setCell ⟨uw2.heap.size, 0, none⟩ (.int .i64 K9)).setCell ⟨uw2.heap.size, 1, none⟩ (.slice q2 ys9.length d9)).cell? ⟨w.heap.size, 0, none⟩ = some (.int .i64 k) := Rg.far ne0 f0
        have f1 : ((uw3.setCell ⟨uw2.heap.size, 0, none⟩ (.int .i64 K9)).setCell ⟨uw2.heap.size, 1, none⟩ (.slice q2 ys9.length d9)).cell? ⟨w.heap.size, 1, none⟩ = some (.slice p xs.length c) := Rg.far ne0 f1
        have f2 : ((uw3.setCell ⟨uw2.heap.size, 0, none⟩ (.int .i64 K9)).setCell ⟨uw2.heap.size, 1, none⟩ (.slice q2 ys9.length d9)).cell? ⟨w.heap.size, 2, none⟩ = some (.bool true) := Rg.far ne0 f2
        have f3 : ((uw3.setCell ⟨uw2.heap.size, 0, none⟩ (.int .i64 K9)).setCell ⟨uw2.heap.size, 1, none⟩ (.slice q2 ys9.length d9)).cell? ⟨w2.heap.size, 0, none⟩ = some (.int .i64 (-1 - k)) := Rg.far ne1 f3
        have f4 : ((uw3.setCell ⟨uw2.heap.size, 0, none⟩ (.int .i64 K9)).setCell ⟨uw2.heap.size, 1, none⟩ (.slice q2 ys9.length d9)).cell? ⟨w2.heap.size, 1, none⟩ = some (.slice p2 ys.length c2) := Rg.far ne1 f4
        have hst := st2 (x := .int .i64 K9) (y := .slice q2 ys9.length d9) m0 m1
        obtain ⟨s0, s1⟩ := hst
        have KS : Below w2.heap.size w2 ((uw3.setCell ⟨uw2.heap.size, 0, none⟩ (.int .i64 K9)).setCell ⟨uw2.heap.size, 1, none⟩ (.slice q2 ys9.length d9)) := (Below.setCell (Below.setCell KF (by dsimp only; omega) _) (by dsimp only; omega) _)
        have lm : uw2.heap.size < ((uw3.setCell ⟨uw2.heap.size, 0, none⟩ (.int .i64 K9)).setCell ⟨uw2.heap.size, 1, none⟩ (.slice q2 ys9.length d9)).heap.size := World.block_lt_of_cell? _ _ s0
        have lo0 : w.heap.size < ((uw3.setCell ⟨uw2.heap.size, 0, none⟩ (.int .i64 K9)).setCell ⟨uw2.heap.size, 1, none⟩ (.slice q2 ys9.length d9)).heap.size := by simp; omega
        have lo1 : w2.heap.size < ((uw3.setCell ⟨uw2.heap.size, 0, none⟩ (.int .i64 K9)).setCell ⟨uw2.heap.size, 1, none⟩ (.slice q2 ys9.length d9)).heap.size := by simp; omega
        clear KF m0 fm0 m1 fm1
        generalize ((uw3.setCell ⟨uw2.heap.size, 0, none⟩ (.int .i64 K9)).setCell ⟨uw2.heap.size, 1, none⟩ (.slice q2 ys9.length d9)) = gs at *
        go_meet
        exact ⟨uw2.heap.size, q2, d9, rfl, rfl, KS, s0, s1, Lib.hid S3, f3, f4⟩
    · rw [if_pos (by kernel_rfl)]
      go_simp
      have hNew := HS.out _ _ hHeld ((Below.refl _ _).alloc (Nat.le_refl _) (Obj.cells #[Value.int .i64 0, Value.slice none 0 0] 24))
      refine hK.out _ _ hNew (fun _ => ?_)
      replace hHeld := hNew
      clear hNew
      clear hK KK
      refine Rk.one (i := 2) (by kernel_rfl) rfl (fun KK hK => ?_)
      rw [if_pos (by kernel_rfl)]
      go_simp
      ((with_reducible refine (CN.out _).mono ?_); rintro e uw2 ⟨rfl, hb⟩)
      have hNew := HS.out _ _ hHeld hb
      have hs_uw2 : z5.heap.size ≤ uw2.heap.size := by have hzz := hb.size; (try simp at hzz); omega
      have m0 : uw2.cell? ⟨z5.heap.size, 0, none⟩ = some (.int .i64 0) := Rg.keep hb (by simp) (by go_cell)
      have fm0 : uw2.frozen? ⟨z5.heap.size, 0, none⟩ = false := Rg.keepF hb (by simp) (by show (z5.drew.alloc (Obj.cells #[Value.int .i64 0, Value.slice none 0 0] 24)).frozen? ⟨z5.drew.heap.size, 0, none⟩ = false; simp only [frozen?_alloc_cells]; exact Rg.notFrozen (Nat.le_refl _))
      have m1 : uw2.cell? ⟨z5.heap.size, 1, none⟩ = some (.slice none 0 0) := Rg.keep hb (by simp) (by go_cell)
      have fm1 : uw2.frozen? ⟨z5.heap.size, 1, none⟩ = false := Rg.keepF hb (by simp) (by show (z5.drew.alloc (Obj.cells #[Value.int .i64 0, Value.slice none 0 0] 24)).frozen? ⟨z5.drew.heap.size, 1, none⟩ = false; simp only [frozen?_alloc_cells]; exact Rg.notFrozen (Nat.le_refl _))
      first | (refine hK.out _ _ (fun _ => hNew) (fun _ => ?_)) | (refine hK.out _ _ hNew (fun _ => ?_)) | (go_wp2_with fail; refine hK.out _ _ hNew (fun _ => ?_))
      replace hHeld := hNew
      clear hNew hb
      clear hK KK
      refine Rk.one (i := 3) (by kernel_rfl) rfl (fun KK hK => ?_)
      rw [if_pos (by kernel_rfl)]
      go_simp
      ((with_reducible refine (AD.out _ (Lib.hid (SlM.keep (hHeld.2.2.2.2.2) RW.out))).mono ?_); rintro e uw3 ⟨q2, d9, rfl, _, S2, hb⟩)
      have hNew := HS.out _ _ hHeld hb
      have hs_uw3 : z5.heap.size ≤ uw3.heap.size := by have hzz := hb.size; (try simp at hzz); omega
      have lm : z5.heap.size < uw2.heap.size := World.block_lt_of_cell? _ _ m0
      have fm0 := Rg.keepF hb lm fm0
      have fm1 := Rg.keepF hb lm fm1
      have m0 := Rg.keep hb lm m0
      have m1 := Rg.keep hb lm m1
      clear lm
      first | (refine hK.out _ _ (fun _ => hNew) (fun _ => ?_)) | (refine hK.out _ _ hNew (fun _ => ?_)) | (go_wp2_with fail; refine hK.out _ _ hNew (fun _ => ?_))
      replace hHeld := hNew
      clear hNew hb
      clear hK KK
      refine Rk.takeP (i := 4) (v := ?_) rfl (by kernel_rfl) (by kernel_rfl) (by kernel_rfl) (by kernel_rfl) (fun _ _ _ h => h) (Or.inl ⟨by kernel_rfl, ?_⟩) (by assumption) ?_
      rotate_left
      · ((intro w hSw; go_simp) <;> with_reducible rfl)
      try simp only [Act.put, List.setIfInBounds_toArray, List.set_cons_zero, List.set_cons_succ]
      refine Rk.takeP (i := 5) (v := ?_) rfl (by kernel_rfl) (by kernel_rfl) (by kernel_rfl) (by kernel_rfl) (fun _ _ _ h => h) (Or.inl ⟨by kernel_rfl, ?_⟩) (by assumption) ?_
      rotate_left
      · ((intro w hSw; go_simp) <;> with_reducible rfl)
      try simp only [Act.put, List.setIfInBounds_toArray, List.set_cons_zero, List.set_cons_succ]
      refine Rk.takeP (i := 6) (v := ?_) rfl (by kernel_rfl) (by kernel_rfl) (by kernel_rfl) (by kernel_rfl) (fun _ _ _ h => h) (Or.inl ⟨by kernel_rfl, ?_⟩) (by assumption) ?_
      rotate_left
      · ((intro w hSw; go_simp) <;> with_reducible rfl)
      try simp only [Act.put, List.setIfInBounds_toArray, List.set_cons_zero, List.set_cons_succ]
      refine Rk.tail [8, 9] [_, _] (by kernel_rfl) (by kernel_rfl) rfl (by decide) ?_
      obtain ⟨f0, f1, f2, f3, f4, KF⟩ := hHeld
      have lm : z5.heap.size < uw3.heap.size := World.block_lt_of_cell? _ _ m0
      have lw : w2.heap.size ≤ z5.heap.size := by omega
      have ne0 : z5.heap.size ≠ w.heap.size := by omega
      have ne1 : z5.heap.size ≠ w2.heap.size := by omega
      have lo0 : w.heap.size < uw3.heap.size := by omega
      have lo1 : w2.heap.size < uw3.heap.size := by omega
      have S3 := Sl_over (x := .int .i64 K9) (y := .slice q2 ys9.length d9) S2 m0 m1
      go_wp2_with fail
      have f0 : ((uw3.setCell ⟨z5.heap.size, 0, none⟩ (.int .i64 K9)).setCell ⟨z5.heap.size, 1, none⟩ (.slice q2 ys9.length d9)).cell? ⟨w.heap.size, 0, none⟩ = some (.int .i64 k) := Rg.far ne0 f0
      have f1 : ((uw3.setCell ⟨z5.heap.size, 0, none⟩ (.int .i64 K9)).setCell ⟨z5.heap.size, 1, none⟩ (.slice q2 ys9.length d9)).cell? ⟨w.heap.size, 1, none⟩ = some (.slice p xs.length c) := Rg.far ne0 f1
      have f2 : ((uw3.setCell ⟨z5.heap.size, 0, none⟩ (.int .i64 K9)).setCell ⟨z5.heap.size, 1, none⟩ (.slice q2 ys9.length d9)).cell? ⟨w.heap.size, 2, none⟩ = some (.bool true) := Rg.far ne0 f2
      have f3 : ((uw3.setCell ⟨z5.heap.size, 0, none⟩ (.int .i64 K9)).setCell ⟨z5.heap.size, 1, none⟩ (.slice q2 ys9.length d9)).cell? ⟨w2.heap.size, 0, none⟩ = some (.int .i64 (-1 - k)) := Rg.far ne1 f3
      have f4 : ((uw3.setCell ⟨z5.heap.size, 0, none⟩ (.int .i64 K9)).setCell ⟨z5.heap.size, 1, none⟩ (.slice q2 ys9.length d9)).cell? ⟨w2.heap.size, 1, none⟩ = some (.slice p2 ys.length c2) := Rg.far ne1 f4
      have hst := st2 (x := .int .i64 K9) (y := .slice q2 ys9.length d9) m0 m1
      obtain ⟨s0, s1⟩ := hst
      have KS : Below w2.heap.size w2 ((uw3.setCell ⟨z5.heap.size, 0, none⟩ (.int .i64 K9)).setCell ⟨z5.heap.size, 1, none⟩ (.slice q2 ys9.length d9)) := (Below.setCell (Below.setCell KF (by dsimp only; omega) _) (by dsimp only; omega) _)
      have lm : z5.heap.size < ((uw3.setCell ⟨z5.heap.size, 0, none⟩ (.int .i64 K9)).setCell ⟨z5.heap.size, 1, none⟩ (.slice q2 ys9.length d9)).heap.size := World.block_lt_of_cell? _ _ s0
      have lo0 : w.heap.size < ((uw3.setCell ⟨z5.heap.size, 0, none⟩ (.int .i64 K9)).setCell ⟨z5.heap.size, 1, none⟩ (.slice q2 ys9.length d9)).heap.size := by simp; omega
      have lo1 : w2.heap.size < ((uw3.setCell ⟨z5.heap.size, 0, none⟩ (.int .i64 K9)).setCell ⟨z5.heap.size, 1, none⟩ (.slice q2 ys9.length d9)).heap.size := by simp; omega
      clear KF m0 fm0 m1 fm1
      generalize ((uw3.setCell ⟨z5.heap.size, 0, none⟩ (.int .i64 K9)).setCell ⟨z5.heap.size, 1, none⟩ (.slice q2 ys9.length d9)) = gs at *
      go_meet
      exact ⟨z5.heap.size, q2, d9, rfl, rfl, KS, s0, s1, Lib.hid S3, f3, f4⟩
  case rest =>
    obtain ⟨g7, q2, d9, rfl, rfl, KB, s0, s1, HS3, f3', f4'⟩ := hcut
    have KW := HK2.out.trans (KB.mono HK2.out.size)
    have l7 : w2.heap.size < wc.heap.size := World.block_lt_of_cell? _ _ f3'
    have l8 : g7 < wc.heap.size := World.block_lt_of_cell? _ _ s0
    have SP := Lib.hid (SlM.keep KB HS2.out)
    have hres := HRES.out
    have hr2 := HR2.out
    clear hb5 f0 f1 f2 f3 f4 l5 l6 AD CN HRES HR2
    by_cases hk : k = -9223372036854775808
    · rw [if_pos hk] at hres hr2
      cases hres
      subst hr2
      clear hk
      go_wp2
      go_ret2
      exact CsW.nil KW
    · rw [if_neg hk] at hres hr2
      cases hres
      subst hr2
      clear hk
      go_wp2
      go_ret2
      refine ⟨some ⟨wc.heap.size, 0, none⟩, 2, rfl, slq2 (q := q2) (q' := p2) (d := d9) (d' := c2) (by go_cell) (by go_cell) (by go_cell) ?_ (by go_cell) (by go_cell) (by go_cell) ?_, KW.alloc KW.size _⟩
      · exact SlM.keep ((Below.refl _ _).alloc (Nat.le_refl _) _) HS3.out
      · exact SlM.keep ((Below.refl _ _).alloc (Nat.le_refl _) _) SP.out
theorem neg1 (k : Int) (p : Option Addr) (xs : List Mo) (c : Nat) (eq : Bool) (w : World) (hn : xs.length ≤ 1000) (hc : xs.length ≤ c) (RA : Hid (SlM w p xs)) (RS : Hid (∀ i, i < xs.length → (xs.getD i mo0).1.size ≤ maxLen ∧ -9223372036854775808 ≤ (xs.getD i mo0).2 ∧ (xs.getD i mo0).2 ≤ 9223372036854775807)) (k1 : -9223372036854775808 ≤ k) (k2 : k ≤ 9223372036854775807) : Calls Tryd.prog 31 #[Cv k p xs.length c eq] w (CsW (ngR k xs eq) w) := by
  unfold ngR
  cases hok : okL xs
  · rw [if_pos rfl]
    exact neg_bad k p xs c eq w hn hc RA RS k1 k2 hok
  · rw [if_neg (by decide)]
    cases hm : xs.all nmin
    · rw [if_pos rfl]
      exact neg_min k p xs c eq w hn hc RA RS k1 k2 hok hm
    · rw [if_neg (by decide)]
      cases eq
      · rw [if_pos rfl]
        refine (neg_ge k p xs c w hn RA RS k1 k2 hok (xs.map ngm) 0 (by rw [scl_ng hok (mo_bd RS.out), if_pos hm])).mono ?_
        rintro e w' ⟨g, q, d, rfl, h0, h1, h2, hs, hb⟩
        exact ⟨some ⟨g, 0, none⟩, 1, rfl, slq1 h0 h1 h2 hs, hb⟩
      · rw [if_neg (by decide)]
        exact neg_eq k p xs c w hn hc RA RS k1 k2 hok hm
end Go.Proofs.YtbicmlkjonaccaaDoor.Ln
