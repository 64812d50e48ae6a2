/- FirstViolated of both. -/
import Derived.Test.YtbicmlkjonaccaaDoorH30
import Derived.Test.YtbicmlkjonaccaaDoorH3
import Derived.Test.YtbicmlkjonaccaaDoorE39

namespace Go.Proofs.YtbicmlkjonaccaaDoor.Ln
open Go.ChangeShapes Go.WideShapes Go.ChangeAt Go.RowKit
open Go.Proofs.YtbicmlkjonaccaaDoor.Nm
set_option linter.unusedVariables false
set_option linter.unusedSimpArgs false
set_option maxRecDepth 8000

/-- What the tests know of a constraint that stands in memory. -/
def okQ (f : Qm) : Prop := f.2.1.length ≤ 1000 ∧ (-9223372036854775808 ≤ f.1 ∧ f.1 ≤ 9223372036854775807) ∧ ∀ i, i < f.2.1.length → (f.2.1.getD i mo0).1.size ≤ maxLen ∧ -9223372036854775808 ≤ (f.2.1.getD i mo0).2 ∧ (f.2.1.getD i mo0).2 ≤ 9223372036854775807
theorem SlQ.keep {w w' : World} {p : Option Addr} {l : List Qm} (hb : Below w.heap.size w w') (h : SlQ w p l) : SlQ w' p l := fun i hi => by
  obtain ⟨b, o, q, c, hp, c0, c1, c2, hS⟩ := h i hi
  have lb : b < w.heap.size := World.block_lt_of_cell? _ _ c0
  exact ⟨b, o, q, c, hp, Rg.keep hb lb c0, Rg.keep hb lb c1, Rg.keep hb lb c2, SlM.keep hb hS⟩
def vioE (r : Bool × Int) : Int := if r.2 = 0 ∧ r.1 = false then -1 else r.2
def hq (es : List Mo) (f : Qm) : Bool × Int := hvF f.1 f.2.1 f.2.2 es
/-- The first error of the closure. -/
def feF (es : List Mo) : List Qm → Int × Int
  | [] => (0, 0)
  | a :: r => if vioE (hq es a) ≠ 0 then (0, vioE (hq es a)) else ((feF es r).1 + 1, (feF es r).2)
/-- The index of the first constraint that does not hold, and the error. -/
def fvF (es : List Mo) : List Qm → Int × Int
  | [] => (0, 0)
  | a :: r => if (hq es a).2 ≠ 0 ∨ (hq es a).1 = false then (0, (hq es a).2) else ((fvF es r).1 + 1, (fvF es r).2)
theorem hq_er (es : List Mo) (f : Qm) : (hq es f).2 = 0 ∨ (hq es f).2 = 1 ∨ (hq es f).2 = 9 ∨ (hq es f).2 = 3 := evF_er _ _ _
theorem vio_zero {es : List Mo} {f : Qm} : vioE (hq es f) = 0 ↔ ¬ ((hq es f).2 ≠ 0 ∨ (hq es f).1 = false) := by
  have h := hq_er es f
  unfold vioE
  split
  · rename_i hc
    simp [hc]
  · rename_i hc
    constructor
    · intro h0 h1
      rcases h1 with h1 | h1
      · exact h1 h0
      · exact hc ⟨h0, h1⟩
    · intro h1
      exact Classical.byContradiction fun h2 => h1 (.inl h2)
theorem fv_fe (es : List Mo) : ∀ l, fvF es l = if (feF es l).2 = -1 then ((feF es l).1, 0) else feF es l
  | [] => by simp [fvF, feF]
  | a :: r => by
    have ih := fv_fe es r
    have he := hq_er es a
    by_cases h : vioE (hq es a) = 0
    · have e2 : feF es (a :: r) = ((feF es r).1 + 1, (feF es r).2) := by
        show (if _ then _ else _) = _
        rw [if_neg (by simpa using h)]
      have e1 : fvF es (a :: r) = ((fvF es r).1 + 1, (fvF es r).2) := by
        show (if _ then _ else _) = _
        rw [if_neg (vio_zero.1 h)]
      rw [e1, e2, ih]
      by_cases h2 : (feF es r).2 = -1
      · simp [h2]
      · simp [h2]
    · have h2 : (hq es a).2 ≠ 0 ∨ (hq es a).1 = false := Classical.byContradiction fun h3 => h (vio_zero.2 h3)
      have e2 : feF es (a :: r) = (0, vioE (hq es a)) := by
        show (if _ then _ else _) = _
        rw [if_pos h]
      have e1 : fvF es (a :: r) = (0, (hq es a).2) := by
        show (if _ then _ else _) = _
        rw [if_pos h2]
      rw [e1, e2]
      dsimp only
      unfold vioE
      by_cases hc : (hq es a).2 = 0 ∧ (hq es a).1 = false
      · rw [if_pos hc, if_pos rfl, hc.1]
      · rw [if_neg hc, if_neg (by rcases he with h | h | h | h <;> rw [h] <;> decide)]
theorem fe_step {es : List Mo} {l : List Qm} {j : Nat} (h : j < l.length) : feF es (l.drop j) = if vioE (hq es (l.getD j q0m)) ≠ 0 then (0, vioE (hq es (l.getD j q0m))) else ((feF es (l.drop (j + 1))).1 + 1, (feF es (l.drop (j + 1))).2) := by
  rw [List.drop_eq_getElem_cons h]
  have e1 : l.getD j q0m = l[j] := by unfold List.getD; rw [List.getElem?_eq_getElem h]; rfl
  rw [e1]
  rfl
theorem fv_step {es : List Mo} {l : List Qm} {j : Nat} (h : j < l.length) : fvF es (l.drop j) = if (hq es (l.getD j q0m)).2 ≠ 0 ∨ (hq es (l.getD j q0m)).1 = false then (0, (hq es (l.getD j q0m)).2) else ((fvF es (l.drop (j + 1))).1 + 1, (fvF es (l.drop (j + 1))).2) := by
  rw [List.drop_eq_getElem_cons h]
  have e1 : l.getD j q0m = l[j] := by unfold List.getD; rw [List.getElem?_eq_getElem h]; rfl
  rw [e1]
  rfl
set_option maxHeartbeats 4000000 in
theorem vclo (k : Int) (p : Option Addr) (xs : List Mo) (c : Nat) (eq : Bool) (q : Option Addr) (es : List Mo) (d : Nat) (ge : Nat) (w : World) (hn : xs.length ≤ 1000) (hm : es.length ≤ maxLen) (RA : Hid (SlM w p xs)) (RB : Hid (SlM w q es)) (RS : Hid (∀ i, i < xs.length → (xs.getD i mo0).1.size ≤ maxLen ∧ -9223372036854775808 ≤ (xs.getD i mo0).2 ∧ (xs.getD i mo0).2 ≤ 9223372036854775807)) (RT : Hid (∀ i, i < es.length → (es.getD i mo0).1.size ≤ maxLen ∧ -9223372036854775808 ≤ (es.getD i mo0).2 ∧ (es.getD i mo0).2 ≤ 9223372036854775807)) (k1 : -9223372036854775808 ≤ k) (k2 : k ≤ 9223372036854775807) (hg : w.cell? ⟨ge, 0, none⟩ = some (.slice q es.length d)) :
    Calls Tryd.prog 57 #[Cv k p xs.length c eq, .pointer (some ⟨ge, 0, none⟩)] w fun e w' => e = .returned (.int .i64 (vioE (hvF k xs eq es))) ∧ Below w.heap.size w w' := by
  have HC := Lib.hid fun w h1 h2 => holds1 k p xs c eq q es d w hn hm h1 h2 RS RT k1 k2
  have B0 : Below w.heap.size w (w.alloc (Obj.cells #[Value.int .i64 k, Value.slice p xs.length c, Value.bool eq] 36)) := (Below.refl _ _).alloc (Nat.le_refl _) _
  have RA2 := Lib.hid (SlM.keep B0 RA.out)
  have RB2 := Lib.hid (SlM.keep B0 RB.out)
  have f0 := Rg.keep B0 (World.block_lt_of_cell? _ _ hg) hg
  generalize hvF k xs eq es = r at *
  obtain ⟨v, er⟩ := r
  dsimp only at HC
  unfold vioE
  unfold Cv at *
  by_cases h0 : er = 0
  · subst h0
    cases v
    · rw [if_pos ⟨rfl, rfl⟩]
      go_enter Tryd.func57, Tryd.ntmps57
      go_wp2_with (first | (go_at_call 22; (with_reducible refine (HC.out _ RA2 RB2).mono ?_); rintro e w1 ⟨rfl, hb1⟩; have hc1 := (Rg.bcell hb1).1; have hf1 := (Rg.bcell hb1).2; have z1_0 : w.heap.size < w1.heap.size := (by have hzz := hb1.size; (try simp at hzz); omega); have K1 : Below w.heap.size w w1 := Below.trans (b := _) (by (repeat' (first | (with_reducible exact Below.refl _ _) | (with_reducible refine Below.alloc ?_ ?_ _) | (with_reducible refine Below.setCell ?_ ?_ _) | (with_reducible refine below_drewN ?_ _) | (simp; done) | omega | (simp; omega)))) (hb1.mono (by have hzz := hb1.size; (try simp at hzz); first | omega | (simp; done) | (simp; omega)))))
      go_ret
      exact ⟨rfl, K1⟩
    · rw [if_neg (fun h => by cases h.2)]
      go_enter Tryd.func57, Tryd.ntmps57
      go_wp2_with (first | (go_at_call 22; (with_reducible refine (HC.out _ RA2 RB2).mono ?_); rintro e w1 ⟨rfl, hb1⟩; have hc1 := (Rg.bcell hb1).1; have hf1 := (Rg.bcell hb1).2; have z1_0 : w.heap.size < w1.heap.size := (by have hzz := hb1.size; (try simp at hzz); omega); have K1 : Below w.heap.size w w1 := Below.trans (b := _) (by (repeat' (first | (with_reducible exact Below.refl _ _) | (with_reducible refine Below.alloc ?_ ?_ _) | (with_reducible refine Below.setCell ?_ ?_ _) | (with_reducible refine below_drewN ?_ _) | (simp; done) | omega | (simp; omega)))) (hb1.mono (by have hzz := hb1.size; (try simp at hzz); first | omega | (simp; done) | (simp; omega)))))
      go_ret
      exact ⟨rfl, K1⟩
  · have g0 : (er == 0) = false := by simpa using h0
    rw [if_neg (fun h => h0 h.1)]
    clear h0
    go_enter Tryd.func57, Tryd.ntmps57
    go_wp2_with (first | (go_at_call 22; (with_reducible refine (HC.out _ RA2 RB2).mono ?_); rintro e w1 ⟨rfl, hb1⟩; have hc1 := (Rg.bcell hb1).1; have hf1 := (Rg.bcell hb1).2; have z1_0 : w.heap.size < w1.heap.size := (by have hzz := hb1.size; (try simp at hzz); omega); have K1 : Below w.heap.size w w1 := Below.trans (b := _) (by (repeat' (first | (with_reducible exact Below.refl _ _) | (with_reducible refine Below.alloc ?_ ?_ _) | (with_reducible refine Below.setCell ?_ ?_ _) | (with_reducible refine below_drewN ?_ _) | (simp; done) | omega | (simp; omega)))) (hb1.mono (by have hzz := hb1.size; (try simp at hzz); first | omega | (simp; done) | (simp; omega)))))
    go_ret
    exact ⟨rfl, K1⟩
set_option maxRecDepth 100000 in
set_option maxHeartbeats 4000000 in
theorem fe1 (p : Option Addr) (l : List Qm) (c : Nat) (q : Option Addr) (es : List Mo) (d : Nat) (ge : Nat) (w : World) (hn : l.length ≤ 1000) (hm : es.length ≤ maxLen) (RA : Hid (SlQ w p l)) (RB : Hid (SlM w q es)) (RT : Hid (∀ i, i < es.length → (es.getD i mo0).1.size ≤ maxLen ∧ -9223372036854775808 ≤ (es.getD i mo0).2 ∧ (es.getD i mo0).2 ≤ 9223372036854775807)) (QK : Hid (∀ f ∈ l, okQ f)) (hg : w.cell? ⟨ge, 0, none⟩ = some (.slice q es.length d)) :
    Calls Tryd.prog 56 #[.slice p l.length c, .func (.func 57) #[] #[.pointer (some ⟨ge, 0, none⟩)]] w fun e w' => e = .returned (.tuple #[.int .i64 (feF es l).1, .int .i64 (feF es l).2]) ∧ Below w.heap.size w w' := by
  obtain ⟨n, hnn⟩ : ∃ n, l.length = n := ⟨_, rfl⟩
  have HN := Lib.hid hnn
  have HG := Lib.hid hg
  obtain ⟨R, hR⟩ : ∃ R, feF es l = R := ⟨_, rfl⟩
  have HR := Lib.hid hR
  rw [hnn] at hn ⊢
  rw [hR]
  clear hnn hg hR
  obtain ⟨r1, r2⟩ := R
  go_enter Tryd.func56, Tryd.ntmps56
  go_wp2_with fail
  go_loopw [11] (fun i wr => ∃ (j : Nat), i = .int .i64 j ∧ j ≤ n ∧ Below w.heap.size w wr ∧ Hid (feF es l = ((feF es (l.drop j)).1 + j, (feF es (l.drop j)).2))) (fun i _ => n - (intOf i).toNat)
  case atStart => exact ⟨0, rfl, Nat.zero_le _, Below.refl _ _, Lib.hid (by simp)⟩
  case round =>
    obtain ⟨j, rfl, hj, hB, HI⟩ := hrel
    have jj : (0 : Int) ≤ j := by omega
    by_cases hlt : j < n
    · obtain ⟨b, o, qa, da, rfl, c0, c1, c2, hM⟩ := RA.out j (by rw [HN.out]; exact hlt)
      have j2 : (j : Int) < n := by omega
      have hbw : b < w.heap.size := World.block_lt_of_cell? _ _ c0
      replace c0 := Rg.keep hB hbw c0
      replace c1 := Rg.keep hB hbw c1
      replace c2 := Rg.keep hB hbw c2
      have hbr : b < wr.heap.size := World.block_lt_of_cell? _ _ c0
      have hM2 := Lib.hid (SlM.keep hB hM)
      have HB2 := Lib.hid (SlM.keep hB RB.out)
      have hok := QK.out _ (qget (l := l) (i := j) (by rw [HN.out]; exact hlt))
      have hst := fe_step (es := es) (l := l) (j := j) (by rw [HN.out]; exact hlt)
      unfold hq at hst
      obtain ⟨f, hf⟩ : ∃ f, l.getD j q0m = f := ⟨_, rfl⟩
      rw [hf] at c0 c1 c2 hM hM2 hok hst
      obtain ⟨k, xs, eq⟩ := f
      dsimp only at c0 c1 c2 hM hM2 hok hst
      obtain ⟨o1, o2, o3⟩ := hok
      have BA := (Below.refl wr.heap.size wr).alloc (Nat.le_refl _) (Obj.cells #[Value.int .i64 k, Value.slice qa xs.length da, Value.bool eq] 36)
      have hB3 := hB.alloc hB.size (Obj.cells #[Value.int .i64 k, Value.slice qa xs.length da, Value.bool eq] 36)
      have CC := Lib.hid (vclo k qa xs da eq q es d ge _ o1 hm (Lib.hid (SlM.keep BA hM2.out)) (Lib.hid (SlM.keep BA HB2.out)) (Lib.hid o3) RT o2.1 o2.2 (Rg.keep hB3 (World.block_lt_of_cell? _ _ HG.out) HG.out))
      obtain ⟨v, hv⟩ : ∃ v, vioE (hvF k xs eq es) = v := ⟨_, rfl⟩
      rw [hv] at CC hst
      unfold Cv at CC
      clear hM hf BA hv o1 o2 o3
      by_cases h0 : v = 0
      · subst h0
        rw [if_neg (by simp)] at hst
        have HI2 : Hid (feF es l = ((feF es (l.drop (j + 1))).1 + ((j + 1 : Nat) : Int), (feF es (l.drop (j + 1))).2)) := Lib.hid (by rw [HI.out, hst]; simp; omega)
        have HB3 := Lib.hid hB3
        clear hst HI hB3
        go_wp2_with (go_at_call 57; (with_reducible refine CC.out.mono ?_); rintro e w1 ⟨rfl, hb⟩; have HB4 := HB3.out.trans (hb.mono HB3.out.size))
        go_roundw
        case rel => exact ⟨j + 1, by go_num, by omega, HB4, HI2⟩
        case measure => simp [intOf]; omega
      · have g0 : (v == 0) = false := by simpa using h0
        have g1 : (v != 0) = true := by simpa using h0
        rw [if_pos h0] at hst
        have HE := Lib.hid (show (r1, r2) = ((j : Int), v) by rw [← HR.out, HI.out, hst]; simp)
        have HB3 := Lib.hid hB3
        clear hst HI hB3 h0
        go_wp2_with (go_at_call 57; (with_reducible refine CC.out.mono ?_); rintro e w1 ⟨rfl, hb⟩; have HB4 := Lib.hid (HB3.out.trans (hb.mono HB3.out.size)))
        have h9 := HE.out
        cases h9
        refine bodyPost_ret (v := .tuple #[.int .i64 j, .int .i64 r2]) (by simp [results, Tryd.results56, go_sem]) rfl ⟨rfl, HB4.out⟩
    · obtain rfl : j = n := by omega
      have HE := Lib.hid (show (r1, r2) = ((j : Int), 0) by rw [← HR.out, HI.out, List.drop_of_length_le (by rw [HN.out]; exact Nat.le_refl _)]; simp [feF])
      have HB4 := Lib.hid hB
      clear HI hB
      go_wp2
      have h9 := HE.out
      cases h9
      refine bodyPost_ret (v := .tuple #[.int .i64 j, .int .i64 0]) (by simp [results, Tryd.results56, go_sem]) rfl ⟨rfl, HB4.out⟩
set_option maxHeartbeats 4000000 in
theorem fv1 (p : Option Addr) (l : List Qm) (c : Nat) (q : Option Addr) (es : List Mo) (d : Nat) (w : World) (hn : l.length ≤ 1000) (hm : es.length ≤ maxLen) (RA : Hid (SlQ w p l)) (RB : Hid (SlM w q es)) (RT : Hid (∀ i, i < es.length → (es.getD i mo0).1.size ≤ maxLen ∧ -9223372036854775808 ≤ (es.getD i mo0).2 ∧ (es.getD i mo0).2 ≤ 9223372036854775807)) (QK : Hid (∀ f ∈ l, okQ f)) :
    Calls Tryd.prog 26 #[.slice p l.length c, .slice q es.length d] w fun e w' => e = .returned (.tuple #[.int .i64 (fvF es l).1, .int .i64 (fvF es l).2]) ∧ Below w.heap.size w w' := by
  have B0 : Below w.heap.size w (w.alloc (Obj.cells #[Value.slice q es.length d] 31)) := (Below.refl _ _).alloc (Nat.le_refl _) _
  have FE := Lib.hid (fe1 p l c q es d w.heap.size (w.alloc (Obj.cells #[Value.slice q es.length d] 31)) hn hm (Lib.hid (SlQ.keep B0 RA.out)) (Lib.hid (SlM.keep B0 RB.out)) RT QK (by go_cell))
  rw [fv_fe]
  generalize feF es l = r at *
  obtain ⟨x, er⟩ := r
  dsimp only at FE ⊢
  by_cases h0 : er = -1
  · subst h0
    rw [if_pos rfl]
    go_enter Tryd.func26, Tryd.ntmps26
    go_wp2_with (go_at_call 56; (with_reducible refine FE.out.mono ?_); rintro e w1 ⟨rfl, hb⟩; have HB4 := Lib.hid (B0.trans (hb.mono B0.size)))
    refine bodyPost_ret (v := .tuple #[.int .i64 x, .int .i64 0]) (by simp [results, Tryd.results26, go_sem]) rfl ⟨rfl, HB4.out⟩
  · have g0 : (er == -1) = false := by simpa using h0
    rw [if_neg h0]
    clear h0
    go_enter Tryd.func26, Tryd.ntmps26
    go_wp2_with (go_at_call 56; (with_reducible refine FE.out.mono ?_); rintro e w1 ⟨rfl, hb⟩; have HB4 := Lib.hid (B0.trans (hb.mono B0.size)))
    refine bodyPost_ret (v := .tuple #[.int .i64 x, .int .i64 er]) (by simp [results, Tryd.results26, go_sem]) rfl ⟨rfl, HB4.out⟩
set_option maxRecDepth 100000 in
set_option maxHeartbeats 4000000 in
theorem fv2 (p : Option Addr) (l : List Qm) (c : Nat) (q : Option Addr) (es : List Mo) (d : Nat) (w : World) (hn : l.length ≤ 1000) (hm : es.length ≤ maxLen) (RA : Hid (SlQ w p l)) (RB : Hid (SlM w q es)) (RT : Hid (∀ i, i < es.length → (es.getD i mo0).1.size ≤ maxLen ∧ -9223372036854775808 ≤ (es.getD i mo0).2 ∧ (es.getD i mo0).2 ≤ 9223372036854775807)) (QK : Hid (∀ f ∈ l, okQ f)) :
    Calls Tryd.prog 27 #[.slice p l.length c, .slice q es.length d] w fun e w' => e = .returned (.tuple #[.int .i64 (fvF es l).1, .int .i64 (fvF es l).2]) ∧ Below w.heap.size w w' := by
  obtain ⟨n, hnn⟩ : ∃ n, l.length = n := ⟨_, rfl⟩
  have HN := Lib.hid hnn
  obtain ⟨R, hR⟩ : ∃ R, fvF es l = R := ⟨_, rfl⟩
  have HR := Lib.hid hR
  rw [hnn] at hn ⊢
  rw [hR]
  clear hnn hR
  obtain ⟨r1, r2⟩ := R
  go_enter Tryd.func27, Tryd.ntmps27
  go_wp2_with fail
  go_loopw [6] (fun i wr => ∃ (j : Nat), i = .int .i64 j ∧ j ≤ n ∧ Below w.heap.size w wr ∧ Hid (fvF es l = ((fvF es (l.drop j)).1 + j, (fvF es (l.drop j)).2))) (fun i _ => n - (intOf i).toNat)
  case atStart => exact ⟨0, rfl, Nat.zero_le _, Below.refl _ _, Lib.hid (by simp)⟩
  case round =>
    obtain ⟨j, rfl, hj, hB, HI⟩ := hrel
    have jj : (0 : Int) ≤ j := by omega
    by_cases hlt : j < n
    · obtain ⟨b, o, qa, da, rfl, c0, c1, c2, hM⟩ := RA.out j (by rw [HN.out]; exact hlt)
      have j2 : (j : Int) < n := by omega
      have hbw : b < w.heap.size := World.block_lt_of_cell? _ _ c0
      replace c0 := Rg.keep hB hbw c0
      replace c1 := Rg.keep hB hbw c1
      replace c2 := Rg.keep hB hbw c2
      have hbr : b < wr.heap.size := World.block_lt_of_cell? _ _ c0
      have hM2 := Lib.hid (SlM.keep hB hM)
      have HB2 := Lib.hid (SlM.keep hB RB.out)
      have hok := QK.out _ (qget (l := l) (i := j) (by rw [HN.out]; exact hlt))
      have hst := fv_step (es := es) (l := l) (j := j) (by rw [HN.out]; exact hlt)
      unfold hq at hst
      obtain ⟨f, hf⟩ : ∃ f, l.getD j q0m = f := ⟨_, rfl⟩
      rw [hf] at c0 c1 c2 hM hM2 hok hst
      obtain ⟨k, xs, eq⟩ := f
      dsimp only at c0 c1 c2 hM hM2 hok hst
      obtain ⟨o1, o2, o3⟩ := hok
      have CC := Lib.hid (holds2 k qa xs da eq q es d wr o1 hm hM2 HB2 (Lib.hid o3) RT o2.1 o2.2)
      generalize hvF k xs eq es = r at *
      obtain ⟨v, er⟩ := r
      dsimp only at CC hst
      unfold Cv at CC
      clear hM hf o1 o2 o3
      have HB3 := Lib.hid hB
      clear hB
      by_cases h0 : er = 0
      · subst h0
        cases v
        · rw [if_pos (.inr rfl)] at hst
          have HE := Lib.hid (show (r1, r2) = ((j : Int), 0) by rw [← HR.out, HI.out, hst]; simp)
          clear hst HI
          go_wp2_with (go_at_call 23; (with_reducible refine CC.out.mono ?_); rintro e w1 ⟨rfl, hb⟩; have HB4 := Lib.hid (HB3.out.trans (hb.mono HB3.out.size)))
          have h9 := HE.out
          cases h9
          refine bodyPost_ret (v := .tuple #[.int .i64 j, .int .i64 0]) (by simp [results, Tryd.results27, go_sem]) rfl ⟨rfl, HB4.out⟩
        · rw [if_neg (by simp)] at hst
          have HI2 : Hid (fvF es l = ((fvF es (l.drop (j + 1))).1 + ((j + 1 : Nat) : Int), (fvF es (l.drop (j + 1))).2)) := Lib.hid (by rw [HI.out, hst]; simp; omega)
          clear hst HI
          go_wp2_with (go_at_call 23; (with_reducible refine CC.out.mono ?_); rintro e w1 ⟨rfl, hb⟩; have HB4 := HB3.out.trans (hb.mono HB3.out.size))
          go_roundw
          case rel => exact ⟨j + 1, by go_num, by omega, HB4, HI2⟩
          case measure => simp [intOf]; omega
      · have g0 : (er == 0) = false := by simpa using h0
        have g1 : (er != 0) = true := by simpa using h0
        rw [if_pos (.inl h0)] at hst
        have HE := Lib.hid (show (r1, r2) = ((j : Int), er) by rw [← HR.out, HI.out, hst]; simp)
        clear hst HI h0
        go_wp2_with (go_at_call 23; (with_reducible refine CC.out.mono ?_); rintro e w1 ⟨rfl, hb⟩; have HB4 := Lib.hid (HB3.out.trans (hb.mono HB3.out.size)))
        have h9 := HE.out
        cases h9
        refine bodyPost_ret (v := .tuple #[.int .i64 j, .int .i64 r2]) (by simp [results, Tryd.results27, go_sem]) rfl ⟨rfl, HB4.out⟩
    · obtain rfl : j = n := by omega
      have HE := Lib.hid (show (r1, r2) = ((j : Int), 0) by rw [← HR.out, HI.out, List.drop_of_length_le (by rw [HN.out]; exact Nat.le_refl _)]; simp [fvF])
      have HB4 := Lib.hid hB
      clear HI hB
      go_wp2
      have h9 := HE.out
      cases h9
      refine bodyPost_ret (v := .tuple #[.int .i64 j, .int .i64 0]) (by simp [results, Tryd.results27, go_sem]) rfl ⟨rfl, HB4.out⟩
end Go.Proofs.YtbicmlkjonaccaaDoor.Ln


namespace Go.Proofs.YtbicmlkjonaccaaDoor.Ln
open Go.ChangeShapes Go.WideShapes Go.ChangeAt Go.RowKit
open Go.Proofs.YtbicmlkjonaccaaDoor.Nm
set_option linter.unusedVariables false
set_option linter.unusedSimpArgs false
set_option maxRecDepth 8000

theorem evS_ng {es : List Mo} : ∀ (Y : List Mo), evS es (Y.map ngm) = -evS es Y
  | [] => by simp [evS]
  | m :: r => by
    have ih := evS_ng (es := es) r
    show -m.2 * co es m.1 + evS es (r.map ngm) = -(m.2 * co es m.1 + evS es r)
    rw [ih, Int.neg_mul]
    omega
theorem ngR_er (k : Int) (xs : List Mo) (eq : Bool) (h : (ngR k xs eq).2 ≠ 0) : (ngR k xs eq).1 = [] := by
  unfold ngR at h ⊢
  split
  · rfl
  · split
    · rfl
    · rename_i h1 h2
      rw [if_neg h1, if_neg h2] at h
      split
      · rename_i h3
        rw [if_pos h3] at h
        exact absurd rfl h
      · rename_i h3
        rw [if_neg h3] at h
        split
        · rfl
        · rename_i h4
          rw [if_neg h4] at h
          exact absurd rfl h
theorem ngR_ok (k : Int) (xs : List Mo) (eq : Bool) (hn : xs.length ≤ 1000) (k1 : -9223372036854775808 ≤ k) (k2 : k ≤ 9223372036854775807) (RS : ∀ i, i < xs.length → (xs.getD i mo0).1.size ≤ maxLen ∧ -9223372036854775808 ≤ (xs.getD i mo0).2 ∧ (xs.getD i mo0).2 ≤ 9223372036854775807) : ∀ f ∈ (ngR k xs eq).1, okQ f := by
  have key : xs.all nmin = true → ∀ i, i < (xs.map ngm).length → ((xs.map ngm).getD i mo0).1.size ≤ maxLen ∧ -9223372036854775808 ≤ ((xs.map ngm).getD i mo0).2 ∧ ((xs.map ngm).getD i mo0).2 ≤ 9223372036854775807 := fun hm i hi => by
    rw [List.length_map] at hi
    have e1 : xs.getD i mo0 = xs[i] := by unfold List.getD; rw [List.getElem?_eq_getElem hi]; rfl
    have e : (xs.map ngm).getD i mo0 = ngm (xs.getD i mo0) := by
      rw [List.getD_eq_getElem?_getD, List.getElem?_map, List.getElem?_eq_getElem hi, e1]; rfl
    have h1 := RS i hi
    have h2 := List.all_eq_true.1 hm _ (getD_mem hi)
    unfold nmin at h2
    have h3 : (xs.getD i mo0).2 ≠ -9223372036854775808 := by simpa using h2
    rw [e]
    unfold ngm
    dsimp only
    exact ⟨h1.1, by omega, by omega⟩
  unfold ngR
  split
  · simp
  · split
    · simp
    · rename_i h2
      have hm : xs.all nmin = true := by cases h : xs.all nmin; exact absurd h h2; rfl
      have hK := key hm
      split
      · intro f hf
        simp only [List.mem_singleton] at hf
        subst hf
        exact ⟨by rw [List.length_map]; exact hn, ⟨by dsimp only; omega, by dsimp only; omega⟩, hK⟩
      · split
        · simp
        · rename_i h4
          intro f hf
          simp only [List.mem_cons, List.not_mem_nil, or_false] at hf
          rcases hf with rfl | rfl
          · exact ⟨hn, ⟨by dsimp only; omega, by dsimp only; omega⟩, RS⟩
          · exact ⟨by dsimp only; rw [List.length_map]; exact hn, ⟨by dsimp only; omega, by dsimp only; omega⟩, hK⟩
theorem evF_val {k : Int} {xs es : List Mo} (h : (evF k xs es).2 = 0) : (evF k xs es).1 = k + evS es xs := by
  unfold evF at h ⊢
  split at h
  · simp at h
  · rename_i h1
    rw [if_neg h1]
    split at h
    · simp at h
    · rename_i h2
      rw [if_neg h2]
      split at h
      · rename_i h3
        rw [if_pos h3]
      · simp at h
theorem hv_val {k : Int} {xs es : List Mo} {eq : Bool} (h : (hvF k xs eq es).2 = 0) : (hvF k xs eq es).1 = hB (k + evS es xs) eq := by
  have h1 : (evF k xs es).2 = 0 := h
  unfold hvF
  dsimp only
  rw [if_pos h1, evF_val h1]
theorem hB_T (n : Int) : hB n true = (n == 0) := by unfold hB; simp
theorem hB_F (n : Int) : hB n false = decide (0 ≤ n) := by
  unfold hB
  rw [Bool.eq_iff_iff]
  simp
  omega
def cntQ (es : List Mo) (l : List Qm) : Nat := (l.filter fun f => (hq es f).1).length
/-- Exactly one of a constraint and the constraints of its negation holds. -/
theorem ng_one {k : Int} {xs : List Mo} {eq : Bool} {es : List Mo} (h : (ngR k xs eq).2 = 0) (f : (hvF k xs eq es).2 = 0) (g : ∀ f ∈ (ngR k xs eq).1, (hq es f).2 = 0) : (if (hvF k xs eq es).1 = true then 1 else 0) + cntQ es (ngR k xs eq).1 = 1 := by
  rw [hv_val f]
  unfold ngR at h g ⊢
  split at h
  · simp at h
  · rename_i h1
    split at h
    · simp at h
    · rename_i h2
      rw [if_neg h1, if_neg h2] at g ⊢
      split at h
      · rename_i h3
        rw [if_pos h3] at g ⊢
        subst h3
        have g1 := g _ (List.mem_singleton.2 rfl)
        have e1 := hv_val (eq := false) (show (hvF (-1 - k) (xs.map ngm) false es).2 = 0 from g1)
        unfold cntQ
        rw [List.filter_cons]
        rw [show (hq es (-1 - k, xs.map ngm, false)).1 = hB (-1 - k + evS es (xs.map ngm)) false from e1, evS_ng, hB_F, hB_F]
        generalize evS es xs = S
        by_cases hV : 0 ≤ k + S
        · rw [if_pos (by simpa using hV), if_neg (by simp; omega)]; rfl
        · rw [if_neg (by simpa using hV), if_pos (by simp; omega)]; rfl
      · rename_i h3
        have he : eq = true := by cases eq; exact absurd rfl h3; rfl
        subst he
        split at h
        · simp at h
        · rename_i h4
          rw [if_neg h3, if_neg h4] at g ⊢
          have g1 := g (k - 1, xs, false) (by simp)
          have g2 := g (-1 - k, xs.map ngm, false) (by simp)
          have e1 := hv_val (eq := false) (show (hvF (k - 1) xs false es).2 = 0 from g1)
          have e2 := hv_val (eq := false) (show (hvF (-1 - k) (xs.map ngm) false es).2 = 0 from g2)
          unfold cntQ
          rw [List.filter_cons, List.filter_cons]
          rw [show (hq es (-1 - k, xs.map ngm, false)).1 = hB (-1 - k + evS es (xs.map ngm)) false from e2, show (hq es (k - 1, xs, false)).1 = hB (k - 1 + evS es xs) false from e1, evS_ng, hB_F, hB_F, hB_T]
          generalize evS es xs = S
          rcases Int.lt_trichotomy (k + S) 0 with hV | hV | hV
          · rw [if_neg (by simp; omega), if_neg (by simp; omega), if_pos (by simp; omega)]; rfl
          · rw [if_pos (by simp; omega), if_neg (by simp; omega), if_neg (by simp; omega)]; rfl
          · rw [if_neg (by simp; omega), if_pos (by simp; omega), if_neg (by simp; omega)]; rfl
theorem cnt_step {es : List Mo} {l : List Qm} {t : Nat} (h : t < l.length) : cntQ es (l.take (t + 1)) = cntQ es (l.take t) + (if (hq es (l.getD t q0m)).1 = true then 1 else 0) := by
  unfold cntQ
  rw [qtake h, List.filter_append, List.length_append]
  by_cases h1 : (hq es (l.getD t q0m)).1 = true
  · rw [if_pos h1, List.filter_cons, if_pos h1]; rfl
  · rw [if_neg h1, List.filter_cons, if_neg h1]; rfl
end Go.Proofs.YtbicmlkjonaccaaDoor.Ln


namespace Go.Proofs.YtbicmlkjonaccaaDoor.Ln
open Go.ChangeShapes Go.WideShapes Go.ChangeAt Go.RowKit
open Go.Proofs.YtbicmlkjonaccaaDoor.Nm
set_option linter.unusedVariables false
set_option linter.unusedSimpArgs false
set_option maxRecDepth 8000
theorem ngR_len (k : Int) (xs : List Mo) (eq : Bool) : (ngR k xs eq).1.length ≤ 2 ∧ ∀ f ∈ (ngR k xs eq).1, f.2.1.length = xs.length := by
  unfold ngR
  split
  · simp
  · split
    · simp
    · split
      · simp
      · split
        · simp
        · simp
end Go.Proofs.YtbicmlkjonaccaaDoor.Ln
