/- Holds of the reference, of larger forms. -/
import Derived.Test.YtbicmlkjonaccaaDoorJ3
import Derived.Test.YtbicmlkjonaccaaDoorJ27
import Derived.Test.YtbicmlkjonaccaaDoorE52b
import Derived.Test.YtbicmlkjonaccaaDoorJ15
import Derived.Test.YtbicmlkjonaccaaDoorJ4
import Derived.Test.YtbicmlkjonaccaaDoorE48
import Derived.Test.YtbicmlkjonaccaaDoorJ25

namespace Go.Proofs.YtbicmlkjonaccaaDoor.Ln
open Go.ChangeShapes Go.WideShapes Go.ChangeAt Go.RowKit
open Go.Proofs.YtbicmlkjonaccaaDoor.Nm
set_option linter.unusedVariables false
set_option linter.unusedSimpArgs false
set_option maxRecDepth 8000
def evF (k : Int) (xs es : List Mo) : Int × Int :=
  if okL xs = false then (0, 1) else if (xs.all fun m => (es.map (·.1)).any fun s => s.toList == m.1.toList) = false then (0, 9)
  else if fit64 (k + evS es xs) = true then (k + evS es xs, 0) else (0, 3)
theorem evF_EV (k : Int) (xs es : List Mo) : EV k xs es (evF k xs es).1 (evF k xs es).2 := by
  unfold evF
  cases ho : okL xs
  · exact .inl ⟨ho, by simp, by simp⟩
  · cases ha : (xs.all fun m => (es.map (·.1)).any fun s => s.toList == m.1.toList)
    · refine .inr (.inl ⟨ho, ?_, by simp, by simp⟩)
      rw [List.all_eq_false] at ha
      obtain ⟨m, hm, h⟩ := ha
      exact ⟨m, hm, fun hin => h (any_yes hin)⟩
    · have hall : ∀ m ∈ xs, m.1 ∈ es.map (·.1) := fun m hm => by
        have h := List.all_eq_true.1 ha m hm
        by_cases hin : m.1 ∈ es.map (·.1)
        · exact hin
        · rw [any_no hin] at h; cases h
      cases hf : fit64 (k + evS es xs)
      · exact .inr (.inr (.inr ⟨ho, hall, hf, by simp, by simp⟩))
      · exact .inr (.inr (.inl ⟨ho, hall, hf, by simp, by simp⟩))
theorem evF_er (k : Int) (xs es : List Mo) : (evF k xs es).2 = 0 ∨ (evF k xs es).2 = 1 ∨ (evF k xs es).2 = 9 ∨ (evF k xs es).2 = 3 := by
  unfold evF
  split
  · simp
  · split
    · simp
    · split <;> simp
/-- Whether a constraint holds, and the error. -/
def hvF (k : Int) (xs : List Mo) (eq : Bool) (es : List Mo) : Bool × Int := (if (evF k xs es).2 = 0 then hB (evF k xs es).1 eq else false, (evF k xs es).2)
theorem ev2 (k : Int) (p : Option Addr) (xs : List Mo) (c : Nat) (q : Option Addr) (es : List Mo) (d : Nat) (w : World) (hn : xs.length ≤ 5000) (hm : es.length ≤ maxLen) (RA : Hid (SlM w p xs)) (RB : Hid (SlM w q es)) (RS : Hid (∀ i, i < xs.length → (xs.getD i mo0).1.size ≤ maxLen ∧ -9223372036854775808 ≤ (xs.getD i mo0).2 ∧ (xs.getD i mo0).2 ≤ 9223372036854775807)) (RT : Hid (∀ i, i < es.length → (es.getD i mo0).1.size ≤ maxLen ∧ -9223372036854775808 ≤ (es.getD i mo0).2 ∧ (es.getD i mo0).2 ≤ 9223372036854775807)) (k1 : -9223372036854775808 ≤ k) (k2 : k ≤ 9223372036854775807) :
    Calls Tryd.prog 55 #[Lv k p xs.length c, .slice q es.length d] w fun e w' => e = .returned (.tuple #[.int .i64 (evF k xs es).1, .int .i64 (evF k xs es).2]) ∧ Below w.heap.size w w' :=
  (eval2d k p xs c q es d w hn hm RA RB RS RT k1 k2).mono fun e w' ⟨x, er, he, hE, hb⟩ => by
    obtain ⟨rfl, rfl⟩ := EV_one hE (evF_EV k xs es)
    exact ⟨he, hb⟩

set_option maxHeartbeats 4000000 in
theorem holds2 (k : Int) (p : Option Addr) (xs : List Mo) (c : Nat) (eq : Bool) (q : Option Addr) (es : List Mo) (d : Nat) (w : World) (hn : xs.length ≤ 5000) (hm : es.length ≤ maxLen) (RA : Hid (SlM w p xs)) (RB : Hid (SlM w q es)) (RS : Hid (∀ i, i < xs.length → (xs.getD i mo0).1.size ≤ maxLen ∧ -9223372036854775808 ≤ (xs.getD i mo0).2 ∧ (xs.getD i mo0).2 ≤ 9223372036854775807)) (RT : Hid (∀ i, i < es.length → (es.getD i mo0).1.size ≤ maxLen ∧ -9223372036854775808 ≤ (es.getD i mo0).2 ∧ (es.getD i mo0).2 ≤ 9223372036854775807)) (k1 : -9223372036854775808 ≤ k) (k2 : k ≤ 9223372036854775807) :
    Calls Tryd.prog 23 #[Cv k p xs.length c eq, .slice q es.length d] w fun e w' => e = .returned (.tuple #[.bool (hvF k xs eq es).1, .int .i64 (hvF k xs eq es).2]) ∧ Below w.heap.size w w' := by
  have EC := Lib.hid fun w h1 h2 => ev2 k p xs c q es d w hn hm h1 h2 RS RT k1 k2
  have B0 : Below w.heap.size w (w.alloc (Obj.cells #[Value.int .i64 k, Value.slice p xs.length c, Value.bool eq] 36)) := (Below.refl _ _).alloc (Nat.le_refl _) _
  have RA2 := Lib.hid (SlM.keep B0 RA.out)
  have RB2 := Lib.hid (SlM.keep B0 RB.out)
  unfold hvF
  generalize evF k xs es = r at *
  obtain ⟨x, er⟩ := r
  dsimp only at EC ⊢
  by_cases h0 : er = 0
  · subst h0
    rw [if_pos rfl]
    unfold hB
    unfold Cv Lv at *
    by_cases h0 : x = 0
    · subst h0
      go_enter Tryd.func23, Tryd.ntmps23
      go_wp2_with (first | (go_at_call 55; (with_reducible refine (EC.out _ RA2 RB2).mono ?_); rintro e w1 ⟨rfl, hb1⟩; have hc1 := (Rg.bcell hb1).1; have hf1 := (Rg.bcell hb1).2; have z1_0 : w.heap.size < w1.heap.size := (by have hzz := hb1.size; (try simp at hzz); omega); have K1 : Below w.heap.size w w1 := Below.trans (b := _) (by (repeat' (first | (with_reducible exact Below.refl _ _) | (with_reducible refine Below.alloc ?_ ?_ _) | (with_reducible refine Below.setCell ?_ ?_ _) | (with_reducible refine below_drewN ?_ _) | (simp; done) | omega | (simp; omega)))) (hb1.mono (by have hzz := hb1.size; (try simp at hzz); first | omega | (simp; done) | (simp; omega)))))
      go_ret2
      exact ⟨by simp, K1⟩
    · have g0 : (x == 0) = false := by simpa using h0
      by_cases h1 : 0 < x
      · have g1 : decide (0 < x) = true := by simpa using h1
        rw [g0, g1]
        cases eq
        all_goals
          go_enter Tryd.func23, Tryd.ntmps23
          go_wp2_with (first | (go_at_call 55; (with_reducible refine (EC.out _ RA2 RB2).mono ?_); rintro e w1 ⟨rfl, hb1⟩; have hc1 := (Rg.bcell hb1).1; have hf1 := (Rg.bcell hb1).2; have z1_0 : w.heap.size < w1.heap.size := (by have hzz := hb1.size; (try simp at hzz); omega); have K1 : Below w.heap.size w w1 := Below.trans (b := _) (by (repeat' (first | (with_reducible exact Below.refl _ _) | (with_reducible refine Below.alloc ?_ ?_ _) | (with_reducible refine Below.setCell ?_ ?_ _) | (with_reducible refine below_drewN ?_ _) | (simp; done) | omega | (simp; omega)))) (hb1.mono (by have hzz := hb1.size; (try simp at hzz); first | omega | (simp; done) | (simp; omega)))))
          go_ret2
          exact ⟨by simp, K1⟩
      · have g1 : decide (0 < x) = false := by simpa using h1
        rw [g0, g1]
        clear h0 h1
        go_enter Tryd.func23, Tryd.ntmps23
        go_wp2_with (first | (go_at_call 55; (with_reducible refine (EC.out _ RA2 RB2).mono ?_); rintro e w1 ⟨rfl, hb1⟩; have hc1 := (Rg.bcell hb1).1; have hf1 := (Rg.bcell hb1).2; have z1_0 : w.heap.size < w1.heap.size := (by have hzz := hb1.size; (try simp at hzz); omega); have K1 : Below w.heap.size w w1 := Below.trans (b := _) (by (repeat' (first | (with_reducible exact Below.refl _ _) | (with_reducible refine Below.alloc ?_ ?_ _) | (with_reducible refine Below.setCell ?_ ?_ _) | (with_reducible refine below_drewN ?_ _) | (simp; done) | omega | (simp; omega)))) (hb1.mono (by have hzz := hb1.size; (try simp at hzz); first | omega | (simp; done) | (simp; omega)))))
        go_ret2
        exact ⟨by simp, K1⟩
  · have g0 : (er == 0) = false := by simpa using h0
    have g1 : (er != 0) = true := by simpa using h0
    rw [if_neg h0]
    clear h0
    unfold Cv Lv at *
    go_enter Tryd.func23, Tryd.ntmps23
    go_wp2_with (first | (go_at_call 55; (with_reducible refine (EC.out _ RA2 RB2).mono ?_); rintro e w1 ⟨rfl, hb1⟩; have hc1 := (Rg.bcell hb1).1; have hf1 := (Rg.bcell hb1).2; have z1_0 : w.heap.size < w1.heap.size := (by have hzz := hb1.size; (try simp at hzz); omega); have K1 : Below w.heap.size w w1 := Below.trans (b := _) (by (repeat' (first | (with_reducible exact Below.refl _ _) | (with_reducible refine Below.alloc ?_ ?_ _) | (with_reducible refine Below.setCell ?_ ?_ _) | (with_reducible refine below_drewN ?_ _) | (simp; done) | omega | (simp; omega)))) (hb1.mono (by have hzz := hb1.size; (try simp at hzz); first | omega | (simp; done) | (simp; omega)))))
    go_ret2
    exact ⟨rfl, K1⟩
end Go.Proofs.YtbicmlkjonaccaaDoor.Ln


namespace Go.Proofs.YtbicmlkjonaccaaDoor.Ln
open Go.ChangeShapes Go.WideShapes Go.ChangeAt Go.RowKit
open Go.Proofs.YtbicmlkjonaccaaDoor.Nm
set_option linter.unusedVariables false
set_option linter.unusedSimpArgs false
set_option maxRecDepth 8000
def okQ (f : Qm) : Prop := f.2.1.length ≤ 1000 ∧ (-9223372036854775808 ≤ f.1 ∧ f.1 ≤ 9223372036854775807) ∧ ∀ i, i < f.2.1.length → (f.2.1.getD i mo0).1.size ≤ maxLen ∧ -9223372036854775808 ≤ (f.2.1.getD i mo0).2 ∧ (f.2.1.getD i mo0).2 ≤ 9223372036854775807
def hq (es : List Mo) (f : Qm) : Bool × Int := hvF f.1 f.2.1 f.2.2 es
def fvF (es : List Mo) : List Qm → Int × Int
  | [] => (0, 0)
  | a :: r => if (hq es a).2 ≠ 0 ∨ (hq es a).1 = false then (0, (hq es a).2) else ((fvF es r).1 + 1, (fvF es r).2)
theorem fv_step {es : List Mo} {l : List Qm} {j : Nat} (h : j < l.length) : fvF es (l.drop j) = if (hq es (l.getD j q0m)).2 ≠ 0 ∨ (hq es (l.getD j q0m)).1 = false then (0, (hq es (l.getD j q0m)).2) else ((fvF es (l.drop (j + 1))).1 + 1, (fvF es (l.drop (j + 1))).2) := by
  rw [List.drop_eq_getElem_cons h]
  have e1 : l.getD j q0m = l[j] := by unfold List.getD; rw [List.getElem?_eq_getElem h]; rfl
  rw [e1]
  rfl
set_option maxRecDepth 100000 in
set_option maxHeartbeats 4000000 in
theorem fv2 (p : Option Addr) (l : List Qm) (c : Nat) (q : Option Addr) (es : List Mo) (d : Nat) (w : World) (hn : l.length ≤ 1000) (hm : es.length ≤ maxLen) (RA : Hid (SlQ w p l)) (RB : Hid (SlM w q es)) (RT : Hid (∀ i, i < es.length → (es.getD i mo0).1.size ≤ maxLen ∧ -9223372036854775808 ≤ (es.getD i mo0).2 ∧ (es.getD i mo0).2 ≤ 9223372036854775807)) (QK : Hid (∀ f ∈ l, okQ f)) :
    Calls Tryd.prog 27 #[.slice p l.length c, .slice q es.length d] w fun e w' => e = .returned (.tuple #[.int .i64 (fvF es l).1, .int .i64 (fvF es l).2]) ∧ Below w.heap.size w w' := by
  obtain ⟨n, hnn⟩ : ∃ n, l.length = n := ⟨_, rfl⟩
  have HN := Lib.hid hnn
  obtain ⟨R, hR⟩ : ∃ R, fvF es l = R := ⟨_, rfl⟩
  have HR := Lib.hid hR
  rw [hnn] at hn ⊢
  rw [hR]
  clear hnn hR
  obtain ⟨r1, r2⟩ := R
  go_enter Tryd.func27, Tryd.ntmps27
  go_wp2_with fail
  go_loopw [6] (fun i wr => ∃ (j : Nat), i = .int .i64 j ∧ j ≤ n ∧ Below w.heap.size w wr ∧ Hid (fvF es l = ((fvF es (l.drop j)).1 + j, (fvF es (l.drop j)).2))) (fun i _ => n - (intOf i).toNat)
  case atStart => exact ⟨0, rfl, Nat.zero_le _, Below.refl _ _, Lib.hid (by simp)⟩
  case round =>
    obtain ⟨j, rfl, hj, hB, HI⟩ := hrel
    have jj : (0 : Int) ≤ j := by omega
    by_cases hlt : j < n
    · obtain ⟨b, o, qa, da, rfl, c0, c1, c2, hM⟩ := RA.out j (by rw [HN.out]; exact hlt)
      have j2 : (j : Int) < n := by omega
      have hbw : b < w.heap.size := World.block_lt_of_cell? _ _ c0
      replace c0 := Rg.keep hB hbw c0
      replace c1 := Rg.keep hB hbw c1
      replace c2 := Rg.keep hB hbw c2
      have hbr : b < wr.heap.size := World.block_lt_of_cell? _ _ c0
      have hM2 := Lib.hid (SlM.keep hB hM)
      have HB2 := Lib.hid (SlM.keep hB RB.out)
      have hok := QK.out _ (qget (l := l) (i := j) (by rw [HN.out]; exact hlt))
      have hst := fv_step (es := es) (l := l) (j := j) (by rw [HN.out]; exact hlt)
      unfold hq at hst
      obtain ⟨f, hf⟩ : ∃ f, l.getD j q0m = f := ⟨_, rfl⟩
      rw [hf] at c0 c1 c2 hM hM2 hok hst
      obtain ⟨k, xs, eq⟩ := f
      dsimp only at c0 c1 c2 hM hM2 hok hst
      obtain ⟨o1, o2, o3⟩ := hok
      have CC := Lib.hid (holds2 k qa xs da eq q es d wr (Nat.le_trans o1 (by decide)) hm hM2 HB2 (Lib.hid o3) RT o2.1 o2.2)
      generalize hvF k xs eq es = r at *
      obtain ⟨v, er⟩ := r
      dsimp only at CC hst
      unfold Cv at CC
      clear hM hf o1 o2 o3
      have HB3 := Lib.hid hB
      clear hB
      by_cases h0 : er = 0
      · subst h0
        cases v
        · rw [if_pos (.inr rfl)] at hst
          have HE := Lib.hid (show (r1, r2) = ((j : Int), 0) by rw [← HR.out, HI.out, hst]; simp)
          clear hst HI
          go_wp2_with (go_at_call 23; (with_reducible refine CC.out.mono ?_); rintro e w1 ⟨rfl, hb⟩; have HB4 := Lib.hid (HB3.out.trans (hb.mono HB3.out.size)))
          have h9 := HE.out
          cases h9
          refine bodyPost_ret (v := .tuple #[.int .i64 j, .int .i64 0]) (by simp [results, Tryd.results27, go_sem]) rfl ⟨rfl, HB4.out⟩
        · rw [if_neg (by simp)] at hst
          have HI2 : Hid (fvF es l = ((fvF es (l.drop (j + 1))).1 + ((j + 1 : Nat) : Int), (fvF es (l.drop (j + 1))).2)) := Lib.hid (by rw [HI.out, hst]; simp; omega)
          clear hst HI
          go_wp2_with (go_at_call 23; (with_reducible refine CC.out.mono ?_); rintro e w1 ⟨rfl, hb⟩; have HB4 := HB3.out.trans (hb.mono HB3.out.size))
          go_roundw
          case rel => exact ⟨j + 1, by go_num, by omega, HB4, HI2⟩
          case measure => simp [intOf]; omega
      · have g0 : (er == 0) = false := by simpa using h0
        have g1 : (er != 0) = true := by simpa using h0
        rw [if_pos (.inl h0)] at hst
        have HE := Lib.hid (show (r1, r2) = ((j : Int), er) by rw [← HR.out, HI.out, hst]; simp)
        clear hst HI h0
        go_wp2_with (go_at_call 23; (with_reducible refine CC.out.mono ?_); rintro e w1 ⟨rfl, hb⟩; have HB4 := Lib.hid (HB3.out.trans (hb.mono HB3.out.size)))
        have h9 := HE.out
        cases h9
        refine bodyPost_ret (v := .tuple #[.int .i64 j, .int .i64 r2]) (by simp [results, Tryd.results27, go_sem]) rfl ⟨rfl, HB4.out⟩
    · obtain rfl : j = n := by omega
      have HE := Lib.hid (show (r1, r2) = ((j : Int), 0) by rw [← HR.out, HI.out, List.drop_of_length_le (by rw [HN.out]; exact Nat.le_refl _)]; simp [fvF])
      have HB4 := Lib.hid hB
      clear HI hB
      go_wp2
      have h9 := HE.out
      cases h9
      refine bodyPost_ret (v := .tuple #[.int .i64 j, .int .i64 0]) (by simp [results, Tryd.results27, go_sem]) rfl ⟨rfl, HB4.out⟩
end Go.Proofs.YtbicmlkjonaccaaDoor.Ln


namespace Go.Proofs.YtbicmlkjonaccaaDoor.Ln
open Go.ChangeShapes Go.WideShapes Go.ChangeAt Go.RowKit
open Go.Proofs.YtbicmlkjonaccaaDoor.Nm
set_option linter.unusedVariables false
set_option linter.unusedSimpArgs false
set_option maxRecDepth 8000
theorem evS_mg (es xs ys : List Mo) : evS es (mg xs ys) = evS es xs + evS es ys := by
  refine mg_ind (P := fun xs ys => evS es (mg xs ys) = evS es xs + evS es ys) ?_ ?_ ?_ ?_ ?_ _ xs ys (Nat.le_refl _)
  · intro ys; rw [nil_mg]; simp [evS]
  · intro x xs; rw [mg_nil]; simp [evS]
  · intro x xs y ys h ih; rw [mg_lt h, evS, ih, show evS es (x :: xs) = x.2 * co es x.1 + evS es xs from rfl, Int.add_assoc]
  · intro x xs y ys h ih; rw [mg_gt h, evS, ih, evS, evS]; omega
  · intro x xs y ys h ih; rw [mg_eq h, evS, ih, evS, evS, h]; simp only; rw [Int.add_mul]; omega
theorem evS_flt (es : List Mo) {l : List Mo} : evS es (l.filter fun m => m.2 != 0) = evS es l := by
  induction l with
  | nil => rfl
  | cons m l ih =>
    rw [List.filter_cons]
    by_cases h : m.2 = 0
    · rw [if_neg (by simp [h]), ih, evS, h]; omega
    · rw [if_pos (by simp [h]), evS, evS, ih]
theorem wrap_near {n : Int} (h1 : -9223372036854775808 ≤ n) (h2 : n ≤ 9223372036854775807) : wrap64 n = n := by unfold wrap64; omega
theorem flt_near {l : List Mo} (h : ∀ m ∈ l, -9223372036854775808 ≤ m.2 ∧ m.2 ≤ 9223372036854775807) : flt l = l.filter fun m => m.2 != 0 := by
  unfold flt
  rw [show (l.map fun m => (m.1, wrap64 m.2)) = l from ?_]
  conv => rhs; rw [← List.map_id l]
  exact List.map_congr_left fun m hm => by rw [wrap_near (h m hm).1 (h m hm).2]; rfl
theorem evS_scale (es ys : List Mo) (b : Int) : evS es (ys.map fun m => (m.1, m.2 * b)) = b * evS es ys := by
  induction ys with
  | nil => simp [evS]
  | cons m l ih => rw [List.map_cons, evS, ih, evS, Int.mul_add, Int.mul_comm m.2 b, Int.mul_assoc]

theorem evF_vl {k : Int} {xs es : List Mo} (h : (evF k xs es).2 = 0) : (evF k xs es).1 = k + evS es xs := by
  unfold evF at h ⊢
  split at h
  · simp at h
  · rename_i h1
    rw [if_neg h1]
    split at h
    · simp at h
    · rename_i h2
      rw [if_neg h2]
      split at h
      · rename_i h3
        rw [if_pos h3]
      · simp at h
theorem hv_vl {k : Int} {xs es : List Mo} {eq : Bool} (h : (hvF k xs eq es).2 = 0) : (hvF k xs eq es).1 = hB (k + evS es xs) eq := by
  have h1 : (evF k xs es).2 = 0 := h
  unfold hvF
  dsimp only
  rw [if_pos h1, evF_vl h1]
theorem scl_val {es xs : List Mo} {b k : Int} (h : (sclR b k xs).2.2 = 0) : (sclR b k xs).1 + evS es (sclR b k xs).2.1 = b * (k + evS es xs) := by
  unfold sclR at h ⊢
  split at h
  · simp at h
  · rename_i h1
    rw [if_neg h1]
    split at h
    · rename_i h2
      rw [if_pos h2, h2]
      simp [evS]
    · rename_i h2
      rw [if_neg h2]
      split at h
      · rename_i h3
        rw [if_pos h3]
        dsimp only
        unfold sclF at h3
        rw [Bool.and_eq_true, List.all_eq_true] at h3
        have e1 : wrap64 (k * b) = k * b := wrap_near (fit_yes.1 h3.1).1 (fit_yes.1 h3.1).2
        have e2 : sclV b xs = xs.map fun m => (m.1, m.2 * b) := by
          unfold sclV
          apply List.map_congr_left
          intro m hm
          have := fit_yes.1 (h3.2 m hm)
          rw [wrap_near this.1 this.2]
        rw [e1, e2, evS_scale, Int.mul_add, Int.mul_comm k b]
      · simp at h
theorem add_val {es rl sl : List Mo} {rk sk : Int} (h : (adR rk rl sk sl).2.2 = 0) : (adR rk rl sk sl).1 + evS es (adR rk rl sk sl).2.1 = (rk + evS es rl) + (sk + evS es sl) := by
  unfold adR at h ⊢
  split at h
  · simp at h
  · rename_i h1
    rw [if_neg h1]
    split at h
    · rename_i h2
      rw [if_pos h2]
      dsimp only
      unfold adF at h2
      rw [Bool.and_eq_true, List.all_eq_true] at h2
      have e1 : wrap64 (rk + sk) = rk + sk := wrap_near (fit_yes.1 h2.1).1 (fit_yes.1 h2.1).2
      rw [e1, flt_near (fun m hm => fit_yes.1 (h2.2 m hm)), evS_flt, evS_mg]
      omega
    · simp at h
def vR (es : List Mo) (r : Cst) : Int := r.1 + evS es r.2.1
theorem hB_t {n : Int} (h : hB n true = true) : n = 0 := by unfold hB at h; simpa using h
theorem hB_f {n : Int} (h : hB n false = true) : 0 ≤ n := by
  unfold hB at h
  simp at h
  omega
theorem hB_mk {n : Int} {eq : Bool} (h : 0 ≤ n) (h2 : eq = true → n = 0) : hB n eq = true := by
  unfold hB
  cases eq
  · simp; omega
  · rw [h2 rfl]; rfl
/-- Where all hold, the running sum holds. -/
theorem cbF_sound {es : List Mo} : ∀ (L : List (Qm × Int)) (r : Cst), (∀ x ∈ L, badQ x = false ∧ (hq es x.1).2 = 0 ∧ (hq es x.1).1 = true) → (0 ≤ vR es r ∧ (r.2.2 = true → vR es r = 0)) → (cbF L r).2 = 0 →
    0 ≤ vR es (cbF L r).1 ∧ ((cbF L r).1.2.2 = true → vR es (cbF L r).1 = 0)
  | [], r, _, hr, _ => by simpa [cbF] using hr
  | x :: t, r, hx, hr, h0 => by
    obtain ⟨⟨k, xs, eq⟩, b⟩ := x
    have hx0 := hx _ (List.mem_cons_self ..)
    obtain ⟨hbad, he, hh⟩ := hx0
    have hv := hv_vl (eq := eq) (show (hvF k xs eq es).2 = 0 from he)
    have hh2 : hB (k + evS es xs) eq = true := by rw [← hv]; exact hh
    obtain ⟨SR, hSR⟩ : ∃ SR, sclR b k xs = SR := ⟨_, rfl⟩
    obtain ⟨sk, sl, se⟩ := SR
    obtain ⟨AR, hAR⟩ : ∃ AR, adR r.1 r.2.1 sk sl = AR := ⟨_, rfl⟩
    obtain ⟨ak, al, ae⟩ := AR
    by_cases hse : se = 0
    · subst hse
      by_cases hae : ae = 0
      · subst hae
        have hs := cbS_3 (eq := eq) hSR hAR
        have hgo := cbF_go (t := t) hs
        rw [hgo] at h0 ⊢
        refine cbF_sound t _ (fun y hy => hx y (List.mem_cons_of_mem _ hy)) ?_ h0
        have v1 := scl_val (es := es) (b := b) (k := k) (xs := xs) (by rw [hSR])
        have v2 := add_val (es := es) (rl := r.2.1) (sl := sl) (rk := r.1) (sk := sk) (by rw [hAR])
        rw [hSR] at v1
        rw [hAR] at v2
        dsimp only at v1 v2
        have vn : vR es (ak, al, r.2.2 && (eq || b == 0)) = vR es r + b * (k + evS es xs) := by
          show ak + evS es al = (r.1 + evS es r.2.1) + _
          rw [v2, v1]
        rw [vn]
        generalize k + evS es xs = V at *
        have hbV : 0 ≤ b * V ∧ ((eq || b == 0) = true → b * V = 0) := by
          cases eq
          · have hV := hB_f hh2
            unfold badQ at hbad
            simp only [Bool.or_eq_false_iff, Bool.and_eq_false_imp, decide_eq_true_eq] at hbad
            have hb0 : 0 ≤ b := by
              rcases Int.lt_or_le b 0 with h | h
              · have := hbad.2 h
                simp at this
              · exact h
            exact ⟨Int.mul_nonneg hb0 hV, fun h => by
              have : b = 0 := by simpa using h
              rw [this, Int.zero_mul]⟩
          · have hV := hB_t hh2
            rw [hV, Int.mul_zero]
            exact ⟨Int.le_refl _, fun _ => rfl⟩
        refine ⟨by omega, fun h => ?_⟩
        dsimp only at h
        rw [Bool.and_eq_true] at h
        have a1 := hr.2 h.1
        have a2 := hbV.2 h.2
        omega
      · have hs := cbF_err (t := t) (cbS_2 (eq := eq) hSR hAR hae) hae
        rw [hs] at h0
        exact absurd h0 hae
    · have hs := cbF_err (t := t) (cbS_1 (r := r) (eq := eq) hSR hse) hse
      rw [hs] at h0
      exact absurd h0 hse
theorem fv_all {es : List Mo} : ∀ (l : List Qm), (fvF es l).2 = 0 → ¬ (fvF es l).1 < l.length → ∀ f ∈ l, (hq es f).2 = 0 ∧ (hq es f).1 = true
  | [], _, _ => by simp
  | a :: r, h1, h2 => by
    by_cases hc : (hq es a).2 ≠ 0 ∨ (hq es a).1 = false
    · have e : fvF es (a :: r) = (0, (hq es a).2) := by
        show (if _ then _ else _) = _
        rw [if_pos hc]
      rw [e] at h2
      exact absurd (by simp) h2
    · have e : fvF es (a :: r) = ((fvF es r).1 + 1, (fvF es r).2) := by
        show (if _ then _ else _) = _
        rw [if_neg hc]
      rw [e] at h1 h2
      have ih := fv_all r h1 (fun h => h2 (by simp; omega))
      intro f hf
      rcases List.mem_cons.1 hf with rfl | hf
      · refine ⟨Classical.byContradiction fun h => hc (.inl h), ?_⟩
        cases h3 : (hq es f).1
        · exact absurd (.inr h3) hc
        · rfl
      · exact ih f hf
/-- What Combine answers holds wherever all of its constraints hold. -/
theorem cb_sound {es : List Mo} {l : List Qm} {bs : List Int} (h0 : (cbR l bs).2 = 0) (hf : (fvF es l).2 = 0) (hn : ¬ (fvF es l).1 < l.length) (hg : (hvF (cbR l bs).1.1 (cbR l bs).1.2.1 (cbR l bs).1.2.2 es).2 = 0) : (hvF (cbR l bs).1.1 (cbR l bs).1.2.1 (cbR l bs).1.2.2 es).1 = true := by
  rw [hv_vl hg]
  have hall := fv_all l hf hn
  unfold cbR at h0 ⊢
  split at h0
  · simp at h0
  · rename_i h1
    rw [if_neg h1]
    split at h0
    · simp at h0
    · rename_i h2
      rw [if_neg h2]
      have h2' : (l.zip bs).any badQ = false := by cases h : (l.zip bs).any badQ; rfl; exact absurd h h2
      rw [List.any_eq_false] at h2'
      have h3 := cbF_sound (es := es) (l.zip bs) (0, [], true) (fun x hx => ⟨by have := h2' x hx; cases h : badQ x; rfl; exact absurd h this, hall _ (List.of_mem_zip hx).1⟩) ⟨by simp [vR, evS], fun _ => by simp [vR, evS]⟩ h0
      exact hB_mk h3.1 h3.2
theorem cbF_rng : ∀ (L : List (Qm × Int)) (r : Cst) (n : Nat), rOK r n → (∀ x ∈ L, x.1.2.1.length ≤ 40 ∧ ∀ m ∈ x.1.2.1, m.1.size ≤ maxLen) → rOK (cbF L r).1 (n + 40 * L.length)
  | [], r, n, hr, _ => by simpa [cbF] using hr
  | x :: t, r, n, hr, hx => by
    obtain ⟨⟨k, xs, eq⟩, b⟩ := x
    obtain ⟨SR, hSR⟩ : ∃ SR, sclR b k xs = SR := ⟨_, rfl⟩
    obtain ⟨sk, sl, se⟩ := SR
    obtain ⟨AR, hAR⟩ : ∃ AR, adR r.1 r.2.1 sk sl = AR := ⟨_, rfl⟩
    obtain ⟨ak, al, ae⟩ := AR
    have hx0 := hx _ (List.mem_cons_self ..)
    dsimp only at hx0
    have hz : ∀ N, rOK (0, [], false) N := fun N => ⟨by simp, by simp, by simp⟩
    by_cases hse : se = 0
    · subst hse
      by_cases hae : ae = 0
      · subst hae
        have hgo := cbF_go (t := t) (cbS_3 (eq := eq) hSR hAR)
        rw [hgo]
        have s1 := scl_rng (b := b) (k := k) (xs := xs) hx0.2
        rw [hSR] at s1
        have a1 := adR_rng (k := r.1) (k' := sk) (xs := r.2.1) (ys := sl) (fun m hm => (hr.2.2 m hm).1) (fun m hm => (s1.2.2 m hm).1)
        rw [hAR] at a1
        dsimp only at s1 a1
        have h1 := hr.1
        have ih := cbF_rng t (ak, al, r.2.2 && (eq || b == 0)) (n + 40) ⟨by dsimp only; omega, a1.2.1, a1.2.2⟩ (fun y hy => hx y (List.mem_cons_of_mem _ hy))
        rw [List.length_cons]
        exact ⟨Nat.le_trans ih.1 (by omega), ih.2⟩
      · rw [cbF_err (t := t) (cbS_2 (eq := eq) hSR hAR hae) hae]
        exact hz _
    · rw [cbF_err (t := t) (cbS_1 (r := r) (eq := eq) hSR hse) hse]
      exact hz _
theorem cbR_rng {l : List Qm} {bs : List Int} (hl : l.length ≤ 60) (hx : ∀ f ∈ l, f.2.1.length ≤ 40 ∧ ∀ m ∈ f.2.1, m.1.size ≤ maxLen) : rOK (cbR l bs).1 2400 := by
  unfold cbR
  split
  · exact ⟨by simp, by simp, by simp⟩
  · split
    · exact ⟨by simp, by simp, by simp⟩
    · have h := cbF_rng (l.zip bs) (0, [], true) 0 ⟨by simp, by simp, by simp⟩ (fun x hx2 => hx _ (List.of_mem_zip hx2).1)
      rw [List.length_zip] at h
      have : min l.length bs.length ≤ l.length := Nat.min_le_left _ _
      exact ⟨Nat.le_trans h.1 (by omega), h.2⟩
end Go.Proofs.YtbicmlkjonaccaaDoor.Ln


namespace Go.Proofs.YtbicmlkjonaccaaDoor.Ln
open Go.ChangeShapes Go.WideShapes Go.ChangeAt Go.RowKit
open Go.Proofs.YtbicmlkjonaccaaDoor.Nm
set_option linter.unusedVariables false
set_option linter.unusedSimpArgs false
set_option maxRecDepth 8000

theorem cmb1s (p : Option Addr) (l : List Qm) (c : Nat) (q : Option Addr) (bs : List Int) (d : Nat) (w : World) (hl : l.length ≤ 60) (hb' : bs.length ≤ maxLen) (RA : Hid (SlQ w p l)) (RB : Hid (SlJ w q bs)) (QK : Hid (∀ f ∈ l, f.2.1.length ≤ 40 ∧ (-9223372036854775808 ≤ f.1 ∧ f.1 ≤ 9223372036854775807) ∧ ∀ m ∈ f.2.1, m.1.size ≤ maxLen ∧ -9223372036854775808 ≤ m.2 ∧ m.2 ≤ 9223372036854775807)) (BK : Hid (∀ z ∈ bs, -9223372036854775808 ≤ z ∧ z ≤ 9223372036854775807)) : Calls Tryd.prog 34 #[.slice p l.length c, .slice q bs.length d] w (CbW (cbR l bs) w) := by
  by_cases he : l.length = bs.length
  · exact cmb_eq p l c q bs d w hl hb' RA RB QK BK he
  · rw [show cbR l bs = ((0, [], false), 1) by unfold cbR; rw [if_pos he]]
    exact cmb_len p l c q bs d w hl hb' RA RB QK BK he

end Go.Proofs.YtbicmlkjonaccaaDoor.Ln


namespace Go.Proofs.YtbicmlkjonaccaaDoor.Ln
open Go.ChangeShapes Go.WideShapes Go.ChangeAt Go.RowKit
open Go.Proofs.YtbicmlkjonaccaaDoor.Nm
set_option linter.unusedVariables false
set_option linter.unusedSimpArgs false
set_option maxRecDepth 8000

theorem okQ_ofb {l : List Qm} (h : argQ l) (hs : ∀ f ∈ l, f.2.1.length ≤ 40) : ∀ f ∈ l, okQ f := fun f hf => ⟨Nat.le_trans (hs f hf) (by decide), (h f hf).1, fun i hi => (h f hf).2.2 _ (getD_memS hi)⟩
set_option maxRecDepth 100000 in
set_option maxHeartbeats 8000000 in
theorem law_csound (p : Option Addr) (l : List Qm) (c : Nat) (q : Option Addr) (bs : List Int) (d : Nat) (r : Option Addr) (es : List Mo) (d' : Nat) (w : World) (hn : l.length ≤ maxLen) (hb' : bs.length ≤ maxLen) (hm : es.length ≤ maxLen) (RA : Hid (SlQ w p l)) (RB : Hid (SlJ w q bs)) (RE : Hid (SlM w r es)) (AQ : Hid (argQ l)) (BK : Hid (∀ z ∈ bs, -9223372036854775808 ≤ z ∧ z ≤ 9223372036854775807))
    (RT : Hid (∀ i, i < es.length → (es.getD i mo0).1.size ≤ maxLen ∧ -9223372036854775808 ≤ (es.getD i mo0).2 ∧ (es.getD i mo0).2 ≤ 9223372036854775807)) (hL : Hid (∀ w', Below w.heap.size w w' → LA w')) :
    Calls Tryd.prog 10 #[.slice p l.length c, .slice q bs.length d, .slice r es.length d'] w fun e w' => e = .returned (.bool true) ∧ Below w.heap.size w w' := by
  have SM := Lib.hid (small6 p l c 60 w hn (Lib.hid fun f hf => (AQ.out f hf).2.1) (by decide) RA)
  have EX := Lib.hid fun w h => exam6 w h
  have KX : Hid (Below w.heap.size w w) := Lib.hid (Below.refl _ _)
  have HM9 := Lib.hid hm
  unfold maxLen at hm
  cases hsm : smQ 60 l
  · rw [hsm] at SM
    clear hsm
    go_enter Tryd.func10, Tryd.ntmps10
    go_wp2_with (first | (go_at_call 20; refine SM.out.mono ?_; rintro e w9 ⟨rfl, rfl⟩) | (go_at_call 21; (with_reducible refine (EX.out _ (Lib.hid fun w' h => hL.out _ (KX.out.trans (h.mono KX.out.size)))).mono ?_); rintro e wx ⟨rfl, hbx⟩))
    go_ret
    exact ⟨rfl, hbx⟩
  · have HB := smQ_bd hsm
    rw [hsm] at SM
    clear hsm
    by_cases he : 100 < es.length
    · have he1 : (100 : Int) < es.length := by omega
      clear HB
      go_enter Tryd.func10, Tryd.ntmps10
      go_wp2_with (first | (go_at_call 20; refine SM.out.mono ?_; rintro e w9 ⟨rfl, rfl⟩) | (go_at_call 21; (with_reducible refine (EX.out _ (Lib.hid fun w' h => hL.out _ (KX.out.trans (h.mono KX.out.size)))).mono ?_); rintro e wx ⟨rfl, hbx⟩))
      go_ret
      exact ⟨rfl, hbx⟩
    · have he1 : ¬ (100 : Int) < es.length := by omega
      have QK := Lib.hid (fun f hf => ⟨HB.2 f hf, (AQ.out f hf).1, (AQ.out f hf).2.2⟩ : ∀ f ∈ l, f.2.1.length ≤ 40 ∧ (-9223372036854775808 ≤ f.1 ∧ f.1 ≤ 9223372036854775807) ∧ ∀ m ∈ f.2.1, m.1.size ≤ maxLen ∧ -9223372036854775808 ≤ m.2 ∧ m.2 ≤ 9223372036854775807)
      have N1 := Lib.hid fun w h1 h2 => cmb1s p l c q bs d w HB.1 hb' h1 h2 QK BK
      have N2 := Lib.hid fun w h1 h2 => fv2 p l c r es d' w (Nat.le_trans HB.1 (by decide)) HM9.out h1 h2 RT (Lib.hid (okQ_ofb AQ.out HB.2))
      have hrng := cbR_rng (bs := bs) HB.1 (fun f hf => ⟨HB.2 f hf, fun m hm => ((AQ.out f hf).2.2 m hm).1⟩)
      have hsd := Lib.hid (cb_sound (es := es) (l := l) (bs := bs))
      have HL60 := Lib.hid HB.1
      obtain ⟨R, hR⟩ : ∃ R, cbR l bs = R := ⟨_, rfl⟩
      obtain ⟨⟨x, f⟩, hF⟩ : ∃ R, fvF es l = R := ⟨_, rfl⟩
      rw [hR] at N1 hrng hsd
      rw [hF] at N2 hsd
      obtain ⟨⟨a, ys, eq2⟩, er⟩ := R
      dsimp only at hrng N2 hsd
      have HC := Lib.hid fun p c w h1 h2 => holds2 a p ys c eq2 r es d' w (Nat.le_trans hrng.1 (by decide)) HM9.out h1 h2 (Lib.hid hrng.get) RT hrng.2.1.1 hrng.2.1.2
      obtain ⟨⟨v, g⟩, hV⟩ : ∃ R, hvF a ys eq2 es = R := ⟨_, rfl⟩
      rw [hV] at HC hsd
      dsimp only at HC hsd
      obtain ⟨n, hnn⟩ : ∃ n, l.length = n := ⟨_, rfl⟩
      rw [hnn] at SM N1 N2 hsd ⊢
      unfold CbW at N1
      unfold Cv at *
      dsimp only at N1
      clear hR hF hV HB hn hrng hnn
      by_cases h0 : er = 0
      · subst h0
        by_cases hf : f = 0
        · subst hf
          by_cases hx : x < n
          · have hx1 : decide (x < (n : Int)) = true := by simpa using hx
            clear hsd
            go_enter Tryd.func10, Tryd.ntmps10
            go_wp2_with (first | (go_at_call 20; refine SM.out.mono ?_; rintro e w9 ⟨rfl, rfl⟩) | (go_at_call 34; (with_reducible refine (N1.out _ RA RB).mono ?_); rintro e w1 ⟨p1, c1, rfl, S1, hb1⟩; (try unfold Cv); (try dsimp only at S1 ⊢); have KA := Lib.hid (hb1.alloc hb1.size (Obj.cells #[Value.int .i64 a, Value.slice p1 ys.length c1, Value.bool eq2] 36)); have BA1 : Below w1.heap.size w1 (w1.alloc (Obj.cells #[Value.int .i64 a, Value.slice p1 ys.length c1, Value.bool eq2] 36)) := (Below.refl _ _).alloc (Nat.le_refl _) _; have SO := Lib.hid (SlM.keep BA1 S1)) | (go_at_call 27; (with_reducible refine (N2.out _ (Lib.hid (SlQ.keep KA.out RA.out)) (Lib.hid (SlM.keep KA.out RE.out))).mono ?_); rintro e w2 ⟨rfl, hb2⟩; have y0 : w2.cell? ⟨w1.heap.size, 0, none⟩ = some (.int .i64 a) := Rg.keep hb2 (by simp) (by go_cell); have y1 : w2.cell? ⟨w1.heap.size, 1, none⟩ = some (.slice p1 ys.length c1) := Rg.keep hb2 (by simp) (by go_cell); have y2 : w2.cell? ⟨w1.heap.size, 2, none⟩ = some (.bool eq2) := Rg.keep hb2 (by simp) (by go_cell); have KB := Lib.hid (KA.out.trans (hb2.mono KA.out.size)); have SA := Lib.hid (SlM.keep hb2 SO.out)) | (go_at_call 21; (with_reducible refine (EX.out _ (Lib.hid fun w' h => hL.out _ (KB.out.trans (h.mono KB.out.size)))).mono ?_); rintro e wx ⟨rfl, hbx⟩))
            go_ret
            exact ⟨rfl, KB.out.trans (hbx.mono KB.out.size)⟩
          · have hx1 : decide (x < (n : Int)) = false := by simpa using hx
            by_cases hg : g = 0
            · subst hg
              obtain rfl := hsd.out rfl rfl hx rfl
              clear hsd
              go_enter Tryd.func10, Tryd.ntmps10
              go_wp2_with (first | (go_at_call 20; refine SM.out.mono ?_; rintro e w9 ⟨rfl, rfl⟩) | (go_at_call 34; (with_reducible refine (N1.out _ RA RB).mono ?_); rintro e w1 ⟨p1, c1, rfl, S1, hb1⟩; (try unfold Cv); (try dsimp only at S1 ⊢); have KA := Lib.hid (hb1.alloc hb1.size (Obj.cells #[Value.int .i64 a, Value.slice p1 ys.length c1, Value.bool eq2] 36)); have BA1 : Below w1.heap.size w1 (w1.alloc (Obj.cells #[Value.int .i64 a, Value.slice p1 ys.length c1, Value.bool eq2] 36)) := (Below.refl _ _).alloc (Nat.le_refl _) _; have SO := Lib.hid (SlM.keep BA1 S1)) | (go_at_call 27; (with_reducible refine (N2.out _ (Lib.hid (SlQ.keep KA.out RA.out)) (Lib.hid (SlM.keep KA.out RE.out))).mono ?_); rintro e w2 ⟨rfl, hb2⟩; have y0 : w2.cell? ⟨w1.heap.size, 0, none⟩ = some (.int .i64 a) := Rg.keep hb2 (by simp) (by go_cell); have y1 : w2.cell? ⟨w1.heap.size, 1, none⟩ = some (.slice p1 ys.length c1) := Rg.keep hb2 (by simp) (by go_cell); have y2 : w2.cell? ⟨w1.heap.size, 2, none⟩ = some (.bool eq2) := Rg.keep hb2 (by simp) (by go_cell); have KB := Lib.hid (KA.out.trans (hb2.mono KA.out.size)); have SA := Lib.hid (SlM.keep hb2 SO.out)) | (go_at_call 23; (with_reducible refine (HC.out p1 c1 _ SA (Lib.hid (SlM.keep KB.out RE.out))).mono ?_); rintro e w3 ⟨rfl, hb3⟩; have KC := Lib.hid (KB.out.trans (hb3.mono KB.out.size))) | (go_at_call 21; (with_reducible refine (EX.out _ (Lib.hid fun w' h => hL.out _ (KC.out.trans (h.mono KC.out.size)))).mono ?_); rintro e wx ⟨rfl, hbx⟩))
              go_ret
              exact ⟨rfl, KC.out.trans (hbx.mono KC.out.size)⟩
            · have g0 : (g == 0) = false := by simpa using hg
              have g1 : (g != 0) = true := by simpa using hg
              clear hsd hg
              go_enter Tryd.func10, Tryd.ntmps10
              go_wp2_with (first | (go_at_call 20; refine SM.out.mono ?_; rintro e w9 ⟨rfl, rfl⟩) | (go_at_call 34; (with_reducible refine (N1.out _ RA RB).mono ?_); rintro e w1 ⟨p1, c1, rfl, S1, hb1⟩; (try unfold Cv); (try dsimp only at S1 ⊢); have KA := Lib.hid (hb1.alloc hb1.size (Obj.cells #[Value.int .i64 a, Value.slice p1 ys.length c1, Value.bool eq2] 36)); have BA1 : Below w1.heap.size w1 (w1.alloc (Obj.cells #[Value.int .i64 a, Value.slice p1 ys.length c1, Value.bool eq2] 36)) := (Below.refl _ _).alloc (Nat.le_refl _) _; have SO := Lib.hid (SlM.keep BA1 S1)) | (go_at_call 27; (with_reducible refine (N2.out _ (Lib.hid (SlQ.keep KA.out RA.out)) (Lib.hid (SlM.keep KA.out RE.out))).mono ?_); rintro e w2 ⟨rfl, hb2⟩; have y0 : w2.cell? ⟨w1.heap.size, 0, none⟩ = some (.int .i64 a) := Rg.keep hb2 (by simp) (by go_cell); have y1 : w2.cell? ⟨w1.heap.size, 1, none⟩ = some (.slice p1 ys.length c1) := Rg.keep hb2 (by simp) (by go_cell); have y2 : w2.cell? ⟨w1.heap.size, 2, none⟩ = some (.bool eq2) := Rg.keep hb2 (by simp) (by go_cell); have KB := Lib.hid (KA.out.trans (hb2.mono KA.out.size)); have SA := Lib.hid (SlM.keep hb2 SO.out)) | (go_at_call 23; (with_reducible refine (HC.out p1 c1 _ SA (Lib.hid (SlM.keep KB.out RE.out))).mono ?_); rintro e w3 ⟨rfl, hb3⟩; have KC := Lib.hid (KB.out.trans (hb3.mono KB.out.size))) | (go_at_call 21; (with_reducible refine (EX.out _ (Lib.hid fun w' h => hL.out _ (KC.out.trans (h.mono KC.out.size)))).mono ?_); rintro e wx ⟨rfl, hbx⟩))
              go_ret
              exact ⟨rfl, KC.out.trans (hbx.mono KC.out.size)⟩
        · have g0 : (f == 0) = false := by simpa using hf
          have g1 : (f != 0) = true := by simpa using hf
          clear hsd hf
          go_enter Tryd.func10, Tryd.ntmps10
          go_wp2_with (first | (go_at_call 20; refine SM.out.mono ?_; rintro e w9 ⟨rfl, rfl⟩) | (go_at_call 34; (with_reducible refine (N1.out _ RA RB).mono ?_); rintro e w1 ⟨p1, c1, rfl, S1, hb1⟩; (try unfold Cv); (try dsimp only at S1 ⊢); have KA := Lib.hid (hb1.alloc hb1.size (Obj.cells #[Value.int .i64 a, Value.slice p1 ys.length c1, Value.bool eq2] 36)); have BA1 : Below w1.heap.size w1 (w1.alloc (Obj.cells #[Value.int .i64 a, Value.slice p1 ys.length c1, Value.bool eq2] 36)) := (Below.refl _ _).alloc (Nat.le_refl _) _; have SO := Lib.hid (SlM.keep BA1 S1)) | (go_at_call 27; (with_reducible refine (N2.out _ (Lib.hid (SlQ.keep KA.out RA.out)) (Lib.hid (SlM.keep KA.out RE.out))).mono ?_); rintro e w2 ⟨rfl, hb2⟩; have y0 : w2.cell? ⟨w1.heap.size, 0, none⟩ = some (.int .i64 a) := Rg.keep hb2 (by simp) (by go_cell); have y1 : w2.cell? ⟨w1.heap.size, 1, none⟩ = some (.slice p1 ys.length c1) := Rg.keep hb2 (by simp) (by go_cell); have y2 : w2.cell? ⟨w1.heap.size, 2, none⟩ = some (.bool eq2) := Rg.keep hb2 (by simp) (by go_cell); have KB := Lib.hid (KA.out.trans (hb2.mono KA.out.size)); have SA := Lib.hid (SlM.keep hb2 SO.out)) | (go_at_call 21; (with_reducible refine (EX.out _ (Lib.hid fun w' h => hL.out _ (KB.out.trans (h.mono KB.out.size)))).mono ?_); rintro e wx ⟨rfl, hbx⟩))
          go_ret
          exact ⟨rfl, KB.out.trans (hbx.mono KB.out.size)⟩
      · have g0 : (er == 0) = false := by simpa using h0
        have g1 : (er != 0) = true := by simpa using h0
        clear hsd h0
        go_enter Tryd.func10, Tryd.ntmps10
        go_wp2_with (first | (go_at_call 20; refine SM.out.mono ?_; rintro e w9 ⟨rfl, rfl⟩) | (go_at_call 34; (with_reducible refine (N1.out _ RA RB).mono ?_); rintro e w1 ⟨p1, c1, rfl, S1, hb1⟩; (try unfold Cv); (try dsimp only at S1 ⊢); have KA := Lib.hid (hb1.alloc hb1.size (Obj.cells #[Value.int .i64 a, Value.slice p1 ys.length c1, Value.bool eq2] 36)); have BA1 : Below w1.heap.size w1 (w1.alloc (Obj.cells #[Value.int .i64 a, Value.slice p1 ys.length c1, Value.bool eq2] 36)) := (Below.refl _ _).alloc (Nat.le_refl _) _; have SO := Lib.hid (SlM.keep BA1 S1)) | (go_at_call 27; (with_reducible refine (N2.out _ (Lib.hid (SlQ.keep KA.out RA.out)) (Lib.hid (SlM.keep KA.out RE.out))).mono ?_); rintro e w2 ⟨rfl, hb2⟩; have y0 : w2.cell? ⟨w1.heap.size, 0, none⟩ = some (.int .i64 a) := Rg.keep hb2 (by simp) (by go_cell); have y1 : w2.cell? ⟨w1.heap.size, 1, none⟩ = some (.slice p1 ys.length c1) := Rg.keep hb2 (by simp) (by go_cell); have y2 : w2.cell? ⟨w1.heap.size, 2, none⟩ = some (.bool eq2) := Rg.keep hb2 (by simp) (by go_cell); have KB := Lib.hid (KA.out.trans (hb2.mono KA.out.size)); have SA := Lib.hid (SlM.keep hb2 SO.out)) | (go_at_call 21; (with_reducible refine (EX.out _ (Lib.hid fun w' h => hL.out _ (KB.out.trans (h.mono KB.out.size)))).mono ?_); rintro e wx ⟨rfl, hbx⟩))
        go_ret
        exact ⟨rfl, KB.out.trans (hbx.mono KB.out.size)⟩
end Go.Proofs.YtbicmlkjonaccaaDoor.Ln
