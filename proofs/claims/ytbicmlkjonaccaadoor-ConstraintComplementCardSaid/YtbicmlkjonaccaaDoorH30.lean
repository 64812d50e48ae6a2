/- Holds of both. -/
import Derived.Test.YtbicmlkjonaccaaDoorH3
import Derived.Test.YtbicmlkjonaccaaDoorH23
import Derived.Test.YtbicmlkjonaccaaDoorY36
import Derived.Test.YtbicmlkjonaccaaDoorH26
import Derived.Test.YtbicmlkjonaccaaDoorH12

namespace Go.Proofs.YtbicmlkjonaccaaDoor.Ln
open Go.ChangeShapes Go.WideShapes Go.ChangeAt Go.RowKit
open Go.Proofs.YtbicmlkjonaccaaDoor.Nm
set_option linter.unusedVariables false
set_option linter.unusedSimpArgs false
set_option maxRecDepth 8000

/-- The value of a form, or the error. -/
def evF (k : Int) (xs es : List Mo) : Int × Int :=
  if okL xs = false then (0, 1) else if (xs.all fun m => (es.map (·.1)).any fun s => s.toList == m.1.toList) = false then (0, 9)
  else if fit64 (k + evS es xs) = true then (k + evS es xs, 0) else (0, 3)
theorem evF_EV (k : Int) (xs es : List Mo) : EV k xs es (evF k xs es).1 (evF k xs es).2 := by
  unfold evF
  cases ho : okL xs
  · exact .inl ⟨ho, by simp, by simp⟩
  · cases ha : (xs.all fun m => (es.map (·.1)).any fun s => s.toList == m.1.toList)
    · refine .inr (.inl ⟨ho, ?_, by simp, by simp⟩)
      rw [List.all_eq_false] at ha
      obtain ⟨m, hm, h⟩ := ha
      exact ⟨m, hm, fun hin => h (any_yes hin)⟩
    · have hall : ∀ m ∈ xs, m.1 ∈ es.map (·.1) := fun m hm => by
        have h := List.all_eq_true.1 ha m hm
        by_cases hin : m.1 ∈ es.map (·.1)
        · exact hin
        · rw [any_no hin] at h; cases h
      cases hf : fit64 (k + evS es xs)
      · exact .inr (.inr (.inr ⟨ho, hall, hf, by simp, by simp⟩))
      · exact .inr (.inr (.inl ⟨ho, hall, hf, by simp, by simp⟩))
theorem evF_er (k : Int) (xs es : List Mo) : (evF k xs es).2 = 0 ∨ (evF k xs es).2 = 1 ∨ (evF k xs es).2 = 9 ∨ (evF k xs es).2 = 3 := by
  unfold evF
  split
  · simp
  · split
    · simp
    · split <;> simp
/-- Whether a constraint holds, and the error. -/
def hvF (k : Int) (xs : List Mo) (eq : Bool) (es : List Mo) : Bool × Int := (if (evF k xs es).2 = 0 then hB (evF k xs es).1 eq else false, (evF k xs es).2)
theorem ev1 (k : Int) (p : Option Addr) (xs : List Mo) (c : Nat) (q : Option Addr) (es : List Mo) (d : Nat) (w : World) (hn : xs.length ≤ 1000) (hm : es.length ≤ maxLen) (RA : Hid (SlM w p xs)) (RB : Hid (SlM w q es)) (RS : Hid (∀ i, i < xs.length → (xs.getD i mo0).1.size ≤ maxLen ∧ -9223372036854775808 ≤ (xs.getD i mo0).2 ∧ (xs.getD i mo0).2 ≤ 9223372036854775807)) (RT : Hid (∀ i, i < es.length → (es.getD i mo0).1.size ≤ maxLen ∧ -9223372036854775808 ≤ (es.getD i mo0).2 ∧ (es.getD i mo0).2 ≤ 9223372036854775807)) (k1 : -9223372036854775808 ≤ k) (k2 : k ≤ 9223372036854775807) :
    Calls Tryd.prog 41 #[Lv k p xs.length c, .slice q es.length d] w fun e w' => e = .returned (.tuple #[.int .i64 (evF k xs es).1, .int .i64 (evF k xs es).2]) ∧ Below w.heap.size w w' :=
  (eval1 k p xs c q es d w hn hm RA RB RS RT k1 k2).mono fun e w' ⟨x, er, he, hE, hb⟩ => by
    obtain ⟨rfl, rfl⟩ := EV_one hE (evF_EV k xs es)
    exact ⟨he, hb⟩
theorem ev2 (k : Int) (p : Option Addr) (xs : List Mo) (c : Nat) (q : Option Addr) (es : List Mo) (d : Nat) (w : World) (hn : xs.length ≤ 1000) (hm : es.length ≤ maxLen) (RA : Hid (SlM w p xs)) (RB : Hid (SlM w q es)) (RS : Hid (∀ i, i < xs.length → (xs.getD i mo0).1.size ≤ maxLen ∧ -9223372036854775808 ≤ (xs.getD i mo0).2 ∧ (xs.getD i mo0).2 ≤ 9223372036854775807)) (RT : Hid (∀ i, i < es.length → (es.getD i mo0).1.size ≤ maxLen ∧ -9223372036854775808 ≤ (es.getD i mo0).2 ∧ (es.getD i mo0).2 ≤ 9223372036854775807)) (k1 : -9223372036854775808 ≤ k) (k2 : k ≤ 9223372036854775807) :
    Calls Tryd.prog 55 #[Lv k p xs.length c, .slice q es.length d] w fun e w' => e = .returned (.tuple #[.int .i64 (evF k xs es).1, .int .i64 (evF k xs es).2]) ∧ Below w.heap.size w w' :=
  (eval2 k p xs c q es d w hn hm RA RB RS RT k1 k2).mono fun e w' ⟨x, er, he, hE, hb⟩ => by
    obtain ⟨rfl, rfl⟩ := EV_one hE (evF_EV k xs es)
    exact ⟨he, hb⟩

set_option maxHeartbeats 4000000 in
theorem holds1 (k : Int) (p : Option Addr) (xs : List Mo) (c : Nat) (eq : Bool) (q : Option Addr) (es : List Mo) (d : Nat) (w : World) (hn : xs.length ≤ 1000) (hm : es.length ≤ maxLen) (RA : Hid (SlM w p xs)) (RB : Hid (SlM w q es)) (RS : Hid (∀ i, i < xs.length → (xs.getD i mo0).1.size ≤ maxLen ∧ -9223372036854775808 ≤ (xs.getD i mo0).2 ∧ (xs.getD i mo0).2 ≤ 9223372036854775807)) (RT : Hid (∀ i, i < es.length → (es.getD i mo0).1.size ≤ maxLen ∧ -9223372036854775808 ≤ (es.getD i mo0).2 ∧ (es.getD i mo0).2 ≤ 9223372036854775807)) (k1 : -9223372036854775808 ≤ k) (k2 : k ≤ 9223372036854775807) :
    Calls Tryd.prog 22 #[Cv k p xs.length c eq, .slice q es.length d] w fun e w' => e = .returned (.tuple #[.bool (hvF k xs eq es).1, .int .i64 (hvF k xs eq es).2]) ∧ Below w.heap.size w w' := by
  have EC := Lib.hid fun w h1 h2 => ev1 k p xs c q es d w hn hm h1 h2 RS RT k1 k2
  have B0 : Below w.heap.size w (w.alloc (Obj.cells #[Value.int .i64 k, Value.slice p xs.length c, Value.bool eq] 36)) := (Below.refl _ _).alloc (Nat.le_refl _) _
  have RA2 := Lib.hid (SlM.keep B0 RA.out)
  have RB2 := Lib.hid (SlM.keep B0 RB.out)
  unfold hvF
  generalize evF k xs es = r at *
  obtain ⟨x, er⟩ := r
  dsimp only at EC ⊢
  by_cases h0 : er = 0
  · subst h0
    rw [if_pos rfl]
    have HC := Lib.hid fun w => holdsF k p xs.length c eq x w
    unfold Cv Lv at *
    go_enter Tryd.func22, Tryd.ntmps22
    go_wp2_with (first | (go_at_call 41; (with_reducible refine (EC.out _ RA2 RB2).mono ?_); rintro e w1 ⟨rfl, hb1⟩; have hc1 := (Rg.bcell hb1).1; have hf1 := (Rg.bcell hb1).2; have z1_0 : w.heap.size < w1.heap.size := (by have hzz := hb1.size; (try simp at hzz); omega); have K1 : Below w.heap.size w w1 := Below.trans (b := _) (by (repeat' (first | (with_reducible exact Below.refl _ _) | (with_reducible refine Below.alloc ?_ ?_ _) | (with_reducible refine Below.setCell ?_ ?_ _) | (with_reducible refine below_drewN ?_ _) | (simp; done) | omega | (simp; omega)))) (hb1.mono (by have hzz := hb1.size; (try simp at hzz); first | omega | (simp; done) | (simp; omega)))) | (go_at_call 54; (with_reducible refine (HC.out _).mono ?_); rintro e w2 ⟨rfl, hb2⟩; have hc2 := (Rg.bcell hb2).1; have hf2 := (Rg.bcell hb2).2; have z2_0 : w.heap.size < w2.heap.size := (by have hzz := hb2.size; (try simp at hzz); omega); have K2 : Below w.heap.size w w2 := Below.trans (b := _) (by (repeat' (first | (with_reducible exact Below.refl _ _) | (with_reducible exact K1) | (with_reducible exact K1.size) | (with_reducible refine Below.alloc ?_ ?_ _) | (with_reducible refine Below.setCell ?_ ?_ _) | (with_reducible refine below_drewN ?_ _) | (simp; done) | omega | (simp; omega)))) (hb2.mono (by have hzz := hb2.size; (try simp at hzz); first | omega | (simp; done) | (simp; omega)))))
    go_ret2
    exact ⟨rfl, K2⟩
  · have g0 : (er == 0) = false := by simpa using h0
    have g1 : (er != 0) = true := by simpa using h0
    rw [if_neg h0]
    clear h0
    unfold Cv Lv at *
    go_enter Tryd.func22, Tryd.ntmps22
    go_wp2_with (first | (go_at_call 41; (with_reducible refine (EC.out _ RA2 RB2).mono ?_); rintro e w1 ⟨rfl, hb1⟩; have hc1 := (Rg.bcell hb1).1; have hf1 := (Rg.bcell hb1).2; have z1_0 : w.heap.size < w1.heap.size := (by have hzz := hb1.size; (try simp at hzz); omega); have K1 : Below w.heap.size w w1 := Below.trans (b := _) (by (repeat' (first | (with_reducible exact Below.refl _ _) | (with_reducible refine Below.alloc ?_ ?_ _) | (with_reducible refine Below.setCell ?_ ?_ _) | (with_reducible refine below_drewN ?_ _) | (simp; done) | omega | (simp; omega)))) (hb1.mono (by have hzz := hb1.size; (try simp at hzz); first | omega | (simp; done) | (simp; omega)))))
    go_ret2
    exact ⟨rfl, K1⟩

set_option maxHeartbeats 4000000 in
theorem holds2 (k : Int) (p : Option Addr) (xs : List Mo) (c : Nat) (eq : Bool) (q : Option Addr) (es : List Mo) (d : Nat) (w : World) (hn : xs.length ≤ 1000) (hm : es.length ≤ maxLen) (RA : Hid (SlM w p xs)) (RB : Hid (SlM w q es)) (RS : Hid (∀ i, i < xs.length → (xs.getD i mo0).1.size ≤ maxLen ∧ -9223372036854775808 ≤ (xs.getD i mo0).2 ∧ (xs.getD i mo0).2 ≤ 9223372036854775807)) (RT : Hid (∀ i, i < es.length → (es.getD i mo0).1.size ≤ maxLen ∧ -9223372036854775808 ≤ (es.getD i mo0).2 ∧ (es.getD i mo0).2 ≤ 9223372036854775807)) (k1 : -9223372036854775808 ≤ k) (k2 : k ≤ 9223372036854775807) :
    Calls Tryd.prog 23 #[Cv k p xs.length c eq, .slice q es.length d] w fun e w' => e = .returned (.tuple #[.bool (hvF k xs eq es).1, .int .i64 (hvF k xs eq es).2]) ∧ Below w.heap.size w w' := by
  have EC := Lib.hid fun w h1 h2 => ev2 k p xs c q es d w hn hm h1 h2 RS RT k1 k2
  have B0 : Below w.heap.size w (w.alloc (Obj.cells #[Value.int .i64 k, Value.slice p xs.length c, Value.bool eq] 36)) := (Below.refl _ _).alloc (Nat.le_refl _) _
  have RA2 := Lib.hid (SlM.keep B0 RA.out)
  have RB2 := Lib.hid (SlM.keep B0 RB.out)
  unfold hvF
  generalize evF k xs es = r at *
  obtain ⟨x, er⟩ := r
  dsimp only at EC ⊢
  by_cases h0 : er = 0
  · subst h0
    rw [if_pos rfl]
    unfold hB
    unfold Cv Lv at *
    by_cases h0 : x = 0
    · subst h0
      go_enter Tryd.func23, Tryd.ntmps23
      go_wp2_with (first | (go_at_call 55; (with_reducible refine (EC.out _ RA2 RB2).mono ?_); rintro e w1 ⟨rfl, hb1⟩; have hc1 := (Rg.bcell hb1).1; have hf1 := (Rg.bcell hb1).2; have z1_0 : w.heap.size < w1.heap.size := (by have hzz := hb1.size; (try simp at hzz); omega); have K1 : Below w.heap.size w w1 := Below.trans (b := _) (by (repeat' (first | (with_reducible exact Below.refl _ _) | (with_reducible refine Below.alloc ?_ ?_ _) | (with_reducible refine Below.setCell ?_ ?_ _) | (with_reducible refine below_drewN ?_ _) | (simp; done) | omega | (simp; omega)))) (hb1.mono (by have hzz := hb1.size; (try simp at hzz); first | omega | (simp; done) | (simp; omega)))))
      go_ret2
      exact ⟨by simp, K1⟩
    · have g0 : (x == 0) = false := by simpa using h0
      by_cases h1 : 0 < x
      · have g1 : decide (0 < x) = true := by simpa using h1
        rw [g0, g1]
        cases eq
        all_goals
          go_enter Tryd.func23, Tryd.ntmps23
          go_wp2_with (first | (go_at_call 55; (with_reducible refine (EC.out _ RA2 RB2).mono ?_); rintro e w1 ⟨rfl, hb1⟩; have hc1 := (Rg.bcell hb1).1; have hf1 := (Rg.bcell hb1).2; have z1_0 : w.heap.size < w1.heap.size := (by have hzz := hb1.size; (try simp at hzz); omega); have K1 : Below w.heap.size w w1 := Below.trans (b := _) (by (repeat' (first | (with_reducible exact Below.refl _ _) | (with_reducible refine Below.alloc ?_ ?_ _) | (with_reducible refine Below.setCell ?_ ?_ _) | (with_reducible refine below_drewN ?_ _) | (simp; done) | omega | (simp; omega)))) (hb1.mono (by have hzz := hb1.size; (try simp at hzz); first | omega | (simp; done) | (simp; omega)))))
          go_ret2
          exact ⟨by simp, K1⟩
      · have g1 : decide (0 < x) = false := by simpa using h1
        rw [g0, g1]
        clear h0 h1
        go_enter Tryd.func23, Tryd.ntmps23
        go_wp2_with (first | (go_at_call 55; (with_reducible refine (EC.out _ RA2 RB2).mono ?_); rintro e w1 ⟨rfl, hb1⟩; have hc1 := (Rg.bcell hb1).1; have hf1 := (Rg.bcell hb1).2; have z1_0 : w.heap.size < w1.heap.size := (by have hzz := hb1.size; (try simp at hzz); omega); have K1 : Below w.heap.size w w1 := Below.trans (b := _) (by (repeat' (first | (with_reducible exact Below.refl _ _) | (with_reducible refine Below.alloc ?_ ?_ _) | (with_reducible refine Below.setCell ?_ ?_ _) | (with_reducible refine below_drewN ?_ _) | (simp; done) | omega | (simp; omega)))) (hb1.mono (by have hzz := hb1.size; (try simp at hzz); first | omega | (simp; done) | (simp; omega)))))
        go_ret2
        exact ⟨by simp, K1⟩
  · have g0 : (er == 0) = false := by simpa using h0
    have g1 : (er != 0) = true := by simpa using h0
    rw [if_neg h0]
    clear h0
    unfold Cv Lv at *
    go_enter Tryd.func23, Tryd.ntmps23
    go_wp2_with (first | (go_at_call 55; (with_reducible refine (EC.out _ RA2 RB2).mono ?_); rintro e w1 ⟨rfl, hb1⟩; have hc1 := (Rg.bcell hb1).1; have hf1 := (Rg.bcell hb1).2; have z1_0 : w.heap.size < w1.heap.size := (by have hzz := hb1.size; (try simp at hzz); omega); have K1 : Below w.heap.size w w1 := Below.trans (b := _) (by (repeat' (first | (with_reducible exact Below.refl _ _) | (with_reducible refine Below.alloc ?_ ?_ _) | (with_reducible refine Below.setCell ?_ ?_ _) | (with_reducible refine below_drewN ?_ _) | (simp; done) | omega | (simp; omega)))) (hb1.mono (by have hzz := hb1.size; (try simp at hzz); first | omega | (simp; done) | (simp; omega)))))
    go_ret2
    exact ⟨rfl, K1⟩
end Go.Proofs.YtbicmlkjonaccaaDoor.Ln


namespace Go.Proofs.YtbicmlkjonaccaaDoor.Ln
open Go.ChangeShapes Go.WideShapes Go.ChangeAt Go.RowKit
open Go.Proofs.YtbicmlkjonaccaaDoor.Nm
set_option linter.unusedVariables false
set_option linter.unusedSimpArgs false
set_option maxRecDepth 8000

theorem gcdL_me : ∀ (xs : List Mo) (g : Nat) (m : Mo), m ∈ xs → gcdL g xs ∣ m.2.natAbs
  | [], _, _, h => by cases h
  | x :: r, g, m, h => by
    rcases List.mem_cons.1 h with rfl | h
    · exact Nat.dvd_trans (gcdL_dvd r (Nat.gcd g m.2.natAbs)) (Nat.gcd_dvd_right _ _)
    · exact gcdL_me r _ m h
theorem okL_td {xs : List Mo} {G : Nat} (h : okL xs = true) (hd : ∀ m ∈ xs, G ∣ m.2.natAbs) (g0 : 1 ≤ G) : okL (tdY G xs) = true := by
  obtain ⟨h1, h2⟩ := okL_iff.1 h
  refine okL_iff.2 ⟨?_, fun m hm => ?_⟩
  · rw [show (tdY G xs).map (·.1) = xs.map (·.1) by unfold tdY; rw [List.map_map]; rfl]
    exact h1
  · unfold tdY at hm
    obtain ⟨x, hx, rfl⟩ := List.mem_map.1 hm
    refine ⟨(h2 x hx).1, fun h0 => (h2 x hx).2 ?_⟩
    have hdv : (G : Int) ∣ x.2 := Int.ofNat_dvd_left.2 (hd x hx)
    have h3 := Int.ediv_mul_cancel hdv
    dsimp only at h0
    rw [h0] at h3
    omega
theorem evF_ok {k : Int} {xs es : List Mo} (h : (evF k xs es).2 = 0) : (evF k xs es).1 = k + evS es xs := by
  unfold evF at h ⊢
  split at h
  · simp at h
  · rename_i h1
    rw [if_neg h1]
    split at h
    · simp at h
    · rename_i h2
      rw [if_neg h2]
      split at h
      · rename_i h3
        rw [if_pos h3]
      · simp at h
theorem hvF_ok {k : Int} {xs es : List Mo} {eq : Bool} (h : (hvF k xs eq es).2 = 0) : (hvF k xs eq es).1 = hB (k + evS es xs) eq := by
  have h1 : (evF k xs es).2 = 0 := h
  unfold hvF
  dsimp only
  rw [if_pos h1, evF_ok h1]
theorem evS_div {es : List Mo} {G : Nat} : ∀ (xs : List Mo), (∀ m ∈ xs, (G : Int) ∣ m.2) → evS es xs = (G : Int) * evS es (tdY G xs)
  | [], _ => by simp [evS, tdY]
  | m :: r, h => by
    have ih := evS_div (es := es) (G := G) r (fun x hx => h x (List.mem_cons_of_mem _ hx))
    have hd := Int.mul_ediv_cancel' (h m (by simp))
    show m.2 * co es m.1 + evS es r = (G : Int) * (m.2 / (G : Int) * co es m.1 + evS es (tdY G r))
    rw [ih, Int.mul_add, ← Int.mul_assoc, hd]
theorem evS_scl {es : List Mo} : ∀ (Y : List Mo), (∀ m ∈ Y, fit64 (m.2 * -1) = true) → evS es (sclV (-1) Y) = -evS es Y
  | [], _ => by simp [evS, sclV]
  | m :: r, h => by
    have ih := evS_scl (es := es) r (fun x hx => h x (List.mem_cons_of_mem _ hx))
    have h1 := fit_yes.1 (h m (by simp))
    have e : wrap64 (m.2 * -1) = -m.2 := by unfold wrap64; omega
    show wrap64 (m.2 * -1) * co es m.1 + evS es (sclV (-1) r) = -(m.2 * co es m.1 + evS es r)
    rw [ih, e, Int.neg_mul]
    omega
theorem hB_eq (n : Int) : hB n true = (n == 0) := by unfold hB; simp
theorem hB_ge (n : Int) : hB n false = decide (0 ≤ n) := by
  unfold hB
  rw [Bool.eq_iff_iff]
  simp
  omega
theorem tg_kind (k : Int) (xs : List Mo) (eq : Bool) : (tgR k xs eq).2.2.2.1 = 0 ∨ (tgR k xs eq).2.2.2.1 = 1 ∨ (tgR k xs eq).2.2.2.1 = 2 := by
  unfold tgR
  split
  · simp
  · split
    · split <;> simp
    · split
      · simp
      · split
        · split <;> simp
        · simp
theorem gcd_dv (xs : List Mo) : ∀ m ∈ xs, (gcdL 0 xs : Int) ∣ m.2 := fun m hm => Int.ofNat_dvd_left.2 (gcdL_me xs 0 m hm)
theorem scl_err {by' k : Int} {xs : List Mo} (hok : okL xs = true) : (sclR by' k xs).2.2 = 0 ∨ (sclR by' k xs).2.2 = 3 := by
  unfold sclR
  rw [if_neg (by rw [hok]; decide)]
  split
  · simp
  · split <;> simp
/-- The errors of Tighten. -/
theorem tg_err {k : Int} {xs : List Mo} {eq : Bool} (hb : ∀ i, i < xs.length → -9223372036854775808 ≤ (xs.getD i mo0).2 ∧ (xs.getD i mo0).2 ≤ 9223372036854775807) (h : (tgR k xs eq).2.2.2.2 ≠ 0) : (tgR k xs eq).2.2.2.2 = 3 ∨ ((tgR k xs eq).2.2.2.2 = 1 ∧ vL xs = 1) := by
  unfold tgR at h ⊢
  cases hok : okL xs
  · rw [if_pos rfl]
    exact .inr ⟨rfl, by unfold vL; rw [hok]; rfl⟩
  · rw [hok] at h
    rw [if_neg (by decide)] at h ⊢
    by_cases h0 : xs.length = 0
    · rw [if_pos h0] at h
      split at h <;> simp at h
    · rw [if_neg h0] at h ⊢
      have hokY := okL_td hok (fun m hm => gcdL_me xs 0 m hm) (gcdL_bd hok h0 hb).1
      split at h
      · simp at h
      · rename_i h1
        rw [if_neg h1]
        split at h
        · rename_i h2
          rw [if_pos h2]
          split at h
          · rename_i h3
            rw [if_pos h3]
            rcases scl_err (by' := -1) (k := k / (gcdL 0 xs : Int)) hokY with h4 | h4
            · exact absurd h4 h3
            · exact .inl h4
          · simp at h
        · simp at h
/-- A constraint and its tightened form hold in the same environments. -/
theorem tg_exact {k : Int} {xs : List Mo} {eq : Bool} {es : List Mo} (hb : ∀ i, i < xs.length → -9223372036854775808 ≤ (xs.getD i mo0).2 ∧ (xs.getD i mo0).2 ≤ 9223372036854775807)
    (h : (tgR k xs eq).2.2.2.2 = 0) (f : (hvF k xs eq es).2 = 0) (g : (hvF (tgR k xs eq).1 (tgR k xs eq).2.1 (tgR k xs eq).2.2.1 es).2 = 0) :
    (hvF k xs eq es).1 = (hvF (tgR k xs eq).1 (tgR k xs eq).2.1 (tgR k xs eq).2.2.1 es).1 ∧ ((tgR k xs eq).2.2.2.1 = 1 → (hvF k xs eq es).1 = true) ∧ ((tgR k xs eq).2.2.2.1 = 2 → (hvF k xs eq es).1 = false) := by
  rw [hvF_ok f, hvF_ok g]
  clear f g
  unfold tgR at h ⊢
  cases hok : okL xs
  · rw [hok, if_pos rfl] at h
    simp at h
  · rw [hok] at h
    rw [if_neg (by decide)] at h ⊢
    by_cases h0 : xs.length = 0
    · rw [if_pos h0]
      have hx : xs = [] := List.length_eq_zero_iff.1 h0
      subst hx
      cases hh : hB k eq
      · rw [if_neg (by decide)]
        simp [evS, hh]
        unfold hB
        decide
      · rw [if_pos rfl]
        simp [evS, hh]
        unfold hB
        decide
    · rw [if_neg h0] at h ⊢
      have hg := (gcdL_bd hok h0 hb).1
      have hS := evS_div (es := es) (G := gcdL 0 xs) xs (gcd_dv xs)
      generalize gcdL 0 xs = G at *
      have hG : (0 : Int) < G := by omega
      have hdm := Int.emod_add_mul_ediv k (G : Int)
      have hm0 := Int.emod_nonneg k (show (G : Int) ≠ 0 by omega)
      have hm1 := Int.emod_lt_of_pos k hG
      rw [hS]
      obtain ⟨S, hSS⟩ : ∃ S, evS es (tdY G xs) = S := ⟨_, rfl⟩
      rw [hSS] at hS ⊢
      cases eq
      · rw [if_neg (by simp), if_neg (by simp)]
        dsimp only
        rw [hB_ge, hB_ge, hSS]
        refine ⟨?_, by simp, by simp⟩
        rw [Bool.eq_iff_iff, decide_eq_true_eq, decide_eq_true_eq]
        generalize k / (G : Int) = q at *
        generalize k % (G : Int) = r at *
        have e : k + (G : Int) * S = r + (G : Int) * (q + S) := by rw [Int.mul_add]; omega
        rw [e]
        constructor
        · intro h1
          rcases Int.lt_or_le (q + S) 0 with h2 | h2
          · have h3 : (G : Int) * (q + S) ≤ (G : Int) * (-1) := Int.mul_le_mul_of_nonneg_left (by omega) (by omega)
            omega
          · exact h2
        · intro h1
          have h3 : 0 ≤ (G : Int) * (q + S) := Int.mul_nonneg (by omega) h1
          omega
      · cases hx : (k % (G : Int) == 0)
        · rw [if_pos (by simp)]
          dsimp only
          rw [hB_eq, hB_ge]
          have hne : (k + (G : Int) * S == 0) = false := by
            rw [beq_eq_false_iff_ne] at hx ⊢
            intro h1
            apply hx
            have : k = (G : Int) * (-S) := by rw [Int.mul_neg]; omega
            rw [this]
            exact Int.mul_emod_right _ _
          rw [hne]
          simp [evS]
        · rw [hx, if_neg (by decide)] at h
          rw [if_neg (by decide)]
          have hr : k % (G : Int) = 0 := beq_iff_eq.1 hx
          have e : k + (G : Int) * S = (G : Int) * (k / (G : Int) + S) := by rw [Int.mul_add]; omega
          rw [e]
          have ez : ∀ T : Int, ((G : Int) * T == 0) = (T == 0) := fun T => by
            rw [Bool.eq_iff_iff, beq_iff_eq, beq_iff_eq]
            constructor
            · intro h1
              rcases Int.mul_eq_zero.1 h1 with h2 | h2
              · omega
              · exact h2
            · intro h1; rw [h1, Int.mul_zero]
          split at h
          · rename_i h2
            rw [if_pos h2]
            split at h
            · rename_i h3
              exact absurd h h3
            · rename_i h3
              rw [if_neg h3]
              dsimp only
              rw [hB_eq, hB_eq, ez]
              refine ⟨?_, by simp, by simp⟩
              have h3' : (sclR (-1) (k / (G : Int)) (tdY G xs)).2.2 = 0 := Classical.byContradiction h3
              have hokY : okL (tdY G xs) = true := by
                cases ho : okL (tdY G xs)
                · unfold sclR at h3'
                  rw [if_pos ho] at h3'
                  simp at h3'
                · rfl
              have hF : sclF (-1) (k / (G : Int)) (tdY G xs) = true := by
                cases hf : sclF (-1) (k / (G : Int)) (tdY G xs)
                · unfold sclR at h3'
                  rw [if_neg (by rw [hokY]; decide), if_neg (by decide), if_neg (by rw [hf]; decide)] at h3'
                  simp at h3'
                · rfl
              have hres : sclR (-1) (k / (G : Int)) (tdY G xs) = (wrap64 (k / (G : Int) * -1), sclV (-1) (tdY G xs), 0) := by
                unfold sclR
                rw [if_neg (by rw [hokY]; decide), if_neg (by decide), if_pos hF]
              rw [hres]
              dsimp only
              unfold sclF at hF
              rw [Bool.and_eq_true, List.all_eq_true] at hF
              rw [evS_scl _ hF.2]
              have h5 := fit_yes.1 hF.1
              have e6 : wrap64 (k / (G : Int) * -1) = -(k / (G : Int)) := by unfold wrap64; omega
              rw [e6, hSS]
              rw [Bool.eq_iff_iff, beq_iff_eq, beq_iff_eq]
              omega
          · rename_i h2
            rw [if_neg h2]
            dsimp only
            rw [hB_eq, hB_eq, ez, hSS]
            exact ⟨rfl, by simp, by simp⟩
end Go.Proofs.YtbicmlkjonaccaaDoor.Ln


namespace Go.Proofs.YtbicmlkjonaccaaDoor.Ln
open Go.ChangeShapes Go.WideShapes Go.ChangeAt Go.RowKit
open Go.Proofs.YtbicmlkjonaccaaDoor.Nm
set_option linter.unusedVariables false
set_option linter.unusedSimpArgs false
set_option maxRecDepth 8000

set_option maxRecDepth 100000 in
set_option maxHeartbeats 4000000 in
theorem tig_eq (k : Int) (p : Option Addr) (xs : List Mo) (c : Nat) (w : World) (hn : xs.length ≤ 1000) (RA : Hid (SlM w p xs)) (RS : Hid (∀ i, i < xs.length → (xs.getD i mo0).1.size ≤ maxLen ∧ -9223372036854775808 ≤ (xs.getD i mo0).2 ∧ (xs.getD i mo0).2 ≤ 9223372036854775807)) (k1 : -9223372036854775808 ≤ k) (k2 : k ≤ 9223372036854775807) (hok : okL xs = true) (h0 : xs.length ≠ 0) (hx : (k % (gcdL 0 xs : Int) == 0) = true) (hneg : decide (((tdY (gcdL 0 xs) xs).getD 0 mo0).2 < 0) = false) : Calls Tryd.prog 28 #[Cv k p xs.length c true] w (TR (k / (gcdL 0 xs : Int), tdY (gcdL 0 xs) xs, true, 0, 0) w) := by
  have VL := Lib.hid fun w h => cval1 k p xs c true w (by unfold maxLen; omega) h (Lib.hid fun i hi => (RS.out i hi).1)
  have B0 : Below w.heap.size w ((w.alloc (Obj.cells #[Value.int .i64 k, Value.slice p xs.length c, Value.bool true] 36)).alloc (Obj.cells #[Value.int .i64 0, Value.slice none 0 0, Value.bool false] 36)) := ((Below.refl _ _).alloc (Nat.le_refl _) _).alloc (by simp) _
  have RA2 := Lib.hid (SlM.keep B0 RA.out)
  have hv : vL xs = 0 := by unfold vL; rw [hok]; rfl
  rw [hv] at VL
  obtain ⟨qq0, qq1⟩ := gcdL_bd hok h0 (fun i hi => (RS.out i hi).2)
  have GC := Lib.hid fun w h => gcd1 k p xs c w (by unfold maxLen; omega) h RS
  have g0 : ((xs.length : Int) == 0) = false := by rw [beq_eq_false_iff_ne]; omega
  unfold Cv Lv at *
  obtain ⟨G, hG⟩ : ∃ G : Nat, gcdL 0 xs = G := ⟨_, rfl⟩
  rw [hG] at GC qq0 qq1 hx hneg ⊢
  have FD := Lib.hid fun w => fdiv k G k1 k2 qq0 qq1 w
  rw [hx] at FD
  have FA := Lib.hid fun a (a1 : -9223372036854775808 ≤ a) (a2 : a ≤ 9223372036854775807) w => fdiv a G a1 a2 qq0 qq1 w
  have Q0 := Lib.hid qq0
  have D0 := Lib.hid (div_bd qq0 k1 k2)
  obtain ⟨H, hH⟩ : ∃ H, wrap64 (G : Int) = H := ⟨_, rfl⟩
  obtain ⟨D, hD⟩ : ∃ D, k / (G : Int) = D := ⟨_, rfl⟩
  rw [hH] at GC FD FA
  rw [hD] at FD D0 ⊢
  obtain ⟨i0, hi, hz0, hz1, hz2⟩ := info_parts infoMo
  have HN0 := Lib.hid h0
  obtain ⟨n, hnn⟩ : ∃ n, xs.length = n := ⟨_, rfl⟩
  have HN := Lib.hid hnn
  rw [hnn] at VL GC g0 hn B0 RA2 ⊢
  clear hok hv h0 hG hH hD qq0 qq1 hnn
  go_enter Tryd.func28, Tryd.ntmps28
  go_wp2_with (first | (go_at_call 24; (with_reducible refine (VL.out _ RA2).mono ?_); rintro e w1 ⟨rfl, hb1⟩; have hc1 := (Rg.bcell hb1).1; have hf1 := (Rg.bcell hb1).2; have z1_0 : w.heap.size < w1.heap.size := (by have hzz := hb1.size; (try simp at hzz); omega); have z1_1 : w.heap.size + 1 < w1.heap.size := (by have hzz := hb1.size; (try simp at hzz); omega); have K1 : Below w.heap.size w w1 := Below.trans (b := _) (by (repeat' (first | (with_reducible exact Below.refl _ _) | (with_reducible refine Below.alloc ?_ ?_ _) | (with_reducible refine Below.setCell ?_ ?_ _) | (with_reducible refine below_drewN ?_ _) | (simp; done) | omega | (simp; omega)))) (hb1.mono (by have hzz := hb1.size; (try simp at hzz); first | omega | (simp; done) | (simp; omega)))) | (go_at_call 59; (with_reducible refine (GC.out _ (Lib.hid (SlM.keep K1 RA.out))).mono ?_); rintro e w2 ⟨rfl, hb2⟩; have hc2 := (Rg.bcell hb2).1; have hf2 := (Rg.bcell hb2).2; have z2_0 : w.heap.size < w2.heap.size := (by have hzz := hb2.size; (try simp at hzz); omega); have z2_1 : w.heap.size + 1 < w2.heap.size := (by have hzz := hb2.size; (try simp at hzz); omega); have K2 : Below w.heap.size w w2 := Below.trans (b := _) (by (repeat' (first | (with_reducible exact Below.refl _ _) | (with_reducible exact K1) | (with_reducible exact K1.size) | (with_reducible refine Below.alloc ?_ ?_ _) | (with_reducible refine Below.setCell ?_ ?_ _) | (with_reducible refine below_drewN ?_ _) | (simp; done) | omega | (simp; omega)))) (hb2.mono (by have hzz := hb2.size; (try simp at hzz); first | omega | (simp; done) | (simp; omega)))) | (go_at_call 60; (with_reducible refine (FD.out _).mono ?_); rintro e w3 ⟨rfl, hb3⟩; have hc3 := (Rg.bcell hb3).1; have hf3 := (Rg.bcell hb3).2; have z3_0 : w.heap.size < w3.heap.size := (by have hzz := hb3.size; (try simp at hzz); omega); have z3_1 : w.heap.size + 1 < w3.heap.size := (by have hzz := hb3.size; (try simp at hzz); omega); have K3 : Below w.heap.size w w3 := Below.trans (b := _) (by (repeat' (first | (with_reducible exact Below.refl _ _) | (with_reducible exact K1) | (with_reducible exact K1.size) | (with_reducible exact K2) | (with_reducible exact K2.size) | (with_reducible refine Below.alloc ?_ ?_ _) | (with_reducible refine Below.setCell ?_ ?_ _) | (with_reducible refine below_drewN ?_ _) | (simp; done) | omega | (simp; omega)))) (hb3.mono (by have hzz := hb3.size; (try simp at hzz); first | omega | (simp; done) | (simp; omega)))))
  have F0 : Cl [(w.heap.size, 2, .bool true), (w.heap.size + 1, 0, .int .i64 0), (w.heap.size + 1, 1, .slice none 0 0), (w.heap.size + 1, 2, .bool false)] w3 := Cl.cons (by simp [go_sem, hc1, hf1, z1_0, Nat.lt_succ_of_lt z1_0, Nat.ne_of_lt z1_0, Nat.ne_of_gt z1_0, z1_1, Nat.lt_succ_of_lt z1_1, Nat.ne_of_lt z1_1, Nat.ne_of_gt z1_1, hc2, hf2, z2_0, Nat.lt_succ_of_lt z2_0, Nat.ne_of_lt z2_0, Nat.ne_of_gt z2_0, z2_1, Nat.lt_succ_of_lt z2_1, Nat.ne_of_lt z2_1, Nat.ne_of_gt z2_1, hc3, hf3, z3_0, Nat.lt_succ_of_lt z3_0, Nat.ne_of_lt z3_0, Nat.ne_of_gt z3_0, z3_1, Nat.lt_succ_of_lt z3_1, Nat.ne_of_lt z3_1, Nat.ne_of_gt z3_1]) (by simp [go_sem, hc1, hf1, z1_0, Nat.lt_succ_of_lt z1_0, Nat.ne_of_lt z1_0, Nat.ne_of_gt z1_0, z1_1, Nat.lt_succ_of_lt z1_1, Nat.ne_of_lt z1_1, Nat.ne_of_gt z1_1, hc2, hf2, z2_0, Nat.lt_succ_of_lt z2_0, Nat.ne_of_lt z2_0, Nat.ne_of_gt z2_0, z2_1, Nat.lt_succ_of_lt z2_1, Nat.ne_of_lt z2_1, Nat.ne_of_gt z2_1, hc3, hf3, z3_0, Nat.lt_succ_of_lt z3_0, Nat.ne_of_lt z3_0, Nat.ne_of_gt z3_0, z3_1, Nat.lt_succ_of_lt z3_1, Nat.ne_of_lt z3_1, Nat.ne_of_gt z3_1]) (Cl.cons (by simp [go_sem, hc1, hf1, z1_0, Nat.lt_succ_of_lt z1_0, Nat.ne_of_lt z1_0, Nat.ne_of_gt z1_0, z1_1, Nat.lt_succ_of_lt z1_1, Nat.ne_of_lt z1_1, Nat.ne_of_gt z1_1, hc2, hf2, z2_0, Nat.lt_succ_of_lt z2_0, Nat.ne_of_lt z2_0, Nat.ne_of_gt z2_0, z2_1, Nat.lt_succ_of_lt z2_1, Nat.ne_of_lt z2_1, Nat.ne_of_gt z2_1, hc3, hf3, z3_0, Nat.lt_succ_of_lt z3_0, Nat.ne_of_lt z3_0, Nat.ne_of_gt z3_0, z3_1, Nat.lt_succ_of_lt z3_1, Nat.ne_of_lt z3_1, Nat.ne_of_gt z3_1]) (by simp [go_sem, hc1, hf1, z1_0, Nat.lt_succ_of_lt z1_0, Nat.ne_of_lt z1_0, Nat.ne_of_gt z1_0, z1_1, Nat.lt_succ_of_lt z1_1, Nat.ne_of_lt z1_1, Nat.ne_of_gt z1_1, hc2, hf2, z2_0, Nat.lt_succ_of_lt z2_0, Nat.ne_of_lt z2_0, Nat.ne_of_gt z2_0, z2_1, Nat.lt_succ_of_lt z2_1, Nat.ne_of_lt z2_1, Nat.ne_of_gt z2_1, hc3, hf3, z3_0, Nat.lt_succ_of_lt z3_0, Nat.ne_of_lt z3_0, Nat.ne_of_gt z3_0, z3_1, Nat.lt_succ_of_lt z3_1, Nat.ne_of_lt z3_1, Nat.ne_of_gt z3_1]) (Cl.cons (by simp [go_sem, hc1, hf1, z1_0, Nat.lt_succ_of_lt z1_0, Nat.ne_of_lt z1_0, Nat.ne_of_gt z1_0, z1_1, Nat.lt_succ_of_lt z1_1, Nat.ne_of_lt z1_1, Nat.ne_of_gt z1_1, hc2, hf2, z2_0, Nat.lt_succ_of_lt z2_0, Nat.ne_of_lt z2_0, Nat.ne_of_gt z2_0, z2_1, Nat.lt_succ_of_lt z2_1, Nat.ne_of_lt z2_1, Nat.ne_of_gt z2_1, hc3, hf3, z3_0, Nat.lt_succ_of_lt z3_0, Nat.ne_of_lt z3_0, Nat.ne_of_gt z3_0, z3_1, Nat.lt_succ_of_lt z3_1, Nat.ne_of_lt z3_1, Nat.ne_of_gt z3_1]) (by simp [go_sem, hc1, hf1, z1_0, Nat.lt_succ_of_lt z1_0, Nat.ne_of_lt z1_0, Nat.ne_of_gt z1_0, z1_1, Nat.lt_succ_of_lt z1_1, Nat.ne_of_lt z1_1, Nat.ne_of_gt z1_1, hc2, hf2, z2_0, Nat.lt_succ_of_lt z2_0, Nat.ne_of_lt z2_0, Nat.ne_of_gt z2_0, z2_1, Nat.lt_succ_of_lt z2_1, Nat.ne_of_lt z2_1, Nat.ne_of_gt z2_1, hc3, hf3, z3_0, Nat.lt_succ_of_lt z3_0, Nat.ne_of_lt z3_0, Nat.ne_of_gt z3_0, z3_1, Nat.lt_succ_of_lt z3_1, Nat.ne_of_lt z3_1, Nat.ne_of_gt z3_1]) (Cl.cons (by simp [go_sem, hc1, hf1, z1_0, Nat.lt_succ_of_lt z1_0, Nat.ne_of_lt z1_0, Nat.ne_of_gt z1_0, z1_1, Nat.lt_succ_of_lt z1_1, Nat.ne_of_lt z1_1, Nat.ne_of_gt z1_1, hc2, hf2, z2_0, Nat.lt_succ_of_lt z2_0, Nat.ne_of_lt z2_0, Nat.ne_of_gt z2_0, z2_1, Nat.lt_succ_of_lt z2_1, Nat.ne_of_lt z2_1, Nat.ne_of_gt z2_1, hc3, hf3, z3_0, Nat.lt_succ_of_lt z3_0, Nat.ne_of_lt z3_0, Nat.ne_of_gt z3_0, z3_1, Nat.lt_succ_of_lt z3_1, Nat.ne_of_lt z3_1, Nat.ne_of_gt z3_1]) (by simp [go_sem, hc1, hf1, z1_0, Nat.lt_succ_of_lt z1_0, Nat.ne_of_lt z1_0, Nat.ne_of_gt z1_0, z1_1, Nat.lt_succ_of_lt z1_1, Nat.ne_of_lt z1_1, Nat.ne_of_gt z1_1, hc2, hf2, z2_0, Nat.lt_succ_of_lt z2_0, Nat.ne_of_lt z2_0, Nat.ne_of_gt z2_0, z2_1, Nat.lt_succ_of_lt z2_1, Nat.ne_of_lt z2_1, Nat.ne_of_gt z2_1, hc3, hf3, z3_0, Nat.lt_succ_of_lt z3_0, Nat.ne_of_lt z3_0, Nat.ne_of_gt z3_0, z3_1, Nat.lt_succ_of_lt z3_1, Nat.ne_of_lt z3_1, Nat.ne_of_gt z3_1]) (Cl.nil _))))
  have lg : w.heap.size + 1 < w3.heap.size := z3_1
  have K3b := K3
  clear hb1 hc1 hf1 hb2 hc2 hf2 hb3 hc3 hf3 z1_0 z1_1 z2_0 z2_1 z3_0 z3_1 K1 K2 VL GC FD B0 RA2 K3
  obtain ⟨gr, hgr⟩ : ∃ gr, w3.heap.size = gr := ⟨_, rfl⟩
  have F1 : Cl ((gr, 0, .int .i64 D) :: (gr, 1, .slice none 0 0) :: (gr, 2, .bool true) :: [(w.heap.size, 2, .bool true), (w.heap.size + 1, 0, .int .i64 0), (w.heap.size + 1, 1, .slice none 0 0), (w.heap.size + 1, 2, .bool false)]) (w3.alloc (Obj.cells #[Value.int .i64 D, Value.slice none 0 0, Value.bool true] 36)) := by
    have h := F0.below ((Below.refl _ _).alloc (Nat.le_refl _) (Obj.cells #[Value.int .i64 D, Value.slice none 0 0, Value.bool true] 36))
    rw [← hgr]
    exact Cl.cons (by go_cell) (by simp only [frozen?_alloc_cells]; exact Rg.notFrozen (Nat.le_refl _)) (Cl.cons (by go_cell) (by simp only [frozen?_alloc_cells]; exact Rg.notFrozen (Nat.le_refl _)) (Cl.cons (by go_cell) (by simp only [frozen?_alloc_cells]; exact Rg.notFrozen (Nat.le_refl _)) h))
  have F1h := Lib.hid F1
  have KB0 : Hid (Below w.heap.size w (w3.alloc (Obj.cells #[Value.int .i64 D, Value.slice none 0 0, Value.bool true] 36))) := Lib.hid (K3b.alloc K3b.size _)
  have hlt0 : gr < (w3.alloc (Obj.cells #[Value.int .i64 D, Value.slice none 0 0, Value.bool true] 36)).heap.size := by simp; omega
  have lw : w.heap.size + 1 < gr := by omega
  rw [hgr]
  clear F0 F1 K3b lg
  go_loopw [61] (fun i wr => ∃ (j : Nat) (vl : Value), i = .int .i64 j ∧ j ≤ n ∧ gr < wr.heap.size ∧ Hid (Cl ((gr, 0, .int .i64 D) :: (gr, 1, vl) :: (gr, 2, .bool true) :: [(w.heap.size, 2, .bool true), (w.heap.size + 1, 0, .int .i64 0), (w.heap.size + 1, 1, .slice none 0 0), (w.heap.size + 1, 2, .bool false)]) wr) ∧ Hid (Below w.heap.size w wr) ∧ Hid (wr.ownsRow (gr + 1) 59 2 vl j (moCs (tdY G (xs.take j))))) (fun i _ => n - (intOf i).toNat)
  case atStart => exact ⟨0, .slice none 0 0, rfl, Nat.zero_le _, hlt0, F1h, KB0, Lib.hid (World.ownsRow_nil _ _ _ _)⟩
  case round =>
    obtain ⟨j, vl, rfl, hj, hlt9, hF, hB, hO⟩ := hrel
    clear F1h KB0 hlt0
    have jj : (0 : Int) ≤ j := by omega
    have d0 := hF.out.head
    have d1 := hF.out.tail.head
    have zd1 := hF.out.tail.headF
    have d2 := hF.out.tail.tail.head
    have d3 := hF.out.tail.tail.tail.head
    by_cases hlt : j < n
    · obtain ⟨b, o, rfl, e0, e1⟩ := RA.out j (by rw [HN.out]; exact hlt)
      have j2 : (j : Int) < n := by omega
      have hbw : b < w.heap.size := World.block_lt_of_cell? _ _ e0
      replace e0 := Rg.keep hB.out hbw e0
      replace e1 := Rg.keep hB.out hbw e1
      have hbr : b < wr.heap.size := World.block_lt_of_cell? _ _ e0
      have hst := tdY_take (G := G) (xs := xs) (j := j) (by rw [HN.out]; exact hlt)
      obtain ⟨-, y0, y1⟩ := RS.out j (by rw [HN.out]; exact hlt)
      obtain ⟨m, hm⟩ : ∃ m, xs.getD j mo0 = m := ⟨_, rfl⟩
      rw [hm] at e0 e1 hst y0 y1
      obtain ⟨z, a⟩ := m
      dsimp only at e0 e1 hst y0 y1
      have FB := Lib.hid fun w => FA.out a y0 y1 w
      have HST := Lib.hid hst
      clear hm hst y0 y1
      have BM := (Below.refl wr.heap.size wr).alloc (Nat.le_refl _) (Obj.cells #[Value.string z, Value.int .i64 a] 59)
      have FM := Lib.hid (hF.out.below BM)
      have OM := Lib.hid (hO.out.alloc (Obj.cells #[Value.string z, Value.int .i64 a] 59))
      have KM := Lib.hid (hB.out.alloc hB.out.size (Obj.cells #[Value.string z, Value.int .i64 a] 59))
      clear hF hO BM
      go_wp2_with (first | (go_at_call 60; (with_reducible refine (FB.out _).mono ?_); rintro e u ⟨rfl, hb⟩; have x0 : u.cell? ⟨wr.heap.size, 0, none⟩ = some (.string z) := Rg.keep hb (by simp) (by go_cell); have FU := FM.out.below hb; have d1' := FU.tail.head; have zd1' := FU.tail.headF; have OU := own_belowE OM.out hb; have KU := KM.out.trans (hb.mono KM.out.size); have hsu : wr.heap.size < u.heap.size := World.block_lt_of_cell? _ _ x0) | (at_builtin; refine wpList_append_own _ rfl _ _ 22 rfl (gr + 1) 59 i0 (.agg #[.string ⟨#[]⟩, .int .i64 0]) 2 24 Tryd.underlying22 hi hz0 hz1 hz2 rfl (by decide) _ _ _ rfl (OU.alloc _) ⟨u.heap.size, 0, none⟩ 1 1 [.string z, .int .i64 (a / (G : Int))] rfl rfl ?_ ?_ ?_ ?_ ?_ ?_))
      · intro q x hx
        rcases q with _ | _ | q
        · cases hx; go_cell
        · cases hx; go_cell
        · simp at hx
      · intro x hx
        simp at hx
        rcases hx with rfl | rfl <;> rfl
      · unfold maxLen; omega
      · omega
      · simp; omega
      intro v' w4 hown' hgrow _
      have FV := FU.below ((Below.refl _ _).alloc (Nat.le_refl _) (Obj.cells #[Value.string z, Value.int .i64 (a / (G : Int))] 59))
      have F4 := FV.own (OU.alloc _) hgrow (by simp only [List.forall_mem_cons]; simp; omega)
      have K4 := (KU.alloc KU.size (Obj.cells #[Value.string z, Value.int .i64 (a / (G : Int))] 59)).grown hgrow (KU.alloc KU.size (Obj.cells #[Value.string z, Value.int .i64 (a / (G : Int))] 59)).size (fun q hq => by have := (OU.lt q hq).1; have := KU.size; omega)
      have hown2 : Hid (w4.ownsRow (gr + 1) 59 2 v' (j + 1) (moCs (tdY G (xs.take (j + 1))))) := Lib.hid (by
        rw [HST.out]
        exact hown')
      obtain ⟨q', c', rfl⟩ := own_slice hown2.out
      clear hown' hgrow FU FV OU KU FM OM KM x0 d1' zd1' hi hz0 hz1 hz2
      have e0 := F4.head
      have ze0 := F4.headF
      have e1 := F4.tail.head
      have ze1 := F4.tail.headF
      have e2 := F4.tail.tail.head
      have ze2 := F4.tail.tail.headF
      have F5 := F4.tail.tail.tail
      go_wp2
      go_roundw
      case rel =>
        refine ⟨j + 1, .slice q' (j + 1) c', by go_num, by omega, by rw [World.size_setCell]; exact World.block_lt_of_cell? _ _ e0, Lib.hid (Cl.cons (by go_cell) (by simp [World.frozen?_setCell, ze0]) (Cl.cons (by go_cell) (by simp [World.frozen?_setCell, ze1]) (Cl.cons (by go_cell) (by simp [World.frozen?_setCell, ze2]) (F5.far (by simp only [List.forall_mem_cons]; simp; omega))))), Lib.hid (K4.setCell (p := ⟨gr, 1, none⟩) (by show w.heap.size ≤ gr; omega) _), Lib.hid (own_set hown2.out (by show gr < gr + 1; omega))⟩
      case measure => simp [intOf]; omega
    · obtain rfl : j = n := by omega
      have hO2 := hO.out
      rw [show xs.take j = xs by rw [← HN.out]; exact List.take_length] at hO2
      obtain ⟨q, d, hvl, hS⟩ := own_sl' (l := tdY G xs) hO2 (by rw [tdY_len, HN.out])
      subst hvl
      have r0 := hF.out.tail.tail.tail.tail.head
      have zr0 := hF.out.tail.tail.tail.tail.headF
      have r1 := hF.out.tail.tail.tail.tail.tail.head
      have zr1 := hF.out.tail.tail.tail.tail.tail.headF
      have r2 := hF.out.tail.tail.tail.tail.tail.tail.head
      have zr2 := hF.out.tail.tail.tail.tail.tail.tail.headF
      have lr : w.heap.size + 1 < wr.heap.size := World.block_lt_of_cell? _ _ r0
      have KE := hB.out
      have HO2 := Lib.hid hO2
      obtain ⟨b2, o2, hq2, s0, s1⟩ := hS 0 (by have h1 := HN0.out; rw [tdY_len]; omega)
      have hS9 := Lib.hid hS
      subst hq2
      simp only [Nat.zero_mul, Nat.add_zero] at s0 s1
      obtain ⟨y, hy⟩ : ∃ y, (tdY G xs).getD 0 mo0 = y := ⟨_, rfl⟩
      rw [hy] at s0 s1 hneg
      have hj0 : (0 : Int) < j := by have h1 := HN0.out; have h2 := HN.out; omega
      clear hF hO hO2 hB FA RS RA hy hS
      go_wp2
      refine bodyPost_ret (v := .tuple #[.agg #[.int .i64 D, .slice (some ⟨b2, o2, none⟩) j d, .bool true], .int .i64 0, .int .i64 0]) (by simp [results, Tryd.results28, go_sem, r0, zr0, r1, zr1, r2, zr2, d0, d1, d2, lr, hlt9, Nat.ne_of_gt lw, Nat.ne_of_lt lw]) rfl ⟨some ⟨b2, o2, none⟩, d, by rw [show (tdY G xs).length = j by rw [tdY_len, HN.out]]; rfl, ?_, ?_, ?_⟩
      · have hq9 : ∀ b o, (some ⟨b2, o2, none⟩ : Option Addr) = some ⟨b, o, none⟩ → tdY G xs ≠ [] → b ≠ w.heap.size + 1 := fun b o hq _ => by
          cases hq
          have := (HO2.out.lt b2 rfl).1
          omega
        exact Sl_set (Sl_set (Sl_set hS9.out hq9) hq9) hq9
      · intro b o hq hne
        cases hq
        have hltb : gr + 1 ≤ b2 := (HO2.out.lt b2 rfl).1
        rcases HO2.out.2 with ⟨hv, _⟩ | ⟨g, cap, cur, hv, _, hh, _⟩
        · cases hv
        · cases hv
          have hk : ∀ (u : World) (o : Nat) (v : Value), u.heap[b2]? = some (.cells cur 59 (0, 0)) → (u.setCell ⟨w.heap.size + 1, o, none⟩ v).heap[b2]? = some (.cells cur 59 (0, 0)) := fun u o v h => (grown_set.block b2 (by rcases Nat.lt_or_ge b2 u.heap.size with h1 | h1; exact h1; rw [Array.getElem?_eq_none h1] at h; cases h) (fun h2 => by have h3 := Option.some.inj h2; have h4 := hltb; dsimp only at h3; omega)).trans h
          exact ⟨cur, hk _ _ _ (hk _ _ _ (hk _ _ _ hh))⟩
      · exact ((KE.setCell (p := ⟨w.heap.size + 1, 0, none⟩) (by dsimp only; omega) _).setCell (p := ⟨w.heap.size + 1, 1, none⟩) (by dsimp only; omega) _).setCell (p := ⟨w.heap.size + 1, 2, none⟩) (by dsimp only; omega) _
end Go.Proofs.YtbicmlkjonaccaaDoor.Ln
