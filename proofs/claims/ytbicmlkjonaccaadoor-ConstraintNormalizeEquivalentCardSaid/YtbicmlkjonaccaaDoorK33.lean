/- Holds of the reference, of larger forms. -/
import Derived.Test.YtbicmlkjonaccaaDoorK3
import Derived.Test.YtbicmlkjonaccaaDoorK29
import Derived.Test.YtbicmlkjonaccaaDoorE52b
import Derived.Test.YtbicmlkjonaccaaDoorK30
import Derived.Test.YtbicmlkjonaccaaDoorK12
import Derived.Test.YtbicmlkjonaccaaDoorK15
import Derived.Test.YtbicmlkjonaccaaDoorE19

namespace Go.Proofs.YtbicmlkjonaccaaDoor.Ln
open Go.ChangeShapes Go.WideShapes Go.ChangeAt Go.RowKit
open Go.Proofs.YtbicmlkjonaccaaDoor.Nm
set_option linter.unusedVariables false
set_option linter.unusedSimpArgs false
set_option maxRecDepth 8000
def evF (k : Int) (xs es : List Mo) : Int × Int :=
 if okL xs = false then (0, 1) else if (xs.all fun m => (es.map (·.1)).any fun s => s.toList == m.1.toList) = false then (0, 9)
 else if fit64 (k + evS es xs) = true then (k + evS es xs, 0) else (0, 3)
theorem evF_EV (k : Int) (xs es : List Mo) : EV k xs es (evF k xs es).1 (evF k xs es).2 := by
 unfold evF
 cases ho : okL xs
 ·exact .inl ⟨ho, by simp, by simp⟩
 ·cases ha : (xs.all fun m => (es.map (·.1)).any fun s => s.toList == m.1.toList)
  ·refine .inr (.inl ⟨ho, ?_, by simp, by simp⟩)
   rw [List.all_eq_false] at ha
   obtain ⟨m, hm, h⟩ := ha
   exact ⟨m, hm, fun hin => h (any_yes hin)⟩
  ·have hall : ∀ m ∈ xs, m.1 ∈ es.map (·.1) := fun m hm => by
    have h := List.all_eq_true.1 ha m hm
    by_cases hin : m.1 ∈ es.map (·.1)
    ·exact hin
    ·rw [any_no hin] at h; cases h
   cases hf : fit64 (k + evS es xs)
   ·exact .inr (.inr (.inr ⟨ho, hall, hf, by simp, by simp⟩))
   ·exact .inr (.inr (.inl ⟨ho, hall, hf, by simp, by simp⟩))

/-- Whether a constraint holds, and the error. -/
def hvF (k : Int) (xs : List Mo) (eq : Bool) (es : List Mo) : Bool × Int := (if (evF k xs es).2 = 0 then hB (evF k xs es).1 eq else false, (evF k xs es).2)
theorem ev2 (k : Int) (p : Option Addr) (xs : List Mo) (c : Nat) (q : Option Addr) (es : List Mo) (d : Nat) (w : World) (hn : xs.length <= 5000) (hm : es.length <= maxLen) (RA : Hid (SlM w p xs)) (RB : Hid (SlM w q es)) (RS : Hid (∀ i, i < xs.length -> (xs.getD i mo0).1.size <= maxLen /\ -9223372036854775808 <= (xs.getD i mo0).2 /\ (xs.getD i mo0).2 <= 9223372036854775807)) (RT : Hid (∀ i, i < es.length -> (es.getD i mo0).1.size <= maxLen /\ -9223372036854775808 <= (es.getD i mo0).2 /\ (es.getD i mo0).2 <= 9223372036854775807)) (k1 : -9223372036854775808 <= k) (k2 : k <= 9223372036854775807) :
  Calls Tryd.prog 55 #[Lv k p xs.length c, .slice q es.length d] w fun e w' => e = .returned (.tuple #[.int .i64 (evF k xs es).1, .int .i64 (evF k xs es).2]) /\ Below w.heap.size w w' :=
 (eval2d k p xs c q es d w hn hm RA RB RS RT k1 k2).mono fun e w' ⟨x, er, he, hE, hb⟩ => by
  obtain ⟨rfl, rfl⟩ := EV_one hE (evF_EV k xs es)
  exact ⟨he, hb⟩

set_option maxHeartbeats 4000000 in
theorem holds2 (k : Int) (p : Option Addr) (xs : List Mo) (c : Nat) (eq : Bool) (q : Option Addr) (es : List Mo) (d : Nat) (w : World) (hn : xs.length <= 5000) (hm : es.length <= maxLen) (RA : Hid (SlM w p xs)) (RB : Hid (SlM w q es)) (RS : Hid (∀ i, i < xs.length -> (xs.getD i mo0).1.size <= maxLen /\ -9223372036854775808 <= (xs.getD i mo0).2 /\ (xs.getD i mo0).2 <= 9223372036854775807)) (RT : Hid (∀ i, i < es.length -> (es.getD i mo0).1.size <= maxLen /\ -9223372036854775808 <= (es.getD i mo0).2 /\ (es.getD i mo0).2 <= 9223372036854775807)) (k1 : -9223372036854775808 <= k) (k2 : k <= 9223372036854775807) :
  Calls Tryd.prog 23 #[Cv k p xs.length c eq, .slice q es.length d] w fun e w' => e = .returned (.tuple #[.bool (hvF k xs eq es).1, .int .i64 (hvF k xs eq es).2]) /\ Below w.heap.size w w' := by
 have EC := Lib.hid fun w h1 h2 => ev2 k p xs c q es d w hn hm h1 h2 RS RT k1 k2
 have B0 : Below w.heap.size w (w.alloc (Obj.cells #[Value.int .i64 k, Value.slice p xs.length c, Value.bool eq] 36)) := (Below.refl _ _).alloc (Nat.le_refl _) _
 have RA2 := Lib.hid (SlM.keep B0 RA.out)
 have RB2 := Lib.hid (SlM.keep B0 RB.out)
 unfold hvF
 generalize evF k xs es = r at *
 obtain ⟨x, er⟩ := r
 dsimp only at EC ⊢
 by_cases h0 : er = 0
 ·subst h0
  rw [if_pos rfl]
  unfold hB
  unfold Cv Lv at *
  by_cases h0 : x = 0
  ·subst h0
   go_enter Tryd.func23, Tryd.ntmps23
   go_wp2_with (first | (go_at_call 55; (with_reducible refine (EC.out _ RA2 RB2).mono ?_); rintro e w1 ⟨rfl, hb1⟩; have hc1 := (Rg.bcell hb1).1; have hf1 := (Rg.bcell hb1).2; have z1_0 : w.heap.size < w1.heap.size := (by have hzz := hb1.size; (try simp at hzz); omega); have K1 : Below w.heap.size w w1 := Below.trans (b := _) (by (repeat' (first | (with_reducible exact Below.refl _ _) | (with_reducible refine Below.alloc ?_ ?_ _) | (with_reducible refine Below.setCell ?_ ?_ _) | (with_reducible refine below_drewN ?_ _) | (simp; done) | omega | (simp; omega)))) (hb1.mono (by have hzz := hb1.size; (try simp at hzz); first | omega | (simp; done) | (simp; omega)))))
   go_ret2
   exact ⟨by simp, K1⟩
  ·have g0 : (x == 0) = false := by simpa using h0
   by_cases h1 : 0 < x
   ·have g1 : decide (0 < x) = true := by simpa using h1
    rw [g0, g1]
    cases eq
    all_goals
     go_enter Tryd.func23, Tryd.ntmps23
     go_wp2_with (first | (go_at_call 55; (with_reducible refine (EC.out _ RA2 RB2).mono ?_); rintro e w1 ⟨rfl, hb1⟩; have hc1 := (Rg.bcell hb1).1; have hf1 := (Rg.bcell hb1).2; have z1_0 : w.heap.size < w1.heap.size := (by have hzz := hb1.size; (try simp at hzz); omega); have K1 : Below w.heap.size w w1 := Below.trans (b := _) (by (repeat' (first | (with_reducible exact Below.refl _ _) | (with_reducible refine Below.alloc ?_ ?_ _) | (with_reducible refine Below.setCell ?_ ?_ _) | (with_reducible refine below_drewN ?_ _) | (simp; done) | omega | (simp; omega)))) (hb1.mono (by have hzz := hb1.size; (try simp at hzz); first | omega | (simp; done) | (simp; omega)))))
     go_ret2
     exact ⟨by simp, K1⟩
   ·have g1 : decide (0 < x) = false := by simpa using h1
    rw [g0, g1]
    clear h0 h1
    go_enter Tryd.func23, Tryd.ntmps23
    go_wp2_with (first | (go_at_call 55; (with_reducible refine (EC.out _ RA2 RB2).mono ?_); rintro e w1 ⟨rfl, hb1⟩; have hc1 := (Rg.bcell hb1).1; have hf1 := (Rg.bcell hb1).2; have z1_0 : w.heap.size < w1.heap.size := (by have hzz := hb1.size; (try simp at hzz); omega); have K1 : Below w.heap.size w w1 := Below.trans (b := _) (by (repeat' (first | (with_reducible exact Below.refl _ _) | (with_reducible refine Below.alloc ?_ ?_ _) | (with_reducible refine Below.setCell ?_ ?_ _) | (with_reducible refine below_drewN ?_ _) | (simp; done) | omega | (simp; omega)))) (hb1.mono (by have hzz := hb1.size; (try simp at hzz); first | omega | (simp; done) | (simp; omega)))))
    go_ret2
    exact ⟨by simp, K1⟩
 ·have g0 : (er == 0) = false := by simpa using h0
  have g1 : (er != 0) = true := by simpa using h0
  rw [if_neg h0]
  clear h0
  unfold Cv Lv at *
  go_enter Tryd.func23, Tryd.ntmps23
  go_wp2_with (first | (go_at_call 55; (with_reducible refine (EC.out _ RA2 RB2).mono ?_); rintro e w1 ⟨rfl, hb1⟩; have hc1 := (Rg.bcell hb1).1; have hf1 := (Rg.bcell hb1).2; have z1_0 : w.heap.size < w1.heap.size := (by have hzz := hb1.size; (try simp at hzz); omega); have K1 : Below w.heap.size w w1 := Below.trans (b := _) (by (repeat' (first | (with_reducible exact Below.refl _ _) | (with_reducible refine Below.alloc ?_ ?_ _) | (with_reducible refine Below.setCell ?_ ?_ _) | (with_reducible refine below_drewN ?_ _) | (simp; done) | omega | (simp; omega)))) (hb1.mono (by have hzz := hb1.size; (try simp at hzz); first | omega | (simp; done) | (simp; omega)))))
  go_ret2
  exact ⟨rfl, K1⟩
end Go.Proofs.YtbicmlkjonaccaaDoor.Ln


namespace Go.Proofs.YtbicmlkjonaccaaDoor.Ln
open Go.ChangeShapes Go.WideShapes Go.ChangeAt Go.RowKit
open Go.Proofs.YtbicmlkjonaccaaDoor.Nm
set_option linter.unusedVariables false
set_option linter.unusedSimpArgs false
set_option maxRecDepth 8000
def okQ (f : Qm) : Prop := f.2.1.length <= 1000 /\ (-9223372036854775808 <= f.1 /\ f.1 <= 9223372036854775807) /\ ∀ i, i < f.2.1.length -> (f.2.1.getD i mo0).1.size <= maxLen /\ -9223372036854775808 <= (f.2.1.getD i mo0).2 /\ (f.2.1.getD i mo0).2 <= 9223372036854775807
def hq (es : List Mo) (f : Qm) : Bool × Int := hvF f.1 f.2.1 f.2.2 es
def fvF (es : List Mo) : List Qm -> Int × Int
 | [] => (0, 0)
 | a :: r => if (hq es a).2 ≠ 0 \/ (hq es a).1 = false then (0, (hq es a).2) else ((fvF es r).1 + 1, (fvF es r).2)
theorem fv_step {es : List Mo} {l : List Qm} {j : Nat} (h : j < l.length) : fvF es (l.drop j) = if (hq es (l.getD j q0m)).2 ≠ 0 \/ (hq es (l.getD j q0m)).1 = false then (0, (hq es (l.getD j q0m)).2) else ((fvF es (l.drop (j + 1))).1 + 1, (fvF es (l.drop (j + 1))).2) := by
 rw [List.drop_eq_getElem_cons h]
 have e1 : l.getD j q0m = l[j] := by unfold List.getD; rw [List.getElem?_eq_getElem h]; rfl
 rw [e1]
 rfl
set_option maxRecDepth 100000 in
set_option maxHeartbeats 4000000 in
theorem fv2 (p : Option Addr) (l : List Qm) (c : Nat) (q : Option Addr) (es : List Mo) (d : Nat) (w : World) (hn : l.length <= 1000) (hm : es.length <= maxLen) (RA : Hid (SlQ w p l)) (RB : Hid (SlM w q es)) (RT : Hid (∀ i, i < es.length -> (es.getD i mo0).1.size <= maxLen /\ -9223372036854775808 <= (es.getD i mo0).2 /\ (es.getD i mo0).2 <= 9223372036854775807)) (QK : Hid (∀ f ∈ l, okQ f)) :
  Calls Tryd.prog 27 #[.slice p l.length c, .slice q es.length d] w fun e w' => e = .returned (.tuple #[.int .i64 (fvF es l).1, .int .i64 (fvF es l).2]) /\ Below w.heap.size w w' := by
 obtain ⟨n, hnn⟩ : ∃ n, l.length = n := ⟨_, rfl⟩
 have HN := Lib.hid hnn
 obtain ⟨R, hR⟩ : ∃ R, fvF es l = R := ⟨_, rfl⟩
 have HR := Lib.hid hR
 rw [hnn] at hn ⊢
 rw [hR]
 clear hnn hR
 obtain ⟨r1, r2⟩ := R
 go_enter Tryd.func27, Tryd.ntmps27
 go_wp2_with fail
 go_loopw [6] (fun i wr => ∃ (j : Nat), i = .int .i64 j /\ j <= n /\ Below w.heap.size w wr /\ Hid (fvF es l = ((fvF es (l.drop j)).1 + j, (fvF es (l.drop j)).2))) (fun i _ => n - (intOf i).toNat)
 case atStart => exact ⟨0, rfl, Nat.zero_le _, Below.refl _ _, Lib.hid (by simp)⟩
 case round =>
  obtain ⟨j, rfl, hj, hB, HI⟩ := hrel
  have jj : (0 : Int) <= j := by omega
  by_cases hlt : j < n
  ·obtain ⟨b, o, qa, da, rfl, c0, c1, c2, hM⟩ := RA.out j (by rw [HN.out]; exact hlt)
   have j2 : (j : Int) < n := by omega
   have hbw : b < w.heap.size := World.block_lt_of_cell? _ _ c0
   replace c0 := Rg.keep hB hbw c0
   replace c1 := Rg.keep hB hbw c1
   replace c2 := Rg.keep hB hbw c2
   have hbr : b < wr.heap.size := World.block_lt_of_cell? _ _ c0
   have hM2 := Lib.hid (SlM.keep hB hM)
   have HB2 := Lib.hid (SlM.keep hB RB.out)
   have hok := QK.out _ (qget (l := l) (i := j) (by rw [HN.out]; exact hlt))
   have hst := fv_step (es := es) (l := l) (j := j) (by rw [HN.out]; exact hlt)
   unfold hq at hst
   obtain ⟨f, hf⟩ : ∃ f, l.getD j q0m = f := ⟨_, rfl⟩
   rw [hf] at c0 c1 c2 hM hM2 hok hst
   obtain ⟨k, xs, eq⟩ := f
   dsimp only at c0 c1 c2 hM hM2 hok hst
   obtain ⟨o1, o2, o3⟩ := hok
   have CC := Lib.hid (holds2 k qa xs da eq q es d wr (Nat.le_trans o1 (by decide)) hm hM2 HB2 (Lib.hid o3) RT o2.1 o2.2)
   generalize hvF k xs eq es = r at *
   obtain ⟨v, er⟩ := r
   dsimp only at CC hst
   unfold Cv at CC
   clear hM hf o1 o2 o3
   have HB3 := Lib.hid hB
   clear hB
   by_cases h0 : er = 0
   ·subst h0
    cases v
    ·rw [if_pos (.inr rfl)] at hst
     have HE := Lib.hid (show (r1, r2) = ((j : Int), 0) by rw [<- HR.out, HI.out, hst]; simp)
     clear hst HI
     go_wp2_with (go_at_call 23; (with_reducible refine CC.out.mono ?_); rintro e w1 ⟨rfl, hb⟩; have HB4 := Lib.hid (HB3.out.trans (hb.mono HB3.out.size)))
     have h9 := HE.out
     cases h9
     refine bodyPost_ret (v := .tuple #[.int .i64 j, .int .i64 0]) (by simp [results, Tryd.results27, go_sem]) rfl ⟨rfl, HB4.out⟩
    ·rw [if_neg (by simp)] at hst
     have HI2 : Hid (fvF es l = ((fvF es (l.drop (j + 1))).1 + ((j + 1 : Nat) : Int), (fvF es (l.drop (j + 1))).2)) := Lib.hid (by rw [HI.out, hst]; simp; omega)
     clear hst HI
     go_wp2_with (go_at_call 23; (with_reducible refine CC.out.mono ?_); rintro e w1 ⟨rfl, hb⟩; have HB4 := HB3.out.trans (hb.mono HB3.out.size))
     go_roundw
     case rel => exact ⟨j + 1, by go_num, by omega, HB4, HI2⟩
     case measure => simp [intOf]; omega
   ·have g0 : (er == 0) = false := by simpa using h0
    have g1 : (er != 0) = true := by simpa using h0
    rw [if_pos (.inl h0)] at hst
    have HE := Lib.hid (show (r1, r2) = ((j : Int), er) by rw [<- HR.out, HI.out, hst]; simp)
    clear hst HI h0
    go_wp2_with (go_at_call 23; (with_reducible refine CC.out.mono ?_); rintro e w1 ⟨rfl, hb⟩; have HB4 := Lib.hid (HB3.out.trans (hb.mono HB3.out.size)))
    have h9 := HE.out
    cases h9
    refine bodyPost_ret (v := .tuple #[.int .i64 j, .int .i64 r2]) (by simp [results, Tryd.results27, go_sem]) rfl ⟨rfl, HB4.out⟩
  ·obtain rfl : j = n := by omega
   have HE := Lib.hid (show (r1, r2) = ((j : Int), 0) by rw [<- HR.out, HI.out, List.drop_of_length_le (by rw [HN.out]; exact Nat.le_refl _)]; simp [fvF])
   have HB4 := Lib.hid hB
   clear HI hB
   go_wp2
   have h9 := HE.out
   cases h9
   refine bodyPost_ret (v := .tuple #[.int .i64 j, .int .i64 0]) (by simp [results, Tryd.results27, go_sem]) rfl ⟨rfl, HB4.out⟩
end Go.Proofs.YtbicmlkjonaccaaDoor.Ln


namespace Go.Proofs.YtbicmlkjonaccaaDoor.Ln
open Go.ChangeShapes Go.WideShapes Go.ChangeAt Go.RowKit
open Go.Proofs.YtbicmlkjonaccaaDoor.Nm
set_option linter.unusedVariables false
set_option linter.unusedSimpArgs false
set_option maxRecDepth 8000
theorem gcdL_me : ∀ (xs : List Mo) (g : Nat) (m : Mo), m ∈ xs -> gcdL g xs ∣ m.2.natAbs
 | [], _, _, h => by cases h
 | x :: r, g, m, h => by
  rcases List.mem_cons.1 h with rfl | h
  ·exact Nat.dvd_trans (gcdL_dvd r (Nat.gcd g m.2.natAbs)) (Nat.gcd_dvd_right _ _)
  ·exact gcdL_me r _ m h
theorem okL_td {xs : List Mo} {G : Nat} (h : okL xs = true) (hd : ∀ m ∈ xs, G ∣ m.2.natAbs) (g0 : 1 <= G) : okL (tdY G xs) = true := by
 obtain ⟨h1, h2⟩ := okL_iff.1 h
 refine okL_iff.2 ⟨?_, fun m hm => ?_⟩
 ·rw [show (tdY G xs).map (·.1) = xs.map (·.1) by unfold tdY; rw [List.map_map]; rfl]
  exact h1
 ·unfold tdY at hm
  obtain ⟨x, hx, rfl⟩ := List.mem_map.1 hm
  refine ⟨(h2 x hx).1, fun h0 => (h2 x hx).2 ?_⟩
  have hdv : (G : Int) ∣ x.2 := Int.ofNat_dvd_left.2 (hd x hx)
  have h3 := Int.ediv_mul_cancel hdv
  dsimp only at h0
  rw [h0] at h3
  omega
theorem evF_ok {k : Int} {xs es : List Mo} (h : (evF k xs es).2 = 0) : (evF k xs es).1 = k + evS es xs := by
 unfold evF at h ⊢
 split at h
 ·simp at h
 ·rename_i h1
  rw [if_neg h1]
  split at h
  ·simp at h
  ·rename_i h2
   rw [if_neg h2]
   split at h
   ·rename_i h3
    rw [if_pos h3]
   ·simp at h
theorem hvF_ok {k : Int} {xs es : List Mo} {eq : Bool} (h : (hvF k xs eq es).2 = 0) : (hvF k xs eq es).1 = hB (k + evS es xs) eq := by
 have h1 : (evF k xs es).2 = 0 := h
 unfold hvF
 dsimp only
 rw [if_pos h1, evF_ok h1]
theorem evS_div {es : List Mo} {G : Nat} : ∀ (xs : List Mo), (∀ m ∈ xs, (G : Int) ∣ m.2) -> evS es xs = (G : Int) * evS es (tdY G xs)
 | [], _ => by simp [evS, tdY]
 | m :: r, h => by
  have ih := evS_div (es := es) (G := G) r (fun x hx => h x (List.mem_cons_of_mem _ hx))
  have hd := Int.mul_ediv_cancel' (h m (by simp))
  show m.2 * co es m.1 + evS es r = (G : Int) * (m.2 / (G : Int) * co es m.1 + evS es (tdY G r))
  rw [ih, Int.mul_add, <- Int.mul_assoc, hd]
theorem evS_scl {es : List Mo} : ∀ (Y : List Mo), (∀ m ∈ Y, fit64 (m.2 * -1) = true) -> evS es (sclV (-1) Y) = -evS es Y
 | [], _ => by simp [evS, sclV]
 | m :: r, h => by
  have ih := evS_scl (es := es) r (fun x hx => h x (List.mem_cons_of_mem _ hx))
  have h1 := fit_yes.1 (h m (by simp))
  have e : wrap64 (m.2 * -1) = -m.2 := by unfold wrap64; omega
  show wrap64 (m.2 * -1) * co es m.1 + evS es (sclV (-1) r) = -(m.2 * co es m.1 + evS es r)
  rw [ih, e, Int.neg_mul]
  omega
theorem hB_eq (n : Int) : hB n true = (n == 0) := by unfold hB; simp
theorem hB_ge (n : Int) : hB n false = decide (0 <= n) := by
 unfold hB
 rw [Bool.eq_iff_iff]
 simp
 omega
theorem gcd_dv (xs : List Mo) : ∀ m ∈ xs, (gcdL 0 xs : Int) ∣ m.2 := fun m hm => Int.ofNat_dvd_left.2 (gcdL_me xs 0 m hm)
theorem tg_x {k : Int} {xs : List Mo} {eq : Bool} {es : List Mo} (hb : ∀ i, i < xs.length -> -9223372036854775808 <= (xs.getD i mo0).2 /\ (xs.getD i mo0).2 <= 9223372036854775807) (h : (tgR k xs eq).2.2.2.2 = 0) :
  hB (k + evS es xs) eq = hB ((tgR k xs eq).1 + evS es (tgR k xs eq).2.1) (tgR k xs eq).2.2.1 /\ ((tgR k xs eq).2.2.2.1 = 1 -> hB (k + evS es xs) eq = true) /\ ((tgR k xs eq).2.2.2.1 = 2 -> hB (k + evS es xs) eq = false) := by
 unfold tgR at h ⊢
 cases hok : okL xs
 ·rw [hok, if_pos rfl] at h
  simp at h
 ·rw [hok] at h
  rw [if_neg (by decide)] at h ⊢
  by_cases h0 : xs.length = 0
  ·rw [if_pos h0]
   have hx : xs = [] := List.length_eq_zero_iff.1 h0
   subst hx
   cases hh : hB k eq
   ·rw [if_neg (by decide)]
    simp [evS, hh]
    unfold hB
    decide
   ·rw [if_pos rfl]
    simp [evS, hh]
    unfold hB
    decide
  ·rw [if_neg h0] at h ⊢
   have hg := (gcdL_bd hok h0 hb).1
   have hS := evS_div (es := es) (G := gcdL 0 xs) xs (gcd_dv xs)
   generalize gcdL 0 xs = G at *
   have hG : (0 : Int) < G := by omega
   have hdm := Int.emod_add_mul_ediv k (G : Int)
   have hm0 := Int.emod_nonneg k (show (G : Int) ≠ 0 by omega)
   have hm1 := Int.emod_lt_of_pos k hG
   rw [hS]
   obtain ⟨S, hSS⟩ : ∃ S, evS es (tdY G xs) = S := ⟨_, rfl⟩
   rw [hSS] at hS ⊢
   cases eq
   ·rw [if_neg (by simp), if_neg (by simp)]
    dsimp only
    rw [hB_ge, hB_ge, hSS]
    refine ⟨?_, by simp, by simp⟩
    rw [Bool.eq_iff_iff, decide_eq_true_eq, decide_eq_true_eq]
    generalize k / (G : Int) = q at *
    generalize k % (G : Int) = r at *
    have e : k + (G : Int) * S = r + (G : Int) * (q + S) := by rw [Int.mul_add]; omega
    rw [e]
    constructor
    ·intro h1
     rcases Int.lt_or_le (q + S) 0 with h2 | h2
     ·have h3 : (G : Int) * (q + S) <= (G : Int) * (-1) := Int.mul_le_mul_of_nonneg_left (by omega) (by omega)
      omega
     ·exact h2
    ·intro h1
     have h3 : 0 <= (G : Int) * (q + S) := Int.mul_nonneg (by omega) h1
     omega
   ·cases hx : (k % (G : Int) == 0)
    ·rw [if_pos (by simp)]
     dsimp only
     rw [hB_eq, hB_ge]
     have hne : (k + (G : Int) * S == 0) = false := by
      rw [beq_eq_false_iff_ne] at hx ⊢
      intro h1
      apply hx
      have : k = (G : Int) * (-S) := by rw [Int.mul_neg]; omega
      rw [this]
      exact Int.mul_emod_right _ _
     rw [hne]
     simp [evS]
    ·rw [hx, if_neg (by decide)] at h
     rw [if_neg (by decide)]
     have hr : k % (G : Int) = 0 := beq_iff_eq.1 hx
     have e : k + (G : Int) * S = (G : Int) * (k / (G : Int) + S) := by rw [Int.mul_add]; omega
     rw [e]
     have ez : ∀ T : Int, ((G : Int) * T == 0) = (T == 0) := fun T => by
      rw [Bool.eq_iff_iff, beq_iff_eq, beq_iff_eq]
      constructor
      ·intro h1
       rcases Int.mul_eq_zero.1 h1 with h2 | h2
       ·omega
       ·exact h2
      ·intro h1; rw [h1, Int.mul_zero]
     split at h
     ·rename_i h2
      rw [if_pos h2]
      split at h
      ·rename_i h3
       exact absurd h h3
      ·rename_i h3
       rw [if_neg h3]
       dsimp only
       rw [hB_eq, hB_eq, ez]
       refine ⟨?_, by simp, by simp⟩
       have h3' : (sclR (-1) (k / (G : Int)) (tdY G xs)).2.2 = 0 := Classical.byContradiction h3
       have hokY : okL (tdY G xs) = true := by
        cases ho : okL (tdY G xs)
        ·unfold sclR at h3'
         rw [if_pos ho] at h3'
         simp at h3'
        ·rfl
       have hF : sclF (-1) (k / (G : Int)) (tdY G xs) = true := by
        cases hf : sclF (-1) (k / (G : Int)) (tdY G xs)
        ·unfold sclR at h3'
         rw [if_neg (by rw [hokY]; decide), if_neg (by decide), if_neg (by rw [hf]; decide)] at h3'
         simp at h3'
        ·rfl
       have hres : sclR (-1) (k / (G : Int)) (tdY G xs) = (wrap64 (k / (G : Int) * -1), sclV (-1) (tdY G xs), 0) := by
        unfold sclR
        rw [if_neg (by rw [hokY]; decide), if_neg (by decide), if_pos hF]
       rw [hres]
       dsimp only
       unfold sclF at hF
       rw [Bool.and_eq_true, List.all_eq_true] at hF
       rw [evS_scl _ hF.2]
       have h5 := fit_yes.1 hF.1
       have e6 : wrap64 (k / (G : Int) * -1) = -(k / (G : Int)) := by unfold wrap64; omega
       rw [e6, hSS]
       rw [Bool.eq_iff_iff, beq_iff_eq, beq_iff_eq]
       omega
     ·rename_i h2
      rw [if_neg h2]
      dsimp only
      rw [hB_eq, hB_eq, ez, hSS]
      exact ⟨rfl, by simp, by simp⟩

theorem td_one (xs : List Mo) : tdY 1 xs = xs := by
 unfold tdY
 conv => rhs; rw [<- List.map_id xs]
 refine List.map_congr_left fun m _ => ?_
 rw [show ((1 : Nat) : Int) = 1 from rfl, Int.ediv_one]
 rfl
theorem gcdL_scale (G : Nat) : ∀ (xs : List Mo) (g : Nat), 1 <= G -> G ∣ g -> (∀ m ∈ xs, G ∣ m.2.natAbs) -> gcdL (g / G) (tdY G xs) = gcdL g xs / G
 | [], g, _, _, _ => rfl
 | m :: r, g, hG, hg, hm => by
  have h1 := hm m (List.mem_cons_self ..)
  have e : (m.2 / (G : Int)).natAbs = m.2.natAbs / G := by
   obtain ⟨c, hc⟩ := Int.ofNat_dvd_left.2 h1
   rw [hc, Int.mul_ediv_cancel_left _ (by omega), Int.natAbs_mul, Int.natAbs_natCast, Nat.mul_div_cancel_left _ (by omega)]
  show gcdL (Nat.gcd (g / G) (m.2 / (G : Int)).natAbs) (tdY G r) = gcdL (Nat.gcd g m.2.natAbs) r / G
  rw [e, Nat.gcd_div hg h1]
  exact gcdL_scale G r _ hG (Nat.dvd_gcd hg h1) (fun x hx => hm x (List.mem_cons_of_mem _ hx))
theorem gcdL_td {xs : List Mo} (h : 1 <= gcdL 0 xs) : gcdL 0 (tdY (gcdL 0 xs) xs) = 1 := by
 have h1 := gcdL_scale (gcdL 0 xs) xs 0 h (Nat.dvd_zero _) (gcdL_me xs 0)
 rw [Nat.zero_div, Nat.div_self h] at h1
 exact h1
theorem gcdL_neg : ∀ (xs : List Mo) (g : Nat), (∀ m ∈ xs, fit64 (m.2 * -1) = true) -> gcdL g (sclV (-1) xs) = gcdL g xs
 | [], _, _ => rfl
 | m :: r, g, h => by
  have h1 := fit_yes.1 (h m (List.mem_cons_self ..))
  have e : (wrap64 (m.2 * -1)).natAbs = m.2.natAbs := by unfold wrap64; omega
  show gcdL (Nat.gcd g (wrap64 (m.2 * -1)).natAbs) (sclV (-1) r) = gcdL (Nat.gcd g m.2.natAbs) r
  rw [e]
  exact gcdL_neg r _ (fun x hx => h x (List.mem_cons_of_mem _ hx))
theorem okL_neg {xs : List Mo} (h : okL xs = true) (hf : ∀ m ∈ xs, fit64 (m.2 * -1) = true) : okL (sclV (-1) xs) = true := by
 obtain ⟨h1, h2⟩ := okL_iff.1 h
 refine okL_iff.2 ⟨?_, fun m hm => ?_⟩
 ·rw [show (sclV (-1) xs).map (·.1) = xs.map (·.1) by unfold sclV; rw [List.map_map]; rfl]
  exact h1
 ·unfold sclV at hm
  obtain ⟨x, hx, rfl⟩ := List.mem_map.1 hm
  refine ⟨(h2 x hx).1, fun h0 => (h2 x hx).2 ?_⟩
  have h3 := fit_yes.1 (hf x hx)
  dsimp only at h0
  unfold wrap64 at h0
  omega
/-- A form that is tight already stays as it is. -/
theorem tg_id {k : Int} {xs : List Mo} {eq : Bool} (hok : okL xs = true) (h0 : xs.length ≠ 0) (hg : gcdL 0 xs = 1) (hs : eq = true -> ¬ (xs.getD 0 mo0).2 < 0) : tgR k xs eq = (k, xs, eq, 0, 0) := by
 unfold tgR
 rw [hok, if_neg (by decide), if_neg h0, hg, td_one, if_neg (by simp [Int.emod_one]), if_neg (by
  rw [Bool.and_eq_true, decide_eq_true_eq]
  exact fun h => hs h.1 h.2)]
 rw [show ((1 : Nat) : Int) = 1 from rfl, Int.ediv_one]
theorem tg_idem {f : Qm} {K : Int} {ys : List Mo} {fq : Bool} (hb : ∀ i, i < f.2.1.length -> -9223372036854775808 <= (f.2.1.getD i mo0).2 /\ (f.2.1.getD i mo0).2 <= 9223372036854775807) (h : tgQ f = (K, ys, fq, 0, 0)) : tgQ (K, ys, fq) = (K, ys, fq, 0, 0) := by
 obtain ⟨k, xs, eq⟩ := f
 unfold tgQ at h ⊢
 dsimp only at h hb ⊢
 unfold tgR at h
 cases hok : okL xs
 ·rw [hok, if_pos rfl] at h
  simp at h
 ·rw [hok, if_neg (by decide)] at h
  by_cases h0 : xs.length = 0
  ·rw [if_pos h0] at h
   split at h <;> simp at h
  ·rw [if_neg h0] at h
   have hg := (gcdL_bd hok h0 hb).1
   have g1 := gcdL_td hg
   have hokT := okL_td hok (gcdL_me xs 0) hg
   have hlen : (tdY (gcdL 0 xs) xs).length = xs.length := by unfold tdY; rw [List.length_map]
   generalize gcdL 0 xs = G at *
   generalize tdY G xs = Y at *
   split at h
   ·simp at h
   ·split at h
    ·rename_i h1 h2
     split at h
     ·rename_i h3
      simp only [Prod.mk.injEq] at h
      exact absurd h.2.2.2.2 h3
     ·rename_i h3
      have h3' : (sclR (-1) (k / (G : Int)) Y).2.2 = 0 := Classical.byContradiction h3
      have hF : sclF (-1) (k / (G : Int)) Y = true := by
       cases hf : sclF (-1) (k / (G : Int)) Y
       ·unfold sclR at h3'
        rw [if_neg (by rw [hokT]; decide), if_neg (by decide), if_neg (by rw [hf]; decide)] at h3'
        simp at h3'
       ·rfl
      have hres : sclR (-1) (k / (G : Int)) Y = (wrap64 (k / (G : Int) * -1), sclV (-1) Y, 0) := by
       unfold sclR
       rw [if_neg (by rw [hokT]; decide), if_neg (by decide), if_pos hF]
      rw [hres] at h
      unfold sclF at hF
      rw [Bool.and_eq_true, List.all_eq_true] at hF
      simp only [Prod.mk.injEq] at h
      obtain ⟨rfl, rfl, rfl, _, _⟩ := h
      have hl2 : (sclV (-1) Y).length = Y.length := by unfold sclV; rw [List.length_map]
      refine tg_id (okL_neg hokT hF.2) (by rw [hl2, hlen]; exact h0) (by rw [gcdL_neg _ _ hF.2]; exact g1) (fun _ => ?_)
      rw [Bool.and_eq_true, decide_eq_true_eq] at h2
      have hy : 0 < Y.length := by omega
      have e1 : (sclV (-1) Y).getD 0 mo0 = ((Y.getD 0 mo0).1, wrap64 ((Y.getD 0 mo0).2 * -1)) := by
       cases Y with
       | nil => simp at hy
       | cons a r => rfl
      have h5 := fit_yes.1 (hF.2 (Y.getD 0 mo0) (getD_mem hy))
      rw [e1]
      dsimp only
      unfold wrap64
      omega
    ·rename_i h1 h2
     simp only [Prod.mk.injEq] at h
     obtain ⟨rfl, rfl, rfl, _, _⟩ := h
     refine tg_id hokT (by rw [hlen]; exact h0) g1 (fun he h3 => h2 ?_)
     rw [Bool.and_eq_true, decide_eq_true_eq]
     exact ⟨he, h3⟩
/-- Whether a constraint holds, by its exact value. -/
def hX (es : List Mo) (f : Qm) : Bool := hB (f.1 + evS es f.2.1) f.2.2
theorem hX_iff {es : List Mo} {f : Qm} : hX es f = true ↔ (if f.2.2 = true then f.1 + evS es f.2.1 = 0 else 0 <= f.1 + evS es f.2.1) := by
 unfold hX
 cases h : f.2.2
 ·rw [hB_ge]; simp
 ·rw [hB_eq]; simp
theorem hq_X {es : List Mo} {f : Qm} (h : (hq es f).2 = 0) : (hq es f).1 = hX es f := hvF_ok h
theorem fv_cases {es : List Mo} : ∀ (l : List Qm), (fvF es l).2 = 0 -> ((fvF es l).1 = l.length /\ ∀ f ∈ l, hX es f = true) \/ ((fvF es l).1 < l.length /\ ∃ f ∈ l, hX es f = false)
 | [], _ => .inl ⟨rfl, fun f hf => absurd hf (by simp)⟩
 | a :: r, h => by
  unfold fvF at h ⊢
  by_cases c : (hq es a).2 ≠ 0 \/ (hq es a).1 = false
  ·rw [if_pos c] at h ⊢
   dsimp only at h ⊢
   right
   refine ⟨by rw [List.length_cons]; omega, a, List.mem_cons_self .., ?_⟩
   rw [<- hq_X h]
   exact c.elim (fun c => absurd h c) id
  ·rw [if_neg c] at h ⊢
   dsimp only at h ⊢
   have h1 : (hq es a).2 = 0 := Classical.byContradiction fun x => c (.inl x)
   have h2 : (hq es a).1 = true := by cases hh : (hq es a).1; exact absurd (.inr hh) c; rfl
   rcases fv_cases r h with ⟨i1, i2⟩ | ⟨i1, f, i2, i3⟩
   ·left
    refine ⟨by rw [i1, List.length_cons]; omega, fun f hf => ?_⟩
    rcases List.mem_cons.1 hf with rfl | hf
    ·rw [<- hq_X h1]; exact h2
    ·exact i2 f hf
   ·exact .inr ⟨by rw [List.length_cons]; omega, f, List.mem_cons_of_mem _ i2, i3⟩
theorem fir_all : ∀ {l : List Qm} {j : Nat}, (firF l j).2 = 0 -> ∀ f ∈ l, errF f = 0
 | [], _, _, f, hf => absurd hf (by simp)
 | a :: r, j, h, f, hf => by
  unfold firF at h
  by_cases c : errF a ≠ 0
  ·rw [if_pos c] at h; exact absurd h c
  ·rw [if_neg c] at h
   rcases List.mem_cons.1 hf with rfl | hf
   ·exact Classical.byContradiction c
   ·exact fir_all h f hf
theorem all_fir : ∀ {l : List Qm} {j : Nat}, (∀ f ∈ l, errF f = 0) -> (firF l j).2 = 0
 | [], _, _ => rfl
 | a :: r, j, h => by
  unfold firF
  rw [if_neg (by rw [h a (List.mem_cons_self ..)]; simp)]
  exact all_fir fun f hf => h f (List.mem_cons_of_mem _ hf)
theorem col_ex : ∀ (n : Nat) (P : List Qm), P.length = n -> ∃ out s, ColQ P out s
 | 0, P, h => by
  obtain rfl := List.length_eq_zero_iff.1 h
  exact ⟨[], true, ColQ.nil⟩
 | n + 1, P, h => by
  have hne : P ≠ [] := fun e => by rw [e] at h; simp at h
  obtain ⟨out, s, hc⟩ := col_ex n P.dropLast (by rw [List.length_dropLast, h]; rfl)
  have e := List.dropLast_concat_getLast hne
  have h2 := hc.step (P.getLast hne)
  rw [e] at h2
  exact ⟨_, _, h2⟩
theorem bst_ex {P : List Qm} (C : Cns P) {t : Qm} (ht : t ∈ P) : ∃ x, Bst P x /\ x.2.1 = t.2.1 := by
 obtain ⟨out, s, hc⟩ := col_ex _ P rfl
 obtain ⟨x, hx, hm⟩ := hc.cov t ht
 cases s
 ·exact absurd C (hc.no rfl)
 ·exact ⟨x, (hc.yes rfl).2 x hx, hm⟩
theorem nz_case {l : List Qm} {n : List Qm} (h : NzR l (n, true, 0)) : l.length <= 256 /\ (firF l 0).2 = 0 /\ l.all posF = true /\ Cns (l.filterMap keepF) /\ AscM n /\ ∀ x, x ∈ n ↔ Bst (l.filterMap keepF) x := by
 rcases Nat.lt_or_ge 256 l.length with c | c
 ·have := h.lim c; simp at this
 ·by_cases e : (firF l 0).2 = 0
  ·cases p : l.all posF with
   | false => have := h.nev c e p; simp at this
   | true =>
    by_cases k : Cns (l.filterMap keepF)
    ·obtain ⟨_, a2, a3⟩ := h.yes c e p k
     exact ⟨c, e, rfl, k, a2, a3⟩
    ·have := h.con c e p k; simp at this
  ·have := h.err c e; simp at this
theorem nz_false {l n : List Qm} {er : Int} (h : NzR l (n, false, er)) : n = [] /\ (er = 0 -> (firF l 0).2 = 0 /\ (l.all posF = false \/ ¬ Cns (l.filterMap keepF))) := by
 rcases Nat.lt_or_ge 256 l.length with c | c
 ·have := h.lim c
  simp only [Prod.mk.injEq] at this
  exact ⟨this.1, fun e => by rw [this.2.2] at e; cases e⟩
 ·by_cases e : (firF l 0).2 = 0
  ·cases p : l.all posF with
   | false => have := h.nev c e p; simp only [Prod.mk.injEq] at this; exact ⟨this.1, fun _ => ⟨e, .inl rfl⟩⟩
   | true =>
    by_cases k : Cns (l.filterMap keepF)
    ·have := (h.yes c e p k).1; simp at this
    ·have := h.con c e p k; simp only [Prod.mk.injEq] at this; exact ⟨this.1, fun _ => ⟨e, .inr k⟩⟩
  ·have := h.err c e
   simp only [Prod.mk.injEq] at this
   exact ⟨this.1, fun e2 => absurd (this.2.2.symm.trans e2) e⟩
theorem nz_true {l n : List Qm} {er : Int} (h : NzR l (n, true, er)) : er = 0 := by
 rcases Nat.lt_or_ge 256 l.length with c | c
 ·have := h.lim c; simp at this
 ·by_cases e : (firF l 0).2 = 0
  ·cases p : l.all posF with
   | false => have := h.nev c e p; simp at this
   | true =>
    by_cases k : Cns (l.filterMap keepF)
    ·have := (h.yes c e p k).1; simp only [Prod.mk.injEq] at this; exact this.2
    ·have := h.con c e p k; simp at this
  ·have := h.err c e; simp at this
/-- The normal form is its own. -/
theorem nz_again {l n : List Qm} (hb : bdQ l) (h : NzR l (n, true, 0)) : NzR n (n, true, 0) := by
 obtain ⟨h1, h2, h3, h4, h5, h6⟩ := nz_case h
 obtain ⟨f1, f2⟩ := nz_facts h
 dsimp only at f1 f2
 have ti : ∀ t ∈ n, tgQ t = (t.1, t.2.1, t.2.2, 0, 0) := fun t ht => by
  obtain ⟨f, hf, hT⟩ := keep_mem (f2 t ht)
  exact tg_idem (fun i hi => ((hb f hf).2.2 _ (getD_mem hi)).2) hT
 have kp : ∀ t ∈ n, keepF t = some t := fun t ht => by unfold keepF; rw [ti t ht]; simp
 have he : (firF n 0).2 = 0 := all_fir fun t ht => by unfold errF; rw [ti t ht]
 have hp : n.all posF = true := List.all_eq_true.2 fun t ht => by unfold posF; rw [ti t ht]; simp
 have hk : n.filterMap keepF = n := by
  have : ∀ m : List Qm, (∀ t ∈ m, keepF t = some t) -> m.filterMap keepF = m := fun m => by
   induction m with
   | nil => intro _; rfl
   | cons a r ih =>
    intro hm
    rw [List.filterMap_cons, hm a (List.mem_cons_self ..), ih fun t ht => hm t (List.mem_cons_of_mem _ ht)]
  exact this n kp
 have hc : Cns n := fun a ha b hb2 => h4 a (f2 a ha) b (f2 b hb2)
 refine ⟨fun h => by omega, fun _ h => absurd he h, fun _ _ h => absurd (hp.symm.trans h) (by simp), fun _ _ _ h => absurd (by rw [hk]; exact hc) h, fun _ _ _ _ => ⟨rfl, h5, fun x => ?_⟩⟩
 rw [hk]
 exact ⟨fun hx => ⟨hx, fun b hb2 => ((h6 x).1 hx).2 b (f2 b hb2)⟩, fun hx => hx.1⟩
theorem tg_hX {es : List Mo} {f : Qm} {K kd : Int} {ys : List Mo} {fq : Bool} (hb : ∀ m ∈ f.2.1, m.1.size <= maxLen /\ -9223372036854775808 <= m.2 /\ m.2 <= 9223372036854775807) (h : tgQ f = (K, ys, fq, kd, 0)) : hX es f = hX es (K, ys, fq) /\ (kd = 1 -> hX es f = true) /\ (kd = 2 -> hX es f = false) := by
 have h1 := tg_x (k := f.1) (xs := f.2.1) (eq := f.2.2) (es := es) (fun i hi => (hb _ (getD_mem hi)).2) (by
  have h2 : (tgQ f).2.2.2.2 = 0 := by rw [h]
  exact h2)
 rw [show tgR f.1 f.2.1 f.2.2 = (K, ys, fq, kd, 0) from h] at h1
 exact h1
theorem eq_yes {es : List Mo} {l n : List Qm} (hb : bdQ l) (h : NzR l (n, true, 0)) : (∀ f ∈ l, hX es f = true) ↔ (∀ t ∈ n, hX es t = true) := by
 obtain ⟨h1, h2, h3, h4, h5, h6⟩ := nz_case h
 obtain ⟨f1, f2⟩ := nz_facts h
 dsimp only at f1 f2
 refine ⟨fun H t ht => ?_, fun H f hf => ?_⟩
 ·obtain ⟨f, hf, hT⟩ := keep_mem (f2 t ht)
  have := (tg_hX (es := es) (hb f hf).2.2 hT).1
  rw [show t = (t.1, t.2.1, t.2.2) from rfl, <- this]
  exact H f hf
 ·obtain ⟨K, ys, fq, kd, er, hT, hkd⟩ := tg_kinds f.1 f.2.1 f.2.2
  have hT : tgQ f = (K, ys, fq, kd, er) := hT
  have he : er = 0 := by have := fir_all h2 f hf; unfold errF at this; rw [hT] at this; exact this
  subst he
  obtain ⟨x1, x2, x3⟩ := tg_hX (es := es) (hb f hf).2.2 hT
  rcases hkd with ⟨rfl, _⟩ | ⟨rfl, _⟩ | ⟨rfl, _⟩ | ⟨_, h7⟩
  ·rw [x1]
   have hmem : (K, ys, fq) ∈ l.filterMap keepF := List.mem_filterMap.2 ⟨f, hf, by unfold keepF; rw [hT]; simp⟩
   obtain ⟨x, hx, hm⟩ := bst_ex h4 hmem
   have hxn := H x ((h6 x).2 hx)
   have hb2 := hx.2 _ hmem hm.symm
   have hc1 := h4 x hx.1 _ hmem hm
   have hc2 := h4 _ hmem x hx.1 hm.symm
   rw [hX_iff] at hxn ⊢
   dsimp only at hm hb2 hc1 hc2 ⊢
   rw [<- hm]
   cases hxe : x.2.2
   ·rw [hxe] at hxn hb2
    rw [if_neg (by simp)] at hxn
    cases fq
    ·rw [if_neg (by simp)]; omega
    ·have := hb2.2 rfl; simp at this
   ·rw [hxe, if_pos rfl] at hxn
    cases fq
    ·rw [if_neg (by simp)]; omega
    ·rw [if_pos rfl]; have := (hc1 hxe).2 rfl; omega
  ·exact x2 rfl
  ·have := List.all_eq_true.1 h3 f hf
   unfold posF at this
   rw [hT] at this
   simp at this
  ·exact absurd rfl h7
theorem eq_no {es : List Mo} {l n : List Qm} (hb : bdQ l) (h : NzR l (n, false, 0)) (H : ∀ f ∈ l, hX es f = true) : False := by
 obtain ⟨_, h1⟩ := nz_false h
 obtain ⟨he, h2⟩ := h1 rfl
 rcases h2 with h2 | h2
 ·obtain ⟨f, hf, hp⟩ := List.all_eq_false.1 h2
  obtain ⟨K, ys, fq, kd, er, hT, hkd⟩ := tg_kinds f.1 f.2.1 f.2.2
  have hT : tgQ f = (K, ys, fq, kd, er) := hT
  have he2 : er = 0 := by have := fir_all he f hf; unfold errF at this; rw [hT] at this; exact this
  subst he2
  unfold posF at hp
  rw [hT] at hp
  have hk : kd = 2 := by simpa using hp
  have := (tg_hX (es := es) (hb f hf).2.2 hT).2.2 hk
  rw [H f hf] at this
  cases this
 ·refine h2 fun a ha b hb2 hm hae => ?_
  obtain ⟨f, hf, hT⟩ := keep_mem ha
  obtain ⟨g, hg, hU⟩ := keep_mem hb2
  have h3 : hX es a = true := by
   have := (tg_hX (es := es) (hb f hf).2.2 hT).1
   rw [show a = (a.1, a.2.1, a.2.2) from rfl, <- this]; exact H f hf
  have h4 : hX es b = true := by
   have := (tg_hX (es := es) (hb g hg).2.2 hU).1
   rw [show b = (b.1, b.2.1, b.2.2) from rfl, <- this]; exact H g hg
  rw [hX_iff] at h3 h4
  rw [if_pos hae, hm] at h3
  cases hbe : b.2.2
  ·rw [hbe, if_neg (by simp)] at h4
   exact ⟨by omega, fun h => by cases h⟩
  ·rw [hbe, if_pos rfl] at h4
   exact ⟨by omega, fun _ => by omega⟩
end Go.Proofs.YtbicmlkjonaccaaDoor.Ln


namespace Go.Proofs.YtbicmlkjonaccaaDoor.Ln
open Go.ChangeShapes Go.WideShapes Go.ChangeAt Go.RowKit
open Go.Proofs.YtbicmlkjonaccaaDoor.Nm
set_option linter.unusedVariables false
set_option linter.unusedSimpArgs false
set_option maxRecDepth 8000
theorem wrap_bd (n : Int) : -9223372036854775808 <= wrap64 n /\ wrap64 n <= 9223372036854775807 := by unfold wrap64; omega
/-- What Tighten answers lies in range. -/
theorem tgR_ok (k : Int) (xs : List Mo) (eq : Bool) (k1 : -9223372036854775808 <= k) (k2 : k <= 9223372036854775807) (RS : ∀ i, i < xs.length -> (xs.getD i mo0).1.size <= maxLen /\ -9223372036854775808 <= (xs.getD i mo0).2 /\ (xs.getD i mo0).2 <= 9223372036854775807) :
  (-9223372036854775808 <= (tgR k xs eq).1 /\ (tgR k xs eq).1 <= 9223372036854775807) /\ ∀ i, i < (tgR k xs eq).2.1.length -> ((tgR k xs eq).2.1.getD i mo0).1.size <= maxLen /\ -9223372036854775808 <= ((tgR k xs eq).2.1.getD i mo0).2 /\ ((tgR k xs eq).2.1.getD i mo0).2 <= 9223372036854775807 := by
 have nil : ∀ i, i < ([] : List Mo).length -> (([] : List Mo).getD i mo0).1.size <= maxLen /\ -9223372036854775808 <= (([] : List Mo).getD i mo0).2 /\ (([] : List Mo).getD i mo0).2 <= 9223372036854775807 := fun i hi => absurd hi (by simp)
 unfold tgR
 cases hok : okL xs
 ·rw [if_pos rfl]
  exact ⟨by decide, nil⟩
 ·rw [if_neg (by decide)]
  by_cases h0 : xs.length = 0
  ·rw [if_pos h0]
   split
   ·exact ⟨by decide, nil⟩
   ·exact ⟨by decide, nil⟩
  ·rw [if_neg h0]
   have hg := (gcdL_bd hok h0 (fun i hi => (RS i hi).2)).1
   generalize gcdL 0 xs = G at *
   have hY : ∀ i, i < (tdY G xs).length -> ((tdY G xs).getD i mo0).1.size <= maxLen /\ -9223372036854775808 <= ((tdY G xs).getD i mo0).2 /\ ((tdY G xs).getD i mo0).2 <= 9223372036854775807 := fun i hi => by
    rw [tdY_len] at hi
    rw [tdY_get hi]
    have h3 := RS i hi
    exact ⟨h3.1, div_bd hg h3.2.1 h3.2.2⟩
   split
   ·exact ⟨by decide, nil⟩
   ·split
    ·split
     ·exact ⟨⟨by dsimp only; decide, by dsimp only; decide⟩, nil⟩
     ·dsimp only
      unfold sclR
      split
      ·exact ⟨by decide, nil⟩
      ·rw [if_neg (by decide)]
       split
       ·refine ⟨wrap_bd _, fun i hi => ?_⟩
        dsimp only at hi ⊢
        have hl : (sclV (-1) (tdY G xs)).length = (tdY G xs).length := by unfold sclV; rw [List.length_map]
        rw [hl] at hi
        have e : (sclV (-1) (tdY G xs)).getD i mo0 = (((tdY G xs).getD i mo0).1, wrap64 (((tdY G xs).getD i mo0).2 * -1)) := by
         unfold sclV
         rw [List.getD_eq_getElem?_getD, List.getElem?_map, List.getElem?_eq_getElem hi]
         have e1 : (tdY G xs).getD i mo0 = (tdY G xs)[i] := by unfold List.getD; rw [List.getElem?_eq_getElem hi]; rfl
         rw [e1]; rfl
        rw [e]
        exact ⟨(hY i hi).1, wrap_bd _⟩
       ·exact ⟨by decide, nil⟩
    ·exact ⟨div_bd hg k1 k2, hY⟩

theorem okQ_of2 {l : List Qm} (h : bdQ l) : ∀ f ∈ l, okQ f := fun f hf => ⟨Nat.le_trans (h f hf).1 (by decide), (h f hf).2.1, fun i hi => (h f hf).2.2 _ (getD_mem hi)⟩

set_option maxRecDepth 100000 in
set_option maxHeartbeats 8000000 in
theorem law_cequiv (p : Option Addr) (l : List Qm) (c : Nat) (r : Option Addr) (es : List Mo) (d' : Nat) (w : World) (hn : l.length <= maxLen) (hm : es.length <= maxLen) (RA : Hid (SlQ w p l)) (RB : Hid (SlM w r es)) (AQ : Hid (argQ l))
  (RT : Hid (∀ i, i < es.length -> (es.getD i mo0).1.size <= maxLen /\ -9223372036854775808 <= (es.getD i mo0).2 /\ (es.getD i mo0).2 <= 9223372036854775807)) (hL : Hid (∀ w', Below w.heap.size w w' -> LA w')) :
  Calls Tryd.prog 12 #[.slice p l.length c, .slice r es.length d'] w fun e w' => e = .returned (.bool true) /\ Below w.heap.size w w' := by
 have SM := Lib.hid (small6 p l c 60 w hn (Lib.hid fun f hf => (AQ.out f hf).2.1) (by decide) RA)
 have EX := Lib.hid fun w h => exam6 w h
 have KX : Hid (Below w.heap.size w w) := Lib.hid (Below.refl _ _)
 have HM9 := Lib.hid hm
 unfold maxLen at hm
 cases hsm : smQ 60 l
 ·rw [hsm] at SM
  clear hsm
  go_enter Tryd.func12, Tryd.ntmps12
  go_wp2_with (first | (go_at_call 20; refine SM.out.mono ?_; rintro e w9 ⟨rfl, rfl⟩) | (go_at_call 21; (with_reducible refine (EX.out _ (Lib.hid fun w' h => hL.out _ (KX.out.trans (h.mono KX.out.size)))).mono ?_); rintro e wx ⟨rfl, hbx⟩))
  go_ret
  exact ⟨rfl, hbx⟩
 ·have HB := smQ_bd hsm
  rw [hsm] at SM
  clear hsm
  by_cases he : 100 < es.length
  ·have he1 : (100 : Int) < es.length := by omega
   clear HB
   go_enter Tryd.func12, Tryd.ntmps12
   go_wp2_with (first | (go_at_call 20; refine SM.out.mono ?_; rintro e w9 ⟨rfl, rfl⟩) | (go_at_call 21; (with_reducible refine (EX.out _ (Lib.hid fun w' h => hL.out _ (KX.out.trans (h.mono KX.out.size)))).mono ?_); rintro e wx ⟨rfl, hbx⟩))
   go_ret
   exact ⟨rfl, hbx⟩
  ·have he1 : ¬ (100 : Int) < es.length := by omega
   have QK : Hid (bdQ l) := Lib.hid fun f hf => ⟨HB.2 f hf, (AQ.out f hf).1, (AQ.out f hf).2.2⟩
   have hl : l.length <= 1000 := Nat.le_trans HB.1 (by decide)
   have N1 := Lib.hid fun w h1 => nrm1 p l c w hl h1 QK
   have F1 := Lib.hid fun w h1 h2 => fv2 p l c r es d' w hl HM9.out h1 h2 RT (Lib.hid (okQ_of2 QK.out))
   have CAS := Lib.hid (fv_cases (es := es) l)
   obtain ⟨⟨x, f⟩, hF⟩ : ∃ R, fvF es l = R := ⟨_, rfl⟩
   rw [hF] at F1 CAS
   dsimp only at F1 CAS
   have HL := Lib.hid hl
   obtain ⟨n, hnn⟩ : ∃ n, l.length = n := ⟨_, rfl⟩
   rw [hnn] at SM N1 F1 CAS ⊢
   unfold NZ at N1
   clear HB hn hl hnn hF
   go_enter Tryd.func12, Tryd.ntmps12
   go_wp2_with ((go_at_call 20; refine SM.out.mono ?_; rintro e w9 ⟨rfl, rfl⟩))
   refine (N1.out w RA).mono ?_
   rintro e w1 ⟨⟨al, aok, aer⟩, q1, d1, hz1, rfl, S1, ld1, hb1⟩
   dsimp only at S1 ld1 ⊢
   have HZ1 := Lib.hid hz1
   have SA := Lib.hid S1
   have KA := Lib.hid hb1
   clear hz1 S1 hb1

   cases aok
   ·obtain ⟨rfl, hz0⟩ := nz_false HZ1.out
    have HZ0 := Lib.hid hz0
    by_cases h0 : aer = 0
    ·subst h0
     have HNO := Lib.hid fun H => eq_no (es := es) QK.out HZ1.out H
     by_cases f0 : f = 0
     ·subst f0
      have hlt : x < n := by
       rcases CAS.out rfl with ⟨_, h2⟩ | ⟨h1, _⟩
       ·exact absurd h2 HNO.out
       ·exact h1
      go_wp2_with (first | (go_at_call 27; (with_reducible refine (F1.out _ (Lib.hid (SlQ.keep KA.out RA.out)) (Lib.hid (SlM.keep KA.out RB.out))).mono ?_); rintro e w2 ⟨rfl, hb2⟩; have KB := Lib.hid (KA.out.trans (hb2.mono KA.out.size)); have SB := Lib.hid (SlQ.keep hb2 SA.out); clear hb2) | (go_at_call 21; (with_reducible refine (EX.out _ (Lib.hid fun w' h => hL.out _ (KB.out.trans (h.mono KB.out.size)))).mono ?_); rintro e wx ⟨rfl, hbx⟩))
      go_ret
      exact ⟨rfl, KB.out.trans (hbx.mono KB.out.size)⟩
     ·have f1 : (f == 0) = false := by simpa using f0
      have f2 : (f != 0) = true := by simpa using f0
      go_wp2_with (first | (go_at_call 27; (with_reducible refine (F1.out _ (Lib.hid (SlQ.keep KA.out RA.out)) (Lib.hid (SlM.keep KA.out RB.out))).mono ?_); rintro e w2 ⟨rfl, hb2⟩; have KB := Lib.hid (KA.out.trans (hb2.mono KA.out.size)); have SB := Lib.hid (SlQ.keep hb2 SA.out); clear hb2) | (go_at_call 21; (with_reducible refine (EX.out _ (Lib.hid fun w' h => hL.out _ (KB.out.trans (h.mono KB.out.size)))).mono ?_); rintro e wx ⟨rfl, hbx⟩))
      go_ret
      exact ⟨rfl, KB.out.trans (hbx.mono KB.out.size)⟩
    ·have f1 : (aer == 0) = false := by simpa using h0
     have f2 : (aer != 0) = true := by simpa using h0
     go_wp2_with (first | (go_at_call 21; (with_reducible refine (EX.out _ (Lib.hid fun w' h => hL.out _ (KA.out.trans (h.mono KA.out.size)))).mono ?_); rintro e wx ⟨rfl, hbx⟩))
     go_ret
     exact ⟨rfl, KA.out.trans (hbx.mono KA.out.size)⟩
   ·obtain rfl := nz_true HZ1.out
    by_cases f0 : f = 0
    ·subst f0
     have hf := nz_facts HZ1.out
     have hbn : bdQ al := fun t ht => by
      obtain ⟨g, hg, hT⟩ := keep_mem (hf.2 t ht)
      have h1 := tgQ_len g
      have h2 := QK.out g hg
      have h3 := tgR_ok g.1 g.2.1 g.2.2 h2.2.1.1 h2.2.1.2 (fun i hi => h2.2.2 _ (getD_mem hi))
      have hT2 : tgR g.1 g.2.1 g.2.2 = (t.1, t.2.1, t.2.2, 0, 0) := hT
      rw [hT] at h1
      rw [hT2] at h3
      exact ⟨Nat.le_trans h1 h2.1, h3.1, fun m hm => by
       obtain ⟨i, hi, rfl⟩ := List.mem_iff_getElem.1 hm
       have := h3.2 i hi
       rw [List.getD_eq_getElem?_getD, List.getElem?_eq_getElem hi] at this
       exact this⟩
     have hl2 : al.length <= 1000 := Nat.le_trans hf.1 HL.out
     have QN := Lib.hid hbn
     have HZ2 := Lib.hid (nz_again QK.out HZ1.out)
     have N3 := Lib.hid fun w h1 => nrm1 q1 al d1 w hl2 h1 QN
     have F20 := fun w h1 h2 => fv2 q1 al d1 r es d' w hl2 HM9.out h1 h2 RT (Lib.hid (okQ_of2 QN.out))
     have CE := Lib.hid fun (q2 q1 : Option Addr) (d2 d1 : Nat) (w : World) (h1 : Hid (SlQ w q2 al)) (h2 : Hid (SlQ w q1 al)) => consEq q2 q1 al d2 d1 w hl2 (Lib.hid fun t ht => Nat.le_trans (QN.out t ht).1 (by decide)) h1 h2
     have CAS2 := fv_cases (es := es) al
     obtain ⟨⟨y, h⟩, hF2⟩ : ∃ R, fvF es al = R := ⟨_, rfl⟩
     rw [hF2] at F20 CAS2
     dsimp only at F20 CAS2
     have F2 := Lib.hid F20
     have EQY := Lib.hid (eq_yes (es := es) QK.out HZ1.out)
     have HC2 := Lib.hid CAS2
     obtain ⟨m, hmm⟩ : ∃ m, al.length = m := ⟨_, rfl⟩
     rw [hmm] at N3 F2 CE HC2 ld1 ⊢
     unfold NZ at N3
     clear hf hbn hl2 F20 CAS2 hF2
     by_cases h0 : h = 0
     ·subst h0
      have hiff : (x == (n : Int)) = (y == (m : Int)) := by
       rcases CAS.out rfl with ⟨a1, a2⟩ | ⟨a1, g, a2, a3⟩
       ·rcases HC2.out rfl with ⟨b1, b2⟩ | ⟨b1, g, b2, b3⟩
        ·rw [a1, b1]; simp
        ·have := EQY.out.1 a2 g b2; rw [b3] at this; cases this
       ·rcases HC2.out rfl with ⟨b1, b2⟩ | ⟨b1, _, b2, b3⟩
        ·have := EQY.out.2 b2 g a2; rw [a3] at this; cases this
        ·rw [beq_false_of_ne (by omega), beq_false_of_ne (by omega)]
      obtain ⟨v, hv⟩ : ∃ v, (x == (n : Int)) = v := ⟨_, rfl⟩
      rw [hv] at hiff
      have hv2 := hiff.symm
      have g1 : (v == v) = true := by simp
      clear hiff CAS HC2 EQY
      go_wp2_with (first | (go_at_call 27; (with_reducible refine (F1.out _ (Lib.hid (SlQ.keep KA.out RA.out)) (Lib.hid (SlM.keep KA.out RB.out))).mono ?_); rintro e w2 ⟨rfl, hb2⟩; have KB := Lib.hid (KA.out.trans (hb2.mono KA.out.size)); have SB := Lib.hid (SlQ.keep hb2 SA.out); clear hb2) | (go_at_call 36; (with_reducible refine (N3.out _ SB).mono ?_); rintro e w3 ⟨⟨bl, bok, ber⟩, q2, d2, hz2, rfl, S2, ld2, hb3⟩; dsimp only at S2 ld2 ⊢; have hzu := NzR.uniq hz2 HZ2.out; cases hzu; have SC := Lib.hid S2; have SD := Lib.hid (SlQ.keep hb3 SB.out); have KC := Lib.hid (KB.out.trans (hb3.mono KB.out.size)); clear hz2 S2 hb3) | (go_at_call 33; (with_reducible refine (CE.out q2 q1 d2 d1 _ SC SD).mono ?_); rintro e w4 ⟨rfl, hb4⟩; have KD := Lib.hid (KC.out.trans (hb4.mono KC.out.size)); have SE := Lib.hid (SlQ.keep hb4 SD.out); clear hb4) | (go_at_call 27; (with_reducible refine (F2.out _ SE (Lib.hid (SlM.keep KD.out RB.out))).mono ?_); rintro e w5 ⟨rfl, hb5⟩; have KE := Lib.hid (KD.out.trans (hb5.mono KD.out.size)); clear hb5) | (go_at_call 21; (with_reducible refine (EX.out _ (Lib.hid fun w' h => hL.out _ (KE.out.trans (h.mono KE.out.size)))).mono ?_); rintro e wx ⟨rfl, hbx⟩))
      go_ret
      exact ⟨rfl, KE.out.trans (hbx.mono KE.out.size)⟩
     ·have f1 : (h == 0) = false := by simpa using h0
      have f2 : (h != 0) = true := by simpa using h0
      clear CAS HC2 EQY
      go_wp2_with (first | (go_at_call 27; (with_reducible refine (F1.out _ (Lib.hid (SlQ.keep KA.out RA.out)) (Lib.hid (SlM.keep KA.out RB.out))).mono ?_); rintro e w2 ⟨rfl, hb2⟩; have KB := Lib.hid (KA.out.trans (hb2.mono KA.out.size)); have SB := Lib.hid (SlQ.keep hb2 SA.out); clear hb2) | (go_at_call 36; (with_reducible refine (N3.out _ SB).mono ?_); rintro e w3 ⟨⟨bl, bok, ber⟩, q2, d2, hz2, rfl, S2, ld2, hb3⟩; dsimp only at S2 ld2 ⊢; have hzu := NzR.uniq hz2 HZ2.out; cases hzu; have SC := Lib.hid S2; have SD := Lib.hid (SlQ.keep hb3 SB.out); have KC := Lib.hid (KB.out.trans (hb3.mono KB.out.size)); clear hz2 S2 hb3) | (go_at_call 33; (with_reducible refine (CE.out q2 q1 d2 d1 _ SC SD).mono ?_); rintro e w4 ⟨rfl, hb4⟩; have KD := Lib.hid (KC.out.trans (hb4.mono KC.out.size)); have SE := Lib.hid (SlQ.keep hb4 SD.out); clear hb4) | (go_at_call 27; (with_reducible refine (F2.out _ SE (Lib.hid (SlM.keep KD.out RB.out))).mono ?_); rintro e w5 ⟨rfl, hb5⟩; have KE := Lib.hid (KD.out.trans (hb5.mono KD.out.size)); clear hb5) | (go_at_call 21; (with_reducible refine (EX.out _ (Lib.hid fun w' h => hL.out _ (KE.out.trans (h.mono KE.out.size)))).mono ?_); rintro e wx ⟨rfl, hbx⟩))
      go_ret
      exact ⟨rfl, KE.out.trans (hbx.mono KE.out.size)⟩
    ·have f1 : (f == 0) = false := by simpa using f0
     have f2 : (f != 0) = true := by simpa using f0
     go_wp2_with (first | (go_at_call 27; (with_reducible refine (F1.out _ (Lib.hid (SlQ.keep KA.out RA.out)) (Lib.hid (SlM.keep KA.out RB.out))).mono ?_); rintro e w2 ⟨rfl, hb2⟩; have KB := Lib.hid (KA.out.trans (hb2.mono KA.out.size)); have SB := Lib.hid (SlQ.keep hb2 SA.out); clear hb2) | (go_at_call 21; (with_reducible refine (EX.out _ (Lib.hid fun w' h => hL.out _ (KB.out.trans (h.mono KB.out.size)))).mono ?_); rintro e wx ⟨rfl, hbx⟩))
     go_ret
     exact ⟨rfl, KB.out.trans (hbx.mono KB.out.size)⟩

end Go.Proofs.YtbicmlkjonaccaaDoor.Ln
