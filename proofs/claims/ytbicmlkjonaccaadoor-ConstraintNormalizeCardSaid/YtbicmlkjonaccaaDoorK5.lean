/- Tighten: what it refuses, and constants. -/
import Derived.Test.YtbicmlkjonaccaaDoorK3
import Derived.Test.YtbicmlkjonaccaaDoorK4
import Derived.OneCell

namespace Go.Proofs.YtbicmlkjonaccaaDoor.Ln
open Go.ChangeShapes Go.WideShapes Go.ChangeAt Go.RowKit
open Go.Proofs.YtbicmlkjonaccaaDoor.Nm
set_option linter.unusedVariables false
set_option linter.unusedSimpArgs false
set_option maxRecDepth 8000

def tdY (G : Nat) (xs : List Mo) : List Mo := xs.map fun m => (m.1, m.2 / (G : Int))
/-- What Tighten answers: constant, monomials, whether it is an equation, kind, error. -/
def tgR (k : Int) (xs : List Mo) (eq : Bool) : Int × List Mo × Bool × Int × Int :=
 if okL xs = false then (0, [], false, 0, 1) else if xs.length = 0 then (if hB k eq = true then (0, [], false, 1, 0) else (-1, [], false, 2, 0))
 else if (eq && !(k % (gcdL 0 xs : Int) == 0)) = true then (-1, [], false, 2, 0)
 else if (eq && decide (((tdY (gcdL 0 xs) xs).getD 0 mo0).2 < 0)) = true then
  (if (sclR (-1) (k / (gcdL 0 xs : Int)) (tdY (gcdL 0 xs) xs)).2.2 ≠ 0 then (0, [], false, 0, (sclR (-1) (k / (gcdL 0 xs : Int)) (tdY (gcdL 0 xs) xs)).2.2) else ((sclR (-1) (k / (gcdL 0 xs : Int)) (tdY (gcdL 0 xs) xs)).1, (sclR (-1) (k / (gcdL 0 xs : Int)) (tdY (gcdL 0 xs) xs)).2.1, eq, 0, 0))
 else (k / (gcdL 0 xs : Int), tdY (gcdL 0 xs) xs, eq, 0, 0)
def TR (r : Int × List Mo × Bool × Int × Int) (w : World) (e : Ending) (w' : World) : Prop := ∃ p c, e = .returned (.tuple #[Cv r.1 p r.2.1.length c r.2.2.1, .int .i64 r.2.2.2.1, .int .i64 r.2.2.2.2]) /\ SlM w' p r.2.1 /\ (∀ b o, p = some ⟨b, o, none⟩ -> r.2.1 ≠ [] -> ∃ cur, w'.heap[b]? = some (.cells cur 59 (0, 0))) /\ Below w.heap.size w w'
theorem TR.nil {k : Int} {eq : Bool} {kind er : Int} {w w' : World} (hb : Below w.heap.size w w') : TR (k, [], eq, kind, er) w (.returned (.tuple #[.agg #[.int .i64 k, .slice none 0 0, .bool eq], .int .i64 kind, .int .i64 er])) w' := ⟨none, 0, rfl, fun i hi => absurd hi (by simp), (fun b o h _ => absurd h (by simp)), hb⟩
theorem ok_ne {xs : List Mo} (h : okL xs = true) {i : Nat} (hi : i < xs.length) : (xs.getD i mo0).2 ≠ 0 := by
 have h1 := List.all_eq_true.1 h i (List.mem_range.2 hi)
 intro h0
 unfold bd at h1
 rw [h0] at h1
 simp at h1
theorem gcdL_dvd : ∀ (xs : List Mo) (g : Nat), gcdL g xs ∣ g
 | [], g => Nat.dvd_refl _
 | m :: r, g => Nat.dvd_trans (gcdL_dvd r (Nat.gcd g m.2.natAbs)) (Nat.gcd_dvd_left _ _)
theorem gcdL_bd {xs : List Mo} (h : okL xs = true) (hn : xs.length ≠ 0) (hb : ∀ i, i < xs.length -> -9223372036854775808 <= (xs.getD i mo0).2 /\ (xs.getD i mo0).2 <= 9223372036854775807) : 1 <= gcdL 0 xs /\ gcdL 0 xs <= 9223372036854775808 := by
 cases xs with
 | nil => exact absurd rfl hn
 | cons m r =>
  have h0 := ok_ne h (i := 0) (by simp)
  have hb0 := hb 0 (by simp)
  simp only [List.getD_cons_zero] at h0 hb0
  have hd : gcdL 0 (m :: r) ∣ m.2.natAbs := by
   show gcdL (Nat.gcd 0 m.2.natAbs) r ∣ _
   rw [Nat.gcd_zero_left]
   exact gcdL_dvd r _
  have hp : 0 < m.2.natAbs := by omega
  exact ⟨Nat.pos_of_dvd_of_pos hd hp, Nat.le_trans (Nat.le_of_dvd hp hd) (by omega)⟩

set_option maxHeartbeats 4000000 in
theorem tig_bad (k : Int) (p : Option Addr) (xs : List Mo) (c : Nat) (eq : Bool) (w : World) (hn : xs.length <= 1000) (RA : Hid (SlM w p xs)) (RS : Hid (∀ i, i < xs.length -> (xs.getD i mo0).1.size <= maxLen /\ -9223372036854775808 <= (xs.getD i mo0).2 /\ (xs.getD i mo0).2 <= 9223372036854775807)) (k1 : -9223372036854775808 <= k) (k2 : k <= 9223372036854775807) (hok : okL xs = false) : Calls Tryd.prog 28 #[Cv k p xs.length c eq] w (TR (0, [], false, 0, 1) w) := by
 have VL := Lib.hid fun w h => cval1 k p xs c eq w (by unfold maxLen; omega) h (Lib.hid fun i hi => (RS.out i hi).1)
 have B0 : Below w.heap.size w ((w.alloc (Obj.cells #[Value.int .i64 k, Value.slice p xs.length c, Value.bool eq] 36)).alloc (Obj.cells #[Value.int .i64 0, Value.slice none 0 0, Value.bool false] 36)) := ((Below.refl _ _).alloc (Nat.le_refl _) _).alloc (by simp) _
 have RA2 := Lib.hid (SlM.keep B0 RA.out)
 have hv : vL xs = 1 := by unfold vL; rw [hok]; rfl
 rw [hv] at VL
 unfold Cv at *
 clear hok hv RS
 go_enter Tryd.func28, Tryd.ntmps28
 go_wp2_with (first | (go_at_call 24; (with_reducible refine (VL.out _ RA2).mono ?_); rintro e w1 ⟨rfl, hb1⟩; have hc1 := (Rg.bcell hb1).1; have hf1 := (Rg.bcell hb1).2; have z1_0 : w.heap.size < w1.heap.size := (by have hzz := hb1.size; (try simp at hzz); omega); have z1_1 : w.heap.size + 1 < w1.heap.size := (by have hzz := hb1.size; (try simp at hzz); omega); have K1 : Below w.heap.size w w1 := Below.trans (b := _) (by (repeat' (first | (with_reducible exact Below.refl _ _) | (with_reducible refine Below.alloc ?_ ?_ _) | (with_reducible refine Below.setCell ?_ ?_ _) | (with_reducible refine below_drewN ?_ _) | (simp; done) | omega | (simp; omega)))) (hb1.mono (by have hzz := hb1.size; (try simp at hzz); first | omega | (simp; done) | (simp; omega)))))
 refine bodyPost_ret (v := .tuple #[.agg #[.int .i64 0, .slice none 0 0, .bool false], .int .i64 0, .int .i64 1]) (by simp [results, Tryd.results28, go_sem, hc1, hf1, z1_0, Nat.lt_succ_of_lt z1_0, Nat.ne_of_lt z1_0, Nat.ne_of_gt z1_0, z1_1, Nat.lt_succ_of_lt z1_1, Nat.ne_of_lt z1_1, Nat.ne_of_gt z1_1]) rfl (TR.nil ?_); (repeat' (first | (with_reducible exact Below.refl _ _) | (with_reducible exact K1) | (with_reducible exact K1.size) | (with_reducible refine Below.alloc ?_ ?_ _) | (with_reducible refine Below.setCell ?_ ?_ _) | (with_reducible refine below_drewN ?_ _) | (simp; done) | omega | (simp; omega)))

set_option maxHeartbeats 4000000 in
theorem tig_true (k : Int) (p : Option Addr) (xs : List Mo) (c : Nat) (eq : Bool) (w : World) (hn : xs.length <= 1000) (RA : Hid (SlM w p xs)) (RS : Hid (∀ i, i < xs.length -> (xs.getD i mo0).1.size <= maxLen /\ -9223372036854775808 <= (xs.getD i mo0).2 /\ (xs.getD i mo0).2 <= 9223372036854775807)) (k1 : -9223372036854775808 <= k) (k2 : k <= 9223372036854775807) (hok : okL xs = true) (h0 : xs.length = 0) (hh : hB k eq = true) : Calls Tryd.prog 28 #[Cv k p xs.length c eq] w (TR (0, [], false, 1, 0) w) := by
 have VL := Lib.hid fun w h => cval1 k p xs c eq w (by unfold maxLen; omega) h (Lib.hid fun i hi => (RS.out i hi).1)
 have B0 : Below w.heap.size w ((w.alloc (Obj.cells #[Value.int .i64 k, Value.slice p xs.length c, Value.bool eq] 36)).alloc (Obj.cells #[Value.int .i64 0, Value.slice none 0 0, Value.bool false] 36)) := ((Below.refl _ _).alloc (Nat.le_refl _) _).alloc (by simp) _
 have RA2 := Lib.hid (SlM.keep B0 RA.out)
 have hv : vL xs = 0 := by unfold vL; rw [hok]; rfl
 rw [hv] at VL
 have HF := Lib.hid fun w => holdsF k p xs.length c eq k w
 rw [hh] at HF
 have NV := Lib.hid fun w => never1 w
 have g0 : ((xs.length : Int) == 0) = true := by simp [h0]
 unfold Cv at *
 clear hok hv RS hh h0
 go_enter Tryd.func28, Tryd.ntmps28
 go_wp2_with (first | (go_at_call 24; (with_reducible refine (VL.out _ RA2).mono ?_); rintro e w1 ⟨rfl, hb1⟩; have hc1 := (Rg.bcell hb1).1; have hf1 := (Rg.bcell hb1).2; have z1_0 : w.heap.size < w1.heap.size := (by have hzz := hb1.size; (try simp at hzz); omega); have z1_1 : w.heap.size + 1 < w1.heap.size := (by have hzz := hb1.size; (try simp at hzz); omega); have K1 : Below w.heap.size w w1 := Below.trans (b := _) (by (repeat' (first | (with_reducible exact Below.refl _ _) | (with_reducible refine Below.alloc ?_ ?_ _) | (with_reducible refine Below.setCell ?_ ?_ _) | (with_reducible refine below_drewN ?_ _) | (simp; done) | omega | (simp; omega)))) (hb1.mono (by have hzz := hb1.size; (try simp at hzz); first | omega | (simp; done) | (simp; omega)))) | (go_at_call 54; (with_reducible refine (HF.out _).mono ?_); rintro e w2 ⟨rfl, hb2⟩; have hc2 := (Rg.bcell hb2).1; have hf2 := (Rg.bcell hb2).2; have z2_0 : w.heap.size < w2.heap.size := (by have hzz := hb2.size; (try simp at hzz); omega); have z2_1 : w.heap.size + 1 < w2.heap.size := (by have hzz := hb2.size; (try simp at hzz); omega); have K2 : Below w.heap.size w w2 := Below.trans (b := _) (by (repeat' (first | (with_reducible exact Below.refl _ _) | (with_reducible exact K1) | (with_reducible exact K1.size) | (with_reducible refine Below.alloc ?_ ?_ _) | (with_reducible refine Below.setCell ?_ ?_ _) | (with_reducible refine below_drewN ?_ _) | (simp; done) | omega | (simp; omega)))) (hb2.mono (by have hzz := hb2.size; (try simp at hzz); first | omega | (simp; done) | (simp; omega)))))
 refine bodyPost_ret (v := .tuple #[.agg #[.int .i64 0, .slice none 0 0, .bool false], .int .i64 1, .int .i64 0]) (by simp [results, Tryd.results28, go_sem, hc1, hf1, hc2, hf2, z1_0, Nat.lt_succ_of_lt z1_0, Nat.ne_of_lt z1_0, Nat.ne_of_gt z1_0, z1_1, Nat.lt_succ_of_lt z1_1, Nat.ne_of_lt z1_1, Nat.ne_of_gt z1_1, z2_0, Nat.lt_succ_of_lt z2_0, Nat.ne_of_lt z2_0, Nat.ne_of_gt z2_0, z2_1, Nat.lt_succ_of_lt z2_1, Nat.ne_of_lt z2_1, Nat.ne_of_gt z2_1]) rfl (TR.nil ?_); (repeat' (first | (with_reducible exact Below.refl _ _) | (with_reducible exact K1) | (with_reducible exact K1.size) | (with_reducible exact K2) | (with_reducible exact K2.size) | (with_reducible refine Below.alloc ?_ ?_ _) | (with_reducible refine Below.setCell ?_ ?_ _) | (with_reducible refine below_drewN ?_ _) | (simp; done) | omega | (simp; omega)))

set_option maxHeartbeats 4000000 in
theorem tig_false (k : Int) (p : Option Addr) (xs : List Mo) (c : Nat) (eq : Bool) (w : World) (hn : xs.length <= 1000) (RA : Hid (SlM w p xs)) (RS : Hid (∀ i, i < xs.length -> (xs.getD i mo0).1.size <= maxLen /\ -9223372036854775808 <= (xs.getD i mo0).2 /\ (xs.getD i mo0).2 <= 9223372036854775807)) (k1 : -9223372036854775808 <= k) (k2 : k <= 9223372036854775807) (hok : okL xs = true) (h0 : xs.length = 0) (hh : hB k eq = false) : Calls Tryd.prog 28 #[Cv k p xs.length c eq] w (TR (-1, [], false, 2, 0) w) := by
 have VL := Lib.hid fun w h => cval1 k p xs c eq w (by unfold maxLen; omega) h (Lib.hid fun i hi => (RS.out i hi).1)
 have B0 : Below w.heap.size w ((w.alloc (Obj.cells #[Value.int .i64 k, Value.slice p xs.length c, Value.bool eq] 36)).alloc (Obj.cells #[Value.int .i64 0, Value.slice none 0 0, Value.bool false] 36)) := ((Below.refl _ _).alloc (Nat.le_refl _) _).alloc (by simp) _
 have RA2 := Lib.hid (SlM.keep B0 RA.out)
 have hv : vL xs = 0 := by unfold vL; rw [hok]; rfl
 rw [hv] at VL
 have HF := Lib.hid fun w => holdsF k p xs.length c eq k w
 rw [hh] at HF
 have NV := Lib.hid fun w => never1 w
 have g0 : ((xs.length : Int) == 0) = true := by simp [h0]
 unfold Cv at *
 clear hok hv RS hh h0
 go_enter Tryd.func28, Tryd.ntmps28
 go_wp2_with (first | (go_at_call 24; (with_reducible refine (VL.out _ RA2).mono ?_); rintro e w1 ⟨rfl, hb1⟩; have hc1 := (Rg.bcell hb1).1; have hf1 := (Rg.bcell hb1).2; have z1_0 : w.heap.size < w1.heap.size := (by have hzz := hb1.size; (try simp at hzz); omega); have z1_1 : w.heap.size + 1 < w1.heap.size := (by have hzz := hb1.size; (try simp at hzz); omega); have K1 : Below w.heap.size w w1 := Below.trans (b := _) (by (repeat' (first | (with_reducible exact Below.refl _ _) | (with_reducible refine Below.alloc ?_ ?_ _) | (with_reducible refine Below.setCell ?_ ?_ _) | (with_reducible refine below_drewN ?_ _) | (simp; done) | omega | (simp; omega)))) (hb1.mono (by have hzz := hb1.size; (try simp at hzz); first | omega | (simp; done) | (simp; omega)))) | (go_at_call 54; (with_reducible refine (HF.out _).mono ?_); rintro e w2 ⟨rfl, hb2⟩; have hc2 := (Rg.bcell hb2).1; have hf2 := (Rg.bcell hb2).2; have z2_0 : w.heap.size < w2.heap.size := (by have hzz := hb2.size; (try simp at hzz); omega); have z2_1 : w.heap.size + 1 < w2.heap.size := (by have hzz := hb2.size; (try simp at hzz); omega); have K2 : Below w.heap.size w w2 := Below.trans (b := _) (by (repeat' (first | (with_reducible exact Below.refl _ _) | (with_reducible exact K1) | (with_reducible exact K1.size) | (with_reducible refine Below.alloc ?_ ?_ _) | (with_reducible refine Below.setCell ?_ ?_ _) | (with_reducible refine below_drewN ?_ _) | (simp; done) | omega | (simp; omega)))) (hb2.mono (by have hzz := hb2.size; (try simp at hzz); first | omega | (simp; done) | (simp; omega)))) | (go_at_call 58; (with_reducible refine (NV.out _).mono ?_); rintro e w3 ⟨rfl, hb3⟩; have hc3 := (Rg.bcell hb3).1; have hf3 := (Rg.bcell hb3).2; have z3_0 : w.heap.size < w3.heap.size := (by have hzz := hb3.size; (try simp at hzz); omega); have z3_1 : w.heap.size + 1 < w3.heap.size := (by have hzz := hb3.size; (try simp at hzz); omega); have K3 : Below w.heap.size w w3 := Below.trans (b := _) (by (repeat' (first | (with_reducible exact Below.refl _ _) | (with_reducible exact K1) | (with_reducible exact K1.size) | (with_reducible exact K2) | (with_reducible exact K2.size) | (with_reducible refine Below.alloc ?_ ?_ _) | (with_reducible refine Below.setCell ?_ ?_ _) | (with_reducible refine below_drewN ?_ _) | (simp; done) | omega | (simp; omega)))) (hb3.mono (by have hzz := hb3.size; (try simp at hzz); first | omega | (simp; done) | (simp; omega)))))
 refine bodyPost_ret (v := .tuple #[.agg #[.int .i64 (-1), .slice none 0 0, .bool false], .int .i64 2, .int .i64 0]) (by simp [results, Tryd.results28, go_sem, hc1, hf1, hc2, hf2, hc3, hf3, z1_0, Nat.lt_succ_of_lt z1_0, Nat.ne_of_lt z1_0, Nat.ne_of_gt z1_0, z1_1, Nat.lt_succ_of_lt z1_1, Nat.ne_of_lt z1_1, Nat.ne_of_gt z1_1, z2_0, Nat.lt_succ_of_lt z2_0, Nat.ne_of_lt z2_0, Nat.ne_of_gt z2_0, z2_1, Nat.lt_succ_of_lt z2_1, Nat.ne_of_lt z2_1, Nat.ne_of_gt z2_1, z3_0, Nat.lt_succ_of_lt z3_0, Nat.ne_of_lt z3_0, Nat.ne_of_gt z3_0, z3_1, Nat.lt_succ_of_lt z3_1, Nat.ne_of_lt z3_1, Nat.ne_of_gt z3_1]) rfl (TR.nil ?_); (repeat' (first | (with_reducible exact Below.refl _ _) | (with_reducible exact K1) | (with_reducible exact K1.size) | (with_reducible exact K2) | (with_reducible exact K2.size) | (with_reducible exact K3) | (with_reducible exact K3.size) | (with_reducible refine Below.alloc ?_ ?_ _) | (with_reducible refine Below.setCell ?_ ?_ _) | (with_reducible refine below_drewN ?_ _) | (simp; done) | omega | (simp; omega)))

set_option maxHeartbeats 4000000 in
theorem tig_no (k : Int) (p : Option Addr) (xs : List Mo) (c : Nat) (eq : Bool) (w : World) (hn : xs.length <= 1000) (RA : Hid (SlM w p xs)) (RS : Hid (∀ i, i < xs.length -> (xs.getD i mo0).1.size <= maxLen /\ -9223372036854775808 <= (xs.getD i mo0).2 /\ (xs.getD i mo0).2 <= 9223372036854775807)) (k1 : -9223372036854775808 <= k) (k2 : k <= 9223372036854775807) (hok : okL xs = true) (h0 : xs.length ≠ 0) (he : eq = true) (hx : (k % (gcdL 0 xs : Int) == 0) = false) : Calls Tryd.prog 28 #[Cv k p xs.length c eq] w (TR (-1, [], false, 2, 0) w) := by
 have VL := Lib.hid fun w h => cval1 k p xs c eq w (by unfold maxLen; omega) h (Lib.hid fun i hi => (RS.out i hi).1)
 have B0 : Below w.heap.size w ((w.alloc (Obj.cells #[Value.int .i64 k, Value.slice p xs.length c, Value.bool eq] 36)).alloc (Obj.cells #[Value.int .i64 0, Value.slice none 0 0, Value.bool false] 36)) := ((Below.refl _ _).alloc (Nat.le_refl _) _).alloc (by simp) _
 have RA2 := Lib.hid (SlM.keep B0 RA.out)
 have hv : vL xs = 0 := by unfold vL; rw [hok]; rfl
 rw [hv] at VL
 obtain ⟨q0, q1⟩ := gcdL_bd hok h0 (fun i hi => (RS.out i hi).2)
 have GC := Lib.hid fun w h => gcd1 k p xs c w (by unfold maxLen; omega) h RS
 have FD := Lib.hid fun w => fdiv k (gcdL 0 xs) k1 k2 q0 q1 w
 rw [hx] at FD
 have NV := Lib.hid fun w => never1 w
 have g0 : ((xs.length : Int) == 0) = false := by rw [beq_eq_false_iff_ne]; omega
 subst he
 unfold Cv Lv at *
 obtain ⟨G, hG⟩ : ∃ G, wrap64 (gcdL 0 xs : Int) = G := ⟨_, rfl⟩
 obtain ⟨D, hD⟩ : ∃ D, k / (gcdL 0 xs : Int) = D := ⟨_, rfl⟩
 rw [hG] at GC FD
 rw [hD] at FD
 clear hok hv RS hx h0 hG hD q0 q1
 go_enter Tryd.func28, Tryd.ntmps28
 go_wp2_with (first | (go_at_call 24; (with_reducible refine (VL.out _ RA2).mono ?_); rintro e w1 ⟨rfl, hb1⟩; have hc1 := (Rg.bcell hb1).1; have hf1 := (Rg.bcell hb1).2; have z1_0 : w.heap.size < w1.heap.size := (by have hzz := hb1.size; (try simp at hzz); omega); have z1_1 : w.heap.size + 1 < w1.heap.size := (by have hzz := hb1.size; (try simp at hzz); omega); have K1 : Below w.heap.size w w1 := Below.trans (b := _) (by (repeat' (first | (with_reducible exact Below.refl _ _) | (with_reducible refine Below.alloc ?_ ?_ _) | (with_reducible refine Below.setCell ?_ ?_ _) | (with_reducible refine below_drewN ?_ _) | (simp; done) | omega | (simp; omega)))) (hb1.mono (by have hzz := hb1.size; (try simp at hzz); first | omega | (simp; done) | (simp; omega)))) | (go_at_call 59; (with_reducible refine (GC.out _ (Lib.hid (SlM.keep K1 RA.out))).mono ?_); rintro e w2 ⟨rfl, hb2⟩; have hc2 := (Rg.bcell hb2).1; have hf2 := (Rg.bcell hb2).2; have z2_0 : w.heap.size < w2.heap.size := (by have hzz := hb2.size; (try simp at hzz); omega); have z2_1 : w.heap.size + 1 < w2.heap.size := (by have hzz := hb2.size; (try simp at hzz); omega); have K2 : Below w.heap.size w w2 := Below.trans (b := _) (by (repeat' (first | (with_reducible exact Below.refl _ _) | (with_reducible exact K1) | (with_reducible exact K1.size) | (with_reducible refine Below.alloc ?_ ?_ _) | (with_reducible refine Below.setCell ?_ ?_ _) | (with_reducible refine below_drewN ?_ _) | (simp; done) | omega | (simp; omega)))) (hb2.mono (by have hzz := hb2.size; (try simp at hzz); first | omega | (simp; done) | (simp; omega)))) | (go_at_call 60; (with_reducible refine (FD.out _).mono ?_); rintro e w3 ⟨rfl, hb3⟩; have hc3 := (Rg.bcell hb3).1; have hf3 := (Rg.bcell hb3).2; have z3_0 : w.heap.size < w3.heap.size := (by have hzz := hb3.size; (try simp at hzz); omega); have z3_1 : w.heap.size + 1 < w3.heap.size := (by have hzz := hb3.size; (try simp at hzz); omega); have K3 : Below w.heap.size w w3 := Below.trans (b := _) (by (repeat' (first | (with_reducible exact Below.refl _ _) | (with_reducible exact K1) | (with_reducible exact K1.size) | (with_reducible exact K2) | (with_reducible exact K2.size) | (with_reducible refine Below.alloc ?_ ?_ _) | (with_reducible refine Below.setCell ?_ ?_ _) | (with_reducible refine below_drewN ?_ _) | (simp; done) | omega | (simp; omega)))) (hb3.mono (by have hzz := hb3.size; (try simp at hzz); first | omega | (simp; done) | (simp; omega)))) | (go_at_call 58; (with_reducible refine (NV.out _).mono ?_); rintro e w4 ⟨rfl, hb4⟩; have hc4 := (Rg.bcell hb4).1; have hf4 := (Rg.bcell hb4).2; have z4_0 : w.heap.size < w4.heap.size := (by have hzz := hb4.size; (try simp at hzz); omega); have z4_1 : w.heap.size + 1 < w4.heap.size := (by have hzz := hb4.size; (try simp at hzz); omega); have K4 : Below w.heap.size w w4 := Below.trans (b := _) (by (repeat' (first | (with_reducible exact Below.refl _ _) | (with_reducible exact K1) | (with_reducible exact K1.size) | (with_reducible exact K2) | (with_reducible exact K2.size) | (with_reducible exact K3) | (with_reducible exact K3.size) | (with_reducible refine Below.alloc ?_ ?_ _) | (with_reducible refine Below.setCell ?_ ?_ _) | (with_reducible refine below_drewN ?_ _) | (simp; done) | omega | (simp; omega)))) (hb4.mono (by have hzz := hb4.size; (try simp at hzz); first | omega | (simp; done) | (simp; omega)))))
 refine bodyPost_ret (v := .tuple #[.agg #[.int .i64 (-1), .slice none 0 0, .bool false], .int .i64 2, .int .i64 0]) (by simp [results, Tryd.results28, go_sem, hc1, hf1, hc2, hf2, hc3, hf3, hc4, hf4, z1_0, Nat.lt_succ_of_lt z1_0, Nat.ne_of_lt z1_0, Nat.ne_of_gt z1_0, z1_1, Nat.lt_succ_of_lt z1_1, Nat.ne_of_lt z1_1, Nat.ne_of_gt z1_1, z2_0, Nat.lt_succ_of_lt z2_0, Nat.ne_of_lt z2_0, Nat.ne_of_gt z2_0, z2_1, Nat.lt_succ_of_lt z2_1, Nat.ne_of_lt z2_1, Nat.ne_of_gt z2_1, z3_0, Nat.lt_succ_of_lt z3_0, Nat.ne_of_lt z3_0, Nat.ne_of_gt z3_0, z3_1, Nat.lt_succ_of_lt z3_1, Nat.ne_of_lt z3_1, Nat.ne_of_gt z3_1, z4_0, Nat.lt_succ_of_lt z4_0, Nat.ne_of_lt z4_0, Nat.ne_of_gt z4_0, z4_1, Nat.lt_succ_of_lt z4_1, Nat.ne_of_lt z4_1, Nat.ne_of_gt z4_1]) rfl (TR.nil ?_); (repeat' (first | (with_reducible exact Below.refl _ _) | (with_reducible exact K1) | (with_reducible exact K1.size) | (with_reducible exact K2) | (with_reducible exact K2.size) | (with_reducible exact K3) | (with_reducible exact K3.size) | (with_reducible exact K4) | (with_reducible exact K4.size) | (with_reducible refine Below.alloc ?_ ?_ _) | (with_reducible refine Below.setCell ?_ ?_ _) | (with_reducible refine below_drewN ?_ _) | (simp; done) | omega | (simp; omega)))
end Go.Proofs.YtbicmlkjonaccaaDoor.Ln


namespace Go.Proofs.YtbicmlkjonaccaaDoor.Ln
open Go.ChangeShapes Go.WideShapes Go.ChangeAt Go.RowKit
open Go.Proofs.YtbicmlkjonaccaaDoor.Nm
set_option linter.unusedVariables false
set_option linter.unusedSimpArgs false
set_option maxRecDepth 8000

theorem own_belowE {w w' : World} {B : Nat} {e : TypeId} {size : Nat} {v : Value} {n : Nat} {xs : List Value} (h : w.ownsRow B e size v n xs) (hb : Below w.heap.size w w') : w'.ownsRow B e size v n xs := by
 obtain ⟨hl, h0 | ⟨g, cap, cur, hv, hb', hh, r⟩⟩ := h
 ·exact ⟨hl, .inl h0⟩
 ·have hg : g < w.heap.size := by
   rcases Nat.lt_or_ge g w.heap.size with h1 | h1
   ·exact h1
   ·rw [Array.getElem?_eq_none h1] at hh
    cases hh
  exact ⟨hl, .inr ⟨g, cap, cur, hv, hb', by rw [hb.block g hg]; exact hh, r⟩⟩
theorem tdY_take {G : Nat} {xs : List Mo} {j : Nat} (h : j < xs.length) : moCs (tdY G (xs.take (j + 1))) = moCs (tdY G (xs.take j)) ++ [.string (xs.getD j mo0).1, .int .i64 ((xs.getD j mo0).2 / (G : Int))] := by
 rw [take_step h, tdY, List.map_append, List.map_cons, List.map_nil, moCs_snoc]
 rfl
theorem tdY_len (G : Nat) (xs : List Mo) : (tdY G xs).length = xs.length := by unfold tdY; rw [List.length_map]
theorem tdY_get {G : Nat} {xs : List Mo} {j : Nat} (h : j < xs.length) : (tdY G xs).getD j mo0 = ((xs.getD j mo0).1, (xs.getD j mo0).2 / (G : Int)) := by
 unfold tdY
 rw [List.getD_eq_getElem?_getD, List.getElem?_map, List.getElem?_eq_getElem h]
 have e1 : xs.getD j mo0 = xs[j] := by unfold List.getD; rw [List.getElem?_eq_getElem h]; rfl
 rw [e1]; rfl
theorem div_bd {n : Int} {G : Nat} (g0 : 1 <= G) (n0 : -9223372036854775808 <= n) (n1 : n <= 9223372036854775807) : -9223372036854775808 <= n / (G : Int) /\ n / (G : Int) <= 9223372036854775807 := by
 constructor
 ·rcases Int.lt_or_le n 0 with h | h
  ·have := Int.ediv_le_ediv (c := (G : Int)) (by omega) n0
   have h5 : -9223372036854775808 <= -9223372036854775808 / (G : Int) := Int.le_ediv_of_mul_le (by omega) (by omega)
   omega
  ·have := Int.ediv_nonneg h (show (0 : Int) <= G by omega)
   omega
 ·rcases Int.lt_or_le n 0 with h | h
  ·have := Int.ediv_neg_of_neg_of_pos h (show (0 : Int) < G by omega)
   omega
  ·have := Int.ediv_le_self (G : Int) h
   omega

set_option maxRecDepth 100000 in
set_option maxHeartbeats 4000000 in
theorem tig_ge (k : Int) (p : Option Addr) (xs : List Mo) (c : Nat) (w : World) (hn : xs.length <= 1000) (RA : Hid (SlM w p xs)) (RS : Hid (∀ i, i < xs.length -> (xs.getD i mo0).1.size <= maxLen /\ -9223372036854775808 <= (xs.getD i mo0).2 /\ (xs.getD i mo0).2 <= 9223372036854775807)) (k1 : -9223372036854775808 <= k) (k2 : k <= 9223372036854775807) (hok : okL xs = true) (h0 : xs.length ≠ 0)  : Calls Tryd.prog 28 #[Cv k p xs.length c false] w (TR (k / (gcdL 0 xs : Int), tdY (gcdL 0 xs) xs, false, 0, 0) w) := by
 have VL := Lib.hid fun w h => cval1 k p xs c false w (by unfold maxLen; omega) h (Lib.hid fun i hi => (RS.out i hi).1)
 have B0 : Below w.heap.size w ((w.alloc (Obj.cells #[Value.int .i64 k, Value.slice p xs.length c, Value.bool false] 36)).alloc (Obj.cells #[Value.int .i64 0, Value.slice none 0 0, Value.bool false] 36)) := ((Below.refl _ _).alloc (Nat.le_refl _) _).alloc (by simp) _
 have RA2 := Lib.hid (SlM.keep B0 RA.out)
 have hv : vL xs = 0 := by unfold vL; rw [hok]; rfl
 rw [hv] at VL
 obtain ⟨qq0, qq1⟩ := gcdL_bd hok h0 (fun i hi => (RS.out i hi).2)
 have GC := Lib.hid fun w h => gcd1 k p xs c w (by unfold maxLen; omega) h RS
 have g0 : ((xs.length : Int) == 0) = false := by rw [beq_eq_false_iff_ne]; omega
 unfold Cv Lv at *
 obtain ⟨G, hG⟩ : ∃ G : Nat, gcdL 0 xs = G := ⟨_, rfl⟩
 rw [hG] at GC qq0 qq1 ⊢
 have FD := Lib.hid fun w => fdiv k G k1 k2 qq0 qq1 w
 
 have FA := Lib.hid fun a (a1 : -9223372036854775808 <= a) (a2 : a <= 9223372036854775807) w => fdiv a G a1 a2 qq0 qq1 w
 have Q0 := Lib.hid qq0
 have D0 := Lib.hid (div_bd qq0 k1 k2)
 obtain ⟨H, hH⟩ : ∃ H, wrap64 (G : Int) = H := ⟨_, rfl⟩
 obtain ⟨D, hD⟩ : ∃ D, k / (G : Int) = D := ⟨_, rfl⟩
 rw [hH] at GC FD FA
 rw [hD] at FD D0 ⊢
 obtain ⟨i0, hi, hz0, hz1, hz2⟩ := info_parts infoMo
 have HN0 := Lib.hid h0
 obtain ⟨n, hnn⟩ : ∃ n, xs.length = n := ⟨_, rfl⟩
 have HN := Lib.hid hnn
 rw [hnn] at VL GC g0 hn B0 RA2 ⊢
 clear hok hv h0 hG hH hD qq0 qq1 hnn
 go_enter Tryd.func28, Tryd.ntmps28
 go_wp2_with (first | (go_at_call 24; (with_reducible refine (VL.out _ RA2).mono ?_); rintro e w1 ⟨rfl, hb1⟩; have hc1 := (Rg.bcell hb1).1; have hf1 := (Rg.bcell hb1).2; have z1_0 : w.heap.size < w1.heap.size := (by have hzz := hb1.size; (try simp at hzz); omega); have z1_1 : w.heap.size + 1 < w1.heap.size := (by have hzz := hb1.size; (try simp at hzz); omega); have K1 : Below w.heap.size w w1 := Below.trans (b := _) (by (repeat' (first | (with_reducible exact Below.refl _ _) | (with_reducible refine Below.alloc ?_ ?_ _) | (with_reducible refine Below.setCell ?_ ?_ _) | (with_reducible refine below_drewN ?_ _) | (simp; done) | omega | (simp; omega)))) (hb1.mono (by have hzz := hb1.size; (try simp at hzz); first | omega | (simp; done) | (simp; omega)))) | (go_at_call 59; (with_reducible refine (GC.out _ (Lib.hid (SlM.keep K1 RA.out))).mono ?_); rintro e w2 ⟨rfl, hb2⟩; have hc2 := (Rg.bcell hb2).1; have hf2 := (Rg.bcell hb2).2; have z2_0 : w.heap.size < w2.heap.size := (by have hzz := hb2.size; (try simp at hzz); omega); have z2_1 : w.heap.size + 1 < w2.heap.size := (by have hzz := hb2.size; (try simp at hzz); omega); have K2 : Below w.heap.size w w2 := Below.trans (b := _) (by (repeat' (first | (with_reducible exact Below.refl _ _) | (with_reducible exact K1) | (with_reducible exact K1.size) | (with_reducible refine Below.alloc ?_ ?_ _) | (with_reducible refine Below.setCell ?_ ?_ _) | (with_reducible refine below_drewN ?_ _) | (simp; done) | omega | (simp; omega)))) (hb2.mono (by have hzz := hb2.size; (try simp at hzz); first | omega | (simp; done) | (simp; omega)))) | (go_at_call 60; (with_reducible refine (FD.out _).mono ?_); rintro e w3 ⟨rfl, hb3⟩; have hc3 := (Rg.bcell hb3).1; have hf3 := (Rg.bcell hb3).2; have z3_0 : w.heap.size < w3.heap.size := (by have hzz := hb3.size; (try simp at hzz); omega); have z3_1 : w.heap.size + 1 < w3.heap.size := (by have hzz := hb3.size; (try simp at hzz); omega); have K3 : Below w.heap.size w w3 := Below.trans (b := _) (by (repeat' (first | (with_reducible exact Below.refl _ _) | (with_reducible exact K1) | (with_reducible exact K1.size) | (with_reducible exact K2) | (with_reducible exact K2.size) | (with_reducible refine Below.alloc ?_ ?_ _) | (with_reducible refine Below.setCell ?_ ?_ _) | (with_reducible refine below_drewN ?_ _) | (simp; done) | omega | (simp; omega)))) (hb3.mono (by have hzz := hb3.size; (try simp at hzz); first | omega | (simp; done) | (simp; omega)))))
 have F0 : Cl [(w.heap.size, 2, .bool false), (w.heap.size + 1, 0, .int .i64 0), (w.heap.size + 1, 1, .slice none 0 0), (w.heap.size + 1, 2, .bool false)] w3 := Cl.cons (by simp [go_sem, hc1, hf1, z1_0, Nat.lt_succ_of_lt z1_0, Nat.ne_of_lt z1_0, Nat.ne_of_gt z1_0, z1_1, Nat.lt_succ_of_lt z1_1, Nat.ne_of_lt z1_1, Nat.ne_of_gt z1_1, hc2, hf2, z2_0, Nat.lt_succ_of_lt z2_0, Nat.ne_of_lt z2_0, Nat.ne_of_gt z2_0, z2_1, Nat.lt_succ_of_lt z2_1, Nat.ne_of_lt z2_1, Nat.ne_of_gt z2_1, hc3, hf3, z3_0, Nat.lt_succ_of_lt z3_0, Nat.ne_of_lt z3_0, Nat.ne_of_gt z3_0, z3_1, Nat.lt_succ_of_lt z3_1, Nat.ne_of_lt z3_1, Nat.ne_of_gt z3_1]) (by simp [go_sem, hc1, hf1, z1_0, Nat.lt_succ_of_lt z1_0, Nat.ne_of_lt z1_0, Nat.ne_of_gt z1_0, z1_1, Nat.lt_succ_of_lt z1_1, Nat.ne_of_lt z1_1, Nat.ne_of_gt z1_1, hc2, hf2, z2_0, Nat.lt_succ_of_lt z2_0, Nat.ne_of_lt z2_0, Nat.ne_of_gt z2_0, z2_1, Nat.lt_succ_of_lt z2_1, Nat.ne_of_lt z2_1, Nat.ne_of_gt z2_1, hc3, hf3, z3_0, Nat.lt_succ_of_lt z3_0, Nat.ne_of_lt z3_0, Nat.ne_of_gt z3_0, z3_1, Nat.lt_succ_of_lt z3_1, Nat.ne_of_lt z3_1, Nat.ne_of_gt z3_1]) (Cl.cons (by simp [go_sem, hc1, hf1, z1_0, Nat.lt_succ_of_lt z1_0, Nat.ne_of_lt z1_0, Nat.ne_of_gt z1_0, z1_1, Nat.lt_succ_of_lt z1_1, Nat.ne_of_lt z1_1, Nat.ne_of_gt z1_1, hc2, hf2, z2_0, Nat.lt_succ_of_lt z2_0, Nat.ne_of_lt z2_0, Nat.ne_of_gt z2_0, z2_1, Nat.lt_succ_of_lt z2_1, Nat.ne_of_lt z2_1, Nat.ne_of_gt z2_1, hc3, hf3, z3_0, Nat.lt_succ_of_lt z3_0, Nat.ne_of_lt z3_0, Nat.ne_of_gt z3_0, z3_1, Nat.lt_succ_of_lt z3_1, Nat.ne_of_lt z3_1, Nat.ne_of_gt z3_1]) (by simp [go_sem, hc1, hf1, z1_0, Nat.lt_succ_of_lt z1_0, Nat.ne_of_lt z1_0, Nat.ne_of_gt z1_0, z1_1, Nat.lt_succ_of_lt z1_1, Nat.ne_of_lt z1_1, Nat.ne_of_gt z1_1, hc2, hf2, z2_0, Nat.lt_succ_of_lt z2_0, Nat.ne_of_lt z2_0, Nat.ne_of_gt z2_0, z2_1, Nat.lt_succ_of_lt z2_1, Nat.ne_of_lt z2_1, Nat.ne_of_gt z2_1, hc3, hf3, z3_0, Nat.lt_succ_of_lt z3_0, Nat.ne_of_lt z3_0, Nat.ne_of_gt z3_0, z3_1, Nat.lt_succ_of_lt z3_1, Nat.ne_of_lt z3_1, Nat.ne_of_gt z3_1]) (Cl.cons (by simp [go_sem, hc1, hf1, z1_0, Nat.lt_succ_of_lt z1_0, Nat.ne_of_lt z1_0, Nat.ne_of_gt z1_0, z1_1, Nat.lt_succ_of_lt z1_1, Nat.ne_of_lt z1_1, Nat.ne_of_gt z1_1, hc2, hf2, z2_0, Nat.lt_succ_of_lt z2_0, Nat.ne_of_lt z2_0, Nat.ne_of_gt z2_0, z2_1, Nat.lt_succ_of_lt z2_1, Nat.ne_of_lt z2_1, Nat.ne_of_gt z2_1, hc3, hf3, z3_0, Nat.lt_succ_of_lt z3_0, Nat.ne_of_lt z3_0, Nat.ne_of_gt z3_0, z3_1, Nat.lt_succ_of_lt z3_1, Nat.ne_of_lt z3_1, Nat.ne_of_gt z3_1]) (by simp [go_sem, hc1, hf1, z1_0, Nat.lt_succ_of_lt z1_0, Nat.ne_of_lt z1_0, Nat.ne_of_gt z1_0, z1_1, Nat.lt_succ_of_lt z1_1, Nat.ne_of_lt z1_1, Nat.ne_of_gt z1_1, hc2, hf2, z2_0, Nat.lt_succ_of_lt z2_0, Nat.ne_of_lt z2_0, Nat.ne_of_gt z2_0, z2_1, Nat.lt_succ_of_lt z2_1, Nat.ne_of_lt z2_1, Nat.ne_of_gt z2_1, hc3, hf3, z3_0, Nat.lt_succ_of_lt z3_0, Nat.ne_of_lt z3_0, Nat.ne_of_gt z3_0, z3_1, Nat.lt_succ_of_lt z3_1, Nat.ne_of_lt z3_1, Nat.ne_of_gt z3_1]) (Cl.cons (by simp [go_sem, hc1, hf1, z1_0, Nat.lt_succ_of_lt z1_0, Nat.ne_of_lt z1_0, Nat.ne_of_gt z1_0, z1_1, Nat.lt_succ_of_lt z1_1, Nat.ne_of_lt z1_1, Nat.ne_of_gt z1_1, hc2, hf2, z2_0, Nat.lt_succ_of_lt z2_0, Nat.ne_of_lt z2_0, Nat.ne_of_gt z2_0, z2_1, Nat.lt_succ_of_lt z2_1, Nat.ne_of_lt z2_1, Nat.ne_of_gt z2_1, hc3, hf3, z3_0, Nat.lt_succ_of_lt z3_0, Nat.ne_of_lt z3_0, Nat.ne_of_gt z3_0, z3_1, Nat.lt_succ_of_lt z3_1, Nat.ne_of_lt z3_1, Nat.ne_of_gt z3_1]) (by simp [go_sem, hc1, hf1, z1_0, Nat.lt_succ_of_lt z1_0, Nat.ne_of_lt z1_0, Nat.ne_of_gt z1_0, z1_1, Nat.lt_succ_of_lt z1_1, Nat.ne_of_lt z1_1, Nat.ne_of_gt z1_1, hc2, hf2, z2_0, Nat.lt_succ_of_lt z2_0, Nat.ne_of_lt z2_0, Nat.ne_of_gt z2_0, z2_1, Nat.lt_succ_of_lt z2_1, Nat.ne_of_lt z2_1, Nat.ne_of_gt z2_1, hc3, hf3, z3_0, Nat.lt_succ_of_lt z3_0, Nat.ne_of_lt z3_0, Nat.ne_of_gt z3_0, z3_1, Nat.lt_succ_of_lt z3_1, Nat.ne_of_lt z3_1, Nat.ne_of_gt z3_1]) (Cl.nil _))))
 have lg : w.heap.size + 1 < w3.heap.size := z3_1
 have K3b := K3
 clear hb1 hc1 hf1 hb2 hc2 hf2 hb3 hc3 hf3 z1_0 z1_1 z2_0 z2_1 z3_0 z3_1 K1 K2 VL GC FD B0 RA2 K3
 obtain ⟨gr, hgr⟩ : ∃ gr, w3.heap.size = gr := ⟨_, rfl⟩
 have F1 : Cl ((gr, 0, .int .i64 D) :: (gr, 1, .slice none 0 0) :: (gr, 2, .bool false) :: [(w.heap.size, 2, .bool false), (w.heap.size + 1, 0, .int .i64 0), (w.heap.size + 1, 1, .slice none 0 0), (w.heap.size + 1, 2, .bool false)]) (w3.alloc (Obj.cells #[Value.int .i64 D, Value.slice none 0 0, Value.bool false] 36)) := by
  have h := F0.below ((Below.refl _ _).alloc (Nat.le_refl _) (Obj.cells #[Value.int .i64 D, Value.slice none 0 0, Value.bool false] 36))
  rw [<- hgr]
  exact Cl.cons (by go_cell) (by simp only [frozen?_alloc_cells]; exact Rg.notFrozen (Nat.le_refl _)) (Cl.cons (by go_cell) (by simp only [frozen?_alloc_cells]; exact Rg.notFrozen (Nat.le_refl _)) (Cl.cons (by go_cell) (by simp only [frozen?_alloc_cells]; exact Rg.notFrozen (Nat.le_refl _)) h))
 have F1h := Lib.hid F1
 have KB0 : Hid (Below w.heap.size w (w3.alloc (Obj.cells #[Value.int .i64 D, Value.slice none 0 0, Value.bool false] 36))) := Lib.hid (K3b.alloc K3b.size _)
 have hlt0 : gr < (w3.alloc (Obj.cells #[Value.int .i64 D, Value.slice none 0 0, Value.bool false] 36)).heap.size := by simp; omega
 have lw : w.heap.size + 1 < gr := by omega
 rw [hgr]
 clear F0 F1 K3b lg
 go_loopw [61] (fun i wr => ∃ (j : Nat) (vl : Value), i = .int .i64 j /\ j <= n /\ gr < wr.heap.size /\ Hid (Cl ((gr, 0, .int .i64 D) :: (gr, 1, vl) :: (gr, 2, .bool false) :: [(w.heap.size, 2, .bool false), (w.heap.size + 1, 0, .int .i64 0), (w.heap.size + 1, 1, .slice none 0 0), (w.heap.size + 1, 2, .bool false)]) wr) /\ Hid (Below w.heap.size w wr) /\ Hid (wr.ownsRow (gr + 1) 59 2 vl j (moCs (tdY G (xs.take j))))) (fun i _ => n - (intOf i).toNat)
 case atStart => exact ⟨0, .slice none 0 0, rfl, Nat.zero_le _, hlt0, F1h, KB0, Lib.hid (World.ownsRow_nil _ _ _ _)⟩
 case round =>
  obtain ⟨j, vl, rfl, hj, hlt9, hF, hB, hO⟩ := hrel
  clear F1h KB0 hlt0
  have jj : (0 : Int) <= j := by omega
  have d0 := hF.out.head
  have d1 := hF.out.tail.head
  have zd1 := hF.out.tail.headF
  have d2 := hF.out.tail.tail.head
  have d3 := hF.out.tail.tail.tail.head
  by_cases hlt : j < n
  ·obtain ⟨b, o, rfl, e0, e1⟩ := RA.out j (by rw [HN.out]; exact hlt)
   have j2 : (j : Int) < n := by omega
   have hbw : b < w.heap.size := World.block_lt_of_cell? _ _ e0
   replace e0 := Rg.keep hB.out hbw e0
   replace e1 := Rg.keep hB.out hbw e1
   have hbr : b < wr.heap.size := World.block_lt_of_cell? _ _ e0
   have hst := tdY_take (G := G) (xs := xs) (j := j) (by rw [HN.out]; exact hlt)
   obtain ⟨-, y0, y1⟩ := RS.out j (by rw [HN.out]; exact hlt)
   obtain ⟨m, hm⟩ : ∃ m, xs.getD j mo0 = m := ⟨_, rfl⟩
   rw [hm] at e0 e1 hst y0 y1
   obtain ⟨z, a⟩ := m
   dsimp only at e0 e1 hst y0 y1
   have FB := Lib.hid fun w => FA.out a y0 y1 w
   have HST := Lib.hid hst
   clear hm hst y0 y1
   have BM := (Below.refl wr.heap.size wr).alloc (Nat.le_refl _) (Obj.cells #[Value.string z, Value.int .i64 a] 59)
   have FM := Lib.hid (hF.out.below BM)
   have OM := Lib.hid (hO.out.alloc (Obj.cells #[Value.string z, Value.int .i64 a] 59))
   have KM := Lib.hid (hB.out.alloc hB.out.size (Obj.cells #[Value.string z, Value.int .i64 a] 59))
   clear hF hO BM
   go_wp2_with (first | (go_at_call 60; (with_reducible refine (FB.out _).mono ?_); rintro e u ⟨rfl, hb⟩; have x0 : u.cell? ⟨wr.heap.size, 0, none⟩ = some (.string z) := Rg.keep hb (by simp) (by go_cell); have FU := FM.out.below hb; have d1' := FU.tail.head; have zd1' := FU.tail.headF; have OU := own_belowE OM.out hb; have KU := KM.out.trans (hb.mono KM.out.size); have hsu : wr.heap.size < u.heap.size := World.block_lt_of_cell? _ _ x0) | (at_builtin; refine wpList_append_own _ rfl _ _ 22 rfl (gr + 1) 59 i0 (.agg #[.string ⟨#[]⟩, .int .i64 0]) 2 24 Tryd.underlying22 hi hz0 hz1 hz2 rfl (by decide) _ _ _ rfl (OU.alloc _) ⟨u.heap.size, 0, none⟩ 1 1 [.string z, .int .i64 (a / (G : Int))] rfl rfl ?_ ?_ ?_ ?_ ?_ ?_))
   ·intro q x hx
    rcases q with _ | _ | q
    ·cases hx; go_cell
    ·cases hx; go_cell
    ·simp at hx
   ·intro x hx
    simp at hx
    rcases hx with rfl | rfl <;> rfl
   ·unfold maxLen; omega
   ·omega
   ·simp; omega
   intro v' w4 hown' hgrow _
   have FV := FU.below ((Below.refl _ _).alloc (Nat.le_refl _) (Obj.cells #[Value.string z, Value.int .i64 (a / (G : Int))] 59))
   have F4 := FV.own (OU.alloc _) hgrow (by simp only [List.forall_mem_cons]; simp; omega)
   have K4 := (KU.alloc KU.size (Obj.cells #[Value.string z, Value.int .i64 (a / (G : Int))] 59)).grown hgrow (KU.alloc KU.size (Obj.cells #[Value.string z, Value.int .i64 (a / (G : Int))] 59)).size (fun q hq => by have := (OU.lt q hq).1; have := KU.size; omega)
   have hown2 : Hid (w4.ownsRow (gr + 1) 59 2 v' (j + 1) (moCs (tdY G (xs.take (j + 1))))) := Lib.hid (by
    rw [HST.out]
    exact hown')
   obtain ⟨q', c', rfl⟩ := own_slice hown2.out
   clear hown' hgrow FU FV OU KU FM OM KM x0 d1' zd1' hi hz0 hz1 hz2
   have e0 := F4.head
   have ze0 := F4.headF
   have e1 := F4.tail.head
   have ze1 := F4.tail.headF
   have e2 := F4.tail.tail.head
   have ze2 := F4.tail.tail.headF
   have F5 := F4.tail.tail.tail
   go_wp2
   go_roundw
   case rel =>
    refine ⟨j + 1, .slice q' (j + 1) c', by go_num, by omega, by rw [World.size_setCell]; exact World.block_lt_of_cell? _ _ e0, Lib.hid (Cl.cons (by go_cell) (by simp [World.frozen?_setCell, ze0]) (Cl.cons (by go_cell) (by simp [World.frozen?_setCell, ze1]) (Cl.cons (by go_cell) (by simp [World.frozen?_setCell, ze2]) (F5.far (by simp only [List.forall_mem_cons]; simp; omega))))), Lib.hid (K4.setCell (p := ⟨gr, 1, none⟩) (by show w.heap.size <= gr; omega) _), Lib.hid (own_set hown2.out (by show gr < gr + 1; omega))⟩
   case measure => simp [intOf]; omega
  ·obtain rfl : j = n := by omega
   have hO2 := hO.out
   rw [show xs.take j = xs by rw [<- HN.out]; exact List.take_length] at hO2
   obtain ⟨q, d, hvl, hS⟩ := own_sl' (l := tdY G xs) hO2 (by rw [tdY_len, HN.out])
   subst hvl
   have r0 := hF.out.tail.tail.tail.tail.head
   have zr0 := hF.out.tail.tail.tail.tail.headF
   have r1 := hF.out.tail.tail.tail.tail.tail.head
   have zr1 := hF.out.tail.tail.tail.tail.tail.headF
   have r2 := hF.out.tail.tail.tail.tail.tail.tail.head
   have zr2 := hF.out.tail.tail.tail.tail.tail.tail.headF
   have lr : w.heap.size + 1 < wr.heap.size := World.block_lt_of_cell? _ _ r0
   have KE := hB.out
   have HO2 := Lib.hid hO2
   clear hF hO hO2 hB FA RS RA
   go_wp2
   refine bodyPost_ret (v := .tuple #[.agg #[.int .i64 D, .slice q j d, .bool false], .int .i64 0, .int .i64 0]) (by simp [results, Tryd.results28, go_sem, r0, zr0, r1, zr1, r2, zr2, d0, d1, d2, lr, hlt9, Nat.ne_of_gt lw, Nat.ne_of_lt lw]) rfl ⟨q, d, by rw [show (tdY G xs).length = j by rw [tdY_len, HN.out]]; rfl, ?_, ?_, ?_⟩
   ·have hq9 : ∀ b o, q = some ⟨b, o, none⟩ -> tdY G xs ≠ [] -> b ≠ w.heap.size + 1 := fun b o hq _ => by
     subst hq
     have := (HO2.out.lt b rfl).1
     omega
    exact Sl_set (Sl_set (Sl_set hS hq9) hq9) hq9
   ·intro b o hq hne
    subst hq
    have hltb : gr + 1 <= b := (HO2.out.lt b rfl).1
    rcases HO2.out.2 with ⟨hv, _⟩ | ⟨g, cap, cur, hv, _, hh, _⟩
    ·cases hv
    ·cases hv
     have hk : ∀ (u : World) (o : Nat) (v : Value), u.heap[b]? = some (.cells cur 59 (0, 0)) -> (u.setCell ⟨w.heap.size + 1, o, none⟩ v).heap[b]? = some (.cells cur 59 (0, 0)) := fun u o v h => (grown_set.block b (by rcases Nat.lt_or_ge b u.heap.size with h1 | h1; exact h1; rw [Array.getElem?_eq_none h1] at h; cases h) (fun h2 => by have h3 := Option.some.inj h2; have h4 := hltb; dsimp only at h3; omega)).trans h
     exact ⟨cur, hk _ _ _ (hk _ _ _ (hk _ _ _ hh))⟩
   ·exact ((KE.setCell (p := ⟨w.heap.size + 1, 0, none⟩) (by dsimp only; omega) _).setCell (p := ⟨w.heap.size + 1, 1, none⟩) (by dsimp only; omega) _).setCell (p := ⟨w.heap.size + 1, 2, none⟩) (by dsimp only; omega) _
end Go.Proofs.YtbicmlkjonaccaaDoor.Ln


namespace Go.Proofs.YtbicmlkjonaccaaDoor.Ln
open Go.ChangeShapes Go.WideShapes Go.ChangeAt Go.RowKit
open Go.Proofs.YtbicmlkjonaccaaDoor.Nm
set_option linter.unusedVariables false
set_option linter.unusedSimpArgs false
set_option maxRecDepth 8000

theorem info36 : (Tryd.prog.info? 36).map (fun i => (i.zero, i.size, i.bytes)) = some (some (.agg #[.int .i64 0, .slice none 0 0, .bool false]), 3, 40) := by kernel_rfl
/-- Rows of monomials stay. -/
def K59 (w w' : World) : Prop := ∀ (b : Nat) (cur : Array Value), w.heap[b]? = some (.cells cur 59 (0, 0)) -> w'.heap[b]? = some (.cells cur 59 (0, 0))
theorem K59.trans {a b c : World} (h : K59 a b) (g : K59 b c) : K59 a c := fun k cur hk => g k cur (h k cur hk)
theorem hlt_of {w : World} {b : Nat} {o : Obj} (h : w.heap[b]? = some o) : b < w.heap.size := by
 rcases Nat.lt_or_ge b w.heap.size with h1 | h1
 ·exact h1
 ·rw [Array.getElem?_eq_none h1] at h; cases h
theorem K59.below {w w' : World} (h : Below w.heap.size w w') : K59 w w' := fun b cur hb => (h.block b (hlt_of hb)).trans hb
theorem K59.set {w : World} {g o : Nat} {cs : Array Value} {t : TypeId} {fr : Nat × Nat} (v : Value) (hg : w.heap[g]? = some (.cells cs t fr)) (ht : t ≠ 59) : K59 w (w.setCell ⟨g, o, none⟩ v) := fun b cur hb => by
 rw [Below.heap_setCell _ _ _ _ (fun e => by dsimp only at e; subst e; rw [hg] at hb; cases hb; exact ht rfl)]
 exact hb
/-- A row of another kind grows. -/
theorem K59.own {w w' : World} {base n sz : Nat} {e : TypeId} {vl : Value} {cs : List Value} (h : w.ownsRow base e sz vl n cs) (he : e ≠ 59) (hg : w.grownBy w' vl.ownBlock) : K59 w w' := fun b cur hb => by
 rw [hg.block b (hlt_of hb) (fun hh => ?_)]
 ·exact hb
 ·rcases h.2 with ⟨hv, _⟩ | ⟨g, cap, c2, hv, _, h3, _⟩
  ·rw [hv] at hh; simp [Value.ownBlock] at hh
  ·rw [hv] at hh
   simp only [Value.ownBlock, Option.some.injEq] at hh
   subst hh
   rw [h3] at hb
   cases hb
   exact he rfl
/-- A slice of monomials in a row of its kind. -/
def SlK (w : World) (q : Option Addr) (ys : List Mo) : Prop := SlM w q ys /\ ∀ b o, q = some ⟨b, o, none⟩ -> ys ≠ [] -> ∃ cur : Array Value, w.heap[b]? = some (.cells cur 59 (0, 0))
theorem SlK.on {w w' : World} {q : Option Addr} {ys : List Mo} (h : SlK w q ys) (hk : K59 w w') : SlK w' q ys := by
 have key : ∀ i, i < ys.length -> ∃ b o, q = some ⟨b, o, none⟩ /\ w'.heap[b]? = w.heap[b]? := fun i hi => by
  obtain ⟨b, o, hq, _⟩ := h.1 i hi
  obtain ⟨cur, hc⟩ := h.2 b o hq (fun e => by rw [e] at hi; simp at hi)
  exact ⟨b, o, hq, (hk b cur hc).trans hc.symm⟩
 refine ⟨fun i hi => ?_, fun b o hq hne => ?_⟩
 ·obtain ⟨b, o, hq, e⟩ := key i hi
  obtain ⟨b', o', hq', c0, c1⟩ := h.1 i hi
  rw [hq] at hq'
  cases hq'
  exact ⟨b, o, hq, by rw [World.cell?_of_block (a := ⟨b, o + i * 2, none⟩) e]; exact c0, by rw [World.cell?_of_block (a := ⟨b, o + i * 2 + 1, none⟩) e]; exact c1⟩
 ·obtain ⟨cur, hc⟩ := h.2 b o hq hne
  exact ⟨cur, hk b cur hc⟩
/-- What the closure of Normalize leaves of a constraint that is kept: one element more in the row that the variable at gt holds. -/
def NP (K : Int) (ys : List Mo) (gt m : Nat) (cs : List Value) (w w' : World) : Prop := ∃ vl' q d, w'.heap[gt]? = some (.cells #[vl'] 30 (0, 0)) /\ w'.heap[gt + 1]? = some (.cells #[.bool true] 4 (0, 0)) /\
 w'.ownsRow (gt + 2) 36 3 vl' (m + 1) (cs ++ [.int .i64 K, .slice q ys.length d, .bool false]) /\ SlK w' q ys /\ Below gt w w' /\ K59 w w'
set_option maxRecDepth 100000 in
set_option maxHeartbeats 4000000 in
theorem nclo (k K : Int) (p : Option Addr) (xs ys : List Mo) (c gt m : Nat) (vl : Value) (cs : List Value) (w : World) (hm : m <= 1000) (T : Hid (∀ w', SlM w' p xs -> Calls Tryd.prog 28 #[Cv k p xs.length c false] w' (TR (K, ys, false, 0, 0) w'))) (RA : Hid (SlM w p xs))
  (ht : w.heap[gt]? = some (.cells #[vl] 30 (0, 0))) (hp : w.heap[gt + 1]? = some (.cells #[.bool true] 4 (0, 0))) (hO : Hid (w.ownsRow (gt + 2) 36 3 vl m cs)) :
  Calls Tryd.prog 70 #[Cv k p xs.length c false, .pointer (some ⟨gt, 0, none⟩), .pointer (some ⟨gt + 1, 0, none⟩)] w fun e w' => e = .returned (.int .i64 0) /\ NP K ys gt m cs w w' := by
 obtain ⟨i0, hi, hz0, hz1, hz2⟩ := info_parts info36
 have ct : w.cell? ⟨gt, 0, none⟩ = some vl := by rw [Lib.cell_of_heap ht]; rfl
 have cp : w.cell? ⟨gt + 1, 0, none⟩ = some (.bool true) := by rw [Lib.cell_of_heap hp]; rfl
 have zt := Lib.frozen_of_heap ht 0
 have zp := Lib.frozen_of_heap hp 0
 have lt : gt + 1 < w.heap.size := World.block_lt_of_cell? _ _ cp
 have B0 : Below w.heap.size w (w.alloc (Obj.cells #[Value.int .i64 k, Value.slice p xs.length c, Value.bool false] 36)) := (Below.refl _ _).alloc (Nat.le_refl _) _
 have F0 : Cl [(gt, 0, vl), (gt + 1, 0, .bool true)] (w.alloc (Obj.cells #[Value.int .i64 k, Value.slice p xs.length c, Value.bool false] 36)) := (Cl.cons ct zt (Cl.cons cp zp (Cl.nil _))).below B0
 have O0 := hO.out.alloc (Obj.cells #[Value.int .i64 k, Value.slice p xs.length c, Value.bool false] 36)
 have T2 := Lib.hid fun w h => T.out w h
 have HH := Lib.hid (And.intro ht hp)
 unfold Cv at *
 clear ht hp ct cp zt zp
 go_enter Tryd.func70, Tryd.ntmps70
 go_wp2_with (first | (go_at_call 28; (with_reducible refine (T2.out _ (SlM.keep B0 RA.out)).mono ?_); rintro e w1 ⟨q, d, rfl, S1, hfr, hb⟩; unfold Cv; dsimp only at S1 hfr ⊢; have F1 := F0.below hb; have O1 := own_belowE O0 hb; have s1 := hb.size; have x0 := F1.head; have zx0 := F1.headF; have x1 := F1.tail.head; have zx1 := F1.tail.headF; have lg1 : gt < w1.heap.size := World.block_lt_of_cell? _ _ x0; have lg2 : gt + 1 < w1.heap.size := World.block_lt_of_cell? _ _ x1) | (at_builtin; refine wpList_append_own _ rfl _ _ 30 rfl (gt + 2) 36 i0 (.agg #[.int .i64 0, .slice none 0 0, .bool false]) 3 40 Tryd.underlying30 hi hz0 hz1 hz2 rfl (by decide) _ _ _ rfl ((O1.alloc _).alloc _) ⟨w1.heap.size + 1, 0, none⟩ 1 1 [.int .i64 K, .slice q ys.length d, .bool false] rfl rfl ?_ ?_ ?_ ?_ ?_ ?_))
 ·intro q x hx
  rcases q with _ | _ | _ | q
  ·cases hx; go_cell
  ·cases hx; go_cell
  ·cases hx; go_cell
  ·simp at hx
 ·intro x hx
  simp at hx
  rcases hx with rfl | rfl | rfl <;> rfl
 ·unfold maxLen; omega
 ·omega
 ·simp at s1; simp; omega
 intro v' w4 hown' hgrow _
 have B1 : Below w.heap.size w w1 := B0.trans (hb.mono B0.size)
 have B3 : Below w1.heap.size w1 ((w1.alloc (Obj.cells #[Value.int .i64 K, Value.slice q ys.length d, Value.bool false] 36)).alloc (Obj.cells #[Value.int .i64 K, Value.slice q ys.length d, Value.bool false] 36)) := ((Below.refl _ _).alloc (Nat.le_refl _) _).alloc (by simp) _
 have SK1 : SlK w1 q ys := ⟨S1, hfr⟩
 have OB := (O1.alloc (Obj.cells #[Value.int .i64 K, Value.slice q ys.length d, Value.bool false] 36)).alloc (Obj.cells #[Value.int .i64 K, Value.slice q ys.length d, Value.bool false] 36)
 have hblk : ∀ b, b < w.heap.size -> b < gt + 2 -> w4.heap[b]? = w.heap[b]? := fun b hb1 hb2 => by
  rw [hgrow.block b (by have := B3.size; have := B1.size; omega) (fun hh => by have := (OB.lt b hh.symm).1; omega), B3.block b (by have := B1.size; omega), B1.block b hb1]
 have ht4 := (hblk gt (by omega) (by omega)).trans HH.out.1
 have hp4 := (hblk (gt + 1) (by omega) (by omega)).trans HH.out.2
 have k4 : K59 w w4 := ((K59.below B1).trans (K59.below B3)).trans (K59.own OB (by decide) hgrow)
 have k14 : K59 w1 w4 := (K59.below B3).trans (K59.own OB (by decide) hgrow)
 have bel4 : Below gt w w4 := ((B1.mono (by omega)).trans (B3.mono (by have := B1.size; omega))).grown hgrow (by have := B1.size; have := B3.size; omega) (fun k hk => by have := (OB.lt k hk).1; omega)
 have y0 : w4.cell? ⟨gt, 0, none⟩ = some vl := by rw [Lib.cell_of_heap ht4]; rfl
 have zy0 := Lib.frozen_of_heap ht4 0
 have y1 : w4.cell? ⟨gt + 1, 0, none⟩ = some (.bool true) := by rw [Lib.cell_of_heap hp4]; rfl
 have zy1 := Lib.frozen_of_heap hp4 0
 have l4 : gt + 1 < w4.heap.size := World.block_lt_of_cell? _ _ y1
 have hov := Lib.hid hown'
 clear hown' hgrow OB B3 B1 O1 F1 O0 F0 B0 hblk x0 zx0 x1 zx1 hi hz0 hz1 hz2
 obtain ⟨q', c', rfl⟩ := own_slice hov.out
 have h1 := one_setCell (u := .slice q' (m + 1) c') ht4
 have h2 : (w4.setCell ⟨gt, 0, none⟩ (.slice q' (m + 1) c')).heap[gt + 1]? = some (.cells #[.bool true] 4 (0, 0)) := (Below.heap_setCell _ _ _ _ (by dsimp only; omega)).trans hp4
 have ks := (K59.set (o := 0) (.slice q' (m + 1) c') ht4 (by decide)).trans (K59.set (o := 0) (.bool true) h2 (by decide))
 go_wp2
 go_ret
 refine ⟨rfl, .slice q' (m + 1) c', q, d, (Below.heap_setCell _ _ _ _ (by dsimp only; omega)).trans h1, one_setCell h2, own_set (own_set hov.out (by dsimp only; omega)) (by dsimp only; omega), SK1.on (k14.trans ks), (bel4.setCell (p := ⟨gt, 0, none⟩) (by dsimp only; omega) _).setCell (p := ⟨gt + 1, 0, none⟩) (by dsimp only; omega) _, k4.trans ks⟩
end Go.Proofs.YtbicmlkjonaccaaDoor.Ln


namespace Go.Proofs.YtbicmlkjonaccaaDoor.Ln
open Go.ChangeShapes Go.WideShapes Go.ChangeAt Go.RowKit
open Go.Proofs.YtbicmlkjonaccaaDoor.Nm
set_option linter.unusedVariables false
set_option linter.unusedSimpArgs false
set_option maxRecDepth 8000

/-- A constraint in a row: constant, slice of monomials, whether it is an equation. -/
abbrev E5 := Int × Option Addr × Nat × Nat × Bool
abbrev e50 : E5 := (0, none, 0, 0, false)
def enc (e : E5) : List Value := [.int .i64 e.1, .slice e.2.1 e.2.2.1 e.2.2.2.1, .bool e.2.2.2.2]
def agE (e : E5) : Value := .agg #[.int .i64 e.1, .slice e.2.1 e.2.2.1 e.2.2.2.1, .bool e.2.2.2.2]
def rowE (L : List E5) : List Value := L.flatMap enc
theorem rowE_cons (e : E5) (L : List E5) : rowE (e :: L) = .int .i64 e.1 :: .slice e.2.1 e.2.2.1 e.2.2.2.1 :: .bool e.2.2.2.2 :: rowE L := rfl

theorem rowE_get : ∀ (L : List E5) (i : Nat), i < L.length -> (rowE L)[i * 3]? = some (.int .i64 (L.getD i e50).1) /\ (rowE L)[i * 3 + 1]? = some (.slice (L.getD i e50).2.1 (L.getD i e50).2.2.1 (L.getD i e50).2.2.2.1) /\ (rowE L)[i * 3 + 2]? = some (.bool (L.getD i e50).2.2.2.2)
 | [], i, h => absurd h (by simp)
 | e :: L, 0, _ => by rw [rowE_cons]; exact ⟨rfl, rfl, rfl⟩
 | e :: L, i + 1, h => by
  have ih := rowE_get L i (by simpa using h)
  rw [rowE_cons, show (i + 1) * 3 = i * 3 + 3 by omega]
  simp only [List.getElem?_cons_succ, List.getD_cons_succ]
  exact ih
theorem rowE_set : ∀ (L : List E5) (i : Nat) (e : E5), i < L.length -> (((rowE L).set (i * 3) (.int .i64 e.1)).set (i * 3 + 1) (.slice e.2.1 e.2.2.1 e.2.2.2.1)).set (i * 3 + 2) (.bool e.2.2.2.2) = rowE (L.set i e)
 | [], i, e, h => absurd h (by simp)
 | a :: L, 0, e, _ => by rw [rowE_cons]; rfl
 | a :: L, i + 1, e, h => by
  have ih := rowE_set L i e (by simpa using h)
  rw [rowE_cons, show (i + 1) * 3 = i * 3 + 3 by omega]
  simp only [List.set_cons_succ]
  rw [ih]
  rfl
/-- Two elements change places. -/
def swE (L : List E5) (i j : Nat) : List E5 := (L.set i (L.getD j e50)).set j (L.getD i e50)
theorem swE_len (L : List E5) (i j : Nat) : (swE L i j).length = L.length := by simp [swE]
theorem getD_mem5 {L : List E5} {i : Nat} (h : i < L.length) : L.getD i e50 ∈ L := by
 have e1 : L.getD i e50 = L[i] := by unfold List.getD; rw [List.getElem?_eq_getElem h]; rfl
 rw [e1]
 exact List.getElem_mem h
theorem swE_mem {L : List E5} {i j : Nat} (hi : i < L.length) (hj : j < L.length) {x : E5} (h : x ∈ swE L i j) : x ∈ L := by
 unfold swE at h
 rcases List.mem_or_eq_of_mem_set h with h | rfl
 ·rcases List.mem_or_eq_of_mem_set h with h | rfl
  ·exact h
  ·exact getD_mem5 hj
 ·exact getD_mem5 hi
/-- The inner loop of the insertion sort. -/
def insJ (cf : E5 -> E5 -> Int) (a : Nat) : Nat -> List E5 -> List E5
 | 0, L => L
 | j + 1, L => if a < j + 1 /\ cf (L.getD (j + 1) e50) (L.getD j e50) < 0 then insJ cf a j (swE L (j + 1) j) else L
theorem insJ_stop {cf : E5 -> E5 -> Int} {a j : Nat} {L : List E5} (h : j <= a) : insJ cf a j L = L := by
 cases j with
 | zero => rfl
 | succ j => unfold insJ; rw [if_neg (by omega)]
theorem insJ_no {cf : E5 -> E5 -> Int} {a j : Nat} {L : List E5} (h : ¬ cf (L.getD (j + 1) e50) (L.getD j e50) < 0) : insJ cf a (j + 1) L = L := by
 unfold insJ; rw [if_neg (fun h2 => h h2.2)]
theorem insJ_go {cf : E5 -> E5 -> Int} {a j : Nat} {L : List E5} (h1 : a < j + 1) (h : cf (L.getD (j + 1) e50) (L.getD j e50) < 0) : insJ cf a (j + 1) L = insJ cf a j (swE L (j + 1) j) := by
 conv => lhs; unfold insJ
 rw [if_pos ⟨h1, h⟩]
/-- The insertion sort from i on. -/
def insI (cf : E5 -> E5 -> Int) (a : Nat) : Nat -> Nat -> List E5 -> List E5
 | 0, _, L => L
 | n + 1, i, L => insI cf a n (i + 1) (insJ cf a i L)
end Go.Proofs.YtbicmlkjonaccaaDoor.Ln
