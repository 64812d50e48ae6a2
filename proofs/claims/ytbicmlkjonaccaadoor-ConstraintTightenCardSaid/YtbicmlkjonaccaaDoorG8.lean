/- Linear forms: the greatest common divisor. -/
import Derived.Test.YtbicmlkjonaccaaDoorY24
import Derived.Test.YtbicmlkjonaccaaDoorG3
import Derived.Test.YtbicmlkjonaccaaDoorG4

namespace Go.Proofs.YtbicmlkjonaccaaDoor.Ln
open Go.ChangeShapes Go.WideShapes Go.ChangeAt Go.RowKit
set_option linter.unusedVariables false
set_option linter.unusedSimpArgs false
/-- The greatest common divisor of a number and of the magnitudes of the coefficients. -/
def gcdL (g : Nat) : List Mo → Nat
  | [] => g
  | m :: r => gcdL (Nat.gcd g m.2.natAbs) r
theorem gcdL_step {xs : List Mo} {j g : Nat} (h : j < xs.length) : gcdL g (xs.drop j) = gcdL (Nat.gcd g (xs.getD j mo0).2.natAbs) (xs.drop (j + 1)) := by
  rw [List.drop_eq_getElem_cons h]
  have e1 : xs.getD j mo0 = xs[j] := by unfold List.getD; rw [List.getElem?_eq_getElem h]; rfl
  rw [e1]
  rfl
theorem gcd_bd {g n : Nat} (hg : g < 18446744073709551616) (hn : n < 18446744073709551616) : Nat.gcd g n < 18446744073709551616 := by
  by_cases h : n = 0
  · subst h; rw [Nat.gcd_zero_right]; exact hg
  · exact Nat.lt_of_le_of_lt (Nat.le_of_dvd (by omega) (Nat.gcd_dvd_right g n)) hn
theorem gcd_step {g n : Nat} : Nat.gcd n (g % n) = Nat.gcd g n := by rw [Nat.gcd_comm n, ← Nat.gcd_rec, Nat.gcd_comm]
set_option maxRecDepth 100000 in
set_option maxHeartbeats 16000000 in
theorem gcd1 (k : Int) (p : Option Addr) (xs : List Mo) (c : Nat) (w : World) (hn : xs.length ≤ maxLen) (RA : Hid (SlM w p xs)) (RS : Hid (∀ i, i < xs.length → (xs.getD i mo0).1.size ≤ maxLen ∧ -9223372036854775808 ≤ (xs.getD i mo0).2 ∧ (xs.getD i mo0).2 ≤ 9223372036854775807)) :
    Calls Tryd.prog 59 #[Lv k p xs.length c] w fun e w' => e = .returned (.int .i64 (wrap64 (gcdL 0 xs))) ∧ Below w.heap.size w w' := by
  have B0 : Below w.heap.size w (w.alloc (Obj.cells #[Value.int .i64 k, Value.slice p xs.length c] 24)) := (Below.refl _ _).alloc (Nat.le_refl _) _
  have f1 : ((w.alloc (Obj.cells #[Value.int .i64 k, Value.slice p xs.length c] 24))).cell? ⟨w.heap.size, 1, none⟩ = some (.slice p xs.length c) := by go_cell
  unfold maxLen at hn
  unfold Lv
  go_enter Tryd.func59, Tryd.ntmps59
  go_wp2
  have RA1 := Lib.hid (SlM.keep B0 RA.out)
  generalize (w.alloc (Obj.cells #[Value.int .i64 k, Value.slice p xs.length c] 24)) = z at *
  go_loopw [3, 10] (fun gv i wr => ∃ j g : Nat, i = .int .i64 (j : Int) ∧ gv = .int .u64 (g : Int) ∧ j ≤ xs.length ∧ g < 18446744073709551616 ∧ Below z.heap.size z wr ∧ Hid (gcdL 0 xs = gcdL g (xs.drop j))) (fun _ i _ => xs.length - (intOf i).toNat)
  case atStart => exact ⟨0, 0, rfl, rfl, by omega, by omega, Below.refl _ _, Lib.hid rfl⟩
  case round =>
    obtain ⟨j, g, rfl, rfl, hj, hg, hB, HL⟩ := hrel
    have j0 : (0 : Int) ≤ j := by omega
    by_cases hlt : j < xs.length
    · obtain ⟨b, o, rfl, c0, c1⟩ := SlM.keep hB RA1.out j hlt
      have hst := Lib.hid (gcdL_step (g := g) hlt)
      have hrs := RS.out j hlt
      obtain ⟨⟨t, a⟩, hx⟩ : ∃ x, xs.getD j mo0 = x := ⟨_, rfl⟩
      replace hst := Lib.hid (by have h := hst.out; rw [hx] at h; exact h)
      rw [hx] at c0 c1 hrs
      simp only at c0 c1 hrs
      clear hx
      obtain ⟨_, a1, a2⟩ := hrs
      have j1 : (j : Int) < xs.length := by omega
      obtain ⟨n, hnn⟩ : ∃ n, a.natAbs = n := ⟨_, rfl⟩
      have hn2 : n < 18446744073709551616 := by omega
      have HS := Lib.hid (show gcdL 0 xs = gcdL (Nat.gcd g n) (xs.drop (j + 1)) by rw [HL.out, hst.out, ← hnn])
      clear HL hst
      have hB2 := hB.alloc hB.size (Obj.cells #[Value.string t, Value.int .i64 a] 59)
      by_cases ha : a < 0
      all_goals
        first
        | (have u1 : IntKind.u64.wrap a = a + 18446744073709551616 := by rw [u64w]; omega
           have u2 : IntKind.u64.wrap (-(a + 18446744073709551616)) = (n : Int) := by rw [u64w]; omega)
        | (have u1 : IntKind.u64.wrap a = (n : Int) := by rw [u64w]; omega)
        go_wp2_with fail
        clear c0 c1
        clear hB ha
        go_loopw [3, 6] (fun gv av wr => ∃ g' a' : Nat, gv = .int .u64 (g' : Int) ∧ av = .int .u64 (a' : Int) ∧ g' < 18446744073709551616 ∧ a' < 18446744073709551616 ∧ Below z.heap.size z wr ∧ Hid (Nat.gcd g' a' = Nat.gcd g n)) (fun _ av _ => (intOf av).toNat)
        case atStart => exact ⟨g, n, rfl, rfl, hg, hn2, hB2, Lib.hid rfl⟩
        case round =>
          clear hB2
          obtain ⟨g', a', rfl, rfl, hg', ha', hB3, HG⟩ := hrel
          by_cases h0 : a' = 0
          · subst h0
            have HS2 := Lib.hid (show gcdL 0 xs = gcdL g' (xs.drop (j + 1)) by rw [HS.out, ← HG.out, Nat.gcd_zero_right])
            clear HS HG
            go_wp2
            go_roundw
            case rel => exact ⟨j + 1, g', by go_num, rfl, by omega, hg', hB3, HS2⟩
            case measure => simp [intOf]; omega
          · have hb0 : ((a' : Int) == 0) = false := beq_false_of_ne (by omega)
            have hb1 : ((a' : Int) != 0) = true := by rw [bne, hb0]; rfl
            have hb2 : ((a' : Int) = 0) = False := by simp; exact h0
            have hmod : g' % a' < a' := Nat.mod_lt _ (by omega)
            have HG2 := Lib.hid (show Nat.gcd a' (g' % a') = Nat.gcd g n by rw [gcd_step, HG.out])
            have e1 : ((g' : Int) % (a' : Int)) = ((g' % a' : Nat) : Int) := (Int.natCast_emod g' a').symm
            have e2 : Int.tmod (g' : Int) (a' : Int) = ((g' % a' : Nat) : Int) := by rw [Int.tmod_eq_emod_of_nonneg (by omega)]; exact e1
            obtain ⟨r, hr⟩ : ∃ r, g' % a' = r := ⟨_, rfl⟩
            rw [hr] at e1 e2 HG2 hmod
            clear hr HG hb2
            go_wp2_with fail
            go_quiet (fail)
            go_wp2
            go_roundw
            case rel => exact ⟨a', r, rfl, rfl, ha', by omega, below_drewN hB3 _, HG2⟩
            case measure => simp [intOf]; omega
    · have j1 : ¬ (j : Int) < xs.length := by omega
      have HE := Lib.hid (show gcdL 0 xs = g by rw [HL.out, List.drop_of_length_le (by omega)]; rfl)
      go_wp2
      go_ret
      exact ⟨by rw [HE.out]; rfl, B0.trans (hB.mono B0.size)⟩
end Go.Proofs.YtbicmlkjonaccaaDoor.Ln


namespace Go.Proofs.YtbicmlkjonaccaaDoor.Ln
open Go.ChangeShapes Go.WideShapes Go.ChangeAt Go.RowKit
open Go.Proofs.YtbicmlkjonaccaaDoor.Nm
set_option linter.unusedVariables false
set_option linter.unusedSimpArgs false
set_option maxRecDepth 8000

def tdY (G : Nat) (xs : List Mo) : List Mo := xs.map fun m => (m.1, m.2 / (G : Int))
/-- What Tighten answers: constant, monomials, whether it is an equation, kind, error. -/
def tgR (k : Int) (xs : List Mo) (eq : Bool) : Int × List Mo × Bool × Int × Int :=
  if okL xs = false then (0, [], false, 0, 1) else if xs.length = 0 then (if hB k eq = true then (0, [], false, 1, 0) else (-1, [], false, 2, 0))
  else if (eq && !(k % (gcdL 0 xs : Int) == 0)) = true then (-1, [], false, 2, 0)
  else if (eq && decide (((tdY (gcdL 0 xs) xs).getD 0 mo0).2 < 0)) = true then
    (if (sclR (-1) (k / (gcdL 0 xs : Int)) (tdY (gcdL 0 xs) xs)).2.2 ≠ 0 then (0, [], false, 0, (sclR (-1) (k / (gcdL 0 xs : Int)) (tdY (gcdL 0 xs) xs)).2.2) else ((sclR (-1) (k / (gcdL 0 xs : Int)) (tdY (gcdL 0 xs) xs)).1, (sclR (-1) (k / (gcdL 0 xs : Int)) (tdY (gcdL 0 xs) xs)).2.1, eq, 0, 0))
  else (k / (gcdL 0 xs : Int), tdY (gcdL 0 xs) xs, eq, 0, 0)
def TR (r : Int × List Mo × Bool × Int × Int) (w : World) (e : Ending) (w' : World) : Prop := ∃ p c, e = .returned (.tuple #[Cv r.1 p r.2.1.length c r.2.2.1, .int .i64 r.2.2.2.1, .int .i64 r.2.2.2.2]) ∧ SlM w' p r.2.1 ∧ (∀ b o, p = some ⟨b, o, none⟩ → r.2.1 ≠ [] → ∃ cur, w'.heap[b]? = some (.cells cur 59 (0, 0))) ∧ Below w.heap.size w w'
theorem TR.nil {k : Int} {eq : Bool} {kind er : Int} {w w' : World} (hb : Below w.heap.size w w') : TR (k, [], eq, kind, er) w (.returned (.tuple #[.agg #[.int .i64 k, .slice none 0 0, .bool eq], .int .i64 kind, .int .i64 er])) w' := ⟨none, 0, rfl, fun i hi => absurd hi (by simp), (fun b o h _ => absurd h (by simp)), hb⟩
theorem ok_ne {xs : List Mo} (h : okL xs = true) {i : Nat} (hi : i < xs.length) : (xs.getD i mo0).2 ≠ 0 := by
  have h1 := List.all_eq_true.1 h i (List.mem_range.2 hi)
  intro h0
  unfold bd at h1
  rw [h0] at h1
  simp at h1
theorem gcdL_dvd : ∀ (xs : List Mo) (g : Nat), gcdL g xs ∣ g
  | [], g => Nat.dvd_refl _
  | m :: r, g => Nat.dvd_trans (gcdL_dvd r (Nat.gcd g m.2.natAbs)) (Nat.gcd_dvd_left _ _)
theorem gcdL_bd {xs : List Mo} (h : okL xs = true) (hn : xs.length ≠ 0) (hb : ∀ i, i < xs.length → -9223372036854775808 ≤ (xs.getD i mo0).2 ∧ (xs.getD i mo0).2 ≤ 9223372036854775807) : 1 ≤ gcdL 0 xs ∧ gcdL 0 xs ≤ 9223372036854775808 := by
  cases xs with
  | nil => exact absurd rfl hn
  | cons m r =>
    have h0 := ok_ne h (i := 0) (by simp)
    have hb0 := hb 0 (by simp)
    simp only [List.getD_cons_zero] at h0 hb0
    have hd : gcdL 0 (m :: r) ∣ m.2.natAbs := by
      show gcdL (Nat.gcd 0 m.2.natAbs) r ∣ _
      rw [Nat.gcd_zero_left]
      exact gcdL_dvd r _
    have hp : 0 < m.2.natAbs := by omega
    exact ⟨Nat.pos_of_dvd_of_pos hd hp, Nat.le_trans (Nat.le_of_dvd hp hd) (by omega)⟩

set_option maxHeartbeats 4000000 in
theorem tig_bad (k : Int) (p : Option Addr) (xs : List Mo) (c : Nat) (eq : Bool) (w : World) (hn : xs.length ≤ 1000) (RA : Hid (SlM w p xs)) (RS : Hid (∀ i, i < xs.length → (xs.getD i mo0).1.size ≤ maxLen ∧ -9223372036854775808 ≤ (xs.getD i mo0).2 ∧ (xs.getD i mo0).2 ≤ 9223372036854775807)) (k1 : -9223372036854775808 ≤ k) (k2 : k ≤ 9223372036854775807) (hok : okL xs = false) : Calls Tryd.prog 28 #[Cv k p xs.length c eq] w (TR (0, [], false, 0, 1) w) := by
  have VL := Lib.hid fun w h => cval1 k p xs c eq w (by unfold maxLen; omega) h (Lib.hid fun i hi => (RS.out i hi).1)
  have B0 : Below w.heap.size w ((w.alloc (Obj.cells #[Value.int .i64 k, Value.slice p xs.length c, Value.bool eq] 36)).alloc (Obj.cells #[Value.int .i64 0, Value.slice none 0 0, Value.bool false] 36)) := ((Below.refl _ _).alloc (Nat.le_refl _) _).alloc (by simp) _
  have RA2 := Lib.hid (SlM.keep B0 RA.out)
  have hv : vL xs = 1 := by unfold vL; rw [hok]; rfl
  rw [hv] at VL
  unfold Cv at *
  clear hok hv RS
  go_enter Tryd.func28, Tryd.ntmps28
  go_wp2_with (first | (go_at_call 24; (with_reducible refine (VL.out _ RA2).mono ?_); rintro e w1 ⟨rfl, hb1⟩; have hc1 := (Rg.bcell hb1).1; have hf1 := (Rg.bcell hb1).2; have z1_0 : w.heap.size < w1.heap.size := (by have hzz := hb1.size; (try simp at hzz); omega); have z1_1 : w.heap.size + 1 < w1.heap.size := (by have hzz := hb1.size; (try simp at hzz); omega); have K1 : Below w.heap.size w w1 := Below.trans (b := _) (by (repeat' (first | (with_reducible exact Below.refl _ _) | (with_reducible refine Below.alloc ?_ ?_ _) | (with_reducible refine Below.setCell ?_ ?_ _) | (with_reducible refine below_drewN ?_ _) | (simp; done) | omega | (simp; omega)))) (hb1.mono (by have hzz := hb1.size; (try simp at hzz); first | omega | (simp; done) | (simp; omega)))))
  refine bodyPost_ret (v := .tuple #[.agg #[.int .i64 0, .slice none 0 0, .bool false], .int .i64 0, .int .i64 1]) (by simp [results, Tryd.results28, go_sem, hc1, hf1, z1_0, Nat.lt_succ_of_lt z1_0, Nat.ne_of_lt z1_0, Nat.ne_of_gt z1_0, z1_1, Nat.lt_succ_of_lt z1_1, Nat.ne_of_lt z1_1, Nat.ne_of_gt z1_1]) rfl (TR.nil ?_); (repeat' (first | (with_reducible exact Below.refl _ _) | (with_reducible exact K1) | (with_reducible exact K1.size) | (with_reducible refine Below.alloc ?_ ?_ _) | (with_reducible refine Below.setCell ?_ ?_ _) | (with_reducible refine below_drewN ?_ _) | (simp; done) | omega | (simp; omega)))

set_option maxHeartbeats 4000000 in
theorem tig_true (k : Int) (p : Option Addr) (xs : List Mo) (c : Nat) (eq : Bool) (w : World) (hn : xs.length ≤ 1000) (RA : Hid (SlM w p xs)) (RS : Hid (∀ i, i < xs.length → (xs.getD i mo0).1.size ≤ maxLen ∧ -9223372036854775808 ≤ (xs.getD i mo0).2 ∧ (xs.getD i mo0).2 ≤ 9223372036854775807)) (k1 : -9223372036854775808 ≤ k) (k2 : k ≤ 9223372036854775807) (hok : okL xs = true) (h0 : xs.length = 0) (hh : hB k eq = true) : Calls Tryd.prog 28 #[Cv k p xs.length c eq] w (TR (0, [], false, 1, 0) w) := by
  have VL := Lib.hid fun w h => cval1 k p xs c eq w (by unfold maxLen; omega) h (Lib.hid fun i hi => (RS.out i hi).1)
  have B0 : Below w.heap.size w ((w.alloc (Obj.cells #[Value.int .i64 k, Value.slice p xs.length c, Value.bool eq] 36)).alloc (Obj.cells #[Value.int .i64 0, Value.slice none 0 0, Value.bool false] 36)) := ((Below.refl _ _).alloc (Nat.le_refl _) _).alloc (by simp) _
  have RA2 := Lib.hid (SlM.keep B0 RA.out)
  have hv : vL xs = 0 := by unfold vL; rw [hok]; rfl
  rw [hv] at VL
  have HF := Lib.hid fun w => holdsF k p xs.length c eq k w
  rw [hh] at HF
  have NV := Lib.hid fun w => never1 w
  have g0 : ((xs.length : Int) == 0) = true := by simp [h0]
  unfold Cv at *
  clear hok hv RS hh h0
  go_enter Tryd.func28, Tryd.ntmps28
  go_wp2_with (first | (go_at_call 24; (with_reducible refine (VL.out _ RA2).mono ?_); rintro e w1 ⟨rfl, hb1⟩; have hc1 := (Rg.bcell hb1).1; have hf1 := (Rg.bcell hb1).2; have z1_0 : w.heap.size < w1.heap.size := (by have hzz := hb1.size; (try simp at hzz); omega); have z1_1 : w.heap.size + 1 < w1.heap.size := (by have hzz := hb1.size; (try simp at hzz); omega); have K1 : Below w.heap.size w w1 := Below.trans (b := _) (by (repeat' (first | (with_reducible exact Below.refl _ _) | (with_reducible refine Below.alloc ?_ ?_ _) | (with_reducible refine Below.setCell ?_ ?_ _) | (with_reducible refine below_drewN ?_ _) | (simp; done) | omega | (simp; omega)))) (hb1.mono (by have hzz := hb1.size; (try simp at hzz); first | omega | (simp; done) | (simp; omega)))) | (go_at_call 54; (with_reducible refine (HF.out _).mono ?_); rintro e w2 ⟨rfl, hb2⟩; have hc2 := (Rg.bcell hb2).1; have hf2 := (Rg.bcell hb2).2; have z2_0 : w.heap.size < w2.heap.size := (by have hzz := hb2.size; (try simp at hzz); omega); have z2_1 : w.heap.size + 1 < w2.heap.size := (by have hzz := hb2.size; (try simp at hzz); omega); have K2 : Below w.heap.size w w2 := Below.trans (b := _) (by (repeat' (first | (with_reducible exact Below.refl _ _) | (with_reducible exact K1) | (with_reducible exact K1.size) | (with_reducible refine Below.alloc ?_ ?_ _) | (with_reducible refine Below.setCell ?_ ?_ _) | (with_reducible refine below_drewN ?_ _) | (simp; done) | omega | (simp; omega)))) (hb2.mono (by have hzz := hb2.size; (try simp at hzz); first | omega | (simp; done) | (simp; omega)))))
  refine bodyPost_ret (v := .tuple #[.agg #[.int .i64 0, .slice none 0 0, .bool false], .int .i64 1, .int .i64 0]) (by simp [results, Tryd.results28, go_sem, hc1, hf1, hc2, hf2, z1_0, Nat.lt_succ_of_lt z1_0, Nat.ne_of_lt z1_0, Nat.ne_of_gt z1_0, z1_1, Nat.lt_succ_of_lt z1_1, Nat.ne_of_lt z1_1, Nat.ne_of_gt z1_1, z2_0, Nat.lt_succ_of_lt z2_0, Nat.ne_of_lt z2_0, Nat.ne_of_gt z2_0, z2_1, Nat.lt_succ_of_lt z2_1, Nat.ne_of_lt z2_1, Nat.ne_of_gt z2_1]) rfl (TR.nil ?_); (repeat' (first | (with_reducible exact Below.refl _ _) | (with_reducible exact K1) | (with_reducible exact K1.size) | (with_reducible exact K2) | (with_reducible exact K2.size) | (with_reducible refine Below.alloc ?_ ?_ _) | (with_reducible refine Below.setCell ?_ ?_ _) | (with_reducible refine below_drewN ?_ _) | (simp; done) | omega | (simp; omega)))

set_option maxHeartbeats 4000000 in
theorem tig_false (k : Int) (p : Option Addr) (xs : List Mo) (c : Nat) (eq : Bool) (w : World) (hn : xs.length ≤ 1000) (RA : Hid (SlM w p xs)) (RS : Hid (∀ i, i < xs.length → (xs.getD i mo0).1.size ≤ maxLen ∧ -9223372036854775808 ≤ (xs.getD i mo0).2 ∧ (xs.getD i mo0).2 ≤ 9223372036854775807)) (k1 : -9223372036854775808 ≤ k) (k2 : k ≤ 9223372036854775807) (hok : okL xs = true) (h0 : xs.length = 0) (hh : hB k eq = false) : Calls Tryd.prog 28 #[Cv k p xs.length c eq] w (TR (-1, [], false, 2, 0) w) := by
  have VL := Lib.hid fun w h => cval1 k p xs c eq w (by unfold maxLen; omega) h (Lib.hid fun i hi => (RS.out i hi).1)
  have B0 : Below w.heap.size w ((w.alloc (Obj.cells #[Value.int .i64 k, Value.slice p xs.length c, Value.bool eq] 36)).alloc (Obj.cells #[Value.int .i64 0, Value.slice none 0 0, Value.bool false] 36)) := ((Below.refl _ _).alloc (Nat.le_refl _) _).alloc (by simp) _
  have RA2 := Lib.hid (SlM.keep B0 RA.out)
  have hv : vL xs = 0 := by unfold vL; rw [hok]; rfl
  rw [hv] at VL
  have HF := Lib.hid fun w => holdsF k p xs.length c eq k w
  rw [hh] at HF
  have NV := Lib.hid fun w => never1 w
  have g0 : ((xs.length : Int) == 0) = true := by simp [h0]
  unfold Cv at *
  clear hok hv RS hh h0
  go_enter Tryd.func28, Tryd.ntmps28
  go_wp2_with (first | (go_at_call 24; (with_reducible refine (VL.out _ RA2).mono ?_); rintro e w1 ⟨rfl, hb1⟩; have hc1 := (Rg.bcell hb1).1; have hf1 := (Rg.bcell hb1).2; have z1_0 : w.heap.size < w1.heap.size := (by have hzz := hb1.size; (try simp at hzz); omega); have z1_1 : w.heap.size + 1 < w1.heap.size := (by have hzz := hb1.size; (try simp at hzz); omega); have K1 : Below w.heap.size w w1 := Below.trans (b := _) (by (repeat' (first | (with_reducible exact Below.refl _ _) | (with_reducible refine Below.alloc ?_ ?_ _) | (with_reducible refine Below.setCell ?_ ?_ _) | (with_reducible refine below_drewN ?_ _) | (simp; done) | omega | (simp; omega)))) (hb1.mono (by have hzz := hb1.size; (try simp at hzz); first | omega | (simp; done) | (simp; omega)))) | (go_at_call 54; (with_reducible refine (HF.out _).mono ?_); rintro e w2 ⟨rfl, hb2⟩; have hc2 := (Rg.bcell hb2).1; have hf2 := (Rg.bcell hb2).2; have z2_0 : w.heap.size < w2.heap.size := (by have hzz := hb2.size; (try simp at hzz); omega); have z2_1 : w.heap.size + 1 < w2.heap.size := (by have hzz := hb2.size; (try simp at hzz); omega); have K2 : Below w.heap.size w w2 := Below.trans (b := _) (by (repeat' (first | (with_reducible exact Below.refl _ _) | (with_reducible exact K1) | (with_reducible exact K1.size) | (with_reducible refine Below.alloc ?_ ?_ _) | (with_reducible refine Below.setCell ?_ ?_ _) | (with_reducible refine below_drewN ?_ _) | (simp; done) | omega | (simp; omega)))) (hb2.mono (by have hzz := hb2.size; (try simp at hzz); first | omega | (simp; done) | (simp; omega)))) | (go_at_call 58; (with_reducible refine (NV.out _).mono ?_); rintro e w3 ⟨rfl, hb3⟩; have hc3 := (Rg.bcell hb3).1; have hf3 := (Rg.bcell hb3).2; have z3_0 : w.heap.size < w3.heap.size := (by have hzz := hb3.size; (try simp at hzz); omega); have z3_1 : w.heap.size + 1 < w3.heap.size := (by have hzz := hb3.size; (try simp at hzz); omega); have K3 : Below w.heap.size w w3 := Below.trans (b := _) (by (repeat' (first | (with_reducible exact Below.refl _ _) | (with_reducible exact K1) | (with_reducible exact K1.size) | (with_reducible exact K2) | (with_reducible exact K2.size) | (with_reducible refine Below.alloc ?_ ?_ _) | (with_reducible refine Below.setCell ?_ ?_ _) | (with_reducible refine below_drewN ?_ _) | (simp; done) | omega | (simp; omega)))) (hb3.mono (by have hzz := hb3.size; (try simp at hzz); first | omega | (simp; done) | (simp; omega)))))
  refine bodyPost_ret (v := .tuple #[.agg #[.int .i64 (-1), .slice none 0 0, .bool false], .int .i64 2, .int .i64 0]) (by simp [results, Tryd.results28, go_sem, hc1, hf1, hc2, hf2, hc3, hf3, z1_0, Nat.lt_succ_of_lt z1_0, Nat.ne_of_lt z1_0, Nat.ne_of_gt z1_0, z1_1, Nat.lt_succ_of_lt z1_1, Nat.ne_of_lt z1_1, Nat.ne_of_gt z1_1, z2_0, Nat.lt_succ_of_lt z2_0, Nat.ne_of_lt z2_0, Nat.ne_of_gt z2_0, z2_1, Nat.lt_succ_of_lt z2_1, Nat.ne_of_lt z2_1, Nat.ne_of_gt z2_1, z3_0, Nat.lt_succ_of_lt z3_0, Nat.ne_of_lt z3_0, Nat.ne_of_gt z3_0, z3_1, Nat.lt_succ_of_lt z3_1, Nat.ne_of_lt z3_1, Nat.ne_of_gt z3_1]) rfl (TR.nil ?_); (repeat' (first | (with_reducible exact Below.refl _ _) | (with_reducible exact K1) | (with_reducible exact K1.size) | (with_reducible exact K2) | (with_reducible exact K2.size) | (with_reducible exact K3) | (with_reducible exact K3.size) | (with_reducible refine Below.alloc ?_ ?_ _) | (with_reducible refine Below.setCell ?_ ?_ _) | (with_reducible refine below_drewN ?_ _) | (simp; done) | omega | (simp; omega)))

set_option maxHeartbeats 4000000 in
theorem tig_no (k : Int) (p : Option Addr) (xs : List Mo) (c : Nat) (eq : Bool) (w : World) (hn : xs.length ≤ 1000) (RA : Hid (SlM w p xs)) (RS : Hid (∀ i, i < xs.length → (xs.getD i mo0).1.size ≤ maxLen ∧ -9223372036854775808 ≤ (xs.getD i mo0).2 ∧ (xs.getD i mo0).2 ≤ 9223372036854775807)) (k1 : -9223372036854775808 ≤ k) (k2 : k ≤ 9223372036854775807) (hok : okL xs = true) (h0 : xs.length ≠ 0) (he : eq = true) (hx : (k % (gcdL 0 xs : Int) == 0) = false) : Calls Tryd.prog 28 #[Cv k p xs.length c eq] w (TR (-1, [], false, 2, 0) w) := by
  have VL := Lib.hid fun w h => cval1 k p xs c eq w (by unfold maxLen; omega) h (Lib.hid fun i hi => (RS.out i hi).1)
  have B0 : Below w.heap.size w ((w.alloc (Obj.cells #[Value.int .i64 k, Value.slice p xs.length c, Value.bool eq] 36)).alloc (Obj.cells #[Value.int .i64 0, Value.slice none 0 0, Value.bool false] 36)) := ((Below.refl _ _).alloc (Nat.le_refl _) _).alloc (by simp) _
  have RA2 := Lib.hid (SlM.keep B0 RA.out)
  have hv : vL xs = 0 := by unfold vL; rw [hok]; rfl
  rw [hv] at VL
  obtain ⟨q0, q1⟩ := gcdL_bd hok h0 (fun i hi => (RS.out i hi).2)
  have GC := Lib.hid fun w h => gcd1 k p xs c w (by unfold maxLen; omega) h RS
  have FD := Lib.hid fun w => fdiv k (gcdL 0 xs) k1 k2 q0 q1 w
  rw [hx] at FD
  have NV := Lib.hid fun w => never1 w
  have g0 : ((xs.length : Int) == 0) = false := by rw [beq_eq_false_iff_ne]; omega
  subst he
  unfold Cv Lv at *
  obtain ⟨G, hG⟩ : ∃ G, wrap64 (gcdL 0 xs : Int) = G := ⟨_, rfl⟩
  obtain ⟨D, hD⟩ : ∃ D, k / (gcdL 0 xs : Int) = D := ⟨_, rfl⟩
  rw [hG] at GC FD
  rw [hD] at FD
  clear hok hv RS hx h0 hG hD q0 q1
  go_enter Tryd.func28, Tryd.ntmps28
  go_wp2_with (first | (go_at_call 24; (with_reducible refine (VL.out _ RA2).mono ?_); rintro e w1 ⟨rfl, hb1⟩; have hc1 := (Rg.bcell hb1).1; have hf1 := (Rg.bcell hb1).2; have z1_0 : w.heap.size < w1.heap.size := (by have hzz := hb1.size; (try simp at hzz); omega); have z1_1 : w.heap.size + 1 < w1.heap.size := (by have hzz := hb1.size; (try simp at hzz); omega); have K1 : Below w.heap.size w w1 := Below.trans (b := _) (by (repeat' (first | (with_reducible exact Below.refl _ _) | (with_reducible refine Below.alloc ?_ ?_ _) | (with_reducible refine Below.setCell ?_ ?_ _) | (with_reducible refine below_drewN ?_ _) | (simp; done) | omega | (simp; omega)))) (hb1.mono (by have hzz := hb1.size; (try simp at hzz); first | omega | (simp; done) | (simp; omega)))) | (go_at_call 59; (with_reducible refine (GC.out _ (Lib.hid (SlM.keep K1 RA.out))).mono ?_); rintro e w2 ⟨rfl, hb2⟩; have hc2 := (Rg.bcell hb2).1; have hf2 := (Rg.bcell hb2).2; have z2_0 : w.heap.size < w2.heap.size := (by have hzz := hb2.size; (try simp at hzz); omega); have z2_1 : w.heap.size + 1 < w2.heap.size := (by have hzz := hb2.size; (try simp at hzz); omega); have K2 : Below w.heap.size w w2 := Below.trans (b := _) (by (repeat' (first | (with_reducible exact Below.refl _ _) | (with_reducible exact K1) | (with_reducible exact K1.size) | (with_reducible refine Below.alloc ?_ ?_ _) | (with_reducible refine Below.setCell ?_ ?_ _) | (with_reducible refine below_drewN ?_ _) | (simp; done) | omega | (simp; omega)))) (hb2.mono (by have hzz := hb2.size; (try simp at hzz); first | omega | (simp; done) | (simp; omega)))) | (go_at_call 60; (with_reducible refine (FD.out _).mono ?_); rintro e w3 ⟨rfl, hb3⟩; have hc3 := (Rg.bcell hb3).1; have hf3 := (Rg.bcell hb3).2; have z3_0 : w.heap.size < w3.heap.size := (by have hzz := hb3.size; (try simp at hzz); omega); have z3_1 : w.heap.size + 1 < w3.heap.size := (by have hzz := hb3.size; (try simp at hzz); omega); have K3 : Below w.heap.size w w3 := Below.trans (b := _) (by (repeat' (first | (with_reducible exact Below.refl _ _) | (with_reducible exact K1) | (with_reducible exact K1.size) | (with_reducible exact K2) | (with_reducible exact K2.size) | (with_reducible refine Below.alloc ?_ ?_ _) | (with_reducible refine Below.setCell ?_ ?_ _) | (with_reducible refine below_drewN ?_ _) | (simp; done) | omega | (simp; omega)))) (hb3.mono (by have hzz := hb3.size; (try simp at hzz); first | omega | (simp; done) | (simp; omega)))) | (go_at_call 58; (with_reducible refine (NV.out _).mono ?_); rintro e w4 ⟨rfl, hb4⟩; have hc4 := (Rg.bcell hb4).1; have hf4 := (Rg.bcell hb4).2; have z4_0 : w.heap.size < w4.heap.size := (by have hzz := hb4.size; (try simp at hzz); omega); have z4_1 : w.heap.size + 1 < w4.heap.size := (by have hzz := hb4.size; (try simp at hzz); omega); have K4 : Below w.heap.size w w4 := Below.trans (b := _) (by (repeat' (first | (with_reducible exact Below.refl _ _) | (with_reducible exact K1) | (with_reducible exact K1.size) | (with_reducible exact K2) | (with_reducible exact K2.size) | (with_reducible exact K3) | (with_reducible exact K3.size) | (with_reducible refine Below.alloc ?_ ?_ _) | (with_reducible refine Below.setCell ?_ ?_ _) | (with_reducible refine below_drewN ?_ _) | (simp; done) | omega | (simp; omega)))) (hb4.mono (by have hzz := hb4.size; (try simp at hzz); first | omega | (simp; done) | (simp; omega)))))
  refine bodyPost_ret (v := .tuple #[.agg #[.int .i64 (-1), .slice none 0 0, .bool false], .int .i64 2, .int .i64 0]) (by simp [results, Tryd.results28, go_sem, hc1, hf1, hc2, hf2, hc3, hf3, hc4, hf4, z1_0, Nat.lt_succ_of_lt z1_0, Nat.ne_of_lt z1_0, Nat.ne_of_gt z1_0, z1_1, Nat.lt_succ_of_lt z1_1, Nat.ne_of_lt z1_1, Nat.ne_of_gt z1_1, z2_0, Nat.lt_succ_of_lt z2_0, Nat.ne_of_lt z2_0, Nat.ne_of_gt z2_0, z2_1, Nat.lt_succ_of_lt z2_1, Nat.ne_of_lt z2_1, Nat.ne_of_gt z2_1, z3_0, Nat.lt_succ_of_lt z3_0, Nat.ne_of_lt z3_0, Nat.ne_of_gt z3_0, z3_1, Nat.lt_succ_of_lt z3_1, Nat.ne_of_lt z3_1, Nat.ne_of_gt z3_1, z4_0, Nat.lt_succ_of_lt z4_0, Nat.ne_of_lt z4_0, Nat.ne_of_gt z4_0, z4_1, Nat.lt_succ_of_lt z4_1, Nat.ne_of_lt z4_1, Nat.ne_of_gt z4_1]) rfl (TR.nil ?_); (repeat' (first | (with_reducible exact Below.refl _ _) | (with_reducible exact K1) | (with_reducible exact K1.size) | (with_reducible exact K2) | (with_reducible exact K2.size) | (with_reducible exact K3) | (with_reducible exact K3.size) | (with_reducible exact K4) | (with_reducible exact K4.size) | (with_reducible refine Below.alloc ?_ ?_ _) | (with_reducible refine Below.setCell ?_ ?_ _) | (with_reducible refine below_drewN ?_ _) | (simp; done) | omega | (simp; omega)))
end Go.Proofs.YtbicmlkjonaccaaDoor.Ln


namespace Go.Proofs.YtbicmlkjonaccaaDoor.Ln
open Go.ChangeShapes Go.WideShapes Go.ChangeAt Go.RowKit
set_option linter.unusedVariables false
set_option linter.unusedSimpArgs false
def magN (n : Int) : Int := if n < 0 then -n else n
theorem sizeN (n : Int) (w : World) (h1 : -9223372036854775808 ≤ n) (h2 : n ≤ 9223372036854775807) : Calls Tryd.prog 50 #[.int .i64 n] w fun e w' => e = .returned (.int .u64 (n.natAbs : Int)) ∧ w = w' := by
  rw [show (n.natAbs : Int) = magN n by unfold magN; split <;> omega]
  unfold magN
  by_cases h : n < 0
  · rw [if_pos h]
    have e1 : IntKind.u64.wrap (-(n + 1)) = -n - 1 := by rw [u64w]; omega
    have e2 : IntKind.u64.wrap (-n - 1 + 1) = -n := by rw [u64w]; omega
    go_enter Tryd.func50, Tryd.ntmps50
    go_wp2
    go_ret
    exact ⟨by first | rfl | (rw [← e2]; rfl) | (congr 2; omega), rfl⟩
  · rw [if_neg h]
    have e1 : IntKind.u64.wrap n = n := by rw [u64w]; omega
    go_enter Tryd.func50, Tryd.ntmps50
    go_wp2
    go_ret
    exact ⟨rfl, rfl⟩
end Go.Proofs.YtbicmlkjonaccaaDoor.Ln


namespace Go.Proofs.YtbicmlkjonaccaaDoor.Ln
open Go.ChangeShapes Go.WideShapes Go.ChangeAt Go.RowKit
open Go.Proofs.YtbicmlkjonaccaaDoor.Nm
set_option linter.unusedVariables false
set_option linter.unusedSimpArgs false
set_option maxRecDepth 8000

theorem size6 (n : Int) (w : World) (h1 : -9223372036854775808 ≤ n) (h2 : n ≤ 9223372036854775807) : Calls Tryd.prog 64 #[.int .i64 n] w fun e w' => e = .returned (.int .u64 (n.natAbs : Int)) ∧ w = w' := by
  rw [show (n.natAbs : Int) = magN n by unfold magN; split <;> omega]
  unfold magN
  by_cases h : n < 0
  · rw [if_pos h]
    have e1 : IntKind.u64.wrap (-(n + 1)) = -n - 1 := by rw [u64w]; omega
    have e2 : IntKind.u64.wrap (-n - 1 + 1) = -n := by rw [u64w]; omega
    go_enter Tryd.func64, Tryd.ntmps64
    go_wp2
    go_ret
    exact ⟨by first | rfl | (rw [← e2]; rfl) | (congr 2; omega), rfl⟩
  · rw [if_neg h]
    have e1 : IntKind.u64.wrap n = n := by rw [u64w]; omega
    go_enter Tryd.func64, Tryd.ntmps64
    go_wp2
    go_ret
    exact ⟨rfl, rfl⟩
set_option maxHeartbeats 4000000 in
theorem gcd6 (a b : Nat) (ha : a < 18446744073709551616) (hb : b < 18446744073709551616) (w : World) : Calls Tryd.prog 63 #[.int .u64 (a : Int), .int .u64 (b : Int)] w fun e w' => e = .returned (.int .u64 (Nat.gcd a b : Int)) ∧ Below w.heap.size w w' := by
  go_enter Tryd.func63, Tryd.ntmps63
  go_wp2
  go_loopw [0, 1] (fun gv av wr => ∃ g' a' : Nat, gv = .int .u64 (g' : Int) ∧ av = .int .u64 (a' : Int) ∧ g' < 18446744073709551616 ∧ a' < 18446744073709551616 ∧ Below w.heap.size w wr ∧ Hid (Nat.gcd g' a' = Nat.gcd a b)) (fun _ av _ => (intOf av).toNat)
  case atStart => exact ⟨a, b, rfl, rfl, ha, hb, Below.refl _ _, Lib.hid rfl⟩
  case round =>
    obtain ⟨g', a', rfl, rfl, hg', ha', hB3, HG⟩ := hrel
    by_cases h0 : a' = 0
    · subst h0
      have HS2 := Lib.hid (show g' = Nat.gcd a b by rw [← HG.out, Nat.gcd_zero_right])
      clear HG
      go_wp2
      go_ret
      exact ⟨by rw [HS2.out]; rfl, hB3⟩
    · have hb0 : ((a' : Int) == 0) = false := beq_false_of_ne (by omega)
      have hb1 : ((a' : Int) != 0) = true := by rw [bne, hb0]; rfl
      have hb2 : ((a' : Int) = 0) = False := by simp; exact h0
      have hmod : g' % a' < a' := Nat.mod_lt _ (by omega)
      have HG2 := Lib.hid (show Nat.gcd a' (g' % a') = Nat.gcd a b by rw [gcd_step, HG.out])
      have e1 : ((g' : Int) % (a' : Int)) = ((g' % a' : Nat) : Int) := (Int.natCast_emod g' a').symm
      have e2 : Int.tmod (g' : Int) (a' : Int) = ((g' % a' : Nat) : Int) := by rw [Int.tmod_eq_emod_of_nonneg (by omega)]; exact e1
      obtain ⟨r, hr⟩ : ∃ r, g' % a' = r := ⟨_, rfl⟩
      rw [hr] at e1 e2 HG2 hmod
      clear hr HG hb2
      go_wp2_with fail
      go_quiet (fail)
      go_wp2
      go_roundw
      case rel => exact ⟨a', r, rfl, rfl, ha', by omega, below_drewN hB3 _, HG2⟩
      case measure => simp [intOf]; omega
theorem floor_neg {n : Int} {G : Nat} (g0 : 1 ≤ G) (h : n < 0) : -(((n.natAbs - 1) / G : Nat) : Int) - 1 = n / (G : Int) := by
  obtain ⟨m, rfl⟩ : ∃ m : Nat, n = -((m : Int) + 1) := ⟨n.natAbs - 1, by omega⟩
  have e : (-((m : Int) + 1)).natAbs - 1 = m := by omega
  rw [e]
  have e3 : -((m : Int) + 1) / (G : Int) = -((m : Int) / (G : Int) + 1) := by
    have hg : (0 : Int) < G := by omega
    have h1 := Int.emod_add_mul_ediv (m : Int) (G : Int)
    have h2 := Int.emod_nonneg (m : Int) (show (G : Int) ≠ 0 by omega)
    have h3 := Int.emod_lt_of_pos (m : Int) hg
    generalize (m : Int) / (G : Int) = q at *
    generalize (m : Int) % (G : Int) = r at *
    have e4 : -((m : Int) + 1) = ((G : Int) - 1 - r) + (G : Int) * (-(q + 1)) := by
      rw [Int.mul_neg, Int.mul_add]; omega
    rw [e4, Int.add_mul_ediv_left _ _ (by omega), Int.ediv_eq_zero_of_lt (by omega) (by omega)]
    omega
  rw [e3]
  omega
set_option maxHeartbeats 4000000 in
theorem floor6 (n : Int) (G : Nat) (n0 : -9223372036854775808 ≤ n) (n1 : n ≤ 9223372036854775807) (g0 : 1 ≤ G) (g1 : G ≤ 9223372036854775808) (w : World) : Calls Tryd.prog 65 #[.int .i64 n, .int .u64 (G : Int)] w fun e w' => e = .returned (.int .i64 (n / (G : Int))) ∧ w = w' := by
  have gz : ((G : Int) == 0) = false := beq_false_of_ne (by omega)
  have gn : ¬ ((G : Int) = 0) := by omega
  by_cases h : 0 ≤ n
  · have e1 : IntKind.u64.wrap n = n := by rw [u64w]; omega
    have b1 : n / (G : Int) ≤ n := Int.ediv_le_self _ h
    have b0 : 0 ≤ n / (G : Int) := Int.ediv_nonneg h (by omega)
    have e2 : n.tdiv (G : Int) = n / (G : Int) := Int.tdiv_eq_ediv_of_nonneg h
    obtain ⟨Q, hQ⟩ : ∃ Q, n / (G : Int) = Q := ⟨_, rfl⟩
    rw [hQ] at b0 b1 e2 ⊢
    have e3 : IntKind.i64.wrap Q = Q := by rw [IntKind.wrap_i64]; omega
    have e4 : IntKind.u64.wrap Q = Q := by rw [u64w]; omega
    go_enter Tryd.func65, Tryd.ntmps65
    go_wp2
    go_ret
    exact ⟨by first | rfl | (rw [hQ]) | (congr 2), rfl⟩
  · have HR := Lib.hid (floor_neg g0 (show n < 0 by omega))
    have SZ := Lib.hid fun w => size6 n w n0 n1
    obtain ⟨M, hM⟩ : ∃ M, n.natAbs = M := ⟨_, rfl⟩
    have m1 : 1 ≤ M := by omega
    have m2 : M ≤ 9223372036854775808 := by omega
    rw [hM] at SZ HR
    have e1 : IntKind.u64.wrap ((M : Int) - 1) = ((M - 1 : Nat) : Int) := by rw [u64w]; omega
    have e1' : (M : Int) - 1 = ((M - 1 : Nat) : Int) := by omega
    have e2 : (((M - 1 : Nat) : Int)).tdiv (G : Int) = (((M - 1) / G : Nat) : Int) := by rw [Int.tdiv_eq_ediv_of_nonneg (by omega)]; rfl
    have e2' : (((M - 1 : Nat) : Int)) / (G : Int) = (((M - 1) / G : Nat) : Int) := rfl
    have b1 : (M - 1) / G ≤ M - 1 := Nat.div_le_self _ _
    obtain ⟨Q, hQ⟩ : ∃ Q, (M - 1) / G = Q := ⟨_, rfl⟩
    rw [hQ] at b1 e2 e2' HR
    obtain ⟨L, hL⟩ : ∃ L, M - 1 = L := ⟨_, rfl⟩
    rw [hL] at b1 e1 e1' e2 e2'
    have l1 : L ≤ 9223372036854775807 := by omega
    have e3 : IntKind.i64.wrap (Q : Int) = Q := by rw [IntKind.wrap_i64]; omega
    have e4 : IntKind.u64.wrap (Q : Int) = Q := by rw [u64w]; omega
    have e5 : IntKind.i64.wrap (-(Q : Int)) = -Q := by rw [IntKind.wrap_i64]; omega
    have e6 : IntKind.i64.wrap (-(Q : Int) - 1) = -Q - 1 := by rw [IntKind.wrap_i64]; omega
    have hlt : decide (0 ≤ n) = false := by simpa using h
    clear hM hQ hL
    go_enter Tryd.func65, Tryd.ntmps65
    go_wp2_with (go_at_call 64; (with_reducible refine (SZ.out _).mono ?_); rintro e w1 ⟨rfl, rfl⟩)
    go_ret
    exact ⟨by rw [← HR.out]; first | rfl | (congr 2), rfl⟩
end Go.Proofs.YtbicmlkjonaccaaDoor.Ln


namespace Go.Proofs.YtbicmlkjonaccaaDoor.Ln
open Go.ChangeShapes Go.WideShapes Go.ChangeAt Go.RowKit
open Go.Proofs.YtbicmlkjonaccaaDoor.Nm
set_option linter.unusedVariables false
set_option linter.unusedSimpArgs false
set_option maxRecDepth 8000

/-- As TR, whatever the row lies in. -/
def TQ (r : Int × List Mo × Bool × Int × Int) (w : World) (e : Ending) (w' : World) : Prop := ∃ p c, e = .returned (.tuple #[Cv r.1 p r.2.1.length c r.2.2.1, .int .i64 r.2.2.2.1, .int .i64 r.2.2.2.2]) ∧ SlM w' p r.2.1 ∧ Below w.heap.size w w'
theorem TQ.nil {k : Int} {eq : Bool} {kind er : Int} {w w' : World} (hb : Below w.heap.size w w') : TQ (k, [], eq, kind, er) w (.returned (.tuple #[.agg #[.int .i64 k, .slice none 0 0, .bool eq], .int .i64 kind, .int .i64 er])) w' := ⟨none, 0, rfl, fun i hi => absurd hi (by simp), hb⟩
theorem TR.toQ {r : Int × List Mo × Bool × Int × Int} {w w' : World} {e : Ending} (h : TR r w e w') : TQ r w e w' := by
  obtain ⟨p, c, he, hs, _, hb⟩ := h
  exact ⟨p, c, he, hs, hb⟩
set_option maxHeartbeats 4000000 in
theorem rtig_bad (k : Int) (p : Option Addr) (xs : List Mo) (c : Nat) (eq : Bool) (w : World) (hn : xs.length ≤ 1000) (RA : Hid (SlM w p xs)) (RS : Hid (∀ i, i < xs.length → (xs.getD i mo0).1.size ≤ maxLen ∧ -9223372036854775808 ≤ (xs.getD i mo0).2 ∧ (xs.getD i mo0).2 ≤ 9223372036854775807)) (k1 : -9223372036854775808 ≤ k) (k2 : k ≤ 9223372036854775807) (hok : okL xs = false) : Calls Tryd.prog 29 #[Cv k p xs.length c eq] w (TQ (0, [], false, 0, 1) w) := by
  have VL := Lib.hid fun w h => cval2 k p xs c eq w (by unfold maxLen; omega) h (Lib.hid fun i hi => (RS.out i hi).1)
  have B0 : Below w.heap.size w ((w.alloc (Obj.cells #[Value.int .i64 k, Value.slice p xs.length c, Value.bool eq] 36)).alloc (Obj.cells #[Value.int .i64 0, Value.slice none 0 0, Value.bool false] 36)) := ((Below.refl _ _).alloc (Nat.le_refl _) _).alloc (by simp) _
  have RA2 := Lib.hid (SlM.keep B0 RA.out)
  have hv : vL xs = 1 := by unfold vL; rw [hok]; rfl
  rw [hv] at VL
  unfold Cv at *
  clear hok hv RS
  go_enter Tryd.func29, Tryd.ntmps29
  go_wp2_with (first | (go_at_call 25; (with_reducible refine (VL.out _ RA2).mono ?_); rintro e w1 ⟨rfl, hb1⟩; have hc1 := (Rg.bcell hb1).1; have hf1 := (Rg.bcell hb1).2; have z1_0 : w.heap.size < w1.heap.size := (by have hzz := hb1.size; (try simp at hzz); omega); have z1_1 : w.heap.size + 1 < w1.heap.size := (by have hzz := hb1.size; (try simp at hzz); omega); have K1 : Below w.heap.size w w1 := Below.trans (b := _) (by (repeat' (first | (with_reducible exact Below.refl _ _) | (with_reducible refine Below.alloc ?_ ?_ _) | (with_reducible refine Below.setCell ?_ ?_ _) | (with_reducible refine below_drewN ?_ _) | (simp; done) | omega | (simp; omega)))) (hb1.mono (by have hzz := hb1.size; (try simp at hzz); first | omega | (simp; done) | (simp; omega)))))
  refine bodyPost_ret (v := .tuple #[.agg #[.int .i64 0, .slice none 0 0, .bool false], .int .i64 0, .int .i64 1]) (by simp [results, Tryd.results29, go_sem, hc1, hf1, z1_0, Nat.lt_succ_of_lt z1_0, Nat.ne_of_lt z1_0, Nat.ne_of_gt z1_0, z1_1, Nat.lt_succ_of_lt z1_1, Nat.ne_of_lt z1_1, Nat.ne_of_gt z1_1]) rfl (TQ.nil ?_); (repeat' (first | (with_reducible exact Below.refl _ _) | (with_reducible exact K1) | (with_reducible exact K1.size) | (with_reducible refine Below.alloc ?_ ?_ _) | (with_reducible refine Below.setCell ?_ ?_ _) | (with_reducible refine below_drewN ?_ _) | (simp; done) | omega | (simp; omega)))
set_option maxHeartbeats 4000000 in
theorem rtig_const (k : Int) (p : Option Addr) (xs : List Mo) (c : Nat) (eq : Bool) (w : World) (hn : xs.length ≤ 1000) (RA : Hid (SlM w p xs)) (RS : Hid (∀ i, i < xs.length → (xs.getD i mo0).1.size ≤ maxLen ∧ -9223372036854775808 ≤ (xs.getD i mo0).2 ∧ (xs.getD i mo0).2 ≤ 9223372036854775807)) (k1 : -9223372036854775808 ≤ k) (k2 : k ≤ 9223372036854775807) (hok : okL xs = true) (h0 : xs.length = 0) : Calls Tryd.prog 29 #[Cv k p xs.length c eq] w (TQ (if hB k eq = true then (0, [], false, 1, 0) else (-1, [], false, 2, 0)) w) := by
  have VL := Lib.hid fun w h => cval2 k p xs c eq w (by unfold maxLen; omega) h (Lib.hid fun i hi => (RS.out i hi).1)
  have B0 : Below w.heap.size w ((w.alloc (Obj.cells #[Value.int .i64 k, Value.slice p xs.length c, Value.bool eq] 36)).alloc (Obj.cells #[Value.int .i64 0, Value.slice none 0 0, Value.bool false] 36)) := ((Below.refl _ _).alloc (Nat.le_refl _) _).alloc (by simp) _
  have RA2 := Lib.hid (SlM.keep B0 RA.out)
  have hv : vL xs = 0 := by unfold vL; rw [hok]; rfl
  rw [hv] at VL
  have NV := Lib.hid fun w => never2 w
  have g0 : ((xs.length : Int) == 0) = true := by simp [h0]
  unfold Cv at *
  clear hok hv RS h0
  unfold hB
  by_cases hk : k = 0
  · subst hk
    rw [if_pos (by simp)]
    go_enter Tryd.func29, Tryd.ntmps29
    go_wp2_with (first | (go_at_call 25; (with_reducible refine (VL.out _ RA2).mono ?_); rintro e w1 ⟨rfl, hb1⟩; have hc1 := (Rg.bcell hb1).1; have hf1 := (Rg.bcell hb1).2; have z1_0 : w.heap.size < w1.heap.size := (by have hzz := hb1.size; (try simp at hzz); omega); have z1_1 : w.heap.size + 1 < w1.heap.size := (by have hzz := hb1.size; (try simp at hzz); omega); have K1 : Below w.heap.size w w1 := Below.trans (b := _) (by (repeat' (first | (with_reducible exact Below.refl _ _) | (with_reducible refine Below.alloc ?_ ?_ _) | (with_reducible refine Below.setCell ?_ ?_ _) | (with_reducible refine below_drewN ?_ _) | (simp; done) | omega | (simp; omega)))) (hb1.mono (by have hzz := hb1.size; (try simp at hzz); first | omega | (simp; done) | (simp; omega)))))
    refine bodyPost_ret (v := .tuple #[.agg #[.int .i64 0, .slice none 0 0, .bool false], .int .i64 1, .int .i64 0]) (by simp [results, Tryd.results29, go_sem, hc1, hf1, z1_0, Nat.lt_succ_of_lt z1_0, Nat.ne_of_lt z1_0, Nat.ne_of_gt z1_0, z1_1, Nat.lt_succ_of_lt z1_1, Nat.ne_of_lt z1_1, Nat.ne_of_gt z1_1]) rfl (TQ.nil ?_); (repeat' (first | (with_reducible exact Below.refl _ _) | (with_reducible exact K1) | (with_reducible exact K1.size) | (with_reducible refine Below.alloc ?_ ?_ _) | (with_reducible refine Below.setCell ?_ ?_ _) | (with_reducible refine below_drewN ?_ _) | (simp; done) | omega | (simp; omega)))
  · have g1 : (k == 0) = false := by simpa using hk
    by_cases hp : 0 < k
    · have g2 : decide (0 < k) = true := by simpa using hp
      cases eq
      · rw [if_pos (by rw [g1, g2]; rfl)]
        go_enter Tryd.func29, Tryd.ntmps29
        go_wp2_with (first | (go_at_call 25; (with_reducible refine (VL.out _ RA2).mono ?_); rintro e w1 ⟨rfl, hb1⟩; have hc1 := (Rg.bcell hb1).1; have hf1 := (Rg.bcell hb1).2; have z1_0 : w.heap.size < w1.heap.size := (by have hzz := hb1.size; (try simp at hzz); omega); have z1_1 : w.heap.size + 1 < w1.heap.size := (by have hzz := hb1.size; (try simp at hzz); omega); have K1 : Below w.heap.size w w1 := Below.trans (b := _) (by (repeat' (first | (with_reducible exact Below.refl _ _) | (with_reducible refine Below.alloc ?_ ?_ _) | (with_reducible refine Below.setCell ?_ ?_ _) | (with_reducible refine below_drewN ?_ _) | (simp; done) | omega | (simp; omega)))) (hb1.mono (by have hzz := hb1.size; (try simp at hzz); first | omega | (simp; done) | (simp; omega)))))
        refine bodyPost_ret (v := .tuple #[.agg #[.int .i64 0, .slice none 0 0, .bool false], .int .i64 1, .int .i64 0]) (by simp [results, Tryd.results29, go_sem, hc1, hf1, z1_0, Nat.lt_succ_of_lt z1_0, Nat.ne_of_lt z1_0, Nat.ne_of_gt z1_0, z1_1, Nat.lt_succ_of_lt z1_1, Nat.ne_of_lt z1_1, Nat.ne_of_gt z1_1]) rfl (TQ.nil ?_); (repeat' (first | (with_reducible exact Below.refl _ _) | (with_reducible exact K1) | (with_reducible exact K1.size) | (with_reducible refine Below.alloc ?_ ?_ _) | (with_reducible refine Below.setCell ?_ ?_ _) | (with_reducible refine below_drewN ?_ _) | (simp; done) | omega | (simp; omega)))
      · rw [if_neg (by rw [g1, g2]; decide)]
        go_enter Tryd.func29, Tryd.ntmps29
        go_wp2_with (first | (go_at_call 25; (with_reducible refine (VL.out _ RA2).mono ?_); rintro e w1 ⟨rfl, hb1⟩; have hc1 := (Rg.bcell hb1).1; have hf1 := (Rg.bcell hb1).2; have z1_0 : w.heap.size < w1.heap.size := (by have hzz := hb1.size; (try simp at hzz); omega); have z1_1 : w.heap.size + 1 < w1.heap.size := (by have hzz := hb1.size; (try simp at hzz); omega); have K1 : Below w.heap.size w w1 := Below.trans (b := _) (by (repeat' (first | (with_reducible exact Below.refl _ _) | (with_reducible refine Below.alloc ?_ ?_ _) | (with_reducible refine Below.setCell ?_ ?_ _) | (with_reducible refine below_drewN ?_ _) | (simp; done) | omega | (simp; omega)))) (hb1.mono (by have hzz := hb1.size; (try simp at hzz); first | omega | (simp; done) | (simp; omega)))) | (go_at_call 62; (with_reducible refine (NV.out _).mono ?_); rintro e w2 ⟨rfl, hb2⟩; have hc2 := (Rg.bcell hb2).1; have hf2 := (Rg.bcell hb2).2; have z2_0 : w.heap.size < w2.heap.size := (by have hzz := hb2.size; (try simp at hzz); omega); have z2_1 : w.heap.size + 1 < w2.heap.size := (by have hzz := hb2.size; (try simp at hzz); omega); have K2 : Below w.heap.size w w2 := Below.trans (b := _) (by (repeat' (first | (with_reducible exact Below.refl _ _) | (with_reducible exact K1) | (with_reducible exact K1.size) | (with_reducible refine Below.alloc ?_ ?_ _) | (with_reducible refine Below.setCell ?_ ?_ _) | (with_reducible refine below_drewN ?_ _) | (simp; done) | omega | (simp; omega)))) (hb2.mono (by have hzz := hb2.size; (try simp at hzz); first | omega | (simp; done) | (simp; omega)))))
        refine bodyPost_ret (v := .tuple #[.agg #[.int .i64 (-1), .slice none 0 0, .bool false], .int .i64 2, .int .i64 0]) (by simp [results, Tryd.results29, go_sem, hc1, hf1, hc2, hf2, z1_0, Nat.lt_succ_of_lt z1_0, Nat.ne_of_lt z1_0, Nat.ne_of_gt z1_0, z1_1, Nat.lt_succ_of_lt z1_1, Nat.ne_of_lt z1_1, Nat.ne_of_gt z1_1, z2_0, Nat.lt_succ_of_lt z2_0, Nat.ne_of_lt z2_0, Nat.ne_of_gt z2_0, z2_1, Nat.lt_succ_of_lt z2_1, Nat.ne_of_lt z2_1, Nat.ne_of_gt z2_1]) rfl (TQ.nil ?_); (repeat' (first | (with_reducible exact Below.refl _ _) | (with_reducible exact K1) | (with_reducible exact K1.size) | (with_reducible exact K2) | (with_reducible exact K2.size) | (with_reducible refine Below.alloc ?_ ?_ _) | (with_reducible refine Below.setCell ?_ ?_ _) | (with_reducible refine below_drewN ?_ _) | (simp; done) | omega | (simp; omega)))
    · have g2 : decide (0 < k) = false := by simpa using hp
      rw [if_neg (by rw [g1, g2]; simp)]
      clear hk hp
      go_enter Tryd.func29, Tryd.ntmps29
      go_wp2_with (first | (go_at_call 25; (with_reducible refine (VL.out _ RA2).mono ?_); rintro e w1 ⟨rfl, hb1⟩; have hc1 := (Rg.bcell hb1).1; have hf1 := (Rg.bcell hb1).2; have z1_0 : w.heap.size < w1.heap.size := (by have hzz := hb1.size; (try simp at hzz); omega); have z1_1 : w.heap.size + 1 < w1.heap.size := (by have hzz := hb1.size; (try simp at hzz); omega); have K1 : Below w.heap.size w w1 := Below.trans (b := _) (by (repeat' (first | (with_reducible exact Below.refl _ _) | (with_reducible refine Below.alloc ?_ ?_ _) | (with_reducible refine Below.setCell ?_ ?_ _) | (with_reducible refine below_drewN ?_ _) | (simp; done) | omega | (simp; omega)))) (hb1.mono (by have hzz := hb1.size; (try simp at hzz); first | omega | (simp; done) | (simp; omega)))) | (go_at_call 62; (with_reducible refine (NV.out _).mono ?_); rintro e w2 ⟨rfl, hb2⟩; have hc2 := (Rg.bcell hb2).1; have hf2 := (Rg.bcell hb2).2; have z2_0 : w.heap.size < w2.heap.size := (by have hzz := hb2.size; (try simp at hzz); omega); have z2_1 : w.heap.size + 1 < w2.heap.size := (by have hzz := hb2.size; (try simp at hzz); omega); have K2 : Below w.heap.size w w2 := Below.trans (b := _) (by (repeat' (first | (with_reducible exact Below.refl _ _) | (with_reducible exact K1) | (with_reducible exact K1.size) | (with_reducible refine Below.alloc ?_ ?_ _) | (with_reducible refine Below.setCell ?_ ?_ _) | (with_reducible refine below_drewN ?_ _) | (simp; done) | omega | (simp; omega)))) (hb2.mono (by have hzz := hb2.size; (try simp at hzz); first | omega | (simp; done) | (simp; omega)))))
      refine bodyPost_ret (v := .tuple #[.agg #[.int .i64 (-1), .slice none 0 0, .bool false], .int .i64 2, .int .i64 0]) (by simp [results, Tryd.results29, go_sem, hc1, hf1, hc2, hf2, z1_0, Nat.lt_succ_of_lt z1_0, Nat.ne_of_lt z1_0, Nat.ne_of_gt z1_0, z1_1, Nat.lt_succ_of_lt z1_1, Nat.ne_of_lt z1_1, Nat.ne_of_gt z1_1, z2_0, Nat.lt_succ_of_lt z2_0, Nat.ne_of_lt z2_0, Nat.ne_of_gt z2_0, z2_1, Nat.lt_succ_of_lt z2_1, Nat.ne_of_lt z2_1, Nat.ne_of_gt z2_1]) rfl (TQ.nil ?_); (repeat' (first | (with_reducible exact Below.refl _ _) | (with_reducible exact K1) | (with_reducible exact K1.size) | (with_reducible exact K2) | (with_reducible exact K2.size) | (with_reducible refine Below.alloc ?_ ?_ _) | (with_reducible refine Below.setCell ?_ ?_ _) | (with_reducible refine below_drewN ?_ _) | (simp; done) | omega | (simp; omega)))
end Go.Proofs.YtbicmlkjonaccaaDoor.Ln
