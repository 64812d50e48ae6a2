/- Linear forms: sums in 192 bits, the code. -/
import Derived.Test.YtbicmlkjonaccaaDoorJ3
import Derived.Laws.AppendOwn
import Derived.Laws.OwnMore
import Derived.OneCell
import Derived.Deep.Onto
import Derived.Test.YtbicmlkjonaccaaDoorJ1

namespace Go.Proofs.YtbicmlkjonaccaaDoor.Ln
open Go.ChangeShapes Go.WideShapes Go.ChangeAt Go.RowKit
set_option linter.unusedVariables false
set_option linter.unusedSimpArgs false
theorem u64w (n : Int) : IntKind.u64.wrap n = n % 18446744073709551616 := by simp [IntKind.wrap, IntKind.bits, IntKind.signed]
def addS (x y c : Int) : Int := (x + y + c) % 18446744073709551616
def addC (x y c : Int) : Int := (x + y + c) / 18446744073709551616
theorem addG (x y c : Int) (hx : 0 ≤ x ∧ x < 18446744073709551616) (hy : 0 ≤ y ∧ y < 18446744073709551616) (hc : 0 ≤ c ∧ c ≤ 1) (w : World) : (callFunc 112 #[.int .u64 x, .int .u64 y, .int .u64 c]).run Tryd.prog w = .ok (.value (.tuple #[.int .u64 (addS x y c), .int .u64 (addC x y c)])) w := by
  rw [run_callFunc_extern Tryd.func112 (by kernel_rfl) (by kernel_rfl) (by kernel_rfl) (e := add64Entry) (by kernel_rfl), run_add64 x y c hx.1 hy.1 hc.1 hc.2]
  rfl
theorem mulG (x y : Int) (hx : 0 ≤ x ∧ x < 18446744073709551616) (hy : 0 ≤ y ∧ y < 18446744073709551616) (w : World) : Calls Tryd.prog 111 #[.int .u64 x, .int .u64 y] w fun e w' => e = .returned (.tuple #[.int .u64 (x * y / 18446744073709551616), .int .u64 (x * y % 18446744073709551616)]) ∧ w = w' := by
  obtain ⟨n, rfl⟩ := Int.eq_ofNat_of_zero_le hx.1
  obtain ⟨m, rfl⟩ := Int.eq_ofNat_of_zero_le hy.1
  refine (Tryd.bits_Mul64 n m (by omega) (by omega) w).mono ?_
  rintro e w' ⟨rfl, rfl⟩
  exact ⟨by rw [Int.natCast_ediv, Int.natCast_emod, Int.natCast_mul]; rfl, rfl⟩
set_option maxRecDepth 100000 in
set_option maxHeartbeats 8000000 in
theorem waddT (g : Nat) (x0 x1 x2 a b A B H H1 H2 L : Int) (w : World) (hA : IntKind.u64.wrap a = A) (hB : IntKind.u64.wrap b = B)
    (C1 : Hid (∀ w, Calls Tryd.prog 111 #[.int .u64 A, .int .u64 B] w fun e w' => e = .returned (.tuple #[.int .u64 H, .int .u64 L]) ∧ w = w'))
    (e1 : Hid (a < 0 → IntKind.u64.wrap (H - B) = H1)) (e1' : Hid (¬ a < 0 → H = H1)) (e2 : Hid (b < 0 → IntKind.u64.wrap (H1 - A) = H2)) (e2' : Hid (¬ b < 0 → H1 = H2))
    (a0 : w.cell? ⟨g, 0, none⟩ = some (.int .u64 x2)) (a1 : w.cell? ⟨g, 1, none⟩ = some (.int .u64 x1)) (a2 : w.cell? ⟨g, 2, none⟩ = some (.int .u64 x0)) (z0 : w.frozen? ⟨g, 0, none⟩ = false) (z1 : w.frozen? ⟨g, 1, none⟩ = false) (z2 : w.frozen? ⟨g, 2, none⟩ = false) 
    (y0 c0 y1 c1 y2 c2 S : Int) (hS : IntKind.u64.wrap (wrap64 H2 / 9223372036854775808) = S)
    (D0 : ∀ w, (callFunc 112 #[.int .u64 x0, .int .u64 L, .int .u64 0]).run Tryd.prog w = .ok (.value (.tuple #[.int .u64 y0, .int .u64 c0])) w)
    (D1 : ∀ w, (callFunc 112 #[.int .u64 x1, .int .u64 H2, .int .u64 c0]).run Tryd.prog w = .ok (.value (.tuple #[.int .u64 y1, .int .u64 c1])) w)
    (D2 : ∀ w, (callFunc 112 #[.int .u64 x2, .int .u64 S, .int .u64 c1]).run Tryd.prog w = .ok (.value (.tuple #[.int .u64 y2, .int .u64 c2])) w) :
    Calls Tryd.prog 80 #[.pointer (some ⟨g, 0, none⟩), .int .i64 a, .int .i64 b] w fun e w' => e = .returned (.tuple #[]) ∧ w' = ((w.setCell ⟨g, 2, none⟩ (.int .u64 y0)).setCell ⟨g, 1, none⟩ (.int .u64 y1)).setCell ⟨g, 0, none⟩ (.int .u64 y2) := by
  by_cases ha : a < 0
  · have f1 := e1.out ha
    by_cases hb : b < 0
    · have f2 := e2.out hb
      go_enter Tryd.func80, Tryd.ntmps80
      go_wp2_with fail
      refine (C1.out _).mono ?_
      rintro e w' ⟨rfl, rfl⟩
      go_wp2
      go_end0
      exact ⟨rfl, rfl⟩
    · obtain rfl := e2'.out hb
      go_enter Tryd.func80, Tryd.ntmps80
      go_wp2_with fail
      refine (C1.out _).mono ?_
      rintro e w' ⟨rfl, rfl⟩
      go_wp2
      go_end0
      exact ⟨rfl, rfl⟩
  · obtain rfl := e1'.out ha
    by_cases hb : b < 0
    · have f2 := e2.out hb
      go_enter Tryd.func80, Tryd.ntmps80
      go_wp2_with fail
      refine (C1.out _).mono ?_
      rintro e w' ⟨rfl, rfl⟩
      go_wp2
      go_end0
      exact ⟨rfl, rfl⟩
    · obtain rfl := e2'.out hb
      go_enter Tryd.func80, Tryd.ntmps80
      go_wp2_with fail
      refine (C1.out _).mono ?_
      rintro e w' ⟨rfl, rfl⟩
      go_wp2
      go_end0
      exact ⟨rfl, rfl⟩
theorem sgn {X : Int} (h1 : -85070591730234615865843651857942052864 ≤ X) (h2 : X ≤ 85070591730234615865843651857942052864) : IntKind.u64.wrap (wrap64 (l1 X) / 9223372036854775808) = l2 X := by
  have hb := l_bd X
  rw [← sg_eq h1 h2, u64w]
  unfold wrap64
  split <;> omega
theorem hbd {A B : Int} (a0 : 0 ≤ A) (a1 : A < 18446744073709551616) (b0 : 0 ≤ B) (b1 : B < 18446744073709551616) : 0 ≤ A * B / 18446744073709551616 ∧ A * B / 18446744073709551616 < 18446744073709551616 := by
  have h1 : A * B ≤ 18446744073709551615 * B := Int.mul_le_mul_of_nonneg_right (by omega) b0
  have h0 : 0 ≤ A * B := Int.mul_nonneg a0 b0
  generalize A * B = P at *
  omega
theorem modd (h c d : Int) : ((h - c) % 18446744073709551616 - d) % 18446744073709551616 = (h - c - d) % 18446744073709551616 := by omega
theorem waddG (g : Nat) (V a b : Int) (w : World) (ha1 : -9223372036854775808 ≤ a) (ha2 : a ≤ 9223372036854775807) (hb1 : -9223372036854775808 ≤ b) (hb2 : b ≤ 9223372036854775807)
    (a0 : w.cell? ⟨g, 0, none⟩ = some (.int .u64 (l2 V))) (a1 : w.cell? ⟨g, 1, none⟩ = some (.int .u64 (l1 V))) (a2 : w.cell? ⟨g, 2, none⟩ = some (.int .u64 (l0 V))) (z0 : w.frozen? ⟨g, 0, none⟩ = false) (z1 : w.frozen? ⟨g, 1, none⟩ = false) (z2 : w.frozen? ⟨g, 2, none⟩ = false) :
    Calls Tryd.prog 80 #[.pointer (some ⟨g, 0, none⟩), .int .i64 a, .int .i64 b] w fun e w' => e = .returned (.tuple #[]) ∧ w' = ((w.setCell ⟨g, 2, none⟩ (.int .u64 (l0 (V + a * b)))).setCell ⟨g, 1, none⟩ (.int .u64 (l1 (V + a * b)))).setCell ⟨g, 0, none⟩ (.int .u64 (l2 (V + a * b))) := by
  have hp := prod_bd ha1 ha2 hb1 hb2
  have lo := lo_eq ha1 ha2 hb1 hb2
  have hi := hi_eq ha1 ha2 hb1 hb2
  have bV := l_bd V
  have bX := l_bd (a * b)
  have A0 := l0_add V (a * b)
  have A1 := l1_add V (a * b)
  have A2 := l2_add V (a * b)
  have hS := sgn hp.1 hp.2
  generalize a * b = X at *
  have c0 : addC (l0 V) (l0 X) 0 = (l0 V + l0 X) / 18446744073709551616 := by unfold addC; rw [Int.add_zero]
  have c1 : addC (l1 V) (l1 X) (addC (l0 V) (l0 X) 0) = (l1 V + l1 X + (l0 V + l0 X) / 18446744073709551616) / 18446744073709551616 := by rw [c0]; rfl
  have s0 : addS (l0 V) (l0 X) 0 = l0 (V + X) := by unfold addS; rw [Int.add_zero, A0]
  have s1 : addS (l1 V) (l1 X) (addC (l0 V) (l0 X) 0) = l1 (V + X) := by rw [c0]; unfold addS; rw [A1]
  have s2 : addS (l2 V) (l2 X) (addC (l1 V) (l1 X) (addC (l0 V) (l0 X) 0)) = l2 (V + X) := by rw [c1]; unfold addS; rw [A2]
  have D0 := addG (l0 V) (l0 X) 0 bV.1 bX.1 (by omega)
  have D1 := addG (l1 V) (l1 X) (addC (l0 V) (l0 X) 0) bV.2.1 bX.2.1 (by rw [c0]; omega)
  have D2 := addG (l2 V) (l2 X) (addC (l1 V) (l1 X) (addC (l0 V) (l0 X) 0)) bV.2.2 bX.2.2 (by rw [c1]; omega)
  rw [s0] at D0
  rw [s1] at D1
  rw [s2] at D2
  refine waddT g (l0 V) (l1 V) (l2 V) a b (a % 18446744073709551616) (b % 18446744073709551616) (a % 18446744073709551616 * (b % 18446744073709551616) / 18446744073709551616)
    ((a % 18446744073709551616 * (b % 18446744073709551616) / 18446744073709551616 - (if a < 0 then b % 18446744073709551616 else 0)) % 18446744073709551616) (l1 X) (l0 X) w (u64w a) (u64w b) (Lib.hid ?_) (Lib.hid ?_) (Lib.hid ?_) (Lib.hid ?_) (Lib.hid ?_) a0 a1 a2 z0 z1 z2 _ _ _ _ _ _ _ hS D0 D1 D2
  · intro w
    rw [← lo]
    exact mulG _ _ ⟨Int.emod_nonneg _ (by decide), Int.emod_lt_of_pos _ (by decide)⟩ ⟨Int.emod_nonneg _ (by decide), Int.emod_lt_of_pos _ (by decide)⟩ w
  · intro h
    rw [u64w, if_pos h]
  · intro h
    have hh := hbd (A := a % 18446744073709551616) (B := b % 18446744073709551616) (Int.emod_nonneg _ (by decide)) (Int.emod_lt_of_pos _ (by decide)) (Int.emod_nonneg _ (by decide)) (Int.emod_lt_of_pos _ (by decide))
    rw [if_neg h, Int.sub_zero, Int.emod_eq_of_lt hh.1 hh.2]
  · intro h
    rw [u64w, ← hi, if_pos h, modd]
  · intro h
    rw [← hi, if_neg h, Int.sub_zero]
set_option maxRecDepth 100000 in
set_option maxHeartbeats 8000000 in
theorem wfitT (g : Nat) (x0 x1 x2 S : Int) (q1 q2 : Bool) (w : World) (hS : IntKind.u64.wrap (wrap64 x0 / 9223372036854775808) = S) (h1 : (x1 == S) = q1) (h2 : (x2 == S) = q2)
    (a0 : w.cell? ⟨g, 0, none⟩ = some (.int .u64 x2)) (a1 : w.cell? ⟨g, 1, none⟩ = some (.int .u64 x1)) (a2 : w.cell? ⟨g, 2, none⟩ = some (.int .u64 x0)) :
    Calls Tryd.prog 83 #[.pointer (some ⟨g, 0, none⟩)] w fun e w' => e = .returned (.bool (q1 && q2)) ∧ ∃ n, w' = w.drewN n := by
  cases q1 <;> cases q2
  all_goals
    go_enter Tryd.func83, Tryd.ntmps83
    go_wp2
    go_ret
    first | exact ⟨rfl, 0, rfl⟩ | exact ⟨rfl, 1, rfl⟩
end Go.Proofs.YtbicmlkjonaccaaDoor.Ln


namespace Go.Proofs.YtbicmlkjonaccaaDoor.Ln
open Go.ChangeShapes Go.WideShapes Go.ChangeAt Go.RowKit
set_option linter.unusedVariables false
set_option linter.unusedSimpArgs false
theorem sgn0 {x : Int} (h0 : 0 ≤ x) (h1 : x < 18446744073709551616) : IntKind.u64.wrap (wrap64 x / 9223372036854775808) = if x < 9223372036854775808 then 0 else 18446744073709551615 := by
  rw [u64w]
  unfold wrap64
  split <;> omega
theorem wfitG (g : Nat) (V : Int) (w : World) (h1 : -1569275433846670190958947355801916604025588861116008628224 ≤ V) (h2 : V ≤ 1569275433846670190958947355801916604025588861116008628224)
    (a0 : w.cell? ⟨g, 0, none⟩ = some (.int .u64 (l2 V))) (a1 : w.cell? ⟨g, 1, none⟩ = some (.int .u64 (l1 V))) (a2 : w.cell? ⟨g, 2, none⟩ = some (.int .u64 (l0 V))) :
    Calls Tryd.prog 83 #[.pointer (some ⟨g, 0, none⟩)] w fun e w' => e = .returned (.bool (fit64 V)) ∧ ∃ n, w' = w.drewN n := by
  have hb := l_bd V
  have hi := fits_iff h1 h2
  refine (wfitT g (l0 V) (l1 V) (l2 V) _ _ _ w (sgn0 hb.1.1 hb.1.2) rfl rfl a0 a1 a2).mono ?_
  rintro e w' ⟨rfl, hn⟩
  refine ⟨?_, hn⟩
  rw [show fit64 V = ((l1 V == (if l0 V < 9223372036854775808 then 0 else 18446744073709551615)) && (l2 V == (if l0 V < 9223372036854775808 then 0 else 18446744073709551615))) from ?_]
  rw [Bool.eq_iff_iff, fit_yes, Bool.and_eq_true, beq_iff_eq, beq_iff_eq]
  exact hi.symm
theorem grown_of {w w2 : World} {a : Addr} {v : Value} (h : Below w.heap.size w w2) : w.grownBy (w2.setCell a v) (some a.block) :=
  ⟨h.os, h.tape, h.output, by rw [World.size_setCell]; exact h.size, fun k hk hne => (Below.heap_setCell w2 a v k (fun e => hne (by rw [e]))).trans (h.block k hk)⟩
def TW (x by' : Int) (f : Bool) (gf : Nat) (w : World) (e : Ending) (w' : World) : Prop :=
  e = .returned (.int .i64 (wrap64 (x * by'))) ∧ w.grownBy w' (some gf) ∧ w'.cell? ⟨gf, 0, none⟩ = some (.bool (f && fit64 (x * by'))) ∧ w'.frozen? ⟨gf, 0, none⟩ = false
set_option maxRecDepth 100000 in
set_option maxHeartbeats 8000000 in
theorem times1 (x by' : Int) (f : Bool) (gb gf : Nat) (w : World) (x1 : -9223372036854775808 ≤ x) (x2 : x ≤ 9223372036854775807) (b1 : -9223372036854775808 ≤ by') (b2 : by' ≤ 9223372036854775807)
    (hb : w.cell? ⟨gb, 0, none⟩ = some (.int .i64 by')) (hf : w.cell? ⟨gf, 0, none⟩ = some (.bool f)) (hz : w.frozen? ⟨gf, 0, none⟩ = false) (hne : gb ≠ gf) (hne' : gf ≠ gb) :
    Calls Tryd.prog 95 #[.int .i64 x, .pointer (some ⟨gb, 0, none⟩), .pointer (some ⟨gf, 0, none⟩)] w (TW x by' f gf w) := by
  have hg : gf < w.heap.size := by have := World.block_lt_of_cell? w _ hf; simpa using this
  have hgb : gb < w.heap.size := by have := World.block_lt_of_cell? w _ hb; simpa using this
  have C1 := Lib.hid fun (w1 : World) (g : Nat) h0 h1 h2 z0 z1 z2 => waddG g 0 x by' w1 x1 x2 b1 b2 h0 h1 h2 z0 z1 z2
  have C2 := Lib.hid fun (w1 : World) (g : Nat) h0 h1 h2 => wfitG g (x * by') w1 (by have := prod_bd x1 x2 b1 b2; omega) (by have := prod_bd x1 x2 b1 b2; omega) h0 h1 h2
  rw [Int.zero_add, show l2 0 = 0 from rfl, show l1 0 = 0 from rfl, show l0 0 = 0 from rfl] at C1
  have B0 : Below w.heap.size w (w.alloc (Obj.cells #[Value.int .u64 0, Value.int .u64 0, Value.int .u64 0] 102)) := (Below.refl _ _).alloc (Nat.le_refl _) _
  have f1 := kp B0 hgb hb
  go_enter Tryd.func95, Tryd.ntmps95
  go_wp2_with fail
  have hfz := (B0.frozen (p := ⟨gf, 0, none⟩) hg).trans hz
  have f2 := kp B0 hg hf
  refine (C1.out (w.alloc (Obj.cells #[Value.int .u64 0, Value.int .u64 0, Value.int .u64 0] 102)) w.heap.size (by go_cell) (by go_cell) (by go_cell) (by first | go_cell | simp) (by first | go_cell | simp) (by first | go_cell | simp)).mono ?_
  rintro e w2 ⟨rfl, h2⟩
  have r0 : w2.cell? ⟨w.heap.size, 0, none⟩ = some (.int .u64 (l2 (x * by'))) := by rw [h2]; go_cell
  have r1 : w2.cell? ⟨w.heap.size, 1, none⟩ = some (.int .u64 (l1 (x * by'))) := by rw [h2]; go_cell
  have r2 : w2.cell? ⟨w.heap.size, 2, none⟩ = some (.int .u64 (l0 (x * by'))) := by rw [h2]; go_cell
  have K2 : Below w.heap.size w w2 := by
    rw [h2]
    exact ((B0.setCell (p := ⟨w.heap.size, 2, none⟩) (Nat.le_refl _) _).setCell (p := ⟨w.heap.size, 1, none⟩) (Nat.le_refl _) _).setCell (p := ⟨w.heap.size, 0, none⟩) (Nat.le_refl _) _
  have C3 := Lib.hid (C2.out w2 w.heap.size r0 r1 r2)
  clear h2 f1 f2 hfz B0 r0 r1 r2 C1 C2
  have f1 := kp K2 hgb hb
  have f2 := kp K2 hg hf
  have hfz := (K2.frozen (p := ⟨gf, 0, none⟩) hg).trans hz
  obtain ⟨v, hv⟩ : ∃ v, fit64 (x * by') = v := ⟨_, rfl⟩
  rw [hv] at C3
  have HV := Lib.hid hv
  clear hv
  cases f
  · go_wp2
    go_ret
    exact ⟨rfl, grown_of (a := ⟨gf, 0, none⟩) K2, by go_cell, by first | go_cell | simp [World.frozen?_setCell, hfz]⟩
  · go_wp2_with (first | (go_at_call 83; refine C3.out.mono ?_; rintro e w3 ⟨rfl, n, rfl⟩))
    go_ret
    exact ⟨rfl, grown_of (a := ⟨gf, 0, none⟩) (below_drewN K2 n), by rw [HV.out, Bool.true_and]; go_cell, by first | go_cell | simp [World.frozen?_setCell, hfz]⟩
/-- Cells of blocks of the call's own. -/
def Cl (L : List (Nat × Nat × Value)) (u : World) : Prop := ∀ b o v, (b, o, v) ∈ L → u.cell? ⟨b, o, none⟩ = some v ∧ u.frozen? ⟨b, o, none⟩ = false
theorem lt_of_cell {u : World} {b o : Nat} {v : Value} (h : u.cell? ⟨b, o, none⟩ = some v) : b < u.heap.size := by have := World.block_lt_of_cell? u _ h; simpa using this
theorem Cl.below {L : List (Nat × Nat × Value)} {u u' : World} (h : Cl L u) (hb : Below u.heap.size u u') : Cl L u' := fun b o v hm => by
  obtain ⟨h1, h2⟩ := h b o v hm
  have := lt_of_cell h1
  exact ⟨(hb.cell (p := ⟨b, o, none⟩) this).trans h1, (hb.frozen (p := ⟨b, o, none⟩) this).trans h2⟩
theorem Cl.grown {L : List (Nat × Nat × Value)} {u u' : World} {r : Option Nat} (h : Cl L u) (hg : u.grownBy u' r) (hne : ∀ x ∈ L, some x.1 ≠ r) : Cl L u' := fun b o v hm => by
  obtain ⟨h1, h2⟩ := h b o v hm
  have hb := hg.block b (lt_of_cell h1) (hne _ hm)
  exact ⟨(World.cell?_of_block (a := ⟨b, o, none⟩) hb).trans h1, (World.frozen?_of_block (a := ⟨b, o, none⟩) hb).trans h2⟩
theorem Cl.far {L : List (Nat × Nat × Value)} {u : World} {a : Addr} {x : Value} (h : Cl L u) (hne : ∀ y ∈ L, y.1 ≠ a.block) : Cl L (u.setCell a x) := fun b o v hm => by
  obtain ⟨h1, h2⟩ := h b o v hm
  have hb := Below.heap_setCell u a x b (hne _ hm)
  exact ⟨(World.cell?_of_block (a := ⟨b, o, none⟩) hb).trans h1, (World.frozen?_of_block (a := ⟨b, o, none⟩) hb).trans h2⟩
theorem Cl.drewN {L : List (Nat × Nat × Value)} {u : World} (h : Cl L u) (n : Nat) : Cl L (u.drewN n) := fun b o v hm => h b o v hm
theorem Cl.drew {L : List (Nat × Nat × Value)} {u : World} (h : Cl L u) : Cl L u.drew := fun b o v hm => h b o v hm
theorem Cl.nil (u : World) : Cl [] u := fun _ _ _ h => by cases h
theorem Cl.cons {L : List (Nat × Nat × Value)} {u : World} {b o : Nat} {v : Value} (h1 : u.cell? ⟨b, o, none⟩ = some v) (h2 : u.frozen? ⟨b, o, none⟩ = false) (h : Cl L u) : Cl ((b, o, v) :: L) u := fun b' o' v' hm => by
  rcases List.mem_cons.1 hm with e | e
  · cases e; exact ⟨h1, h2⟩
  · exact h _ _ _ e
theorem Cl.head {L : List (Nat × Nat × Value)} {u : World} {b o : Nat} {v : Value} (h : Cl ((b, o, v) :: L) u) : u.cell? ⟨b, o, none⟩ = some v := (h b o v (by simp)).1
theorem Cl.headF {L : List (Nat × Nat × Value)} {u : World} {b o : Nat} {v : Value} (h : Cl ((b, o, v) :: L) u) : u.frozen? ⟨b, o, none⟩ = false := (h b o v (by simp)).2
theorem Cl.tail {L : List (Nat × Nat × Value)} {u : World} {x : Nat × Nat × Value} (h : Cl (x :: L) u) : Cl L u := fun b o v hm => h b o v (List.mem_cons_of_mem _ hm)
theorem Cl.sub {L L' : List (Nat × Nat × Value)} {u : World} (h : Cl L u) (hs : ∀ x ∈ L', x ∈ L) : Cl L' u := fun b o v hm => h b o v (hs _ hm)
theorem Cl.append {L L' : List (Nat × Nat × Value)} {u : World} (h : Cl L u) (h' : Cl L' u) : Cl (L ++ L') u := fun b o v hm => (List.mem_append.1 hm).elim (h b o v) (h' b o v)
theorem own_ne {u : World} {base : Nat} {E : TypeId} {sz n : Nat} {v : Value} {xs : List Value} {g : Nat} (h : u.ownsRow base E sz v n xs) (hg : g < base) : v.ownBlock = none ∨ v.ownBlock ≠ some g := by
  cases hb : v.ownBlock with
  | none => exact .inl rfl
  | some q => exact .inr (fun e => by cases e; have := (h.lt _ hb).1; omega)
theorem Cl.own {L : List (Nat × Nat × Value)} {u u' : World} {base : Nat} {E : TypeId} {sz n : Nat} {v : Value} {xs : List Value} (h : Cl L u) (hO : u.ownsRow base E sz v n xs) (hg : u.grownBy u' v.ownBlock) (hL : ∀ x ∈ L, x.1 < base) : Cl L u' :=
  h.grown hg (fun x hx e => by have := (hO.lt _ e.symm).1; have := hL x hx; omega)
theorem grown_set {u : World} {a : Addr} {v : Value} : u.grownBy (u.setCell a v) (some a.block) := grown_of (Below.refl _ _)
theorem own_set {u : World} {base : Nat} {E : TypeId} {sz n : Nat} {v : Value} {xs : List Value} {a : Addr} {y : Value} (h : u.ownsRow base E sz v n xs) (ha : a.block < base) : (u.setCell a y).ownsRow base E sz v n xs := h.kept grown_set (own_ne h ha)
theorem own_slice {u : World} {base : Nat} {E : TypeId} {sz n : Nat} {v : Value} {xs : List Value} (h : u.ownsRow base E sz v n xs) : ∃ q c, v = .slice q n c := by
  rcases h.2 with ⟨rfl, hn⟩ | ⟨g, cap, cur, rfl, _⟩
  · exact ⟨none, 0, by rw [hn]⟩
  · exact ⟨_, _, rfl⟩
theorem below_grown {B : Nat} {w u u' : World} {r : Option Nat} (h : Below B w u) (hg : u.grownBy u' r) (hB : B ≤ u.heap.size) (hr : ∀ k, r = some k → B ≤ k) : Below B w u' := h.grown hg hB hr
/-- Monomials in a row of the call's own. -/
def moC (m : Mo) : List Value := [.string m.1, .int .i64 m.2]
def moCs (l : List Mo) : List Value := l.flatMap moC
theorem moCs_len (l : List Mo) : (moCs l).length = l.length * 2 := by
  induction l with
  | nil => rfl
  | cons t ts ih => unfold moCs at ih ⊢; rw [List.flatMap_cons, List.length_append, ih, List.length_cons]; show 2 + _ = _; omega
theorem moCs_snoc (l : List Mo) (m : Mo) : moCs (l ++ [m]) = moCs l ++ moC m := by unfold moCs; rw [List.flatMap_append]; simp
theorem moCs_get : ∀ (l : List Mo) (i : Nat), i < l.length → (moCs l)[i * 2]? = some (.string (l.getD i mo0).1) ∧ (moCs l)[i * 2 + 1]? = some (.int .i64 (l.getD i mo0).2)
  | [], i, h => absurd h (by simp)
  | m :: l, 0, h => ⟨rfl, rfl⟩
  | m :: l, i + 1, h => by
    obtain ⟨h1, h2⟩ := moCs_get l i (by simpa using h)
    unfold moCs at h1 h2 ⊢
    rw [List.flatMap_cons]
    have e1 : (i + 1) * 2 = (i * 2 + 1) + 1 := by omega
    have e2 : (i + 1) * 2 + 1 = (i * 2 + 1 + 1) + 1 := by omega
    refine ⟨?_, ?_⟩
    · rw [e1]; show (_ :: _ :: _)[_]? = _; rw [List.getElem?_cons_succ, List.getElem?_cons_succ]; exact h1
    · rw [e2]; show (_ :: _ :: _)[_]? = _; rw [List.getElem?_cons_succ, List.getElem?_cons_succ]; exact h2
theorem addr_add (g k : Nat) : (⟨g, 0, none⟩ : Addr).add k = ⟨g, k, none⟩ := by
  unfold Addr.add
  split <;> simp_all
theorem own_sl {w : World} {base : Nat} {v : Value} {l : List Mo} (h : w.ownsRow base 59 2 v l.length (moCs l)) : ∃ p c, v = .slice p l.length c ∧ SlM w p l := by
  obtain ⟨h1, h2⟩ := h
  rcases h2 with ⟨rfl, hn⟩ | ⟨g, cap, cur, rfl, hb, hh, hc, hm, hs, ht⟩
  · exact ⟨none, 0, by rw [hn], fun i hi => absurd hi (by omega)⟩
  · refine ⟨some ⟨g, 0, none⟩, cap, rfl, fun i hi => ⟨g, 0, rfl, ?_⟩⟩
    have hO : w.ownsRow base 59 2 (.slice (some ⟨g, 0, none⟩) l.length cap) l.length (moCs l) := ⟨h1, .inr ⟨g, cap, cur, rfl, hb, hh, hc, hm, hs, ht⟩⟩
    obtain ⟨c1, c2⟩ := moCs_get l i hi
    have d1 := hO.cells (g := g) rfl _ _ c1
    have d2 := hO.cells (g := g) rfl _ _ c2
    rw [addr_add] at d1 d2
    exact ⟨by rw [Nat.zero_add]; exact d1, by rw [Nat.zero_add]; exact d2⟩
theorem own_sl' {w : World} {base n : Nat} {v : Value} {l : List Mo} (h : w.ownsRow base 59 2 v n (moCs l)) (hn : n = l.length) : ∃ p c, v = .slice p n c ∧ SlM w p l := by
  subst hn
  exact own_sl h
theorem SlM.below {w u : World} {p : Option Addr} {xs : List Mo} (h : SlM w p xs) (hb : Below w.heap.size w u) : SlM u p xs := SlM.keep hb h
def LR (k : Int) (ys : List Mo) (er : Int) (w : World) (e : Ending) (w' : World) : Prop := ∃ p c, e = .returned (.tuple #[Lv k p ys.length c, .int .i64 er]) ∧ SlM w' p ys ∧ Below w.heap.size w w'
theorem LR.zero {er : Int} {w w' : World} {e : Ending} (h : e = .returned (.tuple #[.agg #[.int .i64 0, .slice none 0 0], .int .i64 er])) (hb : Below w.heap.size w w') : LR 0 [] er w e w' := ⟨none, 0, h, fun i hi => absurd hi (by simp), hb⟩
theorem infoMo : (Tryd.prog.info? 59).map (fun i => (i.zero, i.size, i.bytes)) = some (some (.agg #[.string ⟨#[]⟩, .int .i64 0]), 2, 24) := by kernel_rfl
end Go.Proofs.YtbicmlkjonaccaaDoor.Ln


namespace Go.Proofs.YtbicmlkjonaccaaDoor.Rk
open Go.ChangeShapes Go.WideShapes Go.ChangeAt Go.RowKit
set_option linter.unusedVariables false
set_option linter.unusedSimpArgs false

section
variable {P : Program} {ops : Array Oper} {Q : Exit → Act → World → Prop} {md : Region.Mode} {S : World → Prop} {K : Nat}
/-- Operation K has not come up. -/
def Un (K : Nat) (listed : Array Bool) : Prop := listed.getD K true = false
/-- Whatever order is picked, S holds as long as operation K has not come up. -/
def wpK (P : Program) (md : Region.Mode) (ops : Array Oper) (Q : Exit → Act → World → Prop) (S : World → Prop) (K : Nat) : Nat → Array Bool → Act → World → Prop
  | 0, listed, a, w => Region.ready md ops listed = [] ∧ Q .normal a w
  | fuel + 1, listed, a, w =>
    (Region.ready md ops listed = [] → Q .normal a w) ∧
    ∀ i ∈ Region.ready md ops listed, wpOp P ops Q i (fun a' w' => (Un K (listed.setIfInBounds i true) → S w') ∧ wpK P md ops Q S K fuel (listed.setIfInBounds i true) a' w') a w
theorem wpAny_of : ∀ (fuel : Nat) (listed : Array Bool) (a : Act) (w : World), wpK P md ops Q S K fuel listed a w → wpAny P md ops Q fuel listed a w
  | 0, _, _, _, h => h
  | fuel + 1, _, _, _, h => ⟨h.1, fun i hi => wpOp_mono (fun a' w' h' => wpAny_of fuel _ a' w' h'.2) (h.2 i hi)⟩
def waits (md : Region.Mode) (ops : Array Oper) (j i : Nat) : Bool :=
  match ops.toList[j]? with
  | some o => o.after.any fun e => Region.binds md e && e.on == i
  | none => false
/-- None of them has come up, and each waits for the one before it. -/
def chain (md : Region.Mode) (ops : Array Oper) (listed : Array Bool) : List Nat → Bool
  | [] => true
  | [i] => !(listed.getD i true)
  | i :: j :: r => !(listed.getD i true) && waits md ops j i && chain md ops listed (j :: r)
theorem waits_ready {i j : Nat} {listed : Array Bool} (h : waits md ops j i = true) (hu : listed.getD i true = false) : j ∉ Region.ready md ops listed := by
  intro hj
  obtain ⟨_, o, ho, hall⟩ := mem_ready.1 hj
  unfold waits at h
  rw [Array.getElem?_toList, ho] at h
  simp only at h
  rw [Array.any_eq_true] at h
  obtain ⟨k, hk, he⟩ := h
  rw [Bool.and_eq_true, beq_iff_eq] at he
  have := hall _ (Array.getElem_mem hk) he.1
  rw [he.2] at this
  rcases Nat.lt_or_ge i listed.size with h' | h'
  · simp [h'] at hu this; rw [hu] at this; cases this
  · simp [Array.getElem?_eq_none h'] at hu
theorem chain_step {j : Nat} {listed : Array Bool} (hj : j ∈ Region.ready md ops listed) : ∀ (i : Nat) (cs : List Nat), j ≠ i → chain md ops listed (i :: cs) = true → chain md ops (listed.setIfInBounds j true) (i :: cs) = true
  | i, [], hne, h => by
    unfold chain at h ⊢
    rw [Bool.not_eq_true'] at h ⊢
    rw [getD_set_ne true hne]; exact h
  | i, c :: r, hne, h => by
    unfold chain at h ⊢
    rw [Bool.and_eq_true, Bool.and_eq_true, Bool.not_eq_true'] at h ⊢
    obtain ⟨⟨h1, h2⟩, h3⟩ := h
    have hc : j ≠ c := fun he => waits_ready h2 h1 (he ▸ hj)
    exact ⟨⟨by rw [getD_set_ne true hne]; exact h1, h2⟩, chain_step hj c r hc h3⟩
theorem chain_un {listed : Array Bool} : ∀ (i : Nat) (cs : List Nat), chain md ops listed (i :: cs) = true → ∀ c ∈ i :: cs, Un c listed
  | i, [], h, c, hc => by
    rw [List.mem_singleton] at hc
    subst hc
    unfold chain at h
    unfold Un
    simpa using h
  | i, d :: r, h, c, hc => by
    unfold chain at h
    rw [Bool.and_eq_true, Bool.and_eq_true, Bool.not_eq_true'] at h
    rcases List.mem_cons.1 hc with rfl | hc
    · exact h.1.1
    · exact chain_un d r h.2 c hc
theorem not_on {i : Nat} {listed : Array Bool} {oj : Oper} (hr : i ∈ Region.ready md ops listed) (hall : ∀ e ∈ oj.after, Region.binds md e = true → listed.getD e.on false = true) : ∀ e ∈ oj.after, Region.binds md e = true → e.on ≠ i := fun e he hb heq => by
  have h1 := hall e he hb
  have h0 := (mem_ready.1 hr).1
  rw [heq] at h1
  rcases Nat.lt_or_ge i listed.size with h' | h'
  · simp [h'] at h0 h1; rw [h0] at h1; cases h1
  · simp [Array.getElem?_eq_none h'] at h0
theorem first {i : Nat} {oi : Oper} {v : Value} {cs : List Nat} (hi : ops[i]? = some oi) (hsel : ∀ (j : Nat) (o : Oper) cs b, ops[j]? = some o → o.op ≠ .select cs b)
    (hT : K ∈ cs) (hiK : i ≠ K)
    (hQ : ∀ c a w, Q (.panic c) (a.put oi.dst v) w → Q (.panic c) a w) :
    ∀ (fuel : Nat) (listed : Array Bool) (a : Act) (w : World), chain md ops listed (i :: cs) = true →
      (∀ j oj, ops[j]? = some oj → j ≠ i → listed.getD j true = false → (∀ e ∈ oj.after, Region.binds md e = true → e.on ≠ i) → oi.apart ops oj = true) →
      i ∈ Region.ready md ops listed → YieldsIf P ops S oi v a → S w →
      wpK P md ops Q S K fuel (listed.setIfInBounds i true) (a.put oi.dst v) w → wpK P md ops Q S K (fuel + 1) listed a w := by
  intro fuel
  induction fuel with
  | zero =>
    intro listed a w _ _ hr hy hS H
    refine ⟨fun h => (by rw [h] at hr; cases hr), fun j hj => ?_⟩
    by_cases hji : j = i
    · subst hji; exact hy.wpOp hi hS ⟨fun _ => hS, H⟩
    · have := ready_mono hj hji
      rw [H.1] at this
      cases this
  | succ fuel ih =>
    intro listed a w hc hfree hr hy hS H
    refine ⟨fun h => (by rw [h] at hr; cases hr), fun j hj => ?_⟩
    by_cases hji : j = i
    · subst hji; exact hy.wpOp hi hS ⟨fun _ => hS, H⟩
    · have hc2 := chain_step hj i cs hji hc
      have h1 := H.2 j (ready_mono hj hji)
      obtain ⟨hjun, oj, hoj, hall⟩ := mem_ready.1 hj
      have h2 := wpOp_putIf hoj (hfree j oj hoj hji hjun (not_on hr hall)) (fun cs b => hsel i oi cs b hi) (fun cs b => hsel j oj cs b hoj) hQ hy h1
      have hfree' : ∀ k ok, ops[k]? = some ok → k ≠ i → (listed.setIfInBounds j true).getD k true = false →
          (∀ e ∈ ok.after, Region.binds md e = true → e.on ≠ i) → oi.apart ops ok = true := fun k ok hk hki hun hno => by
        refine hfree k ok hk hki ?_ hno
        by_cases hjk : j = k
        · subst hjk; exact hjun
        · rw [getD_set_ne true hjk] at hun; exact hun
      have hUn : Un K (listed.setIfInBounds j true) := chain_un i cs hc2 K (List.mem_cons_of_mem _ hT)
      have hst : i ≠ K → Un K ((listed.setIfInBounds i true).setIfInBounds j true) := fun hne => by
        rw [Array.setIfInBounds_comm _ _ (Ne.symm hji)]
        unfold Un at hUn ⊢
        rw [getD_set_ne true hne]
        exact hUn
      refine wpOp_mono (fun a' w' h3 => ?_) h2
      have hSw := h3.2.1 (hst hiK)
      refine ⟨fun _ => hSw, ih (listed.setIfInBounds j true) a' w' hc2 hfree' (ready_mono hr (Ne.symm hji)) h3.1 hSw ?_⟩
      rw [Array.setIfInBounds_comm _ _ hji]
      exact h3.2.2
/-- One that yields in whatever world. -/
theorem firstP {i : Nat} {oi : Oper} {v : Value} (hi : ops[i]? = some oi) (hsel : ∀ (j : Nat) (o : Oper) cs b, ops[j]? = some o → o.op ≠ .select cs b)
    (hiK : i ≠ K) (hQ : ∀ c a w, Q (.panic c) (a.put oi.dst v) w → Q (.panic c) a w) :
    ∀ (fuel : Nat) (listed : Array Bool) (a : Act) (w : World),
      (∀ j oj, ops[j]? = some oj → j ≠ i → listed.getD j true = false → (∀ e ∈ oj.after, Region.binds md e = true → e.on ≠ i) → oi.apart ops oj = true) →
      i ∈ Region.ready md ops listed → YieldsIf P ops (fun _ => True) oi v a → (Un K listed → S w) →
      wpK P md ops Q S K fuel (listed.setIfInBounds i true) (a.put oi.dst v) w → wpK P md ops Q S K (fuel + 1) listed a w := by
  have hset : ∀ listed : Array Bool, Un K (listed.setIfInBounds i true) ↔ Un K listed := fun l => by
    unfold Un
    rw [getD_set_ne true hiK]
  intro fuel
  induction fuel with
  | zero =>
    intro listed a w _ hr hy hS H
    refine ⟨fun h => (by rw [h] at hr; cases hr), fun j hj => ?_⟩
    by_cases hji : j = i
    · subst hji; exact hy.wpOp hi trivial ⟨fun hu => hS ((hset _).1 hu), H⟩
    · have := ready_mono hj hji
      rw [H.1] at this
      cases this
  | succ fuel ih =>
    intro listed a w hfree hr hy hS H
    refine ⟨fun h => (by rw [h] at hr; cases hr), fun j hj => ?_⟩
    by_cases hji : j = i
    · subst hji; exact hy.wpOp hi trivial ⟨fun hu => hS ((hset _).1 hu), H⟩
    · have h1 := H.2 j (ready_mono hj hji)
      obtain ⟨hjun, oj, hoj, hall⟩ := mem_ready.1 hj
      have h2 := wpOp_putIf hoj (hfree j oj hoj hji hjun (not_on hr hall)) (fun cs b => hsel i oi cs b hi) (fun cs b => hsel j oj cs b hoj) hQ hy h1
      have hfree' : ∀ k ok, ops[k]? = some ok → k ≠ i → (listed.setIfInBounds j true).getD k true = false →
          (∀ e ∈ ok.after, Region.binds md e = true → e.on ≠ i) → oi.apart ops ok = true := fun k ok hk hki hun hno => by
        refine hfree k ok hk hki ?_ hno
        by_cases hjk : j = k
        · subst hjk; exact hjun
        · rw [getD_set_ne true hjk] at hun; exact hun
      refine wpOp_mono (fun a' w' h3 => ?_) h2
      have hSw : Un K (listed.setIfInBounds j true) → S w' := fun hu => h3.2.1 (by
        rw [Array.setIfInBounds_comm _ _ (Ne.symm hji)]
        exact (hset _).2 hu)
      refine ⟨hSw, ih (listed.setIfInBounds j true) a' w' hfree' (ready_mono hr (Ne.symm hji)) h3.1 hSw ?_⟩
      rw [Array.setIfInBounds_comm _ _ hji]
      exact h3.2.2
/-- An operation that is carried out, or left out, first. -/
theorem take (cs : List Nat) {i : Nat} {oi : Oper} {v : Value} {fuel : Nat} {listed : Array Bool} {a : Act} {w : World} (hi : ops.toList[i]? = some oi)
    (hs : Region.noSelect ops = true) (hf : Region.free md ops listed i = true) (hr : (Region.ready md ops listed).contains i = true)
    (hc : chain md ops listed (i :: cs) = true) (hT : (cs.contains K && !(i == K)) = true)
    (hQ : ∀ c a w, Q (.panic c) (a.put oi.dst v) w → Q (.panic c) a w) (hy : YieldsIf P ops S oi v a) (hS : S w)
    (h : wpK P md ops Q S K fuel (listed.setIfInBounds i true) (a.put oi.dst v) w) : wpK P md ops Q S K (fuel + 1) listed a w :=
  have hi' : ops[i]? = some oi := by rw [← Array.getElem?_toList]; exact hi
  have hT' : K ∈ cs ∧ i ≠ K := by simpa using hT
  first hi' (Region.noSelect_spec hs) hT'.1 hT'.2 hQ fuel listed a w hc (Region.free_spec hi' hf) (by simpa using hr) hy hS h
theorem takeP {i : Nat} {oi : Oper} {v : Value} {fuel : Nat} {listed : Array Bool} {a : Act} {w : World} (hi : ops.toList[i]? = some oi)
    (hs : Region.noSelect ops = true) (hf : Region.free md ops listed i = true) (hr : (Region.ready md ops listed).contains i = true) (hT : (i == K) = false)
    (hQ : ∀ c a w, Q (.panic c) (a.put oi.dst v) w → Q (.panic c) a w) (hy : YieldsIf P ops (fun _ => True) oi v a) (hS : S w)
    (h : wpK P md ops Q S K fuel (listed.setIfInBounds i true) (a.put oi.dst v) w) : wpK P md ops Q S K (fuel + 1) listed a w :=
  have hi' : ops[i]? = some oi := by rw [← Array.getElem?_toList]; exact hi
  firstP hi' (Region.noSelect_spec hs) (by simpa using hT) hQ fuel listed a w (Region.free_spec hi' hf) (by simpa using hr) hy (fun _ => hS) h
/-- The one operation that may come up. -/
theorem one {i : Nat} {o : Oper} {fuel : Nat} {listed : Array Bool} {a : Act} {w : World} (hr : Region.ready md ops listed = [i]) (ho : ops.toList[i]? = some o)
    (h : ∀ K' : Act → World → Prop, Shut (∀ a w, S w → (S w → wpK P md ops Q S K fuel (listed.setIfInBounds i true) a w) → K' a w) → if Region.wanted o (yielded ops a.tmps) = true then Oper.wp P o a w K' Q else K' (a.put o.dst undef) w) :
    wpK P md ops Q S K (fuel + 1) listed a w := by
  have ho' : ops[i]? = some o := by rw [← Array.getElem?_toList]; exact ho
  refine ⟨fun h0 => (by rw [hr] at h0; cases h0), fun j hj => ?_⟩
  rw [hr, List.mem_singleton] at hj
  subst hj
  exact wpOp_step ho' (fun K' hK => h K' (fun a w hS hW => hK a w ⟨fun _ => hS, hW hS⟩))
/-- One of two comes up. -/
theorem two {i j : Nat} {o o' : Oper} {fuel : Nat} {listed : Array Bool} {a : Act} {w : World} (hr : Region.ready md ops listed = [i, j]) (ho : ops.toList[i]? = some o) (ho' : ops.toList[j]? = some o')
    (h : ∀ K' : Act → World → Prop, Shut (∀ a w, S w → (S w → wpK P md ops Q S K fuel (listed.setIfInBounds i true) a w) → K' a w) → if Region.wanted o (yielded ops a.tmps) = true then Oper.wp P o a w K' Q else K' (a.put o.dst undef) w)
    (h' : ∀ K' : Act → World → Prop, Shut (∀ a w, S w → (S w → wpK P md ops Q S K fuel (listed.setIfInBounds j true) a w) → K' a w) → if Region.wanted o' (yielded ops a.tmps) = true then Oper.wp P o' a w K' Q else K' (a.put o'.dst undef) w) :
    wpK P md ops Q S K (fuel + 1) listed a w := by
  have ho1 : ops[i]? = some o := by rw [← Array.getElem?_toList]; exact ho
  have ho2 : ops[j]? = some o' := by rw [← Array.getElem?_toList]; exact ho'
  refine ⟨fun h0 => (by rw [hr] at h0; cases h0), fun k hk => ?_⟩
  rw [hr, List.mem_cons, List.mem_singleton] at hk
  rcases hk with rfl | rfl
  · exact wpOp_step ho1 (fun K' hK => h K' (fun a w hS hW => hK a w ⟨fun _ => hS, hW hS⟩))
  · exact wpOp_step ho2 (fun K' hK => h' K' (fun a w hS hW => hK a w ⟨fun _ => hS, hW hS⟩))
/-- The operations that are left come up in this order. -/
def forced (md : Region.Mode) (ops : Array Oper) : Array Bool → List Nat → Bool
  | listed, [] => (Region.ready md ops listed).isEmpty
  | listed, i :: r => (Region.ready md ops listed == [i]) && forced md ops (listed.setIfInBounds i true) r
theorem set_self (l : Array Bool) (k : Nat) : (l.setIfInBounds k true).getD k true = true := by
  rcases Nat.lt_or_ge k l.size with h | h <;> simp [h]
theorem not_un {l : Array Bool} {k : Nat} (j : Nat) (h : ¬ Un k l) : ¬ Un k (l.setIfInBounds j true) := by
  unfold Un at h ⊢
  by_cases hj : j = k
  · subst hj; rw [set_self]; decide
  · rw [getD_set_ne true hj]; exact h
theorem rest : ∀ (l : List Nat) (os : List Oper) (fuel : Nat) (listed : Array Bool) (a : Act) (w : World), (∀ i, l.head? = some i → ¬ Un K (listed.setIfInBounds i true)) → forced md ops listed l = true → l.map (fun i => ops.toList[i]?) = os.map some → l.length ≤ fuel →
    wpList P ops Q os a w → wpK P md ops Q S K fuel listed a w
  | [], os, fuel, listed, a, w, _, hf, hm, _, h => by
    obtain rfl : os = [] := by cases os with | nil => rfl | cons => simp at hm
    unfold forced at hf
    have hr : Region.ready md ops listed = [] := by simpa using hf
    cases fuel with
    | zero => exact ⟨hr, h⟩
    | succ n => exact ⟨fun _ => h, by rw [hr]; simp⟩
  | i :: l, os, fuel, listed, a, w, hs, hf, hm, hl, h => by
    cases fuel with
    | zero => simp at hl
    | succ fuel =>
      cases os with
      | nil => simp at hm
      | cons o os =>
        have hs1 := hs i rfl
        unfold forced at hf
        rw [Bool.and_eq_true, beq_iff_eq] at hf
        rw [List.map_cons, List.map_cons, List.cons.injEq] at hm
        have ho : ops[i]? = some o := by rw [← Array.getElem?_toList]; exact hm.1
        refine ⟨fun h0 => (by rw [hf.1] at h0; cases h0), fun j hj => ?_⟩
        rw [hf.1, List.mem_singleton] at hj
        subst hj
        unfold wpList at h
        unfold wpOp
        simp only [ho]
        have go : ∀ a' w', wpList P ops Q os a' w' → (Un K (listed.setIfInBounds j true) → S w') ∧ wpK P md ops Q S K fuel (listed.setIfInBounds j true) a' w' := fun a' w' h' =>
          ⟨fun hn => absurd hn hs1, rest l os fuel _ a' w' (fun k _ => not_un k hs1) hf.2 hm.2 (by simpa using hl) h'⟩
        by_cases hw : Region.wanted o (yielded ops a.tmps) = true
        · simp only [hw, if_true] at h ⊢
          rcases h with h | h
          · exact .inl (Oper.wp_mono go h)
          · exact .inr h
        · simp only [hw] at h ⊢
          exact go _ _ h
/-- From operation K on the rest comes up in this order: it is walked as it stands. -/
theorem tail (l : List Nat) (os : List Oper) {fuel : Nat} {listed : Array Bool} {a : Act} {w : World} (hs : (l.head? == some K) = true) (hf : forced md ops listed l = true) (hm : l.map (fun i => ops.toList[i]?) = os.map some) (hl : l.length ≤ fuel)
    (h : wpList P ops Q os a w) : wpK P md ops Q S K fuel listed a w := by
  refine rest l os fuel listed a w (fun i hi => ?_) hf hm hl h
  rw [beq_iff_eq, hi] at hs
  injection hs with hs
  subst hs
  unfold Un
  rw [set_self]
  decide
theorem done {fuel : Nat} {listed : Array Bool} {a : Act} {w : World} (hr : Region.ready md ops listed = []) (h : Q .normal a w) : wpK P md ops Q S K fuel listed a w := by
  cases fuel with
  | zero => exact ⟨hr, h⟩
  | succ n => exact ⟨fun _ => h, by rw [hr]; simp⟩
/-- The beginning: S is shown of the world behind the draw, once, and handed on. -/
theorem begin {id : Nat} {a : Act} {w : World} (K : Nat) (hm : P.follows .mixedOrders = true) (hS : S w.drew)
    (h : S w.drew → wpK P .any ops Q S K ops.size (Array.replicate ops.size false) a w.drew) : (Code.region id ops true).wp P Q a w :=
  wp_region_any hm (wpAny_of _ _ _ _ (h hS))
end
end Go.Proofs.YtbicmlkjonaccaaDoor.Rk
