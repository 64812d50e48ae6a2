/- Eval of the reference of larger forms: no negative part. -/
import Derived.Test.YtbicmlkjonaccaaDoorK30
import Derived.Test.YtbicmlkjonaccaaDoorK29

namespace Go.Proofs.YtbicmlkjonaccaaDoor.Ln
open Go.ChangeShapes Go.WideShapes Go.ChangeAt Go.RowKit

set_option linter.unusedVariables false
set_option linter.unusedSimpArgs false
set_option maxRecDepth 8000
theorem mag_same {v a : Int} (h : decide (v < 0) = decide (a < 0)) : mag v * mag a = v * a := by
 unfold mag
 by_cases h1 : v < 0
 ·have h2 : a < 0 := by rw [decide_eq_true h1] at h; exact of_decide_eq_true h.symm
  rw [if_pos h1, if_pos h2, Int.neg_mul_neg]
 ·have h2 : ¬ a < 0 := by rw [decide_eq_false h1] at h; exact of_decide_eq_false h.symm
  rw [if_neg h1, if_neg h2]
theorem mag_diff {v a : Int} (h : decide (v < 0) ≠ decide (a < 0)) : mag v * mag a = -(v * a) := by
 unfold mag
 by_cases h1 : v < 0
 ·have h2 : ¬ a < 0 := fun h2 => h (by rw [decide_eq_true h1, decide_eq_true h2])
  rw [if_pos h1, if_neg h2, Int.neg_mul]
 ·have h2 : a < 0 := by
   by_cases h2 : a < 0
   ·exact h2
   ·exact absurd (by rw [decide_eq_false h1, decide_eq_false h2]) h
  rw [if_neg h1, if_pos h2, Int.mul_neg]
theorem mag_mul_bd {v a : Int} (hv : 0 <= mag v /\ mag v <= 9223372036854775808) (ha : 0 <= mag a /\ mag a <= 9223372036854775808) : 0 <= mag v * mag a /\ mag v * mag a <= 85070591730234615865843651857942052864 := by
 have h1 : mag v * mag a <= 9223372036854775808 * mag a := Int.mul_le_mul_of_nonneg_right hv.2 ha.1
 have h0 : 0 <= mag v * mag a := Int.mul_nonneg hv.1 ha.1
 generalize mag v * mag a = x at *
 omega
theorem dval_nn {p0 p1 p2 p3 p4 p5 : Int} (h : ((0 <= p0 /\ p0 < 4294967296) /\ (0 <= p1 /\ p1 < 4294967296) /\ (0 <= p2 /\ p2 < 4294967296) /\ (0 <= p3 /\ p3 < 4294967296) /\ (0 <= p4 /\ p4 < 4294967296) /\ (0 <= p5 /\ p5 < 4294967296))) : 0 <= dval p0 p1 p2 p3 p4 p5 := by unfold dval; omega
set_option maxRecDepth 100000 in
set_option maxHeartbeats 64000000 in
theorem eval2nd (k : Int) (p : Option Addr) (xs : List Mo) (c : Nat) (q : Option Addr) (es : List Mo) (d : Nat) (w : World) (hn : xs.length <= 5000) (hm : es.length <= maxLen) (RA : Hid (SlM w p xs)) (RB : Hid (SlM w q es))
  (RS : Hid (∀ i, i < xs.length -> (xs.getD i mo0).1.size <= maxLen /\ -9223372036854775808 <= (xs.getD i mo0).2 /\ (xs.getD i mo0).2 <= 9223372036854775807)) (RT : Hid (∀ i, i < es.length -> (es.getD i mo0).1.size <= maxLen /\ -9223372036854775808 <= (es.getD i mo0).2 /\ (es.getD i mo0).2 <= 9223372036854775807))
  (k1 : -9223372036854775808 <= k) (k2 : k <= 9223372036854775807) (hk0 : k < 0) :
  Calls Tryd.prog 55 #[Lv k p xs.length c, .slice q es.length d] w (EW k xs es w) := by
 have C1 := Lib.hid fun (u : World) (h : Hid (SlM u p xs)) => val2 k p xs c u (by unfold maxLen; omega) h (Lib.hid fun i hi => (RS.out i hi).1)
 have CX := Lib.hid fun (s : ByteArray) (u : World) (h : Hid (SlM u q es)) => find1 q es d s u hm h
 have CBD := Lib.hid (co_bd RT.out)
 have SZ := Lib.hid size1
 have PL := Lib.hid plusW
 have LE := Lib.hid less1
 have MI := Lib.hid minus1
 have B0 : Below w.heap.size w (w.alloc (Obj.cells #[Value.int .i64 k, Value.slice p xs.length c] 24)) := (Below.refl _ _).alloc (Nat.le_refl _) _
 have F0 : Cl [(w.heap.size, 0, .int .i64 k), (w.heap.size, 1, .slice p xs.length c)] (w.alloc (Obj.cells #[Value.int .i64 k, Value.slice p xs.length c] 24)) := Cl.cons (by go_cell) (by first | go_cell | simp) (Cl.cons (by go_cell) (by first | go_cell | simp) (Cl.nil _))
 have S0 : w.heap.size < ((w.alloc (Obj.cells #[Value.int .i64 k, Value.slice p xs.length c] 24))).heap.size := by simp
 unfold maxLen at hm
 unfold Lv at *
 obtain ⟨ok, hok⟩ : ∃ ok, okL xs = ok := ⟨_, rfl⟩
 have HK := Lib.hid hok
 cases ok
 ·have hv : vL xs = 1 := by unfold vL; rw [hok]; rfl
  rw [hv] at C1
  clear hok hv
  go_enter Tryd.func55, Tryd.ntmps55
  go_wp2_with fail
  generalize (w.alloc (Obj.cells #[Value.int .i64 k, Value.slice p xs.length c] 24)) = z at *
  refine (C1.out _ (Lib.hid (SlM.keep B0 RA.out))).mono ?_
  rintro e w1 ⟨rfl, hb⟩
  have K1 := B0.trans (hb.mono B0.size)
  clear F0 hb B0 S0
  go_wp2
  go_ret2
  exact ⟨0, 1, rfl, .inl ⟨HK.out, rfl, rfl⟩, K1⟩
 ·have hv : vL xs = 0 := by unfold vL; rw [hok]; rfl
  rw [hv] at C1
  clear hok hv
  go_enter Tryd.func55, Tryd.ntmps55
  go_wp2_with fail
  generalize (w.alloc (Obj.cells #[Value.int .i64 k, Value.slice p xs.length c] 24)) = z at *
  refine (C1.out _ (Lib.hid (SlM.keep B0 RA.out))).mono ?_
  rintro e w1 ⟨rfl, hb⟩
  replace F0 := F0.below hb
  replace B0 := B0.trans (hb.mono B0.size)
  replace S0 := Nat.lt_of_lt_of_le S0 hb.size
  have hB := (B0.alloc B0.size (Obj.cells #[Value.int .u64 0, Value.int .u64 0, Value.int .u64 0, Value.int .u64 0, Value.int .u64 0, Value.int .u64 0] 114)).alloc (by have := B0.size; simp; omega) (Obj.cells #[Value.int .u64 0, Value.int .u64 0, Value.int .u64 0, Value.int .u64 0, Value.int .u64 0, Value.int .u64 0] 114)
  have hF : Hid (Cl [(w1.heap.size, 0, .int .u64 0), (w1.heap.size, 1, .int .u64 0), (w1.heap.size, 2, .int .u64 0), (w1.heap.size, 3, .int .u64 0), (w1.heap.size, 4, .int .u64 0), (w1.heap.size, 5, .int .u64 0), (w1.heap.size + 1, 0, .int .u64 0), (w1.heap.size + 1, 1, .int .u64 0), (w1.heap.size + 1, 2, .int .u64 0), (w1.heap.size + 1, 3, .int .u64 0), (w1.heap.size + 1, 4, .int .u64 0), (w1.heap.size + 1, 5, .int .u64 0), (w.heap.size, 0, .int .i64 k), (w.heap.size, 1, .slice p xs.length c)] ((w1.alloc (Obj.cells #[Value.int .u64 0, Value.int .u64 0, Value.int .u64 0, Value.int .u64 0, Value.int .u64 0, Value.int .u64 0] 114)).alloc (Obj.cells #[Value.int .u64 0, Value.int .u64 0, Value.int .u64 0, Value.int .u64 0, Value.int .u64 0, Value.int .u64 0] 114))) := Lib.hid (Cl.cons (by go_cell) (by first | go_cell | simp) (Cl.cons (by go_cell) (by first | go_cell | simp) (Cl.cons (by go_cell) (by first | go_cell | simp) (Cl.cons (by go_cell) (by first | go_cell | simp) (Cl.cons (by go_cell) (by first | go_cell | simp) (Cl.cons (by go_cell) (by first | go_cell | simp) (Cl.cons (by go_cell) (by first | go_cell | simp) (Cl.cons (by go_cell) (by first | go_cell | simp) (Cl.cons (by go_cell) (by first | go_cell | simp) (Cl.cons (by go_cell) (by first | go_cell | simp) (Cl.cons (by go_cell) (by first | go_cell | simp) (Cl.cons (by go_cell) (by first | go_cell | simp) (((F0.below ((Below.refl _ _).alloc (Nat.le_refl _) (Obj.cells #[Value.int .u64 0, Value.int .u64 0, Value.int .u64 0, Value.int .u64 0, Value.int .u64 0, Value.int .u64 0] 114))).below ((Below.refl _ _).alloc (Nat.le_refl _) (Obj.cells #[Value.int .u64 0, Value.int .u64 0, Value.int .u64 0, Value.int .u64 0, Value.int .u64 0, Value.int .u64 0] 114))))))))))))))))
  have f0 := (hF.out w.heap.size 0 (.int .i64 k) (by simp)).1
  have hg0 := S0
  clear hb C1 F0 B0
  go_wp2_with fail
  generalize (w1.alloc (Obj.cells #[Value.int .u64 0, Value.int .u64 0, Value.int .u64 0, Value.int .u64 0, Value.int .u64 0, Value.int .u64 0] 114)).alloc (Obj.cells #[Value.int .u64 0, Value.int .u64 0, Value.int .u64 0, Value.int .u64 0, Value.int .u64 0, Value.int .u64 0] 114) = u0 at *
  generalize w1.heap.size = gp at *
  clear f0
  have hm1 : 0 <= mag k /\ mag k < 18446744073709551616 := by have := mag_bd k1 k2; omega
  have hm2 : (0 : Int) <= 1 /\ (1 : Int) < 18446744073709551616 := by omega
  have hmv : dval 0 0 0 0 0 0 + mag k * 1 < 6277101735386680763835789423207666416102355444464034512896 := by have := mag_bd k1 k2; unfold dval; omega
  have HDP : Hid ((0 <= (0 : Int) /\ (0 : Int) < 4294967296) /\ (0 <= (0 : Int) /\ (0 : Int) < 4294967296) /\ (0 <= (0 : Int) /\ (0 : Int) < 4294967296) /\ (0 <= (0 : Int) /\ (0 : Int) < 4294967296) /\ (0 <= (0 : Int) /\ (0 : Int) < 4294967296) /\ (0 <= (0 : Int) /\ (0 : Int) < 4294967296)) := Lib.hid (by omega)
  have HDN : Hid ((0 <= (0 : Int) /\ (0 : Int) < 4294967296) /\ (0 <= (0 : Int) /\ (0 : Int) < 4294967296) /\ (0 <= (0 : Int) /\ (0 : Int) < 4294967296) /\ (0 <= (0 : Int) /\ (0 : Int) < 4294967296) /\ (0 <= (0 : Int) /\ (0 : Int) < 4294967296) /\ (0 <= (0 : Int) /\ (0 : Int) < 4294967296)) := Lib.hid (by omega)
  go_wp2_with fail
  have hz9 : u0.drew.cell? ⟨gp + 1, 0, none⟩ = some (.int .u64 0) /\ u0.drew.cell? ⟨gp + 1, 1, none⟩ = some (.int .u64 0) /\ u0.drew.cell? ⟨gp + 1, 2, none⟩ = some (.int .u64 0) /\ u0.drew.cell? ⟨gp + 1, 3, none⟩ = some (.int .u64 0) /\ u0.drew.cell? ⟨gp + 1, 4, none⟩ = some (.int .u64 0) /\ u0.drew.cell? ⟨gp + 1, 5, none⟩ = some (.int .u64 0) /\ u0.drew.cell? ⟨w.heap.size, 0, none⟩ = some (.int .i64 k) := ⟨(hF.out (gp + 1) 0 (.int .u64 0) (by simp)).1, (hF.out (gp + 1) 1 (.int .u64 0) (by simp)).1, (hF.out (gp + 1) 2 (.int .u64 0) (by simp)).1, (hF.out (gp + 1) 3 (.int .u64 0) (by simp)).1, (hF.out (gp + 1) 4 (.int .u64 0) (by simp)).1, (hF.out (gp + 1) 5 (.int .u64 0) (by simp)).1, (hF.out w.heap.size 0 (.int .i64 k) (by simp)).1⟩
  refine Rk.begin (S := fun wS => wS.cell? ⟨gp + 1, 0, none⟩ = some (.int .u64 0) /\ wS.cell? ⟨gp + 1, 1, none⟩ = some (.int .u64 0) /\ wS.cell? ⟨gp + 1, 2, none⟩ = some (.int .u64 0) /\ wS.cell? ⟨gp + 1, 3, none⟩ = some (.int .u64 0) /\ wS.cell? ⟨gp + 1, 4, none⟩ = some (.int .u64 0) /\ wS.cell? ⟨gp + 1, 5, none⟩ = some (.int .u64 0) /\ wS.cell? ⟨w.heap.size, 0, none⟩ = some (.int .i64 k)) 5 (by kernel_rfl) hz9 (fun hHeld => ?_)
  refine Rk.take [5] (i := 0) (v := ?_) rfl (by kernel_rfl) (by kernel_rfl) (by kernel_rfl) (by kernel_rfl) (by kernel_rfl) (fun _ _ _ h => h) (Or.inl ⟨by kernel_rfl, ?_⟩) (by assumption) ?_
  rotate_left
  ·((intro w hSw; (try dsimp only at hSw); go_simp) <;> with_reducible rfl)
  try simp only [Act.put, List.setIfInBounds_toArray, List.set_cons_zero, List.set_cons_succ]
  refine Rk.takeP (i := 1) (v := ?_) rfl (by kernel_rfl) (by kernel_rfl) (by kernel_rfl) (by kernel_rfl) (fun _ _ _ h => h) (Or.inl ⟨by kernel_rfl, ?_⟩) (by assumption) ?_
  rotate_left
  ·((intro w hSw; go_simp) <;> with_reducible rfl)
  try simp only [Act.put, List.setIfInBounds_toArray, List.set_cons_zero, List.set_cons_succ]
  refine Rk.take [5] (i := 2) (v := ?_) rfl (by kernel_rfl) (by kernel_rfl) (by kernel_rfl) (by kernel_rfl) (by kernel_rfl) (fun _ _ _ h => h) (Or.inl ⟨by kernel_rfl, ?_⟩) (by assumption) ?_
  rotate_left
  ·((intro w hSw; (try dsimp only at hSw); go_simp) <;> with_reducible rfl)
  try simp only [Act.put, List.setIfInBounds_toArray, List.set_cons_zero, List.set_cons_succ]
  refine Rk.one (i := 3) (by kernel_rfl) rfl (fun KK hK => ?_)
  rw [if_pos (by kernel_rfl)]
  go_simp
  ((with_reducible refine (SZ.out k _ k1 k2).mono ?_); rintro e uu ⟨rfl, rfl⟩)
  refine hK.out _ _ hHeld (fun hHeld => ?_)
  clear hK KK
  refine Rk.one (i := 4) (by kernel_rfl) rfl (fun KK hK => ?_)
  rw [if_pos (by kernel_rfl)]
  go_simp
  ((with_reducible refine (PL.out 0 0 0 0 0 0 (mag k) 1 _ HDN.out hm1 hm2 hmv).mono ?_); rintro e u2 ⟨f0, f1, f2, f3, f4, f5, rfl, hfb, hfv, hb2⟩)
  refine hK.out _ _ ⟨kp hb2 (lt_of_cell hHeld.1) hHeld.1, kp hb2 (lt_of_cell hHeld.2.1) hHeld.2.1, kp hb2 (lt_of_cell hHeld.2.2.1) hHeld.2.2.1, kp hb2 (lt_of_cell hHeld.2.2.2.1) hHeld.2.2.2.1, kp hb2 (lt_of_cell hHeld.2.2.2.2.1) hHeld.2.2.2.2.1, kp hb2 (lt_of_cell hHeld.2.2.2.2.2.1) hHeld.2.2.2.2.2.1, kp hb2 (lt_of_cell hHeld.2.2.2.2.2.2) hHeld.2.2.2.2.2.2⟩ (fun hHeld => ?_)
  clear hK KK
  refine Rk.tail [5] [_] (by kernel_rfl) (by kernel_rfl) rfl (by decide) ?_
  have F5 := (Cl.drew hF.out).below hb2
  have K5 := (hB.drew).trans (hb2.mono hB.size)
  obtain ⟨s0, zs0⟩ := F5 (gp + 1) 0 (.int .u64 0) (by simp)
  obtain ⟨s1, zs1⟩ := F5 (gp + 1) 1 (.int .u64 0) (by simp)
  obtain ⟨s2, zs2⟩ := F5 (gp + 1) 2 (.int .u64 0) (by simp)
  obtain ⟨s3, zs3⟩ := F5 (gp + 1) 3 (.int .u64 0) (by simp)
  obtain ⟨s4, zs4⟩ := F5 (gp + 1) 4 (.int .u64 0) (by simp)
  obtain ⟨s5, zs5⟩ := F5 (gp + 1) 5 (.int .u64 0) (by simp)
  have FT : Cl ([(gp + 1, 0, .int .u64 f0), (gp + 1, 1, .int .u64 f1), (gp + 1, 2, .int .u64 f2), (gp + 1, 3, .int .u64 f3), (gp + 1, 4, .int .u64 f4), (gp + 1, 5, .int .u64 f5)] ++ [(gp, 0, .int .u64 0), (gp, 1, .int .u64 0), (gp, 2, .int .u64 0), (gp, 3, .int .u64 0), (gp, 4, .int .u64 0), (gp, 5, .int .u64 0), (w.heap.size, 0, .int .i64 k), (w.heap.size, 1, .slice p xs.length c)]) ((((((u2.setCell ⟨gp + 1, 0, none⟩ (.int .u64 f0)).setCell ⟨gp + 1, 1, none⟩ (.int .u64 f1)).setCell ⟨gp + 1, 2, none⟩ (.int .u64 f2)).setCell ⟨gp + 1, 3, none⟩ (.int .u64 f3)).setCell ⟨gp + 1, 4, none⟩ (.int .u64 f4)).setCell ⟨gp + 1, 5, none⟩ (.int .u64 f5)) := (put6 (F5.sub (L' := [(gp + 1, 0, .int .u64 0), (gp + 1, 1, .int .u64 0), (gp + 1, 2, .int .u64 0), (gp + 1, 3, .int .u64 0), (gp + 1, 4, .int .u64 0), (gp + 1, 5, .int .u64 0)]) (by intro x hx; simp only [List.mem_cons, List.not_mem_nil, or_false] at hx ⊢; rcases hx with h | h | h | h | h | h <;> simp [h]))).append (put6_far (F5.sub (L' := [(gp, 0, .int .u64 0), (gp, 1, .int .u64 0), (gp, 2, .int .u64 0), (gp, 3, .int .u64 0), (gp, 4, .int .u64 0), (gp, 5, .int .u64 0), (w.heap.size, 0, .int .i64 k), (w.heap.size, 1, .slice p xs.length c)]) (by intro x hx; simp only [List.mem_cons, List.not_mem_nil, or_false] at hx ⊢; rcases hx with h | h | h | h | h | h | h | h <;> simp [h])) (by simp only [List.forall_mem_cons]; simp; omega))
  have hF2 : Hid (Cl [(gp, 0, .int .u64 0), (gp, 1, .int .u64 0), (gp, 2, .int .u64 0), (gp, 3, .int .u64 0), (gp, 4, .int .u64 0), (gp, 5, .int .u64 0), (gp + 1, 0, .int .u64 f0), (gp + 1, 1, .int .u64 f1), (gp + 1, 2, .int .u64 f2), (gp + 1, 3, .int .u64 f3), (gp + 1, 4, .int .u64 f4), (gp + 1, 5, .int .u64 f5), (w.heap.size, 0, .int .i64 k), (w.heap.size, 1, .slice p xs.length c)] ((((((u2.setCell ⟨gp + 1, 0, none⟩ (.int .u64 f0)).setCell ⟨gp + 1, 1, none⟩ (.int .u64 f1)).setCell ⟨gp + 1, 2, none⟩ (.int .u64 f2)).setCell ⟨gp + 1, 3, none⟩ (.int .u64 f3)).setCell ⟨gp + 1, 4, none⟩ (.int .u64 f4)).setCell ⟨gp + 1, 5, none⟩ (.int .u64 f5))) := Lib.hid (FT.sub (by intro x hx; simp only [List.mem_cons, List.not_mem_nil, or_false, List.mem_append] at hx ⊢; rcases hx with h | h | h | h | h | h | h | h | h | h | h | h | h | h <;> simp [h]))
  have hB2 := put6_below (g := gp + 1) (e0 := f0) (e1 := f1) (e2 := f2) (e3 := f3) (e4 := f4) (e5 := f5) K5 (by omega)
  have HDF := Lib.hid hfb
  have HFV := Lib.hid hfv
  clear hHeld hz9 F5 K5 FT hfb hfv hb2 hF hB
  have HV0 : Hid (dval 0 0 0 0 0 0 - dval f0 f1 f2 f3 f4 f5 = k + evS es (xs.take 0)) := Lib.hid (by have h1 := HFV.out; have h2 : mag k = -k := (by unfold mag; rw [if_pos hk0]); rw [h2] at h1; rw [h1, List.take_zero]; unfold dval; simp only [evS]; omega)
  have HB0 : Hid (dval 0 0 0 0 0 0 <= 85070591730234615865843651857942052864 * (((0 : Nat) : Int) + 1) /\ dval f0 f1 f2 f3 f4 f5 <= 85070591730234615865843651857942052864 * (((0 : Nat) : Int) + 1)) := Lib.hid (by have h1 := HFV.out; have h2 := mag_bd k1 k2; rw [h1]; unfold dval; omega)
  clear HFV hm1 hm2 hmv
  have q1 : ((((((u2.setCell ⟨gp + 1, 0, none⟩ (.int .u64 f0)).setCell ⟨gp + 1, 1, none⟩ (.int .u64 f1)).setCell ⟨gp + 1, 2, none⟩ (.int .u64 f2)).setCell ⟨gp + 1, 3, none⟩ (.int .u64 f3)).setCell ⟨gp + 1, 4, none⟩ (.int .u64 f4)).setCell ⟨gp + 1, 5, none⟩ (.int .u64 f5)).cell? ⟨w.heap.size, 1, none⟩ = some (.slice p xs.length c) := (hF2.out w.heap.size 1 (.slice p xs.length c) (by simp)).1
  go_wp2_with fail
  generalize ((((((u2.setCell ⟨gp + 1, 0, none⟩ (.int .u64 f0)).setCell ⟨gp + 1, 1, none⟩ (.int .u64 f1)).setCell ⟨gp + 1, 2, none⟩ (.int .u64 f2)).setCell ⟨gp + 1, 3, none⟩ (.int .u64 f3)).setCell ⟨gp + 1, 4, none⟩ (.int .u64 f4)).setCell ⟨gp + 1, 5, none⟩ (.int .u64 f5)) = u3 at *
  clear s0 s1 s2 s3 s4 s5 zs0 zs1 zs2 zs3 zs4 zs5
  go_loopw [8] (fun i wr => ∃ (j : Nat) (p0 p1 p2 p3 p4 p5 m0 m1 m2 m3 m4 m5 : Int), i = .int .i64 (j : Int) /\ j <= xs.length /\ Below w.heap.size w wr /\ Hid (Cl [(gp, 0, .int .u64 p0), (gp, 1, .int .u64 p1), (gp, 2, .int .u64 p2), (gp, 3, .int .u64 p3), (gp, 4, .int .u64 p4), (gp, 5, .int .u64 p5), (gp + 1, 0, .int .u64 m0), (gp + 1, 1, .int .u64 m1), (gp + 1, 2, .int .u64 m2), (gp + 1, 3, .int .u64 m3), (gp + 1, 4, .int .u64 m4), (gp + 1, 5, .int .u64 m5), (w.heap.size, 0, .int .i64 k), (w.heap.size, 1, .slice p xs.length c)] wr) /\ Hid ((0 <= p0 /\ p0 < 4294967296) /\ (0 <= p1 /\ p1 < 4294967296) /\ (0 <= p2 /\ p2 < 4294967296) /\ (0 <= p3 /\ p3 < 4294967296) /\ (0 <= p4 /\ p4 < 4294967296) /\ (0 <= p5 /\ p5 < 4294967296)) /\ Hid ((0 <= m0 /\ m0 < 4294967296) /\ (0 <= m1 /\ m1 < 4294967296) /\ (0 <= m2 /\ m2 < 4294967296) /\ (0 <= m3 /\ m3 < 4294967296) /\ (0 <= m4 /\ m4 < 4294967296) /\ (0 <= m5 /\ m5 < 4294967296)) /\ Hid (dval p0 p1 p2 p3 p4 p5 - dval m0 m1 m2 m3 m4 m5 = k + evS es (xs.take j)) /\ Hid (dval p0 p1 p2 p3 p4 p5 <= 85070591730234615865843651857942052864 * ((j : Int) + 1) /\ dval m0 m1 m2 m3 m4 m5 <= 85070591730234615865843651857942052864 * ((j : Int) + 1)) /\ Hid (∀ m ∈ xs.take j, m.1 ∈ es.map (·.1))) (fun i _ => xs.length - (intOf i).toNat)
  case atStart => exact ⟨0, 0, 0, 0, 0, 0, 0, f0, f1, f2, f3, f4, f5, rfl, by omega, hB2, hF2, HDP, HDF, HV0, HB0, Lib.hid (by simp)⟩
  case round =>
   clear q1 HDP HDN HDF hF2 hB2 HV0 HB0
   obtain ⟨j, p0, p1, p2, p3, p4, p5, m0, m1, m2, m3, m4, m5, rfl, hj, hB, hF, HDP, HDN, HVJ, HBJ, HI⟩ := hrel
   have j0 : (0 : Int) <= j := by omega
   by_cases hlt : j < xs.length
   ·obtain ⟨b, o, rfl, c0, c1⟩ := SlM.keep hB RA.out j hlt
    have htk := Lib.hid (take_step hlt)
    have hmm := Lib.hid (getD_mem hlt)
    have hrs := RS.out j hlt
    obtain ⟨⟨s, a⟩, hx⟩ : ∃ x, xs.getD j mo0 = x := ⟨_, rfl⟩
    replace htk := Lib.hid (by have h := htk.out; rw [hx] at h; exact h)
    replace hmm := Lib.hid (by have h := hmm.out; rw [hx] at h; exact h)
    rw [hx] at c0 c1 hrs
    simp only at c0 c1 hrs
    clear hx
    obtain ⟨_, a1, a2⟩ := hrs
    have j1 : (j : Int) < xs.length := by omega
    have q1 := (hF.out w.heap.size 1 (.slice (some ⟨b, o, none⟩) xs.length c) (by simp)).1
    go_wp2_with fail
    refine (CX.out s wr (Lib.hid (SlM.keep hB RB.out))).mono ?_
    rintro e w3 ⟨hb, ⟨hno, rfl⟩ | ⟨hin, he⟩⟩
    ·have K3 := hB.trans (hb.mono hB.size)
     have HE := Lib.hid (show EV k xs es 0 9 from .inr (.inl ⟨HK.out, ⟨(s, a), hmm.out, hno⟩, rfl, rfl⟩))
     clear hno hb
     go_wp2
     go_ret2
     exact ⟨0, 9, rfl, HE.out, K3⟩
    ·replace hF := Lib.hid (hF.out.below hb)
     replace hB := hB.trans (hb.mono hB.size)
     replace c1 := kp hb (lt_of_cell c1) c1
     replace q1 := kp hb (lt_of_cell q1) q1
     have hvb := CBD.out s
     have HIN := Lib.hid hin
     obtain ⟨v, hv⟩ : ∃ v, co es s = v := ⟨_, rfl⟩
     rw [hv] at hvb he
     obtain rfl := he
     have HC := Lib.hid hv
     obtain ⟨v1, v2⟩ := hvb
     have HI2 : Hid (∀ m ∈ xs.take (j + 1), m.1 ∈ es.map (·.1)) := Lib.hid (by
      rw [htk.out]
      intro m hm'
      rcases List.mem_append.1 hm' with h | h
      ·exact HI.out m h
      ·rw [List.mem_singleton] at h; rw [h]; exact HIN.out)
     have HSUM := Lib.hid (show k + evS es (xs.take (j + 1)) = k + evS es (xs.take j) + v * a by rw [htk.out, evS_app]; simp only [evS]; rw [HC.out, Int.mul_comm v a]; omega)
     have mbv := mag_bd v1 v2
     have mba := mag_bd a1 a2
     have mpb := mag_mul_bd mbv mba
     have hm1 : 0 <= mag v /\ mag v < 18446744073709551616 := by omega
     have hm2 : 0 <= mag a /\ mag a < 18446744073709551616 := by omega
     clear hb hin hv c0 HI htk hmm
     obtain ⟨z1, hz1⟩ : ∃ z, decide (v < 0) = z := ⟨_, rfl⟩
     obtain ⟨z2, hz2⟩ : ∃ z, decide (a < 0) = z := ⟨_, rfl⟩
     have HMS := Lib.hid fun h : z1 = z2 => mag_same (v := v) (a := a) (by rw [hz1, hz2]; exact h)
     have HMD := Lib.hid fun h : z1 ≠ z2 => mag_diff (v := v) (a := a) (by rw [hz1, hz2]; exact h)
     obtain ⟨pr, hpr⟩ : ∃ x, mag v * mag a = x := ⟨_, rfl⟩
     rw [hpr] at mpb HMS HMD
     have HPR := Lib.hid hpr
     have mpb := Lib.hid mpb
     clear hpr mbv mba
     cases z1 <;> cases z2
     ·have hmv : dval p0 p1 p2 p3 p4 p5 + mag v * mag a < 6277101735386680763835789423207666416102355444464034512896 := by rw [HPR.out]; have h1 := HBJ.out; have h2 := mpb.out; omega
      have HP9 := Lib.hid (HMS.out rfl)
      clear HMS HMD
      go_wp2_with fail
      have hz9 : w3.drew.cell? ⟨gp, 0, none⟩ = some (.int .u64 p0) /\ w3.drew.cell? ⟨gp, 1, none⟩ = some (.int .u64 p1) /\ w3.drew.cell? ⟨gp, 2, none⟩ = some (.int .u64 p2) /\ w3.drew.cell? ⟨gp, 3, none⟩ = some (.int .u64 p3) /\ w3.drew.cell? ⟨gp, 4, none⟩ = some (.int .u64 p4) /\ w3.drew.cell? ⟨gp, 5, none⟩ = some (.int .u64 p5) /\ w3.drew.cell? ⟨w.heap.size, 1, none⟩ = some (.slice (some ⟨b, o, none⟩) xs.length c) /\ w3.drew.cell? ⟨b, o + j * 2 + 1, none⟩ = some (.int .i64 a) := ⟨(hF.out (gp) 0 (.int .u64 p0) (by simp)).1, (hF.out (gp) 1 (.int .u64 p1) (by simp)).1, (hF.out (gp) 2 (.int .u64 p2) (by simp)).1, (hF.out (gp) 3 (.int .u64 p3) (by simp)).1, (hF.out (gp) 4 (.int .u64 p4) (by simp)).1, (hF.out (gp) 5 (.int .u64 p5) (by simp)).1, (hF.out w.heap.size 1 (.slice (some ⟨b, o, none⟩) xs.length c) (by simp)).1, c1⟩
      refine Rk.begin (S := fun wS => wS.cell? ⟨gp, 0, none⟩ = some (.int .u64 p0) /\ wS.cell? ⟨gp, 1, none⟩ = some (.int .u64 p1) /\ wS.cell? ⟨gp, 2, none⟩ = some (.int .u64 p2) /\ wS.cell? ⟨gp, 3, none⟩ = some (.int .u64 p3) /\ wS.cell? ⟨gp, 4, none⟩ = some (.int .u64 p4) /\ wS.cell? ⟨gp, 5, none⟩ = some (.int .u64 p5) /\ wS.cell? ⟨w.heap.size, 1, none⟩ = some (.slice (some ⟨b, o, none⟩) xs.length c) /\ wS.cell? ⟨b, o + j * 2 + 1, none⟩ = some (.int .i64 a)) 11 (by kernel_rfl) hz9 (fun hHeld => ?_)
      refine Rk.take [11] (i := 0) (v := ?_) rfl (by kernel_rfl) (by kernel_rfl) (by kernel_rfl) (by kernel_rfl) (by kernel_rfl) (fun _ _ _ h => h) (Or.inl ⟨by kernel_rfl, ?_⟩) (by assumption) ?_
      rotate_left
      ·((intro w hSw; (try dsimp only at hSw); go_simp) <;> with_reducible rfl)
      try simp only [Act.put, List.setIfInBounds_toArray, List.set_cons_zero, List.set_cons_succ]
      refine Rk.takeP (i := 1) (v := ?_) rfl (by kernel_rfl) (by kernel_rfl) (by kernel_rfl) (by kernel_rfl) (fun _ _ _ h => h) (Or.inl ⟨by kernel_rfl, ?_⟩) (by assumption) ?_
      rotate_left
      ·((intro w hSw; go_simp) <;> with_reducible rfl)
      try simp only [Act.put, List.setIfInBounds_toArray, List.set_cons_zero, List.set_cons_succ]
      refine Rk.takeP (i := 3) (v := ?_) rfl (by kernel_rfl) (by kernel_rfl) (by kernel_rfl) (by kernel_rfl) (fun _ _ _ h => h) (Or.inl ⟨by kernel_rfl, ?_⟩) (by assumption) ?_
      rotate_left
      ·((intro w hSw; go_simp) <;> with_reducible rfl)
      try simp only [Act.put, List.setIfInBounds_toArray, List.set_cons_zero, List.set_cons_succ]
      refine Rk.take [11] (i := 4) (v := ?_) rfl (by kernel_rfl) (by kernel_rfl) (by kernel_rfl) (by kernel_rfl) (by kernel_rfl) (fun _ _ _ h => h) (Or.inl ⟨by kernel_rfl, ?_⟩) (by assumption) ?_
      rotate_left
      ·((intro w hSw; (try dsimp only at hSw); go_simp) <;> with_reducible rfl)
      try simp only [Act.put, List.setIfInBounds_toArray, List.set_cons_zero, List.set_cons_succ]
      refine Rk.takeP (i := 5) (v := ?_) rfl (by kernel_rfl) (by kernel_rfl) (by kernel_rfl) (by kernel_rfl) (fun _ _ _ h => h) (Or.inl ⟨by kernel_rfl, ?_⟩) (by assumption) ?_
      rotate_left
      ·((intro w hSw; go_simp) <;> with_reducible rfl)
      try simp only [Act.put, List.setIfInBounds_toArray, List.set_cons_zero, List.set_cons_succ]
      refine Rk.takeP (i := 6) (v := ?_) rfl (by kernel_rfl) (by kernel_rfl) (by kernel_rfl) (by kernel_rfl) (fun _ _ _ h => h) (Or.inl ⟨by kernel_rfl, ?_⟩) (by assumption) ?_
      rotate_left
      ·((intro w hSw; go_simp) <;> with_reducible rfl)
      try simp only [Act.put, List.setIfInBounds_toArray, List.set_cons_zero, List.set_cons_succ]
      refine Rk.takeP (i := 7) (v := ?_) rfl (by kernel_rfl) (by kernel_rfl) (by kernel_rfl) (by kernel_rfl) (fun _ _ _ h => h) (Or.inl ⟨by kernel_rfl, ?_⟩) (by assumption) ?_
      rotate_left
      ·((intro w hSw; go_simp) <;> with_reducible rfl)
      try simp only [Act.put, List.setIfInBounds_toArray, List.set_cons_zero, List.set_cons_succ]
      refine Rk.take [11] (i := 8) (v := ?_) rfl (by kernel_rfl) (by kernel_rfl) (by kernel_rfl) (by kernel_rfl) (by kernel_rfl) (fun _ _ _ h => h) (Or.inl ⟨by kernel_rfl, ?_⟩) (by assumption) ?_
      rotate_left
      ·((intro w hSw; (try dsimp only at hSw); go_simp) <;> with_reducible rfl)
      try simp only [Act.put, List.setIfInBounds_toArray, List.set_cons_zero, List.set_cons_succ]
      refine Rk.one (i := 2) (by kernel_rfl) rfl (fun KK hK => ?_)
      rw [if_pos (by kernel_rfl)]
      go_simp
      ((with_reducible refine (SZ.out v _ v1 v2).mono ?_); rintro e uu ⟨rfl, rfl⟩)
      refine hK.out _ _ hHeld (fun hHeld => ?_)
      clear hK KK
      refine Rk.one (i := 9) (by kernel_rfl) rfl (fun KK hK => ?_)
      rw [if_pos (by kernel_rfl)]
      go_simp
      ((with_reducible refine (SZ.out a _ a1 a2).mono ?_); rintro e uu ⟨rfl, rfl⟩)
      refine hK.out _ _ hHeld (fun hHeld => ?_)
      clear hK KK
      refine Rk.one (i := 10) (by kernel_rfl) rfl (fun KK hK => ?_)
      rw [if_pos (by kernel_rfl)]
      go_simp
      ((with_reducible refine (PL.out p0 p1 p2 p3 p4 p5 (mag v) (mag a) _ HDP.out hm1 hm2 hmv).mono ?_); rintro e u2 ⟨f0, f1, f2, f3, f4, f5, rfl, hfb, hfv, hb2⟩)
      refine hK.out _ _ ⟨kp hb2 (lt_of_cell hHeld.1) hHeld.1, kp hb2 (lt_of_cell hHeld.2.1) hHeld.2.1, kp hb2 (lt_of_cell hHeld.2.2.1) hHeld.2.2.1, kp hb2 (lt_of_cell hHeld.2.2.2.1) hHeld.2.2.2.1, kp hb2 (lt_of_cell hHeld.2.2.2.2.1) hHeld.2.2.2.2.1, kp hb2 (lt_of_cell hHeld.2.2.2.2.2.1) hHeld.2.2.2.2.2.1, kp hb2 (lt_of_cell hHeld.2.2.2.2.2.2.1) hHeld.2.2.2.2.2.2.1, kp hb2 (lt_of_cell hHeld.2.2.2.2.2.2.2) hHeld.2.2.2.2.2.2.2⟩ (fun hHeld => ?_)
      clear hK KK
      refine Rk.tail [11] [_] (by kernel_rfl) (by kernel_rfl) rfl (by decide) ?_
      have F5 := (Cl.drew hF.out).below hb2
      have K5 := (hB.drew).trans (hb2.mono hB.size)
      obtain ⟨s0, zs0⟩ := F5 (gp) 0 (.int .u64 p0) (by simp)
      obtain ⟨s1, zs1⟩ := F5 (gp) 1 (.int .u64 p1) (by simp)
      obtain ⟨s2, zs2⟩ := F5 (gp) 2 (.int .u64 p2) (by simp)
      obtain ⟨s3, zs3⟩ := F5 (gp) 3 (.int .u64 p3) (by simp)
      obtain ⟨s4, zs4⟩ := F5 (gp) 4 (.int .u64 p4) (by simp)
      obtain ⟨s5, zs5⟩ := F5 (gp) 5 (.int .u64 p5) (by simp)
      have FT : Cl ([(gp, 0, .int .u64 f0), (gp, 1, .int .u64 f1), (gp, 2, .int .u64 f2), (gp, 3, .int .u64 f3), (gp, 4, .int .u64 f4), (gp, 5, .int .u64 f5)] ++ [(gp + 1, 0, .int .u64 m0), (gp + 1, 1, .int .u64 m1), (gp + 1, 2, .int .u64 m2), (gp + 1, 3, .int .u64 m3), (gp + 1, 4, .int .u64 m4), (gp + 1, 5, .int .u64 m5), (w.heap.size, 0, .int .i64 k), (w.heap.size, 1, .slice (some ⟨b, o, none⟩) xs.length c)]) ((((((u2.setCell ⟨gp, 0, none⟩ (.int .u64 f0)).setCell ⟨gp, 1, none⟩ (.int .u64 f1)).setCell ⟨gp, 2, none⟩ (.int .u64 f2)).setCell ⟨gp, 3, none⟩ (.int .u64 f3)).setCell ⟨gp, 4, none⟩ (.int .u64 f4)).setCell ⟨gp, 5, none⟩ (.int .u64 f5)) := (put6 (F5.sub (L' := [(gp, 0, .int .u64 p0), (gp, 1, .int .u64 p1), (gp, 2, .int .u64 p2), (gp, 3, .int .u64 p3), (gp, 4, .int .u64 p4), (gp, 5, .int .u64 p5)]) (by intro x hx; simp only [List.mem_cons, List.not_mem_nil, or_false] at hx ⊢; rcases hx with h | h | h | h | h | h <;> simp [h]))).append (put6_far (F5.sub (L' := [(gp + 1, 0, .int .u64 m0), (gp + 1, 1, .int .u64 m1), (gp + 1, 2, .int .u64 m2), (gp + 1, 3, .int .u64 m3), (gp + 1, 4, .int .u64 m4), (gp + 1, 5, .int .u64 m5), (w.heap.size, 0, .int .i64 k), (w.heap.size, 1, .slice (some ⟨b, o, none⟩) xs.length c)]) (by intro x hx; simp only [List.mem_cons, List.not_mem_nil, or_false] at hx ⊢; rcases hx with h | h | h | h | h | h | h | h <;> simp [h])) (by simp only [List.forall_mem_cons]; simp; omega))
      have hF2 : Hid (Cl [(gp, 0, .int .u64 f0), (gp, 1, .int .u64 f1), (gp, 2, .int .u64 f2), (gp, 3, .int .u64 f3), (gp, 4, .int .u64 f4), (gp, 5, .int .u64 f5), (gp + 1, 0, .int .u64 m0), (gp + 1, 1, .int .u64 m1), (gp + 1, 2, .int .u64 m2), (gp + 1, 3, .int .u64 m3), (gp + 1, 4, .int .u64 m4), (gp + 1, 5, .int .u64 m5), (w.heap.size, 0, .int .i64 k), (w.heap.size, 1, .slice (some ⟨b, o, none⟩) xs.length c)] ((((((u2.setCell ⟨gp, 0, none⟩ (.int .u64 f0)).setCell ⟨gp, 1, none⟩ (.int .u64 f1)).setCell ⟨gp, 2, none⟩ (.int .u64 f2)).setCell ⟨gp, 3, none⟩ (.int .u64 f3)).setCell ⟨gp, 4, none⟩ (.int .u64 f4)).setCell ⟨gp, 5, none⟩ (.int .u64 f5))) := Lib.hid (FT.sub (by intro x hx; simp only [List.mem_cons, List.not_mem_nil, or_false, List.mem_append] at hx ⊢; rcases hx with h | h | h | h | h | h | h | h | h | h | h | h | h | h <;> simp [h]))
      have hB2 := put6_below (g := gp) (e0 := f0) (e1 := f1) (e2 := f2) (e3 := f3) (e4 := f4) (e5 := f5) K5 (by omega)
      have HDF := Lib.hid hfb
      have HFV := Lib.hid hfv
      clear hHeld hz9 F5 K5 FT hfb hfv hb2 hF hB
      have HV2 : Hid (dval f0 f1 f2 f3 f4 f5 - dval m0 m1 m2 m3 m4 m5 = k + evS es (xs.take (j + 1))) := Lib.hid (by have h1 := HFV.out; have h2 := HVJ.out; have h3 := HSUM.out; have h4 := HP9.out; have h5 := HPR.out; rw [h5] at h1; rw [h3, <- h2, h1]; omega)
      have HB2 : Hid (dval f0 f1 f2 f3 f4 f5 <= 85070591730234615865843651857942052864 * (((j + 1 : Nat) : Int) + 1) /\ dval m0 m1 m2 m3 m4 m5 <= 85070591730234615865843651857942052864 * (((j + 1 : Nat) : Int) + 1)) := Lib.hid (by have h1 := HFV.out; have h2 := HBJ.out; have h5 := HPR.out; have h6 := mpb.out; rw [h5] at h1; rw [h1]; omega)
      clear HFV HVJ HSUM HP9 HPR HBJ mpb hm1 hm2 hmv hz1 hz2 c1 q1
      go_wp2
      go_roundw
      case rel => exact ⟨j + 1, f0, f1, f2, f3, f4, f5, m0, m1, m2, m3, m4, m5, by go_num, by omega, hB2, hF2, HDF, HDN, HV2, HB2, HI2⟩
      case measure => simp [intOf]; omega
     ·have hmv : dval m0 m1 m2 m3 m4 m5 + mag v * mag a < 6277101735386680763835789423207666416102355444464034512896 := by rw [HPR.out]; have h1 := HBJ.out; have h2 := mpb.out; omega
      have HP9 := Lib.hid (HMD.out (by decide))
      clear HMS HMD
      go_wp2_with fail
      have hz9 : w3.drew.cell? ⟨gp + 1, 0, none⟩ = some (.int .u64 m0) /\ w3.drew.cell? ⟨gp + 1, 1, none⟩ = some (.int .u64 m1) /\ w3.drew.cell? ⟨gp + 1, 2, none⟩ = some (.int .u64 m2) /\ w3.drew.cell? ⟨gp + 1, 3, none⟩ = some (.int .u64 m3) /\ w3.drew.cell? ⟨gp + 1, 4, none⟩ = some (.int .u64 m4) /\ w3.drew.cell? ⟨gp + 1, 5, none⟩ = some (.int .u64 m5) /\ w3.drew.cell? ⟨w.heap.size, 1, none⟩ = some (.slice (some ⟨b, o, none⟩) xs.length c) /\ w3.drew.cell? ⟨b, o + j * 2 + 1, none⟩ = some (.int .i64 a) := ⟨(hF.out (gp + 1) 0 (.int .u64 m0) (by simp)).1, (hF.out (gp + 1) 1 (.int .u64 m1) (by simp)).1, (hF.out (gp + 1) 2 (.int .u64 m2) (by simp)).1, (hF.out (gp + 1) 3 (.int .u64 m3) (by simp)).1, (hF.out (gp + 1) 4 (.int .u64 m4) (by simp)).1, (hF.out (gp + 1) 5 (.int .u64 m5) (by simp)).1, (hF.out w.heap.size 1 (.slice (some ⟨b, o, none⟩) xs.length c) (by simp)).1, c1⟩
      refine Rk.begin (S := fun wS => wS.cell? ⟨gp + 1, 0, none⟩ = some (.int .u64 m0) /\ wS.cell? ⟨gp + 1, 1, none⟩ = some (.int .u64 m1) /\ wS.cell? ⟨gp + 1, 2, none⟩ = some (.int .u64 m2) /\ wS.cell? ⟨gp + 1, 3, none⟩ = some (.int .u64 m3) /\ wS.cell? ⟨gp + 1, 4, none⟩ = some (.int .u64 m4) /\ wS.cell? ⟨gp + 1, 5, none⟩ = some (.int .u64 m5) /\ wS.cell? ⟨w.heap.size, 1, none⟩ = some (.slice (some ⟨b, o, none⟩) xs.length c) /\ wS.cell? ⟨b, o + j * 2 + 1, none⟩ = some (.int .i64 a)) 11 (by kernel_rfl) hz9 (fun hHeld => ?_)
      refine Rk.take [11] (i := 0) (v := ?_) rfl (by kernel_rfl) (by kernel_rfl) (by kernel_rfl) (by kernel_rfl) (by kernel_rfl) (fun _ _ _ h => h) (Or.inl ⟨by kernel_rfl, ?_⟩) (by assumption) ?_
      rotate_left
      ·((intro w hSw; (try dsimp only at hSw); go_simp) <;> with_reducible rfl)
      try simp only [Act.put, List.setIfInBounds_toArray, List.set_cons_zero, List.set_cons_succ]
      refine Rk.takeP (i := 1) (v := ?_) rfl (by kernel_rfl) (by kernel_rfl) (by kernel_rfl) (by kernel_rfl) (fun _ _ _ h => h) (Or.inl ⟨by kernel_rfl, ?_⟩) (by assumption) ?_
      rotate_left
      ·((intro w hSw; go_simp) <;> with_reducible rfl)
      try simp only [Act.put, List.setIfInBounds_toArray, List.set_cons_zero, List.set_cons_succ]
      refine Rk.takeP (i := 3) (v := ?_) rfl (by kernel_rfl) (by kernel_rfl) (by kernel_rfl) (by kernel_rfl) (fun _ _ _ h => h) (Or.inl ⟨by kernel_rfl, ?_⟩) (by assumption) ?_
      rotate_left
      ·((intro w hSw; go_simp) <;> with_reducible rfl)
      try simp only [Act.put, List.setIfInBounds_toArray, List.set_cons_zero, List.set_cons_succ]
      refine Rk.take [11] (i := 4) (v := ?_) rfl (by kernel_rfl) (by kernel_rfl) (by kernel_rfl) (by kernel_rfl) (by kernel_rfl) (fun _ _ _ h => h) (Or.inl ⟨by kernel_rfl, ?_⟩) (by assumption) ?_
      rotate_left
      ·((intro w hSw; (try dsimp only at hSw); go_simp) <;> with_reducible rfl)
      try simp only [Act.put, List.setIfInBounds_toArray, List.set_cons_zero, List.set_cons_succ]
      refine Rk.takeP (i := 5) (v := ?_) rfl (by kernel_rfl) (by kernel_rfl) (by kernel_rfl) (by kernel_rfl) (fun _ _ _ h => h) (Or.inl ⟨by kernel_rfl, ?_⟩) (by assumption) ?_
      rotate_left
      ·((intro w hSw; go_simp) <;> with_reducible rfl)
      try simp only [Act.put, List.setIfInBounds_toArray, List.set_cons_zero, List.set_cons_succ]
      refine Rk.takeP (i := 6) (v := ?_) rfl (by kernel_rfl) (by kernel_rfl) (by kernel_rfl) (by kernel_rfl) (fun _ _ _ h => h) (Or.inl ⟨by kernel_rfl, ?_⟩) (by assumption) ?_
      rotate_left
      ·((intro w hSw; go_simp) <;> with_reducible rfl)
      try simp only [Act.put, List.setIfInBounds_toArray, List.set_cons_zero, List.set_cons_succ]
      refine Rk.takeP (i := 7) (v := ?_) rfl (by kernel_rfl) (by kernel_rfl) (by kernel_rfl) (by kernel_rfl) (fun _ _ _ h => h) (Or.inl ⟨by kernel_rfl, ?_⟩) (by assumption) ?_
      rotate_left
      ·((intro w hSw; go_simp) <;> with_reducible rfl)
      try simp only [Act.put, List.setIfInBounds_toArray, List.set_cons_zero, List.set_cons_succ]
      refine Rk.take [11] (i := 8) (v := ?_) rfl (by kernel_rfl) (by kernel_rfl) (by kernel_rfl) (by kernel_rfl) (by kernel_rfl) (fun _ _ _ h => h) (Or.inl ⟨by kernel_rfl, ?_⟩) (by assumption) ?_
      rotate_left
      ·((intro w hSw; (try dsimp only at hSw); go_simp) <;> with_reducible rfl)
      try simp only [Act.put, List.setIfInBounds_toArray, List.set_cons_zero, List.set_cons_succ]
      refine Rk.one (i := 2) (by kernel_rfl) rfl (fun KK hK => ?_)
      rw [if_pos (by kernel_rfl)]
      go_simp
      ((with_reducible refine (SZ.out v _ v1 v2).mono ?_); rintro e uu ⟨rfl, rfl⟩)
      refine hK.out _ _ hHeld (fun hHeld => ?_)
      clear hK KK
      refine Rk.one (i := 9) (by kernel_rfl) rfl (fun KK hK => ?_)
      rw [if_pos (by kernel_rfl)]
      go_simp
      ((with_reducible refine (SZ.out a _ a1 a2).mono ?_); rintro e uu ⟨rfl, rfl⟩)
      refine hK.out _ _ hHeld (fun hHeld => ?_)
      clear hK KK
      refine Rk.one (i := 10) (by kernel_rfl) rfl (fun KK hK => ?_)
      rw [if_pos (by kernel_rfl)]
      go_simp
      ((with_reducible refine (PL.out m0 m1 m2 m3 m4 m5 (mag v) (mag a) _ HDN.out hm1 hm2 hmv).mono ?_); rintro e u2 ⟨f0, f1, f2, f3, f4, f5, rfl, hfb, hfv, hb2⟩)
      refine hK.out _ _ ⟨kp hb2 (lt_of_cell hHeld.1) hHeld.1, kp hb2 (lt_of_cell hHeld.2.1) hHeld.2.1, kp hb2 (lt_of_cell hHeld.2.2.1) hHeld.2.2.1, kp hb2 (lt_of_cell hHeld.2.2.2.1) hHeld.2.2.2.1, kp hb2 (lt_of_cell hHeld.2.2.2.2.1) hHeld.2.2.2.2.1, kp hb2 (lt_of_cell hHeld.2.2.2.2.2.1) hHeld.2.2.2.2.2.1, kp hb2 (lt_of_cell hHeld.2.2.2.2.2.2.1) hHeld.2.2.2.2.2.2.1, kp hb2 (lt_of_cell hHeld.2.2.2.2.2.2.2) hHeld.2.2.2.2.2.2.2⟩ (fun hHeld => ?_)
      clear hK KK
      refine Rk.tail [11] [_] (by kernel_rfl) (by kernel_rfl) rfl (by decide) ?_
      have F5 := (Cl.drew hF.out).below hb2
      have K5 := (hB.drew).trans (hb2.mono hB.size)
      obtain ⟨s0, zs0⟩ := F5 (gp + 1) 0 (.int .u64 m0) (by simp)
      obtain ⟨s1, zs1⟩ := F5 (gp + 1) 1 (.int .u64 m1) (by simp)
      obtain ⟨s2, zs2⟩ := F5 (gp + 1) 2 (.int .u64 m2) (by simp)
      obtain ⟨s3, zs3⟩ := F5 (gp + 1) 3 (.int .u64 m3) (by simp)
      obtain ⟨s4, zs4⟩ := F5 (gp + 1) 4 (.int .u64 m4) (by simp)
      obtain ⟨s5, zs5⟩ := F5 (gp + 1) 5 (.int .u64 m5) (by simp)
      have FT : Cl ([(gp + 1, 0, .int .u64 f0), (gp + 1, 1, .int .u64 f1), (gp + 1, 2, .int .u64 f2), (gp + 1, 3, .int .u64 f3), (gp + 1, 4, .int .u64 f4), (gp + 1, 5, .int .u64 f5)] ++ [(gp, 0, .int .u64 p0), (gp, 1, .int .u64 p1), (gp, 2, .int .u64 p2), (gp, 3, .int .u64 p3), (gp, 4, .int .u64 p4), (gp, 5, .int .u64 p5), (w.heap.size, 0, .int .i64 k), (w.heap.size, 1, .slice (some ⟨b, o, none⟩) xs.length c)]) ((((((u2.setCell ⟨gp + 1, 0, none⟩ (.int .u64 f0)).setCell ⟨gp + 1, 1, none⟩ (.int .u64 f1)).setCell ⟨gp + 1, 2, none⟩ (.int .u64 f2)).setCell ⟨gp + 1, 3, none⟩ (.int .u64 f3)).setCell ⟨gp + 1, 4, none⟩ (.int .u64 f4)).setCell ⟨gp + 1, 5, none⟩ (.int .u64 f5)) := (put6 (F5.sub (L' := [(gp + 1, 0, .int .u64 m0), (gp + 1, 1, .int .u64 m1), (gp + 1, 2, .int .u64 m2), (gp + 1, 3, .int .u64 m3), (gp + 1, 4, .int .u64 m4), (gp + 1, 5, .int .u64 m5)]) (by intro x hx; simp only [List.mem_cons, List.not_mem_nil, or_false] at hx ⊢; rcases hx with h | h | h | h | h | h <;> simp [h]))).append (put6_far (F5.sub (L' := [(gp, 0, .int .u64 p0), (gp, 1, .int .u64 p1), (gp, 2, .int .u64 p2), (gp, 3, .int .u64 p3), (gp, 4, .int .u64 p4), (gp, 5, .int .u64 p5), (w.heap.size, 0, .int .i64 k), (w.heap.size, 1, .slice (some ⟨b, o, none⟩) xs.length c)]) (by intro x hx; simp only [List.mem_cons, List.not_mem_nil, or_false] at hx ⊢; rcases hx with h | h | h | h | h | h | h | h <;> simp [h])) (by simp only [List.forall_mem_cons]; simp; omega))
      have hF2 : Hid (Cl [(gp, 0, .int .u64 p0), (gp, 1, .int .u64 p1), (gp, 2, .int .u64 p2), (gp, 3, .int .u64 p3), (gp, 4, .int .u64 p4), (gp, 5, .int .u64 p5), (gp + 1, 0, .int .u64 f0), (gp + 1, 1, .int .u64 f1), (gp + 1, 2, .int .u64 f2), (gp + 1, 3, .int .u64 f3), (gp + 1, 4, .int .u64 f4), (gp + 1, 5, .int .u64 f5), (w.heap.size, 0, .int .i64 k), (w.heap.size, 1, .slice (some ⟨b, o, none⟩) xs.length c)] ((((((u2.setCell ⟨gp + 1, 0, none⟩ (.int .u64 f0)).setCell ⟨gp + 1, 1, none⟩ (.int .u64 f1)).setCell ⟨gp + 1, 2, none⟩ (.int .u64 f2)).setCell ⟨gp + 1, 3, none⟩ (.int .u64 f3)).setCell ⟨gp + 1, 4, none⟩ (.int .u64 f4)).setCell ⟨gp + 1, 5, none⟩ (.int .u64 f5))) := Lib.hid (FT.sub (by intro x hx; simp only [List.mem_cons, List.not_mem_nil, or_false, List.mem_append] at hx ⊢; rcases hx with h | h | h | h | h | h | h | h | h | h | h | h | h | h <;> simp [h]))
      have hB2 := put6_below (g := gp + 1) (e0 := f0) (e1 := f1) (e2 := f2) (e3 := f3) (e4 := f4) (e5 := f5) K5 (by omega)
      have HDF := Lib.hid hfb
      have HFV := Lib.hid hfv
      clear hHeld hz9 F5 K5 FT hfb hfv hb2 hF hB
      have HV2 : Hid (dval p0 p1 p2 p3 p4 p5 - dval f0 f1 f2 f3 f4 f5 = k + evS es (xs.take (j + 1))) := Lib.hid (by have h1 := HFV.out; have h2 := HVJ.out; have h3 := HSUM.out; have h4 := HP9.out; have h5 := HPR.out; rw [h5] at h1; rw [h3, <- h2, h1]; omega)
      have HB2 : Hid (dval p0 p1 p2 p3 p4 p5 <= 85070591730234615865843651857942052864 * (((j + 1 : Nat) : Int) + 1) /\ dval f0 f1 f2 f3 f4 f5 <= 85070591730234615865843651857942052864 * (((j + 1 : Nat) : Int) + 1)) := Lib.hid (by have h1 := HFV.out; have h2 := HBJ.out; have h5 := HPR.out; have h6 := mpb.out; rw [h5] at h1; rw [h1]; omega)
      clear HFV HVJ HSUM HP9 HPR HBJ mpb hm1 hm2 hmv hz1 hz2 c1 q1
      go_wp2
      go_roundw
      case rel => exact ⟨j + 1, p0, p1, p2, p3, p4, p5, f0, f1, f2, f3, f4, f5, by go_num, by omega, hB2, hF2, HDP, HDF, HV2, HB2, HI2⟩
      case measure => simp [intOf]; omega
     ·have hmv : dval m0 m1 m2 m3 m4 m5 + mag v * mag a < 6277101735386680763835789423207666416102355444464034512896 := by rw [HPR.out]; have h1 := HBJ.out; have h2 := mpb.out; omega
      have HP9 := Lib.hid (HMD.out (by decide))
      clear HMS HMD
      go_wp2_with fail
      have hz9 : w3.drew.cell? ⟨gp + 1, 0, none⟩ = some (.int .u64 m0) /\ w3.drew.cell? ⟨gp + 1, 1, none⟩ = some (.int .u64 m1) /\ w3.drew.cell? ⟨gp + 1, 2, none⟩ = some (.int .u64 m2) /\ w3.drew.cell? ⟨gp + 1, 3, none⟩ = some (.int .u64 m3) /\ w3.drew.cell? ⟨gp + 1, 4, none⟩ = some (.int .u64 m4) /\ w3.drew.cell? ⟨gp + 1, 5, none⟩ = some (.int .u64 m5) /\ w3.drew.cell? ⟨w.heap.size, 1, none⟩ = some (.slice (some ⟨b, o, none⟩) xs.length c) /\ w3.drew.cell? ⟨b, o + j * 2 + 1, none⟩ = some (.int .i64 a) := ⟨(hF.out (gp + 1) 0 (.int .u64 m0) (by simp)).1, (hF.out (gp + 1) 1 (.int .u64 m1) (by simp)).1, (hF.out (gp + 1) 2 (.int .u64 m2) (by simp)).1, (hF.out (gp + 1) 3 (.int .u64 m3) (by simp)).1, (hF.out (gp + 1) 4 (.int .u64 m4) (by simp)).1, (hF.out (gp + 1) 5 (.int .u64 m5) (by simp)).1, (hF.out w.heap.size 1 (.slice (some ⟨b, o, none⟩) xs.length c) (by simp)).1, c1⟩
      refine Rk.begin (S := fun wS => wS.cell? ⟨gp + 1, 0, none⟩ = some (.int .u64 m0) /\ wS.cell? ⟨gp + 1, 1, none⟩ = some (.int .u64 m1) /\ wS.cell? ⟨gp + 1, 2, none⟩ = some (.int .u64 m2) /\ wS.cell? ⟨gp + 1, 3, none⟩ = some (.int .u64 m3) /\ wS.cell? ⟨gp + 1, 4, none⟩ = some (.int .u64 m4) /\ wS.cell? ⟨gp + 1, 5, none⟩ = some (.int .u64 m5) /\ wS.cell? ⟨w.heap.size, 1, none⟩ = some (.slice (some ⟨b, o, none⟩) xs.length c) /\ wS.cell? ⟨b, o + j * 2 + 1, none⟩ = some (.int .i64 a)) 11 (by kernel_rfl) hz9 (fun hHeld => ?_)
      refine Rk.take [11] (i := 0) (v := ?_) rfl (by kernel_rfl) (by kernel_rfl) (by kernel_rfl) (by kernel_rfl) (by kernel_rfl) (fun _ _ _ h => h) (Or.inl ⟨by kernel_rfl, ?_⟩) (by assumption) ?_
      rotate_left
      ·((intro w hSw; (try dsimp only at hSw); go_simp) <;> with_reducible rfl)
      try simp only [Act.put, List.setIfInBounds_toArray, List.set_cons_zero, List.set_cons_succ]
      refine Rk.takeP (i := 1) (v := ?_) rfl (by kernel_rfl) (by kernel_rfl) (by kernel_rfl) (by kernel_rfl) (fun _ _ _ h => h) (Or.inl ⟨by kernel_rfl, ?_⟩) (by assumption) ?_
      rotate_left
      ·((intro w hSw; go_simp) <;> with_reducible rfl)
      try simp only [Act.put, List.setIfInBounds_toArray, List.set_cons_zero, List.set_cons_succ]
      refine Rk.takeP (i := 3) (v := ?_) rfl (by kernel_rfl) (by kernel_rfl) (by kernel_rfl) (by kernel_rfl) (fun _ _ _ h => h) (Or.inl ⟨by kernel_rfl, ?_⟩) (by assumption) ?_
      rotate_left
      ·((intro w hSw; go_simp) <;> with_reducible rfl)
      try simp only [Act.put, List.setIfInBounds_toArray, List.set_cons_zero, List.set_cons_succ]
      refine Rk.take [11] (i := 4) (v := ?_) rfl (by kernel_rfl) (by kernel_rfl) (by kernel_rfl) (by kernel_rfl) (by kernel_rfl) (fun _ _ _ h => h) (Or.inl ⟨by kernel_rfl, ?_⟩) (by assumption) ?_
      rotate_left
      ·((intro w hSw; (try dsimp only at hSw); go_simp) <;> with_reducible rfl)
      try simp only [Act.put, List.setIfInBounds_toArray, List.set_cons_zero, List.set_cons_succ]
      refine Rk.takeP (i := 5) (v := ?_) rfl (by kernel_rfl) (by kernel_rfl) (by kernel_rfl) (by kernel_rfl) (fun _ _ _ h => h) (Or.inl ⟨by kernel_rfl, ?_⟩) (by assumption) ?_
      rotate_left
      ·((intro w hSw; go_simp) <;> with_reducible rfl)
      try simp only [Act.put, List.setIfInBounds_toArray, List.set_cons_zero, List.set_cons_succ]
      refine Rk.takeP (i := 6) (v := ?_) rfl (by kernel_rfl) (by kernel_rfl) (by kernel_rfl) (by kernel_rfl) (fun _ _ _ h => h) (Or.inl ⟨by kernel_rfl, ?_⟩) (by assumption) ?_
      rotate_left
      ·((intro w hSw; go_simp) <;> with_reducible rfl)
      try simp only [Act.put, List.setIfInBounds_toArray, List.set_cons_zero, List.set_cons_succ]
      refine Rk.takeP (i := 7) (v := ?_) rfl (by kernel_rfl) (by kernel_rfl) (by kernel_rfl) (by kernel_rfl) (fun _ _ _ h => h) (Or.inl ⟨by kernel_rfl, ?_⟩) (by assumption) ?_
      rotate_left
      ·((intro w hSw; go_simp) <;> with_reducible rfl)
      try simp only [Act.put, List.setIfInBounds_toArray, List.set_cons_zero, List.set_cons_succ]
      refine Rk.take [11] (i := 8) (v := ?_) rfl (by kernel_rfl) (by kernel_rfl) (by kernel_rfl) (by kernel_rfl) (by kernel_rfl) (fun _ _ _ h => h) (Or.inl ⟨by kernel_rfl, ?_⟩) (by assumption) ?_
      rotate_left
      ·((intro w hSw; (try dsimp only at hSw); go_simp) <;> with_reducible rfl)
      try simp only [Act.put, List.setIfInBounds_toArray, List.set_cons_zero, List.set_cons_succ]
      refine Rk.one (i := 2) (by kernel_rfl) rfl (fun KK hK => ?_)
      rw [if_pos (by kernel_rfl)]
      go_simp
      ((with_reducible refine (SZ.out v _ v1 v2).mono ?_); rintro e uu ⟨rfl, rfl⟩)
      refine hK.out _ _ hHeld (fun hHeld => ?_)
      clear hK KK
      refine Rk.one (i := 9) (by kernel_rfl) rfl (fun KK hK => ?_)
      rw [if_pos (by kernel_rfl)]
      go_simp
      ((with_reducible refine (SZ.out a _ a1 a2).mono ?_); rintro e uu ⟨rfl, rfl⟩)
      refine hK.out _ _ hHeld (fun hHeld => ?_)
      clear hK KK
      refine Rk.one (i := 10) (by kernel_rfl) rfl (fun KK hK => ?_)
      rw [if_pos (by kernel_rfl)]
      go_simp
      ((with_reducible refine (PL.out m0 m1 m2 m3 m4 m5 (mag v) (mag a) _ HDN.out hm1 hm2 hmv).mono ?_); rintro e u2 ⟨f0, f1, f2, f3, f4, f5, rfl, hfb, hfv, hb2⟩)
      refine hK.out _ _ ⟨kp hb2 (lt_of_cell hHeld.1) hHeld.1, kp hb2 (lt_of_cell hHeld.2.1) hHeld.2.1, kp hb2 (lt_of_cell hHeld.2.2.1) hHeld.2.2.1, kp hb2 (lt_of_cell hHeld.2.2.2.1) hHeld.2.2.2.1, kp hb2 (lt_of_cell hHeld.2.2.2.2.1) hHeld.2.2.2.2.1, kp hb2 (lt_of_cell hHeld.2.2.2.2.2.1) hHeld.2.2.2.2.2.1, kp hb2 (lt_of_cell hHeld.2.2.2.2.2.2.1) hHeld.2.2.2.2.2.2.1, kp hb2 (lt_of_cell hHeld.2.2.2.2.2.2.2) hHeld.2.2.2.2.2.2.2⟩ (fun hHeld => ?_)
      clear hK KK
      refine Rk.tail [11] [_] (by kernel_rfl) (by kernel_rfl) rfl (by decide) ?_
      have F5 := (Cl.drew hF.out).below hb2
      have K5 := (hB.drew).trans (hb2.mono hB.size)
      obtain ⟨s0, zs0⟩ := F5 (gp + 1) 0 (.int .u64 m0) (by simp)
      obtain ⟨s1, zs1⟩ := F5 (gp + 1) 1 (.int .u64 m1) (by simp)
      obtain ⟨s2, zs2⟩ := F5 (gp + 1) 2 (.int .u64 m2) (by simp)
      obtain ⟨s3, zs3⟩ := F5 (gp + 1) 3 (.int .u64 m3) (by simp)
      obtain ⟨s4, zs4⟩ := F5 (gp + 1) 4 (.int .u64 m4) (by simp)
      obtain ⟨s5, zs5⟩ := F5 (gp + 1) 5 (.int .u64 m5) (by simp)
      have FT : Cl ([(gp + 1, 0, .int .u64 f0), (gp + 1, 1, .int .u64 f1), (gp + 1, 2, .int .u64 f2), (gp + 1, 3, .int .u64 f3), (gp + 1, 4, .int .u64 f4), (gp + 1, 5, .int .u64 f5)] ++ [(gp, 0, .int .u64 p0), (gp, 1, .int .u64 p1), (gp, 2, .int .u64 p2), (gp, 3, .int .u64 p3), (gp, 4, .int .u64 p4), (gp, 5, .int .u64 p5), (w.heap.size, 0, .int .i64 k), (w.heap.size, 1, .slice (some ⟨b, o, none⟩) xs.length c)]) ((((((u2.setCell ⟨gp + 1, 0, none⟩ (.int .u64 f0)).setCell ⟨gp + 1, 1, none⟩ (.int .u64 f1)).setCell ⟨gp + 1, 2, none⟩ (.int .u64 f2)).setCell ⟨gp + 1, 3, none⟩ (.int .u64 f3)).setCell ⟨gp + 1, 4, none⟩ (.int .u64 f4)).setCell ⟨gp + 1, 5, none⟩ (.int .u64 f5)) := (put6 (F5.sub (L' := [(gp + 1, 0, .int .u64 m0), (gp + 1, 1, .int .u64 m1), (gp + 1, 2, .int .u64 m2), (gp + 1, 3, .int .u64 m3), (gp + 1, 4, .int .u64 m4), (gp + 1, 5, .int .u64 m5)]) (by intro x hx; simp only [List.mem_cons, List.not_mem_nil, or_false] at hx ⊢; rcases hx with h | h | h | h | h | h <;> simp [h]))).append (put6_far (F5.sub (L' := [(gp, 0, .int .u64 p0), (gp, 1, .int .u64 p1), (gp, 2, .int .u64 p2), (gp, 3, .int .u64 p3), (gp, 4, .int .u64 p4), (gp, 5, .int .u64 p5), (w.heap.size, 0, .int .i64 k), (w.heap.size, 1, .slice (some ⟨b, o, none⟩) xs.length c)]) (by intro x hx; simp only [List.mem_cons, List.not_mem_nil, or_false] at hx ⊢; rcases hx with h | h | h | h | h | h | h | h <;> simp [h])) (by simp only [List.forall_mem_cons]; simp; omega))
      have hF2 : Hid (Cl [(gp, 0, .int .u64 p0), (gp, 1, .int .u64 p1), (gp, 2, .int .u64 p2), (gp, 3, .int .u64 p3), (gp, 4, .int .u64 p4), (gp, 5, .int .u64 p5), (gp + 1, 0, .int .u64 f0), (gp + 1, 1, .int .u64 f1), (gp + 1, 2, .int .u64 f2), (gp + 1, 3, .int .u64 f3), (gp + 1, 4, .int .u64 f4), (gp + 1, 5, .int .u64 f5), (w.heap.size, 0, .int .i64 k), (w.heap.size, 1, .slice (some ⟨b, o, none⟩) xs.length c)] ((((((u2.setCell ⟨gp + 1, 0, none⟩ (.int .u64 f0)).setCell ⟨gp + 1, 1, none⟩ (.int .u64 f1)).setCell ⟨gp + 1, 2, none⟩ (.int .u64 f2)).setCell ⟨gp + 1, 3, none⟩ (.int .u64 f3)).setCell ⟨gp + 1, 4, none⟩ (.int .u64 f4)).setCell ⟨gp + 1, 5, none⟩ (.int .u64 f5))) := Lib.hid (FT.sub (by intro x hx; simp only [List.mem_cons, List.not_mem_nil, or_false, List.mem_append] at hx ⊢; rcases hx with h | h | h | h | h | h | h | h | h | h | h | h | h | h <;> simp [h]))
      have hB2 := put6_below (g := gp + 1) (e0 := f0) (e1 := f1) (e2 := f2) (e3 := f3) (e4 := f4) (e5 := f5) K5 (by omega)
      have HDF := Lib.hid hfb
      have HFV := Lib.hid hfv
      clear hHeld hz9 F5 K5 FT hfb hfv hb2 hF hB
      have HV2 : Hid (dval p0 p1 p2 p3 p4 p5 - dval f0 f1 f2 f3 f4 f5 = k + evS es (xs.take (j + 1))) := Lib.hid (by have h1 := HFV.out; have h2 := HVJ.out; have h3 := HSUM.out; have h4 := HP9.out; have h5 := HPR.out; rw [h5] at h1; rw [h3, <- h2, h1]; omega)
      have HB2 : Hid (dval p0 p1 p2 p3 p4 p5 <= 85070591730234615865843651857942052864 * (((j + 1 : Nat) : Int) + 1) /\ dval f0 f1 f2 f3 f4 f5 <= 85070591730234615865843651857942052864 * (((j + 1 : Nat) : Int) + 1)) := Lib.hid (by have h1 := HFV.out; have h2 := HBJ.out; have h5 := HPR.out; have h6 := mpb.out; rw [h5] at h1; rw [h1]; omega)
      clear HFV HVJ HSUM HP9 HPR HBJ mpb hm1 hm2 hmv hz1 hz2 c1 q1
      go_wp2
      go_roundw
      case rel => exact ⟨j + 1, p0, p1, p2, p3, p4, p5, f0, f1, f2, f3, f4, f5, by go_num, by omega, hB2, hF2, HDP, HDF, HV2, HB2, HI2⟩
      case measure => simp [intOf]; omega
     ·have hmv : dval p0 p1 p2 p3 p4 p5 + mag v * mag a < 6277101735386680763835789423207666416102355444464034512896 := by rw [HPR.out]; have h1 := HBJ.out; have h2 := mpb.out; omega
      have HP9 := Lib.hid (HMS.out rfl)
      clear HMS HMD
      go_wp2_with fail
      have hz9 : w3.drew.cell? ⟨gp, 0, none⟩ = some (.int .u64 p0) /\ w3.drew.cell? ⟨gp, 1, none⟩ = some (.int .u64 p1) /\ w3.drew.cell? ⟨gp, 2, none⟩ = some (.int .u64 p2) /\ w3.drew.cell? ⟨gp, 3, none⟩ = some (.int .u64 p3) /\ w3.drew.cell? ⟨gp, 4, none⟩ = some (.int .u64 p4) /\ w3.drew.cell? ⟨gp, 5, none⟩ = some (.int .u64 p5) /\ w3.drew.cell? ⟨w.heap.size, 1, none⟩ = some (.slice (some ⟨b, o, none⟩) xs.length c) /\ w3.drew.cell? ⟨b, o + j * 2 + 1, none⟩ = some (.int .i64 a) := ⟨(hF.out (gp) 0 (.int .u64 p0) (by simp)).1, (hF.out (gp) 1 (.int .u64 p1) (by simp)).1, (hF.out (gp) 2 (.int .u64 p2) (by simp)).1, (hF.out (gp) 3 (.int .u64 p3) (by simp)).1, (hF.out (gp) 4 (.int .u64 p4) (by simp)).1, (hF.out (gp) 5 (.int .u64 p5) (by simp)).1, (hF.out w.heap.size 1 (.slice (some ⟨b, o, none⟩) xs.length c) (by simp)).1, c1⟩
      refine Rk.begin (S := fun wS => wS.cell? ⟨gp, 0, none⟩ = some (.int .u64 p0) /\ wS.cell? ⟨gp, 1, none⟩ = some (.int .u64 p1) /\ wS.cell? ⟨gp, 2, none⟩ = some (.int .u64 p2) /\ wS.cell? ⟨gp, 3, none⟩ = some (.int .u64 p3) /\ wS.cell? ⟨gp, 4, none⟩ = some (.int .u64 p4) /\ wS.cell? ⟨gp, 5, none⟩ = some (.int .u64 p5) /\ wS.cell? ⟨w.heap.size, 1, none⟩ = some (.slice (some ⟨b, o, none⟩) xs.length c) /\ wS.cell? ⟨b, o + j * 2 + 1, none⟩ = some (.int .i64 a)) 11 (by kernel_rfl) hz9 (fun hHeld => ?_)
      refine Rk.take [11] (i := 0) (v := ?_) rfl (by kernel_rfl) (by kernel_rfl) (by kernel_rfl) (by kernel_rfl) (by kernel_rfl) (fun _ _ _ h => h) (Or.inl ⟨by kernel_rfl, ?_⟩) (by assumption) ?_
      rotate_left
      ·((intro w hSw; (try dsimp only at hSw); go_simp) <;> with_reducible rfl)
      try simp only [Act.put, List.setIfInBounds_toArray, List.set_cons_zero, List.set_cons_succ]
      refine Rk.takeP (i := 1) (v := ?_) rfl (by kernel_rfl) (by kernel_rfl) (by kernel_rfl) (by kernel_rfl) (fun _ _ _ h => h) (Or.inl ⟨by kernel_rfl, ?_⟩) (by assumption) ?_
      rotate_left
      ·((intro w hSw; go_simp) <;> with_reducible rfl)
      try simp only [Act.put, List.setIfInBounds_toArray, List.set_cons_zero, List.set_cons_succ]
      refine Rk.takeP (i := 3) (v := ?_) rfl (by kernel_rfl) (by kernel_rfl) (by kernel_rfl) (by kernel_rfl) (fun _ _ _ h => h) (Or.inl ⟨by kernel_rfl, ?_⟩) (by assumption) ?_
      rotate_left
      ·((intro w hSw; go_simp) <;> with_reducible rfl)
      try simp only [Act.put, List.setIfInBounds_toArray, List.set_cons_zero, List.set_cons_succ]
      refine Rk.take [11] (i := 4) (v := ?_) rfl (by kernel_rfl) (by kernel_rfl) (by kernel_rfl) (by kernel_rfl) (by kernel_rfl) (fun _ _ _ h => h) (Or.inl ⟨by kernel_rfl, ?_⟩) (by assumption) ?_
      rotate_left
      ·((intro w hSw; (try dsimp only at hSw); go_simp) <;> with_reducible rfl)
      try simp only [Act.put, List.setIfInBounds_toArray, List.set_cons_zero, List.set_cons_succ]
      refine Rk.takeP (i := 5) (v := ?_) rfl (by kernel_rfl) (by kernel_rfl) (by kernel_rfl) (by kernel_rfl) (fun _ _ _ h => h) (Or.inl ⟨by kernel_rfl, ?_⟩) (by assumption) ?_
      rotate_left
      ·((intro w hSw; go_simp) <;> with_reducible rfl)
      try simp only [Act.put, List.setIfInBounds_toArray, List.set_cons_zero, List.set_cons_succ]
      refine Rk.takeP (i := 6) (v := ?_) rfl (by kernel_rfl) (by kernel_rfl) (by kernel_rfl) (by kernel_rfl) (fun _ _ _ h => h) (Or.inl ⟨by kernel_rfl, ?_⟩) (by assumption) ?_
      rotate_left
      ·((intro w hSw; go_simp) <;> with_reducible rfl)
      try simp only [Act.put, List.setIfInBounds_toArray, List.set_cons_zero, List.set_cons_succ]
      refine Rk.takeP (i := 7) (v := ?_) rfl (by kernel_rfl) (by kernel_rfl) (by kernel_rfl) (by kernel_rfl) (fun _ _ _ h => h) (Or.inl ⟨by kernel_rfl, ?_⟩) (by assumption) ?_
      rotate_left
      ·((intro w hSw; go_simp) <;> with_reducible rfl)
      try simp only [Act.put, List.setIfInBounds_toArray, List.set_cons_zero, List.set_cons_succ]
      refine Rk.take [11] (i := 8) (v := ?_) rfl (by kernel_rfl) (by kernel_rfl) (by kernel_rfl) (by kernel_rfl) (by kernel_rfl) (fun _ _ _ h => h) (Or.inl ⟨by kernel_rfl, ?_⟩) (by assumption) ?_
      rotate_left
      ·((intro w hSw; (try dsimp only at hSw); go_simp) <;> with_reducible rfl)
      try simp only [Act.put, List.setIfInBounds_toArray, List.set_cons_zero, List.set_cons_succ]
      refine Rk.one (i := 2) (by kernel_rfl) rfl (fun KK hK => ?_)
      rw [if_pos (by kernel_rfl)]
      go_simp
      ((with_reducible refine (SZ.out v _ v1 v2).mono ?_); rintro e uu ⟨rfl, rfl⟩)
      refine hK.out _ _ hHeld (fun hHeld => ?_)
      clear hK KK
      refine Rk.one (i := 9) (by kernel_rfl) rfl (fun KK hK => ?_)
      rw [if_pos (by kernel_rfl)]
      go_simp
      ((with_reducible refine (SZ.out a _ a1 a2).mono ?_); rintro e uu ⟨rfl, rfl⟩)
      refine hK.out _ _ hHeld (fun hHeld => ?_)
      clear hK KK
      refine Rk.one (i := 10) (by kernel_rfl) rfl (fun KK hK => ?_)
      rw [if_pos (by kernel_rfl)]
      go_simp
      ((with_reducible refine (PL.out p0 p1 p2 p3 p4 p5 (mag v) (mag a) _ HDP.out hm1 hm2 hmv).mono ?_); rintro e u2 ⟨f0, f1, f2, f3, f4, f5, rfl, hfb, hfv, hb2⟩)
      refine hK.out _ _ ⟨kp hb2 (lt_of_cell hHeld.1) hHeld.1, kp hb2 (lt_of_cell hHeld.2.1) hHeld.2.1, kp hb2 (lt_of_cell hHeld.2.2.1) hHeld.2.2.1, kp hb2 (lt_of_cell hHeld.2.2.2.1) hHeld.2.2.2.1, kp hb2 (lt_of_cell hHeld.2.2.2.2.1) hHeld.2.2.2.2.1, kp hb2 (lt_of_cell hHeld.2.2.2.2.2.1) hHeld.2.2.2.2.2.1, kp hb2 (lt_of_cell hHeld.2.2.2.2.2.2.1) hHeld.2.2.2.2.2.2.1, kp hb2 (lt_of_cell hHeld.2.2.2.2.2.2.2) hHeld.2.2.2.2.2.2.2⟩ (fun hHeld => ?_)
      clear hK KK
      refine Rk.tail [11] [_] (by kernel_rfl) (by kernel_rfl) rfl (by decide) ?_
      have F5 := (Cl.drew hF.out).below hb2
      have K5 := (hB.drew).trans (hb2.mono hB.size)
      obtain ⟨s0, zs0⟩ := F5 (gp) 0 (.int .u64 p0) (by simp)
      obtain ⟨s1, zs1⟩ := F5 (gp) 1 (.int .u64 p1) (by simp)
      obtain ⟨s2, zs2⟩ := F5 (gp) 2 (.int .u64 p2) (by simp)
      obtain ⟨s3, zs3⟩ := F5 (gp) 3 (.int .u64 p3) (by simp)
      obtain ⟨s4, zs4⟩ := F5 (gp) 4 (.int .u64 p4) (by simp)
      obtain ⟨s5, zs5⟩ := F5 (gp) 5 (.int .u64 p5) (by simp)
      have FT : Cl ([(gp, 0, .int .u64 f0), (gp, 1, .int .u64 f1), (gp, 2, .int .u64 f2), (gp, 3, .int .u64 f3), (gp, 4, .int .u64 f4), (gp, 5, .int .u64 f5)] ++ [(gp + 1, 0, .int .u64 m0), (gp + 1, 1, .int .u64 m1), (gp + 1, 2, .int .u64 m2), (gp + 1, 3, .int .u64 m3), (gp + 1, 4, .int .u64 m4), (gp + 1, 5, .int .u64 m5), (w.heap.size, 0, .int .i64 k), (w.heap.size, 1, .slice (some ⟨b, o, none⟩) xs.length c)]) ((((((u2.setCell ⟨gp, 0, none⟩ (.int .u64 f0)).setCell ⟨gp, 1, none⟩ (.int .u64 f1)).setCell ⟨gp, 2, none⟩ (.int .u64 f2)).setCell ⟨gp, 3, none⟩ (.int .u64 f3)).setCell ⟨gp, 4, none⟩ (.int .u64 f4)).setCell ⟨gp, 5, none⟩ (.int .u64 f5)) := (put6 (F5.sub (L' := [(gp, 0, .int .u64 p0), (gp, 1, .int .u64 p1), (gp, 2, .int .u64 p2), (gp, 3, .int .u64 p3), (gp, 4, .int .u64 p4), (gp, 5, .int .u64 p5)]) (by intro x hx; simp only [List.mem_cons, List.not_mem_nil, or_false] at hx ⊢; rcases hx with h | h | h | h | h | h <;> simp [h]))).append (put6_far (F5.sub (L' := [(gp + 1, 0, .int .u64 m0), (gp + 1, 1, .int .u64 m1), (gp + 1, 2, .int .u64 m2), (gp + 1, 3, .int .u64 m3), (gp + 1, 4, .int .u64 m4), (gp + 1, 5, .int .u64 m5), (w.heap.size, 0, .int .i64 k), (w.heap.size, 1, .slice (some ⟨b, o, none⟩) xs.length c)]) (by intro x hx; simp only [List.mem_cons, List.not_mem_nil, or_false] at hx ⊢; rcases hx with h | h | h | h | h | h | h | h <;> simp [h])) (by simp only [List.forall_mem_cons]; simp; omega))
      have hF2 : Hid (Cl [(gp, 0, .int .u64 f0), (gp, 1, .int .u64 f1), (gp, 2, .int .u64 f2), (gp, 3, .int .u64 f3), (gp, 4, .int .u64 f4), (gp, 5, .int .u64 f5), (gp + 1, 0, .int .u64 m0), (gp + 1, 1, .int .u64 m1), (gp + 1, 2, .int .u64 m2), (gp + 1, 3, .int .u64 m3), (gp + 1, 4, .int .u64 m4), (gp + 1, 5, .int .u64 m5), (w.heap.size, 0, .int .i64 k), (w.heap.size, 1, .slice (some ⟨b, o, none⟩) xs.length c)] ((((((u2.setCell ⟨gp, 0, none⟩ (.int .u64 f0)).setCell ⟨gp, 1, none⟩ (.int .u64 f1)).setCell ⟨gp, 2, none⟩ (.int .u64 f2)).setCell ⟨gp, 3, none⟩ (.int .u64 f3)).setCell ⟨gp, 4, none⟩ (.int .u64 f4)).setCell ⟨gp, 5, none⟩ (.int .u64 f5))) := Lib.hid (FT.sub (by intro x hx; simp only [List.mem_cons, List.not_mem_nil, or_false, List.mem_append] at hx ⊢; rcases hx with h | h | h | h | h | h | h | h | h | h | h | h | h | h <;> simp [h]))
      have hB2 := put6_below (g := gp) (e0 := f0) (e1 := f1) (e2 := f2) (e3 := f3) (e4 := f4) (e5 := f5) K5 (by omega)
      have HDF := Lib.hid hfb
      have HFV := Lib.hid hfv
      clear hHeld hz9 F5 K5 FT hfb hfv hb2 hF hB
      have HV2 : Hid (dval f0 f1 f2 f3 f4 f5 - dval m0 m1 m2 m3 m4 m5 = k + evS es (xs.take (j + 1))) := Lib.hid (by have h1 := HFV.out; have h2 := HVJ.out; have h3 := HSUM.out; have h4 := HP9.out; have h5 := HPR.out; rw [h5] at h1; rw [h3, <- h2, h1]; omega)
      have HB2 : Hid (dval f0 f1 f2 f3 f4 f5 <= 85070591730234615865843651857942052864 * (((j + 1 : Nat) : Int) + 1) /\ dval m0 m1 m2 m3 m4 m5 <= 85070591730234615865843651857942052864 * (((j + 1 : Nat) : Int) + 1)) := Lib.hid (by have h1 := HFV.out; have h2 := HBJ.out; have h5 := HPR.out; have h6 := mpb.out; rw [h5] at h1; rw [h1]; omega)
      clear HFV HVJ HSUM HP9 HPR HBJ mpb hm1 hm2 hmv hz1 hz2 c1 q1
      go_wp2
      go_roundw
      case rel => exact ⟨j + 1, f0, f1, f2, f3, f4, f5, m0, m1, m2, m3, m4, m5, by go_num, by omega, hB2, hF2, HDF, HDN, HV2, HB2, HI2⟩
      case measure => simp [intOf]; omega
   ·have j1 : ¬ (j : Int) < xs.length := by omega
    obtain rfl : j = xs.length := by omega
    have q1 := (hF.out w.heap.size 1 (.slice p xs.length c) (by simp)).1
    have hvl := HVJ.out
    have hi4 := HI.out
    rw [List.take_length] at hvl hi4
    have HVL := Lib.hid hvl
    have HI4 := Lib.hid hi4
    have hF4 := hF.out
    have hpn := dval_nn HDP.out
    have hnn := dval_nn HDN.out
    clear hF HVJ HI HBJ hvl hi4
    by_cases hlt : dval p0 p1 p2 p3 p4 p5 < dval m0 m1 m2 m3 m4 m5
    ·have hd : decide (dval p0 p1 p2 p3 p4 p5 < dval m0 m1 m2 m3 m4 m5) = true := decide_eq_true hlt
     obtain ⟨DD, hDD⟩ : ∃ D, dval m0 m1 m2 m3 m4 m5 - dval p0 p1 p2 p3 p4 p5 = D := ⟨_, rfl⟩
     have HPOS := Lib.hid (show 0 < DD by omega)
     have HS := Lib.hid (show k + evS es xs = -DD by have := HVL.out; omega)
     have HNO : Hid (9223372036854775808 < DD -> EV k xs es 0 3) := Lib.hid fun h => .inr (.inr (.inr ⟨HK.out, HI4.out, by rw [HS.out]; cases hf : fit64 (-DD) with | false => rfl | true => have := fit_yes.1 hf; omega, rfl, rfl⟩))
     have HYES : Hid (DD <= 9223372036854775808 -> EV k xs es (-DD) 0) := Lib.hid fun h => .inr (.inr (.inl ⟨HK.out, HI4.out, by rw [HS.out]; exact fit_yes.2 (by have := HPOS.out; omega), HS.out.symm, rfl⟩))
     have CM := Lib.hid fun u => MI.out m0 m1 m2 m3 m4 m5 p0 p1 p2 p3 p4 p5 u HDN.out HDP.out (by omega)
     rw [hDD] at CM
     clear hDD hlt
     obtain ⟨s0, _⟩ := hF4 gp 0 (.int .u64 p0) (by simp)
     obtain ⟨t0, _⟩ := hF4 (gp + 1) 0 (.int .u64 m0) (by simp)
     obtain ⟨s1, _⟩ := hF4 gp 1 (.int .u64 p1) (by simp)
     obtain ⟨t1, _⟩ := hF4 (gp + 1) 1 (.int .u64 m1) (by simp)
     obtain ⟨s2, _⟩ := hF4 gp 2 (.int .u64 p2) (by simp)
     obtain ⟨t2, _⟩ := hF4 (gp + 1) 2 (.int .u64 m2) (by simp)
     obtain ⟨s3, _⟩ := hF4 gp 3 (.int .u64 p3) (by simp)
     obtain ⟨t3, _⟩ := hF4 (gp + 1) 3 (.int .u64 m3) (by simp)
     obtain ⟨s4, _⟩ := hF4 gp 4 (.int .u64 p4) (by simp)
     obtain ⟨t4, _⟩ := hF4 (gp + 1) 4 (.int .u64 m4) (by simp)
     obtain ⟨s5, _⟩ := hF4 gp 5 (.int .u64 p5) (by simp)
     obtain ⟨t5, _⟩ := hF4 (gp + 1) 5 (.int .u64 m5) (by simp)
     go_wp2_with fail
     refine (LE.out m0 m1 m2 m3 m4 m5 p0 p1 p2 p3 p4 p5 _ HDP.out HDN.out).mono ?_
     rintro e w4 ⟨rfl, hb⟩
     replace hF4 := hF4.below hb
     replace hB := hB.trans (hb.mono hB.size)
     clear hb s0 s1 s2 s3 s4 s5 t0 t1 t2 t3 t4 t5
     obtain ⟨s0, _⟩ := hF4 gp 0 (.int .u64 p0) (by simp)
     obtain ⟨t0, _⟩ := hF4 (gp + 1) 0 (.int .u64 m0) (by simp)
     obtain ⟨s1, _⟩ := hF4 gp 1 (.int .u64 p1) (by simp)
     obtain ⟨t1, _⟩ := hF4 (gp + 1) 1 (.int .u64 m1) (by simp)
     obtain ⟨s2, _⟩ := hF4 gp 2 (.int .u64 p2) (by simp)
     obtain ⟨t2, _⟩ := hF4 (gp + 1) 2 (.int .u64 m2) (by simp)
     obtain ⟨s3, _⟩ := hF4 gp 3 (.int .u64 p3) (by simp)
     obtain ⟨t3, _⟩ := hF4 (gp + 1) 3 (.int .u64 m3) (by simp)
     obtain ⟨s4, _⟩ := hF4 gp 4 (.int .u64 p4) (by simp)
     obtain ⟨t4, _⟩ := hF4 (gp + 1) 4 (.int .u64 m4) (by simp)
     obtain ⟨s5, _⟩ := hF4 gp 5 (.int .u64 p5) (by simp)
     obtain ⟨t5, _⟩ := hF4 (gp + 1) 5 (.int .u64 m5) (by simp)
     go_wp2_with fail
     refine (CM.out _).mono ?_
     rintro e w5 ⟨e0, e1, e2, e3, e4, e5, rfl, hbe, hve, hb⟩
     have KF := (hB.trans (hb.mono hB.size)).alloc (hB.trans (hb.mono hB.size)).size (Obj.cells #[Value.int .u64 e0, Value.int .u64 e1, Value.int .u64 e2, Value.int .u64 e3, Value.int .u64 e4, Value.int .u64 e5] 114)
     have HBD := Lib.hid hbe
     have HV := Lib.hid hve
     obtain ⟨⟨x0, y0⟩, ⟨x1, y1⟩, ⟨x2, y2⟩, ⟨x3, y3⟩, ⟨x4, y4⟩, ⟨x5, y5⟩⟩ := hbe
     obtain ⟨nn, hnn⟩ : ∃ n, e0 + e1 * 4294967296 = n := ⟨_, rfl⟩
     have HNN := Lib.hid hnn
     have w1 : IntKind.u64.wrap (e1 * 4294967296) = e1 * 4294967296 := by rw [u64w]; omega
     have w2 : IntKind.u64.wrap (e0 + e1 * 4294967296) = nn := by rw [hnn, u64w]; omega
     have hn0 : 0 <= nn /\ nn < 18446744073709551616 := by omega
     obtain ⟨hn0, hn00⟩ := hn0
     clear hb hve hnn hF4 hB s0 s1 s2 s3 s4 s5 t0 t1 t2 t3 t4 t5
     by_cases h2 : e2 = 0
     case neg =>
      have hb2 : (e2 == 0) = false := beq_false_of_ne h2
      have hn2 : (e2 != 0) = true := by rw [bne, hb2]; rfl
      have HE := Lib.hid (show EV k xs es 0 3 from HNO.out (by have hv := HV.out; have hb := HBD.out; have hnn := HNN.out; unfold dval at hv; omega))
      clear h2
      go_wp2
      go_ret2
      exact ⟨0, 3, rfl, HE.out, KF⟩
     subst h2
     by_cases h3 : e3 = 0
     case neg =>
      have hb3 : (e3 == 0) = false := beq_false_of_ne h3
      have hn3 : (e3 != 0) = true := by rw [bne, hb3]; rfl
      have HE := Lib.hid (show EV k xs es 0 3 from HNO.out (by have hv := HV.out; have hb := HBD.out; have hnn := HNN.out; unfold dval at hv; omega))
      clear h3
      go_wp2
      go_ret2
      exact ⟨0, 3, rfl, HE.out, KF⟩
     subst h3
     by_cases h4 : e4 = 0
     case neg =>
      have hb4 : (e4 == 0) = false := beq_false_of_ne h4
      have hn4 : (e4 != 0) = true := by rw [bne, hb4]; rfl
      have HE := Lib.hid (show EV k xs es 0 3 from HNO.out (by have hv := HV.out; have hb := HBD.out; have hnn := HNN.out; unfold dval at hv; omega))
      clear h4
      go_wp2
      go_ret2
      exact ⟨0, 3, rfl, HE.out, KF⟩
     subst h4
     by_cases h5 : e5 = 0
     case neg =>
      have hb5 : (e5 == 0) = false := beq_false_of_ne h5
      have hn5 : (e5 != 0) = true := by rw [bne, hb5]; rfl
      have HE := Lib.hid (show EV k xs es 0 3 from HNO.out (by have hv := HV.out; have hb := HBD.out; have hnn := HNN.out; unfold dval at hv; omega))
      clear h5
      go_wp2
      go_ret2
      exact ⟨0, 3, rfl, HE.out, KF⟩
     subst h5
     by_cases hlim : 9223372036854775808 < nn
     case pos =>
      have HE := Lib.hid (show EV k xs es 0 3 from HNO.out (by have hv := HV.out; have hb := HBD.out; have hnn := HNN.out; unfold dval at hv; omega))
      go_wp2
      go_ret2
      exact ⟨0, 3, rfl, HE.out, KF⟩
     have hdv : nn = DD := by have hv := HV.out; have hb := HBD.out; have hnn := HNN.out; unfold dval at hv; omega
     have hn1 : 1 <= nn := by have := HPOS.out; omega
     have HE := Lib.hid (show EV k xs es (-(nn - 1) - 1) 0 from by have h := HYES.out (by omega); rw [show -(nn - 1) - 1 = -DD by omega]; exact h)
     clear hdv
     have w3 : IntKind.u64.wrap (nn - 1) = nn - 1 := by rw [u64w]; omega
     have w4 : wrap64 (nn - 1) = nn - 1 := by unfold wrap64; omega
     go_wp2
     go_ret2
     exact ⟨-(nn - 1) - 1, 0, rfl, HE.out, KF⟩
    ·have hd : decide (dval p0 p1 p2 p3 p4 p5 < dval m0 m1 m2 m3 m4 m5) = false := decide_eq_false hlt
     obtain ⟨DD, hDD⟩ : ∃ D, dval p0 p1 p2 p3 p4 p5 - dval m0 m1 m2 m3 m4 m5 = D := ⟨_, rfl⟩
     have HPOS := Lib.hid (show 0 <= DD by omega)
     have HS := Lib.hid (show k + evS es xs = DD by have := HVL.out; omega)
     have HNO : Hid (9223372036854775807 < DD -> EV k xs es 0 3) := Lib.hid fun h => .inr (.inr (.inr ⟨HK.out, HI4.out, by rw [HS.out]; cases hf : fit64 (DD) with | false => rfl | true => have := fit_yes.1 hf; omega, rfl, rfl⟩))
     have HYES : Hid (DD <= 9223372036854775807 -> EV k xs es (DD) 0) := Lib.hid fun h => .inr (.inr (.inl ⟨HK.out, HI4.out, by rw [HS.out]; exact fit_yes.2 (by have := HPOS.out; omega), HS.out.symm, rfl⟩))
     have CM := Lib.hid fun u => MI.out p0 p1 p2 p3 p4 p5 m0 m1 m2 m3 m4 m5 u HDP.out HDN.out (by omega)
     rw [hDD] at CM
     clear hDD hlt
     obtain ⟨s0, _⟩ := hF4 gp 0 (.int .u64 p0) (by simp)
     obtain ⟨t0, _⟩ := hF4 (gp + 1) 0 (.int .u64 m0) (by simp)
     obtain ⟨s1, _⟩ := hF4 gp 1 (.int .u64 p1) (by simp)
     obtain ⟨t1, _⟩ := hF4 (gp + 1) 1 (.int .u64 m1) (by simp)
     obtain ⟨s2, _⟩ := hF4 gp 2 (.int .u64 p2) (by simp)
     obtain ⟨t2, _⟩ := hF4 (gp + 1) 2 (.int .u64 m2) (by simp)
     obtain ⟨s3, _⟩ := hF4 gp 3 (.int .u64 p3) (by simp)
     obtain ⟨t3, _⟩ := hF4 (gp + 1) 3 (.int .u64 m3) (by simp)
     obtain ⟨s4, _⟩ := hF4 gp 4 (.int .u64 p4) (by simp)
     obtain ⟨t4, _⟩ := hF4 (gp + 1) 4 (.int .u64 m4) (by simp)
     obtain ⟨s5, _⟩ := hF4 gp 5 (.int .u64 p5) (by simp)
     obtain ⟨t5, _⟩ := hF4 (gp + 1) 5 (.int .u64 m5) (by simp)
     go_wp2_with fail
     refine (LE.out m0 m1 m2 m3 m4 m5 p0 p1 p2 p3 p4 p5 _ HDP.out HDN.out).mono ?_
     rintro e w4 ⟨rfl, hb⟩
     replace hF4 := hF4.below hb
     replace hB := hB.trans (hb.mono hB.size)
     clear hb s0 s1 s2 s3 s4 s5 t0 t1 t2 t3 t4 t5
     obtain ⟨s0, _⟩ := hF4 gp 0 (.int .u64 p0) (by simp)
     obtain ⟨t0, _⟩ := hF4 (gp + 1) 0 (.int .u64 m0) (by simp)
     obtain ⟨s1, _⟩ := hF4 gp 1 (.int .u64 p1) (by simp)
     obtain ⟨t1, _⟩ := hF4 (gp + 1) 1 (.int .u64 m1) (by simp)
     obtain ⟨s2, _⟩ := hF4 gp 2 (.int .u64 p2) (by simp)
     obtain ⟨t2, _⟩ := hF4 (gp + 1) 2 (.int .u64 m2) (by simp)
     obtain ⟨s3, _⟩ := hF4 gp 3 (.int .u64 p3) (by simp)
     obtain ⟨t3, _⟩ := hF4 (gp + 1) 3 (.int .u64 m3) (by simp)
     obtain ⟨s4, _⟩ := hF4 gp 4 (.int .u64 p4) (by simp)
     obtain ⟨t4, _⟩ := hF4 (gp + 1) 4 (.int .u64 m4) (by simp)
     obtain ⟨s5, _⟩ := hF4 gp 5 (.int .u64 p5) (by simp)
     obtain ⟨t5, _⟩ := hF4 (gp + 1) 5 (.int .u64 m5) (by simp)
     go_wp2_with fail
     refine (CM.out _).mono ?_
     rintro e w5 ⟨e0, e1, e2, e3, e4, e5, rfl, hbe, hve, hb⟩
     have KF := (hB.trans (hb.mono hB.size)).alloc (hB.trans (hb.mono hB.size)).size (Obj.cells #[Value.int .u64 e0, Value.int .u64 e1, Value.int .u64 e2, Value.int .u64 e3, Value.int .u64 e4, Value.int .u64 e5] 114)
     have HBD := Lib.hid hbe
     have HV := Lib.hid hve
     obtain ⟨⟨x0, y0⟩, ⟨x1, y1⟩, ⟨x2, y2⟩, ⟨x3, y3⟩, ⟨x4, y4⟩, ⟨x5, y5⟩⟩ := hbe
     obtain ⟨nn, hnn⟩ : ∃ n, e0 + e1 * 4294967296 = n := ⟨_, rfl⟩
     have HNN := Lib.hid hnn
     have w1 : IntKind.u64.wrap (e1 * 4294967296) = e1 * 4294967296 := by rw [u64w]; omega
     have w2 : IntKind.u64.wrap (e0 + e1 * 4294967296) = nn := by rw [hnn, u64w]; omega
     have hn0 : 0 <= nn /\ nn < 18446744073709551616 := by omega
     obtain ⟨hn0, hn00⟩ := hn0
     clear hb hve hnn hF4 hB s0 s1 s2 s3 s4 s5 t0 t1 t2 t3 t4 t5
     by_cases h2 : e2 = 0
     case neg =>
      have hb2 : (e2 == 0) = false := beq_false_of_ne h2
      have hn2 : (e2 != 0) = true := by rw [bne, hb2]; rfl
      have HE := Lib.hid (show EV k xs es 0 3 from HNO.out (by have hv := HV.out; have hb := HBD.out; have hnn := HNN.out; unfold dval at hv; omega))
      clear h2
      go_wp2
      go_ret2
      exact ⟨0, 3, rfl, HE.out, KF⟩
     subst h2
     by_cases h3 : e3 = 0
     case neg =>
      have hb3 : (e3 == 0) = false := beq_false_of_ne h3
      have hn3 : (e3 != 0) = true := by rw [bne, hb3]; rfl
      have HE := Lib.hid (show EV k xs es 0 3 from HNO.out (by have hv := HV.out; have hb := HBD.out; have hnn := HNN.out; unfold dval at hv; omega))
      clear h3
      go_wp2
      go_ret2
      exact ⟨0, 3, rfl, HE.out, KF⟩
     subst h3
     by_cases h4 : e4 = 0
     case neg =>
      have hb4 : (e4 == 0) = false := beq_false_of_ne h4
      have hn4 : (e4 != 0) = true := by rw [bne, hb4]; rfl
      have HE := Lib.hid (show EV k xs es 0 3 from HNO.out (by have hv := HV.out; have hb := HBD.out; have hnn := HNN.out; unfold dval at hv; omega))
      clear h4
      go_wp2
      go_ret2
      exact ⟨0, 3, rfl, HE.out, KF⟩
     subst h4
     by_cases h5 : e5 = 0
     case neg =>
      have hb5 : (e5 == 0) = false := beq_false_of_ne h5
      have hn5 : (e5 != 0) = true := by rw [bne, hb5]; rfl
      have HE := Lib.hid (show EV k xs es 0 3 from HNO.out (by have hv := HV.out; have hb := HBD.out; have hnn := HNN.out; unfold dval at hv; omega))
      clear h5
      go_wp2
      go_ret2
      exact ⟨0, 3, rfl, HE.out, KF⟩
     subst h5
     by_cases hlim : 9223372036854775807 < nn
     case pos =>
      have HE := Lib.hid (show EV k xs es 0 3 from HNO.out (by have hv := HV.out; have hb := HBD.out; have hnn := HNN.out; unfold dval at hv; omega))
      go_wp2
      go_ret2
      exact ⟨0, 3, rfl, HE.out, KF⟩
     have hdv : nn = DD := by have hv := HV.out; have hb := HBD.out; have hnn := HNN.out; unfold dval at hv; omega
     have HE := Lib.hid (show EV k xs es nn 0 from by have h := HYES.out (by omega); rw [hdv]; exact h)
     clear hdv
     have w4 : wrap64 nn = nn := by unfold wrap64; omega
     go_wp2
     go_ret2
     exact ⟨nn, 0, rfl, HE.out, KF⟩
end Go.Proofs.YtbicmlkjonaccaaDoor.Ln
