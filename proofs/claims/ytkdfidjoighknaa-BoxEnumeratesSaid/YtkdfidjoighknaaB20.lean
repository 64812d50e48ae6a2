/- Boxes: All, the examples. -/
import Derived.Test.YtkdfidjoighknaaB19
namespace Go.Proofs.Ytkdfidjoighknaa.Bx
open Go.ChangeShapes Go.WideShapes Go.ChangeAt Go.RowKit
set_option linter.unusedVariables false
set_option linter.unusedSimpArgs false
open Go.Proofs.Ytkdfidjoighknaa.Nm Go.Proofs.Ytkdfidjoighknaa.Ln
/-- All makes an iterator over a copy of the extents, which lies in a box. -/
def ALW (zs : List Int) (w : World) (e : Ending) (w' : World) : Prop := e = .returned (.func (.func 81) #[] #[.pointer (some ⟨w.heap.size, 0, none⟩)]) ∧ Below w.heap.size w w' ∧ ∃ v, Boxed w' w.heap.size 22 v ∧ w'.ownsRow w.heap.size 3 1 v zs.length (zs.map (Value.int .i64))
theorem all1 (p : Option Addr) (zs : List Int) (c : Nat) (w : World) (hn : zs.length ≤ maxLen) (hby : zs.length * 8 ≤ 140737488355328) (RA : Hid (SlI w p zs)) :
    Calls Try.prog 49 #[.slice p zs.length c] w (ALW zs w) := by
  have BX := Lib.hid ((Below.refl w.heap.size w).alloc (Nat.le_refl _) (Obj.cells #[Value.slice p zs.length c] 22))
  have C := Lib.hid (c48g p zs c (w.alloc (Obj.cells #[Value.slice p zs.length c] 22)) hn hby (Lib.hid (SlI.keep BX.out RA.out)))
  have B0 := Lib.hid (Boxed.new w 22 (.slice p zs.length c))
  have HS : Hid (w.heap.size < (w.alloc (Obj.cells #[Value.slice p zs.length c] 22)).heap.size) := Lib.hid (by simp)
  have x0 := B0.out.cell
  go_enter Try.func49, Try.ntmps49
  go_wp2_with fail
  generalize w.alloc (Obj.cells #[Value.slice p zs.length c] 22) = wa at *
  refine C.out.mono ?_
  rintro e w1 ⟨v, rfl, hb, ho⟩
  obtain ⟨q, d, rfl⟩ := own_slice ho
  have B1 : Boxed w1 w.heap.size 22 (.slice p zs.length c) := boxed_beyond hb B0.out
  have c0 := B1.cell
  have f0 := B1.frozen
  have B2 := Lib.hid (B1.set (.slice q zs.length d))
  have K2 := Lib.hid (Below.setCell (BX.out.trans (hb.mono BX.out.size)) (p := ⟨w.heap.size, 0, none⟩) (Nat.le_refl _) (.slice q zs.length d))
  have O2 := Lib.hid (own_KI (KI.box (.slice q zs.length d) B1 (by decide)) (ho.mono (Nat.le_of_lt HS.out)))
  clear hb ho B1 x0 C B0
  go_wp2
  go_ret
  exact ⟨rfl, K2.out, _, B2.out, O2.out⟩
theorem ex_pt : pP [2, 3] 4 = [1, 1] ∧ pB [2, 3] 4 = true := by decide +kernel
theorem ex_nx : nP [2, 3] [0, 2] = [1, 0] ∧ nB [2, 3] [0, 2] = true := by decide +kernel
theorem ex_cn : cnt [2, 3] = 6 ∧ cnt [] = 1 := by decide +kernel
theorem ex_rt : rT 1 [(⟨#[105]⟩, 2), (⟨#[106]⟩, -1)] [⟨#[105]⟩, ⟨#[106]⟩] [3, 4] = (-2, 5, 0) := by decide +kernel
theorem lit2T {w : World} {b : Nat} {x y : ByteArray} (h0 : w.cell? ⟨b, 0, none⟩ = some (.string x)) (h1 : w.cell? ⟨b, 1, none⟩ = some (.string y)) : SlT w (some ⟨b, 0, none⟩) [x, y] := by
  intro i hi
  refine ⟨b, 0, rfl, ?_⟩
  rcases (by simp at hi; omega : i = 0 ∨ i = 1) with rfl | rfl
  · exact h0
  · exact h1
theorem lit2M {w : World} {b : Nat} {x y : ByteArray} {m n : Int} (h0 : w.cell? ⟨b, 0, none⟩ = some (.string x)) (h1 : w.cell? ⟨b, 1, none⟩ = some (.int .i64 m)) (h2 : w.cell? ⟨b, 2, none⟩ = some (.string y)) (h3 : w.cell? ⟨b, 3, none⟩ = some (.int .i64 n)) : SlM w (some ⟨b, 0, none⟩) [(x, m), (y, n)] := by
  intro i hi
  refine ⟨b, 0, rfl, ?_⟩
  rcases (by simp at hi; omega : i = 0 ∨ i = 1) with rfl | rfl
  · exact ⟨h0, h1⟩
  · exact ⟨h2, h3⟩
set_option maxRecDepth 100000 in
set_option maxHeartbeats 16000000 in
theorem exam (w : World) : Calls Try.prog 14 #[] w fun e w' => e = .returned (.bool true) ∧ Below w.heap.size w w' := by
  have CP := Lib.hid fun (u : World) (a : Nat) (h0 : u.cell? ⟨a, 0, none⟩ = some (.int .i64 2)) (h1 : u.cell? ⟨a, 1, none⟩ = some (.int .i64 3)) => point1 (some ⟨a, 0, none⟩) [2, 3] 2 4 u (by decide) (Lib.hid (lit2 h0 h1))
  rw [ex_pt.1, ex_pt.2] at CP
  have CX := Lib.hid fun (u : World) (a b : Nat) (h0 : u.cell? ⟨a, 0, none⟩ = some (.int .i64 2)) (h1 : u.cell? ⟨a, 1, none⟩ = some (.int .i64 3)) (g0 : u.cell? ⟨b, 0, none⟩ = some (.int .i64 0)) (g1 : u.cell? ⟨b, 1, none⟩ = some (.int .i64 2)) => next1 (some ⟨a, 0, none⟩) (some ⟨b, 0, none⟩) [2, 3] [0, 2] 2 2 u (by decide) (by decide) (by decide) (by decide) (Lib.hid (lit2 h0 h1)) (Lib.hid (lit2 g0 g1))
  rw [ex_nx.1, ex_nx.2] at CX
  have CR := Lib.hid fun (u : World) (a b d : Nat) (h0 : u.cell? ⟨a, 0, none⟩ = some (.string ⟨#[105]⟩)) (h1 : u.cell? ⟨a, 1, none⟩ = some (.int .i64 2)) (h2 : u.cell? ⟨a, 2, none⟩ = some (.string ⟨#[106]⟩)) (h3 : u.cell? ⟨a, 3, none⟩ = some (.int .i64 (-1))) (g0 : u.cell? ⟨b, 0, none⟩ = some (.string ⟨#[105]⟩)) (g1 : u.cell? ⟨b, 1, none⟩ = some (.string ⟨#[106]⟩)) (k0 : u.cell? ⟨d, 0, none⟩ = some (.int .i64 3)) (k1 : u.cell? ⟨d, 1, none⟩ = some (.int .i64 4)) =>
    range1 1 (some ⟨a, 0, none⟩) (some ⟨b, 0, none⟩) (some ⟨d, 0, none⟩) [(⟨#[105]⟩, 2), (⟨#[106]⟩, -1)] [⟨#[105]⟩, ⟨#[106]⟩] [3, 4] 2 2 2 u (by decide) (by decide) (by decide) (Lib.hid (lit2M h0 h1 h2 h3)) (Lib.hid (lit2T g0 g1)) (Lib.hid (lit2 k0 k1))
      (Lib.hid fun i hi => by rcases (by simp at hi; omega : i = 0 ∨ i = 1) with rfl | rfl <;> decide) (Lib.hid fun i hi => by rcases (by simp at hi; omega : i = 0 ∨ i = 1) with rfl | rfl <;> (constructor <;> decide)) (by constructor <;> decide)
  rw [ex_rt] at CR
  have CI := Lib.hid fun (u : World) (q : Option Addr) (x y : Int) (c b : Nat) (S : SlI u q [x, y]) (h0 : u.cell? ⟨b, 0, none⟩ = some (.int .i64 x)) (h1 : u.cell? ⟨b, 1, none⟩ = some (.int .i64 y)) => (by
    have h := ints1 q (some ⟨b, 0, none⟩) [x, y] [x, y] c 2 u (by unfold maxLen; simp) (by unfold maxLen; simp) (Lib.hid S) (Lib.hid (lit2 h0 h1))
    rw [decide_eq_true rfl] at h
    exact h : Calls Try.prog 21 #[.slice q 2 c, .slice (some ⟨b, 0, none⟩) 2 2] u fun e w' => e = .returned (.bool true) ∧ ∃ k, w' = u.drewN k)
  have CC := Lib.hid fun (u : World) (a : Nat) (h0 : u.cell? ⟨a, 0, none⟩ = some (.int .i64 2)) (h1 : u.cell? ⟨a, 1, none⟩ = some (.int .i64 3)) => count1 (some ⟨a, 0, none⟩) [2, 3] 2 u (by decide) (Lib.hid (lit2 h0 h1))
  rw [ex_cn.1] at CC
  have C0 := Lib.hid fun (u : World) => count1 none [] 0 u (by decide) (Lib.hid fun i hi => absurd hi (by simp))
  rw [ex_cn.2] at C0
  have CA := Lib.hid fun (u : World) (a : Nat) (h0 : u.cell? ⟨a, 0, none⟩ = some (.int .i64 2)) (h1 : u.cell? ⟨a, 1, none⟩ = some (.int .i64 3)) => all1 (some ⟨a, 0, none⟩) [2, 3] 2 u (by decide) (by decide) (Lib.hid (lit2 h0 h1))
  have EN : ∀ (u : World) (a : Nat), (binOp .neq 74 (.func (.func 81) #[] #[.pointer (some ⟨a, 0, none⟩)]) .nilFunc).run Try.prog u = .ok (.bool true) u := fun u a => by kernel_rfl
  go_enter Try.func14, Try.ntmps14
  go_wp2_with fail
  refine (CP.out _ _ (by go_cell) (by go_cell)).mono ?_
  rintro e w1 ⟨v, rfl, hb, ho⟩
  obtain ⟨q1, d1, rfl, _, _, S1⟩ := own_SlI ho
  have K1 := Lib.hid (((Below.refl w.heap.size w).alloc (Nat.le_refl _) _).trans (hb.mono (by simp)))
  clear hb ho CP
  go_wp2_with fail
  refine (CX.out _ _ _ (by go_cell) (by go_cell) (by go_cell) (by go_cell)).mono ?_
  rintro e w2 ⟨v, rfl, hb, ho⟩
  obtain ⟨q2, d2, rfl, _, _, S2⟩ := own_SlI ho
  have L2 := Lib.hid ((below_alloc2 w1 _ _).trans (hb.mono (by simp; omega)))
  have K2 := Lib.hid (K1.out.trans (L2.out.mono K1.out.size))
  have T1 := Lib.hid (SlI.keep L2.out S1.out)
  clear hb ho CX K1 S1 L2
  go_wp2_with fail
  refine (CR.out _ _ _ _ (by go_cell) (by go_cell) (by go_cell) (by go_cell) (by go_cell) (by go_cell) (by go_cell) (by go_cell)).mono ?_
  rintro e w3 ⟨rfl, hb⟩
  have L3 := Lib.hid ((((Below.refl w2.heap.size w2).alloc (Nat.le_refl _) _).alloc (by simp) _).alloc (by simp; omega) _ |>.trans (hb.mono (by simp; omega)))
  have K3 := Lib.hid (K2.out.trans (L3.out.mono K2.out.size))
  have U1 := SlI.keep L3.out T1.out
  have U2 := Lib.hid (SlI.keep L3.out S2.out)
  clear hb CR K2 T1 S2 L3
  go_wp2_with fail
  refine (CI.out _ q1 1 1 d1 _ (SlI.keep ((Below.refl w3.heap.size w3).alloc (Nat.le_refl _) _) U1) (by go_cell) (by go_cell)).mono ?_
  rintro e w' ⟨rfl, kd, rfl⟩
  have L4 := Lib.hid (World.below_drewN' ((Below.refl w3.heap.size w3).alloc (Nat.le_refl _) (Obj.cells #[Value.int .i64 1, Value.int .i64 1] 3)) kd)
  have K4 := Lib.hid (K3.out.trans (L4.out.mono K3.out.size))
  have V2 := SlI.keep L4.out U2.out
  clear K3 U1 U2 L4
  generalize (w3.alloc (Obj.cells #[Value.int .i64 1, Value.int .i64 1] 3)).drewN kd = w4 at *
  go_wp2_with fail
  refine (CI.out _ q2 1 0 d2 _ (SlI.keep ((Below.refl w4.heap.size w4).alloc (Nat.le_refl _) _) V2) (by go_cell) (by go_cell)).mono ?_
  rintro e w' ⟨rfl, kd2, rfl⟩
  have K5 := Lib.hid (World.below_drewN' (K4.out.alloc K4.out.size (Obj.cells #[Value.int .i64 1, Value.int .i64 0] 3)) kd2)
  clear K4 V2 CI
  generalize (w4.alloc (Obj.cells #[Value.int .i64 1, Value.int .i64 0] 3)).drewN kd2 = w5 at *
  go_wp2_with fail
  refine (CC.out _ _ (by go_cell) (by go_cell)).mono ?_
  rintro e w' ⟨rfl, rfl⟩
  have K6 := Lib.hid (K5.out.alloc K5.out.size (Obj.cells #[Value.int .i64 2, Value.int .i64 3] 3))
  clear K5 CC
  generalize (w5.alloc (Obj.cells #[Value.int .i64 2, Value.int .i64 3] 3)) = w6 at *
  go_wp2_with fail
  refine (C0.out _).mono ?_
  rintro e w' ⟨rfl, rfl⟩
  go_wp2_with fail
  refine (CA.out _ _ (by go_cell) (by go_cell)).mono ?_
  rintro e w7 ⟨rfl, hb, _⟩
  have K7 := Lib.hid ((K6.out.alloc K6.out.size _).trans (hb.mono (by have := K6.out.size; simp; omega)))
  clear hb K6 CA C0
  go_wp2
  go_ret
  exact ⟨rfl, K7.out⟩
end Go.Proofs.Ytkdfidjoighknaa.Bx
