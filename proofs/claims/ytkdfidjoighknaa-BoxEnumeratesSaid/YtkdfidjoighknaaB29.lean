/- Boxes: the iterator of the points behind a point, whatever is kept besides. -/
import Derived.Test.YtkdfidjoighknaaB26
import Derived.Test.YtkdfidjoighknaaB12
namespace Go.Proofs.Ytkdfidjoighknaa.Bx
open Go.ChangeShapes Go.WideShapes Go.ChangeAt Go.RowKit
set_option linter.unusedVariables false
set_option linter.unusedSimpArgs false
open Go.Shelf
attribute [local go_sem] Oper.semAt_some
def KeptZ (Z : World → Prop) (b0 b1 : Nat) (A W : World) : Prop := Z W ∧ W.heap[b0]? = A.heap[b0]? ∧ W.heap[b1]? = A.heap[b1]? ∧ KI A W
/-- The iterator of the points behind a point: each round gets the next point, in memory of its own. -/
theorem aft_in2 (n : Nat) (hn : 3 ≤ n) (l b0 b1 N : Nat) (p q : Option Addr) (zs ps : List Int) (c d : Nat) (Bs : Nat) (W : World) (HNl : Hid (zs.length = N)) (hd : N ≤ c) (hd2 : N ≤ d) (HI : Hid (inB zs ps = true)) (Z : World → Prop) (hZ1 : Hid (∀ A B, Z A → Below A.heap.size A B → Z B)) (hZs : Hid (∀ A, Z A → SlI A p zs ∧ SlI A q ps ∧ Bs ≤ A.heap.size))
    (J Jx : Int → World → Prop) (hJ : Hid (∀ a A B, J a A → Below A.heap.size A B → J a B))
    (hY : Hid (∀ (a : Int) (A : World) (g cq : Nat), 0 < a → a < sp zs → J a A → Z A → Boxed A b0 22 (.slice p N c) → Boxed A b1 22 (.slice q N d) → A.ownsRow Bs 3 1 (.slice (some ⟨g, 0, none⟩) N cq) N ((pt zs a).map (Value.int .i64)) →
      YieldAt Fence.wide (n - 1) Try.prog l #[.slice (some ⟨g, 0, none⟩) N cq] A fun e W' => (e = .returned (.bool true) ∧ J (a + 1) W' ∧ KeptZ Z b0 b1 A W') ∨ (e = .returned (.bool false) ∧ Jx a W')))
    (hB : Z W) (hb0 : Boxed W b0 22 (.slice p N c)) (hb1 : Boxed W b1 22 (.slice q N d)) (h0 : Hid (J (rk zs ps N + 1) W)) :
    CallsIn Fence.wide n Try.prog 83 #[.func (.yield l) #[] #[], .pointer (some ⟨b0, 0, none⟩), .pointer (some ⟨b1, 0, none⟩)] W fun e W' => (∃ v, e = .returned v) ∧ (J (sp zs) W' ∨ ∃ a, 0 < a ∧ a < sp zs ∧ Jx a W') := by
  have HU := Lib.hid (inB_full HI.out)
  have HN := Lib.hid (inB_ins HI.out)
  have hN16 : N ≤ 16 := by have := HU.out.1; rw [HNl.out] at this; exact this
  have HR0 := Lib.hid (rk_nonneg HN.out (Nat.le_of_eq HNl.out.symm))
  have HRL := Lib.hid (rk_last HN.out)
  rw [HNl.out] at HRL
  have SUCC := Lib.hid fun (u : World) (hu : Z u) => (callsIn_wide (n := n - 1)).2 (succ1_eq N p q zs ps c d u hN16 hd2 HI HNl (Lib.hid (HN.out.1.trans HNl.out)) (Lib.hid (hZs.out u hu).1) (Lib.hid (hZs.out u hu).2.1))
  have NEXT := Lib.hid fun (u : World) (a : Int) (g cq : Nat) (hu : Z u) (a0 : 0 < a) (a1 : a < sp zs) (hcq : N ≤ cq) (hr : SlI u (some ⟨g, 0, none⟩) (pt zs a)) => (callsIn_wide (n := n - 1)).2 (by
    have h := succ1_eq N p (some ⟨g, 0, none⟩) zs (pt zs a) c cq u hN16 hcq (Lib.hid (ins_inB (inB_yes HI.out).1 (pt_ins HU.out.2.1 a))) HNl (Lib.hid ((pt_length zs a).trans HNl.out)) (Lib.hid (hZs.out u hu).1) (Lib.hid hr)
    have e := rk_pt_end HU.out.2.1 (by omega) a1
    rw [HNl.out] at e
    rw [e] at h
    exact h)
  have hpL : Hid (∀ a, pB zs a = true → a < sp zs ∧ pP zs a = pt zs a ∧ (pt zs a).length = N) := Lib.hid fun a h => ⟨by rw [← HU.out.2.2.1]; exact (pB_yes h).2, if_pos h, (pt_length zs a).trans HNl.out⟩
  have hpN : Hid (∀ a, 0 ≤ a → a ≤ sp zs → pB zs a = false → a = sp zs) := Lib.hid fun a h0 h1 h => by
    rcases Int.lt_or_le a (sp zs) with h2 | h2
    · rw [pB_of h0 (by rw [HU.out.2.2.1]; exact h2)] at h; cases h
    · omega
  have hpos : Hid (∀ a, 0 < a → a < sp zs → 0 < N) := Lib.hid fun a h0 h1 => by
    rcases Nat.eq_zero_or_pos N with h | h
    · rw [← HNl.out] at h
      rw [List.eq_nil_of_length_eq_zero h] at h1
      change a < 1 at h1
      omega
    · exact h
  refine callsIn_of_wp Try.func83 rfl trivial ?_ rfl
  simp only [Try.ntmps83, List.size_toArray, List.length_cons, List.length_nil, Nat.reduceAdd, Nat.reduceSub, Array.replicate_succ, Array.replicate_zero, List.push_toArray, List.append_toArray, List.nil_append, List.cons_append]
  have c0 := hb0.cell
  have c1 := hb1.cell
  gi_wp2
  refine ⟨trivial, fun _ => by omega, (SUCC.out W hB).mono ?_⟩
  rintro e W1 ⟨v, rfl, hb, ho⟩
  have B1 := Lib.hid (hZ1.out _ _ hB hb)
  have J1 := Lib.hid (hJ.out _ _ _ h0.out hb)
  have X0 := Lib.hid (boxed_beyond hb hb0)
  have X1 := Lib.hid (boxed_beyond hb hb1)
  have O1 := Lib.hid (ho.mono (hZs.out _ hB).2.2)
  clear hb ho hb0 hb1 c0 c1 h0 SUCC
  obtain ⟨r1, hr1⟩ : ∃ r1, rk zs ps N + 1 = r1 := ⟨_, rfl⟩
  have R1 : Hid (0 < r1 ∧ r1 ≤ sp zs) := Lib.hid (by have := HR0.out; have := HRL.out; omega)
  rw [hr1] at O1 J1 ⊢
  clear hr1
  gi_wp2
  gi_loopw [4, 5] (fun v t wr => ∃ (a : Int) (T : Bool), t = .bool T ∧ Hid (pB zs a = T) ∧ Hid (0 < a ∧ a ≤ sp zs) ∧ Hid (wr.ownsRow Bs 3 1 v (pP zs a).length ((pP zs a).map (Value.int .i64))) ∧ Hid (J a wr) ∧ Hid (Z wr) ∧ Hid (Boxed wr b0 22 (.slice p N c)) ∧ Hid (Boxed wr b1 22 (.slice q N d))) (fun v t wr => mz zs wr v t)
  case atStart => exact ⟨r1, _, rfl, Lib.hid rfl, R1, O1, J1, B1, X0, X1⟩
  case round =>
    obtain ⟨a, T, rfl, HT, HA, HO, HJ, HB, HX0, HX1⟩ := hrel
    cases T with
    | false =>
      have HE := Lib.hid (hpN.out a (by have := HA.out; omega) HA.out.2 HT.out)
      gi_wp2
      go_end0
      exact ⟨⟨_, rfl⟩, .inl (by rw [← HE.out]; exact HJ.out)⟩
    | true =>
      obtain ⟨e1, e2, e3⟩ := hpL.out a HT.out
      rw [e2, e3] at HO
      obtain ⟨g, cq, rfl, hgb, hgl⟩ := World.ownsRow.form HO.out (hpos.out a HA.out.1 e1)
      have HM := Lib.hid (lf_eq HU.out.2.1 (by have := HA.out; omega) e1 (by rw [HNl.out]; exact HO.out))
      have HE1 := Lib.hid e1
      clear e1 e2
      obtain ⟨q9, c9, hv9, hc9, _, S9⟩ := own_SlI (l := pt zs a) (by rw [e3]; exact HO.out)
      rw [e3] at hv9 hc9
      cases hv9
      clear e3
      have c0 := HX0.out.cell
      have c1 := HX1.out.cell
      gi_wp2
      refine ⟨trivial, fun _ => by omega, (NEXT.out wr a g cq HB.out HA.out.1 HE1.out hc9 S9.out).mono ?_⟩
      rintro e A ⟨vn, rfl, hb, ho⟩
      have HB2 := Lib.hid (hZ1.out _ _ HB.out hb)
      have HJ2 := Lib.hid (hJ.out _ _ _ HJ.out hb)
      have Y0 := Lib.hid (boxed_beyond hb HX0.out)
      have Y1 := Lib.hid (boxed_beyond hb HX1.out)
      have HOA := Lib.hid (own_beyond hb HO.out)
      have HON := Lib.hid (ho.mono (hZs.out _ HB.out).2.2)
      obtain ⟨fn, tmps, assign, body, hy, hR⟩ := hY.out a A g cq HA.out.1 HE1.out HJ2.out HB2.out Y0.out Y1.out HOA.out
      clear hb ho HX0 HX1 HJ c0 c1 S9
      gi_wp2
      refine ⟨fun _ => by omega, hR.mono ?_⟩
      rintro e W' (⟨rfl, hj, hk⟩ | ⟨rfl, hx⟩)
      · have ZJ := Lib.hid hj
        have ZB := Lib.hid hk.1
        have Z0 : Hid (Boxed W' b0 22 (.slice p N c)) := Lib.hid (hk.2.1.trans Y0.out)
        have Z1 : Hid (Boxed W' b1 22 (.slice q N d)) := Lib.hid (hk.2.2.1.trans Y1.out)
        have ZO := Lib.hid (own_KI hk.2.2.2 HON.out)
        have ZM := Lib.hid (mz_down (b := Bs) (v' := vn) (W' := W') HU.out.2.1 HU.out.2.2.1 HA.out.1 HE1.out HM.out (fun hT => by
          have h := ZO.out
          obtain ⟨f1, f2, f3⟩ := hpL.out _ hT
          rw [f2, f3] at h
          rw [HNl.out]
          exact h))
        clear hj hk hy hR HON HOA Y0 Y1
        gi_wp2
        go_roundw
        case rel => exact ⟨a + 1, _, rfl, Lib.hid rfl, Lib.hid (by have := HE1.out; have := HA.out; omega), ZO, ZJ, ZB, Z0, Z1⟩
        case measure => exact ZM.out
      · have ZX := Lib.hid hx
        clear hx hy hR
        gi_wp2
        refine bodyPost_ret (results_none rfl _ _ _) rfl ?_
        exact ⟨⟨_, rfl⟩, .inr ⟨a, HA.out.1, HE1.out, ZX.out⟩⟩
end Go.Proofs.Ytkdfidjoighknaa.Bx
