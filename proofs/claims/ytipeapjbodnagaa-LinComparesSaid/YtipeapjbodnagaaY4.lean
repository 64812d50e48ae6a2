/- Linear forms: Compare. -/
import Derived.Test.YtipeapjbodnagaaY3
namespace Go.Proofs.Ytipeapjbodnagaa.Ln
open Go.ChangeShapes Go.WideShapes Go.ChangeAt Go.RowKit
set_option linter.unusedVariables false

def Lv (k : Int) (p : Option Addr) (n c : Nat) : Value := .agg #[.int .i64 k, .slice p n c]
theorem below_drewN {B : Nat} {a w : World} (h : Below B a w) (n : Nat) : Below B a (w.drewN n) := ⟨h.os, h.tape, h.output, h.size, h.block⟩
theorem two_below {w : World} (o o' : Obj) : Below w.heap.size w ((w.alloc o).alloc o') := ((Below.refl _ _).alloc (Nat.le_refl _) _).alloc (by simp) _
theorem two_size {w : World} (o o' : Obj) : w.heap.size < ((w.alloc o).alloc o').heap.size ∧ w.heap.size + 1 < ((w.alloc o).alloc o').heap.size := by
  constructor <;> (simp <;> omega)
set_option maxRecDepth 100000 in
set_option maxHeartbeats 8000000 in
theorem cmp1 (k : Int) (p : Option Addr) (xs : List Mo) (c : Nat) (k' : Int) (q : Option Addr) (ys : List Mo) (d : Nat) (w : World) (hn : xs.length ≤ maxLen) (hm : ys.length ≤ maxLen) (RA : Hid (SlM w p xs)) (RB : Hid (SlM w q ys)) :
    Calls Try.prog 27 #[Lv k p xs.length c, Lv k' q ys.length d] w fun e w' => e = .returned (.int .i64 (cl k xs k' ys)) ∧ Below w.heap.size w w' := by
  have C1 := Lib.hid fun w R1 R2 => cmpF p q xs ys c d w hn hm R1 R2
  have C2 := Lib.hid cmpI
  have C3 := Lib.hid orN
  have B0 : Below w.heap.size w ((w.alloc (Obj.cells #[Value.int .i64 k, Value.slice p xs.length c] 24)).alloc (Obj.cells #[Value.int .i64 k', Value.slice q ys.length d] 24)) := two_below _ _
  have S0 := two_size (w := w) (Obj.cells #[Value.int .i64 k, Value.slice p xs.length c] 24) (Obj.cells #[Value.int .i64 k', Value.slice q ys.length d] 24)
  have f0 : (((w.alloc (Obj.cells #[Value.int .i64 k, Value.slice p xs.length c] 24)).alloc (Obj.cells #[Value.int .i64 k', Value.slice q ys.length d] 24))).cell? ⟨w.heap.size, 0, none⟩ = some (.int .i64 k) := by go_cell
  have f1 : (((w.alloc (Obj.cells #[Value.int .i64 k, Value.slice p xs.length c] 24)).alloc (Obj.cells #[Value.int .i64 k', Value.slice q ys.length d] 24))).cell? ⟨w.heap.size, 1, none⟩ = some (.slice p xs.length c) := by go_cell
  have g0 : (((w.alloc (Obj.cells #[Value.int .i64 k, Value.slice p xs.length c] 24)).alloc (Obj.cells #[Value.int .i64 k', Value.slice q ys.length d] 24))).cell? ⟨w.heap.size + 1, 0, none⟩ = some (.int .i64 k') := by go_cell
  have g1 : (((w.alloc (Obj.cells #[Value.int .i64 k, Value.slice p xs.length c] 24)).alloc (Obj.cells #[Value.int .i64 k', Value.slice q ys.length d] 24))).cell? ⟨w.heap.size + 1, 1, none⟩ = some (.slice q ys.length d) := by go_cell
  have HE : cl k xs k' ys = orV (lc xs ys) (ic k k') := rfl
  rw [HE]
  clear HE
  unfold Lv
  go_enter Try.func27, Try.ntmps27
  go_wp2_with fail
  generalize ((w.alloc (Obj.cells #[Value.int .i64 k, Value.slice p xs.length c] 24)).alloc (Obj.cells #[Value.int .i64 k', Value.slice q ys.length d] 24)) = z at *
  obtain ⟨s1, s2⟩ := S0
  refine (C1.out z (Lib.hid (SlM.keep B0 RA.out)) (Lib.hid (SlM.keep B0 RB.out))).mono ?_
  rintro e w1 ⟨rfl, hb⟩
  have h0 := kp hb s1 f0
  have h1 := kp hb s2 g0
  have K := B0.trans (hb.mono B0.size)
  clear f0 f1 g0 g1 hb B0 C1
  go_wp2_with fail
  refine (C2.out _ _ _).mono ?_
  rintro e w' ⟨rfl, rfl⟩
  go_wp2_with fail
  refine (C3.out _ _ _).mono ?_
  rintro e w' ⟨rfl, rfl⟩
  go_wp2
  go_ret
  exact ⟨rfl, K.alloc K.size _⟩
set_option maxRecDepth 100000 in
set_option maxHeartbeats 8000000 in
theorem eqF (p q : Option Addr) (xs ys : List Mo) (c d : Nat) (w : World) (hn : xs.length ≤ maxLen) (hm : ys.length ≤ maxLen) (RA : Hid (SlM w p xs)) (RB : Hid (SlM w q ys)) :
    Calls Try.prog 66 #[.slice p xs.length c, .slice q ys.length d] w fun e w' => e = .returned (.bool (decide (lc xs ys = 0))) ∧ Below w.heap.size w w' := by
  unfold maxLen at hn hm
  by_cases hl : xs.length = ys.length
  · have HL := Lib.hid hl
    rw [← hl]
    clear hl hm
    go_enter Try.func66, Try.ntmps66
    go_wp2
    go_loopw [13] (fun i wr => ∃ k r : Nat, i = .int .i64 (k : Int) ∧ k ≤ xs.length ∧ wr = w.drewN r ∧ Hid (lc xs ys = lc (xs.drop k) (ys.drop k))) (fun i _ => xs.length - (intOf i).toNat)
    case atStart => exact ⟨0, 0, rfl, by omega, rfl, Lib.hid rfl⟩
    case round =>
      obtain ⟨k, r, rfl, hk, rfl, HI⟩ := hrel
      have k0 : (0 : Int) ≤ k := by omega
      by_cases hlt : k < xs.length
      · have hst := Lib.hid (lc_step (xs := xs) (ys := ys) hlt (by rw [← HL.out]; exact hlt))
        obtain ⟨b, o, rfl, c0, c1⟩ := RA.out k hlt
        obtain ⟨b', o', rfl, d0, d1⟩ := RB.out k (by rw [← HL.out]; exact hlt)
        obtain ⟨x, hx⟩ : ∃ x, xs.getD k mo0 = x := ⟨_, rfl⟩
        obtain ⟨y, hy⟩ : ∃ y, ys.getD k mo0 = y := ⟨_, rfl⟩
        rw [hx] at c0 c1
        rw [hy] at d0 d1
        have hst := Lib.hid (by have h := hst.out; rw [hx, hy] at h; exact h)
        clear hx hy
        obtain ⟨s, a⟩ := x
        obtain ⟨t, e⟩ := y
        simp only at c0 c1 d0 d1
        have k1 : (k : Int) < xs.length := by omega
        have E1 := cs_eq s t
        by_cases hz : mc (s, a) (t, e) = 0
        · have he := mc_zero.1 hz
          injection he with he1 he2
          subst he1 he2
          have HI2 : Hid (lc xs ys = lc (xs.drop (k + 1)) (ys.drop (k + 1))) := Lib.hid (by rw [HI.out, hst.out, if_pos hz])
          clear hz E1 hst HI
          go_wp2
          go_quiet (fail)
          go_wp2
          go_roundw
          case rel => exact ⟨k + 1, _, by go_num, by omega, rfl, HI2⟩
          case measure => simp [intOf]; omega
        · have HR : Hid (decide (lc xs ys = 0) = false) := Lib.hid (decide_eq_false (by rw [HI.out, hst.out, if_neg hz]; exact hz))
          have hne : (s.toList == t.toList && a == e) = false := by
            rw [E1]
            by_cases h1 : cs s t = 0
            · have : a ≠ e := fun h => hz (mc_zero.2 (by rw [cs_zero.1 h1, h]))
              rw [beq_false_of_ne this, Bool.and_false]
            · rw [decide_eq_false h1, Bool.false_and]
          clear hz E1 hst HI
          obtain ⟨q1, h1⟩ : ∃ q1, (s.toList == t.toList) = q1 := ⟨_, rfl⟩
          obtain ⟨q2, h2⟩ : ∃ q2, (a == e) = q2 := ⟨_, rfl⟩
          rw [h1, h2] at hne
          cases q1 <;> cases q2 <;> first | (exfalso; exact Bool.noConfusion hne) | skip
          all_goals
            clear hne
            go_wp2
            go_quiet (fail)
            go_wp2
            go_ret
            exact ⟨ret_bool HR.out.symm, below_drewN (below_drewN (Below.refl _ _) _) _⟩
      · have k1 : ¬ (k : Int) < xs.length := by omega
        have HR := Lib.hid (decide_eq_true (show lc xs ys = 0 by rw [HI.out, lc_same (by omega) (by have := HL.out; omega)]))
        go_wp2
        go_ret
        exact ⟨ret_bool HR.out.symm, below_drewN (Below.refl _ _) _⟩
  · have HR : decide (lc xs ys = 0) = false := decide_eq_false (fun h => hl (by rw [(lc_zero _ _).1 h]))
    have hb : ((xs.length : Int) == (ys.length : Int)) = false := beq_false_of_ne (by omega)
    rw [HR]
    go_enter Try.func66, Try.ntmps66
    go_wp2
    go_ret
    exact ⟨rfl, Below.refl _ _⟩
set_option maxRecDepth 100000 in
set_option maxHeartbeats 8000000 in
theorem same1 (k : Int) (p : Option Addr) (xs : List Mo) (c : Nat) (k' : Int) (q : Option Addr) (ys : List Mo) (d : Nat) (w : World) (hn : xs.length ≤ maxLen) (hm : ys.length ≤ maxLen) (RA : Hid (SlM w p xs)) (RB : Hid (SlM w q ys)) :
    Calls Try.prog 29 #[Lv k p xs.length c, Lv k' q ys.length d] w fun e w' => e = .returned (.bool (decide (cl k xs k' ys = 0))) ∧ Below w.heap.size w w' := by
  have C1 := Lib.hid fun w R1 R2 => eqF p q xs ys c d w hn hm R1 R2
  have B0 : Below w.heap.size w ((w.alloc (Obj.cells #[Value.int .i64 k, Value.slice p xs.length c] 24)).alloc (Obj.cells #[Value.int .i64 k', Value.slice q ys.length d] 24)) := two_below _ _
  have HE : decide (cl k xs k' ys = 0) = ((k == k') && decide (lc xs ys = 0)) := by
    rw [Bool.eq_iff_iff, decide_eq_true_eq, Bool.and_eq_true, beq_iff_eq, decide_eq_true_eq, cl_zero, lc_zero]
  rw [HE]
  clear HE
  unfold Lv
  by_cases hk : k = k'
  · subst hk
    rw [beq_self_eq_true, Bool.true_and]
    generalize decide (lc xs ys = 0) = v at *
    go_enter Try.func29, Try.ntmps29
    go_wp2_with fail
    refine (C1.out _ (Lib.hid (SlM.keep B0 RA.out)) (Lib.hid (SlM.keep B0 RB.out))).mono ?_
    rintro e w1 ⟨rfl, hb⟩
    have K := B0.trans (hb.mono B0.size)
    go_wp2
    go_ret
    exact ⟨rfl, K⟩
  · have hb : (k == k') = false := beq_false_of_ne hk
    rw [hb, Bool.false_and]
    go_enter Try.func29, Try.ntmps29
    go_wp2
    go_ret
    exact ⟨rfl, B0⟩
end Go.Proofs.Ytipeapjbodnagaa.Ln
