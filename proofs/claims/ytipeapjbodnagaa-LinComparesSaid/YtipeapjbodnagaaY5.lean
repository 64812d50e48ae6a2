/- Linear forms: the reference compares. -/
import Derived.Test.YtipeapjbodnagaaY4
import Derived.Deep.Cut
import Derived.Deep.CutRange
namespace Go.Proofs.Ytipeapjbodnagaa.Ln
open Go.ChangeShapes Go.WideShapes Go.ChangeAt Go.RowKit
set_option linter.unusedVariables false

theorem below2 {a w : World} {o o' : Obj} (h : Below a.heap.size a w) : Below a.heap.size a ((w.alloc o).alloc o').drew := ((h.alloc h.size _).alloc (by have := h.size; simp; omega) _).drew
theorem mc_cases (s : ByteArray) (a : Int) (t : ByteArray) (e : Int) :
    (Op.bytesLess s.toList t.toList = true ∧ mc (s, a) (t, e) = -1) ∨ (Op.bytesLess s.toList t.toList = false ∧ (s.toList == t.toList) = false ∧ mc (s, a) (t, e) = 1)
    ∨ (s = t ∧ Op.bytesLess s.toList t.toList = false ∧ a < e ∧ mc (s, a) (t, e) = -1) ∨ (s = t ∧ Op.bytesLess s.toList t.toList = false ∧ e < a ∧ mc (s, a) (t, e) = 1) ∨ (s = t ∧ Op.bytesLess s.toList t.toList = false ∧ a = e ∧ mc (s, a) (t, e) = 0) := by
  have hb := cs_bd s t
  rw [cs_less, cs_eq]
  unfold mc
  simp only
  by_cases h0 : cs s t = 0
  · rw [if_pos h0]
    have h1 : decide (cs s t < 0) = false := decide_eq_false (by omega)
    have h2 := cs_zero.1 h0
    unfold ic
    rcases Int.lt_trichotomy a e with h | h | h
    · exact .inr (.inr (.inl ⟨h2, h1, h, by rw [if_pos h]⟩))
    · exact .inr (.inr (.inr (.inr ⟨h2, h1, h, by rw [if_neg (by omega), if_neg (by omega)]⟩)))
    · exact .inr (.inr (.inr (.inl ⟨h2, h1, h, by rw [if_neg (by omega), if_pos h]⟩)))
  · rw [if_neg h0]
    by_cases h1 : cs s t < 0
    · exact .inl ⟨decide_eq_true h1, by omega⟩
    · exact .inr (.inl ⟨decide_eq_false h1, decide_eq_false h0, by omega⟩)
set_option maxRecDepth 100000 in
set_option maxHeartbeats 8000000 in
theorem cmp2 (k : Int) (p : Option Addr) (xs : List Mo) (c : Nat) (k' : Int) (q : Option Addr) (ys : List Mo) (d : Nat) (w : World) (hn : xs.length ≤ maxLen) (hm : ys.length ≤ maxLen) (RA : Hid (SlM w p xs)) (RB : Hid (SlM w q ys)) :
    Calls Try.prog 28 #[Lv k p xs.length c, Lv k' q ys.length d] w fun e w' => e = .returned (.int .i64 (cl k xs k' ys)) ∧ Below w.heap.size w w' := by
  have B0 : Below w.heap.size w ((w.alloc (Obj.cells #[Value.int .i64 k, Value.slice p xs.length c] 24)).alloc (Obj.cells #[Value.int .i64 k', Value.slice q ys.length d] 24)) := two_below _ _
  have S0 := two_size (w := w) (Obj.cells #[Value.int .i64 k, Value.slice p xs.length c] 24) (Obj.cells #[Value.int .i64 k', Value.slice q ys.length d] 24)
  have f0 : (((w.alloc (Obj.cells #[Value.int .i64 k, Value.slice p xs.length c] 24)).alloc (Obj.cells #[Value.int .i64 k', Value.slice q ys.length d] 24))).cell? ⟨w.heap.size, 0, none⟩ = some (.int .i64 k) := by go_cell
  have f1 : (((w.alloc (Obj.cells #[Value.int .i64 k, Value.slice p xs.length c] 24)).alloc (Obj.cells #[Value.int .i64 k', Value.slice q ys.length d] 24))).cell? ⟨w.heap.size, 1, none⟩ = some (.slice p xs.length c) := by go_cell
  have g0 : (((w.alloc (Obj.cells #[Value.int .i64 k, Value.slice p xs.length c] 24)).alloc (Obj.cells #[Value.int .i64 k', Value.slice q ys.length d] 24))).cell? ⟨w.heap.size + 1, 0, none⟩ = some (.int .i64 k') := by go_cell
  have g1 : (((w.alloc (Obj.cells #[Value.int .i64 k, Value.slice p xs.length c] 24)).alloc (Obj.cells #[Value.int .i64 k', Value.slice q ys.length d] 24))).cell? ⟨w.heap.size + 1, 1, none⟩ = some (.slice q ys.length d) := by go_cell
  unfold maxLen at hn hm
  unfold Lv
  go_enter Try.func28, Try.ntmps28
  go_wp2
  generalize ((w.alloc (Obj.cells #[Value.int .i64 k, Value.slice p xs.length c] 24)).alloc (Obj.cells #[Value.int .i64 k', Value.slice q ys.length d] 24)) = z at *
  obtain ⟨s1, s2⟩ := S0
  have RA1 := Lib.hid (SlM.keep B0 RA.out)
  have RB1 := Lib.hid (SlM.keep B0 RB.out)
  go_loopw [5] (fun i wr => ∃ j : Nat, i = .int .i64 (j : Int) ∧ j ≤ xs.length ∧ j ≤ ys.length ∧ Below z.heap.size z wr ∧ Hid (lc xs ys = lc (xs.drop j) (ys.drop j))) (fun i _ => xs.length - (intOf i).toNat)
  case atStart => exact ⟨0, rfl, by omega, by omega, Below.refl _ _, Lib.hid rfl⟩
  case round =>
    obtain ⟨j, rfl, hk, hk2, hB, HL⟩ := hrel
    have k0 : (0 : Int) ≤ j := by omega
    have F0 := kp hB s1 f0
    have F1 := kp hB s1 f1
    have G0 := kp hB s2 g0
    have G1 := kp hB s2 g1
    have u1 : w.heap.size < wr.heap.size := Nat.lt_of_lt_of_le s1 hB.size
    have u2 : w.heap.size + 1 < wr.heap.size := Nat.lt_of_lt_of_le s2 hB.size
    clear f0 f1 g0 g1
    by_cases hlt : j < xs.length ∧ j < ys.length
    · obtain ⟨hlt, hl2⟩ := hlt
      have hst := Lib.hid (lc_step hlt hl2)
      obtain ⟨b, o, rfl, c0, c1⟩ := SlM.keep hB RA1.out j hlt
      obtain ⟨b', o', rfl, d0, d1⟩ := SlM.keep hB RB1.out j hl2
      obtain ⟨x, hx⟩ : ∃ x, xs.getD j mo0 = x := ⟨_, rfl⟩
      obtain ⟨y, hy⟩ : ∃ y, ys.getD j mo0 = y := ⟨_, rfl⟩
      have hb : b < wr.heap.size := by have := World.block_lt_of_cell? wr _ c0; simpa using this
      have hb' : b' < wr.heap.size := by have := World.block_lt_of_cell? wr _ d0; simpa using this
      rw [hx] at c0 c1
      rw [hy] at d0 d1
      have hst := Lib.hid (by have h := hst.out; rw [hx, hy] at h; exact h)
      clear hx hy
      obtain ⟨s, a⟩ := x
      obtain ⟨t, e⟩ := y
      simp only at c0 c1 d0 d1
      have k1 : (j : Int) < xs.length := by omega
      have l1 : (j : Int) < ys.length := by omega
      have HC := Lib.hid (mc_cases s a t e)
      go_wp2_with fail
      go_region
      all_goals
        rcases HC.out with ⟨h1, h2⟩ | ⟨h1, h2, h3⟩ | ⟨h1, h2, h3, h4⟩ | ⟨h1, h2, h3, h4⟩ | ⟨h1, h2, h3, h4⟩
        · have HE := Lib.hid h2
          clear h2
          go_wp2
          go_ret
          exact ⟨ret_int (by unfold cl; rw [HL.out, hst.out, HE.out]; rfl), B0.trans ((below2 hB).mono B0.size)⟩
        · have HE := Lib.hid h3
          clear h3
          go_wp2
          go_ret
          exact ⟨ret_int (by unfold cl; rw [HL.out, hst.out, HE.out]; rfl), B0.trans ((below2 hB).mono B0.size)⟩
        · have HE := Lib.hid h4
          clear h4
          subst h1
          go_wp2
          go_ret
          exact ⟨ret_int (by unfold cl; rw [HL.out, hst.out, HE.out]; rfl), B0.trans ((below2 hB).mono B0.size)⟩
        · have HE := Lib.hid h4
          have h5 : ¬ a < e := by omega
          have h6 : (a == e) = false := beq_false_of_ne (by omega)
          clear h4
          subst h1
          go_wp2
          go_ret
          exact ⟨ret_int (by unfold cl; rw [HL.out, hst.out, HE.out]; rfl), B0.trans ((below2 hB).mono B0.size)⟩
        · have HE := Lib.hid h4
          clear h4
          subst h1 h3
          go_wp2
          go_roundw
          case rel => exact ⟨j + 1, by go_num, by omega, by omega, below2 hB, Lib.hid (by rw [HL.out, hst.out, HE.out]; rfl)⟩
          case measure => simp [intOf]; omega
    · have BK : Below w.heap.size w wr := B0.trans (hB.mono B0.size)
      by_cases hlt : j < xs.length
      · have k1 : (j : Int) < xs.length := by omega
        have l1 : ¬ (j : Int) < ys.length := by omega
        have m1 : ¬ (xs.length : Int) < ys.length := by omega
        have m2 : ((xs.length : Int) == ys.length) = false := beq_false_of_ne (by omega)
        have m3 : (ys.length : Int) < xs.length := by omega
        have HR := Lib.hid (lc_long hlt (show j = ys.length by omega))
        go_wp2
        go_ret
        exact ⟨ret_int (by unfold cl; rw [HL.out, HR.out]; rfl), BK⟩
      · have k1 : ¬ (j : Int) < xs.length := by omega
        by_cases hl2 : j < ys.length
        · have m1 : (xs.length : Int) < ys.length := by omega
          have HR := Lib.hid (lc_short (show j = xs.length by omega) hl2)
          go_wp2
          go_ret
          exact ⟨ret_int (by unfold cl; rw [HL.out, HR.out]; rfl), BK⟩
        · have m0 : ys.length = xs.length := by omega
          have HR := Lib.hid (lc_same (show j = xs.length by omega) (show j = ys.length by omega))
          have HZ : Hid (cl k xs k' ys = ic k k') := Lib.hid (by unfold cl; rw [HL.out, HR.out]; rfl)
          have m1 : ¬ (xs.length : Int) < xs.length := by omega
          rw [m0] at G1
          clear RB RB1 HL HR
          rcases Int.lt_trichotomy k k' with h | h | h
          · go_wp2
            go_ret
            exact ⟨ret_int (by rw [HZ.out]; unfold ic; rw [if_pos h]), BK⟩
          · subst h
            have h2 : ¬ k < k := by omega
            go_wp2
            go_ret
            exact ⟨ret_int (by rw [HZ.out]; unfold ic; rw [if_neg (show ¬ k < k by omega), if_neg (show ¬ k < k by omega)]), BK⟩
          · have h2 : ¬ k < k' := by omega
            go_wp2
            go_ret
            exact ⟨ret_int (by rw [HZ.out]; unfold ic; rw [if_neg (show ¬ k < k' by omega), if_pos h]), BK⟩
end Go.Proofs.Ytipeapjbodnagaa.Ln
