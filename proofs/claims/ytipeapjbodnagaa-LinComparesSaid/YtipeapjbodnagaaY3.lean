/- Linear forms: the order of two lists of monomials. -/
import Derived.Test.YtipeapjbodnagaaY2
namespace Go.Proofs.Ytipeapjbodnagaa.Ln
open Go.ChangeShapes Go.WideShapes Go.ChangeAt Go.RowKit
set_option linter.unusedVariables false

def SlM (w : World) (p : Option Addr) (xs : List Mo) : Prop := ∀ i, i < xs.length → ∃ b o, p = some ⟨b, o, none⟩ ∧ w.cell? ⟨b, o + i * 2, none⟩ = some (.string (xs.getD i mo0).1) ∧ w.cell? ⟨b, o + i * 2 + 1, none⟩ = some (.int .i64 (xs.getD i mo0).2)
theorem SlM.keep {w w' : World} {p : Option Addr} {xs : List Mo} (hB : Below w.heap.size w w') (h : SlM w p xs) : SlM w' p xs := fun i hi => by
  obtain ⟨b, o, rfl, c0, c1⟩ := h i hi
  have hb : b < w.heap.size := by have := World.block_lt_of_cell? w _ c0; simpa using this
  exact ⟨b, o, rfl, kp hB hb c0, kp hB hb c1⟩
theorem ret_int {a b : Int} (h : a = b) : Ending.returned (.int .i64 a) = .returned (.int .i64 b) := by rw [h]
theorem ret_bool {a b : Bool} (h : a = b) : Ending.returned (.bool a) = .returned (.bool b) := by rw [h]
set_option maxRecDepth 100000 in
set_option maxHeartbeats 8000000 in
theorem cmpF (p q : Option Addr) (xs ys : List Mo) (c d : Nat) (w : World) (hn : xs.length ≤ maxLen) (hm : ys.length ≤ maxLen) (RA : Hid (SlM w p xs)) (RB : Hid (SlM w q ys)) :
    Calls Try.prog 61 #[.slice p xs.length c, .slice q ys.length d, .func (.func 62) #[] #[]] w fun e w' => e = .returned (.int .i64 (lc xs ys)) ∧ Below w.heap.size w w' := by
  have C := Lib.hid fun (s : ByteArray) (a : Int) (t : ByteArray) (b : Int) w => clos (s, a) (t, b) w
  unfold Mv at C
  simp only at C
  unfold maxLen at hn hm
  go_enter Try.func61, Try.ntmps61
  go_wp2
  go_loopw [13] (fun i wr => ∃ k : Nat, i = .int .i64 (k : Int) ∧ k ≤ xs.length ∧ k ≤ ys.length ∧ Below w.heap.size w wr ∧ Hid (lc xs ys = lc (xs.drop k) (ys.drop k))) (fun i _ => xs.length - (intOf i).toNat)
  case atStart => exact ⟨0, rfl, by omega, by omega, Below.refl _ _, Lib.hid rfl⟩
  case round =>
    obtain ⟨k, rfl, hk, hk2, hB, HL⟩ := hrel
    have k0 : (0 : Int) ≤ k := by omega
    by_cases hlt : k < xs.length
    · obtain ⟨b, o, rfl, c0, c1⟩ := SlM.keep hB RA.out k hlt
      obtain ⟨x, hx⟩ : ∃ x, xs.getD k mo0 = x := ⟨_, rfl⟩
      have hb : b < wr.heap.size := by have := World.block_lt_of_cell? wr _ c0; simpa using this
      have k1 : (k : Int) < xs.length := by omega
      rw [hx] at c0 c1
      obtain ⟨s, a⟩ := x
      simp only at c0 c1
      by_cases hl2 : k < ys.length
      · have hst := Lib.hid (lc_step hlt hl2)
        obtain ⟨b', o', rfl, d0, d1⟩ := SlM.keep hB RB.out k hl2
        obtain ⟨y, hy⟩ : ∃ y, ys.getD k mo0 = y := ⟨_, rfl⟩
        have hb' : b' < wr.heap.size := by have := World.block_lt_of_cell? wr _ d0; simpa using this
        rw [hy] at d0 d1
        have hst := Lib.hid (by have h := hst.out; rw [hx, hy] at h; exact h)
        clear hx hy
        obtain ⟨t, e⟩ := y
        simp only at d0 d1
        have l1 : (k : Int) < ys.length := by omega
        have l2 : ¬ (ys.length : Int) ≤ k := by omega
        have D0 := kp ((Below.refl wr.heap.size wr).alloc (Nat.le_refl _) (Obj.cells #[Value.string s, Value.int .i64 a] 62)) hb' d0
        have D1 := kp ((Below.refl wr.heap.size wr).alloc (Nat.le_refl _) (Obj.cells #[Value.string s, Value.int .i64 a] 62)) hb' d1
        obtain ⟨m, hm2⟩ : ∃ m, mc (s, a) (t, e) = m := ⟨_, rfl⟩
        have CC := Lib.hid fun w => by have h := C.out s a t e w; rw [hm2] at h; exact h
        rw [hm2] at hst
        clear hm2 C
        go_wp2_with fail
        refine (CC.out _).mono ?_
        rintro e w' ⟨rfl, hb2⟩
        have hB2 : Below w.heap.size w ((wr.alloc (Obj.cells #[Value.string s, Value.int .i64 a] 62)).alloc (Obj.cells #[Value.string t, Value.int .i64 e] 62)) := (hB.alloc hB.size _).alloc (by have := hB.size; simp; omega) _
        have hB3 := hB2.trans (hb2.mono hB2.size)
        clear hB2 hb2
        by_cases hm0 : m = 0
        · subst hm0
          go_wp2
          go_roundw
          case rel => exact ⟨k + 1, by go_num, by omega, by omega, hB3, Lib.hid (by rw [HL.out, hst.out]; simp)⟩
          case measure => simp [intOf]; omega
        · have hmb : (m == 0) = false := beq_false_of_ne hm0
          go_wp2
          go_ret
          exact ⟨ret_int (by rw [HL.out, hst.out, if_neg hm0]), hB3⟩
      · have l2 : (ys.length : Int) ≤ k := by omega
        go_wp2
        go_ret
        exact ⟨ret_int (by rw [HL.out, lc_long hlt (by omega)]), hB.alloc hB.size _⟩
    · have k1 : ¬ (k : Int) < xs.length := by omega
      by_cases hl2 : k < ys.length
      · have l1 : (xs.length : Int) < ys.length := by omega
        go_wp2
        go_ret
        exact ⟨ret_int (by rw [HL.out, lc_short (by omega) hl2]), hB⟩
      · have l1 : ¬ (xs.length : Int) < ys.length := by omega
        go_wp2
        go_ret
        exact ⟨ret_int (by rw [HL.out, lc_same (by omega) (by omega)]), hB⟩
end Go.Proofs.Ytipeapjbodnagaa.Ln
