/- Linear forms: coefficients; equality by the tests. -/
import Derived.Test.YthdeaneffnlffaaY11
namespace Go.Proofs.Ythdeaneffnlffaa.Ln
open Go.ChangeShapes Go.WideShapes Go.ChangeAt Go.RowKit
set_option linter.unusedVariables false

def co : List Mo → ByteArray → Int
  | [], _ => 0
  | x :: r, s => if (x.1.toList == s.toList) = true then x.2 else co r s
theorem co_step {xs : List Mo} {j : Nat} (h : j < xs.length) (s : ByteArray) : co (xs.drop j) s = if ((xs.getD j mo0).1.toList == s.toList) = true then (xs.getD j mo0).2 else co (xs.drop (j + 1)) s := by
  rw [List.drop_eq_getElem_cons h]
  have e1 : xs.getD j mo0 = xs[j] := by unfold List.getD; rw [List.getElem?_eq_getElem h]; rfl
  rw [e1]
  rfl
theorem co_end {xs : List Mo} {j : Nat} (h : j = xs.length) (s : ByteArray) : co (xs.drop j) s = 0 := by
  rw [List.drop_of_length_le (Nat.le_of_eq h.symm)]
  rfl
set_option maxRecDepth 100000 in
set_option maxHeartbeats 8000000 in
theorem coeff1 (k : Int) (p : Option Addr) (xs : List Mo) (c : Nat) (s : ByteArray) (w : World) (hn : xs.length ≤ maxLen) (RA : Hid (SlM w p xs)) :
    Calls Try.prog 21 #[Lv k p xs.length c, .string s] w fun e w' => e = .returned (.int .i64 (co xs s)) ∧ Below w.heap.size w w' := by
  have B0 : Below w.heap.size w (w.alloc (Obj.cells #[Value.int .i64 k, Value.slice p xs.length c] 24)) := (Below.refl _ _).alloc (Nat.le_refl _) _
  unfold maxLen at hn
  unfold Lv
  go_enter Try.func21, Try.ntmps21
  go_wp2
  have RA1 := Lib.hid (SlM.keep B0 RA.out)
  generalize (w.alloc (Obj.cells #[Value.int .i64 k, Value.slice p xs.length c] 24)) = z at *
  go_loopw [10] (fun i wr => ∃ j : Nat, i = .int .i64 (j : Int) ∧ j ≤ xs.length ∧ Below z.heap.size z wr ∧ Hid (co xs s = co (xs.drop j) s)) (fun i _ => xs.length - (intOf i).toNat)
  case atStart => exact ⟨0, rfl, by omega, Below.refl _ _, Lib.hid rfl⟩
  case round =>
    obtain ⟨j, rfl, hk, hB, HL⟩ := hrel
    have k0 : (0 : Int) ≤ j := by omega
    have BK : Below w.heap.size w wr := B0.trans (hB.mono B0.size)
    by_cases hlt : j < xs.length
    · obtain ⟨b, o, rfl, c0, c1⟩ := SlM.keep hB RA1.out j hlt
      have hst := Lib.hid (co_step hlt s)
      obtain ⟨⟨t, a⟩, hx⟩ : ∃ x, xs.getD j mo0 = x := ⟨_, rfl⟩
      have hst := Lib.hid (by have h := hst.out; rw [hx] at h; exact h)
      rw [hx] at c0 c1
      simp only at c0 c1
      have k1 : (j : Int) < xs.length := by omega
      clear hx
      obtain ⟨q1, hq1⟩ : ∃ q, (t.toList == s.toList) = q := ⟨_, rfl⟩
      cases q1
      · have HS := Lib.hid (show co xs s = co (xs.drop (j + 1)) s by rw [HL.out, hst.out]; simp only [hq1]; rfl)
        clear HL hst
        go_wp2
        go_roundw
        case rel => exact ⟨j + 1, by go_num, by omega, hB.alloc hB.size _, HS⟩
        case measure => simp [intOf]; omega
      · have HS := Lib.hid (show co xs s = a by rw [HL.out, hst.out]; simp only [hq1]; rfl)
        clear HL hst
        go_wp2
        go_ret
        exact ⟨ret_int (by rw [HS.out]), BK.alloc BK.size _⟩
    · have k1 : ¬ (j : Int) < xs.length := by omega
      have HS := Lib.hid (show co xs s = 0 by rw [HL.out, co_end (by omega)])
      go_wp2
      go_ret
      exact ⟨ret_int (by rw [HS.out]), BK⟩
set_option maxRecDepth 100000 in
set_option maxHeartbeats 8000000 in
theorem coeff2 (k : Int) (p : Option Addr) (xs : List Mo) (c : Nat) (s : ByteArray) (w : World) (hn : xs.length ≤ maxLen) (RA : Hid (SlM w p xs)) :
    Calls Try.prog 22 #[Lv k p xs.length c, .string s] w fun e w' => e = .returned (.int .i64 (co xs s)) ∧ Below w.heap.size w w' := by
  have B0 : Below w.heap.size w (w.alloc (Obj.cells #[Value.int .i64 k, Value.slice p xs.length c] 24)) := (Below.refl _ _).alloc (Nat.le_refl _) _
  have f1 : ((w.alloc (Obj.cells #[Value.int .i64 k, Value.slice p xs.length c] 24))).cell? ⟨w.heap.size, 1, none⟩ = some (.slice p xs.length c) := by go_cell
  unfold maxLen at hn
  unfold Lv
  go_enter Try.func22, Try.ntmps22
  go_wp2
  have RA1 := Lib.hid (SlM.keep B0 RA.out)
  generalize (w.alloc (Obj.cells #[Value.int .i64 k, Value.slice p xs.length c] 24)) = z at *
  go_loopw [5] (fun i wr => ∃ j : Nat, i = .int .i64 (j : Int) ∧ j ≤ xs.length ∧ wr = z ∧ Hid (co xs s = co (xs.drop j) s)) (fun i _ => xs.length - (intOf i).toNat)
  case atStart => exact ⟨0, rfl, by omega, rfl, Lib.hid rfl⟩
  case round =>
    obtain ⟨j, rfl, hk, rfl, HL⟩ := hrel
    have k0 : (0 : Int) ≤ j := by omega
    by_cases hlt : j < xs.length
    · obtain ⟨b, o, rfl, c0, c1⟩ := RA1.out j hlt
      have hst := Lib.hid (co_step hlt s)
      obtain ⟨⟨t, a⟩, hx⟩ : ∃ x, xs.getD j mo0 = x := ⟨_, rfl⟩
      have hst := Lib.hid (by have h := hst.out; rw [hx] at h; exact h)
      rw [hx] at c0 c1
      simp only at c0 c1
      have k1 : (j : Int) < xs.length := by omega
      clear hx
      obtain ⟨q1, hq1⟩ : ∃ q, (t.toList == s.toList) = q := ⟨_, rfl⟩
      cases q1
      · have HS := Lib.hid (show co xs s = co (xs.drop (j + 1)) s by rw [HL.out, hst.out]; simp only [hq1]; rfl)
        clear HL hst
        go_wp2
        go_roundw
        case rel => exact ⟨j + 1, by go_num, by omega, by first | rfl | trivial, HS⟩
        case measure => simp [intOf]; omega
      · have HS := Lib.hid (show co xs s = a by rw [HL.out, hst.out]; simp only [hq1]; rfl)
        clear HL hst
        go_wp2
        go_ret
        exact ⟨ret_int (by rw [HS.out]), B0⟩
    · have k1 : ¬ (j : Int) < xs.length := by omega
      have HS := Lib.hid (show co xs s = 0 by rw [HL.out, co_end (by omega)])
      go_wp2
      go_ret
      exact ⟨ret_int (by rw [HS.out]), B0⟩
set_option maxRecDepth 100000 in
set_option maxHeartbeats 8000000 in
theorem linEq (k : Int) (p : Option Addr) (xs : List Mo) (c : Nat) (q : Option Addr) (d : Nat) (w : World) (hn : xs.length ≤ maxLen) (RA : Hid (SlM w p xs)) (RB : Hid (SlM w q xs)) :
    Calls Try.prog 14 #[Lv k p xs.length c, Lv k q xs.length d] w fun e w' => e = .returned (.bool true) ∧ Below w.heap.size w w' := by
  have B0 : Below w.heap.size w ((w.alloc (Obj.cells #[Value.int .i64 k, Value.slice p xs.length c] 24)).alloc (Obj.cells #[Value.int .i64 k, Value.slice q xs.length d] 24)) := two_below _ _
  have f1 : (((w.alloc (Obj.cells #[Value.int .i64 k, Value.slice p xs.length c] 24)).alloc (Obj.cells #[Value.int .i64 k, Value.slice q xs.length d] 24))).cell? ⟨w.heap.size, 1, none⟩ = some (.slice p xs.length c) := by go_cell
  have g1 : (((w.alloc (Obj.cells #[Value.int .i64 k, Value.slice p xs.length c] 24)).alloc (Obj.cells #[Value.int .i64 k, Value.slice q xs.length d] 24))).cell? ⟨w.heap.size + 1, 1, none⟩ = some (.slice q xs.length d) := by go_cell
  unfold maxLen at hn
  unfold Lv
  go_enter Try.func14, Try.ntmps14
  go_wp2
  have RA1 := Lib.hid (SlM.keep B0 RA.out)
  have RB1 := Lib.hid (SlM.keep B0 RB.out)
  generalize ((w.alloc (Obj.cells #[Value.int .i64 k, Value.slice p xs.length c] 24)).alloc (Obj.cells #[Value.int .i64 k, Value.slice q xs.length d] 24)) = z at *
  go_loopw [5] (fun i wr => ∃ j r : Nat, i = .int .i64 (j : Int) ∧ j ≤ xs.length ∧ wr = z.drewN r) (fun i _ => xs.length - (intOf i).toNat)
  case atStart => exact ⟨0, 0, rfl, by omega, rfl⟩
  case round =>
    obtain ⟨j, r, rfl, hk, rfl⟩ := hrel
    have k0 : (0 : Int) ≤ j := by omega
    by_cases hlt : j < xs.length
    · obtain ⟨b, o, rfl, c0, c1⟩ := RA1.out j hlt
      obtain ⟨b', o', rfl, d0, d1⟩ := RB1.out j hlt
      obtain ⟨⟨t, a⟩, hx⟩ : ∃ x, xs.getD j mo0 = x := ⟨_, rfl⟩
      rw [hx] at c0 c1 d0 d1
      simp only at c0 c1 d0 d1
      have k1 : (j : Int) < xs.length := by omega
      clear hx
      go_wp2
      go_quiet (fail)
      go_wp2
      go_roundw
      case rel => exact ⟨j + 1, _, by go_num, by omega, rfl⟩
      case measure => simp [intOf]; omega
    · have k1 : ¬ (j : Int) < xs.length := by omega
      go_wp2
      go_ret
      exact ⟨rfl, below_drewN B0 _⟩
end Go.Proofs.Ythdeaneffnlffaa.Ln
