/- Linear forms: the statement on multiples. -/
import Derived.Test.YthdeaneffnlffaaY18
import Derived.Test.YthdeaneffnlffaaY6
namespace Go.Proofs.Ythdeaneffnlffaa.Ln
open Go.ChangeShapes Go.WideShapes Go.ChangeAt Go.RowKit
set_option linter.unusedVariables false

def smB (xs : List Mo) : Bool := decide (xs.length ≤ 40) && xs.all fun m => decide (m.1.size ≤ 40)
theorem smB_yes {xs : List Mo} (h : smB xs = true) : xs.length ≤ 40 ∧ ∀ m ∈ xs, m.1.size ≤ 40 := by
  unfold smB at h
  rw [Bool.and_eq_true, decide_eq_true_eq, List.all_eq_true] at h
  exact ⟨h.1, fun m hm => by simpa using h.2 m hm⟩
set_option maxRecDepth 100000 in
set_option maxHeartbeats 8000000 in
theorem small2 (k : Int) (p : Option Addr) (xs : List Mo) (c : Nat) (w : World) (hn : xs.length ≤ maxLen) (RA : Hid (SlM w p xs)) :
    Calls Try.prog 10 #[Lv k p xs.length c] w fun e w' => e = .returned (.bool (smB xs)) ∧ Below w.heap.size w w' := by
  have B0 : Below w.heap.size w (w.alloc (Obj.cells #[Value.int .i64 k, Value.slice p xs.length c] 24)) := (Below.refl _ _).alloc (Nat.le_refl _) _
  have f1 : ((w.alloc (Obj.cells #[Value.int .i64 k, Value.slice p xs.length c] 24))).cell? ⟨w.heap.size, 1, none⟩ = some (.slice p xs.length c) := by go_cell
  unfold maxLen at hn
  unfold Lv
  by_cases h40 : 40 < xs.length
  · have d1 : (40 : Int) < xs.length := by omega
    have HT := Lib.hid (show smB xs = false by unfold smB; rw [decide_eq_false (by omega)]; rfl)
    go_enter Try.func10, Try.ntmps10
    go_wp2
    go_ret
    exact ⟨ret_bool HT.out.symm, B0⟩
  · have d1 : ¬ (40 : Int) < xs.length := by omega
    have HT := Lib.hid (show smB xs = xs.all fun m => decide (m.1.size ≤ 40) by unfold smB; rw [decide_eq_true (by omega)]; rfl)
    go_enter Try.func10, Try.ntmps10
    go_wp2
    have RA1 := Lib.hid (SlM.keep B0 RA.out)
    generalize (w.alloc (Obj.cells #[Value.int .i64 k, Value.slice p xs.length c] 24)) = z at *
    go_loopw [3] (fun i wr => ∃ j : Nat, i = .int .i64 (j : Int) ∧ j ≤ xs.length ∧ wr = z ∧ Hid (∀ m ∈ xs.take j, m.1.size ≤ 40)) (fun i _ => xs.length - (intOf i).toNat)
    case atStart => exact ⟨0, rfl, by omega, rfl, Lib.hid (by simp)⟩
    case round =>
      obtain ⟨j, rfl, hk, rfl, HJ⟩ := hrel
      have k0 : (0 : Int) ≤ j := by omega
      by_cases hlt : j < xs.length
      · obtain ⟨b, o, rfl, c0, c1⟩ := RA1.out j hlt
        have htk := Lib.hid (take_step hlt)
        have hmem := Lib.hid (getD_mem hlt)
        obtain ⟨x, hx⟩ : ∃ x, xs.getD j mo0 = x := ⟨_, rfl⟩
        have htk := Lib.hid (by have h := htk.out; rw [hx] at h; exact h)
        have hmem := Lib.hid (by have h := hmem.out; rw [hx] at h; exact h)
        rw [hx] at c0 c1
        clear hx
        obtain ⟨s, a⟩ := x
        simp only at c0 c1
        have k1 : (j : Int) < xs.length := by omega
        by_cases hs : 40 < s.size
        · have d2 : (40 : Int) < s.size := by omega
          have HF := Lib.hid (HT.out.trans (show (xs.all fun m => decide (m.1.size ≤ 40)) = false from by
            rw [List.all_eq_false]
            exact ⟨_, hmem.out, by simp; omega⟩))
          go_wp2
          go_ret
          exact ⟨ret_bool HF.out.symm, B0⟩
        · have d2 : ¬ (40 : Int) < s.size := by omega
          have HJ2 : Hid (∀ m ∈ xs.take (j + 1), m.1.size ≤ 40) := Lib.hid (by
            rw [htk.out]
            intro m hm
            rcases List.mem_append.1 hm with h | h
            · exact HJ.out m h
            · rw [List.mem_singleton] at h; rw [h]; simp only; omega)
          go_wp2
          go_roundw
          case rel => exact ⟨j + 1, by go_num, by omega, by first | rfl | trivial, HJ2⟩
          case measure => simp [intOf]; omega
      · have k1 : ¬ (j : Int) < xs.length := by omega
        have HF := Lib.hid (HT.out.trans (show (xs.all fun m => decide (m.1.size ≤ 40)) = true from by
          rw [List.all_eq_true]
          have h := HJ.out
          rw [List.take_of_length_le (by omega)] at h
          intro m hm
          simpa using h m hm))
        go_wp2
        go_ret
        exact ⟨ret_bool HF.out.symm, B0⟩
theorem sclR_len (by' k : Int) (xs : List Mo) : (sclR by' k xs).2.1.length ≤ xs.length := by
  unfold sclR
  split
  · simp
  · split
    · simp
    · split
      · simp [sclV]
      · simp
theorem bd_get {xs : List Mo} (h : ∀ z ∈ xs, z.1.size ≤ maxLen ∧ (-9223372036854775808 ≤ z.2 ∧ z.2 ≤ 9223372036854775807)) : ∀ i, i < xs.length → (xs.getD i mo0).1.size ≤ maxLen ∧ -9223372036854775808 ≤ (xs.getD i mo0).2 ∧ (xs.getD i mo0).2 ≤ 9223372036854775807 :=
  fun i hi => h _ (getD_mem hi)
theorem SlM.up {w u : World} {p : Option Addr} {xs : List Mo} (h : SlM w p xs) (hb : Below w.heap.size w u) : Hid (SlM u p xs) := Lib.hid (SlM.keep hb h)
set_option maxRecDepth 100000 in
set_option maxHeartbeats 16000000 in
theorem law_scales (k : Int) (p : Option Addr) (xs : List Mo) (c : Nat) (by' : Int) (w : World) (hk : -9223372036854775808 ≤ k ∧ k ≤ 9223372036854775807) (hc : xs.length ≤ c) (hm : c ≤ maxLen) (RA : Hid (SlM w p xs))
    (hx : ∀ z ∈ xs, z.1.size ≤ maxLen ∧ (-9223372036854775808 ≤ z.2 ∧ z.2 ≤ 9223372036854775807)) (hb : -9223372036854775808 ≤ by' ∧ by' ≤ 9223372036854775807) :
    Calls Try.prog 4 #[.agg #[.int .i64 k, .slice p xs.length c], .int .i64 by'] w fun e w' => e = .returned (.bool true) ∧ Below w.heap.size w w' := by
  have EX := Lib.hid alive
  have RS := Lib.hid (bd_get hx)
  have C0 := Lib.hid fun w R => small2 k p xs c w (Nat.le_trans hc hm) R
  have C1 := Lib.hid fun (hl : xs.length ≤ 1000) w R => scale1 k p xs c by' w hl R RS hk.1 hk.2 hb.1 hb.2
  have C2 := Lib.hid fun (hl : xs.length ≤ 1000) w R => scale2 k p xs c by' w hl R RS hk.1 hk.2 hb.1 hb.2
  have C3 := Lib.hid fun K q1 (ys : List Mo) c1 q2 c2 w hl R1 R2 => linEq K q1 ys c1 q2 c2 w hl R1 R2
  have K : Below w.heap.size w (w.alloc (Obj.cells #[Value.int .i64 k, Value.slice p xs.length c] 24)) := (Below.refl _ _).alloc (Nat.le_refl _) _
  have F : Cl [(w.heap.size, 0, .int .i64 k), (w.heap.size, 1, .slice p xs.length c)] (w.alloc (Obj.cells #[Value.int .i64 k, Value.slice p xs.length c] 24)) := Cl.cons (by go_cell) (by first | go_cell | simp) (Cl.cons (by go_cell) (by first | go_cell | simp) (Cl.nil _))
  have HS := Lib.hid fun h : smB xs = true => (smB_yes h).1
  have HL := Lib.hid (sclR_len by' k xs)
  generalize sclR by' k xs = R at *
  obtain ⟨K0, ys, er⟩ := R
  generalize smB xs = v at *
  clear hx hc hm
  unfold LR at *
  unfold Lv at *
  simp only at C1 C2 HL
  go_enter Try.func4, Try.ntmps4
  go_wp2_with fail
  generalize (w.alloc (Obj.cells #[Value.int .i64 k, Value.slice p xs.length c] 24)) = z at *
  go_wp2_with fail
  refine (C0.out _ (RA.out.up K)).mono ?_
  rintro e wn ⟨rfl, hb⟩
  replace F := F.below hb
  replace K := K.trans (hb.mono K.size)
  clear hb
  cases v
  case false =>
    go_wp2_with fail
    refine (EX.out _).mono ?_
    rintro e wn ⟨rfl, hb⟩
    go_wp2
    go_ret
    exact ⟨rfl, K.trans (hb.mono K.size)⟩
  case true =>
    have hl := HS.out rfl
    have hly := HL.out
    have f0 := F.head
    have f1 := F.tail.head
    go_wp2_with fail
    refine (C1.out (by omega) _ (RA.out.up K)).mono ?_
    rintro e wn ⟨q1, c1, rfl, s1, hb⟩
    replace F := F.below hb
    replace K := K.trans (hb.mono K.size)
    clear hb
    replace F := Cl.cons (b := wn.heap.size) (o := 0) (v := .int .i64 K0) (by go_cell) (by first | go_cell | simp) (Cl.cons (b := wn.heap.size) (o := 1) (v := .slice q1 ys.length c1) (by go_cell) (by first | go_cell | simp) (F.below ((Below.refl _ _).alloc (Nat.le_refl _) (Obj.cells #[Value.int .i64 K0, Value.slice q1 ys.length c1] 24))))
    replace K := K.alloc K.size (Obj.cells #[Value.int .i64 K0, Value.slice q1 ys.length c1] 24)
    replace s1 := SlM.keep ((Below.refl wn.heap.size wn).alloc (Nat.le_refl _) (Obj.cells #[Value.int .i64 K0, Value.slice q1 ys.length c1] 24)) s1
    have x0 := F.head
    have x1 := F.tail.head
    have f0 := F.tail.tail.head
    have f1 := F.tail.tail.tail.head
    go_wp2_with fail
    generalize wn.alloc (Obj.cells #[Value.int .i64 K0, Value.slice q1 ys.length c1] 24) = z5 at *
    generalize wn.heap.size = g5 at *
    clear x0 x1 f0 f1
    skip
    refine (C2.out (by omega) _ (RA.out.up K)).mono ?_
    rintro e wn ⟨q2, c2, rfl, s2, hb⟩
    replace F := F.below hb
    replace K := K.trans (hb.mono K.size)
    replace s1 := SlM.keep hb s1
    clear hb
    replace F := Cl.cons (b := wn.heap.size) (o := 0) (v := .int .i64 K0) (by go_cell) (by first | go_cell | simp) (Cl.cons (b := wn.heap.size) (o := 1) (v := .slice q2 ys.length c2) (by go_cell) (by first | go_cell | simp) (F.below ((Below.refl _ _).alloc (Nat.le_refl _) (Obj.cells #[Value.int .i64 K0, Value.slice q2 ys.length c2] 24))))
    replace K := K.alloc K.size (Obj.cells #[Value.int .i64 K0, Value.slice q2 ys.length c2] 24)
    replace s1 := SlM.keep ((Below.refl wn.heap.size wn).alloc (Nat.le_refl _) (Obj.cells #[Value.int .i64 K0, Value.slice q2 ys.length c2] 24)) s1
    replace s2 := SlM.keep ((Below.refl wn.heap.size wn).alloc (Nat.le_refl _) (Obj.cells #[Value.int .i64 K0, Value.slice q2 ys.length c2] 24)) s2
    have y0 := F.head
    have y1 := F.tail.head
    have x0 := F.tail.tail.head
    have x1 := F.tail.tail.tail.head
    go_wp2_with fail
    generalize wn.alloc (Obj.cells #[Value.int .i64 K0, Value.slice q2 ys.length c2] 24) = z7 at *
    generalize wn.heap.size = g7 at *
    refine (C3.out _ _ _ _ _ _ _ (by unfold maxLen; omega) (Lib.hid s1) (Lib.hid s2)).mono ?_
    rintro e wn ⟨rfl, hb⟩
    replace K := K.trans (hb.mono K.size)
    clear hb
    go_wp2_with fail
    refine (EX.out _).mono ?_
    rintro e wn ⟨rfl, hb⟩
    go_wp2
    go_ret
    exact ⟨rfl, K.trans (hb.mono K.size)⟩
end Go.Proofs.Ythdeaneffnlffaa.Ln
