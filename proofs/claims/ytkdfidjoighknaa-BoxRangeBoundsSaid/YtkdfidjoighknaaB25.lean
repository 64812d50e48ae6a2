/- Boxes: the statement on ranges: its walk. -/
import Derived.Test.YtkdfidjoighknaaB22
namespace Go.Proofs.Ytkdfidjoighknaa.Bx
open Go.ChangeShapes Go.WideShapes Go.ChangeAt Go.RowKit
set_option linter.unusedVariables false
set_option linter.unusedSimpArgs false
open Go.Proofs.Ytkdfidjoighknaa.Nm Go.Proofs.Ytkdfidjoighknaa.Ln
def FW (B : Prop) (w : World) (e : Ending) (w' : World) : Prop := ∃ b, e = .returned (.bool b) ∧ (b = true → B) ∧ Below w.heap.size w w'
set_option maxRecDepth 100000 in
set_option maxHeartbeats 8000000 in
theorem few1 (k : Int) (p q r : Option Addr) (xs : List Mo) (n m c d f : Nat) (w : World) (hn : xs.length ≤ maxLen) (hm : n ≤ maxLen) (hz : m ≤ maxLen) (RM : Hid (SlM w p xs)) :
    Calls Try.prog 31 #[Lv k p xs.length c, .slice q n d, .slice r m f] w (FW (xs.length ≤ 40 ∧ n ≤ 1000 ∧ m ≤ 1000) w) := by
  have BX := Lib.hid ((Below.refl w.heap.size w).alloc (Nat.le_refl _) (Obj.cells #[Value.int .i64 k, Value.slice p xs.length c] 44))
  have hb0 : (w.alloc (Obj.cells #[Value.int .i64 k, Value.slice p xs.length c] 44)).cell? ⟨w.heap.size, 0, none⟩ = some (.int .i64 k) := by go_cell
  have hb1 : (w.alloc (Obj.cells #[Value.int .i64 k, Value.slice p xs.length c] 44)).cell? ⟨w.heap.size, 1, none⟩ = some (.slice p xs.length c) := by go_cell
  have hlt0 : w.heap.size < (w.alloc (Obj.cells #[Value.int .i64 k, Value.slice p xs.length c] 44)).heap.size := by simp
  have HLT := Lib.hid hlt0
  unfold maxLen at hn hm hz
  unfold Lv
  by_cases a1 : 40 < xs.length
  · have j1 : decide ((40 : Int) < xs.length) = true := decide_eq_true (by omega)
    go_enter Try.func31, Try.ntmps31
    go_wp2
    go_ret
    exact ⟨false, rfl, (fun h => by cases h), BX.out⟩
  have j1 : decide ((40 : Int) < xs.length) = false := decide_eq_false (by omega)
  by_cases a2 : 1000 < n
  · have j2 : decide ((1000 : Int) < n) = true := decide_eq_true (by omega)
    go_enter Try.func31, Try.ntmps31
    go_wp2
    go_ret
    exact ⟨false, rfl, (fun h => by cases h), BX.out⟩
  have j2 : decide ((1000 : Int) < n) = false := decide_eq_false (by omega)
  by_cases a3 : 1000 < m
  · have j3 : decide ((1000 : Int) < m) = true := decide_eq_true (by omega)
    go_enter Try.func31, Try.ntmps31
    go_wp2
    go_ret
    exact ⟨false, rfl, (fun h => by cases h), BX.out⟩
  have j3 : decide ((1000 : Int) < m) = false := decide_eq_false (by omega)
  have RM1 := Lib.hid (SlM.keep BX.out RM.out)
  go_enter Try.func31, Try.ntmps31
  go_wp2
  generalize (w.alloc (Obj.cells #[Value.int .i64 k, Value.slice p xs.length c] 44)) = z at *
  go_loop [7] (fun i => ∃ j : Nat, i = .int .i64 (j : Int) ∧ j ≤ xs.length) (fun i => xs.length - (intOf i).toNat)
  case atStart => exact ⟨0, rfl, by omega⟩
  case round =>
    obtain ⟨j, rfl, hk⟩ := hrel
    have k0 : (0 : Int) ≤ j := by omega
    by_cases hlt : j < xs.length
    · obtain ⟨b, o, rfl, c0, c1⟩ := RM1.out j hlt
      have k1 : (j : Int) < xs.length := by omega
      obtain ⟨s, hs⟩ : ∃ s, (xs.getD j mo0).1 = s := ⟨_, rfl⟩
      rw [hs] at c0
      clear c1 hs
      by_cases hS : (100 : Int) < s.size
      · have k2 : decide ((100 : Int) < s.size) = true := decide_eq_true hS
        go_wp2
        go_ret
        exact ⟨false, rfl, (fun h => by cases h), BX.out⟩
      · have k2 : decide ((100 : Int) < s.size) = false := decide_eq_false hS
        go_wp2
        go_round
        case rel => exact ⟨j + 1, by go_num, by omega⟩
        case measure => simp [intOf]; omega
    · have k1 : ¬ (j : Int) < xs.length := by omega
      go_wp2
      go_ret
      exact ⟨true, rfl, (fun _ => ⟨by omega, by omega, by omega⟩), BX.out⟩
theorem mo_get {xs : List Mo} (h : ∀ z ∈ xs, z.1.size ≤ maxLen ∧ (-9223372036854775808 ≤ z.2 ∧ z.2 ≤ 9223372036854775807)) (i : Nat) (hi : i < xs.length) : (xs.getD i mo0).1.size ≤ maxLen ∧ F64 (xs.getD i mo0).2 := by
  have := h (xs.getD i mo0) (by rw [List.getD, List.getElem?_eq_getElem hi]; exact List.getElem_mem hi)
  exact ⟨this.1, this.2⟩
set_option maxRecDepth 100000 in
set_option maxHeartbeats 8000000 in
theorem law8 (k : Int) (p : Option Addr) (xs : List Mo) (c : Nat) (q : Option Addr) (ns : List ByteArray) (d : Nat) (r : Option Addr) (zs : List Int) (f : Nat) (w : World) (hk : -9223372036854775808 ≤ k ∧ k ≤ 9223372036854775807)
    (hc1 : xs.length ≤ c) (hm1 : c ≤ maxLen) (RM : Hid (SlM w p xs)) (hx : ∀ z ∈ xs, z.1.size ≤ maxLen ∧ (-9223372036854775808 ≤ z.2 ∧ z.2 ≤ 9223372036854775807))
    (hc2 : ns.length ≤ d) (hm2 : d ≤ maxLen) (RN : Hid (SlT w q ns)) (_ : ∀ z ∈ ns, z.size ≤ maxLen)
    (hc3 : zs.length ≤ f) (hm3 : f ≤ maxLen) (RZ : Hid (SlI w r zs)) (_ : ∀ z ∈ zs, -9223372036854775808 ≤ z ∧ z ≤ 9223372036854775807) :
    Calls Try.prog 8 #[.agg #[.int .i64 k, .slice p xs.length c], .slice q ns.length d, .slice r zs.length f] w (RT w) := by
  have h1 : xs.length ≤ maxLen := Nat.le_trans hc1 hm1
  have h2 : ns.length ≤ maxLen := Nat.le_trans hc2 hm2
  have h3 : zs.length ≤ maxLen := Nat.le_trans hc3 hm3
  have EX := Lib.hid exam
  have BX := Lib.hid ((Below.refl w.heap.size w).alloc (Nat.le_refl _) (Obj.cells #[Value.int .i64 k, Value.slice p xs.length c] 44))
  have hb0 : (w.alloc (Obj.cells #[Value.int .i64 k, Value.slice p xs.length c] 44)).cell? ⟨w.heap.size, 0, none⟩ = some (.int .i64 k) := by go_cell
  have hb1 : (w.alloc (Obj.cells #[Value.int .i64 k, Value.slice p xs.length c] 44)).cell? ⟨w.heap.size, 1, none⟩ = some (.slice p xs.length c) := by go_cell
  have hlt0 : w.heap.size < (w.alloc (Obj.cells #[Value.int .i64 k, Value.slice p xs.length c] 44)).heap.size := by simp
  have HLT := Lib.hid hlt0
  have C0 := Lib.hid fun (u : World) (hu : Below w.heap.size w u) => few1 k p q r xs ns.length zs.length c d f u h1 h2 h3 (Lib.hid (SlM.keep hu RM.out))
  have C1 := Lib.hid fun (u : World) (hu : Below w.heap.size w u) => range1 k p q r xs ns zs c d f u h1 h2 h3 (Lib.hid (SlM.keep hu RM.out)) (Lib.hid (SlT.keep hu RN.out)) (Lib.hid (SlI.keep hu RZ.out)) (Lib.hid fun i hi => (mo_get hx i hi).1) (Lib.hid fun i hi => (mo_get hx i hi).2) hk
  have C2 := Lib.hid fun (u : World) (hu : Below w.heap.size w u) => rrange1 k p q r xs ns zs c d f u h1 h2 h3 (Lib.hid (SlM.keep hu RM.out)) (Lib.hid (SlT.keep hu RN.out)) (Lib.hid (SlI.keep hu RZ.out)) (Lib.hid fun i hi => (mo_get hx i hi).1) (Lib.hid fun i hi => (mo_get hx i hi).2) hk
  obtain ⟨⟨x, y, z⟩, ht⟩ : ∃ t, rT k xs ns zs = t := ⟨_, rfl⟩
  rw [ht] at C1 C2
  unfold RW3 at C1 C2
  simp only at C1 C2
  unfold Lv at C0 C1 C2
  clear ht hx hc1 hm1 hc2 hm2 hc3 hm3 RM RN RZ
  go_enter Try.func8, Try.ntmps8
  go_wp2_with fail
  generalize (w.alloc (Obj.cells #[Value.int .i64 k, Value.slice p xs.length c] 44)) = wb at *
  refine (C0.out wb BX.out).mono ?_
  rintro e w1 ⟨b, rfl, _, hb⟩
  have K1 := Lib.hid (BX.out.trans (hb.mono BX.out.size))
  have HLT1 := Lib.hid (Nat.lt_of_lt_of_le HLT.out hb.size)
  have hx0 : w1.cell? ⟨w.heap.size, 0, none⟩ = some (.int .i64 k) := (hb.cell (p := ⟨w.heap.size, 0, none⟩) HLT.out).trans hb0
  have hx1 : w1.cell? ⟨w.heap.size, 1, none⟩ = some (.slice p xs.length c) := (hb.cell (p := ⟨w.heap.size, 1, none⟩) HLT.out).trans hb1
  clear hb hb0 hb1 C0 BX HLT hlt0
  cases b
  · go_wp2_with fail
    refine (EX.out _).mono ?_
    rintro e w2 ⟨rfl, hb⟩
    have K2 := Lib.hid (K1.out.trans (hb.mono K1.out.size))
    clear hb
    go_wp2
    go_ret
    exact ⟨rfl, K2.out⟩
  · go_wp2_with fail
    refine (C1.out w1 K1.out).mono ?_
    rintro e w2 ⟨rfl, hb⟩
    have K2 := Lib.hid (K1.out.trans (hb.mono K1.out.size))
    have hy0 : w2.cell? ⟨w.heap.size, 0, none⟩ = some (.int .i64 k) := (hb.cell (p := ⟨w.heap.size, 0, none⟩) HLT1.out).trans hx0
    have hy1 : w2.cell? ⟨w.heap.size, 1, none⟩ = some (.slice p xs.length c) := (hb.cell (p := ⟨w.heap.size, 1, none⟩) HLT1.out).trans hx1
    clear hb hx0 hx1 K1 HLT1 C1
    go_wp2_with fail
    refine (C2.out w2 K2.out).mono ?_
    rintro e w3 ⟨rfl, hb⟩
    have K3 := Lib.hid (K2.out.trans (hb.mono K2.out.size))
    clear hb hy0 hy1 K2 C2
    go_wp2_with fail
    refine (EX.out _).mono ?_
    rintro e w4 ⟨rfl, hb⟩
    have K4 := Lib.hid (K3.out.trans (hb.mono K3.out.size))
    clear hb
    go_wp2
    go_ret
    exact ⟨rfl, K4.out⟩
end Go.Proofs.Ytkdfidjoighknaa.Bx
