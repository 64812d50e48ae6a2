/- Linear forms: small forms; what every statement checks first. -/
import Derived.Test.YtbicmlkjonaccaaDoorY4
import Derived.Test.YtbicmlkjonaccaaDoorN3
import Derived.Laws.Externs
import Derived.Shelf.Spec.BitsCarry
namespace Go.Proofs.YtbicmlkjonaccaaDoor.Ln
open Go.ChangeShapes Go.WideShapes Go.ChangeAt Go.RowKit
open Go.Proofs.YtbicmlkjonaccaaDoor.Nm
set_option linter.unusedVariables false
set_option linter.unusedSimpArgs false
set_option maxRecDepth 100000 in
set_option maxHeartbeats 8000000 in
theorem small (k : Int) (p : Option Addr) (xs : List Mo) (c : Nat) (w : World) (hn : xs.length ≤ maxLen) (RA : Hid (SlM w p xs)) :
    Calls Tryd.prog 14 #[Lv k p xs.length c] w fun e w' => (∃ v : Bool, e = .returned (.bool v)) ∧ Below w.heap.size w w' := by
  have B0 : Below w.heap.size w (w.alloc (Obj.cells #[Value.int .i64 k, Value.slice p xs.length c] 24)) := (Below.refl _ _).alloc (Nat.le_refl _) _
  have f1 : (w.alloc (Obj.cells #[Value.int .i64 k, Value.slice p xs.length c] 24)).cell? ⟨w.heap.size, 1, none⟩ = some (.slice p xs.length c) := by go_cell
  unfold maxLen at hn
  unfold Lv
  by_cases h40 : 40 < xs.length
  · have d1 : (40 : Int) < xs.length := by omega
    go_enter Tryd.func14, Tryd.ntmps14
    go_wp2
    go_ret
    exact ⟨⟨_, rfl⟩, B0⟩
  · have d1 : ¬ (40 : Int) < xs.length := by omega
    go_enter Tryd.func14, Tryd.ntmps14
    go_wp2
    have RA1 := Lib.hid (SlM.keep B0 RA.out)
    generalize w.alloc (Obj.cells #[Value.int .i64 k, Value.slice p xs.length c] 24) = z at *
    go_loopw [3] (fun i wr => ∃ j : Nat, i = .int .i64 (j : Int) ∧ j ≤ xs.length ∧ wr = z) (fun i _ => xs.length - (intOf i).toNat)
    case atStart => exact ⟨0, rfl, by omega, rfl⟩
    case round =>
      obtain ⟨j, rfl, hk, rfl⟩ := hrel
      have k0 : (0 : Int) ≤ j := by omega
      by_cases hlt : j < xs.length
      · obtain ⟨b, o, rfl, c0, c1⟩ := RA1.out j hlt
        obtain ⟨x, hx⟩ : ∃ x, xs.getD j mo0 = x := ⟨_, rfl⟩
        rw [hx] at c0 c1
        clear hx
        obtain ⟨s, a⟩ := x
        simp only at c0 c1
        have k1 : (j : Int) < xs.length := by omega
        by_cases hs : 40 < s.size
        · have d2 : (40 : Int) < s.size := by omega
          go_wp2
          go_ret
          exact ⟨⟨_, rfl⟩, B0⟩
        · have d2 : ¬ (40 : Int) < s.size := by omega
          go_wp2
          go_roundw
          case rel => exact ⟨j + 1, by go_num, by omega, by first | rfl | trivial⟩
          case measure => simp [intOf]; omega
      · have k1 : ¬ (j : Int) < xs.length := by omega
        go_wp2
        go_ret
        exact ⟨by first | exact ⟨_, rfl⟩ | rfl | simp, B0⟩
theorem const1 (k : Int) (w : World) : Calls Tryd.prog 42 #[.int .i64 k] w fun e w' => e = .returned (.agg #[.int .i64 k, .slice none 0 0]) ∧ Below w.heap.size w w' := by
  go_enter Tryd.func42, Tryd.ntmps42
  go_wp2
  exact bodyPost_ret (v := .agg #[.int .i64 k, .slice none 0 0]) (by simp [results, Tryd.results42, go_sem]) rfl ⟨rfl, (Below.refl _ _).alloc (Nat.le_refl _) _⟩
def VW (s : ByteArray) (w : World) (e : Ending) (w' : World) : Prop := ∃ g c, e = .returned (.agg #[.int .i64 0, .slice (some ⟨g, 0, none⟩) 1 c]) ∧ w'.cell? ⟨g, 0, none⟩ = some (.string s) ∧ w'.cell? ⟨g, 1, none⟩ = some (.int .i64 1) ∧ Below w.heap.size w w'
theorem var1_ok (s : ByteArray) (w : World) (hs : s.size ≤ maxLen) (h : nmB s = true) : Calls Tryd.prog 43 #[.string s] w (VW s w) := by
  have C := Lib.hid fun w => isName s w hs
  rw [h] at C
  go_enter Tryd.func43, Tryd.ntmps43
  go_wp2_with (go_at_call 44; refine (C.out _).mono ?_; rintro e w' ⟨rfl, rfl⟩)
  refine bodyPost_ret (v := .agg #[.int .i64 0, .slice (some ⟨w.heap.size + 1, 0, none⟩) 1 1]) (by simp [results, Tryd.results43, go_sem]) rfl ⟨w.heap.size + 1, 1, rfl, by go_cell, by go_cell, ((Below.refl _ _).alloc (Nat.le_refl _) _).alloc (by simp) _⟩
set_option maxHeartbeats 4000000 in
theorem val0 (k : Int) (w : World) : Calls Tryd.prog 16 #[.agg #[.int .i64 k, .slice none 0 0]] w fun e w' => e = .returned (.int .i64 0) ∧ Below w.heap.size w w' := by
  go_enter Tryd.func16, Tryd.ntmps16
  go_wp2
  refine wp_loop_rounds 1 ?_
  rw [rounds_succ]
  go_wp2
  go_ret
  exact ⟨rfl, (Below.refl _ _).alloc (Nat.le_refl _) _⟩
theorem add7 (w : World) : (callFunc 112 #[.int .u64 0, .int .u64 7, .int .u64 0]).run Tryd.prog w = .ok (.value (.tuple #[.int .u64 7, .int .u64 0])) w := by
  rw [run_callFunc_extern Tryd.func112 (by kernel_rfl) (by kernel_rfl) (by kernel_rfl) (e := add64Entry) (by kernel_rfl), run_add64 0 7 0 (by omega) (by omega) (by omega) (by omega)]
  rfl
theorem add0 (w : World) : (callFunc 112 #[.int .u64 0, .int .u64 0, .int .u64 0]).run Tryd.prog w = .ok (.value (.tuple #[.int .u64 0, .int .u64 0])) w := by
  rw [run_callFunc_extern Tryd.func112 (by kernel_rfl) (by kernel_rfl) (by kernel_rfl) (e := add64Entry) (by kernel_rfl), run_add64 0 0 0 (by omega) (by omega) (by omega) (by omega)]
  rfl
theorem mul7 (w : World) : Calls Tryd.prog 111 #[.int .u64 7, .int .u64 1] w fun e w' => e = .returned (.tuple #[.int .u64 0, .int .u64 7]) ∧ w' = w := Tryd.bits_Mul64 7 1 (by decide) (by decide) w
set_option maxRecDepth 100000 in
set_option maxHeartbeats 8000000 in
theorem wadd (g : Nat) (w : World) (a0 : w.cell? ⟨g, 0, none⟩ = some (.int .u64 0)) (a1 : w.cell? ⟨g, 1, none⟩ = some (.int .u64 0)) (a2 : w.cell? ⟨g, 2, none⟩ = some (.int .u64 0)) (z0 : w.frozen? ⟨g, 0, none⟩ = false) (z1 : w.frozen? ⟨g, 1, none⟩ = false) (z2 : w.frozen? ⟨g, 2, none⟩ = false) :
    Calls Tryd.prog 80 #[.pointer (some ⟨g, 0, none⟩), .int .i64 7, .int .i64 1] w fun e w' => e = .returned (.tuple #[]) ∧ w' = ((w.setCell ⟨g, 2, none⟩ (.int .u64 7)).setCell ⟨g, 1, none⟩ (.int .u64 0)).setCell ⟨g, 0, none⟩ (.int .u64 0) := by
  have C := Lib.hid mul7
  go_enter Tryd.func80, Tryd.ntmps80
  go_wp2_with (first | (go_at_call 111; refine (C.out _).mono ?_; rintro e w' ⟨rfl, rfl⟩) | (simp only [add7, add0]))
  go_end0
  exact ⟨rfl, rfl⟩
set_option maxRecDepth 100000 in
set_option maxHeartbeats 8000000 in
theorem wfits (g : Nat) (w : World) (a0 : w.cell? ⟨g, 0, none⟩ = some (.int .u64 0)) (a1 : w.cell? ⟨g, 1, none⟩ = some (.int .u64 0)) (a2 : w.cell? ⟨g, 2, none⟩ = some (.int .u64 7)) :
    Calls Tryd.prog 83 #[.pointer (some ⟨g, 0, none⟩)] w fun e w' => e = .returned (.bool true) ∧ w = w' := by
  go_enter Tryd.func83, Tryd.ntmps83
  go_wp2
  go_ret
  exact ⟨rfl, rfl⟩
set_option maxRecDepth 100000 in
set_option maxHeartbeats 8000000 in
theorem eval7 (w : World) : Calls Tryd.prog 41 #[.agg #[.int .i64 7, .slice none 0 0], .slice none 0 0] w fun e w' => e = .returned (.tuple #[.int .i64 7, .int .i64 0]) ∧ Below w.heap.size w w' := by
  have C1 := Lib.hid val0
  have C2 := Lib.hid wadd
  have C3 := Lib.hid wfits
  have B0 : Below w.heap.size w (w.alloc (Obj.cells #[Value.int .i64 7, Value.slice none 0 0] 24)) := (Below.refl _ _).alloc (Nat.le_refl _) _
  have S0 : w.heap.size < (w.alloc (Obj.cells #[Value.int .i64 7, Value.slice none 0 0] 24)).heap.size := by simp
  have f0 : (w.alloc (Obj.cells #[Value.int .i64 7, Value.slice none 0 0] 24)).cell? ⟨w.heap.size, 0, none⟩ = some (.int .i64 7) := by go_cell
  have f1 : (w.alloc (Obj.cells #[Value.int .i64 7, Value.slice none 0 0] 24)).cell? ⟨w.heap.size, 1, none⟩ = some (.slice none 0 0) := by go_cell
  go_enter Tryd.func41, Tryd.ntmps41
  go_wp2_with fail
  generalize w.alloc (Obj.cells #[Value.int .i64 7, Value.slice none 0 0] 24) = z at *
  refine (C1.out _ _).mono ?_
  rintro e w1 ⟨rfl, hb⟩
  have g0 := kp hb S0 f0
  have g1 := kp hb S0 f1
  have S1 : w.heap.size < w1.heap.size := Nat.lt_of_lt_of_le S0 hb.size
  have K := B0.trans (hb.mono B0.size)
  clear hb f0 f1 B0 S0
  go_wp2_with fail
  have h0 := kp ((Below.refl w1.heap.size w1).alloc (Nat.le_refl _) (Obj.cells #[Value.int .u64 0, Value.int .u64 0, Value.int .u64 0] 102)) S1 g0
  have h1 := kp ((Below.refl w1.heap.size w1).alloc (Nat.le_refl _) (Obj.cells #[Value.int .u64 0, Value.int .u64 0, Value.int .u64 0] 102)) S1 g1
  refine (C2.out w1.heap.size (w1.alloc (Obj.cells #[Value.int .u64 0, Value.int .u64 0, Value.int .u64 0] 102)) (by go_cell) (by go_cell) (by go_cell) (by first | go_cell | simp) (by first | go_cell | simp) (by first | go_cell | simp)).mono ?_
  rintro e w2 ⟨rfl, h2⟩
  have r0 : w2.cell? ⟨w1.heap.size, 0, none⟩ = some (.int .u64 0) := by rw [h2]; go_cell
  have r1 : w2.cell? ⟨w1.heap.size, 1, none⟩ = some (.int .u64 0) := by rw [h2]; go_cell
  have r2 : w2.cell? ⟨w1.heap.size, 2, none⟩ = some (.int .u64 7) := by rw [h2]; go_cell
  have r3 : w2.cell? ⟨w.heap.size, 0, none⟩ = some (.int .i64 7) := by rw [h2]; go_cell
  have r4 : w2.cell? ⟨w.heap.size, 1, none⟩ = some (.slice none 0 0) := by rw [h2]; go_cell
  have K2 : Below w.heap.size w w2 := by
    rw [h2]
    exact ((((K.alloc K.size _).setCell (p := ⟨w1.heap.size, 2, none⟩) K.size _).setCell (p := ⟨w1.heap.size, 1, none⟩) K.size _).setCell (p := ⟨w1.heap.size, 0, none⟩) K.size _)
  clear h0 h1 g0 g1 S1 K h2
  go_wp2_with fail
  refine wp_loop_rounds 1 ?_
  rw [rounds_succ]
  go_wp2_with fail
  refine (C3.out _ _ r0 r1 r2).mono ?_
  rintro e w' ⟨rfl, rfl⟩
  go_wp2
  exact bodyPost_ret (v := .tuple #[.int .i64 7, .int .i64 0]) (by simp [results, Tryd.results41, go_sem]) rfl ⟨rfl, K2⟩
theorem name_i : nmB ⟨#[105]⟩ = true := by
  unfold nmB
  rw [ByteArray.toList_eq]
  decide +kernel
set_option maxRecDepth 100000 in
set_option maxHeartbeats 8000000 in
theorem alive (w : World) : Calls Tryd.prog 15 #[] w fun e w' => e = .returned (.bool true) ∧ Below w.heap.size w w' := by
  have C1 := Lib.hid fun w => const1 7 w
  have C2 := Lib.hid eval7
  have C3 := Lib.hid fun w => var1_ok ⟨#[105]⟩ w (by show 1 ≤ maxLen; unfold maxLen; decide) name_i
  go_enter Tryd.func15, Tryd.ntmps15
  go_wp2_with fail
  refine (C1.out _).mono ?_
  rintro e w1 ⟨rfl, hb1⟩
  go_wp2_with fail
  refine (C2.out _).mono ?_
  rintro e w2 ⟨rfl, hb2⟩
  have K2 := hb1.trans (hb2.mono hb1.size)
  clear hb1 hb2
  go_wp2_with fail
  refine (C3.out _).mono ?_
  rintro e w3 ⟨g, c, rfl, c0, c1, hb3⟩
  have K3 := K2.trans (hb3.mono K2.size)
  have hg : g < w3.heap.size := by have := World.block_lt_of_cell? w3 _ c0; simpa using this
  clear hb3 K2
  go_wp2
  go_ret
  exact ⟨rfl, K3.alloc K3.size _⟩
end Go.Proofs.YtbicmlkjonaccaaDoor.Ln
