/- Peak. -/
import Derived.Test.YtndmpoomdoojpaaK3
import Derived.Maps.Own
import Derived.Maps.OwnOps
import Derived.Maps.OwnSet
import Derived.Maps.Views
namespace Go.Proofs.Ytndmpoomdoojpaa.Ck
open Go.ChangeShapes Go.WideShapes Go.ChangeAt Go.RowKit
set_option linter.unusedVariables false

open Go.Maps
/-- The slots that are stored into, each once. -/
def pk1 (l : List Int) (a : Act3) : List Int := if a.1 = 2 ∧ l.contains a.2.2 = false then l ++ [a.2.2] else l
def pkS (xs : List Act3) (k : Nat) : List Int := (xs.take k).foldl pk1 []
theorem pkS_step {xs : List Act3} {k : Nat} (h : k < xs.length) : pkS xs (k + 1) = pk1 (pkS xs k) (xs.getD k (0, 0, 0)) := by
  unfold pkS
  rw [List.take_succ_eq_append_getElem h, List.foldl_append, List.getD, List.getElem?_eq_getElem h]
  rfl
theorem pk1_len (l : List Int) (a : Act3) : (pk1 l a).length ≤ l.length + 1 := by
  unfold pk1; split <;> simp
theorem pkS_len (xs : List Act3) : ∀ k, (pkS xs k).length ≤ k
  | 0 => by simp [pkS]
  | k + 1 => by
    have ih := pkS_len xs k
    by_cases hk : k < xs.length
    · rw [pkS_step hk]; have := pk1_len (pkS xs k) (xs.getD k (0, 0, 0)); omega
    · have : pkS xs (k + 1) = pkS xs k := by unfold pkS; rw [List.take_of_length_le (by omega), List.take_of_length_le (by omega)]
      rw [this]; omega
/-- A map whose keys are just the slots of a list. -/
def MK (D : DataW Unit) (l : List Int) : Prop := Tidy D ∧ (∀ z, has D (.int .i64 z) = l.contains z) ∧ size D = l.length
theorem MK.empty : MK (.map []) [] := ⟨tidy_empty, fun z => rfl, rfl⟩
theorem MK.put {D : DataW Unit} {l : List Int} (h : MK D l) (z : Int) (d : DataW Unit) (A : Int) : MK (D.put (.int .i64 z) d) (pk1 l (2, A, z)) := by
  obtain ⟨h1, h2, h3⟩ := h
  have kl : WideAt.IsKeyLit (.int .i64 z) := trivial
  refine ⟨h1.put kl d, fun y => ?_, ?_⟩
  · by_cases hy : y = z
    · subst hy
      rw [has_put_same h1.isMap kl]
      unfold pk1
      by_cases hc : l.contains y = false
      · rw [if_pos ⟨rfl, hc⟩]; simp
      · rw [if_neg (fun h => hc h.2)]; simpa using hc
    · rw [has_put_other (by intro e; injection e with _ e; exact hy e), h2]
      unfold pk1
      split
      · simp [hy]
      · rfl
  · rw [size_put h1, h2, h3]
    unfold pk1
    cases hc : l.contains z <;> simp
theorem pk1_not {l : List Int} {op A z : Int} (h : ¬ op = 2) : pk1 l (op, A, z) = l := if_neg fun h' => h h'.1
theorem keyInt : Keyed Try.prog 3 := int_keyed Try.underlying3
set_option maxRecDepth 100000 in
set_option maxHeartbeats 8000000 in
theorem peak (p : Option Addr) (xs : List Act3) (c : Nat) (w : World) (hn : xs.length ≤ 65536) (RA : Hid (SlA w p xs)) (RB : Hid (∀ k, k < xs.length → -9223372036854775808 ≤ (xs.getD k (0, 0, 0)).2.2 ∧ (xs.getD k (0, 0, 0)).2.2 ≤ 9223372036854775807)) :
    Calls Try.prog 30 #[.slice p xs.length c] w fun e w' => e = .returned (.int .i64 ((pkS xs xs.length).length : Int)) ∧ Below w.heap.size w w' := by
  have hmm := @run_makeMap Try.prog
  go_enter Try.func30, Try.ntmps30
  go_wp2
  go_loopw [9] (fun i wr => ∃ (k : Nat) (D : DataW Unit), i = .int .i64 k ∧ k ≤ xs.length ∧ Below w.heap.size w wr ∧ w.heap.size < wr.heap.size ∧ Hid (wr.ownsMap Try.prog 3 (plainElem Try.prog 4) w.heap.size k D) ∧ Hid (MK D (pkS xs k))) (fun i _ => xs.length - (intOf i).toNat)
  case atStart => exact ⟨0, .map [], rfl, by omega, (Below.refl _ _).alloc (Nat.le_refl _) _, by simp, Lib.hid (World.ownsMap_made _ _ _ _), Lib.hid MK.empty⟩
  case round =>
    obtain ⟨k, D, rfl, hk, hB, hsz, hO, hM⟩ := hrel
    by_cases hlt : k < xs.length
    · obtain ⟨b, o, rfl, c0, c1, c2⟩ := RA.out k hlt
      have hb : b < w.heap.size := by have := World.block_lt_of_cell? w _ c0; simpa using this
      have c0 := (hB.cell (p := ⟨b, o + k * 3, none⟩) hb).trans c0
      have c1 := (hB.cell (p := ⟨b, o + k * 3 + 1, none⟩) hb).trans c1
      have c2 := (hB.cell (p := ⟨b, o + k * 3 + 2, none⟩) hb).trans c2
      have hst := pkS_step hlt
      have hz := RB.out k hlt
      obtain ⟨a, ha⟩ : ∃ a, xs.getD k (0, 0, 0) = a := ⟨_, rfl⟩
      rw [ha] at c0 c1 c2 hst hz
      clear ha
      obtain ⟨op, A, z⟩ := a
      simp only at c0 c1 c2 hz
      have ii : (0 : Int) ≤ k := by omega
      have i2 : (k : Int) < xs.length := by omega
      by_cases o2 : op = 2
      · subst o2
        have hkey : keyOf Try.prog 3 (.int .i64 z) = some (.int .i64 z) := keyOf_int_mk Try.underlying3 (WalkArith.wf_i64 (by omega))
        have HM2 := Lib.hid (hM.out.put z (.lit (.bool true)) A)
        rw [← hst] at HM2
        have hOa : Hid ((wr.alloc (Obj.cells #[.int .i64 2, .int .i64 A, .int .i64 z] 66)).ownsMap Try.prog 3 (plainElem Try.prog 4) w.heap.size k D) := Lib.hid (hO.out.alloc _)
        have WB : Below w.heap.size w (wr.alloc (Obj.cells #[.int .i64 2, .int .i64 A, .int .i64 z] 66)) := hB.alloc (by omega) _
        clear hst hM hO
        go_wp2_with (at_mapUpdate; refine wpList_mapUpdate_own _ rfl _ _ _ 88 rfl 3 4 keyInt Try.underlying88 _ w.heap.size k _ rfl hOa.out (by unfold maxLen; omega) _ _ _ rfl rfl hkey _ [] (plainElem_bool Try.underlying4 _) ?_; intro w1 hown1 hgrow1)
        have HO1 := Lib.hid hown1
        have hs1 := hgrow1.size
        have WB1 := WB.grown hgrow1 (by simp; omega) (fun j hj => by cases hj; exact Nat.le_refl _)
        simp only [World.size_alloc] at hs1
        clear hown1 hgrow1
        go_wp2
        go_roundw
        case rel => exact ⟨k + 1, _, by go_num, by omega, WB1, by omega, HO1, HM2⟩
        case measure => simp [intOf]; omega
      · have e2 : (op == 2) = false := beq_false_of_ne o2
        rw [pk1_not o2] at hst
        have HM2 := Lib.hid hM.out
        rw [← hst] at HM2
        have hOa : Hid ((wr.alloc (Obj.cells #[.int .i64 op, .int .i64 A, .int .i64 z] 66)).ownsMap Try.prog 3 (plainElem Try.prog 4) w.heap.size (k + 1) D) := Lib.hid ((hO.out.alloc _).mono (by omega))
        have WB : Below w.heap.size w (wr.alloc (Obj.cells #[.int .i64 op, .int .i64 A, .int .i64 z] 66)) := hB.alloc (by omega) _
        clear hst hM hO
        go_wp2
        go_roundw
        case rel => exact ⟨k + 1, D, by go_num, by omega, WB, by simp; omega, hOa, HM2⟩
        case measure => simp [intOf]; omega
    · obtain rfl : k = xs.length := by omega
      have hS := hM.out.2.2
      go_wp2_with (at_len; refine wpList_len_own _ rfl _ 88 rfl 3 4 Try.underlying88 _ w.heap.size _ D rfl hO.out ?_)
      go_ret
      exact ⟨rfl, hB⟩
end Go.Proofs.Ytndmpoomdoojpaa.Ck
