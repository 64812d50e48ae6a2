/- Start of the reference. -/
import Derived.Test.YtndmpoomdoojpaaK9
import Derived.Test.YtndmpoomdoojpaaK3
namespace Go.Proofs.Ytndmpoomdoojpaa.Ck
open Go.ChangeShapes Go.WideShapes Go.ChangeAt Go.RowKit
set_option linter.unusedVariables false

def rv (now left : Int) (v : Value) : Value := .agg #[.int .i64 now, .int .i64 left, v]
/-- A block that holds a state. -/
def B3 (w : World) (b : Nat) (x y z : Value) : Prop := w.heap[b]? = some (.cells #[x, y, z] 76 (0, 0))
theorem B3.c0 {w : World} {b : Nat} {x y z : Value} (h : B3 w b x y z) : w.cell? ⟨b, 0, none⟩ = some x := by unfold B3 at h; simp [World.cell?, h]
theorem B3.c1 {w : World} {b : Nat} {x y z : Value} (h : B3 w b x y z) : w.cell? ⟨b, 1, none⟩ = some y := by unfold B3 at h; simp [World.cell?, h]
theorem B3.c2 {w : World} {b : Nat} {x y z : Value} (h : B3 w b x y z) : w.cell? ⟨b, 2, none⟩ = some z := by unfold B3 at h; simp [World.cell?, h]
theorem B3.fz {w : World} {b : Nat} {x y z : Value} (h : B3 w b x y z) (j : Nat) : w.frozen? ⟨b, j, none⟩ = false := by unfold B3 at h; simp [World.frozen?, h]
theorem B3.lt {w : World} {b : Nat} {x y z : Value} (h : B3 w b x y z) : b < w.heap.size := lt_of_block h
theorem B3.new {w : World} {x y z : Value} : B3 (w.alloc (Obj.cells #[x, y, z] 76)) w.heap.size x y z := heap_alloc_new w _
theorem B3.below {w w' : World} {b : Nat} {x y z : Value} (h : B3 w b x y z) (hb : Below w.heap.size w w') : B3 w' b x y z := by
  unfold B3
  rw [hb.block b h.lt]
  exact h
theorem B3.alloc {w : World} {b : Nat} {x y z : Value} (h : B3 w b x y z) (o : Obj) : B3 (w.alloc o) b x y z := h.below ((Below.refl _ _).alloc (Nat.le_refl _) _)
theorem B3.far {w : World} {b : Nat} {x y z : Value} (h : B3 w b x y z) {a : Addr} (hne : b ≠ a.block) (u : Value) : B3 (w.setCell a u) b x y z := by
  unfold B3
  rw [Below.heap_setCell _ _ _ _ hne]
  exact h
theorem B3.grown {w w' : World} {b : Nat} {x y z : Value} (h : B3 w b x y z) {row : Option Nat} (hg : w.grownBy w' row) (hne : some b ≠ row) : B3 w' b x y z := by
  unfold B3
  rw [hg.block b h.lt hne]
  exact h
theorem B3.s2 {w : World} {b : Nat} {x y z : Value} (h : B3 w b x y z) (u : Value) : B3 (w.setCell ⟨b, 2, none⟩ u) b x y u := by
  have hlt := h.lt
  unfold B3 at *
  have h' : w.heap[b] = .cells #[x, y, z] 76 (0, 0) := by simpa [Array.getElem?_eq_getElem hlt] using h
  show (w.heap.modify b _)[b]? = _
  rw [Array.getElem?_eq_getElem (by simpa using hlt), Array.getElem_modify_self, h']
  rfl
theorem B3.s1 {w : World} {b : Nat} {x y z : Value} (h : B3 w b x y z) (u : Value) : B3 (w.setCell ⟨b, 1, none⟩ u) b x u z := by
  have hlt := h.lt
  unfold B3 at *
  have h' : w.heap[b] = .cells #[x, y, z] 76 (0, 0) := by simpa [Array.getElem?_eq_getElem hlt] using h
  show (w.heap.modify b _)[b]? = _
  rw [Array.getElem?_eq_getElem (by simpa using hlt), Array.getElem_modify_self, h']
  rfl
theorem B3.s0 {w : World} {b : Nat} {x y z : Value} (h : B3 w b x y z) (u : Value) : B3 (w.setCell ⟨b, 0, none⟩ u) b u y z := by
  have hlt := h.lt
  unfold B3 at *
  have h' : w.heap[b] = .cells #[x, y, z] 76 (0, 0) := by simpa [Array.getElem?_eq_getElem hlt] using h
  show (w.heap.modify b _)[b]? = _
  rw [Array.getElem?_eq_getElem (by simpa using hlt), Array.getElem_modify_self, h']
  rfl
def SW (n : Int) (s : Nat) (w : World) (e : Ending) (w' : World) : Prop := ∃ v, e = .returned (rv 0 n v) ∧ Below w.heap.size w w' ∧ w'.ownsRow w.heap.size 3 1 v s ((List.replicate s (-1 : Int)).map (Value.int .i64))
set_option maxRecDepth 100000 in
set_option maxHeartbeats 8000000 in
theorem rstart (n : Int) (s : Nat) (w : World) (hs : s ≤ 64) : Calls Try.prog 51 #[.int .i64 n, .int .i64 (s : Int)] w (SW n s w) := by
  obtain ⟨i0, hi, hz0, hz1, hz2⟩ := info_parts info3
  go_enter Try.func51, Try.ntmps51
  go_wp2
  go_loopw [6] (fun i wr => ∃ (k : Nat) (v : Value), i = .int .i64 k ∧ k ≤ s ∧ Below w.heap.size w wr ∧ Hid (B3 wr w.heap.size (.int .i64 0) (.int .i64 0) (.slice none 0 0)) ∧ Hid (B3 wr (w.heap.size + 1) (.int .i64 0) (.int .i64 n) v) ∧ Hid (wr.ownsRow (w.heap.size + 2) 3 1 v k ((List.replicate k (-1 : Int)).map (Value.int .i64)))) (fun i _ => s - (intOf i).toNat)
  case atStart => exact ⟨0, .slice none 0 0, rfl, by omega, ((Below.refl _ _).alloc (Nat.le_refl _) _).alloc (by simp) _, Lib.hid (B3.new.alloc _), Lib.hid (by have h := B3.new (w := w.alloc (Obj.cells #[Value.int IntKind.i64 0, Value.int IntKind.i64 0, Value.slice none 0 0] 76)) (x := .int .i64 0) (y := .int .i64 n) (z := .slice none 0 0); rw [World.size_alloc] at h; exact h), Lib.hid (World.ownsRow_nil _ _ _ _)⟩
  case round =>
    obtain ⟨k, v, rfl, hk, KB, hA, hB, hO⟩ := hrel
    obtain ⟨q, cap, rfl, hq⟩ := own_any hO.out
    have HQ := Lib.hid hq
    clear hq
    have kk : (0 : Int) ≤ k := by omega
    have hlt2 := hO.out.lt
    by_cases hlt : k < s
    · have k2 : (k : Int) < s := by omega
      have c2 := hB.out.c2
      have sz := hB.out.lt
      go_wp2_with (at_builtin; refine wpList_append_own _ rfl _ _ 34 rfl (w.heap.size + 2) 3 i0 (.int .i64 0) 1 8 Try.underlying34 hi hz0 hz1 hz2 rfl (by decide) _ _ _ rfl (hO.out.alloc _) ⟨wr.heap.size, 0, none⟩ 1 1 [.int .i64 (-1)] rfl rfl ?_ ?_ ?_ ?_ ?_ ?_)
      any_goals (first | (intro j' u hj; cases j' with | zero => (cases hj; go_cell) | succ j' => cases hj) | (intro u hu; cases List.mem_singleton.1 hu; rfl) | rfl | (unfold maxLen; omega) | omega | (simp; omega) | skip)
      intro v' w3 hown' hgrow _
      obtain ⟨q2, cap2, rfl, _⟩ := own_any hown'
      have hO3 : Hid (w3.ownsRow (w.heap.size + 2) 3 1 (.slice q2 (k + 1) cap2) (k + 1) ((List.replicate (k + 1) (-1 : Int)).map (Value.int .i64))) := Lib.hid (by
        rw [List.map_replicate, List.replicate_succ']
        simpa [List.map_replicate] using hown')
      have hB3 : Below w.heap.size w w3 := (KB.alloc (by omega) _).grown hgrow (by simp; omega) (fun j' hj' => by have := (hlt2 j' hj').1; omega)
      have b1 : Hid (B3 w3 (w.heap.size + 1) (.int .i64 0) (.int .i64 n) (.slice q k cap)) := Lib.hid ((hB.out.alloc _).grown hgrow (fun e => by have := (hlt2 _ e.symm).1; omega))
      have b0 : Hid (B3 w3 w.heap.size (.int .i64 0) (.int .i64 0) (.slice none 0 0)) := Lib.hid ((hA.out.alloc _).grown hgrow (fun e => by have := (hlt2 _ e.symm).1; omega))
      have f2 := b1.out.fz 2
      have d2 := b1.out.c2
      have l3 := hO3.out.lt
      have hO4 : Hid ((w3.setCell ⟨w.heap.size + 1, 2, none⟩ (.slice q2 (k + 1) cap2)).ownsRow (w.heap.size + 2) 3 1 (.slice q2 (k + 1) cap2) (k + 1) ((List.replicate (k + 1) (-1 : Int)).map (Value.int .i64))) := Lib.hid (ownsRow_setCell_other hO3.out (fun e => by have := (l3 _ e).1; simp only at this; omega) _)
      have b12 := Lib.hid (b1.out.s2 (.slice q2 (k + 1) cap2))
      have b02 := Lib.hid (b0.out.far (a := ⟨w.heap.size + 1, 2, none⟩) (by simp) (.slice q2 (k + 1) cap2))
      have hB4 : Below w.heap.size w (w3.setCell ⟨w.heap.size + 1, 2, none⟩ (.slice q2 (k + 1) cap2)) := hB3.setCell (by show _ ≤ w.heap.size + 1; omega) _
      clear hown' hgrow hi hz0 hz1 hz2 hlt2 hO3 b1 b0 l3 hA hB hO c2 KB
      go_wp2
      go_roundw
      case rel => exact ⟨k + 1, (.slice q2 (k + 1) cap2), by go_num, by omega, hB4, b02, b12, hO4⟩
      case measure => simp [intOf]; omega
    · obtain rfl : k = s := by omega
      have c0 := hB.out.c0
      have c1 := hB.out.c1
      have c2 := hB.out.c2
      have a0 := hA.out.c0
      have a1 := hA.out.c1
      have a2 := hA.out.c2
      have f0 := hA.out.fz 0
      have f1 := hA.out.fz 1
      have f2 := hA.out.fz 2
      go_wp2
      have Z := Lib.hid (((hA.out.s0 (.int .i64 0)).s1 (.int .i64 n)).s2 (.slice q k cap))
      have hZ : Below w.heap.size w (((wr.setCell ⟨w.heap.size, 0, none⟩ (.int .i64 0)).setCell ⟨w.heap.size, 1, none⟩ (.int .i64 n)).setCell ⟨w.heap.size, 2, none⟩ (.slice q k cap)) := ((KB.setCell (by show _ ≤ w.heap.size; omega) _).setCell (by show _ ≤ w.heap.size; omega) _).setCell (by show _ ≤ w.heap.size; omega) _
      have ho (a : Addr) (ha : a.block = w.heap.size) : Value.ownBlock (.slice q k cap) ≠ some a.block := fun e => by have := (hlt2 _ e).1; omega
      have hOZ := ownsRow_setCell_other (ownsRow_setCell_other (ownsRow_setCell_other hO.out (ho ⟨w.heap.size, 0, none⟩ rfl) (.int .i64 0)) (ho ⟨w.heap.size, 1, none⟩ rfl) (.int .i64 n)) (ho ⟨w.heap.size, 2, none⟩ rfl) (.slice q k cap)
      have z0 := Z.out.c0
      have z1 := Z.out.c1
      have z2 := Z.out.c2
      generalize ((wr.setCell ⟨w.heap.size, 0, none⟩ (.int .i64 0)).setCell ⟨w.heap.size, 1, none⟩ (.int .i64 n)).setCell ⟨w.heap.size, 2, none⟩ (.slice q k cap) = wz at *
      exact bodyPost_ret (v := rv 0 n (.slice q k cap)) (by simp [results, Try.results51, go_sem, rv, z0, z1, z2]) rfl ⟨_, rfl, hZ, hOZ.mono (by omega)⟩
end Go.Proofs.Ytndmpoomdoojpaa.Ck
