/- The lexer: Join; two lists of tokens held against each other. -/
import Derived.Test.YtipeapjbodnagaaX5
namespace Go.Proofs.Ytipeapjbodnagaa.Lx
open Go.ChangeShapes Go.WideShapes Go.ChangeAt Go.RowKit
open Go.Proofs.Ytipeapjbodnagaa.Nm
set_option linter.unusedVariables false

abbrev tk0 : Tk := (0, 0, ByteArray.empty)
def SlT3 (w : World) (p : Option Addr) (ts : List Tk) : Prop := ∀ i, i < ts.length → ∃ b o, p = some ⟨b, o, none⟩ ∧ w.cell? ⟨b, o + i * 3, none⟩ = some (.int .i64 (ts.getD i tk0).1) ∧ w.cell? ⟨b, o + i * 3 + 1, none⟩ = some (.int .i64 (ts.getD i tk0).2.1) ∧ w.cell? ⟨b, o + i * 3 + 2, none⟩ = some (.string (ts.getD i tk0).2.2)
theorem kp {y y' : World} {b o : Nat} {v : Value} (hy : Below y.heap.size y y') (hb : b < y.heap.size) (h : y.cell? ⟨b, o, none⟩ = some v) : y'.cell? ⟨b, o, none⟩ = some v := (hy.cell (p := ⟨b, o, none⟩) hb).trans h
theorem kpb {B : Nat} {y y' : World} {b o : Nat} {v : Value} (hy : Below B y y') (hb : b < B) (h : y.cell? ⟨b, o, none⟩ = some v) : y'.cell? ⟨b, o, none⟩ = some v := (hy.cell (p := ⟨b, o, none⟩) hb).trans h
theorem SlT3.keep {w w' : World} {p : Option Addr} {xs : List Tk} (h : SlT3 w p xs) (hB : Below w.heap.size w w') : SlT3 w' p xs := fun i hi => by
  obtain ⟨b, o, rfl, c0, c1, c2⟩ := h i hi
  have hb : b < w.heap.size := by have := World.block_lt_of_cell? w _ c0; simpa using this
  exact ⟨b, o, rfl, kp hB hb c0, kp hB hb c1, kp hB hb c2⟩
theorem tkCs_at : ∀ (ts : List Tk) (i : Nat), i < ts.length → (tkCs ts)[i * 3]? = some (.int .i64 (ts.getD i tk0).1) ∧ (tkCs ts)[i * 3 + 1]? = some (.int .i64 (ts.getD i tk0).2.1) ∧ (tkCs ts)[i * 3 + 2]? = some (.string (ts.getD i tk0).2.2)
  | t :: ts, 0, _ => ⟨rfl, rfl, rfl⟩
  | t :: ts, i + 1, h => by
    have ih := tkCs_at ts i (by simpa using h)
    have e : tkCs (t :: ts) = tkC t ++ tkCs ts := by unfold tkCs; rw [List.flatMap_cons]
    rw [e]
    refine ⟨?_, ?_, ?_⟩
    · rw [List.getElem?_append_right (by show 3 ≤ _; omega), show (i + 1) * 3 - (tkC t).length = i * 3 by show (i + 1) * 3 - 3 = _; omega]; exact ih.1
    · rw [List.getElem?_append_right (by show 3 ≤ _; omega), show (i + 1) * 3 + 1 - (tkC t).length = i * 3 + 1 by show (i + 1) * 3 + 1 - 3 = _; omega]; exact ih.2.1
    · rw [List.getElem?_append_right (by show 3 ≤ _; omega), show (i + 1) * 3 + 2 - (tkC t).length = i * 3 + 2 by show (i + 1) * 3 + 2 - 3 = _; omega]; exact ih.2.2
/-- A row of tokens of the call's own, as a slice. -/
theorem tw_sl {w : World} {B : Nat} {v : Value} {ts : List Tk} (h : w.ownsRow B 47 3 v ts.length (tkCs ts)) : ∃ q c, v = .slice q ts.length c ∧ SlT3 w q ts := by
  rcases h.2 with ⟨hv, h0⟩ | ⟨g, cap, cur, hv, _⟩
  · obtain rfl : ts = [] := List.eq_nil_of_length_eq_zero h0
    exact ⟨none, 0, hv, fun i hi => by simp at hi⟩
  · subst hv
    refine ⟨some ⟨g, 0, none⟩, cap, rfl, fun i hi => ⟨g, 0, rfl, ?_⟩⟩
    obtain ⟨a, b, c⟩ := tkCs_at ts i hi
    simp only [Nat.zero_add]
    exact ⟨by rw [h.cellAt (i * 3) (by omega)]; exact a, by rw [h.cellAt (i * 3 + 1) (by omega)]; exact b, by rw [h.cellAt (i * 3 + 2) (by omega)]; exact c⟩
/-- The bytes of the first tokens, joined. -/
def jk (ts : List Tk) : Nat → List UInt8
  | 0 => []
  | k + 1 => jk ts k ++ ((if 0 < k then [32] else []) ++ (ts.getD k tk0).2.2.data.toList)
theorem jk_mono (ts : List Tk) : ∀ {j k : Nat}, j ≤ k → (jk ts j).length ≤ (jk ts k).length
  | j, 0, h => by obtain rfl : j = 0 := by omega
                  exact Nat.le_refl _
  | j, k + 1, h => by
    rcases (by omega : j ≤ k ∨ j = k + 1) with h1 | rfl
    · have := jk_mono ts h1
      show _ ≤ (jk ts k ++ _).length
      rw [List.length_append]; omega
    · exact Nat.le_refl _
theorem isB_alloc {B b : Nat} {bs : List Value} {w : World} (h : Lib.IsBuilder 91 5 B b bs w) (o : Obj) : Lib.IsBuilder 91 5 B b bs (w.alloc o) := by
  have key : ∀ p, Lib.BuilderAt 91 5 B b p bs w → Lib.BuilderAt 91 5 B b p bs (w.alloc o) := fun p hh => by
    have hlt := hh.lt
    obtain ⟨hB, v, hb, hown, hne⟩ := hh
    exact ⟨hB, v, (Lib.alloc_old w o b hlt).trans hb, hown.alloc o, hne⟩
  rcases h with h | h
  · exact .inl (key _ h)
  · exact .inr (key _ h)
theorem cells_app (l : List UInt8) (s : ByteArray) : Lib.byteCells l ++ Lib.strCells s = Lib.byteCells (l ++ s.data.toList) := by unfold Lib.byteCells Lib.strCells; rw [List.map_append]
theorem cells_sp (l : List UInt8) : Lib.byteCells l ++ [Value.int .u8 32] = Lib.byteCells (l ++ [32]) := by unfold Lib.byteCells; rw [List.map_append]; rfl
set_option maxRecDepth 100000 in
set_option maxHeartbeats 8000000 in
theorem join (p : Option Addr) (ts : List Tk) (c : Nat) (w : World) (hn : ts.length ≤ maxLen) (hj : (jk ts ts.length).length ≤ 140737488355328) (RA : Hid (SlT3 w p ts)) :
    Calls Try.prog 34 #[.slice p ts.length c] w fun e w' => e = .returned (.string ⟨(jk ts ts.length).toArray⟩) ∧ Below w.heap.size w w' := by
  unfold maxLen at hn
  go_enter Try.func34, Try.ntmps34
  go_wp2
  go_loopw [8] (fun a wr => ∃ k : Nat, a = .int .i64 (k : Int) ∧ k ≤ ts.length ∧ Below w.heap.size w wr ∧ w.heap.size < wr.heap.size ∧ Hid (Lib.IsBuilder 91 5 w.heap.size w.heap.size (Lib.byteCells (jk ts k)) wr)) (fun a _ => ts.length - (intOf a).toNat)
  case atStart => exact ⟨0, rfl, by omega, (Below.refl _ _).alloc (Nat.le_refl _) _, by simp, Lib.hid (Lib.fresh_isBuilder 91 5 w)⟩
  case round =>
    obtain ⟨k, rfl, hk, hB, hsz, hI⟩ := hrel
    by_cases hlt : k < ts.length
    · obtain ⟨b, o, rfl, c0, c1, c2⟩ := RA.out k hlt
      have hb : b < w.heap.size := by have := World.block_lt_of_cell? w _ c0; simpa using this
      have c0 := kpb hB hb c0
      have c1 := kpb hB hb c1
      have c2 := kpb hB hb c2
      have hst : jk ts (k + 1) = jk ts k ++ ((if 0 < k then [32] else []) ++ (ts.getD k tk0).2.2.data.toList) := rfl
      have hjl := Nat.le_trans (jk_mono ts (show k + 1 ≤ ts.length by omega)) hj
      obtain ⟨t, ht⟩ : ∃ t, ts.getD k tk0 = t := ⟨_, rfl⟩
      rw [ht] at c0 c1 c2 hst
      clear ht
      obtain ⟨x, y, z⟩ := t
      simp only at c0 c1 c2 hst
      have HST := Lib.hid hst
      rw [hst] at hjl
      simp only [List.length_append] at hjl
      have hzl : z.data.toList.length = z.size := len_data z
      rw [hzl] at hjl
      have k0 : (0 : Int) ≤ k := by omega
      have k1 : (k : Int) < ts.length := by omega
      have hI2 := Lib.hid (isB_alloc hI.out (Obj.cells #[.int .i64 x, .int .i64 y, .string z] 47))
      have hB2 : Below w.heap.size w (wr.alloc (Obj.cells #[.int .i64 x, .int .i64 y, .string z] 47)) := hB.alloc (by omega) _
      have hX : (wr.alloc (Obj.cells #[.int .i64 x, .int .i64 y, .string z] 47)).heap[wr.heap.size]? = some (.cells #[.int .i64 x, .int .i64 y, .string z] 47 (0, 0)) := heap_alloc_new _ _
      have hs2 : wr.heap.size < (wr.alloc (Obj.cells #[.int .i64 x, .int .i64 y, .string z] 47)).heap.size := by simp
      clear hst hI hzl
      by_cases hk0 : 0 < k
      · have d1 : (0 : Int) < k := by omega
        rw [if_pos hk0] at hjl HST
        have hl1 : [(32 : UInt8)].length = 1 := rfl
        rw [hl1] at hjl
        go_wp2_with fail
        refine (writeByte w.heap.size w.heap.size (Lib.byteCells (jk ts k)) 32 _ hI2.out (by rw [Lib.byteCells_length]; omega) (by simp; omega)).mono ?_
        rintro e w1 ⟨rfl, h1, b1, k1'⟩
        have hX1 := k1' _ _ hX (by simp; omega) (fun c fz e => by cases e)
        have x2 : w1.cell? ⟨wr.heap.size, 2, none⟩ = some (.string z) := by rw [Lib.cell_of_heap hX1]; rfl
        have hB3 := hB2.trans b1
        have hs3 := b1.size
        rw [cells_sp] at h1
        go_wp2_with fail
        refine (writeString w.heap.size w.heap.size (Lib.byteCells (jk ts k ++ [32])) z _ (.inr h1) (by rw [Lib.byteCells_length, List.length_append]; simp; omega) (by have := hB3.size; omega)).mono ?_
        rintro e w2 ⟨rfl, h2, b2, k2'⟩
        have hB4 := hB3.trans b2
        have hI4 : Hid (Lib.IsBuilder 91 5 w.heap.size w.heap.size (Lib.byteCells (jk ts (k + 1))) w2) := Lib.hid (.inr (by
          rw [cells_app, List.append_assoc] at h2
          rw [HST.out]; exact h2))
        have hs4 : w.heap.size < w2.heap.size := by have := (Lib.BuilderAt.lt h2); omega
        clear h1 h2 k1' k2' hX hX1
        go_wp2
        go_roundw
        case rel => exact ⟨k + 1, by go_num, by omega, hB4, hs4, hI4⟩
        case measure => simp [intOf]; omega
      · have d1 : ¬ (0 : Int) < k := by omega
        rw [if_neg hk0] at hjl HST
        have hl1 : ([] : List UInt8).length = 0 := rfl
        rw [hl1] at hjl
        have x2 : (wr.alloc (Obj.cells #[.int .i64 x, .int .i64 y, .string z] 47)).cell? ⟨wr.heap.size, 2, none⟩ = some (.string z) := by rw [Lib.cell_of_heap hX]; rfl
        go_wp2_with fail
        refine (writeString w.heap.size w.heap.size (Lib.byteCells (jk ts k)) z _ hI2.out (by rw [Lib.byteCells_length]; omega) (by simp; omega)).mono ?_
        rintro e w2 ⟨rfl, h2, b2, k2'⟩
        have hB4 := hB2.trans b2
        have hI4 : Hid (Lib.IsBuilder 91 5 w.heap.size w.heap.size (Lib.byteCells (jk ts (k + 1))) w2) := Lib.hid (.inr (by
          rw [cells_app] at h2
          rw [HST.out]; exact h2))
        have hs4 : w.heap.size < w2.heap.size := by have := (Lib.BuilderAt.lt h2); omega
        clear h2 k2' hX
        go_wp2
        go_roundw
        case rel => exact ⟨k + 1, by go_num, by omega, hB4, hs4, hI4⟩
        case measure => simp [intOf]; omega
    · obtain rfl : k = ts.length := by omega
      go_wp2_with (go_at_call 73; refine (Try.Builder_String_any w.heap.size w.heap.size _ _ hI.out (by omega)).mono ?_; rintro e w1 ⟨rfl, hb1⟩)
      go_ret
      exact ⟨rfl, hB.trans hb1⟩
end Go.Proofs.Ytipeapjbodnagaa.Lx
