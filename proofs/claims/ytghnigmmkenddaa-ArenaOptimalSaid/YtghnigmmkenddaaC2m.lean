/- First fit as a function. -/
import Derived.Test.YtghnigmmkenddaaC1
import Derived.Test.YtghnigmmkenddaaAM4
namespace Go.Proofs.Ytghnigmmkenddaa.Ar
open Go.ChangeShapes Go.WideShapes Go.ChangeAt Go.RowKit
open Go.Proofs.Ytghnigmmkenddaa.Lv Go.Proofs.Ytghnigmmkenddaa.Nm
set_option linter.unusedVariables false
set_option linter.unusedSimpArgs false

/-- The slots placed ahead of a lifetime that overlap it. -/
def oth (xs : List Lf) (L : List St) (pre : List Nat) (k : Nat) : List St := (pre.filter fun j => ov (xs.getD j lf0) (xs.getD k lf0)).map fun j => L.getD j st0
def srtS (T : List St) : List St := (ordL (fun i => (T.getD i.toNat st0).2.1) T.length).map fun i => T.getD i.toNat st0
def prs (T : List St) : List (Int × Int) := T.map fun s => (s.2.1, s.2.2)
def ffo (z : Int) (T : List St) : Int := ffs z (prs (srtS T)) 0
/-- First fit: the slots and the size. -/
def ffG (xs : List Lf) : List Nat → List Nat → List St → Int → List St × Int
  | _, [], L, s => (L, s)
  | pre, k :: r, L, s => ffG xs (pre ++ [k]) r (L.set k ((xs.getD k lf0).1, ffo (xs.getD k lf0).2.2.2 (oth xs L pre k), (xs.getD k lf0).2.2.2)) (max s (ffo (xs.getD k lf0).2.2.2 (oth xs L pre k) + (xs.getD k lf0).2.2.2))
/-- Bounds of slots. -/
def BdS (M : Int) (L : List St) : Prop := ∀ s ∈ L, 0 ≤ s.2.1 ∧ 0 ≤ s.2.2 ∧ s.2.2 ≤ 4096 ∧ s.2.1 + s.2.2 ≤ M
theorem st_mem {L : List St} {i : Nat} (h : i < L.length) : L.getD i st0 ∈ L := by
  have e1 : L.getD i st0 = L[i] := by unfold List.getD; rw [List.getElem?_eq_getElem h]; rfl
  rw [e1]
  exact List.getElem_mem h
theorem BdS.get {M : Int} {L : List St} (h : BdS M L) (h0 : 0 ≤ M) (i : Nat) : 0 ≤ (L.getD i st0).2.1 ∧ 0 ≤ (L.getD i st0).2.2 ∧ (L.getD i st0).2.2 ≤ 4096 ∧ (L.getD i st0).2.1 + (L.getD i st0).2.2 ≤ M := by
  rcases Nat.lt_or_ge i L.length with h1 | h1
  · exact h _ (st_mem h1)
  · have e1 : L.getD i st0 = st0 := by unfold List.getD; rw [List.getElem?_eq_none h1]; rfl
    rw [e1]
    exact ⟨Int.le_refl _, Int.le_refl _, by decide, by show (0 : Int) + 0 ≤ M; omega⟩
theorem oth_bd {M : Int} {xs : List Lf} {L : List St} {pre : List Nat} {k : Nat} (h : BdS M L) (h0 : 0 ≤ M) : BdS M (oth xs L pre k) := by
  intro s hs
  unfold oth at hs
  rw [List.mem_map] at hs
  obtain ⟨j, _, rfl⟩ := hs
  exact h.get h0 j
theorem srtS_len (T : List St) : (srtS T).length = T.length := by unfold srtS; rw [List.length_map, ordL_len]
theorem srtS_get {T : List St} {i : Nat} (h : i < T.length) : ∃ j, j < T.length ∧ (ordL (fun i => (T.getD i.toNat st0).2.1) T.length).getD i e50 = (j : Int) ∧ (srtS T).getD i st0 = T.getD j st0 := by
  obtain ⟨j, hj, e⟩ := ordL_mem (getD_mem5 (L := ordL (fun i => (T.getD i.toNat st0).2.1) T.length) (i := i) (by rw [ordL_len]; exact h))
  refine ⟨j, hj, e, ?_⟩
  unfold srtS
  have hl : i < (ordL (fun i => (T.getD i.toNat st0).2.1) T.length).length := by rw [ordL_len]; exact h
  have e3 : (ordL (fun i => (T.getD i.toNat st0).2.1) T.length)[i] = (j : Int) := by
    rw [List.getD_eq_getElem?_getD, List.getElem?_eq_getElem hl] at e
    exact e
  rw [List.getD_eq_getElem?_getD, List.getElem?_map, List.getElem?_eq_getElem hl, Option.map_some, Option.getD_some, e3]
  rfl
theorem srtS_bd {M : Int} {T : List St} (h : BdS M T) (h0 : 0 ≤ M) : BdS M (srtS T) := by
  intro s hs
  obtain ⟨x, _, rfl⟩ := List.mem_map.1 hs
  exact h.get h0 _
theorem ffs_bd {M z : Int} : ∀ {l : List (Int × Int)} {x : Int}, 0 ≤ x → x ≤ M → (∀ s ∈ l, s.1 + s.2 ≤ M) → 0 ≤ ffs z l x ∧ ffs z l x ≤ M
  | [], x, h0, h1, _ => ⟨h0, h1⟩
  | s :: r, x, h0, h1, h => by
    have := h s List.mem_cons_self
    show 0 ≤ ffs z r (if s.1 < x + z then max x (s.1 + s.2) else x) ∧ ffs z r (if s.1 < x + z then max x (s.1 + s.2) else x) ≤ M
    refine ffs_bd ?_ ?_ fun t ht => h t (List.mem_cons_of_mem _ ht)
    · split <;> omega
    · split <;> omega
theorem ffo_bd {M z : Int} {T : List St} (h : BdS M T) (h0 : 0 ≤ M) : 0 ≤ ffo z T ∧ ffo z T ≤ M := by
  refine ffs_bd (Int.le_refl _) h0 fun s hs => ?_
  obtain ⟨t, ht, rfl⟩ := List.mem_map.1 hs
  exact (srtS_bd h h0 t ht).2.2.2
theorem BdS.set {M : Int} {L : List St} {k : Nat} {s : St} (h : BdS M L) (h1 : 0 ≤ s.2.1 ∧ 0 ≤ s.2.2 ∧ s.2.2 ≤ 4096 ∧ s.2.1 + s.2.2 ≤ M + 4096) : BdS (M + 4096) (L.set k s) := by
  intro t ht
  rcases List.mem_or_eq_of_mem_set ht with h2 | rfl
  · have := h t h2; omega
  · exact h1
theorem oth_snoc {xs : List Lf} {L : List St} {pre : List Nat} {j k : Nat} : oth xs L (pre ++ [j]) k = oth xs L pre k ++ (if ov (xs.getD j lf0) (xs.getD k lf0) = true then [L.getD j st0] else []) := by
  unfold oth
  rw [List.filter_append, List.map_append]
  congr 1
  by_cases h : ov (xs.getD j lf0) (xs.getD k lf0) = true
  · rw [if_pos h, List.filter_cons_of_pos (p := fun j => ov (xs.getD j lf0) (xs.getD k lf0)) h]; rfl
  · rw [if_neg h, List.filter_cons_of_neg (p := fun j => ov (xs.getD j lf0) (xs.getD k lf0)) h]; rfl
/-- Rows of slots. -/
def rowS (L : List St) : List Value := L.flatMap fun s => [.string s.1, .int .i64 s.2.1, .int .i64 s.2.2]
theorem rowS_cons (s : St) (L : List St) : rowS (s :: L) = .string s.1 :: .int .i64 s.2.1 :: .int .i64 s.2.2 :: rowS L := rfl
theorem rowS_len : ∀ L : List St, (rowS L).length = L.length * 3
  | [] => rfl
  | e :: L => by rw [rowS_cons]; simp [rowS_len L]; omega
theorem rowS_app (L : List St) (s : St) : rowS (L ++ [s]) = rowS L ++ [.string s.1, .int .i64 s.2.1, .int .i64 s.2.2] := by unfold rowS; rw [List.flatMap_append]; rfl
theorem rowS_get : ∀ (L : List St) (i : Nat), i < L.length → (rowS L)[i * 3]? = some (.string (L.getD i st0).1) ∧ (rowS L)[i * 3 + 1]? = some (.int .i64 (L.getD i st0).2.1) ∧ (rowS L)[i * 3 + 2]? = some (.int .i64 (L.getD i st0).2.2)
  | [], i, h => absurd h (by simp)
  | e :: L, 0, _ => by rw [rowS_cons]; exact ⟨rfl, rfl, rfl⟩
  | e :: L, i + 1, h => by
    have ih := rowS_get L i (by simpa using h)
    rw [rowS_cons, show (i + 1) * 3 = i * 3 + 3 by omega]
    simp only [List.getElem?_cons_succ, List.getD_cons_succ]
    exact ih
theorem rowS_set : ∀ (L : List St) (i : Nat) (e : St), i < L.length → (((rowS L).set (i * 3) (.string e.1)).set (i * 3 + 1) (.int .i64 e.2.1)).set (i * 3 + 2) (.int .i64 e.2.2) = rowS (L.set i e)
  | [], i, e, h => absurd h (by simp)
  | a :: L, 0, e, _ => by rw [rowS_cons]; rfl
  | a :: L, i + 1, e, h => by
    have ih := rowS_set L i e (by simpa using h)
    rw [rowS_cons, show (i + 1) * 3 = i * 3 + 3 by omega]
    simp only [List.set_cons_succ]
    rw [ih]
    rfl
theorem own_slice {w : World} {base n : Nat} {e : TypeId} {size : Nat} {v : Value} {xs : List Value} (h : w.ownsRow base e size v n xs) : ∃ q c, v = .slice q n c := by
  rcases h.2 with ⟨rfl, h0⟩ | ⟨g, cap, cur, rfl, _⟩
  · exact ⟨none, 0, by rw [h0]⟩
  · exact ⟨_, _, rfl⟩
/-- A row of slots of the call's own, read as a slice. -/
theorem SlS_of {w : World} {base n : Nat} {q : Option Addr} {c : Nat} {T : List St} (h : w.ownsRow base 39 3 (.slice q n c) n (rowS T)) (hn : T.length = n) : SlS w q T := by
  intro i hi
  rcases h.2 with ⟨hv, h0⟩ | ⟨g, cap, cur, hv, _⟩
  · omega
  · cases hv
    obtain ⟨v0, v1, v2⟩ := rowS_get T i hi
    have hl := h.1
    refine ⟨g, 0, rfl, ?_, ?_, ?_⟩
    · rw [Nat.zero_add]; exact (h.cellAt (i * 3) (by omega)).trans v0
    · rw [Nat.zero_add]; exact (h.cellAt (i * 3 + 1) (by omega)).trans v1
    · rw [Nat.zero_add]; exact (h.cellAt (i * 3 + 2) (by omega)).trans v2
theorem info39 : (Try.prog.info? 39).map (fun i => (i.zero, i.size, i.bytes)) = some (some (.agg #[.string ⟨#[]⟩, .int .i64 0, .int .i64 0]), 3, 32) := by kernel_rfl
/-- A row of places. -/
def RI (w : World) (g : Nat) (ks : List Nat) : Prop := ∀ i, i < ks.length → w.cell? ⟨g, i, none⟩ = some (.int .i64 (ks.getD i 0 : Nat))
theorem RI.keep {w w' : World} {g : Nat} {ks : List Nat} (h : RI w g ks) (hb : Below w.heap.size w w') : RI w' g ks := fun i hi => kp hb (by have := World.block_lt_of_cell? _ _ (h i hi); simpa using this) (h i hi)
end Go.Proofs.Ytghnigmmkenddaa.Ar
