/- Linear forms: sorted names; the merged list. -/
import Derived.Test.YtbicmlkjonaccaaDoorJ5
import Derived.Test.YtbicmlkjonaccaaDoorJ3

namespace Go.Proofs.YtbicmlkjonaccaaDoor.Ln
open Go.ChangeShapes Go.WideShapes Go.ChangeAt Go.RowKit
open Go.Proofs.YtbicmlkjonaccaaDoor.Nm
set_option linter.unusedVariables false
set_option linter.unusedSimpArgs false
theorem cb_trans : ∀ a b c : List UInt8, Lib.compareBytes a b < 0 → Lib.compareBytes b c < 0 → Lib.compareBytes a c < 0
  | [], [], _, h, _ => by simp [Lib.compareBytes] at h
  | _ :: _, [], _, h, _ => by simp [Lib.compareBytes] at h
  | [], _ :: _, [], _, h => by simp [Lib.compareBytes] at h
  | [], _ :: _, _ :: _, _, _ => by simp [Lib.compareBytes]
  | _ :: _, _ :: _, [], _, h => by simp [Lib.compareBytes] at h
  | a :: a', b :: b', c :: c', h, h2 => by
    have ih := cb_trans a' b' c'
    unfold Lib.compareBytes at h h2 ⊢
    simp only [UInt8.lt_iff_toNat_lt] at h h2 ⊢
    by_cases h1 : a.toNat < b.toNat
    · by_cases h3 : b.toNat < c.toNat
      · rw [if_pos (by omega)]; omega
      · rw [if_neg h3] at h2
        by_cases h4 : c.toNat < b.toNat
        · rw [if_pos h4] at h2; omega
        · rw [if_pos (by omega)]; omega
    · rw [if_neg h1] at h
      by_cases h5 : b.toNat < a.toNat
      · rw [if_pos h5] at h; omega
      · rw [if_neg h5] at h
        by_cases h3 : b.toNat < c.toNat
        · rw [if_pos (by omega)]; omega
        · rw [if_neg h3] at h2
          by_cases h4 : c.toNat < b.toNat
          · rw [if_pos h4] at h2; omega
          · rw [if_neg h4] at h2
            rw [if_neg (by omega), if_neg (by omega)]
            exact ih h h2
def slt (a b : ByteArray) : Prop := cs a b < 0
instance (a b : ByteArray) : Decidable (slt a b) := inferInstanceAs (Decidable (cs a b < 0))
theorem slt_trans {a b c : ByteArray} (h : slt a b) (h2 : slt b c) : slt a c := cb_trans _ _ _ h h2
theorem slt_irrefl (a : ByteArray) : ¬ slt a a := by
  unfold slt
  rw [(cs_zero).2 rfl]
  decide
theorem slt_asymm {a b : ByteArray} (h : slt a b) : ¬ slt b a := fun h2 => slt_irrefl _ (slt_trans h h2)
theorem slt_tri (a b : ByteArray) : slt a b ∨ a = b ∨ slt b a := by
  have := cs_swap a b
  have := cs_bd a b
  unfold slt
  by_cases h : cs a b = 0
  · exact .inr (.inl (cs_zero.1 h))
  · omega
theorem slt_less (a b : ByteArray) : Op.bytesLess a.toList b.toList = decide (slt a b) := cs_less a b
theorem same_iff (a b : ByteArray) : (a.toList == b.toList) = decide (a = b) := by
  rw [cs_eq, Bool.eq_iff_iff, decide_eq_true_eq, decide_eq_true_eq, cs_zero]
def Srt (l : List ByteArray) : Prop := l.Pairwise slt
theorem Srt.ext : ∀ {l m : List ByteArray}, Srt l → Srt m → (∀ x, x ∈ l ↔ x ∈ m) → l = m
  | [], [], _, _, _ => rfl
  | [], b :: m, _, _, h => by have := (h b).2 (by simp); cases this
  | a :: l, [], _, _, h => by have := (h a).1 (by simp); cases this
  | a :: l, b :: m, h1, h2, h => by
    unfold Srt at h1 h2
    rw [List.pairwise_cons] at h1 h2
    have hab : a = b := by
      rcases List.mem_cons.1 ((h a).1 (by simp)) with e | e
      · exact e
      · rcases List.mem_cons.1 ((h b).2 (by simp)) with e2 | e2
        · exact e2.symm
        · exact absurd (h1.1 b e2) (slt_asymm (h2.1 a e))
    subst hab
    rw [Srt.ext h1.2 h2.2 (fun x => by
      have hx := h x
      rw [List.mem_cons, List.mem_cons] at hx
      constructor
      · intro hm
        rcases hx.1 (.inr hm) with e | e
        · subst e; exact absurd (h1.1 _ hm) (slt_irrefl _)
        · exact e
      · intro hm
        rcases hx.2 (.inr hm) with e | e
        · subst e; exact absurd (h2.1 _ hm) (slt_irrefl _)
        · exact e)]
/-- The names of a valid form ascend. -/
theorem okL_iff {xs : List Mo} : okL xs = true ↔ (Srt (xs.map (·.1)) ∧ ∀ m ∈ xs, nmB m.1 = true ∧ m.2 ≠ 0) := by
  unfold okL
  rw [List.all_eq_true]
  have getE : ∀ j (h : j < xs.length), xs.getD j mo0 = xs[j] := fun j h => by unfold List.getD; rw [List.getElem?_eq_getElem h]; rfl
  constructor
  · intro h
    have hb : ∀ j, j < xs.length → nmB (xs.getD j mo0).1 = true ∧ (xs.getD j mo0).2 ≠ 0 ∧ (0 < j → slt (xs.getD (j - 1) mo0).1 (xs.getD j mo0).1) := fun j hj => by
      have h1 := h j (List.mem_range.2 hj)
      unfold bd at h1
      rw [slt_less] at h1
      simp only [Bool.not_eq_true', Bool.or_eq_false_iff, Bool.not_eq_false', beq_eq_false_iff_ne, Bool.and_eq_false_imp, decide_eq_true_eq] at h1
      exact ⟨h1.1, h1.2.1, fun h0 => by simpa using h1.2.2 h0⟩
    refine ⟨?_, ?_⟩
    · unfold Srt
      rw [List.pairwise_iff_getElem]
      intro i j hi hj hij
      have key : ∀ d i (hi : i + d + 1 < xs.length), slt (xs.getD i mo0).1 (xs.getD (i + d + 1) mo0).1 := by
        intro d
        induction d with
        | zero => intro i hi; exact (hb (i + 0 + 1) hi).2.2 (by omega)
        | succ d ih =>
          intro i hi
          exact slt_trans (ih i (by omega)) ((hb (i + (d + 1) + 1) hi).2.2 (by omega))
      simp only [List.length_map] at hi hj
      have := key (j - i - 1) i (by omega)
      rw [show i + (j - i - 1) + 1 = j by omega, getE i hi, getE j hj] at this
      simpa using this
    · intro m hm
      obtain ⟨j, hj, rfl⟩ := List.getElem_of_mem hm
      have := hb j hj
      rw [getE j hj] at this
      exact ⟨this.1, this.2.1⟩
  · intro h j hj
    have hj := List.mem_range.1 hj
    unfold bd
    rw [slt_less]
    have h1 := h.2 (xs.getD j mo0) (getD_mem hj)
    rw [h1.1, beq_false_of_ne h1.2]
    have hs : 0 < j → slt (xs.getD (j - 1) mo0).1 (xs.getD j mo0).1 := fun h0 => by
      have := (List.pairwise_iff_getElem.1 h.1) (j - 1) j (by simp; omega) (by simpa using hj) (by omega)
      rw [getE j hj, getE (j - 1) (by omega)]
      simpa using this
    generalize (xs.getD (j - 1) mo0).1 = A at *
    generalize (xs.getD j mo0).1 = B at *
    by_cases h0 : 0 < j
    · rw [decide_eq_true (hs h0)]; simp
    · rw [decide_eq_false h0]; rfl
theorem co_nil (s : ByteArray) : co [] s = 0 := rfl
theorem co_cons (x : Mo) (l : List Mo) (s : ByteArray) : co (x :: l) s = if x.1 = s then x.2 else co l s := by
  show (if (x.1.toList == s.toList) = true then x.2 else co l s) = _
  rw [same_iff]
  by_cases h : x.1 = s <;> simp [h]
theorem co_out {l : List Mo} {s : ByteArray} (h : s ∉ l.map (·.1)) : co l s = 0 := by
  induction l with
  | nil => rfl
  | cons x l ih =>
    rw [List.map_cons, List.mem_cons, not_or] at h
    rw [co_cons, if_neg (fun e => h.1 e.symm), ih h.2]
theorem co_in {l : List Mo} (hs : Srt (l.map (·.1))) {m : Mo} (h : m ∈ l) : co l m.1 = m.2 := by
  induction l with
  | nil => cases h
  | cons x l ih =>
    unfold Srt at hs
    rw [List.map_cons, List.pairwise_cons] at hs
    rw [co_cons]
    rcases List.mem_cons.1 h with rfl | h
    · rw [if_pos rfl]
    · have := hs.1 m.1 (List.mem_map_of_mem h)
      rw [if_neg (fun e => slt_irrefl _ (e ▸ this)), ih hs.2 h]
def mg : List Mo → List Mo → List Mo
  | [], ys => ys
  | x :: xs, [] => x :: xs
  | x :: xs, y :: ys => if slt x.1 y.1 then x :: mg xs (y :: ys) else if slt y.1 x.1 then y :: mg (x :: xs) ys else (x.1, x.2 + y.2) :: mg xs ys
termination_by a b => a.length + b.length
theorem mg_nil (xs : List Mo) : mg xs [] = xs := by cases xs <;> (unfold mg; rfl)
theorem nil_mg (ys : List Mo) : mg [] ys = ys := by unfold mg; rfl
theorem mg_lt {x y : Mo} {xs ys : List Mo} (h : slt x.1 y.1) : mg (x :: xs) (y :: ys) = x :: mg xs (y :: ys) := by rw [mg, if_pos h]
theorem mg_gt {x y : Mo} {xs ys : List Mo} (h : slt y.1 x.1) : mg (x :: xs) (y :: ys) = y :: mg (x :: xs) ys := by rw [mg, if_neg (slt_asymm h), if_pos h]
theorem mg_eq {x y : Mo} {xs ys : List Mo} (h : x.1 = y.1) : mg (x :: xs) (y :: ys) = (x.1, x.2 + y.2) :: mg xs ys := by rw [mg, if_neg (h ▸ slt_irrefl _), if_neg (h ▸ slt_irrefl _)]
/-- One principle for all facts on the merged list. -/
theorem mg_ind {P : List Mo → List Mo → Prop} (h1 : ∀ ys, P [] ys) (h2 : ∀ x xs, P (x :: xs) []) (h3 : ∀ x xs y ys, slt x.1 y.1 → P xs (y :: ys) → P (x :: xs) (y :: ys))
    (h4 : ∀ x xs y ys, slt y.1 x.1 → P (x :: xs) ys → P (x :: xs) (y :: ys)) (h5 : ∀ x xs y ys, x.1 = y.1 → P xs ys → P (x :: xs) (y :: ys)) : ∀ (n : Nat) (xs ys : List Mo), xs.length + ys.length ≤ n → P xs ys
  | _, [], ys, _ => h1 ys
  | _, x :: xs, [], _ => h2 x xs
  | 0, x :: xs, y :: ys, h => by simp at h
  | n + 1, x :: xs, y :: ys, h => by
    simp only [List.length_cons] at h
    rcases slt_tri x.1 y.1 with e | e | e
    · exact h3 x xs y ys e (mg_ind h1 h2 h3 h4 h5 n xs (y :: ys) (by simp; omega))
    · exact h5 x xs y ys e (mg_ind h1 h2 h3 h4 h5 n xs ys (by omega))
    · exact h4 x xs y ys e (mg_ind h1 h2 h3 h4 h5 n (x :: xs) ys (by simp; omega))
theorem mg_mem (s : ByteArray) (xs ys : List Mo) : s ∈ (mg xs ys).map (·.1) ↔ s ∈ xs.map (·.1) ∨ s ∈ ys.map (·.1) := by
  refine mg_ind (P := fun xs ys => s ∈ (mg xs ys).map (·.1) ↔ s ∈ xs.map (·.1) ∨ s ∈ ys.map (·.1)) ?_ ?_ ?_ ?_ ?_ _ xs ys (Nat.le_refl _)
  · intro ys; rw [nil_mg]; simp
  · intro x xs; rw [mg_nil]; simp
  · intro x xs y ys h ih
    rw [mg_lt h, List.map_cons, List.mem_cons, ih]
    simp only [List.map_cons, List.mem_cons]
    rw [or_assoc]
  · intro x xs y ys h ih
    rw [mg_gt h, List.map_cons, List.mem_cons, ih]
    simp only [List.map_cons, List.mem_cons]
    constructor
    · rintro (h | (h | h) | h) <;> simp [h]
    · rintro ((h | h) | h | h) <;> simp [h]
  · intro x xs y ys h ih
    rw [mg_eq h, List.map_cons, List.mem_cons, ih]
    simp only [List.map_cons, List.mem_cons]
    constructor
    · rintro (h | h | h) <;> simp [h]
    · rintro ((h2 | h2) | h2 | h2)
      · simp [h2]
      · simp [h2]
      · rw [h2, ← h]; simp
      · simp [h2]
theorem mg_srt (xs ys : List Mo) : Srt (xs.map (·.1)) → Srt (ys.map (·.1)) → Srt ((mg xs ys).map (·.1)) := by
  refine mg_ind (P := fun xs ys => Srt (xs.map (·.1)) → Srt (ys.map (·.1)) → Srt ((mg xs ys).map (·.1))) ?_ ?_ ?_ ?_ ?_ _ xs ys (Nat.le_refl _)
  · intro ys _ h; rw [nil_mg]; exact h
  · intro x xs h _; rw [mg_nil]; exact h
  · intro x xs y ys h ih hx hy
    unfold Srt at *
    rw [List.map_cons, List.pairwise_cons] at hx
    have hy' := hy
    rw [List.map_cons, List.pairwise_cons] at hy'
    rw [mg_lt h, List.map_cons, List.pairwise_cons]
    refine ⟨fun s hs => ?_, ih hx.2 hy⟩
    rcases (mg_mem s _ _).1 hs with e | e
    · exact hx.1 s e
    · rw [List.map_cons, List.mem_cons] at e
      rcases e with rfl | e
      · exact h
      · exact slt_trans h (hy'.1 s e)
  · intro x xs y ys h ih hx hy
    unfold Srt at *
    have hx' := hx
    rw [List.map_cons, List.pairwise_cons] at hx'
    rw [List.map_cons, List.pairwise_cons] at hy
    rw [mg_gt h, List.map_cons, List.pairwise_cons]
    refine ⟨fun s hs => ?_, ih hx hy.2⟩
    rcases (mg_mem s _ _).1 hs with e | e
    · rw [List.map_cons, List.mem_cons] at e
      rcases e with rfl | e
      · exact h
      · exact slt_trans h (hx'.1 s e)
    · exact hy.1 s e
  · intro x xs y ys h ih hx hy
    unfold Srt at *
    rw [List.map_cons, List.pairwise_cons] at hx hy
    rw [mg_eq h, List.map_cons, List.pairwise_cons]
    refine ⟨fun s hs => ?_, ih hx.2 hy.2⟩
    rcases (mg_mem s _ _).1 hs with e | e
    · exact hx.1 s e
    · exact h ▸ hy.1 s e
theorem srt_out {x : ByteArray} {l : List ByteArray} (h : Srt (x :: l)) : x ∉ l := fun hm => by
  unfold Srt at h
  rw [List.pairwise_cons] at h
  exact slt_irrefl _ (h.1 x hm)
theorem srt_tail {x : ByteArray} {l : List ByteArray} (h : Srt (x :: l)) : Srt l := by unfold Srt at *; rw [List.pairwise_cons] at h; exact h.2
theorem lt_out {s x : ByteArray} {l : List ByteArray} (h : Srt (x :: l)) (hs : slt s x) : s ∉ x :: l := fun hm => by
  unfold Srt at h
  rw [List.pairwise_cons] at h
  rcases List.mem_cons.1 hm with rfl | e
  · exact slt_irrefl _ hs
  · exact slt_irrefl _ (slt_trans hs (h.1 s e))
theorem mg_co (s : ByteArray) (xs ys : List Mo) : Srt (xs.map (·.1)) → Srt (ys.map (·.1)) → co (mg xs ys) s = co xs s + co ys s := by
  refine mg_ind (P := fun xs ys => Srt (xs.map (·.1)) → Srt (ys.map (·.1)) → co (mg xs ys) s = co xs s + co ys s) ?_ ?_ ?_ ?_ ?_ _ xs ys (Nat.le_refl _)
  · intro ys _ _; rw [nil_mg, co_nil, Int.zero_add]
  · intro x xs _ _; rw [mg_nil, co_nil, Int.add_zero]
  · intro x xs y ys h ih hx hy
    rw [mg_lt h, co_cons, ih (srt_tail hx) hy, co_cons x xs]
    by_cases e : x.1 = s
    · rw [if_pos e, if_pos e, co_out (l := y :: ys) (s := s) (e ▸ lt_out hy h), Int.add_zero]
    · rw [if_neg e, if_neg e]
  · intro x xs y ys h ih hx hy
    rw [mg_gt h, co_cons, ih hx (srt_tail hy), co_cons y ys]
    by_cases e : y.1 = s
    · rw [if_pos e, if_pos e, co_out (l := x :: xs) (s := s) (e ▸ lt_out hx h), Int.zero_add]
    · rw [if_neg e, if_neg e]
  · intro x xs y ys h ih hx hy
    rw [mg_eq h, co_cons, ih (srt_tail hx) (srt_tail hy), co_cons x xs, co_cons y ys]
    by_cases e : x.1 = s
    · rw [if_pos e, if_pos e, if_pos (h ▸ e)]
    · rw [if_neg e, if_neg e, if_neg (fun e2 => e (h.trans e2))]
/-- The merged list, by its names. -/
theorem mg_names {xs ys : List Mo} (hx : Srt (xs.map (·.1))) (hy : Srt (ys.map (·.1))) {l : List ByteArray} (hl : Srt l) (hm : ∀ s, s ∈ l ↔ s ∈ xs.map (·.1) ∨ s ∈ ys.map (·.1)) : l.map (fun s => (s, co xs s + co ys s)) = mg xs ys := by
  have h1 : l = (mg xs ys).map (·.1) := Srt.ext hl (mg_srt xs ys hx hy) (fun s => by rw [hm, mg_mem])
  rw [h1, List.map_map]
  conv => rhs; rw [← List.map_id (mg xs ys)]
  refine List.map_congr_left (fun m hmm => ?_)
  have := co_in (mg_srt xs ys hx hy) hmm
  rw [mg_co m.1 xs ys hx hy] at this
  show (m.1, co xs m.1 + co ys m.1) = m
  rw [this]
def flt (l : List Mo) : List Mo := (l.map fun m => (m.1, wrap64 m.2)).filter fun m => m.2 != 0
def adF (k k' : Int) (l : List Mo) : Bool := fit64 (k + k') && l.all fun m => fit64 m.2
def adR (k : Int) (xs : List Mo) (k' : Int) (ys : List Mo) : Int × List Mo × Int := if okL xs = false ∨ okL ys = false then (0, [], 1) else if adF k k' (mg xs ys) = true then (wrap64 (k + k'), flt (mg xs ys), 0) else (0, [], 3)
theorem flt_snoc (l : List Mo) (m : Mo) : flt (l ++ [m]) = flt l ++ (if wrap64 m.2 = 0 then [] else [(m.1, wrap64 m.2)]) := by
  unfold flt
  rw [List.map_append, List.filter_append, List.map_cons, List.map_nil]
  by_cases h : wrap64 m.2 = 0 <;> simp [h]
theorem flt_len (l : List Mo) : (flt l).length ≤ l.length := by
  unfold flt
  exact Nat.le_trans (List.length_filter_le _ _) (by simp)
theorem mg_len (xs ys : List Mo) : (mg xs ys).length ≤ xs.length + ys.length := by
  refine mg_ind (P := fun xs ys => (mg xs ys).length ≤ xs.length + ys.length) ?_ ?_ ?_ ?_ ?_ _ xs ys (Nat.le_refl _)
  · intro ys; rw [nil_mg]; simp
  · intro x xs; rw [mg_nil]; simp
  · intro x xs y ys h ih; rw [mg_lt h]; simp at ih ⊢; omega
  · intro x xs y ys h ih; rw [mg_gt h]; simp at ih ⊢; omega
  · intro x xs y ys h ih; rw [mg_eq h]; simp at ih ⊢; omega
end Go.Proofs.YtbicmlkjonaccaaDoor.Ln


namespace Go.Proofs.YtbicmlkjonaccaaDoor.Ln
open Go.ChangeShapes Go.WideShapes Go.ChangeAt Go.RowKit
open Go.Proofs.YtbicmlkjonaccaaDoor.Nm
set_option linter.unusedVariables false
set_option linter.unusedSimpArgs false
set_option maxRecDepth 8000

/-- A slice of int64. -/
def SlJ (w : World) (p : Option Addr) (zs : List Int) : Prop := ∀ i, i < zs.length → ∃ b o, p = some ⟨b, o, none⟩ ∧ w.cell? ⟨b, o + i, none⟩ = some (.int .i64 (zs.getD i 0))
theorem SlJ.keep {w w' : World} {p : Option Addr} {zs : List Int} (hb : Below w.heap.size w w') (h : SlJ w p zs) : SlJ w' p zs := fun i hi => by
  obtain ⟨b, o, hp, c0⟩ := h i hi
  exact ⟨b, o, hp, Rg.keep hb (World.block_lt_of_cell? _ _ c0) c0⟩
abbrev Cst := Int × List Mo × Bool
def badQ (x : Qm × Int) : Bool := !(okL x.1.2.1) || (decide (x.2 < 0) && !x.1.2.2)
/-- One constraint more, or the error. -/
def cbS (r : Cst) (x : Qm × Int) : Cst × Int :=
  if (sclR x.2 x.1.1 x.1.2.1).2.2 ≠ 0 then (r, (sclR x.2 x.1.1 x.1.2.1).2.2)
  else if (adR r.1 r.2.1 (sclR x.2 x.1.1 x.1.2.1).1 (sclR x.2 x.1.1 x.1.2.1).2.1).2.2 ≠ 0 then (r, (adR r.1 r.2.1 (sclR x.2 x.1.1 x.1.2.1).1 (sclR x.2 x.1.1 x.1.2.1).2.1).2.2)
  else (((adR r.1 r.2.1 (sclR x.2 x.1.1 x.1.2.1).1 (sclR x.2 x.1.1 x.1.2.1).2.1).1, (adR r.1 r.2.1 (sclR x.2 x.1.1 x.1.2.1).1 (sclR x.2 x.1.1 x.1.2.1).2.1).2.1, r.2.2 && (x.1.2.2 || x.2 == 0)), 0)
def cbF : List (Qm × Int) → Cst → Cst × Int
  | [], r => (r, 0)
  | x :: t, r => if (cbS r x).2 ≠ 0 then ((0, [], false), (cbS r x).2) else cbF t (cbS r x).1
/-- What Combine answers. -/
def cbR (l : List Qm) (bs : List Int) : Cst × Int :=
  if l.length ≠ bs.length then ((0, [], false), 1) else if (l.zip bs).any badQ = true then ((0, [], false), 1) else cbF (l.zip bs) (0, [], true)
theorem zip_get {l : List Qm} {bs : List Int} {j : Nat} (h : j < l.length) (h2 : j < bs.length) : (l.zip bs)[j]'(by rw [List.length_zip]; omega) = (l.getD j q0m, bs.getD j 0) := by
  have e1 : l.getD j q0m = l[j] := by unfold List.getD; rw [List.getElem?_eq_getElem h]; rfl
  have e2 : bs.getD j 0 = bs[j] := by unfold List.getD; rw [List.getElem?_eq_getElem h2]; rfl
  rw [e1, e2, List.getElem_zip]
theorem zip_drop {l : List Qm} {bs : List Int} {j : Nat} (h : j < l.length) (h2 : j < bs.length) : (l.zip bs).drop j = (l.getD j q0m, bs.getD j 0) :: (l.zip bs).drop (j + 1) := by
  rw [List.drop_eq_getElem_cons (by rw [List.length_zip]; omega), zip_get h h2]
theorem zip_take {l : List Qm} {bs : List Int} {j : Nat} (h : j < l.length) (h2 : j < bs.length) : (l.zip bs).take (j + 1) = (l.zip bs).take j ++ [(l.getD j q0m, bs.getD j 0)] := by
  rw [List.take_succ_eq_append_getElem (by rw [List.length_zip]; omega), zip_get h h2]
theorem zip_mem {l : List Qm} {bs : List Int} {j : Nat} (h : j < l.length) (h2 : j < bs.length) : (l.getD j q0m, bs.getD j 0) ∈ l.zip bs := by
  rw [← zip_get h h2]
  exact List.getElem_mem _
/-- The running sum lies in range. -/
def rOK (r : Cst) (n : Nat) : Prop := r.2.1.length ≤ n ∧ (-9223372036854775808 ≤ r.1 ∧ r.1 ≤ 9223372036854775807) ∧ ∀ m ∈ r.2.1, m.1.size ≤ maxLen ∧ -9223372036854775808 ≤ m.2 ∧ m.2 ≤ 9223372036854775807
theorem rOK.get {r : Cst} {n : Nat} (h : rOK r n) : ∀ i, i < r.2.1.length → (r.2.1.getD i mo0).1.size ≤ maxLen ∧ -9223372036854775808 ≤ (r.2.1.getD i mo0).2 ∧ (r.2.1.getD i mo0).2 ≤ 9223372036854775807 := fun i hi => h.2.2 _ (getD_mem hi)
theorem wrp_bd (n : Int) : -9223372036854775808 ≤ wrap64 n ∧ wrap64 n ≤ 9223372036854775807 := by unfold wrap64; omega
theorem scl_rng {b k : Int} {xs : List Mo} (hx : ∀ m ∈ xs, m.1.size ≤ maxLen) : (sclR b k xs).2.1.length ≤ xs.length ∧ (-9223372036854775808 ≤ (sclR b k xs).1 ∧ (sclR b k xs).1 ≤ 9223372036854775807) ∧ ∀ m ∈ (sclR b k xs).2.1, m.1.size ≤ maxLen ∧ -9223372036854775808 ≤ m.2 ∧ m.2 ≤ 9223372036854775807 := by
  unfold sclR
  split
  · simp
  · split
    · simp
    · split
      · refine ⟨by unfold sclV; simp, wrp_bd _, fun m hm => ?_⟩
        unfold sclV at hm
        obtain ⟨x, hx1, rfl⟩ := List.mem_map.1 hm
        exact ⟨hx x hx1, wrp_bd _⟩
      · simp
theorem adR_rng {k k' : Int} {xs ys : List Mo} (hx : ∀ m ∈ xs, m.1.size ≤ maxLen) (hy : ∀ m ∈ ys, m.1.size ≤ maxLen) : (adR k xs k' ys).2.1.length ≤ xs.length + ys.length ∧ (-9223372036854775808 ≤ (adR k xs k' ys).1 ∧ (adR k xs k' ys).1 ≤ 9223372036854775807) ∧ ∀ m ∈ (adR k xs k' ys).2.1, m.1.size ≤ maxLen ∧ -9223372036854775808 ≤ m.2 ∧ m.2 ≤ 9223372036854775807 := by
  unfold adR
  split
  · simp
  · split
    · refine ⟨Nat.le_trans (flt_len _) (mg_len _ _), wrp_bd _, fun m hm => ?_⟩
      unfold flt at hm
      obtain ⟨hm1, _⟩ := List.mem_filter.1 hm
      obtain ⟨x, hx1, rfl⟩ := List.mem_map.1 hm1
      refine ⟨?_, wrp_bd _⟩
      have h := (mg_mem x.1 xs ys).1 (List.mem_map.2 ⟨x, hx1, rfl⟩)
      rcases h with h | h
      · obtain ⟨y, hy1, hy2⟩ := List.mem_map.1 h
        dsimp only at hy2 ⊢
        rw [← hy2]
        exact hx y hy1
      · obtain ⟨y, hy1, hy2⟩ := List.mem_map.1 h
        dsimp only at hy2 ⊢
        rw [← hy2]
        exact hy y hy1
    · simp
/-- A constraint as a result, with an error. -/
def CbW (R : Cst × Int) (w : World) (e : Ending) (w' : World) : Prop := ∃ p c, e = .returned (.tuple #[Cv R.1.1 p R.1.2.1.length c R.1.2.2, .int .i64 R.2]) ∧ SlM w' p R.1.2.1 ∧ Below w.heap.size w w'
theorem CbW.zero {w u : World} {b1 : Nat} {er : Int} {X Y Z : Value} (hb : Below w.heap.size w u) (h1 : w.heap.size ≤ b1) : CbW ((0, [], false), er) w (.returned (.tuple #[.agg #[.int .i64 0, .slice none 0 0, .bool false], .int .i64 er])) (((u.setCell ⟨b1, 0, none⟩ X).setCell ⟨b1, 1, none⟩ Y).setCell ⟨b1, 2, none⟩ Z) :=
  ⟨none, 0, rfl, fun i hi => absurd hi (by simp), ((hb.setCell (p := ⟨b1, 0, none⟩) h1 X).setCell (p := ⟨b1, 1, none⟩) h1 Y).setCell (p := ⟨b1, 2, none⟩) h1 Z⟩
theorem sl_over3 {u : World} {q : Option Addr} {xs : List Mo} {g : Nat} {n : Int} {a : Option Addr} {m c : Nat} {bb : Bool} {x y z : Value} (h : SlM u q xs) (h0 : u.cell? ⟨g, 0, none⟩ = some (.int .i64 n)) (h1 : u.cell? ⟨g, 1, none⟩ = some (.slice a m c)) (h2 : u.cell? ⟨g, 2, none⟩ = some (.bool bb)) : SlM (((u.setCell ⟨g, 0, none⟩ x).setCell ⟨g, 1, none⟩ y).setCell ⟨g, 2, none⟩ z) q xs := fun i hi => by
  obtain ⟨b, o, rfl, c0, c1⟩ := h i hi
  refine ⟨b, o, rfl, ?_⟩
  by_cases hb : b = g
  · subst hb
    have n0 : o + i * 2 ≠ 0 := fun e => by rw [e, h0] at c0; cases c0
    have n1 : o + i * 2 ≠ 1 := fun e => by rw [e, h1] at c0; cases c0
    have n2 : o + i * 2 ≠ 2 := fun e => by rw [e, h2] at c0; cases c0
    constructor
    · rw [World.cell?_setCell_other _ _ _ _ (by intro e; injection e with _ e2 _; omega), World.cell?_setCell_other _ _ _ _ (by intro e; injection e with _ e2 _; omega), World.cell?_setCell_other _ _ _ _ (by intro e; injection e with _ e2 _; omega)]; exact c0
    · rw [World.cell?_setCell_other _ _ _ _ (by intro e; injection e with _ e2 _; omega), World.cell?_setCell_other _ _ _ _ (by intro e; injection e with _ e2 _; omega), World.cell?_setCell_other _ _ _ _ (by intro e; injection e with _ e2 _; omega)]; exact c1
  · constructor
    · rw [World.cell?_setCell_far _ _ _ _ (fun e => hb e.symm), World.cell?_setCell_far _ _ _ _ (fun e => hb e.symm), World.cell?_setCell_far _ _ _ _ (fun e => hb e.symm)]; exact c0
    · rw [World.cell?_setCell_far _ _ _ _ (fun e => hb e.symm), World.cell?_setCell_far _ _ _ _ (fun e => hb e.symm), World.cell?_setCell_far _ _ _ _ (fun e => hb e.symm)]; exact c1
theorem CbW.end {w u : World} {b1 : Nat} {q : Option Addr} {R : Cst} {d : Nat} {n : Int} {a : Option Addr} {m c : Nat} {bb : Bool} {X Y Z : Value} (hb : Below w.heap.size w u) (h1 : w.heap.size ≤ b1) (hs : SlM u q R.2.1) (h0 : u.cell? ⟨b1, 0, none⟩ = some (.int .i64 n)) (hc : u.cell? ⟨b1, 1, none⟩ = some (.slice a m c)) (h2 : u.cell? ⟨b1, 2, none⟩ = some (.bool bb)) :
    CbW (R, 0) w (.returned (.tuple #[.agg #[.int .i64 R.1, .slice q R.2.1.length d, .bool R.2.2], .int .i64 0])) (((u.setCell ⟨b1, 0, none⟩ X).setCell ⟨b1, 1, none⟩ Y).setCell ⟨b1, 2, none⟩ Z) :=
  ⟨q, d, rfl, sl_over3 hs h0 hc h2, ((hb.setCell (p := ⟨b1, 0, none⟩) h1 X).setCell (p := ⟨b1, 1, none⟩) h1 Y).setCell (p := ⟨b1, 2, none⟩) h1 Z⟩
end Go.Proofs.YtbicmlkjonaccaaDoor.Ln
