/- Linear forms: sorted names; the merged list. -/
import Derived.Test.YtbicmlkjonaccaaDoorH6

namespace Go.Proofs.YtbicmlkjonaccaaDoor.Ln
open Go.ChangeShapes Go.WideShapes Go.ChangeAt Go.RowKit
open Go.Proofs.YtbicmlkjonaccaaDoor.Nm
set_option linter.unusedVariables false
set_option linter.unusedSimpArgs false
theorem cb_trans : ∀ a b c : List UInt8, Lib.compareBytes a b < 0 → Lib.compareBytes b c < 0 → Lib.compareBytes a c < 0
  | [], [], _, h, _ => by simp [Lib.compareBytes] at h
  | _ :: _, [], _, h, _ => by simp [Lib.compareBytes] at h
  | [], _ :: _, [], _, h => by simp [Lib.compareBytes] at h
  | [], _ :: _, _ :: _, _, _ => by simp [Lib.compareBytes]
  | _ :: _, _ :: _, [], _, h => by simp [Lib.compareBytes] at h
  | a :: a', b :: b', c :: c', h, h2 => by
    have ih := cb_trans a' b' c'
    unfold Lib.compareBytes at h h2 ⊢
    simp only [UInt8.lt_iff_toNat_lt] at h h2 ⊢
    by_cases h1 : a.toNat < b.toNat
    · by_cases h3 : b.toNat < c.toNat
      · rw [if_pos (by omega)]; omega
      · rw [if_neg h3] at h2
        by_cases h4 : c.toNat < b.toNat
        · rw [if_pos h4] at h2; omega
        · rw [if_pos (by omega)]; omega
    · rw [if_neg h1] at h
      by_cases h5 : b.toNat < a.toNat
      · rw [if_pos h5] at h; omega
      · rw [if_neg h5] at h
        by_cases h3 : b.toNat < c.toNat
        · rw [if_pos (by omega)]; omega
        · rw [if_neg h3] at h2
          by_cases h4 : c.toNat < b.toNat
          · rw [if_pos h4] at h2; omega
          · rw [if_neg h4] at h2
            rw [if_neg (by omega), if_neg (by omega)]
            exact ih h h2
def slt (a b : ByteArray) : Prop := cs a b < 0
instance (a b : ByteArray) : Decidable (slt a b) := inferInstanceAs (Decidable (cs a b < 0))
theorem slt_trans {a b c : ByteArray} (h : slt a b) (h2 : slt b c) : slt a c := cb_trans _ _ _ h h2
theorem slt_irrefl (a : ByteArray) : ¬ slt a a := by
  unfold slt
  rw [(cs_zero).2 rfl]
  decide
theorem slt_asymm {a b : ByteArray} (h : slt a b) : ¬ slt b a := fun h2 => slt_irrefl _ (slt_trans h h2)
theorem slt_tri (a b : ByteArray) : slt a b ∨ a = b ∨ slt b a := by
  have := cs_swap a b
  have := cs_bd a b
  unfold slt
  by_cases h : cs a b = 0
  · exact .inr (.inl (cs_zero.1 h))
  · omega
theorem slt_less (a b : ByteArray) : Op.bytesLess a.toList b.toList = decide (slt a b) := cs_less a b
theorem same_iff (a b : ByteArray) : (a.toList == b.toList) = decide (a = b) := by
  rw [cs_eq, Bool.eq_iff_iff, decide_eq_true_eq, decide_eq_true_eq, cs_zero]
def Srt (l : List ByteArray) : Prop := l.Pairwise slt
theorem Srt.ext : ∀ {l m : List ByteArray}, Srt l → Srt m → (∀ x, x ∈ l ↔ x ∈ m) → l = m
  | [], [], _, _, _ => rfl
  | [], b :: m, _, _, h => by have := (h b).2 (by simp); cases this
  | a :: l, [], _, _, h => by have := (h a).1 (by simp); cases this
  | a :: l, b :: m, h1, h2, h => by
    unfold Srt at h1 h2
    rw [List.pairwise_cons] at h1 h2
    have hab : a = b := by
      rcases List.mem_cons.1 ((h a).1 (by simp)) with e | e
      · exact e
      · rcases List.mem_cons.1 ((h b).2 (by simp)) with e2 | e2
        · exact e2.symm
        · exact absurd (h1.1 b e2) (slt_asymm (h2.1 a e))
    subst hab
    rw [Srt.ext h1.2 h2.2 (fun x => by
      have hx := h x
      rw [List.mem_cons, List.mem_cons] at hx
      constructor
      · intro hm
        rcases hx.1 (.inr hm) with e | e
        · subst e; exact absurd (h1.1 _ hm) (slt_irrefl _)
        · exact e
      · intro hm
        rcases hx.2 (.inr hm) with e | e
        · subst e; exact absurd (h2.1 _ hm) (slt_irrefl _)
        · exact e)]
/-- The names of a valid form ascend. -/
theorem okL_iff {xs : List Mo} : okL xs = true ↔ (Srt (xs.map (·.1)) ∧ ∀ m ∈ xs, nmB m.1 = true ∧ m.2 ≠ 0) := by
  unfold okL
  rw [List.all_eq_true]
  have getE : ∀ j (h : j < xs.length), xs.getD j mo0 = xs[j] := fun j h => by unfold List.getD; rw [List.getElem?_eq_getElem h]; rfl
  constructor
  · intro h
    have hb : ∀ j, j < xs.length → nmB (xs.getD j mo0).1 = true ∧ (xs.getD j mo0).2 ≠ 0 ∧ (0 < j → slt (xs.getD (j - 1) mo0).1 (xs.getD j mo0).1) := fun j hj => by
      have h1 := h j (List.mem_range.2 hj)
      unfold bd at h1
      rw [slt_less] at h1
      simp only [Bool.not_eq_true', Bool.or_eq_false_iff, Bool.not_eq_false', beq_eq_false_iff_ne, Bool.and_eq_false_imp, decide_eq_true_eq] at h1
      exact ⟨h1.1, h1.2.1, fun h0 => by simpa using h1.2.2 h0⟩
    refine ⟨?_, ?_⟩
    · unfold Srt
      rw [List.pairwise_iff_getElem]
      intro i j hi hj hij
      have key : ∀ d i (hi : i + d + 1 < xs.length), slt (xs.getD i mo0).1 (xs.getD (i + d + 1) mo0).1 := by
        intro d
        induction d with
        | zero => intro i hi; exact (hb (i + 0 + 1) hi).2.2 (by omega)
        | succ d ih =>
          intro i hi
          exact slt_trans (ih i (by omega)) ((hb (i + (d + 1) + 1) hi).2.2 (by omega))
      simp only [List.length_map] at hi hj
      have := key (j - i - 1) i (by omega)
      rw [show i + (j - i - 1) + 1 = j by omega, getE i hi, getE j hj] at this
      simpa using this
    · intro m hm
      obtain ⟨j, hj, rfl⟩ := List.getElem_of_mem hm
      have := hb j hj
      rw [getE j hj] at this
      exact ⟨this.1, this.2.1⟩
  · intro h j hj
    have hj := List.mem_range.1 hj
    unfold bd
    rw [slt_less]
    have h1 := h.2 (xs.getD j mo0) (getD_mem hj)
    rw [h1.1, beq_false_of_ne h1.2]
    have hs : 0 < j → slt (xs.getD (j - 1) mo0).1 (xs.getD j mo0).1 := fun h0 => by
      have := (List.pairwise_iff_getElem.1 h.1) (j - 1) j (by simp; omega) (by simpa using hj) (by omega)
      rw [getE j hj, getE (j - 1) (by omega)]
      simpa using this
    generalize (xs.getD (j - 1) mo0).1 = A at *
    generalize (xs.getD j mo0).1 = B at *
    by_cases h0 : 0 < j
    · rw [decide_eq_true (hs h0)]; simp
    · rw [decide_eq_false h0]; rfl
theorem co_nil (s : ByteArray) : co [] s = 0 := rfl
theorem co_cons (x : Mo) (l : List Mo) (s : ByteArray) : co (x :: l) s = if x.1 = s then x.2 else co l s := by
  show (if (x.1.toList == s.toList) = true then x.2 else co l s) = _
  rw [same_iff]
  by_cases h : x.1 = s <;> simp [h]
theorem co_out {l : List Mo} {s : ByteArray} (h : s ∉ l.map (·.1)) : co l s = 0 := by
  induction l with
  | nil => rfl
  | cons x l ih =>
    rw [List.map_cons, List.mem_cons, not_or] at h
    rw [co_cons, if_neg (fun e => h.1 e.symm), ih h.2]
theorem co_in {l : List Mo} (hs : Srt (l.map (·.1))) {m : Mo} (h : m ∈ l) : co l m.1 = m.2 := by
  induction l with
  | nil => cases h
  | cons x l ih =>
    unfold Srt at hs
    rw [List.map_cons, List.pairwise_cons] at hs
    rw [co_cons]
    rcases List.mem_cons.1 h with rfl | h
    · rw [if_pos rfl]
    · have := hs.1 m.1 (List.mem_map_of_mem h)
      rw [if_neg (fun e => slt_irrefl _ (e ▸ this)), ih hs.2 h]
def mg : List Mo → List Mo → List Mo
  | [], ys => ys
  | x :: xs, [] => x :: xs
  | x :: xs, y :: ys => if slt x.1 y.1 then x :: mg xs (y :: ys) else if slt y.1 x.1 then y :: mg (x :: xs) ys else (x.1, x.2 + y.2) :: mg xs ys
termination_by a b => a.length + b.length
theorem mg_nil (xs : List Mo) : mg xs [] = xs := by cases xs <;> (unfold mg; rfl)
theorem nil_mg (ys : List Mo) : mg [] ys = ys := by unfold mg; rfl
theorem mg_lt {x y : Mo} {xs ys : List Mo} (h : slt x.1 y.1) : mg (x :: xs) (y :: ys) = x :: mg xs (y :: ys) := by rw [mg, if_pos h]
theorem mg_gt {x y : Mo} {xs ys : List Mo} (h : slt y.1 x.1) : mg (x :: xs) (y :: ys) = y :: mg (x :: xs) ys := by rw [mg, if_neg (slt_asymm h), if_pos h]
theorem mg_eq {x y : Mo} {xs ys : List Mo} (h : x.1 = y.1) : mg (x :: xs) (y :: ys) = (x.1, x.2 + y.2) :: mg xs ys := by rw [mg, if_neg (h ▸ slt_irrefl _), if_neg (h ▸ slt_irrefl _)]
/-- One principle for all facts on the merged list. -/
theorem mg_ind {P : List Mo → List Mo → Prop} (h1 : ∀ ys, P [] ys) (h2 : ∀ x xs, P (x :: xs) []) (h3 : ∀ x xs y ys, slt x.1 y.1 → P xs (y :: ys) → P (x :: xs) (y :: ys))
    (h4 : ∀ x xs y ys, slt y.1 x.1 → P (x :: xs) ys → P (x :: xs) (y :: ys)) (h5 : ∀ x xs y ys, x.1 = y.1 → P xs ys → P (x :: xs) (y :: ys)) : ∀ (n : Nat) (xs ys : List Mo), xs.length + ys.length ≤ n → P xs ys
  | _, [], ys, _ => h1 ys
  | _, x :: xs, [], _ => h2 x xs
  | 0, x :: xs, y :: ys, h => by simp at h
  | n + 1, x :: xs, y :: ys, h => by
    simp only [List.length_cons] at h
    rcases slt_tri x.1 y.1 with e | e | e
    · exact h3 x xs y ys e (mg_ind h1 h2 h3 h4 h5 n xs (y :: ys) (by simp; omega))
    · exact h5 x xs y ys e (mg_ind h1 h2 h3 h4 h5 n xs ys (by omega))
    · exact h4 x xs y ys e (mg_ind h1 h2 h3 h4 h5 n (x :: xs) ys (by simp; omega))
theorem mg_mem (s : ByteArray) (xs ys : List Mo) : s ∈ (mg xs ys).map (·.1) ↔ s ∈ xs.map (·.1) ∨ s ∈ ys.map (·.1) := by
  refine mg_ind (P := fun xs ys => s ∈ (mg xs ys).map (·.1) ↔ s ∈ xs.map (·.1) ∨ s ∈ ys.map (·.1)) ?_ ?_ ?_ ?_ ?_ _ xs ys (Nat.le_refl _)
  · intro ys; rw [nil_mg]; simp
  · intro x xs; rw [mg_nil]; simp
  · intro x xs y ys h ih
    rw [mg_lt h, List.map_cons, List.mem_cons, ih]
    simp only [List.map_cons, List.mem_cons]
    rw [or_assoc]
  · intro x xs y ys h ih
    rw [mg_gt h, List.map_cons, List.mem_cons, ih]
    simp only [List.map_cons, List.mem_cons]
    constructor
    · rintro (h | (h | h) | h) <;> simp [h]
    · rintro ((h | h) | h | h) <;> simp [h]
  · intro x xs y ys h ih
    rw [mg_eq h, List.map_cons, List.mem_cons, ih]
    simp only [List.map_cons, List.mem_cons]
    constructor
    · rintro (h | h | h) <;> simp [h]
    · rintro ((h2 | h2) | h2 | h2)
      · simp [h2]
      · simp [h2]
      · rw [h2, ← h]; simp
      · simp [h2]
theorem mg_srt (xs ys : List Mo) : Srt (xs.map (·.1)) → Srt (ys.map (·.1)) → Srt ((mg xs ys).map (·.1)) := by
  refine mg_ind (P := fun xs ys => Srt (xs.map (·.1)) → Srt (ys.map (·.1)) → Srt ((mg xs ys).map (·.1))) ?_ ?_ ?_ ?_ ?_ _ xs ys (Nat.le_refl _)
  · intro ys _ h; rw [nil_mg]; exact h
  · intro x xs h _; rw [mg_nil]; exact h
  · intro x xs y ys h ih hx hy
    unfold Srt at *
    rw [List.map_cons, List.pairwise_cons] at hx
    have hy' := hy
    rw [List.map_cons, List.pairwise_cons] at hy'
    rw [mg_lt h, List.map_cons, List.pairwise_cons]
    refine ⟨fun s hs => ?_, ih hx.2 hy⟩
    rcases (mg_mem s _ _).1 hs with e | e
    · exact hx.1 s e
    · rw [List.map_cons, List.mem_cons] at e
      rcases e with rfl | e
      · exact h
      · exact slt_trans h (hy'.1 s e)
  · intro x xs y ys h ih hx hy
    unfold Srt at *
    have hx' := hx
    rw [List.map_cons, List.pairwise_cons] at hx'
    rw [List.map_cons, List.pairwise_cons] at hy
    rw [mg_gt h, List.map_cons, List.pairwise_cons]
    refine ⟨fun s hs => ?_, ih hx hy.2⟩
    rcases (mg_mem s _ _).1 hs with e | e
    · rw [List.map_cons, List.mem_cons] at e
      rcases e with rfl | e
      · exact h
      · exact slt_trans h (hx'.1 s e)
    · exact hy.1 s e
  · intro x xs y ys h ih hx hy
    unfold Srt at *
    rw [List.map_cons, List.pairwise_cons] at hx hy
    rw [mg_eq h, List.map_cons, List.pairwise_cons]
    refine ⟨fun s hs => ?_, ih hx.2 hy.2⟩
    rcases (mg_mem s _ _).1 hs with e | e
    · exact hx.1 s e
    · exact h ▸ hy.1 s e
theorem srt_out {x : ByteArray} {l : List ByteArray} (h : Srt (x :: l)) : x ∉ l := fun hm => by
  unfold Srt at h
  rw [List.pairwise_cons] at h
  exact slt_irrefl _ (h.1 x hm)
theorem srt_tail {x : ByteArray} {l : List ByteArray} (h : Srt (x :: l)) : Srt l := by unfold Srt at *; rw [List.pairwise_cons] at h; exact h.2
theorem lt_out {s x : ByteArray} {l : List ByteArray} (h : Srt (x :: l)) (hs : slt s x) : s ∉ x :: l := fun hm => by
  unfold Srt at h
  rw [List.pairwise_cons] at h
  rcases List.mem_cons.1 hm with rfl | e
  · exact slt_irrefl _ hs
  · exact slt_irrefl _ (slt_trans hs (h.1 s e))
theorem mg_co (s : ByteArray) (xs ys : List Mo) : Srt (xs.map (·.1)) → Srt (ys.map (·.1)) → co (mg xs ys) s = co xs s + co ys s := by
  refine mg_ind (P := fun xs ys => Srt (xs.map (·.1)) → Srt (ys.map (·.1)) → co (mg xs ys) s = co xs s + co ys s) ?_ ?_ ?_ ?_ ?_ _ xs ys (Nat.le_refl _)
  · intro ys _ _; rw [nil_mg, co_nil, Int.zero_add]
  · intro x xs _ _; rw [mg_nil, co_nil, Int.add_zero]
  · intro x xs y ys h ih hx hy
    rw [mg_lt h, co_cons, ih (srt_tail hx) hy, co_cons x xs]
    by_cases e : x.1 = s
    · rw [if_pos e, if_pos e, co_out (l := y :: ys) (s := s) (e ▸ lt_out hy h), Int.add_zero]
    · rw [if_neg e, if_neg e]
  · intro x xs y ys h ih hx hy
    rw [mg_gt h, co_cons, ih hx (srt_tail hy), co_cons y ys]
    by_cases e : y.1 = s
    · rw [if_pos e, if_pos e, co_out (l := x :: xs) (s := s) (e ▸ lt_out hx h), Int.zero_add]
    · rw [if_neg e, if_neg e]
  · intro x xs y ys h ih hx hy
    rw [mg_eq h, co_cons, ih (srt_tail hx) (srt_tail hy), co_cons x xs, co_cons y ys]
    by_cases e : x.1 = s
    · rw [if_pos e, if_pos e, if_pos (h ▸ e)]
    · rw [if_neg e, if_neg e, if_neg (fun e2 => e (h.trans e2))]
/-- The merged list, by its names. -/
theorem mg_names {xs ys : List Mo} (hx : Srt (xs.map (·.1))) (hy : Srt (ys.map (·.1))) {l : List ByteArray} (hl : Srt l) (hm : ∀ s, s ∈ l ↔ s ∈ xs.map (·.1) ∨ s ∈ ys.map (·.1)) : l.map (fun s => (s, co xs s + co ys s)) = mg xs ys := by
  have h1 : l = (mg xs ys).map (·.1) := Srt.ext hl (mg_srt xs ys hx hy) (fun s => by rw [hm, mg_mem])
  rw [h1, List.map_map]
  conv => rhs; rw [← List.map_id (mg xs ys)]
  refine List.map_congr_left (fun m hmm => ?_)
  have := co_in (mg_srt xs ys hx hy) hmm
  rw [mg_co m.1 xs ys hx hy] at this
  show (m.1, co xs m.1 + co ys m.1) = m
  rw [this]
def flt (l : List Mo) : List Mo := (l.map fun m => (m.1, wrap64 m.2)).filter fun m => m.2 != 0
def adF (k k' : Int) (l : List Mo) : Bool := fit64 (k + k') && l.all fun m => fit64 m.2
def adR (k : Int) (xs : List Mo) (k' : Int) (ys : List Mo) : Int × List Mo × Int := if okL xs = false ∨ okL ys = false then (0, [], 1) else if adF k k' (mg xs ys) = true then (wrap64 (k + k'), flt (mg xs ys), 0) else (0, [], 3)
theorem flt_snoc (l : List Mo) (m : Mo) : flt (l ++ [m]) = flt l ++ (if wrap64 m.2 = 0 then [] else [(m.1, wrap64 m.2)]) := by
  unfold flt
  rw [List.map_append, List.filter_append, List.map_cons, List.map_nil]
  by_cases h : wrap64 m.2 = 0 <;> simp [h]
theorem flt_len (l : List Mo) : (flt l).length ≤ l.length := by
  unfold flt
  exact Nat.le_trans (List.length_filter_le _ _) (by simp)
theorem mg_len (xs ys : List Mo) : (mg xs ys).length ≤ xs.length + ys.length := by
  refine mg_ind (P := fun xs ys => (mg xs ys).length ≤ xs.length + ys.length) ?_ ?_ ?_ ?_ ?_ _ xs ys (Nat.le_refl _)
  · intro ys; rw [nil_mg]; simp
  · intro x xs; rw [mg_nil]; simp
  · intro x xs y ys h ih; rw [mg_lt h]; simp at ih ⊢; omega
  · intro x xs y ys h ih; rw [mg_gt h]; simp at ih ⊢; omega
  · intro x xs y ys h ih; rw [mg_eq h]; simp at ih ⊢; omega
end Go.Proofs.YtbicmlkjonaccaaDoor.Ln


namespace Go.Proofs.YtbicmlkjonaccaaDoor.Ln
open Go.ChangeShapes Go.WideShapes Go.ChangeAt Go.RowKit
set_option linter.unusedVariables false
set_option linter.unusedSimpArgs false
def PW (x y : Int) (f : Bool) (gf : Nat) (w : World) (e : Ending) (w' : World) : Prop :=
  e = .returned (.int .i64 (wrap64 (x + y))) ∧ w.grownBy w' (some gf) ∧ w'.cell? ⟨gf, 0, none⟩ = some (.bool (f && fit64 (x + y))) ∧ w'.frozen? ⟨gf, 0, none⟩ = false
theorem sum_fit {x y C : Int} (x1 : -9223372036854775808 ≤ x) (x2 : x ≤ 9223372036854775807) (y1 : -9223372036854775808 ≤ y) (y2 : y ≤ 9223372036854775807) (hC : wrap64 (x + y) = C) :
    fit64 (x + y) = !((decide (x < 0) == decide (y < 0)) && (decide (C < 0) != decide (x < 0))) := by
  rw [Bool.eq_iff_iff, fit_yes]
  unfold wrap64 at hC
  by_cases h1 : x < 0 <;> by_cases h2 : y < 0 <;> by_cases h3 : C < 0 <;> simp [h1, h2, h3] <;> omega
set_option maxRecDepth 100000 in
set_option maxHeartbeats 8000000 in
theorem plus1 (x y : Int) (f : Bool) (gf : Nat) (w : World) (x1 : -9223372036854775808 ≤ x) (x2 : x ≤ 9223372036854775807) (y1 : -9223372036854775808 ≤ y) (y2 : y ≤ 9223372036854775807)
    (hf : w.cell? ⟨gf, 0, none⟩ = some (.bool f)) (hz : w.frozen? ⟨gf, 0, none⟩ = false) :
    Calls Tryd.prog 96 #[.int .i64 x, .int .i64 y, .pointer (some ⟨gf, 0, none⟩)] w (PW x y f gf w) := by
  obtain ⟨C, hC⟩ : ∃ C, wrap64 (x + y) = C := ⟨_, rfl⟩
  have hfit := sum_fit x1 x2 y1 y2 hC
  have HC := Lib.hid hC
  have hs0 : w.grownBy w (some gf) := ⟨rfl, rfl, rfl, Nat.le_refl _, fun _ _ _ => rfl⟩
  obtain ⟨q1, h1⟩ : ∃ q, decide (x < 0) = q := ⟨_, rfl⟩
  obtain ⟨q2, h2⟩ : ∃ q, decide (y < 0) = q := ⟨_, rfl⟩
  obtain ⟨q3, h3⟩ : ∃ q, decide (C < 0) = q := ⟨_, rfl⟩
  rw [h1, h2, h3] at hfit
  have HF := Lib.hid hfit
  clear hfit
  cases q1 <;> cases q2 <;> cases q3
  all_goals
    go_enter Tryd.func96, Tryd.ntmps96
    go_wp2
    go_ret
    first
    | exact ⟨by rw [HC.out]; rfl, hs0, by rw [HF.out, hf]; cases f <;> rfl, hz⟩
    | exact ⟨by rw [HC.out]; rfl, grown_set, by rw [HF.out]; (first | go_cell | (cases f <;> go_cell)), by simp [World.frozen?_setCell, hz]⟩
theorem plusY (a b : Int) (w : World) (ha1 : -9223372036854775808 ≤ a) (ha2 : a ≤ 9223372036854775807) (hb1 : -9223372036854775808 ≤ b) (hb2 : b ≤ 9223372036854775807) (h : fit64 (a + b) = true) :
    Calls Tryd.prog 99 #[.int .i64 a, .int .i64 b] w fun e w' => e = .returned (.tuple #[.int .i64 (wrap64 (a + b)), .bool true]) ∧ w = w' := by
  have hb := fit_yes.1 h
  rw [show wrap64 (a + b) = a + b by unfold wrap64; omega]
  have e1 : -9223372036854775808 ≤ a + b := hb.1
  have e2 : a + b ≤ 9223372036854775807 := hb.2
  clear hb h
  by_cases hp : 0 < b
  · have c1 : ¬ 9223372036854775807 - b < a := by omega
    go_enter Tryd.func99, Tryd.ntmps99
    go_wp2
    exact bodyPost_ret (v := .tuple #[.int .i64 (a + b), .bool true]) (by simp [results, Tryd.results99, go_sem]) rfl ⟨rfl, rfl⟩
  · by_cases hn : b < 0
    · have c1 : ¬ a < -9223372036854775808 - b := by omega
      go_enter Tryd.func99, Tryd.ntmps99
      go_wp2
      exact bodyPost_ret (v := .tuple #[.int .i64 (a + b), .bool true]) (by simp [results, Tryd.results99, go_sem]) rfl ⟨rfl, rfl⟩
    · go_enter Tryd.func99, Tryd.ntmps99
      go_wp2
      exact bodyPost_ret (v := .tuple #[.int .i64 (a + b), .bool true]) (by simp [results, Tryd.results99, go_sem]) rfl ⟨rfl, rfl⟩
theorem plusN (a b : Int) (w : World) (ha1 : -9223372036854775808 ≤ a) (ha2 : a ≤ 9223372036854775807) (hb1 : -9223372036854775808 ≤ b) (hb2 : b ≤ 9223372036854775807) (h : fit64 (a + b) = false) :
    Calls Tryd.prog 99 #[.int .i64 a, .int .i64 b] w fun e w' => e = .returned (.tuple #[.int .i64 0, .bool false]) ∧ w = w' := by
  have hb : ¬ (-9223372036854775808 ≤ a + b ∧ a + b ≤ 9223372036854775807) := fun hh => by rw [fit_yes.2 hh] at h; cases h
  clear h
  by_cases hp : 0 < b
  · have c1 : 9223372036854775807 - b < a := by omega
    clear hb
    go_enter Tryd.func99, Tryd.ntmps99
    go_wp2
    exact bodyPost_ret (v := .tuple #[.int .i64 0, .bool false]) (by simp [results, Tryd.results99, go_sem]) rfl ⟨rfl, rfl⟩
  · have hn : b < 0 := by omega
    have c1 : a < -9223372036854775808 - b := by omega
    clear hb
    go_enter Tryd.func99, Tryd.ntmps99
    go_wp2
    exact bodyPost_ret (v := .tuple #[.int .i64 0, .bool false]) (by simp [results, Tryd.results99, go_sem]) rfl ⟨rfl, rfl⟩
theorem cut1 {w : World} {b o c : Nat} {x : Mo} {xa : List Mo} (h : SlM w (some ⟨b, o, none⟩) (x :: xa)) (hc : (x :: xa).length ≤ c) :
    ∃ A : Option Addr, (if c = 1 then some (⟨b, o, none⟩ : Addr) else some ⟨b, o + 2, none⟩) = A ∧ SlM w A xa ∧ xa.length ≤ c - 1 ∧ ∀ b' o', A = some ⟨b', o', none⟩ → b' = b := by
  rw [List.length_cons] at hc
  refine ⟨_, rfl, fun i hi => ?_, by omega, fun b' o' e => ?_⟩
  · rw [if_neg (by omega)]
    obtain ⟨b1, o1, e, c0, c1⟩ := h (i + 1) (by rw [List.length_cons]; omega)
    cases e
    refine ⟨b, o + 2, rfl, ?_, ?_⟩
    · rw [show o + 2 + i * 2 = o + (i + 1) * 2 by omega]; exact c0
    · rw [show o + 2 + i * 2 + 1 = o + (i + 1) * 2 + 1 by omega]; exact c1
  · split at e <;> (cases e; rfl)
theorem SlM.grown {w u : World} {p : Option Addr} {xs : List Mo} {g : Nat} (h : SlM w p xs) (hg : w.grownBy u (some g)) (hp : ∀ b o, p = some ⟨b, o, none⟩ → b ≠ g) : SlM u p xs := fun i hi => by
  obtain ⟨b, o, rfl, c0, c1⟩ := h i hi
  have hb := hg.block b (lt_of_cell c0) (fun e => hp b o rfl (by cases e; rfl))
  exact ⟨b, o, rfl, (World.cell?_of_block (a := ⟨b, _, none⟩) hb).trans c0, (World.cell?_of_block (a := ⟨b, _, none⟩) hb).trans c1⟩
theorem grown_trans {w u v : World} {g : Nat} (h : w.grownBy u (some g)) (h2 : u.grownBy v (some g)) : w.grownBy v (some g) :=
  ⟨h2.os.trans h.os, h2.tape.trans h.tape, h2.output.trans h.output, Nat.le_trans h.size h2.size, fun k hk hne => (h2.block k (Nat.lt_of_lt_of_le hk h.size) hne).trans (h.block k hk hne)⟩
theorem grown_drew {w u : World} {r : Option Nat} (h : w.grownBy u r) : w.grownBy u.drew r := ⟨h.os, h.tape, h.output, h.size, h.block⟩
theorem grown_drewN {w u : World} {r : Option Nat} (h : w.grownBy u r) (n : Nat) : w.grownBy (u.drewN n) r := ⟨h.os, h.tape, h.output, h.size, h.block⟩
theorem grown_alloc {w u : World} {r : Option Nat} (h : w.grownBy u r) (o : Obj) : w.grownBy (u.alloc o) r :=
  ⟨h.os, h.tape, h.output, by simp; have := h.size; omega, fun k hk hne => (Below.heap_alloc u o k (Nat.lt_of_lt_of_le hk h.size)).trans (h.block k hk hne)⟩
/-- A growth of blocks of the call's own. -/
theorem grown_own {w u v : World} {g base : Nat} {E : TypeId} {sz n : Nat} {x : Value} {xs : List Value} (h : w.grownBy u (some g)) (hO : u.ownsRow base E sz x n xs) (hb : w.heap.size ≤ base) (h2 : u.grownBy v x.ownBlock) : w.grownBy v (some g) :=
  ⟨h2.os.trans h.os, h2.tape.trans h.tape, h2.output.trans h.output, Nat.le_trans h.size h2.size, fun k hk hne => (h2.block k (Nat.lt_of_lt_of_le hk h.size) (fun e => by have := (hO.lt k e.symm).1; omega)).trans (h.block k hk hne)⟩
end Go.Proofs.YtbicmlkjonaccaaDoor.Ln
