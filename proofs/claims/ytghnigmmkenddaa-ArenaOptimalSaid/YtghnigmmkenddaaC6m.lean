/- The search through all orders: its memory. -/
import Derived.Test.YtghnigmmkenddaaC2
import Derived.Test.YtghnigmmkenddaaC3
import Derived.Test.YtghnigmmkenddaaAM4
namespace Go.Proofs.Ytghnigmmkenddaa.Ar
open Go.ChangeShapes Go.WideShapes Go.ChangeAt Go.RowKit
open Go.Proofs.Ytghnigmmkenddaa.Lv Go.Proofs.Ytghnigmmkenddaa.Nm
set_option linter.unusedVariables false
set_option linter.unusedSimpArgs false

def kI (ks : List Nat) : List Int := ks.map fun (i : Nat) => (i : Int)
theorem kI_len (ks : List Nat) : (kI ks).length = ks.length := List.length_map ..
theorem kI_get {ks : List Nat} {i : Nat} (h : i < ks.length) : (kI ks).getD i e50 = ((ks.getD i 0 : Nat) : Int) := by
  unfold kI
  rw [List.getD_eq_getElem?_getD, List.getElem?_map, List.getD_eq_getElem?_getD, List.getElem?_eq_getElem h]
  rfl
def swN (ks : List Nat) (i j : Nat) : List Nat := (ks.set i (ks.getD j 0)).set j (ks.getD i 0)
theorem swN_len (ks : List Nat) (i j : Nat) : (swN ks i j).length = ks.length := by simp [swN]
theorem kI_sw {ks : List Nat} {i j : Nat} (hi : i < ks.length) (hj : j < ks.length) : swE (kI ks) i j = kI (swN ks i j) := by
  unfold swE swN
  rw [kI_get hi, kI_get hj]
  unfold kI
  rw [List.map_set, List.map_set]
theorem swN_get {ks : List Nat} {i j : Nat} (hi : i < ks.length) (hj : j < ks.length) (k : Nat) : (swN ks i j).getD k 0 = if k = j then ks.getD i 0 else if k = i then ks.getD j 0 else ks.getD k 0 := by
  unfold swN
  simp only [List.getD_eq_getElem?_getD, List.getElem?_set, List.length_set]
  by_cases h1 : k = j
  · subst h1; simp [hj]
  · rw [if_neg (fun h => h1 h.symm), if_neg h1]
    by_cases h2 : k = i
    · subst h2; simp [hi]
    · rw [if_neg (fun h => h2 h.symm), if_neg h2]
theorem ext_getD {a b : List Nat} (hl : a.length = b.length) (h : ∀ k, k < a.length → a.getD k 0 = b.getD k 0) : a = b := by
  refine List.ext_getElem hl fun k h1 h2 => ?_
  have := h k h1
  rw [List.getD_eq_getElem?_getD, List.getD_eq_getElem?_getD, List.getElem?_eq_getElem h1, List.getElem?_eq_getElem h2] at this
  exact this
theorem swN_back {ks : List Nat} {i j : Nat} (hi : i < ks.length) (hj : j < ks.length) : swN (swN ks i j) i j = ks := by
  refine ext_getD (by rw [swN_len, swN_len]) fun k hk => ?_
  rw [swN_get (by rw [swN_len]; exact hi) (by rw [swN_len]; exact hj), swN_get hi hj, swN_get hi hj, swN_get hi hj]
  by_cases h1 : k = j
  · rw [if_pos h1]
    by_cases h2 : i = j
    · rw [if_pos h2, h1, ← h2]
    · rw [if_neg h2, if_pos rfl, h1]
  · rw [if_neg h1]
    by_cases h2 : k = i
    · rw [if_pos h2, if_pos rfl, h2]
    · rw [if_neg h2, if_neg h1, if_neg h2]
theorem take_drop_get {ks : List Nat} {f : Nat} (h : f < ks.length) : ks.drop f = ks.getD f 0 :: ks.drop (f + 1) := drop_cons0 h
/-- What a swap leaves: the next element, and the rest in some order. -/
theorem swN_parts {ks : List Nat} {f i : Nat} (hf : f ≤ i) (hi : i < ks.length) : (ks.drop f)[i - f]? = some (ks.getD i 0) ∧ (swN ks f i).take (f + 1) = ks.take f ++ [ks.getD i 0] ∧ ((swN ks f i).drop (f + 1)).Perm ((ks.drop f).eraseIdx (i - f)) := by
  have hf2 : f < ks.length := by omega
  have e1 : (ks.drop f)[i - f]? = some (ks.getD i 0) := by
    rw [List.getElem?_drop, show f + (i - f) = i by omega, List.getD_eq_getElem?_getD, List.getElem?_eq_getElem hi]; rfl
  refine ⟨e1, ?_, ?_⟩
  · rw [take_snoc (by rw [swN_len]; exact hf2), swN_get hf2 hi]
    have e2 : (swN ks f i).take f = ks.take f := by
      refine ext_getD (by simp [swN_len]) fun k hk => ?_
      have hk2 : k < f := by simp [swN_len] at hk; omega
      have g : ∀ l : List Nat, (l.take f).getD k 0 = l.getD k 0 := fun l => by rw [List.getD_eq_getElem?_getD, List.getD_eq_getElem?_getD, List.getElem?_take_of_lt hk2]
      rw [g, g, swN_get hf2 hi, if_neg (by omega), if_neg (by omega)]
    rw [e2]
    by_cases h : f = i
    · rw [if_pos h, h]
    · rw [if_neg h, if_pos rfl]
  · have hd := drop_cons0 hf2
    have g2 : ∀ (l : List Nat) (k : Nat), (l.drop (f + 1)).getD k 0 = l.getD (f + 1 + k) 0 := fun l k => by rw [List.getD_eq_getElem?_getD, List.getD_eq_getElem?_getD, List.getElem?_drop]
    by_cases h : f = i
    · subst h
      rw [hd, Nat.sub_self, List.eraseIdx_cons_zero]
      have e : (swN ks f f).drop (f + 1) = ks.drop (f + 1) := by
        refine ext_getD (by simp [swN_len]) fun k hk => ?_
        rw [g2, g2, swN_get hf2 hf2, if_neg (by omega), if_neg (by omega)]
      rw [e]
    · obtain ⟨j, hj⟩ : ∃ j, i - f = j + 1 := ⟨i - f - 1, by omega⟩
      have e : (swN ks f i).drop (f + 1) = (ks.drop (f + 1)).set j (ks.getD f 0) := by
        refine ext_getD (by simp [swN_len]) fun k hk => ?_
        simp only [List.length_drop, swN_len] at hk
        rw [g2, swN_get hf2 hi]
        have e3 : ((ks.drop (f + 1)).set j (ks.getD f 0)).getD k 0 = if k = j then ks.getD f 0 else (ks.drop (f + 1)).getD k 0 := by
          rw [List.getD_eq_getElem?_getD, List.getElem?_set]
          by_cases h5 : j = k
          · rw [if_pos h5, if_pos (by simp; omega), if_pos h5.symm]; rfl
          · rw [if_neg h5, if_neg (fun h => h5 h.symm), List.getD_eq_getElem?_getD]
        rw [e3, g2]
        by_cases h6 : k = j
        · rw [if_pos h6, if_pos (by omega)]
        · rw [if_neg h6, if_neg (by omega), if_neg (by omega)]
      rw [e, hd, hj, List.eraseIdx_cons_succ]
      exact set_perm (by simp; omega)
theorem ffG_ge (xs : List Lf) : ∀ (r pre : List Nat) (L : List St) (s : Int), s ≤ (ffG xs pre r L s).2
  | [], _, _, _ => Int.le_refl _
  | k :: r, pre, L, s => by
    have h := ffG_ge xs r (pre ++ [k]) (L.set k ((xs.getD k lf0).1, ffo (xs.getD k lf0).2.2.2 (oth xs L pre k), (xs.getD k lf0).2.2.2)) (max s (ffo (xs.getD k lf0).2.2.2 (oth xs L pre k) + (xs.getD k lf0).2.2.2))
    unfold ffG
    omega
/-- The size of first fit in an order. -/
def ffz (xs : List Lf) (o : List Nat) : Int := (ffG xs [] o (List.replicate xs.length st0) 0).2
theorem ffz_nonneg (xs : List Lf) (o : List Nat) : 0 ≤ ffz xs o := ffG_ge xs o [] _ 0
section
variable (wz : World) (xs : List Lf) (p : Option Addr) (g ob lb bb tb n c : Nat)
/-- The memory of the search. -/
structure TW (w : World) (ks : List Nat) (b : Int) : Prop where
  row : w.ownsRow wz.heap.size 3 1 (.slice (some ⟨g, 0, none⟩) n n) n (rowE (kI ks))
  bel : Below wz.heap.size wz w
  co : w.cell? ⟨ob, 0, none⟩ = some (.slice (some ⟨g, 0, none⟩) n n)
  cl : w.cell? ⟨lb, 0, none⟩ = some (.slice p n c)
  ct : w.cell? ⟨tb, 0, none⟩ = some (.func (.func 30) #[] #[.pointer (some ⟨ob, 0, none⟩), .pointer (some ⟨lb, 0, none⟩), .pointer (some ⟨bb, 0, none⟩), .pointer (some ⟨tb, 0, none⟩)])
  cb : w.cell? ⟨bb, 0, none⟩ = some (.int .i64 b)
  cf : w.frozen? ⟨bb, 0, none⟩ = false
/-- The blocks lie apart. -/
structure TA : Prop where
  ag : wz.heap.size ≤ g
  ab : wz.heap.size ≤ bb
  og : ob ≠ g
  lg : lb ≠ g
  bg : bb ≠ g
  tg : tb ≠ g
  ao : ob ≠ bb
  al : lb ≠ bb
  at9 : tb ≠ bb
variable {wz xs p g ob lb bb tb n c}
theorem frz {w w' : World} (h : Below w.heap.size w w') {q : Addr} (hq : q.block < w.heap.size) (hf : w.frozen? q = false) : w'.frozen? q = false := (h.frozen hq).trans hf
theorem cl_lt {w : World} {b o : Nat} {v : Value} (h : w.cell? ⟨b, o, none⟩ = some v) : b < w.heap.size := by have := World.block_lt_of_cell? w _ h; simpa using this
theorem TW.below {w w' : World} {ks : List Nat} {b : Int} (h : TW wz p g ob lb bb tb n c w ks b) (hb : Below w.heap.size w w') : TW wz p g ob lb bb tb n c w' ks b :=
  ⟨own_belowE h.row hb, h.bel.trans (hb.mono h.bel.size), kp hb (cl_lt h.co) h.co, kp hb (cl_lt h.cl) h.cl, kp hb (cl_lt h.ct) h.ct, kp hb (cl_lt h.cb) h.cb, frz hb (cl_lt h.cb) h.cf⟩
theorem TW.swap (A : TA wz g ob lb bb tb) {w : World} {ks : List Nat} {b : Int} (h : TW wz p g ob lb bb tb n c w ks b) {i j : Nat} (hl : ks.length = n) (hi : i < n) (hj : j < n) : TW wz p g ob lb bb tb n c ((w.setCell ⟨g, i, none⟩ (.int .i64 (ks.getD j 0 : Nat))).setCell ⟨g, j, none⟩ (.int .i64 (ks.getD i 0 : Nat))) (swN ks i j) b := by
  have h1 := swq_world (x := ((ks.getD i 0 : Nat) : Int)) (y := ((ks.getD j 0 : Nat) : Int)) (p := i) (q := j) (.inl A.ag) h.row (by rw [kI_len, hl]) (by rw [kI_len, hl]; exact hi) (by rw [kI_len, hl]; exact hj) (kI_get (by rw [hl]; exact hi)) (kI_get (by rw [hl]; exact hj))
  rw [kI_sw (by rw [hl]; exact hi) (by rw [hl]; exact hj)] at h1
  have k : ∀ {x : Nat} {v : Value}, x ≠ g → w.cell? ⟨x, 0, none⟩ = some v → ((w.setCell ⟨g, i, none⟩ (.int .i64 (ks.getD j 0 : Nat))).setCell ⟨g, j, none⟩ (.int .i64 (ks.getD i 0 : Nat))).cell? ⟨x, 0, none⟩ = some v := fun hx hc => KG.cell h1.2.1 hx hc
  refine ⟨h1.1, h.bel.trans h1.2.2, k A.og h.co, k A.lg h.cl, k A.tg h.ct, k A.bg h.cb, ?_⟩
  have hf := h.cf
  simpa [World.frozen?_setCell] using hf
theorem TW.best (A : TA wz g ob lb bb tb) {w : World} {ks : List Nat} {b b' : Int} (h : TW wz p g ob lb bb tb n c w ks b) : TW wz p g ob lb bb tb n c (w.setCell ⟨bb, 0, none⟩ (.int .i64 b')) ks b' := by
  have k : ∀ {x : Nat} {v : Value}, x ≠ bb → w.cell? ⟨x, 0, none⟩ = some v → (w.setCell ⟨bb, 0, none⟩ (.int .i64 b')).cell? ⟨x, 0, none⟩ = some v := fun hx hc => by rw [World.cell?_setCell_far _ _ _ _ (fun e => hx e.symm)]; exact hc
  refine ⟨?_, h.bel.setCell (p := ⟨bb, 0, none⟩) A.ab _, k A.ao h.co, k A.al h.cl, k A.at9 h.ct, World.cell?_setCell_same _ _ _ h.cb, ?_⟩
  · refine h.row.kept (w' := w.setCell ⟨bb, 0, none⟩ (.int .i64 b')) (row := some bb) ⟨rfl, rfl, rfl, by simp, fun k hk hn => ?_⟩ (.inr (by intro e; simp [Value.ownBlock] at e; exact A.bg e.symm))
    exact Below.heap_setCell _ _ _ _ (fun e => by dsimp only at e; exact hn (by rw [e]))
  · have hf := h.cf
    simpa [World.frozen?_setCell] using hf
end
end Go.Proofs.Ytghnigmmkenddaa.Ar
