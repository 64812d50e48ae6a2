/- The place that the definition finds is the one that first fit finds. -/
import Derived.Test.YtghnigmmkenddaaM6
import Derived.Test.YtghnigmmkenddaaR4
namespace Go.Proofs.Ytghnigmmkenddaa.Ar
open Go.ChangeShapes Go.WideShapes Go.ChangeAt Go.RowKit
open Go.Proofs.Ytghnigmmkenddaa.Lv Go.Proofs.Ytghnigmmkenddaa.Nm
set_option linter.unusedVariables false
set_option linter.unusedSimpArgs false

/-- Offsets and slots that belong together. -/
def AL (xs : List Lf) (pre : List Nat) (A : List Int) (L : List St) : Prop := A.length = xs.length ∧ L.length = xs.length ∧ ∀ j, j < xs.length → (j ∈ pre → A.getD j e50 = (L.getD j st0).2.1 ∧ 0 ≤ (L.getD j st0).2.1) ∧ (j ∉ pre → A.getD j e50 = -1)
theorem fre_off {xs : List Lf} {pre : List Nat} {A : List Int} {L : List St} {k : Nat} (H : AL xs pre A L) (G : ∀ j ∈ pre, (L.getD j st0).2.2 = (xs.getD j lf0).2.2.2) (hz : ∀ i, i < xs.length → 1 ≤ (xs.getD i lf0).2.2.2 ∧ (xs.getD i lf0).2.2.2 ≤ 4096) (hk : k < xs.length) (hp : ∀ j ∈ pre, j < xs.length) (x : Int) : Fre xs A k x ↔ ∀ s ∈ prs (srtS (oth xs L pre k)), off (xs.getD k lf0).2.2.2 x s := by
  have key : ∀ j, j ∈ pre → (frB xs A k x j = true ↔ (ov (xs.getD j lf0) (xs.getD k lf0) = true → off (xs.getD k lf0).2.2.2 x ((L.getD j st0).2.1, (L.getD j st0).2.2))) := fun j hj => by
    have hjn := hp j hj
    obtain ⟨h1, h2⟩ := (H.2.2 j hjn).1 hj
    have zk := hz k hk
    have zj := hz j hjn
    have hs := G j hj
    unfold frB clB
    rw [h1, ov_comm (xs.getD k lf0) (xs.getD j lf0)]
    have d0 : decide ((L.getD j st0).2.1 < 0) = false := by rw [decide_eq_false_iff_not]; omega
    have d1 : decide (0 < (xs.getD k lf0).2.2.2) = true := by rw [decide_eq_true_eq]; omega
    have d2 : decide (0 < (xs.getD j lf0).2.2.2) = true := by rw [decide_eq_true_eq]; omega
    rw [d0, d1, d2, hs]
    unfold off
    cases ov (xs.getD j lf0) (xs.getD k lf0) with
    | false => simp
    | true => simp; omega
  constructor
  · intro h s hs
    obtain ⟨t, ht, rfl⟩ := List.mem_map.1 hs
    have ht2 := (srtS_perm _).mem_iff.1 ht
    unfold oth at ht2
    obtain ⟨j, hj, rfl⟩ := List.mem_map.1 ht2
    obtain ⟨hj1, hj2⟩ := List.mem_filter.1 hj
    exact (key j hj1).1 (h j (by rw [H.1]; exact hp j hj1)) hj2
  · intro h j hj
    rw [H.1] at hj
    by_cases hjp : j ∈ pre
    · refine (key j hjp).2 fun ho => ?_
      refine h _ (List.mem_map.2 ⟨L.getD j st0, (srtS_perm _).mem_iff.2 ?_, rfl⟩)
      unfold oth
      exact List.mem_map.2 ⟨j, List.mem_filter.2 ⟨hjp, ho⟩, rfl⟩
    · unfold frB
      rw [(H.2.2 j hj).2 hjp]
      rfl
theorem cnd_mem {xs : List Lf} {A : List Int} : ∀ {t : Nat} {x : Int}, x ∈ cnd xs A (t + 1) ↔ x = 0 ∨ ∃ j, j < t ∧ 0 ≤ A.getD j e50 ∧ x = A.getD j e50 + (xs.getD j lf0).2.2.2
  | 0, x => by
    show x ∈ [0] ↔ _
    rw [List.mem_singleton]
    exact ⟨.inl, fun h => h.elim id fun ⟨j, hj, _⟩ => absurd hj (Nat.not_lt_zero _)⟩
  | t + 1, x => by
    have ih := cnd_mem (xs := xs) (A := A) (t := t) (x := x)
    show x ∈ (if A.getD t e50 < 0 then cnd xs A (t + 1) else cnd xs A (t + 1) ++ [A.getD t e50 + (xs.getD t lf0).2.2.2]) ↔ _
    by_cases h : A.getD t e50 < 0
    · rw [if_pos h, ih]
      constructor
      · rintro (h1 | ⟨j, h1, h2, h3⟩)
        · exact .inl h1
        · exact .inr ⟨j, by omega, h2, h3⟩
      · rintro (h1 | ⟨j, h1, h2, h3⟩)
        · exact .inl h1
        · refine .inr ⟨j, ?_, h2, h3⟩
          rcases Nat.lt_or_eq_of_le (Nat.le_of_lt_succ h1) with h4 | rfl
          · exact h4
          · omega
    · rw [if_neg h, List.mem_append, ih, List.mem_singleton]
      constructor
      · rintro ((h1 | ⟨j, h1, h2, h3⟩) | h1)
        · exact .inl h1
        · exact .inr ⟨j, by omega, h2, h3⟩
        · exact .inr ⟨t, Nat.lt_succ_self _, by omega, h1⟩
      · rintro (h1 | ⟨j, h1, h2, h3⟩)
        · exact .inl (.inl h1)
        · rcases Nat.lt_or_eq_of_le (Nat.le_of_lt_succ h1) with h4 | rfl
          · exact .inl (.inr ⟨j, h4, h2, h3⟩)
          · exact .inr h3
/-- What place finds is what first fit finds. -/
theorem place_eq {xs : List Lf} {pre : List Nat} {A : List Int} {L : List St} {k : Nat} {b : Int} {f : Bool} (H : AL xs pre A L) (G : ∀ j ∈ pre, (L.getD j st0).2.2 = (xs.getD j lf0).2.2.2) (hz : ∀ i, i < xs.length → 1 ≤ (xs.getD i lf0).2.2.2 ∧ (xs.getD i lf0).2.2.2 ≤ 4096) (hk : k < xs.length) (hp : ∀ j ∈ pre, j < xs.length) (hb : BdS 245760 L) (P : PlI xs A k (cnd xs A (xs.length + 1)) b f) : f = true ∧ b = ffo (xs.getD k lf0).2.2.2 (oth xs L pre k) := by
  have hob := oth_bd (xs := xs) (pre := pre) (k := k) hb (by decide)
  have hfb := ffo_bd (z := (xs.getD k lf0).2.2.2) hob (by decide)
  have zk := hz k hk
  have h := ffs_best (size := (xs.getD k lf0).2.2.2) (M := 2147483647) (l := prs (srtS (oth xs L pre k))) (C := cnd xs A (xs.length + 1)) (srtS_sorted _) (fun s hs => by
    obtain ⟨t, ht, rfl⟩ := List.mem_map.1 hs
    have := srtS_bd hob (by decide) t ht
    show 0 ≤ t.2.1 + t.2.2
    omega) (cnd_mem.2 (.inl rfl)) (fun s hs => by
    obtain ⟨t, ht, rfl⟩ := List.mem_map.1 hs
    have ht2 := (srtS_perm _).mem_iff.1 ht
    unfold oth at ht2
    obtain ⟨j, hj, rfl⟩ := List.mem_map.1 ht2
    have hj1 := (List.mem_filter.1 hj).1
    obtain ⟨h1, h2⟩ := (H.2.2 j (hp j hj1)).1 hj1
    refine cnd_mem.2 (.inr ⟨j, hp j hj1, by rw [h1]; exact h2, ?_⟩)
    show (L.getD j st0).2.1 + (L.getD j st0).2.2 = _
    rw [h1, G j hj1]) (fun x hx => by
    rcases cnd_mem.1 hx with h | ⟨j, h1, h2, h3⟩
    · omega
    · have := hz j h1; omega) (found := f) (best := b) (fun hf => ⟨(P.1 hf).1, (P.1 hf).2.1, (fre_off H G hz hk hp b).1 (P.1 hf).2.2⟩) (fun x hx h1 h2 => P.2 x hx h1 ((fre_off H G hz hk hp x).2 h2))
  have h1 : f = true := h.1.2 (by show ffo _ _ ≤ _; omega)
  exact ⟨h1, h.2 h1⟩
theorem AL.next {xs : List Lf} {pre : List Nat} {A : List Int} {L : List St} {k : Nat} {s : St} (H : AL xs pre A L) (hk : k < xs.length) (h0 : 0 ≤ s.2.1) : AL xs (pre ++ [k]) (A.set k s.2.1) (L.set k s) := by
  refine ⟨by rw [List.length_set]; exact H.1, by rw [List.length_set]; exact H.2.1, fun j hj => ?_⟩
  have eA : (A.set k s.2.1).getD j e50 = if j = k then s.2.1 else A.getD j e50 := by
    rw [List.getD_eq_getElem?_getD, List.getD_eq_getElem?_getD, List.getElem?_set]
    by_cases h : k = j
    · subst h; rw [if_pos rfl, if_pos rfl, if_pos (by rw [H.1]; exact hk)]; rfl
    · rw [if_neg h, if_neg (fun e => h e.symm)]
  have eL : (L.set k s).getD j st0 = if j = k then s else L.getD j st0 := by
    rw [st_set]
    by_cases h : j = k
    · rw [if_pos ⟨h, by rw [H.2.1]; exact hk⟩, if_pos h]
    · rw [if_neg (fun e => h e.1), if_neg h]
  rw [eA, eL]
  by_cases h : j = k
  · rw [if_pos h, if_pos h]
    exact ⟨fun _ => ⟨rfl, h0⟩, fun hn => absurd (List.mem_append_right _ (by rw [h]; simp)) hn⟩
  · rw [if_neg h, if_neg h]
    refine ⟨fun hm => (H.2.2 j hj).1 ?_, fun hm => (H.2.2 j hj).2 fun h2 => hm (List.mem_append_left _ h2)⟩
    rcases List.mem_append.1 hm with h2 | h2
    · exact h2
    · rw [List.mem_singleton] at h2; exact absurd h2 h
def neg1 (n : Nat) : List Int := List.replicate n (-1)
theorem AL.start (xs : List Lf) : AL xs [] (neg1 xs.length) (List.replicate xs.length st0) := by
  refine ⟨by simp [neg1], by simp, fun j hj => ⟨fun h => absurd h (by simp), fun _ => ?_⟩⟩
  unfold neg1
  simp [List.getD, hj]
end Go.Proofs.Ytghnigmmkenddaa.Ar
