/- The placement of Plan passes all checks. -/
import Derived.Test.YtghnigmmkenddaaC4m
import Derived.Test.YtghnigmmkenddaaC5m
namespace Go.Proofs.Ytghnigmmkenddaa.Ar
open Go.ChangeShapes Go.WideShapes Go.ChangeAt Go.RowKit
open Go.Proofs.Ytghnigmmkenddaa.Lv Go.Proofs.Ytghnigmmkenddaa.Nm
set_option linter.unusedVariables false
set_option linter.unusedSimpArgs false

theorem srtS_perm (T : List St) : (srtS T).Perm T := by
  have h := (ordL_facts (fun i => (T.getD i.toNat st0).2.1) T.length).1.map fun i => T.getD i.toNat st0
  have e : (idn T.length).map (fun i => T.getD i.toNat st0) = T := by
    refine List.ext_getElem (by simp [idn]) fun i h1 h2 => ?_
    simp only [idn, List.getElem_map, List.getElem_range]
    rw [List.getD_eq_getElem?_getD, List.getElem?_eq_getElem (by simpa using h2)]
    simp
  rw [e] at h
  exact h
theorem srtS_sorted (T : List St) : (prs (srtS T)).Pairwise fun s t => s.1 ≤ t.1 := by
  unfold prs
  rw [List.pairwise_map, List.pairwise_iff_getElem]
  intro i j hi hj hij
  rw [srtS_len] at hi hj
  obtain ⟨a, ha, ea, sa⟩ := srtS_get hi
  obtain ⟨b, hb, eb, sb⟩ := srtS_get hj
  have h := (ordL_facts (fun i => (T.getD i.toNat st0).2.1) T.length).2 i j (Nat.zero_le _) hij hj
  rw [ea, eb, cfk_neg] at h
  have e1 : ∀ t (ht : t < (srtS T).length), (srtS T).getD t st0 = (srtS T)[t] := fun t ht => by unfold List.getD; rw [List.getElem?_eq_getElem ht]; rfl
  rw [e1 i (by rw [srtS_len]; exact hi)] at sa
  rw [e1 j (by rw [srtS_len]; exact hj)] at sb
  rw [sa, sb]
  simp only [Int.toNat_natCast] at h
  omega
/-- The offset that first fit finds is free of all slots. -/
theorem ffo_free {z : Int} {T : List St} {s : St} (hs : s ∈ T) : off z (ffo z T) (s.2.1, s.2.2) :=
  ffs_free z (prs (srtS T)) 0 (srtS_sorted T) _ (List.mem_map.2 ⟨s, (srtS_perm T).mem_iff.2 hs, rfl⟩)
theorem st_set {L : List St} {k j : Nat} {s : St} : (L.set k s).getD j st0 = if j = k ∧ k < L.length then s else L.getD j st0 := by
  rw [List.getD_eq_getElem?_getD, List.getD_eq_getElem?_getD, List.getElem?_set]
  by_cases h : k = j
  · subst h
    by_cases h2 : k < L.length
    · rw [if_pos rfl, if_pos h2, if_pos ⟨rfl, h2⟩]; rfl
    · rw [if_pos rfl, if_neg h2, if_neg (fun h => h2 h.2), List.getElem?_eq_none (by omega)]
  · rw [if_neg h, if_neg (fun h3 => h h3.1.symm)]
/-- What first fit has placed. -/
structure GI (xs : List Lf) (pre : List Nat) (L : List St) (s : Int) : Prop where
  nm : ∀ j ∈ pre, (L.getD j st0).1 = (xs.getD j lf0).1 ∧ (L.getD j st0).2.2 = (xs.getD j lf0).2.2.2
  at0 : ∀ j ∈ pre, 0 ≤ (L.getD j st0).2.1 ∧ (L.getD j st0).2.1 + (L.getD j st0).2.2 ≤ s
  dis : ∀ j ∈ pre, ∀ k ∈ pre, j ≠ k → ov (xs.getD j lf0) (xs.getD k lf0) = true → ¬ ((L.getD j st0).2.1 < (L.getD k st0).2.1 + (L.getD k st0).2.2 ∧ (L.getD k st0).2.1 < (L.getD j st0).2.1 + (L.getD j st0).2.2)
theorem ov_comm (a b : Lf) : ov a b = ov b a := by unfold ov; rw [Bool.and_comm]
theorem ffG_GI (xs : List Lf) : ∀ (r pre : List Nat) (L : List St) (s M : Int), (pre ++ r).Nodup → (∀ k ∈ r, k < L.length) → BdS M L → 0 ≤ M → GI xs pre L s → (∀ k ∈ r, 1 ≤ (xs.getD k lf0).2.2.2 ∧ (xs.getD k lf0).2.2.2 ≤ 4096) → GI xs (pre ++ r) (ffG xs pre r L s).1 (ffG xs pre r L s).2
  | [], pre, L, s, M, _, _, _, _, H, _ => by rw [List.append_nil]; exact H
  | k :: r, pre, L, s, M, hnd, hlt, hb, m0, H, hz => by
    have hk := hlt k List.mem_cons_self
    have hz' := hz k List.mem_cons_self
    have hkp : k ∉ pre := by
      have h := (List.nodup_append.1 hnd).2.2
      exact fun h2 => h k h2 k List.mem_cons_self rfl
    have hfb := ffo_bd (z := (xs.getD k lf0).2.2.2) (oth_bd (xs := xs) (pre := pre) (k := k) hb m0) m0
    obtain ⟨a, ha⟩ : ∃ a, ffo (xs.getD k lf0).2.2.2 (oth xs L pre k) = a := ⟨_, rfl⟩
    have hfr : ∀ j ∈ pre, ov (xs.getD j lf0) (xs.getD k lf0) = true → ¬ (a < (L.getD j st0).2.1 + (L.getD j st0).2.2 ∧ (L.getD j st0).2.1 < a + (xs.getD k lf0).2.2.2) := fun j hj ho => by
      have h := ffo_free (z := (xs.getD k lf0).2.2.2) (T := oth xs L pre k) (s := L.getD j st0) (by unfold oth; exact List.mem_map.2 ⟨j, List.mem_filter.2 ⟨hj, ho⟩, rfl⟩)
      rw [ha] at h
      exact h
    rw [ha] at hfb
    have ih := ffG_GI xs r (pre ++ [k]) (L.set k ((xs.getD k lf0).1, a, (xs.getD k lf0).2.2.2)) (max s (a + (xs.getD k lf0).2.2.2)) (M + 4096) (by rw [List.append_assoc]; exact hnd) (fun j hj => by rw [List.length_set]; exact hlt j (List.mem_cons_of_mem _ hj)) (hb.set ⟨hfb.1, by show 0 ≤ (xs.getD k lf0).2.2.2; omega, hz'.2, by show a + (xs.getD k lf0).2.2.2 ≤ _; omega⟩) (by omega) ?_ (fun j hj => hz j (List.mem_cons_of_mem _ hj))
    · unfold ffG
      rw [ha]
      rw [List.append_assoc] at ih
      exact ih
    · have hg : ∀ j, (L.set k ((xs.getD k lf0).1, a, (xs.getD k lf0).2.2.2)).getD j st0 = if j = k then ((xs.getD k lf0).1, a, (xs.getD k lf0).2.2.2) else L.getD j st0 := fun j => by
        rw [st_set]
        by_cases h : j = k
        · rw [if_pos ⟨h, hk⟩, if_pos h]
        · rw [if_neg (fun h2 => h h2.1), if_neg h]
      have hne : ∀ j ∈ pre, j ≠ k := fun j hj e => hkp (e ▸ hj)
      refine ⟨fun j hj => ?_, fun j hj => ?_, fun j hj l hl hjl ho => ?_⟩
      · rw [hg]
        rcases List.mem_append.1 hj with h | h
        · rw [if_neg (hne j h)]; exact H.nm j h
        · rw [List.mem_singleton] at h; rw [if_pos h, h]; exact ⟨rfl, rfl⟩
      · rw [hg]
        rcases List.mem_append.1 hj with h | h
        · rw [if_neg (hne j h)]; have := H.at0 j h; omega
        · rw [List.mem_singleton] at h; rw [if_pos h]; exact ⟨hfb.1, by show a + (xs.getD k lf0).2.2.2 ≤ _; omega⟩
      · rw [hg, hg]
        rcases List.mem_append.1 hj with h | h
        · rw [if_neg (hne j h)]
          rcases List.mem_append.1 hl with h2 | h2
          · rw [if_neg (hne l h2)]; exact H.dis j h l h2 hjl ho
          · rw [List.mem_singleton] at h2
            subst h2
            rw [if_pos rfl]
            have := hfr j h ho
            show ¬ ((L.getD j st0).2.1 < a + (xs.getD l lf0).2.2.2 ∧ a < (L.getD j st0).2.1 + (L.getD j st0).2.2)
            omega
        · rw [List.mem_singleton] at h
          subst h
          rw [if_pos rfl]
          rcases List.mem_append.1 hl with h2 | h2
          · rw [if_neg (hne l h2)]
            have := hfr l h2 (by rw [ov_comm]; exact ho)
            show ¬ (a < (L.getD l st0).2.1 + (L.getD l st0).2.2 ∧ (L.getD l st0).2.1 < a + (xs.getD j lf0).2.2.2)
            exact this
          · rw [List.mem_singleton] at h2; exact absurd h2.symm hjl
theorem ckG_zero {xs : List Lf} {ss : List St} {size : Int} : ∀ (r i : Nat), (∀ j, i ≤ j → j < i + r → ck1 xs ss size j = 0) → ckG xs ss size r i = (0, 0)
  | 0, _, _ => rfl
  | r + 1, i, h => by rw [ckG_next (h i (Nat.le_refl _) (by omega))]; exact ckG_zero r (i + 1) fun j h1 h2 => h j (by omega) (by omega)
theorem GI0 (xs : List Lf) (L : List St) : GI xs [] L 0 := ⟨fun _ h => absurd h (by simp), fun _ h => absurd h (by simp), fun _ h => absurd h (by simp)⟩
/-- Disjoint ranges below a limit. -/
theorem disj_sum {sz at9 : Nat → Int} : ∀ (m : Nat) (l : List Nat) (M : Int), l.length = m → l.Nodup → 0 ≤ M → (∀ j ∈ l, 1 ≤ sz j ∧ 0 ≤ at9 j ∧ at9 j + sz j ≤ M) → (∀ j ∈ l, ∀ k ∈ l, j ≠ k → ¬ (at9 j < at9 k + sz k ∧ at9 k < at9 j + sz j)) → sm sz l ≤ M
  | 0, l, M, hl, _, m0, _, _ => by rw [List.length_eq_zero_iff.1 hl]; exact m0
  | m + 1, l, M, hl, hnd, m0, hb, hd => by
    have hmx : ∀ l : List Nat, l ≠ [] → ∃ x ∈ l, ∀ j ∈ l, at9 j ≤ at9 x := by
      intro l
      induction l with
      | nil => intro h; exact absurd rfl h
      | cons y r ih =>
        intro _
        by_cases hr : r = []
        · subst hr; exact ⟨y, List.mem_cons_self, fun j hj => by rw [List.mem_singleton] at hj; rw [hj]; exact Int.le_refl _⟩
        · obtain ⟨x, hx, h⟩ := ih hr
          by_cases hxy : at9 x ≤ at9 y
          · refine ⟨y, List.mem_cons_self, fun j hj => ?_⟩
            rcases List.mem_cons.1 hj with rfl | hj
            · exact Int.le_refl _
            · have := h j hj; omega
          · refine ⟨x, List.mem_cons_of_mem _ hx, fun j hj => ?_⟩
            rcases List.mem_cons.1 hj with rfl | hj
            · omega
            · exact h j hj
    obtain ⟨x, hx, hmax⟩ := hmx l (by intro e; rw [e] at hl; cases hl)
    have hp := List.perm_cons_erase hx
    have hxb := hb x hx
    have hnd2 := (hp.nodup_iff).1 hnd
    have hmem : ∀ j ∈ l.erase x, j ∈ l ∧ j ≠ x := fun j hj => ⟨List.mem_of_mem_erase hj, fun e => (List.nodup_cons.1 hnd2).1 (e ▸ hj)⟩
    have ih := disj_sum m (l.erase x) (at9 x) (by rw [List.length_erase_of_mem hx, hl]; rfl) (List.nodup_cons.1 hnd2).2 hxb.2.1 (fun j hj => by
      obtain ⟨h1, h2⟩ := hmem j hj
      have h3 := hb j h1
      have h4 := hd j h1 x hx h2
      have h5 := hmax j h1
      omega) (fun j hj k hk => hd j (hmem j hj).1 k (hmem k hk).1)
    rw [sm_perm sz hp]
    show sz x + sm sz (l.erase x) ≤ M
    omega
/-- The placement of Plan passes all checks, and LowerBound does not exceed its size. -/
theorem plan_ok {xs : List Lf} (hv : vE xs = 0) : ckF xs (plF xs).1 (plF xs).2.1 = (0, 0) ∧ lbF xs ≤ (plF xs).2.1 ∧ (plF xs).1.length = xs.length := by
  have hz : ∀ i, i < xs.length → 1 ≤ (xs.getD i lf0).2.2.2 ∧ (xs.getD i lf0).2.2.2 ≤ 4096 := fun i hi => by have := valid_at hv hi; omega
  have hpm := kxx_perm (fun i => -(xs.getD i.toNat lf0).2.2.2) xs.length
  rw [← ksz_eq] at hpm
  have hin : ∀ i, i < xs.length → i ∈ ksz xs := fun i hi => hpm.mem_iff.2 (List.mem_range.2 hi)
  have hlt : ∀ k ∈ ksz xs, k < xs.length := fun k hk => List.mem_range.1 (hpm.mem_iff.1 hk)
  have G := ffG_GI xs (ksz xs) [] (List.replicate xs.length st0) 0 0 (by rw [List.nil_append]; exact hpm.nodup_iff.2 List.nodup_range) (fun k hk => by rw [List.length_replicate]; exact hlt k hk) (rep_bd _) (Int.le_refl _) (GI0 _ _) (fun k hk => hz k (hlt k hk))
  have FB := ffG_bd xs hz (ksz xs) [] (List.replicate xs.length st0) 0 0 hlt (rep_bd _) (Int.le_refl _) (Int.le_refl _) (Int.le_refl _)
  have hP : plF xs = ((ffG xs [] (ksz xs) (List.replicate xs.length st0) 0).1, (ffG xs [] (ksz xs) (List.replicate xs.length st0) 0).2, 0) := by unfold plF; rw [if_pos hv]
  rw [hP]
  obtain ⟨L, hL⟩ : ∃ L, (ffG xs [] (ksz xs) (List.replicate xs.length st0) 0).1 = L := ⟨_, rfl⟩
  obtain ⟨s, hs⟩ : ∃ s, (ffG xs [] (ksz xs) (List.replicate xs.length st0) 0).2 = s := ⟨_, rfl⟩
  rw [List.nil_append, hL, hs] at G
  have hl : L.length = xs.length := by rw [← hL, FB.2.2.1, List.length_replicate]
  have s0 : 0 ≤ s := by rw [← hs]; exact FB.1
  show ckF xs (ffG xs [] (ksz xs) (List.replicate xs.length st0) 0).1 (ffG xs [] (ksz xs) (List.replicate xs.length st0) 0).2 = (0, 0) ∧ lbF xs ≤ (ffG xs [] (ksz xs) (List.replicate xs.length st0) 0).2 ∧ (ffG xs [] (ksz xs) (List.replicate xs.length st0) 0).1.length = xs.length
  rw [hL, hs]
  refine ⟨?_, ?_, hl⟩
  · unfold ckF
    rw [if_pos hv, if_pos hl.symm]
    refine ckG_zero _ _ fun i _ hi => ?_
    have hi2 : i < xs.length := by omega
    have h1 := G.nm i (hin i hi2)
    have h2 := G.at0 i (hin i hi2)
    have h3 := hz i hi2
    refine ck1_e (by rw [h1.1]; simp) (by rw [h1.2]; simp) (by rw [h1.2] at h2 ⊢; omega) fun k hk => ?_
    unfold ckp
    cases ho : ov (xs.getD i lf0) (xs.getD k lf0) with
    | false => rfl
    | true =>
      have h4 := G.dis i (hin i hi2) k (hin k (by omega)) (by omega) ho
      rw [Bool.true_and]
      by_cases h5 : (L.getD i st0).2.1 < (L.getD k st0).2.1 + (L.getD k st0).2.2
      · rw [decide_eq_true h5, Bool.true_and, decide_eq_false (fun h6 => h4 ⟨h5, h6⟩)]
      · rw [decide_eq_false h5]; rfl
  · unfold lbF
    rw [if_pos hv]
    have hSs : ∀ i, i < xs.length → Ss (frF xs) (toF xs) (szF xs) (List.range xs.length) i ≤ s := fun i hi => by
      unfold Ss
      refine disj_sum (at9 := fun j => (L.getD j st0).2.1) _ _ s rfl (List.Pairwise.filter _ List.nodup_range) s0 (fun j hj => ?_) (fun j hj k hk hjk => ?_)
      · have hj2 := List.mem_range.1 (List.mem_filter.1 hj).1
        have h1 := G.nm j (hin j hj2)
        have h2 := G.at0 j (hin j hj2)
        have h3 := hz j hj2
        rw [h1.2] at h2
        exact ⟨h3.1, h2⟩
      · obtain ⟨hj1, hj2⟩ := List.mem_filter.1 hj
        obtain ⟨hk1, hk2⟩ := List.mem_filter.1 hk
        have hj1 := List.mem_range.1 hj1
        have hk1 := List.mem_range.1 hk1
        unfold at' at hj2 hk2
        rw [Bool.and_eq_true, decide_eq_true_eq, decide_eq_true_eq] at hj2 hk2
        have ho : ov (xs.getD j lf0) (xs.getD k lf0) = true := by
          unfold ov
          have e1 : (xs.getD j lf0).2.1 ≤ (xs.getD k lf0).2.2.1 := Int.le_trans hj2.1 hk2.2
          have e2 : (xs.getD k lf0).2.1 ≤ (xs.getD j lf0).2.2.1 := Int.le_trans hk2.1 hj2.2
          rw [decide_eq_true e1, decide_eq_true e2]; rfl
        have h4 := G.dis j (hin j hj1) k (hin k hk1) hjk ho
        rw [(G.nm j (hin j hj1)).2, (G.nm k (hin k hk1)).2] at h4
        exact h4
    rcases mxl_mem ((List.range xs.length).map fun i => Ss (frF xs) (toF xs) (szF xs) (List.range xs.length) i) with h | h
    · rw [h]; exact s0
    · obtain ⟨i, hi, e⟩ := List.mem_map.1 h
      rw [← e]
      exact hSs i (List.mem_range.1 hi)
end Go.Proofs.Ytghnigmmkenddaa.Ar
