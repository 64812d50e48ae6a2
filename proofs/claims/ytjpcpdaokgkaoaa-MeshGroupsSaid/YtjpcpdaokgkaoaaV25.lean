/- Orders of axes: permuting back; Permute for every argument. -/
import Derived.Test.YtjpcpdaokgkaoaaV24
namespace Go.Proofs.Ytjpcpdaokgkaoaa.Sh
open Go.ChangeShapes Go.WideShapes Go.ChangeAt Go.RowKit
set_option linter.unusedVariables false

theorem perm_of : ∀ {l m : List Nat}, l.Nodup → (∀ x ∈ l, x ∈ m) → m.length ≤ l.length → l.Perm m
  | [], m, _, _, h => by
    obtain rfl := List.eq_nil_of_length_eq_zero (by simpa using h : m.length = 0)
    exact List.Perm.nil
  | a :: l, m, hn, hs, h => by
    have ha : a ∈ m := hs a (List.mem_cons_self ..)
    rw [List.nodup_cons] at hn
    have h1 := List.perm_cons_erase ha
    have h2 : l.Perm (m.erase a) := perm_of hn.2 (fun x hx => (List.mem_erase_of_ne (by rintro rfl; exact hn.1 hx)).2 (hs x (List.mem_cons_of_mem _ hx))) (by rw [List.length_erase_of_mem ha]; simp at h; omega)
    exact (h2.cons a).trans h1.symm
theorem sp_perm {l m : List Int} (h : l.Perm m) : sp l = sp m := by
  induction h with
  | nil => rfl
  | cons x _ ih => show sp _ * x = sp _ * x; rw [ih]
  | swap x y l => show sp l * x * y = sp l * y * x; rw [Int.mul_assoc, Int.mul_assoc, Int.mul_comm x y]
  | trans _ _ h1 h2 => exact h1.trans h2
theorem pr_ok : ∀ (ys : List Int) (s : Int), 1 ≤ s → ys.any low = false → s * sp ys ≤ 4096 → pr s ys = some (s * sp ys) := by
  intro ys
  induction ys with
  | nil => intro s _ _ _; unfold pr sp; rw [Int.mul_one]
  | cons z ys ih =>
    intro s h1 h2 h3
    simp only [List.any_cons, Bool.or_eq_false_iff] at h2
    have hz : 1 ≤ z := by have := h2.1; unfold low at this; simp at this; omega
    have hp := sp_pos h2.2
    have h4 : s * sp (z :: ys) = s * z * sp ys := by
      show s * (sp ys * z) = _
      rw [Int.mul_assoc, Int.mul_comm z]
    rw [h4] at h3 ⊢
    have h5 : 1 ≤ s * z := by have := Int.mul_pos (by omega : 0 < s) (by omega : 0 < z); omega
    have h6 := Int.mul_le_mul_of_nonneg_left hp (by omega : 0 ≤ s * z)
    rw [pr_go (by omega)]
    exact ih (s * z) h5 h2.2 h3
/-- A list in another order is valid where the list is. -/
theorem vE_perm {l m : List Int} (h : l.Perm m) (hv : vE m = 0) : vE l = 0 := by
  obtain ⟨h6, hl, _, hS, _⟩ := valid_of hv
  have e : l.any low = false := by
    rw [List.any_eq_false] at hl ⊢
    intro x hx
    exact hl x (h.mem_iff.1 hx)
  have e2 := sp_perm h
  exact vE_some (s := 1 * sp l) (by rw [h.length_eq]; omega) e (pr_ok _ 1 (by decide) e (by omega))
theorem order_perm {n : Nat} {os : List Int} (hl : os.length = n) (h : gd n os n) : (os.map Int.toNat).Perm (List.range n) := by
  refine perm_of ?_ ?_ (by simp [hl])
  · rw [List.nodup_iff_pairwise_ne, List.pairwise_iff_getElem]
    intro i j hi hj hij e
    rw [List.length_map] at hi hj
    rw [List.getElem_map, List.getElem_map] at e
    have h1 := h i (by omega)
    have h2 := h j (by omega)
    have h3 := h2.2.2 i hij
    rw [getD_at hi] at h1 h3
    rw [getD_at hj] at h2 h3
    omega
  · intro x hx
    obtain ⟨i, hi, rfl⟩ := List.getElem_of_mem hx
    rw [List.length_map] at hi
    rw [List.getElem_map, List.mem_range]
    have h1 := h i (by omega)
    rw [getD_at hi] at h1
    omega
theorem onto {n : Nat} {os : List Int} (hl : os.length = n) (h : gd n os n) {y : Nat} (hy : y < n) : ∃ i, i < n ∧ os.getD i 0 = (y : Int) := by
  have h1 := (order_perm hl h).mem_iff.2 (List.mem_range.2 hy)
  obtain ⟨i, hi, e⟩ := List.getElem_of_mem h1
  rw [List.length_map] at hi
  rw [List.getElem_map] at e
  have h2 := h i (by omega)
  rw [getD_at hi] at h2
  exact ⟨i, by omega, by rw [getD_at hi]; omega⟩
theorem pm_perm {zs os : List Int} (hl : os.length = zs.length) (h : gd zs.length os zs.length) : (pm zs os).Perm zs := by
  have h1 := (order_perm hl h).map (fun j => zs.getD j 0)
  rw [List.map_map] at h1
  have e1 : os.map ((fun j => zs.getD j 0) ∘ Int.toNat) = pm zs os := rfl
  have e2 : (List.range zs.length).map (fun j => zs.getD j 0) = zs := by
    refine List.ext_getElem (by simp) fun j h1 h2 => ?_
    rw [List.getElem_map, List.getElem_range, getD_at h2]
  rw [e1, e2] at h1
  exact h1
theorem pm_length (zs os : List Int) : (pm zs os).length = os.length := by simp [pm]
theorem bk_good {n : Nat} {os bk : List Int} (hl : os.length = n) (h : gd n os n) (hb : ∀ i, i < n → bk.getD (os.getD i 0).toNat 0 = (i : Int)) : gd n bk n := by
  intro y hy
  obtain ⟨i, hi, e⟩ := onto hl h hy
  have h1 := hb i hi
  rw [e, Int.toNat_natCast] at h1
  rw [h1]
  refine ⟨by omega, by omega, fun y' hy' => ?_⟩
  obtain ⟨i', hi', e'⟩ := onto hl h (y := y') (by omega)
  have h2 := hb i' hi'
  rw [e', Int.toNat_natCast] at h2
  rw [h2]
  intro e3
  have e4 : i' = i := by omega
  subst e4
  omega
theorem bk_back {zs os bk : List Int} (hl : os.length = zs.length) (hbl : bk.length = zs.length) (h : gd zs.length os zs.length) (hb : ∀ i, i < zs.length → bk.getD (os.getD i 0).toNat 0 = (i : Int)) : pm (pm zs os) bk = zs := by
  refine List.ext_getElem (by rw [pm_length, hbl]) fun y h1 h2 => ?_
  rw [pm_length] at h1
  rw [← getD_at (by rw [pm_length]; exact h1), ← getD_at h2, pm_get h1]
  obtain ⟨i, hi, e⟩ := onto hl h (y := y) (by omega)
  have h3 := hb i hi
  rw [e, Int.toNat_natCast] at h3
  rw [h3, Int.toNat_natCast, pm_get (by omega), e, Int.toNat_natCast]
theorem c27 (p q : Option Addr) (zs os : List Int) (c d : Nat) (w : World) (hn : zs.length ≤ maxLen) (RA : Hid (SlI w p zs)) (RB : Hid (SlI w q os)) :
    Calls Try.prog 27 #[.slice p zs.length c, .slice q os.length d] w (QW (pmL zs os) (pmE zs os) w) := by
  unfold pmL pmE
  by_cases hv : (vE zs != 0) = true
  · rw [if_pos hv, if_pos hv]; exact c27_v p q zs os c d w hn RA hv
  rw [if_neg hv, if_neg hv]
  have hv0 : vE zs = 0 := by simpa using hv
  by_cases hl : os.length = zs.length
  · refine (c27_ok p q zs os c d w RA RB hv0 hl).mono ?_
    rintro e w' (⟨h1, h2⟩ | ⟨h1, h2⟩)
    · rw [if_pos ⟨hl, h1⟩, if_pos ⟨hl, h1⟩]; exact h2
    · rw [if_neg (fun h => h1 h.2), if_neg (fun h => h1 h.2)]; exact h2
  · rw [if_neg (fun h => hl h.1), if_neg (fun h => hl h.1)]
    exact c27_l p q zs os c d w hn RA hv0 hl
theorem c28 (p q : Option Addr) (zs os : List Int) (c d : Nat) (w : World) (hn : zs.length ≤ maxLen) (RA : Hid (SlI w p zs)) (RB : Hid (SlI w q os)) :
    Calls Try.prog 28 #[.slice p zs.length c, .slice q os.length d] w (QW (pmL zs os) (pmE zs os) w) := by
  unfold pmL pmE
  by_cases hv : (vE zs != 0) = true
  · rw [if_pos hv, if_pos hv]; exact c28_v p q zs os c d w hn RA hv
  rw [if_neg hv, if_neg hv]
  have hv0 : vE zs = 0 := by simpa using hv
  by_cases hl : os.length = zs.length
  · refine (c28_ok p q zs os c d w RA RB hv0 hl).mono ?_
    rintro e w' (⟨h1, h2⟩ | ⟨h1, h2⟩)
    · rw [if_pos ⟨hl, h1⟩, if_pos ⟨hl, h1⟩]; exact h2
    · rw [if_neg (fun h => h1 h.2), if_neg (fun h => h1 h.2)]; exact h2
  · rw [if_neg (fun h => hl h.1), if_neg (fun h => hl h.1)]
    exact c28_l p q zs os c d w hn RA hv0 hl
end Go.Proofs.Ytjpcpdaokgkaoaa.Sh
