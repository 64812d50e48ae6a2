/- Lifetimes: how many contain a number, by counting and by sorting. -/
import Derived.WalkKit
import Derived.ProofKit
import Derived.OpenShut
namespace Go.Proofs.Ytghnigmmkenddaa.Lv
open Go.ChangeShapes Go.WideShapes Go.ChangeAt Go.RowKit
set_option linter.unusedVariables false
set_option linter.unusedSimpArgs false
/-- A lifetime: its name, its first and its last number, its size. -/
abbrev Lf := ByteArray × Int × Int × Int
def inn (f : Int) (k : Lf) : Bool := decide (k.2.1 ≤ f) && decide (f ≤ k.2.2.1)
def cnt (xs : List Lf) (f : Int) : Nat := xs.countP (inn f)
def mlx (xs ys : List Lf) : Int := ys.foldl (fun m y => max m ((cnt xs y.2.1 : Nat) : Int)) 0
def ml (xs : List Lf) : Int := mlx xs xs
def vd (x : Lf) : Bool := decide (x.2.1 ≤ x.2.2.1)
def sts (xs : List Lf) : List Int := (xs.filter vd).map fun x => x.2.1
def eds (xs : List Lf) : List Int := (xs.filter vd).map fun x => x.2.2.1
def srt (l : List Int) : List Int := l.mergeSort fun x y => decide (x ≤ y)
def lec (l : List Int) (f : Int) : Nat := l.countP fun x => decide (x ≤ f)
def ltc (l : List Int) (f : Int) : Nat := l.countP fun x => decide (x < f)
theorem srt_perm (l : List Int) : (srt l).Perm l := List.mergeSort_perm l _
theorem srt_len (l : List Int) : (srt l).length = l.length := (srt_perm l).length_eq
theorem srt_sorted (l : List Int) : (srt l).Pairwise (fun x y => x ≤ y) := by
  have h := List.pairwise_mergeSort (le := fun x y : Int => decide (x ≤ y)) (by intro a b c; simp; omega) (by intro a b; simp; omega) l
  exact h.imp (by intro a b h; simpa using h)
theorem lec_srt (l : List Int) (f : Int) : lec (srt l) f = lec l f := (srt_perm l).countP_eq _
theorem ltc_srt (l : List Int) (f : Int) : ltc (srt l) f = ltc l f := (srt_perm l).countP_eq _
/-- In a sorted list just the first elements are less. -/
theorem lt_iff : ∀ {l : List Int}, l.Pairwise (fun x y => x ≤ y) → ∀ (f : Int) (j : Nat), j < l.length → (l.getD j 0 < f ↔ j < ltc l f)
  | x :: l, hs, f, j, hj => by
    obtain ⟨h1, h2⟩ := List.pairwise_cons.1 hs
    by_cases hx : x < f
    · have e : ltc (x :: l) f = ltc l f + 1 := List.countP_cons_of_pos (by simpa using hx)
      rw [e]
      cases j with
      | zero => simpa using hx
      | succ j =>
        have ih := lt_iff h2 f j (by simpa using hj)
        show l.getD j 0 < f ↔ _
        rw [ih]; omega
    · have e : ltc (x :: l) f = 0 := by
        unfold ltc
        rw [List.countP_eq_zero]
        intro y hy
        rcases List.mem_cons.1 hy with rfl | hy
        · simpa using hx
        · have := h1 y hy; simp; omega
      rw [e]
      constructor
      · intro h
        exfalso
        cases j with
        | zero => exact hx h
        | succ j =>
          have hj2 : j < l.length := by simpa using hj
          have := h1 (l[j]) (List.getElem_mem hj2)
          have e2 : (x :: l).getD (j + 1) 0 = l[j] := by simp [List.getD, List.getElem?_eq_getElem hj2]
          rw [e2] at h; omega
      · omega
theorem le_iff {l : List Int} (hs : l.Pairwise (fun x y => x ≤ y)) (f : Int) (j : Nat) (hj : j < l.length) : l.getD j 0 ≤ f ↔ j < lec l f := by
  have h := lt_iff hs (f + 1) j hj
  have e : ltc l (f + 1) = lec l f := by
    unfold ltc lec
    apply List.countP_congr
    intro x _
    simp; omega
  rw [e] at h
  rw [← h]; omega
theorem cnt_eq (xs : List Lf) (f : Int) : cnt xs f + ltc (eds xs) f = lec (sts xs) f := by
  induction xs with
  | nil => rfl
  | cons x xs ih =>
    have c1 : cnt (x :: xs) f = cnt xs f + if inn f x = true then 1 else 0 := List.countP_cons
    by_cases hv : x.2.1 ≤ x.2.2.1
    · have e1 : eds (x :: xs) = x.2.2.1 :: eds xs := by unfold eds; rw [List.filter_cons_of_pos (by unfold vd; simpa using hv)]; rfl
      have e2 : sts (x :: xs) = x.2.1 :: sts xs := by unfold sts; rw [List.filter_cons_of_pos (by unfold vd; simpa using hv)]; rfl
      have c2 : ltc (eds (x :: xs)) f = ltc (eds xs) f + if decide (x.2.2.1 < f) = true then 1 else 0 := by rw [e1]; exact List.countP_cons
      have c3 : lec (sts (x :: xs)) f = lec (sts xs) f + if decide (x.2.1 ≤ f) = true then 1 else 0 := by rw [e2]; exact List.countP_cons
      rw [c1, c2, c3]
      unfold inn
      by_cases h1 : x.2.1 ≤ f <;> by_cases h2 : f ≤ x.2.2.1 <;> by_cases h3 : x.2.2.1 < f <;> simp [h1, h2, h3] <;> omega
    · have e1 : eds (x :: xs) = eds xs := by unfold eds; rw [List.filter_cons_of_neg (by unfold vd; simpa using hv)]
      have e2 : sts (x :: xs) = sts xs := by unfold sts; rw [List.filter_cons_of_neg (by unfold vd; simpa using hv)]
      have e3 : inn f x = false := by unfold inn; by_cases h1 : x.2.1 ≤ f <;> by_cases h2 : f ≤ x.2.2.1 <;> simp [h1, h2] <;> omega
      rw [c1, e1, e2, e3]; simpa using ih
theorem mlx_ge (xs : List Lf) : ∀ (ys : List Lf) (m : Int), m ≤ ys.foldl (fun m y => max m ((cnt xs y.2.1 : Nat) : Int)) m ∧ ∀ y ∈ ys, ((cnt xs y.2.1 : Nat) : Int) ≤ ys.foldl (fun m y => max m ((cnt xs y.2.1 : Nat) : Int)) m
  | [], m => ⟨Int.le_refl _, fun y hy => by cases hy⟩
  | y :: ys, m => by
    obtain ⟨h1, h2⟩ := mlx_ge xs ys (max m ((cnt xs y.2.1 : Nat) : Int))
    refine ⟨Int.le_trans (Int.le_max_left _ _) h1, fun z hz => ?_⟩
    rcases List.mem_cons.1 hz with rfl | hz
    · exact Int.le_trans (Int.le_max_right _ _) h1
    · exact h2 z hz
theorem mlx_le (xs : List Lf) (B : Int) : ∀ (ys : List Lf) (m : Int), m ≤ B → (∀ y ∈ ys, ((cnt xs y.2.1 : Nat) : Int) ≤ B) → ys.foldl (fun m y => max m ((cnt xs y.2.1 : Nat) : Int)) m ≤ B
  | [], m, h, _ => h
  | y :: ys, m, h, h2 => mlx_le xs B ys _ (Int.max_le.2 ⟨h, h2 y List.mem_cons_self⟩) (fun z hz => h2 z (List.mem_cons_of_mem _ hz))
theorem ml_ge {xs : List Lf} {y : Lf} (h : y ∈ xs) : ((cnt xs y.2.1 : Nat) : Int) ≤ ml xs := (mlx_ge xs xs 0).2 y h
theorem ml_nonneg (xs : List Lf) : 0 ≤ ml xs := (mlx_ge xs xs 0).1
theorem ml_le {xs : List Lf} {B : Int} (h0 : 0 ≤ B) (h : ∀ y ∈ xs, ((cnt xs y.2.1 : Nat) : Int) ≤ B) : ml xs ≤ B := mlx_le xs B xs 0 h0 h
theorem mlx_step {xs : List Lf} {k : Nat} (h : k < xs.length) (ys : List Lf) : mlx ys (xs.take (k + 1)) = max (mlx ys (xs.take k)) ((cnt ys xs[k].2.1 : Nat) : Int) := by
  unfold mlx
  rw [List.take_succ_eq_append_getElem h, List.foldl_append]
  rfl
/-- What the sweep finds in its first rounds. -/
def mo (S E : List Int) : Nat → Int
  | 0 => 0
  | i + 1 => max (mo S E i) (((i : Int) + 1) - (ltc E (S.getD i 0) : Int))
theorem mo_le {S E : List Int} {B : Int} (h0 : 0 ≤ B) : ∀ m : Nat, (∀ i : Nat, i < m → ((i : Int) + 1) - (ltc E (S.getD i 0) : Int) ≤ B) → mo S E m ≤ B
  | 0, _ => h0
  | m + 1, h => by
    have := mo_le h0 m (fun i hi => h i (by omega))
    have := h m (by omega)
    show max _ _ ≤ B
    omega
theorem mo_ge {S E : List Int} : ∀ m : Nat, 0 ≤ mo S E m ∧ ∀ i : Nat, i < m → ((i : Int) + 1) - (ltc E (S.getD i 0) : Int) ≤ mo S E m
  | 0 => ⟨Int.le_refl _, fun i hi => by omega⟩
  | m + 1 => by
    obtain ⟨h1, h2⟩ := mo_ge (S := S) (E := E) m
    refine ⟨by show 0 ≤ max _ _; omega, fun i hi => ?_⟩
    show _ ≤ max _ _
    rcases (by omega : i < m ∨ i = m) with h | rfl
    · have := h2 i h; omega
    · omega
theorem ltc_mono {l : List Int} {f g : Int} (h : f ≤ g) : ltc l f ≤ ltc l g := List.countP_mono_left (fun x _ hx => by simp at hx ⊢; omega)
theorem sts_len (xs : List Lf) : (eds xs).length = (sts xs).length := by simp [sts, eds]
theorem sweep (xs : List Lf) : mo (srt (sts xs)) (srt (eds xs)) (sts xs).length = ml xs := by
  have hS := srt_sorted (sts xs)
  apply Int.le_antisymm
  · apply mo_le (ml_nonneg xs)
    intro i hi
    have hi' : i < (srt (sts xs)).length := by rw [srt_len]; exact hi
    have h1 := (le_iff hS ((srt (sts xs)).getD i 0) i hi').1 (Int.le_refl _)
    have hm : (srt (sts xs)).getD i 0 ∈ sts xs := by
      rw [← (srt_perm (sts xs)).mem_iff, List.getD, List.getElem?_eq_getElem hi']
      exact List.getElem_mem hi'
    generalize (srt (sts xs)).getD i 0 = f at h1 hm
    unfold sts at hm
    obtain ⟨y, hy, rfl⟩ := List.mem_map.1 hm
    have h2 := cnt_eq xs y.2.1
    have h3 := ml_ge (xs := xs) (List.mem_filter.1 hy).1
    rw [lec_srt] at h1
    rw [ltc_srt]
    omega
  · apply ml_le (mo_ge _).1
    intro y hy
    have h2 := cnt_eq xs y.2.1
    by_cases h0 : cnt xs y.2.1 = 0
    · rw [h0]; exact (mo_ge _).1
    · have hle : lec (sts xs) y.2.1 ≤ (sts xs).length := List.countP_le_length
      obtain ⟨i, hi⟩ : ∃ i, lec (sts xs) y.2.1 = i + 1 := ⟨lec (sts xs) y.2.1 - 1, by omega⟩
      have hi' : i < (srt (sts xs)).length := by rw [srt_len]; omega
      have h3 := (le_iff hS y.2.1 i hi').2 (by rw [lec_srt]; omega)
      have h4 := ltc_mono (l := srt (eds xs)) h3
      have h5 := (mo_ge (S := srt (sts xs)) (E := srt (eds xs)) (sts xs).length).2 i (by omega)
      rw [ltc_srt (eds xs) y.2.1] at h4
      omega
/-- An end that is not less: the sweep stays in its list. -/
theorem over_lt (xs : List Lf) {i : Nat} (hi : i < (sts xs).length) : ltc (srt (eds xs)) ((srt (sts xs)).getD i 0) < (sts xs).length := by
  have hi' : i < (srt (sts xs)).length := by rw [srt_len]; exact hi
  have hm : (srt (sts xs)).getD i 0 ∈ sts xs := by
    rw [← (srt_perm (sts xs)).mem_iff, List.getD, List.getElem?_eq_getElem hi']
    exact List.getElem_mem hi'
  generalize (srt (sts xs)).getD i 0 = f at hm
  rw [ltc_srt, ← sts_len]
  unfold sts at hm
  obtain ⟨y, hy, rfl⟩ := List.mem_map.1 hm
  have hle : ltc (eds xs) y.2.1 ≤ (eds xs).length := List.countP_le_length
  rcases (by omega : ltc (eds xs) y.2.1 < (eds xs).length ∨ ltc (eds xs) y.2.1 = (eds xs).length) with h | h
  · exact h
  · exfalso
    unfold ltc at h
    rw [List.countP_eq_length] at h
    have h2 := h y.2.2.1 (List.mem_map.2 ⟨y, hy, rfl⟩)
    have h3 := (List.mem_filter.1 hy).2
    unfold vd at h3
    simp at h2 h3
    omega
theorem ltc_pair (xs : List Lf) {i j : Nat} (hij : i ≤ j) (hj : j < (sts xs).length) : (srt (sts xs)).getD i 0 ≤ (srt (sts xs)).getD j 0 := by
  have hS := srt_sorted (sts xs)
  have hj' : j < (srt (sts xs)).length := by rw [srt_len]; exact hj
  have h := (le_iff hS ((srt (sts xs)).getD j 0) j hj').1 (Int.le_refl _)
  exact (le_iff hS _ i (by omega)).2 (by omega)
end Go.Proofs.Ytghnigmmkenddaa.Lv
