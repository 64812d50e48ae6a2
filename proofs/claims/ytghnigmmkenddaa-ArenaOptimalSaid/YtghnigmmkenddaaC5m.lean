/- LowerBound as a function. -/
import Derived.Test.YtghnigmmkenddaaC3
namespace Go.Proofs.Ytghnigmmkenddaa.Ar
open Go.ChangeShapes Go.WideShapes Go.ChangeAt Go.RowKit
open Go.Proofs.Ytghnigmmkenddaa.Lv Go.Proofs.Ytghnigmmkenddaa.Nm
set_option linter.unusedVariables false
set_option linter.unusedSimpArgs false

def frF (xs : List Lf) (i : Nat) : Int := (xs.getD i lf0).2.1
def toF (xs : List Lf) (i : Nat) : Int := (xs.getD i lf0).2.2.1
def szF (xs : List Lf) (i : Nat) : Int := (xs.getD i lf0).2.2.2
/-- The greatest of some numbers, at least 0. -/
def mxl : List Int → Int
  | [] => 0
  | x :: r => max x (mxl r)
theorem mxl_nonneg : ∀ l : List Int, 0 ≤ mxl l
  | [] => Int.le_refl _
  | x :: r => by have := mxl_nonneg r; show 0 ≤ max x (mxl r); omega
theorem mxl_ge : ∀ {l : List Int} {x : Int}, x ∈ l → x ≤ mxl l
  | y :: r, x, h => by
    show x ≤ max y (mxl r)
    rcases List.mem_cons.1 h with rfl | h
    · omega
    · have := mxl_ge h; omega
theorem mxl_mem : ∀ l : List Int, mxl l = 0 ∨ mxl l ∈ l
  | [] => .inl rfl
  | x :: r => by
    show max x (mxl r) = 0 ∨ max x (mxl r) ∈ x :: r
    have h0 := mxl_nonneg r
    rcases (by omega : max x (mxl r) = x ∨ max x (mxl r) = mxl r) with e | e
    · rw [e]; exact .inr List.mem_cons_self
    · rw [e]
      rcases mxl_mem r with h | h
      · exact .inl h
      · exact .inr (List.mem_cons_of_mem _ h)
/-- LowerBound's answer. -/
def lbF (xs : List Lf) : Int := if vE xs = 0 then mxl ((List.range xs.length).map fun i => Ss (frF xs) (toF xs) (szF xs) (List.range xs.length) i) else 0
theorem sm_le {sz : Nat → Int} {M : Int} : ∀ {l : List Nat}, (∀ i ∈ l, sz i ≤ M) → sm sz l ≤ M * (l.length : Int)
  | [], _ => by simp [sm]
  | i :: r, h => by
    have h1 := h i List.mem_cons_self
    have h2 := sm_le (l := r) fun j hj => h j (List.mem_cons_of_mem _ hj)
    rw [List.length_cons, show M * ((r.length + 1 : Nat) : Int) = M * (r.length : Int) + M by rw [Int.natCast_add, Int.mul_add]; simp]
    show sz i + sm sz r ≤ _
    omega
theorem sm_bd {xs : List Lf} {n : Nat} (hn : n ≤ 60) (hz : ∀ i, i < n → 1 ≤ szF xs i ∧ szF xs i ≤ 4096) {l : List Nat} (hl : l.length ≤ n) (hm : ∀ i ∈ l, i < n) : 0 ≤ sm (szF xs) l ∧ sm (szF xs) l ≤ 245760 := by
  refine ⟨sm_nonneg fun i hi => by have := hz i (hm i hi); omega, ?_⟩
  have h := sm_le (M := 4096) (l := l) fun i hi => (hz i (hm i hi)).2
  omega
theorem Asc_of {ky : Nat → Int} {n : Nat} (kx : Int → Int) (hk : ∀ i : Nat, i < n → kx i = ky i) : Asc ky (kxx kx n) := by
  unfold Asc
  rw [List.pairwise_iff_getElem]
  intro i j hi hj hij
  rw [kxx_len] at hi hj
  have h := (ordL_facts kx n).2 i j (Nat.zero_le _) hij hj
  rw [kxx_get hi, kxx_get hj, cfk_neg] at h
  have e : ∀ t (ht : t < (kxx kx n).length), (kxx kx n).getD t 0 = (kxx kx n)[t] := fun t ht => by unfold List.getD; rw [List.getElem?_eq_getElem ht]; rfl
  rw [e i (by rw [kxx_len]; exact hi), e j (by rw [kxx_len]; exact hj)] at h
  have hi2 := kxx_mem (List.getElem_mem (l := kxx kx n) (n := i) (by rw [kxx_len]; exact hi))
  have hj2 := kxx_mem (List.getElem_mem (l := kxx kx n) (n := j) (by rw [kxx_len]; exact hj))
  rw [hk _ hi2, hk _ hj2] at h
  omega
/-- How many have ended ahead of a time. -/
def cnt (to' : Nat → Int) (τ : List Nat) (x : Int) : Nat := (τ.filter fun j => decide (to' j < x)).length
theorem cnt_mono (to' : Nat → Int) (τ : List Nat) {x y : Int} (h : x ≤ y) : cnt to' τ x ≤ cnt to' τ y := by
  unfold cnt
  rw [← List.countP_eq_length_filter, ← List.countP_eq_length_filter]
  exact List.countP_mono_left fun j _ hj => by simp at hj ⊢; omega
theorem cnt_lt {to' : Nat → Int} {τ : List Nat} {x : Int} {j : Nat} (hj : j ∈ τ) (h : x ≤ to' j) : cnt to' τ x < τ.length := by
  unfold cnt
  refine List.length_filter_lt_length_iff_exists.2 ⟨j, hj, by simp; omega⟩
/-- The sweep's number behind a start. -/
theorem sweep_tot {fr to' sz : Nat → Int} {σ τ : List Nat} (hσ : Asc fr σ) (hτ : Asc to' τ) (hp : τ.Perm σ) (hft : ∀ j ∈ σ, fr j ≤ to' j) {P R : List Nat} {i : Nat} (e : σ = P ++ i :: R) : sm sz P - sm sz (τ.take (cnt to' τ (fr i))) + sz i = Tt fr to' sz P i := by
  have h1 := tot_eq (sz := sz) (P := P) (R := R) (i := i) (by rw [← e]; exact hσ) (by rw [← e]; exact hft)
  unfold Tt
  rw [← h1]
  unfold cnt
  rw [ended_take hτ, sm_perm sz (hp.filter fun j => decide (to' j < fr i)), ← e, sm_app]
  show sm sz P - _ + sz i = sm sz P + (sz i + 0) - _
  omega
end Go.Proofs.Ytghnigmmkenddaa.Ar
