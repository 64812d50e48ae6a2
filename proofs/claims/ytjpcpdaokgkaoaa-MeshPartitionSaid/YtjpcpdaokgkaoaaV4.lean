/- Products, strides, and slices that a call has made. -/
import Derived.Test.YtjpcpdaokgkaoaaV3
import Derived.OwnWalk
import Derived.Laws.OwnMore
namespace Go.Proofs.Ytjpcpdaokgkaoaa.Sh
open Go.ChangeShapes Go.WideShapes Go.ChangeAt Go.RowKit
set_option linter.unusedVariables false

/-- The product of a list. -/
def sp : List Int → Int
  | [] => 1
  | z :: zs => sp zs * z
/-- The strides of a list: for each place the product of what follows. -/
def st (zs : List Int) : List Int := (List.range zs.length).map fun j => sp (zs.drop (j + 1))
theorem st_length (zs : List Int) : (st zs).length = zs.length := by simp [st]
theorem st_get {zs : List Int} {j : Nat} (h : j < zs.length) : (st zs).getD j 0 = sp (zs.drop (j + 1)) := by
  rw [getD_at (by rw [st_length]; exact h)]
  simp [st]
theorem sp_pos : ∀ {zs : List Int}, zs.any low = false → 1 ≤ sp zs
  | [], _ => by decide
  | z :: zs, h => by
    simp only [List.any_cons, Bool.or_eq_false_iff] at h
    have h1 := sp_pos h.2
    have h2 : 1 ≤ z := by have := h.1; unfold low at this; simp at this; omega
    have := Int.mul_le_mul h1 h2 (by decide) (by omega)
    show 1 ≤ sp zs * z
    omega
theorem pr_sp : ∀ {zs : List Int} {s P : Int}, pr s zs = some P → P = s * sp zs
  | [], s, P, h => by
    unfold pr at h
    cases h
    show s = s * 1
    omega
  | z :: zs, s, P, h => by
    by_cases hb : 4096 < s * z
    · rw [pr_none hb] at h; cases h
    · rw [pr_go hb] at h
      rw [pr_sp h]
      show s * z * sp zs = s * (sp zs * z)
      rw [Int.mul_assoc, Int.mul_comm z]
theorem pr_le : ∀ {zs : List Int} {s P : Int}, s ≤ 4096 → pr s zs = some P → P ≤ 4096
  | [], s, P, h0, h => by unfold pr at h; cases h; exact h0
  | z :: zs, s, P, h0, h => by
    by_cases hb : 4096 < s * z
    · rw [pr_none hb] at h; cases h
    · rw [pr_go hb] at h
      exact pr_le (by omega) h
theorem any_drop {zs : List Int} (h : zs.any low = false) (k : Nat) : (zs.drop k).any low = false := by
  rw [List.any_eq_false] at h ⊢
  intro x hx
  exact h x (List.mem_of_mem_drop hx)
theorem sp_drop_le {zs : List Int} (h : zs.any low = false) : ∀ k, sp (zs.drop k) ≤ sp zs := by
  induction zs with
  | nil => intro k; simp
  | cons z zs ih =>
    intro k
    simp only [List.any_cons, Bool.or_eq_false_iff] at h
    cases k with
    | zero => exact Int.le_refl _
    | succ k =>
      have h1 := ih h.2 k
      have h2 : 1 ≤ z := by have := h.1; unfold low at this; simp at this; omega
      have h3 := sp_pos h.2
      have := Int.mul_le_mul_of_nonneg_left h2 (by omega : 0 ≤ sp zs)
      show sp (zs.drop k) ≤ sp zs * z
      omega
/-- What a valid list is. -/
theorem valid_of {zs : List Int} (h : vE zs = 0) : zs.length ≤ 6 ∧ zs.any low = false ∧ pr 1 zs = some (sp zs) ∧ sp zs ≤ 4096 ∧ ∀ k, 1 ≤ sp (zs.drop k) ∧ sp (zs.drop k) ≤ 4096 := by
  obtain ⟨h1, h2, P, h3⟩ := vE_zero h
  have e := pr_sp h3
  have l := pr_le (by decide) h3
  rw [Int.one_mul] at e
  subst e
  exact ⟨h1, h2, h3, l, fun k => ⟨sp_pos (any_drop h2 k), Int.le_trans (sp_drop_le h2 k) l⟩⟩
theorem info3 : (Try.prog.info? 3).map (fun i => (i.zero, i.size, i.bytes)) = some (some (.int .i64 0), 1, 8) := by kernel_rfl
/-- A slice of integers that the call has made. -/
def OW (l : List Int) (w : World) (e : Ending) (w' : World) : Prop := ∃ v, e = .returned v ∧ Below w.heap.size w w' ∧ w'.ownsRow w.heap.size 3 1 v l.length (l.map (Value.int .i64))
def sts (zs : List Int) : List Int := if vE zs = 0 then st zs else []
theorem below_own {w w' : World} {B : Nat} (hB : B ≤ w.heap.size) (h : w.grownBy w' none) : Below B w w' := by
  exact (Below.refl _ _).grown h hB (fun k hk => by cases hk)
theorem cells_of {w : World} {base g n cap j : Nat} {xs : List Int} (h : w.ownsRow base 3 1 (.slice (some ⟨g, 0, none⟩) n cap) n (xs.map (Value.int .i64))) (hj : j < n) (hx : xs.length = n) :
    w.cell? ⟨g, j, none⟩ = some (.int .i64 (xs.getD j 0)) := by
  rw [h.cellAt j (by omega), List.getElem?_map, List.getElem?_eq_getElem (by omega), getD_at (by omega)]
  rfl
end Go.Proofs.Ytjpcpdaokgkaoaa.Sh
