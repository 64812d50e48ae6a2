/- Boxes: points and ranks. -/
import Derived.Test.YtkdfidjoighknaaB9
namespace Go.Proofs.Ytkdfidjoighknaa.Bx
open Go.ChangeShapes Go.WideShapes Go.ChangeAt Go.RowKit
set_option linter.unusedVariables false
set_option linter.unusedSimpArgs false
/-- What is inside, without the limits. -/
def ins (zs ps : List Int) : Prop := ps.length = zs.length ∧ ∀ j, j < zs.length → 0 ≤ ps.getD j 0 ∧ ps.getD j 0 < zs.getD j 0
theorem rk_step (zs ps : List Int) (k : Nat) : rk zs ps (k + 1) = rk zs ps k * zs.getD k 0 + ps.getD k 0 := rfl
theorem sp_drop_step {zs : List Int} {k : Nat} (hk : k < zs.length) : sp (zs.drop k) = sp (zs.drop (k + 1)) * zs.getD k 0 := by
  rw [drop_cons hk]; rfl
theorem low_ins {zs ps : List Int} (h : ins zs ps) : zs.any low = false := by
  refine any_take (k := zs.length) (fun j hj => ?_) rfl
  have := h.2 j hj
  exact decide_eq_false (by omega)
/-- A rank lies between the ranks of the points that begin as it does. -/
theorem rk_between {zs ps : List Int} (h : ins zs ps) : ∀ (d k : Nat), k + d = zs.length → rk zs ps k * sp (zs.drop k) ≤ rk zs ps zs.length ∧ rk zs ps zs.length < (rk zs ps k + 1) * sp (zs.drop k)
  | 0, k, e => by
    obtain rfl : k = zs.length := by omega
    rw [List.drop_of_length_le (Nat.le_refl _)]
    show rk zs ps zs.length * 1 ≤ rk zs ps zs.length ∧ rk zs ps zs.length < (rk zs ps zs.length + 1) * 1
    omega
  | d + 1, k, e => by
    have hk : k < zs.length := by omega
    obtain ⟨a, b⟩ := rk_between h d (k + 1) (by omega)
    obtain ⟨y0, y1⟩ := h.2 k hk
    have s1 := sp_pos (any_drop (low_ins h) (k + 1))
    rw [rk_step] at a b
    rw [sp_drop_step hk]
    have e1 : rk zs ps k * (sp (zs.drop (k + 1)) * zs.getD k 0) = rk zs ps k * zs.getD k 0 * sp (zs.drop (k + 1)) := by rw [Int.mul_assoc, Int.mul_comm (zs.getD k 0)]
    have e2 : (rk zs ps k + 1) * (sp (zs.drop (k + 1)) * zs.getD k 0) = (rk zs ps k + 1) * zs.getD k 0 * sp (zs.drop (k + 1)) := by rw [Int.mul_assoc, Int.mul_comm (zs.getD k 0)]
    rw [e1, e2]
    constructor
    · exact Int.le_trans (Int.mul_le_mul_of_nonneg_right (by omega) (by omega)) a
    · exact Int.lt_of_lt_of_le b (Int.mul_le_mul_of_nonneg_right (by rw [Int.add_mul (rk zs ps k), Int.one_mul]; omega) (by omega))
theorem rk_div {zs ps : List Int} (h : ins zs ps) {k : Nat} (hk : k ≤ zs.length) : rk zs ps zs.length / sp (zs.drop k) = rk zs ps k := by
  obtain ⟨a, b⟩ := rk_between h (zs.length - k) k (by omega)
  have s1 := sp_pos (any_drop (low_ins h) k)
  refine Int.le_antisymm ?_ ?_
  · have := Int.ediv_lt_of_lt_mul (by omega) b
    omega
  · exact Int.le_ediv_of_mul_le (by omega) a
theorem rk_nonneg {zs ps : List Int} (h : ins zs ps) {k : Nat} (hk : k ≤ zs.length) : 0 ≤ rk zs ps k := (rk_bd (low_ins h) h.2 k hk).1
/-- The point of a rank. -/
theorem pt_rk {zs ps : List Int} (h : ins zs ps) : pt zs (rk zs ps zs.length) = ps := by
  refine List.ext_getElem (by rw [pt_length, h.1]) fun j h1 h2 => ?_
  have hj : j < zs.length := by rw [pt_length] at h1; exact h1
  rw [← getD_at h1, ← getD_at h2, pt_get hj, rk_div h (by omega), rk_step]
  obtain ⟨y0, y1⟩ := h.2 j hj
  rw [Int.add_comm, Int.add_mul_emod_self_right, Int.emod_eq_of_lt y0 y1]
theorem rk_last {zs ps : List Int} (h : ins zs ps) : rk zs ps zs.length < sp zs := by
  have := (rk_between h zs.length 0 (by omega)).2
  change _ < (0 + 1) * sp zs at this
  omega
theorem pt_ins {zs : List Int} (hl : zs.any low = false) (a : Int) : ins zs (pt zs a) := by
  refine ⟨pt_length zs a, fun j hj => ?_⟩
  rw [pt_get hj]
  have := pos_of hl hj
  exact ⟨Int.emod_nonneg _ (by omega), Int.emod_lt_of_pos _ (by omega)⟩
/-- The rank of a point. -/
theorem rk_pt {zs : List Int} (hl : zs.any low = false) {a : Int} (h0 : 0 ≤ a) (h1 : a < sp zs) : ∀ k, k ≤ zs.length → rk zs (pt zs a) k = a / sp (zs.drop k)
  | 0, _ => by
    show (0 : Int) = a / sp zs
    rw [Int.ediv_eq_zero_of_lt h0 h1]
  | k + 1, hk => by
    have hk2 : k < zs.length := by omega
    rw [rk_step, rk_pt hl h0 h1 k (by omega), pt_get hk2, sp_drop_step hk2]
    have s1 := sp_pos (any_drop hl (k + 1))
    rw [← Int.ediv_ediv_of_nonneg (by omega), Int.mul_comm]
    exact Int.mul_ediv_add_emod _ _
theorem rk_pt_end {zs : List Int} (hl : zs.any low = false) {a : Int} (h0 : 0 ≤ a) (h1 : a < sp zs) : rk zs (pt zs a) zs.length = a := by
  rw [rk_pt hl h0 h1 _ (Nat.le_refl _), List.drop_of_length_le (Nat.le_refl _)]
  exact Int.ediv_one _
/-- The successor of a point whose last places from m + 1 on are full. -/
def sq (ps : List Int) (m : Nat) : List Int := ps.take m ++ ((ps.getD m 0 + 1) :: List.replicate (ps.length - m - 1) 0)
theorem sq_length {ps : List Int} {m : Nat} (h : m < ps.length) : (sq ps m).length = ps.length := by
  unfold sq
  simp
  omega
theorem sq_lt {ps : List Int} {m j : Nat} (h : m < ps.length) (hj : j < m) : (sq ps m).getD j 0 = ps.getD j 0 := by
  unfold sq
  simp only [List.getD_eq_getElem?_getD]
  rw [List.getElem?_append_left (by simp; omega), List.getElem?_take_of_lt hj]
theorem sq_at {ps : List Int} {m : Nat} (h : m < ps.length) : (sq ps m).getD m 0 = ps.getD m 0 + 1 := by
  unfold sq
  rw [List.getD_eq_getElem?_getD, List.getElem?_append_right (by simp; omega)]
  simp [Nat.min_eq_left (Nat.le_of_lt h)]
theorem sq_gt {ps : List Int} {m j : Nat} (h : m < ps.length) (hj : m < j) (hj2 : j < ps.length) : (sq ps m).getD j 0 = 0 := by
  unfold sq
  rw [List.getD_eq_getElem?_getD, List.getElem?_append_right (by simp; omega)]
  obtain ⟨i, rfl⟩ : ∃ i, j = m + 1 + i := ⟨j - m - 1, by omega⟩
  rw [List.length_take, Nat.min_eq_left (Nat.le_of_lt h), show m + 1 + i - m = i + 1 by omega, List.getElem?_cons_succ]
  rw [List.getElem?_replicate]
  split <;> rfl
theorem sq_ins {zs ps : List Int} (h : ins zs ps) {m : Nat} (hm : m < zs.length) (h1 : ps.getD m 0 + 1 < zs.getD m 0) : ins zs (sq ps m) := by
  have hl := h.1
  refine ⟨by rw [sq_length (by omega), hl], fun j hj => ?_⟩
  have := h.2 j hj
  rcases (by omega : j < m ∨ j = m ∨ m < j) with h2 | rfl | h2
  · rw [sq_lt (by omega) h2]; exact this
  · rw [sq_at (by omega)]; omega
  · rw [sq_gt (by omega) h2 (by omega)]; omega
theorem sq_rk_lt {zs ps : List Int} {m : Nat} (hm : m < ps.length) : ∀ k, k ≤ m → rk zs (sq ps m) k = rk zs ps k
  | 0, _ => rfl
  | k + 1, hk => by rw [rk_step, rk_step, sq_rk_lt hm k (by omega), sq_lt hm (by omega)]
theorem sq_rk {zs ps : List Int} (h : ins zs ps) {m : Nat} (hm : m < zs.length) (hf : ∀ j, m < j → j < zs.length → ps.getD j 0 + 1 = zs.getD j 0) : ∀ d, m + 1 + d ≤ zs.length → rk zs (sq ps m) (m + 1 + d) = rk zs ps (m + 1 + d) + 1
  | 0, _ => by
    have hl := h.1
    rw [Nat.add_zero, rk_step, rk_step, sq_rk_lt (by omega) m (Nat.le_refl _), sq_at (by omega)]
    omega
  | d + 1, hd => by
    have hl := h.1
    rw [← Nat.add_assoc, rk_step, rk_step, sq_rk h hm hf d (by omega), sq_gt (by omega) (by omega) (by omega)]
    have := hf (m + 1 + d) (by omega) (by omega)
    rw [Int.add_mul, Int.one_mul]
    omega
/-- The successor is the point of the next rank. -/
theorem sq_pt {zs ps : List Int} (h : ins zs ps) {m : Nat} (hm : m < zs.length) (h1 : ps.getD m 0 + 1 < zs.getD m 0) (hf : ∀ j, m < j → j < zs.length → ps.getD j 0 + 1 = zs.getD j 0) : sq ps m = pt zs (rk zs ps zs.length + 1) ∧ rk zs ps zs.length + 1 < sp zs := by
  have hi := sq_ins h hm h1
  have e := sq_rk h hm hf (zs.length - m - 1) (by omega)
  rw [show m + 1 + (zs.length - m - 1) = zs.length by omega] at e
  refine ⟨?_, by rw [← e]; exact rk_last hi⟩
  rw [← e, pt_rk hi]
/-- The last point. -/
theorem full_rk {zs ps : List Int} (h : ins zs ps) (hf : ∀ j, j < zs.length → ps.getD j 0 + 1 = zs.getD j 0) : ∀ k, k ≤ zs.length → (rk zs ps k + 1) * sp (zs.drop k) = sp zs
  | 0, _ => by show (0 + 1) * sp zs = sp zs; omega
  | k + 1, hk => by
    rw [← full_rk h hf k (by omega), sp_drop_step (show k < zs.length by omega), rk_step]
    have := hf k (by omega)
    rw [Int.mul_comm (sp _) (zs.getD k 0), ← Int.mul_assoc]
    congr 1
    rw [Int.add_mul, Int.one_mul]
    omega
theorem full_last {zs ps : List Int} (h : ins zs ps) (hf : ∀ j, j < zs.length → ps.getD j 0 + 1 = zs.getD j 0) : rk zs ps zs.length + 1 = sp zs := by
  have := full_rk h hf zs.length (Nat.le_refl _)
  rw [List.drop_of_length_le (Nat.le_refl _)] at this
  change (_ + 1) * 1 = _ at this
  omega
theorem inB_ins {zs ps : List Int} (h : inB zs ps = true) : ins zs ps := ⟨(inB_yes h).2.1, (inB_yes h).2.2⟩
theorem ins_inB {zs ps : List Int} (hb : bV zs = 0) (h : ins zs ps) : inB zs ps = true := by
  unfold inB
  rw [decide_eq_true ⟨hb, h.1⟩, Bool.true_and, List.all_eq_true]
  intro j hj
  have := h.2 j (List.mem_range.1 hj)
  unfold ib
  rw [decide_eq_true this.1, decide_eq_true this.2]; rfl
end Go.Proofs.Ytkdfidjoighknaa.Bx
