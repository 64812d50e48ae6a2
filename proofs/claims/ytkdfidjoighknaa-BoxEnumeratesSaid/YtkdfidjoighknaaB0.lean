/- Contracts carried from another seat. -/
import Derived.Test.YtkdfidjoighknaaRows
import Derived.WalkKit
import Derived.ProofKit
import Derived.OpenShut
import Derived.WalkLawsBesides
import Derived.WalkSpells
import Derived.Outline
import Derived.Handy
import Derived.IntWalk
import Derived.Deep.QuietTactic
import Derived.BigQuiet
import Derived.Lib.Hide
import Derived.OwnWalk
import Derived.Laws.OwnMore
import Derived.Deep.RegionHeld
import Derived.Laws.AppendOwn
import Derived.Deep.Onto
import Derived.RegionTactic
import Derived.ChangeAlike
import Derived.BigRegion
import Derived.Deep.AppendLies
namespace Go.Proofs.Ytkdfidjoighknaa.Bx
open Go.ChangeShapes Go.WideShapes Go.ChangeAt Go.RowKit
set_option linter.unusedVariables false
set_option linter.unusedSimpArgs false
/-- A slice value reads as a list of integers. -/
def SlI (w : World) (p : Option Addr) (zs : List Int) : Prop := ∀ i, i < zs.length → ∃ b o, p = some ⟨b, o, none⟩ ∧ w.cell? ⟨b, o + i, none⟩ = some (.int .i64 (zs.getD i 0))
theorem ret_bool {a b : Bool} (h : a = b) : Ending.returned (.bool a) = .returned (.bool b) := by rw [h]
theorem getD_at {zs : List Int} {k : Nat} (h : k < zs.length) : zs.getD k 0 = zs[k] := by
  unfold List.getD
  rw [List.getElem?_eq_getElem h]
  rfl
theorem any_take {zs : List Int} {f : Int → Bool} {k : Nat} (h : ∀ j, j < k → f (zs.getD j 0) = false) (hk : k = zs.length) : zs.any f = false := by
  rw [List.any_eq_false]
  intro x hx
  obtain ⟨j, hj, rfl⟩ := List.getElem_of_mem hx
  have := h j (by omega)
  rw [getD_at hj] at this
  simpa using this
theorem any_at {zs : List Int} {f : Int → Bool} {k : Nat} (h : f (zs.getD k 0) = true) (hk : k < zs.length) : zs.any f = true := by
  rw [List.any_eq_true]
  exact ⟨zs[k], List.getElem_mem hk, by rw [getD_at hk] at h; exact h⟩
def low (z : Int) : Bool := decide (z < 1)
/-- The product as long as it stays within the limit. -/
def pr : Int → List Int → Option Int
  | s, [] => some s
  | s, z :: zs => if 4096 < s * z then none else pr (s * z) zs
/-- What Validate answers. -/
def vE (zs : List Int) : Int := if 6 < zs.length then 2 else if zs.any low = true then 1 else if pr 1 zs = none then 2 else 0
theorem drop_cons {zs : List Int} {k : Nat} (h : k < zs.length) : zs.drop k = zs.getD k 0 :: zs.drop (k + 1) := by
  rw [List.drop_eq_getElem_cons h, getD_at h]
theorem pos_of {zs : List Int} (h : zs.any low = false) {k : Nat} (hk : k < zs.length) : 1 ≤ zs.getD k 0 := by
  rw [List.any_eq_false] at h
  have := h zs[k] (List.getElem_mem hk)
  rw [getD_at hk]
  unfold low at this
  simp at this
  omega
theorem quo_lt (s z : Int) (hs : 1 ≤ s) (hs' : s ≤ 4096) : 4096 / s < z ↔ 4096 < s * z := by
  constructor
  · intro h
    have h1 := Int.lt_mul_of_ediv_lt (by omega : 0 < s) h
    rw [Int.mul_comm] at h1
    exact h1
  · intro h
    rw [Int.mul_comm] at h
    exact Int.ediv_lt_of_lt_mul (by omega : 0 < s) h
theorem vE_some {zs : List Int} {s : Int} (h : ¬ 6 < zs.length) (h1 : zs.any low = false) (h2 : pr 1 zs = some s) : vE zs = 0 := by unfold vE; rw [if_neg h, h1, if_neg (by decide), h2, if_neg (by simp)]
theorem pr_none {s z : Int} {zs : List Int} (h : 4096 < s * z) : pr s (z :: zs) = none := by unfold pr; rw [if_pos h]
theorem pr_go {s z : Int} {zs : List Int} (h : ¬ 4096 < s * z) : pr s (z :: zs) = pr (s * z) zs := by
  show (if 4096 < s * z then none else pr (s * z) zs) = _
  rw [if_neg h]
theorem vE_zero {zs : List Int} (h : vE zs = 0) : zs.length ≤ 6 ∧ zs.any low = false ∧ ∃ P, pr 1 zs = some P := by
  unfold vE at h
  by_cases h1 : 6 < zs.length
  · rw [if_pos h1] at h; cases h
  · rw [if_neg h1] at h
    by_cases h2 : zs.any low = true
    · rw [if_pos h2] at h; cases h
    · rw [if_neg h2] at h
      by_cases h3 : pr 1 zs = none
      · rw [if_pos h3] at h; cases h
      · exact ⟨by omega, by simpa using h2, Option.ne_none_iff_exists'.1 h3⟩
def sz (zs : List Int) : Int := if vE zs = 0 then (pr 1 zs).getD 0 else 0
/-- The product of a list. -/
def sp : List Int → Int
  | [] => 1
  | z :: zs => sp zs * z
theorem sp_pos : ∀ {zs : List Int}, zs.any low = false → 1 ≤ sp zs
  | [], _ => by decide
  | z :: zs, h => by
    simp only [List.any_cons, Bool.or_eq_false_iff] at h
    have h1 := sp_pos h.2
    have h2 : 1 ≤ z := by have := h.1; unfold low at this; simp at this; omega
    have := Int.mul_le_mul h1 h2 (by decide) (by omega)
    show 1 ≤ sp zs * z
    omega
theorem pr_sp : ∀ {zs : List Int} {s P : Int}, pr s zs = some P → P = s * sp zs
  | [], s, P, h => by
    unfold pr at h
    cases h
    show s = s * 1
    omega
  | z :: zs, s, P, h => by
    by_cases hb : 4096 < s * z
    · rw [pr_none hb] at h; cases h
    · rw [pr_go hb] at h
      rw [pr_sp h]
      show s * z * sp zs = s * (sp zs * z)
      rw [Int.mul_assoc, Int.mul_comm z]
theorem pr_le : ∀ {zs : List Int} {s P : Int}, s ≤ 4096 → pr s zs = some P → P ≤ 4096
  | [], s, P, h0, h => by unfold pr at h; cases h; exact h0
  | z :: zs, s, P, h0, h => by
    by_cases hb : 4096 < s * z
    · rw [pr_none hb] at h; cases h
    · rw [pr_go hb] at h
      exact pr_le (by omega) h
theorem any_drop {zs : List Int} (h : zs.any low = false) (k : Nat) : (zs.drop k).any low = false := by
  rw [List.any_eq_false] at h ⊢
  intro x hx
  exact h x (List.mem_of_mem_drop hx)
theorem sp_drop_le {zs : List Int} (h : zs.any low = false) : ∀ k, sp (zs.drop k) ≤ sp zs := by
  induction zs with
  | nil => intro k; simp
  | cons z zs ih =>
    intro k
    simp only [List.any_cons, Bool.or_eq_false_iff] at h
    cases k with
    | zero => exact Int.le_refl _
    | succ k =>
      have h1 := ih h.2 k
      have h2 : 1 ≤ z := by have := h.1; unfold low at this; simp at this; omega
      have h3 := sp_pos h.2
      have := Int.mul_le_mul_of_nonneg_left h2 (by omega : 0 ≤ sp zs)
      show sp (zs.drop k) ≤ sp zs * z
      omega
/-- What a valid list is. -/
theorem valid_of {zs : List Int} (h : vE zs = 0) : zs.length ≤ 6 ∧ zs.any low = false ∧ pr 1 zs = some (sp zs) ∧ sp zs ≤ 4096 ∧ ∀ k, 1 ≤ sp (zs.drop k) ∧ sp (zs.drop k) ≤ 4096 := by
  obtain ⟨h1, h2, P, h3⟩ := vE_zero h
  have e := pr_sp h3
  have l := pr_le (by decide) h3
  rw [Int.one_mul] at e
  subst e
  exact ⟨h1, h2, h3, l, fun k => ⟨sp_pos (any_drop h2 k), Int.le_trans (sp_drop_le h2 k) l⟩⟩
theorem info3 : (Try.prog.info? 3).map (fun i => (i.zero, i.size, i.bytes)) = some (some (.int .i64 0), 1, 8) := by kernel_rfl
/-- A slice of integers that the call has made. -/
def OW (l : List Int) (w : World) (e : Ending) (w' : World) : Prop := ∃ v, e = .returned v ∧ Below w.heap.size w w' ∧ w'.ownsRow w.heap.size 3 1 v l.length (l.map (Value.int .i64))
theorem below_own {w w' : World} {B : Nat} (hB : B ≤ w.heap.size) (h : w.grownBy w' none) : Below B w w' := by
  exact (Below.refl _ _).grown h hB (fun k hk => by cases hk)
theorem cells_of {w : World} {base g n cap j : Nat} {xs : List Int} (h : w.ownsRow base 3 1 (.slice (some ⟨g, 0, none⟩) n cap) n (xs.map (Value.int .i64))) (hj : j < n) (hx : xs.length = n) :
    w.cell? ⟨g, j, none⟩ = some (.int .i64 (xs.getD j 0)) := by
  rw [h.cellAt j (by omega), List.getElem?_map, List.getElem?_eq_getElem (by omega), getD_at (by omega)]
  rfl
theorem Rg.keep' {y y' : World} {B b o : Nat} {v : Value} (hy : Below B y y') (hb : b < B) (h : y.cell? ⟨b, o, none⟩ = some v) : y'.cell? ⟨b, o, none⟩ = some v := (hy.cell (p := ⟨b, o, none⟩) hb).trans h
/-- A suffix of a valid list is valid. -/
theorem vE_drop {zs : List Int} (h : vE zs = 0) (k : Nat) : vE (zs.drop k) = 0 := by
  obtain ⟨h6, hl, hP, hS, hD⟩ := valid_of h
  have e := any_drop hl k
  have key : ∀ (ys : List Int) (s : Int), 1 ≤ s → ys.any low = false → s * sp ys ≤ 4096 → pr s ys = some (s * sp ys) := by
    intro ys
    induction ys with
    | nil => intro s _ _ _; unfold pr sp; rw [Int.mul_one]
    | cons z ys ih =>
      intro s h1 h2 h3
      simp only [List.any_cons, Bool.or_eq_false_iff] at h2
      have hz : 1 ≤ z := by have := h2.1; unfold low at this; simp at this; omega
      have hp := sp_pos h2.2
      have h4 : s * sp (z :: ys) = s * z * sp ys := by
        show s * (sp ys * z) = _
        rw [Int.mul_assoc, Int.mul_comm z]
      rw [h4] at h3 ⊢
      have h5 : 1 ≤ s * z := by have := Int.mul_pos (by omega : 0 < s) (by omega : 0 < z); omega
      have h6 := Int.mul_le_mul_of_nonneg_left hp (by omega : 0 ≤ s * z)
      rw [pr_go (by omega)]
      exact ih (s * z) h5 h2.2 h3
  have hk := hD k
  exact vE_some (s := 1 * sp (zs.drop k)) (by rw [List.length_drop]; omega) e (key _ 1 (by decide) e (by omega))
theorem sz_drop {zs : List Int} (h : vE zs = 0) (k : Nat) : sz (zs.drop k) = sp (zs.drop k) := by
  have h2 := vE_drop h k
  obtain ⟨_, _, hP, _⟩ := valid_of h2
  unfold sz
  rw [if_pos h2, hP]
  rfl
theorem SlI.drop {w : World} {b o : Nat} {zs : List Int} (h : SlI w (some ⟨b, o, none⟩) zs) (k : Nat) : SlI w (some ⟨b, o + k, none⟩) (zs.drop k) := by
  intro i hi
  rw [List.length_drop] at hi
  obtain ⟨b', o', e, hc⟩ := h (k + i) (by omega)
  cases e
  refine ⟨b, o + k, rfl, ?_⟩
  rw [getD_at (by rw [List.length_drop]; omega), List.getElem_drop, ← getD_at (by omega), Nat.add_assoc]
  exact hc
theorem SlI.keep {w w' : World} {p : Option Addr} {zs : List Int} (hB : Below w.heap.size w w') (h : SlI w p zs) : SlI w' p zs := by
  intro i hi
  obtain ⟨b, o, e, hc⟩ := h i hi
  exact ⟨b, o, e, Rg.keep' hB (by have := World.block_lt_of_cell? w _ hc; simpa using this) hc⟩
/-- The offset of an index, as long as it lies in the shape. -/
def of : Int → List Int → List Int → Option Int
  | n, z :: zs, x :: xs => if 0 ≤ x ∧ x < z then of (n * z + x) zs xs else none
  | n, _, _ => some n
theorem add_at (b o j : Nat) : (⟨b, o, none⟩ : Addr).add j = ⟨b, o + j, none⟩ := by
  unfold Addr.add
  split
  · next h => subst h; rfl
  · rfl
set_option maxHeartbeats 4000000 in
/-- slices.Clone of a slice that is not nil. -/
theorem c48 (b o : Nat) (zs : List Int) (c : Nat) (w : World) (hn : zs.length ≤ maxLen) (hby : zs.length * 8 ≤ 140737488355328) (RA : Hid (SlI w (some ⟨b, o, none⟩) zs)) :
    Calls Try.prog 80 #[.slice (some ⟨b, o, none⟩) zs.length c] w (OW zs w) := by
  obtain ⟨i0, hi, hz0, hz1, hz2⟩ := info_parts info3
  have RN := Lib.hid (fun o' : Obj => SlI.keep (w' := w.alloc o') ((Below.refl _ _).alloc (Nat.le_refl _) _) RA.out)
  have HN := Lib.hid hn
  have HB := Lib.hid hby
  clear hn hby
  have EN : (binOp .eql 22 (.slice (some ⟨b, o, none⟩) zs.length c) (.slice none 0 0)).run Try.prog w = .ok (.bool false) w := by kernel_rfl
  go_enter Try.func80, Try.ntmps80
  go_wp2_with (at_builtin; refine wpList_append_own _ rfl _ _ 22 rfl w.heap.size 3 i0 (.int .i64 0) 1 8 Try.underlying22 hi hz0 hz1 hz2 rfl (by decide) _ _ _ rfl (World.ownsRow_lit w #[] 0 (Nat.le_refl _) (by decide) rfl) ⟨b, o, none⟩ zs.length c (zs.map (Value.int .i64)) rfl ?_ ?_ ?_ ?_ ?_ ?_ ?_)
  · simp
  · intro j u hj
    rw [List.getElem?_map] at hj
    have hj2 : j < zs.length := by
      by_cases h : j < zs.length
      · exact h
      · rw [List.getElem?_eq_none (by omega)] at hj; cases hj
    rw [List.getElem?_eq_getElem hj2] at hj
    cases hj
    obtain ⟨b', o', e, hc⟩ := RN.out (.cells #[] 3 (0, 0)) j hj2
    cases e
    rw [getD_at hj2] at hc
    rw [add_at]
    exact hc
  · intro u hu
    obtain ⟨x, _, rfl⟩ := List.mem_map.1 hu
    rfl
  · rw [Nat.zero_add]; exact HN.out
  · rw [Nat.zero_add]; exact HB.out
  · simp
  intro v' w1 hown' hgrow _
  have hO2 : Hid (w1.ownsRow w.heap.size 3 1 v' zs.length (zs.map (Value.int .i64))) := Lib.hid (by first | exact hown' | (have h := hown'; rw [Nat.zero_add] at h; exact h))
  have hB2 : Below w.heap.size w w1 := ((Below.refl _ _).alloc (Nat.le_refl _) _).grown hgrow (by simp) (fun j hj => by cases hj; exact Nat.le_refl _)
  clear hown' hgrow hi hz0 hz1 hz2
  go_wp2
  go_ret
  exact ⟨_, rfl, hB2, hO2.out⟩
/-- The index with an offset. -/
def pt (zs : List Int) (a : Int) : List Int := (List.range zs.length).map fun j => (a / sp (zs.drop (j + 1))) % zs.getD j 0
def pA (zs : List Int) (a : Int) : Bool := decide (0 ≤ a ∧ a < sz zs)
theorem pt_length (zs : List Int) (a : Int) : (pt zs a).length = zs.length := by simp [pt]
theorem pt_get {zs : List Int} {a : Int} {j : Nat} (h : j < zs.length) : (pt zs a).getD j 0 = (a / sp (zs.drop (j + 1))) % zs.getD j 0 := by
  rw [getD_at (by rw [pt_length]; exact h)]
  simp [pt]
/-- A slice that the call has made, and whether there is an answer. -/
def PW (l : List Int) (t : Bool) (w : World) (e : Ending) (w' : World) : Prop := ∃ v, e = .returned (.tuple #[v, .bool t]) ∧ Below w.heap.size w w' ∧ w'.ownsRow w.heap.size 3 1 v l.length (l.map (Value.int .i64))
theorem sz_ok {zs : List Int} (h : vE zs = 0) : sz zs = sp zs := sz_drop (zs := zs) h 0
theorem sz_no {zs : List Int} (h : ¬ vE zs = 0) : sz zs = 0 := by unfold sz; rw [if_neg h]
theorem pA_valid {zs : List Int} {a : Int} (h : pA zs a = true) : vE zs = 0 ∧ 0 ≤ a ∧ a < sp zs := by
  unfold pA at h
  have h := of_decide_eq_true h
  by_cases hv : vE zs = 0
  · rw [sz_ok hv] at h; exact ⟨hv, h⟩
  · rw [sz_no hv] at h; omega
theorem pt_step {a s z : Int} (hs : 1 ≤ s) : a / s / z = a / (s * z) := Int.ediv_ediv_of_nonneg (by omega)
theorem pr_ok : ∀ (ys : List Int) (s : Int), 1 ≤ s → ys.any low = false → s * sp ys ≤ 4096 → pr s ys = some (s * sp ys) := by
  intro ys
  induction ys with
  | nil => intro s _ _ _; unfold pr sp; rw [Int.mul_one]
  | cons z ys ih =>
    intro s h1 h2 h3
    simp only [List.any_cons, Bool.or_eq_false_iff] at h2
    have hz : 1 ≤ z := by have := h2.1; unfold low at this; simp at this; omega
    have hp := sp_pos h2.2
    have h4 : s * sp (z :: ys) = s * z * sp ys := by
      show s * (sp ys * z) = _
      rw [Int.mul_assoc, Int.mul_comm z]
    rw [h4] at h3 ⊢
    have h5 : 1 ≤ s * z := by have := Int.mul_pos (by omega : 0 < s) (by omega : 0 < z); omega
    have h6 := Int.mul_le_mul_of_nonneg_left hp (by omega : 0 ≤ s * z)
    rw [pr_go (by omega)]
    exact ih (s * z) h5 h2.2 h3
set_option maxHeartbeats 4000000 in
theorem c48_none (c : Nat) (w : World) : Calls Try.prog 80 #[.slice none 0 c] w (OW [] w) := by
  have EN : (binOp .eql 22 (.slice none 0 c) (.slice none 0 0)).run Try.prog w = .ok (.bool true) w := by kernel_rfl
  go_enter Try.func80, Try.ntmps80
  go_wp2
  go_ret
  exact ⟨_, rfl, Below.refl _ _, World.ownsRow_nil _ _ _ _⟩
set_option maxHeartbeats 4000000 in
theorem c48_empty (ad : Addr) (c : Nat) (w : World) : Calls Try.prog 80 #[.slice (some ad) 0 c] w (OW [] w) := by
  obtain ⟨i0, hi, hz0, hz1, hz2⟩ := info_parts info3
  have EN : (binOp .eql 22 (.slice (some ad) 0 c) (.slice none 0 0)).run Try.prog w = .ok (.bool false) w := by kernel_rfl
  go_enter Try.func80, Try.ntmps80
  go_wp2_with (at_builtin; refine wpList_append_own _ rfl _ _ 22 rfl w.heap.size 3 i0 (.int .i64 0) 1 8 Try.underlying22 hi hz0 hz1 hz2 rfl (by decide) _ _ _ rfl (World.ownsRow_lit w #[] 0 (Nat.le_refl _) (by decide) rfl) ad 0 c [] rfl rfl ?_ ?_ ?_ ?_ ?_ ?_)
  · intro j u hj; simp at hj
  · intro u hu; cases hu
  · decide
  · decide
  · simp
  intro v' w1 hown' hgrow _
  have hB2 : Below w.heap.size w w1 := ((Below.refl _ _).alloc (Nat.le_refl _) _).grown hgrow (by simp) (fun j hj => by cases hj; exact Nat.le_refl _)
  have hO2 := Lib.hid hown'
  clear hown' hgrow hi hz0 hz1 hz2
  go_wp2
  go_ret
  exact ⟨_, rfl, hB2, hO2.out⟩
/-- slices.Clone of any slice. -/
theorem c48g (p : Option Addr) (zs : List Int) (c : Nat) (w : World) (hn : zs.length ≤ maxLen) (hby : zs.length * 8 ≤ 140737488355328) (RA : Hid (SlI w p zs)) :
    Calls Try.prog 80 #[.slice p zs.length c] w (OW zs w) := by
  by_cases h : zs.length = 0
  · obtain rfl := List.eq_nil_of_length_eq_zero h
    cases p with
    | none => exact c48_none c w
    | some ad => exact c48_empty ad c w
  · obtain ⟨b, o, rfl, _⟩ := RA.out 0 (by omega)
    exact c48 b o zs c w hn hby RA
theorem boxed {w w' : World} {v : Value} {T : TypeId} (hb : Below (w.alloc (Obj.cells #[v] T)).heap.size (w.alloc (Obj.cells #[v] T)) w') : w'.cell? ⟨w.heap.size, 0, none⟩ = some v ∧ Below w.heap.size w w' :=
  ⟨by rw [hb.cell (p := ⟨w.heap.size, 0, none⟩) (by simp)]; go_cell, ((Below.refl _ _).alloc (Nat.le_refl _) _).trans (hb.mono (by simp))⟩
theorem PW.of {l : List Int} {t : Bool} {w u : World} {e : Ending} {w' : World} (hB : Below w.heap.size w u) (h : PW l t u e w') : PW l t w e w' := by
  obtain ⟨v, he, hb, ho⟩ := h
  exact ⟨v, he, hB.trans (hb.mono hB.size), ho.mono hB.size⟩
theorem SlI.take {w : World} {p : Option Addr} {zs : List Int} (h : SlI w p zs) (k : Nat) : SlI w p (zs.take k) := fun i hi => by
  rw [List.length_take] at hi
  obtain ⟨b, o, e, hc⟩ := h i (by omega)
  refine ⟨b, o, e, ?_⟩
  rw [hc]
  unfold List.getD
  rw [List.getElem?_take, if_pos (by omega)]
theorem own_slice {u : World} {base : Nat} {E : TypeId} {sz n : Nat} {v : Value} {xs : List Value} (h : u.ownsRow base E sz v n xs) : ∃ q c, v = .slice q n c := by
  obtain ⟨_, ⟨rfl, rfl⟩ | ⟨g, cap, cur, rfl, _⟩⟩ := h
  · exact ⟨_, _, rfl⟩
  · exact ⟨_, _, rfl⟩
def QW (l : List Int) (t : Int) (w : World) (e : Ending) (w' : World) : Prop := ∃ v, e = .returned (.tuple #[v, .int .i64 t]) ∧ Below w.heap.size w w' ∧ w'.ownsRow w.heap.size 3 1 v l.length (l.map (Value.int .i64))
theorem own_SlI {w : World} {base : Nat} {v : Value} {l : List Int} (h : w.ownsRow base 3 1 v l.length (l.map (Value.int .i64))) :
    ∃ p c, v = .slice p l.length c ∧ l.length ≤ c ∧ c ≤ maxLen ∧ Hid (SlI w p l) := by
  have h0 := h
  rcases h.2 with ⟨rfl, hn⟩ | ⟨g, cap, cur, rfl, hb, hg, hnc, hcm, hcs, ht⟩
  · exact ⟨none, 0, by rw [hn], by omega, by unfold maxLen; omega, Lib.hid fun i hi => by omega⟩
  · refine ⟨_, cap, rfl, hnc, hcm, Lib.hid fun i hi => ⟨g, 0, rfl, ?_⟩⟩
    rw [Nat.zero_add]
    exact cells_of h0 hi rfl
set_option maxHeartbeats 4000000 in
theorem ints1 (p q : Option Addr) (xs ys : List Int) (c d : Nat) (w : World) (hx : xs.length ≤ maxLen) (hy : ys.length ≤ maxLen) (RA : Hid (SlI w p xs)) (RB : Hid (SlI w q ys)) :
    Calls Try.prog 21 #[.slice p xs.length c, .slice q ys.length d] w fun e w' => e = .returned (.bool (decide (xs = ys))) ∧ ∃ k, w' = w.drewN k := by
  unfold maxLen at hx hy
  by_cases hl : xs.length = ys.length
  · obtain ⟨n, hn⟩ : ∃ n, xs.length = n := ⟨_, rfl⟩
    have hm : ys.length = n := by omega
    have HN := Lib.hid hn
    have HM := Lib.hid hm
    rw [hn] at hx ⊢
    rw [hm]
    clear hn hm hl hy
    go_enter Try.func21, Try.ntmps21
    go_wp2
    go_loopw [5] (fun i wr => ∃ k : Nat, i = .int .i64 k ∧ k ≤ n ∧ Hid (∀ j, j < k → xs.getD j 0 = ys.getD j 0) ∧ ∃ m, wr = w.drewN m) (fun i _ => n - (intOf i).toNat)
    case atStart => exact ⟨0, rfl, by omega, Lib.hid fun j hj => by omega, 0, rfl⟩
    case round =>
      obtain ⟨k, rfl, hk, hL, m, rfl⟩ := hrel
      by_cases hlt : k < n
      · obtain ⟨b, o, rfl, hc⟩ := RA.out k (by rw [HN.out]; exact hlt)
        obtain ⟨b', o', rfl, hc'⟩ := RB.out k (by rw [HM.out]; exact hlt)
        obtain ⟨x, hX⟩ : ∃ x, xs.getD k 0 = x := ⟨_, rfl⟩
        obtain ⟨y, hY⟩ : ∃ y, ys.getD k 0 = y := ⟨_, rfl⟩
        rw [hX] at hc
        rw [hY] at hc'
        have HX := Lib.hid hX
        have HY := Lib.hid hY
        have mi : (0 : Int) ≤ k := by omega
        have mi2 : (k : Int) < n := by omega
        clear hX hY
        obtain ⟨t, ht⟩ : ∃ t, (x != y) = t := ⟨_, rfl⟩
        have HT := Lib.hid ht
        cases t
        · go_wp2
          go_quiet (fail)
          go_wp2
          go_roundw
          case rel => exact ⟨k + 1, by go_num, by omega, Lib.hid fun j hj => by
            rcases (by omega : j < k ∨ j = k) with h | rfl
            · exact hL.out j h
            · rw [HX.out, HY.out]; simpa using HT.out, m + nq, by first | rfl | rw [World.drewN_drewN]⟩
          case measure => simp [intOf]; omega
        · go_wp2
          go_quiet (fail)
          go_wp2
          go_ret
          refine ⟨?_, m + nq, by first | rfl | rw [World.drewN_drewN]⟩
          refine ret_bool (decide_eq_false fun h => ?_).symm
          have h2 := HT.out
          rw [← HX.out, ← HY.out, h] at h2
          simp at h2
      · go_wp2
        go_ret
        refine ⟨?_, m, rfl⟩
        refine ret_bool (decide_eq_true ?_).symm
        refine List.ext_getElem (by rw [HN.out, HM.out]) fun j h1 h2 => ?_
        have h := hL.out j (by rw [HN.out] at h1; omega)
        rw [getD_at h1, getD_at h2] at h
        exact h
  · have k1 : ((xs.length : Int) != ys.length) = true := by simp <;> omega
    have k2 : (xs.length != ys.length) = true := by simpa using hl
    have k3 : (xs.length == ys.length) = false := by simpa using hl
    rw [decide_eq_false (fun h => hl (by rw [h]))]
    have HL := Lib.hid hl
    clear hl
    go_enter Try.func21, Try.ntmps21
    go_wp2
    go_ret
    exact ⟨rfl, 0, rfl⟩
theorem lit1 {w : World} {b : Nat} {x : Int} (h0 : w.cell? ⟨b, 0, none⟩ = some (.int .i64 x)) : SlI w (some ⟨b, 0, none⟩) [x] := by
  intro i hi
  refine ⟨b, 0, rfl, ?_⟩
  obtain rfl : i = 0 := by simp at hi; omega
  exact h0
theorem lit2 {w : World} {b : Nat} {x y : Int} (h0 : w.cell? ⟨b, 0, none⟩ = some (.int .i64 x)) (h1 : w.cell? ⟨b, 1, none⟩ = some (.int .i64 y)) : SlI w (some ⟨b, 0, none⟩) [x, y] := by
  intro i hi
  refine ⟨b, 0, rfl, ?_⟩
  rcases (by simp at hi; omega : i = 0 ∨ i = 1) with rfl | rfl
  · exact h0
  · exact h1
end Go.Proofs.Ytkdfidjoighknaa.Bx
