/- Check as a function. -/
import Derived.Test.YtghnigmmkenddaaC3
namespace Go.Proofs.Ytghnigmmkenddaa.Ar
open Go.ChangeShapes Go.WideShapes Go.ChangeAt Go.RowKit
open Go.Proofs.Ytghnigmmkenddaa.Lv Go.Proofs.Ytghnigmmkenddaa.Nm
set_option linter.unusedVariables false
set_option linter.unusedSimpArgs false

/-- Two slots clash. -/
def ckp (xs : List Lf) (ss : List St) (i k : Nat) : Bool := ov (xs.getD i lf0) (xs.getD k lf0) && (decide ((ss.getD i st0).2.1 < (ss.getD k st0).2.1 + (ss.getD k st0).2.2) && decide ((ss.getD k st0).2.1 < (ss.getD i st0).2.1 + (ss.getD i st0).2.2))
/-- The check of one slot. -/
def ck1 (xs : List Lf) (ss : List St) (size : Int) (i : Nat) : Int := if ((ss.getD i st0).1.toList == (xs.getD i lf0).1.toList) = false ∨ ((ss.getD i st0).2.2 == (xs.getD i lf0).2.2.2) = false then 1 else if (ss.getD i st0).2.1 < 0 ∨ size < (ss.getD i st0).2.2 ∨ size - (ss.getD i st0).2.2 < (ss.getD i st0).2.1 then 22 else if (List.range i).any (fun k => ckp xs ss i k) = true then 21 else 0
def ckG (xs : List Lf) (ss : List St) (size : Int) : Nat → Nat → Int × Int
  | 0, _ => (0, 0)
  | r + 1, i => if ck1 xs ss size i = 0 then ckG xs ss size r (i + 1) else ((i : Int), ck1 xs ss size i)
/-- Check's answer. -/
def ckF (xs : List Lf) (ss : List St) (size : Int) : Int × Int := if vE xs = 0 then if xs.length = ss.length then ckG xs ss size xs.length 0 else (0, 15) else (0, vE xs)
section
variable {xs : List Lf} {ss : List St} {size : Int} {i : Nat}
theorem ck1_a (h : ((ss.getD i st0).1.toList == (xs.getD i lf0).1.toList) = false ∨ ((ss.getD i st0).2.2 == (xs.getD i lf0).2.2.2) = false) : ck1 xs ss size i = 1 := by unfold ck1; rw [if_pos h]
theorem ck1_b (h1 : ((ss.getD i st0).1.toList == (xs.getD i lf0).1.toList) = true) (h2 : ((ss.getD i st0).2.2 == (xs.getD i lf0).2.2.2) = true) (h : (ss.getD i st0).2.1 < 0 ∨ size < (ss.getD i st0).2.2 ∨ size - (ss.getD i st0).2.2 < (ss.getD i st0).2.1) : ck1 xs ss size i = 22 := by
  unfold ck1; rw [if_neg (by rw [h1, h2]; simp), if_pos h]
theorem ck1_c (h1 : ((ss.getD i st0).1.toList == (xs.getD i lf0).1.toList) = true) (h2 : ((ss.getD i st0).2.2 == (xs.getD i lf0).2.2.2) = true) (h : ¬ ((ss.getD i st0).2.1 < 0 ∨ size < (ss.getD i st0).2.2 ∨ size - (ss.getD i st0).2.2 < (ss.getD i st0).2.1)) : ck1 xs ss size i = if (List.range i).any (fun k => ckp xs ss i k) = true then 21 else 0 := by
  unfold ck1; rw [if_neg (by rw [h1, h2]; simp), if_neg h]
theorem ck1_d (h1 : ((ss.getD i st0).1.toList == (xs.getD i lf0).1.toList) = true) (h2 : ((ss.getD i st0).2.2 == (xs.getD i lf0).2.2.2) = true) (h : ¬ ((ss.getD i st0).2.1 < 0 ∨ size < (ss.getD i st0).2.2 ∨ size - (ss.getD i st0).2.2 < (ss.getD i st0).2.1)) {k : Nat} (hk : k < i) (hc : ckp xs ss i k = true) : ck1 xs ss size i = 21 := by
  rw [ck1_c h1 h2 h, if_pos]
  rw [List.any_eq_true]
  exact ⟨k, List.mem_range.2 hk, hc⟩
theorem ck1_e (h1 : ((ss.getD i st0).1.toList == (xs.getD i lf0).1.toList) = true) (h2 : ((ss.getD i st0).2.2 == (xs.getD i lf0).2.2.2) = true) (h : ¬ ((ss.getD i st0).2.1 < 0 ∨ size < (ss.getD i st0).2.2 ∨ size - (ss.getD i st0).2.2 < (ss.getD i st0).2.1)) (hc : ∀ k, k < i → ckp xs ss i k = false) : ck1 xs ss size i = 0 := by
  rw [ck1_c h1 h2 h, if_neg]
  rw [List.any_eq_true]
  rintro ⟨k, hk, hc2⟩
  rw [hc k (List.mem_range.1 hk)] at hc2
  cases hc2
/-- What a slot is that has passed. -/
theorem ck1_ok (h : ck1 xs ss size i = 0) : (ss.getD i st0).1.toList = (xs.getD i lf0).1.toList ∧ (ss.getD i st0).2.2 = (xs.getD i lf0).2.2.2 ∧ 0 ≤ (ss.getD i st0).2.1 ∧ (ss.getD i st0).2.2 ≤ size ∧ (ss.getD i st0).2.1 ≤ size - (ss.getD i st0).2.2 ∧ ∀ k, k < i → ckp xs ss i k = false := by
  unfold ck1 at h
  by_cases a : ((ss.getD i st0).1.toList == (xs.getD i lf0).1.toList) = false ∨ ((ss.getD i st0).2.2 == (xs.getD i lf0).2.2.2) = false
  · rw [if_pos a] at h; exact absurd h (by decide)
  · rw [if_neg a] at h
    by_cases b : (ss.getD i st0).2.1 < 0 ∨ size < (ss.getD i st0).2.2 ∨ size - (ss.getD i st0).2.2 < (ss.getD i st0).2.1
    · rw [if_pos b] at h; exact absurd h (by decide)
    · rw [if_neg b] at h
      by_cases c : (List.range i).any (fun k => ckp xs ss i k) = true
      · rw [if_pos c] at h; exact absurd h (by decide)
      · simp only [not_or, Bool.not_eq_false, beq_iff_eq] at a
        refine ⟨a.1, a.2, by omega, by omega, by omega, fun k hk => ?_⟩
        rw [List.any_eq_true] at c
        cases h : ckp xs ss i k with
        | false => rfl
        | true => exact absurd ⟨k, List.mem_range.2 hk, h⟩ c
theorem ckG_next {r : Nat} (h : ck1 xs ss size i = 0) : ckG xs ss size (r + 1) i = ckG xs ss size r (i + 1) := by rw [ckG, if_pos h]
theorem ckG_stop {r : Nat} {v : Int} (h : ck1 xs ss size i = v) (hv : v ≠ 0) : ckG xs ss size (r + 1) i = ((i : Int), v) := by rw [ckG, h, if_neg hv]
end
theorem ret_two {a b a' b' : Int} (h : (a, b) = (a', b')) : Ending.returned (.tuple #[.int .i64 a, .int .i64 b]) = .returned (.tuple #[.int .i64 a', .int .i64 b']) := by cases h; rfl
theorem SlS.keep {w w' : World} {p : Option Addr} {xs : List St} (h : SlS w p xs) (hB : Below w.heap.size w w') : SlS w' p xs := fun i hi => by
  obtain ⟨b, o, rfl, c0, c1, c2⟩ := h i hi
  have hb : b < w.heap.size := by have := World.block_lt_of_cell? w _ c0; simpa using this
  exact ⟨b, o, rfl, kp hB hb c0, kp hB hb c1, kp hB hb c2⟩
theorem SlS_at {w : World} {p : Option Addr} {xs : List St} (h : SlS w p xs) {i n : Nat} (hn : xs.length = n) (hi : i < n) : ∃ b o, p = some ⟨b, o, none⟩ ∧ b < w.heap.size ∧ w.cell? ⟨b, o + i * 3, none⟩ = some (.string (xs.getD i st0).1) ∧ w.cell? ⟨b, o + i * 3 + 1, none⟩ = some (.int .i64 (xs.getD i st0).2.1) ∧ w.cell? ⟨b, o + i * 3 + 2, none⟩ = some (.int .i64 (xs.getD i st0).2.2) := by
  obtain ⟨b, o, e, c0, c1, c2⟩ := h i (by omega)
  exact ⟨b, o, e, by have := World.block_lt_of_cell? w _ c0; simpa using this, c0, c1, c2⟩
end Go.Proofs.Ytghnigmmkenddaa.Ar
