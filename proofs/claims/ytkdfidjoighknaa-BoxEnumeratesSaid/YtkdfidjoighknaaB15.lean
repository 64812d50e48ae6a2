/- Boxes: addProduct. -/
import Derived.Test.YtkdfidjoighknaaB14
import Derived.Test.YtkdfidjoighknaaShelf
namespace Go.Proofs.Ytkdfidjoighknaa.Bx
open Go.ChangeShapes Go.WideShapes Go.ChangeAt Go.RowKit
set_option linter.unusedVariables false
set_option linter.unusedSimpArgs false
theorem u64w (n : Int) : IntKind.u64.wrap n = n % 18446744073709551616 := by simp [IntKind.wrap, IntKind.bits, IntKind.signed]
theorem mulG (x y : Int) (hx : 0 ≤ x ∧ x < 18446744073709551616) (hy : 0 ≤ y ∧ y < 18446744073709551616) (w : World) : Calls Try.prog 87 #[.int .u64 x, .int .u64 y] w fun e w' => e = .returned (.tuple #[.int .u64 (x * y / 18446744073709551616), .int .u64 (x * y % 18446744073709551616)]) ∧ w = w' := by
  obtain ⟨n, rfl⟩ := Int.eq_ofNat_of_zero_le hx.1
  obtain ⟨m, rfl⟩ := Int.eq_ofNat_of_zero_le hy.1
  refine (Try.bits_Mul64 n m (by omega) (by omega) w).mono ?_
  rintro e w' ⟨rfl, rfl⟩
  exact ⟨by rw [Int.natCast_ediv, Int.natCast_emod, Int.natCast_mul]; rfl, rfl⟩
theorem w64 (n : Int) : wrap64 n = (n + 9223372036854775808) % 18446744073709551616 - 9223372036854775808 := by unfold wrap64; rfl
def ovB (b1 b2 b3 b4 c1 c2 c3 : Bool) : Bool := (b1 && (b2 || (b3 && b4))) && !((c1 == c2) && (c3 != c1))
theorem ov_pos_yes {Q n : Int} (h0 : 0 ≤ Q) (h1 : Q ≤ 9223372036854775807) (n0 : -9223372036854775808 ≤ n) (n1 : n ≤ 9223372036854775807) (h2 : n + Q ≤ 9223372036854775807) :
    ovB (Q / 18446744073709551616 == 0) (decide (Q % 18446744073709551616 < 9223372036854775808)) false (Q % 18446744073709551616 == 9223372036854775808) (decide (n < 0)) (decide (wrap64 Q < 0)) (decide (wrap64 (n + wrap64 Q) < 0)) = true ∧ wrap64 (n + wrap64 Q) = n + Q := by
  have e1 : wrap64 Q = Q := by rw [w64]; omega
  have e2 : wrap64 (n + Q) = n + Q := by rw [w64]; omega
  rw [e1, e2]
  refine ⟨?_, rfl⟩
  rw [beq_iff_eq.2 (show Q / 18446744073709551616 = 0 by omega), decide_eq_true (show Q % 18446744073709551616 < 9223372036854775808 by omega), decide_eq_false (show ¬ Q < 0 by omega)]
  by_cases hn : n < 0
  · rw [decide_eq_true hn]; simp [ovB]
  · rw [decide_eq_false hn, decide_eq_false (show ¬ n + Q < 0 by omega)]; simp [ovB]
theorem ov_pos_no {Q n : Int} (h0 : 0 ≤ Q) (n0 : -9223372036854775808 ≤ n) (n1 : n ≤ 9223372036854775807) (h2 : ¬ (Q ≤ 9223372036854775807 ∧ n + Q ≤ 9223372036854775807)) :
    ovB (Q / 18446744073709551616 == 0) (decide (Q % 18446744073709551616 < 9223372036854775808)) false (Q % 18446744073709551616 == 9223372036854775808) (decide (n < 0)) (decide (wrap64 Q < 0)) (decide (wrap64 (n + wrap64 Q) < 0)) = false := by
  by_cases h1 : Q ≤ 9223372036854775807
  · have e1 : wrap64 Q = Q := by rw [w64]; omega
    have e2 : wrap64 (n + Q) < 0 := by rw [w64]; omega
    rw [e1, decide_eq_true e2, decide_eq_false (show ¬ Q < 0 by omega), decide_eq_false (show ¬ n < 0 by omega)]
    simp [ovB]
  · by_cases hH : Q / 18446744073709551616 = 0
    · rw [decide_eq_false (show ¬ Q % 18446744073709551616 < 9223372036854775808 by omega)]
      simp [ovB]
    · rw [beq_false_of_ne hH]
      simp [ovB]
theorem ov_neg_yes {Q n : Int} (h0 : Q ≤ 0) (h1 : -9223372036854775808 ≤ Q) (n0 : -9223372036854775808 ≤ n) (n1 : n ≤ 9223372036854775807) (h2 : -9223372036854775808 ≤ n + Q) :
    ovB (-Q / 18446744073709551616 == 0) (decide (-Q % 18446744073709551616 < 9223372036854775808)) true (-Q % 18446744073709551616 == 9223372036854775808) (decide (n < 0)) (decide (wrap64 Q < 0)) (decide (wrap64 (n + wrap64 Q) < 0)) = true ∧ wrap64 (n + wrap64 Q) = n + Q := by
  have e1 : wrap64 Q = Q := by rw [w64]; omega
  have e2 : wrap64 (n + Q) = n + Q := by rw [w64]; omega
  rw [e1, e2]
  refine ⟨?_, rfl⟩
  rw [beq_iff_eq.2 (show -Q / 18446744073709551616 = 0 by omega)]
  have hb : (decide (-Q % 18446744073709551616 < 9223372036854775808) || (-Q % 18446744073709551616 == 9223372036854775808)) = true := by
    by_cases h : -Q % 18446744073709551616 < 9223372036854775808
    · rw [decide_eq_true h, Bool.true_or]
    · rw [beq_iff_eq.2 (show -Q % 18446744073709551616 = 9223372036854775808 by omega), Bool.or_true]
  unfold ovB
  rw [Bool.true_and, Bool.true_and, hb, Bool.true_and]
  by_cases hn : n < 0
  · by_cases hq : Q < 0
    · rw [decide_eq_true hn, decide_eq_true (show n + Q < 0 by omega)]; simp
    · rw [decide_eq_true hn, decide_eq_false hq]; simp
  · by_cases hq : Q < 0
    · rw [decide_eq_false hn, decide_eq_true hq]; simp
    · rw [decide_eq_false hn, decide_eq_false (show ¬ n + Q < 0 by omega)]; simp
theorem ov_neg_no {Q n : Int} (h0 : Q ≤ 0) (n0 : -9223372036854775808 ≤ n) (n1 : n ≤ 9223372036854775807) (h2 : ¬ (-9223372036854775808 ≤ Q ∧ -9223372036854775808 ≤ n + Q)) :
    ovB (-Q / 18446744073709551616 == 0) (decide (-Q % 18446744073709551616 < 9223372036854775808)) true (-Q % 18446744073709551616 == 9223372036854775808) (decide (n < 0)) (decide (wrap64 Q < 0)) (decide (wrap64 (n + wrap64 Q) < 0)) = false := by
  by_cases h1 : -9223372036854775808 ≤ Q
  · have e1 : wrap64 Q = Q := by rw [w64]; omega
    have e2 : ¬ wrap64 (n + Q) < 0 := by rw [w64]; omega
    rw [e1, decide_eq_false e2, decide_eq_true (show Q < 0 by omega), decide_eq_true (show n < 0 by omega)]
    simp [ovB]
  · by_cases hH : -Q / 18446744073709551616 = 0
    · rw [decide_eq_false (show ¬ -Q % 18446744073709551616 < 9223372036854775808 by omega), beq_false_of_ne (show -Q % 18446744073709551616 ≠ 9223372036854775808 by omega)]
      simp [ovB]
    · rw [beq_false_of_ne hH]
      simp [ovB]
/-- What addProduct answers: the sum where it and the product fit. -/
def APW (n Q : Int) (w : World) (e : Ending) (w' : World) : Prop := ∃ S F, e = .returned (.tuple #[.int .i64 S, .bool F]) ∧ (F = true ↔ (-9223372036854775808 ≤ Q ∧ Q ≤ 9223372036854775807) ∧ -9223372036854775808 ≤ n + Q ∧ n + Q ≤ 9223372036854775807) ∧ (F = true → S = n + Q) ∧ w = w'
theorem addp1 (n by' last : Int) (w : World) (n0 : -9223372036854775808 ≤ n) (n1 : n ≤ 9223372036854775807) (b0 : -9223372036854775808 ≤ by') (b1 : by' ≤ 9223372036854775807) (l0 : 0 ≤ last) (l1 : last ≤ 9223372036854775807) :
    Calls Try.prog 57 #[.int .i64 n, .int .i64 by', .int .i64 last] w (APW n (by' * last) w) := by
  have hL : IntKind.u64.wrap last = last := by rw [u64w]; omega
  have hwe : ∀ x, IntKind.i64.wrap x = wrap64 x := fun x => by rw [IntKind.wrap_i64, w64]
  by_cases h : by' < 0
  · have hA : IntKind.u64.wrap by' = by' + 18446744073709551616 := by rw [u64w]; omega
    have hN : IntKind.u64.wrap (-(by' + 18446744073709551616)) = -by' := by rw [u64w]; omega
    have M := Lib.hid fun w => mulG (-by') last ⟨by omega, by omega⟩ ⟨l0, by omega⟩ w
    rw [Int.neg_mul] at M
    have hQ0 : by' * last ≤ 0 := Int.mul_nonpos_of_nonpos_of_nonneg (by omega) l0
    have C := apN n by' last _ _ _ _ _ _ _ _ _ _ _ _ w hA hL hN M (hwe _) rfl (hwe _) rfl rfl rfl (decide_eq_true h) rfl rfl rfl rfl
    generalize by' * last = Q at *
    refine C.mono ?_
    rintro e w' ⟨rfl, rfl⟩
    refine ⟨_, _, rfl, ?_, ?_, rfl⟩
    · constructor
      · intro hF
        by_cases hh : -9223372036854775808 ≤ Q ∧ -9223372036854775808 ≤ n + Q
        · omega
        · have := ov_neg_no hQ0 n0 n1 hh; unfold ovB at this; rw [this] at hF; cases hF
      · rintro ⟨⟨h1, h2⟩, h3, h4⟩
        exact (ov_neg_yes hQ0 h1 n0 n1 h3).1
    · intro hF
      by_cases hh : -9223372036854775808 ≤ Q ∧ -9223372036854775808 ≤ n + Q
      · exact (ov_neg_yes hQ0 hh.1 n0 n1 hh.2).2
      · have := ov_neg_no hQ0 n0 n1 hh; unfold ovB at this; rw [this] at hF; cases hF
  · have hA : IntKind.u64.wrap by' = by' := by rw [u64w]; omega
    have M := Lib.hid fun w => mulG by' last ⟨by omega, by omega⟩ ⟨l0, by omega⟩ w
    have hQ0 : 0 ≤ by' * last := Int.mul_nonneg (by omega) l0
    have C := apP n by' last _ _ _ _ _ _ _ _ _ _ _ _ w hA hL rfl M (hwe _) rfl (hwe _) rfl rfl rfl (decide_eq_false h) rfl rfl rfl rfl
    generalize by' * last = Q at *
    refine C.mono ?_
    rintro e w' ⟨rfl, rfl⟩
    refine ⟨_, _, rfl, ?_, ?_, rfl⟩
    · constructor
      · intro hF
        by_cases hh : Q ≤ 9223372036854775807 ∧ n + Q ≤ 9223372036854775807
        · omega
        · have := ov_pos_no hQ0 n0 n1 hh; unfold ovB at this; rw [this] at hF; cases hF
      · rintro ⟨⟨h1, h2⟩, h3, h4⟩
        exact (ov_pos_yes hQ0 h2 n0 n1 h4).1
    · intro hF
      by_cases hh : Q ≤ 9223372036854775807 ∧ n + Q ≤ 9223372036854775807
      · exact (ov_pos_yes hQ0 hh.1 n0 n1 hh.2).2
      · have := ov_pos_no hQ0 n0 n1 hh; unfold ovB at this; rw [this] at hF; cases hF
end Go.Proofs.Ytkdfidjoighknaa.Bx
