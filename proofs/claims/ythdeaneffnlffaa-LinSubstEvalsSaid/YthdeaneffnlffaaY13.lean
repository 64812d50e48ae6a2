/- Linear forms: products that fit. -/
import Derived.Test.YthdeaneffnlffaaY12
namespace Go.Proofs.Ythdeaneffnlffaa.Ln
open Go.ChangeShapes Go.WideShapes Go.ChangeAt Go.RowKit
set_option linter.unusedVariables false

def fit64 (n : Int) : Bool := decide (-9223372036854775808 ≤ n) && decide (n ≤ 9223372036854775807)
theorem fit_yes {n : Int} : fit64 n = true ↔ -9223372036854775808 ≤ n ∧ n ≤ 9223372036854775807 := by
  unfold fit64
  rw [Bool.and_eq_true, decide_eq_true_eq, decide_eq_true_eq]
theorem wrap_off (n : Int) : ∃ m : Int, IntKind.i64.wrap n = n - m * 18446744073709551616 ∧ -9223372036854775808 ≤ IntKind.i64.wrap n ∧ IntKind.i64.wrap n ≤ 9223372036854775807 := by
  rw [IntKind.wrap_i64]
  refine ⟨(n + 9223372036854775808) / 18446744073709551616, ?_, ?_, ?_⟩ <;> omega
/-- The quotient gives the factor back just where the product fits. -/
theorem back {a b C : Int} (hb : b ≠ 0) (hb1 : -9223372036854775808 ≤ b) (hb2 : b ≤ 9223372036854775807) (hC : C = IntKind.i64.wrap (a * b)) (h : C.tdiv b = a) : fit64 (a * b) = true := by
  obtain ⟨m, h1, h2, h3⟩ := wrap_off (a * b)
  rw [← hC] at h1 h2 h3
  have e := Int.mul_tdiv_add_tmod C b
  rw [h] at e
  have hm : (C.tmod b).natAbs < b.natAbs := by rw [Int.natAbs_tmod]; exact Nat.mod_lt _ (by omega)
  have hc : b * a = a * b := Int.mul_comm b a
  rw [hc] at e
  rw [fit_yes]
  generalize C.tmod b = r at *
  generalize a * b = P at *
  omega
theorem there {a b C : Int} (hb : b ≠ 0) (hC : C = IntKind.i64.wrap (a * b)) (h : fit64 (a * b) = true) : C = a * b ∧ C.tdiv b = a := by
  have hf := fit_yes.1 h
  have : C = a * b := by rw [hC]; exact IntWalk.i64_in _ hf
  exact ⟨this, by rw [this]; exact Int.mul_tdiv_cancel a hb⟩
set_option maxRecDepth 100000 in
set_option maxHeartbeats 8000000 in
theorem times (a b : Int) (w : World) (ha1 : -9223372036854775808 ≤ a) (ha2 : a ≤ 9223372036854775807) (hb1 : -9223372036854775808 ≤ b) (hb2 : b ≤ 9223372036854775807) :
    Calls Try.prog 41 #[.int .i64 a, .int .i64 b] w fun e w' => e = .returned (.tuple #[.int .i64 (if fit64 (a * b) = true then a * b else 0), .bool (fit64 (a * b))]) ∧ w = w' := by
  by_cases ha : a = 0
  · subst ha
    rw [Int.zero_mul, show fit64 0 = true from rfl, if_pos rfl]
    go_enter Try.func41, Try.ntmps41
    go_wp2
    exact bodyPost_ret (v := .tuple #[.int .i64 0, .bool true]) (by simp [results, Try.results41, go_sem]) rfl ⟨rfl, rfl⟩
  · have ha' : (a == 0) = false := beq_false_of_ne ha
    by_cases hb : b = 0
    · subst hb
      rw [Int.mul_zero, show fit64 0 = true from rfl, if_pos rfl]
      go_enter Try.func41, Try.ntmps41
      go_wp2
      exact bodyPost_ret (v := .tuple #[.int .i64 0, .bool true]) (by simp [results, Try.results41, go_sem]) rfl ⟨rfl, rfl⟩
    · have hb' : (b == 0) = false := beq_false_of_ne hb
      obtain ⟨C, hC⟩ : ∃ C, C = IntKind.i64.wrap (a * b) := ⟨_, rfl⟩
      obtain ⟨m, hmm, hC1, hC2⟩ := wrap_off (a * b)
      clear hmm
      rw [← hC] at hC1 hC2
      obtain ⟨D, hD⟩ : ∃ D, D = IntKind.i64.wrap (C.tdiv b) := ⟨_, rfl⟩
      by_cases hs : (a = -1 ∧ b = -9223372036854775808) ∨ (b = -1 ∧ a = -9223372036854775808)
      · rcases hs with ⟨rfl, rfl⟩ | ⟨rfl, rfl⟩
        · rw [show fit64 (-1 * -9223372036854775808) = false from rfl, if_neg (by decide)]
          go_enter Try.func41, Try.ntmps41
          go_wp2
          exact bodyPost_ret (v := .tuple #[.int .i64 0, .bool false]) (by simp [results, Try.results41, go_sem]) rfl ⟨rfl, rfl⟩
        · rw [show fit64 (-9223372036854775808 * -1) = false from rfl, if_neg (by decide)]
          go_enter Try.func41, Try.ntmps41
          go_wp2
          exact bodyPost_ret (v := .tuple #[.int .i64 0, .bool false]) (by simp [results, Try.results41, go_sem]) rfl ⟨rfl, rfl⟩
      · have W1 : wrap64 (a * b) = C := by rw [hC, IntKind.wrap_i64]; first | rfl | simp [wrap64]
        have W2 : wrap64 (C.tdiv b) = D := by rw [hD, IntKind.wrap_i64]; first | rfl | simp [wrap64]
        have W1' := hC.symm
        have W2' := hD.symm
        obtain ⟨q1, h1⟩ : ∃ q, (a == -1) = q := ⟨_, rfl⟩
        obtain ⟨q2, h2⟩ : ∃ q, (b == -9223372036854775808) = q := ⟨_, rfl⟩
        obtain ⟨q3, h3⟩ : ∃ q, (b == -1) = q := ⟨_, rfl⟩
        obtain ⟨q4, h4⟩ : ∃ q, (a == -9223372036854775808) = q := ⟨_, rfl⟩
        obtain ⟨q5, h5⟩ : ∃ q, (D == a) = q := ⟨_, rfl⟩
        have HF : fit64 (a * b) = q5 ∧ (q5 = true → C = a * b) := by
          have hr : -9223372036854775808 ≤ C.tdiv b ∧ C.tdiv b ≤ 9223372036854775807 := by
            by_cases hbm : b = -1
            · subst hbm
              have hn : C ≠ -9223372036854775808 := by
                rw [hC, show a * -1 = -a by omega, IntKind.wrap_i64]
                intro h
                exact hs (.inr ⟨rfl, by omega⟩)
              rw [Int.tdiv_neg, Int.tdiv_one]
              omega
            · by_cases hbp : b = 1
              · subst hbp
                rw [Int.tdiv_one]
                omega
              · have e1 : (C.tdiv b).natAbs = C.natAbs / b.natAbs := Int.natAbs_tdiv C b
                have e2 : C.natAbs / b.natAbs ≤ C.natAbs / 2 := Nat.div_le_div_left (by omega) (by omega)
                omega
          have hDC : D = C.tdiv b := by rw [hD]; exact IntWalk.i64_in _ hr
          have HA : q5 = true → fit64 (a * b) = true := fun h => back hb hb1 hb2 hC (by rw [← hDC]; rw [h] at h5; exact beq_iff_eq.1 h5)
          have HB : fit64 (a * b) = true → q5 = true := fun h => by rw [← h5, beq_iff_eq, hDC]; exact (there hb hC h).2
          exact ⟨by rw [Bool.eq_iff_iff]; exact ⟨HB, HA⟩, fun h => (there hb hC (HA h)).1⟩
        have H1 : ¬ (q1 = true ∧ q2 = true) := fun h => hs (.inl ⟨by have := h.1; rw [← h1, beq_iff_eq] at this; exact this, by have := h.2; rw [← h2, beq_iff_eq] at this; exact this⟩)
        have H2 : ¬ (q3 = true ∧ q4 = true) := fun h => hs (.inr ⟨by have := h.1; rw [← h3, beq_iff_eq] at this; exact this, by have := h.2; rw [← h4, beq_iff_eq] at this; exact this⟩)
        rw [HF.1]
        have HC := Lib.hid HF.2
        clear HF hD hC hs
        cases q5
        · rw [if_neg (by decide)]
          clear HC
          cases q1 <;> cases q2 <;> cases q3 <;> cases q4 <;> first | exact absurd ⟨rfl, rfl⟩ H1 | exact absurd ⟨rfl, rfl⟩ H2 | skip
          all_goals
            go_enter Try.func41, Try.ntmps41
            go_wp2
            first | done | exact bodyPost_ret (v := .tuple #[.int .i64 0, .bool false]) (by simp [results, Try.results41, go_sem]) rfl ⟨rfl, rfl⟩
        · rw [if_pos rfl, ← HC.out rfl]
          clear HC
          cases q1 <;> cases q2 <;> cases q3 <;> cases q4 <;> first | exact absurd ⟨rfl, rfl⟩ H1 | exact absurd ⟨rfl, rfl⟩ H2 | skip
          all_goals
            go_enter Try.func41, Try.ntmps41
            go_wp2
            first | done | exact bodyPost_ret (v := .tuple #[.int .i64 C, .bool true]) (by simp [results, Try.results41, go_sem]) rfl ⟨rfl, rfl⟩
end Go.Proofs.Ythdeaneffnlffaa.Ln
