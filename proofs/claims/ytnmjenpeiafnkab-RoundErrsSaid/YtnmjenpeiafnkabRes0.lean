/- The rounding error; Residual of package round and of the reference where they answer an error. -/
import Derived.Test.YtnmjenpeiafnkabQuant
import Derived.Test.YtnmjenpeiafnkabNew
import Derived.Test.YtnmjenpeiafnkabDivAll
namespace Go.Proofs.Ytnmjenpeiafnkab.Fr
open Go.ChangeShapes Go.WideShapes Go.ChangeAt Go.RowKit
set_option linter.unusedVariables false

set_option maxHeartbeats 16000000 in
/-- The rounding error of the quotient is less than the divisor. -/
theorem qerr (how n d : Int) (h : 1 ≤ how) (h' : how ≤ 4) (d0 : 1 ≤ d) (n0 : -2305843009213693952 ≤ n) (n1 : n ≤ 2305843009213693952) :
    Dv.derr how n d = 0 ∧ -2305843009213693953 ≤ Dv.dval how n d ∧ Dv.dval how n d ≤ 2305843009213693953 ∧ -d < n - Dv.dval how n d * d ∧ n - Dv.dval how n d * d < d ∧
      (how = 1 → 0 ≤ n - Dv.dval how n d * d) ∧ (how = 2 → n - Dv.dval how n d * d ≤ 0) ∧ (how = 4 → -d ≤ 2 * (n - Dv.dval how n d * d) ∧ 2 * (n - Dv.dval how n d * d) ≤ d) := by
  have F := Plain.tfacts n d (by omega)
  have hx : ¬ (n = -9223372036854775808 ∧ d = -1) := by omega
  have hv : Dv.derr how n d = 0 ∧ Dv.dval how n d = Plain.rnd how (n.tdiv d) (n.tmod d) d := by
    unfold Dv.derr Dv.dval
    rw [if_neg (by omega), if_neg (by omega), if_neg hx, if_neg (by omega), if_neg (by omega), if_neg hx]
    exact ⟨rfl, rfl⟩
  have hm := Int.mul_tdiv_add_tmod n d
  obtain ⟨q, hq⟩ : ∃ q, n.tdiv d = q := ⟨_, rfl⟩
  obtain ⟨r, hr⟩ : ∃ r, n.tmod d = r := ⟨_, rfl⟩
  rw [hq, hr] at F hv hm
  rw [Int.mul_comm] at hm
  obtain ⟨F1, F2, F3, F4, F5⟩ := F
  obtain ⟨p, hp⟩ : ∃ p, q * d = p := ⟨_, rfl⟩
  rw [hp] at hm
  refine ⟨hv.1, ?_⟩
  rw [hv.2]
  have hc : (Plain.rnd how q r d = q ∧ (how = 1 → 0 ≤ r) ∧ (how = 2 → r ≤ 0) ∧ (how = 4 → -d ≤ 2 * r ∧ 2 * r ≤ d)) ∨ (Plain.rnd how q r d = q + 1 ∧ 0 < r ∧ how ≠ 1 ∧ (how = 4 → -d ≤ 2 * (r - d) ∧ 2 * (r - d) ≤ d)) ∨ (Plain.rnd how q r d = q - 1 ∧ r < 0 ∧ how ≠ 2 ∧ (how = 4 → -d ≤ 2 * (r + d) ∧ 2 * (r + d) ≤ d)) := by
    rcases (by omega : how = 1 ∨ how = 2 ∨ how = 3 ∨ how = 4) with rfl | rfl | rfl | rfl <;> rcases (by omega : r = 0 ∨ 0 < r ∨ r < 0) with z | z | z
    all_goals
      unfold Plain.rnd
      (repeat' split) <;> first | (left; refine ⟨rfl, ?_, ?_, ?_⟩ <;> omega) | (right; left; refine ⟨rfl, ?_, ?_, ?_⟩ <;> omega) | (right; right; refine ⟨rfl, ?_, ?_, ?_⟩ <;> omega) | (exfalso; omega)
  have e1 : (q + 1) * d = p + d := by rw [Int.add_mul, Int.one_mul, hp]
  have e2 : (q - 1) * d = p - d := by rw [Int.sub_mul, Int.one_mul, hp]
  rcases hc with ⟨h0, ha, hb, hd⟩ | ⟨h0, h1, h2, hd⟩ | ⟨h0, h1, h2, hd⟩
  · rw [h0, hp]; omega
  · rw [h0, e1]; omega
  · rw [h0, e2]; omega
theorem rlow_any (n d : Int) (w : World) (n0 : -9223372036854775808 ≤ n) (n1 : n ≤ 9223372036854775807) (d0 : -9223372036854775808 ≤ d) (d1 : d ≤ 9223372036854775807) :
    Calls Try.prog 11 #[.int .i64 n, .int .i64 d] w (Ret (Frac3 (newN n d) (newD n d) (newE n d)) w) := by
  go_enter Try.func11, Try.ntmps11
  go_wp2_with (go_at_call 14; refine (new_any _ _ _ n0 n1 d0 d1).mono ?_; rintro e w1 ⟨rfl, hb⟩; have hc := (bcell hb).1; have hf := (bcell hb).2)
  refine bodyPost_ret (v := Frac3 _ _ _) (by simp [results, Try.results11, go_sem, hc]) rfl ⟨rfl, ?_⟩
  refine Below.setCell (Below.setCell ?_ (by simp) _) (by simp) _
  exact ((Below.refl _ _).alloc (Nat.le_refl _) _).trans (hb.mono (by simp))
set_option maxHeartbeats 4000000 in
theorem res_bad (n d frac how : Int) (w : World) (h : qok n d frac how = false) :
    Calls Try.prog 6 #[.agg #[.int .i64 n, .int .i64 d], .int .i64 frac, .int .i64 how] w (Ret (Frac3 0 0 1) w) := by
  go_enter Try.func6, Try.ntmps6
  go_wp2_with (go_at_call 10; refine (quant_bad _ _ _ _ _ h).mono ?_; rintro e w1 ⟨rfl, hb⟩; have hc := (bcell hb).1; have hf := (bcell hb).2)
  refine bodyPost_ret (v := Frac3 0 0 1) (by simp [results, Try.results6, go_sem, hc]) rfl ⟨rfl, ?_⟩
  refine Below.setCell (Below.setCell ?_ (by simp) _) (by simp) _
  exact (((Below.refl _ _).alloc (Nat.le_refl _) _).alloc (by simp) _).trans (hb.mono (by simp; omega))
set_option maxHeartbeats 4000000 in
theorem rres_bad (n d frac how : Int) (w : World) (h : qok n d frac how = false) :
    Calls Try.prog 12 #[.agg #[.int .i64 n, .int .i64 d], .int .i64 frac, .int .i64 how] w (Ret (Frac3 0 0 1) w) := by
  go_enter Try.func12, Try.ntmps12
  go_wp2_with (go_at_call 15; refine (rquant_bad _ _ _ _ _ h).mono ?_; rintro e w1 ⟨rfl, hb⟩; have hc := (bcell hb).1; have hf := (bcell hb).2)
  refine bodyPost_ret (v := Frac3 0 0 1) (by simp [results, Try.results12, go_sem, hc]) rfl ⟨rfl, ?_⟩
  refine Below.setCell (Below.setCell ?_ (by simp) _) (by simp) _
  exact (((Below.refl _ _).alloc (Nat.le_refl _) _).alloc (by simp) _).trans (hb.mono (by simp; omega))
end Go.Proofs.Ytnmjenpeiafnkab.Fr
