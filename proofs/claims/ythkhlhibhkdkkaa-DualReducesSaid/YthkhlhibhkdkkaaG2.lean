/- Valid of package fixed and of the reference; Val of the base at a fixed-point kind. -/
import Derived.Test.YthkhlhibhkdkkaaFxVa
import Derived.Test.YthkhlhibhkdkkaaRows
import Derived.WalkKit
import Derived.ProofKit
import Derived.OpenShut
import Derived.WalkLawsBesides
import Derived.WalkSpells
import Derived.Outline
import Derived.Handy
import Derived.Deep.QuietTactic
import Derived.BigQuiet
import Derived.Lib.Hide

namespace Go.Proofs.Ythkhlhibhkdkkaa.Fx
open Go.ChangeShapes Go.WideShapes Go.ChangeAt Go.RowKit
open Fr
set_option linter.unusedVariables false
set_option linter.unusedSimpArgs false
/-- The values of a fixed-point type. -/
def fv (K B F R O n d : Int) : Bool := tv K B F R O && decide (d = 1 ∧ - Nx.half B ≤ n ∧ n ≤ Nx.half B - 1)
theorem half_of {B : Int} (h : 2 ≤ B) (h' : B ≤ 31) : (2 : Int) ^ (B.toNat - 1) = Nx.half B ∧ 2 ≤ Nx.half B ∧ Nx.half B ≤ 1073741824 ∧ Nx.full B = 2 * Nx.half B := by
  rcases Nx.widths B h h' with ⟨rfl, hh, hf⟩ | ⟨rfl, hh, hf⟩ | ⟨rfl, hh, hf⟩ | ⟨rfl, hh, hf⟩ | ⟨rfl, hh, hf⟩ | ⟨rfl, hh, hf⟩ | ⟨rfl, hh, hf⟩ | ⟨rfl, hh, hf⟩ | ⟨rfl, hh, hf⟩ | ⟨rfl, hh, hf⟩ | ⟨rfl, hh, hf⟩ | ⟨rfl, hh, hf⟩ | ⟨rfl, hh, hf⟩ | ⟨rfl, hh, hf⟩ | ⟨rfl, hh, hf⟩ | ⟨rfl, hh, hf⟩ | ⟨rfl, hh, hf⟩ | ⟨rfl, hh, hf⟩ | ⟨rfl, hh, hf⟩ | ⟨rfl, hh, hf⟩ | ⟨rfl, hh, hf⟩ | ⟨rfl, hh, hf⟩ | ⟨rfl, hh, hf⟩ | ⟨rfl, hh, hf⟩ | ⟨rfl, hh, hf⟩ | ⟨rfl, hh, hf⟩ | ⟨rfl, hh, hf⟩ | ⟨rfl, hh, hf⟩ | ⟨rfl, hh, hf⟩ | ⟨rfl, hh, hf⟩
  all_goals exact ⟨rfl, by omega, by omega, by omega⟩
theorem fval (K B F R O n d : Int) (w : World) (b0 : -9223372036854775808 ≤ B) (b1 : B ≤ 9223372036854775807) : Calls Try.prog 54 #[.agg #[.int .i64 K, .int .i64 B, .int .i64 F, .int .i64 R, .int .i64 O], .agg #[.int .i64 n, .int .i64 d]] w (Ret (.bool (fv K B F R O n d)) w) := by
  have MN := Lib.hid fun w => Nx.min_any B w b0 b1
  have MX := Lib.hid fun w => Nx.max_any B w b0 b1
  by_cases h : tv K B F R O = true
  · obtain ⟨h1, h2, h3, h4, h5, h6, h7, h8⟩ := tv_parts h
    have VT := Lib.hid fun w => vt_ok K B F R O w h
    have e1 : Nx.mnv B = - Nx.half B := by unfold Nx.mnv; rw [if_neg (by omega)]
    have e2 : Nx.mxv B = Nx.half B - 1 := by unfold Nx.mxv; rw [if_neg (by omega)]
    rw [e1] at MN
    rw [e2] at MX
    unfold fv
    rw [h, Bool.true_and]
    by_cases hd : d = 1
    · by_cases hl : - Nx.half B ≤ n
      · exact fval_hi K B F R O n d _ _ w VT MN MX _ (by simpa using hd) (by simpa using hl) (by simp [hd, hl])
      · rw [decide_eq_false (by omega)]
        exact fval_lo K B F R O n d _ _ w VT MN MX (by simpa using hd) (by simp; omega)
    · rw [decide_eq_false (by omega)]
      exact fval_d K B F R O n d _ _ w VT MN MX (by simpa using hd)
  · have h' : tv K B F R O = false := by simpa using h
    have VT := Lib.hid fun w => vt_bad K B F R O w h'
    unfold fv
    rw [h', Bool.false_and]
    exact fval_tv K B F R O n d _ _ w VT MN MX
set_option maxHeartbeats 4000000 in
theorem bvk (K B F R O n d : Int) (w : World) (h : tv K B F R O = true) : Calls Try.prog 40 #[.agg #[.int .i64 K, .int .i64 B, .int .i64 F, .int .i64 R, .int .i64 O], .agg #[.int .i64 n, .int .i64 d]] w (Ret (.bool (fv K B F R O n d)) w) := by
  obtain ⟨h1, h2, h3, h4, h5, h6, h7, h8⟩ := tv_parts h
  unfold fv
  rw [h, Bool.true_and]
  obtain ⟨H1, H2, H3, _⟩ := half_of h2 h3
  generalize Nx.half B = H at *
  have k1 : (K == 2) = true := by simpa using h1
  have g1 : 0 ≤ B - 1 := by omega
  clear h h1 h4 h5 h6 h7 h8
  by_cases hd : d = 1
  · by_cases hl : - H ≤ n
    · obtain ⟨x, hx⟩ : ∃ x, decide (n < H) = x := ⟨_, rfl⟩
      have e : decide (d = 1 ∧ -H ≤ n ∧ n ≤ H - 1) = x := by rw [← hx]; simp [hd, hl]; omega
      rw [e]
      have k2 : (d == 1) = true := by simpa using hd
      have k3 : decide (-H ≤ n) = true := by simpa using hl
      clear e hd hl
      cases x
      all_goals
        go_enter Try.func40, Try.ntmps40
        go_wp2
        go_ret
        exact ⟨rfl, by go_grown⟩
    · rw [decide_eq_false (by omega)]
      have k2 : (d == 1) = true := by simpa using hd
      have k3 : decide (-H ≤ n) = false := by simp; omega
      clear hd hl
      go_enter Try.func40, Try.ntmps40
      go_wp2
      go_ret
      exact ⟨rfl, by go_grown⟩
  · rw [decide_eq_false (by omega)]
    have k2 : (d == 1) = false := by simpa using hd
    clear hd
    go_enter Try.func40, Try.ntmps40
    go_wp2
    go_ret
    exact ⟨rfl, by go_grown⟩
end Go.Proofs.Ythkhlhibhkdkkaa.Fx


namespace Go.Proofs.Ythkhlhibhkdkkaa.Plain

set_option linter.unusedVariables false
set_option linter.unusedSimpArgs false
theorem tfacts (n d : Int) (hd : d ≠ 0) :
    (n.tmod d).natAbs < d.natAbs ∧ (n.tdiv d).natAbs ≤ n.natAbs ∧ (n.tmod d ≠ 0 → 2 * (n.tdiv d).natAbs ≤ n.natAbs) ∧
    (0 < n.tmod d → 0 < n) ∧ (n.tmod d < 0 → n < 0) := by
  have hr : (n.tmod d).natAbs = n.natAbs % d.natAbs := by simp
  have hq : (n.tdiv d).natAbs = n.natAbs / d.natAbs := by rw [Int.natAbs_tdiv]; rfl
  have hdp : 0 < d.natAbs := by omega
  have hlt := Nat.mod_lt n.natAbs hdp
  refine ⟨by omega, by rw [hq]; exact Nat.div_le_self _ _, ?_, ?_, ?_⟩
  · intro h
    have h2 : 2 ≤ d.natAbs := by
      by_cases h1 : d.natAbs = 1
      · rw [h1, Nat.mod_one] at hr; omega
      · omega
    rw [hq]
    have h3 := Nat.div_mul_le_self n.natAbs d.natAbs
    have h4 := Nat.mul_le_mul_left (n.natAbs / d.natAbs) h2
    omega
  · intro h
    by_cases hn : n ≤ 0
    · have := Int.tmod_nonneg (-d) (a := -n) (by omega)
      rw [Int.neg_tmod, Int.tmod_neg] at this; omega
    · omega
  · intro h
    by_cases hn : 0 ≤ n
    · have := Int.tmod_nonneg d hn; omega
    · omega

theorem natAbs_div (n d : Int) : (n.tdiv d).natAbs = n.natAbs / d.natAbs := by rw [Int.natAbs_tdiv]; rfl

theorem tsign (n d : Int) :
    (0 < n → 0 < d → 0 ≤ n.tdiv d) ∧ (n < 0 → d < 0 → 0 ≤ n.tdiv d) ∧ (0 < n → d < 0 → n.tdiv d ≤ 0) ∧ (n < 0 → 0 < d → n.tdiv d ≤ 0) := by
  refine ⟨fun a b => Int.tdiv_nonneg (by omega) (by omega), fun a b => ?_, fun a b => ?_, fun a b => ?_⟩
  · have := Int.tdiv_nonneg (a := -n) (b := -d) (by omega) (by omega)
    rwa [Int.neg_tdiv, Int.tdiv_neg, Int.neg_neg] at this
  · have := Int.tdiv_nonneg (a := n) (b := -d) (by omega) (by omega)
    rw [Int.tdiv_neg] at this; omega
  · have := Int.tdiv_nonneg (a := -n) (b := d) (by omega) (by omega)
    rw [Int.neg_tdiv] at this; omega

theorem even_iff (q : Int) : q.tmod 2 = 0 ↔ q % 2 = 0 := by
  rw [← Int.dvd_iff_tmod_eq_zero, Int.dvd_iff_emod_eq_zero]

/-- The rounded quotient where it is defined: 1 down, 2 up, 3 toward zero, 4 to nearest, ties to even; q and r are Go's quotient and remainder. -/
def rnd (how q r d : Int) : Int :=
  if r = 0 then q
  else if how = 3 then q
  else if how = 1 then (if (r < 0 ↔ d < 0) then q else q - 1)
  else if how = 2 then (if (r < 0 ↔ d < 0) then q + 1 else q)
  else if 2 * (if r < 0 then -r else r) < (if d < 0 then -d else d) then q
  else if 2 * (if r < 0 then -r else r) = (if d < 0 then -d else d) ∧ q % 2 = 0 then q
  else (if (r < 0 ↔ d < 0) then q + 1 else q - 1)

theorem rnd1_pp (q r d : Int) (b3 : 0 < r) (b4 : r < d) : rnd 1 q r d = q := by
  unfold rnd; (repeat' split) <;> omega
theorem rnd2_pp (q r d : Int) (b3 : 0 < r) (b4 : r < d) : rnd 2 q r d = q + 1 := by
  unfold rnd; (repeat' split) <;> omega
theorem rnd3_pp (q r d : Int) (b3 : 0 < r) (b4 : r < d) : rnd 3 q r d = q := by
  unfold rnd; (repeat' split) <;> omega
theorem rnd4_pp_lt (q r d : Int) (b3 : 0 < r) (b4 : r < d) (t : r < d - r) : rnd 4 q r d = q := by
  unfold rnd; (repeat' split) <;> omega
theorem rnd4_pp_ev (q r d : Int) (b3 : 0 < r) (b4 : r < d) (t : r = d - r) (e : q % 2 = 0) : rnd 4 q r d = q := by
  unfold rnd; (repeat' split) <;> omega
theorem rnd4_pp_od (q r d : Int) (b3 : 0 < r) (b4 : r < d) (t : r = d - r) (e : q % 2 = 1) : rnd 4 q r d = q + 1 := by
  unfold rnd; (repeat' split) <;> omega
theorem rnd4_pp_gt (q r d : Int) (b3 : 0 < r) (b4 : r < d) (t : d - r < r) : rnd 4 q r d = q + 1 := by
  unfold rnd; (repeat' split) <;> omega
theorem rnd1_np (q r d : Int) (b3 : r < 0) (b4 : -r < d) : rnd 1 q r d = (q - 1) := by
  unfold rnd; (repeat' split) <;> omega
theorem rnd2_np (q r d : Int) (b3 : r < 0) (b4 : -r < d) : rnd 2 q r d = (q - 1) + 1 := by
  unfold rnd; (repeat' split) <;> omega
theorem rnd3_np (q r d : Int) (b3 : r < 0) (b4 : -r < d) : rnd 3 q r d = q := by
  unfold rnd; (repeat' split) <;> omega
theorem rnd4_np_lt (q r d : Int) (b3 : r < 0) (b4 : -r < d) (t : (r + d) < d - (r + d)) : rnd 4 q r d = (q - 1) := by
  unfold rnd; (repeat' split) <;> omega
theorem rnd4_np_ev (q r d : Int) (b3 : r < 0) (b4 : -r < d) (t : (r + d) = d - (r + d)) (e : (q - 1) % 2 = 0) : rnd 4 q r d = (q - 1) := by
  unfold rnd; (repeat' split) <;> omega
theorem rnd4_np_od (q r d : Int) (b3 : r < 0) (b4 : -r < d) (t : (r + d) = d - (r + d)) (e : (q - 1) % 2 = 1) : rnd 4 q r d = (q - 1) + 1 := by
  unfold rnd; (repeat' split) <;> omega
theorem rnd4_np_gt (q r d : Int) (b3 : r < 0) (b4 : -r < d) (t : d - (r + d) < (r + d)) : rnd 4 q r d = (q - 1) + 1 := by
  unfold rnd; (repeat' split) <;> omega
theorem rnd1_nn (q r d : Int) (b3 : r < 0) (b4 : d < r) : rnd 1 q r d = q := by
  unfold rnd; (repeat' split) <;> omega
theorem rnd2_nn (q r d : Int) (b3 : r < 0) (b4 : d < r) : rnd 2 q r d = q + 1 := by
  unfold rnd; (repeat' split) <;> omega
theorem rnd3_nn (q r d : Int) (b3 : r < 0) (b4 : d < r) : rnd 3 q r d = q := by
  unfold rnd; (repeat' split) <;> omega
theorem rnd4_nn_lt (q r d : Int) (b3 : r < 0) (b4 : d < r) (t : (-r) < (-d) - (-r)) : rnd 4 q r d = q := by
  unfold rnd; (repeat' split) <;> omega
theorem rnd4_nn_ev (q r d : Int) (b3 : r < 0) (b4 : d < r) (t : (-r) = (-d) - (-r)) (e : q % 2 = 0) : rnd 4 q r d = q := by
  unfold rnd; (repeat' split) <;> omega
theorem rnd4_nn_od (q r d : Int) (b3 : r < 0) (b4 : d < r) (t : (-r) = (-d) - (-r)) (e : q % 2 = 1) : rnd 4 q r d = q + 1 := by
  unfold rnd; (repeat' split) <;> omega
theorem rnd4_nn_gt (q r d : Int) (b3 : r < 0) (b4 : d < r) (t : (-d) - (-r) < (-r)) : rnd 4 q r d = q + 1 := by
  unfold rnd; (repeat' split) <;> omega
theorem rnd1_pn (q r d : Int) (b3 : 0 < r) (b4 : r < -d) : rnd 1 q r d = (q - 1) := by
  unfold rnd; (repeat' split) <;> omega
theorem rnd2_pn (q r d : Int) (b3 : 0 < r) (b4 : r < -d) : rnd 2 q r d = (q - 1) + 1 := by
  unfold rnd; (repeat' split) <;> omega
theorem rnd3_pn (q r d : Int) (b3 : 0 < r) (b4 : r < -d) : rnd 3 q r d = q := by
  unfold rnd; (repeat' split) <;> omega
theorem rnd4_pn_lt (q r d : Int) (b3 : 0 < r) (b4 : r < -d) (t : (-(r + d)) < (-d) - (-(r + d))) : rnd 4 q r d = (q - 1) := by
  unfold rnd; (repeat' split) <;> omega
theorem rnd4_pn_ev (q r d : Int) (b3 : 0 < r) (b4 : r < -d) (t : (-(r + d)) = (-d) - (-(r + d))) (e : (q - 1) % 2 = 0) : rnd 4 q r d = (q - 1) := by
  unfold rnd; (repeat' split) <;> omega
theorem rnd4_pn_od (q r d : Int) (b3 : 0 < r) (b4 : r < -d) (t : (-(r + d)) = (-d) - (-(r + d))) (e : (q - 1) % 2 = 1) : rnd 4 q r d = (q - 1) + 1 := by
  unfold rnd; (repeat' split) <;> omega
theorem rnd4_pn_gt (q r d : Int) (b3 : 0 < r) (b4 : r < -d) (t : (-d) - (-(r + d)) < (-(r + d))) : rnd 4 q r d = (q - 1) + 1 := by
  unfold rnd; (repeat' split) <;> omega
end Go.Proofs.Ythkhlhibhkdkkaa.Plain


namespace Go.Proofs.Ythkhlhibhkdkkaa.Dv
open Go.ChangeShapes Go.WideShapes Go.ChangeAt Go.RowKit
set_option linter.unusedVariables false
set_option linter.unusedSimpArgs false
theorem ret_int {k : IntKind} {a b : Int} (h : a = b) : Ending.returned (.int k a) = .returned (.int k b) := by rw [h]
theorem mag_neg (n : Int) (w : World) (h : n < 0) (h' : -9223372036854775808 ≤ n) :
    Calls Try.prog 83 #[.int .i64 n] w fun e w' => e = .returned (.int .u64 (-n)) ∧ w = w' := by
  have e : IntKind.u64.wrap (-IntKind.u64.wrap n) = -n := by go_arith
  go_enter Try.func83, Try.ntmps83
  go_wp2
  go_ret
  exact ⟨rfl, rfl⟩
theorem mag_pos (n : Int) (w : World) (h : 0 ≤ n) (h' : n ≤ 9223372036854775807) :
    Calls Try.prog 83 #[.int .i64 n] w fun e w' => e = .returned (.int .u64 n) ∧ w = w' := by
  go_enter Try.func83, Try.ntmps83
  go_wp2
  go_ret
  exact ⟨rfl, rfl⟩
theorem mode_ok (n : Int) (w : World) (h : 1 ≤ n) (h' : n ≤ 4) :
    Calls Try.prog 82 #[.int .i64 n] w fun e w' => e = .returned (.bool true) ∧ w = w' := by
  have h2 : decide (n ≤ 4) = true := by simp; omega
  go_enter Try.func82, Try.ntmps82
  go_wp2
  go_ret
  exact ⟨rfl, rfl⟩
theorem ret2 {k : IntKind} {a b : Int} {x : Value} (h : a = b) : Ending.returned (.tuple #[.int k a, x]) = .returned (.tuple #[.int k b, x]) := by rw [h]
end Go.Proofs.Ythkhlhibhkdkkaa.Dv


namespace Go.Proofs.Ythkhlhibhkdkkaa.Dv
open Go.ChangeShapes Go.WideShapes Go.ChangeAt Go.RowKit
set_option linter.unusedVariables false
set_option linter.unusedSimpArgs false
theorem mode_bad (n : Int) (w : World) (h : n < 1 ∨ 4 < n) :
    Calls Try.prog 82 #[.int .i64 n] w fun e w' => e = .returned (.bool false) ∧ w = w' := by
  rcases h with h | h
  · have h1 : decide (1 ≤ n) = false := by simp; omega
    go_enter Try.func82, Try.ntmps82
    go_wp2
    go_ret
    exact ⟨rfl, rfl⟩
  · have h2 : decide (n ≤ 4) = false := by simp; omega
    go_enter Try.func82, Try.ntmps82
    go_wp2
    go_ret
    exact ⟨rfl, rfl⟩
theorem div_bad (n d how : Int) (w : World) (h : how < 1 ∨ 4 < how) :
    Calls Try.prog 62 #[.int .i64 n, .int .i64 d, .int .i64 how] w fun e w' => e = .returned (.tuple #[.int .i64 0, .int .i64 1]) ∧ ∃ k, w' = w.drewN k := by
  go_enter Try.func62, Try.ntmps62
  go_wp2
  go_step3
  go_wp2_with (first | (go_at_call 82; refine (mode_bad _ _ h).mono ?_; rintro e w' ⟨rfl, rfl⟩))
  rw [Exit.noGoto_ret]
  go_ret2
  exact ⟨rfl, 0, rfl⟩
theorem div_zero (n how : Int) (w : World) (h : 1 ≤ how) (h' : how ≤ 4) :
    Calls Try.prog 62 #[.int .i64 n, .int .i64 0, .int .i64 how] w fun e w' => e = .returned (.tuple #[.int .i64 0, .int .i64 4]) ∧ ∃ k, w' = w.drewN k := by
  go_enter Try.func62, Try.ntmps62
  go_wp2_with (first | (go_at_call 82; refine (mode_ok _ _ (by omega) (by omega)).mono ?_; rintro e w' ⟨rfl, rfl⟩))
  go_step3
  go_wp2
  rw [Exit.noGoto_ret]
  go_ret2
  exact ⟨rfl, 0, rfl⟩
theorem div_min (how : Int) (w : World) (h : 1 ≤ how) (h' : how ≤ 4) :
    Calls Try.prog 62 #[.int .i64 (-9223372036854775808), .int .i64 (-1), .int .i64 how] w fun e w' => e = .returned (.tuple #[.int .i64 0, .int .i64 3]) ∧ ∃ k, w' = w.drewN k := by
  go_enter Try.func62, Try.ntmps62
  go_wp2_with (first | (go_at_call 82; refine (mode_ok _ _ (by omega) (by omega)).mono ?_; rintro e w' ⟨rfl, rfl⟩))
  go_step3
  go_wp2
  rw [Exit.noGoto_ret]
  go_ret2
  exact ⟨rfl, 0, rfl⟩
end Go.Proofs.Ythkhlhibhkdkkaa.Dv


namespace Go.Proofs.Ythkhlhibhkdkkaa.Dv
open Go.ChangeShapes Go.WideShapes Go.ChangeAt Go.RowKit
set_option linter.unusedVariables false
set_option linter.unusedSimpArgs false
set_option maxHeartbeats 4000000 in
theorem div_pp1 (n d q r : Int) (b : Bool) (w : World) (n0 : -9223372036854775808 ≤ n) (n1 : n ≤ 9223372036854775807) (hq : n.tdiv d = q) (hr : n.tmod d = r)
   (b1 : -4611686018427387904 ≤ q) (b2 : q ≤ 4611686018427387904) (b6 : -9223372036854775808 ≤ d) (b7 : d ≤ 9223372036854775807) (g0 : (n == -9223372036854775808) = b) (g1 : (d == -1) = false) (b3 : 0 < r) (b4 : r < d) (b5 : 0 ≤ q) :
    Calls Try.prog 62 #[.int .i64 n, .int .i64 d, .int .i64 1] w fun e w' => e = .returned (.tuple #[.int .i64 (Plain.rnd 1 q r d), .int .i64 0]) ∧ ∃ k, w' = w.drewN k := by
  have d0 : (d == 0) = false := by simp; omega
  have r0 : (r == 0) = false := by simp; omega
  have r1 : (r != 0) = true := by simp; omega
  have r2 : decide (r < 0) = false := by simp; omega
  have d2 : decide (d < 0) = false := by simp; omega
  have z0 : (r == 0) = false := by simp; omega
  have H := Lib.hid (Plain.rnd1_pp q r d b3 b4)
  cases b
  all_goals
    go_enter Try.func62, Try.ntmps62
    go_wp2_with (first | (go_at_call 82; refine (mode_ok _ _ (by omega) (by omega)).mono ?_; rintro e w' ⟨rfl, rfl⟩))
    go_step3
    go_wp2
    go_quiet (fail)
    go_wp2_with (first | (go_at_call 83; refine (mag_pos _ _ (by omega) (by omega)).mono ?_; rintro e w' ⟨rfl, rfl⟩) | (go_at_call 83; refine (mag_neg _ _ (by omega) (by omega)).mono ?_; rintro e w' ⟨rfl, rfl⟩))
    go_step3
    go_wp2
    refine wp_loop_rounds 2 ?_
    repeat any_goals (rw [rounds_succ]; go_wp2)
    try rw [Exit.noGoto_ret]
    go_ret2
    exact ⟨ret2 (by have h := H.out; omega), _, rfl⟩
set_option maxHeartbeats 4000000 in
theorem div_pp2 (n d q r : Int) (b : Bool) (w : World) (n0 : -9223372036854775808 ≤ n) (n1 : n ≤ 9223372036854775807) (hq : n.tdiv d = q) (hr : n.tmod d = r)
   (b1 : -4611686018427387904 ≤ q) (b2 : q ≤ 4611686018427387904) (b6 : -9223372036854775808 ≤ d) (b7 : d ≤ 9223372036854775807) (g0 : (n == -9223372036854775808) = b) (g1 : (d == -1) = false) (b3 : 0 < r) (b4 : r < d) (b5 : 0 ≤ q) :
    Calls Try.prog 62 #[.int .i64 n, .int .i64 d, .int .i64 2] w fun e w' => e = .returned (.tuple #[.int .i64 (Plain.rnd 2 q r d), .int .i64 0]) ∧ ∃ k, w' = w.drewN k := by
  have d0 : (d == 0) = false := by simp; omega
  have r0 : (r == 0) = false := by simp; omega
  have r1 : (r != 0) = true := by simp; omega
  have r2 : decide (r < 0) = false := by simp; omega
  have d2 : decide (d < 0) = false := by simp; omega
  have z0 : (r == 0) = false := by simp; omega
  have H := Lib.hid (Plain.rnd2_pp q r d b3 b4)
  cases b
  all_goals
    go_enter Try.func62, Try.ntmps62
    go_wp2_with (first | (go_at_call 82; refine (mode_ok _ _ (by omega) (by omega)).mono ?_; rintro e w' ⟨rfl, rfl⟩))
    go_step3
    go_wp2
    go_quiet (fail)
    go_wp2_with (first | (go_at_call 83; refine (mag_pos _ _ (by omega) (by omega)).mono ?_; rintro e w' ⟨rfl, rfl⟩) | (go_at_call 83; refine (mag_neg _ _ (by omega) (by omega)).mono ?_; rintro e w' ⟨rfl, rfl⟩))
    go_step3
    go_wp2
    refine wp_loop_rounds 2 ?_
    repeat any_goals (rw [rounds_succ]; go_wp2)
    try rw [Exit.noGoto_ret]
    go_ret2
    exact ⟨ret2 (by have h := H.out; omega), _, rfl⟩
set_option maxHeartbeats 4000000 in
theorem div_pp3 (n d q r : Int) (b : Bool) (w : World) (n0 : -9223372036854775808 ≤ n) (n1 : n ≤ 9223372036854775807) (hq : n.tdiv d = q) (hr : n.tmod d = r)
   (b1 : -4611686018427387904 ≤ q) (b2 : q ≤ 4611686018427387904) (b6 : -9223372036854775808 ≤ d) (b7 : d ≤ 9223372036854775807) (g0 : (n == -9223372036854775808) = b) (g1 : (d == -1) = false) (b3 : 0 < r) (b4 : r < d) (b5 : 0 ≤ q) :
    Calls Try.prog 62 #[.int .i64 n, .int .i64 d, .int .i64 3] w fun e w' => e = .returned (.tuple #[.int .i64 (Plain.rnd 3 q r d), .int .i64 0]) ∧ ∃ k, w' = w.drewN k := by
  have d0 : (d == 0) = false := by simp; omega
  have r0 : (r == 0) = false := by simp; omega
  have r1 : (r != 0) = true := by simp; omega
  have r2 : decide (r < 0) = false := by simp; omega
  have d2 : decide (d < 0) = false := by simp; omega
  have z0 : (r == 0) = false := by simp; omega
  have H := Lib.hid (Plain.rnd3_pp q r d b3 b4)
  cases b
  all_goals
    go_enter Try.func62, Try.ntmps62
    go_wp2_with (first | (go_at_call 82; refine (mode_ok _ _ (by omega) (by omega)).mono ?_; rintro e w' ⟨rfl, rfl⟩))
    go_step3
    go_wp2
    go_quiet (fail)
    go_wp2_with (first | (go_at_call 83; refine (mag_pos _ _ (by omega) (by omega)).mono ?_; rintro e w' ⟨rfl, rfl⟩) | (go_at_call 83; refine (mag_neg _ _ (by omega) (by omega)).mono ?_; rintro e w' ⟨rfl, rfl⟩))
    go_step3
    go_wp2
    refine wp_loop_rounds 2 ?_
    repeat any_goals (rw [rounds_succ]; go_wp2)
    try rw [Exit.noGoto_ret]
    go_ret2
    exact ⟨ret2 (by have h := H.out; omega), _, rfl⟩
set_option maxHeartbeats 4000000 in
theorem div_pp4 (n d q r : Int) (b : Bool) (w : World) (n0 : -9223372036854775808 ≤ n) (n1 : n ≤ 9223372036854775807) (hq : n.tdiv d = q) (hr : n.tmod d = r)
   (b1 : -4611686018427387904 ≤ q) (b2 : q ≤ 4611686018427387904) (b6 : -9223372036854775808 ≤ d) (b7 : d ≤ 9223372036854775807) (g0 : (n == -9223372036854775808) = b) (g1 : (d == -1) = false) (b3 : 0 < r) (b4 : r < d) (b5 : 0 ≤ q) :
    Calls Try.prog 62 #[.int .i64 n, .int .i64 d, .int .i64 4] w fun e w' => e = .returned (.tuple #[.int .i64 (Plain.rnd 4 q r d), .int .i64 0]) ∧ ∃ k, w' = w.drewN k := by
  have d0 : (d == 0) = false := by simp; omega
  have r0 : (r == 0) = false := by simp; omega
  have r1 : (r != 0) = true := by simp; omega
  have r2 : decide (r < 0) = false := by simp; omega
  have d2 : decide (d < 0) = false := by simp; omega
  have z0 : (r == 0) = false := by simp; omega
  obtain ⟨t0, H⟩ | ⟨t0, t1, t2, H⟩ | ⟨t0, t1, t2, H⟩ | ⟨t0, t1, H⟩ : (decide (r < d - r) = true ∧ Hid (Plain.rnd 4 q r d = q)) ∨ (decide (r < d - r) = false ∧ (r == d - r) = true ∧ (q % 2 == 0) = true ∧ Hid (Plain.rnd 4 q r d = q)) ∨ (decide (r < d - r) = false ∧ (r == d - r) = true ∧ (q % 2 == 0) = false ∧ Hid (Plain.rnd 4 q r d = q + 1)) ∨ (decide (r < d - r) = false ∧ (r == d - r) = false ∧ Hid (Plain.rnd 4 q r d = q + 1)) := by
    have hev := Plain.even_iff q
    by_cases c1 : r < d - r
    · exact .inl ⟨by simpa using c1, Lib.hid (Plain.rnd4_pp_lt q r d b3 b4 (by omega))⟩
    · by_cases c2 : r = d - r
      · by_cases c3 : q % 2 = 0
        · exact .inr (.inl ⟨by simp; omega, by simpa using c2, by simp; omega, Lib.hid (Plain.rnd4_pp_ev q r d b3 b4 (by omega) c3)⟩)
        · exact .inr (.inr (.inl ⟨by simp; omega, by simpa using c2, by simp; omega, Lib.hid (Plain.rnd4_pp_od q r d b3 b4 (by omega) (by omega))⟩))
      · exact .inr (.inr (.inr ⟨by simp; omega, by simpa using c2, Lib.hid (Plain.rnd4_pp_gt q r d b3 b4 (by omega))⟩))
  all_goals
    cases b
  all_goals
    go_enter Try.func62, Try.ntmps62
    go_wp2_with (first | (go_at_call 82; refine (mode_ok _ _ (by omega) (by omega)).mono ?_; rintro e w' ⟨rfl, rfl⟩))
    go_step3
    go_wp2
    go_quiet (fail)
    go_wp2_with (first | (go_at_call 83; refine (mag_pos _ _ (by omega) (by omega)).mono ?_; rintro e w' ⟨rfl, rfl⟩) | (go_at_call 83; refine (mag_neg _ _ (by omega) (by omega)).mono ?_; rintro e w' ⟨rfl, rfl⟩))
    go_step3
    go_wp2
    refine wp_loop_rounds 2 ?_
    repeat any_goals (rw [rounds_succ]; go_wp2)
    try rw [Exit.noGoto_ret]
    go_ret2
    exact ⟨ret2 (by have h := H.out; omega), _, rfl⟩
end Go.Proofs.Ythkhlhibhkdkkaa.Dv


namespace Go.Proofs.Ythkhlhibhkdkkaa.Dv
open Go.ChangeShapes Go.WideShapes Go.ChangeAt Go.RowKit
set_option linter.unusedVariables false
set_option linter.unusedSimpArgs false
set_option maxHeartbeats 4000000 in
theorem div_np1 (n d q r : Int) (b : Bool) (w : World) (n0 : -9223372036854775808 ≤ n) (n1 : n ≤ 9223372036854775807) (hq : n.tdiv d = q) (hr : n.tmod d = r)
   (b1 : -4611686018427387904 ≤ q) (b2 : q ≤ 4611686018427387904) (b6 : -9223372036854775808 ≤ d) (b7 : d ≤ 9223372036854775807) (g0 : (n == -9223372036854775808) = b) (g1 : (d == -1) = false) (b3 : r < 0) (b4 : -r < d) (b5 : q ≤ 0) :
    Calls Try.prog 62 #[.int .i64 n, .int .i64 d, .int .i64 1] w fun e w' => e = .returned (.tuple #[.int .i64 (Plain.rnd 1 q r d), .int .i64 0]) ∧ ∃ k, w' = w.drewN k := by
  have d0 : (d == 0) = false := by simp; omega
  have r0 : (r == 0) = false := by simp; omega
  have r1 : (r != 0) = true := by simp; omega
  have r2 : decide (r < 0) = true := by simp; omega
  have d2 : decide (d < 0) = false := by simp; omega
  have z0 : ((r + d) == 0) = false := by simp; omega
  have H := Lib.hid (Plain.rnd1_np q r d b3 b4)
  cases b
  all_goals
    go_enter Try.func62, Try.ntmps62
    go_wp2_with (first | (go_at_call 82; refine (mode_ok _ _ (by omega) (by omega)).mono ?_; rintro e w' ⟨rfl, rfl⟩))
    go_step3
    go_wp2
    go_quiet (fail)
    go_wp2_with (first | (go_at_call 83; refine (mag_pos _ _ (by omega) (by omega)).mono ?_; rintro e w' ⟨rfl, rfl⟩) | (go_at_call 83; refine (mag_neg _ _ (by omega) (by omega)).mono ?_; rintro e w' ⟨rfl, rfl⟩))
    go_step3
    go_wp2
    refine wp_loop_rounds 2 ?_
    repeat any_goals (rw [rounds_succ]; go_wp2)
    try rw [Exit.noGoto_ret]
    go_ret2
    exact ⟨ret2 (by have h := H.out; omega), _, rfl⟩
set_option maxHeartbeats 4000000 in
theorem div_np2 (n d q r : Int) (b : Bool) (w : World) (n0 : -9223372036854775808 ≤ n) (n1 : n ≤ 9223372036854775807) (hq : n.tdiv d = q) (hr : n.tmod d = r)
   (b1 : -4611686018427387904 ≤ q) (b2 : q ≤ 4611686018427387904) (b6 : -9223372036854775808 ≤ d) (b7 : d ≤ 9223372036854775807) (g0 : (n == -9223372036854775808) = b) (g1 : (d == -1) = false) (b3 : r < 0) (b4 : -r < d) (b5 : q ≤ 0) :
    Calls Try.prog 62 #[.int .i64 n, .int .i64 d, .int .i64 2] w fun e w' => e = .returned (.tuple #[.int .i64 (Plain.rnd 2 q r d), .int .i64 0]) ∧ ∃ k, w' = w.drewN k := by
  have d0 : (d == 0) = false := by simp; omega
  have r0 : (r == 0) = false := by simp; omega
  have r1 : (r != 0) = true := by simp; omega
  have r2 : decide (r < 0) = true := by simp; omega
  have d2 : decide (d < 0) = false := by simp; omega
  have z0 : ((r + d) == 0) = false := by simp; omega
  have H := Lib.hid (Plain.rnd2_np q r d b3 b4)
  cases b
  all_goals
    go_enter Try.func62, Try.ntmps62
    go_wp2_with (first | (go_at_call 82; refine (mode_ok _ _ (by omega) (by omega)).mono ?_; rintro e w' ⟨rfl, rfl⟩))
    go_step3
    go_wp2
    go_quiet (fail)
    go_wp2_with (first | (go_at_call 83; refine (mag_pos _ _ (by omega) (by omega)).mono ?_; rintro e w' ⟨rfl, rfl⟩) | (go_at_call 83; refine (mag_neg _ _ (by omega) (by omega)).mono ?_; rintro e w' ⟨rfl, rfl⟩))
    go_step3
    go_wp2
    refine wp_loop_rounds 2 ?_
    repeat any_goals (rw [rounds_succ]; go_wp2)
    try rw [Exit.noGoto_ret]
    go_ret2
    exact ⟨ret2 (by have h := H.out; omega), _, rfl⟩
set_option maxHeartbeats 4000000 in
theorem div_np3 (n d q r : Int) (b : Bool) (w : World) (n0 : -9223372036854775808 ≤ n) (n1 : n ≤ 9223372036854775807) (hq : n.tdiv d = q) (hr : n.tmod d = r)
   (b1 : -4611686018427387904 ≤ q) (b2 : q ≤ 4611686018427387904) (b6 : -9223372036854775808 ≤ d) (b7 : d ≤ 9223372036854775807) (g0 : (n == -9223372036854775808) = b) (g1 : (d == -1) = false) (b3 : r < 0) (b4 : -r < d) (b5 : q ≤ 0) :
    Calls Try.prog 62 #[.int .i64 n, .int .i64 d, .int .i64 3] w fun e w' => e = .returned (.tuple #[.int .i64 (Plain.rnd 3 q r d), .int .i64 0]) ∧ ∃ k, w' = w.drewN k := by
  have d0 : (d == 0) = false := by simp; omega
  have r0 : (r == 0) = false := by simp; omega
  have r1 : (r != 0) = true := by simp; omega
  have r2 : decide (r < 0) = true := by simp; omega
  have d2 : decide (d < 0) = false := by simp; omega
  have z0 : ((r + d) == 0) = false := by simp; omega
  have H := Lib.hid (Plain.rnd3_np q r d b3 b4)
  cases b
  all_goals
    go_enter Try.func62, Try.ntmps62
    go_wp2_with (first | (go_at_call 82; refine (mode_ok _ _ (by omega) (by omega)).mono ?_; rintro e w' ⟨rfl, rfl⟩))
    go_step3
    go_wp2
    go_quiet (fail)
    go_wp2_with (first | (go_at_call 83; refine (mag_pos _ _ (by omega) (by omega)).mono ?_; rintro e w' ⟨rfl, rfl⟩) | (go_at_call 83; refine (mag_neg _ _ (by omega) (by omega)).mono ?_; rintro e w' ⟨rfl, rfl⟩))
    go_step3
    go_wp2
    refine wp_loop_rounds 2 ?_
    repeat any_goals (rw [rounds_succ]; go_wp2)
    try rw [Exit.noGoto_ret]
    go_ret2
    exact ⟨ret2 (by have h := H.out; omega), _, rfl⟩
set_option maxHeartbeats 4000000 in
theorem div_np4 (n d q r : Int) (b : Bool) (w : World) (n0 : -9223372036854775808 ≤ n) (n1 : n ≤ 9223372036854775807) (hq : n.tdiv d = q) (hr : n.tmod d = r)
   (b1 : -4611686018427387904 ≤ q) (b2 : q ≤ 4611686018427387904) (b6 : -9223372036854775808 ≤ d) (b7 : d ≤ 9223372036854775807) (g0 : (n == -9223372036854775808) = b) (g1 : (d == -1) = false) (b3 : r < 0) (b4 : -r < d) (b5 : q ≤ 0) :
    Calls Try.prog 62 #[.int .i64 n, .int .i64 d, .int .i64 4] w fun e w' => e = .returned (.tuple #[.int .i64 (Plain.rnd 4 q r d), .int .i64 0]) ∧ ∃ k, w' = w.drewN k := by
  have d0 : (d == 0) = false := by simp; omega
  have r0 : (r == 0) = false := by simp; omega
  have r1 : (r != 0) = true := by simp; omega
  have r2 : decide (r < 0) = true := by simp; omega
  have d2 : decide (d < 0) = false := by simp; omega
  have z0 : ((r + d) == 0) = false := by simp; omega
  obtain ⟨t0, H⟩ | ⟨t0, t1, t2, H⟩ | ⟨t0, t1, t2, H⟩ | ⟨t0, t1, H⟩ : (decide ((r + d) < d - (r + d)) = true ∧ Hid (Plain.rnd 4 q r d = (q - 1))) ∨ (decide ((r + d) < d - (r + d)) = false ∧ ((r + d) == d - (r + d)) = true ∧ ((q - 1).tmod 2 == 0) = true ∧ Hid (Plain.rnd 4 q r d = (q - 1))) ∨ (decide ((r + d) < d - (r + d)) = false ∧ ((r + d) == d - (r + d)) = true ∧ ((q - 1).tmod 2 == 0) = false ∧ Hid (Plain.rnd 4 q r d = (q - 1) + 1)) ∨ (decide ((r + d) < d - (r + d)) = false ∧ ((r + d) == d - (r + d)) = false ∧ Hid (Plain.rnd 4 q r d = (q - 1) + 1)) := by
    have hev := Plain.even_iff (q - 1)
    by_cases c1 : (r + d) < d - (r + d)
    · exact .inl ⟨by simpa using c1, Lib.hid (Plain.rnd4_np_lt q r d b3 b4 (by omega))⟩
    · by_cases c2 : (r + d) = d - (r + d)
      · by_cases c3 : (q - 1) % 2 = 0
        · exact .inr (.inl ⟨by simp; omega, by simpa using c2, by simp; omega, Lib.hid (Plain.rnd4_np_ev q r d b3 b4 (by omega) c3)⟩)
        · exact .inr (.inr (.inl ⟨by simp; omega, by simpa using c2, by simp; omega, Lib.hid (Plain.rnd4_np_od q r d b3 b4 (by omega) (by omega))⟩))
      · exact .inr (.inr (.inr ⟨by simp; omega, by simpa using c2, Lib.hid (Plain.rnd4_np_gt q r d b3 b4 (by omega))⟩))
  all_goals
    cases b
  all_goals
    go_enter Try.func62, Try.ntmps62
    go_wp2_with (first | (go_at_call 82; refine (mode_ok _ _ (by omega) (by omega)).mono ?_; rintro e w' ⟨rfl, rfl⟩))
    go_step3
    go_wp2
    go_quiet (fail)
    go_wp2_with (first | (go_at_call 83; refine (mag_pos _ _ (by omega) (by omega)).mono ?_; rintro e w' ⟨rfl, rfl⟩) | (go_at_call 83; refine (mag_neg _ _ (by omega) (by omega)).mono ?_; rintro e w' ⟨rfl, rfl⟩))
    go_step3
    go_wp2
    refine wp_loop_rounds 2 ?_
    repeat any_goals (rw [rounds_succ]; go_wp2)
    try rw [Exit.noGoto_ret]
    go_ret2
    exact ⟨ret2 (by have h := H.out; omega), _, rfl⟩
end Go.Proofs.Ythkhlhibhkdkkaa.Dv


namespace Go.Proofs.Ythkhlhibhkdkkaa.Dv
open Go.ChangeShapes Go.WideShapes Go.ChangeAt Go.RowKit
set_option linter.unusedVariables false
set_option linter.unusedSimpArgs false
set_option maxHeartbeats 4000000 in
theorem div_nn1 (n d q r : Int) (b : Bool) (w : World) (n0 : -9223372036854775808 ≤ n) (n1 : n ≤ 9223372036854775807) (hq : n.tdiv d = q) (hr : n.tmod d = r)
   (b1 : -4611686018427387904 ≤ q) (b2 : q ≤ 4611686018427387904) (b6 : -9223372036854775808 ≤ d) (b7 : d ≤ 9223372036854775807) (g0 : (n == -9223372036854775808) = b) (g1 : (d == -1) = false) (b3 : r < 0) (b4 : d < r) (b5 : 0 ≤ q) :
    Calls Try.prog 62 #[.int .i64 n, .int .i64 d, .int .i64 1] w fun e w' => e = .returned (.tuple #[.int .i64 (Plain.rnd 1 q r d), .int .i64 0]) ∧ ∃ k, w' = w.drewN k := by
  have d0 : (d == 0) = false := by simp; omega
  have r0 : (r == 0) = false := by simp; omega
  have r1 : (r != 0) = true := by simp; omega
  have r2 : decide (r < 0) = true := by simp; omega
  have d2 : decide (d < 0) = true := by simp; omega
  have z0 : ((-r) == 0) = false := by simp; omega
  have H := Lib.hid (Plain.rnd1_nn q r d b3 b4)
  cases b
  all_goals
    go_enter Try.func62, Try.ntmps62
    go_wp2_with (first | (go_at_call 82; refine (mode_ok _ _ (by omega) (by omega)).mono ?_; rintro e w' ⟨rfl, rfl⟩))
    go_step3
    go_wp2
    go_quiet (fail)
    go_wp2_with (first | (go_at_call 83; refine (mag_pos _ _ (by omega) (by omega)).mono ?_; rintro e w' ⟨rfl, rfl⟩) | (go_at_call 83; refine (mag_neg _ _ (by omega) (by omega)).mono ?_; rintro e w' ⟨rfl, rfl⟩))
    go_step3
    go_wp2
    refine wp_loop_rounds 2 ?_
    repeat any_goals (rw [rounds_succ]; go_wp2)
    try rw [Exit.noGoto_ret]
    go_ret2
    exact ⟨ret2 (by have h := H.out; omega), _, rfl⟩
set_option maxHeartbeats 4000000 in
theorem div_nn2 (n d q r : Int) (b : Bool) (w : World) (n0 : -9223372036854775808 ≤ n) (n1 : n ≤ 9223372036854775807) (hq : n.tdiv d = q) (hr : n.tmod d = r)
   (b1 : -4611686018427387904 ≤ q) (b2 : q ≤ 4611686018427387904) (b6 : -9223372036854775808 ≤ d) (b7 : d ≤ 9223372036854775807) (g0 : (n == -9223372036854775808) = b) (g1 : (d == -1) = false) (b3 : r < 0) (b4 : d < r) (b5 : 0 ≤ q) :
    Calls Try.prog 62 #[.int .i64 n, .int .i64 d, .int .i64 2] w fun e w' => e = .returned (.tuple #[.int .i64 (Plain.rnd 2 q r d), .int .i64 0]) ∧ ∃ k, w' = w.drewN k := by
  have d0 : (d == 0) = false := by simp; omega
  have r0 : (r == 0) = false := by simp; omega
  have r1 : (r != 0) = true := by simp; omega
  have r2 : decide (r < 0) = true := by simp; omega
  have d2 : decide (d < 0) = true := by simp; omega
  have z0 : ((-r) == 0) = false := by simp; omega
  have H := Lib.hid (Plain.rnd2_nn q r d b3 b4)
  cases b
  all_goals
    go_enter Try.func62, Try.ntmps62
    go_wp2_with (first | (go_at_call 82; refine (mode_ok _ _ (by omega) (by omega)).mono ?_; rintro e w' ⟨rfl, rfl⟩))
    go_step3
    go_wp2
    go_quiet (fail)
    go_wp2_with (first | (go_at_call 83; refine (mag_pos _ _ (by omega) (by omega)).mono ?_; rintro e w' ⟨rfl, rfl⟩) | (go_at_call 83; refine (mag_neg _ _ (by omega) (by omega)).mono ?_; rintro e w' ⟨rfl, rfl⟩))
    go_step3
    go_wp2
    refine wp_loop_rounds 2 ?_
    repeat any_goals (rw [rounds_succ]; go_wp2)
    try rw [Exit.noGoto_ret]
    go_ret2
    exact ⟨ret2 (by have h := H.out; omega), _, rfl⟩
set_option maxHeartbeats 4000000 in
theorem div_nn3 (n d q r : Int) (b : Bool) (w : World) (n0 : -9223372036854775808 ≤ n) (n1 : n ≤ 9223372036854775807) (hq : n.tdiv d = q) (hr : n.tmod d = r)
   (b1 : -4611686018427387904 ≤ q) (b2 : q ≤ 4611686018427387904) (b6 : -9223372036854775808 ≤ d) (b7 : d ≤ 9223372036854775807) (g0 : (n == -9223372036854775808) = b) (g1 : (d == -1) = false) (b3 : r < 0) (b4 : d < r) (b5 : 0 ≤ q) :
    Calls Try.prog 62 #[.int .i64 n, .int .i64 d, .int .i64 3] w fun e w' => e = .returned (.tuple #[.int .i64 (Plain.rnd 3 q r d), .int .i64 0]) ∧ ∃ k, w' = w.drewN k := by
  have d0 : (d == 0) = false := by simp; omega
  have r0 : (r == 0) = false := by simp; omega
  have r1 : (r != 0) = true := by simp; omega
  have r2 : decide (r < 0) = true := by simp; omega
  have d2 : decide (d < 0) = true := by simp; omega
  have z0 : ((-r) == 0) = false := by simp; omega
  have H := Lib.hid (Plain.rnd3_nn q r d b3 b4)
  cases b
  all_goals
    go_enter Try.func62, Try.ntmps62
    go_wp2_with (first | (go_at_call 82; refine (mode_ok _ _ (by omega) (by omega)).mono ?_; rintro e w' ⟨rfl, rfl⟩))
    go_step3
    go_wp2
    go_quiet (fail)
    go_wp2_with (first | (go_at_call 83; refine (mag_pos _ _ (by omega) (by omega)).mono ?_; rintro e w' ⟨rfl, rfl⟩) | (go_at_call 83; refine (mag_neg _ _ (by omega) (by omega)).mono ?_; rintro e w' ⟨rfl, rfl⟩))
    go_step3
    go_wp2
    refine wp_loop_rounds 2 ?_
    repeat any_goals (rw [rounds_succ]; go_wp2)
    try rw [Exit.noGoto_ret]
    go_ret2
    exact ⟨ret2 (by have h := H.out; omega), _, rfl⟩
set_option maxHeartbeats 4000000 in
theorem div_nn4 (n d q r : Int) (b : Bool) (w : World) (n0 : -9223372036854775808 ≤ n) (n1 : n ≤ 9223372036854775807) (hq : n.tdiv d = q) (hr : n.tmod d = r)
   (b1 : -4611686018427387904 ≤ q) (b2 : q ≤ 4611686018427387904) (b6 : -9223372036854775808 ≤ d) (b7 : d ≤ 9223372036854775807) (g0 : (n == -9223372036854775808) = b) (g1 : (d == -1) = false) (b3 : r < 0) (b4 : d < r) (b5 : 0 ≤ q) :
    Calls Try.prog 62 #[.int .i64 n, .int .i64 d, .int .i64 4] w fun e w' => e = .returned (.tuple #[.int .i64 (Plain.rnd 4 q r d), .int .i64 0]) ∧ ∃ k, w' = w.drewN k := by
  have d0 : (d == 0) = false := by simp; omega
  have r0 : (r == 0) = false := by simp; omega
  have r1 : (r != 0) = true := by simp; omega
  have r2 : decide (r < 0) = true := by simp; omega
  have d2 : decide (d < 0) = true := by simp; omega
  have z0 : ((-r) == 0) = false := by simp; omega
  obtain ⟨t0, H⟩ | ⟨t0, t1, t2, H⟩ | ⟨t0, t1, t2, H⟩ | ⟨t0, t1, H⟩ : (decide ((-r) < -d + r) = true ∧ Hid (Plain.rnd 4 q r d = q)) ∨ (decide ((-r) < -d + r) = false ∧ ((-r) == -d + r) = true ∧ (q % 2 == 0) = true ∧ Hid (Plain.rnd 4 q r d = q)) ∨ (decide ((-r) < -d + r) = false ∧ ((-r) == -d + r) = true ∧ (q % 2 == 0) = false ∧ Hid (Plain.rnd 4 q r d = q + 1)) ∨ (decide ((-r) < -d + r) = false ∧ ((-r) == -d + r) = false ∧ Hid (Plain.rnd 4 q r d = q + 1)) := by
    have hev := Plain.even_iff q
    by_cases c1 : (-r) < -d + r
    · exact .inl ⟨by simpa using c1, Lib.hid (Plain.rnd4_nn_lt q r d b3 b4 (by omega))⟩
    · by_cases c2 : (-r) = -d + r
      · by_cases c3 : q % 2 = 0
        · exact .inr (.inl ⟨by simp; omega, by simpa using c2, by simp; omega, Lib.hid (Plain.rnd4_nn_ev q r d b3 b4 (by omega) c3)⟩)
        · exact .inr (.inr (.inl ⟨by simp; omega, by simpa using c2, by simp; omega, Lib.hid (Plain.rnd4_nn_od q r d b3 b4 (by omega) (by omega))⟩))
      · exact .inr (.inr (.inr ⟨by simp; omega, by simpa using c2, Lib.hid (Plain.rnd4_nn_gt q r d b3 b4 (by omega))⟩))
  all_goals
    cases b
  all_goals
    go_enter Try.func62, Try.ntmps62
    go_wp2_with (first | (go_at_call 82; refine (mode_ok _ _ (by omega) (by omega)).mono ?_; rintro e w' ⟨rfl, rfl⟩))
    go_step3
    go_wp2
    go_quiet (fail)
    go_wp2_with (first | (go_at_call 83; refine (mag_pos _ _ (by omega) (by omega)).mono ?_; rintro e w' ⟨rfl, rfl⟩) | (go_at_call 83; refine (mag_neg _ _ (by omega) (by omega)).mono ?_; rintro e w' ⟨rfl, rfl⟩))
    go_step3
    go_wp2
    refine wp_loop_rounds 2 ?_
    repeat any_goals (rw [rounds_succ]; go_wp2)
    try rw [Exit.noGoto_ret]
    go_ret2
    exact ⟨ret2 (by have h := H.out; omega), _, rfl⟩
end Go.Proofs.Ythkhlhibhkdkkaa.Dv
