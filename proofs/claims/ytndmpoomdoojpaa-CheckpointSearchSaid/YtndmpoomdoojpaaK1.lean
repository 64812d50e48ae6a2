/- The costs of package checkpoint and of the reference. -/
import Derived.Test.YtndmpoomdoojpaaRows
import Derived.WalkKit
import Derived.ProofKit
import Derived.OpenShut
import Derived.WalkLawsBesides
import Derived.WalkSpells
import Derived.Outline
import Derived.Handy
import Derived.IntWalk
import Derived.Deep.QuietTactic
import Derived.BigQuiet
import Derived.Lib.Hide
import Derived.Test.YtndmpoomdoojpaaKM1
namespace Go.Proofs.Ytndmpoomdoojpaa.Ck
open Go.ChangeShapes Go.WideShapes Go.ChangeAt Go.RowKit
set_option linter.unusedVariables false

theorem ret_int {k : IntKind} {a b : Int} (h : a = b) : Ending.returned (.int k a) = .returned (.int k b) := by rw [h]
theorem ret_bool {a b : Bool} (h : a = b) : Ending.returned (.bool a) = .returned (.bool b) := by rw [h]
def inr (n s : Int) : Bool := decide (0 ≤ n ∧ n ≤ 64 ∧ 0 ≤ s ∧ s ≤ 64)
theorem inr_no {n s : Int} (h : ¬ (0 ≤ n ∧ n ≤ 64 ∧ 0 ≤ s ∧ s ≤ 64)) : inr n s = false := decide_eq_false h
theorem inr_ok {n s : Int} (h : 0 ≤ n ∧ n ≤ 64 ∧ 0 ≤ s ∧ s ≤ 64) : inr n s = true := decide_eq_true h
theorem inRange (n s : Int) (w : World) : Calls Try.prog 46 #[.int .i64 n, .int .i64 s] w fun e w' => e = .returned (.bool (inr n s)) ∧ w = w' := by
  by_cases h1 : 0 ≤ n
  · by_cases h2 : n ≤ 64
    · by_cases h3 : 0 ≤ s
      · by_cases h4 : s ≤ 64
        · rw [inr_ok ⟨h1, h2, h3, h4⟩]
          go_enter Try.func46, Try.ntmps46
          go_wp2
          go_ret
          exact ⟨rfl, rfl⟩
        · rw [inr_no (by omega)]
          have d4 : decide (s ≤ 64) = false := decide_eq_false h4
          go_enter Try.func46, Try.ntmps46
          go_wp2
          go_ret
          exact ⟨rfl, rfl⟩
      · rw [inr_no (by omega)]
        have d3 : decide (0 ≤ s) = false := decide_eq_false h3
        go_enter Try.func46, Try.ntmps46
        go_wp2
        go_ret
        exact ⟨rfl, rfl⟩
    · rw [inr_no (by omega)]
      have d2 : decide (n ≤ 64) = false := decide_eq_false h2
      go_enter Try.func46, Try.ntmps46
      go_wp2
      go_ret
      exact ⟨rfl, rfl⟩
  · rw [inr_no (by omega)]
    have d1 : decide (0 ≤ n) = false := decide_eq_false h1
    go_enter Try.func46, Try.ntmps46
    go_wp2
    go_ret
    exact ⟨rfl, rfl⟩
def ask (n s : Int) : Int := if inr n s = true then 0 else 1
theorem asked (n s : Int) (w : World) : Calls Try.prog 27 #[.int .i64 n, .int .i64 s] w fun e w' => e = .returned (.int .i64 (ask n s)) ∧ w = w' := by
  by_cases h1 : n < 0
  · rw [show ask n s = 1 by unfold ask; rw [inr_no (by omega)]; rfl]
    go_enter Try.func27, Try.ntmps27
    go_wp2
    go_ret
    exact ⟨rfl, rfl⟩
  · have d1 : decide (n < 0) = false := decide_eq_false h1
    by_cases h2 : 64 < n
    · rw [show ask n s = 1 by unfold ask; rw [inr_no (by omega)]; rfl]
      go_enter Try.func27, Try.ntmps27
      go_wp2
      go_ret
      exact ⟨rfl, rfl⟩
    · have d2 : decide (64 < n) = false := decide_eq_false h2
      by_cases h3 : s < 0
      · rw [show ask n s = 1 by unfold ask; rw [inr_no (by omega)]; rfl]
        go_enter Try.func27, Try.ntmps27
        go_wp2
        go_ret
        exact ⟨rfl, rfl⟩
      · have d3 : decide (s < 0) = false := decide_eq_false h3
        by_cases h4 : 64 < s
        · rw [show ask n s = 1 by unfold ask; rw [inr_no (by omega)]; rfl]
          go_enter Try.func27, Try.ntmps27
          go_wp2
          go_ret
          exact ⟨rfl, rfl⟩
        · have d4 : decide (64 < s) = false := decide_eq_false h4
          rw [show ask n s = 0 by unfold ask; rw [inr_ok (by omega)]; rfl]
          go_enter Try.func27, Try.ntmps27
          go_wp2
          go_ret
          exact ⟨rfl, rfl⟩
/-- A number and an error. -/
def NE (n e : Int) : Ending := .returned (.tuple #[.int .i64 n, .int .i64 e])
def cv (n s : Int) : Int := if inr n s = true then co n s else 0
theorem lo_go {c n : Int} {f : Nat} {r x : Int} (h : x < n) : lo c n (f + 1) r x = lo c n f (r + 1) (x * (c + (r + 1)) / (r + 1)) := if_pos h
theorem lo_end {c n : Int} {f : Nat} {r x : Int} (h : ¬ x < n) : lo c n f r x = (r, x) := by
  cases f with
  | zero => rfl
  | succ f => exact if_neg h
set_option maxHeartbeats 4000000 in
theorem cost (n s : Int) (w : World) : Calls Try.prog 20 #[.int .i64 n, .int .i64 s] w fun e w' => e = NE (cv n s) (ask n s) ∧ w = w' := by
  have C := Lib.hid (inRange n s)
  by_cases h : 0 ≤ n ∧ n ≤ 64 ∧ 0 ≤ s ∧ s ≤ 64
  · rw [show ask n s = 0 by unfold ask; rw [inr_ok h]; rfl, show cv n s = co n s by unfold cv; rw [inr_ok h]; rfl]
    rw [inr_ok h] at C
    obtain ⟨n0, n1, s0, s1⟩ := h
    obtain ⟨V, hV⟩ : ∃ V, co n s = V := ⟨_, rfl⟩
    rw [hV]
    have HV := Lib.hid hV
    clear hV
    go_enter Try.func20, Try.ntmps20
    go_wp2_with (go_at_call 46; refine (C.out _).mono ?_; rintro e w' ⟨rfl, rfl⟩)
    go_loop [7, 8] (fun a b => ∃ (f : Nat) (r x : Int), a = .int .i64 r ∧ b = .int .i64 x ∧ r + f = 65 ∧ 0 ≤ r ∧ r + 1 ≤ x ∧ x ≤ 8190 ∧ Hid (lo (s + 1) n 65 0 1 = lo (s + 1) n f r x)) (fun a _ => (66 - intOf a).toNat)
    case atStart => exact ⟨65, 0, 1, rfl, rfl, by omega, by omega, by omega, by omega, Lib.hid rfl⟩
    case round =>
      obtain ⟨f, r, x, rfl, rfl, hf, r0, x0, x1, hL⟩ := hrel
      by_cases hlt : x < n
      · cases f with
        | zero => omega
        | succ f =>
          have hs := reach_step (c := s + 1) (by omega) r0 x0
          have hx2 : 0 ≤ x * (s + 1 + (r + 1)) := Int.mul_nonneg (by omega) (by omega)
          have hx3 : x * (s + 1 + (r + 1)) ≤ 63 * 130 := Int.mul_le_mul (by omega) (by omega) (by omega) (by omega)
          have hx4 : x * (s + 1 + (r + 1)) / (r + 1) ≤ x * (s + 1 + (r + 1)) := Int.ediv_le_self _ hx2
          have hL2 := Lib.hid (hL.out.trans (lo_go hlt))
          obtain ⟨y, hy⟩ : ∃ y, x * (s + 1 + (r + 1)) = y := ⟨_, rfl⟩
          rw [hy] at hs hx2 hx3 hx4 hL2
          obtain ⟨z, hz⟩ : ∃ z, y / (r + 1) = z := ⟨_, rfl⟩
          rw [hz] at hs hx4 hL2
          have rz : (r + 1 == 0) = false := beq_false_of_ne (by omega)
          clear hL
          go_wp2
          go_round
          case rel => exact ⟨f, r + 1, z, rfl, by first | rfl | rw [hz], by omega, by omega, by omega, by omega, hL2⟩
          case measure => simp [intOf]; omega
      · have e : V = r * n - x * r / (s + 1 + 1) := by
          have h1 := hL.out.trans (lo_end hlt)
          rw [← HV.out]
          unfold co
          rw [h1]
        have a1 : 0 ≤ r * n := Int.mul_nonneg (by omega) (by omega)
        have a2 : r * n ≤ 65 * 64 := Int.mul_le_mul (by omega) (by omega) (by omega) (by omega)
        have a3 : 0 ≤ x * r := Int.mul_nonneg (by omega) (by omega)
        have a4 : x * r ≤ 8190 * 65 := Int.mul_le_mul (by omega) (by omega) (by omega) (by omega)
        have a5 : 0 ≤ x * r / (s + 1 + 1) := Int.ediv_nonneg a3 (by omega)
        have a6 : x * r / (s + 1 + 1) ≤ x * r := Int.ediv_le_self _ a3
        obtain ⟨y, hy⟩ : ∃ y, x * r = y := ⟨_, rfl⟩
        rw [hy] at a3 a4 a5 a6 e
        obtain ⟨u, hu⟩ : ∃ u, r * n = u := ⟨_, rfl⟩
        rw [hu] at a1 a2 e
        obtain ⟨z, hz⟩ : ∃ z, y / (s + 1 + 1) = z := ⟨_, rfl⟩
        rw [hz] at a5 a6 e
        have sz : (s + 1 + 1 == 0) = false := beq_false_of_ne (by omega)
        have HE := Lib.hid e
        clear e hL
        go_wp2
        exact bodyPost_ret (v := .tuple #[.int .i64 (u - z), .int .i64 0]) (by simp [results, Try.results20, go_sem]) rfl ⟨by rw [HE.out]; rfl, rfl⟩
  · rw [show ask n s = 1 by unfold ask; rw [inr_no h]; rfl, show cv n s = 0 by unfold cv; rw [inr_no h]; rfl]
    rw [inr_no h] at C
    clear h
    go_enter Try.func20, Try.ntmps20
    go_wp2_with (go_at_call 46; refine (C.out _).mono ?_; rintro e w' ⟨rfl, rfl⟩)
    exact bodyPost_ret (v := .tuple #[.int .i64 0, .int .i64 1]) (by simp [results, Try.results20, go_sem]) rfl ⟨rfl, rfl⟩
end Go.Proofs.Ytndmpoomdoojpaa.Ck
