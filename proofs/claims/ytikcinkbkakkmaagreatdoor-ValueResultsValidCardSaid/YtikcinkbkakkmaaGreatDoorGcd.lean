/- The greatest common divisors of the packages: each returns the gcd of two numbers that are not negative; magnitude of package frac. -/
import Derived.Test.YtikcinkbkakkmaaGreatDoorRows
import Derived.WalkKit
import Derived.ProofKit
import Derived.OpenShut
import Derived.WalkLawsBesides
import Derived.WalkSpells
import Derived.Outline
import Derived.Handy
import Derived.Deep.QuietTactic
import Derived.BigQuiet
import Derived.Lib.Hide

namespace Go.Proofs.YtikcinkbkakkmaaGreatDoor.Fr
open Go.ChangeShapes Go.WideShapes Go.ChangeAt Go.RowKit
set_option linter.unusedVariables false
set_option linter.unusedSimpArgs false
theorem gcd_step (a b : Int) (ha : 0 ≤ a) (hb : 0 < b) : Int.gcd b (a % b) = Int.gcd a b := by
  have h : (a % b).natAbs = a.natAbs % b.natAbs := by
    have h1 := Int.emod_nonneg a (by omega : b ≠ 0)
    have h2 : ((a % b).natAbs : Int) = ((a.natAbs % b.natAbs : Nat) : Int) := by
      rw [Int.natAbs_of_nonneg h1, Int.natCast_emod, Int.natAbs_of_nonneg ha, Int.natAbs_of_nonneg (by omega)]
    exact_mod_cast h2
  unfold Int.gcd
  rw [h, Nat.gcd_comm b.natAbs, ← Nat.gcd_rec, Nat.gcd_comm]
theorem gcd_done (a : Int) (ha : 0 ≤ a) : ((Int.gcd a 0 : Nat) : Int) = a := by
  rw [Int.gcd_zero_right]; omega
def Val1 (k : IntKind) (g : Int) (w : World) (e : Ending) (w' : World) : Prop := e = .returned (.int k g) ∧ ∃ n, w' = w.drewN n
theorem val1_end {k : IntKind} {g a : Int} {w : World} (n : Nat) (h : a = g) : Val1 k g w (.returned (.int k a)) (w.drewN n) := ⟨by rw [h], n, rfl⟩
def vld (n d : Int) : Bool := decide (1 ≤ d ∧ d ≤ 2147483647 ∧ -2147483647 ≤ n ∧ n ≤ 2147483647 ∧ Int.gcd n d = 1)
theorem vld_in {n d : Int} (h1 : 1 ≤ d) (h2 : d ≤ 2147483647) (h3 : -2147483647 ≤ n) (h4 : n ≤ 2147483647) : vld n d = (((Int.gcd n d : Nat) : Int) == 1) := by
  unfold vld
  rw [Bool.eq_iff_iff]
  simp only [decide_eq_true_eq, beq_iff_eq]
  constructor
  · intro h; omega
  · intro h; exact ⟨h1, h2, h3, h4, by omega⟩
theorem vld_out {n d : Int} (h : d < 1 ∨ 2147483647 < d ∨ n < -2147483647 ∨ 2147483647 < n) : vld n d = false := by
  unfold vld
  rw [decide_eq_false_iff_not]
  omega
theorem gcd_abs (n d : Int) : Int.gcd (-n) d = Int.gcd n d := Int.neg_gcd
theorem gcd_abs' (n d : Int) : Int.gcd n (-d) = Int.gcd n d := Int.gcd_neg
/-- What a call of a function that makes memory leaves: the answer, and everything that was there. -/
def Ret (v : Value) (w : World) (e : Ending) (w' : World) : Prop := e = .returned v ∧ Below w.heap.size w w'
theorem bcell {W w1 : World} (hb : Below W.heap.size W w1) : (∀ b o, b < W.heap.size → w1.cell? ⟨b, o, none⟩ = W.cell? ⟨b, o, none⟩) ∧ (∀ b o, b < W.heap.size → w1.frozen? ⟨b, o, none⟩ = W.frozen? ⟨b, o, none⟩) :=
  ⟨fun b o h => hb.cell (p := ⟨b, o, none⟩) h, fun b o h => hb.frozen (p := ⟨b, o, none⟩) h⟩
set_option maxHeartbeats 1000000 in
theorem fgcd (x y : Int) (w : World) (x0 : 0 ≤ x) (x1 : x ≤ 9223372036854775808) (y0 : 0 ≤ y) (y1 : y ≤ 9223372036854775808) :
    Calls Tryz.prog 95 #[.int .u64 x, .int .u64 y] w (Val1 .u64 (Int.gcd x y) w) := by
  go_enter Tryz.func95, Tryz.ntmps95
  go_wp2
  go_loopw [0, 1] (fun a b wr => ∃ p q : Int, a = .int .u64 p ∧ b = .int .u64 q ∧ 0 ≤ p ∧ p ≤ 9223372036854775808 ∧ 0 ≤ q ∧ q ≤ 9223372036854775808 ∧ Int.gcd p q = Int.gcd x y ∧ ∃ n, wr = w.drewN n) (fun _ b _ => (intOf b).toNat)
  case atStart => exact ⟨x, y, rfl, rfl, x0, x1, y0, y1, rfl, 0, rfl⟩
  case round =>
    obtain ⟨p, q, rfl, rfl, p0, p1, q0, q1, hg, n, rfl⟩ := hrel
    have HG := Lib.hid hg
    clear hg
    by_cases hq : q = 0
    · subst hq
      go_wp2
      go_ret
      exact val1_end _ (by rw [← HG.out, gcd_done _ p0])
    · have hq1 : (q != 0) = true := by simpa using hq
      have hq2 : (q == 0) = false := by simpa using hq
      have hq3 : 0 < q := by omega
      have hm := Int.emod_nonneg p hq
      have hl := Int.emod_lt_of_pos p hq3
      clear hq
      go_wp2
      go_quiet (fail)
      go_wp2
      go_roundw
      case rel => exact ⟨q, p % q, rfl, rfl, by omega, by omega, by omega, by omega, by rw [gcd_step _ _ p0 hq3, HG.out], n + nq, by rw [World.drewN_drewN]⟩
      case measure => simp [intOf]; omega
set_option maxHeartbeats 1000000 in
theorem bgcd (x y : Int) (w : World) (x0 : 0 ≤ x) (x1 : x ≤ 9223372036854775807) (y0 : 0 ≤ y) (y1 : y ≤ 9223372036854775807) :
    Calls Tryz.prog 72 #[.int .i64 x, .int .i64 y] w (Val1 .i64 (Int.gcd x y) w) := by
  go_enter Tryz.func72, Tryz.ntmps72
  go_wp2
  go_loopw [0, 1] (fun a b wr => ∃ p q : Int, a = .int .i64 p ∧ b = .int .i64 q ∧ 0 ≤ p ∧ p ≤ 9223372036854775807 ∧ 0 ≤ q ∧ q ≤ 9223372036854775807 ∧ Int.gcd p q = Int.gcd x y ∧ ∃ n, wr = w.drewN n) (fun _ b _ => (intOf b).toNat)
  case atStart => exact ⟨x, y, rfl, rfl, x0, x1, y0, y1, rfl, 0, rfl⟩
  case round =>
    obtain ⟨p, q, rfl, rfl, p0, p1, q0, q1, hg, n, rfl⟩ := hrel
    have HG := Lib.hid hg
    clear hg
    by_cases hq : q = 0
    · subst hq
      go_wp2
      go_ret
      exact val1_end _ (by rw [← HG.out, gcd_done _ p0])
    · have hq1 : (q != 0) = true := by simpa using hq
      have hq2 : (q == 0) = false := by simpa using hq
      have hq3 : 0 < q := by omega
      have hm := Int.emod_nonneg p hq
      have hl := Int.emod_lt_of_pos p hq3
      clear hq
      go_wp2
      go_quiet (fail)
      go_wp2
      go_roundw
      case rel => exact ⟨q, p % q, rfl, rfl, by omega, by omega, by omega, by omega, by rw [gcd_step _ _ p0 hq3, HG.out], n + nq, by rw [World.drewN_drewN]⟩
      case measure => simp [intOf]; omega
theorem fmag_neg (n : Int) (w : World) (h : n < 0) (h' : -9223372036854775808 ≤ n) :
    Calls Tryz.prog 96 #[.int .i64 n] w fun e w' => e = .returned (.int .u64 (-n)) ∧ w = w' := by
  have e : IntKind.u64.wrap (-IntKind.u64.wrap n) = -n := by go_arith
  go_enter Tryz.func96, Tryz.ntmps96
  go_wp2
  go_ret
  exact ⟨rfl, rfl⟩
theorem fmag_pos (n : Int) (w : World) (h : 0 ≤ n) (h' : n ≤ 9223372036854775807) :
    Calls Tryz.prog 96 #[.int .i64 n] w fun e w' => e = .returned (.int .u64 n) ∧ w = w' := by
  go_enter Tryz.func96, Tryz.ntmps96
  go_wp2
  go_ret
  exact ⟨rfl, rfl⟩
end Go.Proofs.YtikcinkbkakkmaaGreatDoor.Fr
