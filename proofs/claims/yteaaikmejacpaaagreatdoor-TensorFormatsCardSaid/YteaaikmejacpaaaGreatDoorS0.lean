/- The greatest common divisors of the packages: each returns the gcd of two numbers that are not negative; magnitude of package frac. -/
import Derived.Test.YteaaikmejacpaaaGreatDoorRows
import Derived.WalkKit
import Derived.ProofKit
import Derived.OpenShut
import Derived.WalkLawsBesides
import Derived.WalkSpells
import Derived.Outline
import Derived.Handy
import Derived.Deep.QuietTactic
import Derived.BigQuiet
import Derived.Lib.Hide
import Derived.Deep.RegionHeld3

namespace Go.Proofs.YteaaikmejacpaaaGreatDoor.Fr
open Go.ChangeShapes Go.WideShapes Go.ChangeAt Go.RowKit
set_option linter.unusedVariables false
set_option linter.unusedSimpArgs false
theorem gcd_step (a b : Int) (ha : 0 <= a) (hb : 0 < b) : Int.gcd b (a % b) = Int.gcd a b := by
 have h : (a % b).natAbs = a.natAbs % b.natAbs := by
  have h1 := Int.emod_nonneg a (by omega : b ≠ 0)
  have h2 : ((a % b).natAbs : Int) = ((a.natAbs % b.natAbs : Nat) : Int) := by
   rw [Int.natAbs_of_nonneg h1, Int.natCast_emod, Int.natAbs_of_nonneg ha, Int.natAbs_of_nonneg (by omega)]
  exact_mod_cast h2
 unfold Int.gcd
 rw [h, Nat.gcd_comm b.natAbs, <- Nat.gcd_rec, Nat.gcd_comm]
theorem gcd_done (a : Int) (ha : 0 <= a) : ((Int.gcd a 0 : Nat) : Int) = a := by
 rw [Int.gcd_zero_right]; omega
def Val1 (k : IntKind) (g : Int) (w : World) (e : Ending) (w' : World) : Prop := e = .returned (.int k g) /\ ∃ n, w' = w.drewN n
theorem val1_end {k : IntKind} {g a : Int} {w : World} (n : Nat) (h : a = g) : Val1 k g w (.returned (.int k a)) (w.drewN n) := ⟨by rw [h], n, rfl⟩
def vld (n d : Int) : Bool := decide (1 <= d /\ d <= 2147483647 /\ -2147483647 <= n /\ n <= 2147483647 /\ Int.gcd n d = 1)
theorem vld_in {n d : Int} (h1 : 1 <= d) (h2 : d <= 2147483647) (h3 : -2147483647 <= n) (h4 : n <= 2147483647) : vld n d = (((Int.gcd n d : Nat) : Int) == 1) := by
 unfold vld
 rw [Bool.eq_iff_iff]
 simp only [decide_eq_true_eq, beq_iff_eq]
 constructor
 ·intro h; omega
 ·intro h; exact ⟨h1, h2, h3, h4, by omega⟩
theorem vld_out {n d : Int} (h : d < 1 \/ 2147483647 < d \/ n < -2147483647 \/ 2147483647 < n) : vld n d = false := by
 unfold vld
 rw [decide_eq_false_iff_not]
 omega
theorem gcd_abs (n d : Int) : Int.gcd (-n) d = Int.gcd n d := Int.neg_gcd

/-- What a call of a function that makes memory leaves: the answer, and everything that was there. -/
def Ret (v : Value) (w : World) (e : Ending) (w' : World) : Prop := e = .returned v /\ Below w.heap.size w w'
theorem bcell {W w1 : World} (hb : Below W.heap.size W w1) : (∀ b o, b < W.heap.size -> w1.cell? ⟨b, o, none⟩ = W.cell? ⟨b, o, none⟩) /\ (∀ b o, b < W.heap.size -> w1.frozen? ⟨b, o, none⟩ = W.frozen? ⟨b, o, none⟩) :=
 ⟨fun b o h => hb.cell (p := ⟨b, o, none⟩) h, fun b o h => hb.frozen (p := ⟨b, o, none⟩) h⟩
set_option maxHeartbeats 1000000 in
theorem fgcd (x y : Int) (w : World) (x0 : 0 <= x) (x1 : x <= 9223372036854775808) (y0 : 0 <= y) (y1 : y <= 9223372036854775808) :
  Calls Tryz.prog 109 #[.int .u64 x, .int .u64 y] w (Val1 .u64 (Int.gcd x y) w) := by
 go_enter Tryz.func109, Tryz.ntmps109
 go_wp2
 go_loopw [0, 1] (fun a b wr => ∃ p q : Int, a = .int .u64 p /\ b = .int .u64 q /\ 0 <= p /\ p <= 9223372036854775808 /\ 0 <= q /\ q <= 9223372036854775808 /\ Int.gcd p q = Int.gcd x y /\ ∃ n, wr = w.drewN n) (fun _ b _ => (intOf b).toNat)
 case atStart => exact ⟨x, y, rfl, rfl, x0, x1, y0, y1, rfl, 0, rfl⟩
 case round =>
  obtain ⟨p, q, rfl, rfl, p0, p1, q0, q1, hg, n, rfl⟩ := hrel
  have HG := Lib.hid hg
  clear hg
  by_cases hq : q = 0
  ·subst hq
   go_wp2
   go_ret
   exact val1_end _ (by rw [<- HG.out, gcd_done _ p0])
  ·have hq1 : (q != 0) = true := by simpa using hq
   have hq2 : (q == 0) = false := by simpa using hq
   have hq3 : 0 < q := by omega
   have hm := Int.emod_nonneg p hq
   have hl := Int.emod_lt_of_pos p hq3
   clear hq
   go_wp2
   go_quiet (fail)
   go_wp2
   go_roundw
   case rel => exact ⟨q, p % q, rfl, rfl, by omega, by omega, by omega, by omega, by rw [gcd_step _ _ p0 hq3, HG.out], n + nq, by rw [World.drewN_drewN]⟩
   case measure => simp [intOf]; omega
set_option maxHeartbeats 1000000 in
theorem bgcd (x y : Int) (w : World) (x0 : 0 <= x) (x1 : x <= 9223372036854775807) (y0 : 0 <= y) (y1 : y <= 9223372036854775807) :
  Calls Tryz.prog 88 #[.int .i64 x, .int .i64 y] w (Val1 .i64 (Int.gcd x y) w) := by
 go_enter Tryz.func88, Tryz.ntmps88
 go_wp2
 go_loopw [0, 1] (fun a b wr => ∃ p q : Int, a = .int .i64 p /\ b = .int .i64 q /\ 0 <= p /\ p <= 9223372036854775807 /\ 0 <= q /\ q <= 9223372036854775807 /\ Int.gcd p q = Int.gcd x y /\ ∃ n, wr = w.drewN n) (fun _ b _ => (intOf b).toNat)
 case atStart => exact ⟨x, y, rfl, rfl, x0, x1, y0, y1, rfl, 0, rfl⟩
 case round =>
  obtain ⟨p, q, rfl, rfl, p0, p1, q0, q1, hg, n, rfl⟩ := hrel
  have HG := Lib.hid hg
  clear hg
  by_cases hq : q = 0
  ·subst hq
   go_wp2
   go_ret
   exact val1_end _ (by rw [<- HG.out, gcd_done _ p0])
  ·have hq1 : (q != 0) = true := by simpa using hq
   have hq2 : (q == 0) = false := by simpa using hq
   have hq3 : 0 < q := by omega
   have hm := Int.emod_nonneg p hq
   have hl := Int.emod_lt_of_pos p hq3
   clear hq
   go_wp2
   go_quiet (fail)
   go_wp2
   go_roundw
   case rel => exact ⟨q, p % q, rfl, rfl, by omega, by omega, by omega, by omega, by rw [gcd_step _ _ p0 hq3, HG.out], n + nq, by rw [World.drewN_drewN]⟩
   case measure => simp [intOf]; omega
theorem fmag_neg (n : Int) (w : World) (h : n < 0) (h' : -9223372036854775808 <= n) :
  Calls Tryz.prog 110 #[.int .i64 n] w fun e w' => e = .returned (.int .u64 (-n)) /\ w = w' := by
 have e : IntKind.u64.wrap (-IntKind.u64.wrap n) = -n := by go_arith
 go_enter Tryz.func110, Tryz.ntmps110
 go_wp2
 go_ret
 exact ⟨rfl, rfl⟩
theorem fmag_pos (n : Int) (w : World) (h : 0 <= n) (h' : n <= 9223372036854775807) :
  Calls Tryz.prog 110 #[.int .i64 n] w fun e w' => e = .returned (.int .u64 n) /\ w = w' := by
 go_enter Tryz.func110, Tryz.ntmps110
 go_wp2
 go_ret
 exact ⟨rfl, rfl⟩
end Go.Proofs.YteaaikmejacpaaaGreatDoor.Fr


namespace Go.Proofs.YteaaikmejacpaaaGreatDoor.Fx
open Go.ChangeShapes Go.WideShapes Go.ChangeAt Go.RowKit
open Fr
set_option linter.unusedVariables false
set_option linter.unusedSimpArgs false

/-- The fixed-point types. -/
def tv (K B F R O : Int) : Bool := decide (K = 2 /\ 2 <= B /\ B <= 31 /\ 0 <= F /\ F <= 30 /\ 1 <= R /\ R <= 4 /\ (O = 1 \/ O = 2))
theorem tv_parts {K B F R O : Int} (h : tv K B F R O = true) : K = 2 /\ 2 <= B /\ B <= 31 /\ 0 <= F /\ F <= 30 /\ 1 <= R /\ R <= 4 /\ (O = 1 \/ O = 2) := by
 unfold tv at h; exact of_decide_eq_true h
theorem tv_cases {K B F R O : Int} (h : tv K B F R O = false) : K ≠ 2 \/ (K = 2 /\ B < 2) \/ (K = 2 /\ 2 <= B /\ 31 < B) \/ (K = 2 /\ 2 <= B /\ B <= 31 /\ F < 0) \/ (K = 2 /\ 2 <= B /\ B <= 31 /\ 0 <= F /\ 30 < F) \/
  (K = 2 /\ 2 <= B /\ B <= 31 /\ 0 <= F /\ F <= 30 /\ R < 1) \/ (K = 2 /\ 2 <= B /\ B <= 31 /\ 0 <= F /\ F <= 30 /\ 1 <= R /\ 4 < R) \/ (K = 2 /\ 2 <= B /\ B <= 31 /\ 0 <= F /\ F <= 30 /\ 1 <= R /\ R <= 4 /\ O ≠ 1 /\ O ≠ 2) := by
 unfold tv at h
 have := of_decide_eq_false h
 omega
set_option maxHeartbeats 4000000 in
theorem vt_bad (K B F R O : Int) (w : World) (h : tv K B F R O = false) : Calls Tryz.prog 81 #[.agg #[.int .i64 K, .int .i64 B, .int .i64 F, .int .i64 R, .int .i64 O]] w (Ret (.int .i64 10) w) := by
 rcases tv_cases h with h | h | h | h | h | h | h | h
 ·have K2a : (K == 2) = false := by simp <;> omega
  have K2b : (K != 2) = true := by simp <;> omega
  clear h
  go_enter Tryz.func81, Tryz.ntmps81
  go_wp2
  go_ret
  exact ⟨rfl, by go_grown⟩
 ·have K2a : (K == 2) = true := by simp <;> omega
  have K2b : (K != 2) = false := by simp <;> omega
  have B0a : decide (2 <= B) = false := by simp <;> omega
  have B0b : decide (B < 2) = true := by simp <;> omega
  clear h
  go_enter Tryz.func81, Tryz.ntmps81
  go_wp2
  go_ret
  exact ⟨rfl, by go_grown⟩
 ·have K2a : (K == 2) = true := by simp <;> omega
  have K2b : (K != 2) = false := by simp <;> omega
  have B0a : decide (2 <= B) = true := by simp <;> omega
  have B0b : decide (B < 2) = false := by simp <;> omega
  have B1a : decide (B <= 31) = false := by simp <;> omega
  have B1b : decide (31 < B) = true := by simp <;> omega
  clear h
  go_enter Tryz.func81, Tryz.ntmps81
  go_wp2
  go_ret
  exact ⟨rfl, by go_grown⟩
 ·have K2a : (K == 2) = true := by simp <;> omega
  have K2b : (K != 2) = false := by simp <;> omega
  have B0a : decide (2 <= B) = true := by simp <;> omega
  have B0b : decide (B < 2) = false := by simp <;> omega
  have B1a : decide (B <= 31) = true := by simp <;> omega
  have B1b : decide (31 < B) = false := by simp <;> omega
  have F0a : decide (0 <= F) = false := by simp <;> omega
  have F0b : decide (F < 0) = true := by simp <;> omega
  clear h
  go_enter Tryz.func81, Tryz.ntmps81
  go_wp2
  go_ret
  exact ⟨rfl, by go_grown⟩
 ·have K2a : (K == 2) = true := by simp <;> omega
  have K2b : (K != 2) = false := by simp <;> omega
  have B0a : decide (2 <= B) = true := by simp <;> omega
  have B0b : decide (B < 2) = false := by simp <;> omega
  have B1a : decide (B <= 31) = true := by simp <;> omega
  have B1b : decide (31 < B) = false := by simp <;> omega
  have F0a : decide (0 <= F) = true := by simp <;> omega
  have F0b : decide (F < 0) = false := by simp <;> omega
  have F1a : decide (F <= 30) = false := by simp <;> omega
  have F1b : decide (30 < F) = true := by simp <;> omega
  clear h
  go_enter Tryz.func81, Tryz.ntmps81
  go_wp2
  go_ret
  exact ⟨rfl, by go_grown⟩
 ·have K2a : (K == 2) = true := by simp <;> omega
  have K2b : (K != 2) = false := by simp <;> omega
  have B0a : decide (2 <= B) = true := by simp <;> omega
  have B0b : decide (B < 2) = false := by simp <;> omega
  have B1a : decide (B <= 31) = true := by simp <;> omega
  have B1b : decide (31 < B) = false := by simp <;> omega
  have F0a : decide (0 <= F) = true := by simp <;> omega
  have F0b : decide (F < 0) = false := by simp <;> omega
  have F1a : decide (F <= 30) = true := by simp <;> omega
  have F1b : decide (30 < F) = false := by simp <;> omega
  have R0a : decide (1 <= R) = false := by simp <;> omega
  have R0b : decide (R < 1) = true := by simp <;> omega
  clear h
  go_enter Tryz.func81, Tryz.ntmps81
  go_wp2
  go_ret
  exact ⟨rfl, by go_grown⟩
 ·have K2a : (K == 2) = true := by simp <;> omega
  have K2b : (K != 2) = false := by simp <;> omega
  have B0a : decide (2 <= B) = true := by simp <;> omega
  have B0b : decide (B < 2) = false := by simp <;> omega
  have B1a : decide (B <= 31) = true := by simp <;> omega
  have B1b : decide (31 < B) = false := by simp <;> omega
  have F0a : decide (0 <= F) = true := by simp <;> omega
  have F0b : decide (F < 0) = false := by simp <;> omega
  have F1a : decide (F <= 30) = true := by simp <;> omega
  have F1b : decide (30 < F) = false := by simp <;> omega
  have R0a : decide (1 <= R) = true := by simp <;> omega
  have R0b : decide (R < 1) = false := by simp <;> omega
  have R1a : decide (R <= 4) = false := by simp <;> omega
  have R1b : decide (4 < R) = true := by simp <;> omega
  clear h
  go_enter Tryz.func81, Tryz.ntmps81
  go_wp2
  go_ret
  exact ⟨rfl, by go_grown⟩
 ·have K2a : (K == 2) = true := by simp <;> omega
  have K2b : (K != 2) = false := by simp <;> omega
  have B0a : decide (2 <= B) = true := by simp <;> omega
  have B0b : decide (B < 2) = false := by simp <;> omega
  have B1a : decide (B <= 31) = true := by simp <;> omega
  have B1b : decide (31 < B) = false := by simp <;> omega
  have F0a : decide (0 <= F) = true := by simp <;> omega
  have F0b : decide (F < 0) = false := by simp <;> omega
  have F1a : decide (F <= 30) = true := by simp <;> omega
  have F1b : decide (30 < F) = false := by simp <;> omega
  have R0a : decide (1 <= R) = true := by simp <;> omega
  have R0b : decide (R < 1) = false := by simp <;> omega
  have R1a : decide (R <= 4) = true := by simp <;> omega
  have R1b : decide (4 < R) = false := by simp <;> omega
  have O1a : (O == 1) = false := by simp <;> omega
  have O1b : (O != 1) = true := by simp <;> omega
  have O2a : (O == 2) = false := by simp <;> omega
  have O2b : (O != 2) = true := by simp <;> omega
  clear h
  go_enter Tryz.func81, Tryz.ntmps81
  go_wp2
  go_ret
  exact ⟨rfl, by go_grown⟩
set_option maxHeartbeats 4000000 in
theorem vt_ok (K B F R O : Int) (w : World) (h : tv K B F R O = true) : Calls Tryz.prog 81 #[.agg #[.int .i64 K, .int .i64 B, .int .i64 F, .int .i64 R, .int .i64 O]] w (Ret (.int .i64 0) w) := by
 obtain ⟨h1, h2, h3, h4, h5, h6, h7, h8⟩ := tv_parts h
 rcases h8 with h8 | h8
 ·have K2a : (K == 2) = true := by simp <;> omega
  have K2b : (K != 2) = false := by simp <;> omega
  have B0a : decide (2 <= B) = true := by simp <;> omega
  have B0b : decide (B < 2) = false := by simp <;> omega
  have B1a : decide (B <= 31) = true := by simp <;> omega
  have B1b : decide (31 < B) = false := by simp <;> omega
  have F0a : decide (0 <= F) = true := by simp <;> omega
  have F0b : decide (F < 0) = false := by simp <;> omega
  have F1a : decide (F <= 30) = true := by simp <;> omega
  have F1b : decide (30 < F) = false := by simp <;> omega
  have R0a : decide (1 <= R) = true := by simp <;> omega
  have R0b : decide (R < 1) = false := by simp <;> omega
  have R1a : decide (R <= 4) = true := by simp <;> omega
  have R1b : decide (4 < R) = false := by simp <;> omega
  have O1a : (O == 1) = true := by simp <;> omega
  have O1b : (O != 1) = false := by simp <;> omega
  have O2a : (O == 2) = false := by simp <;> omega
  have O2b : (O != 2) = true := by simp <;> omega
  clear h h1 h2 h3 h4 h5 h6 h7 h8
  go_enter Tryz.func81, Tryz.ntmps81
  go_wp2
  go_ret
  exact ⟨rfl, by go_grown⟩
 ·have K2a : (K == 2) = true := by simp <;> omega
  have K2b : (K != 2) = false := by simp <;> omega
  have B0a : decide (2 <= B) = true := by simp <;> omega
  have B0b : decide (B < 2) = false := by simp <;> omega
  have B1a : decide (B <= 31) = true := by simp <;> omega
  have B1b : decide (31 < B) = false := by simp <;> omega
  have F0a : decide (0 <= F) = true := by simp <;> omega
  have F0b : decide (F < 0) = false := by simp <;> omega
  have F1a : decide (F <= 30) = true := by simp <;> omega
  have F1b : decide (30 < F) = false := by simp <;> omega
  have R0a : decide (1 <= R) = true := by simp <;> omega
  have R0b : decide (R < 1) = false := by simp <;> omega
  have R1a : decide (R <= 4) = true := by simp <;> omega
  have R1b : decide (4 < R) = false := by simp <;> omega
  have O1a : (O == 1) = false := by simp <;> omega
  have O1b : (O != 1) = true := by simp <;> omega
  have O2a : (O == 2) = true := by simp <;> omega
  have O2b : (O != 2) = false := by simp <;> omega
  clear h h1 h2 h3 h4 h5 h6 h7 h8
  go_enter Tryz.func81, Tryz.ntmps81
  go_wp2
  go_ret
  exact ⟨rfl, by go_grown⟩
set_option maxHeartbeats 4000000 in
theorem bt_bad (K B F R O : Int) (w : World) (h : tv K B F R O = false) (hk : K = 2) : Calls Tryz.prog 52 #[.agg #[.int .i64 K, .int .i64 B, .int .i64 F, .int .i64 R, .int .i64 O]] w (Ret (.bool false) w) := by
 rcases tv_cases h with h | h | h | h | h | h | h | h
 ·exact absurd hk h
 ·have K2a : (K == 2) = true := by simp <;> omega
  have K1a : (K == 1) = false := by simp <;> omega
  have K3a : (K == 3) = false := by simp <;> omega
  have K2b : (K != 2) = false := by simp <;> omega
  have B0a : decide (2 <= B) = false := by simp <;> omega
  have B0b : decide (B < 2) = true := by simp <;> omega
  clear h
  go_enter Tryz.func52, Tryz.ntmps52
  go_wp2
  go_ret
  exact ⟨rfl, by go_grown⟩
 ·have K2a : (K == 2) = true := by simp <;> omega
  have K1a : (K == 1) = false := by simp <;> omega
  have K3a : (K == 3) = false := by simp <;> omega
  have K2b : (K != 2) = false := by simp <;> omega
  have B0a : decide (2 <= B) = true := by simp <;> omega
  have B0b : decide (B < 2) = false := by simp <;> omega
  have B1a : decide (B <= 31) = false := by simp <;> omega
  have B1b : decide (31 < B) = true := by simp <;> omega
  clear h
  go_enter Tryz.func52, Tryz.ntmps52
  go_wp2
  go_ret
  exact ⟨rfl, by go_grown⟩
 ·have K2a : (K == 2) = true := by simp <;> omega
  have K1a : (K == 1) = false := by simp <;> omega
  have K3a : (K == 3) = false := by simp <;> omega
  have K2b : (K != 2) = false := by simp <;> omega
  have B0a : decide (2 <= B) = true := by simp <;> omega
  have B0b : decide (B < 2) = false := by simp <;> omega
  have B1a : decide (B <= 31) = true := by simp <;> omega
  have B1b : decide (31 < B) = false := by simp <;> omega
  have F0a : decide (0 <= F) = false := by simp <;> omega
  have F0b : decide (F < 0) = true := by simp <;> omega
  clear h
  go_enter Tryz.func52, Tryz.ntmps52
  go_wp2
  go_ret
  exact ⟨rfl, by go_grown⟩
 ·have K2a : (K == 2) = true := by simp <;> omega
  have K1a : (K == 1) = false := by simp <;> omega
  have K3a : (K == 3) = false := by simp <;> omega
  have K2b : (K != 2) = false := by simp <;> omega
  have B0a : decide (2 <= B) = true := by simp <;> omega
  have B0b : decide (B < 2) = false := by simp <;> omega
  have B1a : decide (B <= 31) = true := by simp <;> omega
  have B1b : decide (31 < B) = false := by simp <;> omega
  have F0a : decide (0 <= F) = true := by simp <;> omega
  have F0b : decide (F < 0) = false := by simp <;> omega
  have F1a : decide (F <= 30) = false := by simp <;> omega
  have F1b : decide (30 < F) = true := by simp <;> omega
  clear h
  go_enter Tryz.func52, Tryz.ntmps52
  go_wp2
  go_ret
  exact ⟨rfl, by go_grown⟩
 ·have K2a : (K == 2) = true := by simp <;> omega
  have K1a : (K == 1) = false := by simp <;> omega
  have K3a : (K == 3) = false := by simp <;> omega
  have K2b : (K != 2) = false := by simp <;> omega
  have B0a : decide (2 <= B) = true := by simp <;> omega
  have B0b : decide (B < 2) = false := by simp <;> omega
  have B1a : decide (B <= 31) = true := by simp <;> omega
  have B1b : decide (31 < B) = false := by simp <;> omega
  have F0a : decide (0 <= F) = true := by simp <;> omega
  have F0b : decide (F < 0) = false := by simp <;> omega
  have F1a : decide (F <= 30) = true := by simp <;> omega
  have F1b : decide (30 < F) = false := by simp <;> omega
  have R0a : decide (1 <= R) = false := by simp <;> omega
  have R0b : decide (R < 1) = true := by simp <;> omega
  clear h
  go_enter Tryz.func52, Tryz.ntmps52
  go_wp2
  go_ret
  exact ⟨rfl, by go_grown⟩
 ·have K2a : (K == 2) = true := by simp <;> omega
  have K1a : (K == 1) = false := by simp <;> omega
  have K3a : (K == 3) = false := by simp <;> omega
  have K2b : (K != 2) = false := by simp <;> omega
  have B0a : decide (2 <= B) = true := by simp <;> omega
  have B0b : decide (B < 2) = false := by simp <;> omega
  have B1a : decide (B <= 31) = true := by simp <;> omega
  have B1b : decide (31 < B) = false := by simp <;> omega
  have F0a : decide (0 <= F) = true := by simp <;> omega
  have F0b : decide (F < 0) = false := by simp <;> omega
  have F1a : decide (F <= 30) = true := by simp <;> omega
  have F1b : decide (30 < F) = false := by simp <;> omega
  have R0a : decide (1 <= R) = true := by simp <;> omega
  have R0b : decide (R < 1) = false := by simp <;> omega
  have R1a : decide (R <= 4) = false := by simp <;> omega
  have R1b : decide (4 < R) = true := by simp <;> omega
  clear h
  go_enter Tryz.func52, Tryz.ntmps52
  go_wp2
  go_ret
  exact ⟨rfl, by go_grown⟩
 ·have K2a : (K == 2) = true := by simp <;> omega
  have K1a : (K == 1) = false := by simp <;> omega
  have K3a : (K == 3) = false := by simp <;> omega
  have K2b : (K != 2) = false := by simp <;> omega
  have B0a : decide (2 <= B) = true := by simp <;> omega
  have B0b : decide (B < 2) = false := by simp <;> omega
  have B1a : decide (B <= 31) = true := by simp <;> omega
  have B1b : decide (31 < B) = false := by simp <;> omega
  have F0a : decide (0 <= F) = true := by simp <;> omega
  have F0b : decide (F < 0) = false := by simp <;> omega
  have F1a : decide (F <= 30) = true := by simp <;> omega
  have F1b : decide (30 < F) = false := by simp <;> omega
  have R0a : decide (1 <= R) = true := by simp <;> omega
  have R0b : decide (R < 1) = false := by simp <;> omega
  have R1a : decide (R <= 4) = true := by simp <;> omega
  have R1b : decide (4 < R) = false := by simp <;> omega
  have O1a : (O == 1) = false := by simp <;> omega
  have O1b : (O != 1) = true := by simp <;> omega
  have O2a : (O == 2) = false := by simp <;> omega
  have O2b : (O != 2) = true := by simp <;> omega
  clear h
  go_enter Tryz.func52, Tryz.ntmps52
  go_wp2
  go_ret
  exact ⟨rfl, by go_grown⟩
set_option maxHeartbeats 4000000 in
theorem bt_ok (K B F R O : Int) (w : World) (h : tv K B F R O = true) : Calls Tryz.prog 52 #[.agg #[.int .i64 K, .int .i64 B, .int .i64 F, .int .i64 R, .int .i64 O]] w (Ret (.bool true) w) := by
 obtain ⟨h1, h2, h3, h4, h5, h6, h7, h8⟩ := tv_parts h
 rcases h8 with h8 | h8
 ·have K2a : (K == 2) = true := by simp <;> omega
  have K1a : (K == 1) = false := by simp <;> omega
  have K3a : (K == 3) = false := by simp <;> omega
  have K2b : (K != 2) = false := by simp <;> omega
  have B0a : decide (2 <= B) = true := by simp <;> omega
  have B0b : decide (B < 2) = false := by simp <;> omega
  have B1a : decide (B <= 31) = true := by simp <;> omega
  have B1b : decide (31 < B) = false := by simp <;> omega
  have F0a : decide (0 <= F) = true := by simp <;> omega
  have F0b : decide (F < 0) = false := by simp <;> omega
  have F1a : decide (F <= 30) = true := by simp <;> omega
  have F1b : decide (30 < F) = false := by simp <;> omega
  have R0a : decide (1 <= R) = true := by simp <;> omega
  have R0b : decide (R < 1) = false := by simp <;> omega
  have R1a : decide (R <= 4) = true := by simp <;> omega
  have R1b : decide (4 < R) = false := by simp <;> omega
  have O1a : (O == 1) = true := by simp <;> omega
  have O1b : (O != 1) = false := by simp <;> omega
  have O2a : (O == 2) = false := by simp <;> omega
  have O2b : (O != 2) = true := by simp <;> omega
  clear h h1 h2 h3 h4 h5 h6 h7 h8
  go_enter Tryz.func52, Tryz.ntmps52
  go_wp2
  go_ret
  exact ⟨rfl, by go_grown⟩
 ·have K2a : (K == 2) = true := by simp <;> omega
  have K1a : (K == 1) = false := by simp <;> omega
  have K3a : (K == 3) = false := by simp <;> omega
  have K2b : (K != 2) = false := by simp <;> omega
  have B0a : decide (2 <= B) = true := by simp <;> omega
  have B0b : decide (B < 2) = false := by simp <;> omega
  have B1a : decide (B <= 31) = true := by simp <;> omega
  have B1b : decide (31 < B) = false := by simp <;> omega
  have F0a : decide (0 <= F) = true := by simp <;> omega
  have F0b : decide (F < 0) = false := by simp <;> omega
  have F1a : decide (F <= 30) = true := by simp <;> omega
  have F1b : decide (30 < F) = false := by simp <;> omega
  have R0a : decide (1 <= R) = true := by simp <;> omega
  have R0b : decide (R < 1) = false := by simp <;> omega
  have R1a : decide (R <= 4) = true := by simp <;> omega
  have R1b : decide (4 < R) = false := by simp <;> omega
  have O1a : (O == 1) = false := by simp <;> omega
  have O1b : (O != 1) = true := by simp <;> omega
  have O2a : (O == 2) = true := by simp <;> omega
  have O2b : (O != 2) = false := by simp <;> omega
  clear h h1 h2 h3 h4 h5 h6 h7 h8
  go_enter Tryz.func52, Tryz.ntmps52
  go_wp2
  go_ret
  exact ⟨rfl, by go_grown⟩
end Go.Proofs.YteaaikmejacpaaaGreatDoor.Fx


namespace Go.Proofs.YteaaikmejacpaaaGreatDoor.Nx
open Go.ChangeShapes Go.WideShapes Go.ChangeAt Go.RowKit
set_option linter.unusedVariables false
set_option linter.unusedSimpArgs false
def half (bits : Int) : Int := 2 ^ (bits.toNat - 1)
def full (bits : Int) : Int := 2 ^ bits.toNat
def mnv (bits : Int) : Int := if bits < 2 \/ 31 < bits then 0 else - half bits
def mxv (bits : Int) : Int := if bits < 2 \/ 31 < bits then 0 else half bits - 1
def nbad (bits over : Int) : Prop := (bits < 2 \/ 31 < bits) \/ (over ≠ 1 /\ over ≠ 2)
instance (bits over : Int) : Decidable (nbad bits over) := by unfold nbad; infer_instance
def nv (n bits over : Int) : Int :=
 if nbad bits over then 0 else if n < - half bits then (if over = 1 then - half bits else (n + half bits) % full bits - half bits)
 else if half bits - 1 < n then (if over = 1 then half bits - 1 else (n + half bits) % full bits - half bits) else n
def nb (n bits over : Int) : Bool :=
 if nbad bits over then false else decide (n < - half bits \/ half bits - 1 < n)
theorem tmod_neg (n m : Int) (hn : n < 0) (hm : 0 < m) : n.tmod m = -((-n) % m) := by
 rw [<- Int.tmod_eq_emod_of_nonneg (by omega : 0 <= -n), Int.neg_tmod, Int.neg_neg]
theorem widths (bits : Int) (h : 2 <= bits) (h' : bits <= 31) : (bits = 2 /\ half bits = 2 /\ full bits = 4) \/ (bits = 3 /\ half bits = 4 /\ full bits = 8) \/ (bits = 4 /\ half bits = 8 /\ full bits = 16) \/ (bits = 5 /\ half bits = 16 /\ full bits = 32) \/ (bits = 6 /\ half bits = 32 /\ full bits = 64) \/ (bits = 7 /\ half bits = 64 /\ full bits = 128) \/ (bits = 8 /\ half bits = 128 /\ full bits = 256) \/ (bits = 9 /\ half bits = 256 /\ full bits = 512) \/ (bits = 10 /\ half bits = 512 /\ full bits = 1024) \/ (bits = 11 /\ half bits = 1024 /\ full bits = 2048) \/ (bits = 12 /\ half bits = 2048 /\ full bits = 4096) \/ (bits = 13 /\ half bits = 4096 /\ full bits = 8192) \/ (bits = 14 /\ half bits = 8192 /\ full bits = 16384) \/ (bits = 15 /\ half bits = 16384 /\ full bits = 32768) \/ (bits = 16 /\ half bits = 32768 /\ full bits = 65536) \/ (bits = 17 /\ half bits = 65536 /\ full bits = 131072) \/ (bits = 18 /\ half bits = 131072 /\ full bits = 262144) \/ (bits = 19 /\ half bits = 262144 /\ full bits = 524288) \/ (bits = 20 /\ half bits = 524288 /\ full bits = 1048576) \/ (bits = 21 /\ half bits = 1048576 /\ full bits = 2097152) \/ (bits = 22 /\ half bits = 2097152 /\ full bits = 4194304) \/ (bits = 23 /\ half bits = 4194304 /\ full bits = 8388608) \/ (bits = 24 /\ half bits = 8388608 /\ full bits = 16777216) \/ (bits = 25 /\ half bits = 16777216 /\ full bits = 33554432) \/ (bits = 26 /\ half bits = 33554432 /\ full bits = 67108864) \/ (bits = 27 /\ half bits = 67108864 /\ full bits = 134217728) \/ (bits = 28 /\ half bits = 134217728 /\ full bits = 268435456) \/ (bits = 29 /\ half bits = 268435456 /\ full bits = 536870912) \/ (bits = 30 /\ half bits = 536870912 /\ full bits = 1073741824) \/ (bits = 31 /\ half bits = 1073741824 /\ full bits = 2147483648) := by
 rcases (by omega : bits = 2 \/ bits = 3 \/ bits = 4 \/ bits = 5 \/ bits = 6 \/ bits = 7 \/ bits = 8 \/ bits = 9 \/ bits = 10 \/ bits = 11 \/ bits = 12 \/ bits = 13 \/ bits = 14 \/ bits = 15 \/ bits = 16 \/ bits = 17 \/ bits = 18 \/ bits = 19 \/ bits = 20 \/ bits = 21 \/ bits = 22 \/ bits = 23 \/ bits = 24 \/ bits = 25 \/ bits = 26 \/ bits = 27 \/ bits = 28 \/ bits = 29 \/ bits = 30 \/ bits = 31) with rfl | rfl | rfl | rfl | rfl | rfl | rfl | rfl | rfl | rfl | rfl | rfl | rfl | rfl | rfl | rfl | rfl | rfl | rfl | rfl | rfl | rfl | rfl | rfl | rfl | rfl | rfl | rfl | rfl | rfl
 all_goals simp [half, full]
theorem ret2v {k : IntKind} {a b : Int} {x y : Bool} (h : a = b) (h' : x = y) : Ending.returned (.tuple #[.int k a, .bool x]) = .returned (.tuple #[.int k b, .bool y]) := by rw [h, h']
theorem ret1 {k : IntKind} {a b : Int} (h : a = b) : Ending.returned (.int k a) = .returned (.int k b) := by rw [h]
set_option maxHeartbeats 4000000 in
theorem min_any (bits : Int) (w : World) (h0 : -9223372036854775808 <= bits) (h1 : bits <= 9223372036854775807) :
  Calls Tryz.prog 111 #[.int .i64 bits] w fun e w' => e = .returned (.int .i64 (mnv bits)) /\ w = w' := by
 by_cases hb : bits < 2 \/ 31 < bits
 ·rw [show mnv bits = 0 from by unfold mnv; rw [if_pos hb]]
  rcases hb with hb | hb
  ·have k1 : decide (2 <= bits) = false := by simp; omega
   have k2 : decide (bits < 2) = true := by simp; omega
   go_enter Tryz.func111, Tryz.ntmps111
   go_wp2
   go_ret
   exact ⟨rfl, rfl⟩
  ·have k1 : decide (2 <= bits) = true := by simp; omega
   have k2 : decide (bits < 2) = false := by simp; omega
   have k3 : decide (bits <= 31) = false := by simp; omega
   have k4 : decide (31 < bits) = true := by simp; omega
   go_enter Tryz.func111, Tryz.ntmps111
   go_wp2
   go_ret
   exact ⟨rfl, rfl⟩
 ·have H := Lib.hid (show mnv bits = - half bits from by unfold mnv; rw [if_neg hb])
  rcases widths bits (by omega) (by omega) with ⟨rfl, hh, hf⟩ | ⟨rfl, hh, hf⟩ | ⟨rfl, hh, hf⟩ | ⟨rfl, hh, hf⟩ | ⟨rfl, hh, hf⟩ | ⟨rfl, hh, hf⟩ | ⟨rfl, hh, hf⟩ | ⟨rfl, hh, hf⟩ | ⟨rfl, hh, hf⟩ | ⟨rfl, hh, hf⟩ | ⟨rfl, hh, hf⟩ | ⟨rfl, hh, hf⟩ | ⟨rfl, hh, hf⟩ | ⟨rfl, hh, hf⟩ | ⟨rfl, hh, hf⟩ | ⟨rfl, hh, hf⟩ | ⟨rfl, hh, hf⟩ | ⟨rfl, hh, hf⟩ | ⟨rfl, hh, hf⟩ | ⟨rfl, hh, hf⟩ | ⟨rfl, hh, hf⟩ | ⟨rfl, hh, hf⟩ | ⟨rfl, hh, hf⟩ | ⟨rfl, hh, hf⟩ | ⟨rfl, hh, hf⟩ | ⟨rfl, hh, hf⟩ | ⟨rfl, hh, hf⟩ | ⟨rfl, hh, hf⟩ | ⟨rfl, hh, hf⟩ | ⟨rfl, hh, hf⟩
  all_goals
   rw [hh] at H
   clear hb hh hf
   go_enter Tryz.func111, Tryz.ntmps111
   go_wp2
   go_ret
   exact ⟨ret1 (by have h := H.out; omega), rfl⟩
set_option maxHeartbeats 4000000 in
theorem max_any (bits : Int) (w : World) (h0 : -9223372036854775808 <= bits) (h1 : bits <= 9223372036854775807) :
  Calls Tryz.prog 112 #[.int .i64 bits] w fun e w' => e = .returned (.int .i64 (mxv bits)) /\ w = w' := by
 by_cases hb : bits < 2 \/ 31 < bits
 ·rw [show mxv bits = 0 from by unfold mxv; rw [if_pos hb]]
  rcases hb with hb | hb
  ·have k1 : decide (2 <= bits) = false := by simp; omega
   have k2 : decide (bits < 2) = true := by simp; omega
   go_enter Tryz.func112, Tryz.ntmps112
   go_wp2
   go_ret
   exact ⟨rfl, rfl⟩
  ·have k1 : decide (2 <= bits) = true := by simp; omega
   have k2 : decide (bits < 2) = false := by simp; omega
   have k3 : decide (bits <= 31) = false := by simp; omega
   have k4 : decide (31 < bits) = true := by simp; omega
   go_enter Tryz.func112, Tryz.ntmps112
   go_wp2
   go_ret
   exact ⟨rfl, rfl⟩
 ·have H := Lib.hid (show mxv bits = half bits - 1 from by unfold mxv; rw [if_neg hb])
  rcases widths bits (by omega) (by omega) with ⟨rfl, hh, hf⟩ | ⟨rfl, hh, hf⟩ | ⟨rfl, hh, hf⟩ | ⟨rfl, hh, hf⟩ | ⟨rfl, hh, hf⟩ | ⟨rfl, hh, hf⟩ | ⟨rfl, hh, hf⟩ | ⟨rfl, hh, hf⟩ | ⟨rfl, hh, hf⟩ | ⟨rfl, hh, hf⟩ | ⟨rfl, hh, hf⟩ | ⟨rfl, hh, hf⟩ | ⟨rfl, hh, hf⟩ | ⟨rfl, hh, hf⟩ | ⟨rfl, hh, hf⟩ | ⟨rfl, hh, hf⟩ | ⟨rfl, hh, hf⟩ | ⟨rfl, hh, hf⟩ | ⟨rfl, hh, hf⟩ | ⟨rfl, hh, hf⟩ | ⟨rfl, hh, hf⟩ | ⟨rfl, hh, hf⟩ | ⟨rfl, hh, hf⟩ | ⟨rfl, hh, hf⟩ | ⟨rfl, hh, hf⟩ | ⟨rfl, hh, hf⟩ | ⟨rfl, hh, hf⟩ | ⟨rfl, hh, hf⟩ | ⟨rfl, hh, hf⟩ | ⟨rfl, hh, hf⟩
  all_goals
   rw [hh] at H
   clear hb hh hf
   go_enter Tryz.func112, Tryz.ntmps112
   go_wp2
   go_ret
   exact ⟨ret1 (by have h := H.out; omega), rfl⟩
end Go.Proofs.YteaaikmejacpaaaGreatDoor.Nx


namespace Go.Proofs.YteaaikmejacpaaaGreatDoor.Rg
open Go.ChangeShapes Go.WideShapes Go.ChangeAt Go.RowKit
set_option linter.unusedVariables false
set_option linter.unusedSimpArgs false

section
variable {P : Program} {ops : Array Oper} {Q : Exit -> Act -> World -> Prop} {md : Region.Mode} {S : World -> Prop}
theorem at_of {i : Nat} {oi : Oper} (h : ops.toList[i]? = some oi) : ops[i]? = some oi := by rw [<- Array.getElem?_toList]; exact h
/-- An operation that is carried out, or left out, first. -/
theorem take {i : Nat} {oi : Oper} {v : Value} {fuel : Nat} {listed : Array Bool} {a : Act} {w : World} (hi : ops.toList[i]? = some oi)
  (hs : Region.noSelect ops = true) (hf : Region.free md ops listed i = true) (hr : (Region.ready md ops listed).contains i = true)
  (hQ : ∀ c a w, Q (.panic c) (a.put oi.dst v) w -> Q (.panic c) a w) (hy : YieldsIf P ops S oi v a) (hS : S w)
  (h : wpAnyH P md ops Q S fuel (listed.setIfInBounds i true) (a.put oi.dst v) w) : wpAnyH P md ops Q S (fuel + 1) listed a w :=
 wpAnyH_take (at_of hi) hs hf hr hQ hy hS h
/-- The one operation that may come up. -/
theorem one {i : Nat} {o : Oper} {fuel : Nat} {listed : Array Bool} {a : Act} {w : World} (hr : Region.ready md ops listed = [i]) (ho : ops.toList[i]? = some o)
  (h : ∀ K' : Act -> World -> Prop, Shut (∀ a w, S w -> (S w -> wpAnyH P md ops Q S fuel (listed.setIfInBounds i true) a w) -> K' a w) -> if Region.wanted o (yielded ops a.tmps) = true then Oper.wp P o a w K' Q else K' (a.put o.dst undef) w) :
  wpAnyH P md ops Q S (fuel + 1) listed a w :=
 wpAnyH_ready hr (by simp) (AllReadyH.cons (at_of ho) h AllReadyH.nil)
end
/-- Two cells of a result, whatever they hold. -/
def RC (r : Nat) (w : World) : Prop := (∃ a, w.cell? ⟨r, 0, none⟩ = some (.int .i64 a)) /\ (∃ b, w.cell? ⟨r, 1, none⟩ = some (.int .i64 b)) /\ w.frozen? ⟨r, 0, none⟩ = false /\ w.frozen? ⟨r, 1, none⟩ = false
theorem keep {y y' : World} {b o : Nat} {v : Value} (hy : Below y.heap.size y y') (hb : b < y.heap.size) (h : y.cell? ⟨b, o, none⟩ = some v) : y'.cell? ⟨b, o, none⟩ = some v := (hy.cell (p := ⟨b, o, none⟩) hb).trans h
theorem keepF {y y' : World} {b o : Nat} {v : Bool} (hy : Below y.heap.size y y') (hb : b < y.heap.size) (h : y.frozen? ⟨b, o, none⟩ = v) : y'.frozen? ⟨b, o, none⟩ = v := (hy.frozen (p := ⟨b, o, none⟩) hb).trans h
theorem notFrozen {w : World} {b o : Nat} (h : w.heap.size <= b) : w.frozen? ⟨b, o, none⟩ = false := by
 unfold World.frozen?
 rw [Array.getElem?_eq_none (by simpa using h)]
theorem RC.keep {y y' : World} {r : Nat} (hy : Below y.heap.size y y') (hb : r < y.heap.size) (h : RC r y) : RC r y' := by
 obtain ⟨⟨a, ha⟩, ⟨b, hb'⟩, f, g⟩ := h
 exact ⟨⟨a, Rg.keep hy hb ha⟩, ⟨b, Rg.keep hy hb hb'⟩, keepF hy hb f, keepF hy hb g⟩
theorem RC.store {u : World} {r : Nat} {x y : Int} (h : RC r u) : RC r ((u.setCell ⟨r, 0, none⟩ (.int .i64 x)).setCell ⟨r, 1, none⟩ (.int .i64 y)) := by
 obtain ⟨⟨a, ha⟩, ⟨b, hb⟩, f, g⟩ := h
 have h0 : (u.setCell ⟨r, 0, none⟩ (.int .i64 x)).cell? ⟨r, 0, none⟩ = some (.int .i64 x) := World.cell?_setCell_same _ _ _ ha
 have h1 : (u.setCell ⟨r, 0, none⟩ (.int .i64 x)).cell? ⟨r, 1, none⟩ = some (.int .i64 b) := (World.cell?_setCell_other _ _ _ _ (by simp)).trans hb
 exact ⟨⟨x, (World.cell?_setCell_other _ _ _ _ (by simp)).trans h0⟩, ⟨y, World.cell?_setCell_same _ _ _ h1⟩, by simpa [World.frozen?_setCell] using f, by simpa [World.frozen?_setCell] using g⟩
theorem RC.read0 {u : World} {r : Nat} {x y : Int} (h : RC r u) : ((u.setCell ⟨r, 0, none⟩ (.int .i64 x)).setCell ⟨r, 1, none⟩ (.int .i64 y)).cell? ⟨r, 0, none⟩ = some (.int .i64 x) := by
 obtain ⟨⟨a, ha⟩, _, f, g⟩ := h
 exact (World.cell?_setCell_other _ _ _ _ (by simp)).trans (World.cell?_setCell_same _ _ _ ha)
theorem RC.read00 {u : World} {r : Nat} {x : Int} (h : RC r u) : (u.setCell ⟨r, 0, none⟩ (.int .i64 x)).cell? ⟨r, 0, none⟩ = some (.int .i64 x) := by
 obtain ⟨⟨a, ha⟩, _, f, g⟩ := h
 exact World.cell?_setCell_same _ _ _ ha
theorem RC.read1 {u : World} {r : Nat} {x y : Int} (h : RC r u) : ((u.setCell ⟨r, 0, none⟩ (.int .i64 x)).setCell ⟨r, 1, none⟩ (.int .i64 y)).cell? ⟨r, 1, none⟩ = some (.int .i64 y) := by
 obtain ⟨_, ⟨b, hb⟩, f, g⟩ := h
 have h1 : (u.setCell ⟨r, 0, none⟩ (.int .i64 x)).cell? ⟨r, 1, none⟩ = some (.int .i64 b) := (World.cell?_setCell_other _ _ _ _ (by simp)).trans hb
 exact World.cell?_setCell_same _ _ _ h1
theorem RC.far {u : World} {r b : Nat} {x y : Value} (h : r ≠ b) (hc : RC b u) : RC b ((u.setCell ⟨r, 0, none⟩ x).setCell ⟨r, 1, none⟩ y) := by
 obtain ⟨⟨a, ha⟩, ⟨c, hb⟩, f, g⟩ := hc
 refine ⟨⟨a, ?_⟩, ⟨c, ?_⟩, by simpa [World.frozen?_setCell] using f, by simpa [World.frozen?_setCell] using g⟩
 ·rw [World.cell?_setCell_far _ _ _ _ h, World.cell?_setCell_far _ _ _ _ h]; exact ha
 ·rw [World.cell?_setCell_far _ _ _ _ h, World.cell?_setCell_far _ _ _ _ h]; exact hb
theorem RC.mk {u : World} {r : Nat} {a b : Int} (ha : u.cell? ⟨r, 0, none⟩ = some (.int .i64 a)) (hb : u.cell? ⟨r, 1, none⟩ = some (.int .i64 b)) (f : u.frozen? ⟨r, 0, none⟩ = false) (g : u.frozen? ⟨r, 1, none⟩ = false) : RC r u := ⟨⟨a, ha⟩, ⟨b, hb⟩, f, g⟩
theorem far {u : World} {r b o : Nat} {v x y : Value} (h : r ≠ b) (hc : u.cell? ⟨b, o, none⟩ = some v) : ((u.setCell ⟨r, 0, none⟩ x).setCell ⟨r, 1, none⟩ y).cell? ⟨b, o, none⟩ = some v := by
 rw [World.cell?_setCell_far _ _ _ _ h, World.cell?_setCell_far _ _ _ _ h]
 exact hc
theorem size2 {u : World} {r : Nat} {x y : Value} : ((u.setCell ⟨r, 0, none⟩ x).setCell ⟨r, 1, none⟩ y).heap.size = u.heap.size := by simp
theorem bcell {W w1 : World} (hb : Below W.heap.size W w1) : (∀ b o, b < W.heap.size -> w1.cell? ⟨b, o, none⟩ = W.cell? ⟨b, o, none⟩) /\ (∀ b o, b < W.heap.size -> w1.frozen? ⟨b, o, none⟩ = W.frozen? ⟨b, o, none⟩) :=
 ⟨fun b o h => hb.cell (p := ⟨b, o, none⟩) h, fun b o h => hb.frozen (p := ⟨b, o, none⟩) h⟩
end Go.Proofs.YteaaikmejacpaaaGreatDoor.Rg
