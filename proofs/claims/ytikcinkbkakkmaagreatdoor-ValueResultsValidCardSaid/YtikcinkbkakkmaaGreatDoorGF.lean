/- MinInt and MaxInt of package round and of the reference, for every width; the narrowed number as a plain function. -/
import Derived.Test.YtikcinkbkakkmaaGreatDoorRows
import Derived.WalkKit
import Derived.ProofKit
import Derived.OpenShut
import Derived.WalkLawsBesides
import Derived.WalkSpells
import Derived.Outline
import Derived.Handy
import Derived.Deep.QuietTactic
import Derived.BigQuiet
import Derived.Lib.Hide

namespace Go.Proofs.YtikcinkbkakkmaaGreatDoor.Nx
open Go.ChangeShapes Go.WideShapes Go.ChangeAt Go.RowKit
set_option linter.unusedVariables false
set_option linter.unusedSimpArgs false
def half (bits : Int) : Int := 2 ^ (bits.toNat - 1)
def full (bits : Int) : Int := 2 ^ bits.toNat
def mnv (bits : Int) : Int := if bits < 2 ∨ 31 < bits then 0 else - half bits
def mxv (bits : Int) : Int := if bits < 2 ∨ 31 < bits then 0 else half bits - 1
def nbad (bits over : Int) : Prop := (bits < 2 ∨ 31 < bits) ∨ (over ≠ 1 ∧ over ≠ 2)
instance (bits over : Int) : Decidable (nbad bits over) := by unfold nbad; infer_instance
def nv (n bits over : Int) : Int :=
  if nbad bits over then 0 else if n < - half bits then (if over = 1 then - half bits else (n + half bits) % full bits - half bits)
  else if half bits - 1 < n then (if over = 1 then half bits - 1 else (n + half bits) % full bits - half bits) else n
def nb (n bits over : Int) : Bool :=
  if nbad bits over then false else decide (n < - half bits ∨ half bits - 1 < n)
theorem tmod_neg (n m : Int) (hn : n < 0) (hm : 0 < m) : n.tmod m = -((-n) % m) := by
  rw [← Int.tmod_eq_emod_of_nonneg (by omega : 0 ≤ -n), Int.neg_tmod, Int.neg_neg]
theorem widths (bits : Int) (h : 2 ≤ bits) (h' : bits ≤ 31) : (bits = 2 ∧ half bits = 2 ∧ full bits = 4) ∨ (bits = 3 ∧ half bits = 4 ∧ full bits = 8) ∨ (bits = 4 ∧ half bits = 8 ∧ full bits = 16) ∨ (bits = 5 ∧ half bits = 16 ∧ full bits = 32) ∨ (bits = 6 ∧ half bits = 32 ∧ full bits = 64) ∨ (bits = 7 ∧ half bits = 64 ∧ full bits = 128) ∨ (bits = 8 ∧ half bits = 128 ∧ full bits = 256) ∨ (bits = 9 ∧ half bits = 256 ∧ full bits = 512) ∨ (bits = 10 ∧ half bits = 512 ∧ full bits = 1024) ∨ (bits = 11 ∧ half bits = 1024 ∧ full bits = 2048) ∨ (bits = 12 ∧ half bits = 2048 ∧ full bits = 4096) ∨ (bits = 13 ∧ half bits = 4096 ∧ full bits = 8192) ∨ (bits = 14 ∧ half bits = 8192 ∧ full bits = 16384) ∨ (bits = 15 ∧ half bits = 16384 ∧ full bits = 32768) ∨ (bits = 16 ∧ half bits = 32768 ∧ full bits = 65536) ∨ (bits = 17 ∧ half bits = 65536 ∧ full bits = 131072) ∨ (bits = 18 ∧ half bits = 131072 ∧ full bits = 262144) ∨ (bits = 19 ∧ half bits = 262144 ∧ full bits = 524288) ∨ (bits = 20 ∧ half bits = 524288 ∧ full bits = 1048576) ∨ (bits = 21 ∧ half bits = 1048576 ∧ full bits = 2097152) ∨ (bits = 22 ∧ half bits = 2097152 ∧ full bits = 4194304) ∨ (bits = 23 ∧ half bits = 4194304 ∧ full bits = 8388608) ∨ (bits = 24 ∧ half bits = 8388608 ∧ full bits = 16777216) ∨ (bits = 25 ∧ half bits = 16777216 ∧ full bits = 33554432) ∨ (bits = 26 ∧ half bits = 33554432 ∧ full bits = 67108864) ∨ (bits = 27 ∧ half bits = 67108864 ∧ full bits = 134217728) ∨ (bits = 28 ∧ half bits = 134217728 ∧ full bits = 268435456) ∨ (bits = 29 ∧ half bits = 268435456 ∧ full bits = 536870912) ∨ (bits = 30 ∧ half bits = 536870912 ∧ full bits = 1073741824) ∨ (bits = 31 ∧ half bits = 1073741824 ∧ full bits = 2147483648) := by
  rcases (by omega : bits = 2 ∨ bits = 3 ∨ bits = 4 ∨ bits = 5 ∨ bits = 6 ∨ bits = 7 ∨ bits = 8 ∨ bits = 9 ∨ bits = 10 ∨ bits = 11 ∨ bits = 12 ∨ bits = 13 ∨ bits = 14 ∨ bits = 15 ∨ bits = 16 ∨ bits = 17 ∨ bits = 18 ∨ bits = 19 ∨ bits = 20 ∨ bits = 21 ∨ bits = 22 ∨ bits = 23 ∨ bits = 24 ∨ bits = 25 ∨ bits = 26 ∨ bits = 27 ∨ bits = 28 ∨ bits = 29 ∨ bits = 30 ∨ bits = 31) with rfl | rfl | rfl | rfl | rfl | rfl | rfl | rfl | rfl | rfl | rfl | rfl | rfl | rfl | rfl | rfl | rfl | rfl | rfl | rfl | rfl | rfl | rfl | rfl | rfl | rfl | rfl | rfl | rfl | rfl
  all_goals simp [half, full]
theorem ret2v {k : IntKind} {a b : Int} {x y : Bool} (h : a = b) (h' : x = y) : Ending.returned (.tuple #[.int k a, .bool x]) = .returned (.tuple #[.int k b, .bool y]) := by rw [h, h']
theorem ret1 {k : IntKind} {a b : Int} (h : a = b) : Ending.returned (.int k a) = .returned (.int k b) := by rw [h]
set_option maxHeartbeats 4000000 in
theorem min_any (bits : Int) (w : World) (h0 : -9223372036854775808 ≤ bits) (h1 : bits ≤ 9223372036854775807) :
    Calls Tryz.prog 83 #[.int .i64 bits] w fun e w' => e = .returned (.int .i64 (mnv bits)) ∧ w = w' := by
  by_cases hb : bits < 2 ∨ 31 < bits
  · rw [show mnv bits = 0 from by unfold mnv; rw [if_pos hb]]
    rcases hb with hb | hb
    · have k1 : decide (2 ≤ bits) = false := by simp; omega
      have k2 : decide (bits < 2) = true := by simp; omega
      go_enter Tryz.func83, Tryz.ntmps83
      go_wp2
      go_ret
      exact ⟨rfl, rfl⟩
    · have k1 : decide (2 ≤ bits) = true := by simp; omega
      have k2 : decide (bits < 2) = false := by simp; omega
      have k3 : decide (bits ≤ 31) = false := by simp; omega
      have k4 : decide (31 < bits) = true := by simp; omega
      go_enter Tryz.func83, Tryz.ntmps83
      go_wp2
      go_ret
      exact ⟨rfl, rfl⟩
  · have H := Lib.hid (show mnv bits = - half bits from by unfold mnv; rw [if_neg hb])
    rcases widths bits (by omega) (by omega) with ⟨rfl, hh, hf⟩ | ⟨rfl, hh, hf⟩ | ⟨rfl, hh, hf⟩ | ⟨rfl, hh, hf⟩ | ⟨rfl, hh, hf⟩ | ⟨rfl, hh, hf⟩ | ⟨rfl, hh, hf⟩ | ⟨rfl, hh, hf⟩ | ⟨rfl, hh, hf⟩ | ⟨rfl, hh, hf⟩ | ⟨rfl, hh, hf⟩ | ⟨rfl, hh, hf⟩ | ⟨rfl, hh, hf⟩ | ⟨rfl, hh, hf⟩ | ⟨rfl, hh, hf⟩ | ⟨rfl, hh, hf⟩ | ⟨rfl, hh, hf⟩ | ⟨rfl, hh, hf⟩ | ⟨rfl, hh, hf⟩ | ⟨rfl, hh, hf⟩ | ⟨rfl, hh, hf⟩ | ⟨rfl, hh, hf⟩ | ⟨rfl, hh, hf⟩ | ⟨rfl, hh, hf⟩ | ⟨rfl, hh, hf⟩ | ⟨rfl, hh, hf⟩ | ⟨rfl, hh, hf⟩ | ⟨rfl, hh, hf⟩ | ⟨rfl, hh, hf⟩ | ⟨rfl, hh, hf⟩
    all_goals
      rw [hh] at H
      clear hb hh hf
      go_enter Tryz.func83, Tryz.ntmps83
      go_wp2
      go_ret
      exact ⟨ret1 (by have h := H.out; omega), rfl⟩
set_option maxHeartbeats 4000000 in
theorem max_any (bits : Int) (w : World) (h0 : -9223372036854775808 ≤ bits) (h1 : bits ≤ 9223372036854775807) :
    Calls Tryz.prog 84 #[.int .i64 bits] w fun e w' => e = .returned (.int .i64 (mxv bits)) ∧ w = w' := by
  by_cases hb : bits < 2 ∨ 31 < bits
  · rw [show mxv bits = 0 from by unfold mxv; rw [if_pos hb]]
    rcases hb with hb | hb
    · have k1 : decide (2 ≤ bits) = false := by simp; omega
      have k2 : decide (bits < 2) = true := by simp; omega
      go_enter Tryz.func84, Tryz.ntmps84
      go_wp2
      go_ret
      exact ⟨rfl, rfl⟩
    · have k1 : decide (2 ≤ bits) = true := by simp; omega
      have k2 : decide (bits < 2) = false := by simp; omega
      have k3 : decide (bits ≤ 31) = false := by simp; omega
      have k4 : decide (31 < bits) = true := by simp; omega
      go_enter Tryz.func84, Tryz.ntmps84
      go_wp2
      go_ret
      exact ⟨rfl, rfl⟩
  · have H := Lib.hid (show mxv bits = half bits - 1 from by unfold mxv; rw [if_neg hb])
    rcases widths bits (by omega) (by omega) with ⟨rfl, hh, hf⟩ | ⟨rfl, hh, hf⟩ | ⟨rfl, hh, hf⟩ | ⟨rfl, hh, hf⟩ | ⟨rfl, hh, hf⟩ | ⟨rfl, hh, hf⟩ | ⟨rfl, hh, hf⟩ | ⟨rfl, hh, hf⟩ | ⟨rfl, hh, hf⟩ | ⟨rfl, hh, hf⟩ | ⟨rfl, hh, hf⟩ | ⟨rfl, hh, hf⟩ | ⟨rfl, hh, hf⟩ | ⟨rfl, hh, hf⟩ | ⟨rfl, hh, hf⟩ | ⟨rfl, hh, hf⟩ | ⟨rfl, hh, hf⟩ | ⟨rfl, hh, hf⟩ | ⟨rfl, hh, hf⟩ | ⟨rfl, hh, hf⟩ | ⟨rfl, hh, hf⟩ | ⟨rfl, hh, hf⟩ | ⟨rfl, hh, hf⟩ | ⟨rfl, hh, hf⟩ | ⟨rfl, hh, hf⟩ | ⟨rfl, hh, hf⟩ | ⟨rfl, hh, hf⟩ | ⟨rfl, hh, hf⟩ | ⟨rfl, hh, hf⟩ | ⟨rfl, hh, hf⟩
    all_goals
      rw [hh] at H
      clear hb hh hf
      go_enter Tryz.func84, Tryz.ntmps84
      go_wp2
      go_ret
      exact ⟨ret1 (by have h := H.out; omega), rfl⟩
end Go.Proofs.YtikcinkbkakkmaaGreatDoor.Nx


namespace Go.Proofs.YtikcinkbkakkmaaGreatDoor.Nx
open Go.ChangeShapes Go.WideShapes Go.ChangeAt Go.RowKit
set_option linter.unusedVariables false
set_option linter.unusedSimpArgs false
set_option maxHeartbeats 8000000 in
theorem cnar_bad (n bits over : Int) (w : World) (h0 : -9223372036854775808 ≤ bits) (h1 : bits ≤ 9223372036854775807) (hb : nbad bits over) :
    Calls Tryz.prog 117 #[.int .i64 n, .int .i64 bits, .int .i64 over] w fun e w' => e = .returned (.tuple #[.int .i64 0, .bool false]) ∧ w = w' := by
  rcases hb with (hb | hb) | ⟨hb, hc⟩
  · have k1 : decide (2 ≤ bits) = false := by simp; omega
    have k2 : decide (bits < 2) = true := by simp; omega
    go_enter Tryz.func117, Tryz.ntmps117
    go_wp2
    all_goals
      go_ret2
      exact ⟨rfl, rfl⟩
  · have k1 : decide (2 ≤ bits) = true := by simp; omega
    have k2 : decide (bits < 2) = false := by simp; omega
    have k3 : decide (bits ≤ 31) = false := by simp; omega
    have k4 : decide (31 < bits) = true := by simp; omega
    go_enter Tryz.func117, Tryz.ntmps117
    go_wp2
    all_goals
      go_ret2
      exact ⟨rfl, rfl⟩
  · have o1 : (over != 1) = true := by simpa using hb
    have o2 : (over != 2) = true := by simpa using hc
    clear hb hc
    obtain ⟨x1, x2, x3, x4, y1, y2, y3, y4⟩ : ∃ x1 x2 x3 x4, decide (2 ≤ bits) = x1 ∧ decide (bits < 2) = x2 ∧ decide (bits ≤ 31) = x3 ∧ decide (31 < bits) = x4 := ⟨_, _, _, _, rfl, rfl, rfl, rfl⟩
    cases x1 <;> cases x2 <;> cases x3 <;> cases x4
    all_goals
      go_enter Tryz.func117, Tryz.ntmps117
      go_wp2
      all_goals
        go_ret2
        exact ⟨rfl, rfl⟩
end Go.Proofs.YtikcinkbkakkmaaGreatDoor.Nx
