/- The statement on the exhaustive search: its walk. -/
import Derived.Test.YtndmpoomdoojpaaRows
import Derived.WalkKit
import Derived.ProofKit
import Derived.OpenShut
import Derived.WalkLawsBesides
import Derived.WalkSpells
import Derived.Outline
import Derived.Handy
import Derived.IntWalk
import Derived.Deep.QuietTactic
import Derived.BigQuiet
import Derived.Lib.Hide
import Derived.Test.YtndmpoomdoojpaaK6
import Derived.Test.YtndmpoomdoojpaaKD6
namespace Go.Proofs.Ytndmpoomdoojpaa.Ck.Sr
open Go.ChangeShapes Go.WideShapes Go.ChangeAt Go.RowKit Go.Proofs.Ytndmpoomdoojpaa.Ck Go.Proofs.Ytndmpoomdoojpaa.Ck.Bf
set_option linter.unusedVariables false


set_option maxRecDepth 100000 in
set_option maxHeartbeats 4000000 in
theorem srch_go (a b : Int) (N S : Nat) (w : World) (ha : 0 ≤ a ∧ a ≤ 255) (hb : 0 ≤ b ∧ b ≤ 255) (hN : a % 6 = (N : Int)) (hS : b % 3 = (S : Int)) : Calls Try.prog 7 #[.int .u8 a, .int .u8 b] w fun e w' => e = .returned (.bool true) ∧ Below w.heap.size w w' := by
  have n0 : N ≤ 5 := by omega
  have s0 : S ≤ 2 := by omega
  have C := Lib.hid fun w => cost_ok (n := N) (s := S) (by omega) w
  have T := Lib.hid fun u => search1 N S u n0 s0
  have EX := Lib.hid ex28
  obtain ⟨c, hc⟩ : ∃ c, co (N : Int) (S : Int) = c := ⟨_, rfl⟩
  rw [hc] at C T
  clear hc
  obtain ⟨a0, a1⟩ := ha
  obtain ⟨b0, b1⟩ := hb
  go_enter Try.func7, Try.ntmps7
  go_wp2_with (first | (go_at_call 20; refine (C.out _).mono ?_; rintro e w2 ⟨rfl, rfl⟩) | (go_at_call 25; refine (T.out _).mono ?_; rintro e w1 ⟨rfl, hb⟩) | (go_at_call 22; refine (EX.out _).mono ?_; rintro e w3 ⟨rfl, hb2⟩))
  go_ret
  exact ⟨rfl, hb.trans (hb2.mono hb.size)⟩
theorem law_search (a b : Int) (w : World) (ha : 0 ≤ a ∧ a ≤ 255) (hb : 0 ≤ b ∧ b ≤ 255) : Calls Try.prog 7 #[.int .u8 a, .int .u8 b] w fun e w' => e = .returned (.bool true) ∧ Below w.heap.size w w' :=
  srch_go a b (a % 6).toNat (b % 3).toNat w ha hb (by omega) (by omega)
end Go.Proofs.Ytndmpoomdoojpaa.Ck.Sr
