/- The statement on the recurrence: its walk. -/
import Derived.Test.YtndmpoomdoojpaaK9
namespace Go.Proofs.Ytndmpoomdoojpaa.Ck
open Go.ChangeShapes Go.WideShapes Go.ChangeAt Go.RowKit
set_option linter.unusedVariables false

set_option maxRecDepth 100000 in
set_option maxHeartbeats 8000000 in
theorem rec_go (a b : Int) (N S : Nat) (w : World) (ha : 0 ≤ a ∧ a ≤ 255) (hb : 0 ≤ b ∧ b ≤ 255) (hN : a % 65 = (N : Int)) (hS : b % 65 = (S : Int)) : Calls Try.prog 5 #[.int .u8 a, .int .u8 b] w fun e w' => e = .returned (.bool true) ∧ Below w.heap.size w w' := by
  have n0 : N ≤ 64 := by omega
  have s0 : S ≤ 64 := by omega
  have C := Lib.hid fun w => cost_ok (n := N) (s := S) (by omega) w
  have T := Lib.hid (table N S w n0 s0)
  have EX := Lib.hid ex28
  obtain ⟨c, hc⟩ : ∃ c, co (N : Int) (S : Int) = c := ⟨_, rfl⟩
  have HC := Lib.hid hc
  rw [hc] at C
  clear hc
  obtain ⟨a0, a1⟩ := ha
  obtain ⟨b0, b1⟩ := hb
  go_enter Try.func5, Try.ntmps5
  go_wp2_with fail
  refine (C.out _).mono ?_
  rintro e w' ⟨rfl, rfl⟩
  clear C
  go_wp2_with fail
  refine (T.out).mono ?_
  rintro e w1 ⟨v, vals, rfl, hb, ho, hr⟩
  rw [tb_len] at ho
  obtain ⟨q5, cap5, rfl, hq5⟩ := own_any ho
  obtain ⟨g, hg⟩ := hq5 (by omega)
  subst hg
  have hrow := hr.2 S (by rw [tb_len]; omega)
  rw [tb_get (by omega), rp_len] at hrow
  obtain ⟨q1, cap1, hv1, hq1⟩ := own_any hrow
  obtain ⟨g1, hg1⟩ := hq1 (by omega)
  subst hg1
  rw [hv1] at hrow
  have cO : w1.cell? ⟨g, S, none⟩ = some (.slice (some ⟨g1, 0, none⟩) (N + 1) cap1) := by
    have hlen := hr.1
    rw [tb_len] at hlen
    rw [ho.cellAt S (by omega), ← hv1, List.getD, List.getElem?_eq_getElem (by omega)]
    rfl
  have cA := cellT hrow (j := N) (by omega) (rp_len S (N + 1))
  rw [rp_get (by omega), HC.out] at cA
  have hb := hb
  have i1 : (N : Int) < (N + 1 : Nat) := by omega
  have i2 : (S : Int) < (S + 1 : Nat) := by omega
  have i3 : (0 : Int) ≤ N := by omega
  have i4 : (0 : Int) ≤ S := by omega
  clear ho hr hrow hv1 hq5 hq1 T
  go_wp2_with (go_at_call 22; refine (EX.out _).mono ?_; rintro e w2 ⟨rfl, hb2⟩)
  go_ret
  exact ⟨rfl, hb.trans (hb2.mono hb.size)⟩
theorem law_rec (a b : Int) (w : World) (ha : 0 ≤ a ∧ a ≤ 255) (hb : 0 ≤ b ∧ b ≤ 255) : Calls Try.prog 5 #[.int .u8 a, .int .u8 b] w fun e w' => e = .returned (.bool true) ∧ Below w.heap.size w w' :=
  rec_go a b (a % 65).toNat (b % 65).toNat w ha hb (by omega) (by omega)
end Go.Proofs.Ytndmpoomdoojpaa.Ck
