/- The statement on Offset and Point: its walk. -/
import Derived.Test.YtjpcpdaokgkaoaaV13
namespace Go.Proofs.Ytjpcpdaokgkaoaa.Sh
open Go.ChangeShapes Go.WideShapes Go.ChangeAt Go.RowKit
set_option linter.unusedVariables false

set_option maxHeartbeats 8000000 in
theorem law4 (p : Option Addr) (zs : List Int) (c : Nat) (q : Option Addr) (xs : List Int) (d : Nat) (a0 : Int) (w : World) (hc : zs.length ≤ c) (hc' : c ≤ maxLen) (RA : Hid (SlI w p zs)) (hd : xs.length ≤ d) (hd' : d ≤ maxLen) (RB : Hid (SlI w q xs)) (ha : -9223372036854775808 ≤ a0 ∧ a0 ≤ 9223372036854775807) :
    Calls Try.prog 4 #[.slice p zs.length c, .slice q xs.length d, .int .i64 a0] w (Ret (.bool true) w) := by
  have AL := Lib.hid alive
  by_cases h5 : 50 < zs.length
  · have l1 : decide ((50 : Int) < zs.length) = true := by simp <;> omega
    have l2 : decide (50 < zs.length) = true := by simp <;> omega
    go_enter Try.func4, Try.ntmps4
    go_wp2_with (go_at_call 13; refine (AL.out _).mono ?_; rintro e w1 ⟨rfl, hb⟩)
    go_ret
    exact ⟨rfl, hb⟩
  have l1 : decide ((50 : Int) < zs.length) = false := by simp <;> omega
  have l2 : decide (50 < zs.length) = false := by simp <;> omega
  by_cases h6 : 50 < xs.length
  · have m1 : decide ((50 : Int) < xs.length) = true := by simp <;> omega
    have m2 : decide (50 < xs.length) = true := by simp <;> omega
    go_enter Try.func4, Try.ntmps4
    go_wp2_with (go_at_call 13; refine (AL.out _).mono ?_; rintro e w1 ⟨rfl, hb⟩)
    go_ret
    exact ⟨rfl, hb⟩
  have m1 : decide ((50 : Int) < xs.length) = false := by simp <;> omega
  have m2 : decide (50 < xs.length) = false := by simp <;> omega
  have hn : zs.length ≤ maxLen := Nat.le_trans hc hc'
  have C21 := Lib.hid (c21 p q zs xs c d w hn RA RB)
  have C22 := Lib.hid (c22 p q zs xs c d w hn RA RB)
  have C23 := Lib.hid fun (y : World) (h : Below w.heap.size w y) => c23 p zs c a0 y hn (Lib.hid (SlI.keep h RA.out))
  have C24 := Lib.hid fun (y : World) (h : Below w.heap.size w y) => c24 p zs c a0 y hn (Lib.hid (SlI.keep h RA.out))
  have hsl : (pL zs a0).length ≤ maxLen := by
    unfold pL
    split
    · rw [pt_length]; exact hn
    · simp
  have HSL := Lib.hid hsl
  clear hsl h5 h6 hn
  unfold oE at C21 C22
  generalize (oA zs xs).getD 0 = O at *
  generalize (oA zs xs).isSome = OS at *
  generalize pL zs a0 = L at *
  generalize pA zs a0 = PA at *
  generalize zs.length = n at *
  generalize xs.length = m at *
  have b1 : (O == O) = true := by simp
  have b2 : (OS == OS) = true := by simp
  have b3 : (PA == PA) = true := by simp
  go_enter Try.func4, Try.ntmps4
  go_wp2_with (go_at_call 21; refine (C21.out).mono ?_; rintro e w' ⟨rfl, rfl⟩)
  refine (C22.out).mono ?_
  rintro e w0 ⟨rfl, k0, hw0⟩
  have K0 : Below w.heap.size w w0 := by rw [hw0]; exact below_drewN (Below.refl _ _) k0
  clear hw0 C21 C22
  go_wp2_with fail
  refine (C23.out w0 K0).mono ?_
  rintro e w1 ⟨v1, rfl, K1, O1⟩
  obtain ⟨p1, c1, rfl, _, _, S1⟩ := own_SlI O1
  have K01 : Below w.heap.size w w1 := K0.trans (K1.mono K0.size)
  clear O1 C23
  go_wp2_with fail
  refine (C24.out w1 K01).mono ?_
  rintro e w2 ⟨v2, rfl, K2, O2⟩
  obtain ⟨p2, c2, rfl, _, _, S2⟩ := own_SlI O2
  have S1' := Lib.hid (SlI.keep K2 S1.out)
  have KB : Below w.heap.size w w2 := K01.trans (K2.mono K01.size)
  have CI := Lib.hid (c18 p1 p2 L L c1 c2 w2 HSL.out HSL.out S1' S2)
  rw [decide_eq_true rfl] at CI
  clear O2 C24 S1 S2 S1' HSL
  go_wp2_with fail
  refine (CI.out).mono ?_
  rintro e w3 ⟨rfl, k, rfl⟩
  clear CI
  go_wp2_with fail
  refine (AL.out _).mono ?_
  rintro e w4 ⟨rfl, hb⟩
  go_wp2
  go_ret
  have KD : Below w.heap.size w (w2.drewN k) := below_drewN KB k
  exact ⟨rfl, KD.trans (hb.mono KD.size)⟩
end Go.Proofs.Ytjpcpdaokgkaoaa.Sh
