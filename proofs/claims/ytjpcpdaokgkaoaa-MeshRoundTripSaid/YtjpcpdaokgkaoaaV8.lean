/- The statement on Validate, Size and Strides: its walk. -/
import Derived.Test.YtjpcpdaokgkaoaaV7
namespace Go.Proofs.Ytjpcpdaokgkaoaa.Sh
open Go.ChangeShapes Go.WideShapes Go.ChangeAt Go.RowKit
set_option linter.unusedVariables false

set_option maxHeartbeats 8000000 in
theorem law3 (p : Option Addr) (zs : List Int) (c : Nat) (w : World) (hc : zs.length ≤ c) (hc' : c ≤ maxLen) (RA : Hid (SlI w p zs)) :
    Calls Try.prog 3 #[.slice p zs.length c] w (Ret (.bool true) w) := by
  have AL := Lib.hid alive
  by_cases h5 : 50 < zs.length
  · have l1 : decide ((50 : Int) < zs.length) = true := by simp <;> omega
    have l2 : decide (50 < zs.length) = true := by simp <;> omega
    go_enter Try.func3, Try.ntmps3
    go_wp2_with (go_at_call 13; refine (AL.out _).mono ?_; rintro e w1 ⟨rfl, hb⟩)
    go_ret
    exact ⟨rfl, hb⟩
  · have hn : zs.length ≤ maxLen := Nat.le_trans hc hc'
    have C14 := Lib.hid (c14 p zs c w hn RA)
    have C15 := Lib.hid (c15 p zs c w hn RA)
    have C16 := Lib.hid (c16 p zs c w hn RA)
    have C17 := Lib.hid (c17 p zs c w hn RA)
    have C19 := Lib.hid (c19 p zs c w hn RA)
    have C20 := Lib.hid fun (w' : World) (h : Below w.heap.size w w') => c20 p zs c w' hc hc' (Lib.hid (SlI.keep h RA.out))
    have l1 : decide ((50 : Int) < zs.length) = false := by simp <;> omega
    have l2 : decide (50 < zs.length) = false := by simp <;> omega
    have hsl : (sts zs).length ≤ maxLen := by
      unfold sts
      split
      · rw [st_length]; exact hn
      · simp
    have HSL := Lib.hid hsl
    clear hsl h5 hn
    generalize vE zs = E at *
    generalize sz zs = Z at *
    generalize sts zs = L at *
    generalize zs.length = n at *
    go_enter Try.func3, Try.ntmps3
    go_wp2_with (first | (go_at_call 14; refine (C14.out).mono ?_; rintro e w' ⟨rfl, rfl⟩) | (go_at_call 15; refine (C15.out).mono ?_; rintro e w' ⟨rfl, rfl⟩) | (go_at_call 16; refine (C16.out).mono ?_; rintro e w' ⟨rfl, rfl⟩) | (go_at_call 17; refine (C17.out).mono ?_; rintro e w' ⟨rfl, rfl⟩))
    refine (C19.out).mono ?_
    rintro e w1 ⟨v1, rfl, K1, O1⟩
    obtain ⟨p1, c1, rfl, _, _, S1⟩ := own_SlI O1
    clear O1 C14 C15 C16 C17 C19
    go_wp2_with fail
    refine (C20.out w1 K1).mono ?_
    rintro e w2 ⟨v2, rfl, K2, O2⟩
    obtain ⟨p2, c2, rfl, _, _, S2⟩ := own_SlI O2
    have S1' := Lib.hid (SlI.keep K2 S1.out)
    have KB : Below w.heap.size w w2 := K1.trans (K2.mono K1.size)
    have CI := Lib.hid (c18 p1 p2 L L c1 c2 w2 HSL.out HSL.out S1' S2)
    rw [decide_eq_true rfl] at CI
    clear O2 C20 S1 S2 S1' HSL
    go_wp2_with fail
    refine (CI.out).mono ?_
    rintro e w3 ⟨rfl, k, rfl⟩
    clear CI
    go_wp2_with fail
    refine (AL.out _).mono ?_
    rintro e w4 ⟨rfl, hb⟩
    go_wp2
    go_ret
    have KD : Below w.heap.size w (w2.drewN k) := below_drewN KB k
    exact ⟨rfl, KD.trans (hb.mono KD.size)⟩
end Go.Proofs.Ytjpcpdaokgkaoaa.Sh
