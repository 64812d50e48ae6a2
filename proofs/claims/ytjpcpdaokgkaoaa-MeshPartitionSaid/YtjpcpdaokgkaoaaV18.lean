/- Equal of the standard library; Same of package shape. -/
import Derived.Test.YtjpcpdaokgkaoaaV17
namespace Go.Proofs.Ytjpcpdaokgkaoaa.Sh
open Go.ChangeShapes Go.WideShapes Go.ChangeAt Go.RowKit
set_option linter.unusedVariables false

set_option maxHeartbeats 4000000 in
theorem c49 (p q : Option Addr) (xs ys : List Int) (c d : Nat) (w : World) (hx : xs.length ≤ maxLen) (hy : ys.length ≤ maxLen) (RA : Hid (SlI w p xs)) (RB : Hid (SlI w q ys)) :
    Calls Try.prog 49 #[.slice p xs.length c, .slice q ys.length d] w fun e w' => e = .returned (.bool (decide (xs = ys))) ∧ ∃ k, w' = w.drewN k := by
  unfold maxLen at hx hy
  by_cases hl : xs.length = ys.length
  · obtain ⟨n, hn⟩ : ∃ n, xs.length = n := ⟨_, rfl⟩
    have hm : ys.length = n := by omega
    have HN := Lib.hid hn
    have HM := Lib.hid hm
    rw [hn] at hx ⊢
    rw [hm]
    clear hn hm hl hy
    go_enter Try.func49, Try.ntmps49
    go_wp2
    go_loopw [13] (fun i wr => ∃ k : Nat, i = .int .i64 k ∧ k ≤ n ∧ Hid (∀ j, j < k → xs.getD j 0 = ys.getD j 0) ∧ ∃ m, wr = w.drewN m) (fun i _ => n - (intOf i).toNat)
    case atStart => exact ⟨0, rfl, by omega, Lib.hid fun j hj => by omega, 0, rfl⟩
    case round =>
      obtain ⟨k, rfl, hk, hL, m, rfl⟩ := hrel
      by_cases hlt : k < n
      · obtain ⟨b, o, rfl, hc⟩ := RA.out k (by rw [HN.out]; exact hlt)
        obtain ⟨b', o', rfl, hc'⟩ := RB.out k (by rw [HM.out]; exact hlt)
        obtain ⟨x, hX⟩ : ∃ x, xs.getD k 0 = x := ⟨_, rfl⟩
        obtain ⟨y, hY⟩ : ∃ y, ys.getD k 0 = y := ⟨_, rfl⟩
        rw [hX] at hc
        rw [hY] at hc'
        have HX := Lib.hid hX
        have HY := Lib.hid hY
        have mi : (0 : Int) ≤ k := by omega
        have mi2 : (k : Int) < n := by omega
        clear hX hY
        obtain ⟨t, ht⟩ : ∃ t, (x != y) = t := ⟨_, rfl⟩
        have HT := Lib.hid ht
        cases t
        · go_wp2
          go_quiet (fail)
          go_wp2
          go_roundw
          case rel => exact ⟨k + 1, by go_num, by omega, Lib.hid fun j hj => by
            rcases (by omega : j < k ∨ j = k) with h | rfl
            · exact hL.out j h
            · rw [HX.out, HY.out]; simpa using HT.out, m + nq, by first | rfl | rw [World.drewN_drewN]⟩
          case measure => simp [intOf]; omega
        · go_wp2
          go_quiet (fail)
          go_wp2
          go_ret
          refine ⟨?_, m + nq, by first | rfl | rw [World.drewN_drewN]⟩
          refine ret_bool (decide_eq_false fun h => ?_).symm
          have h2 := HT.out
          rw [← HX.out, ← HY.out, h] at h2
          simp at h2
      · go_wp2
        go_ret
        refine ⟨?_, m, rfl⟩
        refine ret_bool (decide_eq_true ?_).symm
        refine List.ext_getElem (by rw [HN.out, HM.out]) fun j h1 h2 => ?_
        have h := hL.out j (by rw [HN.out] at h1; omega)
        rw [getD_at h1, getD_at h2] at h
        exact h
  · have k1 : ((xs.length : Int) != ys.length) = true := by simp <;> omega
    have k2 : (xs.length != ys.length) = true := by simpa using hl
    have k3 : (xs.length == ys.length) = false := by simpa using hl
    rw [decide_eq_false (fun h => hl (by rw [h]))]
    have HL := Lib.hid hl
    clear hl
    go_enter Try.func49, Try.ntmps49
    go_wp2
    go_ret
    exact ⟨rfl, 0, rfl⟩
set_option maxHeartbeats 2000000 in
theorem c31 (p q : Option Addr) (xs ys : List Int) (c d : Nat) (w : World) (hx : xs.length ≤ maxLen) (hy : ys.length ≤ maxLen) (RA : Hid (SlI w p xs)) (RB : Hid (SlI w q ys)) :
    Calls Try.prog 31 #[.slice p xs.length c, .slice q ys.length d] w fun e w' => e = .returned (.bool (decide (xs = ys))) ∧ ∃ k, w' = w.drewN k := by
  have C := Lib.hid (c49 p q xs ys c d w hx hy RA RB)
  generalize decide (xs = ys) = t at *
  go_enter Try.func31, Try.ntmps31
  go_wp2_with (go_at_call 49; refine (C.out).mono ?_; rintro e w' ⟨rfl, k, rfl⟩)
  go_ret
  exact ⟨rfl, k, rfl⟩
end Go.Proofs.Ytjpcpdaokgkaoaa.Sh
