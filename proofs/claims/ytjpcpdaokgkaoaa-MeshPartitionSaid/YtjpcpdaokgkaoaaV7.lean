/- Ints of the base; the example of the statements on package shape. -/
import Derived.Test.YtjpcpdaokgkaoaaV6
namespace Go.Proofs.Ytjpcpdaokgkaoaa.Sh
open Go.ChangeShapes Go.WideShapes Go.ChangeAt Go.RowKit
set_option linter.unusedVariables false

def Ret (v : Value) (w : World) (e : Ending) (w' : World) : Prop := e = .returned v ∧ Below w.heap.size w w'
theorem own_SlI {w : World} {base : Nat} {v : Value} {l : List Int} (h : w.ownsRow base 3 1 v l.length (l.map (Value.int .i64))) :
    ∃ p c, v = .slice p l.length c ∧ l.length ≤ c ∧ c ≤ maxLen ∧ Hid (SlI w p l) := by
  have h0 := h
  rcases h.2 with ⟨rfl, hn⟩ | ⟨g, cap, cur, rfl, hb, hg, hnc, hcm, hcs, ht⟩
  · exact ⟨none, 0, by rw [hn], by omega, by unfold maxLen; omega, Lib.hid fun i hi => by omega⟩
  · refine ⟨_, cap, rfl, hnc, hcm, Lib.hid fun i hi => ⟨g, 0, rfl, ?_⟩⟩
    rw [Nat.zero_add]
    exact cells_of h0 hi rfl
set_option maxHeartbeats 4000000 in
theorem c18 (p q : Option Addr) (xs ys : List Int) (c d : Nat) (w : World) (hx : xs.length ≤ maxLen) (hy : ys.length ≤ maxLen) (RA : Hid (SlI w p xs)) (RB : Hid (SlI w q ys)) :
    Calls Try.prog 18 #[.slice p xs.length c, .slice q ys.length d] w fun e w' => e = .returned (.bool (decide (xs = ys))) ∧ ∃ k, w' = w.drewN k := by
  unfold maxLen at hx hy
  by_cases hl : xs.length = ys.length
  · obtain ⟨n, hn⟩ : ∃ n, xs.length = n := ⟨_, rfl⟩
    have hm : ys.length = n := by omega
    have HN := Lib.hid hn
    have HM := Lib.hid hm
    rw [hn] at hx ⊢
    rw [hm]
    clear hn hm hl hy
    go_enter Try.func18, Try.ntmps18
    go_wp2
    go_loopw [5] (fun i wr => ∃ k : Nat, i = .int .i64 k ∧ k ≤ n ∧ Hid (∀ j, j < k → xs.getD j 0 = ys.getD j 0) ∧ ∃ m, wr = w.drewN m) (fun i _ => n - (intOf i).toNat)
    case atStart => exact ⟨0, rfl, by omega, Lib.hid fun j hj => by omega, 0, rfl⟩
    case round =>
      obtain ⟨k, rfl, hk, hL, m, rfl⟩ := hrel
      by_cases hlt : k < n
      · obtain ⟨b, o, rfl, hc⟩ := RA.out k (by rw [HN.out]; exact hlt)
        obtain ⟨b', o', rfl, hc'⟩ := RB.out k (by rw [HM.out]; exact hlt)
        obtain ⟨x, hX⟩ : ∃ x, xs.getD k 0 = x := ⟨_, rfl⟩
        obtain ⟨y, hY⟩ : ∃ y, ys.getD k 0 = y := ⟨_, rfl⟩
        rw [hX] at hc
        rw [hY] at hc'
        have HX := Lib.hid hX
        have HY := Lib.hid hY
        have mi : (0 : Int) ≤ k := by omega
        have mi2 : (k : Int) < n := by omega
        clear hX hY
        obtain ⟨t, ht⟩ : ∃ t, (x != y) = t := ⟨_, rfl⟩
        have HT := Lib.hid ht
        cases t
        · go_wp2
          go_quiet (fail)
          go_wp2
          go_roundw
          case rel => exact ⟨k + 1, by go_num, by omega, Lib.hid fun j hj => by
            rcases (by omega : j < k ∨ j = k) with h | rfl
            · exact hL.out j h
            · rw [HX.out, HY.out]; simpa using HT.out, m + nq, by first | rfl | rw [World.drewN_drewN]⟩
          case measure => simp [intOf]; omega
        · go_wp2
          go_quiet (fail)
          go_wp2
          go_ret
          refine ⟨?_, m + nq, by first | rfl | rw [World.drewN_drewN]⟩
          refine ret_bool (decide_eq_false fun h => ?_).symm
          have h2 := HT.out
          rw [← HX.out, ← HY.out, h] at h2
          simp at h2
      · go_wp2
        go_ret
        refine ⟨?_, m, rfl⟩
        refine ret_bool (decide_eq_true ?_).symm
        refine List.ext_getElem (by rw [HN.out, HM.out]) fun j h1 h2 => ?_
        have h := hL.out j (by rw [HN.out] at h1; omega)
        rw [getD_at h1, getD_at h2] at h
        exact h
  · have k1 : ((xs.length : Int) != ys.length) = true := by simp <;> omega
    have k2 : (xs.length != ys.length) = true := by simpa using hl
    have k3 : (xs.length == ys.length) = false := by simpa using hl
    rw [decide_eq_false (fun h => hl (by rw [h]))]
    have HL := Lib.hid hl
    clear hl
    go_enter Try.func18, Try.ntmps18
    go_wp2
    go_ret
    exact ⟨rfl, 0, rfl⟩
theorem lit23 {w : World} {b : Nat} (h0 : w.cell? ⟨b, 0, none⟩ = some (.int .i64 2)) (h1 : w.cell? ⟨b, 1, none⟩ = some (.int .i64 3)) : SlI w (some ⟨b, 0, none⟩) [2, 3] := by
  intro i hi
  refine ⟨b, 0, rfl, ?_⟩
  rcases (by simp at hi; omega : i = 0 ∨ i = 1) with rfl | rfl
  · exact h0
  · exact h1
theorem sts23 : sts [2, 3] = [3, 1] := by decide
theorem sz23 : sz [2, 3] = 6 := by decide
set_option maxHeartbeats 4000000 in
theorem alive (w : World) : Calls Try.prog 13 #[] w (Ret (.bool true) w) := by
  go_enter Try.func13, Try.ntmps13
  go_wp2_with fail
  refine (c19 (some ⟨w.heap.size, 0, none⟩) [2, 3] 2 _ (by unfold maxLen; decide) (Lib.hid (lit23 (by go_cell) (by go_cell)))).mono ?_
  rintro e w1 ⟨v, rfl, K1, O1⟩
  rw [sts23] at O1
  obtain ⟨p, c, rfl, hc, hc', hS⟩ := own_SlI O1
  have hk := K1.size
  have lt : w.heap.size + 1 ≤ w1.heap.size := by simpa using hk
  have KB : Below w.heap.size w w1 := ((Below.refl _ _).alloc (Nat.le_refl _) _).trans (K1.mono (by simp))
  obtain ⟨b, o, rfl, c0⟩ := hS.out 0 (by decide)
  obtain ⟨b', o', e', c1⟩ := hS.out 1 (by decide)
  cases e'
  have hb : b < w1.heap.size := by have := World.block_lt_of_cell? w1 _ c0; simpa using this
  rw [show List.getD [(3 : Int), 1] 0 0 = 3 from rfl, Nat.add_zero] at c0
  rw [show List.getD [(3 : Int), 1] 1 0 = 1 from rfl] at c1
  clear O1 K1 hk hS
  have S := Lib.hid fun (w : World) (b : Nat) (h0 : w.cell? ⟨b, 0, none⟩ = some (.int .i64 2)) (h1 : w.cell? ⟨b, 1, none⟩ = some (.int .i64 3)) => c16 (some ⟨b, 0, none⟩) [2, 3] 2 w (by unfold maxLen; decide) (Lib.hid (lit23 h0 h1))
  rw [sz23] at S
  have ne : ¬ b = w1.heap.size := by omega
  have ne2 : ¬ w1.heap.size = b := by omega
  have lc : List.length [(3 : Int), 1] = 2 := rfl
  go_wp2_with (go_at_call 16; refine (S.out _ _ (by go_cell) (by go_cell)).mono ?_; rintro e w' ⟨rfl, rfl⟩)
  go_ret
  exact ⟨rfl, KB.alloc KB.size _⟩
end Go.Proofs.Ytjpcpdaokgkaoaa.Sh
