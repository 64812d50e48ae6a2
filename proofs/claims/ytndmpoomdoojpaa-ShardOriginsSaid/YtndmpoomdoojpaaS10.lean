/- Specs: Ints, Small, the example. -/
import Derived.Test.YtndmpoomdoojpaaS9
namespace Go.Proofs.Ytndmpoomdoojpaa.Sh
open Go.ChangeShapes Go.WideShapes Go.ChangeAt Go.RowKit
set_option linter.unusedVariables false
set_option linter.unusedSimpArgs false
theorem own_SlI {w : World} {base : Nat} {v : Value} {l : List Int} (h : w.ownsRow base 3 1 v l.length (l.map (Value.int .i64))) :
    ∃ p c, v = .slice p l.length c ∧ l.length ≤ c ∧ c ≤ maxLen ∧ Hid (SlI w p l) := by
  have h0 := h
  rcases h.2 with ⟨rfl, hn⟩ | ⟨g, cap, cur, rfl, hb, hg, hnc, hcm, hcs, ht⟩
  · exact ⟨none, 0, by rw [hn], by omega, by unfold maxLen; omega, Lib.hid fun i hi => by omega⟩
  · refine ⟨_, cap, rfl, hnc, hcm, Lib.hid fun i hi => ⟨g, 0, rfl, ?_⟩⟩
    rw [Nat.zero_add]
    exact cells_of h0 hi rfl
set_option maxHeartbeats 4000000 in
theorem ints1 (p q : Option Addr) (xs ys : List Int) (c d : Nat) (w : World) (hx : xs.length ≤ maxLen) (hy : ys.length ≤ maxLen) (RA : Hid (SlI w p xs)) (RB : Hid (SlI w q ys)) :
    Calls Try.prog 40 #[.slice p xs.length c, .slice q ys.length d] w fun e w' => e = .returned (.bool (decide (xs = ys))) ∧ ∃ k, w' = w.drewN k := by
  unfold maxLen at hx hy
  by_cases hl : xs.length = ys.length
  · obtain ⟨n, hn⟩ : ∃ n, xs.length = n := ⟨_, rfl⟩
    have hm : ys.length = n := by omega
    have HN := Lib.hid hn
    have HM := Lib.hid hm
    rw [hn] at hx ⊢
    rw [hm]
    clear hn hm hl hy
    go_enter Try.func40, Try.ntmps40
    go_wp2
    go_loopw [5] (fun i wr => ∃ k : Nat, i = .int .i64 k ∧ k ≤ n ∧ Hid (∀ j, j < k → xs.getD j 0 = ys.getD j 0) ∧ ∃ m, wr = w.drewN m) (fun i _ => n - (intOf i).toNat)
    case atStart => exact ⟨0, rfl, by omega, Lib.hid fun j hj => by omega, 0, rfl⟩
    case round =>
      obtain ⟨k, rfl, hk, hL, m, rfl⟩ := hrel
      by_cases hlt : k < n
      · obtain ⟨b, o, rfl, hc⟩ := RA.out k (by rw [HN.out]; exact hlt)
        obtain ⟨b', o', rfl, hc'⟩ := RB.out k (by rw [HM.out]; exact hlt)
        obtain ⟨x, hX⟩ : ∃ x, xs.getD k 0 = x := ⟨_, rfl⟩
        obtain ⟨y, hY⟩ : ∃ y, ys.getD k 0 = y := ⟨_, rfl⟩
        rw [hX] at hc
        rw [hY] at hc'
        have HX := Lib.hid hX
        have HY := Lib.hid hY
        have mi : (0 : Int) ≤ k := by omega
        have mi2 : (k : Int) < n := by omega
        clear hX hY
        obtain ⟨t, ht⟩ : ∃ t, (x != y) = t := ⟨_, rfl⟩
        have HT := Lib.hid ht
        cases t
        · go_wp2
          go_quiet (fail)
          go_wp2
          go_roundw
          case rel => exact ⟨k + 1, by go_num, by omega, Lib.hid fun j hj => by
            rcases (by omega : j < k ∨ j = k) with h | rfl
            · exact hL.out j h
            · rw [HX.out, HY.out]; simpa using HT.out, m + nq, by first | rfl | rw [World.drewN_drewN]⟩
          case measure => simp [intOf]; omega
        · go_wp2
          go_quiet (fail)
          go_wp2
          go_ret
          refine ⟨?_, m + nq, by first | rfl | rw [World.drewN_drewN]⟩
          refine ret_bool (decide_eq_false fun h => ?_).symm
          have h2 := HT.out
          rw [← HX.out, ← HY.out, h] at h2
          simp at h2
      · go_wp2
        go_ret
        refine ⟨?_, m, rfl⟩
        refine ret_bool (decide_eq_true ?_).symm
        refine List.ext_getElem (by rw [HN.out, HM.out]) fun j h1 h2 => ?_
        have h := hL.out j (by rw [HN.out] at h1; omega)
        rw [getD_at h1, getD_at h2] at h
        exact h
  · have k1 : ((xs.length : Int) != ys.length) = true := by simp <;> omega
    have k2 : (xs.length != ys.length) = true := by simpa using hl
    have k3 : (xs.length == ys.length) = false := by simpa using hl
    rw [decide_eq_false (fun h => hl (by rw [h]))]
    have HL := Lib.hid hl
    clear hl
    go_enter Try.func40, Try.ntmps40
    go_wp2
    go_ret
    exact ⟨rfl, 0, rfl⟩
theorem lit1 {w : World} {b : Nat} {x : Int} (h0 : w.cell? ⟨b, 0, none⟩ = some (.int .i64 x)) : SlI w (some ⟨b, 0, none⟩) [x] := by
  intro i hi
  refine ⟨b, 0, rfl, ?_⟩
  obtain rfl : i = 0 := by simp at hi; omega
  exact h0
theorem lit2 {w : World} {b : Nat} {x y : Int} (h0 : w.cell? ⟨b, 0, none⟩ = some (.int .i64 x)) (h1 : w.cell? ⟨b, 1, none⟩ = some (.int .i64 y)) : SlI w (some ⟨b, 0, none⟩) [x, y] := by
  intro i hi
  refine ⟨b, 0, rfl, ?_⟩
  rcases (by simp at hi; omega : i = 0 ∨ i = 1) with rfl | rfl
  · exact h0
  · exact h1
theorem hV_ex : hV [2] [4] [0] = 0 := by decide
theorem lsv_ex : lsv [2] [4] [0] = [2] := by decide
theorem rV_ex : rV [2, 3] [0] = 3 := by decide
theorem ret_lsv {w u : World} {l : List Int} {t : Int} {e : Ending} (h : QW l t w e u) : ∃ q c, e = .returned (.tuple #[.slice q l.length c, .int .i64 t]) ∧ l.length ≤ c ∧ c ≤ maxLen ∧ Below w.heap.size w u ∧ Hid (SlI u q l) := by
  obtain ⟨v, rfl, hb, ho⟩ := h
  obtain ⟨q, c, rfl, h1, h2, h3⟩ := own_SlI ho
  exact ⟨q, c, rfl, h1, h2, hb, h3⟩
theorem small1 (p p2 q : Option Addr) (n k m : Nat) (c c2 d : Nat) (w : World) (hn : n ≤ maxLen) (hk : k ≤ maxLen) (hm : m ≤ maxLen) :
    Calls Try.prog 32 #[.agg #[.slice p n c], .slice p2 k c2, .slice q m d] w (Ret (.bool (decide (n ≤ 20) && (decide (k ≤ 20) && decide (m ≤ 20)))) w) := by
  unfold maxLen at hn hk hm
  go_enter Try.func32, Try.ntmps32
  by_cases h1 : n ≤ 20
  · have i1 : decide ((n : Int) ≤ 20) = true := decide_eq_true (by omega)
    have j1 : decide (n ≤ 20) = true := decide_eq_true h1
    by_cases h2 : k ≤ 20
    · have i2 : decide ((k : Int) ≤ 20) = true := decide_eq_true (by omega)
      have j2 : decide (k ≤ 20) = true := decide_eq_true h2
      by_cases h3 : m ≤ 20
      · have i3 : decide ((m : Int) ≤ 20) = true := decide_eq_true (by omega)
        have j3 : decide (m ≤ 20) = true := decide_eq_true h3
        go_wp2
        go_ret
        exact ⟨by first | rfl | (simp <;> omega), (Below.refl _ _).alloc (Nat.le_refl _) _⟩
      · have i3 : decide ((m : Int) ≤ 20) = false := decide_eq_false (by omega)
        have j3 : decide (m ≤ 20) = false := decide_eq_false h3
        go_wp2
        go_ret
        exact ⟨by first | rfl | (simp <;> omega), (Below.refl _ _).alloc (Nat.le_refl _) _⟩
    · have i2 : decide ((k : Int) ≤ 20) = false := decide_eq_false (by omega)
      have j2 : decide (k ≤ 20) = false := decide_eq_false h2
      go_wp2
      go_ret
      exact ⟨by first | rfl | (simp <;> omega), (Below.refl _ _).alloc (Nat.le_refl _) _⟩
  · have i1 : decide ((n : Int) ≤ 20) = false := decide_eq_false (by omega)
    have j1 : decide (n ≤ 20) = false := decide_eq_false h1
    go_wp2
    go_ret
    exact ⟨by first | rfl | (simp <;> omega), (Below.refl _ _).alloc (Nat.le_refl _) _⟩
set_option maxRecDepth 100000 in
set_option maxHeartbeats 8000000 in
theorem alive (w : World) : Calls Try.prog 33 #[] w (Ret (.bool true) w) := by
  have C1 := Lib.hid fun (u : World) (a b d : Nat) (h0 : u.cell? ⟨a, 0, none⟩ = some (.int .i64 2)) (h1 : u.cell? ⟨b, 0, none⟩ = some (.int .i64 4)) (h2 : u.cell? ⟨d, 0, none⟩ = some (.int .i64 0)) => lshape1 (some ⟨a, 0, none⟩) (some ⟨b, 0, none⟩) (some ⟨d, 0, none⟩) [2] [4] [0] 1 1 1 u (by decide) (by decide) (by decide) (by decide) (Lib.hid (lit1 h0)) (Lib.hid (lit1 h1)) (Lib.hid (lit1 h2))
  have C2 := Lib.hid fun (u : World) (a b : Nat) (h0 : u.cell? ⟨a, 0, none⟩ = some (.int .i64 2)) (h1 : u.cell? ⟨a, 1, none⟩ = some (.int .i64 3)) (h2 : u.cell? ⟨b, 0, none⟩ = some (.int .i64 0)) => repl1 (some ⟨a, 0, none⟩) (some ⟨b, 0, none⟩) [2, 3] [0] 2 1 u (by decide) (by decide) (by decide) (Lib.hid (lit2 h0 h1)) (Lib.hid (lit1 h2))
  rw [hV_ex, lsv_ex] at C1
  rw [rV_ex] at C2
  go_enter Try.func33, Try.ntmps33
  go_wp2_with fail
  refine (C1.out _ _ _ _ (by go_cell) (by go_cell) (by go_cell)).mono ?_
  rintro e w1 hq
  obtain ⟨q, c, rfl, h1, h2, hb, hS⟩ := ret_lsv hq
  obtain ⟨b, o, rfl, c0⟩ := hS.out 0 (by decide)
  rw [show List.getD [(2 : Int)] 0 0 = 2 from rfl, Nat.add_zero] at c0
  have hk := hb.size
  have KB : Below w.heap.size w w1 := ((((Below.refl _ _).alloc (Nat.le_refl _) _).alloc (by simp) _).alloc (by simp; omega) _).trans (hb.mono (by simp; omega))
  have hlen : List.length [(2 : Int)] = 1 := rfl
  have hb1 : b < w1.heap.size := by have := World.block_lt_of_cell? w1 _ c0; simpa using this
  have ne1 : ¬ b = w1.heap.size := by omega
  have ne2 : ¬ b = w1.heap.size + 1 := by omega
  have ne3 : ¬ w1.heap.size = b := by omega
  have ne4 : ¬ w1.heap.size + 1 = b := by omega
  clear hk hb hq hS C1
  go_wp2_with fail
  refine (C2.out _ _ _ (by go_cell) (by go_cell) (by go_cell)).mono ?_
  rintro e w2 ⟨rfl, hb2⟩
  go_wp2
  go_ret
  exact ⟨rfl, (((KB.alloc KB.size _).alloc (by have := KB.size; simp; omega) _).trans (hb2.mono (by have := KB.size; simp; omega)))⟩
end Go.Proofs.Ytndmpoomdoojpaa.Sh
