/- Dual numbers: validity of a list of one. -/
import Derived.Test.YthkhlhibhkdkkaaG10
import Derived.Test.YthkhlhibhkdkkaaG4
import Derived.Test.YthkhlhibhkdkkaaG9
import Derived.IntWalk

namespace Go.Proofs.Ythkhlhibhkdkkaa.Va
open Go.ChangeShapes Go.WideShapes Go.ChangeAt Go.RowKit
open Fr Fx
set_option maxRecDepth 8000
set_option linter.unusedVariables false
set_option linter.unusedSimpArgs false

theorem far4 {u : World} {r b o : Nat} {v x y x' y' : Value} (h : r ≠ b) (hc : u.cell? ⟨b, o, none⟩ = some v) : ((((u.setCell ⟨r, 0, none⟩ x).setCell ⟨r, 1, none⟩ y).setCell ⟨r, 2, none⟩ x').setCell ⟨r, 3, none⟩ y').cell? ⟨b, o, none⟩ = some v := by
  rw [World.cell?_setCell_far _ _ _ _ h, World.cell?_setCell_far _ _ _ _ h, World.cell?_setCell_far _ _ _ _ h, World.cell?_setCell_far _ _ _ _ h]
  exact hc
theorem st2 {u : World} {r : Nat} {x y a b : Value} (h0 : u.cell? ⟨r, 0, none⟩ = some a) (h1 : u.cell? ⟨r, 1, none⟩ = some b) :
    ((u.setCell ⟨r, 0, none⟩ x).setCell ⟨r, 1, none⟩ y).cell? ⟨r, 0, none⟩ = some x ∧ ((u.setCell ⟨r, 0, none⟩ x).setCell ⟨r, 1, none⟩ y).cell? ⟨r, 1, none⟩ = some y := by
  have g1 : (u.setCell ⟨r, 0, none⟩ x).cell? ⟨r, 1, none⟩ = some b := (World.cell?_setCell_other _ _ _ _ (by simp)).trans h1
  exact ⟨(World.cell?_setCell_other _ _ _ _ (by simp)).trans (World.cell?_setCell_same _ _ _ h0), World.cell?_setCell_same _ _ _ g1⟩
theorem st4 {u : World} {r : Nat} {x y z t a b c d : Value} (h0 : u.cell? ⟨r, 0, none⟩ = some a) (h1 : u.cell? ⟨r, 1, none⟩ = some b) (h2 : u.cell? ⟨r, 2, none⟩ = some c) (h3 : u.cell? ⟨r, 3, none⟩ = some d) :
    ((((u.setCell ⟨r, 0, none⟩ x).setCell ⟨r, 1, none⟩ y).setCell ⟨r, 2, none⟩ z).setCell ⟨r, 3, none⟩ t).cell? ⟨r, 0, none⟩ = some x ∧ ((((u.setCell ⟨r, 0, none⟩ x).setCell ⟨r, 1, none⟩ y).setCell ⟨r, 2, none⟩ z).setCell ⟨r, 3, none⟩ t).cell? ⟨r, 1, none⟩ = some y ∧
      ((((u.setCell ⟨r, 0, none⟩ x).setCell ⟨r, 1, none⟩ y).setCell ⟨r, 2, none⟩ z).setCell ⟨r, 3, none⟩ t).cell? ⟨r, 2, none⟩ = some z ∧ ((((u.setCell ⟨r, 0, none⟩ x).setCell ⟨r, 1, none⟩ y).setCell ⟨r, 2, none⟩ z).setCell ⟨r, 3, none⟩ t).cell? ⟨r, 3, none⟩ = some t := by
  obtain ⟨p0, p1⟩ := st2 (x := x) (y := y) h0 h1
  have q2 : ((u.setCell ⟨r, 0, none⟩ x).setCell ⟨r, 1, none⟩ y).cell? ⟨r, 2, none⟩ = some c := by
    rw [World.cell?_setCell_other _ _ _ _ (by simp), World.cell?_setCell_other _ _ _ _ (by simp)]; exact h2
  have q3 : ((u.setCell ⟨r, 0, none⟩ x).setCell ⟨r, 1, none⟩ y).cell? ⟨r, 3, none⟩ = some d := by
    rw [World.cell?_setCell_other _ _ _ _ (by simp), World.cell?_setCell_other _ _ _ _ (by simp)]; exact h3
  refine ⟨?_, ?_, ?_, ?_⟩
  · rw [World.cell?_setCell_other _ _ _ _ (by simp), World.cell?_setCell_other _ _ _ _ (by simp)]; exact p0
  · rw [World.cell?_setCell_other _ _ _ _ (by simp), World.cell?_setCell_other _ _ _ _ (by simp)]; exact p1
  · rw [World.cell?_setCell_other _ _ _ _ (by simp)]; exact World.cell?_setCell_same _ _ _ q2
  · exact World.cell?_setCell_same _ _ _ ((World.cell?_setCell_other _ _ _ _ (by simp)).trans q3)

theorem c_vlm (b o m : Nat) (hm : Hid (m = 1)) (n d t u : Int) (w : World) (c0 : w.cell? ⟨b, o, none⟩ = some (.int .i64 n)) (c1 : w.cell? ⟨b, o + 1, none⟩ = some (.int .i64 d)) (c2 : w.cell? ⟨b, o + 2, none⟩ = some (.int .i64 t)) (c3 : w.cell? ⟨b, o + 3, none⟩ = some (.int .i64 u)) :
    Calls Try.prog 13 #[.slice (some ⟨b, o, none⟩) m m] w (Ret (.bool (vld n d && vld t u)) w) := by
  have V1 := Lib.hid fun w => valid_any n d w
  have V2 := Lib.hid fun w => valid_any t u w
  obtain ⟨r, hr⟩ : ∃ r, (vld n d && vld t u) = r := ⟨_, rfl⟩
  rw [hr]
  have HR := Lib.hid hr
  clear hr
  have hm2 : m ≤ 9223372036854775807 := by rw [hm.out]; decide
  go_enter Try.func13, Try.ntmps13
  go_wp2_with fail
  go_loopw [7] (fun i wr => ∃ (j : Nat), i = .int .i64 j ∧ j ≤ m ∧ Hid (Below w.heap.size w wr) ∧ Hid (j = m → vld n d = true ∧ vld t u = true)) (fun i _ => m - (intOf i).toNat)
  case atStart => exact ⟨0, rfl, by omega, Lib.hid (Below.refl _ _), Lib.hid fun h => absurd (h.trans hm.out) (by decide)⟩
  case round =>
    obtain ⟨j, rfl, hj, hT, hL⟩ := hrel
    have K0 := hT.out
    have ls : w.heap.size ≤ wr.heap.size := K0.size
    by_cases hlt : j < m
    · have j0 : j = 0 := by have := hm.out; omega
      have j2 : (j : Int) < m := by omega
      have jj : (0 : Int) ≤ j := by omega
      have HJ := Lib.hid j0
      have hbw : b < w.heap.size := World.block_lt_of_cell? _ _ c0
      replace c0 : wr.cell? ⟨b, o + j * 4, none⟩ = some (.int .i64 n) := by rw [j0]; simpa using Rg.keep K0 hbw c0
      replace c1 : wr.cell? ⟨b, o + j * 4 + 1, none⟩ = some (.int .i64 d) := by rw [j0]; simpa using Rg.keep K0 hbw c1
      replace c2 : wr.cell? ⟨b, o + j * 4 + 2, none⟩ = some (.int .i64 t) := by rw [j0]; simpa using Rg.keep K0 hbw c2
      replace c3 : wr.cell? ⟨b, o + j * 4 + 3, none⟩ = some (.int .i64 u) := by rw [j0]; simpa using Rg.keep K0 hbw c3
      clear j0
      have hbr : b < wr.heap.size := World.block_lt_of_cell? _ _ c0
      cases h1 : vld n d
      · rw [h1] at V1
        have hr : r = false := by rw [← HR.out, h1]; rfl
        subst hr
        clear hL hT V2 HR
        go_wp2_with (first | (go_at_call 25; (with_reducible refine (V1.out _).mono ?_); rintro e w5 ⟨rfl, hb5⟩; have hc5 := (bcell hb5).1; have hf5 := (bcell hb5).2; have z5_0 : wr.heap.size < w5.heap.size := (by have hzz := hb5.size; (try simp at hzz); omega); have K5 : Below w.heap.size w w5 := Below.trans (b := _) (by (repeat' (first | (with_reducible exact Below.refl _ _) | (with_reducible exact K0) | (with_reducible exact K0.size) | (with_reducible refine Below.alloc ?_ ?_ _) | (with_reducible refine Below.setCell ?_ ?_ _) | (with_reducible refine below_drewN ?_ _) | (simp; done) | omega | (simp; omega)))) (hb5.mono (by have hzz := hb5.size; (try simp at hzz); first | omega | (simp; done) | (simp; omega)))))
        go_ret
        exact ⟨rfl, K5⟩
      · rw [h1] at V1
        cases h2 : vld t u
        · rw [h2] at V2
          have hr : r = false := by rw [← HR.out, h1, h2]; rfl
          subst hr
          clear hL hT HR
          go_wp2_with (first | (go_at_call 25; (with_reducible refine (V1.out _).mono ?_); rintro e w5 ⟨rfl, hb5⟩; have hc5 := (bcell hb5).1; have hf5 := (bcell hb5).2; have z5_0 : wr.heap.size < w5.heap.size := (by have hzz := hb5.size; (try simp at hzz); omega); have K5 : Below w.heap.size w w5 := Below.trans (b := _) (by (repeat' (first | (with_reducible exact Below.refl _ _) | (with_reducible exact K0) | (with_reducible exact K0.size) | (with_reducible refine Below.alloc ?_ ?_ _) | (with_reducible refine Below.setCell ?_ ?_ _) | (with_reducible refine below_drewN ?_ _) | (simp; done) | omega | (simp; omega)))) (hb5.mono (by have hzz := hb5.size; (try simp at hzz); first | omega | (simp; done) | (simp; omega)))) | (go_at_call 25; (with_reducible refine (V2.out _).mono ?_); rintro e w6 ⟨rfl, hb6⟩; have hc6 := (bcell hb6).1; have hf6 := (bcell hb6).2; have z6_0 : wr.heap.size < w6.heap.size := (by have hzz := hb6.size; (try simp at hzz); omega); have K6 : Below w.heap.size w w6 := Below.trans (b := _) (by (repeat' (first | (with_reducible exact Below.refl _ _) | (with_reducible exact K0) | (with_reducible exact K0.size) | (with_reducible exact K5) | (with_reducible exact K5.size) | (with_reducible refine Below.alloc ?_ ?_ _) | (with_reducible refine Below.setCell ?_ ?_ _) | (with_reducible refine below_drewN ?_ _) | (simp; done) | omega | (simp; omega)))) (hb6.mono (by have hzz := hb6.size; (try simp at hzz); first | omega | (simp; done) | (simp; omega)))))
          go_ret
          exact ⟨rfl, K6⟩
        · rw [h2] at V2
          clear hL hT
          go_wp2_with (first | (go_at_call 25; (with_reducible refine (V1.out _).mono ?_); rintro e w5 ⟨rfl, hb5⟩; have hc5 := (bcell hb5).1; have hf5 := (bcell hb5).2; have z5_0 : wr.heap.size < w5.heap.size := (by have hzz := hb5.size; (try simp at hzz); omega); have K5 : Below w.heap.size w w5 := Below.trans (b := _) (by (repeat' (first | (with_reducible exact Below.refl _ _) | (with_reducible exact K0) | (with_reducible exact K0.size) | (with_reducible refine Below.alloc ?_ ?_ _) | (with_reducible refine Below.setCell ?_ ?_ _) | (with_reducible refine below_drewN ?_ _) | (simp; done) | omega | (simp; omega)))) (hb5.mono (by have hzz := hb5.size; (try simp at hzz); first | omega | (simp; done) | (simp; omega)))) | (go_at_call 25; (with_reducible refine (V2.out _).mono ?_); rintro e w6 ⟨rfl, hb6⟩; have hc6 := (bcell hb6).1; have hf6 := (bcell hb6).2; have z6_0 : wr.heap.size < w6.heap.size := (by have hzz := hb6.size; (try simp at hzz); omega); have K6 : Below w.heap.size w w6 := Below.trans (b := _) (by (repeat' (first | (with_reducible exact Below.refl _ _) | (with_reducible exact K0) | (with_reducible exact K0.size) | (with_reducible exact K5) | (with_reducible exact K5.size) | (with_reducible refine Below.alloc ?_ ?_ _) | (with_reducible refine Below.setCell ?_ ?_ _) | (with_reducible refine below_drewN ?_ _) | (simp; done) | omega | (simp; omega)))) (hb6.mono (by have hzz := hb6.size; (try simp at hzz); first | omega | (simp; done) | (simp; omega)))))
          case roundEnd => exact ⟨⟨j + 1, by simp, by omega, Lib.hid K6, Lib.hid fun _ => by simp⟩, by simp [intOf]; omega⟩
    · have j1 : j = m := by omega
      obtain ⟨h1, h2⟩ := hL.out j1
      have g : decide ((j : Int) < m) = false := by simp; omega
      have hr : r = true := by rw [← HR.out, h1, h2]; rfl
      subst hr
      clear hL hT h1 h2 V1 V2 j1 HR
      go_wp2
      go_ret
      exact ⟨rfl, K0⟩
theorem c_vl (b o : Nat) (n d t u : Int) (w : World) (c0 : w.cell? ⟨b, o, none⟩ = some (.int .i64 n)) (c1 : w.cell? ⟨b, o + 1, none⟩ = some (.int .i64 d)) (c2 : w.cell? ⟨b, o + 2, none⟩ = some (.int .i64 t)) (c3 : w.cell? ⟨b, o + 3, none⟩ = some (.int .i64 u)) :
    Calls Try.prog 13 #[.slice (some ⟨b, o, none⟩) 1 1] w (Ret (.bool (vld n d && vld t u)) w) := c_vlm b o 1 (Lib.hid rfl) n d t u w c0 c1 c2 c3
end Go.Proofs.Ythkhlhibhkdkkaa.Va


namespace Go.Proofs.Ythkhlhibhkdkkaa.Va
open Go.ChangeShapes Go.WideShapes Go.ChangeAt Go.RowKit
open Fr Fx
set_option maxRecDepth 8000
set_option linter.unusedVariables false
set_option linter.unusedSimpArgs false

theorem c_kf (w : World) : Calls Try.prog 15 #[] w (Ret (T5 1 0 0 0 0) w) := by
  go_enter Try.func15, Try.ntmps15
  go_wp2
  refine bodyPost_ret (v := T5 1 0 0 0 0) (by simp [results, Try.results15, go_sem]) rfl ⟨rfl, ?_⟩; (repeat' (first | (with_reducible exact Below.refl _ _) | (with_reducible refine Below.alloc ?_ ?_ _) | (with_reducible refine Below.setCell ?_ ?_ _) | (with_reducible refine below_drewN ?_ _) | (simp; done) | omega | (simp; omega)))
theorem r_kf (w : World) : Calls Try.prog 19 #[] w (Ret (T5 1 0 0 0 0) w) := by
  go_enter Try.func19, Try.ntmps19
  go_wp2
  refine bodyPost_ret (v := T5 1 0 0 0 0) (by simp [results, Try.results19, go_sem]) rfl ⟨rfl, ?_⟩; (repeat' (first | (with_reducible exact Below.refl _ _) | (with_reducible refine Below.alloc ?_ ?_ _) | (with_reducible refine Below.setCell ?_ ?_ _) | (with_reducible refine below_drewN ?_ _) | (simp; done) | omega | (simp; omega)))
theorem r_vl (n d t u : Int) (w : World) : Calls Try.prog 17 #[D4 n d t u] w (Ret (.bool (vld n d && vld t u)) w) := by
  have V1 := Lib.hid fun w => rvalid_any n d w
  have V2 := Lib.hid fun w => rvalid_any t u w
  cases h1 : vld n d
  · rw [h1] at V1
    clear V2
    go_enter Try.func17, Try.ntmps17
    go_wp2_with (first | (go_at_call 38; (with_reducible refine (V1.out _).mono ?_); rintro e w1 ⟨rfl, hb1⟩; have hc1 := (bcell hb1).1; have hf1 := (bcell hb1).2; have z1_0 : w.heap.size < w1.heap.size := (by have hzz := hb1.size; (try simp at hzz); omega); have K1 : Below w.heap.size w w1 := Below.trans (b := _) (by (repeat' (first | (with_reducible exact Below.refl _ _) | (with_reducible refine Below.alloc ?_ ?_ _) | (with_reducible refine Below.setCell ?_ ?_ _) | (with_reducible refine below_drewN ?_ _) | (simp; done) | omega | (simp; omega)))) (hb1.mono (by have hzz := hb1.size; (try simp at hzz); first | omega | (simp; done) | (simp; omega)))))
    go_ret
    exact ⟨rfl, K1⟩
  · rw [h1] at V1
    cases h2 : vld t u
    · rw [h2] at V2
      go_enter Try.func17, Try.ntmps17
      go_wp2_with (first | (go_at_call 38; (with_reducible refine (V1.out _).mono ?_); rintro e w1 ⟨rfl, hb1⟩; have hc1 := (bcell hb1).1; have hf1 := (bcell hb1).2; have z1_0 : w.heap.size < w1.heap.size := (by have hzz := hb1.size; (try simp at hzz); omega); have K1 : Below w.heap.size w w1 := Below.trans (b := _) (by (repeat' (first | (with_reducible exact Below.refl _ _) | (with_reducible refine Below.alloc ?_ ?_ _) | (with_reducible refine Below.setCell ?_ ?_ _) | (with_reducible refine below_drewN ?_ _) | (simp; done) | omega | (simp; omega)))) (hb1.mono (by have hzz := hb1.size; (try simp at hzz); first | omega | (simp; done) | (simp; omega)))) | (go_at_call 38; (with_reducible refine (V2.out _).mono ?_); rintro e w2 ⟨rfl, hb2⟩; have hc2 := (bcell hb2).1; have hf2 := (bcell hb2).2; have z2_0 : w.heap.size < w2.heap.size := (by have hzz := hb2.size; (try simp at hzz); omega); have K2 : Below w.heap.size w w2 := Below.trans (b := _) (by (repeat' (first | (with_reducible exact Below.refl _ _) | (with_reducible exact K1) | (with_reducible exact K1.size) | (with_reducible refine Below.alloc ?_ ?_ _) | (with_reducible refine Below.setCell ?_ ?_ _) | (with_reducible refine below_drewN ?_ _) | (simp; done) | omega | (simp; omega)))) (hb2.mono (by have hzz := hb2.size; (try simp at hzz); first | omega | (simp; done) | (simp; omega)))))
      go_ret
      exact ⟨rfl, K2⟩
    · rw [h2] at V2
      go_enter Try.func17, Try.ntmps17
      go_wp2_with (first | (go_at_call 38; (with_reducible refine (V1.out _).mono ?_); rintro e w1 ⟨rfl, hb1⟩; have hc1 := (bcell hb1).1; have hf1 := (bcell hb1).2; have z1_0 : w.heap.size < w1.heap.size := (by have hzz := hb1.size; (try simp at hzz); omega); have K1 : Below w.heap.size w w1 := Below.trans (b := _) (by (repeat' (first | (with_reducible exact Below.refl _ _) | (with_reducible refine Below.alloc ?_ ?_ _) | (with_reducible refine Below.setCell ?_ ?_ _) | (with_reducible refine below_drewN ?_ _) | (simp; done) | omega | (simp; omega)))) (hb1.mono (by have hzz := hb1.size; (try simp at hzz); first | omega | (simp; done) | (simp; omega)))) | (go_at_call 38; (with_reducible refine (V2.out _).mono ?_); rintro e w2 ⟨rfl, hb2⟩; have hc2 := (bcell hb2).1; have hf2 := (bcell hb2).2; have z2_0 : w.heap.size < w2.heap.size := (by have hzz := hb2.size; (try simp at hzz); omega); have K2 : Below w.heap.size w w2 := Below.trans (b := _) (by (repeat' (first | (with_reducible exact Below.refl _ _) | (with_reducible exact K1) | (with_reducible exact K1.size) | (with_reducible refine Below.alloc ?_ ?_ _) | (with_reducible refine Below.setCell ?_ ?_ _) | (with_reducible refine below_drewN ?_ _) | (simp; done) | omega | (simp; omega)))) (hb2.mono (by have hzz := hb2.size; (try simp at hzz); first | omega | (simp; done) | (simp; omega)))))
      go_ret
      exact ⟨rfl, K2⟩
theorem law_in (n d t u : Int) (w : World) : Calls Try.prog 7 #[D4 n d t u] w (Ret (D4 n d t u) w) := by
  go_enter Try.func7, Try.ntmps7
  go_wp2
  refine bodyPost_ret (v := D4 n d t u) (by simp [results, Try.results7, go_sem]) rfl ⟨rfl, ?_⟩; (repeat' (first | (with_reducible exact Below.refl _ _) | (with_reducible refine Below.alloc ?_ ?_ _) | (with_reducible refine Below.setCell ?_ ?_ _) | (with_reducible refine below_drewN ?_ _) | (simp; done) | omega | (simp; omega)))
theorem law_same (n d t u n' d' t' u' : Int) (w : World) : Calls Try.prog 9 #[D4 n d t u, D4 n' d' t' u'] w (Ret (.bool (decide (n = n' ∧ d = d' ∧ t = t' ∧ u = u'))) w) := by
  by_cases h0 : n = n'
  rotate_left
  · rw [show decide (n = n' ∧ d = d' ∧ t = t' ∧ u = u') = false by simp [h0]]
    have e : (n == n') = false := by simpa using h0
    go_enter Try.func9, Try.ntmps9
    go_wp2
    go_ret
    exact ⟨by simp [h0], by go_grown⟩
  subst h0
  by_cases h1 : d = d'
  rotate_left
  · rw [show decide (n = n ∧ d = d' ∧ t = t' ∧ u = u') = false by simp [h1]]
    have e : (d == d') = false := by simpa using h1
    go_enter Try.func9, Try.ntmps9
    go_wp2
    go_ret
    exact ⟨by simp [h1], by go_grown⟩
  subst h1
  by_cases h2 : t = t'
  rotate_left
  · rw [show decide (n = n ∧ d = d ∧ t = t' ∧ u = u') = false by simp [h2]]
    have e : (t == t') = false := by simpa using h2
    go_enter Try.func9, Try.ntmps9
    go_wp2
    go_ret
    exact ⟨by simp [h2], by go_grown⟩
  subst h2
  by_cases h3 : u = u'
  rotate_left
  · rw [show decide (n = n ∧ d = d ∧ t = t ∧ u = u') = false by simp [h3]]
    have e : (u == u') = false := by simpa using h3
    go_enter Try.func9, Try.ntmps9
    go_wp2
    go_ret
    exact ⟨by simp [h3], by go_grown⟩
  subst h3
  rw [show decide (n = n ∧ d = d ∧ t = t ∧ u = u) = true by simp]
  go_enter Try.func9, Try.ntmps9
  go_wp2
  go_ret
  exact ⟨by simp, by go_grown⟩
end Go.Proofs.Ythkhlhibhkdkkaa.Va


namespace Go.Proofs.Ythkhlhibhkdkkaa.Va
open Go.ChangeShapes Go.WideShapes Go.ChangeAt Go.RowKit
open Fr Fx
set_option maxRecDepth 8000
set_option linter.unusedVariables false
set_option linter.unusedSimpArgs false

theorem thn_congr (x : A3) (k : Int → Int → A3) : thn x k = thn x (fun _ _ => k x.1 x.2.1) := by unfold thn; split <;> rfl
end Go.Proofs.Ythkhlhibhkdkkaa.Va
