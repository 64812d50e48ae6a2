/- The law on reductions. -/
import Derived.Test.YtikcinkbkakkmaaGreatDoorV24
import Derived.Test.YtikcinkbkakkmaaGreatDoorV23

namespace Go.Proofs.YtikcinkbkakkmaaGreatDoor.Va
open Go.ChangeShapes Go.WideShapes Go.ChangeAt Go.RowKit
open Fr Fx
set_option maxRecDepth 8000
set_option linter.unusedVariables false
set_option linter.unusedSimpArgs false

set_option maxRecDepth 100000 in
set_option maxHeartbeats 16000000 in
theorem law_red (fold K B F R O : Int) (p : Option Addr) (xs : List (Int × Int)) (c : Nat) (w : World) (bb0 : -9223372036854775808 ≤ B) (bb1 : B ≤ 9223372036854775807) (hn : xs.length ≤ maxLen) (hc : xs.length ≤ c) (RA : Hid (SlV w p xs)) :
    Calls Tryz.prog 4 #[.int .i64 fold, T5 K B F R O, .slice p xs.length c] w (Ret (.bool true) w) := by
  have EX := Lib.hid fun w => examples_true w
  have C1 := Lib.hid fun k w h => c_red k K B F R O p xs c w bb0 bb1 hn hc h
  have C2 := Lib.hid fun k w h => r_red k K B F R O p xs c w hn hc h
  have C3 := Lib.hid fun k w => c_id k K B F R O w bb0 bb1
  have C4 := Lib.hid fun k w => r_id k K B F R O w
  have C5 := Lib.hid fun k w => c_reord k K B F R O w
  have C6 := Lib.hid fun k w => r_reord k K B F R O w
  have hn2 : xs.length ≤ 9223372036854775807 := Nat.le_trans hn (by decide)
  obtain ⟨n, hnn⟩ : ∃ n, xs.length = n := ⟨_, rfl⟩
  rw [hnn] at hn2 C1 C2 ⊢
  clear hn hc bb0 bb1 hnn
  by_cases hl : 60 < n
  · have g1 : decide ((60 : Int) < n) = true := by simp; omega
    clear hl RA C1 C2 C3 C4 C5 C6
    go_enter Tryz.func4, Tryz.ntmps4
    go_wp2_with fail
    refine (EX.out _).mono ?_
    rintro e w1 ⟨rfl, hb⟩
    have L : Below w.heap.size w w1 := ((Below.refl _ _).alloc (by simp <;> omega) _).trans (hb.mono (by simp <;> omega))
    have K1 : Below w.heap.size w w1 := L
    have lt : w.heap.size < w1.heap.size := Nat.lt_of_lt_of_le (by simp <;> omega) hb.size
    have t0 : w1.cell? ⟨w.heap.size, 0, none⟩ = some (.int .i64 K) := Rg.keep hb (by simp <;> omega) (by go_cell)
    have t1 : w1.cell? ⟨w.heap.size, 1, none⟩ = some (.int .i64 B) := Rg.keep hb (by simp <;> omega) (by go_cell)
    have t2 : w1.cell? ⟨w.heap.size, 2, none⟩ = some (.int .i64 F) := Rg.keep hb (by simp <;> omega) (by go_cell)
    have t3 : w1.cell? ⟨w.heap.size, 3, none⟩ = some (.int .i64 R) := Rg.keep hb (by simp <;> omega) (by go_cell)
    have t4 : w1.cell? ⟨w.heap.size, 4, none⟩ = some (.int .i64 O) := Rg.keep hb (by simp <;> omega) (by go_cell)
    clear hb L
    go_wp2
    go_ret
    exact ⟨rfl, K1⟩
  · have g1 : decide ((60 : Int) < n) = false := by simp; omega
    clear hl
    go_enter Tryz.func4, Tryz.ntmps4
    go_wp2_with fail
    obtain ⟨zw1, hzw⟩ : ∃ zw1, zw1 = (w.alloc (.cells #[.int .i64 K, .int .i64 B, .int .i64 F, .int .i64 R, .int .i64 O] 23)) := ⟨_, rfl⟩
    have hb : Below (w.alloc (.cells #[.int .i64 K, .int .i64 B, .int .i64 F, .int .i64 R, .int .i64 O] 23)).heap.size (w.alloc (.cells #[.int .i64 K, .int .i64 B, .int .i64 F, .int .i64 R, .int .i64 O] 23)) zw1 := by rw [hzw]; exact Below.refl _ _
    rw [← hzw]
    clear hzw
    have L : Below w.heap.size w zw1 := ((Below.refl _ _).alloc (by simp <;> omega) _).trans (hb.mono (by simp <;> omega))
    have K1 : Below w.heap.size w zw1 := L
    have lt : w.heap.size < zw1.heap.size := Nat.lt_of_lt_of_le (by simp <;> omega) hb.size
    have t0 : zw1.cell? ⟨w.heap.size, 0, none⟩ = some (.int .i64 K) := Rg.keep hb (by simp <;> omega) (by go_cell)
    have t1 : zw1.cell? ⟨w.heap.size, 1, none⟩ = some (.int .i64 B) := Rg.keep hb (by simp <;> omega) (by go_cell)
    have t2 : zw1.cell? ⟨w.heap.size, 2, none⟩ = some (.int .i64 F) := Rg.keep hb (by simp <;> omega) (by go_cell)
    have t3 : zw1.cell? ⟨w.heap.size, 3, none⟩ = some (.int .i64 R) := Rg.keep hb (by simp <;> omega) (by go_cell)
    have t4 : zw1.cell? ⟨w.heap.size, 4, none⟩ = some (.int .i64 O) := Rg.keep hb (by simp <;> omega) (by go_cell)
    clear hb L
    have hS : Hid (zw1.cell? ⟨w.heap.size, 0, none⟩ = some (.int .i64 K) ∧ zw1.cell? ⟨w.heap.size, 1, none⟩ = some (.int .i64 B) ∧ zw1.cell? ⟨w.heap.size, 2, none⟩ = some (.int .i64 F) ∧ zw1.cell? ⟨w.heap.size, 3, none⟩ = some (.int .i64 R) ∧ zw1.cell? ⟨w.heap.size, 4, none⟩ = some (.int .i64 O) ∧ Below w.heap.size w zw1) := Lib.hid ⟨t0, t1, t2, t3, t4, K1⟩
    clear t0 t1 t2 t3 t4 K1 g1 lt
    go_loopw [7] (fun i wr => ∃ (k : Nat), i = .int .i64 k ∧ k ≤ 6 ∧ Hid (wr.cell? ⟨w.heap.size, 0, none⟩ = some (.int .i64 K) ∧ wr.cell? ⟨w.heap.size, 1, none⟩ = some (.int .i64 B) ∧ wr.cell? ⟨w.heap.size, 2, none⟩ = some (.int .i64 F) ∧ wr.cell? ⟨w.heap.size, 3, none⟩ = some (.int .i64 R) ∧ wr.cell? ⟨w.heap.size, 4, none⟩ = some (.int .i64 O) ∧ Below w.heap.size w wr)) (fun i _ => 6 - (intOf i).toNat)
    case atStart => exact ⟨0, rfl, by omega, hS⟩
    case round =>
      obtain ⟨k, rfl, k6, hT⟩ := hrel
      clear hS
      obtain ⟨t0, t1, t2, t3, t4, K0⟩ := hT.out
      have lt : w.heap.size < wr.heap.size := World.block_lt_of_cell? _ _ t0
      clear hT
      by_cases hk : k ≤ 5
      · have g1 : decide ((k : Int) ≤ 5) = true := by simp; omega
        obtain ⟨r, hr⟩ : ∃ r, rdv (k : Int) K B F R O xs = r := ⟨_, rfl⟩
        obtain ⟨q, hq⟩ : ∃ q, idv (k : Int) K B F R O = q := ⟨_, rfl⟩
        obtain ⟨s, hs⟩ : ∃ s, rov (k : Int) K B F R O = s := ⟨_, rfl⟩
        have C1 := Lib.hid fun w h => C1.out (k : Int) w h
        have C2 := Lib.hid fun w h => C2.out (k : Int) w h
        have C3 := Lib.hid fun w => C3.out (k : Int) w
        have C4 := Lib.hid fun w => C4.out (k : Int) w
        have C5 := Lib.hid fun w => C5.out (k : Int) w
        have C6 := Lib.hid fun w => C6.out (k : Int) w
        rw [hr] at C1 C2
        rw [hq] at C3 C4
        rw [hs] at C5 C6
        clear hr hq hs
        obtain ⟨x, y, z⟩ := r
        obtain ⟨x', y', f⟩ := q
        go_wp2_with fail
        refine (C1.out _ (Lib.hid (RA.out.below (by (repeat' (first | (with_reducible exact Below.refl _ _) | (with_reducible exact K0) | (with_reducible refine Below.alloc ?_ ?_ _) | (with_reducible refine Below.setCell ?_ ?_ _) | (with_reducible refine below_drewN ?_ _) | (simp; done) | omega | (simp; omega))))))).mono ?_
        rintro e w21 ⟨rfl, hb⟩
        have L : Below wr.heap.size wr w21 := (Below.refl _ _).trans (hb.mono (by simp <;> omega))
        have K21 : Below w.heap.size w w21 := K0.trans (L.mono K0.size)
        have t0 := Rg.keep L lt t0
        have t1 := Rg.keep L lt t1
        have t2 := Rg.keep L lt t2
        have t3 := Rg.keep L lt t3
        have t4 := Rg.keep L lt t4
        have lt := Nat.lt_of_lt_of_le lt L.size
        clear hb L
        go_wp2_with fail
        refine (C2.out _ (Lib.hid (RA.out.below (by (repeat' (first | (with_reducible exact Below.refl _ _) | (with_reducible exact K21) | (with_reducible refine Below.alloc ?_ ?_ _) | (with_reducible refine Below.setCell ?_ ?_ _) | (with_reducible refine below_drewN ?_ _) | (simp; done) | omega | (simp; omega))))))).mono ?_
        rintro e w22 ⟨rfl, hb⟩
        have L : Below w21.heap.size w21 w22 := ((Below.refl _ _).alloc (by simp <;> omega) _).trans (hb.mono (by simp <;> omega))
        have K22 : Below w.heap.size w w22 := K21.trans (L.mono K21.size)
        have la : w21.heap.size < w22.heap.size := Nat.lt_of_lt_of_le (by simp <;> omega) hb.size
        have a0 : w22.cell? ⟨w21.heap.size, 0, none⟩ = some (.int .i64 x) := Rg.keep hb (by simp <;> omega) (by go_cell)
        have a1 : w22.cell? ⟨w21.heap.size, 1, none⟩ = some (.int .i64 y) := Rg.keep hb (by simp <;> omega) (by go_cell)
        have t0 := Rg.keep L lt t0
        have t1 := Rg.keep L lt t1
        have t2 := Rg.keep L lt t2
        have t3 := Rg.keep L lt t3
        have t4 := Rg.keep L lt t4
        have lt := Nat.lt_of_lt_of_le lt L.size
        clear hb L
        go_wp2_with fail
        refine (C3.out _).mono ?_
        rintro e w23 ⟨rfl, hb⟩
        have L : Below w22.heap.size w22 w23 := ((Below.refl _ _).alloc (by simp <;> omega) _).trans (hb.mono (by simp <;> omega))
        have K23 : Below w.heap.size w w23 := K22.trans (L.mono K22.size)
        have lb : w22.heap.size < w23.heap.size := Nat.lt_of_lt_of_le (by simp <;> omega) hb.size
        have b0 : w23.cell? ⟨w22.heap.size, 0, none⟩ = some (.int .i64 x) := Rg.keep hb (by simp <;> omega) (by go_cell)
        have b1 : w23.cell? ⟨w22.heap.size, 1, none⟩ = some (.int .i64 y) := Rg.keep hb (by simp <;> omega) (by go_cell)
        have t0 := Rg.keep L lt t0
        have t1 := Rg.keep L lt t1
        have t2 := Rg.keep L lt t2
        have t3 := Rg.keep L lt t3
        have t4 := Rg.keep L lt t4
        have a0 := Rg.keep L la a0
        have a1 := Rg.keep L la a1
        have lt := Nat.lt_of_lt_of_le lt L.size
        have la := Nat.lt_of_lt_of_le la L.size
        clear hb L
        go_wp2_with fail
        refine (C4.out _).mono ?_
        rintro e w24 ⟨rfl, hb⟩
        have L : Below w23.heap.size w23 w24 := ((Below.refl _ _).alloc (by simp <;> omega) _).trans (hb.mono (by simp <;> omega))
        have K24 : Below w.heap.size w w24 := K23.trans (L.mono K23.size)
        have li : w23.heap.size < w24.heap.size := Nat.lt_of_lt_of_le (by simp <;> omega) hb.size
        have i0 : w24.cell? ⟨w23.heap.size, 0, none⟩ = some (.int .i64 x') := Rg.keep hb (by simp <;> omega) (by go_cell)
        have i1 : w24.cell? ⟨w23.heap.size, 1, none⟩ = some (.int .i64 y') := Rg.keep hb (by simp <;> omega) (by go_cell)
        have t0 := Rg.keep L lt t0
        have t1 := Rg.keep L lt t1
        have t2 := Rg.keep L lt t2
        have t3 := Rg.keep L lt t3
        have t4 := Rg.keep L lt t4
        have a0 := Rg.keep L la a0
        have a1 := Rg.keep L la a1
        have b0 := Rg.keep L lb b0
        have b1 := Rg.keep L lb b1
        have lt := Nat.lt_of_lt_of_le lt L.size
        have la := Nat.lt_of_lt_of_le la L.size
        have lb := Nat.lt_of_lt_of_le lb L.size
        clear hb L
        go_wp2_with fail
        obtain ⟨zw25, hzw⟩ : ∃ zw25, zw25 = (w24.alloc (.cells #[.int .i64 x', .int .i64 y'] 25)) := ⟨_, rfl⟩
        have hb : Below (w24.alloc (.cells #[.int .i64 x', .int .i64 y'] 25)).heap.size (w24.alloc (.cells #[.int .i64 x', .int .i64 y'] 25)) zw25 := by rw [hzw]; exact Below.refl _ _
        rw [← hzw]
        clear hzw
        have L : Below w24.heap.size w24 zw25 := ((Below.refl _ _).alloc (by simp <;> omega) _).trans (hb.mono (by simp <;> omega))
        have K25 : Below w.heap.size w zw25 := K24.trans (L.mono K24.size)
        have lj : w24.heap.size < zw25.heap.size := Nat.lt_of_lt_of_le (by simp <;> omega) hb.size
        have j0 : zw25.cell? ⟨w24.heap.size, 0, none⟩ = some (.int .i64 x') := Rg.keep hb (by simp <;> omega) (by go_cell)
        have j1 : zw25.cell? ⟨w24.heap.size, 1, none⟩ = some (.int .i64 y') := Rg.keep hb (by simp <;> omega) (by go_cell)
        have t0 := Rg.keep L lt t0
        have t1 := Rg.keep L lt t1
        have t2 := Rg.keep L lt t2
        have t3 := Rg.keep L lt t3
        have t4 := Rg.keep L lt t4
        have a0 := Rg.keep L la a0
        have a1 := Rg.keep L la a1
        have b0 := Rg.keep L lb b0
        have b1 := Rg.keep L lb b1
        have i0 := Rg.keep L li i0
        have i1 := Rg.keep L li i1
        have lt := Nat.lt_of_lt_of_le lt L.size
        have la := Nat.lt_of_lt_of_le la L.size
        have lb := Nat.lt_of_lt_of_le lb L.size
        have li := Nat.lt_of_lt_of_le li L.size
        clear hb L
        go_wp2_with fail
        have hz : zw25.cell? ⟨w.heap.size, 0, none⟩ = some (.int .i64 K) ∧ zw25.cell? ⟨w.heap.size, 1, none⟩ = some (.int .i64 B) ∧ zw25.cell? ⟨w.heap.size, 2, none⟩ = some (.int .i64 F) ∧ zw25.cell? ⟨w.heap.size, 3, none⟩ = some (.int .i64 R) ∧ zw25.cell? ⟨w.heap.size, 4, none⟩ = some (.int .i64 O) ∧ zw25.cell? ⟨w21.heap.size, 0, none⟩ = some (.int .i64 x) ∧ zw25.cell? ⟨w21.heap.size, 1, none⟩ = some (.int .i64 y) ∧ zw25.cell? ⟨w22.heap.size, 0, none⟩ = some (.int .i64 x) ∧ zw25.cell? ⟨w22.heap.size, 1, none⟩ = some (.int .i64 y) ∧ zw25.cell? ⟨w23.heap.size, 0, none⟩ = some (.int .i64 x') ∧ zw25.cell? ⟨w23.heap.size, 1, none⟩ = some (.int .i64 y') ∧ zw25.cell? ⟨w24.heap.size, 0, none⟩ = some (.int .i64 x') ∧ zw25.cell? ⟨w24.heap.size, 1, none⟩ = some (.int .i64 y') ∧ zw25.heap.size ≤ zw25.heap.size ∧ Below w.heap.size w zw25 := ⟨t0, t1, t2, t3, t4, a0, a1, b0, b1, i0, i1, j0, j1, Nat.le_refl _, K25⟩
        clear t0 t1 t2 t3 t4 a0 a1 b0 b1 i0 i1 j0 j1 K25
        have HS : Hid (∀ u u' : World, (u.cell? ⟨w.heap.size, 0, none⟩ = some (.int .i64 K) ∧ u.cell? ⟨w.heap.size, 1, none⟩ = some (.int .i64 B) ∧ u.cell? ⟨w.heap.size, 2, none⟩ = some (.int .i64 F) ∧ u.cell? ⟨w.heap.size, 3, none⟩ = some (.int .i64 R) ∧ u.cell? ⟨w.heap.size, 4, none⟩ = some (.int .i64 O) ∧ u.cell? ⟨w21.heap.size, 0, none⟩ = some (.int .i64 x) ∧ u.cell? ⟨w21.heap.size, 1, none⟩ = some (.int .i64 y) ∧ u.cell? ⟨w22.heap.size, 0, none⟩ = some (.int .i64 x) ∧ u.cell? ⟨w22.heap.size, 1, none⟩ = some (.int .i64 y) ∧ u.cell? ⟨w23.heap.size, 0, none⟩ = some (.int .i64 x') ∧ u.cell? ⟨w23.heap.size, 1, none⟩ = some (.int .i64 y') ∧ u.cell? ⟨w24.heap.size, 0, none⟩ = some (.int .i64 x') ∧ u.cell? ⟨w24.heap.size, 1, none⟩ = some (.int .i64 y') ∧ zw25.heap.size ≤ u.heap.size ∧ Below w.heap.size w u) → Below u.heap.size u u' → (u'.cell? ⟨w.heap.size, 0, none⟩ = some (.int .i64 K) ∧ u'.cell? ⟨w.heap.size, 1, none⟩ = some (.int .i64 B) ∧ u'.cell? ⟨w.heap.size, 2, none⟩ = some (.int .i64 F) ∧ u'.cell? ⟨w.heap.size, 3, none⟩ = some (.int .i64 R) ∧ u'.cell? ⟨w.heap.size, 4, none⟩ = some (.int .i64 O) ∧ u'.cell? ⟨w21.heap.size, 0, none⟩ = some (.int .i64 x) ∧ u'.cell? ⟨w21.heap.size, 1, none⟩ = some (.int .i64 y) ∧ u'.cell? ⟨w22.heap.size, 0, none⟩ = some (.int .i64 x) ∧ u'.cell? ⟨w22.heap.size, 1, none⟩ = some (.int .i64 y) ∧ u'.cell? ⟨w23.heap.size, 0, none⟩ = some (.int .i64 x') ∧ u'.cell? ⟨w23.heap.size, 1, none⟩ = some (.int .i64 y') ∧ u'.cell? ⟨w24.heap.size, 0, none⟩ = some (.int .i64 x') ∧ u'.cell? ⟨w24.heap.size, 1, none⟩ = some (.int .i64 y') ∧ zw25.heap.size ≤ u'.heap.size ∧ Below w.heap.size w u')) := Lib.hid (fun u u' h hb => ⟨Rg.keep hb (Nat.lt_of_lt_of_le lt h.2.2.2.2.2.2.2.2.2.2.2.2.2.1) h.1, Rg.keep hb (Nat.lt_of_lt_of_le lt h.2.2.2.2.2.2.2.2.2.2.2.2.2.1) h.2.1, Rg.keep hb (Nat.lt_of_lt_of_le lt h.2.2.2.2.2.2.2.2.2.2.2.2.2.1) h.2.2.1, Rg.keep hb (Nat.lt_of_lt_of_le lt h.2.2.2.2.2.2.2.2.2.2.2.2.2.1) h.2.2.2.1, Rg.keep hb (Nat.lt_of_lt_of_le lt h.2.2.2.2.2.2.2.2.2.2.2.2.2.1) h.2.2.2.2.1, Rg.keep hb (Nat.lt_of_lt_of_le la h.2.2.2.2.2.2.2.2.2.2.2.2.2.1) h.2.2.2.2.2.1, Rg.keep hb (Nat.lt_of_lt_of_le la h.2.2.2.2.2.2.2.2.2.2.2.2.2.1) h.2.2.2.2.2.2.1, Rg.keep hb (Nat.lt_of_lt_of_le lb h.2.2.2.2.2.2.2.2.2.2.2.2.2.1) h.2.2.2.2.2.2.2.1, Rg.keep hb (Nat.lt_of_lt_of_le lb h.2.2.2.2.2.2.2.2.2.2.2.2.2.1) h.2.2.2.2.2.2.2.2.1, Rg.keep hb (Nat.lt_of_lt_of_le li h.2.2.2.2.2.2.2.2.2.2.2.2.2.1) h.2.2.2.2.2.2.2.2.2.1, Rg.keep hb (Nat.lt_of_lt_of_le li h.2.2.2.2.2.2.2.2.2.2.2.2.2.1) h.2.2.2.2.2.2.2.2.2.2.1, Rg.keep hb (Nat.lt_of_lt_of_le lj h.2.2.2.2.2.2.2.2.2.2.2.2.2.1) h.2.2.2.2.2.2.2.2.2.2.2.1, Rg.keep hb (Nat.lt_of_lt_of_le lj h.2.2.2.2.2.2.2.2.2.2.2.2.2.1) h.2.2.2.2.2.2.2.2.2.2.2.2.1, Nat.le_trans h.2.2.2.2.2.2.2.2.2.2.2.2.2.1 hb.size, h.2.2.2.2.2.2.2.2.2.2.2.2.2.2.trans (hb.mono h.2.2.2.2.2.2.2.2.2.2.2.2.2.2.size)⟩)
        refine wp_region_held_drew (S := fun w' => w'.cell? ⟨w.heap.size, 0, none⟩ = some (.int .i64 K) ∧ w'.cell? ⟨w.heap.size, 1, none⟩ = some (.int .i64 B) ∧ w'.cell? ⟨w.heap.size, 2, none⟩ = some (.int .i64 F) ∧ w'.cell? ⟨w.heap.size, 3, none⟩ = some (.int .i64 R) ∧ w'.cell? ⟨w.heap.size, 4, none⟩ = some (.int .i64 O) ∧ w'.cell? ⟨w21.heap.size, 0, none⟩ = some (.int .i64 x) ∧ w'.cell? ⟨w21.heap.size, 1, none⟩ = some (.int .i64 y) ∧ w'.cell? ⟨w22.heap.size, 0, none⟩ = some (.int .i64 x) ∧ w'.cell? ⟨w22.heap.size, 1, none⟩ = some (.int .i64 y) ∧ w'.cell? ⟨w23.heap.size, 0, none⟩ = some (.int .i64 x') ∧ w'.cell? ⟨w23.heap.size, 1, none⟩ = some (.int .i64 y') ∧ w'.cell? ⟨w24.heap.size, 0, none⟩ = some (.int .i64 x') ∧ w'.cell? ⟨w24.heap.size, 1, none⟩ = some (.int .i64 y') ∧ zw25.heap.size ≤ w'.heap.size ∧ Below w.heap.size w w') (by kernel_rfl) (HS.out _ _ hz (Below.drew (Below.refl _ _))) (fun hHeld => ?_)
        refine Rg.take (i := 0) (v := ?_) rfl (by kernel_rfl) (by kernel_rfl) (by kernel_rfl) (fun _ _ _ h => h) (Or.inl ⟨by kernel_rfl, ?_⟩) (by assumption) ?_
        rotate_left
        · ((intro w hSw; (try dsimp only at hSw); go_simp) <;> with_reducible rfl)
        try simp only [Act.put, List.setIfInBounds_toArray, List.set_cons_zero, List.set_cons_succ]
        refine Rg.take (i := 1) (v := ?_) rfl (by kernel_rfl) (by kernel_rfl) (by kernel_rfl) (fun _ _ _ h => h) (Or.inl ⟨by kernel_rfl, ?_⟩) (by assumption) ?_
        rotate_left
        · ((intro w hSw; (try dsimp only at hSw); go_simp) <;> with_reducible rfl)
        try simp only [Act.put, List.setIfInBounds_toArray, List.set_cons_zero, List.set_cons_succ]
        refine Rg.take (i := 2) (v := ?_) rfl (by kernel_rfl) (by kernel_rfl) (by kernel_rfl) (fun _ _ _ h => h) (Or.inl ⟨by kernel_rfl, ?_⟩) (by assumption) ?_
        rotate_left
        · ((intro w hSw; (try dsimp only at hSw); go_simp) <;> with_reducible rfl)
        try simp only [Act.put, List.setIfInBounds_toArray, List.set_cons_zero, List.set_cons_succ]
        refine Rg.take (i := 3) (v := ?_) rfl (by kernel_rfl) (by kernel_rfl) (by kernel_rfl) (fun _ _ _ h => h) (Or.inl ⟨by kernel_rfl, ?_⟩) (by assumption) ?_
        rotate_left
        · ((intro w hSw; (try dsimp only at hSw); go_simp) <;> with_reducible rfl)
        try simp only [Act.put, List.setIfInBounds_toArray, List.set_cons_zero, List.set_cons_succ]
        refine Rg.take (i := 4) (v := ?_) rfl (by kernel_rfl) (by kernel_rfl) (by kernel_rfl) (fun _ _ _ h => h) (Or.inl ⟨by kernel_rfl, ?_⟩) (by assumption) ?_
        rotate_left
        · ((intro w hSw; (try dsimp only at hSw); go_simp) <;> with_reducible rfl)
        try simp only [Act.put, List.setIfInBounds_toArray, List.set_cons_zero, List.set_cons_succ]
        refine Rg.take (i := 5) (v := ?_) rfl (by kernel_rfl) (by kernel_rfl) (by kernel_rfl) (fun _ _ _ h => h) (Or.inl ⟨by kernel_rfl, ?_⟩) (by assumption) ?_
        rotate_left
        · ((intro w hSw; (try dsimp only at hSw); go_simp) <;> with_reducible rfl)
        try simp only [Act.put, List.setIfInBounds_toArray, List.set_cons_zero, List.set_cons_succ]
        refine Rg.take (i := 6) (v := ?_) rfl (by kernel_rfl) (by kernel_rfl) (by kernel_rfl) (fun _ _ _ h => h) (Or.inl ⟨by kernel_rfl, ?_⟩) (by assumption) ?_
        rotate_left
        · ((intro w hSw; (try dsimp only at hSw); go_simp) <;> with_reducible rfl)
        try simp only [Act.put, List.setIfInBounds_toArray, List.set_cons_zero, List.set_cons_succ]
        refine Rg.take (i := 7) (v := ?_) rfl (by kernel_rfl) (by kernel_rfl) (by kernel_rfl) (fun _ _ _ h => h) (Or.inl ⟨by kernel_rfl, ?_⟩) (by assumption) ?_
        rotate_left
        · ((intro w hSw; (try dsimp only at hSw); go_simp) <;> with_reducible rfl)
        try simp only [Act.put, List.setIfInBounds_toArray, List.set_cons_zero, List.set_cons_succ]
        refine Rg.take (i := 8) (v := ?_) rfl (by kernel_rfl) (by kernel_rfl) (by kernel_rfl) (fun _ _ _ h => h) (Or.inl ⟨by kernel_rfl, ?_⟩) (by assumption) ?_
        rotate_left
        · ((intro w hSw; (try dsimp only at hSw); go_simp) <;> with_reducible rfl)
        try simp only [Act.put, List.setIfInBounds_toArray, List.set_cons_zero, List.set_cons_succ]
        refine Rg.take (i := 9) (v := ?_) rfl (by kernel_rfl) (by kernel_rfl) (by kernel_rfl) (fun _ _ _ h => h) (Or.inl ⟨by kernel_rfl, ?_⟩) (by assumption) ?_
        rotate_left
        · ((intro w hSw; (try dsimp only at hSw); go_simp) <;> with_reducible rfl)
        try simp only [Act.put, List.setIfInBounds_toArray, List.set_cons_zero, List.set_cons_succ]
        refine Rg.take (i := 10) (v := ?_) rfl (by kernel_rfl) (by kernel_rfl) (by kernel_rfl) (fun _ _ _ h => h) (Or.inl ⟨by kernel_rfl, ?_⟩) (by assumption) ?_
        rotate_left
        · ((intro w hSw; (try dsimp only at hSw); go_simp) <;> with_reducible rfl)
        try simp only [Act.put, List.setIfInBounds_toArray, List.set_cons_zero, List.set_cons_succ]
        refine Rg.take (i := 11) (v := ?_) rfl (by kernel_rfl) (by kernel_rfl) (by kernel_rfl) (fun _ _ _ h => h) (Or.inl ⟨by kernel_rfl, ?_⟩) (by assumption) ?_
        rotate_left
        · ((intro w hSw; (try dsimp only at hSw); go_simp) <;> with_reducible rfl)
        try simp only [Act.put, List.setIfInBounds_toArray, List.set_cons_zero, List.set_cons_succ]
        refine Rg.take (i := 12) (v := ?_) rfl (by kernel_rfl) (by kernel_rfl) (by kernel_rfl) (fun _ _ _ h => h) (Or.inl ⟨by kernel_rfl, ?_⟩) (by assumption) ?_
        rotate_left
        · ((intro w hSw; (try dsimp only at hSw); go_simp) <;> with_reducible rfl)
        try simp only [Act.put, List.setIfInBounds_toArray, List.set_cons_zero, List.set_cons_succ]
        refine Rg.take (i := 13) (v := ?_) rfl (by kernel_rfl) (by kernel_rfl) (by kernel_rfl) (fun _ _ _ h => h) (Or.inl ⟨by kernel_rfl, ?_⟩) (by assumption) ?_
        rotate_left
        · ((intro w hSw; (try dsimp only at hSw); go_simp) <;> with_reducible rfl)
        try simp only [Act.put, List.setIfInBounds_toArray, List.set_cons_zero, List.set_cons_succ]
        refine Rg.take (i := 14) (v := ?_) rfl (by kernel_rfl) (by kernel_rfl) (by kernel_rfl) (fun _ _ _ h => h) (Or.inl ⟨by kernel_rfl, ?_⟩) (by assumption) ?_
        rotate_left
        · ((intro w hSw; (try dsimp only at hSw); go_simp) <;> with_reducible rfl)
        try simp only [Act.put, List.setIfInBounds_toArray, List.set_cons_zero, List.set_cons_succ]
        refine Rg.take (i := 15) (v := ?_) rfl (by kernel_rfl) (by kernel_rfl) (by kernel_rfl) (fun _ _ _ h => h) (Or.inl ⟨by kernel_rfl, ?_⟩) (by assumption) ?_
        rotate_left
        · ((intro w hSw; (try dsimp only at hSw); go_simp) <;> with_reducible rfl)
        try simp only [Act.put, List.setIfInBounds_toArray, List.set_cons_zero, List.set_cons_succ]
        refine Rg.take (i := 16) (v := ?_) rfl (by kernel_rfl) (by kernel_rfl) (by kernel_rfl) (fun _ _ _ h => h) (Or.inl ⟨by kernel_rfl, ?_⟩) (by assumption) ?_
        rotate_left
        · ((intro w hSw; (try dsimp only at hSw); go_simp) <;> with_reducible rfl)
        try simp only [Act.put, List.setIfInBounds_toArray, List.set_cons_zero, List.set_cons_succ]
        refine Rg.take (i := 17) (v := ?_) rfl (by kernel_rfl) (by kernel_rfl) (by kernel_rfl) (fun _ _ _ h => h) (Or.inl ⟨by kernel_rfl, ?_⟩) (by assumption) ?_
        rotate_left
        · ((intro w hSw; (try dsimp only at hSw); go_simp) <;> with_reducible rfl)
        try simp only [Act.put, List.setIfInBounds_toArray, List.set_cons_zero, List.set_cons_succ]
        refine Rg.take (i := 18) (v := ?_) rfl (by kernel_rfl) (by kernel_rfl) (by kernel_rfl) (fun _ _ _ h => h) (Or.inl ⟨by kernel_rfl, ?_⟩) (by assumption) ?_
        rotate_left
        · ((intro w hSw; (try dsimp only at hSw); go_simp) <;> with_reducible rfl)
        try simp only [Act.put, List.setIfInBounds_toArray, List.set_cons_zero, List.set_cons_succ]
        refine Rg.take (i := 19) (v := ?_) rfl (by kernel_rfl) (by kernel_rfl) (by kernel_rfl) (fun _ _ _ h => h) (Or.inl ⟨by kernel_rfl, ?_⟩) (by assumption) ?_
        rotate_left
        · ((intro w hSw; (try dsimp only at hSw); go_simp) <;> with_reducible rfl)
        try simp only [Act.put, List.setIfInBounds_toArray, List.set_cons_zero, List.set_cons_succ]
        refine Rg.take (i := 20) (v := ?_) rfl (by kernel_rfl) (by kernel_rfl) (by kernel_rfl) (fun _ _ _ h => h) (Or.inl ⟨by kernel_rfl, ?_⟩) (by assumption) ?_
        rotate_left
        · ((intro w hSw; (try dsimp only at hSw); go_simp) <;> with_reducible rfl)
        try simp only [Act.put, List.setIfInBounds_toArray, List.set_cons_zero, List.set_cons_succ]
        refine Rg.take (i := 22) (v := ?_) rfl (by kernel_rfl) (by kernel_rfl) (by kernel_rfl) (fun _ _ _ h => h) (Or.inl ⟨by kernel_rfl, ?_⟩) (by assumption) ?_
        rotate_left
        · ((intro w hSw; (try dsimp only at hSw); go_simp) <;> with_reducible rfl)
        try simp only [Act.put, List.setIfInBounds_toArray, List.set_cons_zero, List.set_cons_succ]
        refine Rg.take (i := 23) (v := ?_) rfl (by kernel_rfl) (by kernel_rfl) (by kernel_rfl) (fun _ _ _ h => h) (Or.inl ⟨by kernel_rfl, ?_⟩) (by assumption) ?_
        rotate_left
        · ((intro w hSw; (try dsimp only at hSw); go_simp) <;> with_reducible rfl)
        try simp only [Act.put, List.setIfInBounds_toArray, List.set_cons_zero, List.set_cons_succ]
        refine Rg.one (i := 21) (by kernel_rfl) rfl (fun KK hK => ?_)
        rw [if_pos (by kernel_rfl)]
        go_simp
        ((with_reducible refine (C5.out _).mono ?_); rintro e u ⟨rfl, hb⟩)
        have hNew := HS.out _ _ hHeld hb
        first | (refine hK.out _ _ hNew (fun _ => ?_)) | (go_wp2_with fail; refine hK.out _ _ hNew (fun _ => ?_))
        clear hK KK hHeld hb
        have hHeld := hNew
        clear hNew
        refine Rg.one (i := 24) (by kernel_rfl) rfl (fun KK hK => ?_)
        rw [if_pos (by kernel_rfl)]
        go_simp
        ((with_reducible refine (C6.out _).mono ?_); rintro e u ⟨rfl, hb⟩)
        have hNew := HS.out _ _ hHeld hb
        first | (refine hK.out _ _ hNew (fun _ => ?_)) | (go_wp2_with fail; refine hK.out _ _ hNew (fun _ => ?_))
        clear hK KK hHeld hb
        have hHeld := hNew
        clear hNew
        refine Rg.take (i := 25) (v := ?_) rfl (by kernel_rfl) (by kernel_rfl) (by kernel_rfl) (fun _ _ _ h => h) (Or.inl ⟨by kernel_rfl, ?_⟩) (by assumption) ?_
        rotate_left
        · ((intro w hSw; (try dsimp only at hSw); go_simp) <;> with_reducible rfl)
        try simp only [Act.put, List.setIfInBounds_toArray, List.set_cons_zero, List.set_cons_succ]
        refine Rg.take (i := 26) (v := ?_) rfl (by kernel_rfl) (by kernel_rfl) (by kernel_rfl) (fun _ _ _ h => h) (Or.inl ⟨by kernel_rfl, ?_⟩) (by assumption) ?_
        rotate_left
        · ((intro w hSw; (try dsimp only at hSw); go_simp) <;> with_reducible rfl)
        try simp only [Act.put, List.setIfInBounds_toArray, List.set_cons_zero, List.set_cons_succ]
        refine wpAnyH_done (by kernel_rfl) ?_ _
        obtain ⟨t0, t1, t2, t3, t4, a0, a1, b0, b1, i0, i1, j0, j1, hsz, K26⟩ := hHeld
        have lt := Nat.lt_of_lt_of_le lt hsz
        have la := Nat.lt_of_lt_of_le la hsz
        have lb := Nat.lt_of_lt_of_le lb hsz
        have li := Nat.lt_of_lt_of_le li hsz
        have lj := Nat.lt_of_lt_of_le lj hsz
        clear hsz hz
        have hN : Hid (u.cell? ⟨w.heap.size, 0, none⟩ = some (.int .i64 K) ∧ u.cell? ⟨w.heap.size, 1, none⟩ = some (.int .i64 B) ∧ u.cell? ⟨w.heap.size, 2, none⟩ = some (.int .i64 F) ∧ u.cell? ⟨w.heap.size, 3, none⟩ = some (.int .i64 R) ∧ u.cell? ⟨w.heap.size, 4, none⟩ = some (.int .i64 O) ∧ Below w.heap.size w u) := Lib.hid ⟨t0, t1, t2, t3, t4, K26⟩
        clear t0 t1 t2 t3 t4 K26
        go_wp2_with fail
        case roundEnd => exact ⟨⟨k + 1, by simp, by omega, hN⟩, by simp [intOf]; omega⟩
      · have g1 : decide ((k : Int) ≤ 5) = false := by simp; omega
        obtain ⟨r, hr⟩ : ∃ r, rdv fold K B F R O xs = r := ⟨_, rfl⟩
        obtain ⟨q, hq⟩ : ∃ q, idv fold K B F R O = q := ⟨_, rfl⟩
        obtain ⟨s, hs⟩ : ∃ s, rov fold K B F R O = s := ⟨_, rfl⟩
        have C1 := Lib.hid fun w h => C1.out fold w h
        have C2 := Lib.hid fun w h => C2.out fold w h
        have C3 := Lib.hid fun w => C3.out fold w
        have C4 := Lib.hid fun w => C4.out fold w
        have C5 := Lib.hid fun w => C5.out fold w
        have C6 := Lib.hid fun w => C6.out fold w
        rw [hr] at C1 C2
        rw [hq] at C3 C4
        rw [hs] at C5 C6
        clear hr hq hs
        obtain ⟨x, y, z⟩ := r
        obtain ⟨x', y', f⟩ := q
        go_wp2_with fail
        refine (C1.out _ (Lib.hid (RA.out.below (by (repeat' (first | (with_reducible exact Below.refl _ _) | (with_reducible exact K0) | (with_reducible refine Below.alloc ?_ ?_ _) | (with_reducible refine Below.setCell ?_ ?_ _) | (with_reducible refine below_drewN ?_ _) | (simp; done) | omega | (simp; omega))))))).mono ?_
        rintro e w21 ⟨rfl, hb⟩
        have L : Below wr.heap.size wr w21 := (Below.refl _ _).trans (hb.mono (by simp <;> omega))
        have K21 : Below w.heap.size w w21 := K0.trans (L.mono K0.size)
        have t0 := Rg.keep L lt t0
        have t1 := Rg.keep L lt t1
        have t2 := Rg.keep L lt t2
        have t3 := Rg.keep L lt t3
        have t4 := Rg.keep L lt t4
        have lt := Nat.lt_of_lt_of_le lt L.size
        clear hb L
        go_wp2_with fail
        refine (C2.out _ (Lib.hid (RA.out.below (by (repeat' (first | (with_reducible exact Below.refl _ _) | (with_reducible exact K21) | (with_reducible refine Below.alloc ?_ ?_ _) | (with_reducible refine Below.setCell ?_ ?_ _) | (with_reducible refine below_drewN ?_ _) | (simp; done) | omega | (simp; omega))))))).mono ?_
        rintro e w22 ⟨rfl, hb⟩
        have L : Below w21.heap.size w21 w22 := ((Below.refl _ _).alloc (by simp <;> omega) _).trans (hb.mono (by simp <;> omega))
        have K22 : Below w.heap.size w w22 := K21.trans (L.mono K21.size)
        have la : w21.heap.size < w22.heap.size := Nat.lt_of_lt_of_le (by simp <;> omega) hb.size
        have a0 : w22.cell? ⟨w21.heap.size, 0, none⟩ = some (.int .i64 x) := Rg.keep hb (by simp <;> omega) (by go_cell)
        have a1 : w22.cell? ⟨w21.heap.size, 1, none⟩ = some (.int .i64 y) := Rg.keep hb (by simp <;> omega) (by go_cell)
        have t0 := Rg.keep L lt t0
        have t1 := Rg.keep L lt t1
        have t2 := Rg.keep L lt t2
        have t3 := Rg.keep L lt t3
        have t4 := Rg.keep L lt t4
        have lt := Nat.lt_of_lt_of_le lt L.size
        clear hb L
        go_wp2_with fail
        refine (C3.out _).mono ?_
        rintro e w23 ⟨rfl, hb⟩
        have L : Below w22.heap.size w22 w23 := ((Below.refl _ _).alloc (by simp <;> omega) _).trans (hb.mono (by simp <;> omega))
        have K23 : Below w.heap.size w w23 := K22.trans (L.mono K22.size)
        have lb : w22.heap.size < w23.heap.size := Nat.lt_of_lt_of_le (by simp <;> omega) hb.size
        have b0 : w23.cell? ⟨w22.heap.size, 0, none⟩ = some (.int .i64 x) := Rg.keep hb (by simp <;> omega) (by go_cell)
        have b1 : w23.cell? ⟨w22.heap.size, 1, none⟩ = some (.int .i64 y) := Rg.keep hb (by simp <;> omega) (by go_cell)
        have t0 := Rg.keep L lt t0
        have t1 := Rg.keep L lt t1
        have t2 := Rg.keep L lt t2
        have t3 := Rg.keep L lt t3
        have t4 := Rg.keep L lt t4
        have a0 := Rg.keep L la a0
        have a1 := Rg.keep L la a1
        have lt := Nat.lt_of_lt_of_le lt L.size
        have la := Nat.lt_of_lt_of_le la L.size
        clear hb L
        go_wp2_with fail
        refine (C4.out _).mono ?_
        rintro e w24 ⟨rfl, hb⟩
        have L : Below w23.heap.size w23 w24 := ((Below.refl _ _).alloc (by simp <;> omega) _).trans (hb.mono (by simp <;> omega))
        have K24 : Below w.heap.size w w24 := K23.trans (L.mono K23.size)
        have li : w23.heap.size < w24.heap.size := Nat.lt_of_lt_of_le (by simp <;> omega) hb.size
        have i0 : w24.cell? ⟨w23.heap.size, 0, none⟩ = some (.int .i64 x') := Rg.keep hb (by simp <;> omega) (by go_cell)
        have i1 : w24.cell? ⟨w23.heap.size, 1, none⟩ = some (.int .i64 y') := Rg.keep hb (by simp <;> omega) (by go_cell)
        have t0 := Rg.keep L lt t0
        have t1 := Rg.keep L lt t1
        have t2 := Rg.keep L lt t2
        have t3 := Rg.keep L lt t3
        have t4 := Rg.keep L lt t4
        have a0 := Rg.keep L la a0
        have a1 := Rg.keep L la a1
        have b0 := Rg.keep L lb b0
        have b1 := Rg.keep L lb b1
        have lt := Nat.lt_of_lt_of_le lt L.size
        have la := Nat.lt_of_lt_of_le la L.size
        have lb := Nat.lt_of_lt_of_le lb L.size
        clear hb L
        go_wp2_with fail
        obtain ⟨zw25, hzw⟩ : ∃ zw25, zw25 = (w24.alloc (.cells #[.int .i64 x', .int .i64 y'] 25)) := ⟨_, rfl⟩
        have hb : Below (w24.alloc (.cells #[.int .i64 x', .int .i64 y'] 25)).heap.size (w24.alloc (.cells #[.int .i64 x', .int .i64 y'] 25)) zw25 := by rw [hzw]; exact Below.refl _ _
        rw [← hzw]
        clear hzw
        have L : Below w24.heap.size w24 zw25 := ((Below.refl _ _).alloc (by simp <;> omega) _).trans (hb.mono (by simp <;> omega))
        have K25 : Below w.heap.size w zw25 := K24.trans (L.mono K24.size)
        have lj : w24.heap.size < zw25.heap.size := Nat.lt_of_lt_of_le (by simp <;> omega) hb.size
        have j0 : zw25.cell? ⟨w24.heap.size, 0, none⟩ = some (.int .i64 x') := Rg.keep hb (by simp <;> omega) (by go_cell)
        have j1 : zw25.cell? ⟨w24.heap.size, 1, none⟩ = some (.int .i64 y') := Rg.keep hb (by simp <;> omega) (by go_cell)
        have t0 := Rg.keep L lt t0
        have t1 := Rg.keep L lt t1
        have t2 := Rg.keep L lt t2
        have t3 := Rg.keep L lt t3
        have t4 := Rg.keep L lt t4
        have a0 := Rg.keep L la a0
        have a1 := Rg.keep L la a1
        have b0 := Rg.keep L lb b0
        have b1 := Rg.keep L lb b1
        have i0 := Rg.keep L li i0
        have i1 := Rg.keep L li i1
        have lt := Nat.lt_of_lt_of_le lt L.size
        have la := Nat.lt_of_lt_of_le la L.size
        have lb := Nat.lt_of_lt_of_le lb L.size
        have li := Nat.lt_of_lt_of_le li L.size
        clear hb L
        go_wp2_with fail
        have hz : zw25.cell? ⟨w.heap.size, 0, none⟩ = some (.int .i64 K) ∧ zw25.cell? ⟨w.heap.size, 1, none⟩ = some (.int .i64 B) ∧ zw25.cell? ⟨w.heap.size, 2, none⟩ = some (.int .i64 F) ∧ zw25.cell? ⟨w.heap.size, 3, none⟩ = some (.int .i64 R) ∧ zw25.cell? ⟨w.heap.size, 4, none⟩ = some (.int .i64 O) ∧ zw25.cell? ⟨w21.heap.size, 0, none⟩ = some (.int .i64 x) ∧ zw25.cell? ⟨w21.heap.size, 1, none⟩ = some (.int .i64 y) ∧ zw25.cell? ⟨w22.heap.size, 0, none⟩ = some (.int .i64 x) ∧ zw25.cell? ⟨w22.heap.size, 1, none⟩ = some (.int .i64 y) ∧ zw25.cell? ⟨w23.heap.size, 0, none⟩ = some (.int .i64 x') ∧ zw25.cell? ⟨w23.heap.size, 1, none⟩ = some (.int .i64 y') ∧ zw25.cell? ⟨w24.heap.size, 0, none⟩ = some (.int .i64 x') ∧ zw25.cell? ⟨w24.heap.size, 1, none⟩ = some (.int .i64 y') ∧ zw25.heap.size ≤ zw25.heap.size ∧ Below w.heap.size w zw25 := ⟨t0, t1, t2, t3, t4, a0, a1, b0, b1, i0, i1, j0, j1, Nat.le_refl _, K25⟩
        clear t0 t1 t2 t3 t4 a0 a1 b0 b1 i0 i1 j0 j1 K25
        have HS : Hid (∀ u u' : World, (u.cell? ⟨w.heap.size, 0, none⟩ = some (.int .i64 K) ∧ u.cell? ⟨w.heap.size, 1, none⟩ = some (.int .i64 B) ∧ u.cell? ⟨w.heap.size, 2, none⟩ = some (.int .i64 F) ∧ u.cell? ⟨w.heap.size, 3, none⟩ = some (.int .i64 R) ∧ u.cell? ⟨w.heap.size, 4, none⟩ = some (.int .i64 O) ∧ u.cell? ⟨w21.heap.size, 0, none⟩ = some (.int .i64 x) ∧ u.cell? ⟨w21.heap.size, 1, none⟩ = some (.int .i64 y) ∧ u.cell? ⟨w22.heap.size, 0, none⟩ = some (.int .i64 x) ∧ u.cell? ⟨w22.heap.size, 1, none⟩ = some (.int .i64 y) ∧ u.cell? ⟨w23.heap.size, 0, none⟩ = some (.int .i64 x') ∧ u.cell? ⟨w23.heap.size, 1, none⟩ = some (.int .i64 y') ∧ u.cell? ⟨w24.heap.size, 0, none⟩ = some (.int .i64 x') ∧ u.cell? ⟨w24.heap.size, 1, none⟩ = some (.int .i64 y') ∧ zw25.heap.size ≤ u.heap.size ∧ Below w.heap.size w u) → Below u.heap.size u u' → (u'.cell? ⟨w.heap.size, 0, none⟩ = some (.int .i64 K) ∧ u'.cell? ⟨w.heap.size, 1, none⟩ = some (.int .i64 B) ∧ u'.cell? ⟨w.heap.size, 2, none⟩ = some (.int .i64 F) ∧ u'.cell? ⟨w.heap.size, 3, none⟩ = some (.int .i64 R) ∧ u'.cell? ⟨w.heap.size, 4, none⟩ = some (.int .i64 O) ∧ u'.cell? ⟨w21.heap.size, 0, none⟩ = some (.int .i64 x) ∧ u'.cell? ⟨w21.heap.size, 1, none⟩ = some (.int .i64 y) ∧ u'.cell? ⟨w22.heap.size, 0, none⟩ = some (.int .i64 x) ∧ u'.cell? ⟨w22.heap.size, 1, none⟩ = some (.int .i64 y) ∧ u'.cell? ⟨w23.heap.size, 0, none⟩ = some (.int .i64 x') ∧ u'.cell? ⟨w23.heap.size, 1, none⟩ = some (.int .i64 y') ∧ u'.cell? ⟨w24.heap.size, 0, none⟩ = some (.int .i64 x') ∧ u'.cell? ⟨w24.heap.size, 1, none⟩ = some (.int .i64 y') ∧ zw25.heap.size ≤ u'.heap.size ∧ Below w.heap.size w u')) := Lib.hid (fun u u' h hb => ⟨Rg.keep hb (Nat.lt_of_lt_of_le lt h.2.2.2.2.2.2.2.2.2.2.2.2.2.1) h.1, Rg.keep hb (Nat.lt_of_lt_of_le lt h.2.2.2.2.2.2.2.2.2.2.2.2.2.1) h.2.1, Rg.keep hb (Nat.lt_of_lt_of_le lt h.2.2.2.2.2.2.2.2.2.2.2.2.2.1) h.2.2.1, Rg.keep hb (Nat.lt_of_lt_of_le lt h.2.2.2.2.2.2.2.2.2.2.2.2.2.1) h.2.2.2.1, Rg.keep hb (Nat.lt_of_lt_of_le lt h.2.2.2.2.2.2.2.2.2.2.2.2.2.1) h.2.2.2.2.1, Rg.keep hb (Nat.lt_of_lt_of_le la h.2.2.2.2.2.2.2.2.2.2.2.2.2.1) h.2.2.2.2.2.1, Rg.keep hb (Nat.lt_of_lt_of_le la h.2.2.2.2.2.2.2.2.2.2.2.2.2.1) h.2.2.2.2.2.2.1, Rg.keep hb (Nat.lt_of_lt_of_le lb h.2.2.2.2.2.2.2.2.2.2.2.2.2.1) h.2.2.2.2.2.2.2.1, Rg.keep hb (Nat.lt_of_lt_of_le lb h.2.2.2.2.2.2.2.2.2.2.2.2.2.1) h.2.2.2.2.2.2.2.2.1, Rg.keep hb (Nat.lt_of_lt_of_le li h.2.2.2.2.2.2.2.2.2.2.2.2.2.1) h.2.2.2.2.2.2.2.2.2.1, Rg.keep hb (Nat.lt_of_lt_of_le li h.2.2.2.2.2.2.2.2.2.2.2.2.2.1) h.2.2.2.2.2.2.2.2.2.2.1, Rg.keep hb (Nat.lt_of_lt_of_le lj h.2.2.2.2.2.2.2.2.2.2.2.2.2.1) h.2.2.2.2.2.2.2.2.2.2.2.1, Rg.keep hb (Nat.lt_of_lt_of_le lj h.2.2.2.2.2.2.2.2.2.2.2.2.2.1) h.2.2.2.2.2.2.2.2.2.2.2.2.1, Nat.le_trans h.2.2.2.2.2.2.2.2.2.2.2.2.2.1 hb.size, h.2.2.2.2.2.2.2.2.2.2.2.2.2.2.trans (hb.mono h.2.2.2.2.2.2.2.2.2.2.2.2.2.2.size)⟩)
        refine wp_region_held_drew (S := fun w' => w'.cell? ⟨w.heap.size, 0, none⟩ = some (.int .i64 K) ∧ w'.cell? ⟨w.heap.size, 1, none⟩ = some (.int .i64 B) ∧ w'.cell? ⟨w.heap.size, 2, none⟩ = some (.int .i64 F) ∧ w'.cell? ⟨w.heap.size, 3, none⟩ = some (.int .i64 R) ∧ w'.cell? ⟨w.heap.size, 4, none⟩ = some (.int .i64 O) ∧ w'.cell? ⟨w21.heap.size, 0, none⟩ = some (.int .i64 x) ∧ w'.cell? ⟨w21.heap.size, 1, none⟩ = some (.int .i64 y) ∧ w'.cell? ⟨w22.heap.size, 0, none⟩ = some (.int .i64 x) ∧ w'.cell? ⟨w22.heap.size, 1, none⟩ = some (.int .i64 y) ∧ w'.cell? ⟨w23.heap.size, 0, none⟩ = some (.int .i64 x') ∧ w'.cell? ⟨w23.heap.size, 1, none⟩ = some (.int .i64 y') ∧ w'.cell? ⟨w24.heap.size, 0, none⟩ = some (.int .i64 x') ∧ w'.cell? ⟨w24.heap.size, 1, none⟩ = some (.int .i64 y') ∧ zw25.heap.size ≤ w'.heap.size ∧ Below w.heap.size w w') (by kernel_rfl) (HS.out _ _ hz (Below.drew (Below.refl _ _))) (fun hHeld => ?_)
        refine Rg.take (i := 0) (v := ?_) rfl (by kernel_rfl) (by kernel_rfl) (by kernel_rfl) (fun _ _ _ h => h) (Or.inl ⟨by kernel_rfl, ?_⟩) (by assumption) ?_
        rotate_left
        · ((intro w hSw; (try dsimp only at hSw); go_simp) <;> with_reducible rfl)
        try simp only [Act.put, List.setIfInBounds_toArray, List.set_cons_zero, List.set_cons_succ]
        refine Rg.take (i := 1) (v := ?_) rfl (by kernel_rfl) (by kernel_rfl) (by kernel_rfl) (fun _ _ _ h => h) (Or.inl ⟨by kernel_rfl, ?_⟩) (by assumption) ?_
        rotate_left
        · ((intro w hSw; (try dsimp only at hSw); go_simp) <;> with_reducible rfl)
        try simp only [Act.put, List.setIfInBounds_toArray, List.set_cons_zero, List.set_cons_succ]
        refine Rg.take (i := 2) (v := ?_) rfl (by kernel_rfl) (by kernel_rfl) (by kernel_rfl) (fun _ _ _ h => h) (Or.inl ⟨by kernel_rfl, ?_⟩) (by assumption) ?_
        rotate_left
        · ((intro w hSw; (try dsimp only at hSw); go_simp) <;> with_reducible rfl)
        try simp only [Act.put, List.setIfInBounds_toArray, List.set_cons_zero, List.set_cons_succ]
        refine Rg.take (i := 3) (v := ?_) rfl (by kernel_rfl) (by kernel_rfl) (by kernel_rfl) (fun _ _ _ h => h) (Or.inl ⟨by kernel_rfl, ?_⟩) (by assumption) ?_
        rotate_left
        · ((intro w hSw; (try dsimp only at hSw); go_simp) <;> with_reducible rfl)
        try simp only [Act.put, List.setIfInBounds_toArray, List.set_cons_zero, List.set_cons_succ]
        refine Rg.take (i := 4) (v := ?_) rfl (by kernel_rfl) (by kernel_rfl) (by kernel_rfl) (fun _ _ _ h => h) (Or.inl ⟨by kernel_rfl, ?_⟩) (by assumption) ?_
        rotate_left
        · ((intro w hSw; (try dsimp only at hSw); go_simp) <;> with_reducible rfl)
        try simp only [Act.put, List.setIfInBounds_toArray, List.set_cons_zero, List.set_cons_succ]
        refine Rg.take (i := 5) (v := ?_) rfl (by kernel_rfl) (by kernel_rfl) (by kernel_rfl) (fun _ _ _ h => h) (Or.inl ⟨by kernel_rfl, ?_⟩) (by assumption) ?_
        rotate_left
        · ((intro w hSw; (try dsimp only at hSw); go_simp) <;> with_reducible rfl)
        try simp only [Act.put, List.setIfInBounds_toArray, List.set_cons_zero, List.set_cons_succ]
        refine Rg.take (i := 6) (v := ?_) rfl (by kernel_rfl) (by kernel_rfl) (by kernel_rfl) (fun _ _ _ h => h) (Or.inl ⟨by kernel_rfl, ?_⟩) (by assumption) ?_
        rotate_left
        · ((intro w hSw; (try dsimp only at hSw); go_simp) <;> with_reducible rfl)
        try simp only [Act.put, List.setIfInBounds_toArray, List.set_cons_zero, List.set_cons_succ]
        refine Rg.take (i := 7) (v := ?_) rfl (by kernel_rfl) (by kernel_rfl) (by kernel_rfl) (fun _ _ _ h => h) (Or.inl ⟨by kernel_rfl, ?_⟩) (by assumption) ?_
        rotate_left
        · ((intro w hSw; (try dsimp only at hSw); go_simp) <;> with_reducible rfl)
        try simp only [Act.put, List.setIfInBounds_toArray, List.set_cons_zero, List.set_cons_succ]
        refine Rg.take (i := 8) (v := ?_) rfl (by kernel_rfl) (by kernel_rfl) (by kernel_rfl) (fun _ _ _ h => h) (Or.inl ⟨by kernel_rfl, ?_⟩) (by assumption) ?_
        rotate_left
        · ((intro w hSw; (try dsimp only at hSw); go_simp) <;> with_reducible rfl)
        try simp only [Act.put, List.setIfInBounds_toArray, List.set_cons_zero, List.set_cons_succ]
        refine Rg.take (i := 9) (v := ?_) rfl (by kernel_rfl) (by kernel_rfl) (by kernel_rfl) (fun _ _ _ h => h) (Or.inl ⟨by kernel_rfl, ?_⟩) (by assumption) ?_
        rotate_left
        · ((intro w hSw; (try dsimp only at hSw); go_simp) <;> with_reducible rfl)
        try simp only [Act.put, List.setIfInBounds_toArray, List.set_cons_zero, List.set_cons_succ]
        refine Rg.take (i := 10) (v := ?_) rfl (by kernel_rfl) (by kernel_rfl) (by kernel_rfl) (fun _ _ _ h => h) (Or.inl ⟨by kernel_rfl, ?_⟩) (by assumption) ?_
        rotate_left
        · ((intro w hSw; (try dsimp only at hSw); go_simp) <;> with_reducible rfl)
        try simp only [Act.put, List.setIfInBounds_toArray, List.set_cons_zero, List.set_cons_succ]
        refine Rg.take (i := 11) (v := ?_) rfl (by kernel_rfl) (by kernel_rfl) (by kernel_rfl) (fun _ _ _ h => h) (Or.inl ⟨by kernel_rfl, ?_⟩) (by assumption) ?_
        rotate_left
        · ((intro w hSw; (try dsimp only at hSw); go_simp) <;> with_reducible rfl)
        try simp only [Act.put, List.setIfInBounds_toArray, List.set_cons_zero, List.set_cons_succ]
        refine Rg.take (i := 12) (v := ?_) rfl (by kernel_rfl) (by kernel_rfl) (by kernel_rfl) (fun _ _ _ h => h) (Or.inl ⟨by kernel_rfl, ?_⟩) (by assumption) ?_
        rotate_left
        · ((intro w hSw; (try dsimp only at hSw); go_simp) <;> with_reducible rfl)
        try simp only [Act.put, List.setIfInBounds_toArray, List.set_cons_zero, List.set_cons_succ]
        refine Rg.take (i := 13) (v := ?_) rfl (by kernel_rfl) (by kernel_rfl) (by kernel_rfl) (fun _ _ _ h => h) (Or.inl ⟨by kernel_rfl, ?_⟩) (by assumption) ?_
        rotate_left
        · ((intro w hSw; (try dsimp only at hSw); go_simp) <;> with_reducible rfl)
        try simp only [Act.put, List.setIfInBounds_toArray, List.set_cons_zero, List.set_cons_succ]
        refine Rg.take (i := 14) (v := ?_) rfl (by kernel_rfl) (by kernel_rfl) (by kernel_rfl) (fun _ _ _ h => h) (Or.inl ⟨by kernel_rfl, ?_⟩) (by assumption) ?_
        rotate_left
        · ((intro w hSw; (try dsimp only at hSw); go_simp) <;> with_reducible rfl)
        try simp only [Act.put, List.setIfInBounds_toArray, List.set_cons_zero, List.set_cons_succ]
        refine Rg.take (i := 15) (v := ?_) rfl (by kernel_rfl) (by kernel_rfl) (by kernel_rfl) (fun _ _ _ h => h) (Or.inl ⟨by kernel_rfl, ?_⟩) (by assumption) ?_
        rotate_left
        · ((intro w hSw; (try dsimp only at hSw); go_simp) <;> with_reducible rfl)
        try simp only [Act.put, List.setIfInBounds_toArray, List.set_cons_zero, List.set_cons_succ]
        refine Rg.take (i := 16) (v := ?_) rfl (by kernel_rfl) (by kernel_rfl) (by kernel_rfl) (fun _ _ _ h => h) (Or.inl ⟨by kernel_rfl, ?_⟩) (by assumption) ?_
        rotate_left
        · ((intro w hSw; (try dsimp only at hSw); go_simp) <;> with_reducible rfl)
        try simp only [Act.put, List.setIfInBounds_toArray, List.set_cons_zero, List.set_cons_succ]
        refine Rg.take (i := 17) (v := ?_) rfl (by kernel_rfl) (by kernel_rfl) (by kernel_rfl) (fun _ _ _ h => h) (Or.inl ⟨by kernel_rfl, ?_⟩) (by assumption) ?_
        rotate_left
        · ((intro w hSw; (try dsimp only at hSw); go_simp) <;> with_reducible rfl)
        try simp only [Act.put, List.setIfInBounds_toArray, List.set_cons_zero, List.set_cons_succ]
        refine Rg.take (i := 18) (v := ?_) rfl (by kernel_rfl) (by kernel_rfl) (by kernel_rfl) (fun _ _ _ h => h) (Or.inl ⟨by kernel_rfl, ?_⟩) (by assumption) ?_
        rotate_left
        · ((intro w hSw; (try dsimp only at hSw); go_simp) <;> with_reducible rfl)
        try simp only [Act.put, List.setIfInBounds_toArray, List.set_cons_zero, List.set_cons_succ]
        refine Rg.take (i := 19) (v := ?_) rfl (by kernel_rfl) (by kernel_rfl) (by kernel_rfl) (fun _ _ _ h => h) (Or.inl ⟨by kernel_rfl, ?_⟩) (by assumption) ?_
        rotate_left
        · ((intro w hSw; (try dsimp only at hSw); go_simp) <;> with_reducible rfl)
        try simp only [Act.put, List.setIfInBounds_toArray, List.set_cons_zero, List.set_cons_succ]
        refine Rg.take (i := 20) (v := ?_) rfl (by kernel_rfl) (by kernel_rfl) (by kernel_rfl) (fun _ _ _ h => h) (Or.inl ⟨by kernel_rfl, ?_⟩) (by assumption) ?_
        rotate_left
        · ((intro w hSw; (try dsimp only at hSw); go_simp) <;> with_reducible rfl)
        try simp only [Act.put, List.setIfInBounds_toArray, List.set_cons_zero, List.set_cons_succ]
        refine Rg.take (i := 22) (v := ?_) rfl (by kernel_rfl) (by kernel_rfl) (by kernel_rfl) (fun _ _ _ h => h) (Or.inl ⟨by kernel_rfl, ?_⟩) (by assumption) ?_
        rotate_left
        · ((intro w hSw; (try dsimp only at hSw); go_simp) <;> with_reducible rfl)
        try simp only [Act.put, List.setIfInBounds_toArray, List.set_cons_zero, List.set_cons_succ]
        refine Rg.take (i := 23) (v := ?_) rfl (by kernel_rfl) (by kernel_rfl) (by kernel_rfl) (fun _ _ _ h => h) (Or.inl ⟨by kernel_rfl, ?_⟩) (by assumption) ?_
        rotate_left
        · ((intro w hSw; (try dsimp only at hSw); go_simp) <;> with_reducible rfl)
        try simp only [Act.put, List.setIfInBounds_toArray, List.set_cons_zero, List.set_cons_succ]
        refine Rg.one (i := 21) (by kernel_rfl) rfl (fun KK hK => ?_)
        rw [if_pos (by kernel_rfl)]
        go_simp
        ((with_reducible refine (C5.out _).mono ?_); rintro e u ⟨rfl, hb⟩)
        have hNew := HS.out _ _ hHeld hb
        first | (refine hK.out _ _ hNew (fun _ => ?_)) | (go_wp2_with fail; refine hK.out _ _ hNew (fun _ => ?_))
        clear hK KK hHeld hb
        have hHeld := hNew
        clear hNew
        refine Rg.one (i := 24) (by kernel_rfl) rfl (fun KK hK => ?_)
        rw [if_pos (by kernel_rfl)]
        go_simp
        ((with_reducible refine (C6.out _).mono ?_); rintro e u ⟨rfl, hb⟩)
        have hNew := HS.out _ _ hHeld hb
        first | (refine hK.out _ _ hNew (fun _ => ?_)) | (go_wp2_with fail; refine hK.out _ _ hNew (fun _ => ?_))
        clear hK KK hHeld hb
        have hHeld := hNew
        clear hNew
        refine Rg.take (i := 25) (v := ?_) rfl (by kernel_rfl) (by kernel_rfl) (by kernel_rfl) (fun _ _ _ h => h) (Or.inl ⟨by kernel_rfl, ?_⟩) (by assumption) ?_
        rotate_left
        · ((intro w hSw; (try dsimp only at hSw); go_simp) <;> with_reducible rfl)
        try simp only [Act.put, List.setIfInBounds_toArray, List.set_cons_zero, List.set_cons_succ]
        refine Rg.take (i := 26) (v := ?_) rfl (by kernel_rfl) (by kernel_rfl) (by kernel_rfl) (fun _ _ _ h => h) (Or.inl ⟨by kernel_rfl, ?_⟩) (by assumption) ?_
        rotate_left
        · ((intro w hSw; (try dsimp only at hSw); go_simp) <;> with_reducible rfl)
        try simp only [Act.put, List.setIfInBounds_toArray, List.set_cons_zero, List.set_cons_succ]
        refine Rg.take (i := 27) (v := ?_) rfl (by kernel_rfl) (by kernel_rfl) (by kernel_rfl) (fun _ _ _ h => h) (Or.inl ⟨by kernel_rfl, ?_⟩) (by assumption) ?_
        rotate_left
        · ((intro w hSw; (try dsimp only at hSw); go_simp) <;> with_reducible rfl)
        try simp only [Act.put, List.setIfInBounds_toArray, List.set_cons_zero, List.set_cons_succ]
        refine Rg.one (i := 28) (by kernel_rfl) rfl (fun KK hK => ?_)
        rw [if_pos (by kernel_rfl)]
        go_simp
        ((with_reducible refine (EX.out _).mono ?_); rintro e u ⟨rfl, hb⟩)
        have hNew := HS.out _ _ hHeld hb
        first | (refine hK.out _ _ hNew (fun _ => ?_)) | (go_wp2_with fail; refine hK.out _ _ hNew (fun _ => ?_))
        clear hK KK hHeld hb
        have hHeld := hNew
        clear hNew
        refine Rg.take (i := 29) (v := ?_) rfl (by kernel_rfl) (by kernel_rfl) (by kernel_rfl) (fun _ _ _ h => h) (Or.inl ⟨by kernel_rfl, ?_⟩) (by assumption) ?_
        rotate_left
        · ((intro w hSw; (try dsimp only at hSw); go_simp) <;> with_reducible rfl)
        try simp only [Act.put, List.setIfInBounds_toArray, List.set_cons_zero, List.set_cons_succ]
        refine Rg.take (i := 30) (v := ?_) rfl (by kernel_rfl) (by kernel_rfl) (by kernel_rfl) (fun _ _ _ h => h) (Or.inl ⟨by kernel_rfl, ?_⟩) (by assumption) ?_
        rotate_left
        · ((intro w hSw; (try dsimp only at hSw); go_simp) <;> with_reducible rfl)
        try simp only [Act.put, List.setIfInBounds_toArray, List.set_cons_zero, List.set_cons_succ]
        refine wpAnyH_done (by kernel_rfl) ?_ _
        obtain ⟨t0, t1, t2, t3, t4, a0, a1, b0, b1, i0, i1, j0, j1, hsz, K26⟩ := hHeld
        have lt := Nat.lt_of_lt_of_le lt hsz
        have la := Nat.lt_of_lt_of_le la hsz
        have lb := Nat.lt_of_lt_of_le lb hsz
        have li := Nat.lt_of_lt_of_le li hsz
        have lj := Nat.lt_of_lt_of_le lj hsz
        clear hsz hz
        go_wp2
        go_ret
        exact ⟨rfl, K26⟩
end Go.Proofs.YtikcinkbkakkmaaGreatDoor.Va
