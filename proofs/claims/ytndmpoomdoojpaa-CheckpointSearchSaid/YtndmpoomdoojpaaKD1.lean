/- Whether two states are equal. -/
import Derived.Test.YtndmpoomdoojpaaRows
import Derived.WalkKit
import Derived.ProofKit
import Derived.OpenShut
import Derived.WalkLawsBesides
import Derived.WalkSpells
import Derived.Outline
import Derived.Handy
import Derived.IntWalk
import Derived.Deep.QuietTactic
import Derived.BigQuiet
import Derived.Lib.Hide
import Derived.Maps.AppendAt
import Derived.Deep.Cut
import Derived.Test.YtndmpoomdoojpaaRk
import Derived.Test.YtndmpoomdoojpaaK12
import Derived.Test.YtndmpoomdoojpaaKB5
import Derived.Test.YtndmpoomdoojpaaKS2
namespace Go.Proofs.Ytndmpoomdoojpaa.Ck.Sr
open Go.ChangeShapes Go.WideShapes Go.ChangeAt Go.RowKit Go.Proofs.Ytndmpoomdoojpaa.Ck Go.Proofs.Ytndmpoomdoojpaa.Ck.Bf
set_option linter.unusedVariables false


theorem own_sl {w : World} {base n : Nat} {v : Value} {xs : List Value} (h : w.ownsRow base 3 1 v n xs) : ∃ q c, v = .slice q n c ∧ (0 < n → ∃ g, q = some ⟨g, 0, none⟩) := by
  rcases h.2 with ⟨rfl, h0⟩ | ⟨g, cap, cur, rfl, -⟩
  · exact ⟨none, 0, by rw [h0], fun h => by omega⟩
  · exact ⟨_, _, rfl, fun _ => ⟨_, rfl⟩⟩
theorem own_sl_get {w : World} {base n c g : Nat} {zs : List Int} (h : w.ownsRow base 3 1 (.slice (some ⟨g, 0, none⟩) n c) n (zs.map (Value.int .i64))) {k : Nat} (hk : k < n) : w.cell? ⟨g, k, none⟩ = some (.int .i64 (zs.getD k 0)) := by
  have hl : zs.length = n := by have := h.1; rw [List.length_map] at this; omega
  rw [h.cellAt k (by omega), List.getElem?_map, List.getD_eq_getElem?_getD, List.getElem?_eq_getElem (by omega)]
  rfl
theorem own_low {w w' : World} {base : Nat} {e : TypeId} {size : Nat} {v : Value} {n : Nat} {xs : List Value} (h : w.ownsRow base e size v n xs) (hb : Below w.heap.size w w') : w'.ownsRow base e size v n xs := by
  obtain ⟨hl, h0 | ⟨g, cap, cur, hv, hb', hh, r⟩⟩ := h
  · exact ⟨hl, .inl h0⟩
  · have hg : g < w.heap.size := by
      rcases Nat.lt_or_ge g w.heap.size with h1 | h1
      · exact h1
      · rw [Array.getElem?_eq_none h1] at hh; cases hh
    exact ⟨hl, .inr ⟨g, cap, cur, hv, hb', (hb.block g hg).trans hh, r⟩⟩
theorem ext_slots {s t : List Int} {S : Nat} (hs : s.length = S) (ht : t.length = S) (h : ∀ j, j < S → s.getD j 0 = t.getD j 0) : s = t := by
  refine List.ext_getElem (by omega) fun i hi hj => ?_
  have e := h i (by omega)
  rw [List.getD_eq_getElem?_getD, List.getD_eq_getElem?_getD, List.getElem?_eq_getElem hi, List.getElem?_eq_getElem hj] at e
  exact e

set_option maxRecDepth 100000 in
set_option maxHeartbeats 2000000 in
theorem same1 (a l b k : Nat) (s t : List Int) (u v : Value) (S base : Nat) (w : World) (hS : S ≤ 64) (hU : Hid (w.ownsRow base 3 1 u S (s.map (Value.int .i64)))) (hV : Hid (w.ownsRow base 3 1 v S (t.map (Value.int .i64)))) :
    Calls Try.prog 70 #[rv (a : Int) (l : Int) u, rv (b : Int) (k : Int) v] w fun e w' => e = .returned (.bool (decide (((a, l, s) : Sd) = (b, k, t)))) ∧ Below w.heap.size w w' := by
  have hsl : s.length = S := by have := hU.out.1; rw [List.length_map] at this; omega
  have htl : t.length = S := by have := hV.out.1; rw [List.length_map] at this; omega
  obtain ⟨q, cu, rfl, hq⟩ := own_sl hU.out
  obtain ⟨p, ct, rfl, hp⟩ := own_sl hV.out
  obtain ⟨B, hB⟩ : ∃ B, decide (((a, l, s) : Sd) = (b, k, t)) = B := ⟨_, rfl⟩
  rw [hB]
  have HB := Lib.hid hB
  have HQ := Lib.hid hq
  have HP := Lib.hid hp
  have HSL := Lib.hid hsl
  have HTL := Lib.hid htl
  have W2 := Lib.hid (((Below.refl w.heap.size w).alloc (Nat.le_refl _) (Obj.cells #[Value.int .i64 (a : Int), Value.int .i64 (l : Int), Value.slice q S cu] 76)).alloc (by simp) (Obj.cells #[Value.int .i64 (b : Int), Value.int .i64 (k : Int), Value.slice p S ct] 76))
  unfold rv
  clear hB hq hp hsl htl
  by_cases h1 : a = b
  · have g1 : ((a : Int) == (b : Int)) = true := by rw [beq_iff_eq]; omega
    have g1' : ((a : Int) != (b : Int)) = false := by rw [bne_eq_false_iff_eq]; omega
    by_cases h2 : l = k
    · have g2 : ((l : Int) == (k : Int)) = true := by rw [beq_iff_eq]; omega
      have g2' : ((l : Int) != (k : Int)) = false := by rw [bne_eq_false_iff_eq]; omega
      have hd1 : ¬ ¬ (a : Int) = b := by omega
      have hd2 : ¬ ¬ (l : Int) = k := by omega
      subst h1 h2
      go_enter Try.func70, Try.ntmps70
      go_upto_region 4 with fail
      have HB0 : Hid (Below w.heap.size w ((w.alloc (Obj.cells #[Value.int .i64 (a : Int), Value.int .i64 (l : Int), Value.slice q S cu] 76)).alloc (Obj.cells #[Value.int .i64 (a : Int), Value.int .i64 (l : Int), Value.slice p S ct] 76)) ∧ ((w.alloc (Obj.cells #[Value.int .i64 (a : Int), Value.int .i64 (l : Int), Value.slice q S cu] 76)).alloc (Obj.cells #[Value.int .i64 (a : Int), Value.int .i64 (l : Int), Value.slice p S ct] 76)).cell? ⟨w.heap.size, 2, none⟩ = some (.slice q S cu) ∧ ((w.alloc (Obj.cells #[Value.int .i64 (a : Int), Value.int .i64 (l : Int), Value.slice q S cu] 76)).alloc (Obj.cells #[Value.int .i64 (a : Int), Value.int .i64 (l : Int), Value.slice p S ct] 76)).cell? ⟨w.heap.size + 1, 2, none⟩ = some (.slice p S ct)) := Lib.hid ⟨W2.out, by go_cell, by go_cell⟩
      generalize ((w.alloc (Obj.cells #[Value.int .i64 (a : Int), Value.int .i64 (l : Int), Value.slice q S cu] 76)).alloc (Obj.cells #[Value.int .i64 (a : Int), Value.int .i64 (l : Int), Value.slice p S ct] 76)) = w2 at *
      clear W2
      go_loopw [5] (fun iv wr => ∃ i : Nat, iv = .int .i64 (i : Int) ∧ i ≤ S ∧ Hid (∀ j, j < i → s.getD j 0 = t.getD j 0) ∧ Hid (Below w.heap.size w wr ∧ wr.cell? ⟨w.heap.size, 2, none⟩ = some (.slice q S cu) ∧ wr.cell? ⟨w.heap.size + 1, 2, none⟩ = some (.slice p S ct))) (fun iv _ => S - (intOf iv).toNat)
      case atStart => exact ⟨0, rfl, Nat.zero_le _, Lib.hid (fun j hj => absurd hj (Nat.not_lt_zero _)), HB0⟩
      case round =>
        clear HB0
        obtain ⟨i, rfl, hi, HE, HJ⟩ := hrel
        obtain ⟨KJ, b2, d2⟩ := HJ.out
        have ltb := World.block_lt_of_cell? _ _ b2
        have ltd := World.block_lt_of_cell? _ _ d2
        by_cases hin : i < S
        · have i2 : (i : Int) < S := by omega
          have i0 : (0 : Int) ≤ i := by omega
          obtain ⟨gu, rfl⟩ := HQ.out (by omega)
          obtain ⟨gt, rfl⟩ := HP.out (by omega)
          have x1 := own_sl_get hU.out hin
          have x2 := own_sl_get hV.out hin
          have v1 := Rg.keep KJ (World.block_lt_of_cell? _ _ x1) x1
          have v2 := Rg.keep KJ (World.block_lt_of_cell? _ _ x2) x2
          obtain ⟨z1, hz1⟩ : ∃ z, s.getD i 0 = z := ⟨_, rfl⟩
          obtain ⟨z2, hz2⟩ : ∃ z, t.getD i 0 = z := ⟨_, rfl⟩
          rw [hz1] at v1
          rw [hz2] at v2
          have HZ1 := Lib.hid hz1
          have HZ2 := Lib.hid hz2
          clear x1 x2 hz1 hz2
          go_upto_region 6 with fail
          refine Rk.begin (S := fun wS => wS.cell? ⟨w.heap.size, 2, none⟩ = some (.slice (some ⟨gu, 0, none⟩) S cu) ∧ wS.cell? ⟨w.heap.size + 1, 2, none⟩ = some (.slice (some ⟨gt, 0, none⟩) S ct) ∧ wS.cell? ⟨gu, i, none⟩ = some (.int .i64 z1) ∧ wS.cell? ⟨gt, i, none⟩ = some (.int .i64 z2) ∧ Below wr.heap.size wr wS) 10 (by kernel_rfl) ⟨b2, d2, v1, v2, Below.drew (Below.refl _ _)⟩ (fun hHeld => ?_)
          refine Rk.takeP (i := 0) (v := ?_) rfl (by kernel_rfl) (by kernel_rfl) (by kernel_rfl) (by kernel_rfl) (fun _ _ _ h => h) (Or.inl ⟨by kernel_rfl, ?_⟩) (by assumption) ?_
          rotate_left
          · ((intro w hSw; go_simp) <;> with_reducible rfl)
          try simp only [Act.put, List.setIfInBounds_toArray, List.set_cons_zero, List.set_cons_succ]
          refine Rk.take [3, 4, 10] (i := 1) (v := ?_) rfl (by kernel_rfl) (by kernel_rfl) (by kernel_rfl) (by kernel_rfl) (by kernel_rfl) (fun _ _ _ h => h) (Or.inl ⟨by kernel_rfl, ?_⟩) (by assumption) ?_
          rotate_left
          · ((intro w hSw; (try dsimp only at hSw); go_simp) <;> with_reducible rfl)
          try simp only [Act.put, List.setIfInBounds_toArray, List.set_cons_zero, List.set_cons_succ]
          refine Rk.takeP (i := 2) (v := ?_) rfl (by kernel_rfl) (by kernel_rfl) (by kernel_rfl) (by kernel_rfl) (fun _ _ _ h => h) (Or.inl ⟨by kernel_rfl, ?_⟩) (by assumption) ?_
          rotate_left
          · ((intro w hSw; go_simp) <;> with_reducible rfl)
          try simp only [Act.put, List.setIfInBounds_toArray, List.set_cons_zero, List.set_cons_succ]
          refine Rk.takeP (i := 3) (v := ?_) rfl (by kernel_rfl) (by kernel_rfl) (by kernel_rfl) (by kernel_rfl) (fun _ _ _ h => h) (Or.inl ⟨by kernel_rfl, ?_⟩) (by assumption) ?_
          rotate_left
          · ((intro w hSw; go_simp) <;> with_reducible rfl)
          try simp only [Act.put, List.setIfInBounds_toArray, List.set_cons_zero, List.set_cons_succ]
          refine Rk.take [10] (i := 4) (v := ?_) rfl (by kernel_rfl) (by kernel_rfl) (by kernel_rfl) (by kernel_rfl) (by kernel_rfl) (fun _ _ _ h => h) (Or.inl ⟨by kernel_rfl, ?_⟩) (by assumption) ?_
          rotate_left
          · ((intro w hSw; (try dsimp only at hSw); go_simp) <;> with_reducible rfl)
          try simp only [Act.put, List.setIfInBounds_toArray, List.set_cons_zero, List.set_cons_succ]
          refine Rk.takeP (i := 5) (v := ?_) rfl (by kernel_rfl) (by kernel_rfl) (by kernel_rfl) (by kernel_rfl) (fun _ _ _ h => h) (Or.inl ⟨by kernel_rfl, ?_⟩) (by assumption) ?_
          rotate_left
          · ((intro w hSw; go_simp) <;> with_reducible rfl)
          try simp only [Act.put, List.setIfInBounds_toArray, List.set_cons_zero, List.set_cons_succ]
          refine Rk.take [8, 9, 10] (i := 6) (v := ?_) rfl (by kernel_rfl) (by kernel_rfl) (by kernel_rfl) (by kernel_rfl) (by kernel_rfl) (fun _ _ _ h => h) (Or.inl ⟨by kernel_rfl, ?_⟩) (by assumption) ?_
          rotate_left
          · ((intro w hSw; (try dsimp only at hSw); go_simp) <;> with_reducible rfl)
          try simp only [Act.put, List.setIfInBounds_toArray, List.set_cons_zero, List.set_cons_succ]
          refine Rk.takeP (i := 7) (v := ?_) rfl (by kernel_rfl) (by kernel_rfl) (by kernel_rfl) (by kernel_rfl) (fun _ _ _ h => h) (Or.inl ⟨by kernel_rfl, ?_⟩) (by assumption) ?_
          rotate_left
          · ((intro w hSw; go_simp) <;> with_reducible rfl)
          try simp only [Act.put, List.setIfInBounds_toArray, List.set_cons_zero, List.set_cons_succ]
          refine Rk.takeP (i := 8) (v := ?_) rfl (by kernel_rfl) (by kernel_rfl) (by kernel_rfl) (by kernel_rfl) (fun _ _ _ h => h) (Or.inl ⟨by kernel_rfl, ?_⟩) (by assumption) ?_
          rotate_left
          · ((intro w hSw; go_simp) <;> with_reducible rfl)
          try simp only [Act.put, List.setIfInBounds_toArray, List.set_cons_zero, List.set_cons_succ]
          refine Rk.take [10] (i := 9) (v := ?_) rfl (by kernel_rfl) (by kernel_rfl) (by kernel_rfl) (by kernel_rfl) (by kernel_rfl) (fun _ _ _ h => h) (Or.inl ⟨by kernel_rfl, ?_⟩) (by assumption) ?_
          rotate_left
          · ((intro w hSw; (try dsimp only at hSw); go_simp) <;> with_reducible rfl)
          try simp only [Act.put, List.setIfInBounds_toArray, List.set_cons_zero, List.set_cons_succ]
          refine Rk.tail [10] [_] (by kernel_rfl) (by kernel_rfl) rfl (by decide) ?_
          have v9 := hHeld.2.2.2.2
          obtain ⟨b2', d2', -⟩ := hHeld
          by_cases hzz : z1 = z2
          · have gz : (z1 == z2) = true := by rw [beq_iff_eq]; exact hzz
            have gz' : (z1 != z2) = false := by rw [bne_eq_false_iff_eq]; exact hzz
            have HE2 : Hid (∀ j, j < i + 1 → s.getD j 0 = t.getD j 0) := Lib.hid fun j hj => by
              by_cases e : j = i
              · subst e; rw [HZ1.out, HZ2.out, hzz]
              · exact HE.out j (by omega)
            subst hzz
            go_wp2_with fail
            go_roundw
            case rel => exact ⟨i + 1, by simp, by omega, HE2, Lib.hid ⟨KJ.trans (v9.mono KJ.size), b2', d2'⟩⟩
            case measure => simp [intOf]; omega
          · have gz : (z1 == z2) = false := by rw [beq_eq_false_iff_ne]; exact hzz
            have gz' : (z1 != z2) = true := by rw [bne_iff_ne]; exact hzz
            have hBf : B = false := by rw [← HB.out]; exact decide_eq_false fun e => hzz (by rw [← HZ1.out, ← HZ2.out]; cases e; rfl)
            subst hBf
            clear hzz
            go_wp2_with fail
            go_ret
            exact ⟨rfl, KJ.trans (v9.mono KJ.size)⟩
        · obtain rfl : i = S := by omega
          have gN : decide ((i : Int) < i) = false := by simp
          have hBf : B = true := by
            rw [← HB.out]
            refine decide_eq_true ?_
            rw [ext_slots HSL.out HTL.out HE.out]
          subst hBf
          go_wp2_with fail
          go_ret
          exact ⟨rfl, KJ⟩
    · have g2 : ((l : Int) == (k : Int)) = false := by rw [beq_eq_false_iff_ne]; omega
      have g2' : ((l : Int) != (k : Int)) = true := by rw [bne_iff_ne]; omega
      have hBf : B = false := by rw [← HB.out]; exact decide_eq_false fun e => h2 (by cases e; rfl)
      subst hBf
      clear h2
      subst h1
      go_enter Try.func70, Try.ntmps70
      go_wp2_with fail
      go_ret
      exact ⟨rfl, W2.out⟩
  · have g1 : ((a : Int) == (b : Int)) = false := by rw [beq_eq_false_iff_ne]; omega
    have g1' : ((a : Int) != (b : Int)) = true := by rw [bne_iff_ne]; omega
    have hBf : B = false := by rw [← HB.out]; exact decide_eq_false fun e => h1 (by cases e; rfl)
    subst hBf
    clear h1
    go_enter Try.func70, Try.ntmps70
    go_wp2_with fail
    go_ret
    exact ⟨rfl, W2.out⟩
end Go.Proofs.Ytndmpoomdoojpaa.Ck.Sr
