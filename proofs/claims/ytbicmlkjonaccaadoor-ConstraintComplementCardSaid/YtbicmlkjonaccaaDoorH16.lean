/- The reference: Negate where an element cannot be negated. -/
import Derived.Test.YtbicmlkjonaccaaDoorE40
import Derived.Test.YtbicmlkjonaccaaDoorE41
import Derived.Test.YtbicmlkjonaccaaDoorH12
import Derived.OneCell
import Derived.Test.YtbicmlkjonaccaaDoorH3

namespace Go.Proofs.YtbicmlkjonaccaaDoor.Ln
open Go.ChangeShapes Go.WideShapes Go.ChangeAt Go.RowKit
open Go.Proofs.YtbicmlkjonaccaaDoor.Nm
set_option linter.unusedVariables false
set_option linter.unusedSimpArgs false
set_option maxRecDepth 8000

set_option maxRecDepth 100000 in
set_option maxHeartbeats 8000000 in
theorem rneg_min (k : Int) (p : Option Addr) (xs : List Mo) (c : Nat) (eq : Bool) (w : World) (hn : xs.length ≤ 1000) (RA : Hid (SlM w p xs)) (RS : Hid (∀ i, i < xs.length → (xs.getD i mo0).1.size ≤ maxLen ∧ -9223372036854775808 ≤ (xs.getD i mo0).2 ∧ (xs.getD i mo0).2 ≤ 9223372036854775807)) (k1 : -9223372036854775808 ≤ k) (k2 : k ≤ 9223372036854775807) (hok : okL xs = true) (hall : xs.all nmin = false) : Calls Tryd.prog 32 #[Cv k p xs.length c eq] w (CsW ([], 3) w) := by
  have VL := Lib.hid fun w h => cval2 k p xs c eq w (by unfold maxLen; omega) h (Lib.hid fun i hi => (RS.out i hi).1)
  have B0 : Below w.heap.size w (w.alloc (Obj.cells #[Value.int .i64 k, Value.slice p xs.length c, Value.bool eq] 36)) := (Below.refl _ _).alloc (Nat.le_refl _) _
  have RA2 := Lib.hid (SlM.keep B0 RA.out)
  have hv : vL xs = 0 := by unfold vL; rw [hok]; rfl
  rw [hv] at VL
  have HALL := Lib.hid hall
  have hw : IntKind.i64.wrap (-1 - k) = -1 - k := by rw [IntKind.wrap_i64]; omega
  have hw2 : wrap64 (-1 - k) = -1 - k := by unfold wrap64; omega
  have hnt := not64 k1 k2
  obtain ⟨i0, hi, hz0, hz1, hz2⟩ := info_parts infoMo
  have HI9 := Lib.hid (And.intro hi (And.intro hz0 (And.intro hz1 hz2)))
  unfold Cv at *
  obtain ⟨n, hnn⟩ : ∃ n, xs.length = n := ⟨_, rfl⟩
  have HN := Lib.hid hnn
  rw [hnn] at VL hn B0 RA2 ⊢
  clear hok hv hall hnn hi hz0 hz1 hz2
  go_enter Tryd.func32, Tryd.ntmps32
  go_wp2_with (first | (go_at_call 25; (with_reducible refine (VL.out _ RA2).mono ?_); rintro e w1 ⟨rfl, hb1⟩; have hc1 := (Rg.bcell hb1).1; have hf1 := (Rg.bcell hb1).2; have z1_0 : w.heap.size < w1.heap.size := (by have hzz := hb1.size; (try simp at hzz); omega); have K1 : Below w.heap.size w w1 := Below.trans (b := _) (by (repeat' (first | (with_reducible exact Below.refl _ _) | (with_reducible refine Below.alloc ?_ ?_ _) | (with_reducible refine Below.setCell ?_ ?_ _) | (with_reducible refine below_drewN ?_ _) | (simp; done) | omega | (simp; omega)))) (hb1.mono (by have hzz := hb1.size; (try simp at hzz); first | omega | (simp; done) | (simp; omega)))))
  have lgl : w.heap.size < w1.heap.size := z1_0
  have X0 : w1.cell? ⟨w.heap.size, 0, none⟩ = some (.int .i64 k) := (hc1 _ _ (by simp)).trans (by go_cell)
  have X1 : w1.cell? ⟨w.heap.size, 1, none⟩ = some (.slice p n c) := (hc1 _ _ (by simp)).trans (by go_cell)
  have X2 : w1.cell? ⟨w.heap.size, 2, none⟩ = some (.bool eq) := (hc1 _ _ (by simp)).trans (by go_cell)
  have Y0 : w1.frozen? ⟨w.heap.size, 0, none⟩ = false := (hf1 _ _ (by simp)).trans (by simp only [frozen?_alloc_cells]; exact Rg.notFrozen (Nat.le_refl _))
  have Y1 : w1.frozen? ⟨w.heap.size, 1, none⟩ = false := (hf1 _ _ (by simp)).trans (by simp only [frozen?_alloc_cells]; exact Rg.notFrozen (Nat.le_refl _))
  have Y2 : w1.frozen? ⟨w.heap.size, 2, none⟩ = false := (hf1 _ _ (by simp)).trans (by simp only [frozen?_alloc_cells]; exact Rg.notFrozen (Nat.le_refl _))
  obtain ⟨gl, hgl⟩ : ∃ gl, w1.heap.size = gl := ⟨_, rfl⟩
  have F1 : Cl ((gl, 0, .int .i64 (-1 - k)) :: (gl, 1, .slice none 0 0) :: (gl, 2, .bool false) :: [(w.heap.size, 0, .int .i64 k), (w.heap.size, 1, .slice p n c), (w.heap.size, 2, .bool eq)]) (w1.alloc (Obj.cells #[Value.int .i64 (-1 - k), Value.slice none 0 0, Value.bool false] 36)) := by
    have h := (Cl.cons X0 Y0 (Cl.cons X1 Y1 (Cl.cons X2 Y2 (Cl.nil w1)))).below ((Below.refl _ _).alloc (Nat.le_refl _) (Obj.cells #[Value.int .i64 (-1 - k), Value.slice none 0 0, Value.bool false] 36))
    rw [← hgl]
    exact Cl.cons (by go_cell) (by simp only [frozen?_alloc_cells]; exact Rg.notFrozen (Nat.le_refl _)) (Cl.cons (by go_cell) (by simp only [frozen?_alloc_cells]; exact Rg.notFrozen (Nat.le_refl _)) (Cl.cons (by go_cell) (by simp only [frozen?_alloc_cells]; exact Rg.notFrozen (Nat.le_refl _)) h))
  have F1h := Lib.hid F1
  have KB0 : Hid (Below w.heap.size w (w1.alloc (Obj.cells #[Value.int .i64 (-1 - k), Value.slice none 0 0, Value.bool false] 36))) := Lib.hid (K1.alloc K1.size _)
  have hlt0 : gl < (w1.alloc (Obj.cells #[Value.int .i64 (-1 - k), Value.slice none 0 0, Value.bool false] 36)).heap.size := by simp; omega
  have lw : w.heap.size < gl := by omega
  rw [hgl]
  clear X0 X1 X2 Y0 Y1 Y2 F1 lgl hb1 hc1 hf1 z1_0 K1 VL B0 RA2
  go_loopw [6] (fun i wr => ∃ (m : Nat) (vl : Value), i = .int .i64 m ∧ m ≤ n ∧ gl < wr.heap.size ∧ Hid (Cl ((gl, 0, .int .i64 (-1 - k)) :: (gl, 1, vl) :: (gl, 2, .bool false) :: [(w.heap.size, 0, .int .i64 k), (w.heap.size, 1, .slice p n c), (w.heap.size, 2, .bool eq)]) wr) ∧ Hid (Below w.heap.size w wr) ∧ Hid (wr.ownsRow (gl + 1) 59 2 vl m (moCs ((xs.map ngm).take m))) ∧ Hid ((xs.take m).all nmin = true)) (fun i _ => n - (intOf i).toNat)
  case atStart => exact ⟨0, .slice none 0 0, rfl, Nat.zero_le _, hlt0, F1h, KB0, Lib.hid (World.ownsRow_nil _ _ _ _), Lib.hid rfl⟩
  case round =>
    obtain ⟨m, vl, rfl, hm, hlt9, hF, hB, hO, hNE⟩ := hrel
    clear F1h KB0 hlt0
    have mm : (0 : Int) ≤ m := by omega
    have d0 := hF.out.head
    have d1 := hF.out.tail.head
    have d2 := hF.out.tail.tail.head
    have d3 := hF.out.tail.tail.tail.head
    have d4 := hF.out.tail.tail.tail.tail.head
    have d5 := hF.out.tail.tail.tail.tail.tail.head
    have lb9 : w.heap.size < wr.heap.size := by omega
    by_cases hlt : m < n
    · obtain ⟨b, o, rfl, e0, e1⟩ := RA.out m (by rw [HN.out]; exact hlt)
      have m2 : (m : Int) < n := by omega
      have hbw : b < w.heap.size := World.block_lt_of_cell? _ _ e0
      replace e0 := Rg.keep hB.out hbw e0
      replace e1 := Rg.keep hB.out hbw e1
      have hbr : b < wr.heap.size := World.block_lt_of_cell? _ _ e0
      have htk := take_step (xs := xs) (j := m) (by rw [HN.out]; exact hlt)
      have hmem := getD_mem (xs := xs) (j := m) (by rw [HN.out]; exact hlt)
      obtain ⟨-, y0, y1⟩ := RS.out m (by rw [HN.out]; exact hlt)
      obtain ⟨x, hx⟩ : ∃ x, xs.getD m mo0 = x := ⟨_, rfl⟩
      rw [hx] at e0 e1 y0 y1 htk hmem
      obtain ⟨z, a⟩ := x
      dsimp only at e0 e1 y0 y1
      have HTK := Lib.hid htk
      have HMEM := Lib.hid hmem
      clear hx htk hmem
      by_cases ha : a = -9223372036854775808
      · have ha1 : (a == -9223372036854775808) = true := by simpa using ha
        have KE := hB.out
        clear ha hNE hF hB hO
        go_wp2
        go_ret2
        exact CsW.nil KE
      · have ha1 : (a == -9223372036854775808) = false := by simpa using ha
        have wn : IntKind.i64.wrap (-a) = -a := by rw [IntKind.wrap_i64]; omega
        have wn2 : wrap64 (-a) = -a := by unfold wrap64; omega
        have NE2 : Hid ((xs.take (m + 1)).all nmin = true) := Lib.hid (by rw [HTK.out, List.all_append, hNE.out]; simp [nmin]; exact ha)
        have HT2 : Hid (moCs ((xs.map ngm).take (m + 1)) = moCs ((xs.map ngm).take m) ++ [.string z, .int .i64 (-a)]) := Lib.hid (by rw [← List.map_take, ← List.map_take, HTK.out, List.map_append, List.map_cons, List.map_nil, moCs_snoc]; rfl)
        have hz10 : wr.drew.cell? ⟨gl, 1, none⟩ = some (vl) ∧ wr.drew.cell? ⟨w.heap.size, 1, none⟩ = some (.slice (some ⟨b, o, none⟩) n c) ∧ wr.drew.cell? ⟨b, o + m * 2, none⟩ = some (.string z) ∧ wr.drew.cell? ⟨b, o + m * 2 + 1, none⟩ = some (.int .i64 a) ∧ Below wr.heap.size wr wr.drew := ⟨d1, d4, e0, e1, (Below.refl _ _).drew⟩
        have HS2 : Hid (∀ u u' : World, (u.cell? ⟨gl, 1, none⟩ = some (vl) ∧ u.cell? ⟨w.heap.size, 1, none⟩ = some (.slice (some ⟨b, o, none⟩) n c) ∧ u.cell? ⟨b, o + m * 2, none⟩ = some (.string z) ∧ u.cell? ⟨b, o + m * 2 + 1, none⟩ = some (.int .i64 a) ∧ Below wr.heap.size wr u) → Below u.heap.size u u' → (u'.cell? ⟨gl, 1, none⟩ = some (vl) ∧ u'.cell? ⟨w.heap.size, 1, none⟩ = some (.slice (some ⟨b, o, none⟩) n c) ∧ u'.cell? ⟨b, o + m * 2, none⟩ = some (.string z) ∧ u'.cell? ⟨b, o + m * 2 + 1, none⟩ = some (.int .i64 a) ∧ Below wr.heap.size wr u')) := Lib.hid (fun u u' h hb => ⟨Rg.keep hb (World.block_lt_of_cell? _ _ h.1) h.1, Rg.keep hb (World.block_lt_of_cell? _ _ h.2.1) h.2.1, Rg.keep hb (World.block_lt_of_cell? _ _ h.2.2.1) h.2.2.1, Rg.keep hb (World.block_lt_of_cell? _ _ h.2.2.2.1) h.2.2.2.1, h.2.2.2.2.trans (hb.mono h.2.2.2.2.size)⟩)
        clear ha hNE
        go_wp2_with fail
        refine Rk.begin (S := fun wS => wS.cell? ⟨gl, 1, none⟩ = some (vl) ∧ wS.cell? ⟨w.heap.size, 1, none⟩ = some (.slice (some ⟨b, o, none⟩) n c) ∧ wS.cell? ⟨b, o + m * 2, none⟩ = some (.string z) ∧ wS.cell? ⟨b, o + m * 2 + 1, none⟩ = some (.int .i64 a) ∧ Below wr.heap.size wr wS) 20 (by kernel_rfl) hz10 (fun hHeld => ?_)
        refine Rk.takeP (i := 0) (v := ?_) rfl (by kernel_rfl) (by kernel_rfl) (by kernel_rfl) (by kernel_rfl) (fun _ _ _ h => h) (Or.inl ⟨by kernel_rfl, ?_⟩) (by assumption) ?_
        rotate_left
        · ((intro w hSw; go_simp) <;> with_reducible rfl)
        try simp only [Act.put, List.setIfInBounds_toArray, List.set_cons_zero, List.set_cons_succ]
        refine Rk.takeP (i := 1) (v := ?_) rfl (by kernel_rfl) (by kernel_rfl) (by kernel_rfl) (by kernel_rfl) (fun _ _ _ h => h) (Or.inl ⟨by kernel_rfl, ?_⟩) (by assumption) ?_
        rotate_left
        · ((intro w hSw; go_simp) <;> with_reducible rfl)
        try simp only [Act.put, List.setIfInBounds_toArray, List.set_cons_zero, List.set_cons_succ]
        refine Rk.take [20] (i := 2) (v := ?_) rfl (by kernel_rfl) (by kernel_rfl) (by kernel_rfl) (by kernel_rfl) (by kernel_rfl) (fun _ _ _ h => h) (Or.inl ⟨by kernel_rfl, ?_⟩) (by assumption) ?_
        rotate_left
        · ((intro w hSw; (try dsimp only at hSw); go_simp) <;> with_reducible rfl)
        try simp only [Act.put, List.setIfInBounds_toArray, List.set_cons_zero, List.set_cons_succ]
        refine Rk.takeP (i := 3) (v := ?_) rfl (by kernel_rfl) (by kernel_rfl) (by kernel_rfl) (by kernel_rfl) (fun _ _ _ h => h) (Or.inl ⟨by kernel_rfl, ?_⟩) (by assumption) ?_
        rotate_left
        · ((intro w hSw; go_simp) <;> with_reducible rfl)
        try simp only [Act.put, List.setIfInBounds_toArray, List.set_cons_zero, List.set_cons_succ]
        refine Rk.takeP (i := 4) (v := ?_) rfl (by kernel_rfl) (by kernel_rfl) (by kernel_rfl) (by kernel_rfl) (fun _ _ _ h => h) (Or.inl ⟨by kernel_rfl, ?_⟩) (by assumption) ?_
        rotate_left
        · ((intro w hSw; go_simp) <;> with_reducible rfl)
        try simp only [Act.put, List.setIfInBounds_toArray, List.set_cons_zero, List.set_cons_succ]
        refine Rk.take [7, 8, 9, 18, 19, 20] (i := 5) (v := ?_) rfl (by kernel_rfl) (by kernel_rfl) (by kernel_rfl) (by kernel_rfl) (by kernel_rfl) (fun _ _ _ h => h) (Or.inl ⟨by kernel_rfl, ?_⟩) (by assumption) ?_
        rotate_left
        · ((intro w hSw; (try dsimp only at hSw); go_simp) <;> with_reducible rfl)
        try simp only [Act.put, List.setIfInBounds_toArray, List.set_cons_zero, List.set_cons_succ]
        refine Rk.takeP (i := 6) (v := ?_) rfl (by kernel_rfl) (by kernel_rfl) (by kernel_rfl) (by kernel_rfl) (fun _ _ _ h => h) (Or.inl ⟨by kernel_rfl, ?_⟩) (by assumption) ?_
        rotate_left
        · ((intro w hSw; go_simp) <;> with_reducible rfl)
        try simp only [Act.put, List.setIfInBounds_toArray, List.set_cons_zero, List.set_cons_succ]
        refine Rk.takeP (i := 7) (v := ?_) rfl (by kernel_rfl) (by kernel_rfl) (by kernel_rfl) (by kernel_rfl) (fun _ _ _ h => h) (Or.inl ⟨by kernel_rfl, ?_⟩) (by assumption) ?_
        rotate_left
        · ((intro w hSw; go_simp) <;> with_reducible rfl)
        try simp only [Act.put, List.setIfInBounds_toArray, List.set_cons_zero, List.set_cons_succ]
        refine Rk.takeP (i := 8) (v := ?_) rfl (by kernel_rfl) (by kernel_rfl) (by kernel_rfl) (by kernel_rfl) (fun _ _ _ h => h) (Or.inl ⟨by kernel_rfl, ?_⟩) (by assumption) ?_
        rotate_left
        · ((intro w hSw; go_simp) <;> with_reducible rfl)
        try simp only [Act.put, List.setIfInBounds_toArray, List.set_cons_zero, List.set_cons_succ]
        refine Rk.take [18, 19, 20] (i := 9) (v := ?_) rfl (by kernel_rfl) (by kernel_rfl) (by kernel_rfl) (by kernel_rfl) (by kernel_rfl) (fun _ _ _ h => h) (Or.inl ⟨by kernel_rfl, ?_⟩) (by assumption) ?_
        rotate_left
        · ((intro w hSw; (try dsimp only at hSw); go_simp) <;> with_reducible rfl)
        try simp only [Act.put, List.setIfInBounds_toArray, List.set_cons_zero, List.set_cons_succ]
        refine Rk.takeP (i := 10) (v := ?_) rfl (by kernel_rfl) (by kernel_rfl) (by kernel_rfl) (by kernel_rfl) (fun _ _ _ h => h) (Or.inl ⟨by kernel_rfl, ?_⟩) (by assumption) ?_
        rotate_left
        · ((intro w hSw; go_simp) <;> with_reducible rfl)
        try simp only [Act.put, List.setIfInBounds_toArray, List.set_cons_zero, List.set_cons_succ]
        refine Rk.takeP (i := 11) (v := ?_) rfl (by kernel_rfl) (by kernel_rfl) (by kernel_rfl) (by kernel_rfl) (fun _ _ _ h => h) (Or.inl ⟨by kernel_rfl, ?_⟩) (by assumption) ?_
        rotate_left
        · ((intro w hSw; go_simp) <;> with_reducible rfl)
        try simp only [Act.put, List.setIfInBounds_toArray, List.set_cons_zero, List.set_cons_succ]
        refine Rk.take [14, 15, 16, 17, 18, 19, 20] (i := 12) (v := ?_) rfl (by kernel_rfl) (by kernel_rfl) (by kernel_rfl) (by kernel_rfl) (by kernel_rfl) (fun _ _ _ h => h) (Or.inl ⟨by kernel_rfl, ?_⟩) (by assumption) ?_
        rotate_left
        · ((intro w hSw; (try dsimp only at hSw); go_simp) <;> with_reducible rfl)
        try simp only [Act.put, List.setIfInBounds_toArray, List.set_cons_zero, List.set_cons_succ]
        refine Rk.takeP (i := 13) (v := ?_) rfl (by kernel_rfl) (by kernel_rfl) (by kernel_rfl) (by kernel_rfl) (fun _ _ _ h => h) (Or.inl ⟨by kernel_rfl, ?_⟩) (by assumption) ?_
        rotate_left
        · ((intro w hSw; go_simp) <;> with_reducible rfl)
        try simp only [Act.put, List.setIfInBounds_toArray, List.set_cons_zero, List.set_cons_succ]
        refine Rk.takeP (i := 14) (v := ?_) rfl (by kernel_rfl) (by kernel_rfl) (by kernel_rfl) (by kernel_rfl) (fun _ _ _ h => h) (Or.inl ⟨by kernel_rfl, ?_⟩) (by assumption) ?_
        rotate_left
        · ((intro w hSw; go_simp) <;> with_reducible rfl)
        try simp only [Act.put, List.setIfInBounds_toArray, List.set_cons_zero, List.set_cons_succ]
        refine Rk.takeP (i := 15) (v := ?_) rfl (by kernel_rfl) (by kernel_rfl) (by kernel_rfl) (by kernel_rfl) (fun _ _ _ h => h) (Or.inl ⟨by kernel_rfl, ?_⟩) (by assumption) ?_
        rotate_left
        · ((intro w hSw; go_simp) <;> with_reducible rfl)
        try simp only [Act.put, List.setIfInBounds_toArray, List.set_cons_zero, List.set_cons_succ]
        refine Rk.take [17, 18, 19, 20] (i := 16) (v := ?_) rfl (by kernel_rfl) (by kernel_rfl) (by kernel_rfl) (by kernel_rfl) (by kernel_rfl) (fun _ _ _ h => h) (Or.inl ⟨by kernel_rfl, ?_⟩) (by assumption) ?_
        rotate_left
        · ((intro w hSw; (try dsimp only at hSw); go_simp) <;> with_reducible rfl)
        try simp only [Act.put, List.setIfInBounds_toArray, List.set_cons_zero, List.set_cons_succ]
        refine Rk.takeP (i := 17) (v := ?_) rfl (by kernel_rfl) (by kernel_rfl) (by kernel_rfl) (by kernel_rfl) (fun _ _ _ h => h) (Or.inl ⟨by kernel_rfl, ?_⟩) (by assumption) ?_
        rotate_left
        · ((intro w hSw; go_simp) <;> with_reducible rfl)
        try simp only [Act.put, List.setIfInBounds_toArray, List.set_cons_zero, List.set_cons_succ]
        refine Rk.takeP (i := 18) (v := ?_) rfl (by kernel_rfl) (by kernel_rfl) (by kernel_rfl) (by kernel_rfl) (fun _ _ _ h => h) (Or.inl ⟨by kernel_rfl, ?_⟩) (by assumption) ?_
        rotate_left
        · ((intro w hSw; go_simp) <;> with_reducible rfl)
        try simp only [Act.put, List.setIfInBounds_toArray, List.set_cons_zero, List.set_cons_succ]
        refine Rk.one (i := 19) (by kernel_rfl) rfl (fun KK hK => ?_)
        rw [if_pos (by kernel_rfl)]
        go_simp
        refine hK.out _ _ (HS2.out _ _ hHeld ((Below.refl _ _).alloc (Nat.le_refl _) (Obj.cells #[Value.string z, Value.int .i64 (-a)] 59))) (fun hHeld => ?_)
        clear hK KK
        refine Rk.tail [20, 21, 22, 23] [_, _, _, _] (by kernel_rfl) (by kernel_rfl) rfl (by decide) ?_
        obtain ⟨hi, hz0, hz1, hz2⟩ := HI9.out
        have BZ : Below wr.heap.size wr (wr.alloc (Obj.cells #[Value.string z, Value.int .i64 (-a)] 59)).drew := ((Below.refl _ _).alloc (Nat.le_refl _) (Obj.cells #[Value.string z, Value.int .i64 (-a)] 59)).drew
        have FU := Lib.hid (hF.out.below BZ)
        have OU : Hid ((wr.alloc (Obj.cells #[Value.string z, Value.int .i64 (-a)] 59)).drew.ownsRow (gl + 1) 59 2 vl m (moCs ((xs.map ngm).take m))) := Lib.hid ((hO.out.alloc (Obj.cells #[Value.string z, Value.int .i64 (-a)] 59)).drew)
        have KU := Lib.hid (hB.out.trans (BZ.mono hB.out.size))
        clear hHeld hz10 HS2 d0 d1 d2 d3 d4 d5 e0 e1 hF hO hB BZ
        go_wp2_with (at_builtin; refine wpList_append_own _ rfl _ _ 22 rfl (gl + 1) 59 i0 (.agg #[.string ⟨#[]⟩, .int .i64 0]) 2 24 Tryd.underlying22 hi hz0 hz1 hz2 rfl (by decide) _ _ _ rfl OU.out ⟨wr.heap.size, 0, none⟩ 1 1 [.string z, .int .i64 (-a)] rfl rfl ?_ ?_ ?_ ?_ ?_ ?_)
        · intro q x hx
          rcases q with _ | _ | q
          · cases hx; go_cell
          · cases hx; go_cell
          · simp at hx
        · intro x hx
          simp at hx
          rcases hx with rfl | rfl <;> rfl
        · unfold maxLen; omega
        · omega
        · simp; omega
        intro v' w4 hown' hgrow _
        have F4 := FU.out.own OU.out hgrow (by simp only [List.forall_mem_cons]; simp; omega)
        have K4 := KU.out.grown hgrow KU.out.size (fun q hq => by have := (OU.out.lt q hq).1; omega)
        have hown2 : Hid (w4.ownsRow (gl + 1) 59 2 v' (m + 1) (moCs ((xs.map ngm).take (m + 1)))) := Lib.hid (by
          rw [HT2.out]
          exact hown')
        obtain ⟨q', c', rfl⟩ := own_slice hown2.out
        clear hown' hgrow FU OU KU hi hz0 hz1 hz2
        have e0 := F4.head
        have ze0 := F4.headF
        have e1 := F4.tail.head
        have ze1 := F4.tail.headF
        have e2 := F4.tail.tail.head
        have ze2 := F4.tail.tail.headF
        have F5 := F4.tail.tail.tail
        go_wp2
        go_roundw
        case rel =>
          refine ⟨m + 1, .slice q' (m + 1) c', by go_num, by omega, by rw [World.size_setCell]; exact World.block_lt_of_cell? _ _ e0, Lib.hid (Cl.cons (by go_cell) (by simp [World.frozen?_setCell, ze0]) (Cl.cons (by go_cell) (by simp [World.frozen?_setCell, ze1]) (Cl.cons (by go_cell) (by simp [World.frozen?_setCell, ze2]) (F5.far (by simp only [List.forall_mem_cons]; simp; omega))))), Lib.hid (K4.setCell (p := ⟨gl, 1, none⟩) (by show w.heap.size ≤ gl; omega) _), Lib.hid (own_set hown2.out (by show gl < gl + 1; omega)), NE2⟩
        case measure => simp [intOf]; omega
    · obtain rfl : m = n := by omega
      have hO2 := hO.out
      rw [List.take_of_length_le (by rw [List.length_map, HN.out]; exact Nat.le_refl _)] at hO2
      obtain ⟨q, d, hvl, hS⟩ := own_sl' (l := xs.map ngm) hO2 (by rw [List.length_map, HN.out])
      subst hvl
      have HS9 := Lib.hid hS
      have HLM : Hid ((xs.map ngm).length = m) := Lib.hid (by rw [List.length_map, HN.out])
      have hNE9 := hNE
      exfalso
      have h1 := hNE9.out
      rw [List.take_of_length_le (by rw [HN.out]; exact Nat.le_refl _), HALL.out] at h1
      cases h1
end Go.Proofs.YtbicmlkjonaccaaDoor.Ln


namespace Go.Proofs.YtbicmlkjonaccaaDoor.Ln
open Go.ChangeShapes Go.WideShapes Go.ChangeAt Go.RowKit
open Go.Proofs.YtbicmlkjonaccaaDoor.Nm
set_option linter.unusedVariables false
set_option linter.unusedSimpArgs false
set_option maxRecDepth 8000

theorem neg2 (k : Int) (p : Option Addr) (xs : List Mo) (c : Nat) (eq : Bool) (w : World) (hn : xs.length ≤ 1000) (RA : Hid (SlM w p xs)) (RS : Hid (∀ i, i < xs.length → (xs.getD i mo0).1.size ≤ maxLen ∧ -9223372036854775808 ≤ (xs.getD i mo0).2 ∧ (xs.getD i mo0).2 ≤ 9223372036854775807)) (k1 : -9223372036854775808 ≤ k) (k2 : k ≤ 9223372036854775807) : Calls Tryd.prog 32 #[Cv k p xs.length c eq] w (CsW (ngR k xs eq) w) := by
  unfold ngR
  cases hok : okL xs
  · rw [if_pos rfl]
    exact rneg_bad k p xs c eq w hn RA RS k1 k2 hok
  · rw [if_neg (by decide)]
    cases hm : xs.all nmin
    · rw [if_pos rfl]
      exact rneg_min k p xs c eq w hn RA RS k1 k2 hok hm
    · rw [if_neg (by decide)]
      cases eq
      · rw [if_pos rfl]
        exact rneg_ge k p xs c w hn RA RS k1 k2 hok hm
      · rw [if_neg (by decide)]
        exact rneg_eq k p xs c w hn RA RS k1 k2 hok hm _ rfl
end Go.Proofs.YtbicmlkjonaccaaDoor.Ln


namespace Go.Proofs.YtbicmlkjonaccaaDoor.Ln
open Go.ChangeShapes Go.WideShapes Go.ChangeAt Go.RowKit
open Go.Proofs.YtbicmlkjonaccaaDoor.Nm
set_option linter.unusedVariables false
set_option linter.unusedSimpArgs false
set_option maxRecDepth 8000

theorem info36 : (Tryd.prog.info? 36).map (fun i => (i.zero, i.size, i.bytes)) = some (some (.agg #[.int .i64 0, .slice none 0 0, .bool false]), 3, 40) := by kernel_rfl
/-- Rows of monomials stay. -/
def K59 (w w' : World) : Prop := ∀ (b : Nat) (cur : Array Value), w.heap[b]? = some (.cells cur 59 (0, 0)) → w'.heap[b]? = some (.cells cur 59 (0, 0))
theorem K59.trans {a b c : World} (h : K59 a b) (g : K59 b c) : K59 a c := fun k cur hk => g k cur (h k cur hk)
theorem hlt_of {w : World} {b : Nat} {o : Obj} (h : w.heap[b]? = some o) : b < w.heap.size := by
  rcases Nat.lt_or_ge b w.heap.size with h1 | h1
  · exact h1
  · rw [Array.getElem?_eq_none h1] at h; cases h
theorem K59.below {w w' : World} (h : Below w.heap.size w w') : K59 w w' := fun b cur hb => (h.block b (hlt_of hb)).trans hb
theorem K59.set {w : World} {g o : Nat} {cs : Array Value} {t : TypeId} {fr : Nat × Nat} (v : Value) (hg : w.heap[g]? = some (.cells cs t fr)) (ht : t ≠ 59) : K59 w (w.setCell ⟨g, o, none⟩ v) := fun b cur hb => by
  rw [Below.heap_setCell _ _ _ _ (fun e => by dsimp only at e; subst e; rw [hg] at hb; cases hb; exact ht rfl)]
  exact hb
/-- A row of another kind grows. -/
theorem K59.own {w w' : World} {base n sz : Nat} {e : TypeId} {vl : Value} {cs : List Value} (h : w.ownsRow base e sz vl n cs) (he : e ≠ 59) (hg : w.grownBy w' vl.ownBlock) : K59 w w' := fun b cur hb => by
  rw [hg.block b (hlt_of hb) (fun hh => ?_)]
  · exact hb
  · rcases h.2 with ⟨hv, _⟩ | ⟨g, cap, c2, hv, _, h3, _⟩
    · rw [hv] at hh; simp [Value.ownBlock] at hh
    · rw [hv] at hh
      simp only [Value.ownBlock, Option.some.injEq] at hh
      subst hh
      rw [h3] at hb
      cases hb
      exact he rfl
/-- A slice of monomials in a row of its kind. -/
def SlK (w : World) (q : Option Addr) (ys : List Mo) : Prop := SlM w q ys ∧ ∀ b o, q = some ⟨b, o, none⟩ → ys ≠ [] → ∃ cur : Array Value, w.heap[b]? = some (.cells cur 59 (0, 0))
theorem SlK.on {w w' : World} {q : Option Addr} {ys : List Mo} (h : SlK w q ys) (hk : K59 w w') : SlK w' q ys := by
  have key : ∀ i, i < ys.length → ∃ b o, q = some ⟨b, o, none⟩ ∧ w'.heap[b]? = w.heap[b]? := fun i hi => by
    obtain ⟨b, o, hq, _⟩ := h.1 i hi
    obtain ⟨cur, hc⟩ := h.2 b o hq (fun e => by rw [e] at hi; simp at hi)
    exact ⟨b, o, hq, (hk b cur hc).trans hc.symm⟩
  refine ⟨fun i hi => ?_, fun b o hq hne => ?_⟩
  · obtain ⟨b, o, hq, e⟩ := key i hi
    obtain ⟨b', o', hq', c0, c1⟩ := h.1 i hi
    rw [hq] at hq'
    cases hq'
    exact ⟨b, o, hq, by rw [World.cell?_of_block (a := ⟨b, o + i * 2, none⟩) e]; exact c0, by rw [World.cell?_of_block (a := ⟨b, o + i * 2 + 1, none⟩) e]; exact c1⟩
  · obtain ⟨cur, hc⟩ := h.2 b o hq hne
    exact ⟨cur, hk b cur hc⟩
/-- What the closure of Normalize leaves of a constraint that is kept: one element more in the row that the variable at gt holds. -/
def NP (K : Int) (ys : List Mo) (gt m : Nat) (cs : List Value) (w w' : World) : Prop := ∃ vl' q d, w'.heap[gt]? = some (.cells #[vl'] 30 (0, 0)) ∧ w'.heap[gt + 1]? = some (.cells #[.bool true] 4 (0, 0)) ∧
  w'.ownsRow (gt + 2) 36 3 vl' (m + 1) (cs ++ [.int .i64 K, .slice q ys.length d, .bool false]) ∧ SlK w' q ys ∧ Below gt w w' ∧ K59 w w'
set_option maxRecDepth 100000 in
set_option maxHeartbeats 4000000 in
theorem nclo (k K : Int) (p : Option Addr) (xs ys : List Mo) (c gt m : Nat) (vl : Value) (cs : List Value) (w : World) (hm : m ≤ 1000) (T : Hid (∀ w', SlM w' p xs → Calls Tryd.prog 28 #[Cv k p xs.length c false] w' (TR (K, ys, false, 0, 0) w'))) (RA : Hid (SlM w p xs))
    (ht : w.heap[gt]? = some (.cells #[vl] 30 (0, 0))) (hp : w.heap[gt + 1]? = some (.cells #[.bool true] 4 (0, 0))) (hO : Hid (w.ownsRow (gt + 2) 36 3 vl m cs)) :
    Calls Tryd.prog 70 #[Cv k p xs.length c false, .pointer (some ⟨gt, 0, none⟩), .pointer (some ⟨gt + 1, 0, none⟩)] w fun e w' => e = .returned (.int .i64 0) ∧ NP K ys gt m cs w w' := by
  obtain ⟨i0, hi, hz0, hz1, hz2⟩ := info_parts info36
  have ct : w.cell? ⟨gt, 0, none⟩ = some vl := by rw [Lib.cell_of_heap ht]; rfl
  have cp : w.cell? ⟨gt + 1, 0, none⟩ = some (.bool true) := by rw [Lib.cell_of_heap hp]; rfl
  have zt := Lib.frozen_of_heap ht 0
  have zp := Lib.frozen_of_heap hp 0
  have lt : gt + 1 < w.heap.size := World.block_lt_of_cell? _ _ cp
  have B0 : Below w.heap.size w (w.alloc (Obj.cells #[Value.int .i64 k, Value.slice p xs.length c, Value.bool false] 36)) := (Below.refl _ _).alloc (Nat.le_refl _) _
  have F0 : Cl [(gt, 0, vl), (gt + 1, 0, .bool true)] (w.alloc (Obj.cells #[Value.int .i64 k, Value.slice p xs.length c, Value.bool false] 36)) := (Cl.cons ct zt (Cl.cons cp zp (Cl.nil _))).below B0
  have O0 := hO.out.alloc (Obj.cells #[Value.int .i64 k, Value.slice p xs.length c, Value.bool false] 36)
  have T2 := Lib.hid fun w h => T.out w h
  have HH := Lib.hid (And.intro ht hp)
  unfold Cv at *
  clear ht hp ct cp zt zp
  go_enter Tryd.func70, Tryd.ntmps70
  go_wp2_with (first | (go_at_call 28; (with_reducible refine (T2.out _ (SlM.keep B0 RA.out)).mono ?_); rintro e w1 ⟨q, d, rfl, S1, hfr, hb⟩; unfold Cv; dsimp only at S1 hfr ⊢; have F1 := F0.below hb; have O1 := own_belowE O0 hb; have s1 := hb.size; have x0 := F1.head; have zx0 := F1.headF; have x1 := F1.tail.head; have zx1 := F1.tail.headF; have lg1 : gt < w1.heap.size := World.block_lt_of_cell? _ _ x0; have lg2 : gt + 1 < w1.heap.size := World.block_lt_of_cell? _ _ x1) | (at_builtin; refine wpList_append_own _ rfl _ _ 30 rfl (gt + 2) 36 i0 (.agg #[.int .i64 0, .slice none 0 0, .bool false]) 3 40 Tryd.underlying30 hi hz0 hz1 hz2 rfl (by decide) _ _ _ rfl ((O1.alloc _).alloc _) ⟨w1.heap.size + 1, 0, none⟩ 1 1 [.int .i64 K, .slice q ys.length d, .bool false] rfl rfl ?_ ?_ ?_ ?_ ?_ ?_))
  · intro q x hx
    rcases q with _ | _ | _ | q
    · cases hx; go_cell
    · cases hx; go_cell
    · cases hx; go_cell
    · simp at hx
  · intro x hx
    simp at hx
    rcases hx with rfl | rfl | rfl <;> rfl
  · unfold maxLen; omega
  · omega
  · simp at s1; simp; omega
  intro v' w4 hown' hgrow _
  have B1 : Below w.heap.size w w1 := B0.trans (hb.mono B0.size)
  have B3 : Below w1.heap.size w1 ((w1.alloc (Obj.cells #[Value.int .i64 K, Value.slice q ys.length d, Value.bool false] 36)).alloc (Obj.cells #[Value.int .i64 K, Value.slice q ys.length d, Value.bool false] 36)) := ((Below.refl _ _).alloc (Nat.le_refl _) _).alloc (by simp) _
  have SK1 : SlK w1 q ys := ⟨S1, hfr⟩
  have OB := (O1.alloc (Obj.cells #[Value.int .i64 K, Value.slice q ys.length d, Value.bool false] 36)).alloc (Obj.cells #[Value.int .i64 K, Value.slice q ys.length d, Value.bool false] 36)
  have hblk : ∀ b, b < w.heap.size → b < gt + 2 → w4.heap[b]? = w.heap[b]? := fun b hb1 hb2 => by
    rw [hgrow.block b (by have := B3.size; have := B1.size; omega) (fun hh => by have := (OB.lt b hh.symm).1; omega), B3.block b (by have := B1.size; omega), B1.block b hb1]
  have ht4 := (hblk gt (by omega) (by omega)).trans HH.out.1
  have hp4 := (hblk (gt + 1) (by omega) (by omega)).trans HH.out.2
  have k4 : K59 w w4 := ((K59.below B1).trans (K59.below B3)).trans (K59.own OB (by decide) hgrow)
  have k14 : K59 w1 w4 := (K59.below B3).trans (K59.own OB (by decide) hgrow)
  have bel4 : Below gt w w4 := ((B1.mono (by omega)).trans (B3.mono (by have := B1.size; omega))).grown hgrow (by have := B1.size; have := B3.size; omega) (fun k hk => by have := (OB.lt k hk).1; omega)
  have y0 : w4.cell? ⟨gt, 0, none⟩ = some vl := by rw [Lib.cell_of_heap ht4]; rfl
  have zy0 := Lib.frozen_of_heap ht4 0
  have y1 : w4.cell? ⟨gt + 1, 0, none⟩ = some (.bool true) := by rw [Lib.cell_of_heap hp4]; rfl
  have zy1 := Lib.frozen_of_heap hp4 0
  have l4 : gt + 1 < w4.heap.size := World.block_lt_of_cell? _ _ y1
  have hov := Lib.hid hown'
  clear hown' hgrow OB B3 B1 O1 F1 O0 F0 B0 hblk x0 zx0 x1 zx1 hi hz0 hz1 hz2
  obtain ⟨q', c', rfl⟩ := own_slice hov.out
  have h1 := one_setCell (u := .slice q' (m + 1) c') ht4
  have h2 : (w4.setCell ⟨gt, 0, none⟩ (.slice q' (m + 1) c')).heap[gt + 1]? = some (.cells #[.bool true] 4 (0, 0)) := (Below.heap_setCell _ _ _ _ (by dsimp only; omega)).trans hp4
  have ks := (K59.set (o := 0) (.slice q' (m + 1) c') ht4 (by decide)).trans (K59.set (o := 0) (.bool true) h2 (by decide))
  go_wp2
  go_ret
  refine ⟨rfl, .slice q' (m + 1) c', q, d, (Below.heap_setCell _ _ _ _ (by dsimp only; omega)).trans h1, one_setCell h2, own_set (own_set hov.out (by dsimp only; omega)) (by dsimp only; omega), SK1.on (k14.trans ks), (bel4.setCell (p := ⟨gt, 0, none⟩) (by dsimp only; omega) _).setCell (p := ⟨gt + 1, 0, none⟩) (by dsimp only; omega) _, k4.trans ks⟩
end Go.Proofs.YtbicmlkjonaccaaDoor.Ln
