/- The reference: Negate of an equation. -/
import Derived.Test.YtbicmlkjonaccaaDoorE40

namespace Go.Proofs.YtbicmlkjonaccaaDoor.Ln
open Go.ChangeShapes Go.WideShapes Go.ChangeAt Go.RowKit
open Go.Proofs.YtbicmlkjonaccaaDoor.Nm
set_option linter.unusedVariables false
set_option linter.unusedSimpArgs false
set_option maxRecDepth 8000

set_option maxRecDepth 100000 in
set_option maxHeartbeats 8000000 in
theorem rneg_eq (k : Int) (p : Option Addr) (xs : List Mo) (c : Nat) (w : World) (hn : xs.length ≤ 1000) (RA : Hid (SlM w p xs)) (RS : Hid (∀ i, i < xs.length → (xs.getD i mo0).1.size ≤ maxLen ∧ -9223372036854775808 ≤ (xs.getD i mo0).2 ∧ (xs.getD i mo0).2 ≤ 9223372036854775807)) (k1 : -9223372036854775808 ≤ k) (k2 : k ≤ 9223372036854775807) (hok : okL xs = true) (hall : xs.all nmin = true) (RR : List Qm × Int) (hrr : (if k = -9223372036854775808 then ([], 3) else ([(k - 1, xs, false), (-1 - k, xs.map ngm, false)], 0)) = RR) : Calls Tryd.prog 32 #[Cv k p xs.length c true] w (CsW (RR) w) := by
  have VL := Lib.hid fun w h => cval2 k p xs c true w (by unfold maxLen; omega) h (Lib.hid fun i hi => (RS.out i hi).1)
  have B0 : Below w.heap.size w (w.alloc (Obj.cells #[Value.int .i64 k, Value.slice p xs.length c, Value.bool true] 36)) := (Below.refl _ _).alloc (Nat.le_refl _) _
  have RA2 := Lib.hid (SlM.keep B0 RA.out)
  have hv : vL xs = 0 := by unfold vL; rw [hok]; rfl
  rw [hv] at VL
  have HALL := Lib.hid (List.all_eq_true.1 hall)
  have hw : IntKind.i64.wrap (-1 - k) = -1 - k := by rw [IntKind.wrap_i64]; omega
  have hw2 : wrap64 (-1 - k) = -1 - k := by unfold wrap64; omega
  have hnt := not64 k1 k2
  obtain ⟨i0, hi, hz0, hz1, hz2⟩ := info_parts infoMo
  have HI9 := Lib.hid (And.intro hi (And.intro hz0 (And.intro hz1 hz2)))
  unfold Cv at *
  obtain ⟨n, hnn⟩ : ∃ n, xs.length = n := ⟨_, rfl⟩
  have HN := Lib.hid hnn
  rw [hnn] at VL hn B0 RA2 ⊢
  have HRR := Lib.hid hrr
  clear hrr hok hv hall hnn hi hz0 hz1 hz2
  go_enter Tryd.func32, Tryd.ntmps32
  go_wp2_with (first | (go_at_call 25; (with_reducible refine (VL.out _ RA2).mono ?_); rintro e w1 ⟨rfl, hb1⟩; have hc1 := (Rg.bcell hb1).1; have hf1 := (Rg.bcell hb1).2; have z1_0 : w.heap.size < w1.heap.size := (by have hzz := hb1.size; (try simp at hzz); omega); have K1 : Below w.heap.size w w1 := Below.trans (b := _) (by (repeat' (first | (with_reducible exact Below.refl _ _) | (with_reducible refine Below.alloc ?_ ?_ _) | (with_reducible refine Below.setCell ?_ ?_ _) | (with_reducible refine below_drewN ?_ _) | (simp; done) | omega | (simp; omega)))) (hb1.mono (by have hzz := hb1.size; (try simp at hzz); first | omega | (simp; done) | (simp; omega)))))
  have lgl : w.heap.size < w1.heap.size := z1_0
  have X0 : w1.cell? ⟨w.heap.size, 0, none⟩ = some (.int .i64 k) := (hc1 _ _ (by simp)).trans (by go_cell)
  have X1 : w1.cell? ⟨w.heap.size, 1, none⟩ = some (.slice p n c) := (hc1 _ _ (by simp)).trans (by go_cell)
  have X2 : w1.cell? ⟨w.heap.size, 2, none⟩ = some (.bool true) := (hc1 _ _ (by simp)).trans (by go_cell)
  have Y0 : w1.frozen? ⟨w.heap.size, 0, none⟩ = false := (hf1 _ _ (by simp)).trans (by simp only [frozen?_alloc_cells]; exact Rg.notFrozen (Nat.le_refl _))
  have Y1 : w1.frozen? ⟨w.heap.size, 1, none⟩ = false := (hf1 _ _ (by simp)).trans (by simp only [frozen?_alloc_cells]; exact Rg.notFrozen (Nat.le_refl _))
  have Y2 : w1.frozen? ⟨w.heap.size, 2, none⟩ = false := (hf1 _ _ (by simp)).trans (by simp only [frozen?_alloc_cells]; exact Rg.notFrozen (Nat.le_refl _))
  obtain ⟨gl, hgl⟩ : ∃ gl, w1.heap.size = gl := ⟨_, rfl⟩
  have F1 : Cl ((gl, 0, .int .i64 (-1 - k)) :: (gl, 1, .slice none 0 0) :: (gl, 2, .bool false) :: [(w.heap.size, 0, .int .i64 k), (w.heap.size, 1, .slice p n c), (w.heap.size, 2, .bool true)]) (w1.alloc (Obj.cells #[Value.int .i64 (-1 - k), Value.slice none 0 0, Value.bool false] 36)) := by
    have h := (Cl.cons X0 Y0 (Cl.cons X1 Y1 (Cl.cons X2 Y2 (Cl.nil w1)))).below ((Below.refl _ _).alloc (Nat.le_refl _) (Obj.cells #[Value.int .i64 (-1 - k), Value.slice none 0 0, Value.bool false] 36))
    rw [← hgl]
    exact Cl.cons (by go_cell) (by simp only [frozen?_alloc_cells]; exact Rg.notFrozen (Nat.le_refl _)) (Cl.cons (by go_cell) (by simp only [frozen?_alloc_cells]; exact Rg.notFrozen (Nat.le_refl _)) (Cl.cons (by go_cell) (by simp only [frozen?_alloc_cells]; exact Rg.notFrozen (Nat.le_refl _)) h))
  have F1h := Lib.hid F1
  have KB0 : Hid (Below w.heap.size w (w1.alloc (Obj.cells #[Value.int .i64 (-1 - k), Value.slice none 0 0, Value.bool false] 36))) := Lib.hid (K1.alloc K1.size _)
  have hlt0 : gl < (w1.alloc (Obj.cells #[Value.int .i64 (-1 - k), Value.slice none 0 0, Value.bool false] 36)).heap.size := by simp; omega
  have lw : w.heap.size < gl := by omega
  rw [hgl]
  clear X0 X1 X2 Y0 Y1 Y2 F1 lgl hb1 hc1 hf1 z1_0 K1 VL B0 RA2
  go_loopw [6] (fun i wr => ∃ (m : Nat) (vl : Value), i = .int .i64 m ∧ m ≤ n ∧ gl < wr.heap.size ∧ Hid (Cl ((gl, 0, .int .i64 (-1 - k)) :: (gl, 1, vl) :: (gl, 2, .bool false) :: [(w.heap.size, 0, .int .i64 k), (w.heap.size, 1, .slice p n c), (w.heap.size, 2, .bool true)]) wr) ∧ Hid (Below w.heap.size w wr) ∧ Hid (wr.ownsRow (gl + 1) 59 2 vl m (moCs ((xs.map ngm).take m))) ∧ Hid ((xs.take m).all nmin = true)) (fun i _ => n - (intOf i).toNat)
  case atStart => exact ⟨0, .slice none 0 0, rfl, Nat.zero_le _, hlt0, F1h, KB0, Lib.hid (World.ownsRow_nil _ _ _ _), Lib.hid rfl⟩
  case round =>
    obtain ⟨m, vl, rfl, hm, hlt9, hF, hB, hO, hNE⟩ := hrel
    clear F1h KB0 hlt0
    have mm : (0 : Int) ≤ m := by omega
    have d0 := hF.out.head
    have d1 := hF.out.tail.head
    have d2 := hF.out.tail.tail.head
    have d3 := hF.out.tail.tail.tail.head
    have d4 := hF.out.tail.tail.tail.tail.head
    have d5 := hF.out.tail.tail.tail.tail.tail.head
    have lb9 : w.heap.size < wr.heap.size := by omega
    by_cases hlt : m < n
    · obtain ⟨b, o, rfl, e0, e1⟩ := RA.out m (by rw [HN.out]; exact hlt)
      have m2 : (m : Int) < n := by omega
      have hbw : b < w.heap.size := World.block_lt_of_cell? _ _ e0
      replace e0 := Rg.keep hB.out hbw e0
      replace e1 := Rg.keep hB.out hbw e1
      have hbr : b < wr.heap.size := World.block_lt_of_cell? _ _ e0
      have htk := take_step (xs := xs) (j := m) (by rw [HN.out]; exact hlt)
      have hmem := getD_mem (xs := xs) (j := m) (by rw [HN.out]; exact hlt)
      obtain ⟨-, y0, y1⟩ := RS.out m (by rw [HN.out]; exact hlt)
      obtain ⟨x, hx⟩ : ∃ x, xs.getD m mo0 = x := ⟨_, rfl⟩
      rw [hx] at e0 e1 y0 y1 htk hmem
      obtain ⟨z, a⟩ := x
      dsimp only at e0 e1 y0 y1
      have HTK := Lib.hid htk
      have HMEM := Lib.hid hmem
      clear hx htk hmem
      by_cases ha : a = -9223372036854775808
      · have ha1 : (a == -9223372036854775808) = true := by simpa using ha
        have hall := HALL.out _ HMEM.out
        exact absurd hall (by unfold nmin; dsimp only; rw [ha1]; decide)
      · have ha1 : (a == -9223372036854775808) = false := by simpa using ha
        have wn : IntKind.i64.wrap (-a) = -a := by rw [IntKind.wrap_i64]; omega
        have wn2 : wrap64 (-a) = -a := by unfold wrap64; omega
        have NE2 : Hid ((xs.take (m + 1)).all nmin = true) := Lib.hid (by rw [HTK.out, List.all_append, hNE.out]; simp [nmin]; exact ha)
        have HT2 : Hid (moCs ((xs.map ngm).take (m + 1)) = moCs ((xs.map ngm).take m) ++ [.string z, .int .i64 (-a)]) := Lib.hid (by rw [← List.map_take, ← List.map_take, HTK.out, List.map_append, List.map_cons, List.map_nil, moCs_snoc]; rfl)
        have hz10 : wr.drew.cell? ⟨gl, 1, none⟩ = some (vl) ∧ wr.drew.cell? ⟨w.heap.size, 1, none⟩ = some (.slice (some ⟨b, o, none⟩) n c) ∧ wr.drew.cell? ⟨b, o + m * 2, none⟩ = some (.string z) ∧ wr.drew.cell? ⟨b, o + m * 2 + 1, none⟩ = some (.int .i64 a) ∧ Below wr.heap.size wr wr.drew := ⟨d1, d4, e0, e1, (Below.refl _ _).drew⟩
        have HS2 : Hid (∀ u u' : World, (u.cell? ⟨gl, 1, none⟩ = some (vl) ∧ u.cell? ⟨w.heap.size, 1, none⟩ = some (.slice (some ⟨b, o, none⟩) n c) ∧ u.cell? ⟨b, o + m * 2, none⟩ = some (.string z) ∧ u.cell? ⟨b, o + m * 2 + 1, none⟩ = some (.int .i64 a) ∧ Below wr.heap.size wr u) → Below u.heap.size u u' → (u'.cell? ⟨gl, 1, none⟩ = some (vl) ∧ u'.cell? ⟨w.heap.size, 1, none⟩ = some (.slice (some ⟨b, o, none⟩) n c) ∧ u'.cell? ⟨b, o + m * 2, none⟩ = some (.string z) ∧ u'.cell? ⟨b, o + m * 2 + 1, none⟩ = some (.int .i64 a) ∧ Below wr.heap.size wr u')) := Lib.hid (fun u u' h hb => ⟨Rg.keep hb (World.block_lt_of_cell? _ _ h.1) h.1, Rg.keep hb (World.block_lt_of_cell? _ _ h.2.1) h.2.1, Rg.keep hb (World.block_lt_of_cell? _ _ h.2.2.1) h.2.2.1, Rg.keep hb (World.block_lt_of_cell? _ _ h.2.2.2.1) h.2.2.2.1, h.2.2.2.2.trans (hb.mono h.2.2.2.2.size)⟩)
        clear ha hNE
        go_wp2_with fail
        refine Rk.begin (S := fun wS => wS.cell? ⟨gl, 1, none⟩ = some (vl) ∧ wS.cell? ⟨w.heap.size, 1, none⟩ = some (.slice (some ⟨b, o, none⟩) n c) ∧ wS.cell? ⟨b, o + m * 2, none⟩ = some (.string z) ∧ wS.cell? ⟨b, o + m * 2 + 1, none⟩ = some (.int .i64 a) ∧ Below wr.heap.size wr wS) 20 (by kernel_rfl) hz10 (fun hHeld => ?_)
        refine Rk.takeP (i := 0) (v := ?_) rfl (by kernel_rfl) (by kernel_rfl) (by kernel_rfl) (by kernel_rfl) (fun _ _ _ h => h) (Or.inl ⟨by kernel_rfl, ?_⟩) (by assumption) ?_
        rotate_left
        · ((intro w hSw; go_simp) <;> with_reducible rfl)
        try simp only [Act.put, List.setIfInBounds_toArray, List.set_cons_zero, List.set_cons_succ]
        refine Rk.takeP (i := 1) (v := ?_) rfl (by kernel_rfl) (by kernel_rfl) (by kernel_rfl) (by kernel_rfl) (fun _ _ _ h => h) (Or.inl ⟨by kernel_rfl, ?_⟩) (by assumption) ?_
        rotate_left
        · ((intro w hSw; go_simp) <;> with_reducible rfl)
        try simp only [Act.put, List.setIfInBounds_toArray, List.set_cons_zero, List.set_cons_succ]
        refine Rk.take [20] (i := 2) (v := ?_) rfl (by kernel_rfl) (by kernel_rfl) (by kernel_rfl) (by kernel_rfl) (by kernel_rfl) (fun _ _ _ h => h) (Or.inl ⟨by kernel_rfl, ?_⟩) (by assumption) ?_
        rotate_left
        · ((intro w hSw; (try dsimp only at hSw); go_simp) <;> with_reducible rfl)
        try simp only [Act.put, List.setIfInBounds_toArray, List.set_cons_zero, List.set_cons_succ]
        refine Rk.takeP (i := 3) (v := ?_) rfl (by kernel_rfl) (by kernel_rfl) (by kernel_rfl) (by kernel_rfl) (fun _ _ _ h => h) (Or.inl ⟨by kernel_rfl, ?_⟩) (by assumption) ?_
        rotate_left
        · ((intro w hSw; go_simp) <;> with_reducible rfl)
        try simp only [Act.put, List.setIfInBounds_toArray, List.set_cons_zero, List.set_cons_succ]
        refine Rk.takeP (i := 4) (v := ?_) rfl (by kernel_rfl) (by kernel_rfl) (by kernel_rfl) (by kernel_rfl) (fun _ _ _ h => h) (Or.inl ⟨by kernel_rfl, ?_⟩) (by assumption) ?_
        rotate_left
        · ((intro w hSw; go_simp) <;> with_reducible rfl)
        try simp only [Act.put, List.setIfInBounds_toArray, List.set_cons_zero, List.set_cons_succ]
        refine Rk.take [7, 8, 9, 18, 19, 20] (i := 5) (v := ?_) rfl (by kernel_rfl) (by kernel_rfl) (by kernel_rfl) (by kernel_rfl) (by kernel_rfl) (fun _ _ _ h => h) (Or.inl ⟨by kernel_rfl, ?_⟩) (by assumption) ?_
        rotate_left
        · ((intro w hSw; (try dsimp only at hSw); go_simp) <;> with_reducible rfl)
        try simp only [Act.put, List.setIfInBounds_toArray, List.set_cons_zero, List.set_cons_succ]
        refine Rk.takeP (i := 6) (v := ?_) rfl (by kernel_rfl) (by kernel_rfl) (by kernel_rfl) (by kernel_rfl) (fun _ _ _ h => h) (Or.inl ⟨by kernel_rfl, ?_⟩) (by assumption) ?_
        rotate_left
        · ((intro w hSw; go_simp) <;> with_reducible rfl)
        try simp only [Act.put, List.setIfInBounds_toArray, List.set_cons_zero, List.set_cons_succ]
        refine Rk.takeP (i := 7) (v := ?_) rfl (by kernel_rfl) (by kernel_rfl) (by kernel_rfl) (by kernel_rfl) (fun _ _ _ h => h) (Or.inl ⟨by kernel_rfl, ?_⟩) (by assumption) ?_
        rotate_left
        · ((intro w hSw; go_simp) <;> with_reducible rfl)
        try simp only [Act.put, List.setIfInBounds_toArray, List.set_cons_zero, List.set_cons_succ]
        refine Rk.takeP (i := 8) (v := ?_) rfl (by kernel_rfl) (by kernel_rfl) (by kernel_rfl) (by kernel_rfl) (fun _ _ _ h => h) (Or.inl ⟨by kernel_rfl, ?_⟩) (by assumption) ?_
        rotate_left
        · ((intro w hSw; go_simp) <;> with_reducible rfl)
        try simp only [Act.put, List.setIfInBounds_toArray, List.set_cons_zero, List.set_cons_succ]
        refine Rk.take [18, 19, 20] (i := 9) (v := ?_) rfl (by kernel_rfl) (by kernel_rfl) (by kernel_rfl) (by kernel_rfl) (by kernel_rfl) (fun _ _ _ h => h) (Or.inl ⟨by kernel_rfl, ?_⟩) (by assumption) ?_
        rotate_left
        · ((intro w hSw; (try dsimp only at hSw); go_simp) <;> with_reducible rfl)
        try simp only [Act.put, List.setIfInBounds_toArray, List.set_cons_zero, List.set_cons_succ]
        refine Rk.takeP (i := 10) (v := ?_) rfl (by kernel_rfl) (by kernel_rfl) (by kernel_rfl) (by kernel_rfl) (fun _ _ _ h => h) (Or.inl ⟨by kernel_rfl, ?_⟩) (by assumption) ?_
        rotate_left
        · ((intro w hSw; go_simp) <;> with_reducible rfl)
        try simp only [Act.put, List.setIfInBounds_toArray, List.set_cons_zero, List.set_cons_succ]
        refine Rk.takeP (i := 11) (v := ?_) rfl (by kernel_rfl) (by kernel_rfl) (by kernel_rfl) (by kernel_rfl) (fun _ _ _ h => h) (Or.inl ⟨by kernel_rfl, ?_⟩) (by assumption) ?_
        rotate_left
        · ((intro w hSw; go_simp) <;> with_reducible rfl)
        try simp only [Act.put, List.setIfInBounds_toArray, List.set_cons_zero, List.set_cons_succ]
        refine Rk.take [14, 15, 16, 17, 18, 19, 20] (i := 12) (v := ?_) rfl (by kernel_rfl) (by kernel_rfl) (by kernel_rfl) (by kernel_rfl) (by kernel_rfl) (fun _ _ _ h => h) (Or.inl ⟨by kernel_rfl, ?_⟩) (by assumption) ?_
        rotate_left
        · ((intro w hSw; (try dsimp only at hSw); go_simp) <;> with_reducible rfl)
        try simp only [Act.put, List.setIfInBounds_toArray, List.set_cons_zero, List.set_cons_succ]
        refine Rk.takeP (i := 13) (v := ?_) rfl (by kernel_rfl) (by kernel_rfl) (by kernel_rfl) (by kernel_rfl) (fun _ _ _ h => h) (Or.inl ⟨by kernel_rfl, ?_⟩) (by assumption) ?_
        rotate_left
        · ((intro w hSw; go_simp) <;> with_reducible rfl)
        try simp only [Act.put, List.setIfInBounds_toArray, List.set_cons_zero, List.set_cons_succ]
        refine Rk.takeP (i := 14) (v := ?_) rfl (by kernel_rfl) (by kernel_rfl) (by kernel_rfl) (by kernel_rfl) (fun _ _ _ h => h) (Or.inl ⟨by kernel_rfl, ?_⟩) (by assumption) ?_
        rotate_left
        · ((intro w hSw; go_simp) <;> with_reducible rfl)
        try simp only [Act.put, List.setIfInBounds_toArray, List.set_cons_zero, List.set_cons_succ]
        refine Rk.takeP (i := 15) (v := ?_) rfl (by kernel_rfl) (by kernel_rfl) (by kernel_rfl) (by kernel_rfl) (fun _ _ _ h => h) (Or.inl ⟨by kernel_rfl, ?_⟩) (by assumption) ?_
        rotate_left
        · ((intro w hSw; go_simp) <;> with_reducible rfl)
        try simp only [Act.put, List.setIfInBounds_toArray, List.set_cons_zero, List.set_cons_succ]
        refine Rk.take [17, 18, 19, 20] (i := 16) (v := ?_) rfl (by kernel_rfl) (by kernel_rfl) (by kernel_rfl) (by kernel_rfl) (by kernel_rfl) (fun _ _ _ h => h) (Or.inl ⟨by kernel_rfl, ?_⟩) (by assumption) ?_
        rotate_left
        · ((intro w hSw; (try dsimp only at hSw); go_simp) <;> with_reducible rfl)
        try simp only [Act.put, List.setIfInBounds_toArray, List.set_cons_zero, List.set_cons_succ]
        refine Rk.takeP (i := 17) (v := ?_) rfl (by kernel_rfl) (by kernel_rfl) (by kernel_rfl) (by kernel_rfl) (fun _ _ _ h => h) (Or.inl ⟨by kernel_rfl, ?_⟩) (by assumption) ?_
        rotate_left
        · ((intro w hSw; go_simp) <;> with_reducible rfl)
        try simp only [Act.put, List.setIfInBounds_toArray, List.set_cons_zero, List.set_cons_succ]
        refine Rk.takeP (i := 18) (v := ?_) rfl (by kernel_rfl) (by kernel_rfl) (by kernel_rfl) (by kernel_rfl) (fun _ _ _ h => h) (Or.inl ⟨by kernel_rfl, ?_⟩) (by assumption) ?_
        rotate_left
        · ((intro w hSw; go_simp) <;> with_reducible rfl)
        try simp only [Act.put, List.setIfInBounds_toArray, List.set_cons_zero, List.set_cons_succ]
        refine Rk.one (i := 19) (by kernel_rfl) rfl (fun KK hK => ?_)
        rw [if_pos (by kernel_rfl)]
        go_simp
        refine hK.out _ _ (HS2.out _ _ hHeld ((Below.refl _ _).alloc (Nat.le_refl _) (Obj.cells #[Value.string z, Value.int .i64 (-a)] 59))) (fun hHeld => ?_)
        clear hK KK
        refine Rk.tail [20, 21, 22, 23] [_, _, _, _] (by kernel_rfl) (by kernel_rfl) rfl (by decide) ?_
        obtain ⟨hi, hz0, hz1, hz2⟩ := HI9.out
        have BZ : Below wr.heap.size wr (wr.alloc (Obj.cells #[Value.string z, Value.int .i64 (-a)] 59)).drew := ((Below.refl _ _).alloc (Nat.le_refl _) (Obj.cells #[Value.string z, Value.int .i64 (-a)] 59)).drew
        have FU := Lib.hid (hF.out.below BZ)
        have OU : Hid ((wr.alloc (Obj.cells #[Value.string z, Value.int .i64 (-a)] 59)).drew.ownsRow (gl + 1) 59 2 vl m (moCs ((xs.map ngm).take m))) := Lib.hid ((hO.out.alloc (Obj.cells #[Value.string z, Value.int .i64 (-a)] 59)).drew)
        have KU := Lib.hid (hB.out.trans (BZ.mono hB.out.size))
        clear hHeld hz10 HS2 d0 d1 d2 d3 d4 d5 e0 e1 hF hO hB BZ
        go_wp2_with (at_builtin; refine wpList_append_own _ rfl _ _ 22 rfl (gl + 1) 59 i0 (.agg #[.string ⟨#[]⟩, .int .i64 0]) 2 24 Tryd.underlying22 hi hz0 hz1 hz2 rfl (by decide) _ _ _ rfl OU.out ⟨wr.heap.size, 0, none⟩ 1 1 [.string z, .int .i64 (-a)] rfl rfl ?_ ?_ ?_ ?_ ?_ ?_)
        · intro q x hx
          rcases q with _ | _ | q
          · cases hx; go_cell
          · cases hx; go_cell
          · simp at hx
        · intro x hx
          simp at hx
          rcases hx with rfl | rfl <;> rfl
        · unfold maxLen; omega
        · omega
        · simp; omega
        intro v' w4 hown' hgrow _
        have F4 := FU.out.own OU.out hgrow (by simp only [List.forall_mem_cons]; simp; omega)
        have K4 := KU.out.grown hgrow KU.out.size (fun q hq => by have := (OU.out.lt q hq).1; omega)
        have hown2 : Hid (w4.ownsRow (gl + 1) 59 2 v' (m + 1) (moCs ((xs.map ngm).take (m + 1)))) := Lib.hid (by
          rw [HT2.out]
          exact hown')
        obtain ⟨q', c', rfl⟩ := own_slice hown2.out
        clear hown' hgrow FU OU KU hi hz0 hz1 hz2
        have e0 := F4.head
        have ze0 := F4.headF
        have e1 := F4.tail.head
        have ze1 := F4.tail.headF
        have e2 := F4.tail.tail.head
        have ze2 := F4.tail.tail.headF
        have F5 := F4.tail.tail.tail
        go_wp2
        go_roundw
        case rel =>
          refine ⟨m + 1, .slice q' (m + 1) c', by go_num, by omega, by rw [World.size_setCell]; exact World.block_lt_of_cell? _ _ e0, Lib.hid (Cl.cons (by go_cell) (by simp [World.frozen?_setCell, ze0]) (Cl.cons (by go_cell) (by simp [World.frozen?_setCell, ze1]) (Cl.cons (by go_cell) (by simp [World.frozen?_setCell, ze2]) (F5.far (by simp only [List.forall_mem_cons]; simp; omega))))), Lib.hid (K4.setCell (p := ⟨gl, 1, none⟩) (by show w.heap.size ≤ gl; omega) _), Lib.hid (own_set hown2.out (by show gl < gl + 1; omega)), NE2⟩
        case measure => simp [intOf]; omega
    · obtain rfl : m = n := by omega
      have hO2 := hO.out
      rw [List.take_of_length_le (by rw [List.length_map, HN.out]; exact Nat.le_refl _)] at hO2
      obtain ⟨q, d, hvl, hS⟩ := own_sl' (l := xs.map ngm) hO2 (by rw [List.length_map, HN.out])
      subst hvl
      have HS9 := Lib.hid hS
      have HLM : Hid ((xs.map ngm).length = m) := Lib.hid (by rw [List.length_map, HN.out])
      clear hO hO2 hS hNE
      have KE := hB.out
      have X0 := d3
      have X1 := d4
      have X2 := d5
      have L0 := d0
      have L1 := d1
      have L2 := d2
      by_cases hk : k = -9223372036854775808
      · have kk : (k == -9223372036854775808) = true := by simpa using hk
        have hr := HRR.out
        rw [if_pos hk] at hr
        subst hr
        clear hk hF hB
        go_wp2
        go_ret2
        exact CsW.nil KE
      · have kk : (k == -9223372036854775808) = false := by simpa using hk
        have hr := HRR.out
        rw [if_neg hk] at hr
        subst hr
        have w3 : IntKind.i64.wrap (k - 1) = k - 1 := by rw [IntKind.wrap_i64]; omega
        have w4' : wrap64 (k - 1) = k - 1 := by unfold wrap64; omega
        obtain ⟨gm, hgm⟩ : ∃ gm, wr.heap.size = gm := ⟨_, rfl⟩
        have BM : Below wr.heap.size wr (wr.alloc (Obj.cells #[Value.int .i64 (k - 1), Value.slice none 0 0, Value.bool false] 36)) := (Below.refl _ _).alloc (Nat.le_refl _) _
        have F2 : Hid (Cl ([(gm, 0, .int .i64 (k - 1)), (gm, 1, .slice none 0 0), (gm, 2, .bool false)]) (wr.alloc (Obj.cells #[Value.int .i64 (k - 1), Value.slice none 0 0, Value.bool false] 36))) := Lib.hid (by
          rw [← hgm]
          exact Cl.cons (by go_cell) (by simp only [frozen?_alloc_cells]; exact Rg.notFrozen (Nat.le_refl _)) (Cl.cons (by go_cell) (by simp only [frozen?_alloc_cells]; exact Rg.notFrozen (Nat.le_refl _)) (Cl.cons (by go_cell) (by simp only [frozen?_alloc_cells]; exact Rg.notFrozen (Nat.le_refl _)) (Cl.nil _))))
        have BM9 := Lib.hid BM
        have HW9 := Lib.hid (And.intro X1 (And.intro L0 (And.intro L1 L2)))
        have lm0 : gm < (wr.alloc (Obj.cells #[Value.int .i64 (k - 1), Value.slice none 0 0, Value.bool false] 36)).heap.size := by simp; omega
        have lw2 : gl < gm := by omega
        have HGM := Lib.hid hgm
        have LB1 : w.heap.size < gm := by omega
        clear hk hF hB BM
        go_wp2_with fail
        try rw [hgm]
        generalize hz0 : (wr.alloc (Obj.cells #[Value.int .i64 (k - 1), Value.slice none 0 0, Value.bool false] 36)) = z0 at *
        generalize hwq : wr = wq at *
        clear hwq hz0 d0 d1 d2 d3 d4 d5 X0 X1 X2 L0 L1 L2 hgm lb9 hlt9
        go_loopw [8] (fun i wr => ∃ (t : Nat) (vl : Value), i = .int .i64 t ∧ t ≤ m ∧ gm < wr.heap.size ∧ Hid (Cl ([(gm, 0, .int .i64 (k - 1)), (gm, 1, vl), (gm, 2, .bool false)]) wr) ∧ Hid (Below wq.heap.size wq wr) ∧ Hid (wr.ownsRow (gm + 1) 59 2 vl t (moCs (xs.take t)))) (fun i _ => m - (intOf i).toNat)
        case atStart => exact ⟨0, .slice none 0 0, rfl, Nat.zero_le _, lm0, F2, BM9, Lib.hid (World.ownsRow_nil _ _ _ _)⟩
        case round =>
          obtain ⟨t, vl, rfl, ht, hlt8, hF, hB, hO⟩ := hrel
          clear F2 BM9 lm0
          have tt : (0 : Int) ≤ t := by omega
          have d0 := hF.out.head
          have d1 := hF.out.tail.head
          have d2 := hF.out.tail.tail.head
          have hq := HGM.out
          have x1 := Rg.keep hB.out (by omega) HW9.out.1
          have lb9 : w.heap.size < wr.heap.size := by omega
          by_cases hlt : t < m
          · obtain ⟨b, o, rfl, e0, e1⟩ := RA.out t (by rw [HN.out]; exact hlt)
            have t2 : (t : Int) < m := by omega
            have hbw : b < w.heap.size := World.block_lt_of_cell? _ _ e0
            have KWR := KE.trans (hB.out.mono KE.size)
            replace e0 := Rg.keep KWR hbw e0
            replace e1 := Rg.keep KWR hbw e1
            have hbr : b < wr.heap.size := World.block_lt_of_cell? _ _ e0
            have htk := take_step (xs := xs) (j := t) (by rw [HN.out]; exact hlt)
            obtain ⟨x, hx⟩ : ∃ x, xs.getD t mo0 = x := ⟨_, rfl⟩
            rw [hx] at e0 e1 htk
            obtain ⟨z, a⟩ := x
            dsimp only at e0 e1
            have HT2 : Hid (moCs (xs.take (t + 1)) = moCs (xs.take t) ++ [.string z, .int .i64 a]) := Lib.hid (by rw [htk, moCs_snoc]; rfl)
            have hz19 : wr.drew.cell? ⟨gm, 1, none⟩ = some (vl) ∧ wr.drew.cell? ⟨w.heap.size, 1, none⟩ = some (.slice (some ⟨b, o, none⟩) m c) ∧ wr.drew.cell? ⟨b, o + t * 2, none⟩ = some (.string z) ∧ wr.drew.cell? ⟨b, o + t * 2 + 1, none⟩ = some (.int .i64 a) ∧ Below wr.heap.size wr wr.drew := ⟨d1, x1, e0, e1, (Below.refl _ _).drew⟩
            have HS3 : Hid (∀ u u' : World, (u.cell? ⟨gm, 1, none⟩ = some (vl) ∧ u.cell? ⟨w.heap.size, 1, none⟩ = some (.slice (some ⟨b, o, none⟩) m c) ∧ u.cell? ⟨b, o + t * 2, none⟩ = some (.string z) ∧ u.cell? ⟨b, o + t * 2 + 1, none⟩ = some (.int .i64 a) ∧ Below wr.heap.size wr u) → Below u.heap.size u u' → (u'.cell? ⟨gm, 1, none⟩ = some (vl) ∧ u'.cell? ⟨w.heap.size, 1, none⟩ = some (.slice (some ⟨b, o, none⟩) m c) ∧ u'.cell? ⟨b, o + t * 2, none⟩ = some (.string z) ∧ u'.cell? ⟨b, o + t * 2 + 1, none⟩ = some (.int .i64 a) ∧ Below wr.heap.size wr u')) := Lib.hid (fun u u' h hb => ⟨Rg.keep hb (World.block_lt_of_cell? _ _ h.1) h.1, Rg.keep hb (World.block_lt_of_cell? _ _ h.2.1) h.2.1, Rg.keep hb (World.block_lt_of_cell? _ _ h.2.2.1) h.2.2.1, Rg.keep hb (World.block_lt_of_cell? _ _ h.2.2.2.1) h.2.2.2.1, h.2.2.2.2.trans (hb.mono h.2.2.2.2.size)⟩)
            clear hx htk KWR hq
            go_wp2_with fail
            refine Rk.begin (S := fun wS => wS.cell? ⟨gm, 1, none⟩ = some (vl) ∧ wS.cell? ⟨w.heap.size, 1, none⟩ = some (.slice (some ⟨b, o, none⟩) m c) ∧ wS.cell? ⟨b, o + t * 2, none⟩ = some (.string z) ∧ wS.cell? ⟨b, o + t * 2 + 1, none⟩ = some (.int .i64 a) ∧ Below wr.heap.size wr wS) 10 (by kernel_rfl) hz19 (fun hHeld => ?_)
            refine Rk.takeP (i := 0) (v := ?_) rfl (by kernel_rfl) (by kernel_rfl) (by kernel_rfl) (by kernel_rfl) (fun _ _ _ h => h) (Or.inl ⟨by kernel_rfl, ?_⟩) (by assumption) ?_
            rotate_left
            · ((intro w hSw; go_simp) <;> with_reducible rfl)
            try simp only [Act.put, List.setIfInBounds_toArray, List.set_cons_zero, List.set_cons_succ]
            refine Rk.takeP (i := 1) (v := ?_) rfl (by kernel_rfl) (by kernel_rfl) (by kernel_rfl) (by kernel_rfl) (fun _ _ _ h => h) (Or.inl ⟨by kernel_rfl, ?_⟩) (by assumption) ?_
            rotate_left
            · ((intro w hSw; go_simp) <;> with_reducible rfl)
            try simp only [Act.put, List.setIfInBounds_toArray, List.set_cons_zero, List.set_cons_succ]
            refine Rk.take [10] (i := 2) (v := ?_) rfl (by kernel_rfl) (by kernel_rfl) (by kernel_rfl) (by kernel_rfl) (by kernel_rfl) (fun _ _ _ h => h) (Or.inl ⟨by kernel_rfl, ?_⟩) (by assumption) ?_
            rotate_left
            · ((intro w hSw; (try dsimp only at hSw); go_simp) <;> with_reducible rfl)
            try simp only [Act.put, List.setIfInBounds_toArray, List.set_cons_zero, List.set_cons_succ]
            refine Rk.takeP (i := 3) (v := ?_) rfl (by kernel_rfl) (by kernel_rfl) (by kernel_rfl) (by kernel_rfl) (fun _ _ _ h => h) (Or.inl ⟨by kernel_rfl, ?_⟩) (by assumption) ?_
            rotate_left
            · ((intro w hSw; go_simp) <;> with_reducible rfl)
            try simp only [Act.put, List.setIfInBounds_toArray, List.set_cons_zero, List.set_cons_succ]
            refine Rk.takeP (i := 4) (v := ?_) rfl (by kernel_rfl) (by kernel_rfl) (by kernel_rfl) (by kernel_rfl) (fun _ _ _ h => h) (Or.inl ⟨by kernel_rfl, ?_⟩) (by assumption) ?_
            rotate_left
            · ((intro w hSw; go_simp) <;> with_reducible rfl)
            try simp only [Act.put, List.setIfInBounds_toArray, List.set_cons_zero, List.set_cons_succ]
            refine Rk.take [7, 8, 9, 10] (i := 5) (v := ?_) rfl (by kernel_rfl) (by kernel_rfl) (by kernel_rfl) (by kernel_rfl) (by kernel_rfl) (fun _ _ _ h => h) (Or.inl ⟨by kernel_rfl, ?_⟩) (by assumption) ?_
            rotate_left
            · ((intro w hSw; (try dsimp only at hSw); go_simp) <;> with_reducible rfl)
            try simp only [Act.put, List.setIfInBounds_toArray, List.set_cons_zero, List.set_cons_succ]
            refine Rk.takeP (i := 6) (v := ?_) rfl (by kernel_rfl) (by kernel_rfl) (by kernel_rfl) (by kernel_rfl) (fun _ _ _ h => h) (Or.inl ⟨by kernel_rfl, ?_⟩) (by assumption) ?_
            rotate_left
            · ((intro w hSw; go_simp) <;> with_reducible rfl)
            try simp only [Act.put, List.setIfInBounds_toArray, List.set_cons_zero, List.set_cons_succ]
            refine Rk.takeP (i := 7) (v := ?_) rfl (by kernel_rfl) (by kernel_rfl) (by kernel_rfl) (by kernel_rfl) (fun _ _ _ h => h) (Or.inl ⟨by kernel_rfl, ?_⟩) (by assumption) ?_
            rotate_left
            · ((intro w hSw; go_simp) <;> with_reducible rfl)
            try simp only [Act.put, List.setIfInBounds_toArray, List.set_cons_zero, List.set_cons_succ]
            refine Rk.take [9, 10] (i := 8) (v := ?_) rfl (by kernel_rfl) (by kernel_rfl) (by kernel_rfl) (by kernel_rfl) (by kernel_rfl) (fun _ _ _ h => h) (Or.inl ⟨by kernel_rfl, ?_⟩) (by assumption) ?_
            rotate_left
            · ((intro w hSw; (try dsimp only at hSw); go_simp) <;> with_reducible rfl)
            try simp only [Act.put, List.setIfInBounds_toArray, List.set_cons_zero, List.set_cons_succ]
            refine Rk.one (i := 9) (by kernel_rfl) rfl (fun KK hK => ?_)
            rw [if_pos (by kernel_rfl)]
            go_simp
            refine hK.out _ _ (HS3.out _ _ hHeld ((Below.refl _ _).alloc (Nat.le_refl _) (Obj.cells #[Value.string z, Value.int .i64 a] 59))) (fun hHeld => ?_)
            clear hK KK
            refine Rk.tail [10, 11, 12, 13] [_, _, _, _] (by kernel_rfl) (by kernel_rfl) rfl (by decide) ?_
            obtain ⟨hi, hz0, hz1, hz2⟩ := HI9.out
            have BZ : Below wr.heap.size wr (wr.alloc (Obj.cells #[Value.string z, Value.int .i64 a] 59)).drew := ((Below.refl _ _).alloc (Nat.le_refl _) (Obj.cells #[Value.string z, Value.int .i64 a] 59)).drew
            have FU := Lib.hid (hF.out.below BZ)
            have OU : Hid ((wr.alloc (Obj.cells #[Value.string z, Value.int .i64 a] 59)).drew.ownsRow (gm + 1) 59 2 vl t (moCs (xs.take t))) := Lib.hid ((hO.out.alloc (Obj.cells #[Value.string z, Value.int .i64 a] 59)).drew)
            have KU := Lib.hid (hB.out.trans (BZ.mono hB.out.size))
            clear hHeld hz19 HS3 d0 d1 d2 x1 e0 e1 hF hO hB BZ
            go_wp2_with (at_builtin; refine wpList_append_own _ rfl _ _ 22 rfl (gm + 1) 59 i0 (.agg #[.string ⟨#[]⟩, .int .i64 0]) 2 24 Tryd.underlying22 hi hz0 hz1 hz2 rfl (by decide) _ _ _ rfl OU.out ⟨wr.heap.size, 0, none⟩ 1 1 [.string z, .int .i64 (a)] rfl rfl ?_ ?_ ?_ ?_ ?_ ?_)
            · intro q x hx
              rcases q with _ | _ | q
              · cases hx; go_cell
              · cases hx; go_cell
              · simp at hx
            · intro x hx
              simp at hx
              rcases hx with rfl | rfl <;> rfl
            · unfold maxLen; omega
            · omega
            · simp; omega
            intro v' w4 hown' hgrow _
            have F4 := FU.out.own OU.out hgrow (by simp only [List.forall_mem_cons]; first | (simp; done) | (simp; omega))
            have hq := HGM.out
            have K4 := KU.out.grown hgrow KU.out.size (fun q hq => by have := (OU.out.lt q hq).1; omega)
            have hown2 : Hid (w4.ownsRow (gm + 1) 59 2 v' (t + 1) (moCs (xs.take (t + 1)))) := Lib.hid (by
              rw [HT2.out]
              exact hown')
            obtain ⟨q', c', rfl⟩ := own_slice hown2.out
            clear hown' hgrow FU OU KU hi hz0 hz1 hz2
            have e0 := F4.head
            have ze0 := F4.headF
            have e1 := F4.tail.head
            have ze1 := F4.tail.headF
            have e2 := F4.tail.tail.head
            have ze2 := F4.tail.tail.headF
            have hKS := Lib.hid (K4.setCell (p := ⟨gm, 1, none⟩) (by dsimp only; omega) (.slice q' (t + 1) c'))
            clear hq
            go_wp2
            go_roundw
            case rel =>
              refine ⟨t + 1, .slice q' (t + 1) c', by go_num, by omega, by rw [World.size_setCell]; exact World.block_lt_of_cell? _ _ e0, Lib.hid (Cl.cons (by go_cell) (by simp [World.frozen?_setCell, ze0]) (Cl.cons (by go_cell) (by simp [World.frozen?_setCell, ze1]) (Cl.cons (by go_cell) (by simp [World.frozen?_setCell, ze2]) (Cl.nil _)))), hKS, Lib.hid (own_set hown2.out (by show gm < gm + 1; omega))⟩
            case measure => simp [intOf]; omega
          · obtain rfl : t = m := by omega
            have hO2 := hO.out
            rw [show xs.take t = xs by rw [← HN.out]; exact List.take_length] at hO2
            obtain ⟨q2, c2, hvl, hS2⟩ := own_sl' (l := xs) hO2 (by rw [HN.out])
            subst hvl
            have y0 := Rg.keep hB.out (by omega) HW9.out.2.1
            have y1 := Rg.keep hB.out (by omega) HW9.out.2.2.1
            have y2 := Rg.keep hB.out (by omega) HW9.out.2.2.2
            have lgl2 : gl < wr.heap.size := by omega
            have SP := Lib.hid (SlM.keep hB.out HS9.out)
            have SP2 := Lib.hid hS2
            have KZ := KE.trans (hB.out.mono KE.size)
            clear hO hO2 hF hB hS2 hq
            go_wp2
            go_ret2
            refine ⟨some ⟨wr.heap.size, 0, none⟩, 2, rfl, slq2 (q := q2) (q' := q) (d := c2) (d' := d) (by go_cell) (by rw [HN.out]; go_cell) (by go_cell) (SlM.keep ((Below.refl _ _).alloc (Nat.le_refl _) _) SP2.out) (by go_cell) (by rw [HLM.out]; go_cell) (by go_cell) (SlM.keep ((Below.refl _ _).alloc (Nat.le_refl _) _) SP.out), KZ.alloc KZ.size _⟩
end Go.Proofs.YtbicmlkjonaccaaDoor.Ln
