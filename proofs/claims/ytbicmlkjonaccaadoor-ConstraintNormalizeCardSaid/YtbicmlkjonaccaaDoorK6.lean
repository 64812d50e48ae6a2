/- Insertion sort of rows of constraints. -/
import Derived.Test.YtbicmlkjonaccaaDoorK5
import Derived.Laws.OwnMore
import Derived.BigQuiet
import Derived.Deep.QuietTactic

namespace Go.Proofs.YtbicmlkjonaccaaDoor.Ln
open Go.ChangeShapes Go.WideShapes Go.ChangeAt Go.RowKit
open Go.Proofs.YtbicmlkjonaccaaDoor.Nm
set_option linter.unusedVariables false
set_option linter.unusedSimpArgs false
set_option maxRecDepth 8000

theorem swE_world {g cap base n m : Nat} {L2 : List E5} {x y : E5} {u : World} (hb : base <= g \/ n = 0) (O : u.ownsRow base 36 3 (.slice (some ⟨g, 0, none⟩) n cap) n (rowE L2)) (hl : L2.length = n) (h1 : m + 1 < L2.length) (h0 : m < L2.length) (hx : L2.getD (m + 1) e50 = x) (hy : L2.getD m e50 = y) :
  ((((((u.setCell ⟨g, (m + 1) * 3, none⟩ (.int .i64 y.1)).setCell ⟨g, (m + 1) * 3 + 1, none⟩ (.slice y.2.1 y.2.2.1 y.2.2.2.1)).setCell ⟨g, (m + 1) * 3 + 2, none⟩ (.bool y.2.2.2.2)).setCell ⟨g, m * 3, none⟩ (.int .i64 x.1)).setCell ⟨g, m * 3 + 1, none⟩ (.slice x.2.1 x.2.2.1 x.2.2.2.1)).setCell ⟨g, m * 3 + 2, none⟩ (.bool x.2.2.2.2)).ownsRow base 36 3 (.slice (some ⟨g, 0, none⟩) n cap) n (rowE (swE L2 (m + 1) m)) /\ K59 u ((((((u.setCell ⟨g, (m + 1) * 3, none⟩ (.int .i64 y.1)).setCell ⟨g, (m + 1) * 3 + 1, none⟩ (.slice y.2.1 y.2.2.1 y.2.2.2.1)).setCell ⟨g, (m + 1) * 3 + 2, none⟩ (.bool y.2.2.2.2)).setCell ⟨g, m * 3, none⟩ (.int .i64 x.1)).setCell ⟨g, m * 3 + 1, none⟩ (.slice x.2.1 x.2.2.1 x.2.2.2.1)).setCell ⟨g, m * 3 + 2, none⟩ (.bool x.2.2.2.2)) /\ Below base u ((((((u.setCell ⟨g, (m + 1) * 3, none⟩ (.int .i64 y.1)).setCell ⟨g, (m + 1) * 3 + 1, none⟩ (.slice y.2.1 y.2.2.1 y.2.2.2.1)).setCell ⟨g, (m + 1) * 3 + 2, none⟩ (.bool y.2.2.2.2)).setCell ⟨g, m * 3, none⟩ (.int .i64 x.1)).setCell ⟨g, m * 3 + 1, none⟩ (.slice x.2.1 x.2.2.1 x.2.2.2.1)).setCell ⟨g, m * 3 + 2, none⟩ (.bool x.2.2.2.2)) := by
 have hbg : base <= g := by
  rcases hb with h | h
  ·exact h
  ·omega
 have Q0 := O.stored ((m + 1) * 3) (.int .i64 y.1)
 have J0 := K59.own O (by decide) Q0.2
 have Q1 := Q0.1.stored ((m + 1) * 3 + 1) (.slice y.2.1 y.2.2.1 y.2.2.2.1)
 have J1 := K59.own Q0.1 (by decide) Q1.2
 have Q2 := Q1.1.stored ((m + 1) * 3 + 2) (.bool y.2.2.2.2)
 have J2 := K59.own Q1.1 (by decide) Q2.2
 have Q3 := Q2.1.stored (m * 3) (.int .i64 x.1)
 have J3 := K59.own Q2.1 (by decide) Q3.2
 have Q4 := Q3.1.stored (m * 3 + 1) (.slice x.2.1 x.2.2.1 x.2.2.2.1)
 have J4 := K59.own Q3.1 (by decide) Q4.2
 have Q5 := Q4.1.stored (m * 3 + 2) (.bool x.2.2.2.2)
 have J5 := K59.own Q4.1 (by decide) Q5.2
 refine ⟨?_, ((((J0.trans J1).trans J2).trans J3).trans J4).trans J5, ?_⟩
 ·have h := Q5.1
  rw [rowE_set L2 (m + 1) y h1, rowE_set (L2.set (m + 1) y) m x (by simpa using h0)] at h
  unfold swE
  rw [hx, hy]
  exact h
 ·exact ((((((Below.refl base u).setCell (p := ⟨g, (m + 1) * 3, none⟩) hbg _).setCell (p := ⟨g, (m + 1) * 3 + 1, none⟩) hbg _).setCell (p := ⟨g, (m + 1) * 3 + 2, none⟩) hbg _).setCell (p := ⟨g, m * 3, none⟩) hbg _).setCell (p := ⟨g, m * 3 + 1, none⟩) hbg _).setCell (p := ⟨g, m * 3 + 2, none⟩) hbg _

set_option maxRecDepth 100000 in
set_option maxHeartbeats 8000000 in
/-- The insertion sort, whatever the row. -/
theorem insN (g cap base n a b : Nat) (L0 : List E5) (cf : E5 -> E5 -> Int) (w : World) (hn : n <= 100000) (hl : L0.length = n) (hab : a <= b) (hbn : b <= n) (hO : Hid (w.ownsRow base 36 3 (.slice (some ⟨g, 0, none⟩) n cap) n (rowE L0)))
  (NC : Hid (∀ x, x ∈ L0 -> ∀ y, y ∈ L0 -> ∀ w', K59 w w' -> Calls Tryd.prog 72 #[agE x, agE y] w' fun e w2 => e = .returned (.int .i64 (cf x y)) /\ Below w'.heap.size w' w2)) (hbw : base <= w.heap.size) :
  Calls Tryd.prog 120 #[.slice (some ⟨g, 0, none⟩) n cap, .int .i64 (a : Int), .int .i64 (b : Int), .func (.func 72) #[] #[]] w fun e w' => e = .returned (.tuple #[]) /\ Below base w w' /\ K59 w w' /\ Hid (w'.ownsRow base 36 3 (.slice (some ⟨g, 0, none⟩) n cap) n (rowE (insI cf a (b - (a + 1)) (a + 1) L0))) := by
 obtain ⟨RES, hRES⟩ : ∃ RES, insI cf a (b - (a + 1)) (a + 1) L0 = RES := ⟨_, rfl⟩
 rw [hRES]
 have HRES := Lib.hid hRES
 have HL := Lib.hid hl
 have hbg : base <= g \/ n = 0 := by
  rcases hO.out.2 with ⟨h, hz⟩ | ⟨g', cap', cur, h, hb, _⟩
  ·simp at h
  ·cases h; exact .inl hb
 have hbase : base <= g \/ n = 0 := hbg
 unfold agE at NC
 clear hRES hl
 go_enter Tryd.func120, Tryd.ntmps120
 go_wp2_with fail
 go_loopw [8] (fun iv wr => ∃ (i : Nat) (L : List E5), iv = .int .i64 (i : Int) /\ a + 1 <= i /\ i <= n + 1 /\ Hid (insI cf a (b - i) i L = RES) /\ Hid (L.length = n /\ ∀ x ∈ L, x ∈ L0) /\ Hid (wr.ownsRow base 36 3 (.slice (some ⟨g, 0, none⟩) n cap) n (rowE L)) /\ Hid (Below base w wr) /\ Hid (K59 w wr)) (fun iv _ => b - (intOf iv).toNat)
 case atStart => exact ⟨a + 1, L0, by go_num, Nat.le_refl _, by omega, HRES, Lib.hid ⟨HL.out, fun x h => h⟩, hO, Lib.hid (Below.refl _ _), Lib.hid (fun _ _ h => h)⟩
 case round =>
  obtain ⟨i, L, rfl, hi, hin, hR, hM, hOW, hB, hK⟩ := hrel
  have ii : (0 : Int) <= i := by omega
  by_cases hlt : i < b
  ·have i2 : (i : Int) < b := by omega
   have HI : Hid (insI cf a (b - (i + 1)) (i + 1) (insJ cf a i L) = RES) := Lib.hid (by
    have h := hR.out
    rw [show b - i = (b - (i + 1)) + 1 by omega] at h
    exact h)
   clear hR
   go_wp2_with fail
   go_loopw [9] (fun jv wr => ∃ (j : Nat) (L2 : List E5), jv = .int .i64 (j : Int) /\ a <= j /\ j <= i /\ Hid (insJ cf a j L2 = insJ cf a i L) /\ Hid (L2.length = n /\ ∀ x ∈ L2, x ∈ L0) /\ Hid (wr.ownsRow base 36 3 (.slice (some ⟨g, 0, none⟩) n cap) n (rowE L2)) /\ Hid (Below base w wr) /\ Hid (K59 w wr)) (fun jv _ => (intOf jv).toNat)
   case atStart => exact ⟨i, L, rfl, by omega, Nat.le_refl _, Lib.hid rfl, hM, hOW, hB, hK⟩
   case round =>
    clear hM hOW hB hK
    obtain ⟨j, L2, rfl, hj, hji, hJ, hM, hOW, hB, hK⟩ := hrel
    have jj : (0 : Int) <= j := by omega
    by_cases hja : a < j
    ·obtain ⟨m, rfl⟩ : ∃ m, j = m + 1 := ⟨j - 1, by omega⟩
     have hm1 : m + 1 < L2.length := by rw [hM.out.1]; omega
     have hm0 : m < L2.length := by omega
     obtain ⟨v0, v1, v2⟩ := rowE_get L2 (m + 1) hm1
     obtain ⟨u0, u1, u2⟩ := rowE_get L2 m hm0
     have HX : Hid (L2.getD (m + 1) e50 ∈ L0) := Lib.hid (hM.out.2 _ (getD_mem5 hm1))
     have HY : Hid (L2.getD m e50 ∈ L0) := Lib.hid (hM.out.2 _ (getD_mem5 hm0))
     have c0 := (hOW.out.cellAt ((m + 1) * 3) (by omega)).trans v0
     have c1 := (hOW.out.cellAt ((m + 1) * 3 + 1) (by omega)).trans v1
     have c2 := (hOW.out.cellAt ((m + 1) * 3 + 2) (by omega)).trans v2
     have d0 := (hOW.out.cellAt (m * 3) (by omega)).trans u0
     have d1 := (hOW.out.cellAt (m * 3 + 1) (by omega)).trans u1
     have d2 := (hOW.out.cellAt (m * 3 + 2) (by omega)).trans u2
     obtain ⟨x, hx⟩ : ∃ x, L2.getD (m + 1) e50 = x := ⟨_, rfl⟩
     obtain ⟨y, hy⟩ : ∃ y, L2.getD m e50 = y := ⟨_, rfl⟩
     have HX0 := Lib.hid hx
     have HY0 := Lib.hid hy
     rw [hx] at c0 c1 c2 HX
     rw [hy] at d0 d1 d2 HY
     have wj : IntKind.i64.wrap ((m : Int) + 1 - 1) = m := by rw [IntKind.wrap_i64]; omega
     have wj2 : IntKind.i64.wrap (m : Int) = m := by rw [IntKind.wrap_i64]; omega
     have j1 : decide ((a : Int) < (m : Int) + 1) = true := by rw [decide_eq_true_eq]; omega
     have j2 : (m : Int) + 1 < n := by omega
     have j3 : (m : Int) < n := by omega
     have j4 : (0 : Int) <= m := by omega
     have j5 : (0 : Int) <= (m : Int) + 1 := by omega
     have HKW := Lib.hid hK.out
     have hz4 : wr.drew.cell? ⟨g, (m + 1) * 3, none⟩ = some (.int .i64 x.1) /\ wr.drew.cell? ⟨g, (m + 1) * 3 + 1, none⟩ = some (.slice x.2.1 x.2.2.1 x.2.2.2.1) /\ wr.drew.cell? ⟨g, (m + 1) * 3 + 2, none⟩ = some (.bool x.2.2.2.2) /\ wr.drew.cell? ⟨g, m * 3, none⟩ = some (.int .i64 y.1) /\ wr.drew.cell? ⟨g, m * 3 + 1, none⟩ = some (.slice y.2.1 y.2.2.1 y.2.2.2.1) /\ wr.drew.cell? ⟨g, m * 3 + 2, none⟩ = some (.bool y.2.2.2.2) /\ Below wr.heap.size wr wr.drew := ⟨c0, c1, c2, d0, d1, d2, (Below.refl _ _).drew⟩
     have HS : Hid (∀ u u' : World, (u.cell? ⟨g, (m + 1) * 3, none⟩ = some (.int .i64 x.1) /\ u.cell? ⟨g, (m + 1) * 3 + 1, none⟩ = some (.slice x.2.1 x.2.2.1 x.2.2.2.1) /\ u.cell? ⟨g, (m + 1) * 3 + 2, none⟩ = some (.bool x.2.2.2.2) /\ u.cell? ⟨g, m * 3, none⟩ = some (.int .i64 y.1) /\ u.cell? ⟨g, m * 3 + 1, none⟩ = some (.slice y.2.1 y.2.2.1 y.2.2.2.1) /\ u.cell? ⟨g, m * 3 + 2, none⟩ = some (.bool y.2.2.2.2) /\ Below wr.heap.size wr u) -> Below u.heap.size u u' -> (u'.cell? ⟨g, (m + 1) * 3, none⟩ = some (.int .i64 x.1) /\ u'.cell? ⟨g, (m + 1) * 3 + 1, none⟩ = some (.slice x.2.1 x.2.2.1 x.2.2.2.1) /\ u'.cell? ⟨g, (m + 1) * 3 + 2, none⟩ = some (.bool x.2.2.2.2) /\ u'.cell? ⟨g, m * 3, none⟩ = some (.int .i64 y.1) /\ u'.cell? ⟨g, m * 3 + 1, none⟩ = some (.slice y.2.1 y.2.2.1 y.2.2.2.1) /\ u'.cell? ⟨g, m * 3 + 2, none⟩ = some (.bool y.2.2.2.2) /\ Below wr.heap.size wr u')) := Lib.hid (fun u u' h hb => ⟨Rg.keep hb (World.block_lt_of_cell? _ _ h.1) h.1, Rg.keep hb (World.block_lt_of_cell? _ _ h.2.1) h.2.1, Rg.keep hb (World.block_lt_of_cell? _ _ h.2.2.1) h.2.2.1, Rg.keep hb (World.block_lt_of_cell? _ _ h.2.2.2.1) h.2.2.2.1, Rg.keep hb (World.block_lt_of_cell? _ _ h.2.2.2.2.1) h.2.2.2.2.1, Rg.keep hb (World.block_lt_of_cell? _ _ h.2.2.2.2.2.1) h.2.2.2.2.2.1, h.2.2.2.2.2.2.trans (hb.mono h.2.2.2.2.2.2.size)⟩)
     obtain ⟨r, hr⟩ : ∃ r, cf x y = r := ⟨_, rfl⟩
     have HR9 := Lib.hid hr
     clear hx hy hr v0 v1 v2 u0 u1 u2 c0 c1 c2 d0 d1 d2
     by_cases hneg : r < 0
     ·have hr2 : decide (cf x y < 0) = true := by rw [HR9.out]; simpa using hneg
      go_wp2_with fail
      refine Rk.begin (S := fun wS => wS.cell? ⟨g, (m + 1) * 3, none⟩ = some (.int .i64 x.1) /\ wS.cell? ⟨g, (m + 1) * 3 + 1, none⟩ = some (.slice x.2.1 x.2.2.1 x.2.2.2.1) /\ wS.cell? ⟨g, (m + 1) * 3 + 2, none⟩ = some (.bool x.2.2.2.2) /\ wS.cell? ⟨g, m * 3, none⟩ = some (.int .i64 y.1) /\ wS.cell? ⟨g, m * 3 + 1, none⟩ = some (.slice y.2.1 y.2.2.1 y.2.2.2.1) /\ wS.cell? ⟨g, m * 3 + 2, none⟩ = some (.bool y.2.2.2.2) /\ Below wr.heap.size wr wS) 15 (by kernel_rfl) hz4 (fun hHeld => ?_)
      refine Rk.takeP (i := 0) (v := ?_) rfl (by kernel_rfl) (by kernel_rfl) (by kernel_rfl) (by kernel_rfl) (fun _ _ _ h => h) (Or.inl ⟨by kernel_rfl, ?_⟩) (by assumption) ?_
      rotate_left
      ·((intro w hSw; go_simp) <;> with_reducible rfl)
      try simp only [wj, wj2, Act.put, List.setIfInBounds_toArray, List.set_cons_zero, List.set_cons_succ]
      refine Rk.takeP (i := 1) (v := ?_) rfl (by kernel_rfl) (by kernel_rfl) (by kernel_rfl) (by kernel_rfl) (fun _ _ _ h => h) (Or.inl ⟨by kernel_rfl, ?_⟩) (by assumption) ?_
      rotate_left
      ·((intro w hSw; go_simp) <;> with_reducible rfl)
      try simp only [wj, wj2, Act.put, List.setIfInBounds_toArray, List.set_cons_zero, List.set_cons_succ]
      refine Rk.takeP (i := 2) (v := ?_) rfl (by kernel_rfl) (by kernel_rfl) (by kernel_rfl) (by kernel_rfl) (fun _ _ _ h => h) (Or.inl ⟨by kernel_rfl, ?_⟩) (by assumption) ?_
      rotate_left
      ·((intro w hSw; go_simp) <;> with_reducible rfl)
      try simp only [wj, wj2, Act.put, List.setIfInBounds_toArray, List.set_cons_zero, List.set_cons_succ]
      refine Rk.takeP (i := 3) (v := ?_) rfl (by kernel_rfl) (by kernel_rfl) (by kernel_rfl) (by kernel_rfl) (fun _ _ _ h => h) (Or.inl ⟨by kernel_rfl, ?_⟩) (by assumption) ?_
      rotate_left
      ·((intro w hSw; go_simp) <;> with_reducible rfl)
      try simp only [wj, wj2, Act.put, List.setIfInBounds_toArray, List.set_cons_zero, List.set_cons_succ]
      refine Rk.takeP (i := 4) (v := ?_) rfl (by kernel_rfl) (by kernel_rfl) (by kernel_rfl) (by kernel_rfl) (fun _ _ _ h => h) (Or.inl ⟨by kernel_rfl, ?_⟩) (by assumption) ?_
      rotate_left
      ·((intro w hSw; go_simp) <;> with_reducible rfl)
      try simp only [wj, wj2, Act.put, List.setIfInBounds_toArray, List.set_cons_zero, List.set_cons_succ]
      refine Rk.takeP (i := 5) (v := ?_) rfl (by kernel_rfl) (by kernel_rfl) (by kernel_rfl) (by kernel_rfl) (fun _ _ _ h => h) (Or.inl ⟨by kernel_rfl, ?_⟩) (by assumption) ?_
      rotate_left
      ·((intro w hSw; go_simp) <;> with_reducible rfl)
      try simp only [wj, wj2, Act.put, List.setIfInBounds_toArray, List.set_cons_zero, List.set_cons_succ]
      refine Rk.takeP (i := 6) (v := ?_) rfl (by kernel_rfl) (by kernel_rfl) (by kernel_rfl) (by kernel_rfl) (fun _ _ _ h => h) (Or.inl ⟨by kernel_rfl, ?_⟩) (by assumption) ?_
      rotate_left
      ·((intro w hSw; go_simp) <;> with_reducible rfl)
      try simp only [wj, wj2, Act.put, List.setIfInBounds_toArray, List.set_cons_zero, List.set_cons_succ]
      refine Rk.takeP (i := 7) (v := ?_) rfl (by kernel_rfl) (by kernel_rfl) (by kernel_rfl) (by kernel_rfl) (fun _ _ _ h => h) (Or.inl ⟨by kernel_rfl, ?_⟩) (by assumption) ?_
      rotate_left
      ·((intro w hSw; go_simp) <;> with_reducible rfl)
      try simp only [wj, wj2, Act.put, List.setIfInBounds_toArray, List.set_cons_zero, List.set_cons_succ]
      refine Rk.take [14, 15] (i := 8) (v := ?_) rfl (by kernel_rfl) (by kernel_rfl) (by kernel_rfl) (by kernel_rfl) (by kernel_rfl) (fun _ _ _ h => h) (Or.inl ⟨by kernel_rfl, ?_⟩) (by assumption) ?_
      rotate_left
      ·((intro w hSw; (try dsimp only at hSw); go_simp) <;> with_reducible rfl)
      try simp only [wj, wj2, Act.put, List.setIfInBounds_toArray, List.set_cons_zero, List.set_cons_succ]
      refine Rk.takeP (i := 9) (v := ?_) rfl (by kernel_rfl) (by kernel_rfl) (by kernel_rfl) (by kernel_rfl) (fun _ _ _ h => h) (Or.inl ⟨by kernel_rfl, ?_⟩) (by assumption) ?_
      rotate_left
      ·((intro w hSw; go_simp) <;> with_reducible rfl)
      try simp only [wj, wj2, Act.put, List.setIfInBounds_toArray, List.set_cons_zero, List.set_cons_succ]
      refine Rk.takeP (i := 10) (v := ?_) rfl (by kernel_rfl) (by kernel_rfl) (by kernel_rfl) (by kernel_rfl) (fun _ _ _ h => h) (Or.inl ⟨by kernel_rfl, ?_⟩) (by assumption) ?_
      rotate_left
      ·((intro w hSw; go_simp) <;> with_reducible rfl)
      try simp only [wj, wj2, Act.put, List.setIfInBounds_toArray, List.set_cons_zero, List.set_cons_succ]
      refine Rk.takeP (i := 11) (v := ?_) rfl (by kernel_rfl) (by kernel_rfl) (by kernel_rfl) (by kernel_rfl) (fun _ _ _ h => h) (Or.inl ⟨by kernel_rfl, ?_⟩) (by assumption) ?_
      rotate_left
      ·((intro w hSw; go_simp) <;> with_reducible rfl)
      try simp only [wj, wj2, Act.put, List.setIfInBounds_toArray, List.set_cons_zero, List.set_cons_succ]
      refine Rk.takeP (i := 12) (v := ?_) rfl (by kernel_rfl) (by kernel_rfl) (by kernel_rfl) (by kernel_rfl) (fun _ _ _ h => h) (Or.inl ⟨by kernel_rfl, ?_⟩) (by assumption) ?_
      rotate_left
      ·((intro w hSw; go_simp) <;> with_reducible rfl)
      try simp only [wj, wj2, Act.put, List.setIfInBounds_toArray, List.set_cons_zero, List.set_cons_succ]
      refine Rk.take [14, 15] (i := 13) (v := ?_) rfl (by kernel_rfl) (by kernel_rfl) (by kernel_rfl) (by kernel_rfl) (by kernel_rfl) (fun _ _ _ h => h) (Or.inl ⟨by kernel_rfl, ?_⟩) (by assumption) ?_
      rotate_left
      ·((intro w hSw; (try dsimp only at hSw); go_simp) <;> with_reducible rfl)
      try simp only [wj, wj2, Act.put, List.setIfInBounds_toArray, List.set_cons_zero, List.set_cons_succ]
      refine Rk.one (i := 14) (by kernel_rfl) rfl (fun KK hK => ?_)
      rw [if_pos (by kernel_rfl)]
      go_simp
      ((with_reducible refine (NC.out x HX.out y HY.out _ (HKW.out.trans (K59.below (hHeld.2.2.2.2.2.2)))).mono ?_); rintro e u ⟨rfl, hb⟩)
      first | (refine hK.out _ _ (fun _ => HS.out _ _ hHeld hb) (fun hHeld => ?_)) | (refine hK.out _ _ (HS.out _ _ hHeld hb) (fun hHeld => ?_)) | (go_wp2_with fail; refine hK.out _ _ (HS.out _ _ hHeld hb) (fun hHeld => ?_))
      clear hK KK
      refine Rk.tail [15, 16] [_, _] (by kernel_rfl) (by kernel_rfl) rfl (by decide) ?_
      obtain ⟨e0, e1, e2, e3, e4, e5, KB0⟩ := hHeld
      have hz6 : u.drew.cell? ⟨g, (m + 1) * 3, none⟩ = some (.int .i64 x.1) /\ u.drew.cell? ⟨g, (m + 1) * 3 + 1, none⟩ = some (.slice x.2.1 x.2.2.1 x.2.2.2.1) /\ u.drew.cell? ⟨g, (m + 1) * 3 + 2, none⟩ = some (.bool x.2.2.2.2) /\ u.drew.cell? ⟨g, m * 3, none⟩ = some (.int .i64 y.1) /\ u.drew.cell? ⟨g, m * 3 + 1, none⟩ = some (.slice y.2.1 y.2.2.1 y.2.2.2.1) /\ u.drew.cell? ⟨g, m * 3 + 2, none⟩ = some (.bool y.2.2.2.2) /\ Below u.heap.size u u.drew := ⟨e0, e1, e2, e3, e4, e5, (Below.refl _ _).drew⟩
      have OU := own_belowE hOW.out KB0
      have KU : K59 wr u := K59.below KB0
      have HJ2 : Hid (insJ cf a m (swE L2 (m + 1) m) = insJ cf a i L) := Lib.hid (by
       rw [<- hJ.out, insJ_go (by omega) (by rw [HX0.out, HY0.out, HR9.out]; exact hneg)])
      have HM2 : Hid ((swE L2 (m + 1) m).length = n /\ ∀ z ∈ swE L2 (m + 1) m, z ∈ L0) := Lib.hid ⟨by rw [swE_len]; exact hM.out.1, fun z hz => hM.out.2 _ (swE_mem hm1 hm0 hz)⟩
      have HEND := Lib.hid (swE_world (x := x) (y := y) hbase OU hM.out.1 hm1 hm0 HX0.out HY0.out)
      have HBU := Lib.hid (hB.out.trans (KB0.mono (by have := hB.out.size; omega)))
      have HKU := Lib.hid (hK.out.trans KU)
      have f0 : u.frozen? ⟨g, (m + 1) * 3, none⟩ = false := OU.frozenAt _
      have f1 : u.frozen? ⟨g, (m + 1) * 3 + 1, none⟩ = false := OU.frozenAt _
      have f2 : u.frozen? ⟨g, (m + 1) * 3 + 2, none⟩ = false := OU.frozenAt _
      have f3 : u.frozen? ⟨g, m * 3, none⟩ = false := OU.frozenAt _
      have f4 : u.frozen? ⟨g, m * 3 + 1, none⟩ = false := OU.frozenAt _
      have f5 : u.frozen? ⟨g, m * 3 + 2, none⟩ = false := OU.frozenAt _
      clear hJ hM hOW hB hK HS HX HY OU KU hm1 hm0 KB0
      go_wp2_with fail
      refine Rk.begin (S := fun wS => wS.cell? ⟨g, (m + 1) * 3, none⟩ = some (.int .i64 x.1) /\ wS.cell? ⟨g, (m + 1) * 3 + 1, none⟩ = some (.slice x.2.1 x.2.2.1 x.2.2.2.1) /\ wS.cell? ⟨g, (m + 1) * 3 + 2, none⟩ = some (.bool x.2.2.2.2) /\ wS.cell? ⟨g, m * 3, none⟩ = some (.int .i64 y.1) /\ wS.cell? ⟨g, m * 3 + 1, none⟩ = some (.slice y.2.1 y.2.2.1 y.2.2.2.1) /\ wS.cell? ⟨g, m * 3 + 2, none⟩ = some (.bool y.2.2.2.2) /\ Below u.heap.size u wS) 15 (by kernel_rfl) hz6 (fun hHeld => ?_)
      refine Rk.takeP (i := 0) (v := ?_) rfl (by kernel_rfl) (by kernel_rfl) (by kernel_rfl) (by kernel_rfl) (fun _ _ _ h => h) (Or.inl ⟨by kernel_rfl, ?_⟩) (by assumption) ?_
      rotate_left
      ·((intro w hSw; go_simp) <;> with_reducible rfl)
      try simp only [wj, wj2, Act.put, List.setIfInBounds_toArray, List.set_cons_zero, List.set_cons_succ]
      refine Rk.takeP (i := 1) (v := ?_) rfl (by kernel_rfl) (by kernel_rfl) (by kernel_rfl) (by kernel_rfl) (fun _ _ _ h => h) (Or.inl ⟨by kernel_rfl, ?_⟩) (by assumption) ?_
      rotate_left
      ·((intro w hSw; go_simp) <;> with_reducible rfl)
      try simp only [wj, wj2, Act.put, List.setIfInBounds_toArray, List.set_cons_zero, List.set_cons_succ]
      refine Rk.takeP (i := 2) (v := ?_) rfl (by kernel_rfl) (by kernel_rfl) (by kernel_rfl) (by kernel_rfl) (fun _ _ _ h => h) (Or.inl ⟨by kernel_rfl, ?_⟩) (by assumption) ?_
      rotate_left
      ·((intro w hSw; go_simp) <;> with_reducible rfl)
      try simp only [wj, wj2, Act.put, List.setIfInBounds_toArray, List.set_cons_zero, List.set_cons_succ]
      refine Rk.takeP (i := 3) (v := ?_) rfl (by kernel_rfl) (by kernel_rfl) (by kernel_rfl) (by kernel_rfl) (fun _ _ _ h => h) (Or.inl ⟨by kernel_rfl, ?_⟩) (by assumption) ?_
      rotate_left
      ·((intro w hSw; go_simp) <;> with_reducible rfl)
      try simp only [wj, wj2, Act.put, List.setIfInBounds_toArray, List.set_cons_zero, List.set_cons_succ]
      refine Rk.takeP (i := 4) (v := ?_) rfl (by kernel_rfl) (by kernel_rfl) (by kernel_rfl) (by kernel_rfl) (fun _ _ _ h => h) (Or.inl ⟨by kernel_rfl, ?_⟩) (by assumption) ?_
      rotate_left
      ·((intro w hSw; go_simp) <;> with_reducible rfl)
      try simp only [wj, wj2, Act.put, List.setIfInBounds_toArray, List.set_cons_zero, List.set_cons_succ]
      refine Rk.takeP (i := 5) (v := ?_) rfl (by kernel_rfl) (by kernel_rfl) (by kernel_rfl) (by kernel_rfl) (fun _ _ _ h => h) (Or.inl ⟨by kernel_rfl, ?_⟩) (by assumption) ?_
      rotate_left
      ·((intro w hSw; go_simp) <;> with_reducible rfl)
      try simp only [wj, wj2, Act.put, List.setIfInBounds_toArray, List.set_cons_zero, List.set_cons_succ]
      refine Rk.takeP (i := 6) (v := ?_) rfl (by kernel_rfl) (by kernel_rfl) (by kernel_rfl) (by kernel_rfl) (fun _ _ _ h => h) (Or.inl ⟨by kernel_rfl, ?_⟩) (by assumption) ?_
      rotate_left
      ·((intro w hSw; go_simp) <;> with_reducible rfl)
      try simp only [wj, wj2, Act.put, List.setIfInBounds_toArray, List.set_cons_zero, List.set_cons_succ]
      refine Rk.takeP (i := 7) (v := ?_) rfl (by kernel_rfl) (by kernel_rfl) (by kernel_rfl) (by kernel_rfl) (fun _ _ _ h => h) (Or.inl ⟨by kernel_rfl, ?_⟩) (by assumption) ?_
      rotate_left
      ·((intro w hSw; go_simp) <;> with_reducible rfl)
      try simp only [wj, wj2, Act.put, List.setIfInBounds_toArray, List.set_cons_zero, List.set_cons_succ]
      refine Rk.takeP (i := 8) (v := ?_) rfl (by kernel_rfl) (by kernel_rfl) (by kernel_rfl) (by kernel_rfl) (fun _ _ _ h => h) (Or.inl ⟨by kernel_rfl, ?_⟩) (by assumption) ?_
      rotate_left
      ·((intro w hSw; go_simp) <;> with_reducible rfl)
      try simp only [wj, wj2, Act.put, List.setIfInBounds_toArray, List.set_cons_zero, List.set_cons_succ]
      refine Rk.take [15] (i := 9) (v := ?_) rfl (by kernel_rfl) (by kernel_rfl) (by kernel_rfl) (by kernel_rfl) (by kernel_rfl) (fun _ _ _ h => h) (Or.inl ⟨by kernel_rfl, ?_⟩) (by assumption) ?_
      rotate_left
      ·((intro w hSw; (try dsimp only at hSw); go_simp) <;> with_reducible rfl)
      try simp only [wj, wj2, Act.put, List.setIfInBounds_toArray, List.set_cons_zero, List.set_cons_succ]
      refine Rk.takeP (i := 10) (v := ?_) rfl (by kernel_rfl) (by kernel_rfl) (by kernel_rfl) (by kernel_rfl) (fun _ _ _ h => h) (Or.inl ⟨by kernel_rfl, ?_⟩) (by assumption) ?_
      rotate_left
      ·((intro w hSw; go_simp) <;> with_reducible rfl)
      try simp only [wj, wj2, Act.put, List.setIfInBounds_toArray, List.set_cons_zero, List.set_cons_succ]
      refine Rk.takeP (i := 11) (v := ?_) rfl (by kernel_rfl) (by kernel_rfl) (by kernel_rfl) (by kernel_rfl) (fun _ _ _ h => h) (Or.inl ⟨by kernel_rfl, ?_⟩) (by assumption) ?_
      rotate_left
      ·((intro w hSw; go_simp) <;> with_reducible rfl)
      try simp only [wj, wj2, Act.put, List.setIfInBounds_toArray, List.set_cons_zero, List.set_cons_succ]
      refine Rk.takeP (i := 12) (v := ?_) rfl (by kernel_rfl) (by kernel_rfl) (by kernel_rfl) (by kernel_rfl) (fun _ _ _ h => h) (Or.inl ⟨by kernel_rfl, ?_⟩) (by assumption) ?_
      rotate_left
      ·((intro w hSw; go_simp) <;> with_reducible rfl)
      try simp only [wj, wj2, Act.put, List.setIfInBounds_toArray, List.set_cons_zero, List.set_cons_succ]
      refine Rk.take [15] (i := 13) (v := ?_) rfl (by kernel_rfl) (by kernel_rfl) (by kernel_rfl) (by kernel_rfl) (by kernel_rfl) (fun _ _ _ h => h) (Or.inl ⟨by kernel_rfl, ?_⟩) (by assumption) ?_
      rotate_left
      ·((intro w hSw; (try dsimp only at hSw); go_simp) <;> with_reducible rfl)
      try simp only [wj, wj2, Act.put, List.setIfInBounds_toArray, List.set_cons_zero, List.set_cons_succ]
      refine Rk.takeP (i := 14) (v := ?_) rfl (by kernel_rfl) (by kernel_rfl) (by kernel_rfl) (by kernel_rfl) (fun _ _ _ h => h) (Or.inl ⟨by kernel_rfl, ?_⟩) (by assumption) ?_
      rotate_left
      ·((intro w hSw; go_simp) <;> with_reducible rfl)
      try simp only [wj, wj2, Act.put, List.setIfInBounds_toArray, List.set_cons_zero, List.set_cons_succ]
      refine Rk.tail [15, 16, 17] [_, _, _] (by kernel_rfl) (by kernel_rfl) rfl (by decide) ?_
      go_wp2_with fail
      go_roundw
      case rel => exact ⟨m, swE L2 (m + 1) m, by go_num, by omega, by omega, HJ2, HM2, Lib.hid HEND.out.1.drew, Lib.hid (below_drewN (HBU.out.trans (HEND.out.2.2.mono (by have := HBU.out.size; omega))) _), Lib.hid ((HKU.out.trans HEND.out.2.1).trans (K59.below (below_drewN (Below.refl _ _) _)))⟩
      case measure => simp [intOf]
     ·have hr2 : decide (cf x y < 0) = false := by rw [HR9.out]; simpa using hneg
      have HI2 : Hid (insI cf a (b - (i + 1)) (i + 1) L2 = RES) := Lib.hid (by
       have h := hJ.out
       rw [insJ_no (by rw [HX0.out, HY0.out, HR9.out]; exact hneg)] at h
       rw [h]; exact HI.out)
      go_wp2_with fail
      refine Rk.begin (S := fun wS => wS.cell? ⟨g, (m + 1) * 3, none⟩ = some (.int .i64 x.1) /\ wS.cell? ⟨g, (m + 1) * 3 + 1, none⟩ = some (.slice x.2.1 x.2.2.1 x.2.2.2.1) /\ wS.cell? ⟨g, (m + 1) * 3 + 2, none⟩ = some (.bool x.2.2.2.2) /\ wS.cell? ⟨g, m * 3, none⟩ = some (.int .i64 y.1) /\ wS.cell? ⟨g, m * 3 + 1, none⟩ = some (.slice y.2.1 y.2.2.1 y.2.2.2.1) /\ wS.cell? ⟨g, m * 3 + 2, none⟩ = some (.bool y.2.2.2.2) /\ Below wr.heap.size wr wS) 15 (by kernel_rfl) hz4 (fun hHeld => ?_)
      refine Rk.takeP (i := 0) (v := ?_) rfl (by kernel_rfl) (by kernel_rfl) (by kernel_rfl) (by kernel_rfl) (fun _ _ _ h => h) (Or.inl ⟨by kernel_rfl, ?_⟩) (by assumption) ?_
      rotate_left
      ·((intro w hSw; go_simp) <;> with_reducible rfl)
      try simp only [wj, wj2, Act.put, List.setIfInBounds_toArray, List.set_cons_zero, List.set_cons_succ]
      refine Rk.takeP (i := 1) (v := ?_) rfl (by kernel_rfl) (by kernel_rfl) (by kernel_rfl) (by kernel_rfl) (fun _ _ _ h => h) (Or.inl ⟨by kernel_rfl, ?_⟩) (by assumption) ?_
      rotate_left
      ·((intro w hSw; go_simp) <;> with_reducible rfl)
      try simp only [wj, wj2, Act.put, List.setIfInBounds_toArray, List.set_cons_zero, List.set_cons_succ]
      refine Rk.takeP (i := 2) (v := ?_) rfl (by kernel_rfl) (by kernel_rfl) (by kernel_rfl) (by kernel_rfl) (fun _ _ _ h => h) (Or.inl ⟨by kernel_rfl, ?_⟩) (by assumption) ?_
      rotate_left
      ·((intro w hSw; go_simp) <;> with_reducible rfl)
      try simp only [wj, wj2, Act.put, List.setIfInBounds_toArray, List.set_cons_zero, List.set_cons_succ]
      refine Rk.takeP (i := 3) (v := ?_) rfl (by kernel_rfl) (by kernel_rfl) (by kernel_rfl) (by kernel_rfl) (fun _ _ _ h => h) (Or.inl ⟨by kernel_rfl, ?_⟩) (by assumption) ?_
      rotate_left
      ·((intro w hSw; go_simp) <;> with_reducible rfl)
      try simp only [wj, wj2, Act.put, List.setIfInBounds_toArray, List.set_cons_zero, List.set_cons_succ]
      refine Rk.takeP (i := 4) (v := ?_) rfl (by kernel_rfl) (by kernel_rfl) (by kernel_rfl) (by kernel_rfl) (fun _ _ _ h => h) (Or.inl ⟨by kernel_rfl, ?_⟩) (by assumption) ?_
      rotate_left
      ·((intro w hSw; go_simp) <;> with_reducible rfl)
      try simp only [wj, wj2, Act.put, List.setIfInBounds_toArray, List.set_cons_zero, List.set_cons_succ]
      refine Rk.takeP (i := 5) (v := ?_) rfl (by kernel_rfl) (by kernel_rfl) (by kernel_rfl) (by kernel_rfl) (fun _ _ _ h => h) (Or.inl ⟨by kernel_rfl, ?_⟩) (by assumption) ?_
      rotate_left
      ·((intro w hSw; go_simp) <;> with_reducible rfl)
      try simp only [wj, wj2, Act.put, List.setIfInBounds_toArray, List.set_cons_zero, List.set_cons_succ]
      refine Rk.takeP (i := 6) (v := ?_) rfl (by kernel_rfl) (by kernel_rfl) (by kernel_rfl) (by kernel_rfl) (fun _ _ _ h => h) (Or.inl ⟨by kernel_rfl, ?_⟩) (by assumption) ?_
      rotate_left
      ·((intro w hSw; go_simp) <;> with_reducible rfl)
      try simp only [wj, wj2, Act.put, List.setIfInBounds_toArray, List.set_cons_zero, List.set_cons_succ]
      refine Rk.takeP (i := 7) (v := ?_) rfl (by kernel_rfl) (by kernel_rfl) (by kernel_rfl) (by kernel_rfl) (fun _ _ _ h => h) (Or.inl ⟨by kernel_rfl, ?_⟩) (by assumption) ?_
      rotate_left
      ·((intro w hSw; go_simp) <;> with_reducible rfl)
      try simp only [wj, wj2, Act.put, List.setIfInBounds_toArray, List.set_cons_zero, List.set_cons_succ]
      refine Rk.take [14, 15] (i := 8) (v := ?_) rfl (by kernel_rfl) (by kernel_rfl) (by kernel_rfl) (by kernel_rfl) (by kernel_rfl) (fun _ _ _ h => h) (Or.inl ⟨by kernel_rfl, ?_⟩) (by assumption) ?_
      rotate_left
      ·((intro w hSw; (try dsimp only at hSw); go_simp) <;> with_reducible rfl)
      try simp only [wj, wj2, Act.put, List.setIfInBounds_toArray, List.set_cons_zero, List.set_cons_succ]
      refine Rk.takeP (i := 9) (v := ?_) rfl (by kernel_rfl) (by kernel_rfl) (by kernel_rfl) (by kernel_rfl) (fun _ _ _ h => h) (Or.inl ⟨by kernel_rfl, ?_⟩) (by assumption) ?_
      rotate_left
      ·((intro w hSw; go_simp) <;> with_reducible rfl)
      try simp only [wj, wj2, Act.put, List.setIfInBounds_toArray, List.set_cons_zero, List.set_cons_succ]
      refine Rk.takeP (i := 10) (v := ?_) rfl (by kernel_rfl) (by kernel_rfl) (by kernel_rfl) (by kernel_rfl) (fun _ _ _ h => h) (Or.inl ⟨by kernel_rfl, ?_⟩) (by assumption) ?_
      rotate_left
      ·((intro w hSw; go_simp) <;> with_reducible rfl)
      try simp only [wj, wj2, Act.put, List.setIfInBounds_toArray, List.set_cons_zero, List.set_cons_succ]
      refine Rk.takeP (i := 11) (v := ?_) rfl (by kernel_rfl) (by kernel_rfl) (by kernel_rfl) (by kernel_rfl) (fun _ _ _ h => h) (Or.inl ⟨by kernel_rfl, ?_⟩) (by assumption) ?_
      rotate_left
      ·((intro w hSw; go_simp) <;> with_reducible rfl)
      try simp only [wj, wj2, Act.put, List.setIfInBounds_toArray, List.set_cons_zero, List.set_cons_succ]
      refine Rk.takeP (i := 12) (v := ?_) rfl (by kernel_rfl) (by kernel_rfl) (by kernel_rfl) (by kernel_rfl) (fun _ _ _ h => h) (Or.inl ⟨by kernel_rfl, ?_⟩) (by assumption) ?_
      rotate_left
      ·((intro w hSw; go_simp) <;> with_reducible rfl)
      try simp only [wj, wj2, Act.put, List.setIfInBounds_toArray, List.set_cons_zero, List.set_cons_succ]
      refine Rk.take [14, 15] (i := 13) (v := ?_) rfl (by kernel_rfl) (by kernel_rfl) (by kernel_rfl) (by kernel_rfl) (by kernel_rfl) (fun _ _ _ h => h) (Or.inl ⟨by kernel_rfl, ?_⟩) (by assumption) ?_
      rotate_left
      ·((intro w hSw; (try dsimp only at hSw); go_simp) <;> with_reducible rfl)
      try simp only [wj, wj2, Act.put, List.setIfInBounds_toArray, List.set_cons_zero, List.set_cons_succ]
      refine Rk.one (i := 14) (by kernel_rfl) rfl (fun KK hK => ?_)
      rw [if_pos (by kernel_rfl)]
      go_simp
      ((with_reducible refine (NC.out x HX.out y HY.out _ (HKW.out.trans (K59.below (hHeld.2.2.2.2.2.2)))).mono ?_); rintro e u ⟨rfl, hb⟩)
      first | (refine hK.out _ _ (fun _ => HS.out _ _ hHeld hb) (fun hHeld => ?_)) | (refine hK.out _ _ (HS.out _ _ hHeld hb) (fun hHeld => ?_)) | (go_wp2_with fail; refine hK.out _ _ (HS.out _ _ hHeld hb) (fun hHeld => ?_))
      clear hK KK
      refine Rk.tail [15, 16] [_, _] (by kernel_rfl) (by kernel_rfl) rfl (by decide) ?_
      have KB0 := hHeld.2.2.2.2.2.2
      have O2 := Lib.hid (own_belowE hOW.out KB0)
      have B2 := Lib.hid (hB.out.trans (KB0.mono (by have := hB.out.size; omega)))
      have K2 := Lib.hid (hK.out.trans (K59.below KB0))
      clear hHeld HS hJ hOW hB hK KB0
      go_wp2_with fail
      exact ⟨⟨i + 1, L2, by go_num, by omega, by omega, HI2, hM, O2, B2, K2⟩, by simp [intOf]; omega⟩
    ·obtain rfl : j = a := by omega
     have j1 : decide ((j : Int) < (j : Int)) = false := by simp
     have HI2 : Hid (insI cf j (b - (i + 1)) (i + 1) L2 = RES) := Lib.hid (by
      have h := hJ.out
      rw [insJ_stop (Nat.le_refl _)] at h
      rw [h]; exact HI.out)
     clear hJ
     go_wp2_with fail
     go_quiet (fail)
     go_wp2_with fail
     exact ⟨⟨i + 1, L2, by go_num, by omega, by omega, HI2, hM, hOW, Lib.hid (below_drewN hB.out _), Lib.hid (hK.out.trans (K59.below (below_drewN (Below.refl _ _) _)))⟩, by simp [intOf]; omega⟩
  ·have HE : Hid (L = RES) := Lib.hid (by
    have h := hR.out
    rw [show b - i = 0 by omega] at h
    exact h)
   go_wp2
   go_end0
   exact ⟨rfl, hB.out, hK.out, by rw [<- HE.out]; exact hOW⟩
end Go.Proofs.YtbicmlkjonaccaaDoor.Ln


namespace Go.Proofs.YtbicmlkjonaccaaDoor.Ln
open Go.ChangeShapes Go.WideShapes Go.ChangeAt Go.RowKit
open Go.Proofs.YtbicmlkjonaccaaDoor.Nm
set_option linter.unusedVariables false
set_option linter.unusedSimpArgs false
set_option maxRecDepth 8000

/-- Ranges change places, element by element. -/
def swR : Nat -> Nat -> Nat -> List E5 -> List E5
 | 0, _, _, L => L
 | n + 1, a, b, L => swR n (a + 1) (b + 1) (swE L a b)
theorem swR_len : ∀ (n a b : Nat) (L : List E5), (swR n a b L).length = L.length
 | 0, _, _, _ => rfl
 | n + 1, a, b, L => by unfold swR; rw [swR_len n, swE_len]
theorem swE_mid (Q : List E5) (x : E5) (M : List E5) (y : E5) (R : List E5) : swE (Q ++ x :: (M ++ y :: R)) Q.length (Q.length + 1 + M.length) = Q ++ y :: (M ++ x :: R) := by
 have e1 : (Q ++ x :: (M ++ y :: R)).getD Q.length e50 = x := by simp [List.getD]
 have e2 : (Q ++ x :: (M ++ y :: R)).getD (Q.length + 1 + M.length) e50 = y := by
  unfold List.getD
  rw [List.getElem?_append_right (by omega), show Q.length + 1 + M.length - Q.length = M.length + 1 by omega, List.getElem?_cons_succ, List.getElem?_append_right (Nat.le_refl _), Nat.sub_self]
  rfl
 unfold swE
 rw [e1, e2, List.set_append_right _ _ (Nat.le_refl _), Nat.sub_self, List.set_cons_zero, List.set_append_right _ _ (by omega), show Q.length + 1 + M.length - Q.length = M.length + 1 by omega, List.set_cons_succ, List.set_append_right _ _ (Nat.le_refl _), Nat.sub_self, List.set_cons_zero]
theorem swR_mid : ∀ (A B Q M R : List E5), A.length = B.length -> swR A.length Q.length (Q.length + A.length + M.length) (Q ++ (A ++ (M ++ (B ++ R)))) = Q ++ (B ++ (M ++ (A ++ R)))
 | [], [], Q, M, R, _ => rfl
 | [], _ :: _, _, _, _, h => absurd h (by simp)
 | _ :: _, [], _, _, _, h => absurd h (by simp)
 | x :: A, y :: B, Q, M, R, h => by
  have hl : A.length = B.length := by simpa using h
  have e0 : swE (Q ++ (x :: A ++ (M ++ (y :: B ++ R)))) Q.length (Q.length + (A.length + 1) + M.length) = Q ++ y :: (A ++ (M ++ (x :: (B ++ R)))) := by
   have h1 := swE_mid Q x (A ++ M) y (B ++ R)
   rw [show Q.length + 1 + (A ++ M).length = Q.length + (A.length + 1) + M.length by simp; omega] at h1
   simpa using h1
  have ih := swR_mid A B (Q ++ [y]) (M ++ [x]) R hl
  rw [List.length_cons]
  unfold swR
  rw [e0]
  rw [show (Q ++ [y]).length = Q.length + 1 by simp, show Q.length + 1 + A.length + (M ++ [x]).length = Q.length + (A.length + 1) + M.length + 1 by simp; omega] at ih
  have e2 : Q ++ y :: (A ++ (M ++ (x :: (B ++ R)))) = Q ++ [y] ++ (A ++ (M ++ [x] ++ (B ++ R))) := by simp
  rw [e2, ih]
  simp
theorem swq_world {g cap base n p q : Nat} {L2 : List E5} {x y : E5} {u : World} (hb : base <= g \/ n = 0) (O : u.ownsRow base 36 3 (.slice (some ⟨g, 0, none⟩) n cap) n (rowE L2)) (hl : L2.length = n) (h1 : p < L2.length) (h0 : q < L2.length) (hx : L2.getD p e50 = x) (hy : L2.getD q e50 = y) :
  ((((((u.setCell ⟨g, p * 3, none⟩ (.int .i64 y.1)).setCell ⟨g, p * 3 + 1, none⟩ (.slice y.2.1 y.2.2.1 y.2.2.2.1)).setCell ⟨g, p * 3 + 2, none⟩ (.bool y.2.2.2.2)).setCell ⟨g, q * 3, none⟩ (.int .i64 x.1)).setCell ⟨g, q * 3 + 1, none⟩ (.slice x.2.1 x.2.2.1 x.2.2.2.1)).setCell ⟨g, q * 3 + 2, none⟩ (.bool x.2.2.2.2)).ownsRow base 36 3 (.slice (some ⟨g, 0, none⟩) n cap) n (rowE (swE L2 p q)) /\ K59 u ((((((u.setCell ⟨g, p * 3, none⟩ (.int .i64 y.1)).setCell ⟨g, p * 3 + 1, none⟩ (.slice y.2.1 y.2.2.1 y.2.2.2.1)).setCell ⟨g, p * 3 + 2, none⟩ (.bool y.2.2.2.2)).setCell ⟨g, q * 3, none⟩ (.int .i64 x.1)).setCell ⟨g, q * 3 + 1, none⟩ (.slice x.2.1 x.2.2.1 x.2.2.2.1)).setCell ⟨g, q * 3 + 2, none⟩ (.bool x.2.2.2.2)) /\ Below base u ((((((u.setCell ⟨g, p * 3, none⟩ (.int .i64 y.1)).setCell ⟨g, p * 3 + 1, none⟩ (.slice y.2.1 y.2.2.1 y.2.2.2.1)).setCell ⟨g, p * 3 + 2, none⟩ (.bool y.2.2.2.2)).setCell ⟨g, q * 3, none⟩ (.int .i64 x.1)).setCell ⟨g, q * 3 + 1, none⟩ (.slice x.2.1 x.2.2.1 x.2.2.2.1)).setCell ⟨g, q * 3 + 2, none⟩ (.bool x.2.2.2.2)) := by
 have hbg : base <= g := by
  rcases hb with h | h
  ·exact h
  ·omega
 have Q0 := O.stored (p * 3) (.int .i64 y.1)
 have J0 := K59.own O (by decide) Q0.2
 have Q1 := Q0.1.stored (p * 3 + 1) (.slice y.2.1 y.2.2.1 y.2.2.2.1)
 have J1 := K59.own Q0.1 (by decide) Q1.2
 have Q2 := Q1.1.stored (p * 3 + 2) (.bool y.2.2.2.2)
 have J2 := K59.own Q1.1 (by decide) Q2.2
 have Q3 := Q2.1.stored (q * 3) (.int .i64 x.1)
 have J3 := K59.own Q2.1 (by decide) Q3.2
 have Q4 := Q3.1.stored (q * 3 + 1) (.slice x.2.1 x.2.2.1 x.2.2.2.1)
 have J4 := K59.own Q3.1 (by decide) Q4.2
 have Q5 := Q4.1.stored (q * 3 + 2) (.bool x.2.2.2.2)
 have J5 := K59.own Q4.1 (by decide) Q5.2
 refine ⟨?_, ((((J0.trans J1).trans J2).trans J3).trans J4).trans J5, ?_⟩
 ·have h := Q5.1
  rw [rowE_set L2 p y h1, rowE_set (L2.set p y) q x (by simpa using h0)] at h
  unfold swE
  rw [hx, hy]
  exact h
 ·exact ((((((Below.refl base u).setCell (p := ⟨g, p * 3, none⟩) hbg _).setCell (p := ⟨g, p * 3 + 1, none⟩) hbg _).setCell (p := ⟨g, p * 3 + 2, none⟩) hbg _).setCell (p := ⟨g, q * 3, none⟩) hbg _).setCell (p := ⟨g, q * 3 + 1, none⟩) hbg _).setCell (p := ⟨g, q * 3 + 2, none⟩) hbg _

set_option maxRecDepth 100000 in
set_option maxHeartbeats 8000000 in
/-- Two ranges of a row change places. -/
theorem swrN (g cap base n a b k : Nat) (L0 : List E5) (w : World) (hn : n <= 100000) (hl : L0.length = n) (hab : a + k <= b) (hbn : b + k <= n) (hO : Hid (w.ownsRow base 36 3 (.slice (some ⟨g, 0, none⟩) n cap) n (rowE L0))) :
  Calls Tryd.prog 135 #[.slice (some ⟨g, 0, none⟩) n cap, .int .i64 (a : Int), .int .i64 (b : Int), .int .i64 (k : Int), .func (.func 72) #[] #[]] w fun e w' => e = .returned (.tuple #[]) /\ Below base w w' /\ K59 w w' /\ Hid (w'.ownsRow base 36 3 (.slice (some ⟨g, 0, none⟩) n cap) n (rowE (swR k a b L0))) := by
 obtain ⟨RES, hRES⟩ : ∃ RES, swR k a b L0 = RES := ⟨_, rfl⟩
 rw [hRES]
 have HRES := Lib.hid hRES
 have HL := Lib.hid hl
 have hbase : base <= g \/ n = 0 := by
  rcases hO.out.2 with ⟨h, hz⟩ | ⟨g', cap', cur, h, hb, _⟩
  ·simp at h
  ·cases h; exact .inl hb
 clear hRES hl
 go_enter Tryd.func135, Tryd.ntmps135
 go_wp2_with fail
 go_loopw [10] (fun iv wr => ∃ (i : Nat) (L : List E5), iv = .int .i64 (i : Int) /\ i <= k /\ Hid (swR (k - i) (a + i) (b + i) L = RES) /\ Hid (L.length = n) /\ Hid (wr.ownsRow base 36 3 (.slice (some ⟨g, 0, none⟩) n cap) n (rowE L)) /\ Hid (Below base w wr) /\ Hid (K59 w wr)) (fun iv _ => k - (intOf iv).toNat)
 case atStart => exact ⟨0, L0, rfl, Nat.zero_le _, HRES, HL, hO, Lib.hid (Below.refl _ _), Lib.hid (fun _ _ h => h)⟩
 case round =>
  obtain ⟨i, L, rfl, hi, hR, hM, hOW, hB, hK⟩ := hrel
  by_cases hlt : i < k
  ·have i2 : (i : Int) < k := by omega
   obtain ⟨p, hp⟩ : ∃ p, p = a + i := ⟨_, rfl⟩
   obtain ⟨q, hq⟩ : ∃ q, q = b + i := ⟨_, rfl⟩
   have hpL : p < L.length := by rw [hM.out]; omega
   have hqL : q < L.length := by rw [hM.out]; omega
   have HI : Hid (swR (k - (i + 1)) (a + (i + 1)) (b + (i + 1)) (swE L p q) = RES) := Lib.hid (by
    have h := hR.out
    rw [show k - i = (k - (i + 1)) + 1 by omega, <- hp, <- hq] at h
    unfold swR at h
    rw [show a + (i + 1) = p + 1 by omega, show b + (i + 1) = q + 1 by omega]
    exact h)
   obtain ⟨v0, v1, v2⟩ := rowE_get L p hpL
   obtain ⟨u0, u1, u2⟩ := rowE_get L q hqL
   have c0 := (hOW.out.cellAt (p * 3) (by omega)).trans v0
   have c1 := (hOW.out.cellAt (p * 3 + 1) (by omega)).trans v1
   have c2 := (hOW.out.cellAt (p * 3 + 2) (by omega)).trans v2
   have d0 := (hOW.out.cellAt (q * 3) (by omega)).trans u0
   have d1 := (hOW.out.cellAt (q * 3 + 1) (by omega)).trans u1
   have d2 := (hOW.out.cellAt (q * 3 + 2) (by omega)).trans u2
   obtain ⟨x, hx⟩ : ∃ x, L.getD p e50 = x := ⟨_, rfl⟩
   obtain ⟨y, hy⟩ : ∃ y, L.getD q e50 = y := ⟨_, rfl⟩
   rw [hx] at c0 c1 c2
   rw [hy] at d0 d1 d2
   have wa : IntKind.i64.wrap ((a : Int) + (i : Int)) = (p : Int) := by rw [IntKind.wrap_i64]; omega
   have wb : IntKind.i64.wrap ((b : Int) + (i : Int)) = (q : Int) := by rw [IntKind.wrap_i64]; omega
   have wa2 : (a : Int) + (i : Int) = (p : Int) := by omega
   have wb2 : (b : Int) + (i : Int) = (q : Int) := by omega
   have wp : IntKind.i64.wrap (p : Int) = (p : Int) := by rw [IntKind.wrap_i64]; have := hM.out; omega
   have wq : IntKind.i64.wrap (q : Int) = (q : Int) := by rw [IntKind.wrap_i64]; have := hM.out; omega
   have j2 : (p : Int) < n := by have := hM.out; omega
   have j3 : (q : Int) < n := by have := hM.out; omega
   have j4 : (0 : Int) <= p := by omega
   have j5 : (0 : Int) <= q := by omega
   have f0 : wr.frozen? ⟨g, p * 3, none⟩ = false := hOW.out.frozenAt _
   have f1 : wr.frozen? ⟨g, p * 3 + 1, none⟩ = false := hOW.out.frozenAt _
   have f2 : wr.frozen? ⟨g, p * 3 + 2, none⟩ = false := hOW.out.frozenAt _
   have f3 : wr.frozen? ⟨g, q * 3, none⟩ = false := hOW.out.frozenAt _
   have f4 : wr.frozen? ⟨g, q * 3 + 1, none⟩ = false := hOW.out.frozenAt _
   have f5 : wr.frozen? ⟨g, q * 3 + 2, none⟩ = false := hOW.out.frozenAt _
   have hz3 : wr.drew.cell? ⟨g, p * 3, none⟩ = some (.int .i64 x.1) /\ wr.drew.cell? ⟨g, p * 3 + 1, none⟩ = some (.slice x.2.1 x.2.2.1 x.2.2.2.1) /\ wr.drew.cell? ⟨g, p * 3 + 2, none⟩ = some (.bool x.2.2.2.2) /\ wr.drew.cell? ⟨g, q * 3, none⟩ = some (.int .i64 y.1) /\ wr.drew.cell? ⟨g, q * 3 + 1, none⟩ = some (.slice y.2.1 y.2.2.1 y.2.2.2.1) /\ wr.drew.cell? ⟨g, q * 3 + 2, none⟩ = some (.bool y.2.2.2.2) /\ Below wr.heap.size wr wr.drew := ⟨c0, c1, c2, d0, d1, d2, (Below.refl _ _).drew⟩
   have HEND := Lib.hid (swq_world (x := x) (y := y) hbase hOW.out hM.out hpL hqL hx hy)
   have HMM : Hid ((swE L p q).length = n) := Lib.hid (by rw [swE_len]; exact hM.out)
   clear v0 v1 v2 u0 u1 u2 hR hM hOW hpL hqL hx hy hp hq
   go_wp2_with fail
   refine Rk.begin (S := fun wS => wS.cell? ⟨g, p * 3, none⟩ = some (.int .i64 x.1) /\ wS.cell? ⟨g, p * 3 + 1, none⟩ = some (.slice x.2.1 x.2.2.1 x.2.2.2.1) /\ wS.cell? ⟨g, p * 3 + 2, none⟩ = some (.bool x.2.2.2.2) /\ wS.cell? ⟨g, q * 3, none⟩ = some (.int .i64 y.1) /\ wS.cell? ⟨g, q * 3 + 1, none⟩ = some (.slice y.2.1 y.2.2.1 y.2.2.2.1) /\ wS.cell? ⟨g, q * 3 + 2, none⟩ = some (.bool y.2.2.2.2) /\ Below wr.heap.size wr wS) 21 (by kernel_rfl) hz3 (fun hHeld => ?_)
   refine Rk.takeP (i := 0) (v := ?_) rfl (by kernel_rfl) (by kernel_rfl) (by kernel_rfl) (by kernel_rfl) (fun _ _ _ h => h) (Or.inl ⟨by kernel_rfl, ?_⟩) (by assumption) ?_
   rotate_left
   ·((intro w hSw; go_simp) <;> with_reducible rfl)
   try simp only [wa, wa2, wb, wb2, wp, wq, Act.put, List.setIfInBounds_toArray, List.set_cons_zero, List.set_cons_succ]
   refine Rk.takeP (i := 1) (v := ?_) rfl (by kernel_rfl) (by kernel_rfl) (by kernel_rfl) (by kernel_rfl) (fun _ _ _ h => h) (Or.inl ⟨by kernel_rfl, ?_⟩) (by assumption) ?_
   rotate_left
   ·((intro w hSw; go_simp) <;> with_reducible rfl)
   try simp only [wa, wa2, wb, wb2, wp, wq, Act.put, List.setIfInBounds_toArray, List.set_cons_zero, List.set_cons_succ]
   refine Rk.takeP (i := 2) (v := ?_) rfl (by kernel_rfl) (by kernel_rfl) (by kernel_rfl) (by kernel_rfl) (fun _ _ _ h => h) (Or.inl ⟨by kernel_rfl, ?_⟩) (by assumption) ?_
   rotate_left
   ·((intro w hSw; go_simp) <;> with_reducible rfl)
   try simp only [wa, wa2, wb, wb2, wp, wq, Act.put, List.setIfInBounds_toArray, List.set_cons_zero, List.set_cons_succ]
   refine Rk.takeP (i := 3) (v := ?_) rfl (by kernel_rfl) (by kernel_rfl) (by kernel_rfl) (by kernel_rfl) (fun _ _ _ h => h) (Or.inl ⟨by kernel_rfl, ?_⟩) (by assumption) ?_
   rotate_left
   ·((intro w hSw; go_simp) <;> with_reducible rfl)
   try simp only [wa, wa2, wb, wb2, wp, wq, Act.put, List.setIfInBounds_toArray, List.set_cons_zero, List.set_cons_succ]
   refine Rk.takeP (i := 4) (v := ?_) rfl (by kernel_rfl) (by kernel_rfl) (by kernel_rfl) (by kernel_rfl) (fun _ _ _ h => h) (Or.inl ⟨by kernel_rfl, ?_⟩) (by assumption) ?_
   rotate_left
   ·((intro w hSw; go_simp) <;> with_reducible rfl)
   try simp only [wa, wa2, wb, wb2, wp, wq, Act.put, List.setIfInBounds_toArray, List.set_cons_zero, List.set_cons_succ]
   refine Rk.takeP (i := 5) (v := ?_) rfl (by kernel_rfl) (by kernel_rfl) (by kernel_rfl) (by kernel_rfl) (fun _ _ _ h => h) (Or.inl ⟨by kernel_rfl, ?_⟩) (by assumption) ?_
   rotate_left
   ·((intro w hSw; go_simp) <;> with_reducible rfl)
   try simp only [wa, wa2, wb, wb2, wp, wq, Act.put, List.setIfInBounds_toArray, List.set_cons_zero, List.set_cons_succ]
   refine Rk.takeP (i := 6) (v := ?_) rfl (by kernel_rfl) (by kernel_rfl) (by kernel_rfl) (by kernel_rfl) (fun _ _ _ h => h) (Or.inl ⟨by kernel_rfl, ?_⟩) (by assumption) ?_
   rotate_left
   ·((intro w hSw; go_simp) <;> with_reducible rfl)
   try simp only [wa, wa2, wb, wb2, wp, wq, Act.put, List.setIfInBounds_toArray, List.set_cons_zero, List.set_cons_succ]
   refine Rk.takeP (i := 7) (v := ?_) rfl (by kernel_rfl) (by kernel_rfl) (by kernel_rfl) (by kernel_rfl) (fun _ _ _ h => h) (Or.inl ⟨by kernel_rfl, ?_⟩) (by assumption) ?_
   rotate_left
   ·((intro w hSw; go_simp) <;> with_reducible rfl)
   try simp only [wa, wa2, wb, wb2, wp, wq, Act.put, List.setIfInBounds_toArray, List.set_cons_zero, List.set_cons_succ]
   refine Rk.takeP (i := 8) (v := ?_) rfl (by kernel_rfl) (by kernel_rfl) (by kernel_rfl) (by kernel_rfl) (fun _ _ _ h => h) (Or.inl ⟨by kernel_rfl, ?_⟩) (by assumption) ?_
   rotate_left
   ·((intro w hSw; go_simp) <;> with_reducible rfl)
   try simp only [wa, wa2, wb, wb2, wp, wq, Act.put, List.setIfInBounds_toArray, List.set_cons_zero, List.set_cons_succ]
   refine Rk.takeP (i := 9) (v := ?_) rfl (by kernel_rfl) (by kernel_rfl) (by kernel_rfl) (by kernel_rfl) (fun _ _ _ h => h) (Or.inl ⟨by kernel_rfl, ?_⟩) (by assumption) ?_
   rotate_left
   ·((intro w hSw; go_simp) <;> with_reducible rfl)
   try simp only [wa, wa2, wb, wb2, wp, wq, Act.put, List.setIfInBounds_toArray, List.set_cons_zero, List.set_cons_succ]
   refine Rk.takeP (i := 10) (v := ?_) rfl (by kernel_rfl) (by kernel_rfl) (by kernel_rfl) (by kernel_rfl) (fun _ _ _ h => h) (Or.inl ⟨by kernel_rfl, ?_⟩) (by assumption) ?_
   rotate_left
   ·((intro w hSw; go_simp) <;> with_reducible rfl)
   try simp only [wa, wa2, wb, wb2, wp, wq, Act.put, List.setIfInBounds_toArray, List.set_cons_zero, List.set_cons_succ]
   refine Rk.takeP (i := 11) (v := ?_) rfl (by kernel_rfl) (by kernel_rfl) (by kernel_rfl) (by kernel_rfl) (fun _ _ _ h => h) (Or.inl ⟨by kernel_rfl, ?_⟩) (by assumption) ?_
   rotate_left
   ·((intro w hSw; go_simp) <;> with_reducible rfl)
   try simp only [wa, wa2, wb, wb2, wp, wq, Act.put, List.setIfInBounds_toArray, List.set_cons_zero, List.set_cons_succ]
   refine Rk.takeP (i := 12) (v := ?_) rfl (by kernel_rfl) (by kernel_rfl) (by kernel_rfl) (by kernel_rfl) (fun _ _ _ h => h) (Or.inl ⟨by kernel_rfl, ?_⟩) (by assumption) ?_
   rotate_left
   ·((intro w hSw; go_simp) <;> with_reducible rfl)
   try simp only [wa, wa2, wb, wb2, wp, wq, Act.put, List.setIfInBounds_toArray, List.set_cons_zero, List.set_cons_succ]
   refine Rk.take [21] (i := 13) (v := ?_) rfl (by kernel_rfl) (by kernel_rfl) (by kernel_rfl) (by kernel_rfl) (by kernel_rfl) (fun _ _ _ h => h) (Or.inl ⟨by kernel_rfl, ?_⟩) (by assumption) ?_
   rotate_left
   ·((intro w hSw; (try dsimp only at hSw); go_simp) <;> with_reducible rfl)
   try simp only [wa, wa2, wb, wb2, wp, wq, Act.put, List.setIfInBounds_toArray, List.set_cons_zero, List.set_cons_succ]
   refine Rk.takeP (i := 14) (v := ?_) rfl (by kernel_rfl) (by kernel_rfl) (by kernel_rfl) (by kernel_rfl) (fun _ _ _ h => h) (Or.inl ⟨by kernel_rfl, ?_⟩) (by assumption) ?_
   rotate_left
   ·((intro w hSw; go_simp) <;> with_reducible rfl)
   try simp only [wa, wa2, wb, wb2, wp, wq, Act.put, List.setIfInBounds_toArray, List.set_cons_zero, List.set_cons_succ]
   refine Rk.takeP (i := 15) (v := ?_) rfl (by kernel_rfl) (by kernel_rfl) (by kernel_rfl) (by kernel_rfl) (fun _ _ _ h => h) (Or.inl ⟨by kernel_rfl, ?_⟩) (by assumption) ?_
   rotate_left
   ·((intro w hSw; go_simp) <;> with_reducible rfl)
   try simp only [wa, wa2, wb, wb2, wp, wq, Act.put, List.setIfInBounds_toArray, List.set_cons_zero, List.set_cons_succ]
   refine Rk.takeP (i := 16) (v := ?_) rfl (by kernel_rfl) (by kernel_rfl) (by kernel_rfl) (by kernel_rfl) (fun _ _ _ h => h) (Or.inl ⟨by kernel_rfl, ?_⟩) (by assumption) ?_
   rotate_left
   ·((intro w hSw; go_simp) <;> with_reducible rfl)
   try simp only [wa, wa2, wb, wb2, wp, wq, Act.put, List.setIfInBounds_toArray, List.set_cons_zero, List.set_cons_succ]
   refine Rk.takeP (i := 17) (v := ?_) rfl (by kernel_rfl) (by kernel_rfl) (by kernel_rfl) (by kernel_rfl) (fun _ _ _ h => h) (Or.inl ⟨by kernel_rfl, ?_⟩) (by assumption) ?_
   rotate_left
   ·((intro w hSw; go_simp) <;> with_reducible rfl)
   try simp only [wa, wa2, wb, wb2, wp, wq, Act.put, List.setIfInBounds_toArray, List.set_cons_zero, List.set_cons_succ]
   refine Rk.takeP (i := 18) (v := ?_) rfl (by kernel_rfl) (by kernel_rfl) (by kernel_rfl) (by kernel_rfl) (fun _ _ _ h => h) (Or.inl ⟨by kernel_rfl, ?_⟩) (by assumption) ?_
   rotate_left
   ·((intro w hSw; go_simp) <;> with_reducible rfl)
   try simp only [wa, wa2, wb, wb2, wp, wq, Act.put, List.setIfInBounds_toArray, List.set_cons_zero, List.set_cons_succ]
   refine Rk.take [21] (i := 19) (v := ?_) rfl (by kernel_rfl) (by kernel_rfl) (by kernel_rfl) (by kernel_rfl) (by kernel_rfl) (fun _ _ _ h => h) (Or.inl ⟨by kernel_rfl, ?_⟩) (by assumption) ?_
   rotate_left
   ·((intro w hSw; (try dsimp only at hSw); go_simp) <;> with_reducible rfl)
   try simp only [wa, wa2, wb, wb2, wp, wq, Act.put, List.setIfInBounds_toArray, List.set_cons_zero, List.set_cons_succ]
   refine Rk.takeP (i := 20) (v := ?_) rfl (by kernel_rfl) (by kernel_rfl) (by kernel_rfl) (by kernel_rfl) (fun _ _ _ h => h) (Or.inl ⟨by kernel_rfl, ?_⟩) (by assumption) ?_
   rotate_left
   ·((intro w hSw; go_simp) <;> with_reducible rfl)
   try simp only [wa, wa2, wb, wb2, wp, wq, Act.put, List.setIfInBounds_toArray, List.set_cons_zero, List.set_cons_succ]
   refine Rk.tail [21, 22, 23] [_, _, _] (by kernel_rfl) (by kernel_rfl) rfl (by decide) ?_
   go_wp2_with fail
   go_roundw
   case rel => exact ⟨i + 1, swE L p q, by go_num, by omega, HI, HMM, Lib.hid HEND.out.1.drew, Lib.hid (below_drewN (hB.out.trans (HEND.out.2.2.mono (by have := hB.out.size; omega))) _), Lib.hid ((hK.out.trans HEND.out.2.1).trans (K59.below (below_drewN (Below.refl _ _) _)))⟩
   case measure => simp [intOf]; omega
  ·have HE : Hid (L = RES) := Lib.hid (by
    have h := hR.out
    rw [show k - i = 0 by omega] at h
    exact h)
   go_wp2
   go_end0
   exact ⟨rfl, hB.out, hK.out, by rw [<- HE.out]; exact hOW⟩
end Go.Proofs.YtbicmlkjonaccaaDoor.Ln


namespace Go.Proofs.YtbicmlkjonaccaaDoor.Ln
open Go.ChangeShapes Go.WideShapes Go.ChangeAt Go.RowKit
open Go.Proofs.YtbicmlkjonaccaaDoor.Nm
set_option linter.unusedVariables false
set_option linter.unusedSimpArgs false
set_option maxRecDepth 8000

theorem swE_get {L : List E5} {i j : Nat} (hi : i < L.length) (hj : j < L.length) (k : Nat) : (swE L i j).getD k e50 = if k = j then L.getD i e50 else if k = i then L.getD j e50 else L.getD k e50 := by
 unfold swE
 simp only [List.getD_eq_getElem?_getD, List.getElem?_set, List.length_set]
 by_cases h1 : k = j
 ·subst h1; simp [hj]
 ·rw [if_neg (fun h => h1 h.symm), if_neg h1]
  by_cases h2 : k = i
  ·subst h2; simp [hi]
  ·rw [if_neg (fun h => h2 h.symm), if_neg h2]
theorem swE_lt_perm {L : List E5} {i j : Nat} (hij : i < j) (hj : j < L.length) : (swE L i j).Perm L := by
 have e0 : L = L.take i ++ L.getD i e50 :: ((L.drop (i + 1)).take (j - (i + 1)) ++ L.getD j e50 :: L.drop (j + 1)) := by
  have a1 : L.drop i = L.getD i e50 :: L.drop (i + 1) := by
   rw [List.drop_eq_getElem_cons (by omega)]; simp [List.getD, List.getElem?_eq_getElem (show i < L.length by omega)]
  have a2 : L.drop j = L.getD j e50 :: L.drop (j + 1) := by
   rw [List.drop_eq_getElem_cons hj]; simp [List.getD, List.getElem?_eq_getElem hj]
  have a3 : L.drop (i + 1) = (L.drop (i + 1)).take (j - (i + 1)) ++ L.drop j := by
   conv => lhs; rw [<- List.take_append_drop (j - (i + 1)) (L.drop (i + 1))]
   rw [List.drop_drop, show i + 1 + (j - (i + 1)) = j by omega]
  rw [a2] at a3
  conv => lhs; rw [<- List.take_append_drop i L, a1, a3]
 have h := swE_mid (L.take i) (L.getD i e50) ((L.drop (i + 1)).take (j - (i + 1))) (L.getD j e50) (L.drop (j + 1))
 rw [<- e0, show (L.take i).length = i by simp; omega, show i + 1 + ((L.drop (i + 1)).take (j - (i + 1))).length = j by simp; omega] at h
 rw [h]
 conv => rhs; rw [e0]
 refine List.Perm.append_left _ ?_
 refine (List.Perm.trans (List.Perm.cons _ List.perm_middle) ?_)
 refine (List.Perm.swap _ _ _).trans ?_
 exact List.Perm.cons _ List.perm_middle.symm
theorem swE_comm {L : List E5} {i j : Nat} (hi : i < L.length) (hj : j < L.length) : swE L i j = swE L j i := by
 apply List.ext_getElem?
 intro k
 unfold swE
 simp only [List.getElem?_set, List.length_set]
 by_cases h1 : j = k
 ·subst h1
  by_cases h2 : i = j
  ·subst h2; simp
  ·simp [h2, hj]
 ·by_cases h2 : i = k
  ·subst h2; simp [h1, hi]
  ·simp [h1, h2]
theorem swE_self {L : List E5} {i : Nat} (hi : i < L.length) : swE L i i = L := by
 apply List.ext_getElem?
 intro k
 unfold swE
 simp only [List.getElem?_set, List.length_set]
 by_cases h1 : i = k
 ·subst h1; simp [hi, List.getD]
 ·simp [h1]
theorem swE_perm {L : List E5} {i j : Nat} (hi : i < L.length) (hj : j < L.length) : (swE L i j).Perm L := by
 rcases Nat.lt_trichotomy i j with h | rfl | h
 ·exact swE_lt_perm h hj
 ·rw [swE_self hi]
 ·rw [swE_comm hi hj]; exact swE_lt_perm h hi
/-- What a comparison keeps. -/
structure OrdC (cf : E5 -> E5 -> Int) : Prop where
 asym : ∀ x y, cf x y < 0 -> ¬ cf y x < 0
 trans : ∀ x y z, ¬ cf y x < 0 -> ¬ cf z y < 0 -> ¬ cf z x < 0
/-- Sorted from a up to b. -/
def SrtC (cf : E5 -> E5 -> Int) (a b : Nat) (L : List E5) : Prop := ∀ i j, a <= i -> i < j -> j < b -> ¬ cf (L.getD j e50) (L.getD i e50) < 0
/-- Only what lies from a up to b is laid in another order. -/
structure RngC (a b : Nat) (L L' : List E5) : Prop where
 perm : L'.Perm L
 out : ∀ k, ¬ (a <= k /\ k < b) -> L'.getD k e50 = L.getD k e50
 into : ∀ k, a <= k -> k < b -> ∃ k', a <= k' /\ k' < b /\ L'.getD k e50 = L.getD k' e50
theorem RngC.refl (a b : Nat) (L : List E5) : RngC a b L L := ⟨List.Perm.refl _, fun _ _ => rfl, fun k h1 h2 => ⟨k, h1, h2, rfl⟩⟩
theorem RngC.trans {a b : Nat} {L L' L'' : List E5} (h : RngC a b L L') (h2 : RngC a b L' L'') : RngC a b L L'' :=
 ⟨h2.perm.trans h.perm, fun k hk => (h2.out k hk).trans (h.out k hk), fun k k1 k2 => by
  obtain ⟨x, x1, x2, x3⟩ := h2.into k k1 k2
  obtain ⟨y, y1, y2, y3⟩ := h.into x x1 x2
  exact ⟨y, y1, y2, x3.trans y3⟩⟩
theorem RngC.mono {a b a' b' : Nat} {L L' : List E5} (h : RngC a b L L') (h1 : a' <= a) (h2 : b <= b') : RngC a' b' L L' :=
 ⟨h.perm, fun k hk => h.out k (by omega), fun k k1 k2 => by
  by_cases hk : a <= k /\ k < b
  ·obtain ⟨x, x1, x2, x3⟩ := h.into k hk.1 hk.2
   exact ⟨x, by omega, by omega, x3⟩
  ·exact ⟨k, k1, k2, h.out k hk⟩⟩
theorem RngC.len {a b : Nat} {L L' : List E5} (h : RngC a b L L') : L'.length = L.length := h.perm.length_eq
theorem RngC.swE {a b i j : Nat} {L : List E5} (hi : i < L.length) (hj : j < L.length) (i1 : a <= i) (i2 : i < b) (j1 : a <= j) (j2 : j < b) : RngC a b L (swE L i j) := by
 refine ⟨swE_perm hi hj, fun k hk => ?_, fun k k1 k2 => ?_⟩
 ·rw [swE_get hi hj, if_neg (by omega), if_neg (by omega)]
 ·rw [swE_get hi hj]
  by_cases h1 : k = j
  ·rw [if_pos h1]; exact ⟨i, i1, i2, rfl⟩
  ·rw [if_neg h1]
   by_cases h2 : k = i
   ·rw [if_pos h2]; exact ⟨j, j1, j2, rfl⟩
   ·rw [if_neg h2]; exact ⟨k, k1, k2, rfl⟩
/-- A sorted part stays so where what is laid anew lies elsewhere. -/
theorem SrtC.keep {cf : E5 -> E5 -> Int} {a b c d : Nat} {L L' : List E5} (h : SrtC cf a b L) (r : RngC c d L L') (hd : b <= c \/ d <= a) : SrtC cf a b L' := by
 intro i j h1 h2 h3
 rw [r.out i (by omega), r.out j (by omega)]
 exact h i j h1 h2 h3
theorem insJ_ok {cf : E5 -> E5 -> Int} (O : OrdC cf) (a i : Nat) : ∀ (j : Nat) (L : List E5), a <= j -> j <= i -> i < L.length -> (∀ p q, a <= p -> p < q -> q <= i -> q ≠ j -> ¬ cf (L.getD q e50) (L.getD p e50) < 0) -> RngC a (i + 1) L (insJ cf a j L) /\ SrtC cf a (i + 1) (insJ cf a j L)
 | 0, L, ha, hj, hi, H => by
  rw [insJ_stop (Nat.zero_le _)]
  exact ⟨RngC.refl _ _ _, fun p q h1 h2 h3 => H p q h1 h2 (by omega) (by omega)⟩
 | j + 1, L, ha, hj, hi, H => by
  by_cases hs : j + 1 <= a
  ·rw [insJ_stop hs]
   exact ⟨RngC.refl _ _ _, fun p q h1 h2 h3 => H p q h1 h2 (by omega) (by omega)⟩
  ·by_cases hn : cf (L.getD (j + 1) e50) (L.getD j e50) < 0
   ·rw [insJ_go (by omega) hn]
    have l1 : j + 1 < L.length := by omega
    have l0 : j < L.length := by omega
    have ih := insJ_ok O a i j (swE L (j + 1) j) (by omega) (by omega) (by rw [swE_len]; exact hi) (by
     intro p q h1 h2 h3 h4
     rw [swE_get l1 l0, swE_get l1 l0, if_neg h4]
     by_cases q1 : q = j + 1
     ·rw [if_pos q1]
      by_cases p1 : p = j
      ·rw [if_pos p1]; exact O.asym _ _ hn
      ·rw [if_neg p1, if_neg (by omega)]
       exact H p j h1 (by omega) (by omega) (by omega)
     ·rw [if_neg q1]
      by_cases p1 : p = j
      ·rw [if_pos p1]; exact H (j + 1) q (by omega) (by omega) h3 q1
      ·rw [if_neg p1]
       by_cases p2 : p = j + 1
       ·rw [if_pos p2]; exact H j q (by omega) (by omega) h3 q1
       ·rw [if_neg p2]; exact H p q h1 h2 h3 q1)
    exact ⟨(RngC.swE l1 l0 (by omega) (by omega) (by omega) (by omega)).trans ih.1, ih.2⟩
   ·rw [insJ_no hn]
    refine ⟨RngC.refl _ _ _, fun p q h1 h2 h3 => ?_⟩
    by_cases q1 : q = j + 1
    ·subst q1
     by_cases p1 : p = j
     ·rw [p1]; exact hn
     ·exact O.trans _ _ _ (H p j h1 (by omega) (by omega) (by omega)) hn
    ·exact H p q h1 h2 (by omega) q1
theorem insI_ok {cf : E5 -> E5 -> Int} (O : OrdC cf) (a : Nat) : ∀ (c i : Nat) (L : List E5), a <= i -> i + c <= L.length -> SrtC cf a i L -> RngC a (i + c) L (insI cf a c i L) /\ SrtC cf a (i + c) (insI cf a c i L)
 | 0, i, L, _, _, S => ⟨RngC.refl _ _ _, S⟩
 | c + 1, i, L, ha, hl, S => by
  have h := insJ_ok O a i i L ha (Nat.le_refl _) (by omega) (fun p q h1 h2 h3 h4 => S p q h1 h2 (by omega))
  have ih := insI_ok O a c (i + 1) (insJ cf a i L) (by omega) (by rw [h.1.len]; omega) h.2
  unfold insI
  rw [show i + (c + 1) = i + 1 + c by omega]
  exact ⟨(h.1.mono (Nat.le_refl _) (by omega)).trans ih.1, ih.2⟩
/-- The insertion sort sorts. -/
theorem ins_sorts {cf : E5 -> E5 -> Int} (O : OrdC cf) {a b : Nat} {L : List E5} (h1 : a < b) (h2 : b <= L.length) : RngC a b L (insI cf a (b - (a + 1)) (a + 1) L) /\ SrtC cf a b (insI cf a (b - (a + 1)) (a + 1) L) := by
 have h := insI_ok O a (b - (a + 1)) (a + 1) L (by omega) (by omega) (fun i j h1 h2 h3 => absurd h1 (by omega))
 rw [show a + 1 + (b - (a + 1)) = b by omega] at h
 exact h
theorem ins_empty (cf : E5 -> E5 -> Int) (a b : Nat) (L : List E5) (h : b <= a + 1) : insI cf a (b - (a + 1)) (a + 1) L = L := by
 rw [show b - (a + 1) = 0 by omega]; rfl
end Go.Proofs.YtbicmlkjonaccaaDoor.Ln
