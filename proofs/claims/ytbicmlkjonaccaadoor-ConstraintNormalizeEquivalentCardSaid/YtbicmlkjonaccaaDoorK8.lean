/- The merge where the second part has one element. -/
import Derived.Test.YtbicmlkjonaccaaDoorK7

namespace Go.Proofs.YtbicmlkjonaccaaDoor.Ln
open Go.ChangeShapes Go.WideShapes Go.ChangeAt Go.RowKit
open Go.Proofs.YtbicmlkjonaccaaDoor.Nm
set_option linter.unusedVariables false
set_option linter.unusedSimpArgs false
set_option maxRecDepth 8000

set_option maxRecDepth 100000 in
set_option maxHeartbeats 8000000 in
/-- The merge where the second part has one element. -/
theorem sm2 (g cap base n a m b : Nat) (D L0 : List E5) (cf : E5 -> E5 -> Int) (O : OrdC cf) (wo w : World) (hn : n <= 100000) (HL : Hid (L0.length = n /\ ∀ x ∈ L0, x ∈ D)) (h1 : a < m) (h2 : m < b) (h3 : b <= n) (hO : Hid (w.ownsRow base 36 3 (.slice (some ⟨g, 0, none⟩) n cap) n (rowE L0))) (NC : Hid (∀ x y, x ∈ D -> y ∈ D -> ∀ w', K59 wo w' -> Calls Tryd.prog 72 #[agE x, agE y] w' fun e w2 => e = .returned (.int .i64 (cf x y)) /\ Below w'.heap.size w' w2)) (KO : Hid (K59 wo w)) (hbw : base <= w.heap.size) (SA : Hid (SrtC cf a m L0)) (SB : Hid (SrtC cf m b L0)) (ha : a + 1 < m) (hm : b = m + 1) :
  Calls Tryd.prog 121 #[.slice (some ⟨g, 0, none⟩) n cap, .int .i64 (a : Int), .int .i64 (m : Int), .int .i64 (b : Int), .func (.func 72) #[] #[]] w fun e w' => e = .returned (.tuple #[]) /\ Below base w w' /\ K59 w w' /\ ∃ L', RngC a b L0 L' /\ SrtC cf a b L' /\ Hid (w'.ownsRow base 36 3 (.slice (some ⟨g, 0, none⟩) n cap) n (rowE L')) := by
 have hbase : base <= g \/ n = 0 := by
  rcases hO.out.2 with ⟨h, hz⟩ | ⟨g', cap', cur, h, hb, _⟩
  ·simp at h
  ·cases h; exact .inl hb
 unfold agE at NC
 have OO := Lib.hid O
 clear O
 have HMA := Lib.hid hm
 have c1 : (b : Int) - (m : Int) = 1 := by omega
 have c2 : ((m : Int) - (a : Int) == 1) = false := by rw [beq_eq_false_iff_ne]; omega
 clear hm
 go_enter Tryd.func121, Tryd.ntmps121
 go_wp2_with fail
 go_loopw [14, 15] (fun iv jv wr => ∃ (i j : Nat), iv = .int .i64 (i : Int) /\ jv = .int .i64 (j : Int) /\ i <= j /\ a <= i /\ j <= m /\ Hid (BisD cf L0 (L0.getD m e50) a m i j) /\ Hid (wr.ownsRow base 36 3 (.slice (some ⟨g, 0, none⟩) n cap) n (rowE L0)) /\ Hid (Below base w wr) /\ Hid (K59 w wr)) (fun iv jv _ => (intOf jv).toNat - (intOf iv).toNat)
 case atStart => exact ⟨a, m, by go_num, by go_num, by omega, by omega, by omega, Lib.hid ⟨by omega, by omega, by omega, fun h k1 k2 => absurd k1 (by omega), fun h k1 k2 => absurd k1 (by omega)⟩, hO, Lib.hid (Below.refl _ _), Lib.hid (fun _ _ h => h)⟩
 case round =>
  clear hO
  obtain ⟨i, j, rfl, rfl, hij, hai, hjb, HB, hOW, hB, hK⟩ := hrel
  by_cases hlt : i < j
  ·have i1 : (i : Int) < j := by omega
   go_wp2_with fail
   obtain ⟨h, hh⟩ : ∃ h, h = (i + j) / 2 := ⟨_, rfl⟩
   have hh1 : i <= h := by omega
   have hh2 : h < j := by omega
   have hv : ((i : Int) + (j : Int)) / 2 = (h : Int) := by omega
   rw [hv]
   clear hv hh
   have hpL : m < L0.length := by rw [HL.out.1]; omega
   have hqL : h < L0.length := by rw [HL.out.1]; omega
   obtain ⟨v0, v1, v2⟩ := rowE_get L0 m hpL
   obtain ⟨u0, u1, u2⟩ := rowE_get L0 h hqL
   have HX : Hid (L0.getD m e50 ∈ D) := Lib.hid (HL.out.2 _ (getD_mem5 hpL))
   have HY : Hid (L0.getD h e50 ∈ D) := Lib.hid (HL.out.2 _ (getD_mem5 hqL))
   have c0 := (hOW.out.cellAt (m * 3) (by omega)).trans v0
   have c1 := (hOW.out.cellAt (m * 3 + 1) (by omega)).trans v1
   have c2 := (hOW.out.cellAt (m * 3 + 2) (by omega)).trans v2
   have d0 := (hOW.out.cellAt (h * 3) (by omega)).trans u0
   have d1 := (hOW.out.cellAt (h * 3 + 1) (by omega)).trans u1
   have d2 := (hOW.out.cellAt (h * 3 + 2) (by omega)).trans u2
   obtain ⟨x, hx⟩ : ∃ x, L0.getD m e50 = x := ⟨_, rfl⟩
   obtain ⟨y, hy⟩ : ∃ y, L0.getD h e50 = y := ⟨_, rfl⟩
   have HX0 := Lib.hid hx
   have HY0 := Lib.hid hy
   rw [hx] at c0 c1 c2 HX
   rw [hy] at d0 d1 d2 HY
   have j2 : (m : Int) < n := by have := HL.out.1; omega
   have j3 : (h : Int) < n := by have := HL.out.1; omega
   have j4 : (0 : Int) <= m := by omega
   have j5 : (0 : Int) <= h := by omega
   have HKW := Lib.hid (KO.out.trans hK.out)
   have hzr : wr.drew.cell? ⟨g, m * 3, none⟩ = some (.int .i64 x.1) /\ wr.drew.cell? ⟨g, m * 3 + 1, none⟩ = some (.slice x.2.1 x.2.2.1 x.2.2.2.1) /\ wr.drew.cell? ⟨g, m * 3 + 2, none⟩ = some (.bool x.2.2.2.2) /\ wr.drew.cell? ⟨g, h * 3, none⟩ = some (.int .i64 y.1) /\ wr.drew.cell? ⟨g, h * 3 + 1, none⟩ = some (.slice y.2.1 y.2.2.1 y.2.2.2.1) /\ wr.drew.cell? ⟨g, h * 3 + 2, none⟩ = some (.bool y.2.2.2.2) /\ Below wr.heap.size wr wr.drew := ⟨c0, c1, c2, d0, d1, d2, (Below.refl _ _).drew⟩
   have HS : Hid (∀ u u' : World, (u.cell? ⟨g, m * 3, none⟩ = some (.int .i64 x.1) /\ u.cell? ⟨g, m * 3 + 1, none⟩ = some (.slice x.2.1 x.2.2.1 x.2.2.2.1) /\ u.cell? ⟨g, m * 3 + 2, none⟩ = some (.bool x.2.2.2.2) /\ u.cell? ⟨g, h * 3, none⟩ = some (.int .i64 y.1) /\ u.cell? ⟨g, h * 3 + 1, none⟩ = some (.slice y.2.1 y.2.2.1 y.2.2.2.1) /\ u.cell? ⟨g, h * 3 + 2, none⟩ = some (.bool y.2.2.2.2) /\ Below wr.heap.size wr u) -> Below u.heap.size u u' -> (u'.cell? ⟨g, m * 3, none⟩ = some (.int .i64 x.1) /\ u'.cell? ⟨g, m * 3 + 1, none⟩ = some (.slice x.2.1 x.2.2.1 x.2.2.2.1) /\ u'.cell? ⟨g, m * 3 + 2, none⟩ = some (.bool x.2.2.2.2) /\ u'.cell? ⟨g, h * 3, none⟩ = some (.int .i64 y.1) /\ u'.cell? ⟨g, h * 3 + 1, none⟩ = some (.slice y.2.1 y.2.2.1 y.2.2.2.1) /\ u'.cell? ⟨g, h * 3 + 2, none⟩ = some (.bool y.2.2.2.2) /\ Below wr.heap.size wr u')) := Lib.hid (fun u u' h hb => ⟨Rg.keep hb (World.block_lt_of_cell? _ _ h.1) h.1, Rg.keep hb (World.block_lt_of_cell? _ _ h.2.1) h.2.1, Rg.keep hb (World.block_lt_of_cell? _ _ h.2.2.1) h.2.2.1, Rg.keep hb (World.block_lt_of_cell? _ _ h.2.2.2.1) h.2.2.2.1, Rg.keep hb (World.block_lt_of_cell? _ _ h.2.2.2.2.1) h.2.2.2.2.1, Rg.keep hb (World.block_lt_of_cell? _ _ h.2.2.2.2.2.1) h.2.2.2.2.2.1, h.2.2.2.2.2.2.trans (hb.mono h.2.2.2.2.2.2.size)⟩)
   clear v0 v1 v2 u0 u1 u2 c0 c1 c2 d0 d1 d2
   by_cases hneg : cf x y < 0
   ·have hr2 : decide (cf x y < 0) = true := by simpa using hneg
    have HB2 := Lib.hid (HB.out.down OO.out SA.out hh1 hh2 (by rw [HX0.out, HY0.out]; exact hneg))
    refine Rk.begin (S := fun wS => wS.cell? ⟨g, m * 3, none⟩ = some (.int .i64 x.1) /\ wS.cell? ⟨g, m * 3 + 1, none⟩ = some (.slice x.2.1 x.2.2.1 x.2.2.2.1) /\ wS.cell? ⟨g, m * 3 + 2, none⟩ = some (.bool x.2.2.2.2) /\ wS.cell? ⟨g, h * 3, none⟩ = some (.int .i64 y.1) /\ wS.cell? ⟨g, h * 3 + 1, none⟩ = some (.slice y.2.1 y.2.2.1 y.2.2.2.1) /\ wS.cell? ⟨g, h * 3 + 2, none⟩ = some (.bool y.2.2.2.2) /\ Below wr.heap.size wr wS) 10 (by kernel_rfl) hzr (fun hHeld => ?_)
    refine Rk.takeP (i := 0) (v := ?_) rfl (by kernel_rfl) (by kernel_rfl) (by kernel_rfl) (by kernel_rfl) (fun _ _ _ h => h) (Or.inl ⟨by kernel_rfl, ?_⟩) (by assumption) ?_
    rotate_left
    ·((intro w hSw; go_simp) <;> with_reducible rfl)
    try simp only [Act.put, List.setIfInBounds_toArray, List.set_cons_zero, List.set_cons_succ]
    refine Rk.takeP (i := 1) (v := ?_) rfl (by kernel_rfl) (by kernel_rfl) (by kernel_rfl) (by kernel_rfl) (fun _ _ _ h => h) (Or.inl ⟨by kernel_rfl, ?_⟩) (by assumption) ?_
    rotate_left
    ·((intro w hSw; go_simp) <;> with_reducible rfl)
    try simp only [Act.put, List.setIfInBounds_toArray, List.set_cons_zero, List.set_cons_succ]
    refine Rk.takeP (i := 2) (v := ?_) rfl (by kernel_rfl) (by kernel_rfl) (by kernel_rfl) (by kernel_rfl) (fun _ _ _ h => h) (Or.inl ⟨by kernel_rfl, ?_⟩) (by assumption) ?_
    rotate_left
    ·((intro w hSw; go_simp) <;> with_reducible rfl)
    try simp only [Act.put, List.setIfInBounds_toArray, List.set_cons_zero, List.set_cons_succ]
    refine Rk.takeP (i := 3) (v := ?_) rfl (by kernel_rfl) (by kernel_rfl) (by kernel_rfl) (by kernel_rfl) (fun _ _ _ h => h) (Or.inl ⟨by kernel_rfl, ?_⟩) (by assumption) ?_
    rotate_left
    ·((intro w hSw; go_simp) <;> with_reducible rfl)
    try simp only [Act.put, List.setIfInBounds_toArray, List.set_cons_zero, List.set_cons_succ]
    refine Rk.take [9, 10] (i := 4) (v := ?_) rfl (by kernel_rfl) (by kernel_rfl) (by kernel_rfl) (by kernel_rfl) (by kernel_rfl) (fun _ _ _ h => h) (Or.inl ⟨by kernel_rfl, ?_⟩) (by assumption) ?_
    rotate_left
    ·((intro w hSw; (try dsimp only at hSw); go_simp) <;> with_reducible rfl)
    try simp only [Act.put, List.setIfInBounds_toArray, List.set_cons_zero, List.set_cons_succ]
    refine Rk.takeP (i := 5) (v := ?_) rfl (by kernel_rfl) (by kernel_rfl) (by kernel_rfl) (by kernel_rfl) (fun _ _ _ h => h) (Or.inl ⟨by kernel_rfl, ?_⟩) (by assumption) ?_
    rotate_left
    ·((intro w hSw; go_simp) <;> with_reducible rfl)
    try simp only [Act.put, List.setIfInBounds_toArray, List.set_cons_zero, List.set_cons_succ]
    refine Rk.takeP (i := 6) (v := ?_) rfl (by kernel_rfl) (by kernel_rfl) (by kernel_rfl) (by kernel_rfl) (fun _ _ _ h => h) (Or.inl ⟨by kernel_rfl, ?_⟩) (by assumption) ?_
    rotate_left
    ·((intro w hSw; go_simp) <;> with_reducible rfl)
    try simp only [Act.put, List.setIfInBounds_toArray, List.set_cons_zero, List.set_cons_succ]
    refine Rk.takeP (i := 7) (v := ?_) rfl (by kernel_rfl) (by kernel_rfl) (by kernel_rfl) (by kernel_rfl) (fun _ _ _ h => h) (Or.inl ⟨by kernel_rfl, ?_⟩) (by assumption) ?_
    rotate_left
    ·((intro w hSw; go_simp) <;> with_reducible rfl)
    try simp only [Act.put, List.setIfInBounds_toArray, List.set_cons_zero, List.set_cons_succ]
    refine Rk.take [9, 10] (i := 8) (v := ?_) rfl (by kernel_rfl) (by kernel_rfl) (by kernel_rfl) (by kernel_rfl) (by kernel_rfl) (fun _ _ _ h => h) (Or.inl ⟨by kernel_rfl, ?_⟩) (by assumption) ?_
    rotate_left
    ·((intro w hSw; (try dsimp only at hSw); go_simp) <;> with_reducible rfl)
    try simp only [Act.put, List.setIfInBounds_toArray, List.set_cons_zero, List.set_cons_succ]
    refine Rk.one (i := 9) (by kernel_rfl) rfl (fun KK hK => ?_)
    rw [if_pos (by kernel_rfl)]
    go_simp
    ((with_reducible refine (NC.out x y HX.out HY.out _ (HKW.out.trans (K59.below (hHeld.2.2.2.2.2.2)))).mono ?_); rintro e u ⟨rfl, hb⟩)
    first | (refine hK.out _ _ (fun _ => HS.out _ _ hHeld hb) (fun hHeld => ?_)) | (refine hK.out _ _ (HS.out _ _ hHeld hb) (fun hHeld => ?_)) | (go_wp2_with fail; refine hK.out _ _ (HS.out _ _ hHeld hb) (fun hHeld => ?_))
    clear hK KK
    refine Rk.tail [10, 11] [_, _] (by kernel_rfl) (by kernel_rfl) rfl (by decide) ?_
    have KB0 := hHeld.2.2.2.2.2.2
    have O2 := Lib.hid (own_belowE hOW.out KB0)
    have B2 := Lib.hid (hB.out.trans (KB0.mono (by have := hB.out.size; omega)))
    have K2 := Lib.hid (hK.out.trans (K59.below KB0))
    clear hHeld HS hOW hB hK KB0
    go_wp2_with fail
    go_roundw
    case rel => exact ⟨i, h, by go_num, by go_num, by omega, by omega, by omega, HB2, O2, B2, K2⟩
    case measure => simp [intOf]; omega
   ·have hr2 : decide (cf x y < 0) = false := by simpa using hneg
    have HB2 := Lib.hid (HB.out.up OO.out SA.out hh1 hh2 (by rw [HX0.out, HY0.out]; exact hneg))
    refine Rk.begin (S := fun wS => wS.cell? ⟨g, m * 3, none⟩ = some (.int .i64 x.1) /\ wS.cell? ⟨g, m * 3 + 1, none⟩ = some (.slice x.2.1 x.2.2.1 x.2.2.2.1) /\ wS.cell? ⟨g, m * 3 + 2, none⟩ = some (.bool x.2.2.2.2) /\ wS.cell? ⟨g, h * 3, none⟩ = some (.int .i64 y.1) /\ wS.cell? ⟨g, h * 3 + 1, none⟩ = some (.slice y.2.1 y.2.2.1 y.2.2.2.1) /\ wS.cell? ⟨g, h * 3 + 2, none⟩ = some (.bool y.2.2.2.2) /\ Below wr.heap.size wr wS) 10 (by kernel_rfl) hzr (fun hHeld => ?_)
    refine Rk.takeP (i := 0) (v := ?_) rfl (by kernel_rfl) (by kernel_rfl) (by kernel_rfl) (by kernel_rfl) (fun _ _ _ h => h) (Or.inl ⟨by kernel_rfl, ?_⟩) (by assumption) ?_
    rotate_left
    ·((intro w hSw; go_simp) <;> with_reducible rfl)
    try simp only [Act.put, List.setIfInBounds_toArray, List.set_cons_zero, List.set_cons_succ]
    refine Rk.takeP (i := 1) (v := ?_) rfl (by kernel_rfl) (by kernel_rfl) (by kernel_rfl) (by kernel_rfl) (fun _ _ _ h => h) (Or.inl ⟨by kernel_rfl, ?_⟩) (by assumption) ?_
    rotate_left
    ·((intro w hSw; go_simp) <;> with_reducible rfl)
    try simp only [Act.put, List.setIfInBounds_toArray, List.set_cons_zero, List.set_cons_succ]
    refine Rk.takeP (i := 2) (v := ?_) rfl (by kernel_rfl) (by kernel_rfl) (by kernel_rfl) (by kernel_rfl) (fun _ _ _ h => h) (Or.inl ⟨by kernel_rfl, ?_⟩) (by assumption) ?_
    rotate_left
    ·((intro w hSw; go_simp) <;> with_reducible rfl)
    try simp only [Act.put, List.setIfInBounds_toArray, List.set_cons_zero, List.set_cons_succ]
    refine Rk.takeP (i := 3) (v := ?_) rfl (by kernel_rfl) (by kernel_rfl) (by kernel_rfl) (by kernel_rfl) (fun _ _ _ h => h) (Or.inl ⟨by kernel_rfl, ?_⟩) (by assumption) ?_
    rotate_left
    ·((intro w hSw; go_simp) <;> with_reducible rfl)
    try simp only [Act.put, List.setIfInBounds_toArray, List.set_cons_zero, List.set_cons_succ]
    refine Rk.take [9, 10] (i := 4) (v := ?_) rfl (by kernel_rfl) (by kernel_rfl) (by kernel_rfl) (by kernel_rfl) (by kernel_rfl) (fun _ _ _ h => h) (Or.inl ⟨by kernel_rfl, ?_⟩) (by assumption) ?_
    rotate_left
    ·((intro w hSw; (try dsimp only at hSw); go_simp) <;> with_reducible rfl)
    try simp only [Act.put, List.setIfInBounds_toArray, List.set_cons_zero, List.set_cons_succ]
    refine Rk.takeP (i := 5) (v := ?_) rfl (by kernel_rfl) (by kernel_rfl) (by kernel_rfl) (by kernel_rfl) (fun _ _ _ h => h) (Or.inl ⟨by kernel_rfl, ?_⟩) (by assumption) ?_
    rotate_left
    ·((intro w hSw; go_simp) <;> with_reducible rfl)
    try simp only [Act.put, List.setIfInBounds_toArray, List.set_cons_zero, List.set_cons_succ]
    refine Rk.takeP (i := 6) (v := ?_) rfl (by kernel_rfl) (by kernel_rfl) (by kernel_rfl) (by kernel_rfl) (fun _ _ _ h => h) (Or.inl ⟨by kernel_rfl, ?_⟩) (by assumption) ?_
    rotate_left
    ·((intro w hSw; go_simp) <;> with_reducible rfl)
    try simp only [Act.put, List.setIfInBounds_toArray, List.set_cons_zero, List.set_cons_succ]
    refine Rk.takeP (i := 7) (v := ?_) rfl (by kernel_rfl) (by kernel_rfl) (by kernel_rfl) (by kernel_rfl) (fun _ _ _ h => h) (Or.inl ⟨by kernel_rfl, ?_⟩) (by assumption) ?_
    rotate_left
    ·((intro w hSw; go_simp) <;> with_reducible rfl)
    try simp only [Act.put, List.setIfInBounds_toArray, List.set_cons_zero, List.set_cons_succ]
    refine Rk.take [9, 10] (i := 8) (v := ?_) rfl (by kernel_rfl) (by kernel_rfl) (by kernel_rfl) (by kernel_rfl) (by kernel_rfl) (fun _ _ _ h => h) (Or.inl ⟨by kernel_rfl, ?_⟩) (by assumption) ?_
    rotate_left
    ·((intro w hSw; (try dsimp only at hSw); go_simp) <;> with_reducible rfl)
    try simp only [Act.put, List.setIfInBounds_toArray, List.set_cons_zero, List.set_cons_succ]
    refine Rk.one (i := 9) (by kernel_rfl) rfl (fun KK hK => ?_)
    rw [if_pos (by kernel_rfl)]
    go_simp
    ((with_reducible refine (NC.out x y HX.out HY.out _ (HKW.out.trans (K59.below (hHeld.2.2.2.2.2.2)))).mono ?_); rintro e u ⟨rfl, hb⟩)
    first | (refine hK.out _ _ (fun _ => HS.out _ _ hHeld hb) (fun hHeld => ?_)) | (refine hK.out _ _ (HS.out _ _ hHeld hb) (fun hHeld => ?_)) | (go_wp2_with fail; refine hK.out _ _ (HS.out _ _ hHeld hb) (fun hHeld => ?_))
    clear hK KK
    refine Rk.tail [10, 11] [_, _] (by kernel_rfl) (by kernel_rfl) rfl (by decide) ?_
    have KB0 := hHeld.2.2.2.2.2.2
    have O2 := Lib.hid (own_belowE hOW.out KB0)
    have B2 := Lib.hid (hB.out.trans (KB0.mono (by have := hB.out.size; omega)))
    have K2 := Lib.hid (hK.out.trans (K59.below KB0))
    clear hHeld HS hOW hB hK KB0
    go_wp2_with fail
    go_roundw
    case rel => exact ⟨h + 1, j, by go_num, by go_num, by omega, by omega, by omega, HB2, O2, B2, K2⟩
    case measure => simp [intOf]; omega
  ·obtain rfl : i = j := by omega
   have i1 : ¬ (i : Int) < i := by omega
   have HF := Lib.hid (put_last OO.out (by rw [HL.out.1]; omega) hai hjb SA.out HB.out.below HB.out.above)
   rw [<- HMA.out] at HF
   obtain ⟨RES, hRES⟩ : ∃ RES, shD (m - i) m L0 = RES := ⟨_, rfl⟩
   rw [hRES] at HF
   have HR := Lib.hid hRES
   clear hRES HB NC KO
   go_wp2_with fail
   go_loopw [17] (fun kv wr => ∃ (k : Nat) (L : List E5), kv = .int .i64 (k : Int) /\ i <= k /\ k <= m /\ Hid (shD (k - i) k L = RES) /\ Hid (L.length = n /\ ∀ x ∈ L, x ∈ D) /\ Hid (wr.ownsRow base 36 3 (.slice (some ⟨g, 0, none⟩) n cap) n (rowE L)) /\ Hid (Below base w wr) /\ Hid (K59 w wr)) (fun kv _ => (intOf kv).toNat)
   case atStart => exact ⟨m, L0, by go_num, by omega, by omega, HR, HL, hOW, hB, hK⟩
   case round =>
    clear hOW hB hK HR HL
    obtain ⟨k, L, rfl, hak, hki, HR, HM, hOW, hB, hK⟩ := hrel
    by_cases hlt : i < k
    ·have i2 : (i : Int) < k := by omega
     obtain ⟨k1, hk1⟩ : ∃ k1, k1 = k - 1 := ⟨_, rfl⟩
     have hv : (k : Int) - 1 = (k1 : Int) := by omega
     have wk : IntKind.i64.wrap (k1 : Int) = (k1 : Int) := by rw [IntKind.wrap_i64]; omega
     have HR2 : Hid (shD (k1 - i) k1 (swE L k k1) = RES) := Lib.hid (by
      have h := HR.out
      rw [show k - i = (k1 - i) + 1 by omega] at h
      unfold shD at h
      rw [<- hk1] at h; exact h)
     clear hk1
     have hpL : k < L.length := by rw [HM.out.1]; omega
     have hqL : k1 < L.length := by rw [HM.out.1]; omega
     obtain ⟨v0, v1, v2⟩ := rowE_get L k hpL
     obtain ⟨u0, u1, u2⟩ := rowE_get L k1 hqL
     have HX : Hid (L.getD k e50 ∈ D) := Lib.hid (HM.out.2 _ (getD_mem5 hpL))
     have HY : Hid (L.getD k1 e50 ∈ D) := Lib.hid (HM.out.2 _ (getD_mem5 hqL))
     have c0 := (hOW.out.cellAt (k * 3) (by omega)).trans v0
     have c1 := (hOW.out.cellAt (k * 3 + 1) (by omega)).trans v1
     have c2 := (hOW.out.cellAt (k * 3 + 2) (by omega)).trans v2
     have d0 := (hOW.out.cellAt (k1 * 3) (by omega)).trans u0
     have d1 := (hOW.out.cellAt (k1 * 3 + 1) (by omega)).trans u1
     have d2 := (hOW.out.cellAt (k1 * 3 + 2) (by omega)).trans u2
     obtain ⟨x, hx⟩ : ∃ x, L.getD k e50 = x := ⟨_, rfl⟩
     obtain ⟨y, hy⟩ : ∃ y, L.getD k1 e50 = y := ⟨_, rfl⟩
     have HX0 := Lib.hid hx
     have HY0 := Lib.hid hy
     rw [hx] at c0 c1 c2 HX
     rw [hy] at d0 d1 d2 HY
     have j2 : (k : Int) < n := by have := HM.out.1; omega
     have j3 : (k1 : Int) < n := by have := HM.out.1; omega
     have j4 : (0 : Int) <= k := by omega
     have j5 : (0 : Int) <= k1 := by omega
     have f0 : wr.frozen? ⟨g, k * 3, none⟩ = false := hOW.out.frozenAt _
     have f1 : wr.frozen? ⟨g, k * 3 + 1, none⟩ = false := hOW.out.frozenAt _
     have f2 : wr.frozen? ⟨g, k * 3 + 2, none⟩ = false := hOW.out.frozenAt _
     have f3 : wr.frozen? ⟨g, k1 * 3, none⟩ = false := hOW.out.frozenAt _
     have f4 : wr.frozen? ⟨g, k1 * 3 + 1, none⟩ = false := hOW.out.frozenAt _
     have f5 : wr.frozen? ⟨g, k1 * 3 + 2, none⟩ = false := hOW.out.frozenAt _
     have hzs : wr.drew.cell? ⟨g, k * 3, none⟩ = some (.int .i64 x.1) /\ wr.drew.cell? ⟨g, k * 3 + 1, none⟩ = some (.slice x.2.1 x.2.2.1 x.2.2.2.1) /\ wr.drew.cell? ⟨g, k * 3 + 2, none⟩ = some (.bool x.2.2.2.2) /\ wr.drew.cell? ⟨g, k1 * 3, none⟩ = some (.int .i64 y.1) /\ wr.drew.cell? ⟨g, k1 * 3 + 1, none⟩ = some (.slice y.2.1 y.2.2.1 y.2.2.2.1) /\ wr.drew.cell? ⟨g, k1 * 3 + 2, none⟩ = some (.bool y.2.2.2.2) /\ Below wr.heap.size wr wr.drew := ⟨c0, c1, c2, d0, d1, d2, (Below.refl _ _).drew⟩
     have HEND := Lib.hid (swq_world (x := x) (y := y) hbase hOW.out HM.out.1 hpL hqL hx hy)
     have HMM : Hid ((swE L k k1).length = n /\ ∀ z ∈ swE L k k1, z ∈ D) := Lib.hid ⟨by rw [swE_len]; exact HM.out.1, fun z hz => HM.out.2 _ (swE_mem hpL hqL hz)⟩
     clear v0 v1 v2 u0 u1 u2 hOW hpL hqL hx hy
     go_wp2_with fail
     refine Rk.begin (S := fun wS => wS.cell? ⟨g, k * 3, none⟩ = some (.int .i64 x.1) /\ wS.cell? ⟨g, k * 3 + 1, none⟩ = some (.slice x.2.1 x.2.2.1 x.2.2.2.1) /\ wS.cell? ⟨g, k * 3 + 2, none⟩ = some (.bool x.2.2.2.2) /\ wS.cell? ⟨g, k1 * 3, none⟩ = some (.int .i64 y.1) /\ wS.cell? ⟨g, k1 * 3 + 1, none⟩ = some (.slice y.2.1 y.2.2.1 y.2.2.2.1) /\ wS.cell? ⟨g, k1 * 3 + 2, none⟩ = some (.bool y.2.2.2.2) /\ Below wr.heap.size wr wS) 15 (by kernel_rfl) hzs (fun hHeld => ?_)
     refine Rk.takeP (i := 0) (v := ?_) rfl (by kernel_rfl) (by kernel_rfl) (by kernel_rfl) (by kernel_rfl) (fun _ _ _ h => h) (Or.inl ⟨by kernel_rfl, ?_⟩) (by assumption) ?_
     rotate_left
     ·((intro w hSw; go_simp) <;> with_reducible rfl)
     try simp only [hv, wk, Act.put, List.setIfInBounds_toArray, List.set_cons_zero, List.set_cons_succ]
     refine Rk.takeP (i := 1) (v := ?_) rfl (by kernel_rfl) (by kernel_rfl) (by kernel_rfl) (by kernel_rfl) (fun _ _ _ h => h) (Or.inl ⟨by kernel_rfl, ?_⟩) (by assumption) ?_
     rotate_left
     ·((intro w hSw; go_simp) <;> with_reducible rfl)
     try simp only [hv, wk, Act.put, List.setIfInBounds_toArray, List.set_cons_zero, List.set_cons_succ]
     refine Rk.takeP (i := 2) (v := ?_) rfl (by kernel_rfl) (by kernel_rfl) (by kernel_rfl) (by kernel_rfl) (fun _ _ _ h => h) (Or.inl ⟨by kernel_rfl, ?_⟩) (by assumption) ?_
     rotate_left
     ·((intro w hSw; go_simp) <;> with_reducible rfl)
     try simp only [hv, wk, Act.put, List.setIfInBounds_toArray, List.set_cons_zero, List.set_cons_succ]
     refine Rk.takeP (i := 3) (v := ?_) rfl (by kernel_rfl) (by kernel_rfl) (by kernel_rfl) (by kernel_rfl) (fun _ _ _ h => h) (Or.inl ⟨by kernel_rfl, ?_⟩) (by assumption) ?_
     rotate_left
     ·((intro w hSw; go_simp) <;> with_reducible rfl)
     try simp only [hv, wk, Act.put, List.setIfInBounds_toArray, List.set_cons_zero, List.set_cons_succ]
     refine Rk.takeP (i := 4) (v := ?_) rfl (by kernel_rfl) (by kernel_rfl) (by kernel_rfl) (by kernel_rfl) (fun _ _ _ h => h) (Or.inl ⟨by kernel_rfl, ?_⟩) (by assumption) ?_
     rotate_left
     ·((intro w hSw; go_simp) <;> with_reducible rfl)
     try simp only [hv, wk, Act.put, List.setIfInBounds_toArray, List.set_cons_zero, List.set_cons_succ]
     refine Rk.takeP (i := 5) (v := ?_) rfl (by kernel_rfl) (by kernel_rfl) (by kernel_rfl) (by kernel_rfl) (fun _ _ _ h => h) (Or.inl ⟨by kernel_rfl, ?_⟩) (by assumption) ?_
     rotate_left
     ·((intro w hSw; go_simp) <;> with_reducible rfl)
     try simp only [hv, wk, Act.put, List.setIfInBounds_toArray, List.set_cons_zero, List.set_cons_succ]
     refine Rk.takeP (i := 6) (v := ?_) rfl (by kernel_rfl) (by kernel_rfl) (by kernel_rfl) (by kernel_rfl) (fun _ _ _ h => h) (Or.inl ⟨by kernel_rfl, ?_⟩) (by assumption) ?_
     rotate_left
     ·((intro w hSw; go_simp) <;> with_reducible rfl)
     try simp only [hv, wk, Act.put, List.setIfInBounds_toArray, List.set_cons_zero, List.set_cons_succ]
     refine Rk.takeP (i := 7) (v := ?_) rfl (by kernel_rfl) (by kernel_rfl) (by kernel_rfl) (by kernel_rfl) (fun _ _ _ h => h) (Or.inl ⟨by kernel_rfl, ?_⟩) (by assumption) ?_
     rotate_left
     ·((intro w hSw; go_simp) <;> with_reducible rfl)
     try simp only [hv, wk, Act.put, List.setIfInBounds_toArray, List.set_cons_zero, List.set_cons_succ]
     refine Rk.takeP (i := 8) (v := ?_) rfl (by kernel_rfl) (by kernel_rfl) (by kernel_rfl) (by kernel_rfl) (fun _ _ _ h => h) (Or.inl ⟨by kernel_rfl, ?_⟩) (by assumption) ?_
     rotate_left
     ·((intro w hSw; go_simp) <;> with_reducible rfl)
     try simp only [hv, wk, Act.put, List.setIfInBounds_toArray, List.set_cons_zero, List.set_cons_succ]
     refine Rk.take [15] (i := 9) (v := ?_) rfl (by kernel_rfl) (by kernel_rfl) (by kernel_rfl) (by kernel_rfl) (by kernel_rfl) (fun _ _ _ h => h) (Or.inl ⟨by kernel_rfl, ?_⟩) (by assumption) ?_
     rotate_left
     ·((intro w hSw; (try dsimp only at hSw); go_simp) <;> with_reducible rfl)
     try simp only [hv, wk, Act.put, List.setIfInBounds_toArray, List.set_cons_zero, List.set_cons_succ]
     refine Rk.takeP (i := 10) (v := ?_) rfl (by kernel_rfl) (by kernel_rfl) (by kernel_rfl) (by kernel_rfl) (fun _ _ _ h => h) (Or.inl ⟨by kernel_rfl, ?_⟩) (by assumption) ?_
     rotate_left
     ·((intro w hSw; go_simp) <;> with_reducible rfl)
     try simp only [hv, wk, Act.put, List.setIfInBounds_toArray, List.set_cons_zero, List.set_cons_succ]
     refine Rk.takeP (i := 11) (v := ?_) rfl (by kernel_rfl) (by kernel_rfl) (by kernel_rfl) (by kernel_rfl) (fun _ _ _ h => h) (Or.inl ⟨by kernel_rfl, ?_⟩) (by assumption) ?_
     rotate_left
     ·((intro w hSw; go_simp) <;> with_reducible rfl)
     try simp only [hv, wk, Act.put, List.setIfInBounds_toArray, List.set_cons_zero, List.set_cons_succ]
     refine Rk.takeP (i := 12) (v := ?_) rfl (by kernel_rfl) (by kernel_rfl) (by kernel_rfl) (by kernel_rfl) (fun _ _ _ h => h) (Or.inl ⟨by kernel_rfl, ?_⟩) (by assumption) ?_
     rotate_left
     ·((intro w hSw; go_simp) <;> with_reducible rfl)
     try simp only [hv, wk, Act.put, List.setIfInBounds_toArray, List.set_cons_zero, List.set_cons_succ]
     refine Rk.take [15] (i := 13) (v := ?_) rfl (by kernel_rfl) (by kernel_rfl) (by kernel_rfl) (by kernel_rfl) (by kernel_rfl) (fun _ _ _ h => h) (Or.inl ⟨by kernel_rfl, ?_⟩) (by assumption) ?_
     rotate_left
     ·((intro w hSw; (try dsimp only at hSw); go_simp) <;> with_reducible rfl)
     try simp only [hv, wk, Act.put, List.setIfInBounds_toArray, List.set_cons_zero, List.set_cons_succ]
     refine Rk.takeP (i := 14) (v := ?_) rfl (by kernel_rfl) (by kernel_rfl) (by kernel_rfl) (by kernel_rfl) (fun _ _ _ h => h) (Or.inl ⟨by kernel_rfl, ?_⟩) (by assumption) ?_
     rotate_left
     ·((intro w hSw; go_simp) <;> with_reducible rfl)
     try simp only [hv, wk, Act.put, List.setIfInBounds_toArray, List.set_cons_zero, List.set_cons_succ]
     refine Rk.tail [15, 16, 17] [_, _, _] (by kernel_rfl) (by kernel_rfl) rfl (by decide) ?_
     go_wp2_with fail
     go_roundw
     case rel => exact ⟨k1, swE L k k1, by go_num, by omega, by omega, HR2, HMM, Lib.hid HEND.out.1.drew, Lib.hid (below_drewN (hB.out.trans (HEND.out.2.2.mono (by have := hB.out.size; omega))) _), Lib.hid ((hK.out.trans HEND.out.2.1).trans (K59.below (below_drewN (Below.refl _ _) _)))⟩
     case measure => simp [intOf]; omega
    ·have HE : Hid (L = RES) := Lib.hid (by
      have h := HR.out
      rw [show k - i = 0 by omega] at h
      exact h)
     have i2 : ¬ (i : Int) < k := by omega
     go_wp2_with fail
     refine bodyPost_ret (results_none rfl _ _ _) rfl ?_
     exact ⟨rfl, hB.out, hK.out, RES, HF.out.1, HF.out.2, by rw [<- HE.out]; exact hOW⟩
end Go.Proofs.YtbicmlkjonaccaaDoor.Ln


namespace Go.Proofs.YtbicmlkjonaccaaDoor.Ln
open Go.ChangeShapes Go.WideShapes Go.ChangeAt Go.RowKit
open Go.Proofs.YtbicmlkjonaccaaDoor.Nm
set_option linter.unusedVariables false
set_option linter.unusedSimpArgs false
set_option maxRecDepth 8000

theorem getD4 (Q A B R : List E5) (t : Nat) : (Q ++ (A ++ (B ++ R))).getD t e50 = if t < Q.length then Q.getD t e50 else if t < Q.length + A.length then A.getD (t - Q.length) e50 else if t < Q.length + A.length + B.length then B.getD (t - Q.length - A.length) e50 else R.getD (t - Q.length - A.length - B.length) e50 := by
 unfold List.getD
 by_cases h1 : t < Q.length
 ·rw [if_pos h1, List.getElem?_append_left h1]
 ·rw [if_neg h1, List.getElem?_append_right (by omega)]
  by_cases h2 : t < Q.length + A.length
  ·rw [if_pos h2, List.getElem?_append_left (by omega)]
  ·rw [if_neg h2, List.getElem?_append_right (by omega)]
   by_cases h3 : t < Q.length + A.length + B.length
   ·rw [if_pos h3, List.getElem?_append_left (by omega)]
   ·rw [if_neg h3, List.getElem?_append_right (by omega)]
/-- What a rotation leaves. -/
structure RotF (s m e : Nat) (L L1 : List E5) : Prop where
 rng : RngC s e L L1
 lo : ∀ t, s <= t -> t < s + (e - m) -> L1.getD t e50 = L.getD (t - s + m) e50
 hi : ∀ t, s + (e - m) <= t -> t < e -> L1.getD t e50 = L.getD (t - (e - m)) e50
theorem RotF.same {s m e : Nat} (L : List E5) (h1 : s <= m) (h2 : m <= e) (h : s = m \/ m = e) : RotF s m e L L :=
 ⟨RngC.refl _ _ _, fun t h3 h4 => by rw [show t - s + m = t by omega], fun t h3 h4 => by rw [show t - (e - m) = t by omega]⟩
theorem rot_facts {s m e : Nat} (L : List E5) (h1 : s <= m) (h2 : m <= e) (h3 : e <= L.length) : ∃ L1, RotS m (m - s) (e - m) L L1 /\ RotF s m e L L1 := by
 obtain ⟨Q, A, B, R, hL, hQ, hA, hB⟩ : ∃ Q A B R : List E5, L = Q ++ (A ++ (B ++ R)) /\ Q.length = s /\ A.length = m - s /\ B.length = e - m := by
  refine ⟨L.take s, (L.drop s).take (m - s), (L.drop m).take (e - m), L.drop e, ?_, by simp; omega, by simp; omega, by simp; omega⟩
  have a3 : (L.drop m).take (e - m) ++ L.drop e = L.drop m := by
   conv => rhs; rw [<- List.take_append_drop (e - m) (L.drop m)]
   rw [List.drop_drop, show m + (e - m) = e by omega]
  have a2 : (L.drop s).take (m - s) ++ L.drop m = L.drop s := by
   conv => rhs; rw [<- List.take_append_drop (m - s) (L.drop s)]
   rw [List.drop_drop, show s + (m - s) = m by omega]
  rw [a3, a2, List.take_append_drop]
 subst hL
 refine ⟨Q ++ (B ++ (A ++ R)), ⟨Q, A, B, R, rfl, rfl, by omega, hA, hB⟩, ⟨?_, fun k hk => ?_, fun k k1 k2 => ?_⟩, fun t h4 h5 => ?_, fun t h4 h5 => ?_⟩
 ·exact List.Perm.append_left _ (List.perm_append_comm_assoc _ _ _)
 ·rw [getD4, getD4]
  by_cases c : k < Q.length
  ·rw [if_pos c, if_pos c]
  ·rw [if_neg c, if_neg c, if_neg (by omega), if_neg (by omega), if_neg (by omega), if_neg (by omega), show k - Q.length - B.length - A.length = k - Q.length - A.length - B.length by omega]
 ·by_cases c : k < s + (e - m)
  ·refine ⟨k - s + m, by omega, by omega, ?_⟩
   rw [getD4, getD4, if_neg (by omega), if_pos (by omega), if_neg (by omega), if_neg (by omega), if_pos (by omega), show k - s + m - Q.length - A.length = k - Q.length by omega]
  ·refine ⟨k - (e - m), by omega, by omega, ?_⟩
   rw [getD4, getD4, if_neg (by omega), if_neg (by omega), if_pos (by omega), if_neg (by omega), if_pos (by omega), show k - (e - m) - Q.length = k - Q.length - B.length by omega]
 ·rw [getD4, getD4, if_neg (by omega), if_pos (by omega), if_neg (by omega), if_neg (by omega), if_pos (by omega), show t - s + m - Q.length - A.length = t - Q.length by omega]
 ·rw [getD4, getD4, if_neg (by omega), if_neg (by omega), if_pos (by omega), if_neg (by omega), if_pos (by omega), show t - (e - m) - Q.length = t - Q.length - B.length by omega]
variable {cf : E5 -> E5 -> Int}
theorem OrdC.refl (O : OrdC cf) (x : E5) : ¬ cf x x < 0 := fun h => O.asym _ _ h h
theorem SrtC.le (O : OrdC cf) {a b i j : Nat} {L : List E5} (S : SrtC cf a b L) (h1 : a <= i) (h2 : i <= j) (h3 : j < b) : ¬ cf (L.getD j e50) (L.getD i e50) < 0 := by
 by_cases h : i = j
 ·subst h; exact O.refl _
 ·exact S i j h1 (by omega) h3
/-- Where two sorted parts are cut. -/
structure CutC (cf : E5 -> E5 -> Int) (L : List E5) (a m b mid s e : Nat) : Prop where
 a1 : a <= s
 a2 : s <= mid
 a3 : mid <= e
 a4 : e <= b
 sm : s <= m
 me : m <= e
 eq : s + e = mid + m
 xy : ∀ x y, a <= x -> x < s -> e <= y -> y < b -> ¬ cf (L.getD y e50) (L.getD x e50) < 0
 yx : ∀ y x, m <= y -> y < e -> s <= x -> x < m -> ¬ cf (L.getD x e50) (L.getD y e50) < 0
theorem BisP.cut (O : OrdC cf) {L : List E5} {a m b mid lo hi s e : Nat} (h1 : a < m) (h2 : m < b) (hm : mid = (a + b) / 2) (hc : (mid < m /\ lo = mid + m - b /\ hi = mid) \/ (m <= mid /\ lo = a /\ hi = m)) (S1 : SrtC cf a m L) (S2 : SrtC cf m b L) (B : BisP cf L (mid + m - 1) lo hi s s) (he : e = mid + m - s) : CutC cf L a m b mid s e := by
 have b1 := B.a1
 have b3 := B.a3
 refine ⟨by omega, by omega, by omega, by omega, by omega, by omega, by omega, fun x y x1 x2 y1 y2 => ?_, fun y x y1 y2 x1 x2 => ?_⟩
 ·have hb := B.below (s - 1) (by omega) (by omega)
  rw [show mid + m - 1 - (s - 1) = e by omega] at hb
  exact O.trans _ _ _ (O.trans _ _ _ (S1.le O x1 (show x <= s - 1 by omega) (by omega)) hb) (S2.le O (by omega) y1 y2)
 ·have hb := B.above s (Nat.le_refl _) (by omega)
  rw [show mid + m - 1 - s = e - 1 by omega] at hb
  exact O.trans _ _ _ (O.trans _ _ _ (S2.le O y1 (show y <= e - 1 by omega) (by omega)) (O.asym _ _ hb)) (S1.le O (by omega) x1 x2)
theorem CutC.parts {L L1 : List E5} {a m b mid s e : Nat} (C : CutC cf L a m b mid s e) (S1 : SrtC cf a m L) (S2 : SrtC cf m b L) (R : RotF s m e L L1) : SrtC cf a s L1 /\ SrtC cf s mid L1 /\ SrtC cf mid e L1 /\ SrtC cf e b L1 /\ ∀ t u, a <= t -> t < mid -> mid <= u -> u < b -> ¬ cf (L1.getD u e50) (L1.getD t e50) < 0 := by
 have := C.a1; have := C.a2; have := C.a3; have := C.a4; have := C.sm; have := C.me; have := C.eq
 have hmid : s + (e - m) = mid := by omega
 refine ⟨fun i j i1 ij j1 => ?_, fun i j i1 ij j1 => ?_, fun i j i1 ij j1 => ?_, fun i j i1 ij j1 => ?_, fun t u t1 t2 u1 u2 => ?_⟩
 ·rw [R.rng.out i (by omega), R.rng.out j (by omega)]; exact S1 i j i1 ij (by omega)
 ·rw [R.lo i (by omega) (by omega), R.lo j (by omega) (by omega)]; exact S2 _ _ (by omega) (by omega) (by omega)
 ·rw [R.hi i (by omega) (by omega), R.hi j (by omega) (by omega)]; exact S1 _ _ (by omega) (by omega) (by omega)
 ·rw [R.rng.out i (by omega), R.rng.out j (by omega)]; exact S2 i j (by omega) ij j1
 ·by_cases ct : t < s
  ·rw [R.rng.out t (by omega)]
   by_cases cu : u < e
   ·rw [R.hi u (by omega) cu]; exact S1 _ _ t1 (by omega) (by omega)
   ·rw [R.rng.out u (by omega)]; exact C.xy t u t1 ct (by omega) u2
  ·rw [R.lo t (by omega) (by omega)]
   by_cases cu : u < e
   ·rw [R.hi u (by omega) cu]; exact C.yx _ _ (by omega) (by omega) (by omega) (by omega)
   ·rw [R.rng.out u (by omega)]; exact S2 _ _ (by omega) (by omega) u2
theorem CutC.done {L L1 L2 L3 : List E5} {a m b mid s e : Nat} (C : CutC cf L a m b mid s e) (S1 : SrtC cf a m L) (S2 : SrtC cf m b L) (R : RotF s m e L L1) (r2 : RngC a mid L1 L2) (s2 : SrtC cf a mid L2) (r3 : RngC mid b L2 L3) (s3 : SrtC cf mid b L3) : RngC a b L L3 /\ SrtC cf a b L3 := by
 have P := (C.parts S1 S2 R).2.2.2.2
 have := C.a1; have := C.a2; have := C.a3; have := C.a4
 refine ⟨((R.rng.mono C.a1 C.a4).trans (r2.mono (Nat.le_refl _) (by omega))).trans (r3.mono (by omega) (Nat.le_refl _)), fun i j i1 ij j1 => ?_⟩
 by_cases cj : j < mid
 ·rw [r3.out i (by omega), r3.out j (by omega)]; exact s2 i j i1 ij cj
 ·by_cases ci : i < mid
  ·rw [r3.out i (by omega)]
   obtain ⟨x, x1, x2, x3⟩ := r2.into i i1 ci
   obtain ⟨y, y1, y2, y3⟩ := r3.into j (by omega) j1
   rw [x3, y3, r2.out y (by omega)]
   exact P x y x1 x2 y1 y2
  ·exact s3 i j (by omega) ij j1
/-- A part of a sorted part. -/
theorem SrtC.sub {a b c d : Nat} {L : List E5} (S : SrtC cf a b L) (h1 : a <= c) (h2 : d <= b) : SrtC cf c d L := fun i j i1 ij j1 => S i j (by omega) ij (by omega)
end Go.Proofs.YtbicmlkjonaccaaDoor.Ln
