/- The merge. -/
import Derived.Test.YtbicmlkjonaccaaDoorK7
import Derived.Test.YtbicmlkjonaccaaDoorK8
import Derived.Deep.Cut
import Derived.Deep.CutRange

namespace Go.Proofs.YtbicmlkjonaccaaDoor.Ln
open Go.ChangeShapes Go.WideShapes Go.ChangeAt Go.RowKit
open Go.Proofs.YtbicmlkjonaccaaDoor.Nm
set_option linter.unusedVariables false
set_option linter.unusedSimpArgs false
set_option maxRecDepth 8000

set_option maxRecDepth 100000 in
set_option maxHeartbeats 16000000 in
/-- The merge of two neighbouring sorted parts. -/
theorem symN (g cap base n : Nat) (D : List E5) (cf : E5 -> E5 -> Int) (O : OrdC cf) (wo : World) (hn : n <= 100000) (NC : Hid (∀ x y, x ∈ D -> y ∈ D -> ∀ w', K59 wo w' -> Calls Tryd.prog 72 #[agE x, agE y] w' fun e w2 => e = .returned (.int .i64 (cf x y)) /\ Below w'.heap.size w' w2)) : ∀ (d a m b : Nat) (L0 : List E5) (w : World) (HL : Hid (L0.length = n /\ ∀ x ∈ L0, x ∈ D)) (h1 : a < m) (h2 : m < b) (h3 : b <= n) (hd : b - a <= d) (hO : Hid (w.ownsRow base 36 3 (.slice (some ⟨g, 0, none⟩) n cap) n (rowE L0))) (KO : Hid (K59 wo w)) (hbw : base <= w.heap.size) (SA : Hid (SrtC cf a m L0)) (SB : Hid (SrtC cf m b L0)),
  Calls Tryd.prog 121 #[.slice (some ⟨g, 0, none⟩) n cap, .int .i64 (a : Int), .int .i64 (m : Int), .int .i64 (b : Int), .func (.func 72) #[] #[]] w fun e w' => e = .returned (.tuple #[]) /\ Below base w w' /\ K59 w w' /\ ∃ L', RngC a b L0 L' /\ SrtC cf a b L' /\ Hid (w'.ownsRow base 36 3 (.slice (some ⟨g, 0, none⟩) n cap) n (rowE L')) := by
 intro d
 induction d with
 | zero => intro a m b L0 w HL h1 h2 h3 hd; exact absurd hd (by omega)
 | succ d ih =>
  intro a m b L0 w HL h1 h2 h3 hd hO KO hbw SA SB
  by_cases g1 : m = a + 1
  ·exact sm1 g cap base n a m b D L0 cf O wo w hn HL h1 h2 h3 hO NC KO hbw SA SB g1
  by_cases g2 : b = m + 1
  ·exact sm2 g cap base n a m b D L0 cf O wo w hn HL h1 h2 h3 hO NC KO hbw SA SB (by omega) g2
  have IHH := Lib.hid ih
  clear ih
  unfold agE at NC
  have OO := Lib.hid O
  clear O
  have c1 : ((m : Int) - (a : Int) == 1) = false := by rw [beq_eq_false_iff_ne]; omega
  have c2 : ((b : Int) - (m : Int) == 1) = false := by rw [beq_eq_false_iff_ne]; omega
  obtain ⟨mid, hmid⟩ : ∃ mid, mid = (a + b) / 2 := ⟨_, rfl⟩
  obtain ⟨pp, hpp⟩ : ∃ pp, mid + m - 1 = pp := ⟨_, rfl⟩
  have HMID := Lib.hid hmid
  have HPP := Lib.hid hpp
  have hv : ((a : Int) + (b : Int)) / 2 = (mid : Int) := by omega
  have hpv : (mid : Int) + (m : Int) - 1 = (pp : Int) := by omega
  have mm1 : a + 1 <= mid := by omega
  have mm2 : mid < b := by omega
  have mm3 : mid + mid <= a + b := by omega
  have mm4 : a + b <= mid + mid + 1 := by omega
  have mm5 : pp + 1 = mid + m := by omega
  clear hmid hpp g1 g2
  go_enter Tryd.func121, Tryd.ntmps121
  go_upto_region 25 with fail
  try rw [hv]
  clear hv
  by_cases hmm : mid < m
  ·have r1 : (mid : Int) < m := by omega
   obtain ⟨lo, hi, hlo⟩ : ∃ lo hi : Nat, lo + b = mid + m /\ hi = mid := ⟨mid + m - b, mid, by omega, rfl⟩
   have HLO := Lib.hid hlo
   have z1 : lo <= hi := by omega
   have z2 : hi <= m := by omega
   have z3 : a <= lo := by omega
   clear hlo
   go_wp2_with fail
   try rw [hpv]
   clear hpv
   go_loopw [20, 21] (fun iv jv wr => ∃ (i j : Nat), iv = .int .i64 (i : Int) /\ jv = .int .i64 (j : Int) /\ i <= j /\ lo <= i /\ j <= hi /\ Hid (BisP cf L0 pp lo hi i j) /\ Hid (wr.ownsRow base 36 3 (.slice (some ⟨g, 0, none⟩) n cap) n (rowE L0)) /\ Hid (Below base w wr) /\ Hid (K59 w wr)) (fun iv jv _ => (intOf jv).toNat - (intOf iv).toNat)
   case atStart => exact ⟨lo, hi, (by have := HLO.out; go_num), (by have := HLO.out; go_num), by omega, by omega, by omega, Lib.hid ⟨by omega, by omega, by omega, fun h k1 k2 => absurd k1 (by omega), fun h k1 k2 => absurd k1 (by omega)⟩, hO, Lib.hid (Below.refl _ _), Lib.hid (fun _ _ h => h)⟩
   case round =>
    clear hO
    obtain ⟨i, j, rfl, rfl, hij, hai, hjb, HB, hOW, hB, hK⟩ := hrel
    by_cases hlt : i < j
    ·have i1 : (i : Int) < j := by omega
     go_wp2_with fail
     obtain ⟨h, hh⟩ : ∃ h, h = (i + j) / 2 := ⟨_, rfl⟩
     have hh1 : i <= h := by omega
     have hh2 : h < j := by omega
     have hv : ((i : Int) + (j : Int)) / 2 = (h : Int) := by omega
     try rw [hv]
     clear hv hh
     obtain ⟨pc, hpc⟩ : ∃ pc, pp - h = pc := ⟨_, rfl⟩
     have HPC := Lib.hid hpc
     have wpc : (pp : Int) - (h : Int) = (pc : Int) := by have := HPP.out; omega
     have wkp : IntKind.i64.wrap (pc : Int) = (pc : Int) := by rw [IntKind.wrap_i64]; have := HPP.out; omega
     have hpcn : pc < n := by have := HPP.out; have := HLO.out; omega
     clear hpc
     have hpL : pc < L0.length := by rw [HL.out.1]; omega
     have hqL : h < L0.length := by rw [HL.out.1]; omega
     obtain ⟨v0, v1, v2⟩ := rowE_get L0 pc hpL
     obtain ⟨u0, u1, u2⟩ := rowE_get L0 h hqL
     have HX : Hid (L0.getD pc e50 ∈ D) := Lib.hid (HL.out.2 _ (getD_mem5 hpL))
     have HY : Hid (L0.getD h e50 ∈ D) := Lib.hid (HL.out.2 _ (getD_mem5 hqL))
     have c0 := (hOW.out.cellAt (pc * 3) (by omega)).trans v0
     have c1 := (hOW.out.cellAt (pc * 3 + 1) (by omega)).trans v1
     have c2 := (hOW.out.cellAt (pc * 3 + 2) (by omega)).trans v2
     have d0 := (hOW.out.cellAt (h * 3) (by omega)).trans u0
     have d1 := (hOW.out.cellAt (h * 3 + 1) (by omega)).trans u1
     have d2 := (hOW.out.cellAt (h * 3 + 2) (by omega)).trans u2
     obtain ⟨x, hx⟩ : ∃ x, L0.getD pc e50 = x := ⟨_, rfl⟩
     obtain ⟨y, hy⟩ : ∃ y, L0.getD h e50 = y := ⟨_, rfl⟩
     have HX0 := Lib.hid hx
     have HY0 := Lib.hid hy
     rw [hx] at c0 c1 c2 HX
     rw [hy] at d0 d1 d2 HY
     have j2 : (pc : Int) < n := by have := HL.out.1; omega
     have j3 : (h : Int) < n := by have := HL.out.1; omega
     have j4 : (0 : Int) <= pc := by omega
     have j5 : (0 : Int) <= h := by omega
     have HKW := Lib.hid (KO.out.trans hK.out)
     have hzr : wr.drew.cell? ⟨g, pc * 3, none⟩ = some (.int .i64 x.1) /\ wr.drew.cell? ⟨g, pc * 3 + 1, none⟩ = some (.slice x.2.1 x.2.2.1 x.2.2.2.1) /\ wr.drew.cell? ⟨g, pc * 3 + 2, none⟩ = some (.bool x.2.2.2.2) /\ wr.drew.cell? ⟨g, h * 3, none⟩ = some (.int .i64 y.1) /\ wr.drew.cell? ⟨g, h * 3 + 1, none⟩ = some (.slice y.2.1 y.2.2.1 y.2.2.2.1) /\ wr.drew.cell? ⟨g, h * 3 + 2, none⟩ = some (.bool y.2.2.2.2) /\ Below wr.heap.size wr wr.drew := ⟨c0, c1, c2, d0, d1, d2, (Below.refl _ _).drew⟩
     have HS : Hid (∀ u u' : World, (u.cell? ⟨g, pc * 3, none⟩ = some (.int .i64 x.1) /\ u.cell? ⟨g, pc * 3 + 1, none⟩ = some (.slice x.2.1 x.2.2.1 x.2.2.2.1) /\ u.cell? ⟨g, pc * 3 + 2, none⟩ = some (.bool x.2.2.2.2) /\ u.cell? ⟨g, h * 3, none⟩ = some (.int .i64 y.1) /\ u.cell? ⟨g, h * 3 + 1, none⟩ = some (.slice y.2.1 y.2.2.1 y.2.2.2.1) /\ u.cell? ⟨g, h * 3 + 2, none⟩ = some (.bool y.2.2.2.2) /\ Below wr.heap.size wr u) -> Below u.heap.size u u' -> (u'.cell? ⟨g, pc * 3, none⟩ = some (.int .i64 x.1) /\ u'.cell? ⟨g, pc * 3 + 1, none⟩ = some (.slice x.2.1 x.2.2.1 x.2.2.2.1) /\ u'.cell? ⟨g, pc * 3 + 2, none⟩ = some (.bool x.2.2.2.2) /\ u'.cell? ⟨g, h * 3, none⟩ = some (.int .i64 y.1) /\ u'.cell? ⟨g, h * 3 + 1, none⟩ = some (.slice y.2.1 y.2.2.1 y.2.2.2.1) /\ u'.cell? ⟨g, h * 3 + 2, none⟩ = some (.bool y.2.2.2.2) /\ Below wr.heap.size wr u')) := Lib.hid (fun u u' h hb => ⟨Rg.keep hb (World.block_lt_of_cell? _ _ h.1) h.1, Rg.keep hb (World.block_lt_of_cell? _ _ h.2.1) h.2.1, Rg.keep hb (World.block_lt_of_cell? _ _ h.2.2.1) h.2.2.1, Rg.keep hb (World.block_lt_of_cell? _ _ h.2.2.2.1) h.2.2.2.1, Rg.keep hb (World.block_lt_of_cell? _ _ h.2.2.2.2.1) h.2.2.2.2.1, Rg.keep hb (World.block_lt_of_cell? _ _ h.2.2.2.2.2.1) h.2.2.2.2.2.1, h.2.2.2.2.2.2.trans (hb.mono h.2.2.2.2.2.2.size)⟩)
     clear v0 v1 v2 u0 u1 u2 c0 c1 c2 d0 d1 d2
     by_cases hneg : cf x y < 0
     ·have hr2 : decide (cf x y < 0) = true := by simpa using hneg
      have HB2 := Lib.hid (HB.out.down OO.out SA.out SB.out (by have := HLO.out; omega) (by have := HLO.out; omega) (by have := HLO.out; have := HPP.out; omega) (by have := HLO.out; have := HPP.out; omega) (by have := HLO.out; have := HPP.out; omega) hh1 hh2 (by rw [HPC.out, HX0.out, HY0.out]; exact hneg))
      refine Rk.begin (S := fun wS => wS.cell? ⟨g, pc * 3, none⟩ = some (.int .i64 x.1) /\ wS.cell? ⟨g, pc * 3 + 1, none⟩ = some (.slice x.2.1 x.2.2.1 x.2.2.2.1) /\ wS.cell? ⟨g, pc * 3 + 2, none⟩ = some (.bool x.2.2.2.2) /\ wS.cell? ⟨g, h * 3, none⟩ = some (.int .i64 y.1) /\ wS.cell? ⟨g, h * 3 + 1, none⟩ = some (.slice y.2.1 y.2.2.1 y.2.2.2.1) /\ wS.cell? ⟨g, h * 3 + 2, none⟩ = some (.bool y.2.2.2.2) /\ Below wr.heap.size wr wS) 12 (by kernel_rfl) hzr (fun hHeld => ?_)
      refine Rk.takeP (i := 0) (v := ?_) rfl (by kernel_rfl) (by kernel_rfl) (by kernel_rfl) (by kernel_rfl) (fun _ _ _ h => h) (Or.inl ⟨by kernel_rfl, ?_⟩) (by assumption) ?_
      rotate_left
      ·((intro w hSw; go_simp) <;> with_reducible rfl)
      try simp only [wpc, wkp, Act.put, List.setIfInBounds_toArray, List.set_cons_zero, List.set_cons_succ]
      refine Rk.takeP (i := 1) (v := ?_) rfl (by kernel_rfl) (by kernel_rfl) (by kernel_rfl) (by kernel_rfl) (fun _ _ _ h => h) (Or.inl ⟨by kernel_rfl, ?_⟩) (by assumption) ?_
      rotate_left
      ·((intro w hSw; go_simp) <;> with_reducible rfl)
      try simp only [wpc, wkp, Act.put, List.setIfInBounds_toArray, List.set_cons_zero, List.set_cons_succ]
      refine Rk.takeP (i := 2) (v := ?_) rfl (by kernel_rfl) (by kernel_rfl) (by kernel_rfl) (by kernel_rfl) (fun _ _ _ h => h) (Or.inl ⟨by kernel_rfl, ?_⟩) (by assumption) ?_
      rotate_left
      ·((intro w hSw; go_simp) <;> with_reducible rfl)
      try simp only [wpc, wkp, Act.put, List.setIfInBounds_toArray, List.set_cons_zero, List.set_cons_succ]
      refine Rk.takeP (i := 3) (v := ?_) rfl (by kernel_rfl) (by kernel_rfl) (by kernel_rfl) (by kernel_rfl) (fun _ _ _ h => h) (Or.inl ⟨by kernel_rfl, ?_⟩) (by assumption) ?_
      rotate_left
      ·((intro w hSw; go_simp) <;> with_reducible rfl)
      try simp only [wpc, wkp, Act.put, List.setIfInBounds_toArray, List.set_cons_zero, List.set_cons_succ]
      refine Rk.takeP (i := 4) (v := ?_) rfl (by kernel_rfl) (by kernel_rfl) (by kernel_rfl) (by kernel_rfl) (fun _ _ _ h => h) (Or.inl ⟨by kernel_rfl, ?_⟩) (by assumption) ?_
      rotate_left
      ·((intro w hSw; go_simp) <;> with_reducible rfl)
      try simp only [wpc, wkp, Act.put, List.setIfInBounds_toArray, List.set_cons_zero, List.set_cons_succ]
      refine Rk.takeP (i := 5) (v := ?_) rfl (by kernel_rfl) (by kernel_rfl) (by kernel_rfl) (by kernel_rfl) (fun _ _ _ h => h) (Or.inl ⟨by kernel_rfl, ?_⟩) (by assumption) ?_
      rotate_left
      ·((intro w hSw; go_simp) <;> with_reducible rfl)
      try simp only [wpc, wkp, Act.put, List.setIfInBounds_toArray, List.set_cons_zero, List.set_cons_succ]
      refine Rk.take [11, 12] (i := 6) (v := ?_) rfl (by kernel_rfl) (by kernel_rfl) (by kernel_rfl) (by kernel_rfl) (by kernel_rfl) (fun _ _ _ h => h) (Or.inl ⟨by kernel_rfl, ?_⟩) (by assumption) ?_
      rotate_left
      ·((intro w hSw; (try dsimp only at hSw); go_simp) <;> with_reducible rfl)
      try simp only [wpc, wkp, Act.put, List.setIfInBounds_toArray, List.set_cons_zero, List.set_cons_succ]
      refine Rk.takeP (i := 7) (v := ?_) rfl (by kernel_rfl) (by kernel_rfl) (by kernel_rfl) (by kernel_rfl) (fun _ _ _ h => h) (Or.inl ⟨by kernel_rfl, ?_⟩) (by assumption) ?_
      rotate_left
      ·((intro w hSw; go_simp) <;> with_reducible rfl)
      try simp only [wpc, wkp, Act.put, List.setIfInBounds_toArray, List.set_cons_zero, List.set_cons_succ]
      refine Rk.takeP (i := 8) (v := ?_) rfl (by kernel_rfl) (by kernel_rfl) (by kernel_rfl) (by kernel_rfl) (fun _ _ _ h => h) (Or.inl ⟨by kernel_rfl, ?_⟩) (by assumption) ?_
      rotate_left
      ·((intro w hSw; go_simp) <;> with_reducible rfl)
      try simp only [wpc, wkp, Act.put, List.setIfInBounds_toArray, List.set_cons_zero, List.set_cons_succ]
      refine Rk.takeP (i := 9) (v := ?_) rfl (by kernel_rfl) (by kernel_rfl) (by kernel_rfl) (by kernel_rfl) (fun _ _ _ h => h) (Or.inl ⟨by kernel_rfl, ?_⟩) (by assumption) ?_
      rotate_left
      ·((intro w hSw; go_simp) <;> with_reducible rfl)
      try simp only [wpc, wkp, Act.put, List.setIfInBounds_toArray, List.set_cons_zero, List.set_cons_succ]
      refine Rk.take [11, 12] (i := 10) (v := ?_) rfl (by kernel_rfl) (by kernel_rfl) (by kernel_rfl) (by kernel_rfl) (by kernel_rfl) (fun _ _ _ h => h) (Or.inl ⟨by kernel_rfl, ?_⟩) (by assumption) ?_
      rotate_left
      ·((intro w hSw; (try dsimp only at hSw); go_simp) <;> with_reducible rfl)
      try simp only [wpc, wkp, Act.put, List.setIfInBounds_toArray, List.set_cons_zero, List.set_cons_succ]
      refine Rk.one (i := 11) (by kernel_rfl) rfl (fun KK hK => ?_)
      rw [if_pos (by kernel_rfl)]
      go_simp
      ((with_reducible refine (NC.out x y HX.out HY.out _ (HKW.out.trans (K59.below (hHeld.2.2.2.2.2.2)))).mono ?_); rintro e u ⟨rfl, hb⟩)
      first | (refine hK.out _ _ (fun _ => HS.out _ _ hHeld hb) (fun hHeld => ?_)) | (refine hK.out _ _ (HS.out _ _ hHeld hb) (fun hHeld => ?_)) | (go_wp2_with fail; refine hK.out _ _ (HS.out _ _ hHeld hb) (fun hHeld => ?_))
      clear hK KK
      refine Rk.tail [12, 13] [_, _] (by kernel_rfl) (by kernel_rfl) rfl (by decide) ?_
      have KB0 := hHeld.2.2.2.2.2.2
      have O2 := Lib.hid (own_belowE hOW.out KB0)
      have B2 := Lib.hid (hB.out.trans (KB0.mono (by have := hB.out.size; omega)))
      have K2 := Lib.hid (hK.out.trans (K59.below KB0))
      clear hHeld HS hOW hB hK KB0
      go_wp2_with fail
      go_roundw
      case rel => exact ⟨i, h, by go_num, by go_num, by omega, by omega, by omega, HB2, O2, B2, K2⟩
      case measure => simp [intOf]; omega
     ·have hr2 : decide (cf x y < 0) = false := by simpa using hneg
      have HB2 := Lib.hid (HB.out.up OO.out SA.out SB.out (by have := HLO.out; omega) (by have := HLO.out; omega) (by have := HLO.out; have := HPP.out; omega) (by have := HLO.out; have := HPP.out; omega) (by have := HLO.out; have := HPP.out; omega) hh1 hh2 (by rw [HPC.out, HX0.out, HY0.out]; exact hneg))
      refine Rk.begin (S := fun wS => wS.cell? ⟨g, pc * 3, none⟩ = some (.int .i64 x.1) /\ wS.cell? ⟨g, pc * 3 + 1, none⟩ = some (.slice x.2.1 x.2.2.1 x.2.2.2.1) /\ wS.cell? ⟨g, pc * 3 + 2, none⟩ = some (.bool x.2.2.2.2) /\ wS.cell? ⟨g, h * 3, none⟩ = some (.int .i64 y.1) /\ wS.cell? ⟨g, h * 3 + 1, none⟩ = some (.slice y.2.1 y.2.2.1 y.2.2.2.1) /\ wS.cell? ⟨g, h * 3 + 2, none⟩ = some (.bool y.2.2.2.2) /\ Below wr.heap.size wr wS) 12 (by kernel_rfl) hzr (fun hHeld => ?_)
      refine Rk.takeP (i := 0) (v := ?_) rfl (by kernel_rfl) (by kernel_rfl) (by kernel_rfl) (by kernel_rfl) (fun _ _ _ h => h) (Or.inl ⟨by kernel_rfl, ?_⟩) (by assumption) ?_
      rotate_left
      ·((intro w hSw; go_simp) <;> with_reducible rfl)
      try simp only [wpc, wkp, Act.put, List.setIfInBounds_toArray, List.set_cons_zero, List.set_cons_succ]
      refine Rk.takeP (i := 1) (v := ?_) rfl (by kernel_rfl) (by kernel_rfl) (by kernel_rfl) (by kernel_rfl) (fun _ _ _ h => h) (Or.inl ⟨by kernel_rfl, ?_⟩) (by assumption) ?_
      rotate_left
      ·((intro w hSw; go_simp) <;> with_reducible rfl)
      try simp only [wpc, wkp, Act.put, List.setIfInBounds_toArray, List.set_cons_zero, List.set_cons_succ]
      refine Rk.takeP (i := 2) (v := ?_) rfl (by kernel_rfl) (by kernel_rfl) (by kernel_rfl) (by kernel_rfl) (fun _ _ _ h => h) (Or.inl ⟨by kernel_rfl, ?_⟩) (by assumption) ?_
      rotate_left
      ·((intro w hSw; go_simp) <;> with_reducible rfl)
      try simp only [wpc, wkp, Act.put, List.setIfInBounds_toArray, List.set_cons_zero, List.set_cons_succ]
      refine Rk.takeP (i := 3) (v := ?_) rfl (by kernel_rfl) (by kernel_rfl) (by kernel_rfl) (by kernel_rfl) (fun _ _ _ h => h) (Or.inl ⟨by kernel_rfl, ?_⟩) (by assumption) ?_
      rotate_left
      ·((intro w hSw; go_simp) <;> with_reducible rfl)
      try simp only [wpc, wkp, Act.put, List.setIfInBounds_toArray, List.set_cons_zero, List.set_cons_succ]
      refine Rk.takeP (i := 4) (v := ?_) rfl (by kernel_rfl) (by kernel_rfl) (by kernel_rfl) (by kernel_rfl) (fun _ _ _ h => h) (Or.inl ⟨by kernel_rfl, ?_⟩) (by assumption) ?_
      rotate_left
      ·((intro w hSw; go_simp) <;> with_reducible rfl)
      try simp only [wpc, wkp, Act.put, List.setIfInBounds_toArray, List.set_cons_zero, List.set_cons_succ]
      refine Rk.takeP (i := 5) (v := ?_) rfl (by kernel_rfl) (by kernel_rfl) (by kernel_rfl) (by kernel_rfl) (fun _ _ _ h => h) (Or.inl ⟨by kernel_rfl, ?_⟩) (by assumption) ?_
      rotate_left
      ·((intro w hSw; go_simp) <;> with_reducible rfl)
      try simp only [wpc, wkp, Act.put, List.setIfInBounds_toArray, List.set_cons_zero, List.set_cons_succ]
      refine Rk.take [11, 12] (i := 6) (v := ?_) rfl (by kernel_rfl) (by kernel_rfl) (by kernel_rfl) (by kernel_rfl) (by kernel_rfl) (fun _ _ _ h => h) (Or.inl ⟨by kernel_rfl, ?_⟩) (by assumption) ?_
      rotate_left
      ·((intro w hSw; (try dsimp only at hSw); go_simp) <;> with_reducible rfl)
      try simp only [wpc, wkp, Act.put, List.setIfInBounds_toArray, List.set_cons_zero, List.set_cons_succ]
      refine Rk.takeP (i := 7) (v := ?_) rfl (by kernel_rfl) (by kernel_rfl) (by kernel_rfl) (by kernel_rfl) (fun _ _ _ h => h) (Or.inl ⟨by kernel_rfl, ?_⟩) (by assumption) ?_
      rotate_left
      ·((intro w hSw; go_simp) <;> with_reducible rfl)
      try simp only [wpc, wkp, Act.put, List.setIfInBounds_toArray, List.set_cons_zero, List.set_cons_succ]
      refine Rk.takeP (i := 8) (v := ?_) rfl (by kernel_rfl) (by kernel_rfl) (by kernel_rfl) (by kernel_rfl) (fun _ _ _ h => h) (Or.inl ⟨by kernel_rfl, ?_⟩) (by assumption) ?_
      rotate_left
      ·((intro w hSw; go_simp) <;> with_reducible rfl)
      try simp only [wpc, wkp, Act.put, List.setIfInBounds_toArray, List.set_cons_zero, List.set_cons_succ]
      refine Rk.takeP (i := 9) (v := ?_) rfl (by kernel_rfl) (by kernel_rfl) (by kernel_rfl) (by kernel_rfl) (fun _ _ _ h => h) (Or.inl ⟨by kernel_rfl, ?_⟩) (by assumption) ?_
      rotate_left
      ·((intro w hSw; go_simp) <;> with_reducible rfl)
      try simp only [wpc, wkp, Act.put, List.setIfInBounds_toArray, List.set_cons_zero, List.set_cons_succ]
      refine Rk.take [11, 12] (i := 10) (v := ?_) rfl (by kernel_rfl) (by kernel_rfl) (by kernel_rfl) (by kernel_rfl) (by kernel_rfl) (fun _ _ _ h => h) (Or.inl ⟨by kernel_rfl, ?_⟩) (by assumption) ?_
      rotate_left
      ·((intro w hSw; (try dsimp only at hSw); go_simp) <;> with_reducible rfl)
      try simp only [wpc, wkp, Act.put, List.setIfInBounds_toArray, List.set_cons_zero, List.set_cons_succ]
      refine Rk.one (i := 11) (by kernel_rfl) rfl (fun KK hK => ?_)
      rw [if_pos (by kernel_rfl)]
      go_simp
      ((with_reducible refine (NC.out x y HX.out HY.out _ (HKW.out.trans (K59.below (hHeld.2.2.2.2.2.2)))).mono ?_); rintro e u ⟨rfl, hb⟩)
      first | (refine hK.out _ _ (fun _ => HS.out _ _ hHeld hb) (fun hHeld => ?_)) | (refine hK.out _ _ (HS.out _ _ hHeld hb) (fun hHeld => ?_)) | (go_wp2_with fail; refine hK.out _ _ (HS.out _ _ hHeld hb) (fun hHeld => ?_))
      clear hK KK
      refine Rk.tail [12, 13] [_, _] (by kernel_rfl) (by kernel_rfl) rfl (by decide) ?_
      have KB0 := hHeld.2.2.2.2.2.2
      have O2 := Lib.hid (own_belowE hOW.out KB0)
      have B2 := Lib.hid (hB.out.trans (KB0.mono (by have := hB.out.size; omega)))
      have K2 := Lib.hid (hK.out.trans (K59.below KB0))
      clear hHeld HS hOW hB hK KB0
      go_wp2_with fail
      go_roundw
      case rel => exact ⟨h + 1, j, by go_num, by go_num, by omega, by omega, by omega, HB2, O2, B2, K2⟩
      case measure => simp [intOf]; omega
    ·obtain rfl : i = j := by omega
     have i1 : ¬ (i : Int) < i := by omega
     obtain ⟨s, hs⟩ : ∃ s, s = i := ⟨_, rfl⟩
     subst hs
     obtain ⟨e, he⟩ : ∃ e, e = mid + m - s := ⟨_, rfl⟩
     have HC := Lib.hid (BisP.cut (lo := lo) (hi := hi) OO.out h1 h2 HMID.out (Or.inl ⟨hmm, by have := HLO.out; omega, HLO.out.2⟩) SA.out SB.out (by have h := HB.out; rw [<- HPP.out] at h; exact h) he)
     have y1 := HC.out.a1
     have y2 := HC.out.a2
     have y3 := HC.out.a3
     have y4 := HC.out.a4
     have y5 := HC.out.sm
     have y6 := HC.out.me
     have hev : (mid : Int) + (m : Int) - (s : Int) = (e : Int) := by omega
     clear he HB
     go_upto_region 39 with fail
     try rw [hev]
     clear hev
     by_cases hA1 : s < m
     ·have qa1 : (s : Int) < m := by omega
      by_cases hA2 : m < e
      ·have qa2 : (m : Int) < e := by omega
       by_cases hB1 : a < s
       ·have qb1 : (a : Int) < s := by omega
        by_cases hB2 : s < mid
        ·have qb2 : (s : Int) < mid := by omega
         by_cases hC1 : mid < e
         ·have qc1 : (mid : Int) < e := by omega
          by_cases hC2 : e < b
          ·have qc2 : (e : Int) < b := by omega
           obtain ⟨L1, HRS, hrf⟩ := rot_facts (s := s) (m := m) (e := e) L0 (by omega) (by omega) (by rw [HL.out.1]; omega)
           have HRF := Lib.hid hrf
           have RO := Lib.hid (rotN g cap base n s m e L0 L1 wr hn HL.out.1 (by omega) (by omega) (by omega) (Lib.hid HRS) hOW _ _ _ rfl rfl rfl)
           clear hrf HRS
           go_wp2_with (first | (go_at_call 128; (with_reducible refine RO.out.mono ?_); rintro e1 w1 ⟨rfl, B1, K1, O1⟩; have HL1 : Hid (L1.length = n /\ ∀ x ∈ L1, x ∈ D) := Lib.hid ⟨by rw [HRF.out.rng.len]; exact HL.out.1, fun x hx => HL.out.2 _ (HRF.out.rng.perm.mem_iff.mp hx)⟩; have P := Lib.hid (HC.out.parts SA.out SB.out HRF.out); have R1 := Lib.hid (IHH.out a s mid L1 w1 HL1 (by omega) (by omega) (by omega) (by omega) O1 (Lib.hid (KO.out.trans (hK.out.trans K1))) (by have := (hB.out.trans B1).size; omega) (Lib.hid P.out.1) (Lib.hid P.out.2.1))) | (go_at_call 121; (with_reducible refine R1.out.mono ?_); rintro e2 w2 ⟨rfl, B2, K2, L2, r2, s2, O2⟩; have HL2 : Hid (L2.length = n /\ ∀ x ∈ L2, x ∈ D) := Lib.hid ⟨by rw [r2.len]; exact HL1.out.1, fun x hx => HL1.out.2 _ (r2.perm.mem_iff.mp hx)⟩; have HR2 := Lib.hid r2; have HS2 := Lib.hid s2; have HP3 := Lib.hid (P.out.2.2.1.keep HR2.out (Or.inr (Nat.le_refl _))); have HP4 := Lib.hid (P.out.2.2.2.1.keep HR2.out (Or.inr (by omega))); have R2 := Lib.hid (IHH.out mid e b L2 w2 HL2 (by omega) (by omega) (by omega) (by omega) O2 (Lib.hid (KO.out.trans ((hK.out.trans K1).trans K2))) (by have := ((hB.out.trans B1).trans B2).size; omega) HP3 HP4)) | (go_at_call 121; (with_reducible refine R2.out.mono ?_); rintro e3 w3 ⟨rfl, B3, K3, L3, r3, s3, O3⟩))
           go_end0
           have HD := HC.out.done SA.out SB.out HRF.out HR2.out HS2.out r3 s3
           exact ⟨rfl, (((hB.out.trans B1).trans B2).trans B3), (((hK.out.trans K1).trans K2).trans K3), L3, HD.1, HD.2, O3⟩
          ·have qc2 : ¬ (e : Int) < b := by omega
           obtain ⟨L1, HRS, hrf⟩ := rot_facts (s := s) (m := m) (e := e) L0 (by omega) (by omega) (by rw [HL.out.1]; omega)
           have HRF := Lib.hid hrf
           have RO := Lib.hid (rotN g cap base n s m e L0 L1 wr hn HL.out.1 (by omega) (by omega) (by omega) (Lib.hid HRS) hOW _ _ _ rfl rfl rfl)
           clear hrf HRS
           go_wp2_with (first | (go_at_call 128; (with_reducible refine RO.out.mono ?_); rintro e1 w1 ⟨rfl, B1, K1, O1⟩; have HL1 : Hid (L1.length = n /\ ∀ x ∈ L1, x ∈ D) := Lib.hid ⟨by rw [HRF.out.rng.len]; exact HL.out.1, fun x hx => HL.out.2 _ (HRF.out.rng.perm.mem_iff.mp hx)⟩; have P := Lib.hid (HC.out.parts SA.out SB.out HRF.out); have R1 := Lib.hid (IHH.out a s mid L1 w1 HL1 (by omega) (by omega) (by omega) (by omega) O1 (Lib.hid (KO.out.trans (hK.out.trans K1))) (by have := (hB.out.trans B1).size; omega) (Lib.hid P.out.1) (Lib.hid P.out.2.1))) | (go_at_call 121; (with_reducible refine R1.out.mono ?_); rintro e2 w2 ⟨rfl, B2, K2, L2, r2, s2, O2⟩; have HL2 : Hid (L2.length = n /\ ∀ x ∈ L2, x ∈ D) := Lib.hid ⟨by rw [r2.len]; exact HL1.out.1, fun x hx => HL1.out.2 _ (r2.perm.mem_iff.mp hx)⟩; have HR2 := Lib.hid r2; have HS2 := Lib.hid s2; have HP3 := Lib.hid (P.out.2.2.1.keep HR2.out (Or.inr (Nat.le_refl _))); have HP4 := Lib.hid (P.out.2.2.2.1.keep HR2.out (Or.inr (by omega))); have s3 : SrtC cf mid b L2 := (by rcases (show e <= mid \/ b <= e by omega) with hh | hh; exact HP4.out.sub hh (Nat.le_refl _); exact HP3.out.sub (Nat.le_refl _) hh)))
           go_end0
           have HD := HC.out.done SA.out SB.out HRF.out HR2.out HS2.out (RngC.refl mid b L2) s3
           exact ⟨rfl, ((hB.out.trans B1).trans B2), ((hK.out.trans K1).trans K2), L2, HD.1, HD.2, O2⟩
         ·have qc1 : ¬ (mid : Int) < e := by omega
          obtain ⟨L1, HRS, hrf⟩ := rot_facts (s := s) (m := m) (e := e) L0 (by omega) (by omega) (by rw [HL.out.1]; omega)
          have HRF := Lib.hid hrf
          have RO := Lib.hid (rotN g cap base n s m e L0 L1 wr hn HL.out.1 (by omega) (by omega) (by omega) (Lib.hid HRS) hOW _ _ _ rfl rfl rfl)
          clear hrf HRS
          go_wp2_with (first | (go_at_call 128; (with_reducible refine RO.out.mono ?_); rintro e1 w1 ⟨rfl, B1, K1, O1⟩; have HL1 : Hid (L1.length = n /\ ∀ x ∈ L1, x ∈ D) := Lib.hid ⟨by rw [HRF.out.rng.len]; exact HL.out.1, fun x hx => HL.out.2 _ (HRF.out.rng.perm.mem_iff.mp hx)⟩; have P := Lib.hid (HC.out.parts SA.out SB.out HRF.out); have R1 := Lib.hid (IHH.out a s mid L1 w1 HL1 (by omega) (by omega) (by omega) (by omega) O1 (Lib.hid (KO.out.trans (hK.out.trans K1))) (by have := (hB.out.trans B1).size; omega) (Lib.hid P.out.1) (Lib.hid P.out.2.1))) | (go_at_call 121; (with_reducible refine R1.out.mono ?_); rintro e2 w2 ⟨rfl, B2, K2, L2, r2, s2, O2⟩; have HL2 : Hid (L2.length = n /\ ∀ x ∈ L2, x ∈ D) := Lib.hid ⟨by rw [r2.len]; exact HL1.out.1, fun x hx => HL1.out.2 _ (r2.perm.mem_iff.mp hx)⟩; have HR2 := Lib.hid r2; have HS2 := Lib.hid s2; have HP3 := Lib.hid (P.out.2.2.1.keep HR2.out (Or.inr (Nat.le_refl _))); have HP4 := Lib.hid (P.out.2.2.2.1.keep HR2.out (Or.inr (by omega))); have s3 : SrtC cf mid b L2 := (by rcases (show e <= mid \/ b <= e by omega) with hh | hh; exact HP4.out.sub hh (Nat.le_refl _); exact HP3.out.sub (Nat.le_refl _) hh)))
          go_end0
          have HD := HC.out.done SA.out SB.out HRF.out HR2.out HS2.out (RngC.refl mid b L2) s3
          exact ⟨rfl, ((hB.out.trans B1).trans B2), ((hK.out.trans K1).trans K2), L2, HD.1, HD.2, O2⟩
        ·have qb2 : ¬ (s : Int) < mid := by omega
         by_cases hC1 : mid < e
         ·have qc1 : (mid : Int) < e := by omega
          by_cases hC2 : e < b
          ·have qc2 : (e : Int) < b := by omega
           obtain ⟨L1, HRS, hrf⟩ := rot_facts (s := s) (m := m) (e := e) L0 (by omega) (by omega) (by rw [HL.out.1]; omega)
           have HRF := Lib.hid hrf
           have RO := Lib.hid (rotN g cap base n s m e L0 L1 wr hn HL.out.1 (by omega) (by omega) (by omega) (Lib.hid HRS) hOW _ _ _ rfl rfl rfl)
           clear hrf HRS
           go_wp2_with (first | (go_at_call 128; (with_reducible refine RO.out.mono ?_); rintro e1 w1 ⟨rfl, B1, K1, O1⟩; have HL1 : Hid (L1.length = n /\ ∀ x ∈ L1, x ∈ D) := Lib.hid ⟨by rw [HRF.out.rng.len]; exact HL.out.1, fun x hx => HL.out.2 _ (HRF.out.rng.perm.mem_iff.mp hx)⟩; have P := Lib.hid (HC.out.parts SA.out SB.out HRF.out); have HR2 := Lib.hid (RngC.refl a mid L1); have HS2 : Hid (SrtC cf a mid L1) := Lib.hid (by rcases (show s <= a \/ mid <= s by omega) with hh | hh; exact P.out.2.1.sub hh (Nat.le_refl _); exact P.out.1.sub (Nat.le_refl _) hh); have HP3 := Lib.hid (P.out.2.2.1.keep HR2.out (Or.inr (Nat.le_refl _))); have HP4 := Lib.hid (P.out.2.2.2.1.keep HR2.out (Or.inr (by omega))); have R2 := Lib.hid (IHH.out mid e b L1 w1 HL1 (by omega) (by omega) (by omega) (by omega) O1 (Lib.hid (KO.out.trans (hK.out.trans K1))) (by have := (hB.out.trans B1).size; omega) HP3 HP4)) | (go_at_call 121; (with_reducible refine R2.out.mono ?_); rintro e3 w3 ⟨rfl, B3, K3, L3, r3, s3, O3⟩))
           go_end0
           have HD := HC.out.done SA.out SB.out HRF.out HR2.out HS2.out r3 s3
           exact ⟨rfl, ((hB.out.trans B1).trans B3), ((hK.out.trans K1).trans K3), L3, HD.1, HD.2, O3⟩
          ·have qc2 : ¬ (e : Int) < b := by omega
           obtain ⟨L1, HRS, hrf⟩ := rot_facts (s := s) (m := m) (e := e) L0 (by omega) (by omega) (by rw [HL.out.1]; omega)
           have HRF := Lib.hid hrf
           have RO := Lib.hid (rotN g cap base n s m e L0 L1 wr hn HL.out.1 (by omega) (by omega) (by omega) (Lib.hid HRS) hOW _ _ _ rfl rfl rfl)
           clear hrf HRS
           go_wp2_with (first | (go_at_call 128; (with_reducible refine RO.out.mono ?_); rintro e1 w1 ⟨rfl, B1, K1, O1⟩; have HL1 : Hid (L1.length = n /\ ∀ x ∈ L1, x ∈ D) := Lib.hid ⟨by rw [HRF.out.rng.len]; exact HL.out.1, fun x hx => HL.out.2 _ (HRF.out.rng.perm.mem_iff.mp hx)⟩; have P := Lib.hid (HC.out.parts SA.out SB.out HRF.out); have HR2 := Lib.hid (RngC.refl a mid L1); have HS2 : Hid (SrtC cf a mid L1) := Lib.hid (by rcases (show s <= a \/ mid <= s by omega) with hh | hh; exact P.out.2.1.sub hh (Nat.le_refl _); exact P.out.1.sub (Nat.le_refl _) hh); have HP3 := Lib.hid (P.out.2.2.1.keep HR2.out (Or.inr (Nat.le_refl _))); have HP4 := Lib.hid (P.out.2.2.2.1.keep HR2.out (Or.inr (by omega))); have s3 : SrtC cf mid b L1 := (by rcases (show e <= mid \/ b <= e by omega) with hh | hh; exact HP4.out.sub hh (Nat.le_refl _); exact HP3.out.sub (Nat.le_refl _) hh)))
           go_end0
           have HD := HC.out.done SA.out SB.out HRF.out HR2.out HS2.out (RngC.refl mid b L1) s3
           exact ⟨rfl, (hB.out.trans B1), (hK.out.trans K1), L1, HD.1, HD.2, O1⟩
         ·have qc1 : ¬ (mid : Int) < e := by omega
          obtain ⟨L1, HRS, hrf⟩ := rot_facts (s := s) (m := m) (e := e) L0 (by omega) (by omega) (by rw [HL.out.1]; omega)
          have HRF := Lib.hid hrf
          have RO := Lib.hid (rotN g cap base n s m e L0 L1 wr hn HL.out.1 (by omega) (by omega) (by omega) (Lib.hid HRS) hOW _ _ _ rfl rfl rfl)
          clear hrf HRS
          go_wp2_with (first | (go_at_call 128; (with_reducible refine RO.out.mono ?_); rintro e1 w1 ⟨rfl, B1, K1, O1⟩; have HL1 : Hid (L1.length = n /\ ∀ x ∈ L1, x ∈ D) := Lib.hid ⟨by rw [HRF.out.rng.len]; exact HL.out.1, fun x hx => HL.out.2 _ (HRF.out.rng.perm.mem_iff.mp hx)⟩; have P := Lib.hid (HC.out.parts SA.out SB.out HRF.out); have HR2 := Lib.hid (RngC.refl a mid L1); have HS2 : Hid (SrtC cf a mid L1) := Lib.hid (by rcases (show s <= a \/ mid <= s by omega) with hh | hh; exact P.out.2.1.sub hh (Nat.le_refl _); exact P.out.1.sub (Nat.le_refl _) hh); have HP3 := Lib.hid (P.out.2.2.1.keep HR2.out (Or.inr (Nat.le_refl _))); have HP4 := Lib.hid (P.out.2.2.2.1.keep HR2.out (Or.inr (by omega))); have s3 : SrtC cf mid b L1 := (by rcases (show e <= mid \/ b <= e by omega) with hh | hh; exact HP4.out.sub hh (Nat.le_refl _); exact HP3.out.sub (Nat.le_refl _) hh)))
          go_end0
          have HD := HC.out.done SA.out SB.out HRF.out HR2.out HS2.out (RngC.refl mid b L1) s3
          exact ⟨rfl, (hB.out.trans B1), (hK.out.trans K1), L1, HD.1, HD.2, O1⟩
       ·have qb1 : ¬ (a : Int) < s := by omega
        by_cases hC1 : mid < e
        ·have qc1 : (mid : Int) < e := by omega
         by_cases hC2 : e < b
         ·have qc2 : (e : Int) < b := by omega
          obtain ⟨L1, HRS, hrf⟩ := rot_facts (s := s) (m := m) (e := e) L0 (by omega) (by omega) (by rw [HL.out.1]; omega)
          have HRF := Lib.hid hrf
          have RO := Lib.hid (rotN g cap base n s m e L0 L1 wr hn HL.out.1 (by omega) (by omega) (by omega) (Lib.hid HRS) hOW _ _ _ rfl rfl rfl)
          clear hrf HRS
          go_wp2_with (first | (go_at_call 128; (with_reducible refine RO.out.mono ?_); rintro e1 w1 ⟨rfl, B1, K1, O1⟩; have HL1 : Hid (L1.length = n /\ ∀ x ∈ L1, x ∈ D) := Lib.hid ⟨by rw [HRF.out.rng.len]; exact HL.out.1, fun x hx => HL.out.2 _ (HRF.out.rng.perm.mem_iff.mp hx)⟩; have P := Lib.hid (HC.out.parts SA.out SB.out HRF.out); have HR2 := Lib.hid (RngC.refl a mid L1); have HS2 : Hid (SrtC cf a mid L1) := Lib.hid (by rcases (show s <= a \/ mid <= s by omega) with hh | hh; exact P.out.2.1.sub hh (Nat.le_refl _); exact P.out.1.sub (Nat.le_refl _) hh); have HP3 := Lib.hid (P.out.2.2.1.keep HR2.out (Or.inr (Nat.le_refl _))); have HP4 := Lib.hid (P.out.2.2.2.1.keep HR2.out (Or.inr (by omega))); have R2 := Lib.hid (IHH.out mid e b L1 w1 HL1 (by omega) (by omega) (by omega) (by omega) O1 (Lib.hid (KO.out.trans (hK.out.trans K1))) (by have := (hB.out.trans B1).size; omega) HP3 HP4)) | (go_at_call 121; (with_reducible refine R2.out.mono ?_); rintro e3 w3 ⟨rfl, B3, K3, L3, r3, s3, O3⟩))
          go_end0
          have HD := HC.out.done SA.out SB.out HRF.out HR2.out HS2.out r3 s3
          exact ⟨rfl, ((hB.out.trans B1).trans B3), ((hK.out.trans K1).trans K3), L3, HD.1, HD.2, O3⟩
         ·have qc2 : ¬ (e : Int) < b := by omega
          obtain ⟨L1, HRS, hrf⟩ := rot_facts (s := s) (m := m) (e := e) L0 (by omega) (by omega) (by rw [HL.out.1]; omega)
          have HRF := Lib.hid hrf
          have RO := Lib.hid (rotN g cap base n s m e L0 L1 wr hn HL.out.1 (by omega) (by omega) (by omega) (Lib.hid HRS) hOW _ _ _ rfl rfl rfl)
          clear hrf HRS
          go_wp2_with (first | (go_at_call 128; (with_reducible refine RO.out.mono ?_); rintro e1 w1 ⟨rfl, B1, K1, O1⟩; have HL1 : Hid (L1.length = n /\ ∀ x ∈ L1, x ∈ D) := Lib.hid ⟨by rw [HRF.out.rng.len]; exact HL.out.1, fun x hx => HL.out.2 _ (HRF.out.rng.perm.mem_iff.mp hx)⟩; have P := Lib.hid (HC.out.parts SA.out SB.out HRF.out); have HR2 := Lib.hid (RngC.refl a mid L1); have HS2 : Hid (SrtC cf a mid L1) := Lib.hid (by rcases (show s <= a \/ mid <= s by omega) with hh | hh; exact P.out.2.1.sub hh (Nat.le_refl _); exact P.out.1.sub (Nat.le_refl _) hh); have HP3 := Lib.hid (P.out.2.2.1.keep HR2.out (Or.inr (Nat.le_refl _))); have HP4 := Lib.hid (P.out.2.2.2.1.keep HR2.out (Or.inr (by omega))); have s3 : SrtC cf mid b L1 := (by rcases (show e <= mid \/ b <= e by omega) with hh | hh; exact HP4.out.sub hh (Nat.le_refl _); exact HP3.out.sub (Nat.le_refl _) hh)))
          go_end0
          have HD := HC.out.done SA.out SB.out HRF.out HR2.out HS2.out (RngC.refl mid b L1) s3
          exact ⟨rfl, (hB.out.trans B1), (hK.out.trans K1), L1, HD.1, HD.2, O1⟩
        ·have qc1 : ¬ (mid : Int) < e := by omega
         obtain ⟨L1, HRS, hrf⟩ := rot_facts (s := s) (m := m) (e := e) L0 (by omega) (by omega) (by rw [HL.out.1]; omega)
         have HRF := Lib.hid hrf
         have RO := Lib.hid (rotN g cap base n s m e L0 L1 wr hn HL.out.1 (by omega) (by omega) (by omega) (Lib.hid HRS) hOW _ _ _ rfl rfl rfl)
         clear hrf HRS
         go_wp2_with (first | (go_at_call 128; (with_reducible refine RO.out.mono ?_); rintro e1 w1 ⟨rfl, B1, K1, O1⟩; have HL1 : Hid (L1.length = n /\ ∀ x ∈ L1, x ∈ D) := Lib.hid ⟨by rw [HRF.out.rng.len]; exact HL.out.1, fun x hx => HL.out.2 _ (HRF.out.rng.perm.mem_iff.mp hx)⟩; have P := Lib.hid (HC.out.parts SA.out SB.out HRF.out); have HR2 := Lib.hid (RngC.refl a mid L1); have HS2 : Hid (SrtC cf a mid L1) := Lib.hid (by rcases (show s <= a \/ mid <= s by omega) with hh | hh; exact P.out.2.1.sub hh (Nat.le_refl _); exact P.out.1.sub (Nat.le_refl _) hh); have HP3 := Lib.hid (P.out.2.2.1.keep HR2.out (Or.inr (Nat.le_refl _))); have HP4 := Lib.hid (P.out.2.2.2.1.keep HR2.out (Or.inr (by omega))); have s3 : SrtC cf mid b L1 := (by rcases (show e <= mid \/ b <= e by omega) with hh | hh; exact HP4.out.sub hh (Nat.le_refl _); exact HP3.out.sub (Nat.le_refl _) hh)))
         go_end0
         have HD := HC.out.done SA.out SB.out HRF.out HR2.out HS2.out (RngC.refl mid b L1) s3
         exact ⟨rfl, (hB.out.trans B1), (hK.out.trans K1), L1, HD.1, HD.2, O1⟩
      ·have qa2 : ¬ (m : Int) < e := by omega
       by_cases hB1 : a < s
       ·have qb1 : (a : Int) < s := by omega
        by_cases hB2 : s < mid
        ·have qb2 : (s : Int) < mid := by omega
         by_cases hC1 : mid < e
         ·have qc1 : (mid : Int) < e := by omega
          by_cases hC2 : e < b
          ·have qc2 : (e : Int) < b := by omega
           have HRF := Lib.hid (RotF.same (s := s) (m := m) (e := e) L0 (by omega) (by omega) (by omega))
           have P := Lib.hid (HC.out.parts SA.out SB.out HRF.out)
           have R1 := Lib.hid (IHH.out a s mid L0 wr HL (by omega) (by omega) (by omega) (by omega) hOW (Lib.hid (KO.out.trans hK.out)) (by have := hB.out.size; omega) (Lib.hid P.out.1) (Lib.hid P.out.2.1))
           go_wp2_with (first | (go_at_call 121; (with_reducible refine R1.out.mono ?_); rintro e2 w2 ⟨rfl, B2, K2, L2, r2, s2, O2⟩; have HL2 : Hid (L2.length = n /\ ∀ x ∈ L2, x ∈ D) := Lib.hid ⟨by rw [r2.len]; exact HL.out.1, fun x hx => HL.out.2 _ (r2.perm.mem_iff.mp hx)⟩; have HR2 := Lib.hid r2; have HS2 := Lib.hid s2; have HP3 := Lib.hid (P.out.2.2.1.keep HR2.out (Or.inr (Nat.le_refl _))); have HP4 := Lib.hid (P.out.2.2.2.1.keep HR2.out (Or.inr (by omega))); have R2 := Lib.hid (IHH.out mid e b L2 w2 HL2 (by omega) (by omega) (by omega) (by omega) O2 (Lib.hid (KO.out.trans (hK.out.trans K2))) (by have := (hB.out.trans B2).size; omega) HP3 HP4)) | (go_at_call 121; (with_reducible refine R2.out.mono ?_); rintro e3 w3 ⟨rfl, B3, K3, L3, r3, s3, O3⟩))
           go_end0
           have HD := HC.out.done SA.out SB.out HRF.out HR2.out HS2.out r3 s3
           exact ⟨rfl, ((hB.out.trans B2).trans B3), ((hK.out.trans K2).trans K3), L3, HD.1, HD.2, O3⟩
          ·have qc2 : ¬ (e : Int) < b := by omega
           have HRF := Lib.hid (RotF.same (s := s) (m := m) (e := e) L0 (by omega) (by omega) (by omega))
           have P := Lib.hid (HC.out.parts SA.out SB.out HRF.out)
           have R1 := Lib.hid (IHH.out a s mid L0 wr HL (by omega) (by omega) (by omega) (by omega) hOW (Lib.hid (KO.out.trans hK.out)) (by have := hB.out.size; omega) (Lib.hid P.out.1) (Lib.hid P.out.2.1))
           go_wp2_with (first | (go_at_call 121; (with_reducible refine R1.out.mono ?_); rintro e2 w2 ⟨rfl, B2, K2, L2, r2, s2, O2⟩; have HL2 : Hid (L2.length = n /\ ∀ x ∈ L2, x ∈ D) := Lib.hid ⟨by rw [r2.len]; exact HL.out.1, fun x hx => HL.out.2 _ (r2.perm.mem_iff.mp hx)⟩; have HR2 := Lib.hid r2; have HS2 := Lib.hid s2; have HP3 := Lib.hid (P.out.2.2.1.keep HR2.out (Or.inr (Nat.le_refl _))); have HP4 := Lib.hid (P.out.2.2.2.1.keep HR2.out (Or.inr (by omega))); have s3 : SrtC cf mid b L2 := (by rcases (show e <= mid \/ b <= e by omega) with hh | hh; exact HP4.out.sub hh (Nat.le_refl _); exact HP3.out.sub (Nat.le_refl _) hh)))
           go_end0
           have HD := HC.out.done SA.out SB.out HRF.out HR2.out HS2.out (RngC.refl mid b L2) s3
           exact ⟨rfl, (hB.out.trans B2), (hK.out.trans K2), L2, HD.1, HD.2, O2⟩
         ·have qc1 : ¬ (mid : Int) < e := by omega
          have HRF := Lib.hid (RotF.same (s := s) (m := m) (e := e) L0 (by omega) (by omega) (by omega))
          have P := Lib.hid (HC.out.parts SA.out SB.out HRF.out)
          have R1 := Lib.hid (IHH.out a s mid L0 wr HL (by omega) (by omega) (by omega) (by omega) hOW (Lib.hid (KO.out.trans hK.out)) (by have := hB.out.size; omega) (Lib.hid P.out.1) (Lib.hid P.out.2.1))
          go_wp2_with (first | (go_at_call 121; (with_reducible refine R1.out.mono ?_); rintro e2 w2 ⟨rfl, B2, K2, L2, r2, s2, O2⟩; have HL2 : Hid (L2.length = n /\ ∀ x ∈ L2, x ∈ D) := Lib.hid ⟨by rw [r2.len]; exact HL.out.1, fun x hx => HL.out.2 _ (r2.perm.mem_iff.mp hx)⟩; have HR2 := Lib.hid r2; have HS2 := Lib.hid s2; have HP3 := Lib.hid (P.out.2.2.1.keep HR2.out (Or.inr (Nat.le_refl _))); have HP4 := Lib.hid (P.out.2.2.2.1.keep HR2.out (Or.inr (by omega))); have s3 : SrtC cf mid b L2 := (by rcases (show e <= mid \/ b <= e by omega) with hh | hh; exact HP4.out.sub hh (Nat.le_refl _); exact HP3.out.sub (Nat.le_refl _) hh)))
          go_end0
          have HD := HC.out.done SA.out SB.out HRF.out HR2.out HS2.out (RngC.refl mid b L2) s3
          exact ⟨rfl, (hB.out.trans B2), (hK.out.trans K2), L2, HD.1, HD.2, O2⟩
        ·have qb2 : ¬ (s : Int) < mid := by omega
         by_cases hC1 : mid < e
         ·have qc1 : (mid : Int) < e := by omega
          by_cases hC2 : e < b
          ·have qc2 : (e : Int) < b := by omega
           have HRF := Lib.hid (RotF.same (s := s) (m := m) (e := e) L0 (by omega) (by omega) (by omega))
           have P := Lib.hid (HC.out.parts SA.out SB.out HRF.out)
           have HR2 := Lib.hid (RngC.refl a mid L0)
           have HS2 : Hid (SrtC cf a mid L0) := Lib.hid (by rcases (show s <= a \/ mid <= s by omega) with hh | hh; exact P.out.2.1.sub hh (Nat.le_refl _); exact P.out.1.sub (Nat.le_refl _) hh)
           have HP3 := Lib.hid (P.out.2.2.1.keep HR2.out (Or.inr (Nat.le_refl _)))
           have HP4 := Lib.hid (P.out.2.2.2.1.keep HR2.out (Or.inr (by omega)))
           have R2 := Lib.hid (IHH.out mid e b L0 wr HL (by omega) (by omega) (by omega) (by omega) hOW (Lib.hid (KO.out.trans hK.out)) (by have := hB.out.size; omega) HP3 HP4)
           go_wp2_with (first | (go_at_call 121; (with_reducible refine R2.out.mono ?_); rintro e3 w3 ⟨rfl, B3, K3, L3, r3, s3, O3⟩))
           go_end0
           have HD := HC.out.done SA.out SB.out HRF.out HR2.out HS2.out r3 s3
           exact ⟨rfl, (hB.out.trans B3), (hK.out.trans K3), L3, HD.1, HD.2, O3⟩
          ·have qc2 : ¬ (e : Int) < b := by omega
           have HRF := Lib.hid (RotF.same (s := s) (m := m) (e := e) L0 (by omega) (by omega) (by omega))
           have P := Lib.hid (HC.out.parts SA.out SB.out HRF.out)
           have HR2 := Lib.hid (RngC.refl a mid L0)
           have HS2 : Hid (SrtC cf a mid L0) := Lib.hid (by rcases (show s <= a \/ mid <= s by omega) with hh | hh; exact P.out.2.1.sub hh (Nat.le_refl _); exact P.out.1.sub (Nat.le_refl _) hh)
           have HP3 := Lib.hid (P.out.2.2.1.keep HR2.out (Or.inr (Nat.le_refl _)))
           have HP4 := Lib.hid (P.out.2.2.2.1.keep HR2.out (Or.inr (by omega)))
           have s3 : SrtC cf mid b L0 := (by rcases (show e <= mid \/ b <= e by omega) with hh | hh; exact HP4.out.sub hh (Nat.le_refl _); exact HP3.out.sub (Nat.le_refl _) hh)
           go_wp2_with fail
           go_end0
           have HD := HC.out.done SA.out SB.out HRF.out HR2.out HS2.out (RngC.refl mid b L0) s3
           exact ⟨rfl, hB.out, hK.out, L0, HD.1, HD.2, hOW⟩
         ·have qc1 : ¬ (mid : Int) < e := by omega
          have HRF := Lib.hid (RotF.same (s := s) (m := m) (e := e) L0 (by omega) (by omega) (by omega))
          have P := Lib.hid (HC.out.parts SA.out SB.out HRF.out)
          have HR2 := Lib.hid (RngC.refl a mid L0)
          have HS2 : Hid (SrtC cf a mid L0) := Lib.hid (by rcases (show s <= a \/ mid <= s by omega) with hh | hh; exact P.out.2.1.sub hh (Nat.le_refl _); exact P.out.1.sub (Nat.le_refl _) hh)
          have HP3 := Lib.hid (P.out.2.2.1.keep HR2.out (Or.inr (Nat.le_refl _)))
          have HP4 := Lib.hid (P.out.2.2.2.1.keep HR2.out (Or.inr (by omega)))
          have s3 : SrtC cf mid b L0 := (by rcases (show e <= mid \/ b <= e by omega) with hh | hh; exact HP4.out.sub hh (Nat.le_refl _); exact HP3.out.sub (Nat.le_refl _) hh)
          go_wp2_with fail
          go_end0
          have HD := HC.out.done SA.out SB.out HRF.out HR2.out HS2.out (RngC.refl mid b L0) s3
          exact ⟨rfl, hB.out, hK.out, L0, HD.1, HD.2, hOW⟩
       ·have qb1 : ¬ (a : Int) < s := by omega
        by_cases hC1 : mid < e
        ·have qc1 : (mid : Int) < e := by omega
         by_cases hC2 : e < b
         ·have qc2 : (e : Int) < b := by omega
          have HRF := Lib.hid (RotF.same (s := s) (m := m) (e := e) L0 (by omega) (by omega) (by omega))
          have P := Lib.hid (HC.out.parts SA.out SB.out HRF.out)
          have HR2 := Lib.hid (RngC.refl a mid L0)
          have HS2 : Hid (SrtC cf a mid L0) := Lib.hid (by rcases (show s <= a \/ mid <= s by omega) with hh | hh; exact P.out.2.1.sub hh (Nat.le_refl _); exact P.out.1.sub (Nat.le_refl _) hh)
          have HP3 := Lib.hid (P.out.2.2.1.keep HR2.out (Or.inr (Nat.le_refl _)))
          have HP4 := Lib.hid (P.out.2.2.2.1.keep HR2.out (Or.inr (by omega)))
          have R2 := Lib.hid (IHH.out mid e b L0 wr HL (by omega) (by omega) (by omega) (by omega) hOW (Lib.hid (KO.out.trans hK.out)) (by have := hB.out.size; omega) HP3 HP4)
          go_wp2_with (first | (go_at_call 121; (with_reducible refine R2.out.mono ?_); rintro e3 w3 ⟨rfl, B3, K3, L3, r3, s3, O3⟩))
          go_end0
          have HD := HC.out.done SA.out SB.out HRF.out HR2.out HS2.out r3 s3
          exact ⟨rfl, (hB.out.trans B3), (hK.out.trans K3), L3, HD.1, HD.2, O3⟩
         ·have qc2 : ¬ (e : Int) < b := by omega
          have HRF := Lib.hid (RotF.same (s := s) (m := m) (e := e) L0 (by omega) (by omega) (by omega))
          have P := Lib.hid (HC.out.parts SA.out SB.out HRF.out)
          have HR2 := Lib.hid (RngC.refl a mid L0)
          have HS2 : Hid (SrtC cf a mid L0) := Lib.hid (by rcases (show s <= a \/ mid <= s by omega) with hh | hh; exact P.out.2.1.sub hh (Nat.le_refl _); exact P.out.1.sub (Nat.le_refl _) hh)
          have HP3 := Lib.hid (P.out.2.2.1.keep HR2.out (Or.inr (Nat.le_refl _)))
          have HP4 := Lib.hid (P.out.2.2.2.1.keep HR2.out (Or.inr (by omega)))
          have s3 : SrtC cf mid b L0 := (by rcases (show e <= mid \/ b <= e by omega) with hh | hh; exact HP4.out.sub hh (Nat.le_refl _); exact HP3.out.sub (Nat.le_refl _) hh)
          go_wp2_with fail
          go_end0
          have HD := HC.out.done SA.out SB.out HRF.out HR2.out HS2.out (RngC.refl mid b L0) s3
          exact ⟨rfl, hB.out, hK.out, L0, HD.1, HD.2, hOW⟩
        ·have qc1 : ¬ (mid : Int) < e := by omega
         have HRF := Lib.hid (RotF.same (s := s) (m := m) (e := e) L0 (by omega) (by omega) (by omega))
         have P := Lib.hid (HC.out.parts SA.out SB.out HRF.out)
         have HR2 := Lib.hid (RngC.refl a mid L0)
         have HS2 : Hid (SrtC cf a mid L0) := Lib.hid (by rcases (show s <= a \/ mid <= s by omega) with hh | hh; exact P.out.2.1.sub hh (Nat.le_refl _); exact P.out.1.sub (Nat.le_refl _) hh)
         have HP3 := Lib.hid (P.out.2.2.1.keep HR2.out (Or.inr (Nat.le_refl _)))
         have HP4 := Lib.hid (P.out.2.2.2.1.keep HR2.out (Or.inr (by omega)))
         have s3 : SrtC cf mid b L0 := (by rcases (show e <= mid \/ b <= e by omega) with hh | hh; exact HP4.out.sub hh (Nat.le_refl _); exact HP3.out.sub (Nat.le_refl _) hh)
         go_wp2_with fail
         go_end0
         have HD := HC.out.done SA.out SB.out HRF.out HR2.out HS2.out (RngC.refl mid b L0) s3
         exact ⟨rfl, hB.out, hK.out, L0, HD.1, HD.2, hOW⟩
     ·have qa1 : ¬ (s : Int) < m := by omega
      by_cases hB1 : a < s
      ·have qb1 : (a : Int) < s := by omega
       by_cases hB2 : s < mid
       ·have qb2 : (s : Int) < mid := by omega
        by_cases hC1 : mid < e
        ·have qc1 : (mid : Int) < e := by omega
         by_cases hC2 : e < b
         ·have qc2 : (e : Int) < b := by omega
          have HRF := Lib.hid (RotF.same (s := s) (m := m) (e := e) L0 (by omega) (by omega) (by omega))
          have P := Lib.hid (HC.out.parts SA.out SB.out HRF.out)
          have R1 := Lib.hid (IHH.out a s mid L0 wr HL (by omega) (by omega) (by omega) (by omega) hOW (Lib.hid (KO.out.trans hK.out)) (by have := hB.out.size; omega) (Lib.hid P.out.1) (Lib.hid P.out.2.1))
          go_wp2_with (first | (go_at_call 121; (with_reducible refine R1.out.mono ?_); rintro e2 w2 ⟨rfl, B2, K2, L2, r2, s2, O2⟩; have HL2 : Hid (L2.length = n /\ ∀ x ∈ L2, x ∈ D) := Lib.hid ⟨by rw [r2.len]; exact HL.out.1, fun x hx => HL.out.2 _ (r2.perm.mem_iff.mp hx)⟩; have HR2 := Lib.hid r2; have HS2 := Lib.hid s2; have HP3 := Lib.hid (P.out.2.2.1.keep HR2.out (Or.inr (Nat.le_refl _))); have HP4 := Lib.hid (P.out.2.2.2.1.keep HR2.out (Or.inr (by omega))); have R2 := Lib.hid (IHH.out mid e b L2 w2 HL2 (by omega) (by omega) (by omega) (by omega) O2 (Lib.hid (KO.out.trans (hK.out.trans K2))) (by have := (hB.out.trans B2).size; omega) HP3 HP4)) | (go_at_call 121; (with_reducible refine R2.out.mono ?_); rintro e3 w3 ⟨rfl, B3, K3, L3, r3, s3, O3⟩))
          go_end0
          have HD := HC.out.done SA.out SB.out HRF.out HR2.out HS2.out r3 s3
          exact ⟨rfl, ((hB.out.trans B2).trans B3), ((hK.out.trans K2).trans K3), L3, HD.1, HD.2, O3⟩
         ·have qc2 : ¬ (e : Int) < b := by omega
          have HRF := Lib.hid (RotF.same (s := s) (m := m) (e := e) L0 (by omega) (by omega) (by omega))
          have P := Lib.hid (HC.out.parts SA.out SB.out HRF.out)
          have R1 := Lib.hid (IHH.out a s mid L0 wr HL (by omega) (by omega) (by omega) (by omega) hOW (Lib.hid (KO.out.trans hK.out)) (by have := hB.out.size; omega) (Lib.hid P.out.1) (Lib.hid P.out.2.1))
          go_wp2_with (first | (go_at_call 121; (with_reducible refine R1.out.mono ?_); rintro e2 w2 ⟨rfl, B2, K2, L2, r2, s2, O2⟩; have HL2 : Hid (L2.length = n /\ ∀ x ∈ L2, x ∈ D) := Lib.hid ⟨by rw [r2.len]; exact HL.out.1, fun x hx => HL.out.2 _ (r2.perm.mem_iff.mp hx)⟩; have HR2 := Lib.hid r2; have HS2 := Lib.hid s2; have HP3 := Lib.hid (P.out.2.2.1.keep HR2.out (Or.inr (Nat.le_refl _))); have HP4 := Lib.hid (P.out.2.2.2.1.keep HR2.out (Or.inr (by omega))); have s3 : SrtC cf mid b L2 := (by rcases (show e <= mid \/ b <= e by omega) with hh | hh; exact HP4.out.sub hh (Nat.le_refl _); exact HP3.out.sub (Nat.le_refl _) hh)))
          go_end0
          have HD := HC.out.done SA.out SB.out HRF.out HR2.out HS2.out (RngC.refl mid b L2) s3
          exact ⟨rfl, (hB.out.trans B2), (hK.out.trans K2), L2, HD.1, HD.2, O2⟩
        ·have qc1 : ¬ (mid : Int) < e := by omega
         have HRF := Lib.hid (RotF.same (s := s) (m := m) (e := e) L0 (by omega) (by omega) (by omega))
         have P := Lib.hid (HC.out.parts SA.out SB.out HRF.out)
         have R1 := Lib.hid (IHH.out a s mid L0 wr HL (by omega) (by omega) (by omega) (by omega) hOW (Lib.hid (KO.out.trans hK.out)) (by have := hB.out.size; omega) (Lib.hid P.out.1) (Lib.hid P.out.2.1))
         go_wp2_with (first | (go_at_call 121; (with_reducible refine R1.out.mono ?_); rintro e2 w2 ⟨rfl, B2, K2, L2, r2, s2, O2⟩; have HL2 : Hid (L2.length = n /\ ∀ x ∈ L2, x ∈ D) := Lib.hid ⟨by rw [r2.len]; exact HL.out.1, fun x hx => HL.out.2 _ (r2.perm.mem_iff.mp hx)⟩; have HR2 := Lib.hid r2; have HS2 := Lib.hid s2; have HP3 := Lib.hid (P.out.2.2.1.keep HR2.out (Or.inr (Nat.le_refl _))); have HP4 := Lib.hid (P.out.2.2.2.1.keep HR2.out (Or.inr (by omega))); have s3 : SrtC cf mid b L2 := (by rcases (show e <= mid \/ b <= e by omega) with hh | hh; exact HP4.out.sub hh (Nat.le_refl _); exact HP3.out.sub (Nat.le_refl _) hh)))
         go_end0
         have HD := HC.out.done SA.out SB.out HRF.out HR2.out HS2.out (RngC.refl mid b L2) s3
         exact ⟨rfl, (hB.out.trans B2), (hK.out.trans K2), L2, HD.1, HD.2, O2⟩
       ·have qb2 : ¬ (s : Int) < mid := by omega
        by_cases hC1 : mid < e
        ·have qc1 : (mid : Int) < e := by omega
         by_cases hC2 : e < b
         ·have qc2 : (e : Int) < b := by omega
          have HRF := Lib.hid (RotF.same (s := s) (m := m) (e := e) L0 (by omega) (by omega) (by omega))
          have P := Lib.hid (HC.out.parts SA.out SB.out HRF.out)
          have HR2 := Lib.hid (RngC.refl a mid L0)
          have HS2 : Hid (SrtC cf a mid L0) := Lib.hid (by rcases (show s <= a \/ mid <= s by omega) with hh | hh; exact P.out.2.1.sub hh (Nat.le_refl _); exact P.out.1.sub (Nat.le_refl _) hh)
          have HP3 := Lib.hid (P.out.2.2.1.keep HR2.out (Or.inr (Nat.le_refl _)))
          have HP4 := Lib.hid (P.out.2.2.2.1.keep HR2.out (Or.inr (by omega)))
          have R2 := Lib.hid (IHH.out mid e b L0 wr HL (by omega) (by omega) (by omega) (by omega) hOW (Lib.hid (KO.out.trans hK.out)) (by have := hB.out.size; omega) HP3 HP4)
          go_wp2_with (first | (go_at_call 121; (with_reducible refine R2.out.mono ?_); rintro e3 w3 ⟨rfl, B3, K3, L3, r3, s3, O3⟩))
          go_end0
          have HD := HC.out.done SA.out SB.out HRF.out HR2.out HS2.out r3 s3
          exact ⟨rfl, (hB.out.trans B3), (hK.out.trans K3), L3, HD.1, HD.2, O3⟩
         ·have qc2 : ¬ (e : Int) < b := by omega
          have HRF := Lib.hid (RotF.same (s := s) (m := m) (e := e) L0 (by omega) (by omega) (by omega))
          have P := Lib.hid (HC.out.parts SA.out SB.out HRF.out)
          have HR2 := Lib.hid (RngC.refl a mid L0)
          have HS2 : Hid (SrtC cf a mid L0) := Lib.hid (by rcases (show s <= a \/ mid <= s by omega) with hh | hh; exact P.out.2.1.sub hh (Nat.le_refl _); exact P.out.1.sub (Nat.le_refl _) hh)
          have HP3 := Lib.hid (P.out.2.2.1.keep HR2.out (Or.inr (Nat.le_refl _)))
          have HP4 := Lib.hid (P.out.2.2.2.1.keep HR2.out (Or.inr (by omega)))
          have s3 : SrtC cf mid b L0 := (by rcases (show e <= mid \/ b <= e by omega) with hh | hh; exact HP4.out.sub hh (Nat.le_refl _); exact HP3.out.sub (Nat.le_refl _) hh)
          go_wp2_with fail
          go_end0
          have HD := HC.out.done SA.out SB.out HRF.out HR2.out HS2.out (RngC.refl mid b L0) s3
          exact ⟨rfl, hB.out, hK.out, L0, HD.1, HD.2, hOW⟩
        ·have qc1 : ¬ (mid : Int) < e := by omega
         have HRF := Lib.hid (RotF.same (s := s) (m := m) (e := e) L0 (by omega) (by omega) (by omega))
         have P := Lib.hid (HC.out.parts SA.out SB.out HRF.out)
         have HR2 := Lib.hid (RngC.refl a mid L0)
         have HS2 : Hid (SrtC cf a mid L0) := Lib.hid (by rcases (show s <= a \/ mid <= s by omega) with hh | hh; exact P.out.2.1.sub hh (Nat.le_refl _); exact P.out.1.sub (Nat.le_refl _) hh)
         have HP3 := Lib.hid (P.out.2.2.1.keep HR2.out (Or.inr (Nat.le_refl _)))
         have HP4 := Lib.hid (P.out.2.2.2.1.keep HR2.out (Or.inr (by omega)))
         have s3 : SrtC cf mid b L0 := (by rcases (show e <= mid \/ b <= e by omega) with hh | hh; exact HP4.out.sub hh (Nat.le_refl _); exact HP3.out.sub (Nat.le_refl _) hh)
         go_wp2_with fail
         go_end0
         have HD := HC.out.done SA.out SB.out HRF.out HR2.out HS2.out (RngC.refl mid b L0) s3
         exact ⟨rfl, hB.out, hK.out, L0, HD.1, HD.2, hOW⟩
      ·have qb1 : ¬ (a : Int) < s := by omega
       by_cases hC1 : mid < e
       ·have qc1 : (mid : Int) < e := by omega
        by_cases hC2 : e < b
        ·have qc2 : (e : Int) < b := by omega
         have HRF := Lib.hid (RotF.same (s := s) (m := m) (e := e) L0 (by omega) (by omega) (by omega))
         have P := Lib.hid (HC.out.parts SA.out SB.out HRF.out)
         have HR2 := Lib.hid (RngC.refl a mid L0)
         have HS2 : Hid (SrtC cf a mid L0) := Lib.hid (by rcases (show s <= a \/ mid <= s by omega) with hh | hh; exact P.out.2.1.sub hh (Nat.le_refl _); exact P.out.1.sub (Nat.le_refl _) hh)
         have HP3 := Lib.hid (P.out.2.2.1.keep HR2.out (Or.inr (Nat.le_refl _)))
         have HP4 := Lib.hid (P.out.2.2.2.1.keep HR2.out (Or.inr (by omega)))
         have R2 := Lib.hid (IHH.out mid e b L0 wr HL (by omega) (by omega) (by omega) (by omega) hOW (Lib.hid (KO.out.trans hK.out)) (by have := hB.out.size; omega) HP3 HP4)
         go_wp2_with (first | (go_at_call 121; (with_reducible refine R2.out.mono ?_); rintro e3 w3 ⟨rfl, B3, K3, L3, r3, s3, O3⟩))
         go_end0
         have HD := HC.out.done SA.out SB.out HRF.out HR2.out HS2.out r3 s3
         exact ⟨rfl, (hB.out.trans B3), (hK.out.trans K3), L3, HD.1, HD.2, O3⟩
        ·have qc2 : ¬ (e : Int) < b := by omega
         have HRF := Lib.hid (RotF.same (s := s) (m := m) (e := e) L0 (by omega) (by omega) (by omega))
         have P := Lib.hid (HC.out.parts SA.out SB.out HRF.out)
         have HR2 := Lib.hid (RngC.refl a mid L0)
         have HS2 : Hid (SrtC cf a mid L0) := Lib.hid (by rcases (show s <= a \/ mid <= s by omega) with hh | hh; exact P.out.2.1.sub hh (Nat.le_refl _); exact P.out.1.sub (Nat.le_refl _) hh)
         have HP3 := Lib.hid (P.out.2.2.1.keep HR2.out (Or.inr (Nat.le_refl _)))
         have HP4 := Lib.hid (P.out.2.2.2.1.keep HR2.out (Or.inr (by omega)))
         have s3 : SrtC cf mid b L0 := (by rcases (show e <= mid \/ b <= e by omega) with hh | hh; exact HP4.out.sub hh (Nat.le_refl _); exact HP3.out.sub (Nat.le_refl _) hh)
         go_wp2_with fail
         go_end0
         have HD := HC.out.done SA.out SB.out HRF.out HR2.out HS2.out (RngC.refl mid b L0) s3
         exact ⟨rfl, hB.out, hK.out, L0, HD.1, HD.2, hOW⟩
       ·have qc1 : ¬ (mid : Int) < e := by omega
        have HRF := Lib.hid (RotF.same (s := s) (m := m) (e := e) L0 (by omega) (by omega) (by omega))
        have P := Lib.hid (HC.out.parts SA.out SB.out HRF.out)
        have HR2 := Lib.hid (RngC.refl a mid L0)
        have HS2 : Hid (SrtC cf a mid L0) := Lib.hid (by rcases (show s <= a \/ mid <= s by omega) with hh | hh; exact P.out.2.1.sub hh (Nat.le_refl _); exact P.out.1.sub (Nat.le_refl _) hh)
        have HP3 := Lib.hid (P.out.2.2.1.keep HR2.out (Or.inr (Nat.le_refl _)))
        have HP4 := Lib.hid (P.out.2.2.2.1.keep HR2.out (Or.inr (by omega)))
        have s3 : SrtC cf mid b L0 := (by rcases (show e <= mid \/ b <= e by omega) with hh | hh; exact HP4.out.sub hh (Nat.le_refl _); exact HP3.out.sub (Nat.le_refl _) hh)
        go_wp2_with fail
        go_end0
        have HD := HC.out.done SA.out SB.out HRF.out HR2.out HS2.out (RngC.refl mid b L0) s3
        exact ⟨rfl, hB.out, hK.out, L0, HD.1, HD.2, hOW⟩
  ·have r1 : ¬ (mid : Int) < m := by omega
   replace hmm : m <= mid := by omega
   obtain ⟨lo, hi, hlo⟩ : ∃ lo hi : Nat, lo = a /\ hi = m := ⟨a, m, rfl, rfl⟩
   have HLO := Lib.hid hlo
   have z1 : lo <= hi := by omega
   have z2 : hi <= m := by omega
   have z3 : a <= lo := by omega
   clear hlo
   go_wp2_with fail
   try rw [hpv]
   clear hpv
   go_loopw [20, 21] (fun iv jv wr => ∃ (i j : Nat), iv = .int .i64 (i : Int) /\ jv = .int .i64 (j : Int) /\ i <= j /\ lo <= i /\ j <= hi /\ Hid (BisP cf L0 pp lo hi i j) /\ Hid (wr.ownsRow base 36 3 (.slice (some ⟨g, 0, none⟩) n cap) n (rowE L0)) /\ Hid (Below base w wr) /\ Hid (K59 w wr)) (fun iv jv _ => (intOf jv).toNat - (intOf iv).toNat)
   case atStart => exact ⟨lo, hi, (by have := HLO.out; go_num), (by have := HLO.out; go_num), by omega, by omega, by omega, Lib.hid ⟨by omega, by omega, by omega, fun h k1 k2 => absurd k1 (by omega), fun h k1 k2 => absurd k1 (by omega)⟩, hO, Lib.hid (Below.refl _ _), Lib.hid (fun _ _ h => h)⟩
   case round =>
    clear hO
    obtain ⟨i, j, rfl, rfl, hij, hai, hjb, HB, hOW, hB, hK⟩ := hrel
    by_cases hlt : i < j
    ·have i1 : (i : Int) < j := by omega
     go_wp2_with fail
     obtain ⟨h, hh⟩ : ∃ h, h = (i + j) / 2 := ⟨_, rfl⟩
     have hh1 : i <= h := by omega
     have hh2 : h < j := by omega
     have hv : ((i : Int) + (j : Int)) / 2 = (h : Int) := by omega
     try rw [hv]
     clear hv hh
     obtain ⟨pc, hpc⟩ : ∃ pc, pp - h = pc := ⟨_, rfl⟩
     have HPC := Lib.hid hpc
     have wpc : (pp : Int) - (h : Int) = (pc : Int) := by have := HPP.out; omega
     have wkp : IntKind.i64.wrap (pc : Int) = (pc : Int) := by rw [IntKind.wrap_i64]; have := HPP.out; omega
     have hpcn : pc < n := by have := HPP.out; have := HLO.out; omega
     clear hpc
     have hpL : pc < L0.length := by rw [HL.out.1]; omega
     have hqL : h < L0.length := by rw [HL.out.1]; omega
     obtain ⟨v0, v1, v2⟩ := rowE_get L0 pc hpL
     obtain ⟨u0, u1, u2⟩ := rowE_get L0 h hqL
     have HX : Hid (L0.getD pc e50 ∈ D) := Lib.hid (HL.out.2 _ (getD_mem5 hpL))
     have HY : Hid (L0.getD h e50 ∈ D) := Lib.hid (HL.out.2 _ (getD_mem5 hqL))
     have c0 := (hOW.out.cellAt (pc * 3) (by omega)).trans v0
     have c1 := (hOW.out.cellAt (pc * 3 + 1) (by omega)).trans v1
     have c2 := (hOW.out.cellAt (pc * 3 + 2) (by omega)).trans v2
     have d0 := (hOW.out.cellAt (h * 3) (by omega)).trans u0
     have d1 := (hOW.out.cellAt (h * 3 + 1) (by omega)).trans u1
     have d2 := (hOW.out.cellAt (h * 3 + 2) (by omega)).trans u2
     obtain ⟨x, hx⟩ : ∃ x, L0.getD pc e50 = x := ⟨_, rfl⟩
     obtain ⟨y, hy⟩ : ∃ y, L0.getD h e50 = y := ⟨_, rfl⟩
     have HX0 := Lib.hid hx
     have HY0 := Lib.hid hy
     rw [hx] at c0 c1 c2 HX
     rw [hy] at d0 d1 d2 HY
     have j2 : (pc : Int) < n := by have := HL.out.1; omega
     have j3 : (h : Int) < n := by have := HL.out.1; omega
     have j4 : (0 : Int) <= pc := by omega
     have j5 : (0 : Int) <= h := by omega
     have HKW := Lib.hid (KO.out.trans hK.out)
     have hzr : wr.drew.cell? ⟨g, pc * 3, none⟩ = some (.int .i64 x.1) /\ wr.drew.cell? ⟨g, pc * 3 + 1, none⟩ = some (.slice x.2.1 x.2.2.1 x.2.2.2.1) /\ wr.drew.cell? ⟨g, pc * 3 + 2, none⟩ = some (.bool x.2.2.2.2) /\ wr.drew.cell? ⟨g, h * 3, none⟩ = some (.int .i64 y.1) /\ wr.drew.cell? ⟨g, h * 3 + 1, none⟩ = some (.slice y.2.1 y.2.2.1 y.2.2.2.1) /\ wr.drew.cell? ⟨g, h * 3 + 2, none⟩ = some (.bool y.2.2.2.2) /\ Below wr.heap.size wr wr.drew := ⟨c0, c1, c2, d0, d1, d2, (Below.refl _ _).drew⟩
     have HS : Hid (∀ u u' : World, (u.cell? ⟨g, pc * 3, none⟩ = some (.int .i64 x.1) /\ u.cell? ⟨g, pc * 3 + 1, none⟩ = some (.slice x.2.1 x.2.2.1 x.2.2.2.1) /\ u.cell? ⟨g, pc * 3 + 2, none⟩ = some (.bool x.2.2.2.2) /\ u.cell? ⟨g, h * 3, none⟩ = some (.int .i64 y.1) /\ u.cell? ⟨g, h * 3 + 1, none⟩ = some (.slice y.2.1 y.2.2.1 y.2.2.2.1) /\ u.cell? ⟨g, h * 3 + 2, none⟩ = some (.bool y.2.2.2.2) /\ Below wr.heap.size wr u) -> Below u.heap.size u u' -> (u'.cell? ⟨g, pc * 3, none⟩ = some (.int .i64 x.1) /\ u'.cell? ⟨g, pc * 3 + 1, none⟩ = some (.slice x.2.1 x.2.2.1 x.2.2.2.1) /\ u'.cell? ⟨g, pc * 3 + 2, none⟩ = some (.bool x.2.2.2.2) /\ u'.cell? ⟨g, h * 3, none⟩ = some (.int .i64 y.1) /\ u'.cell? ⟨g, h * 3 + 1, none⟩ = some (.slice y.2.1 y.2.2.1 y.2.2.2.1) /\ u'.cell? ⟨g, h * 3 + 2, none⟩ = some (.bool y.2.2.2.2) /\ Below wr.heap.size wr u')) := Lib.hid (fun u u' h hb => ⟨Rg.keep hb (World.block_lt_of_cell? _ _ h.1) h.1, Rg.keep hb (World.block_lt_of_cell? _ _ h.2.1) h.2.1, Rg.keep hb (World.block_lt_of_cell? _ _ h.2.2.1) h.2.2.1, Rg.keep hb (World.block_lt_of_cell? _ _ h.2.2.2.1) h.2.2.2.1, Rg.keep hb (World.block_lt_of_cell? _ _ h.2.2.2.2.1) h.2.2.2.2.1, Rg.keep hb (World.block_lt_of_cell? _ _ h.2.2.2.2.2.1) h.2.2.2.2.2.1, h.2.2.2.2.2.2.trans (hb.mono h.2.2.2.2.2.2.size)⟩)
     clear v0 v1 v2 u0 u1 u2 c0 c1 c2 d0 d1 d2
     by_cases hneg : cf x y < 0
     ·have hr2 : decide (cf x y < 0) = true := by simpa using hneg
      have HB2 := Lib.hid (HB.out.down OO.out SA.out SB.out (by have := HLO.out; omega) (by have := HLO.out; omega) (by have := HLO.out; have := HPP.out; omega) (by have := HLO.out; have := HPP.out; omega) (by have := HLO.out; have := HPP.out; omega) hh1 hh2 (by rw [HPC.out, HX0.out, HY0.out]; exact hneg))
      refine Rk.begin (S := fun wS => wS.cell? ⟨g, pc * 3, none⟩ = some (.int .i64 x.1) /\ wS.cell? ⟨g, pc * 3 + 1, none⟩ = some (.slice x.2.1 x.2.2.1 x.2.2.2.1) /\ wS.cell? ⟨g, pc * 3 + 2, none⟩ = some (.bool x.2.2.2.2) /\ wS.cell? ⟨g, h * 3, none⟩ = some (.int .i64 y.1) /\ wS.cell? ⟨g, h * 3 + 1, none⟩ = some (.slice y.2.1 y.2.2.1 y.2.2.2.1) /\ wS.cell? ⟨g, h * 3 + 2, none⟩ = some (.bool y.2.2.2.2) /\ Below wr.heap.size wr wS) 12 (by kernel_rfl) hzr (fun hHeld => ?_)
      refine Rk.takeP (i := 0) (v := ?_) rfl (by kernel_rfl) (by kernel_rfl) (by kernel_rfl) (by kernel_rfl) (fun _ _ _ h => h) (Or.inl ⟨by kernel_rfl, ?_⟩) (by assumption) ?_
      rotate_left
      ·((intro w hSw; go_simp) <;> with_reducible rfl)
      try simp only [wpc, wkp, Act.put, List.setIfInBounds_toArray, List.set_cons_zero, List.set_cons_succ]
      refine Rk.takeP (i := 1) (v := ?_) rfl (by kernel_rfl) (by kernel_rfl) (by kernel_rfl) (by kernel_rfl) (fun _ _ _ h => h) (Or.inl ⟨by kernel_rfl, ?_⟩) (by assumption) ?_
      rotate_left
      ·((intro w hSw; go_simp) <;> with_reducible rfl)
      try simp only [wpc, wkp, Act.put, List.setIfInBounds_toArray, List.set_cons_zero, List.set_cons_succ]
      refine Rk.takeP (i := 2) (v := ?_) rfl (by kernel_rfl) (by kernel_rfl) (by kernel_rfl) (by kernel_rfl) (fun _ _ _ h => h) (Or.inl ⟨by kernel_rfl, ?_⟩) (by assumption) ?_
      rotate_left
      ·((intro w hSw; go_simp) <;> with_reducible rfl)
      try simp only [wpc, wkp, Act.put, List.setIfInBounds_toArray, List.set_cons_zero, List.set_cons_succ]
      refine Rk.takeP (i := 3) (v := ?_) rfl (by kernel_rfl) (by kernel_rfl) (by kernel_rfl) (by kernel_rfl) (fun _ _ _ h => h) (Or.inl ⟨by kernel_rfl, ?_⟩) (by assumption) ?_
      rotate_left
      ·((intro w hSw; go_simp) <;> with_reducible rfl)
      try simp only [wpc, wkp, Act.put, List.setIfInBounds_toArray, List.set_cons_zero, List.set_cons_succ]
      refine Rk.takeP (i := 4) (v := ?_) rfl (by kernel_rfl) (by kernel_rfl) (by kernel_rfl) (by kernel_rfl) (fun _ _ _ h => h) (Or.inl ⟨by kernel_rfl, ?_⟩) (by assumption) ?_
      rotate_left
      ·((intro w hSw; go_simp) <;> with_reducible rfl)
      try simp only [wpc, wkp, Act.put, List.setIfInBounds_toArray, List.set_cons_zero, List.set_cons_succ]
      refine Rk.takeP (i := 5) (v := ?_) rfl (by kernel_rfl) (by kernel_rfl) (by kernel_rfl) (by kernel_rfl) (fun _ _ _ h => h) (Or.inl ⟨by kernel_rfl, ?_⟩) (by assumption) ?_
      rotate_left
      ·((intro w hSw; go_simp) <;> with_reducible rfl)
      try simp only [wpc, wkp, Act.put, List.setIfInBounds_toArray, List.set_cons_zero, List.set_cons_succ]
      refine Rk.take [11, 12] (i := 6) (v := ?_) rfl (by kernel_rfl) (by kernel_rfl) (by kernel_rfl) (by kernel_rfl) (by kernel_rfl) (fun _ _ _ h => h) (Or.inl ⟨by kernel_rfl, ?_⟩) (by assumption) ?_
      rotate_left
      ·((intro w hSw; (try dsimp only at hSw); go_simp) <;> with_reducible rfl)
      try simp only [wpc, wkp, Act.put, List.setIfInBounds_toArray, List.set_cons_zero, List.set_cons_succ]
      refine Rk.takeP (i := 7) (v := ?_) rfl (by kernel_rfl) (by kernel_rfl) (by kernel_rfl) (by kernel_rfl) (fun _ _ _ h => h) (Or.inl ⟨by kernel_rfl, ?_⟩) (by assumption) ?_
      rotate_left
      ·((intro w hSw; go_simp) <;> with_reducible rfl)
      try simp only [wpc, wkp, Act.put, List.setIfInBounds_toArray, List.set_cons_zero, List.set_cons_succ]
      refine Rk.takeP (i := 8) (v := ?_) rfl (by kernel_rfl) (by kernel_rfl) (by kernel_rfl) (by kernel_rfl) (fun _ _ _ h => h) (Or.inl ⟨by kernel_rfl, ?_⟩) (by assumption) ?_
      rotate_left
      ·((intro w hSw; go_simp) <;> with_reducible rfl)
      try simp only [wpc, wkp, Act.put, List.setIfInBounds_toArray, List.set_cons_zero, List.set_cons_succ]
      refine Rk.takeP (i := 9) (v := ?_) rfl (by kernel_rfl) (by kernel_rfl) (by kernel_rfl) (by kernel_rfl) (fun _ _ _ h => h) (Or.inl ⟨by kernel_rfl, ?_⟩) (by assumption) ?_
      rotate_left
      ·((intro w hSw; go_simp) <;> with_reducible rfl)
      try simp only [wpc, wkp, Act.put, List.setIfInBounds_toArray, List.set_cons_zero, List.set_cons_succ]
      refine Rk.take [11, 12] (i := 10) (v := ?_) rfl (by kernel_rfl) (by kernel_rfl) (by kernel_rfl) (by kernel_rfl) (by kernel_rfl) (fun _ _ _ h => h) (Or.inl ⟨by kernel_rfl, ?_⟩) (by assumption) ?_
      rotate_left
      ·((intro w hSw; (try dsimp only at hSw); go_simp) <;> with_reducible rfl)
      try simp only [wpc, wkp, Act.put, List.setIfInBounds_toArray, List.set_cons_zero, List.set_cons_succ]
      refine Rk.one (i := 11) (by kernel_rfl) rfl (fun KK hK => ?_)
      rw [if_pos (by kernel_rfl)]
      go_simp
      ((with_reducible refine (NC.out x y HX.out HY.out _ (HKW.out.trans (K59.below (hHeld.2.2.2.2.2.2)))).mono ?_); rintro e u ⟨rfl, hb⟩)
      first | (refine hK.out _ _ (fun _ => HS.out _ _ hHeld hb) (fun hHeld => ?_)) | (refine hK.out _ _ (HS.out _ _ hHeld hb) (fun hHeld => ?_)) | (go_wp2_with fail; refine hK.out _ _ (HS.out _ _ hHeld hb) (fun hHeld => ?_))
      clear hK KK
      refine Rk.tail [12, 13] [_, _] (by kernel_rfl) (by kernel_rfl) rfl (by decide) ?_
      have KB0 := hHeld.2.2.2.2.2.2
      have O2 := Lib.hid (own_belowE hOW.out KB0)
      have B2 := Lib.hid (hB.out.trans (KB0.mono (by have := hB.out.size; omega)))
      have K2 := Lib.hid (hK.out.trans (K59.below KB0))
      clear hHeld HS hOW hB hK KB0
      go_wp2_with fail
      go_roundw
      case rel => exact ⟨i, h, by go_num, by go_num, by omega, by omega, by omega, HB2, O2, B2, K2⟩
      case measure => simp [intOf]; omega
     ·have hr2 : decide (cf x y < 0) = false := by simpa using hneg
      have HB2 := Lib.hid (HB.out.up OO.out SA.out SB.out (by have := HLO.out; omega) (by have := HLO.out; omega) (by have := HLO.out; have := HPP.out; omega) (by have := HLO.out; have := HPP.out; omega) (by have := HLO.out; have := HPP.out; omega) hh1 hh2 (by rw [HPC.out, HX0.out, HY0.out]; exact hneg))
      refine Rk.begin (S := fun wS => wS.cell? ⟨g, pc * 3, none⟩ = some (.int .i64 x.1) /\ wS.cell? ⟨g, pc * 3 + 1, none⟩ = some (.slice x.2.1 x.2.2.1 x.2.2.2.1) /\ wS.cell? ⟨g, pc * 3 + 2, none⟩ = some (.bool x.2.2.2.2) /\ wS.cell? ⟨g, h * 3, none⟩ = some (.int .i64 y.1) /\ wS.cell? ⟨g, h * 3 + 1, none⟩ = some (.slice y.2.1 y.2.2.1 y.2.2.2.1) /\ wS.cell? ⟨g, h * 3 + 2, none⟩ = some (.bool y.2.2.2.2) /\ Below wr.heap.size wr wS) 12 (by kernel_rfl) hzr (fun hHeld => ?_)
      refine Rk.takeP (i := 0) (v := ?_) rfl (by kernel_rfl) (by kernel_rfl) (by kernel_rfl) (by kernel_rfl) (fun _ _ _ h => h) (Or.inl ⟨by kernel_rfl, ?_⟩) (by assumption) ?_
      rotate_left
      ·((intro w hSw; go_simp) <;> with_reducible rfl)
      try simp only [wpc, wkp, Act.put, List.setIfInBounds_toArray, List.set_cons_zero, List.set_cons_succ]
      refine Rk.takeP (i := 1) (v := ?_) rfl (by kernel_rfl) (by kernel_rfl) (by kernel_rfl) (by kernel_rfl) (fun _ _ _ h => h) (Or.inl ⟨by kernel_rfl, ?_⟩) (by assumption) ?_
      rotate_left
      ·((intro w hSw; go_simp) <;> with_reducible rfl)
      try simp only [wpc, wkp, Act.put, List.setIfInBounds_toArray, List.set_cons_zero, List.set_cons_succ]
      refine Rk.takeP (i := 2) (v := ?_) rfl (by kernel_rfl) (by kernel_rfl) (by kernel_rfl) (by kernel_rfl) (fun _ _ _ h => h) (Or.inl ⟨by kernel_rfl, ?_⟩) (by assumption) ?_
      rotate_left
      ·((intro w hSw; go_simp) <;> with_reducible rfl)
      try simp only [wpc, wkp, Act.put, List.setIfInBounds_toArray, List.set_cons_zero, List.set_cons_succ]
      refine Rk.takeP (i := 3) (v := ?_) rfl (by kernel_rfl) (by kernel_rfl) (by kernel_rfl) (by kernel_rfl) (fun _ _ _ h => h) (Or.inl ⟨by kernel_rfl, ?_⟩) (by assumption) ?_
      rotate_left
      ·((intro w hSw; go_simp) <;> with_reducible rfl)
      try simp only [wpc, wkp, Act.put, List.setIfInBounds_toArray, List.set_cons_zero, List.set_cons_succ]
      refine Rk.takeP (i := 4) (v := ?_) rfl (by kernel_rfl) (by kernel_rfl) (by kernel_rfl) (by kernel_rfl) (fun _ _ _ h => h) (Or.inl ⟨by kernel_rfl, ?_⟩) (by assumption) ?_
      rotate_left
      ·((intro w hSw; go_simp) <;> with_reducible rfl)
      try simp only [wpc, wkp, Act.put, List.setIfInBounds_toArray, List.set_cons_zero, List.set_cons_succ]
      refine Rk.takeP (i := 5) (v := ?_) rfl (by kernel_rfl) (by kernel_rfl) (by kernel_rfl) (by kernel_rfl) (fun _ _ _ h => h) (Or.inl ⟨by kernel_rfl, ?_⟩) (by assumption) ?_
      rotate_left
      ·((intro w hSw; go_simp) <;> with_reducible rfl)
      try simp only [wpc, wkp, Act.put, List.setIfInBounds_toArray, List.set_cons_zero, List.set_cons_succ]
      refine Rk.take [11, 12] (i := 6) (v := ?_) rfl (by kernel_rfl) (by kernel_rfl) (by kernel_rfl) (by kernel_rfl) (by kernel_rfl) (fun _ _ _ h => h) (Or.inl ⟨by kernel_rfl, ?_⟩) (by assumption) ?_
      rotate_left
      ·((intro w hSw; (try dsimp only at hSw); go_simp) <;> with_reducible rfl)
      try simp only [wpc, wkp, Act.put, List.setIfInBounds_toArray, List.set_cons_zero, List.set_cons_succ]
      refine Rk.takeP (i := 7) (v := ?_) rfl (by kernel_rfl) (by kernel_rfl) (by kernel_rfl) (by kernel_rfl) (fun _ _ _ h => h) (Or.inl ⟨by kernel_rfl, ?_⟩) (by assumption) ?_
      rotate_left
      ·((intro w hSw; go_simp) <;> with_reducible rfl)
      try simp only [wpc, wkp, Act.put, List.setIfInBounds_toArray, List.set_cons_zero, List.set_cons_succ]
      refine Rk.takeP (i := 8) (v := ?_) rfl (by kernel_rfl) (by kernel_rfl) (by kernel_rfl) (by kernel_rfl) (fun _ _ _ h => h) (Or.inl ⟨by kernel_rfl, ?_⟩) (by assumption) ?_
      rotate_left
      ·((intro w hSw; go_simp) <;> with_reducible rfl)
      try simp only [wpc, wkp, Act.put, List.setIfInBounds_toArray, List.set_cons_zero, List.set_cons_succ]
      refine Rk.takeP (i := 9) (v := ?_) rfl (by kernel_rfl) (by kernel_rfl) (by kernel_rfl) (by kernel_rfl) (fun _ _ _ h => h) (Or.inl ⟨by kernel_rfl, ?_⟩) (by assumption) ?_
      rotate_left
      ·((intro w hSw; go_simp) <;> with_reducible rfl)
      try simp only [wpc, wkp, Act.put, List.setIfInBounds_toArray, List.set_cons_zero, List.set_cons_succ]
      refine Rk.take [11, 12] (i := 10) (v := ?_) rfl (by kernel_rfl) (by kernel_rfl) (by kernel_rfl) (by kernel_rfl) (by kernel_rfl) (fun _ _ _ h => h) (Or.inl ⟨by kernel_rfl, ?_⟩) (by assumption) ?_
      rotate_left
      ·((intro w hSw; (try dsimp only at hSw); go_simp) <;> with_reducible rfl)
      try simp only [wpc, wkp, Act.put, List.setIfInBounds_toArray, List.set_cons_zero, List.set_cons_succ]
      refine Rk.one (i := 11) (by kernel_rfl) rfl (fun KK hK => ?_)
      rw [if_pos (by kernel_rfl)]
      go_simp
      ((with_reducible refine (NC.out x y HX.out HY.out _ (HKW.out.trans (K59.below (hHeld.2.2.2.2.2.2)))).mono ?_); rintro e u ⟨rfl, hb⟩)
      first | (refine hK.out _ _ (fun _ => HS.out _ _ hHeld hb) (fun hHeld => ?_)) | (refine hK.out _ _ (HS.out _ _ hHeld hb) (fun hHeld => ?_)) | (go_wp2_with fail; refine hK.out _ _ (HS.out _ _ hHeld hb) (fun hHeld => ?_))
      clear hK KK
      refine Rk.tail [12, 13] [_, _] (by kernel_rfl) (by kernel_rfl) rfl (by decide) ?_
      have KB0 := hHeld.2.2.2.2.2.2
      have O2 := Lib.hid (own_belowE hOW.out KB0)
      have B2 := Lib.hid (hB.out.trans (KB0.mono (by have := hB.out.size; omega)))
      have K2 := Lib.hid (hK.out.trans (K59.below KB0))
      clear hHeld HS hOW hB hK KB0
      go_wp2_with fail
      go_roundw
      case rel => exact ⟨h + 1, j, by go_num, by go_num, by omega, by omega, by omega, HB2, O2, B2, K2⟩
      case measure => simp [intOf]; omega
    ·obtain rfl : i = j := by omega
     have i1 : ¬ (i : Int) < i := by omega
     obtain ⟨s, hs⟩ : ∃ s, s = i := ⟨_, rfl⟩
     subst hs
     obtain ⟨e, he⟩ : ∃ e, e = mid + m - s := ⟨_, rfl⟩
     have HC := Lib.hid (BisP.cut (lo := lo) (hi := hi) OO.out h1 h2 HMID.out (Or.inr ⟨hmm, HLO.out.1, HLO.out.2⟩) SA.out SB.out (by have h := HB.out; rw [<- HPP.out] at h; exact h) he)
     have y1 := HC.out.a1
     have y2 := HC.out.a2
     have y3 := HC.out.a3
     have y4 := HC.out.a4
     have y5 := HC.out.sm
     have y6 := HC.out.me
     have hev : (mid : Int) + (m : Int) - (s : Int) = (e : Int) := by omega
     clear he HB
     go_upto_region 39 with fail
     try rw [hev]
     clear hev
     by_cases hA1 : s < m
     ·have qa1 : (s : Int) < m := by omega
      by_cases hA2 : m < e
      ·have qa2 : (m : Int) < e := by omega
       by_cases hB1 : a < s
       ·have qb1 : (a : Int) < s := by omega
        by_cases hB2 : s < mid
        ·have qb2 : (s : Int) < mid := by omega
         by_cases hC1 : mid < e
         ·have qc1 : (mid : Int) < e := by omega
          by_cases hC2 : e < b
          ·have qc2 : (e : Int) < b := by omega
           obtain ⟨L1, HRS, hrf⟩ := rot_facts (s := s) (m := m) (e := e) L0 (by omega) (by omega) (by rw [HL.out.1]; omega)
           have HRF := Lib.hid hrf
           have RO := Lib.hid (rotN g cap base n s m e L0 L1 wr hn HL.out.1 (by omega) (by omega) (by omega) (Lib.hid HRS) hOW _ _ _ rfl rfl rfl)
           clear hrf HRS
           go_wp2_with (first | (go_at_call 128; (with_reducible refine RO.out.mono ?_); rintro e1 w1 ⟨rfl, B1, K1, O1⟩; have HL1 : Hid (L1.length = n /\ ∀ x ∈ L1, x ∈ D) := Lib.hid ⟨by rw [HRF.out.rng.len]; exact HL.out.1, fun x hx => HL.out.2 _ (HRF.out.rng.perm.mem_iff.mp hx)⟩; have P := Lib.hid (HC.out.parts SA.out SB.out HRF.out); have R1 := Lib.hid (IHH.out a s mid L1 w1 HL1 (by omega) (by omega) (by omega) (by omega) O1 (Lib.hid (KO.out.trans (hK.out.trans K1))) (by have := (hB.out.trans B1).size; omega) (Lib.hid P.out.1) (Lib.hid P.out.2.1))) | (go_at_call 121; (with_reducible refine R1.out.mono ?_); rintro e2 w2 ⟨rfl, B2, K2, L2, r2, s2, O2⟩; have HL2 : Hid (L2.length = n /\ ∀ x ∈ L2, x ∈ D) := Lib.hid ⟨by rw [r2.len]; exact HL1.out.1, fun x hx => HL1.out.2 _ (r2.perm.mem_iff.mp hx)⟩; have HR2 := Lib.hid r2; have HS2 := Lib.hid s2; have HP3 := Lib.hid (P.out.2.2.1.keep HR2.out (Or.inr (Nat.le_refl _))); have HP4 := Lib.hid (P.out.2.2.2.1.keep HR2.out (Or.inr (by omega))); have R2 := Lib.hid (IHH.out mid e b L2 w2 HL2 (by omega) (by omega) (by omega) (by omega) O2 (Lib.hid (KO.out.trans ((hK.out.trans K1).trans K2))) (by have := ((hB.out.trans B1).trans B2).size; omega) HP3 HP4)) | (go_at_call 121; (with_reducible refine R2.out.mono ?_); rintro e3 w3 ⟨rfl, B3, K3, L3, r3, s3, O3⟩))
           go_end0
           have HD := HC.out.done SA.out SB.out HRF.out HR2.out HS2.out r3 s3
           exact ⟨rfl, (((hB.out.trans B1).trans B2).trans B3), (((hK.out.trans K1).trans K2).trans K3), L3, HD.1, HD.2, O3⟩
          ·have qc2 : ¬ (e : Int) < b := by omega
           obtain ⟨L1, HRS, hrf⟩ := rot_facts (s := s) (m := m) (e := e) L0 (by omega) (by omega) (by rw [HL.out.1]; omega)
           have HRF := Lib.hid hrf
           have RO := Lib.hid (rotN g cap base n s m e L0 L1 wr hn HL.out.1 (by omega) (by omega) (by omega) (Lib.hid HRS) hOW _ _ _ rfl rfl rfl)
           clear hrf HRS
           go_wp2_with (first | (go_at_call 128; (with_reducible refine RO.out.mono ?_); rintro e1 w1 ⟨rfl, B1, K1, O1⟩; have HL1 : Hid (L1.length = n /\ ∀ x ∈ L1, x ∈ D) := Lib.hid ⟨by rw [HRF.out.rng.len]; exact HL.out.1, fun x hx => HL.out.2 _ (HRF.out.rng.perm.mem_iff.mp hx)⟩; have P := Lib.hid (HC.out.parts SA.out SB.out HRF.out); have R1 := Lib.hid (IHH.out a s mid L1 w1 HL1 (by omega) (by omega) (by omega) (by omega) O1 (Lib.hid (KO.out.trans (hK.out.trans K1))) (by have := (hB.out.trans B1).size; omega) (Lib.hid P.out.1) (Lib.hid P.out.2.1))) | (go_at_call 121; (with_reducible refine R1.out.mono ?_); rintro e2 w2 ⟨rfl, B2, K2, L2, r2, s2, O2⟩; have HL2 : Hid (L2.length = n /\ ∀ x ∈ L2, x ∈ D) := Lib.hid ⟨by rw [r2.len]; exact HL1.out.1, fun x hx => HL1.out.2 _ (r2.perm.mem_iff.mp hx)⟩; have HR2 := Lib.hid r2; have HS2 := Lib.hid s2; have HP3 := Lib.hid (P.out.2.2.1.keep HR2.out (Or.inr (Nat.le_refl _))); have HP4 := Lib.hid (P.out.2.2.2.1.keep HR2.out (Or.inr (by omega))); have s3 : SrtC cf mid b L2 := (by rcases (show e <= mid \/ b <= e by omega) with hh | hh; exact HP4.out.sub hh (Nat.le_refl _); exact HP3.out.sub (Nat.le_refl _) hh)))
           go_end0
           have HD := HC.out.done SA.out SB.out HRF.out HR2.out HS2.out (RngC.refl mid b L2) s3
           exact ⟨rfl, ((hB.out.trans B1).trans B2), ((hK.out.trans K1).trans K2), L2, HD.1, HD.2, O2⟩
         ·have qc1 : ¬ (mid : Int) < e := by omega
          obtain ⟨L1, HRS, hrf⟩ := rot_facts (s := s) (m := m) (e := e) L0 (by omega) (by omega) (by rw [HL.out.1]; omega)
          have HRF := Lib.hid hrf
          have RO := Lib.hid (rotN g cap base n s m e L0 L1 wr hn HL.out.1 (by omega) (by omega) (by omega) (Lib.hid HRS) hOW _ _ _ rfl rfl rfl)
          clear hrf HRS
          go_wp2_with (first | (go_at_call 128; (with_reducible refine RO.out.mono ?_); rintro e1 w1 ⟨rfl, B1, K1, O1⟩; have HL1 : Hid (L1.length = n /\ ∀ x ∈ L1, x ∈ D) := Lib.hid ⟨by rw [HRF.out.rng.len]; exact HL.out.1, fun x hx => HL.out.2 _ (HRF.out.rng.perm.mem_iff.mp hx)⟩; have P := Lib.hid (HC.out.parts SA.out SB.out HRF.out); have R1 := Lib.hid (IHH.out a s mid L1 w1 HL1 (by omega) (by omega) (by omega) (by omega) O1 (Lib.hid (KO.out.trans (hK.out.trans K1))) (by have := (hB.out.trans B1).size; omega) (Lib.hid P.out.1) (Lib.hid P.out.2.1))) | (go_at_call 121; (with_reducible refine R1.out.mono ?_); rintro e2 w2 ⟨rfl, B2, K2, L2, r2, s2, O2⟩; have HL2 : Hid (L2.length = n /\ ∀ x ∈ L2, x ∈ D) := Lib.hid ⟨by rw [r2.len]; exact HL1.out.1, fun x hx => HL1.out.2 _ (r2.perm.mem_iff.mp hx)⟩; have HR2 := Lib.hid r2; have HS2 := Lib.hid s2; have HP3 := Lib.hid (P.out.2.2.1.keep HR2.out (Or.inr (Nat.le_refl _))); have HP4 := Lib.hid (P.out.2.2.2.1.keep HR2.out (Or.inr (by omega))); have s3 : SrtC cf mid b L2 := (by rcases (show e <= mid \/ b <= e by omega) with hh | hh; exact HP4.out.sub hh (Nat.le_refl _); exact HP3.out.sub (Nat.le_refl _) hh)))
          go_end0
          have HD := HC.out.done SA.out SB.out HRF.out HR2.out HS2.out (RngC.refl mid b L2) s3
          exact ⟨rfl, ((hB.out.trans B1).trans B2), ((hK.out.trans K1).trans K2), L2, HD.1, HD.2, O2⟩
        ·have qb2 : ¬ (s : Int) < mid := by omega
         by_cases hC1 : mid < e
         ·have qc1 : (mid : Int) < e := by omega
          by_cases hC2 : e < b
          ·have qc2 : (e : Int) < b := by omega
           obtain ⟨L1, HRS, hrf⟩ := rot_facts (s := s) (m := m) (e := e) L0 (by omega) (by omega) (by rw [HL.out.1]; omega)
           have HRF := Lib.hid hrf
           have RO := Lib.hid (rotN g cap base n s m e L0 L1 wr hn HL.out.1 (by omega) (by omega) (by omega) (Lib.hid HRS) hOW _ _ _ rfl rfl rfl)
           clear hrf HRS
           go_wp2_with (first | (go_at_call 128; (with_reducible refine RO.out.mono ?_); rintro e1 w1 ⟨rfl, B1, K1, O1⟩; have HL1 : Hid (L1.length = n /\ ∀ x ∈ L1, x ∈ D) := Lib.hid ⟨by rw [HRF.out.rng.len]; exact HL.out.1, fun x hx => HL.out.2 _ (HRF.out.rng.perm.mem_iff.mp hx)⟩; have P := Lib.hid (HC.out.parts SA.out SB.out HRF.out); have HR2 := Lib.hid (RngC.refl a mid L1); have HS2 : Hid (SrtC cf a mid L1) := Lib.hid (by rcases (show s <= a \/ mid <= s by omega) with hh | hh; exact P.out.2.1.sub hh (Nat.le_refl _); exact P.out.1.sub (Nat.le_refl _) hh); have HP3 := Lib.hid (P.out.2.2.1.keep HR2.out (Or.inr (Nat.le_refl _))); have HP4 := Lib.hid (P.out.2.2.2.1.keep HR2.out (Or.inr (by omega))); have R2 := Lib.hid (IHH.out mid e b L1 w1 HL1 (by omega) (by omega) (by omega) (by omega) O1 (Lib.hid (KO.out.trans (hK.out.trans K1))) (by have := (hB.out.trans B1).size; omega) HP3 HP4)) | (go_at_call 121; (with_reducible refine R2.out.mono ?_); rintro e3 w3 ⟨rfl, B3, K3, L3, r3, s3, O3⟩))
           go_end0
           have HD := HC.out.done SA.out SB.out HRF.out HR2.out HS2.out r3 s3
           exact ⟨rfl, ((hB.out.trans B1).trans B3), ((hK.out.trans K1).trans K3), L3, HD.1, HD.2, O3⟩
          ·have qc2 : ¬ (e : Int) < b := by omega
           obtain ⟨L1, HRS, hrf⟩ := rot_facts (s := s) (m := m) (e := e) L0 (by omega) (by omega) (by rw [HL.out.1]; omega)
           have HRF := Lib.hid hrf
           have RO := Lib.hid (rotN g cap base n s m e L0 L1 wr hn HL.out.1 (by omega) (by omega) (by omega) (Lib.hid HRS) hOW _ _ _ rfl rfl rfl)
           clear hrf HRS
           go_wp2_with (first | (go_at_call 128; (with_reducible refine RO.out.mono ?_); rintro e1 w1 ⟨rfl, B1, K1, O1⟩; have HL1 : Hid (L1.length = n /\ ∀ x ∈ L1, x ∈ D) := Lib.hid ⟨by rw [HRF.out.rng.len]; exact HL.out.1, fun x hx => HL.out.2 _ (HRF.out.rng.perm.mem_iff.mp hx)⟩; have P := Lib.hid (HC.out.parts SA.out SB.out HRF.out); have HR2 := Lib.hid (RngC.refl a mid L1); have HS2 : Hid (SrtC cf a mid L1) := Lib.hid (by rcases (show s <= a \/ mid <= s by omega) with hh | hh; exact P.out.2.1.sub hh (Nat.le_refl _); exact P.out.1.sub (Nat.le_refl _) hh); have HP3 := Lib.hid (P.out.2.2.1.keep HR2.out (Or.inr (Nat.le_refl _))); have HP4 := Lib.hid (P.out.2.2.2.1.keep HR2.out (Or.inr (by omega))); have s3 : SrtC cf mid b L1 := (by rcases (show e <= mid \/ b <= e by omega) with hh | hh; exact HP4.out.sub hh (Nat.le_refl _); exact HP3.out.sub (Nat.le_refl _) hh)))
           go_end0
           have HD := HC.out.done SA.out SB.out HRF.out HR2.out HS2.out (RngC.refl mid b L1) s3
           exact ⟨rfl, (hB.out.trans B1), (hK.out.trans K1), L1, HD.1, HD.2, O1⟩
         ·have qc1 : ¬ (mid : Int) < e := by omega
          obtain ⟨L1, HRS, hrf⟩ := rot_facts (s := s) (m := m) (e := e) L0 (by omega) (by omega) (by rw [HL.out.1]; omega)
          have HRF := Lib.hid hrf
          have RO := Lib.hid (rotN g cap base n s m e L0 L1 wr hn HL.out.1 (by omega) (by omega) (by omega) (Lib.hid HRS) hOW _ _ _ rfl rfl rfl)
          clear hrf HRS
          go_wp2_with (first | (go_at_call 128; (with_reducible refine RO.out.mono ?_); rintro e1 w1 ⟨rfl, B1, K1, O1⟩; have HL1 : Hid (L1.length = n /\ ∀ x ∈ L1, x ∈ D) := Lib.hid ⟨by rw [HRF.out.rng.len]; exact HL.out.1, fun x hx => HL.out.2 _ (HRF.out.rng.perm.mem_iff.mp hx)⟩; have P := Lib.hid (HC.out.parts SA.out SB.out HRF.out); have HR2 := Lib.hid (RngC.refl a mid L1); have HS2 : Hid (SrtC cf a mid L1) := Lib.hid (by rcases (show s <= a \/ mid <= s by omega) with hh | hh; exact P.out.2.1.sub hh (Nat.le_refl _); exact P.out.1.sub (Nat.le_refl _) hh); have HP3 := Lib.hid (P.out.2.2.1.keep HR2.out (Or.inr (Nat.le_refl _))); have HP4 := Lib.hid (P.out.2.2.2.1.keep HR2.out (Or.inr (by omega))); have s3 : SrtC cf mid b L1 := (by rcases (show e <= mid \/ b <= e by omega) with hh | hh; exact HP4.out.sub hh (Nat.le_refl _); exact HP3.out.sub (Nat.le_refl _) hh)))
          go_end0
          have HD := HC.out.done SA.out SB.out HRF.out HR2.out HS2.out (RngC.refl mid b L1) s3
          exact ⟨rfl, (hB.out.trans B1), (hK.out.trans K1), L1, HD.1, HD.2, O1⟩
       ·have qb1 : ¬ (a : Int) < s := by omega
        by_cases hC1 : mid < e
        ·have qc1 : (mid : Int) < e := by omega
         by_cases hC2 : e < b
         ·have qc2 : (e : Int) < b := by omega
          obtain ⟨L1, HRS, hrf⟩ := rot_facts (s := s) (m := m) (e := e) L0 (by omega) (by omega) (by rw [HL.out.1]; omega)
          have HRF := Lib.hid hrf
          have RO := Lib.hid (rotN g cap base n s m e L0 L1 wr hn HL.out.1 (by omega) (by omega) (by omega) (Lib.hid HRS) hOW _ _ _ rfl rfl rfl)
          clear hrf HRS
          go_wp2_with (first | (go_at_call 128; (with_reducible refine RO.out.mono ?_); rintro e1 w1 ⟨rfl, B1, K1, O1⟩; have HL1 : Hid (L1.length = n /\ ∀ x ∈ L1, x ∈ D) := Lib.hid ⟨by rw [HRF.out.rng.len]; exact HL.out.1, fun x hx => HL.out.2 _ (HRF.out.rng.perm.mem_iff.mp hx)⟩; have P := Lib.hid (HC.out.parts SA.out SB.out HRF.out); have HR2 := Lib.hid (RngC.refl a mid L1); have HS2 : Hid (SrtC cf a mid L1) := Lib.hid (by rcases (show s <= a \/ mid <= s by omega) with hh | hh; exact P.out.2.1.sub hh (Nat.le_refl _); exact P.out.1.sub (Nat.le_refl _) hh); have HP3 := Lib.hid (P.out.2.2.1.keep HR2.out (Or.inr (Nat.le_refl _))); have HP4 := Lib.hid (P.out.2.2.2.1.keep HR2.out (Or.inr (by omega))); have R2 := Lib.hid (IHH.out mid e b L1 w1 HL1 (by omega) (by omega) (by omega) (by omega) O1 (Lib.hid (KO.out.trans (hK.out.trans K1))) (by have := (hB.out.trans B1).size; omega) HP3 HP4)) | (go_at_call 121; (with_reducible refine R2.out.mono ?_); rintro e3 w3 ⟨rfl, B3, K3, L3, r3, s3, O3⟩))
          go_end0
          have HD := HC.out.done SA.out SB.out HRF.out HR2.out HS2.out r3 s3
          exact ⟨rfl, ((hB.out.trans B1).trans B3), ((hK.out.trans K1).trans K3), L3, HD.1, HD.2, O3⟩
         ·have qc2 : ¬ (e : Int) < b := by omega
          obtain ⟨L1, HRS, hrf⟩ := rot_facts (s := s) (m := m) (e := e) L0 (by omega) (by omega) (by rw [HL.out.1]; omega)
          have HRF := Lib.hid hrf
          have RO := Lib.hid (rotN g cap base n s m e L0 L1 wr hn HL.out.1 (by omega) (by omega) (by omega) (Lib.hid HRS) hOW _ _ _ rfl rfl rfl)
          clear hrf HRS
          go_wp2_with (first | (go_at_call 128; (with_reducible refine RO.out.mono ?_); rintro e1 w1 ⟨rfl, B1, K1, O1⟩; have HL1 : Hid (L1.length = n /\ ∀ x ∈ L1, x ∈ D) := Lib.hid ⟨by rw [HRF.out.rng.len]; exact HL.out.1, fun x hx => HL.out.2 _ (HRF.out.rng.perm.mem_iff.mp hx)⟩; have P := Lib.hid (HC.out.parts SA.out SB.out HRF.out); have HR2 := Lib.hid (RngC.refl a mid L1); have HS2 : Hid (SrtC cf a mid L1) := Lib.hid (by rcases (show s <= a \/ mid <= s by omega) with hh | hh; exact P.out.2.1.sub hh (Nat.le_refl _); exact P.out.1.sub (Nat.le_refl _) hh); have HP3 := Lib.hid (P.out.2.2.1.keep HR2.out (Or.inr (Nat.le_refl _))); have HP4 := Lib.hid (P.out.2.2.2.1.keep HR2.out (Or.inr (by omega))); have s3 : SrtC cf mid b L1 := (by rcases (show e <= mid \/ b <= e by omega) with hh | hh; exact HP4.out.sub hh (Nat.le_refl _); exact HP3.out.sub (Nat.le_refl _) hh)))
          go_end0
          have HD := HC.out.done SA.out SB.out HRF.out HR2.out HS2.out (RngC.refl mid b L1) s3
          exact ⟨rfl, (hB.out.trans B1), (hK.out.trans K1), L1, HD.1, HD.2, O1⟩
        ·have qc1 : ¬ (mid : Int) < e := by omega
         obtain ⟨L1, HRS, hrf⟩ := rot_facts (s := s) (m := m) (e := e) L0 (by omega) (by omega) (by rw [HL.out.1]; omega)
         have HRF := Lib.hid hrf
         have RO := Lib.hid (rotN g cap base n s m e L0 L1 wr hn HL.out.1 (by omega) (by omega) (by omega) (Lib.hid HRS) hOW _ _ _ rfl rfl rfl)
         clear hrf HRS
         go_wp2_with (first | (go_at_call 128; (with_reducible refine RO.out.mono ?_); rintro e1 w1 ⟨rfl, B1, K1, O1⟩; have HL1 : Hid (L1.length = n /\ ∀ x ∈ L1, x ∈ D) := Lib.hid ⟨by rw [HRF.out.rng.len]; exact HL.out.1, fun x hx => HL.out.2 _ (HRF.out.rng.perm.mem_iff.mp hx)⟩; have P := Lib.hid (HC.out.parts SA.out SB.out HRF.out); have HR2 := Lib.hid (RngC.refl a mid L1); have HS2 : Hid (SrtC cf a mid L1) := Lib.hid (by rcases (show s <= a \/ mid <= s by omega) with hh | hh; exact P.out.2.1.sub hh (Nat.le_refl _); exact P.out.1.sub (Nat.le_refl _) hh); have HP3 := Lib.hid (P.out.2.2.1.keep HR2.out (Or.inr (Nat.le_refl _))); have HP4 := Lib.hid (P.out.2.2.2.1.keep HR2.out (Or.inr (by omega))); have s3 : SrtC cf mid b L1 := (by rcases (show e <= mid \/ b <= e by omega) with hh | hh; exact HP4.out.sub hh (Nat.le_refl _); exact HP3.out.sub (Nat.le_refl _) hh)))
         go_end0
         have HD := HC.out.done SA.out SB.out HRF.out HR2.out HS2.out (RngC.refl mid b L1) s3
         exact ⟨rfl, (hB.out.trans B1), (hK.out.trans K1), L1, HD.1, HD.2, O1⟩
      ·have qa2 : ¬ (m : Int) < e := by omega
       by_cases hB1 : a < s
       ·have qb1 : (a : Int) < s := by omega
        by_cases hB2 : s < mid
        ·have qb2 : (s : Int) < mid := by omega
         by_cases hC1 : mid < e
         ·have qc1 : (mid : Int) < e := by omega
          by_cases hC2 : e < b
          ·have qc2 : (e : Int) < b := by omega
           have HRF := Lib.hid (RotF.same (s := s) (m := m) (e := e) L0 (by omega) (by omega) (by omega))
           have P := Lib.hid (HC.out.parts SA.out SB.out HRF.out)
           have R1 := Lib.hid (IHH.out a s mid L0 wr HL (by omega) (by omega) (by omega) (by omega) hOW (Lib.hid (KO.out.trans hK.out)) (by have := hB.out.size; omega) (Lib.hid P.out.1) (Lib.hid P.out.2.1))
           go_wp2_with (first | (go_at_call 121; (with_reducible refine R1.out.mono ?_); rintro e2 w2 ⟨rfl, B2, K2, L2, r2, s2, O2⟩; have HL2 : Hid (L2.length = n /\ ∀ x ∈ L2, x ∈ D) := Lib.hid ⟨by rw [r2.len]; exact HL.out.1, fun x hx => HL.out.2 _ (r2.perm.mem_iff.mp hx)⟩; have HR2 := Lib.hid r2; have HS2 := Lib.hid s2; have HP3 := Lib.hid (P.out.2.2.1.keep HR2.out (Or.inr (Nat.le_refl _))); have HP4 := Lib.hid (P.out.2.2.2.1.keep HR2.out (Or.inr (by omega))); have R2 := Lib.hid (IHH.out mid e b L2 w2 HL2 (by omega) (by omega) (by omega) (by omega) O2 (Lib.hid (KO.out.trans (hK.out.trans K2))) (by have := (hB.out.trans B2).size; omega) HP3 HP4)) | (go_at_call 121; (with_reducible refine R2.out.mono ?_); rintro e3 w3 ⟨rfl, B3, K3, L3, r3, s3, O3⟩))
           go_end0
           have HD := HC.out.done SA.out SB.out HRF.out HR2.out HS2.out r3 s3
           exact ⟨rfl, ((hB.out.trans B2).trans B3), ((hK.out.trans K2).trans K3), L3, HD.1, HD.2, O3⟩
          ·have qc2 : ¬ (e : Int) < b := by omega
           have HRF := Lib.hid (RotF.same (s := s) (m := m) (e := e) L0 (by omega) (by omega) (by omega))
           have P := Lib.hid (HC.out.parts SA.out SB.out HRF.out)
           have R1 := Lib.hid (IHH.out a s mid L0 wr HL (by omega) (by omega) (by omega) (by omega) hOW (Lib.hid (KO.out.trans hK.out)) (by have := hB.out.size; omega) (Lib.hid P.out.1) (Lib.hid P.out.2.1))
           go_wp2_with (first | (go_at_call 121; (with_reducible refine R1.out.mono ?_); rintro e2 w2 ⟨rfl, B2, K2, L2, r2, s2, O2⟩; have HL2 : Hid (L2.length = n /\ ∀ x ∈ L2, x ∈ D) := Lib.hid ⟨by rw [r2.len]; exact HL.out.1, fun x hx => HL.out.2 _ (r2.perm.mem_iff.mp hx)⟩; have HR2 := Lib.hid r2; have HS2 := Lib.hid s2; have HP3 := Lib.hid (P.out.2.2.1.keep HR2.out (Or.inr (Nat.le_refl _))); have HP4 := Lib.hid (P.out.2.2.2.1.keep HR2.out (Or.inr (by omega))); have s3 : SrtC cf mid b L2 := (by rcases (show e <= mid \/ b <= e by omega) with hh | hh; exact HP4.out.sub hh (Nat.le_refl _); exact HP3.out.sub (Nat.le_refl _) hh)))
           go_end0
           have HD := HC.out.done SA.out SB.out HRF.out HR2.out HS2.out (RngC.refl mid b L2) s3
           exact ⟨rfl, (hB.out.trans B2), (hK.out.trans K2), L2, HD.1, HD.2, O2⟩
         ·have qc1 : ¬ (mid : Int) < e := by omega
          have HRF := Lib.hid (RotF.same (s := s) (m := m) (e := e) L0 (by omega) (by omega) (by omega))
          have P := Lib.hid (HC.out.parts SA.out SB.out HRF.out)
          have R1 := Lib.hid (IHH.out a s mid L0 wr HL (by omega) (by omega) (by omega) (by omega) hOW (Lib.hid (KO.out.trans hK.out)) (by have := hB.out.size; omega) (Lib.hid P.out.1) (Lib.hid P.out.2.1))
          go_wp2_with (first | (go_at_call 121; (with_reducible refine R1.out.mono ?_); rintro e2 w2 ⟨rfl, B2, K2, L2, r2, s2, O2⟩; have HL2 : Hid (L2.length = n /\ ∀ x ∈ L2, x ∈ D) := Lib.hid ⟨by rw [r2.len]; exact HL.out.1, fun x hx => HL.out.2 _ (r2.perm.mem_iff.mp hx)⟩; have HR2 := Lib.hid r2; have HS2 := Lib.hid s2; have HP3 := Lib.hid (P.out.2.2.1.keep HR2.out (Or.inr (Nat.le_refl _))); have HP4 := Lib.hid (P.out.2.2.2.1.keep HR2.out (Or.inr (by omega))); have s3 : SrtC cf mid b L2 := (by rcases (show e <= mid \/ b <= e by omega) with hh | hh; exact HP4.out.sub hh (Nat.le_refl _); exact HP3.out.sub (Nat.le_refl _) hh)))
          go_end0
          have HD := HC.out.done SA.out SB.out HRF.out HR2.out HS2.out (RngC.refl mid b L2) s3
          exact ⟨rfl, (hB.out.trans B2), (hK.out.trans K2), L2, HD.1, HD.2, O2⟩
        ·have qb2 : ¬ (s : Int) < mid := by omega
         by_cases hC1 : mid < e
         ·have qc1 : (mid : Int) < e := by omega
          by_cases hC2 : e < b
          ·have qc2 : (e : Int) < b := by omega
           have HRF := Lib.hid (RotF.same (s := s) (m := m) (e := e) L0 (by omega) (by omega) (by omega))
           have P := Lib.hid (HC.out.parts SA.out SB.out HRF.out)
           have HR2 := Lib.hid (RngC.refl a mid L0)
           have HS2 : Hid (SrtC cf a mid L0) := Lib.hid (by rcases (show s <= a \/ mid <= s by omega) with hh | hh; exact P.out.2.1.sub hh (Nat.le_refl _); exact P.out.1.sub (Nat.le_refl _) hh)
           have HP3 := Lib.hid (P.out.2.2.1.keep HR2.out (Or.inr (Nat.le_refl _)))
           have HP4 := Lib.hid (P.out.2.2.2.1.keep HR2.out (Or.inr (by omega)))
           have R2 := Lib.hid (IHH.out mid e b L0 wr HL (by omega) (by omega) (by omega) (by omega) hOW (Lib.hid (KO.out.trans hK.out)) (by have := hB.out.size; omega) HP3 HP4)
           go_wp2_with (first | (go_at_call 121; (with_reducible refine R2.out.mono ?_); rintro e3 w3 ⟨rfl, B3, K3, L3, r3, s3, O3⟩))
           go_end0
           have HD := HC.out.done SA.out SB.out HRF.out HR2.out HS2.out r3 s3
           exact ⟨rfl, (hB.out.trans B3), (hK.out.trans K3), L3, HD.1, HD.2, O3⟩
          ·have qc2 : ¬ (e : Int) < b := by omega
           have HRF := Lib.hid (RotF.same (s := s) (m := m) (e := e) L0 (by omega) (by omega) (by omega))
           have P := Lib.hid (HC.out.parts SA.out SB.out HRF.out)
           have HR2 := Lib.hid (RngC.refl a mid L0)
           have HS2 : Hid (SrtC cf a mid L0) := Lib.hid (by rcases (show s <= a \/ mid <= s by omega) with hh | hh; exact P.out.2.1.sub hh (Nat.le_refl _); exact P.out.1.sub (Nat.le_refl _) hh)
           have HP3 := Lib.hid (P.out.2.2.1.keep HR2.out (Or.inr (Nat.le_refl _)))
           have HP4 := Lib.hid (P.out.2.2.2.1.keep HR2.out (Or.inr (by omega)))
           have s3 : SrtC cf mid b L0 := (by rcases (show e <= mid \/ b <= e by omega) with hh | hh; exact HP4.out.sub hh (Nat.le_refl _); exact HP3.out.sub (Nat.le_refl _) hh)
           go_wp2_with fail
           go_end0
           have HD := HC.out.done SA.out SB.out HRF.out HR2.out HS2.out (RngC.refl mid b L0) s3
           exact ⟨rfl, hB.out, hK.out, L0, HD.1, HD.2, hOW⟩
         ·have qc1 : ¬ (mid : Int) < e := by omega
          have HRF := Lib.hid (RotF.same (s := s) (m := m) (e := e) L0 (by omega) (by omega) (by omega))
          have P := Lib.hid (HC.out.parts SA.out SB.out HRF.out)
          have HR2 := Lib.hid (RngC.refl a mid L0)
          have HS2 : Hid (SrtC cf a mid L0) := Lib.hid (by rcases (show s <= a \/ mid <= s by omega) with hh | hh; exact P.out.2.1.sub hh (Nat.le_refl _); exact P.out.1.sub (Nat.le_refl _) hh)
          have HP3 := Lib.hid (P.out.2.2.1.keep HR2.out (Or.inr (Nat.le_refl _)))
          have HP4 := Lib.hid (P.out.2.2.2.1.keep HR2.out (Or.inr (by omega)))
          have s3 : SrtC cf mid b L0 := (by rcases (show e <= mid \/ b <= e by omega) with hh | hh; exact HP4.out.sub hh (Nat.le_refl _); exact HP3.out.sub (Nat.le_refl _) hh)
          go_wp2_with fail
          go_end0
          have HD := HC.out.done SA.out SB.out HRF.out HR2.out HS2.out (RngC.refl mid b L0) s3
          exact ⟨rfl, hB.out, hK.out, L0, HD.1, HD.2, hOW⟩
       ·have qb1 : ¬ (a : Int) < s := by omega
        by_cases hC1 : mid < e
        ·have qc1 : (mid : Int) < e := by omega
         by_cases hC2 : e < b
         ·have qc2 : (e : Int) < b := by omega
          have HRF := Lib.hid (RotF.same (s := s) (m := m) (e := e) L0 (by omega) (by omega) (by omega))
          have P := Lib.hid (HC.out.parts SA.out SB.out HRF.out)
          have HR2 := Lib.hid (RngC.refl a mid L0)
          have HS2 : Hid (SrtC cf a mid L0) := Lib.hid (by rcases (show s <= a \/ mid <= s by omega) with hh | hh; exact P.out.2.1.sub hh (Nat.le_refl _); exact P.out.1.sub (Nat.le_refl _) hh)
          have HP3 := Lib.hid (P.out.2.2.1.keep HR2.out (Or.inr (Nat.le_refl _)))
          have HP4 := Lib.hid (P.out.2.2.2.1.keep HR2.out (Or.inr (by omega)))
          have R2 := Lib.hid (IHH.out mid e b L0 wr HL (by omega) (by omega) (by omega) (by omega) hOW (Lib.hid (KO.out.trans hK.out)) (by have := hB.out.size; omega) HP3 HP4)
          go_wp2_with (first | (go_at_call 121; (with_reducible refine R2.out.mono ?_); rintro e3 w3 ⟨rfl, B3, K3, L3, r3, s3, O3⟩))
          go_end0
          have HD := HC.out.done SA.out SB.out HRF.out HR2.out HS2.out r3 s3
          exact ⟨rfl, (hB.out.trans B3), (hK.out.trans K3), L3, HD.1, HD.2, O3⟩
         ·have qc2 : ¬ (e : Int) < b := by omega
          have HRF := Lib.hid (RotF.same (s := s) (m := m) (e := e) L0 (by omega) (by omega) (by omega))
          have P := Lib.hid (HC.out.parts SA.out SB.out HRF.out)
          have HR2 := Lib.hid (RngC.refl a mid L0)
          have HS2 : Hid (SrtC cf a mid L0) := Lib.hid (by rcases (show s <= a \/ mid <= s by omega) with hh | hh; exact P.out.2.1.sub hh (Nat.le_refl _); exact P.out.1.sub (Nat.le_refl _) hh)
          have HP3 := Lib.hid (P.out.2.2.1.keep HR2.out (Or.inr (Nat.le_refl _)))
          have HP4 := Lib.hid (P.out.2.2.2.1.keep HR2.out (Or.inr (by omega)))
          have s3 : SrtC cf mid b L0 := (by rcases (show e <= mid \/ b <= e by omega) with hh | hh; exact HP4.out.sub hh (Nat.le_refl _); exact HP3.out.sub (Nat.le_refl _) hh)
          go_wp2_with fail
          go_end0
          have HD := HC.out.done SA.out SB.out HRF.out HR2.out HS2.out (RngC.refl mid b L0) s3
          exact ⟨rfl, hB.out, hK.out, L0, HD.1, HD.2, hOW⟩
        ·have qc1 : ¬ (mid : Int) < e := by omega
         have HRF := Lib.hid (RotF.same (s := s) (m := m) (e := e) L0 (by omega) (by omega) (by omega))
         have P := Lib.hid (HC.out.parts SA.out SB.out HRF.out)
         have HR2 := Lib.hid (RngC.refl a mid L0)
         have HS2 : Hid (SrtC cf a mid L0) := Lib.hid (by rcases (show s <= a \/ mid <= s by omega) with hh | hh; exact P.out.2.1.sub hh (Nat.le_refl _); exact P.out.1.sub (Nat.le_refl _) hh)
         have HP3 := Lib.hid (P.out.2.2.1.keep HR2.out (Or.inr (Nat.le_refl _)))
         have HP4 := Lib.hid (P.out.2.2.2.1.keep HR2.out (Or.inr (by omega)))
         have s3 : SrtC cf mid b L0 := (by rcases (show e <= mid \/ b <= e by omega) with hh | hh; exact HP4.out.sub hh (Nat.le_refl _); exact HP3.out.sub (Nat.le_refl _) hh)
         go_wp2_with fail
         go_end0
         have HD := HC.out.done SA.out SB.out HRF.out HR2.out HS2.out (RngC.refl mid b L0) s3
         exact ⟨rfl, hB.out, hK.out, L0, HD.1, HD.2, hOW⟩
     ·have qa1 : ¬ (s : Int) < m := by omega
      by_cases hB1 : a < s
      ·have qb1 : (a : Int) < s := by omega
       by_cases hB2 : s < mid
       ·have qb2 : (s : Int) < mid := by omega
        by_cases hC1 : mid < e
        ·have qc1 : (mid : Int) < e := by omega
         by_cases hC2 : e < b
         ·have qc2 : (e : Int) < b := by omega
          have HRF := Lib.hid (RotF.same (s := s) (m := m) (e := e) L0 (by omega) (by omega) (by omega))
          have P := Lib.hid (HC.out.parts SA.out SB.out HRF.out)
          have R1 := Lib.hid (IHH.out a s mid L0 wr HL (by omega) (by omega) (by omega) (by omega) hOW (Lib.hid (KO.out.trans hK.out)) (by have := hB.out.size; omega) (Lib.hid P.out.1) (Lib.hid P.out.2.1))
          go_wp2_with (first | (go_at_call 121; (with_reducible refine R1.out.mono ?_); rintro e2 w2 ⟨rfl, B2, K2, L2, r2, s2, O2⟩; have HL2 : Hid (L2.length = n /\ ∀ x ∈ L2, x ∈ D) := Lib.hid ⟨by rw [r2.len]; exact HL.out.1, fun x hx => HL.out.2 _ (r2.perm.mem_iff.mp hx)⟩; have HR2 := Lib.hid r2; have HS2 := Lib.hid s2; have HP3 := Lib.hid (P.out.2.2.1.keep HR2.out (Or.inr (Nat.le_refl _))); have HP4 := Lib.hid (P.out.2.2.2.1.keep HR2.out (Or.inr (by omega))); have R2 := Lib.hid (IHH.out mid e b L2 w2 HL2 (by omega) (by omega) (by omega) (by omega) O2 (Lib.hid (KO.out.trans (hK.out.trans K2))) (by have := (hB.out.trans B2).size; omega) HP3 HP4)) | (go_at_call 121; (with_reducible refine R2.out.mono ?_); rintro e3 w3 ⟨rfl, B3, K3, L3, r3, s3, O3⟩))
          go_end0
          have HD := HC.out.done SA.out SB.out HRF.out HR2.out HS2.out r3 s3
          exact ⟨rfl, ((hB.out.trans B2).trans B3), ((hK.out.trans K2).trans K3), L3, HD.1, HD.2, O3⟩
         ·have qc2 : ¬ (e : Int) < b := by omega
          have HRF := Lib.hid (RotF.same (s := s) (m := m) (e := e) L0 (by omega) (by omega) (by omega))
          have P := Lib.hid (HC.out.parts SA.out SB.out HRF.out)
          have R1 := Lib.hid (IHH.out a s mid L0 wr HL (by omega) (by omega) (by omega) (by omega) hOW (Lib.hid (KO.out.trans hK.out)) (by have := hB.out.size; omega) (Lib.hid P.out.1) (Lib.hid P.out.2.1))
          go_wp2_with (first | (go_at_call 121; (with_reducible refine R1.out.mono ?_); rintro e2 w2 ⟨rfl, B2, K2, L2, r2, s2, O2⟩; have HL2 : Hid (L2.length = n /\ ∀ x ∈ L2, x ∈ D) := Lib.hid ⟨by rw [r2.len]; exact HL.out.1, fun x hx => HL.out.2 _ (r2.perm.mem_iff.mp hx)⟩; have HR2 := Lib.hid r2; have HS2 := Lib.hid s2; have HP3 := Lib.hid (P.out.2.2.1.keep HR2.out (Or.inr (Nat.le_refl _))); have HP4 := Lib.hid (P.out.2.2.2.1.keep HR2.out (Or.inr (by omega))); have s3 : SrtC cf mid b L2 := (by rcases (show e <= mid \/ b <= e by omega) with hh | hh; exact HP4.out.sub hh (Nat.le_refl _); exact HP3.out.sub (Nat.le_refl _) hh)))
          go_end0
          have HD := HC.out.done SA.out SB.out HRF.out HR2.out HS2.out (RngC.refl mid b L2) s3
          exact ⟨rfl, (hB.out.trans B2), (hK.out.trans K2), L2, HD.1, HD.2, O2⟩
        ·have qc1 : ¬ (mid : Int) < e := by omega
         have HRF := Lib.hid (RotF.same (s := s) (m := m) (e := e) L0 (by omega) (by omega) (by omega))
         have P := Lib.hid (HC.out.parts SA.out SB.out HRF.out)
         have R1 := Lib.hid (IHH.out a s mid L0 wr HL (by omega) (by omega) (by omega) (by omega) hOW (Lib.hid (KO.out.trans hK.out)) (by have := hB.out.size; omega) (Lib.hid P.out.1) (Lib.hid P.out.2.1))
         go_wp2_with (first | (go_at_call 121; (with_reducible refine R1.out.mono ?_); rintro e2 w2 ⟨rfl, B2, K2, L2, r2, s2, O2⟩; have HL2 : Hid (L2.length = n /\ ∀ x ∈ L2, x ∈ D) := Lib.hid ⟨by rw [r2.len]; exact HL.out.1, fun x hx => HL.out.2 _ (r2.perm.mem_iff.mp hx)⟩; have HR2 := Lib.hid r2; have HS2 := Lib.hid s2; have HP3 := Lib.hid (P.out.2.2.1.keep HR2.out (Or.inr (Nat.le_refl _))); have HP4 := Lib.hid (P.out.2.2.2.1.keep HR2.out (Or.inr (by omega))); have s3 : SrtC cf mid b L2 := (by rcases (show e <= mid \/ b <= e by omega) with hh | hh; exact HP4.out.sub hh (Nat.le_refl _); exact HP3.out.sub (Nat.le_refl _) hh)))
         go_end0
         have HD := HC.out.done SA.out SB.out HRF.out HR2.out HS2.out (RngC.refl mid b L2) s3
         exact ⟨rfl, (hB.out.trans B2), (hK.out.trans K2), L2, HD.1, HD.2, O2⟩
       ·have qb2 : ¬ (s : Int) < mid := by omega
        by_cases hC1 : mid < e
        ·have qc1 : (mid : Int) < e := by omega
         by_cases hC2 : e < b
         ·have qc2 : (e : Int) < b := by omega
          have HRF := Lib.hid (RotF.same (s := s) (m := m) (e := e) L0 (by omega) (by omega) (by omega))
          have P := Lib.hid (HC.out.parts SA.out SB.out HRF.out)
          have HR2 := Lib.hid (RngC.refl a mid L0)
          have HS2 : Hid (SrtC cf a mid L0) := Lib.hid (by rcases (show s <= a \/ mid <= s by omega) with hh | hh; exact P.out.2.1.sub hh (Nat.le_refl _); exact P.out.1.sub (Nat.le_refl _) hh)
          have HP3 := Lib.hid (P.out.2.2.1.keep HR2.out (Or.inr (Nat.le_refl _)))
          have HP4 := Lib.hid (P.out.2.2.2.1.keep HR2.out (Or.inr (by omega)))
          have R2 := Lib.hid (IHH.out mid e b L0 wr HL (by omega) (by omega) (by omega) (by omega) hOW (Lib.hid (KO.out.trans hK.out)) (by have := hB.out.size; omega) HP3 HP4)
          go_wp2_with (first | (go_at_call 121; (with_reducible refine R2.out.mono ?_); rintro e3 w3 ⟨rfl, B3, K3, L3, r3, s3, O3⟩))
          go_end0
          have HD := HC.out.done SA.out SB.out HRF.out HR2.out HS2.out r3 s3
          exact ⟨rfl, (hB.out.trans B3), (hK.out.trans K3), L3, HD.1, HD.2, O3⟩
         ·have qc2 : ¬ (e : Int) < b := by omega
          have HRF := Lib.hid (RotF.same (s := s) (m := m) (e := e) L0 (by omega) (by omega) (by omega))
          have P := Lib.hid (HC.out.parts SA.out SB.out HRF.out)
          have HR2 := Lib.hid (RngC.refl a mid L0)
          have HS2 : Hid (SrtC cf a mid L0) := Lib.hid (by rcases (show s <= a \/ mid <= s by omega) with hh | hh; exact P.out.2.1.sub hh (Nat.le_refl _); exact P.out.1.sub (Nat.le_refl _) hh)
          have HP3 := Lib.hid (P.out.2.2.1.keep HR2.out (Or.inr (Nat.le_refl _)))
          have HP4 := Lib.hid (P.out.2.2.2.1.keep HR2.out (Or.inr (by omega)))
          have s3 : SrtC cf mid b L0 := (by rcases (show e <= mid \/ b <= e by omega) with hh | hh; exact HP4.out.sub hh (Nat.le_refl _); exact HP3.out.sub (Nat.le_refl _) hh)
          go_wp2_with fail
          go_end0
          have HD := HC.out.done SA.out SB.out HRF.out HR2.out HS2.out (RngC.refl mid b L0) s3
          exact ⟨rfl, hB.out, hK.out, L0, HD.1, HD.2, hOW⟩
        ·have qc1 : ¬ (mid : Int) < e := by omega
         have HRF := Lib.hid (RotF.same (s := s) (m := m) (e := e) L0 (by omega) (by omega) (by omega))
         have P := Lib.hid (HC.out.parts SA.out SB.out HRF.out)
         have HR2 := Lib.hid (RngC.refl a mid L0)
         have HS2 : Hid (SrtC cf a mid L0) := Lib.hid (by rcases (show s <= a \/ mid <= s by omega) with hh | hh; exact P.out.2.1.sub hh (Nat.le_refl _); exact P.out.1.sub (Nat.le_refl _) hh)
         have HP3 := Lib.hid (P.out.2.2.1.keep HR2.out (Or.inr (Nat.le_refl _)))
         have HP4 := Lib.hid (P.out.2.2.2.1.keep HR2.out (Or.inr (by omega)))
         have s3 : SrtC cf mid b L0 := (by rcases (show e <= mid \/ b <= e by omega) with hh | hh; exact HP4.out.sub hh (Nat.le_refl _); exact HP3.out.sub (Nat.le_refl _) hh)
         go_wp2_with fail
         go_end0
         have HD := HC.out.done SA.out SB.out HRF.out HR2.out HS2.out (RngC.refl mid b L0) s3
         exact ⟨rfl, hB.out, hK.out, L0, HD.1, HD.2, hOW⟩
      ·have qb1 : ¬ (a : Int) < s := by omega
       by_cases hC1 : mid < e
       ·have qc1 : (mid : Int) < e := by omega
        by_cases hC2 : e < b
        ·have qc2 : (e : Int) < b := by omega
         have HRF := Lib.hid (RotF.same (s := s) (m := m) (e := e) L0 (by omega) (by omega) (by omega))
         have P := Lib.hid (HC.out.parts SA.out SB.out HRF.out)
         have HR2 := Lib.hid (RngC.refl a mid L0)
         have HS2 : Hid (SrtC cf a mid L0) := Lib.hid (by rcases (show s <= a \/ mid <= s by omega) with hh | hh; exact P.out.2.1.sub hh (Nat.le_refl _); exact P.out.1.sub (Nat.le_refl _) hh)
         have HP3 := Lib.hid (P.out.2.2.1.keep HR2.out (Or.inr (Nat.le_refl _)))
         have HP4 := Lib.hid (P.out.2.2.2.1.keep HR2.out (Or.inr (by omega)))
         have R2 := Lib.hid (IHH.out mid e b L0 wr HL (by omega) (by omega) (by omega) (by omega) hOW (Lib.hid (KO.out.trans hK.out)) (by have := hB.out.size; omega) HP3 HP4)
         go_wp2_with (first | (go_at_call 121; (with_reducible refine R2.out.mono ?_); rintro e3 w3 ⟨rfl, B3, K3, L3, r3, s3, O3⟩))
         go_end0
         have HD := HC.out.done SA.out SB.out HRF.out HR2.out HS2.out r3 s3
         exact ⟨rfl, (hB.out.trans B3), (hK.out.trans K3), L3, HD.1, HD.2, O3⟩
        ·have qc2 : ¬ (e : Int) < b := by omega
         have HRF := Lib.hid (RotF.same (s := s) (m := m) (e := e) L0 (by omega) (by omega) (by omega))
         have P := Lib.hid (HC.out.parts SA.out SB.out HRF.out)
         have HR2 := Lib.hid (RngC.refl a mid L0)
         have HS2 : Hid (SrtC cf a mid L0) := Lib.hid (by rcases (show s <= a \/ mid <= s by omega) with hh | hh; exact P.out.2.1.sub hh (Nat.le_refl _); exact P.out.1.sub (Nat.le_refl _) hh)
         have HP3 := Lib.hid (P.out.2.2.1.keep HR2.out (Or.inr (Nat.le_refl _)))
         have HP4 := Lib.hid (P.out.2.2.2.1.keep HR2.out (Or.inr (by omega)))
         have s3 : SrtC cf mid b L0 := (by rcases (show e <= mid \/ b <= e by omega) with hh | hh; exact HP4.out.sub hh (Nat.le_refl _); exact HP3.out.sub (Nat.le_refl _) hh)
         go_wp2_with fail
         go_end0
         have HD := HC.out.done SA.out SB.out HRF.out HR2.out HS2.out (RngC.refl mid b L0) s3
         exact ⟨rfl, hB.out, hK.out, L0, HD.1, HD.2, hOW⟩
       ·have qc1 : ¬ (mid : Int) < e := by omega
        have HRF := Lib.hid (RotF.same (s := s) (m := m) (e := e) L0 (by omega) (by omega) (by omega))
        have P := Lib.hid (HC.out.parts SA.out SB.out HRF.out)
        have HR2 := Lib.hid (RngC.refl a mid L0)
        have HS2 : Hid (SrtC cf a mid L0) := Lib.hid (by rcases (show s <= a \/ mid <= s by omega) with hh | hh; exact P.out.2.1.sub hh (Nat.le_refl _); exact P.out.1.sub (Nat.le_refl _) hh)
        have HP3 := Lib.hid (P.out.2.2.1.keep HR2.out (Or.inr (Nat.le_refl _)))
        have HP4 := Lib.hid (P.out.2.2.2.1.keep HR2.out (Or.inr (by omega)))
        have s3 : SrtC cf mid b L0 := (by rcases (show e <= mid \/ b <= e by omega) with hh | hh; exact HP4.out.sub hh (Nat.le_refl _); exact HP3.out.sub (Nat.le_refl _) hh)
        go_wp2_with fail
        go_end0
        have HD := HC.out.done SA.out SB.out HRF.out HR2.out HS2.out (RngC.refl mid b L0) s3
        exact ⟨rfl, hB.out, hK.out, L0, HD.1, HD.2, hOW⟩
end Go.Proofs.YtbicmlkjonaccaaDoor.Ln
