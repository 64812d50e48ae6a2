/- The merge. -/
import Derived.Test.YtghnigmmkenddaaS6
import Derived.Test.YtghnigmmkenddaaS7
import Derived.Test.YtghnigmmkenddaaS8
import Derived.Deep.Cut
import Derived.Deep.CutRange
namespace Go.Proofs.Ytghnigmmkenddaa.Ar
open Go.ChangeShapes Go.WideShapes Go.ChangeAt Go.RowKit

set_option linter.unusedVariables false
set_option linter.unusedSimpArgs false

set_option maxRecDepth 100000 in
set_option maxHeartbeats 16000000 in
/-- The merge of two neighbouring sorted parts. -/
theorem symN (kf : Nat) (q1 q2 : Value) (g cap base n : Nat) (D : List Int) (cf : Int → Int → Int) (O : OrdC cf) (wo : World) (hn : n ≤ 100000) (HKF : Hid (∀ args w, (Go.callFunc kf args).run Try.prog w = .ok (.enter kf args) w)) (NC : Hid (∀ x y, x ∈ D → y ∈ D → y < x → ∀ w', KG g wo w' → Calls Try.prog kf #[.int .i64 x, .int .i64 y, q1, q2] w' fun e w2 => (∃ v, e = .returned (.int .i64 v) ∧ decide (v < 0) = decide (cf x y < 0)) ∧ Below w'.heap.size w' w2)) : ∀ (d a m b : Nat) (L0 : List Int) (w : World) (HL : Hid (L0.length = n ∧ ∀ x ∈ L0, x ∈ D)) (h1 : a < m) (h2 : m < b) (h3 : b ≤ n) (hd : b - a ≤ d) (hO : Hid (w.ownsRow base 3 1 (.slice (some ⟨g, 0, none⟩) n cap) n (rowE L0))) (KO : Hid (KG g wo w)) (hbw : base ≤ w.heap.size) (SA : Hid (SrtC cf a m L0)) (SB : Hid (SrtC cf m b L0)) (HP : Hid (Sp a m b L0)),
    Calls Try.prog 50 #[.slice (some ⟨g, 0, none⟩) n cap, .int .i64 (a : Int), .int .i64 (m : Int), .int .i64 (b : Int), .func (.func kf) #[] #[q1, q2]] w fun e w' => e = .returned (.tuple #[]) ∧ Below base w w' ∧ KG g w w' ∧ ∃ L', RngC a b L0 L' ∧ SrtC cf a b L' ∧ Hid (w'.ownsRow base 3 1 (.slice (some ⟨g, 0, none⟩) n cap) n (rowE L')) := by
  intro d
  induction d with
  | zero => intro a m b L0 w HL h1 h2 h3 hd; exact absurd hd (by omega)
  | succ d ih =>
    intro a m b L0 w HL h1 h2 h3 hd hO KO hbw SA SB HP
    by_cases g1 : m = a + 1
    · exact sm1 kf q1 q2 g cap base n a m b D L0 cf O wo w hn HL h1 h2 h3 hO HKF NC KO hbw SA SB HP g1
    by_cases g2 : b = m + 1
    · exact sm2 kf q1 q2 g cap base n a m b D L0 cf O wo w hn HL h1 h2 h3 hO HKF NC KO hbw SA SB HP (by omega) g2
    have IHH := Lib.hid ih
    clear ih
    have OO := Lib.hid O
    clear O
    have c1 : ((m : Int) - (a : Int) == 1) = false := by rw [beq_eq_false_iff_ne]; omega
    have c2 : ((b : Int) - (m : Int) == 1) = false := by rw [beq_eq_false_iff_ne]; omega
    obtain ⟨mid, hmid⟩ : ∃ mid, mid = (a + b) / 2 := ⟨_, rfl⟩
    obtain ⟨pp, hpp⟩ : ∃ pp, mid + m - 1 = pp := ⟨_, rfl⟩
    have HMID := Lib.hid hmid
    have HPP := Lib.hid hpp
    have hv : ((a : Int) + (b : Int)) / 2 = (mid : Int) := by omega
    have hpv : (mid : Int) + (m : Int) - 1 = (pp : Int) := by omega
    have mm1 : a + 1 ≤ mid := by omega
    have mm2 : mid < b := by omega
    have mm3 : mid + mid ≤ a + b := by omega
    have mm4 : a + b ≤ mid + mid + 1 := by omega
    have mm5 : pp + 1 = mid + m := by omega
    clear hmid hpp g1 g2
    go_enter Try.func50, Try.ntmps50
    go_upto_region 25 with fail
    try rw [hv]
    clear hv
    by_cases hmm : mid < m
    · have r1 : (mid : Int) < m := by omega
      obtain ⟨lo, hi, hlo⟩ : ∃ lo hi : Nat, lo + b = mid + m ∧ hi = mid := ⟨mid + m - b, mid, by omega, rfl⟩
      have HLO := Lib.hid hlo
      have z1 : lo ≤ hi := by omega
      have z2 : hi ≤ m := by omega
      have z3 : a ≤ lo := by omega
      clear hlo
      go_wp2_with fail
      try rw [hpv]
      clear hpv
      go_loopw [20, 21] (fun iv jv wr => ∃ (i j : Nat), iv = .int .i64 (i : Int) ∧ jv = .int .i64 (j : Int) ∧ i ≤ j ∧ lo ≤ i ∧ j ≤ hi ∧ Hid (BisP cf L0 pp lo hi i j) ∧ Hid (wr.ownsRow base 3 1 (.slice (some ⟨g, 0, none⟩) n cap) n (rowE L0)) ∧ Hid (Below base w wr) ∧ Hid (KG g w wr)) (fun iv jv _ => (intOf jv).toNat - (intOf iv).toNat)
      case atStart => exact ⟨lo, hi, (by have := HLO.out; go_num), (by have := HLO.out; go_num), by omega, by omega, by omega, Lib.hid ⟨by omega, by omega, by omega, fun h k1 k2 => absurd k1 (by omega), fun h k1 k2 => absurd k1 (by omega)⟩, hO, Lib.hid (Below.refl _ _), Lib.hid (KG.refl _ _)⟩
      case round =>
        clear hO
        obtain ⟨i, j, rfl, rfl, hij, hai, hjb, HB, hOW, hB, hK⟩ := hrel
        by_cases hlt : i < j
        · have i1 : (i : Int) < j := by omega
          go_wp2_with fail
          obtain ⟨h, hh⟩ : ∃ h, h = (i + j) / 2 := ⟨_, rfl⟩
          have hh1 : i ≤ h := by omega
          have hh2 : h < j := by omega
          have hv : ((i : Int) + (j : Int)) / 2 = (h : Int) := by omega
          try rw [hv]
          clear hv hh
          obtain ⟨pc, hpc⟩ : ∃ pc, pp - h = pc := ⟨_, rfl⟩
          have HPC := Lib.hid hpc
          have wpc : (pp : Int) - (h : Int) = (pc : Int) := by have := HPP.out; omega
          have wkp : IntKind.i64.wrap (pc : Int) = (pc : Int) := by rw [IntKind.wrap_i64]; have := HPP.out; omega
          have hpcn : pc < n := by have := HPP.out; have := HLO.out; omega
          clear hpc
          have hpL : pc < L0.length := by rw [HL.out.1]; omega
          have hqL : h < L0.length := by rw [HL.out.1]; omega
          have v0 := rowE_get L0 pc hpL
          have u0 := rowE_get L0 h hqL
          have HX : Hid (L0.getD pc e50 ∈ D) := Lib.hid (HL.out.2 _ (getD_mem5 hpL))
          have HY : Hid (L0.getD h e50 ∈ D) := Lib.hid (HL.out.2 _ (getD_mem5 hqL))
          have HLT : Hid (L0.getD h e50 < L0.getD pc e50) := Lib.hid (HP.out h pc (by omega) (by omega) (by have := HLO.out; have := HPP.out; have := HPC.out; omega) (by have := HLO.out; have := HPP.out; have := HPC.out; omega))
          have c0 := (hOW.out.cellAt pc (by omega)).trans v0
          have d0 := (hOW.out.cellAt h (by omega)).trans u0
          obtain ⟨x, hx⟩ : ∃ x, L0.getD pc e50 = x := ⟨_, rfl⟩
          obtain ⟨y, hy⟩ : ∃ y, L0.getD h e50 = y := ⟨_, rfl⟩
          have HX0 := Lib.hid hx
          have HY0 := Lib.hid hy
          rw [hx] at c0 HX HLT
          rw [hy] at d0 HY HLT
          have j2 : (pc : Int) < n := by have := HL.out.1; omega
          have j3 : (h : Int) < n := by have := HL.out.1; omega
          have j4 : (0 : Int) ≤ pc := by omega
          have j5 : (0 : Int) ≤ h := by omega
          have HKW := Lib.hid (KO.out.trans hK.out)
          have hzr : wr.drew.cell? ⟨g, pc, none⟩ = some (.int .i64 x) ∧ wr.drew.cell? ⟨g, h, none⟩ = some (.int .i64 y) ∧ Below wr.heap.size wr wr.drew := ⟨c0, d0, (Below.refl _ _).drew⟩
          have HS : Hid (∀ u u' : World, (u.cell? ⟨g, pc, none⟩ = some (.int .i64 x) ∧ u.cell? ⟨g, h, none⟩ = some (.int .i64 y) ∧ Below wr.heap.size wr u) → Below u.heap.size u u' → (u'.cell? ⟨g, pc, none⟩ = some (.int .i64 x) ∧ u'.cell? ⟨g, h, none⟩ = some (.int .i64 y) ∧ Below wr.heap.size wr u')) := Lib.hid (fun u u' h hb => ⟨Rg.keep hb (World.block_lt_of_cell? _ _ h.1) h.1, Rg.keep hb (World.block_lt_of_cell? _ _ h.2.1) h.2.1, h.2.2.trans (hb.mono h.2.2.size)⟩)
          clear v0 u0 c0 d0
          by_cases hneg : cf x y < 0
          · have hr2 : decide (cf x y < 0) = true := by simpa using hneg
            have HB2 := Lib.hid (HB.out.down OO.out SA.out SB.out (by have := HLO.out; omega) (by have := HLO.out; omega) (by have := HLO.out; have := HPP.out; omega) (by have := HLO.out; have := HPP.out; omega) (by have := HLO.out; have := HPP.out; omega) hh1 hh2 (by rw [HPC.out, HX0.out, HY0.out]; exact hneg))
            refine Rk.begin (S := fun wS => wS.cell? ⟨g, pc, none⟩ = some (.int .i64 x) ∧ wS.cell? ⟨g, h, none⟩ = some (.int .i64 y) ∧ Below wr.heap.size wr wS) 12 (by kernel_rfl) hzr (fun hHeld => ?_)
            refine Rk.takeP (i := 0) (v := ?_) rfl (by kernel_rfl) (by kernel_rfl) (by kernel_rfl) (by kernel_rfl) (fun _ _ _ h => h) (Or.inl ⟨by kernel_rfl, ?_⟩) (by assumption) ?_
            rotate_left
            · ((intro w hSw; go_simp) <;> with_reducible rfl)
            try simp only [wpc, wkp, Act.put, List.setIfInBounds_toArray, List.set_cons_zero, List.set_cons_succ]
            refine Rk.takeP (i := 1) (v := ?_) rfl (by kernel_rfl) (by kernel_rfl) (by kernel_rfl) (by kernel_rfl) (fun _ _ _ h => h) (Or.inl ⟨by kernel_rfl, ?_⟩) (by assumption) ?_
            rotate_left
            · ((intro w hSw; go_simp) <;> with_reducible rfl)
            try simp only [wpc, wkp, Act.put, List.setIfInBounds_toArray, List.set_cons_zero, List.set_cons_succ]
            refine Rk.takeP (i := 2) (v := ?_) rfl (by kernel_rfl) (by kernel_rfl) (by kernel_rfl) (by kernel_rfl) (fun _ _ _ h => h) (Or.inl ⟨by kernel_rfl, ?_⟩) (by assumption) ?_
            rotate_left
            · ((intro w hSw; go_simp) <;> with_reducible rfl)
            try simp only [wpc, wkp, Act.put, List.setIfInBounds_toArray, List.set_cons_zero, List.set_cons_succ]
            refine Rk.takeP (i := 3) (v := ?_) rfl (by kernel_rfl) (by kernel_rfl) (by kernel_rfl) (by kernel_rfl) (fun _ _ _ h => h) (Or.inl ⟨by kernel_rfl, ?_⟩) (by assumption) ?_
            rotate_left
            · ((intro w hSw; go_simp) <;> with_reducible rfl)
            try simp only [wpc, wkp, Act.put, List.setIfInBounds_toArray, List.set_cons_zero, List.set_cons_succ]
            refine Rk.takeP (i := 4) (v := ?_) rfl (by kernel_rfl) (by kernel_rfl) (by kernel_rfl) (by kernel_rfl) (fun _ _ _ h => h) (Or.inl ⟨by kernel_rfl, ?_⟩) (by assumption) ?_
            rotate_left
            · ((intro w hSw; go_simp) <;> with_reducible rfl)
            try simp only [wpc, wkp, Act.put, List.setIfInBounds_toArray, List.set_cons_zero, List.set_cons_succ]
            refine Rk.takeP (i := 5) (v := ?_) rfl (by kernel_rfl) (by kernel_rfl) (by kernel_rfl) (by kernel_rfl) (fun _ _ _ h => h) (Or.inl ⟨by kernel_rfl, ?_⟩) (by assumption) ?_
            rotate_left
            · ((intro w hSw; go_simp) <;> with_reducible rfl)
            try simp only [wpc, wkp, Act.put, List.setIfInBounds_toArray, List.set_cons_zero, List.set_cons_succ]
            refine Rk.take [11, 12] (i := 6) (v := ?_) rfl (by kernel_rfl) (by kernel_rfl) (by kernel_rfl) (by kernel_rfl) (by kernel_rfl) (fun _ _ _ h => h) (Or.inl ⟨by kernel_rfl, ?_⟩) (by assumption) ?_
            rotate_left
            · ((intro w hSw; (try dsimp only at hSw); go_simp) <;> with_reducible rfl)
            try simp only [wpc, wkp, Act.put, List.setIfInBounds_toArray, List.set_cons_zero, List.set_cons_succ]
            refine Rk.takeP (i := 7) (v := ?_) rfl (by kernel_rfl) (by kernel_rfl) (by kernel_rfl) (by kernel_rfl) (fun _ _ _ h => h) (Or.inl ⟨by kernel_rfl, ?_⟩) (by assumption) ?_
            rotate_left
            · ((intro w hSw; go_simp) <;> with_reducible rfl)
            try simp only [wpc, wkp, Act.put, List.setIfInBounds_toArray, List.set_cons_zero, List.set_cons_succ]
            refine Rk.takeP (i := 8) (v := ?_) rfl (by kernel_rfl) (by kernel_rfl) (by kernel_rfl) (by kernel_rfl) (fun _ _ _ h => h) (Or.inl ⟨by kernel_rfl, ?_⟩) (by assumption) ?_
            rotate_left
            · ((intro w hSw; go_simp) <;> with_reducible rfl)
            try simp only [wpc, wkp, Act.put, List.setIfInBounds_toArray, List.set_cons_zero, List.set_cons_succ]
            refine Rk.takeP (i := 9) (v := ?_) rfl (by kernel_rfl) (by kernel_rfl) (by kernel_rfl) (by kernel_rfl) (fun _ _ _ h => h) (Or.inl ⟨by kernel_rfl, ?_⟩) (by assumption) ?_
            rotate_left
            · ((intro w hSw; go_simp) <;> with_reducible rfl)
            try simp only [wpc, wkp, Act.put, List.setIfInBounds_toArray, List.set_cons_zero, List.set_cons_succ]
            refine Rk.take [11, 12] (i := 10) (v := ?_) rfl (by kernel_rfl) (by kernel_rfl) (by kernel_rfl) (by kernel_rfl) (by kernel_rfl) (fun _ _ _ h => h) (Or.inl ⟨by kernel_rfl, ?_⟩) (by assumption) ?_
            rotate_left
            · ((intro w hSw; (try dsimp only at hSw); go_simp) <;> with_reducible rfl)
            try simp only [wpc, wkp, Act.put, List.setIfInBounds_toArray, List.set_cons_zero, List.set_cons_succ]
            refine Rk.one (i := 11) (by kernel_rfl) rfl (fun KK hK => ?_)
            rw [if_pos (by kernel_rfl)]
            go_simp
            rw [HKF.out, Oper.upon_enter]
            ((with_reducible refine (NC.out x y HX.out HY.out HLT.out _ (HKW.out.trans (KG.below (hHeld.2.2)))).mono ?_); rintro e u ⟨⟨v, rfl, hv⟩, hb⟩; replace hv := hv.trans hr2)
            first | (refine hK.out _ _ (fun _ => HS.out _ _ hHeld hb) (fun hHeld => ?_)) | (refine hK.out _ _ (HS.out _ _ hHeld hb) (fun hHeld => ?_)) | (go_wp2_with fail; refine hK.out _ _ (HS.out _ _ hHeld hb) (fun hHeld => ?_))
            clear hK KK
            refine Rk.tail [12, 13] [_, _] (by kernel_rfl) (by kernel_rfl) rfl (by decide) ?_
            have KB0 := hHeld.2.2
            have O2 := Lib.hid (own_belowE hOW.out KB0)
            have B2 := Lib.hid (hB.out.trans (KB0.mono (by have := hB.out.size; omega)))
            have K2 := Lib.hid (hK.out.trans (KG.below KB0))
            clear hHeld HS hOW hB hK KB0
            go_wp2_with fail
            go_roundw
            case rel => exact ⟨i, h, by go_num, by go_num, by omega, by omega, by omega, HB2, O2, B2, K2⟩
            case measure => simp [intOf]; omega
          · have hr2 : decide (cf x y < 0) = false := by simpa using hneg
            have HB2 := Lib.hid (HB.out.up OO.out SA.out SB.out (by have := HLO.out; omega) (by have := HLO.out; omega) (by have := HLO.out; have := HPP.out; omega) (by have := HLO.out; have := HPP.out; omega) (by have := HLO.out; have := HPP.out; omega) hh1 hh2 (by rw [HPC.out, HX0.out, HY0.out]; exact hneg))
            refine Rk.begin (S := fun wS => wS.cell? ⟨g, pc, none⟩ = some (.int .i64 x) ∧ wS.cell? ⟨g, h, none⟩ = some (.int .i64 y) ∧ Below wr.heap.size wr wS) 12 (by kernel_rfl) hzr (fun hHeld => ?_)
            refine Rk.takeP (i := 0) (v := ?_) rfl (by kernel_rfl) (by kernel_rfl) (by kernel_rfl) (by kernel_rfl) (fun _ _ _ h => h) (Or.inl ⟨by kernel_rfl, ?_⟩) (by assumption) ?_
            rotate_left
            · ((intro w hSw; go_simp) <;> with_reducible rfl)
            try simp only [wpc, wkp, Act.put, List.setIfInBounds_toArray, List.set_cons_zero, List.set_cons_succ]
            refine Rk.takeP (i := 1) (v := ?_) rfl (by kernel_rfl) (by kernel_rfl) (by kernel_rfl) (by kernel_rfl) (fun _ _ _ h => h) (Or.inl ⟨by kernel_rfl, ?_⟩) (by assumption) ?_
            rotate_left
            · ((intro w hSw; go_simp) <;> with_reducible rfl)
            try simp only [wpc, wkp, Act.put, List.setIfInBounds_toArray, List.set_cons_zero, List.set_cons_succ]
            refine Rk.takeP (i := 2) (v := ?_) rfl (by kernel_rfl) (by kernel_rfl) (by kernel_rfl) (by kernel_rfl) (fun _ _ _ h => h) (Or.inl ⟨by kernel_rfl, ?_⟩) (by assumption) ?_
            rotate_left
            · ((intro w hSw; go_simp) <;> with_reducible rfl)
            try simp only [wpc, wkp, Act.put, List.setIfInBounds_toArray, List.set_cons_zero, List.set_cons_succ]
            refine Rk.takeP (i := 3) (v := ?_) rfl (by kernel_rfl) (by kernel_rfl) (by kernel_rfl) (by kernel_rfl) (fun _ _ _ h => h) (Or.inl ⟨by kernel_rfl, ?_⟩) (by assumption) ?_
            rotate_left
            · ((intro w hSw; go_simp) <;> with_reducible rfl)
            try simp only [wpc, wkp, Act.put, List.setIfInBounds_toArray, List.set_cons_zero, List.set_cons_succ]
            refine Rk.takeP (i := 4) (v := ?_) rfl (by kernel_rfl) (by kernel_rfl) (by kernel_rfl) (by kernel_rfl) (fun _ _ _ h => h) (Or.inl ⟨by kernel_rfl, ?_⟩) (by assumption) ?_
            rotate_left
            · ((intro w hSw; go_simp) <;> with_reducible rfl)
            try simp only [wpc, wkp, Act.put, List.setIfInBounds_toArray, List.set_cons_zero, List.set_cons_succ]
            refine Rk.takeP (i := 5) (v := ?_) rfl (by kernel_rfl) (by kernel_rfl) (by kernel_rfl) (by kernel_rfl) (fun _ _ _ h => h) (Or.inl ⟨by kernel_rfl, ?_⟩) (by assumption) ?_
            rotate_left
            · ((intro w hSw; go_simp) <;> with_reducible rfl)
            try simp only [wpc, wkp, Act.put, List.setIfInBounds_toArray, List.set_cons_zero, List.set_cons_succ]
            refine Rk.take [11, 12] (i := 6) (v := ?_) rfl (by kernel_rfl) (by kernel_rfl) (by kernel_rfl) (by kernel_rfl) (by kernel_rfl) (fun _ _ _ h => h) (Or.inl ⟨by kernel_rfl, ?_⟩) (by assumption) ?_
            rotate_left
            · ((intro w hSw; (try dsimp only at hSw); go_simp) <;> with_reducible rfl)
            try simp only [wpc, wkp, Act.put, List.setIfInBounds_toArray, List.set_cons_zero, List.set_cons_succ]
            refine Rk.takeP (i := 7) (v := ?_) rfl (by kernel_rfl) (by kernel_rfl) (by kernel_rfl) (by kernel_rfl) (fun _ _ _ h => h) (Or.inl ⟨by kernel_rfl, ?_⟩) (by assumption) ?_
            rotate_left
            · ((intro w hSw; go_simp) <;> with_reducible rfl)
            try simp only [wpc, wkp, Act.put, List.setIfInBounds_toArray, List.set_cons_zero, List.set_cons_succ]
            refine Rk.takeP (i := 8) (v := ?_) rfl (by kernel_rfl) (by kernel_rfl) (by kernel_rfl) (by kernel_rfl) (fun _ _ _ h => h) (Or.inl ⟨by kernel_rfl, ?_⟩) (by assumption) ?_
            rotate_left
            · ((intro w hSw; go_simp) <;> with_reducible rfl)
            try simp only [wpc, wkp, Act.put, List.setIfInBounds_toArray, List.set_cons_zero, List.set_cons_succ]
            refine Rk.takeP (i := 9) (v := ?_) rfl (by kernel_rfl) (by kernel_rfl) (by kernel_rfl) (by kernel_rfl) (fun _ _ _ h => h) (Or.inl ⟨by kernel_rfl, ?_⟩) (by assumption) ?_
            rotate_left
            · ((intro w hSw; go_simp) <;> with_reducible rfl)
            try simp only [wpc, wkp, Act.put, List.setIfInBounds_toArray, List.set_cons_zero, List.set_cons_succ]
            refine Rk.take [11, 12] (i := 10) (v := ?_) rfl (by kernel_rfl) (by kernel_rfl) (by kernel_rfl) (by kernel_rfl) (by kernel_rfl) (fun _ _ _ h => h) (Or.inl ⟨by kernel_rfl, ?_⟩) (by assumption) ?_
            rotate_left
            · ((intro w hSw; (try dsimp only at hSw); go_simp) <;> with_reducible rfl)
            try simp only [wpc, wkp, Act.put, List.setIfInBounds_toArray, List.set_cons_zero, List.set_cons_succ]
            refine Rk.one (i := 11) (by kernel_rfl) rfl (fun KK hK => ?_)
            rw [if_pos (by kernel_rfl)]
            go_simp
            rw [HKF.out, Oper.upon_enter]
            ((with_reducible refine (NC.out x y HX.out HY.out HLT.out _ (HKW.out.trans (KG.below (hHeld.2.2)))).mono ?_); rintro e u ⟨⟨v, rfl, hv⟩, hb⟩; replace hv := hv.trans hr2)
            first | (refine hK.out _ _ (fun _ => HS.out _ _ hHeld hb) (fun hHeld => ?_)) | (refine hK.out _ _ (HS.out _ _ hHeld hb) (fun hHeld => ?_)) | (go_wp2_with fail; refine hK.out _ _ (HS.out _ _ hHeld hb) (fun hHeld => ?_))
            clear hK KK
            refine Rk.tail [12, 13] [_, _] (by kernel_rfl) (by kernel_rfl) rfl (by decide) ?_
            have KB0 := hHeld.2.2
            have O2 := Lib.hid (own_belowE hOW.out KB0)
            have B2 := Lib.hid (hB.out.trans (KB0.mono (by have := hB.out.size; omega)))
            have K2 := Lib.hid (hK.out.trans (KG.below KB0))
            clear hHeld HS hOW hB hK KB0
            go_wp2_with fail
            go_roundw
            case rel => exact ⟨h + 1, j, by go_num, by go_num, by omega, by omega, by omega, HB2, O2, B2, K2⟩
            case measure => simp [intOf]; omega
        · obtain rfl : i = j := by omega
          have i1 : ¬ (i : Int) < i := by omega
          obtain ⟨s, hs⟩ : ∃ s, s = i := ⟨_, rfl⟩
          subst hs
          obtain ⟨e, he⟩ : ∃ e, e = mid + m - s := ⟨_, rfl⟩
          have HC := Lib.hid (BisP.cut (lo := lo) (hi := hi) OO.out h1 h2 HMID.out (Or.inl ⟨hmm, by have := HLO.out; omega, HLO.out.2⟩) SA.out SB.out (by have h := HB.out; rw [← HPP.out] at h; exact h) he)
          have y1 := HC.out.a1
          have y2 := HC.out.a2
          have y3 := HC.out.a3
          have y4 := HC.out.a4
          have y5 := HC.out.sm
          have y6 := HC.out.me
          have hev : (mid : Int) + (m : Int) - (s : Int) = (e : Int) := by omega
          clear he HB
          go_upto_region 39 with fail
          try rw [hev]
          clear hev
          by_cases hA1 : s < m
          · have qa1 : (s : Int) < m := by omega
            by_cases hA2 : m < e
            · have qa2 : (m : Int) < e := by omega
              by_cases hB1 : a < s
              · have qb1 : (a : Int) < s := by omega
                by_cases hB2 : s < mid
                · have qb2 : (s : Int) < mid := by omega
                  by_cases hC1 : mid < e
                  · have qc1 : (mid : Int) < e := by omega
                    by_cases hC2 : e < b
                    · have qc2 : (e : Int) < b := by omega
                      obtain ⟨L1, HRS, hrf⟩ := rot_facts (s := s) (m := m) (e := e) L0 (by omega) (by omega) (by rw [HL.out.1]; omega)
                      have HRF := Lib.hid hrf
                      have RO := Lib.hid (rotN (.func (.func kf) #[] #[q1, q2]) g cap base n s m e L0 L1 wr hn HL.out.1 (by omega) (by omega) (by omega) (Lib.hid HRS) hOW _ _ _ rfl rfl rfl)
                      clear hrf HRS
                      go_wp2_with (first | (go_at_call 51; (with_reducible refine RO.out.mono ?_); rintro e1 w1 ⟨rfl, B1, K1, O1⟩; have HL1 : Hid (L1.length = n ∧ ∀ x ∈ L1, x ∈ D) := Lib.hid ⟨by rw [HRF.out.rng.len]; exact HL.out.1, fun x hx => HL.out.2 _ (HRF.out.rng.perm.mem_iff.mp hx)⟩; have P := Lib.hid (HC.out.parts SA.out SB.out HRF.out); have SQ := Lib.hid (HC.out.seps HRF.out HP.out); have R1 := Lib.hid (IHH.out a s mid L1 w1 HL1 (by omega) (by omega) (by omega) (by omega) O1 (Lib.hid (KO.out.trans (hK.out.trans K1))) (by have := (hB.out.trans B1).size; omega) (Lib.hid P.out.1) (Lib.hid P.out.2.1) (Lib.hid SQ.out.1))) | (go_at_call 50; (with_reducible refine R1.out.mono ?_); rintro e2 w2 ⟨rfl, B2, K2, L2, r2, s2, O2⟩; have HL2 : Hid (L2.length = n ∧ ∀ x ∈ L2, x ∈ D) := Lib.hid ⟨by rw [r2.len]; exact HL1.out.1, fun x hx => HL1.out.2 _ (r2.perm.mem_iff.mp hx)⟩; have HR2 := Lib.hid r2; have HS2 := Lib.hid s2; have HP3 := Lib.hid (P.out.2.2.1.keep HR2.out (Or.inr (Nat.le_refl _))); have HP4 := Lib.hid (P.out.2.2.2.1.keep HR2.out (Or.inr (by omega))); have R2 := Lib.hid (IHH.out mid e b L2 w2 HL2 (by omega) (by omega) (by omega) (by omega) O2 (Lib.hid (KO.out.trans ((hK.out.trans K1).trans K2))) (by have := ((hB.out.trans B1).trans B2).size; omega) HP3 HP4 (Lib.hid (SQ.out.2.keep HR2.out (Or.inr (Nat.le_refl _)))))) | (go_at_call 50; (with_reducible refine R2.out.mono ?_); rintro e3 w3 ⟨rfl, B3, K3, L3, r3, s3, O3⟩))
                      go_end0
                      have HD := HC.out.done SA.out SB.out HRF.out HR2.out HS2.out r3 s3
                      exact ⟨rfl, (((hB.out.trans B1).trans B2).trans B3), (((hK.out.trans K1).trans K2).trans K3), L3, HD.1, HD.2, O3⟩
                    · have qc2 : ¬ (e : Int) < b := by omega
                      obtain ⟨L1, HRS, hrf⟩ := rot_facts (s := s) (m := m) (e := e) L0 (by omega) (by omega) (by rw [HL.out.1]; omega)
                      have HRF := Lib.hid hrf
                      have RO := Lib.hid (rotN (.func (.func kf) #[] #[q1, q2]) g cap base n s m e L0 L1 wr hn HL.out.1 (by omega) (by omega) (by omega) (Lib.hid HRS) hOW _ _ _ rfl rfl rfl)
                      clear hrf HRS
                      go_wp2_with (first | (go_at_call 51; (with_reducible refine RO.out.mono ?_); rintro e1 w1 ⟨rfl, B1, K1, O1⟩; have HL1 : Hid (L1.length = n ∧ ∀ x ∈ L1, x ∈ D) := Lib.hid ⟨by rw [HRF.out.rng.len]; exact HL.out.1, fun x hx => HL.out.2 _ (HRF.out.rng.perm.mem_iff.mp hx)⟩; have P := Lib.hid (HC.out.parts SA.out SB.out HRF.out); have SQ := Lib.hid (HC.out.seps HRF.out HP.out); have R1 := Lib.hid (IHH.out a s mid L1 w1 HL1 (by omega) (by omega) (by omega) (by omega) O1 (Lib.hid (KO.out.trans (hK.out.trans K1))) (by have := (hB.out.trans B1).size; omega) (Lib.hid P.out.1) (Lib.hid P.out.2.1) (Lib.hid SQ.out.1))) | (go_at_call 50; (with_reducible refine R1.out.mono ?_); rintro e2 w2 ⟨rfl, B2, K2, L2, r2, s2, O2⟩; have HL2 : Hid (L2.length = n ∧ ∀ x ∈ L2, x ∈ D) := Lib.hid ⟨by rw [r2.len]; exact HL1.out.1, fun x hx => HL1.out.2 _ (r2.perm.mem_iff.mp hx)⟩; have HR2 := Lib.hid r2; have HS2 := Lib.hid s2; have HP3 := Lib.hid (P.out.2.2.1.keep HR2.out (Or.inr (Nat.le_refl _))); have HP4 := Lib.hid (P.out.2.2.2.1.keep HR2.out (Or.inr (by omega))); have s3 : SrtC cf mid b L2 := (by rcases (show e ≤ mid ∨ b ≤ e by omega) with hh | hh; exact HP4.out.sub hh (Nat.le_refl _); exact HP3.out.sub (Nat.le_refl _) hh)))
                      go_end0
                      have HD := HC.out.done SA.out SB.out HRF.out HR2.out HS2.out (RngC.refl mid b L2) s3
                      exact ⟨rfl, ((hB.out.trans B1).trans B2), ((hK.out.trans K1).trans K2), L2, HD.1, HD.2, O2⟩
                  · have qc1 : ¬ (mid : Int) < e := by omega
                    obtain ⟨L1, HRS, hrf⟩ := rot_facts (s := s) (m := m) (e := e) L0 (by omega) (by omega) (by rw [HL.out.1]; omega)
                    have HRF := Lib.hid hrf
                    have RO := Lib.hid (rotN (.func (.func kf) #[] #[q1, q2]) g cap base n s m e L0 L1 wr hn HL.out.1 (by omega) (by omega) (by omega) (Lib.hid HRS) hOW _ _ _ rfl rfl rfl)
                    clear hrf HRS
                    go_wp2_with (first | (go_at_call 51; (with_reducible refine RO.out.mono ?_); rintro e1 w1 ⟨rfl, B1, K1, O1⟩; have HL1 : Hid (L1.length = n ∧ ∀ x ∈ L1, x ∈ D) := Lib.hid ⟨by rw [HRF.out.rng.len]; exact HL.out.1, fun x hx => HL.out.2 _ (HRF.out.rng.perm.mem_iff.mp hx)⟩; have P := Lib.hid (HC.out.parts SA.out SB.out HRF.out); have SQ := Lib.hid (HC.out.seps HRF.out HP.out); have R1 := Lib.hid (IHH.out a s mid L1 w1 HL1 (by omega) (by omega) (by omega) (by omega) O1 (Lib.hid (KO.out.trans (hK.out.trans K1))) (by have := (hB.out.trans B1).size; omega) (Lib.hid P.out.1) (Lib.hid P.out.2.1) (Lib.hid SQ.out.1))) | (go_at_call 50; (with_reducible refine R1.out.mono ?_); rintro e2 w2 ⟨rfl, B2, K2, L2, r2, s2, O2⟩; have HL2 : Hid (L2.length = n ∧ ∀ x ∈ L2, x ∈ D) := Lib.hid ⟨by rw [r2.len]; exact HL1.out.1, fun x hx => HL1.out.2 _ (r2.perm.mem_iff.mp hx)⟩; have HR2 := Lib.hid r2; have HS2 := Lib.hid s2; have HP3 := Lib.hid (P.out.2.2.1.keep HR2.out (Or.inr (Nat.le_refl _))); have HP4 := Lib.hid (P.out.2.2.2.1.keep HR2.out (Or.inr (by omega))); have s3 : SrtC cf mid b L2 := (by rcases (show e ≤ mid ∨ b ≤ e by omega) with hh | hh; exact HP4.out.sub hh (Nat.le_refl _); exact HP3.out.sub (Nat.le_refl _) hh)))
                    go_end0
                    have HD := HC.out.done SA.out SB.out HRF.out HR2.out HS2.out (RngC.refl mid b L2) s3
                    exact ⟨rfl, ((hB.out.trans B1).trans B2), ((hK.out.trans K1).trans K2), L2, HD.1, HD.2, O2⟩
                · have qb2 : ¬ (s : Int) < mid := by omega
                  by_cases hC1 : mid < e
                  · have qc1 : (mid : Int) < e := by omega
                    by_cases hC2 : e < b
                    · have qc2 : (e : Int) < b := by omega
                      obtain ⟨L1, HRS, hrf⟩ := rot_facts (s := s) (m := m) (e := e) L0 (by omega) (by omega) (by rw [HL.out.1]; omega)
                      have HRF := Lib.hid hrf
                      have RO := Lib.hid (rotN (.func (.func kf) #[] #[q1, q2]) g cap base n s m e L0 L1 wr hn HL.out.1 (by omega) (by omega) (by omega) (Lib.hid HRS) hOW _ _ _ rfl rfl rfl)
                      clear hrf HRS
                      go_wp2_with (first | (go_at_call 51; (with_reducible refine RO.out.mono ?_); rintro e1 w1 ⟨rfl, B1, K1, O1⟩; have HL1 : Hid (L1.length = n ∧ ∀ x ∈ L1, x ∈ D) := Lib.hid ⟨by rw [HRF.out.rng.len]; exact HL.out.1, fun x hx => HL.out.2 _ (HRF.out.rng.perm.mem_iff.mp hx)⟩; have P := Lib.hid (HC.out.parts SA.out SB.out HRF.out); have SQ := Lib.hid (HC.out.seps HRF.out HP.out); have HR2 := Lib.hid (RngC.refl a mid L1); have HS2 : Hid (SrtC cf a mid L1) := Lib.hid (by rcases (show s ≤ a ∨ mid ≤ s by omega) with hh | hh; exact P.out.2.1.sub hh (Nat.le_refl _); exact P.out.1.sub (Nat.le_refl _) hh); have HP3 := Lib.hid (P.out.2.2.1.keep HR2.out (Or.inr (Nat.le_refl _))); have HP4 := Lib.hid (P.out.2.2.2.1.keep HR2.out (Or.inr (by omega))); have R2 := Lib.hid (IHH.out mid e b L1 w1 HL1 (by omega) (by omega) (by omega) (by omega) O1 (Lib.hid (KO.out.trans (hK.out.trans K1))) (by have := (hB.out.trans B1).size; omega) HP3 HP4 (Lib.hid (SQ.out.2.keep HR2.out (Or.inr (Nat.le_refl _)))))) | (go_at_call 50; (with_reducible refine R2.out.mono ?_); rintro e3 w3 ⟨rfl, B3, K3, L3, r3, s3, O3⟩))
                      go_end0
                      have HD := HC.out.done SA.out SB.out HRF.out HR2.out HS2.out r3 s3
                      exact ⟨rfl, ((hB.out.trans B1).trans B3), ((hK.out.trans K1).trans K3), L3, HD.1, HD.2, O3⟩
                    · have qc2 : ¬ (e : Int) < b := by omega
                      obtain ⟨L1, HRS, hrf⟩ := rot_facts (s := s) (m := m) (e := e) L0 (by omega) (by omega) (by rw [HL.out.1]; omega)
                      have HRF := Lib.hid hrf
                      have RO := Lib.hid (rotN (.func (.func kf) #[] #[q1, q2]) g cap base n s m e L0 L1 wr hn HL.out.1 (by omega) (by omega) (by omega) (Lib.hid HRS) hOW _ _ _ rfl rfl rfl)
                      clear hrf HRS
                      go_wp2_with (first | (go_at_call 51; (with_reducible refine RO.out.mono ?_); rintro e1 w1 ⟨rfl, B1, K1, O1⟩; have HL1 : Hid (L1.length = n ∧ ∀ x ∈ L1, x ∈ D) := Lib.hid ⟨by rw [HRF.out.rng.len]; exact HL.out.1, fun x hx => HL.out.2 _ (HRF.out.rng.perm.mem_iff.mp hx)⟩; have P := Lib.hid (HC.out.parts SA.out SB.out HRF.out); have SQ := Lib.hid (HC.out.seps HRF.out HP.out); have HR2 := Lib.hid (RngC.refl a mid L1); have HS2 : Hid (SrtC cf a mid L1) := Lib.hid (by rcases (show s ≤ a ∨ mid ≤ s by omega) with hh | hh; exact P.out.2.1.sub hh (Nat.le_refl _); exact P.out.1.sub (Nat.le_refl _) hh); have HP3 := Lib.hid (P.out.2.2.1.keep HR2.out (Or.inr (Nat.le_refl _))); have HP4 := Lib.hid (P.out.2.2.2.1.keep HR2.out (Or.inr (by omega))); have s3 : SrtC cf mid b L1 := (by rcases (show e ≤ mid ∨ b ≤ e by omega) with hh | hh; exact HP4.out.sub hh (Nat.le_refl _); exact HP3.out.sub (Nat.le_refl _) hh)))
                      go_end0
                      have HD := HC.out.done SA.out SB.out HRF.out HR2.out HS2.out (RngC.refl mid b L1) s3
                      exact ⟨rfl, (hB.out.trans B1), (hK.out.trans K1), L1, HD.1, HD.2, O1⟩
                  · have qc1 : ¬ (mid : Int) < e := by omega
                    obtain ⟨L1, HRS, hrf⟩ := rot_facts (s := s) (m := m) (e := e) L0 (by omega) (by omega) (by rw [HL.out.1]; omega)
                    have HRF := Lib.hid hrf
                    have RO := Lib.hid (rotN (.func (.func kf) #[] #[q1, q2]) g cap base n s m e L0 L1 wr hn HL.out.1 (by omega) (by omega) (by omega) (Lib.hid HRS) hOW _ _ _ rfl rfl rfl)
                    clear hrf HRS
                    go_wp2_with (first | (go_at_call 51; (with_reducible refine RO.out.mono ?_); rintro e1 w1 ⟨rfl, B1, K1, O1⟩; have HL1 : Hid (L1.length = n ∧ ∀ x ∈ L1, x ∈ D) := Lib.hid ⟨by rw [HRF.out.rng.len]; exact HL.out.1, fun x hx => HL.out.2 _ (HRF.out.rng.perm.mem_iff.mp hx)⟩; have P := Lib.hid (HC.out.parts SA.out SB.out HRF.out); have SQ := Lib.hid (HC.out.seps HRF.out HP.out); have HR2 := Lib.hid (RngC.refl a mid L1); have HS2 : Hid (SrtC cf a mid L1) := Lib.hid (by rcases (show s ≤ a ∨ mid ≤ s by omega) with hh | hh; exact P.out.2.1.sub hh (Nat.le_refl _); exact P.out.1.sub (Nat.le_refl _) hh); have HP3 := Lib.hid (P.out.2.2.1.keep HR2.out (Or.inr (Nat.le_refl _))); have HP4 := Lib.hid (P.out.2.2.2.1.keep HR2.out (Or.inr (by omega))); have s3 : SrtC cf mid b L1 := (by rcases (show e ≤ mid ∨ b ≤ e by omega) with hh | hh; exact HP4.out.sub hh (Nat.le_refl _); exact HP3.out.sub (Nat.le_refl _) hh)))
                    go_end0
                    have HD := HC.out.done SA.out SB.out HRF.out HR2.out HS2.out (RngC.refl mid b L1) s3
                    exact ⟨rfl, (hB.out.trans B1), (hK.out.trans K1), L1, HD.1, HD.2, O1⟩
              · have qb1 : ¬ (a : Int) < s := by omega
                by_cases hC1 : mid < e
                · have qc1 : (mid : Int) < e := by omega
                  by_cases hC2 : e < b
                  · have qc2 : (e : Int) < b := by omega
                    obtain ⟨L1, HRS, hrf⟩ := rot_facts (s := s) (m := m) (e := e) L0 (by omega) (by omega) (by rw [HL.out.1]; omega)
                    have HRF := Lib.hid hrf
                    have RO := Lib.hid (rotN (.func (.func kf) #[] #[q1, q2]) g cap base n s m e L0 L1 wr hn HL.out.1 (by omega) (by omega) (by omega) (Lib.hid HRS) hOW _ _ _ rfl rfl rfl)
                    clear hrf HRS
                    go_wp2_with (first | (go_at_call 51; (with_reducible refine RO.out.mono ?_); rintro e1 w1 ⟨rfl, B1, K1, O1⟩; have HL1 : Hid (L1.length = n ∧ ∀ x ∈ L1, x ∈ D) := Lib.hid ⟨by rw [HRF.out.rng.len]; exact HL.out.1, fun x hx => HL.out.2 _ (HRF.out.rng.perm.mem_iff.mp hx)⟩; have P := Lib.hid (HC.out.parts SA.out SB.out HRF.out); have SQ := Lib.hid (HC.out.seps HRF.out HP.out); have HR2 := Lib.hid (RngC.refl a mid L1); have HS2 : Hid (SrtC cf a mid L1) := Lib.hid (by rcases (show s ≤ a ∨ mid ≤ s by omega) with hh | hh; exact P.out.2.1.sub hh (Nat.le_refl _); exact P.out.1.sub (Nat.le_refl _) hh); have HP3 := Lib.hid (P.out.2.2.1.keep HR2.out (Or.inr (Nat.le_refl _))); have HP4 := Lib.hid (P.out.2.2.2.1.keep HR2.out (Or.inr (by omega))); have R2 := Lib.hid (IHH.out mid e b L1 w1 HL1 (by omega) (by omega) (by omega) (by omega) O1 (Lib.hid (KO.out.trans (hK.out.trans K1))) (by have := (hB.out.trans B1).size; omega) HP3 HP4 (Lib.hid (SQ.out.2.keep HR2.out (Or.inr (Nat.le_refl _)))))) | (go_at_call 50; (with_reducible refine R2.out.mono ?_); rintro e3 w3 ⟨rfl, B3, K3, L3, r3, s3, O3⟩))
                    go_end0
                    have HD := HC.out.done SA.out SB.out HRF.out HR2.out HS2.out r3 s3
                    exact ⟨rfl, ((hB.out.trans B1).trans B3), ((hK.out.trans K1).trans K3), L3, HD.1, HD.2, O3⟩
                  · have qc2 : ¬ (e : Int) < b := by omega
                    obtain ⟨L1, HRS, hrf⟩ := rot_facts (s := s) (m := m) (e := e) L0 (by omega) (by omega) (by rw [HL.out.1]; omega)
                    have HRF := Lib.hid hrf
                    have RO := Lib.hid (rotN (.func (.func kf) #[] #[q1, q2]) g cap base n s m e L0 L1 wr hn HL.out.1 (by omega) (by omega) (by omega) (Lib.hid HRS) hOW _ _ _ rfl rfl rfl)
                    clear hrf HRS
                    go_wp2_with (first | (go_at_call 51; (with_reducible refine RO.out.mono ?_); rintro e1 w1 ⟨rfl, B1, K1, O1⟩; have HL1 : Hid (L1.length = n ∧ ∀ x ∈ L1, x ∈ D) := Lib.hid ⟨by rw [HRF.out.rng.len]; exact HL.out.1, fun x hx => HL.out.2 _ (HRF.out.rng.perm.mem_iff.mp hx)⟩; have P := Lib.hid (HC.out.parts SA.out SB.out HRF.out); have SQ := Lib.hid (HC.out.seps HRF.out HP.out); have HR2 := Lib.hid (RngC.refl a mid L1); have HS2 : Hid (SrtC cf a mid L1) := Lib.hid (by rcases (show s ≤ a ∨ mid ≤ s by omega) with hh | hh; exact P.out.2.1.sub hh (Nat.le_refl _); exact P.out.1.sub (Nat.le_refl _) hh); have HP3 := Lib.hid (P.out.2.2.1.keep HR2.out (Or.inr (Nat.le_refl _))); have HP4 := Lib.hid (P.out.2.2.2.1.keep HR2.out (Or.inr (by omega))); have s3 : SrtC cf mid b L1 := (by rcases (show e ≤ mid ∨ b ≤ e by omega) with hh | hh; exact HP4.out.sub hh (Nat.le_refl _); exact HP3.out.sub (Nat.le_refl _) hh)))
                    go_end0
                    have HD := HC.out.done SA.out SB.out HRF.out HR2.out HS2.out (RngC.refl mid b L1) s3
                    exact ⟨rfl, (hB.out.trans B1), (hK.out.trans K1), L1, HD.1, HD.2, O1⟩
                · have qc1 : ¬ (mid : Int) < e := by omega
                  obtain ⟨L1, HRS, hrf⟩ := rot_facts (s := s) (m := m) (e := e) L0 (by omega) (by omega) (by rw [HL.out.1]; omega)
                  have HRF := Lib.hid hrf
                  have RO := Lib.hid (rotN (.func (.func kf) #[] #[q1, q2]) g cap base n s m e L0 L1 wr hn HL.out.1 (by omega) (by omega) (by omega) (Lib.hid HRS) hOW _ _ _ rfl rfl rfl)
                  clear hrf HRS
                  go_wp2_with (first | (go_at_call 51; (with_reducible refine RO.out.mono ?_); rintro e1 w1 ⟨rfl, B1, K1, O1⟩; have HL1 : Hid (L1.length = n ∧ ∀ x ∈ L1, x ∈ D) := Lib.hid ⟨by rw [HRF.out.rng.len]; exact HL.out.1, fun x hx => HL.out.2 _ (HRF.out.rng.perm.mem_iff.mp hx)⟩; have P := Lib.hid (HC.out.parts SA.out SB.out HRF.out); have SQ := Lib.hid (HC.out.seps HRF.out HP.out); have HR2 := Lib.hid (RngC.refl a mid L1); have HS2 : Hid (SrtC cf a mid L1) := Lib.hid (by rcases (show s ≤ a ∨ mid ≤ s by omega) with hh | hh; exact P.out.2.1.sub hh (Nat.le_refl _); exact P.out.1.sub (Nat.le_refl _) hh); have HP3 := Lib.hid (P.out.2.2.1.keep HR2.out (Or.inr (Nat.le_refl _))); have HP4 := Lib.hid (P.out.2.2.2.1.keep HR2.out (Or.inr (by omega))); have s3 : SrtC cf mid b L1 := (by rcases (show e ≤ mid ∨ b ≤ e by omega) with hh | hh; exact HP4.out.sub hh (Nat.le_refl _); exact HP3.out.sub (Nat.le_refl _) hh)))
                  go_end0
                  have HD := HC.out.done SA.out SB.out HRF.out HR2.out HS2.out (RngC.refl mid b L1) s3
                  exact ⟨rfl, (hB.out.trans B1), (hK.out.trans K1), L1, HD.1, HD.2, O1⟩
            · have qa2 : ¬ (m : Int) < e := by omega
              by_cases hB1 : a < s
              · have qb1 : (a : Int) < s := by omega
                by_cases hB2 : s < mid
                · have qb2 : (s : Int) < mid := by omega
                  by_cases hC1 : mid < e
                  · have qc1 : (mid : Int) < e := by omega
                    by_cases hC2 : e < b
                    · have qc2 : (e : Int) < b := by omega
                      have HRF := Lib.hid (RotF.same (s := s) (m := m) (e := e) L0 (by omega) (by omega) (by omega))
                      have P := Lib.hid (HC.out.parts SA.out SB.out HRF.out)
                      have SQ := Lib.hid (HC.out.seps HRF.out HP.out)
                      have R1 := Lib.hid (IHH.out a s mid L0 wr HL (by omega) (by omega) (by omega) (by omega) hOW (Lib.hid (KO.out.trans hK.out)) (by have := hB.out.size; omega) (Lib.hid P.out.1) (Lib.hid P.out.2.1) (Lib.hid SQ.out.1))
                      go_wp2_with (first | (go_at_call 50; (with_reducible refine R1.out.mono ?_); rintro e2 w2 ⟨rfl, B2, K2, L2, r2, s2, O2⟩; have HL2 : Hid (L2.length = n ∧ ∀ x ∈ L2, x ∈ D) := Lib.hid ⟨by rw [r2.len]; exact HL.out.1, fun x hx => HL.out.2 _ (r2.perm.mem_iff.mp hx)⟩; have HR2 := Lib.hid r2; have HS2 := Lib.hid s2; have HP3 := Lib.hid (P.out.2.2.1.keep HR2.out (Or.inr (Nat.le_refl _))); have HP4 := Lib.hid (P.out.2.2.2.1.keep HR2.out (Or.inr (by omega))); have R2 := Lib.hid (IHH.out mid e b L2 w2 HL2 (by omega) (by omega) (by omega) (by omega) O2 (Lib.hid (KO.out.trans (hK.out.trans K2))) (by have := (hB.out.trans B2).size; omega) HP3 HP4 (Lib.hid (SQ.out.2.keep HR2.out (Or.inr (Nat.le_refl _)))))) | (go_at_call 50; (with_reducible refine R2.out.mono ?_); rintro e3 w3 ⟨rfl, B3, K3, L3, r3, s3, O3⟩))
                      go_end0
                      have HD := HC.out.done SA.out SB.out HRF.out HR2.out HS2.out r3 s3
                      exact ⟨rfl, ((hB.out.trans B2).trans B3), ((hK.out.trans K2).trans K3), L3, HD.1, HD.2, O3⟩
                    · have qc2 : ¬ (e : Int) < b := by omega
                      have HRF := Lib.hid (RotF.same (s := s) (m := m) (e := e) L0 (by omega) (by omega) (by omega))
                      have P := Lib.hid (HC.out.parts SA.out SB.out HRF.out)
                      have SQ := Lib.hid (HC.out.seps HRF.out HP.out)
                      have R1 := Lib.hid (IHH.out a s mid L0 wr HL (by omega) (by omega) (by omega) (by omega) hOW (Lib.hid (KO.out.trans hK.out)) (by have := hB.out.size; omega) (Lib.hid P.out.1) (Lib.hid P.out.2.1) (Lib.hid SQ.out.1))
                      go_wp2_with (first | (go_at_call 50; (with_reducible refine R1.out.mono ?_); rintro e2 w2 ⟨rfl, B2, K2, L2, r2, s2, O2⟩; have HL2 : Hid (L2.length = n ∧ ∀ x ∈ L2, x ∈ D) := Lib.hid ⟨by rw [r2.len]; exact HL.out.1, fun x hx => HL.out.2 _ (r2.perm.mem_iff.mp hx)⟩; have HR2 := Lib.hid r2; have HS2 := Lib.hid s2; have HP3 := Lib.hid (P.out.2.2.1.keep HR2.out (Or.inr (Nat.le_refl _))); have HP4 := Lib.hid (P.out.2.2.2.1.keep HR2.out (Or.inr (by omega))); have s3 : SrtC cf mid b L2 := (by rcases (show e ≤ mid ∨ b ≤ e by omega) with hh | hh; exact HP4.out.sub hh (Nat.le_refl _); exact HP3.out.sub (Nat.le_refl _) hh)))
                      go_end0
                      have HD := HC.out.done SA.out SB.out HRF.out HR2.out HS2.out (RngC.refl mid b L2) s3
                      exact ⟨rfl, (hB.out.trans B2), (hK.out.trans K2), L2, HD.1, HD.2, O2⟩
                  · have qc1 : ¬ (mid : Int) < e := by omega
                    have HRF := Lib.hid (RotF.same (s := s) (m := m) (e := e) L0 (by omega) (by omega) (by omega))
                    have P := Lib.hid (HC.out.parts SA.out SB.out HRF.out)
                    have SQ := Lib.hid (HC.out.seps HRF.out HP.out)
                    have R1 := Lib.hid (IHH.out a s mid L0 wr HL (by omega) (by omega) (by omega) (by omega) hOW (Lib.hid (KO.out.trans hK.out)) (by have := hB.out.size; omega) (Lib.hid P.out.1) (Lib.hid P.out.2.1) (Lib.hid SQ.out.1))
                    go_wp2_with (first | (go_at_call 50; (with_reducible refine R1.out.mono ?_); rintro e2 w2 ⟨rfl, B2, K2, L2, r2, s2, O2⟩; have HL2 : Hid (L2.length = n ∧ ∀ x ∈ L2, x ∈ D) := Lib.hid ⟨by rw [r2.len]; exact HL.out.1, fun x hx => HL.out.2 _ (r2.perm.mem_iff.mp hx)⟩; have HR2 := Lib.hid r2; have HS2 := Lib.hid s2; have HP3 := Lib.hid (P.out.2.2.1.keep HR2.out (Or.inr (Nat.le_refl _))); have HP4 := Lib.hid (P.out.2.2.2.1.keep HR2.out (Or.inr (by omega))); have s3 : SrtC cf mid b L2 := (by rcases (show e ≤ mid ∨ b ≤ e by omega) with hh | hh; exact HP4.out.sub hh (Nat.le_refl _); exact HP3.out.sub (Nat.le_refl _) hh)))
                    go_end0
                    have HD := HC.out.done SA.out SB.out HRF.out HR2.out HS2.out (RngC.refl mid b L2) s3
                    exact ⟨rfl, (hB.out.trans B2), (hK.out.trans K2), L2, HD.1, HD.2, O2⟩
                · have qb2 : ¬ (s : Int) < mid := by omega
                  by_cases hC1 : mid < e
                  · have qc1 : (mid : Int) < e := by omega
                    by_cases hC2 : e < b
                    · have qc2 : (e : Int) < b := by omega
                      have HRF := Lib.hid (RotF.same (s := s) (m := m) (e := e) L0 (by omega) (by omega) (by omega))
                      have P := Lib.hid (HC.out.parts SA.out SB.out HRF.out)
                      have SQ := Lib.hid (HC.out.seps HRF.out HP.out)
                      have HR2 := Lib.hid (RngC.refl a mid L0)
                      have HS2 : Hid (SrtC cf a mid L0) := Lib.hid (by rcases (show s ≤ a ∨ mid ≤ s by omega) with hh | hh; exact P.out.2.1.sub hh (Nat.le_refl _); exact P.out.1.sub (Nat.le_refl _) hh)
                      have HP3 := Lib.hid (P.out.2.2.1.keep HR2.out (Or.inr (Nat.le_refl _)))
                      have HP4 := Lib.hid (P.out.2.2.2.1.keep HR2.out (Or.inr (by omega)))
                      have R2 := Lib.hid (IHH.out mid e b L0 wr HL (by omega) (by omega) (by omega) (by omega) hOW (Lib.hid (KO.out.trans hK.out)) (by have := hB.out.size; omega) HP3 HP4 (Lib.hid (SQ.out.2.keep HR2.out (Or.inr (Nat.le_refl _)))))
                      go_wp2_with (first | (go_at_call 50; (with_reducible refine R2.out.mono ?_); rintro e3 w3 ⟨rfl, B3, K3, L3, r3, s3, O3⟩))
                      go_end0
                      have HD := HC.out.done SA.out SB.out HRF.out HR2.out HS2.out r3 s3
                      exact ⟨rfl, (hB.out.trans B3), (hK.out.trans K3), L3, HD.1, HD.2, O3⟩
                    · have qc2 : ¬ (e : Int) < b := by omega
                      have HRF := Lib.hid (RotF.same (s := s) (m := m) (e := e) L0 (by omega) (by omega) (by omega))
                      have P := Lib.hid (HC.out.parts SA.out SB.out HRF.out)
                      have SQ := Lib.hid (HC.out.seps HRF.out HP.out)
                      have HR2 := Lib.hid (RngC.refl a mid L0)
                      have HS2 : Hid (SrtC cf a mid L0) := Lib.hid (by rcases (show s ≤ a ∨ mid ≤ s by omega) with hh | hh; exact P.out.2.1.sub hh (Nat.le_refl _); exact P.out.1.sub (Nat.le_refl _) hh)
                      have HP3 := Lib.hid (P.out.2.2.1.keep HR2.out (Or.inr (Nat.le_refl _)))
                      have HP4 := Lib.hid (P.out.2.2.2.1.keep HR2.out (Or.inr (by omega)))
                      have s3 : SrtC cf mid b L0 := (by rcases (show e ≤ mid ∨ b ≤ e by omega) with hh | hh; exact HP4.out.sub hh (Nat.le_refl _); exact HP3.out.sub (Nat.le_refl _) hh)
                      go_wp2_with fail
                      go_end0
                      have HD := HC.out.done SA.out SB.out HRF.out HR2.out HS2.out (RngC.refl mid b L0) s3
                      exact ⟨rfl, hB.out, hK.out, L0, HD.1, HD.2, hOW⟩
                  · have qc1 : ¬ (mid : Int) < e := by omega
                    have HRF := Lib.hid (RotF.same (s := s) (m := m) (e := e) L0 (by omega) (by omega) (by omega))
                    have P := Lib.hid (HC.out.parts SA.out SB.out HRF.out)
                    have SQ := Lib.hid (HC.out.seps HRF.out HP.out)
                    have HR2 := Lib.hid (RngC.refl a mid L0)
                    have HS2 : Hid (SrtC cf a mid L0) := Lib.hid (by rcases (show s ≤ a ∨ mid ≤ s by omega) with hh | hh; exact P.out.2.1.sub hh (Nat.le_refl _); exact P.out.1.sub (Nat.le_refl _) hh)
                    have HP3 := Lib.hid (P.out.2.2.1.keep HR2.out (Or.inr (Nat.le_refl _)))
                    have HP4 := Lib.hid (P.out.2.2.2.1.keep HR2.out (Or.inr (by omega)))
                    have s3 : SrtC cf mid b L0 := (by rcases (show e ≤ mid ∨ b ≤ e by omega) with hh | hh; exact HP4.out.sub hh (Nat.le_refl _); exact HP3.out.sub (Nat.le_refl _) hh)
                    go_wp2_with fail
                    go_end0
                    have HD := HC.out.done SA.out SB.out HRF.out HR2.out HS2.out (RngC.refl mid b L0) s3
                    exact ⟨rfl, hB.out, hK.out, L0, HD.1, HD.2, hOW⟩
              · have qb1 : ¬ (a : Int) < s := by omega
                by_cases hC1 : mid < e
                · have qc1 : (mid : Int) < e := by omega
                  by_cases hC2 : e < b
                  · have qc2 : (e : Int) < b := by omega
                    have HRF := Lib.hid (RotF.same (s := s) (m := m) (e := e) L0 (by omega) (by omega) (by omega))
                    have P := Lib.hid (HC.out.parts SA.out SB.out HRF.out)
                    have SQ := Lib.hid (HC.out.seps HRF.out HP.out)
                    have HR2 := Lib.hid (RngC.refl a mid L0)
                    have HS2 : Hid (SrtC cf a mid L0) := Lib.hid (by rcases (show s ≤ a ∨ mid ≤ s by omega) with hh | hh; exact P.out.2.1.sub hh (Nat.le_refl _); exact P.out.1.sub (Nat.le_refl _) hh)
                    have HP3 := Lib.hid (P.out.2.2.1.keep HR2.out (Or.inr (Nat.le_refl _)))
                    have HP4 := Lib.hid (P.out.2.2.2.1.keep HR2.out (Or.inr (by omega)))
                    have R2 := Lib.hid (IHH.out mid e b L0 wr HL (by omega) (by omega) (by omega) (by omega) hOW (Lib.hid (KO.out.trans hK.out)) (by have := hB.out.size; omega) HP3 HP4 (Lib.hid (SQ.out.2.keep HR2.out (Or.inr (Nat.le_refl _)))))
                    go_wp2_with (first | (go_at_call 50; (with_reducible refine R2.out.mono ?_); rintro e3 w3 ⟨rfl, B3, K3, L3, r3, s3, O3⟩))
                    go_end0
                    have HD := HC.out.done SA.out SB.out HRF.out HR2.out HS2.out r3 s3
                    exact ⟨rfl, (hB.out.trans B3), (hK.out.trans K3), L3, HD.1, HD.2, O3⟩
                  · have qc2 : ¬ (e : Int) < b := by omega
                    have HRF := Lib.hid (RotF.same (s := s) (m := m) (e := e) L0 (by omega) (by omega) (by omega))
                    have P := Lib.hid (HC.out.parts SA.out SB.out HRF.out)
                    have SQ := Lib.hid (HC.out.seps HRF.out HP.out)
                    have HR2 := Lib.hid (RngC.refl a mid L0)
                    have HS2 : Hid (SrtC cf a mid L0) := Lib.hid (by rcases (show s ≤ a ∨ mid ≤ s by omega) with hh | hh; exact P.out.2.1.sub hh (Nat.le_refl _); exact P.out.1.sub (Nat.le_refl _) hh)
                    have HP3 := Lib.hid (P.out.2.2.1.keep HR2.out (Or.inr (Nat.le_refl _)))
                    have HP4 := Lib.hid (P.out.2.2.2.1.keep HR2.out (Or.inr (by omega)))
                    have s3 : SrtC cf mid b L0 := (by rcases (show e ≤ mid ∨ b ≤ e by omega) with hh | hh; exact HP4.out.sub hh (Nat.le_refl _); exact HP3.out.sub (Nat.le_refl _) hh)
                    go_wp2_with fail
                    go_end0
                    have HD := HC.out.done SA.out SB.out HRF.out HR2.out HS2.out (RngC.refl mid b L0) s3
                    exact ⟨rfl, hB.out, hK.out, L0, HD.1, HD.2, hOW⟩
                · have qc1 : ¬ (mid : Int) < e := by omega
                  have HRF := Lib.hid (RotF.same (s := s) (m := m) (e := e) L0 (by omega) (by omega) (by omega))
                  have P := Lib.hid (HC.out.parts SA.out SB.out HRF.out)
                  have SQ := Lib.hid (HC.out.seps HRF.out HP.out)
                  have HR2 := Lib.hid (RngC.refl a mid L0)
                  have HS2 : Hid (SrtC cf a mid L0) := Lib.hid (by rcases (show s ≤ a ∨ mid ≤ s by omega) with hh | hh; exact P.out.2.1.sub hh (Nat.le_refl _); exact P.out.1.sub (Nat.le_refl _) hh)
                  have HP3 := Lib.hid (P.out.2.2.1.keep HR2.out (Or.inr (Nat.le_refl _)))
                  have HP4 := Lib.hid (P.out.2.2.2.1.keep HR2.out (Or.inr (by omega)))
                  have s3 : SrtC cf mid b L0 := (by rcases (show e ≤ mid ∨ b ≤ e by omega) with hh | hh; exact HP4.out.sub hh (Nat.le_refl _); exact HP3.out.sub (Nat.le_refl _) hh)
                  go_wp2_with fail
                  go_end0
                  have HD := HC.out.done SA.out SB.out HRF.out HR2.out HS2.out (RngC.refl mid b L0) s3
                  exact ⟨rfl, hB.out, hK.out, L0, HD.1, HD.2, hOW⟩
          · have qa1 : ¬ (s : Int) < m := by omega
            by_cases hB1 : a < s
            · have qb1 : (a : Int) < s := by omega
              by_cases hB2 : s < mid
              · have qb2 : (s : Int) < mid := by omega
                by_cases hC1 : mid < e
                · have qc1 : (mid : Int) < e := by omega
                  by_cases hC2 : e < b
                  · have qc2 : (e : Int) < b := by omega
                    have HRF := Lib.hid (RotF.same (s := s) (m := m) (e := e) L0 (by omega) (by omega) (by omega))
                    have P := Lib.hid (HC.out.parts SA.out SB.out HRF.out)
                    have SQ := Lib.hid (HC.out.seps HRF.out HP.out)
                    have R1 := Lib.hid (IHH.out a s mid L0 wr HL (by omega) (by omega) (by omega) (by omega) hOW (Lib.hid (KO.out.trans hK.out)) (by have := hB.out.size; omega) (Lib.hid P.out.1) (Lib.hid P.out.2.1) (Lib.hid SQ.out.1))
                    go_wp2_with (first | (go_at_call 50; (with_reducible refine R1.out.mono ?_); rintro e2 w2 ⟨rfl, B2, K2, L2, r2, s2, O2⟩; have HL2 : Hid (L2.length = n ∧ ∀ x ∈ L2, x ∈ D) := Lib.hid ⟨by rw [r2.len]; exact HL.out.1, fun x hx => HL.out.2 _ (r2.perm.mem_iff.mp hx)⟩; have HR2 := Lib.hid r2; have HS2 := Lib.hid s2; have HP3 := Lib.hid (P.out.2.2.1.keep HR2.out (Or.inr (Nat.le_refl _))); have HP4 := Lib.hid (P.out.2.2.2.1.keep HR2.out (Or.inr (by omega))); have R2 := Lib.hid (IHH.out mid e b L2 w2 HL2 (by omega) (by omega) (by omega) (by omega) O2 (Lib.hid (KO.out.trans (hK.out.trans K2))) (by have := (hB.out.trans B2).size; omega) HP3 HP4 (Lib.hid (SQ.out.2.keep HR2.out (Or.inr (Nat.le_refl _)))))) | (go_at_call 50; (with_reducible refine R2.out.mono ?_); rintro e3 w3 ⟨rfl, B3, K3, L3, r3, s3, O3⟩))
                    go_end0
                    have HD := HC.out.done SA.out SB.out HRF.out HR2.out HS2.out r3 s3
                    exact ⟨rfl, ((hB.out.trans B2).trans B3), ((hK.out.trans K2).trans K3), L3, HD.1, HD.2, O3⟩
                  · have qc2 : ¬ (e : Int) < b := by omega
                    have HRF := Lib.hid (RotF.same (s := s) (m := m) (e := e) L0 (by omega) (by omega) (by omega))
                    have P := Lib.hid (HC.out.parts SA.out SB.out HRF.out)
                    have SQ := Lib.hid (HC.out.seps HRF.out HP.out)
                    have R1 := Lib.hid (IHH.out a s mid L0 wr HL (by omega) (by omega) (by omega) (by omega) hOW (Lib.hid (KO.out.trans hK.out)) (by have := hB.out.size; omega) (Lib.hid P.out.1) (Lib.hid P.out.2.1) (Lib.hid SQ.out.1))
                    go_wp2_with (first | (go_at_call 50; (with_reducible refine R1.out.mono ?_); rintro e2 w2 ⟨rfl, B2, K2, L2, r2, s2, O2⟩; have HL2 : Hid (L2.length = n ∧ ∀ x ∈ L2, x ∈ D) := Lib.hid ⟨by rw [r2.len]; exact HL.out.1, fun x hx => HL.out.2 _ (r2.perm.mem_iff.mp hx)⟩; have HR2 := Lib.hid r2; have HS2 := Lib.hid s2; have HP3 := Lib.hid (P.out.2.2.1.keep HR2.out (Or.inr (Nat.le_refl _))); have HP4 := Lib.hid (P.out.2.2.2.1.keep HR2.out (Or.inr (by omega))); have s3 : SrtC cf mid b L2 := (by rcases (show e ≤ mid ∨ b ≤ e by omega) with hh | hh; exact HP4.out.sub hh (Nat.le_refl _); exact HP3.out.sub (Nat.le_refl _) hh)))
                    go_end0
                    have HD := HC.out.done SA.out SB.out HRF.out HR2.out HS2.out (RngC.refl mid b L2) s3
                    exact ⟨rfl, (hB.out.trans B2), (hK.out.trans K2), L2, HD.1, HD.2, O2⟩
                · have qc1 : ¬ (mid : Int) < e := by omega
                  have HRF := Lib.hid (RotF.same (s := s) (m := m) (e := e) L0 (by omega) (by omega) (by omega))
                  have P := Lib.hid (HC.out.parts SA.out SB.out HRF.out)
                  have SQ := Lib.hid (HC.out.seps HRF.out HP.out)
                  have R1 := Lib.hid (IHH.out a s mid L0 wr HL (by omega) (by omega) (by omega) (by omega) hOW (Lib.hid (KO.out.trans hK.out)) (by have := hB.out.size; omega) (Lib.hid P.out.1) (Lib.hid P.out.2.1) (Lib.hid SQ.out.1))
                  go_wp2_with (first | (go_at_call 50; (with_reducible refine R1.out.mono ?_); rintro e2 w2 ⟨rfl, B2, K2, L2, r2, s2, O2⟩; have HL2 : Hid (L2.length = n ∧ ∀ x ∈ L2, x ∈ D) := Lib.hid ⟨by rw [r2.len]; exact HL.out.1, fun x hx => HL.out.2 _ (r2.perm.mem_iff.mp hx)⟩; have HR2 := Lib.hid r2; have HS2 := Lib.hid s2; have HP3 := Lib.hid (P.out.2.2.1.keep HR2.out (Or.inr (Nat.le_refl _))); have HP4 := Lib.hid (P.out.2.2.2.1.keep HR2.out (Or.inr (by omega))); have s3 : SrtC cf mid b L2 := (by rcases (show e ≤ mid ∨ b ≤ e by omega) with hh | hh; exact HP4.out.sub hh (Nat.le_refl _); exact HP3.out.sub (Nat.le_refl _) hh)))
                  go_end0
                  have HD := HC.out.done SA.out SB.out HRF.out HR2.out HS2.out (RngC.refl mid b L2) s3
                  exact ⟨rfl, (hB.out.trans B2), (hK.out.trans K2), L2, HD.1, HD.2, O2⟩
              · have qb2 : ¬ (s : Int) < mid := by omega
                by_cases hC1 : mid < e
                · have qc1 : (mid : Int) < e := by omega
                  by_cases hC2 : e < b
                  · have qc2 : (e : Int) < b := by omega
                    have HRF := Lib.hid (RotF.same (s := s) (m := m) (e := e) L0 (by omega) (by omega) (by omega))
                    have P := Lib.hid (HC.out.parts SA.out SB.out HRF.out)
                    have SQ := Lib.hid (HC.out.seps HRF.out HP.out)
                    have HR2 := Lib.hid (RngC.refl a mid L0)
                    have HS2 : Hid (SrtC cf a mid L0) := Lib.hid (by rcases (show s ≤ a ∨ mid ≤ s by omega) with hh | hh; exact P.out.2.1.sub hh (Nat.le_refl _); exact P.out.1.sub (Nat.le_refl _) hh)
                    have HP3 := Lib.hid (P.out.2.2.1.keep HR2.out (Or.inr (Nat.le_refl _)))
                    have HP4 := Lib.hid (P.out.2.2.2.1.keep HR2.out (Or.inr (by omega)))
                    have R2 := Lib.hid (IHH.out mid e b L0 wr HL (by omega) (by omega) (by omega) (by omega) hOW (Lib.hid (KO.out.trans hK.out)) (by have := hB.out.size; omega) HP3 HP4 (Lib.hid (SQ.out.2.keep HR2.out (Or.inr (Nat.le_refl _)))))
                    go_wp2_with (first | (go_at_call 50; (with_reducible refine R2.out.mono ?_); rintro e3 w3 ⟨rfl, B3, K3, L3, r3, s3, O3⟩))
                    go_end0
                    have HD := HC.out.done SA.out SB.out HRF.out HR2.out HS2.out r3 s3
                    exact ⟨rfl, (hB.out.trans B3), (hK.out.trans K3), L3, HD.1, HD.2, O3⟩
                  · have qc2 : ¬ (e : Int) < b := by omega
                    have HRF := Lib.hid (RotF.same (s := s) (m := m) (e := e) L0 (by omega) (by omega) (by omega))
                    have P := Lib.hid (HC.out.parts SA.out SB.out HRF.out)
                    have SQ := Lib.hid (HC.out.seps HRF.out HP.out)
                    have HR2 := Lib.hid (RngC.refl a mid L0)
                    have HS2 : Hid (SrtC cf a mid L0) := Lib.hid (by rcases (show s ≤ a ∨ mid ≤ s by omega) with hh | hh; exact P.out.2.1.sub hh (Nat.le_refl _); exact P.out.1.sub (Nat.le_refl _) hh)
                    have HP3 := Lib.hid (P.out.2.2.1.keep HR2.out (Or.inr (Nat.le_refl _)))
                    have HP4 := Lib.hid (P.out.2.2.2.1.keep HR2.out (Or.inr (by omega)))
                    have s3 : SrtC cf mid b L0 := (by rcases (show e ≤ mid ∨ b ≤ e by omega) with hh | hh; exact HP4.out.sub hh (Nat.le_refl _); exact HP3.out.sub (Nat.le_refl _) hh)
                    go_wp2_with fail
                    go_end0
                    have HD := HC.out.done SA.out SB.out HRF.out HR2.out HS2.out (RngC.refl mid b L0) s3
                    exact ⟨rfl, hB.out, hK.out, L0, HD.1, HD.2, hOW⟩
                · have qc1 : ¬ (mid : Int) < e := by omega
                  have HRF := Lib.hid (RotF.same (s := s) (m := m) (e := e) L0 (by omega) (by omega) (by omega))
                  have P := Lib.hid (HC.out.parts SA.out SB.out HRF.out)
                  have SQ := Lib.hid (HC.out.seps HRF.out HP.out)
                  have HR2 := Lib.hid (RngC.refl a mid L0)
                  have HS2 : Hid (SrtC cf a mid L0) := Lib.hid (by rcases (show s ≤ a ∨ mid ≤ s by omega) with hh | hh; exact P.out.2.1.sub hh (Nat.le_refl _); exact P.out.1.sub (Nat.le_refl _) hh)
                  have HP3 := Lib.hid (P.out.2.2.1.keep HR2.out (Or.inr (Nat.le_refl _)))
                  have HP4 := Lib.hid (P.out.2.2.2.1.keep HR2.out (Or.inr (by omega)))
                  have s3 : SrtC cf mid b L0 := (by rcases (show e ≤ mid ∨ b ≤ e by omega) with hh | hh; exact HP4.out.sub hh (Nat.le_refl _); exact HP3.out.sub (Nat.le_refl _) hh)
                  go_wp2_with fail
                  go_end0
                  have HD := HC.out.done SA.out SB.out HRF.out HR2.out HS2.out (RngC.refl mid b L0) s3
                  exact ⟨rfl, hB.out, hK.out, L0, HD.1, HD.2, hOW⟩
            · have qb1 : ¬ (a : Int) < s := by omega
              by_cases hC1 : mid < e
              · have qc1 : (mid : Int) < e := by omega
                by_cases hC2 : e < b
                · have qc2 : (e : Int) < b := by omega
                  have HRF := Lib.hid (RotF.same (s := s) (m := m) (e := e) L0 (by omega) (by omega) (by omega))
                  have P := Lib.hid (HC.out.parts SA.out SB.out HRF.out)
                  have SQ := Lib.hid (HC.out.seps HRF.out HP.out)
                  have HR2 := Lib.hid (RngC.refl a mid L0)
                  have HS2 : Hid (SrtC cf a mid L0) := Lib.hid (by rcases (show s ≤ a ∨ mid ≤ s by omega) with hh | hh; exact P.out.2.1.sub hh (Nat.le_refl _); exact P.out.1.sub (Nat.le_refl _) hh)
                  have HP3 := Lib.hid (P.out.2.2.1.keep HR2.out (Or.inr (Nat.le_refl _)))
                  have HP4 := Lib.hid (P.out.2.2.2.1.keep HR2.out (Or.inr (by omega)))
                  have R2 := Lib.hid (IHH.out mid e b L0 wr HL (by omega) (by omega) (by omega) (by omega) hOW (Lib.hid (KO.out.trans hK.out)) (by have := hB.out.size; omega) HP3 HP4 (Lib.hid (SQ.out.2.keep HR2.out (Or.inr (Nat.le_refl _)))))
                  go_wp2_with (first | (go_at_call 50; (with_reducible refine R2.out.mono ?_); rintro e3 w3 ⟨rfl, B3, K3, L3, r3, s3, O3⟩))
                  go_end0
                  have HD := HC.out.done SA.out SB.out HRF.out HR2.out HS2.out r3 s3
                  exact ⟨rfl, (hB.out.trans B3), (hK.out.trans K3), L3, HD.1, HD.2, O3⟩
                · have qc2 : ¬ (e : Int) < b := by omega
                  have HRF := Lib.hid (RotF.same (s := s) (m := m) (e := e) L0 (by omega) (by omega) (by omega))
                  have P := Lib.hid (HC.out.parts SA.out SB.out HRF.out)
                  have SQ := Lib.hid (HC.out.seps HRF.out HP.out)
                  have HR2 := Lib.hid (RngC.refl a mid L0)
                  have HS2 : Hid (SrtC cf a mid L0) := Lib.hid (by rcases (show s ≤ a ∨ mid ≤ s by omega) with hh | hh; exact P.out.2.1.sub hh (Nat.le_refl _); exact P.out.1.sub (Nat.le_refl _) hh)
                  have HP3 := Lib.hid (P.out.2.2.1.keep HR2.out (Or.inr (Nat.le_refl _)))
                  have HP4 := Lib.hid (P.out.2.2.2.1.keep HR2.out (Or.inr (by omega)))
                  have s3 : SrtC cf mid b L0 := (by rcases (show e ≤ mid ∨ b ≤ e by omega) with hh | hh; exact HP4.out.sub hh (Nat.le_refl _); exact HP3.out.sub (Nat.le_refl _) hh)
                  go_wp2_with fail
                  go_end0
                  have HD := HC.out.done SA.out SB.out HRF.out HR2.out HS2.out (RngC.refl mid b L0) s3
                  exact ⟨rfl, hB.out, hK.out, L0, HD.1, HD.2, hOW⟩
              · have qc1 : ¬ (mid : Int) < e := by omega
                have HRF := Lib.hid (RotF.same (s := s) (m := m) (e := e) L0 (by omega) (by omega) (by omega))
                have P := Lib.hid (HC.out.parts SA.out SB.out HRF.out)
                have SQ := Lib.hid (HC.out.seps HRF.out HP.out)
                have HR2 := Lib.hid (RngC.refl a mid L0)
                have HS2 : Hid (SrtC cf a mid L0) := Lib.hid (by rcases (show s ≤ a ∨ mid ≤ s by omega) with hh | hh; exact P.out.2.1.sub hh (Nat.le_refl _); exact P.out.1.sub (Nat.le_refl _) hh)
                have HP3 := Lib.hid (P.out.2.2.1.keep HR2.out (Or.inr (Nat.le_refl _)))
                have HP4 := Lib.hid (P.out.2.2.2.1.keep HR2.out (Or.inr (by omega)))
                have s3 : SrtC cf mid b L0 := (by rcases (show e ≤ mid ∨ b ≤ e by omega) with hh | hh; exact HP4.out.sub hh (Nat.le_refl _); exact HP3.out.sub (Nat.le_refl _) hh)
                go_wp2_with fail
                go_end0
                have HD := HC.out.done SA.out SB.out HRF.out HR2.out HS2.out (RngC.refl mid b L0) s3
                exact ⟨rfl, hB.out, hK.out, L0, HD.1, HD.2, hOW⟩
    · have r1 : ¬ (mid : Int) < m := by omega
      replace hmm : m ≤ mid := by omega
      obtain ⟨lo, hi, hlo⟩ : ∃ lo hi : Nat, lo = a ∧ hi = m := ⟨a, m, rfl, rfl⟩
      have HLO := Lib.hid hlo
      have z1 : lo ≤ hi := by omega
      have z2 : hi ≤ m := by omega
      have z3 : a ≤ lo := by omega
      clear hlo
      go_wp2_with fail
      try rw [hpv]
      clear hpv
      go_loopw [20, 21] (fun iv jv wr => ∃ (i j : Nat), iv = .int .i64 (i : Int) ∧ jv = .int .i64 (j : Int) ∧ i ≤ j ∧ lo ≤ i ∧ j ≤ hi ∧ Hid (BisP cf L0 pp lo hi i j) ∧ Hid (wr.ownsRow base 3 1 (.slice (some ⟨g, 0, none⟩) n cap) n (rowE L0)) ∧ Hid (Below base w wr) ∧ Hid (KG g w wr)) (fun iv jv _ => (intOf jv).toNat - (intOf iv).toNat)
      case atStart => exact ⟨lo, hi, (by have := HLO.out; go_num), (by have := HLO.out; go_num), by omega, by omega, by omega, Lib.hid ⟨by omega, by omega, by omega, fun h k1 k2 => absurd k1 (by omega), fun h k1 k2 => absurd k1 (by omega)⟩, hO, Lib.hid (Below.refl _ _), Lib.hid (KG.refl _ _)⟩
      case round =>
        clear hO
        obtain ⟨i, j, rfl, rfl, hij, hai, hjb, HB, hOW, hB, hK⟩ := hrel
        by_cases hlt : i < j
        · have i1 : (i : Int) < j := by omega
          go_wp2_with fail
          obtain ⟨h, hh⟩ : ∃ h, h = (i + j) / 2 := ⟨_, rfl⟩
          have hh1 : i ≤ h := by omega
          have hh2 : h < j := by omega
          have hv : ((i : Int) + (j : Int)) / 2 = (h : Int) := by omega
          try rw [hv]
          clear hv hh
          obtain ⟨pc, hpc⟩ : ∃ pc, pp - h = pc := ⟨_, rfl⟩
          have HPC := Lib.hid hpc
          have wpc : (pp : Int) - (h : Int) = (pc : Int) := by have := HPP.out; omega
          have wkp : IntKind.i64.wrap (pc : Int) = (pc : Int) := by rw [IntKind.wrap_i64]; have := HPP.out; omega
          have hpcn : pc < n := by have := HPP.out; have := HLO.out; omega
          clear hpc
          have hpL : pc < L0.length := by rw [HL.out.1]; omega
          have hqL : h < L0.length := by rw [HL.out.1]; omega
          have v0 := rowE_get L0 pc hpL
          have u0 := rowE_get L0 h hqL
          have HX : Hid (L0.getD pc e50 ∈ D) := Lib.hid (HL.out.2 _ (getD_mem5 hpL))
          have HY : Hid (L0.getD h e50 ∈ D) := Lib.hid (HL.out.2 _ (getD_mem5 hqL))
          have HLT : Hid (L0.getD h e50 < L0.getD pc e50) := Lib.hid (HP.out h pc (by omega) (by omega) (by have := HLO.out; have := HPP.out; have := HPC.out; omega) (by have := HLO.out; have := HPP.out; have := HPC.out; omega))
          have c0 := (hOW.out.cellAt pc (by omega)).trans v0
          have d0 := (hOW.out.cellAt h (by omega)).trans u0
          obtain ⟨x, hx⟩ : ∃ x, L0.getD pc e50 = x := ⟨_, rfl⟩
          obtain ⟨y, hy⟩ : ∃ y, L0.getD h e50 = y := ⟨_, rfl⟩
          have HX0 := Lib.hid hx
          have HY0 := Lib.hid hy
          rw [hx] at c0 HX HLT
          rw [hy] at d0 HY HLT
          have j2 : (pc : Int) < n := by have := HL.out.1; omega
          have j3 : (h : Int) < n := by have := HL.out.1; omega
          have j4 : (0 : Int) ≤ pc := by omega
          have j5 : (0 : Int) ≤ h := by omega
          have HKW := Lib.hid (KO.out.trans hK.out)
          have hzr : wr.drew.cell? ⟨g, pc, none⟩ = some (.int .i64 x) ∧ wr.drew.cell? ⟨g, h, none⟩ = some (.int .i64 y) ∧ Below wr.heap.size wr wr.drew := ⟨c0, d0, (Below.refl _ _).drew⟩
          have HS : Hid (∀ u u' : World, (u.cell? ⟨g, pc, none⟩ = some (.int .i64 x) ∧ u.cell? ⟨g, h, none⟩ = some (.int .i64 y) ∧ Below wr.heap.size wr u) → Below u.heap.size u u' → (u'.cell? ⟨g, pc, none⟩ = some (.int .i64 x) ∧ u'.cell? ⟨g, h, none⟩ = some (.int .i64 y) ∧ Below wr.heap.size wr u')) := Lib.hid (fun u u' h hb => ⟨Rg.keep hb (World.block_lt_of_cell? _ _ h.1) h.1, Rg.keep hb (World.block_lt_of_cell? _ _ h.2.1) h.2.1, h.2.2.trans (hb.mono h.2.2.size)⟩)
          clear v0 u0 c0 d0
          by_cases hneg : cf x y < 0
          · have hr2 : decide (cf x y < 0) = true := by simpa using hneg
            have HB2 := Lib.hid (HB.out.down OO.out SA.out SB.out (by have := HLO.out; omega) (by have := HLO.out; omega) (by have := HLO.out; have := HPP.out; omega) (by have := HLO.out; have := HPP.out; omega) (by have := HLO.out; have := HPP.out; omega) hh1 hh2 (by rw [HPC.out, HX0.out, HY0.out]; exact hneg))
            refine Rk.begin (S := fun wS => wS.cell? ⟨g, pc, none⟩ = some (.int .i64 x) ∧ wS.cell? ⟨g, h, none⟩ = some (.int .i64 y) ∧ Below wr.heap.size wr wS) 12 (by kernel_rfl) hzr (fun hHeld => ?_)
            refine Rk.takeP (i := 0) (v := ?_) rfl (by kernel_rfl) (by kernel_rfl) (by kernel_rfl) (by kernel_rfl) (fun _ _ _ h => h) (Or.inl ⟨by kernel_rfl, ?_⟩) (by assumption) ?_
            rotate_left
            · ((intro w hSw; go_simp) <;> with_reducible rfl)
            try simp only [wpc, wkp, Act.put, List.setIfInBounds_toArray, List.set_cons_zero, List.set_cons_succ]
            refine Rk.takeP (i := 1) (v := ?_) rfl (by kernel_rfl) (by kernel_rfl) (by kernel_rfl) (by kernel_rfl) (fun _ _ _ h => h) (Or.inl ⟨by kernel_rfl, ?_⟩) (by assumption) ?_
            rotate_left
            · ((intro w hSw; go_simp) <;> with_reducible rfl)
            try simp only [wpc, wkp, Act.put, List.setIfInBounds_toArray, List.set_cons_zero, List.set_cons_succ]
            refine Rk.takeP (i := 2) (v := ?_) rfl (by kernel_rfl) (by kernel_rfl) (by kernel_rfl) (by kernel_rfl) (fun _ _ _ h => h) (Or.inl ⟨by kernel_rfl, ?_⟩) (by assumption) ?_
            rotate_left
            · ((intro w hSw; go_simp) <;> with_reducible rfl)
            try simp only [wpc, wkp, Act.put, List.setIfInBounds_toArray, List.set_cons_zero, List.set_cons_succ]
            refine Rk.takeP (i := 3) (v := ?_) rfl (by kernel_rfl) (by kernel_rfl) (by kernel_rfl) (by kernel_rfl) (fun _ _ _ h => h) (Or.inl ⟨by kernel_rfl, ?_⟩) (by assumption) ?_
            rotate_left
            · ((intro w hSw; go_simp) <;> with_reducible rfl)
            try simp only [wpc, wkp, Act.put, List.setIfInBounds_toArray, List.set_cons_zero, List.set_cons_succ]
            refine Rk.takeP (i := 4) (v := ?_) rfl (by kernel_rfl) (by kernel_rfl) (by kernel_rfl) (by kernel_rfl) (fun _ _ _ h => h) (Or.inl ⟨by kernel_rfl, ?_⟩) (by assumption) ?_
            rotate_left
            · ((intro w hSw; go_simp) <;> with_reducible rfl)
            try simp only [wpc, wkp, Act.put, List.setIfInBounds_toArray, List.set_cons_zero, List.set_cons_succ]
            refine Rk.takeP (i := 5) (v := ?_) rfl (by kernel_rfl) (by kernel_rfl) (by kernel_rfl) (by kernel_rfl) (fun _ _ _ h => h) (Or.inl ⟨by kernel_rfl, ?_⟩) (by assumption) ?_
            rotate_left
            · ((intro w hSw; go_simp) <;> with_reducible rfl)
            try simp only [wpc, wkp, Act.put, List.setIfInBounds_toArray, List.set_cons_zero, List.set_cons_succ]
            refine Rk.take [11, 12] (i := 6) (v := ?_) rfl (by kernel_rfl) (by kernel_rfl) (by kernel_rfl) (by kernel_rfl) (by kernel_rfl) (fun _ _ _ h => h) (Or.inl ⟨by kernel_rfl, ?_⟩) (by assumption) ?_
            rotate_left
            · ((intro w hSw; (try dsimp only at hSw); go_simp) <;> with_reducible rfl)
            try simp only [wpc, wkp, Act.put, List.setIfInBounds_toArray, List.set_cons_zero, List.set_cons_succ]
            refine Rk.takeP (i := 7) (v := ?_) rfl (by kernel_rfl) (by kernel_rfl) (by kernel_rfl) (by kernel_rfl) (fun _ _ _ h => h) (Or.inl ⟨by kernel_rfl, ?_⟩) (by assumption) ?_
            rotate_left
            · ((intro w hSw; go_simp) <;> with_reducible rfl)
            try simp only [wpc, wkp, Act.put, List.setIfInBounds_toArray, List.set_cons_zero, List.set_cons_succ]
            refine Rk.takeP (i := 8) (v := ?_) rfl (by kernel_rfl) (by kernel_rfl) (by kernel_rfl) (by kernel_rfl) (fun _ _ _ h => h) (Or.inl ⟨by kernel_rfl, ?_⟩) (by assumption) ?_
            rotate_left
            · ((intro w hSw; go_simp) <;> with_reducible rfl)
            try simp only [wpc, wkp, Act.put, List.setIfInBounds_toArray, List.set_cons_zero, List.set_cons_succ]
            refine Rk.takeP (i := 9) (v := ?_) rfl (by kernel_rfl) (by kernel_rfl) (by kernel_rfl) (by kernel_rfl) (fun _ _ _ h => h) (Or.inl ⟨by kernel_rfl, ?_⟩) (by assumption) ?_
            rotate_left
            · ((intro w hSw; go_simp) <;> with_reducible rfl)
            try simp only [wpc, wkp, Act.put, List.setIfInBounds_toArray, List.set_cons_zero, List.set_cons_succ]
            refine Rk.take [11, 12] (i := 10) (v := ?_) rfl (by kernel_rfl) (by kernel_rfl) (by kernel_rfl) (by kernel_rfl) (by kernel_rfl) (fun _ _ _ h => h) (Or.inl ⟨by kernel_rfl, ?_⟩) (by assumption) ?_
            rotate_left
            · ((intro w hSw; (try dsimp only at hSw); go_simp) <;> with_reducible rfl)
            try simp only [wpc, wkp, Act.put, List.setIfInBounds_toArray, List.set_cons_zero, List.set_cons_succ]
            refine Rk.one (i := 11) (by kernel_rfl) rfl (fun KK hK => ?_)
            rw [if_pos (by kernel_rfl)]
            go_simp
            rw [HKF.out, Oper.upon_enter]
            ((with_reducible refine (NC.out x y HX.out HY.out HLT.out _ (HKW.out.trans (KG.below (hHeld.2.2)))).mono ?_); rintro e u ⟨⟨v, rfl, hv⟩, hb⟩; replace hv := hv.trans hr2)
            first | (refine hK.out _ _ (fun _ => HS.out _ _ hHeld hb) (fun hHeld => ?_)) | (refine hK.out _ _ (HS.out _ _ hHeld hb) (fun hHeld => ?_)) | (go_wp2_with fail; refine hK.out _ _ (HS.out _ _ hHeld hb) (fun hHeld => ?_))
            clear hK KK
            refine Rk.tail [12, 13] [_, _] (by kernel_rfl) (by kernel_rfl) rfl (by decide) ?_
            have KB0 := hHeld.2.2
            have O2 := Lib.hid (own_belowE hOW.out KB0)
            have B2 := Lib.hid (hB.out.trans (KB0.mono (by have := hB.out.size; omega)))
            have K2 := Lib.hid (hK.out.trans (KG.below KB0))
            clear hHeld HS hOW hB hK KB0
            go_wp2_with fail
            go_roundw
            case rel => exact ⟨i, h, by go_num, by go_num, by omega, by omega, by omega, HB2, O2, B2, K2⟩
            case measure => simp [intOf]; omega
          · have hr2 : decide (cf x y < 0) = false := by simpa using hneg
            have HB2 := Lib.hid (HB.out.up OO.out SA.out SB.out (by have := HLO.out; omega) (by have := HLO.out; omega) (by have := HLO.out; have := HPP.out; omega) (by have := HLO.out; have := HPP.out; omega) (by have := HLO.out; have := HPP.out; omega) hh1 hh2 (by rw [HPC.out, HX0.out, HY0.out]; exact hneg))
            refine Rk.begin (S := fun wS => wS.cell? ⟨g, pc, none⟩ = some (.int .i64 x) ∧ wS.cell? ⟨g, h, none⟩ = some (.int .i64 y) ∧ Below wr.heap.size wr wS) 12 (by kernel_rfl) hzr (fun hHeld => ?_)
            refine Rk.takeP (i := 0) (v := ?_) rfl (by kernel_rfl) (by kernel_rfl) (by kernel_rfl) (by kernel_rfl) (fun _ _ _ h => h) (Or.inl ⟨by kernel_rfl, ?_⟩) (by assumption) ?_
            rotate_left
            · ((intro w hSw; go_simp) <;> with_reducible rfl)
            try simp only [wpc, wkp, Act.put, List.setIfInBounds_toArray, List.set_cons_zero, List.set_cons_succ]
            refine Rk.takeP (i := 1) (v := ?_) rfl (by kernel_rfl) (by kernel_rfl) (by kernel_rfl) (by kernel_rfl) (fun _ _ _ h => h) (Or.inl ⟨by kernel_rfl, ?_⟩) (by assumption) ?_
            rotate_left
            · ((intro w hSw; go_simp) <;> with_reducible rfl)
            try simp only [wpc, wkp, Act.put, List.setIfInBounds_toArray, List.set_cons_zero, List.set_cons_succ]
            refine Rk.takeP (i := 2) (v := ?_) rfl (by kernel_rfl) (by kernel_rfl) (by kernel_rfl) (by kernel_rfl) (fun _ _ _ h => h) (Or.inl ⟨by kernel_rfl, ?_⟩) (by assumption) ?_
            rotate_left
            · ((intro w hSw; go_simp) <;> with_reducible rfl)
            try simp only [wpc, wkp, Act.put, List.setIfInBounds_toArray, List.set_cons_zero, List.set_cons_succ]
            refine Rk.takeP (i := 3) (v := ?_) rfl (by kernel_rfl) (by kernel_rfl) (by kernel_rfl) (by kernel_rfl) (fun _ _ _ h => h) (Or.inl ⟨by kernel_rfl, ?_⟩) (by assumption) ?_
            rotate_left
            · ((intro w hSw; go_simp) <;> with_reducible rfl)
            try simp only [wpc, wkp, Act.put, List.setIfInBounds_toArray, List.set_cons_zero, List.set_cons_succ]
            refine Rk.takeP (i := 4) (v := ?_) rfl (by kernel_rfl) (by kernel_rfl) (by kernel_rfl) (by kernel_rfl) (fun _ _ _ h => h) (Or.inl ⟨by kernel_rfl, ?_⟩) (by assumption) ?_
            rotate_left
            · ((intro w hSw; go_simp) <;> with_reducible rfl)
            try simp only [wpc, wkp, Act.put, List.setIfInBounds_toArray, List.set_cons_zero, List.set_cons_succ]
            refine Rk.takeP (i := 5) (v := ?_) rfl (by kernel_rfl) (by kernel_rfl) (by kernel_rfl) (by kernel_rfl) (fun _ _ _ h => h) (Or.inl ⟨by kernel_rfl, ?_⟩) (by assumption) ?_
            rotate_left
            · ((intro w hSw; go_simp) <;> with_reducible rfl)
            try simp only [wpc, wkp, Act.put, List.setIfInBounds_toArray, List.set_cons_zero, List.set_cons_succ]
            refine Rk.take [11, 12] (i := 6) (v := ?_) rfl (by kernel_rfl) (by kernel_rfl) (by kernel_rfl) (by kernel_rfl) (by kernel_rfl) (fun _ _ _ h => h) (Or.inl ⟨by kernel_rfl, ?_⟩) (by assumption) ?_
            rotate_left
            · ((intro w hSw; (try dsimp only at hSw); go_simp) <;> with_reducible rfl)
            try simp only [wpc, wkp, Act.put, List.setIfInBounds_toArray, List.set_cons_zero, List.set_cons_succ]
            refine Rk.takeP (i := 7) (v := ?_) rfl (by kernel_rfl) (by kernel_rfl) (by kernel_rfl) (by kernel_rfl) (fun _ _ _ h => h) (Or.inl ⟨by kernel_rfl, ?_⟩) (by assumption) ?_
            rotate_left
            · ((intro w hSw; go_simp) <;> with_reducible rfl)
            try simp only [wpc, wkp, Act.put, List.setIfInBounds_toArray, List.set_cons_zero, List.set_cons_succ]
            refine Rk.takeP (i := 8) (v := ?_) rfl (by kernel_rfl) (by kernel_rfl) (by kernel_rfl) (by kernel_rfl) (fun _ _ _ h => h) (Or.inl ⟨by kernel_rfl, ?_⟩) (by assumption) ?_
            rotate_left
            · ((intro w hSw; go_simp) <;> with_reducible rfl)
            try simp only [wpc, wkp, Act.put, List.setIfInBounds_toArray, List.set_cons_zero, List.set_cons_succ]
            refine Rk.takeP (i := 9) (v := ?_) rfl (by kernel_rfl) (by kernel_rfl) (by kernel_rfl) (by kernel_rfl) (fun _ _ _ h => h) (Or.inl ⟨by kernel_rfl, ?_⟩) (by assumption) ?_
            rotate_left
            · ((intro w hSw; go_simp) <;> with_reducible rfl)
            try simp only [wpc, wkp, Act.put, List.setIfInBounds_toArray, List.set_cons_zero, List.set_cons_succ]
            refine Rk.take [11, 12] (i := 10) (v := ?_) rfl (by kernel_rfl) (by kernel_rfl) (by kernel_rfl) (by kernel_rfl) (by kernel_rfl) (fun _ _ _ h => h) (Or.inl ⟨by kernel_rfl, ?_⟩) (by assumption) ?_
            rotate_left
            · ((intro w hSw; (try dsimp only at hSw); go_simp) <;> with_reducible rfl)
            try simp only [wpc, wkp, Act.put, List.setIfInBounds_toArray, List.set_cons_zero, List.set_cons_succ]
            refine Rk.one (i := 11) (by kernel_rfl) rfl (fun KK hK => ?_)
            rw [if_pos (by kernel_rfl)]
            go_simp
            rw [HKF.out, Oper.upon_enter]
            ((with_reducible refine (NC.out x y HX.out HY.out HLT.out _ (HKW.out.trans (KG.below (hHeld.2.2)))).mono ?_); rintro e u ⟨⟨v, rfl, hv⟩, hb⟩; replace hv := hv.trans hr2)
            first | (refine hK.out _ _ (fun _ => HS.out _ _ hHeld hb) (fun hHeld => ?_)) | (refine hK.out _ _ (HS.out _ _ hHeld hb) (fun hHeld => ?_)) | (go_wp2_with fail; refine hK.out _ _ (HS.out _ _ hHeld hb) (fun hHeld => ?_))
            clear hK KK
            refine Rk.tail [12, 13] [_, _] (by kernel_rfl) (by kernel_rfl) rfl (by decide) ?_
            have KB0 := hHeld.2.2
            have O2 := Lib.hid (own_belowE hOW.out KB0)
            have B2 := Lib.hid (hB.out.trans (KB0.mono (by have := hB.out.size; omega)))
            have K2 := Lib.hid (hK.out.trans (KG.below KB0))
            clear hHeld HS hOW hB hK KB0
            go_wp2_with fail
            go_roundw
            case rel => exact ⟨h + 1, j, by go_num, by go_num, by omega, by omega, by omega, HB2, O2, B2, K2⟩
            case measure => simp [intOf]; omega
        · obtain rfl : i = j := by omega
          have i1 : ¬ (i : Int) < i := by omega
          obtain ⟨s, hs⟩ : ∃ s, s = i := ⟨_, rfl⟩
          subst hs
          obtain ⟨e, he⟩ : ∃ e, e = mid + m - s := ⟨_, rfl⟩
          have HC := Lib.hid (BisP.cut (lo := lo) (hi := hi) OO.out h1 h2 HMID.out (Or.inr ⟨hmm, HLO.out.1, HLO.out.2⟩) SA.out SB.out (by have h := HB.out; rw [← HPP.out] at h; exact h) he)
          have y1 := HC.out.a1
          have y2 := HC.out.a2
          have y3 := HC.out.a3
          have y4 := HC.out.a4
          have y5 := HC.out.sm
          have y6 := HC.out.me
          have hev : (mid : Int) + (m : Int) - (s : Int) = (e : Int) := by omega
          clear he HB
          go_upto_region 39 with fail
          try rw [hev]
          clear hev
          by_cases hA1 : s < m
          · have qa1 : (s : Int) < m := by omega
            by_cases hA2 : m < e
            · have qa2 : (m : Int) < e := by omega
              by_cases hB1 : a < s
              · have qb1 : (a : Int) < s := by omega
                by_cases hB2 : s < mid
                · have qb2 : (s : Int) < mid := by omega
                  by_cases hC1 : mid < e
                  · have qc1 : (mid : Int) < e := by omega
                    by_cases hC2 : e < b
                    · have qc2 : (e : Int) < b := by omega
                      obtain ⟨L1, HRS, hrf⟩ := rot_facts (s := s) (m := m) (e := e) L0 (by omega) (by omega) (by rw [HL.out.1]; omega)
                      have HRF := Lib.hid hrf
                      have RO := Lib.hid (rotN (.func (.func kf) #[] #[q1, q2]) g cap base n s m e L0 L1 wr hn HL.out.1 (by omega) (by omega) (by omega) (Lib.hid HRS) hOW _ _ _ rfl rfl rfl)
                      clear hrf HRS
                      go_wp2_with (first | (go_at_call 51; (with_reducible refine RO.out.mono ?_); rintro e1 w1 ⟨rfl, B1, K1, O1⟩; have HL1 : Hid (L1.length = n ∧ ∀ x ∈ L1, x ∈ D) := Lib.hid ⟨by rw [HRF.out.rng.len]; exact HL.out.1, fun x hx => HL.out.2 _ (HRF.out.rng.perm.mem_iff.mp hx)⟩; have P := Lib.hid (HC.out.parts SA.out SB.out HRF.out); have SQ := Lib.hid (HC.out.seps HRF.out HP.out); have R1 := Lib.hid (IHH.out a s mid L1 w1 HL1 (by omega) (by omega) (by omega) (by omega) O1 (Lib.hid (KO.out.trans (hK.out.trans K1))) (by have := (hB.out.trans B1).size; omega) (Lib.hid P.out.1) (Lib.hid P.out.2.1) (Lib.hid SQ.out.1))) | (go_at_call 50; (with_reducible refine R1.out.mono ?_); rintro e2 w2 ⟨rfl, B2, K2, L2, r2, s2, O2⟩; have HL2 : Hid (L2.length = n ∧ ∀ x ∈ L2, x ∈ D) := Lib.hid ⟨by rw [r2.len]; exact HL1.out.1, fun x hx => HL1.out.2 _ (r2.perm.mem_iff.mp hx)⟩; have HR2 := Lib.hid r2; have HS2 := Lib.hid s2; have HP3 := Lib.hid (P.out.2.2.1.keep HR2.out (Or.inr (Nat.le_refl _))); have HP4 := Lib.hid (P.out.2.2.2.1.keep HR2.out (Or.inr (by omega))); have R2 := Lib.hid (IHH.out mid e b L2 w2 HL2 (by omega) (by omega) (by omega) (by omega) O2 (Lib.hid (KO.out.trans ((hK.out.trans K1).trans K2))) (by have := ((hB.out.trans B1).trans B2).size; omega) HP3 HP4 (Lib.hid (SQ.out.2.keep HR2.out (Or.inr (Nat.le_refl _)))))) | (go_at_call 50; (with_reducible refine R2.out.mono ?_); rintro e3 w3 ⟨rfl, B3, K3, L3, r3, s3, O3⟩))
                      go_end0
                      have HD := HC.out.done SA.out SB.out HRF.out HR2.out HS2.out r3 s3
                      exact ⟨rfl, (((hB.out.trans B1).trans B2).trans B3), (((hK.out.trans K1).trans K2).trans K3), L3, HD.1, HD.2, O3⟩
                    · have qc2 : ¬ (e : Int) < b := by omega
                      obtain ⟨L1, HRS, hrf⟩ := rot_facts (s := s) (m := m) (e := e) L0 (by omega) (by omega) (by rw [HL.out.1]; omega)
                      have HRF := Lib.hid hrf
                      have RO := Lib.hid (rotN (.func (.func kf) #[] #[q1, q2]) g cap base n s m e L0 L1 wr hn HL.out.1 (by omega) (by omega) (by omega) (Lib.hid HRS) hOW _ _ _ rfl rfl rfl)
                      clear hrf HRS
                      go_wp2_with (first | (go_at_call 51; (with_reducible refine RO.out.mono ?_); rintro e1 w1 ⟨rfl, B1, K1, O1⟩; have HL1 : Hid (L1.length = n ∧ ∀ x ∈ L1, x ∈ D) := Lib.hid ⟨by rw [HRF.out.rng.len]; exact HL.out.1, fun x hx => HL.out.2 _ (HRF.out.rng.perm.mem_iff.mp hx)⟩; have P := Lib.hid (HC.out.parts SA.out SB.out HRF.out); have SQ := Lib.hid (HC.out.seps HRF.out HP.out); have R1 := Lib.hid (IHH.out a s mid L1 w1 HL1 (by omega) (by omega) (by omega) (by omega) O1 (Lib.hid (KO.out.trans (hK.out.trans K1))) (by have := (hB.out.trans B1).size; omega) (Lib.hid P.out.1) (Lib.hid P.out.2.1) (Lib.hid SQ.out.1))) | (go_at_call 50; (with_reducible refine R1.out.mono ?_); rintro e2 w2 ⟨rfl, B2, K2, L2, r2, s2, O2⟩; have HL2 : Hid (L2.length = n ∧ ∀ x ∈ L2, x ∈ D) := Lib.hid ⟨by rw [r2.len]; exact HL1.out.1, fun x hx => HL1.out.2 _ (r2.perm.mem_iff.mp hx)⟩; have HR2 := Lib.hid r2; have HS2 := Lib.hid s2; have HP3 := Lib.hid (P.out.2.2.1.keep HR2.out (Or.inr (Nat.le_refl _))); have HP4 := Lib.hid (P.out.2.2.2.1.keep HR2.out (Or.inr (by omega))); have s3 : SrtC cf mid b L2 := (by rcases (show e ≤ mid ∨ b ≤ e by omega) with hh | hh; exact HP4.out.sub hh (Nat.le_refl _); exact HP3.out.sub (Nat.le_refl _) hh)))
                      go_end0
                      have HD := HC.out.done SA.out SB.out HRF.out HR2.out HS2.out (RngC.refl mid b L2) s3
                      exact ⟨rfl, ((hB.out.trans B1).trans B2), ((hK.out.trans K1).trans K2), L2, HD.1, HD.2, O2⟩
                  · have qc1 : ¬ (mid : Int) < e := by omega
                    obtain ⟨L1, HRS, hrf⟩ := rot_facts (s := s) (m := m) (e := e) L0 (by omega) (by omega) (by rw [HL.out.1]; omega)
                    have HRF := Lib.hid hrf
                    have RO := Lib.hid (rotN (.func (.func kf) #[] #[q1, q2]) g cap base n s m e L0 L1 wr hn HL.out.1 (by omega) (by omega) (by omega) (Lib.hid HRS) hOW _ _ _ rfl rfl rfl)
                    clear hrf HRS
                    go_wp2_with (first | (go_at_call 51; (with_reducible refine RO.out.mono ?_); rintro e1 w1 ⟨rfl, B1, K1, O1⟩; have HL1 : Hid (L1.length = n ∧ ∀ x ∈ L1, x ∈ D) := Lib.hid ⟨by rw [HRF.out.rng.len]; exact HL.out.1, fun x hx => HL.out.2 _ (HRF.out.rng.perm.mem_iff.mp hx)⟩; have P := Lib.hid (HC.out.parts SA.out SB.out HRF.out); have SQ := Lib.hid (HC.out.seps HRF.out HP.out); have R1 := Lib.hid (IHH.out a s mid L1 w1 HL1 (by omega) (by omega) (by omega) (by omega) O1 (Lib.hid (KO.out.trans (hK.out.trans K1))) (by have := (hB.out.trans B1).size; omega) (Lib.hid P.out.1) (Lib.hid P.out.2.1) (Lib.hid SQ.out.1))) | (go_at_call 50; (with_reducible refine R1.out.mono ?_); rintro e2 w2 ⟨rfl, B2, K2, L2, r2, s2, O2⟩; have HL2 : Hid (L2.length = n ∧ ∀ x ∈ L2, x ∈ D) := Lib.hid ⟨by rw [r2.len]; exact HL1.out.1, fun x hx => HL1.out.2 _ (r2.perm.mem_iff.mp hx)⟩; have HR2 := Lib.hid r2; have HS2 := Lib.hid s2; have HP3 := Lib.hid (P.out.2.2.1.keep HR2.out (Or.inr (Nat.le_refl _))); have HP4 := Lib.hid (P.out.2.2.2.1.keep HR2.out (Or.inr (by omega))); have s3 : SrtC cf mid b L2 := (by rcases (show e ≤ mid ∨ b ≤ e by omega) with hh | hh; exact HP4.out.sub hh (Nat.le_refl _); exact HP3.out.sub (Nat.le_refl _) hh)))
                    go_end0
                    have HD := HC.out.done SA.out SB.out HRF.out HR2.out HS2.out (RngC.refl mid b L2) s3
                    exact ⟨rfl, ((hB.out.trans B1).trans B2), ((hK.out.trans K1).trans K2), L2, HD.1, HD.2, O2⟩
                · have qb2 : ¬ (s : Int) < mid := by omega
                  by_cases hC1 : mid < e
                  · have qc1 : (mid : Int) < e := by omega
                    by_cases hC2 : e < b
                    · have qc2 : (e : Int) < b := by omega
                      obtain ⟨L1, HRS, hrf⟩ := rot_facts (s := s) (m := m) (e := e) L0 (by omega) (by omega) (by rw [HL.out.1]; omega)
                      have HRF := Lib.hid hrf
                      have RO := Lib.hid (rotN (.func (.func kf) #[] #[q1, q2]) g cap base n s m e L0 L1 wr hn HL.out.1 (by omega) (by omega) (by omega) (Lib.hid HRS) hOW _ _ _ rfl rfl rfl)
                      clear hrf HRS
                      go_wp2_with (first | (go_at_call 51; (with_reducible refine RO.out.mono ?_); rintro e1 w1 ⟨rfl, B1, K1, O1⟩; have HL1 : Hid (L1.length = n ∧ ∀ x ∈ L1, x ∈ D) := Lib.hid ⟨by rw [HRF.out.rng.len]; exact HL.out.1, fun x hx => HL.out.2 _ (HRF.out.rng.perm.mem_iff.mp hx)⟩; have P := Lib.hid (HC.out.parts SA.out SB.out HRF.out); have SQ := Lib.hid (HC.out.seps HRF.out HP.out); have HR2 := Lib.hid (RngC.refl a mid L1); have HS2 : Hid (SrtC cf a mid L1) := Lib.hid (by rcases (show s ≤ a ∨ mid ≤ s by omega) with hh | hh; exact P.out.2.1.sub hh (Nat.le_refl _); exact P.out.1.sub (Nat.le_refl _) hh); have HP3 := Lib.hid (P.out.2.2.1.keep HR2.out (Or.inr (Nat.le_refl _))); have HP4 := Lib.hid (P.out.2.2.2.1.keep HR2.out (Or.inr (by omega))); have R2 := Lib.hid (IHH.out mid e b L1 w1 HL1 (by omega) (by omega) (by omega) (by omega) O1 (Lib.hid (KO.out.trans (hK.out.trans K1))) (by have := (hB.out.trans B1).size; omega) HP3 HP4 (Lib.hid (SQ.out.2.keep HR2.out (Or.inr (Nat.le_refl _)))))) | (go_at_call 50; (with_reducible refine R2.out.mono ?_); rintro e3 w3 ⟨rfl, B3, K3, L3, r3, s3, O3⟩))
                      go_end0
                      have HD := HC.out.done SA.out SB.out HRF.out HR2.out HS2.out r3 s3
                      exact ⟨rfl, ((hB.out.trans B1).trans B3), ((hK.out.trans K1).trans K3), L3, HD.1, HD.2, O3⟩
                    · have qc2 : ¬ (e : Int) < b := by omega
                      obtain ⟨L1, HRS, hrf⟩ := rot_facts (s := s) (m := m) (e := e) L0 (by omega) (by omega) (by rw [HL.out.1]; omega)
                      have HRF := Lib.hid hrf
                      have RO := Lib.hid (rotN (.func (.func kf) #[] #[q1, q2]) g cap base n s m e L0 L1 wr hn HL.out.1 (by omega) (by omega) (by omega) (Lib.hid HRS) hOW _ _ _ rfl rfl rfl)
                      clear hrf HRS
                      go_wp2_with (first | (go_at_call 51; (with_reducible refine RO.out.mono ?_); rintro e1 w1 ⟨rfl, B1, K1, O1⟩; have HL1 : Hid (L1.length = n ∧ ∀ x ∈ L1, x ∈ D) := Lib.hid ⟨by rw [HRF.out.rng.len]; exact HL.out.1, fun x hx => HL.out.2 _ (HRF.out.rng.perm.mem_iff.mp hx)⟩; have P := Lib.hid (HC.out.parts SA.out SB.out HRF.out); have SQ := Lib.hid (HC.out.seps HRF.out HP.out); have HR2 := Lib.hid (RngC.refl a mid L1); have HS2 : Hid (SrtC cf a mid L1) := Lib.hid (by rcases (show s ≤ a ∨ mid ≤ s by omega) with hh | hh; exact P.out.2.1.sub hh (Nat.le_refl _); exact P.out.1.sub (Nat.le_refl _) hh); have HP3 := Lib.hid (P.out.2.2.1.keep HR2.out (Or.inr (Nat.le_refl _))); have HP4 := Lib.hid (P.out.2.2.2.1.keep HR2.out (Or.inr (by omega))); have s3 : SrtC cf mid b L1 := (by rcases (show e ≤ mid ∨ b ≤ e by omega) with hh | hh; exact HP4.out.sub hh (Nat.le_refl _); exact HP3.out.sub (Nat.le_refl _) hh)))
                      go_end0
                      have HD := HC.out.done SA.out SB.out HRF.out HR2.out HS2.out (RngC.refl mid b L1) s3
                      exact ⟨rfl, (hB.out.trans B1), (hK.out.trans K1), L1, HD.1, HD.2, O1⟩
                  · have qc1 : ¬ (mid : Int) < e := by omega
                    obtain ⟨L1, HRS, hrf⟩ := rot_facts (s := s) (m := m) (e := e) L0 (by omega) (by omega) (by rw [HL.out.1]; omega)
                    have HRF := Lib.hid hrf
                    have RO := Lib.hid (rotN (.func (.func kf) #[] #[q1, q2]) g cap base n s m e L0 L1 wr hn HL.out.1 (by omega) (by omega) (by omega) (Lib.hid HRS) hOW _ _ _ rfl rfl rfl)
                    clear hrf HRS
                    go_wp2_with (first | (go_at_call 51; (with_reducible refine RO.out.mono ?_); rintro e1 w1 ⟨rfl, B1, K1, O1⟩; have HL1 : Hid (L1.length = n ∧ ∀ x ∈ L1, x ∈ D) := Lib.hid ⟨by rw [HRF.out.rng.len]; exact HL.out.1, fun x hx => HL.out.2 _ (HRF.out.rng.perm.mem_iff.mp hx)⟩; have P := Lib.hid (HC.out.parts SA.out SB.out HRF.out); have SQ := Lib.hid (HC.out.seps HRF.out HP.out); have HR2 := Lib.hid (RngC.refl a mid L1); have HS2 : Hid (SrtC cf a mid L1) := Lib.hid (by rcases (show s ≤ a ∨ mid ≤ s by omega) with hh | hh; exact P.out.2.1.sub hh (Nat.le_refl _); exact P.out.1.sub (Nat.le_refl _) hh); have HP3 := Lib.hid (P.out.2.2.1.keep HR2.out (Or.inr (Nat.le_refl _))); have HP4 := Lib.hid (P.out.2.2.2.1.keep HR2.out (Or.inr (by omega))); have s3 : SrtC cf mid b L1 := (by rcases (show e ≤ mid ∨ b ≤ e by omega) with hh | hh; exact HP4.out.sub hh (Nat.le_refl _); exact HP3.out.sub (Nat.le_refl _) hh)))
                    go_end0
                    have HD := HC.out.done SA.out SB.out HRF.out HR2.out HS2.out (RngC.refl mid b L1) s3
                    exact ⟨rfl, (hB.out.trans B1), (hK.out.trans K1), L1, HD.1, HD.2, O1⟩
              · have qb1 : ¬ (a : Int) < s := by omega
                by_cases hC1 : mid < e
                · have qc1 : (mid : Int) < e := by omega
                  by_cases hC2 : e < b
                  · have qc2 : (e : Int) < b := by omega
                    obtain ⟨L1, HRS, hrf⟩ := rot_facts (s := s) (m := m) (e := e) L0 (by omega) (by omega) (by rw [HL.out.1]; omega)
                    have HRF := Lib.hid hrf
                    have RO := Lib.hid (rotN (.func (.func kf) #[] #[q1, q2]) g cap base n s m e L0 L1 wr hn HL.out.1 (by omega) (by omega) (by omega) (Lib.hid HRS) hOW _ _ _ rfl rfl rfl)
                    clear hrf HRS
                    go_wp2_with (first | (go_at_call 51; (with_reducible refine RO.out.mono ?_); rintro e1 w1 ⟨rfl, B1, K1, O1⟩; have HL1 : Hid (L1.length = n ∧ ∀ x ∈ L1, x ∈ D) := Lib.hid ⟨by rw [HRF.out.rng.len]; exact HL.out.1, fun x hx => HL.out.2 _ (HRF.out.rng.perm.mem_iff.mp hx)⟩; have P := Lib.hid (HC.out.parts SA.out SB.out HRF.out); have SQ := Lib.hid (HC.out.seps HRF.out HP.out); have HR2 := Lib.hid (RngC.refl a mid L1); have HS2 : Hid (SrtC cf a mid L1) := Lib.hid (by rcases (show s ≤ a ∨ mid ≤ s by omega) with hh | hh; exact P.out.2.1.sub hh (Nat.le_refl _); exact P.out.1.sub (Nat.le_refl _) hh); have HP3 := Lib.hid (P.out.2.2.1.keep HR2.out (Or.inr (Nat.le_refl _))); have HP4 := Lib.hid (P.out.2.2.2.1.keep HR2.out (Or.inr (by omega))); have R2 := Lib.hid (IHH.out mid e b L1 w1 HL1 (by omega) (by omega) (by omega) (by omega) O1 (Lib.hid (KO.out.trans (hK.out.trans K1))) (by have := (hB.out.trans B1).size; omega) HP3 HP4 (Lib.hid (SQ.out.2.keep HR2.out (Or.inr (Nat.le_refl _)))))) | (go_at_call 50; (with_reducible refine R2.out.mono ?_); rintro e3 w3 ⟨rfl, B3, K3, L3, r3, s3, O3⟩))
                    go_end0
                    have HD := HC.out.done SA.out SB.out HRF.out HR2.out HS2.out r3 s3
                    exact ⟨rfl, ((hB.out.trans B1).trans B3), ((hK.out.trans K1).trans K3), L3, HD.1, HD.2, O3⟩
                  · have qc2 : ¬ (e : Int) < b := by omega
                    obtain ⟨L1, HRS, hrf⟩ := rot_facts (s := s) (m := m) (e := e) L0 (by omega) (by omega) (by rw [HL.out.1]; omega)
                    have HRF := Lib.hid hrf
                    have RO := Lib.hid (rotN (.func (.func kf) #[] #[q1, q2]) g cap base n s m e L0 L1 wr hn HL.out.1 (by omega) (by omega) (by omega) (Lib.hid HRS) hOW _ _ _ rfl rfl rfl)
                    clear hrf HRS
                    go_wp2_with (first | (go_at_call 51; (with_reducible refine RO.out.mono ?_); rintro e1 w1 ⟨rfl, B1, K1, O1⟩; have HL1 : Hid (L1.length = n ∧ ∀ x ∈ L1, x ∈ D) := Lib.hid ⟨by rw [HRF.out.rng.len]; exact HL.out.1, fun x hx => HL.out.2 _ (HRF.out.rng.perm.mem_iff.mp hx)⟩; have P := Lib.hid (HC.out.parts SA.out SB.out HRF.out); have SQ := Lib.hid (HC.out.seps HRF.out HP.out); have HR2 := Lib.hid (RngC.refl a mid L1); have HS2 : Hid (SrtC cf a mid L1) := Lib.hid (by rcases (show s ≤ a ∨ mid ≤ s by omega) with hh | hh; exact P.out.2.1.sub hh (Nat.le_refl _); exact P.out.1.sub (Nat.le_refl _) hh); have HP3 := Lib.hid (P.out.2.2.1.keep HR2.out (Or.inr (Nat.le_refl _))); have HP4 := Lib.hid (P.out.2.2.2.1.keep HR2.out (Or.inr (by omega))); have s3 : SrtC cf mid b L1 := (by rcases (show e ≤ mid ∨ b ≤ e by omega) with hh | hh; exact HP4.out.sub hh (Nat.le_refl _); exact HP3.out.sub (Nat.le_refl _) hh)))
                    go_end0
                    have HD := HC.out.done SA.out SB.out HRF.out HR2.out HS2.out (RngC.refl mid b L1) s3
                    exact ⟨rfl, (hB.out.trans B1), (hK.out.trans K1), L1, HD.1, HD.2, O1⟩
                · have qc1 : ¬ (mid : Int) < e := by omega
                  obtain ⟨L1, HRS, hrf⟩ := rot_facts (s := s) (m := m) (e := e) L0 (by omega) (by omega) (by rw [HL.out.1]; omega)
                  have HRF := Lib.hid hrf
                  have RO := Lib.hid (rotN (.func (.func kf) #[] #[q1, q2]) g cap base n s m e L0 L1 wr hn HL.out.1 (by omega) (by omega) (by omega) (Lib.hid HRS) hOW _ _ _ rfl rfl rfl)
                  clear hrf HRS
                  go_wp2_with (first | (go_at_call 51; (with_reducible refine RO.out.mono ?_); rintro e1 w1 ⟨rfl, B1, K1, O1⟩; have HL1 : Hid (L1.length = n ∧ ∀ x ∈ L1, x ∈ D) := Lib.hid ⟨by rw [HRF.out.rng.len]; exact HL.out.1, fun x hx => HL.out.2 _ (HRF.out.rng.perm.mem_iff.mp hx)⟩; have P := Lib.hid (HC.out.parts SA.out SB.out HRF.out); have SQ := Lib.hid (HC.out.seps HRF.out HP.out); have HR2 := Lib.hid (RngC.refl a mid L1); have HS2 : Hid (SrtC cf a mid L1) := Lib.hid (by rcases (show s ≤ a ∨ mid ≤ s by omega) with hh | hh; exact P.out.2.1.sub hh (Nat.le_refl _); exact P.out.1.sub (Nat.le_refl _) hh); have HP3 := Lib.hid (P.out.2.2.1.keep HR2.out (Or.inr (Nat.le_refl _))); have HP4 := Lib.hid (P.out.2.2.2.1.keep HR2.out (Or.inr (by omega))); have s3 : SrtC cf mid b L1 := (by rcases (show e ≤ mid ∨ b ≤ e by omega) with hh | hh; exact HP4.out.sub hh (Nat.le_refl _); exact HP3.out.sub (Nat.le_refl _) hh)))
                  go_end0
                  have HD := HC.out.done SA.out SB.out HRF.out HR2.out HS2.out (RngC.refl mid b L1) s3
                  exact ⟨rfl, (hB.out.trans B1), (hK.out.trans K1), L1, HD.1, HD.2, O1⟩
            · have qa2 : ¬ (m : Int) < e := by omega
              by_cases hB1 : a < s
              · have qb1 : (a : Int) < s := by omega
                by_cases hB2 : s < mid
                · have qb2 : (s : Int) < mid := by omega
                  by_cases hC1 : mid < e
                  · have qc1 : (mid : Int) < e := by omega
                    by_cases hC2 : e < b
                    · have qc2 : (e : Int) < b := by omega
                      have HRF := Lib.hid (RotF.same (s := s) (m := m) (e := e) L0 (by omega) (by omega) (by omega))
                      have P := Lib.hid (HC.out.parts SA.out SB.out HRF.out)
                      have SQ := Lib.hid (HC.out.seps HRF.out HP.out)
                      have R1 := Lib.hid (IHH.out a s mid L0 wr HL (by omega) (by omega) (by omega) (by omega) hOW (Lib.hid (KO.out.trans hK.out)) (by have := hB.out.size; omega) (Lib.hid P.out.1) (Lib.hid P.out.2.1) (Lib.hid SQ.out.1))
                      go_wp2_with (first | (go_at_call 50; (with_reducible refine R1.out.mono ?_); rintro e2 w2 ⟨rfl, B2, K2, L2, r2, s2, O2⟩; have HL2 : Hid (L2.length = n ∧ ∀ x ∈ L2, x ∈ D) := Lib.hid ⟨by rw [r2.len]; exact HL.out.1, fun x hx => HL.out.2 _ (r2.perm.mem_iff.mp hx)⟩; have HR2 := Lib.hid r2; have HS2 := Lib.hid s2; have HP3 := Lib.hid (P.out.2.2.1.keep HR2.out (Or.inr (Nat.le_refl _))); have HP4 := Lib.hid (P.out.2.2.2.1.keep HR2.out (Or.inr (by omega))); have R2 := Lib.hid (IHH.out mid e b L2 w2 HL2 (by omega) (by omega) (by omega) (by omega) O2 (Lib.hid (KO.out.trans (hK.out.trans K2))) (by have := (hB.out.trans B2).size; omega) HP3 HP4 (Lib.hid (SQ.out.2.keep HR2.out (Or.inr (Nat.le_refl _)))))) | (go_at_call 50; (with_reducible refine R2.out.mono ?_); rintro e3 w3 ⟨rfl, B3, K3, L3, r3, s3, O3⟩))
                      go_end0
                      have HD := HC.out.done SA.out SB.out HRF.out HR2.out HS2.out r3 s3
                      exact ⟨rfl, ((hB.out.trans B2).trans B3), ((hK.out.trans K2).trans K3), L3, HD.1, HD.2, O3⟩
                    · have qc2 : ¬ (e : Int) < b := by omega
                      have HRF := Lib.hid (RotF.same (s := s) (m := m) (e := e) L0 (by omega) (by omega) (by omega))
                      have P := Lib.hid (HC.out.parts SA.out SB.out HRF.out)
                      have SQ := Lib.hid (HC.out.seps HRF.out HP.out)
                      have R1 := Lib.hid (IHH.out a s mid L0 wr HL (by omega) (by omega) (by omega) (by omega) hOW (Lib.hid (KO.out.trans hK.out)) (by have := hB.out.size; omega) (Lib.hid P.out.1) (Lib.hid P.out.2.1) (Lib.hid SQ.out.1))
                      go_wp2_with (first | (go_at_call 50; (with_reducible refine R1.out.mono ?_); rintro e2 w2 ⟨rfl, B2, K2, L2, r2, s2, O2⟩; have HL2 : Hid (L2.length = n ∧ ∀ x ∈ L2, x ∈ D) := Lib.hid ⟨by rw [r2.len]; exact HL.out.1, fun x hx => HL.out.2 _ (r2.perm.mem_iff.mp hx)⟩; have HR2 := Lib.hid r2; have HS2 := Lib.hid s2; have HP3 := Lib.hid (P.out.2.2.1.keep HR2.out (Or.inr (Nat.le_refl _))); have HP4 := Lib.hid (P.out.2.2.2.1.keep HR2.out (Or.inr (by omega))); have s3 : SrtC cf mid b L2 := (by rcases (show e ≤ mid ∨ b ≤ e by omega) with hh | hh; exact HP4.out.sub hh (Nat.le_refl _); exact HP3.out.sub (Nat.le_refl _) hh)))
                      go_end0
                      have HD := HC.out.done SA.out SB.out HRF.out HR2.out HS2.out (RngC.refl mid b L2) s3
                      exact ⟨rfl, (hB.out.trans B2), (hK.out.trans K2), L2, HD.1, HD.2, O2⟩
                  · have qc1 : ¬ (mid : Int) < e := by omega
                    have HRF := Lib.hid (RotF.same (s := s) (m := m) (e := e) L0 (by omega) (by omega) (by omega))
                    have P := Lib.hid (HC.out.parts SA.out SB.out HRF.out)
                    have SQ := Lib.hid (HC.out.seps HRF.out HP.out)
                    have R1 := Lib.hid (IHH.out a s mid L0 wr HL (by omega) (by omega) (by omega) (by omega) hOW (Lib.hid (KO.out.trans hK.out)) (by have := hB.out.size; omega) (Lib.hid P.out.1) (Lib.hid P.out.2.1) (Lib.hid SQ.out.1))
                    go_wp2_with (first | (go_at_call 50; (with_reducible refine R1.out.mono ?_); rintro e2 w2 ⟨rfl, B2, K2, L2, r2, s2, O2⟩; have HL2 : Hid (L2.length = n ∧ ∀ x ∈ L2, x ∈ D) := Lib.hid ⟨by rw [r2.len]; exact HL.out.1, fun x hx => HL.out.2 _ (r2.perm.mem_iff.mp hx)⟩; have HR2 := Lib.hid r2; have HS2 := Lib.hid s2; have HP3 := Lib.hid (P.out.2.2.1.keep HR2.out (Or.inr (Nat.le_refl _))); have HP4 := Lib.hid (P.out.2.2.2.1.keep HR2.out (Or.inr (by omega))); have s3 : SrtC cf mid b L2 := (by rcases (show e ≤ mid ∨ b ≤ e by omega) with hh | hh; exact HP4.out.sub hh (Nat.le_refl _); exact HP3.out.sub (Nat.le_refl _) hh)))
                    go_end0
                    have HD := HC.out.done SA.out SB.out HRF.out HR2.out HS2.out (RngC.refl mid b L2) s3
                    exact ⟨rfl, (hB.out.trans B2), (hK.out.trans K2), L2, HD.1, HD.2, O2⟩
                · have qb2 : ¬ (s : Int) < mid := by omega
                  by_cases hC1 : mid < e
                  · have qc1 : (mid : Int) < e := by omega
                    by_cases hC2 : e < b
                    · have qc2 : (e : Int) < b := by omega
                      have HRF := Lib.hid (RotF.same (s := s) (m := m) (e := e) L0 (by omega) (by omega) (by omega))
                      have P := Lib.hid (HC.out.parts SA.out SB.out HRF.out)
                      have SQ := Lib.hid (HC.out.seps HRF.out HP.out)
                      have HR2 := Lib.hid (RngC.refl a mid L0)
                      have HS2 : Hid (SrtC cf a mid L0) := Lib.hid (by rcases (show s ≤ a ∨ mid ≤ s by omega) with hh | hh; exact P.out.2.1.sub hh (Nat.le_refl _); exact P.out.1.sub (Nat.le_refl _) hh)
                      have HP3 := Lib.hid (P.out.2.2.1.keep HR2.out (Or.inr (Nat.le_refl _)))
                      have HP4 := Lib.hid (P.out.2.2.2.1.keep HR2.out (Or.inr (by omega)))
                      have R2 := Lib.hid (IHH.out mid e b L0 wr HL (by omega) (by omega) (by omega) (by omega) hOW (Lib.hid (KO.out.trans hK.out)) (by have := hB.out.size; omega) HP3 HP4 (Lib.hid (SQ.out.2.keep HR2.out (Or.inr (Nat.le_refl _)))))
                      go_wp2_with (first | (go_at_call 50; (with_reducible refine R2.out.mono ?_); rintro e3 w3 ⟨rfl, B3, K3, L3, r3, s3, O3⟩))
                      go_end0
                      have HD := HC.out.done SA.out SB.out HRF.out HR2.out HS2.out r3 s3
                      exact ⟨rfl, (hB.out.trans B3), (hK.out.trans K3), L3, HD.1, HD.2, O3⟩
                    · have qc2 : ¬ (e : Int) < b := by omega
                      have HRF := Lib.hid (RotF.same (s := s) (m := m) (e := e) L0 (by omega) (by omega) (by omega))
                      have P := Lib.hid (HC.out.parts SA.out SB.out HRF.out)
                      have SQ := Lib.hid (HC.out.seps HRF.out HP.out)
                      have HR2 := Lib.hid (RngC.refl a mid L0)
                      have HS2 : Hid (SrtC cf a mid L0) := Lib.hid (by rcases (show s ≤ a ∨ mid ≤ s by omega) with hh | hh; exact P.out.2.1.sub hh (Nat.le_refl _); exact P.out.1.sub (Nat.le_refl _) hh)
                      have HP3 := Lib.hid (P.out.2.2.1.keep HR2.out (Or.inr (Nat.le_refl _)))
                      have HP4 := Lib.hid (P.out.2.2.2.1.keep HR2.out (Or.inr (by omega)))
                      have s3 : SrtC cf mid b L0 := (by rcases (show e ≤ mid ∨ b ≤ e by omega) with hh | hh; exact HP4.out.sub hh (Nat.le_refl _); exact HP3.out.sub (Nat.le_refl _) hh)
                      go_wp2_with fail
                      go_end0
                      have HD := HC.out.done SA.out SB.out HRF.out HR2.out HS2.out (RngC.refl mid b L0) s3
                      exact ⟨rfl, hB.out, hK.out, L0, HD.1, HD.2, hOW⟩
                  · have qc1 : ¬ (mid : Int) < e := by omega
                    have HRF := Lib.hid (RotF.same (s := s) (m := m) (e := e) L0 (by omega) (by omega) (by omega))
                    have P := Lib.hid (HC.out.parts SA.out SB.out HRF.out)
                    have SQ := Lib.hid (HC.out.seps HRF.out HP.out)
                    have HR2 := Lib.hid (RngC.refl a mid L0)
                    have HS2 : Hid (SrtC cf a mid L0) := Lib.hid (by rcases (show s ≤ a ∨ mid ≤ s by omega) with hh | hh; exact P.out.2.1.sub hh (Nat.le_refl _); exact P.out.1.sub (Nat.le_refl _) hh)
                    have HP3 := Lib.hid (P.out.2.2.1.keep HR2.out (Or.inr (Nat.le_refl _)))
                    have HP4 := Lib.hid (P.out.2.2.2.1.keep HR2.out (Or.inr (by omega)))
                    have s3 : SrtC cf mid b L0 := (by rcases (show e ≤ mid ∨ b ≤ e by omega) with hh | hh; exact HP4.out.sub hh (Nat.le_refl _); exact HP3.out.sub (Nat.le_refl _) hh)
                    go_wp2_with fail
                    go_end0
                    have HD := HC.out.done SA.out SB.out HRF.out HR2.out HS2.out (RngC.refl mid b L0) s3
                    exact ⟨rfl, hB.out, hK.out, L0, HD.1, HD.2, hOW⟩
              · have qb1 : ¬ (a : Int) < s := by omega
                by_cases hC1 : mid < e
                · have qc1 : (mid : Int) < e := by omega
                  by_cases hC2 : e < b
                  · have qc2 : (e : Int) < b := by omega
                    have HRF := Lib.hid (RotF.same (s := s) (m := m) (e := e) L0 (by omega) (by omega) (by omega))
                    have P := Lib.hid (HC.out.parts SA.out SB.out HRF.out)
                    have SQ := Lib.hid (HC.out.seps HRF.out HP.out)
                    have HR2 := Lib.hid (RngC.refl a mid L0)
                    have HS2 : Hid (SrtC cf a mid L0) := Lib.hid (by rcases (show s ≤ a ∨ mid ≤ s by omega) with hh | hh; exact P.out.2.1.sub hh (Nat.le_refl _); exact P.out.1.sub (Nat.le_refl _) hh)
                    have HP3 := Lib.hid (P.out.2.2.1.keep HR2.out (Or.inr (Nat.le_refl _)))
                    have HP4 := Lib.hid (P.out.2.2.2.1.keep HR2.out (Or.inr (by omega)))
                    have R2 := Lib.hid (IHH.out mid e b L0 wr HL (by omega) (by omega) (by omega) (by omega) hOW (Lib.hid (KO.out.trans hK.out)) (by have := hB.out.size; omega) HP3 HP4 (Lib.hid (SQ.out.2.keep HR2.out (Or.inr (Nat.le_refl _)))))
                    go_wp2_with (first | (go_at_call 50; (with_reducible refine R2.out.mono ?_); rintro e3 w3 ⟨rfl, B3, K3, L3, r3, s3, O3⟩))
                    go_end0
                    have HD := HC.out.done SA.out SB.out HRF.out HR2.out HS2.out r3 s3
                    exact ⟨rfl, (hB.out.trans B3), (hK.out.trans K3), L3, HD.1, HD.2, O3⟩
                  · have qc2 : ¬ (e : Int) < b := by omega
                    have HRF := Lib.hid (RotF.same (s := s) (m := m) (e := e) L0 (by omega) (by omega) (by omega))
                    have P := Lib.hid (HC.out.parts SA.out SB.out HRF.out)
                    have SQ := Lib.hid (HC.out.seps HRF.out HP.out)
                    have HR2 := Lib.hid (RngC.refl a mid L0)
                    have HS2 : Hid (SrtC cf a mid L0) := Lib.hid (by rcases (show s ≤ a ∨ mid ≤ s by omega) with hh | hh; exact P.out.2.1.sub hh (Nat.le_refl _); exact P.out.1.sub (Nat.le_refl _) hh)
                    have HP3 := Lib.hid (P.out.2.2.1.keep HR2.out (Or.inr (Nat.le_refl _)))
                    have HP4 := Lib.hid (P.out.2.2.2.1.keep HR2.out (Or.inr (by omega)))
                    have s3 : SrtC cf mid b L0 := (by rcases (show e ≤ mid ∨ b ≤ e by omega) with hh | hh; exact HP4.out.sub hh (Nat.le_refl _); exact HP3.out.sub (Nat.le_refl _) hh)
                    go_wp2_with fail
                    go_end0
                    have HD := HC.out.done SA.out SB.out HRF.out HR2.out HS2.out (RngC.refl mid b L0) s3
                    exact ⟨rfl, hB.out, hK.out, L0, HD.1, HD.2, hOW⟩
                · have qc1 : ¬ (mid : Int) < e := by omega
                  have HRF := Lib.hid (RotF.same (s := s) (m := m) (e := e) L0 (by omega) (by omega) (by omega))
                  have P := Lib.hid (HC.out.parts SA.out SB.out HRF.out)
                  have SQ := Lib.hid (HC.out.seps HRF.out HP.out)
                  have HR2 := Lib.hid (RngC.refl a mid L0)
                  have HS2 : Hid (SrtC cf a mid L0) := Lib.hid (by rcases (show s ≤ a ∨ mid ≤ s by omega) with hh | hh; exact P.out.2.1.sub hh (Nat.le_refl _); exact P.out.1.sub (Nat.le_refl _) hh)
                  have HP3 := Lib.hid (P.out.2.2.1.keep HR2.out (Or.inr (Nat.le_refl _)))
                  have HP4 := Lib.hid (P.out.2.2.2.1.keep HR2.out (Or.inr (by omega)))
                  have s3 : SrtC cf mid b L0 := (by rcases (show e ≤ mid ∨ b ≤ e by omega) with hh | hh; exact HP4.out.sub hh (Nat.le_refl _); exact HP3.out.sub (Nat.le_refl _) hh)
                  go_wp2_with fail
                  go_end0
                  have HD := HC.out.done SA.out SB.out HRF.out HR2.out HS2.out (RngC.refl mid b L0) s3
                  exact ⟨rfl, hB.out, hK.out, L0, HD.1, HD.2, hOW⟩
          · have qa1 : ¬ (s : Int) < m := by omega
            by_cases hB1 : a < s
            · have qb1 : (a : Int) < s := by omega
              by_cases hB2 : s < mid
              · have qb2 : (s : Int) < mid := by omega
                by_cases hC1 : mid < e
                · have qc1 : (mid : Int) < e := by omega
                  by_cases hC2 : e < b
                  · have qc2 : (e : Int) < b := by omega
                    have HRF := Lib.hid (RotF.same (s := s) (m := m) (e := e) L0 (by omega) (by omega) (by omega))
                    have P := Lib.hid (HC.out.parts SA.out SB.out HRF.out)
                    have SQ := Lib.hid (HC.out.seps HRF.out HP.out)
                    have R1 := Lib.hid (IHH.out a s mid L0 wr HL (by omega) (by omega) (by omega) (by omega) hOW (Lib.hid (KO.out.trans hK.out)) (by have := hB.out.size; omega) (Lib.hid P.out.1) (Lib.hid P.out.2.1) (Lib.hid SQ.out.1))
                    go_wp2_with (first | (go_at_call 50; (with_reducible refine R1.out.mono ?_); rintro e2 w2 ⟨rfl, B2, K2, L2, r2, s2, O2⟩; have HL2 : Hid (L2.length = n ∧ ∀ x ∈ L2, x ∈ D) := Lib.hid ⟨by rw [r2.len]; exact HL.out.1, fun x hx => HL.out.2 _ (r2.perm.mem_iff.mp hx)⟩; have HR2 := Lib.hid r2; have HS2 := Lib.hid s2; have HP3 := Lib.hid (P.out.2.2.1.keep HR2.out (Or.inr (Nat.le_refl _))); have HP4 := Lib.hid (P.out.2.2.2.1.keep HR2.out (Or.inr (by omega))); have R2 := Lib.hid (IHH.out mid e b L2 w2 HL2 (by omega) (by omega) (by omega) (by omega) O2 (Lib.hid (KO.out.trans (hK.out.trans K2))) (by have := (hB.out.trans B2).size; omega) HP3 HP4 (Lib.hid (SQ.out.2.keep HR2.out (Or.inr (Nat.le_refl _)))))) | (go_at_call 50; (with_reducible refine R2.out.mono ?_); rintro e3 w3 ⟨rfl, B3, K3, L3, r3, s3, O3⟩))
                    go_end0
                    have HD := HC.out.done SA.out SB.out HRF.out HR2.out HS2.out r3 s3
                    exact ⟨rfl, ((hB.out.trans B2).trans B3), ((hK.out.trans K2).trans K3), L3, HD.1, HD.2, O3⟩
                  · have qc2 : ¬ (e : Int) < b := by omega
                    have HRF := Lib.hid (RotF.same (s := s) (m := m) (e := e) L0 (by omega) (by omega) (by omega))
                    have P := Lib.hid (HC.out.parts SA.out SB.out HRF.out)
                    have SQ := Lib.hid (HC.out.seps HRF.out HP.out)
                    have R1 := Lib.hid (IHH.out a s mid L0 wr HL (by omega) (by omega) (by omega) (by omega) hOW (Lib.hid (KO.out.trans hK.out)) (by have := hB.out.size; omega) (Lib.hid P.out.1) (Lib.hid P.out.2.1) (Lib.hid SQ.out.1))
                    go_wp2_with (first | (go_at_call 50; (with_reducible refine R1.out.mono ?_); rintro e2 w2 ⟨rfl, B2, K2, L2, r2, s2, O2⟩; have HL2 : Hid (L2.length = n ∧ ∀ x ∈ L2, x ∈ D) := Lib.hid ⟨by rw [r2.len]; exact HL.out.1, fun x hx => HL.out.2 _ (r2.perm.mem_iff.mp hx)⟩; have HR2 := Lib.hid r2; have HS2 := Lib.hid s2; have HP3 := Lib.hid (P.out.2.2.1.keep HR2.out (Or.inr (Nat.le_refl _))); have HP4 := Lib.hid (P.out.2.2.2.1.keep HR2.out (Or.inr (by omega))); have s3 : SrtC cf mid b L2 := (by rcases (show e ≤ mid ∨ b ≤ e by omega) with hh | hh; exact HP4.out.sub hh (Nat.le_refl _); exact HP3.out.sub (Nat.le_refl _) hh)))
                    go_end0
                    have HD := HC.out.done SA.out SB.out HRF.out HR2.out HS2.out (RngC.refl mid b L2) s3
                    exact ⟨rfl, (hB.out.trans B2), (hK.out.trans K2), L2, HD.1, HD.2, O2⟩
                · have qc1 : ¬ (mid : Int) < e := by omega
                  have HRF := Lib.hid (RotF.same (s := s) (m := m) (e := e) L0 (by omega) (by omega) (by omega))
                  have P := Lib.hid (HC.out.parts SA.out SB.out HRF.out)
                  have SQ := Lib.hid (HC.out.seps HRF.out HP.out)
                  have R1 := Lib.hid (IHH.out a s mid L0 wr HL (by omega) (by omega) (by omega) (by omega) hOW (Lib.hid (KO.out.trans hK.out)) (by have := hB.out.size; omega) (Lib.hid P.out.1) (Lib.hid P.out.2.1) (Lib.hid SQ.out.1))
                  go_wp2_with (first | (go_at_call 50; (with_reducible refine R1.out.mono ?_); rintro e2 w2 ⟨rfl, B2, K2, L2, r2, s2, O2⟩; have HL2 : Hid (L2.length = n ∧ ∀ x ∈ L2, x ∈ D) := Lib.hid ⟨by rw [r2.len]; exact HL.out.1, fun x hx => HL.out.2 _ (r2.perm.mem_iff.mp hx)⟩; have HR2 := Lib.hid r2; have HS2 := Lib.hid s2; have HP3 := Lib.hid (P.out.2.2.1.keep HR2.out (Or.inr (Nat.le_refl _))); have HP4 := Lib.hid (P.out.2.2.2.1.keep HR2.out (Or.inr (by omega))); have s3 : SrtC cf mid b L2 := (by rcases (show e ≤ mid ∨ b ≤ e by omega) with hh | hh; exact HP4.out.sub hh (Nat.le_refl _); exact HP3.out.sub (Nat.le_refl _) hh)))
                  go_end0
                  have HD := HC.out.done SA.out SB.out HRF.out HR2.out HS2.out (RngC.refl mid b L2) s3
                  exact ⟨rfl, (hB.out.trans B2), (hK.out.trans K2), L2, HD.1, HD.2, O2⟩
              · have qb2 : ¬ (s : Int) < mid := by omega
                by_cases hC1 : mid < e
                · have qc1 : (mid : Int) < e := by omega
                  by_cases hC2 : e < b
                  · have qc2 : (e : Int) < b := by omega
                    have HRF := Lib.hid (RotF.same (s := s) (m := m) (e := e) L0 (by omega) (by omega) (by omega))
                    have P := Lib.hid (HC.out.parts SA.out SB.out HRF.out)
                    have SQ := Lib.hid (HC.out.seps HRF.out HP.out)
                    have HR2 := Lib.hid (RngC.refl a mid L0)
                    have HS2 : Hid (SrtC cf a mid L0) := Lib.hid (by rcases (show s ≤ a ∨ mid ≤ s by omega) with hh | hh; exact P.out.2.1.sub hh (Nat.le_refl _); exact P.out.1.sub (Nat.le_refl _) hh)
                    have HP3 := Lib.hid (P.out.2.2.1.keep HR2.out (Or.inr (Nat.le_refl _)))
                    have HP4 := Lib.hid (P.out.2.2.2.1.keep HR2.out (Or.inr (by omega)))
                    have R2 := Lib.hid (IHH.out mid e b L0 wr HL (by omega) (by omega) (by omega) (by omega) hOW (Lib.hid (KO.out.trans hK.out)) (by have := hB.out.size; omega) HP3 HP4 (Lib.hid (SQ.out.2.keep HR2.out (Or.inr (Nat.le_refl _)))))
                    go_wp2_with (first | (go_at_call 50; (with_reducible refine R2.out.mono ?_); rintro e3 w3 ⟨rfl, B3, K3, L3, r3, s3, O3⟩))
                    go_end0
                    have HD := HC.out.done SA.out SB.out HRF.out HR2.out HS2.out r3 s3
                    exact ⟨rfl, (hB.out.trans B3), (hK.out.trans K3), L3, HD.1, HD.2, O3⟩
                  · have qc2 : ¬ (e : Int) < b := by omega
                    have HRF := Lib.hid (RotF.same (s := s) (m := m) (e := e) L0 (by omega) (by omega) (by omega))
                    have P := Lib.hid (HC.out.parts SA.out SB.out HRF.out)
                    have SQ := Lib.hid (HC.out.seps HRF.out HP.out)
                    have HR2 := Lib.hid (RngC.refl a mid L0)
                    have HS2 : Hid (SrtC cf a mid L0) := Lib.hid (by rcases (show s ≤ a ∨ mid ≤ s by omega) with hh | hh; exact P.out.2.1.sub hh (Nat.le_refl _); exact P.out.1.sub (Nat.le_refl _) hh)
                    have HP3 := Lib.hid (P.out.2.2.1.keep HR2.out (Or.inr (Nat.le_refl _)))
                    have HP4 := Lib.hid (P.out.2.2.2.1.keep HR2.out (Or.inr (by omega)))
                    have s3 : SrtC cf mid b L0 := (by rcases (show e ≤ mid ∨ b ≤ e by omega) with hh | hh; exact HP4.out.sub hh (Nat.le_refl _); exact HP3.out.sub (Nat.le_refl _) hh)
                    go_wp2_with fail
                    go_end0
                    have HD := HC.out.done SA.out SB.out HRF.out HR2.out HS2.out (RngC.refl mid b L0) s3
                    exact ⟨rfl, hB.out, hK.out, L0, HD.1, HD.2, hOW⟩
                · have qc1 : ¬ (mid : Int) < e := by omega
                  have HRF := Lib.hid (RotF.same (s := s) (m := m) (e := e) L0 (by omega) (by omega) (by omega))
                  have P := Lib.hid (HC.out.parts SA.out SB.out HRF.out)
                  have SQ := Lib.hid (HC.out.seps HRF.out HP.out)
                  have HR2 := Lib.hid (RngC.refl a mid L0)
                  have HS2 : Hid (SrtC cf a mid L0) := Lib.hid (by rcases (show s ≤ a ∨ mid ≤ s by omega) with hh | hh; exact P.out.2.1.sub hh (Nat.le_refl _); exact P.out.1.sub (Nat.le_refl _) hh)
                  have HP3 := Lib.hid (P.out.2.2.1.keep HR2.out (Or.inr (Nat.le_refl _)))
                  have HP4 := Lib.hid (P.out.2.2.2.1.keep HR2.out (Or.inr (by omega)))
                  have s3 : SrtC cf mid b L0 := (by rcases (show e ≤ mid ∨ b ≤ e by omega) with hh | hh; exact HP4.out.sub hh (Nat.le_refl _); exact HP3.out.sub (Nat.le_refl _) hh)
                  go_wp2_with fail
                  go_end0
                  have HD := HC.out.done SA.out SB.out HRF.out HR2.out HS2.out (RngC.refl mid b L0) s3
                  exact ⟨rfl, hB.out, hK.out, L0, HD.1, HD.2, hOW⟩
            · have qb1 : ¬ (a : Int) < s := by omega
              by_cases hC1 : mid < e
              · have qc1 : (mid : Int) < e := by omega
                by_cases hC2 : e < b
                · have qc2 : (e : Int) < b := by omega
                  have HRF := Lib.hid (RotF.same (s := s) (m := m) (e := e) L0 (by omega) (by omega) (by omega))
                  have P := Lib.hid (HC.out.parts SA.out SB.out HRF.out)
                  have SQ := Lib.hid (HC.out.seps HRF.out HP.out)
                  have HR2 := Lib.hid (RngC.refl a mid L0)
                  have HS2 : Hid (SrtC cf a mid L0) := Lib.hid (by rcases (show s ≤ a ∨ mid ≤ s by omega) with hh | hh; exact P.out.2.1.sub hh (Nat.le_refl _); exact P.out.1.sub (Nat.le_refl _) hh)
                  have HP3 := Lib.hid (P.out.2.2.1.keep HR2.out (Or.inr (Nat.le_refl _)))
                  have HP4 := Lib.hid (P.out.2.2.2.1.keep HR2.out (Or.inr (by omega)))
                  have R2 := Lib.hid (IHH.out mid e b L0 wr HL (by omega) (by omega) (by omega) (by omega) hOW (Lib.hid (KO.out.trans hK.out)) (by have := hB.out.size; omega) HP3 HP4 (Lib.hid (SQ.out.2.keep HR2.out (Or.inr (Nat.le_refl _)))))
                  go_wp2_with (first | (go_at_call 50; (with_reducible refine R2.out.mono ?_); rintro e3 w3 ⟨rfl, B3, K3, L3, r3, s3, O3⟩))
                  go_end0
                  have HD := HC.out.done SA.out SB.out HRF.out HR2.out HS2.out r3 s3
                  exact ⟨rfl, (hB.out.trans B3), (hK.out.trans K3), L3, HD.1, HD.2, O3⟩
                · have qc2 : ¬ (e : Int) < b := by omega
                  have HRF := Lib.hid (RotF.same (s := s) (m := m) (e := e) L0 (by omega) (by omega) (by omega))
                  have P := Lib.hid (HC.out.parts SA.out SB.out HRF.out)
                  have SQ := Lib.hid (HC.out.seps HRF.out HP.out)
                  have HR2 := Lib.hid (RngC.refl a mid L0)
                  have HS2 : Hid (SrtC cf a mid L0) := Lib.hid (by rcases (show s ≤ a ∨ mid ≤ s by omega) with hh | hh; exact P.out.2.1.sub hh (Nat.le_refl _); exact P.out.1.sub (Nat.le_refl _) hh)
                  have HP3 := Lib.hid (P.out.2.2.1.keep HR2.out (Or.inr (Nat.le_refl _)))
                  have HP4 := Lib.hid (P.out.2.2.2.1.keep HR2.out (Or.inr (by omega)))
                  have s3 : SrtC cf mid b L0 := (by rcases (show e ≤ mid ∨ b ≤ e by omega) with hh | hh; exact HP4.out.sub hh (Nat.le_refl _); exact HP3.out.sub (Nat.le_refl _) hh)
                  go_wp2_with fail
                  go_end0
                  have HD := HC.out.done SA.out SB.out HRF.out HR2.out HS2.out (RngC.refl mid b L0) s3
                  exact ⟨rfl, hB.out, hK.out, L0, HD.1, HD.2, hOW⟩
              · have qc1 : ¬ (mid : Int) < e := by omega
                have HRF := Lib.hid (RotF.same (s := s) (m := m) (e := e) L0 (by omega) (by omega) (by omega))
                have P := Lib.hid (HC.out.parts SA.out SB.out HRF.out)
                have SQ := Lib.hid (HC.out.seps HRF.out HP.out)
                have HR2 := Lib.hid (RngC.refl a mid L0)
                have HS2 : Hid (SrtC cf a mid L0) := Lib.hid (by rcases (show s ≤ a ∨ mid ≤ s by omega) with hh | hh; exact P.out.2.1.sub hh (Nat.le_refl _); exact P.out.1.sub (Nat.le_refl _) hh)
                have HP3 := Lib.hid (P.out.2.2.1.keep HR2.out (Or.inr (Nat.le_refl _)))
                have HP4 := Lib.hid (P.out.2.2.2.1.keep HR2.out (Or.inr (by omega)))
                have s3 : SrtC cf mid b L0 := (by rcases (show e ≤ mid ∨ b ≤ e by omega) with hh | hh; exact HP4.out.sub hh (Nat.le_refl _); exact HP3.out.sub (Nat.le_refl _) hh)
                go_wp2_with fail
                go_end0
                have HD := HC.out.done SA.out SB.out HRF.out HR2.out HS2.out (RngC.refl mid b L0) s3
                exact ⟨rfl, hB.out, hK.out, L0, HD.1, HD.2, hOW⟩
end Go.Proofs.Ytghnigmmkenddaa.Ar
