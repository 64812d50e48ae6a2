/- The merge where the second part has one element. -/
import Derived.Test.YtghnigmmkenddaaS8
namespace Go.Proofs.Ytghnigmmkenddaa.Ar
open Go.ChangeShapes Go.WideShapes Go.ChangeAt Go.RowKit

set_option linter.unusedVariables false
set_option linter.unusedSimpArgs false

set_option maxRecDepth 100000 in
set_option maxHeartbeats 8000000 in
/-- The merge where the second part has one element. -/
theorem sm2 (kf : Nat) (q1 q2 : Value) (g cap base n a m b : Nat) (D L0 : List Int) (cf : Int → Int → Int) (O : OrdC cf) (wo w : World) (hn : n ≤ 100000) (HL : Hid (L0.length = n ∧ ∀ x ∈ L0, x ∈ D)) (h1 : a < m) (h2 : m < b) (h3 : b ≤ n) (hO : Hid (w.ownsRow base 3 1 (.slice (some ⟨g, 0, none⟩) n cap) n (rowE L0))) (HKF : Hid (∀ args w, (Go.callFunc kf args).run Try.prog w = .ok (.enter kf args) w)) (NC : Hid (∀ x y, x ∈ D → y ∈ D → y < x → ∀ w', KG g wo w' → Calls Try.prog kf #[.int .i64 x, .int .i64 y, q1, q2] w' fun e w2 => (∃ v, e = .returned (.int .i64 v) ∧ decide (v < 0) = decide (cf x y < 0)) ∧ Below w'.heap.size w' w2)) (KO : Hid (KG g wo w)) (hbw : base ≤ w.heap.size) (SA : Hid (SrtC cf a m L0)) (SB : Hid (SrtC cf m b L0)) (HP : Hid (Sp a m b L0)) (ha : a + 1 < m) (hm : b = m + 1) :
    Calls Try.prog 50 #[.slice (some ⟨g, 0, none⟩) n cap, .int .i64 (a : Int), .int .i64 (m : Int), .int .i64 (b : Int), .func (.func kf) #[] #[q1, q2]] w fun e w' => e = .returned (.tuple #[]) ∧ Below base w w' ∧ KG g w w' ∧ ∃ L', RngC a b L0 L' ∧ SrtC cf a b L' ∧ Hid (w'.ownsRow base 3 1 (.slice (some ⟨g, 0, none⟩) n cap) n (rowE L')) := by
  have hbase : base ≤ g ∨ n = 0 := by
    rcases hO.out.2 with ⟨h, hz⟩ | ⟨g', cap', cur, h, hb, _⟩
    · simp at h
    · cases h; exact .inl hb
  have OO := Lib.hid O
  clear O
  have HMA := Lib.hid hm
  have c1 : (b : Int) - (m : Int) = 1 := by omega
  have c2 : ((m : Int) - (a : Int) == 1) = false := by rw [beq_eq_false_iff_ne]; omega
  clear hm
  go_enter Try.func50, Try.ntmps50
  go_wp2_with fail
  go_loopw [14, 15] (fun iv jv wr => ∃ (i j : Nat), iv = .int .i64 (i : Int) ∧ jv = .int .i64 (j : Int) ∧ i ≤ j ∧ a ≤ i ∧ j ≤ m ∧ Hid (BisD cf L0 (L0.getD m e50) a m i j) ∧ Hid (wr.ownsRow base 3 1 (.slice (some ⟨g, 0, none⟩) n cap) n (rowE L0)) ∧ Hid (Below base w wr) ∧ Hid (KG g w wr)) (fun iv jv _ => (intOf jv).toNat - (intOf iv).toNat)
  case atStart => exact ⟨a, m, by go_num, by go_num, by omega, by omega, by omega, Lib.hid ⟨by omega, by omega, by omega, fun h k1 k2 => absurd k1 (by omega), fun h k1 k2 => absurd k1 (by omega)⟩, hO, Lib.hid (Below.refl _ _), Lib.hid (KG.refl _ _)⟩
  case round =>
    clear hO
    obtain ⟨i, j, rfl, rfl, hij, hai, hjb, HB, hOW, hB, hK⟩ := hrel
    by_cases hlt : i < j
    · have i1 : (i : Int) < j := by omega
      go_wp2_with fail
      obtain ⟨h, hh⟩ : ∃ h, h = (i + j) / 2 := ⟨_, rfl⟩
      have hh1 : i ≤ h := by omega
      have hh2 : h < j := by omega
      have hv : ((i : Int) + (j : Int)) / 2 = (h : Int) := by omega
      rw [hv]
      clear hv hh
      have hpL : m < L0.length := by rw [HL.out.1]; omega
      have hqL : h < L0.length := by rw [HL.out.1]; omega
      have v0 := rowE_get L0 m hpL
      have u0 := rowE_get L0 h hqL
      have HX : Hid (L0.getD m e50 ∈ D) := Lib.hid (HL.out.2 _ (getD_mem5 hpL))
      have HY : Hid (L0.getD h e50 ∈ D) := Lib.hid (HL.out.2 _ (getD_mem5 hqL))
      have HLT : Hid (L0.getD h e50 < L0.getD m e50) := Lib.hid (HP.out h m (by omega) (by omega) (Nat.le_refl _) (by omega))
      have c0 := (hOW.out.cellAt m (by omega)).trans v0
      have d0 := (hOW.out.cellAt h (by omega)).trans u0
      obtain ⟨x, hx⟩ : ∃ x, L0.getD m e50 = x := ⟨_, rfl⟩
      obtain ⟨y, hy⟩ : ∃ y, L0.getD h e50 = y := ⟨_, rfl⟩
      have HX0 := Lib.hid hx
      have HY0 := Lib.hid hy
      rw [hx] at c0 HX HLT
      rw [hy] at d0 HY HLT
      have j2 : (m : Int) < n := by have := HL.out.1; omega
      have j3 : (h : Int) < n := by have := HL.out.1; omega
      have j4 : (0 : Int) ≤ m := by omega
      have j5 : (0 : Int) ≤ h := by omega
      have HKW := Lib.hid (KO.out.trans hK.out)
      have hzr : wr.drew.cell? ⟨g, m, none⟩ = some (.int .i64 x) ∧ wr.drew.cell? ⟨g, h, none⟩ = some (.int .i64 y) ∧ Below wr.heap.size wr wr.drew := ⟨c0, d0, (Below.refl _ _).drew⟩
      have HS : Hid (∀ u u' : World, (u.cell? ⟨g, m, none⟩ = some (.int .i64 x) ∧ u.cell? ⟨g, h, none⟩ = some (.int .i64 y) ∧ Below wr.heap.size wr u) → Below u.heap.size u u' → (u'.cell? ⟨g, m, none⟩ = some (.int .i64 x) ∧ u'.cell? ⟨g, h, none⟩ = some (.int .i64 y) ∧ Below wr.heap.size wr u')) := Lib.hid (fun u u' h hb => ⟨Rg.keep hb (World.block_lt_of_cell? _ _ h.1) h.1, Rg.keep hb (World.block_lt_of_cell? _ _ h.2.1) h.2.1, h.2.2.trans (hb.mono h.2.2.size)⟩)
      clear v0 u0 c0 d0
      by_cases hneg : cf x y < 0
      · have hr2 : decide (cf x y < 0) = true := by simpa using hneg
        have HB2 := Lib.hid (HB.out.down OO.out SA.out hh1 hh2 (by rw [HX0.out, HY0.out]; exact hneg))
        refine Rk.begin (S := fun wS => wS.cell? ⟨g, m, none⟩ = some (.int .i64 x) ∧ wS.cell? ⟨g, h, none⟩ = some (.int .i64 y) ∧ Below wr.heap.size wr wS) 10 (by kernel_rfl) hzr (fun hHeld => ?_)
        refine Rk.takeP (i := 0) (v := ?_) rfl (by kernel_rfl) (by kernel_rfl) (by kernel_rfl) (by kernel_rfl) (fun _ _ _ h => h) (Or.inl ⟨by kernel_rfl, ?_⟩) (by assumption) ?_
        rotate_left
        · ((intro w hSw; go_simp) <;> with_reducible rfl)
        try simp only [Act.put, List.setIfInBounds_toArray, List.set_cons_zero, List.set_cons_succ]
        refine Rk.takeP (i := 1) (v := ?_) rfl (by kernel_rfl) (by kernel_rfl) (by kernel_rfl) (by kernel_rfl) (fun _ _ _ h => h) (Or.inl ⟨by kernel_rfl, ?_⟩) (by assumption) ?_
        rotate_left
        · ((intro w hSw; go_simp) <;> with_reducible rfl)
        try simp only [Act.put, List.setIfInBounds_toArray, List.set_cons_zero, List.set_cons_succ]
        refine Rk.takeP (i := 2) (v := ?_) rfl (by kernel_rfl) (by kernel_rfl) (by kernel_rfl) (by kernel_rfl) (fun _ _ _ h => h) (Or.inl ⟨by kernel_rfl, ?_⟩) (by assumption) ?_
        rotate_left
        · ((intro w hSw; go_simp) <;> with_reducible rfl)
        try simp only [Act.put, List.setIfInBounds_toArray, List.set_cons_zero, List.set_cons_succ]
        refine Rk.takeP (i := 3) (v := ?_) rfl (by kernel_rfl) (by kernel_rfl) (by kernel_rfl) (by kernel_rfl) (fun _ _ _ h => h) (Or.inl ⟨by kernel_rfl, ?_⟩) (by assumption) ?_
        rotate_left
        · ((intro w hSw; go_simp) <;> with_reducible rfl)
        try simp only [Act.put, List.setIfInBounds_toArray, List.set_cons_zero, List.set_cons_succ]
        refine Rk.take [9, 10] (i := 4) (v := ?_) rfl (by kernel_rfl) (by kernel_rfl) (by kernel_rfl) (by kernel_rfl) (by kernel_rfl) (fun _ _ _ h => h) (Or.inl ⟨by kernel_rfl, ?_⟩) (by assumption) ?_
        rotate_left
        · ((intro w hSw; (try dsimp only at hSw); go_simp) <;> with_reducible rfl)
        try simp only [Act.put, List.setIfInBounds_toArray, List.set_cons_zero, List.set_cons_succ]
        refine Rk.takeP (i := 5) (v := ?_) rfl (by kernel_rfl) (by kernel_rfl) (by kernel_rfl) (by kernel_rfl) (fun _ _ _ h => h) (Or.inl ⟨by kernel_rfl, ?_⟩) (by assumption) ?_
        rotate_left
        · ((intro w hSw; go_simp) <;> with_reducible rfl)
        try simp only [Act.put, List.setIfInBounds_toArray, List.set_cons_zero, List.set_cons_succ]
        refine Rk.takeP (i := 6) (v := ?_) rfl (by kernel_rfl) (by kernel_rfl) (by kernel_rfl) (by kernel_rfl) (fun _ _ _ h => h) (Or.inl ⟨by kernel_rfl, ?_⟩) (by assumption) ?_
        rotate_left
        · ((intro w hSw; go_simp) <;> with_reducible rfl)
        try simp only [Act.put, List.setIfInBounds_toArray, List.set_cons_zero, List.set_cons_succ]
        refine Rk.takeP (i := 7) (v := ?_) rfl (by kernel_rfl) (by kernel_rfl) (by kernel_rfl) (by kernel_rfl) (fun _ _ _ h => h) (Or.inl ⟨by kernel_rfl, ?_⟩) (by assumption) ?_
        rotate_left
        · ((intro w hSw; go_simp) <;> with_reducible rfl)
        try simp only [Act.put, List.setIfInBounds_toArray, List.set_cons_zero, List.set_cons_succ]
        refine Rk.take [9, 10] (i := 8) (v := ?_) rfl (by kernel_rfl) (by kernel_rfl) (by kernel_rfl) (by kernel_rfl) (by kernel_rfl) (fun _ _ _ h => h) (Or.inl ⟨by kernel_rfl, ?_⟩) (by assumption) ?_
        rotate_left
        · ((intro w hSw; (try dsimp only at hSw); go_simp) <;> with_reducible rfl)
        try simp only [Act.put, List.setIfInBounds_toArray, List.set_cons_zero, List.set_cons_succ]
        refine Rk.one (i := 9) (by kernel_rfl) rfl (fun KK hK => ?_)
        rw [if_pos (by kernel_rfl)]
        go_simp
        rw [HKF.out, Oper.upon_enter]
        ((with_reducible refine (NC.out x y HX.out HY.out HLT.out _ (HKW.out.trans (KG.below (hHeld.2.2)))).mono ?_); rintro e u ⟨⟨v, rfl, hv⟩, hb⟩; replace hv := hv.trans hr2)
        first | (refine hK.out _ _ (fun _ => HS.out _ _ hHeld hb) (fun hHeld => ?_)) | (refine hK.out _ _ (HS.out _ _ hHeld hb) (fun hHeld => ?_)) | (go_wp2_with fail; refine hK.out _ _ (HS.out _ _ hHeld hb) (fun hHeld => ?_))
        clear hK KK
        refine Rk.tail [10, 11] [_, _] (by kernel_rfl) (by kernel_rfl) rfl (by decide) ?_
        have KB0 := hHeld.2.2
        have O2 := Lib.hid (own_belowE hOW.out KB0)
        have B2 := Lib.hid (hB.out.trans (KB0.mono (by have := hB.out.size; omega)))
        have K2 := Lib.hid (hK.out.trans (KG.below KB0))
        clear hHeld HS hOW hB hK KB0
        go_wp2_with fail
        go_roundw
        case rel => exact ⟨i, h, by go_num, by go_num, by omega, by omega, by omega, HB2, O2, B2, K2⟩
        case measure => simp [intOf]; omega
      · have hr2 : decide (cf x y < 0) = false := by simpa using hneg
        have HB2 := Lib.hid (HB.out.up OO.out SA.out hh1 hh2 (by rw [HX0.out, HY0.out]; exact hneg))
        refine Rk.begin (S := fun wS => wS.cell? ⟨g, m, none⟩ = some (.int .i64 x) ∧ wS.cell? ⟨g, h, none⟩ = some (.int .i64 y) ∧ Below wr.heap.size wr wS) 10 (by kernel_rfl) hzr (fun hHeld => ?_)
        refine Rk.takeP (i := 0) (v := ?_) rfl (by kernel_rfl) (by kernel_rfl) (by kernel_rfl) (by kernel_rfl) (fun _ _ _ h => h) (Or.inl ⟨by kernel_rfl, ?_⟩) (by assumption) ?_
        rotate_left
        · ((intro w hSw; go_simp) <;> with_reducible rfl)
        try simp only [Act.put, List.setIfInBounds_toArray, List.set_cons_zero, List.set_cons_succ]
        refine Rk.takeP (i := 1) (v := ?_) rfl (by kernel_rfl) (by kernel_rfl) (by kernel_rfl) (by kernel_rfl) (fun _ _ _ h => h) (Or.inl ⟨by kernel_rfl, ?_⟩) (by assumption) ?_
        rotate_left
        · ((intro w hSw; go_simp) <;> with_reducible rfl)
        try simp only [Act.put, List.setIfInBounds_toArray, List.set_cons_zero, List.set_cons_succ]
        refine Rk.takeP (i := 2) (v := ?_) rfl (by kernel_rfl) (by kernel_rfl) (by kernel_rfl) (by kernel_rfl) (fun _ _ _ h => h) (Or.inl ⟨by kernel_rfl, ?_⟩) (by assumption) ?_
        rotate_left
        · ((intro w hSw; go_simp) <;> with_reducible rfl)
        try simp only [Act.put, List.setIfInBounds_toArray, List.set_cons_zero, List.set_cons_succ]
        refine Rk.takeP (i := 3) (v := ?_) rfl (by kernel_rfl) (by kernel_rfl) (by kernel_rfl) (by kernel_rfl) (fun _ _ _ h => h) (Or.inl ⟨by kernel_rfl, ?_⟩) (by assumption) ?_
        rotate_left
        · ((intro w hSw; go_simp) <;> with_reducible rfl)
        try simp only [Act.put, List.setIfInBounds_toArray, List.set_cons_zero, List.set_cons_succ]
        refine Rk.take [9, 10] (i := 4) (v := ?_) rfl (by kernel_rfl) (by kernel_rfl) (by kernel_rfl) (by kernel_rfl) (by kernel_rfl) (fun _ _ _ h => h) (Or.inl ⟨by kernel_rfl, ?_⟩) (by assumption) ?_
        rotate_left
        · ((intro w hSw; (try dsimp only at hSw); go_simp) <;> with_reducible rfl)
        try simp only [Act.put, List.setIfInBounds_toArray, List.set_cons_zero, List.set_cons_succ]
        refine Rk.takeP (i := 5) (v := ?_) rfl (by kernel_rfl) (by kernel_rfl) (by kernel_rfl) (by kernel_rfl) (fun _ _ _ h => h) (Or.inl ⟨by kernel_rfl, ?_⟩) (by assumption) ?_
        rotate_left
        · ((intro w hSw; go_simp) <;> with_reducible rfl)
        try simp only [Act.put, List.setIfInBounds_toArray, List.set_cons_zero, List.set_cons_succ]
        refine Rk.takeP (i := 6) (v := ?_) rfl (by kernel_rfl) (by kernel_rfl) (by kernel_rfl) (by kernel_rfl) (fun _ _ _ h => h) (Or.inl ⟨by kernel_rfl, ?_⟩) (by assumption) ?_
        rotate_left
        · ((intro w hSw; go_simp) <;> with_reducible rfl)
        try simp only [Act.put, List.setIfInBounds_toArray, List.set_cons_zero, List.set_cons_succ]
        refine Rk.takeP (i := 7) (v := ?_) rfl (by kernel_rfl) (by kernel_rfl) (by kernel_rfl) (by kernel_rfl) (fun _ _ _ h => h) (Or.inl ⟨by kernel_rfl, ?_⟩) (by assumption) ?_
        rotate_left
        · ((intro w hSw; go_simp) <;> with_reducible rfl)
        try simp only [Act.put, List.setIfInBounds_toArray, List.set_cons_zero, List.set_cons_succ]
        refine Rk.take [9, 10] (i := 8) (v := ?_) rfl (by kernel_rfl) (by kernel_rfl) (by kernel_rfl) (by kernel_rfl) (by kernel_rfl) (fun _ _ _ h => h) (Or.inl ⟨by kernel_rfl, ?_⟩) (by assumption) ?_
        rotate_left
        · ((intro w hSw; (try dsimp only at hSw); go_simp) <;> with_reducible rfl)
        try simp only [Act.put, List.setIfInBounds_toArray, List.set_cons_zero, List.set_cons_succ]
        refine Rk.one (i := 9) (by kernel_rfl) rfl (fun KK hK => ?_)
        rw [if_pos (by kernel_rfl)]
        go_simp
        rw [HKF.out, Oper.upon_enter]
        ((with_reducible refine (NC.out x y HX.out HY.out HLT.out _ (HKW.out.trans (KG.below (hHeld.2.2)))).mono ?_); rintro e u ⟨⟨v, rfl, hv⟩, hb⟩; replace hv := hv.trans hr2)
        first | (refine hK.out _ _ (fun _ => HS.out _ _ hHeld hb) (fun hHeld => ?_)) | (refine hK.out _ _ (HS.out _ _ hHeld hb) (fun hHeld => ?_)) | (go_wp2_with fail; refine hK.out _ _ (HS.out _ _ hHeld hb) (fun hHeld => ?_))
        clear hK KK
        refine Rk.tail [10, 11] [_, _] (by kernel_rfl) (by kernel_rfl) rfl (by decide) ?_
        have KB0 := hHeld.2.2
        have O2 := Lib.hid (own_belowE hOW.out KB0)
        have B2 := Lib.hid (hB.out.trans (KB0.mono (by have := hB.out.size; omega)))
        have K2 := Lib.hid (hK.out.trans (KG.below KB0))
        clear hHeld HS hOW hB hK KB0
        go_wp2_with fail
        go_roundw
        case rel => exact ⟨h + 1, j, by go_num, by go_num, by omega, by omega, by omega, HB2, O2, B2, K2⟩
        case measure => simp [intOf]; omega
    · obtain rfl : i = j := by omega
      have i1 : ¬ (i : Int) < i := by omega
      have HF := Lib.hid (put_last OO.out (by rw [HL.out.1]; omega) hai hjb SA.out HB.out.below HB.out.above)
      rw [← HMA.out] at HF
      obtain ⟨RES, hRES⟩ : ∃ RES, shD (m - i) m L0 = RES := ⟨_, rfl⟩
      rw [hRES] at HF
      have HR := Lib.hid hRES
      clear hRES HB NC HKF KO HP
      go_wp2_with fail
      go_loopw [17] (fun kv wr => ∃ (k : Nat) (L : List Int), kv = .int .i64 (k : Int) ∧ i ≤ k ∧ k ≤ m ∧ Hid (shD (k - i) k L = RES) ∧ Hid (L.length = n ∧ ∀ x ∈ L, x ∈ D) ∧ Hid (wr.ownsRow base 3 1 (.slice (some ⟨g, 0, none⟩) n cap) n (rowE L)) ∧ Hid (Below base w wr) ∧ Hid (KG g w wr)) (fun kv _ => (intOf kv).toNat)
      case atStart => exact ⟨m, L0, by go_num, by omega, by omega, HR, HL, hOW, hB, hK⟩
      case round =>
        clear hOW hB hK HR HL
        obtain ⟨k, L, rfl, hak, hki, HR, HM, hOW, hB, hK⟩ := hrel
        by_cases hlt : i < k
        · have i2 : (i : Int) < k := by omega
          obtain ⟨k1, hk1⟩ : ∃ k1, k1 = k - 1 := ⟨_, rfl⟩
          have hv : (k : Int) - 1 = (k1 : Int) := by omega
          have wk : IntKind.i64.wrap (k1 : Int) = (k1 : Int) := by rw [IntKind.wrap_i64]; omega
          have HR2 : Hid (shD (k1 - i) k1 (swE L k k1) = RES) := Lib.hid (by
            have h := HR.out
            rw [show k - i = (k1 - i) + 1 by omega] at h
            unfold shD at h
            rw [← hk1] at h; exact h)
          clear hk1
          have hpL : k < L.length := by rw [HM.out.1]; omega
          have hqL : k1 < L.length := by rw [HM.out.1]; omega
          have v0 := rowE_get L k hpL
          have u0 := rowE_get L k1 hqL
          have HX : Hid (L.getD k e50 ∈ D) := Lib.hid (HM.out.2 _ (getD_mem5 hpL))
          have HY : Hid (L.getD k1 e50 ∈ D) := Lib.hid (HM.out.2 _ (getD_mem5 hqL))
          have c0 := (hOW.out.cellAt k (by omega)).trans v0
          have d0 := (hOW.out.cellAt k1 (by omega)).trans u0
          obtain ⟨x, hx⟩ : ∃ x, L.getD k e50 = x := ⟨_, rfl⟩
          obtain ⟨y, hy⟩ : ∃ y, L.getD k1 e50 = y := ⟨_, rfl⟩
          have HX0 := Lib.hid hx
          have HY0 := Lib.hid hy
          rw [hx] at c0 HX
          rw [hy] at d0 HY
          have j2 : (k : Int) < n := by have := HM.out.1; omega
          have j3 : (k1 : Int) < n := by have := HM.out.1; omega
          have j4 : (0 : Int) ≤ k := by omega
          have j5 : (0 : Int) ≤ k1 := by omega
          have f0 : wr.frozen? ⟨g, k, none⟩ = false := hOW.out.frozenAt _
          have f1 : wr.frozen? ⟨g, k1, none⟩ = false := hOW.out.frozenAt _
          have hzs : wr.drew.cell? ⟨g, k, none⟩ = some (.int .i64 x) ∧ wr.drew.cell? ⟨g, k1, none⟩ = some (.int .i64 y) ∧ Below wr.heap.size wr wr.drew := ⟨c0, d0, (Below.refl _ _).drew⟩
          have HEND := Lib.hid (swq_world (x := x) (y := y) hbase hOW.out HM.out.1 hpL hqL hx hy)
          have HMM : Hid ((swE L k k1).length = n ∧ ∀ z ∈ swE L k k1, z ∈ D) := Lib.hid ⟨by rw [swE_len]; exact HM.out.1, fun z hz => HM.out.2 _ (swE_mem hpL hqL hz)⟩
          clear v0 u0 hOW hpL hqL hx hy
          go_wp2_with fail
          refine Rk.begin (S := fun wS => wS.cell? ⟨g, k, none⟩ = some (.int .i64 x) ∧ wS.cell? ⟨g, k1, none⟩ = some (.int .i64 y) ∧ Below wr.heap.size wr wS) 15 (by kernel_rfl) hzs (fun hHeld => ?_)
          refine Rk.takeP (i := 0) (v := ?_) rfl (by kernel_rfl) (by kernel_rfl) (by kernel_rfl) (by kernel_rfl) (fun _ _ _ h => h) (Or.inl ⟨by kernel_rfl, ?_⟩) (by assumption) ?_
          rotate_left
          · ((intro w hSw; go_simp) <;> with_reducible rfl)
          try simp only [hv, wk, Act.put, List.setIfInBounds_toArray, List.set_cons_zero, List.set_cons_succ]
          refine Rk.takeP (i := 1) (v := ?_) rfl (by kernel_rfl) (by kernel_rfl) (by kernel_rfl) (by kernel_rfl) (fun _ _ _ h => h) (Or.inl ⟨by kernel_rfl, ?_⟩) (by assumption) ?_
          rotate_left
          · ((intro w hSw; go_simp) <;> with_reducible rfl)
          try simp only [hv, wk, Act.put, List.setIfInBounds_toArray, List.set_cons_zero, List.set_cons_succ]
          refine Rk.takeP (i := 2) (v := ?_) rfl (by kernel_rfl) (by kernel_rfl) (by kernel_rfl) (by kernel_rfl) (fun _ _ _ h => h) (Or.inl ⟨by kernel_rfl, ?_⟩) (by assumption) ?_
          rotate_left
          · ((intro w hSw; go_simp) <;> with_reducible rfl)
          try simp only [hv, wk, Act.put, List.setIfInBounds_toArray, List.set_cons_zero, List.set_cons_succ]
          refine Rk.takeP (i := 3) (v := ?_) rfl (by kernel_rfl) (by kernel_rfl) (by kernel_rfl) (by kernel_rfl) (fun _ _ _ h => h) (Or.inl ⟨by kernel_rfl, ?_⟩) (by assumption) ?_
          rotate_left
          · ((intro w hSw; go_simp) <;> with_reducible rfl)
          try simp only [hv, wk, Act.put, List.setIfInBounds_toArray, List.set_cons_zero, List.set_cons_succ]
          refine Rk.takeP (i := 4) (v := ?_) rfl (by kernel_rfl) (by kernel_rfl) (by kernel_rfl) (by kernel_rfl) (fun _ _ _ h => h) (Or.inl ⟨by kernel_rfl, ?_⟩) (by assumption) ?_
          rotate_left
          · ((intro w hSw; go_simp) <;> with_reducible rfl)
          try simp only [hv, wk, Act.put, List.setIfInBounds_toArray, List.set_cons_zero, List.set_cons_succ]
          refine Rk.takeP (i := 5) (v := ?_) rfl (by kernel_rfl) (by kernel_rfl) (by kernel_rfl) (by kernel_rfl) (fun _ _ _ h => h) (Or.inl ⟨by kernel_rfl, ?_⟩) (by assumption) ?_
          rotate_left
          · ((intro w hSw; go_simp) <;> with_reducible rfl)
          try simp only [hv, wk, Act.put, List.setIfInBounds_toArray, List.set_cons_zero, List.set_cons_succ]
          refine Rk.takeP (i := 6) (v := ?_) rfl (by kernel_rfl) (by kernel_rfl) (by kernel_rfl) (by kernel_rfl) (fun _ _ _ h => h) (Or.inl ⟨by kernel_rfl, ?_⟩) (by assumption) ?_
          rotate_left
          · ((intro w hSw; go_simp) <;> with_reducible rfl)
          try simp only [hv, wk, Act.put, List.setIfInBounds_toArray, List.set_cons_zero, List.set_cons_succ]
          refine Rk.takeP (i := 7) (v := ?_) rfl (by kernel_rfl) (by kernel_rfl) (by kernel_rfl) (by kernel_rfl) (fun _ _ _ h => h) (Or.inl ⟨by kernel_rfl, ?_⟩) (by assumption) ?_
          rotate_left
          · ((intro w hSw; go_simp) <;> with_reducible rfl)
          try simp only [hv, wk, Act.put, List.setIfInBounds_toArray, List.set_cons_zero, List.set_cons_succ]
          refine Rk.takeP (i := 8) (v := ?_) rfl (by kernel_rfl) (by kernel_rfl) (by kernel_rfl) (by kernel_rfl) (fun _ _ _ h => h) (Or.inl ⟨by kernel_rfl, ?_⟩) (by assumption) ?_
          rotate_left
          · ((intro w hSw; go_simp) <;> with_reducible rfl)
          try simp only [hv, wk, Act.put, List.setIfInBounds_toArray, List.set_cons_zero, List.set_cons_succ]
          refine Rk.take [15] (i := 9) (v := ?_) rfl (by kernel_rfl) (by kernel_rfl) (by kernel_rfl) (by kernel_rfl) (by kernel_rfl) (fun _ _ _ h => h) (Or.inl ⟨by kernel_rfl, ?_⟩) (by assumption) ?_
          rotate_left
          · ((intro w hSw; (try dsimp only at hSw); go_simp) <;> with_reducible rfl)
          try simp only [hv, wk, Act.put, List.setIfInBounds_toArray, List.set_cons_zero, List.set_cons_succ]
          refine Rk.takeP (i := 10) (v := ?_) rfl (by kernel_rfl) (by kernel_rfl) (by kernel_rfl) (by kernel_rfl) (fun _ _ _ h => h) (Or.inl ⟨by kernel_rfl, ?_⟩) (by assumption) ?_
          rotate_left
          · ((intro w hSw; go_simp) <;> with_reducible rfl)
          try simp only [hv, wk, Act.put, List.setIfInBounds_toArray, List.set_cons_zero, List.set_cons_succ]
          refine Rk.takeP (i := 11) (v := ?_) rfl (by kernel_rfl) (by kernel_rfl) (by kernel_rfl) (by kernel_rfl) (fun _ _ _ h => h) (Or.inl ⟨by kernel_rfl, ?_⟩) (by assumption) ?_
          rotate_left
          · ((intro w hSw; go_simp) <;> with_reducible rfl)
          try simp only [hv, wk, Act.put, List.setIfInBounds_toArray, List.set_cons_zero, List.set_cons_succ]
          refine Rk.takeP (i := 12) (v := ?_) rfl (by kernel_rfl) (by kernel_rfl) (by kernel_rfl) (by kernel_rfl) (fun _ _ _ h => h) (Or.inl ⟨by kernel_rfl, ?_⟩) (by assumption) ?_
          rotate_left
          · ((intro w hSw; go_simp) <;> with_reducible rfl)
          try simp only [hv, wk, Act.put, List.setIfInBounds_toArray, List.set_cons_zero, List.set_cons_succ]
          refine Rk.take [15] (i := 13) (v := ?_) rfl (by kernel_rfl) (by kernel_rfl) (by kernel_rfl) (by kernel_rfl) (by kernel_rfl) (fun _ _ _ h => h) (Or.inl ⟨by kernel_rfl, ?_⟩) (by assumption) ?_
          rotate_left
          · ((intro w hSw; (try dsimp only at hSw); go_simp) <;> with_reducible rfl)
          try simp only [hv, wk, Act.put, List.setIfInBounds_toArray, List.set_cons_zero, List.set_cons_succ]
          refine Rk.takeP (i := 14) (v := ?_) rfl (by kernel_rfl) (by kernel_rfl) (by kernel_rfl) (by kernel_rfl) (fun _ _ _ h => h) (Or.inl ⟨by kernel_rfl, ?_⟩) (by assumption) ?_
          rotate_left
          · ((intro w hSw; go_simp) <;> with_reducible rfl)
          try simp only [hv, wk, Act.put, List.setIfInBounds_toArray, List.set_cons_zero, List.set_cons_succ]
          refine Rk.tail [15, 16, 17] [_, _, _] (by kernel_rfl) (by kernel_rfl) rfl (by decide) ?_
          go_wp2_with fail
          go_roundw
          case rel => exact ⟨k1, swE L k k1, by go_num, by omega, by omega, HR2, HMM, Lib.hid HEND.out.1.drew, Lib.hid (below_drewN (hB.out.trans (HEND.out.2.2.mono (by have := hB.out.size; omega))) _), Lib.hid ((hK.out.trans HEND.out.2.1).trans (KG.below (below_drewN (Below.refl _ _) _)))⟩
          case measure => simp [intOf]; omega
        · have HE : Hid (L = RES) := Lib.hid (by
            have h := HR.out
            rw [show k - i = 0 by omega] at h
            exact h)
          have i2 : ¬ (i : Int) < k := by omega
          go_wp2_with fail
          refine bodyPost_ret (results_none rfl _ _ _) rfl ?_
          exact ⟨rfl, hB.out, hK.out, RES, HF.out.1, HF.out.2, by rw [← HE.out]; exact hOW⟩
end Go.Proofs.Ytghnigmmkenddaa.Ar
