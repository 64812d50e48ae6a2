/- Insertion sort of rows of integers. -/
import Derived.Test.YtghnigmmkenddaaS0
import Derived.BigQuiet
import Derived.Deep.QuietTactic
namespace Go.Proofs.Ytghnigmmkenddaa.Ar
open Go.ChangeShapes Go.WideShapes Go.ChangeAt Go.RowKit

set_option linter.unusedVariables false
set_option linter.unusedSimpArgs false

theorem swq_world {g cap base n p q : Nat} {L2 : List Int} {x y : Int} {u : World} (hb : base ≤ g ∨ n = 0) (O : u.ownsRow base 3 1 (.slice (some ⟨g, 0, none⟩) n cap) n (rowE L2)) (hl : L2.length = n) (h1 : p < L2.length) (h0 : q < L2.length) (hx : L2.getD p e50 = x) (hy : L2.getD q e50 = y) :
    ((u.setCell ⟨g, p, none⟩ (.int .i64 y)).setCell ⟨g, q, none⟩ (.int .i64 x)).ownsRow base 3 1 (.slice (some ⟨g, 0, none⟩) n cap) n (rowE (swE L2 p q)) ∧ KG g u ((u.setCell ⟨g, p, none⟩ (.int .i64 y)).setCell ⟨g, q, none⟩ (.int .i64 x)) ∧ Below base u ((u.setCell ⟨g, p, none⟩ (.int .i64 y)).setCell ⟨g, q, none⟩ (.int .i64 x)) := by
  have hbg : base ≤ g := by
    rcases hb with h | h
    · exact h
    · omega
  have Q0 := O.stored p (.int .i64 y)
  have J0 := KG.own O Q0.2
  have Q1 := Q0.1.stored q (.int .i64 x)
  have J1 := KG.own Q0.1 Q1.2
  refine ⟨?_, J0.trans J1, ?_⟩
  · have h := Q1.1
    rw [rowE_set L2 p y, rowE_set (L2.set p y) q x] at h
    unfold swE
    rw [hx, hy]
    exact h
  · exact ((Below.refl base u).setCell (p := ⟨g, p, none⟩) hbg _).setCell (p := ⟨g, q, none⟩) hbg _

set_option maxRecDepth 100000 in
set_option maxHeartbeats 8000000 in
/-- The insertion sort, whatever the row. -/
theorem insN (kf : Nat) (q1 q2 : Value) (g cap base n a b : Nat) (D L0 : List Int) (cf : Int → Int → Int) (wo w : World) (hn : n ≤ 100000) (HL : Hid (L0.length = n ∧ ∀ x ∈ L0, x ∈ D)) (hab : a ≤ b) (hbn : b ≤ n) (hO : Hid (w.ownsRow base 3 1 (.slice (some ⟨g, 0, none⟩) n cap) n (rowE L0)))
    (HKF : Hid (∀ args w, (Go.callFunc kf args).run Try.prog w = .ok (.enter kf args) w)) (NC : Hid (∀ x y, x ∈ D → y ∈ D → y < x → ∀ w', KG g wo w' → Calls Try.prog kf #[.int .i64 x, .int .i64 y, q1, q2] w' fun e w2 => (∃ v, e = .returned (.int .i64 v) ∧ decide (v < 0) = decide (cf x y < 0)) ∧ Below w'.heap.size w' w2)) (KO : Hid (KG g wo w)) (hbw : base ≤ w.heap.size) (HA : Hid (ASO a b a L0)) :
    Calls Try.prog 49 #[.slice (some ⟨g, 0, none⟩) n cap, .int .i64 (a : Int), .int .i64 (b : Int), .func (.func kf) #[] #[q1, q2]] w fun e w' => e = .returned (.tuple #[]) ∧ Below base w w' ∧ KG g w w' ∧ Hid (w'.ownsRow base 3 1 (.slice (some ⟨g, 0, none⟩) n cap) n (rowE (insI cf a (b - (a + 1)) (a + 1) L0))) := by
  obtain ⟨RES, hRES⟩ : ∃ RES, insI cf a (b - (a + 1)) (a + 1) L0 = RES := ⟨_, rfl⟩
  rw [hRES]
  have HRES := Lib.hid hRES
  have hbase : base ≤ g ∨ n = 0 := by
    rcases hO.out.2 with ⟨h, hz⟩ | ⟨g', cap', cur, h, hb, _⟩
    · simp at h
    · cases h; exact .inl hb
  clear hRES
  go_enter Try.func49, Try.ntmps49
  go_wp2_with fail
  go_loopw [8] (fun iv wr => ∃ (i : Nat) (L : List Int), iv = .int .i64 (i : Int) ∧ a + 1 ≤ i ∧ i ≤ n + 1 ∧ Hid (insI cf a (b - i) i L = RES) ∧ Hid (L.length = n ∧ ∀ x ∈ L, x ∈ D) ∧ Hid (ASO a b i L) ∧ Hid (wr.ownsRow base 3 1 (.slice (some ⟨g, 0, none⟩) n cap) n (rowE L)) ∧ Hid (Below base w wr) ∧ Hid (KG g w wr)) (fun iv _ => b - (intOf iv).toNat)
  case atStart => exact ⟨a + 1, L0, by go_num, Nat.le_refl _, by omega, HRES, HL, Lib.hid (fun p q p1 pq qi qb => HA.out p q p1 pq (by omega) qb), hO, Lib.hid (Below.refl _ _), Lib.hid (KG.refl _ _)⟩
  case round =>
    clear HA
    obtain ⟨i, L, rfl, hi, hin, hR, hM, HA, hOW, hB, hK⟩ := hrel
    have ii : (0 : Int) ≤ i := by omega
    by_cases hlt : i < b
    · have i2 : (i : Int) < b := by omega
      have HI : Hid (insI cf a (b - (i + 1)) (i + 1) (insJ cf a i L) = RES) := Lib.hid (by
        have h := hR.out
        rw [show b - i = (b - (i + 1)) + 1 by omega] at h
        exact h)
      clear hR
      go_wp2_with fail
      go_loopw [9] (fun jv wr => ∃ (j : Nat) (L2 : List Int), jv = .int .i64 (j : Int) ∧ a ≤ j ∧ j ≤ i ∧ Hid (insJ cf a j L2 = insJ cf a i L) ∧ Hid (L2.length = n ∧ ∀ x ∈ L2, x ∈ D) ∧ Hid (ASC a b i j L2) ∧ Hid (wr.ownsRow base 3 1 (.slice (some ⟨g, 0, none⟩) n cap) n (rowE L2)) ∧ Hid (Below base w wr) ∧ Hid (KG g w wr)) (fun jv _ => (intOf jv).toNat)
      case atStart => exact ⟨i, L, rfl, by omega, Nat.le_refl _, Lib.hid rfl, hM, Lib.hid ⟨fun p p1 p2 => HA.out p i p1 p2 (Nat.le_refl _) hlt, fun p q p1 pq qi qb => HA.out p q p1 pq (by omega) qb⟩, hOW, hB, hK⟩
      case round =>
        clear hM HA hOW hB hK
        obtain ⟨j, L2, rfl, hj, hji, hJ, hM, HA, hOW, hB, hK⟩ := hrel
        have jj : (0 : Int) ≤ j := by omega
        by_cases hja : a < j
        · obtain ⟨m, rfl⟩ : ∃ m, j = m + 1 := ⟨j - 1, by omega⟩
          have hm1 : m + 1 < L2.length := by rw [hM.out.1]; omega
          have hm0 : m < L2.length := by omega
          have v0 := rowE_get L2 (m + 1) hm1
          have u0 := rowE_get L2 m hm0
          have HX : Hid (L2.getD (m + 1) e50 ∈ D) := Lib.hid (hM.out.2 _ (getD_mem5 hm1))
          have HY : Hid (L2.getD m e50 ∈ D) := Lib.hid (hM.out.2 _ (getD_mem5 hm0))
          have HLT : Hid (L2.getD m e50 < L2.getD (m + 1) e50) := Lib.hid (HA.out.1 m (by omega) (by omega))
          have c0 := (hOW.out.cellAt (m + 1) (by omega)).trans v0
          have d0 := (hOW.out.cellAt m (by omega)).trans u0
          obtain ⟨x, hx⟩ : ∃ x, L2.getD (m + 1) e50 = x := ⟨_, rfl⟩
          obtain ⟨y, hy⟩ : ∃ y, L2.getD m e50 = y := ⟨_, rfl⟩
          have HX0 := Lib.hid hx
          have HY0 := Lib.hid hy
          rw [hx] at c0 HX HLT
          rw [hy] at d0 HY HLT
          have wj : IntKind.i64.wrap ((m : Int) + 1 - 1) = m := by rw [IntKind.wrap_i64]; omega
          have wj2 : IntKind.i64.wrap (m : Int) = m := by rw [IntKind.wrap_i64]; omega
          have j1 : decide ((a : Int) < (m : Int) + 1) = true := by rw [decide_eq_true_eq]; omega
          have j2 : (m : Int) + 1 < n := by omega
          have j3 : (m : Int) < n := by omega
          have j4 : (0 : Int) ≤ m := by omega
          have j5 : (0 : Int) ≤ (m : Int) + 1 := by omega
          have HKW := Lib.hid (KO.out.trans hK.out)
          have hz4 : wr.drew.cell? ⟨g, m + 1, none⟩ = some (.int .i64 x) ∧ wr.drew.cell? ⟨g, m, none⟩ = some (.int .i64 y) ∧ Below wr.heap.size wr wr.drew := ⟨c0, d0, (Below.refl _ _).drew⟩
          have HS : Hid (∀ u u' : World, (u.cell? ⟨g, m + 1, none⟩ = some (.int .i64 x) ∧ u.cell? ⟨g, m, none⟩ = some (.int .i64 y) ∧ Below wr.heap.size wr u) → Below u.heap.size u u' → (u'.cell? ⟨g, m + 1, none⟩ = some (.int .i64 x) ∧ u'.cell? ⟨g, m, none⟩ = some (.int .i64 y) ∧ Below wr.heap.size wr u')) := Lib.hid (fun u u' h hb => ⟨Rg.keep hb (World.block_lt_of_cell? _ _ h.1) h.1, Rg.keep hb (World.block_lt_of_cell? _ _ h.2.1) h.2.1, h.2.2.trans (hb.mono h.2.2.size)⟩)
          obtain ⟨r, hr⟩ : ∃ r, cf x y = r := ⟨_, rfl⟩
          have HR9 := Lib.hid hr
          clear hx hy hr v0 u0 c0 d0
          by_cases hneg : r < 0
          · have hr2 : decide (cf x y < 0) = true := by rw [HR9.out]; simpa using hneg
            go_wp2_with fail
            refine Rk.begin (S := fun wS => wS.cell? ⟨g, m + 1, none⟩ = some (.int .i64 x) ∧ wS.cell? ⟨g, m, none⟩ = some (.int .i64 y) ∧ Below wr.heap.size wr wS) 15 (by kernel_rfl) hz4 (fun hHeld => ?_)
            refine Rk.takeP (i := 0) (v := ?_) rfl (by kernel_rfl) (by kernel_rfl) (by kernel_rfl) (by kernel_rfl) (fun _ _ _ h => h) (Or.inl ⟨by kernel_rfl, ?_⟩) (by assumption) ?_
            rotate_left
            · ((intro w hSw; go_simp) <;> with_reducible rfl)
            try simp only [wj, wj2, Act.put, List.setIfInBounds_toArray, List.set_cons_zero, List.set_cons_succ]
            refine Rk.takeP (i := 1) (v := ?_) rfl (by kernel_rfl) (by kernel_rfl) (by kernel_rfl) (by kernel_rfl) (fun _ _ _ h => h) (Or.inl ⟨by kernel_rfl, ?_⟩) (by assumption) ?_
            rotate_left
            · ((intro w hSw; go_simp) <;> with_reducible rfl)
            try simp only [wj, wj2, Act.put, List.setIfInBounds_toArray, List.set_cons_zero, List.set_cons_succ]
            refine Rk.takeP (i := 2) (v := ?_) rfl (by kernel_rfl) (by kernel_rfl) (by kernel_rfl) (by kernel_rfl) (fun _ _ _ h => h) (Or.inl ⟨by kernel_rfl, ?_⟩) (by assumption) ?_
            rotate_left
            · ((intro w hSw; go_simp) <;> with_reducible rfl)
            try simp only [wj, wj2, Act.put, List.setIfInBounds_toArray, List.set_cons_zero, List.set_cons_succ]
            refine Rk.takeP (i := 3) (v := ?_) rfl (by kernel_rfl) (by kernel_rfl) (by kernel_rfl) (by kernel_rfl) (fun _ _ _ h => h) (Or.inl ⟨by kernel_rfl, ?_⟩) (by assumption) ?_
            rotate_left
            · ((intro w hSw; go_simp) <;> with_reducible rfl)
            try simp only [wj, wj2, Act.put, List.setIfInBounds_toArray, List.set_cons_zero, List.set_cons_succ]
            refine Rk.takeP (i := 4) (v := ?_) rfl (by kernel_rfl) (by kernel_rfl) (by kernel_rfl) (by kernel_rfl) (fun _ _ _ h => h) (Or.inl ⟨by kernel_rfl, ?_⟩) (by assumption) ?_
            rotate_left
            · ((intro w hSw; go_simp) <;> with_reducible rfl)
            try simp only [wj, wj2, Act.put, List.setIfInBounds_toArray, List.set_cons_zero, List.set_cons_succ]
            refine Rk.takeP (i := 5) (v := ?_) rfl (by kernel_rfl) (by kernel_rfl) (by kernel_rfl) (by kernel_rfl) (fun _ _ _ h => h) (Or.inl ⟨by kernel_rfl, ?_⟩) (by assumption) ?_
            rotate_left
            · ((intro w hSw; go_simp) <;> with_reducible rfl)
            try simp only [wj, wj2, Act.put, List.setIfInBounds_toArray, List.set_cons_zero, List.set_cons_succ]
            refine Rk.takeP (i := 6) (v := ?_) rfl (by kernel_rfl) (by kernel_rfl) (by kernel_rfl) (by kernel_rfl) (fun _ _ _ h => h) (Or.inl ⟨by kernel_rfl, ?_⟩) (by assumption) ?_
            rotate_left
            · ((intro w hSw; go_simp) <;> with_reducible rfl)
            try simp only [wj, wj2, Act.put, List.setIfInBounds_toArray, List.set_cons_zero, List.set_cons_succ]
            refine Rk.takeP (i := 7) (v := ?_) rfl (by kernel_rfl) (by kernel_rfl) (by kernel_rfl) (by kernel_rfl) (fun _ _ _ h => h) (Or.inl ⟨by kernel_rfl, ?_⟩) (by assumption) ?_
            rotate_left
            · ((intro w hSw; go_simp) <;> with_reducible rfl)
            try simp only [wj, wj2, Act.put, List.setIfInBounds_toArray, List.set_cons_zero, List.set_cons_succ]
            refine Rk.take [14, 15] (i := 8) (v := ?_) rfl (by kernel_rfl) (by kernel_rfl) (by kernel_rfl) (by kernel_rfl) (by kernel_rfl) (fun _ _ _ h => h) (Or.inl ⟨by kernel_rfl, ?_⟩) (by assumption) ?_
            rotate_left
            · ((intro w hSw; (try dsimp only at hSw); go_simp) <;> with_reducible rfl)
            try simp only [wj, wj2, Act.put, List.setIfInBounds_toArray, List.set_cons_zero, List.set_cons_succ]
            refine Rk.takeP (i := 9) (v := ?_) rfl (by kernel_rfl) (by kernel_rfl) (by kernel_rfl) (by kernel_rfl) (fun _ _ _ h => h) (Or.inl ⟨by kernel_rfl, ?_⟩) (by assumption) ?_
            rotate_left
            · ((intro w hSw; go_simp) <;> with_reducible rfl)
            try simp only [wj, wj2, Act.put, List.setIfInBounds_toArray, List.set_cons_zero, List.set_cons_succ]
            refine Rk.takeP (i := 10) (v := ?_) rfl (by kernel_rfl) (by kernel_rfl) (by kernel_rfl) (by kernel_rfl) (fun _ _ _ h => h) (Or.inl ⟨by kernel_rfl, ?_⟩) (by assumption) ?_
            rotate_left
            · ((intro w hSw; go_simp) <;> with_reducible rfl)
            try simp only [wj, wj2, Act.put, List.setIfInBounds_toArray, List.set_cons_zero, List.set_cons_succ]
            refine Rk.takeP (i := 11) (v := ?_) rfl (by kernel_rfl) (by kernel_rfl) (by kernel_rfl) (by kernel_rfl) (fun _ _ _ h => h) (Or.inl ⟨by kernel_rfl, ?_⟩) (by assumption) ?_
            rotate_left
            · ((intro w hSw; go_simp) <;> with_reducible rfl)
            try simp only [wj, wj2, Act.put, List.setIfInBounds_toArray, List.set_cons_zero, List.set_cons_succ]
            refine Rk.takeP (i := 12) (v := ?_) rfl (by kernel_rfl) (by kernel_rfl) (by kernel_rfl) (by kernel_rfl) (fun _ _ _ h => h) (Or.inl ⟨by kernel_rfl, ?_⟩) (by assumption) ?_
            rotate_left
            · ((intro w hSw; go_simp) <;> with_reducible rfl)
            try simp only [wj, wj2, Act.put, List.setIfInBounds_toArray, List.set_cons_zero, List.set_cons_succ]
            refine Rk.take [14, 15] (i := 13) (v := ?_) rfl (by kernel_rfl) (by kernel_rfl) (by kernel_rfl) (by kernel_rfl) (by kernel_rfl) (fun _ _ _ h => h) (Or.inl ⟨by kernel_rfl, ?_⟩) (by assumption) ?_
            rotate_left
            · ((intro w hSw; (try dsimp only at hSw); go_simp) <;> with_reducible rfl)
            try simp only [wj, wj2, Act.put, List.setIfInBounds_toArray, List.set_cons_zero, List.set_cons_succ]
            refine Rk.one (i := 14) (by kernel_rfl) rfl (fun KK hK => ?_)
            rw [if_pos (by kernel_rfl)]
            go_simp
            rw [HKF.out, Oper.upon_enter]
            ((with_reducible refine (NC.out x y HX.out HY.out HLT.out _ (HKW.out.trans (KG.below (hHeld.2.2)))).mono ?_); rintro e u ⟨⟨v, rfl, hv⟩, hb⟩; replace hv := hv.trans hr2)
            first | (refine hK.out _ _ (fun _ => HS.out _ _ hHeld hb) (fun hHeld => ?_)) | (refine hK.out _ _ (HS.out _ _ hHeld hb) (fun hHeld => ?_)) | (go_wp2_with fail; refine hK.out _ _ (HS.out _ _ hHeld hb) (fun hHeld => ?_))
            clear hK KK
            refine Rk.tail [15, 16] [_, _] (by kernel_rfl) (by kernel_rfl) rfl (by decide) ?_
            obtain ⟨e0, e3, KB0⟩ := hHeld
            have hz6 : u.drew.cell? ⟨g, m + 1, none⟩ = some (.int .i64 x) ∧ u.drew.cell? ⟨g, m, none⟩ = some (.int .i64 y) ∧ Below u.heap.size u u.drew := ⟨e0, e3, (Below.refl _ _).drew⟩
            have OU := own_belowE hOW.out KB0
            have KU : KG g wr u := KG.below KB0
            have HJ2 : Hid (insJ cf a m (swE L2 (m + 1) m) = insJ cf a i L) := Lib.hid (by
              rw [← hJ.out, insJ_go (by omega) (by rw [HX0.out, HY0.out, HR9.out]; exact hneg)])
            have HM2 : Hid ((swE L2 (m + 1) m).length = n ∧ ∀ z ∈ swE L2 (m + 1) m, z ∈ D) := Lib.hid ⟨by rw [swE_len]; exact hM.out.1, fun z hz => hM.out.2 _ (swE_mem hm1 hm0 hz)⟩
            have HA2 := Lib.hid (HA.out.swap hm1 (by omega) hji)
            have HEND := Lib.hid (swq_world (x := x) (y := y) hbase OU hM.out.1 hm1 hm0 HX0.out HY0.out)
            have HBU := Lib.hid (hB.out.trans (KB0.mono (by have := hB.out.size; omega)))
            have HKU := Lib.hid (hK.out.trans KU)
            have f0 : u.frozen? ⟨g, m + 1, none⟩ = false := OU.frozenAt _
            have f3 : u.frozen? ⟨g, m, none⟩ = false := OU.frozenAt _
            clear hJ hM HA hOW hB hK HS HX HY HLT OU KU hm1 hm0 KB0
            go_wp2_with fail
            refine Rk.begin (S := fun wS => wS.cell? ⟨g, m + 1, none⟩ = some (.int .i64 x) ∧ wS.cell? ⟨g, m, none⟩ = some (.int .i64 y) ∧ Below u.heap.size u wS) 15 (by kernel_rfl) hz6 (fun hHeld => ?_)
            refine Rk.takeP (i := 0) (v := ?_) rfl (by kernel_rfl) (by kernel_rfl) (by kernel_rfl) (by kernel_rfl) (fun _ _ _ h => h) (Or.inl ⟨by kernel_rfl, ?_⟩) (by assumption) ?_
            rotate_left
            · ((intro w hSw; go_simp) <;> with_reducible rfl)
            try simp only [wj, wj2, Act.put, List.setIfInBounds_toArray, List.set_cons_zero, List.set_cons_succ]
            refine Rk.takeP (i := 1) (v := ?_) rfl (by kernel_rfl) (by kernel_rfl) (by kernel_rfl) (by kernel_rfl) (fun _ _ _ h => h) (Or.inl ⟨by kernel_rfl, ?_⟩) (by assumption) ?_
            rotate_left
            · ((intro w hSw; go_simp) <;> with_reducible rfl)
            try simp only [wj, wj2, Act.put, List.setIfInBounds_toArray, List.set_cons_zero, List.set_cons_succ]
            refine Rk.takeP (i := 2) (v := ?_) rfl (by kernel_rfl) (by kernel_rfl) (by kernel_rfl) (by kernel_rfl) (fun _ _ _ h => h) (Or.inl ⟨by kernel_rfl, ?_⟩) (by assumption) ?_
            rotate_left
            · ((intro w hSw; go_simp) <;> with_reducible rfl)
            try simp only [wj, wj2, Act.put, List.setIfInBounds_toArray, List.set_cons_zero, List.set_cons_succ]
            refine Rk.takeP (i := 3) (v := ?_) rfl (by kernel_rfl) (by kernel_rfl) (by kernel_rfl) (by kernel_rfl) (fun _ _ _ h => h) (Or.inl ⟨by kernel_rfl, ?_⟩) (by assumption) ?_
            rotate_left
            · ((intro w hSw; go_simp) <;> with_reducible rfl)
            try simp only [wj, wj2, Act.put, List.setIfInBounds_toArray, List.set_cons_zero, List.set_cons_succ]
            refine Rk.takeP (i := 4) (v := ?_) rfl (by kernel_rfl) (by kernel_rfl) (by kernel_rfl) (by kernel_rfl) (fun _ _ _ h => h) (Or.inl ⟨by kernel_rfl, ?_⟩) (by assumption) ?_
            rotate_left
            · ((intro w hSw; go_simp) <;> with_reducible rfl)
            try simp only [wj, wj2, Act.put, List.setIfInBounds_toArray, List.set_cons_zero, List.set_cons_succ]
            refine Rk.takeP (i := 5) (v := ?_) rfl (by kernel_rfl) (by kernel_rfl) (by kernel_rfl) (by kernel_rfl) (fun _ _ _ h => h) (Or.inl ⟨by kernel_rfl, ?_⟩) (by assumption) ?_
            rotate_left
            · ((intro w hSw; go_simp) <;> with_reducible rfl)
            try simp only [wj, wj2, Act.put, List.setIfInBounds_toArray, List.set_cons_zero, List.set_cons_succ]
            refine Rk.takeP (i := 6) (v := ?_) rfl (by kernel_rfl) (by kernel_rfl) (by kernel_rfl) (by kernel_rfl) (fun _ _ _ h => h) (Or.inl ⟨by kernel_rfl, ?_⟩) (by assumption) ?_
            rotate_left
            · ((intro w hSw; go_simp) <;> with_reducible rfl)
            try simp only [wj, wj2, Act.put, List.setIfInBounds_toArray, List.set_cons_zero, List.set_cons_succ]
            refine Rk.takeP (i := 7) (v := ?_) rfl (by kernel_rfl) (by kernel_rfl) (by kernel_rfl) (by kernel_rfl) (fun _ _ _ h => h) (Or.inl ⟨by kernel_rfl, ?_⟩) (by assumption) ?_
            rotate_left
            · ((intro w hSw; go_simp) <;> with_reducible rfl)
            try simp only [wj, wj2, Act.put, List.setIfInBounds_toArray, List.set_cons_zero, List.set_cons_succ]
            refine Rk.takeP (i := 8) (v := ?_) rfl (by kernel_rfl) (by kernel_rfl) (by kernel_rfl) (by kernel_rfl) (fun _ _ _ h => h) (Or.inl ⟨by kernel_rfl, ?_⟩) (by assumption) ?_
            rotate_left
            · ((intro w hSw; go_simp) <;> with_reducible rfl)
            try simp only [wj, wj2, Act.put, List.setIfInBounds_toArray, List.set_cons_zero, List.set_cons_succ]
            refine Rk.take [15] (i := 9) (v := ?_) rfl (by kernel_rfl) (by kernel_rfl) (by kernel_rfl) (by kernel_rfl) (by kernel_rfl) (fun _ _ _ h => h) (Or.inl ⟨by kernel_rfl, ?_⟩) (by assumption) ?_
            rotate_left
            · ((intro w hSw; (try dsimp only at hSw); go_simp) <;> with_reducible rfl)
            try simp only [wj, wj2, Act.put, List.setIfInBounds_toArray, List.set_cons_zero, List.set_cons_succ]
            refine Rk.takeP (i := 10) (v := ?_) rfl (by kernel_rfl) (by kernel_rfl) (by kernel_rfl) (by kernel_rfl) (fun _ _ _ h => h) (Or.inl ⟨by kernel_rfl, ?_⟩) (by assumption) ?_
            rotate_left
            · ((intro w hSw; go_simp) <;> with_reducible rfl)
            try simp only [wj, wj2, Act.put, List.setIfInBounds_toArray, List.set_cons_zero, List.set_cons_succ]
            refine Rk.takeP (i := 11) (v := ?_) rfl (by kernel_rfl) (by kernel_rfl) (by kernel_rfl) (by kernel_rfl) (fun _ _ _ h => h) (Or.inl ⟨by kernel_rfl, ?_⟩) (by assumption) ?_
            rotate_left
            · ((intro w hSw; go_simp) <;> with_reducible rfl)
            try simp only [wj, wj2, Act.put, List.setIfInBounds_toArray, List.set_cons_zero, List.set_cons_succ]
            refine Rk.takeP (i := 12) (v := ?_) rfl (by kernel_rfl) (by kernel_rfl) (by kernel_rfl) (by kernel_rfl) (fun _ _ _ h => h) (Or.inl ⟨by kernel_rfl, ?_⟩) (by assumption) ?_
            rotate_left
            · ((intro w hSw; go_simp) <;> with_reducible rfl)
            try simp only [wj, wj2, Act.put, List.setIfInBounds_toArray, List.set_cons_zero, List.set_cons_succ]
            refine Rk.take [15] (i := 13) (v := ?_) rfl (by kernel_rfl) (by kernel_rfl) (by kernel_rfl) (by kernel_rfl) (by kernel_rfl) (fun _ _ _ h => h) (Or.inl ⟨by kernel_rfl, ?_⟩) (by assumption) ?_
            rotate_left
            · ((intro w hSw; (try dsimp only at hSw); go_simp) <;> with_reducible rfl)
            try simp only [wj, wj2, Act.put, List.setIfInBounds_toArray, List.set_cons_zero, List.set_cons_succ]
            refine Rk.takeP (i := 14) (v := ?_) rfl (by kernel_rfl) (by kernel_rfl) (by kernel_rfl) (by kernel_rfl) (fun _ _ _ h => h) (Or.inl ⟨by kernel_rfl, ?_⟩) (by assumption) ?_
            rotate_left
            · ((intro w hSw; go_simp) <;> with_reducible rfl)
            try simp only [wj, wj2, Act.put, List.setIfInBounds_toArray, List.set_cons_zero, List.set_cons_succ]
            refine Rk.tail [15, 16, 17] [_, _, _] (by kernel_rfl) (by kernel_rfl) rfl (by decide) ?_
            go_wp2_with fail
            go_roundw
            case rel => exact ⟨m, swE L2 (m + 1) m, by go_num, by omega, by omega, HJ2, HM2, HA2, Lib.hid HEND.out.1.drew, Lib.hid (below_drewN (HBU.out.trans (HEND.out.2.2.mono (by have := HBU.out.size; omega))) _), Lib.hid ((HKU.out.trans HEND.out.2.1).trans (KG.below (below_drewN (Below.refl _ _) _)))⟩
            case measure => simp [intOf]
          · have hr2 : decide (cf x y < 0) = false := by rw [HR9.out]; simpa using hneg
            have HI2 : Hid (insI cf a (b - (i + 1)) (i + 1) L2 = RES) := Lib.hid (by
              have h := hJ.out
              rw [insJ_no (by rw [HX0.out, HY0.out, HR9.out]; exact hneg)] at h
              rw [h]; exact HI.out)
            go_wp2_with fail
            refine Rk.begin (S := fun wS => wS.cell? ⟨g, m + 1, none⟩ = some (.int .i64 x) ∧ wS.cell? ⟨g, m, none⟩ = some (.int .i64 y) ∧ Below wr.heap.size wr wS) 15 (by kernel_rfl) hz4 (fun hHeld => ?_)
            refine Rk.takeP (i := 0) (v := ?_) rfl (by kernel_rfl) (by kernel_rfl) (by kernel_rfl) (by kernel_rfl) (fun _ _ _ h => h) (Or.inl ⟨by kernel_rfl, ?_⟩) (by assumption) ?_
            rotate_left
            · ((intro w hSw; go_simp) <;> with_reducible rfl)
            try simp only [wj, wj2, Act.put, List.setIfInBounds_toArray, List.set_cons_zero, List.set_cons_succ]
            refine Rk.takeP (i := 1) (v := ?_) rfl (by kernel_rfl) (by kernel_rfl) (by kernel_rfl) (by kernel_rfl) (fun _ _ _ h => h) (Or.inl ⟨by kernel_rfl, ?_⟩) (by assumption) ?_
            rotate_left
            · ((intro w hSw; go_simp) <;> with_reducible rfl)
            try simp only [wj, wj2, Act.put, List.setIfInBounds_toArray, List.set_cons_zero, List.set_cons_succ]
            refine Rk.takeP (i := 2) (v := ?_) rfl (by kernel_rfl) (by kernel_rfl) (by kernel_rfl) (by kernel_rfl) (fun _ _ _ h => h) (Or.inl ⟨by kernel_rfl, ?_⟩) (by assumption) ?_
            rotate_left
            · ((intro w hSw; go_simp) <;> with_reducible rfl)
            try simp only [wj, wj2, Act.put, List.setIfInBounds_toArray, List.set_cons_zero, List.set_cons_succ]
            refine Rk.takeP (i := 3) (v := ?_) rfl (by kernel_rfl) (by kernel_rfl) (by kernel_rfl) (by kernel_rfl) (fun _ _ _ h => h) (Or.inl ⟨by kernel_rfl, ?_⟩) (by assumption) ?_
            rotate_left
            · ((intro w hSw; go_simp) <;> with_reducible rfl)
            try simp only [wj, wj2, Act.put, List.setIfInBounds_toArray, List.set_cons_zero, List.set_cons_succ]
            refine Rk.takeP (i := 4) (v := ?_) rfl (by kernel_rfl) (by kernel_rfl) (by kernel_rfl) (by kernel_rfl) (fun _ _ _ h => h) (Or.inl ⟨by kernel_rfl, ?_⟩) (by assumption) ?_
            rotate_left
            · ((intro w hSw; go_simp) <;> with_reducible rfl)
            try simp only [wj, wj2, Act.put, List.setIfInBounds_toArray, List.set_cons_zero, List.set_cons_succ]
            refine Rk.takeP (i := 5) (v := ?_) rfl (by kernel_rfl) (by kernel_rfl) (by kernel_rfl) (by kernel_rfl) (fun _ _ _ h => h) (Or.inl ⟨by kernel_rfl, ?_⟩) (by assumption) ?_
            rotate_left
            · ((intro w hSw; go_simp) <;> with_reducible rfl)
            try simp only [wj, wj2, Act.put, List.setIfInBounds_toArray, List.set_cons_zero, List.set_cons_succ]
            refine Rk.takeP (i := 6) (v := ?_) rfl (by kernel_rfl) (by kernel_rfl) (by kernel_rfl) (by kernel_rfl) (fun _ _ _ h => h) (Or.inl ⟨by kernel_rfl, ?_⟩) (by assumption) ?_
            rotate_left
            · ((intro w hSw; go_simp) <;> with_reducible rfl)
            try simp only [wj, wj2, Act.put, List.setIfInBounds_toArray, List.set_cons_zero, List.set_cons_succ]
            refine Rk.takeP (i := 7) (v := ?_) rfl (by kernel_rfl) (by kernel_rfl) (by kernel_rfl) (by kernel_rfl) (fun _ _ _ h => h) (Or.inl ⟨by kernel_rfl, ?_⟩) (by assumption) ?_
            rotate_left
            · ((intro w hSw; go_simp) <;> with_reducible rfl)
            try simp only [wj, wj2, Act.put, List.setIfInBounds_toArray, List.set_cons_zero, List.set_cons_succ]
            refine Rk.take [14, 15] (i := 8) (v := ?_) rfl (by kernel_rfl) (by kernel_rfl) (by kernel_rfl) (by kernel_rfl) (by kernel_rfl) (fun _ _ _ h => h) (Or.inl ⟨by kernel_rfl, ?_⟩) (by assumption) ?_
            rotate_left
            · ((intro w hSw; (try dsimp only at hSw); go_simp) <;> with_reducible rfl)
            try simp only [wj, wj2, Act.put, List.setIfInBounds_toArray, List.set_cons_zero, List.set_cons_succ]
            refine Rk.takeP (i := 9) (v := ?_) rfl (by kernel_rfl) (by kernel_rfl) (by kernel_rfl) (by kernel_rfl) (fun _ _ _ h => h) (Or.inl ⟨by kernel_rfl, ?_⟩) (by assumption) ?_
            rotate_left
            · ((intro w hSw; go_simp) <;> with_reducible rfl)
            try simp only [wj, wj2, Act.put, List.setIfInBounds_toArray, List.set_cons_zero, List.set_cons_succ]
            refine Rk.takeP (i := 10) (v := ?_) rfl (by kernel_rfl) (by kernel_rfl) (by kernel_rfl) (by kernel_rfl) (fun _ _ _ h => h) (Or.inl ⟨by kernel_rfl, ?_⟩) (by assumption) ?_
            rotate_left
            · ((intro w hSw; go_simp) <;> with_reducible rfl)
            try simp only [wj, wj2, Act.put, List.setIfInBounds_toArray, List.set_cons_zero, List.set_cons_succ]
            refine Rk.takeP (i := 11) (v := ?_) rfl (by kernel_rfl) (by kernel_rfl) (by kernel_rfl) (by kernel_rfl) (fun _ _ _ h => h) (Or.inl ⟨by kernel_rfl, ?_⟩) (by assumption) ?_
            rotate_left
            · ((intro w hSw; go_simp) <;> with_reducible rfl)
            try simp only [wj, wj2, Act.put, List.setIfInBounds_toArray, List.set_cons_zero, List.set_cons_succ]
            refine Rk.takeP (i := 12) (v := ?_) rfl (by kernel_rfl) (by kernel_rfl) (by kernel_rfl) (by kernel_rfl) (fun _ _ _ h => h) (Or.inl ⟨by kernel_rfl, ?_⟩) (by assumption) ?_
            rotate_left
            · ((intro w hSw; go_simp) <;> with_reducible rfl)
            try simp only [wj, wj2, Act.put, List.setIfInBounds_toArray, List.set_cons_zero, List.set_cons_succ]
            refine Rk.take [14, 15] (i := 13) (v := ?_) rfl (by kernel_rfl) (by kernel_rfl) (by kernel_rfl) (by kernel_rfl) (by kernel_rfl) (fun _ _ _ h => h) (Or.inl ⟨by kernel_rfl, ?_⟩) (by assumption) ?_
            rotate_left
            · ((intro w hSw; (try dsimp only at hSw); go_simp) <;> with_reducible rfl)
            try simp only [wj, wj2, Act.put, List.setIfInBounds_toArray, List.set_cons_zero, List.set_cons_succ]
            refine Rk.one (i := 14) (by kernel_rfl) rfl (fun KK hK => ?_)
            rw [if_pos (by kernel_rfl)]
            go_simp
            rw [HKF.out, Oper.upon_enter]
            ((with_reducible refine (NC.out x y HX.out HY.out HLT.out _ (HKW.out.trans (KG.below (hHeld.2.2)))).mono ?_); rintro e u ⟨⟨v, rfl, hv⟩, hb⟩; replace hv := hv.trans hr2)
            first | (refine hK.out _ _ (fun _ => HS.out _ _ hHeld hb) (fun hHeld => ?_)) | (refine hK.out _ _ (HS.out _ _ hHeld hb) (fun hHeld => ?_)) | (go_wp2_with fail; refine hK.out _ _ (HS.out _ _ hHeld hb) (fun hHeld => ?_))
            clear hK KK
            refine Rk.tail [15, 16] [_, _] (by kernel_rfl) (by kernel_rfl) rfl (by decide) ?_
            have KB0 := hHeld.2.2
            have O2 := Lib.hid (own_belowE hOW.out KB0)
            have B2 := Lib.hid (hB.out.trans (KB0.mono (by have := hB.out.size; omega)))
            have K2 := Lib.hid (hK.out.trans (KG.below KB0))
            have HA2 : Hid (ASO a b (i + 1) L2) := Lib.hid (fun p q p1 pq qi qb => HA.out.2 p q p1 pq (by omega) qb)
            clear hHeld HS hJ hOW hB hK KB0 HA
            go_wp2_with fail
            exact ⟨⟨i + 1, L2, by go_num, by omega, by omega, HI2, hM, HA2, O2, B2, K2⟩, by simp [intOf]; omega⟩
        · obtain rfl : j = a := by omega
          have j1 : decide ((j : Int) < (j : Int)) = false := by simp
          have HI2 : Hid (insI cf j (b - (i + 1)) (i + 1) L2 = RES) := Lib.hid (by
            have h := hJ.out
            rw [insJ_stop (Nat.le_refl _)] at h
            rw [h]; exact HI.out)
          have HA2 : Hid (ASO j b (i + 1) L2) := Lib.hid (fun p q p1 pq qi qb => HA.out.2 p q p1 pq (by omega) qb)
          clear hJ HA
          go_wp2_with fail
          go_quiet (fail)
          go_wp2_with fail
          exact ⟨⟨i + 1, L2, by go_num, by omega, by omega, HI2, hM, HA2, hOW, Lib.hid (below_drewN hB.out _), Lib.hid (hK.out.trans (KG.below (below_drewN (Below.refl _ _) _)))⟩, by simp [intOf]; omega⟩
    · have HE : Hid (L = RES) := Lib.hid (by
        have h := hR.out
        rw [show b - i = 0 by omega] at h
        exact h)
      go_wp2
      go_end0
      exact ⟨rfl, hB.out, hK.out, by rw [← HE.out]; exact hOW⟩
end Go.Proofs.Ytghnigmmkenddaa.Ar
