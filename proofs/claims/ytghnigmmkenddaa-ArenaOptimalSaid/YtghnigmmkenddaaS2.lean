/- Two ranges of a row change places. -/
import Derived.Test.YtghnigmmkenddaaS1
namespace Go.Proofs.Ytghnigmmkenddaa.Ar
open Go.ChangeShapes Go.WideShapes Go.ChangeAt Go.RowKit

set_option linter.unusedVariables false
set_option linter.unusedSimpArgs false
/-- Ranges change places, element by element. -/
def swR : Nat → Nat → Nat → List Int → List Int
  | 0, _, _, L => L
  | n + 1, a, b, L => swR n (a + 1) (b + 1) (swE L a b)
theorem swR_len : ∀ (n a b : Nat) (L : List Int), (swR n a b L).length = L.length
  | 0, _, _, _ => rfl
  | n + 1, a, b, L => by unfold swR; rw [swR_len n, swE_len]
theorem swE_mid (Q : List Int) (x : Int) (M : List Int) (y : Int) (R : List Int) : swE (Q ++ x :: (M ++ y :: R)) Q.length (Q.length + 1 + M.length) = Q ++ y :: (M ++ x :: R) := by
  have e1 : (Q ++ x :: (M ++ y :: R)).getD Q.length e50 = x := by simp [List.getD]
  have e2 : (Q ++ x :: (M ++ y :: R)).getD (Q.length + 1 + M.length) e50 = y := by
    unfold List.getD
    rw [List.getElem?_append_right (by omega), show Q.length + 1 + M.length - Q.length = M.length + 1 by omega, List.getElem?_cons_succ, List.getElem?_append_right (Nat.le_refl _), Nat.sub_self]
    rfl
  unfold swE
  rw [e1, e2, List.set_append_right _ _ (Nat.le_refl _), Nat.sub_self, List.set_cons_zero, List.set_append_right _ _ (by omega), show Q.length + 1 + M.length - Q.length = M.length + 1 by omega, List.set_cons_succ, List.set_append_right _ _ (Nat.le_refl _), Nat.sub_self, List.set_cons_zero]
theorem swR_mid : ∀ (A B Q M R : List Int), A.length = B.length → swR A.length Q.length (Q.length + A.length + M.length) (Q ++ (A ++ (M ++ (B ++ R)))) = Q ++ (B ++ (M ++ (A ++ R)))
  | [], [], Q, M, R, _ => rfl
  | [], _ :: _, _, _, _, h => absurd h (by simp)
  | _ :: _, [], _, _, _, h => absurd h (by simp)
  | x :: A, y :: B, Q, M, R, h => by
    have hl : A.length = B.length := by simpa using h
    have e0 : swE (Q ++ (x :: A ++ (M ++ (y :: B ++ R)))) Q.length (Q.length + (A.length + 1) + M.length) = Q ++ y :: (A ++ (M ++ (x :: (B ++ R)))) := by
      have h1 := swE_mid Q x (A ++ M) y (B ++ R)
      rw [show Q.length + 1 + (A ++ M).length = Q.length + (A.length + 1) + M.length by simp; omega] at h1
      simpa using h1
    have ih := swR_mid A B (Q ++ [y]) (M ++ [x]) R hl
    rw [List.length_cons]
    unfold swR
    rw [e0]
    rw [show (Q ++ [y]).length = Q.length + 1 by simp, show Q.length + 1 + A.length + (M ++ [x]).length = Q.length + (A.length + 1) + M.length + 1 by simp; omega] at ih
    have e2 : Q ++ y :: (A ++ (M ++ (x :: (B ++ R)))) = Q ++ [y] ++ (A ++ (M ++ [x] ++ (B ++ R))) := by simp
    rw [e2, ih]
    simp

set_option maxRecDepth 100000 in
set_option maxHeartbeats 8000000 in
/-- Two ranges of a row change places. -/
theorem swrN (cl : Value) (g cap base n a b k : Nat) (L0 : List Int) (w : World) (hn : n ≤ 100000) (hl : L0.length = n) (hab : a + k ≤ b) (hbn : b + k ≤ n) (hO : Hid (w.ownsRow base 3 1 (.slice (some ⟨g, 0, none⟩) n cap) n (rowE L0))) :
    Calls Try.prog 52 #[.slice (some ⟨g, 0, none⟩) n cap, .int .i64 (a : Int), .int .i64 (b : Int), .int .i64 (k : Int), cl] w fun e w' => e = .returned (.tuple #[]) ∧ Below base w w' ∧ KG g w w' ∧ Hid (w'.ownsRow base 3 1 (.slice (some ⟨g, 0, none⟩) n cap) n (rowE (swR k a b L0))) := by
  obtain ⟨RES, hRES⟩ : ∃ RES, swR k a b L0 = RES := ⟨_, rfl⟩
  rw [hRES]
  have HRES := Lib.hid hRES
  have HL := Lib.hid hl
  have hbase : base ≤ g ∨ n = 0 := by
    rcases hO.out.2 with ⟨h, hz⟩ | ⟨g', cap', cur, h, hb, _⟩
    · simp at h
    · cases h; exact .inl hb
  clear hRES hl
  go_enter Try.func52, Try.ntmps52
  go_wp2_with fail
  go_loopw [10] (fun iv wr => ∃ (i : Nat) (L : List Int), iv = .int .i64 (i : Int) ∧ i ≤ k ∧ Hid (swR (k - i) (a + i) (b + i) L = RES) ∧ Hid (L.length = n) ∧ Hid (wr.ownsRow base 3 1 (.slice (some ⟨g, 0, none⟩) n cap) n (rowE L)) ∧ Hid (Below base w wr) ∧ Hid (KG g w wr)) (fun iv _ => k - (intOf iv).toNat)
  case atStart => exact ⟨0, L0, rfl, Nat.zero_le _, HRES, HL, hO, Lib.hid (Below.refl _ _), Lib.hid (KG.refl _ _)⟩
  case round =>
    obtain ⟨i, L, rfl, hi, hR, hM, hOW, hB, hK⟩ := hrel
    by_cases hlt : i < k
    · have i2 : (i : Int) < k := by omega
      obtain ⟨p, hp⟩ : ∃ p, p = a + i := ⟨_, rfl⟩
      obtain ⟨q, hq⟩ : ∃ q, q = b + i := ⟨_, rfl⟩
      have hpL : p < L.length := by rw [hM.out]; omega
      have hqL : q < L.length := by rw [hM.out]; omega
      have HI : Hid (swR (k - (i + 1)) (a + (i + 1)) (b + (i + 1)) (swE L p q) = RES) := Lib.hid (by
        have h := hR.out
        rw [show k - i = (k - (i + 1)) + 1 by omega, ← hp, ← hq] at h
        unfold swR at h
        rw [show a + (i + 1) = p + 1 by omega, show b + (i + 1) = q + 1 by omega]
        exact h)
      have v0 := rowE_get L p hpL
      have u0 := rowE_get L q hqL
      have c0 := (hOW.out.cellAt p (by omega)).trans v0
      have d0 := (hOW.out.cellAt q (by omega)).trans u0
      obtain ⟨x, hx⟩ : ∃ x, L.getD p e50 = x := ⟨_, rfl⟩
      obtain ⟨y, hy⟩ : ∃ y, L.getD q e50 = y := ⟨_, rfl⟩
      rw [hx] at c0
      rw [hy] at d0
      have wa : IntKind.i64.wrap ((a : Int) + (i : Int)) = (p : Int) := by rw [IntKind.wrap_i64]; omega
      have wb : IntKind.i64.wrap ((b : Int) + (i : Int)) = (q : Int) := by rw [IntKind.wrap_i64]; omega
      have wa2 : (a : Int) + (i : Int) = (p : Int) := by omega
      have wb2 : (b : Int) + (i : Int) = (q : Int) := by omega
      have wp : IntKind.i64.wrap (p : Int) = (p : Int) := by rw [IntKind.wrap_i64]; have := hM.out; omega
      have wq : IntKind.i64.wrap (q : Int) = (q : Int) := by rw [IntKind.wrap_i64]; have := hM.out; omega
      have j2 : (p : Int) < n := by have := hM.out; omega
      have j3 : (q : Int) < n := by have := hM.out; omega
      have j4 : (0 : Int) ≤ p := by omega
      have j5 : (0 : Int) ≤ q := by omega
      have f0 : wr.frozen? ⟨g, p, none⟩ = false := hOW.out.frozenAt _
      have f3 : wr.frozen? ⟨g, q, none⟩ = false := hOW.out.frozenAt _
      have hz3 : wr.drew.cell? ⟨g, p, none⟩ = some (.int .i64 x) ∧ wr.drew.cell? ⟨g, q, none⟩ = some (.int .i64 y) ∧ Below wr.heap.size wr wr.drew := ⟨c0, d0, (Below.refl _ _).drew⟩
      have HEND := Lib.hid (swq_world (x := x) (y := y) hbase hOW.out hM.out hpL hqL hx hy)
      have HMM : Hid ((swE L p q).length = n) := Lib.hid (by rw [swE_len]; exact hM.out)
      clear v0 u0 hR hM hOW hpL hqL hx hy hp hq
      go_wp2_with fail
      refine Rk.begin (S := fun wS => wS.cell? ⟨g, p, none⟩ = some (.int .i64 x) ∧ wS.cell? ⟨g, q, none⟩ = some (.int .i64 y) ∧ Below wr.heap.size wr wS) 21 (by kernel_rfl) hz3 (fun hHeld => ?_)
      refine Rk.takeP (i := 0) (v := ?_) rfl (by kernel_rfl) (by kernel_rfl) (by kernel_rfl) (by kernel_rfl) (fun _ _ _ h => h) (Or.inl ⟨by kernel_rfl, ?_⟩) (by assumption) ?_
      rotate_left
      · ((intro w hSw; go_simp) <;> with_reducible rfl)
      try simp only [wa, wa2, wb, wb2, wp, wq, Act.put, List.setIfInBounds_toArray, List.set_cons_zero, List.set_cons_succ]
      refine Rk.takeP (i := 1) (v := ?_) rfl (by kernel_rfl) (by kernel_rfl) (by kernel_rfl) (by kernel_rfl) (fun _ _ _ h => h) (Or.inl ⟨by kernel_rfl, ?_⟩) (by assumption) ?_
      rotate_left
      · ((intro w hSw; go_simp) <;> with_reducible rfl)
      try simp only [wa, wa2, wb, wb2, wp, wq, Act.put, List.setIfInBounds_toArray, List.set_cons_zero, List.set_cons_succ]
      refine Rk.takeP (i := 2) (v := ?_) rfl (by kernel_rfl) (by kernel_rfl) (by kernel_rfl) (by kernel_rfl) (fun _ _ _ h => h) (Or.inl ⟨by kernel_rfl, ?_⟩) (by assumption) ?_
      rotate_left
      · ((intro w hSw; go_simp) <;> with_reducible rfl)
      try simp only [wa, wa2, wb, wb2, wp, wq, Act.put, List.setIfInBounds_toArray, List.set_cons_zero, List.set_cons_succ]
      refine Rk.takeP (i := 3) (v := ?_) rfl (by kernel_rfl) (by kernel_rfl) (by kernel_rfl) (by kernel_rfl) (fun _ _ _ h => h) (Or.inl ⟨by kernel_rfl, ?_⟩) (by assumption) ?_
      rotate_left
      · ((intro w hSw; go_simp) <;> with_reducible rfl)
      try simp only [wa, wa2, wb, wb2, wp, wq, Act.put, List.setIfInBounds_toArray, List.set_cons_zero, List.set_cons_succ]
      refine Rk.takeP (i := 4) (v := ?_) rfl (by kernel_rfl) (by kernel_rfl) (by kernel_rfl) (by kernel_rfl) (fun _ _ _ h => h) (Or.inl ⟨by kernel_rfl, ?_⟩) (by assumption) ?_
      rotate_left
      · ((intro w hSw; go_simp) <;> with_reducible rfl)
      try simp only [wa, wa2, wb, wb2, wp, wq, Act.put, List.setIfInBounds_toArray, List.set_cons_zero, List.set_cons_succ]
      refine Rk.takeP (i := 5) (v := ?_) rfl (by kernel_rfl) (by kernel_rfl) (by kernel_rfl) (by kernel_rfl) (fun _ _ _ h => h) (Or.inl ⟨by kernel_rfl, ?_⟩) (by assumption) ?_
      rotate_left
      · ((intro w hSw; go_simp) <;> with_reducible rfl)
      try simp only [wa, wa2, wb, wb2, wp, wq, Act.put, List.setIfInBounds_toArray, List.set_cons_zero, List.set_cons_succ]
      refine Rk.takeP (i := 6) (v := ?_) rfl (by kernel_rfl) (by kernel_rfl) (by kernel_rfl) (by kernel_rfl) (fun _ _ _ h => h) (Or.inl ⟨by kernel_rfl, ?_⟩) (by assumption) ?_
      rotate_left
      · ((intro w hSw; go_simp) <;> with_reducible rfl)
      try simp only [wa, wa2, wb, wb2, wp, wq, Act.put, List.setIfInBounds_toArray, List.set_cons_zero, List.set_cons_succ]
      refine Rk.takeP (i := 7) (v := ?_) rfl (by kernel_rfl) (by kernel_rfl) (by kernel_rfl) (by kernel_rfl) (fun _ _ _ h => h) (Or.inl ⟨by kernel_rfl, ?_⟩) (by assumption) ?_
      rotate_left
      · ((intro w hSw; go_simp) <;> with_reducible rfl)
      try simp only [wa, wa2, wb, wb2, wp, wq, Act.put, List.setIfInBounds_toArray, List.set_cons_zero, List.set_cons_succ]
      refine Rk.takeP (i := 8) (v := ?_) rfl (by kernel_rfl) (by kernel_rfl) (by kernel_rfl) (by kernel_rfl) (fun _ _ _ h => h) (Or.inl ⟨by kernel_rfl, ?_⟩) (by assumption) ?_
      rotate_left
      · ((intro w hSw; go_simp) <;> with_reducible rfl)
      try simp only [wa, wa2, wb, wb2, wp, wq, Act.put, List.setIfInBounds_toArray, List.set_cons_zero, List.set_cons_succ]
      refine Rk.takeP (i := 9) (v := ?_) rfl (by kernel_rfl) (by kernel_rfl) (by kernel_rfl) (by kernel_rfl) (fun _ _ _ h => h) (Or.inl ⟨by kernel_rfl, ?_⟩) (by assumption) ?_
      rotate_left
      · ((intro w hSw; go_simp) <;> with_reducible rfl)
      try simp only [wa, wa2, wb, wb2, wp, wq, Act.put, List.setIfInBounds_toArray, List.set_cons_zero, List.set_cons_succ]
      refine Rk.takeP (i := 10) (v := ?_) rfl (by kernel_rfl) (by kernel_rfl) (by kernel_rfl) (by kernel_rfl) (fun _ _ _ h => h) (Or.inl ⟨by kernel_rfl, ?_⟩) (by assumption) ?_
      rotate_left
      · ((intro w hSw; go_simp) <;> with_reducible rfl)
      try simp only [wa, wa2, wb, wb2, wp, wq, Act.put, List.setIfInBounds_toArray, List.set_cons_zero, List.set_cons_succ]
      refine Rk.takeP (i := 11) (v := ?_) rfl (by kernel_rfl) (by kernel_rfl) (by kernel_rfl) (by kernel_rfl) (fun _ _ _ h => h) (Or.inl ⟨by kernel_rfl, ?_⟩) (by assumption) ?_
      rotate_left
      · ((intro w hSw; go_simp) <;> with_reducible rfl)
      try simp only [wa, wa2, wb, wb2, wp, wq, Act.put, List.setIfInBounds_toArray, List.set_cons_zero, List.set_cons_succ]
      refine Rk.takeP (i := 12) (v := ?_) rfl (by kernel_rfl) (by kernel_rfl) (by kernel_rfl) (by kernel_rfl) (fun _ _ _ h => h) (Or.inl ⟨by kernel_rfl, ?_⟩) (by assumption) ?_
      rotate_left
      · ((intro w hSw; go_simp) <;> with_reducible rfl)
      try simp only [wa, wa2, wb, wb2, wp, wq, Act.put, List.setIfInBounds_toArray, List.set_cons_zero, List.set_cons_succ]
      refine Rk.take [21] (i := 13) (v := ?_) rfl (by kernel_rfl) (by kernel_rfl) (by kernel_rfl) (by kernel_rfl) (by kernel_rfl) (fun _ _ _ h => h) (Or.inl ⟨by kernel_rfl, ?_⟩) (by assumption) ?_
      rotate_left
      · ((intro w hSw; (try dsimp only at hSw); go_simp) <;> with_reducible rfl)
      try simp only [wa, wa2, wb, wb2, wp, wq, Act.put, List.setIfInBounds_toArray, List.set_cons_zero, List.set_cons_succ]
      refine Rk.takeP (i := 14) (v := ?_) rfl (by kernel_rfl) (by kernel_rfl) (by kernel_rfl) (by kernel_rfl) (fun _ _ _ h => h) (Or.inl ⟨by kernel_rfl, ?_⟩) (by assumption) ?_
      rotate_left
      · ((intro w hSw; go_simp) <;> with_reducible rfl)
      try simp only [wa, wa2, wb, wb2, wp, wq, Act.put, List.setIfInBounds_toArray, List.set_cons_zero, List.set_cons_succ]
      refine Rk.takeP (i := 15) (v := ?_) rfl (by kernel_rfl) (by kernel_rfl) (by kernel_rfl) (by kernel_rfl) (fun _ _ _ h => h) (Or.inl ⟨by kernel_rfl, ?_⟩) (by assumption) ?_
      rotate_left
      · ((intro w hSw; go_simp) <;> with_reducible rfl)
      try simp only [wa, wa2, wb, wb2, wp, wq, Act.put, List.setIfInBounds_toArray, List.set_cons_zero, List.set_cons_succ]
      refine Rk.takeP (i := 16) (v := ?_) rfl (by kernel_rfl) (by kernel_rfl) (by kernel_rfl) (by kernel_rfl) (fun _ _ _ h => h) (Or.inl ⟨by kernel_rfl, ?_⟩) (by assumption) ?_
      rotate_left
      · ((intro w hSw; go_simp) <;> with_reducible rfl)
      try simp only [wa, wa2, wb, wb2, wp, wq, Act.put, List.setIfInBounds_toArray, List.set_cons_zero, List.set_cons_succ]
      refine Rk.takeP (i := 17) (v := ?_) rfl (by kernel_rfl) (by kernel_rfl) (by kernel_rfl) (by kernel_rfl) (fun _ _ _ h => h) (Or.inl ⟨by kernel_rfl, ?_⟩) (by assumption) ?_
      rotate_left
      · ((intro w hSw; go_simp) <;> with_reducible rfl)
      try simp only [wa, wa2, wb, wb2, wp, wq, Act.put, List.setIfInBounds_toArray, List.set_cons_zero, List.set_cons_succ]
      refine Rk.takeP (i := 18) (v := ?_) rfl (by kernel_rfl) (by kernel_rfl) (by kernel_rfl) (by kernel_rfl) (fun _ _ _ h => h) (Or.inl ⟨by kernel_rfl, ?_⟩) (by assumption) ?_
      rotate_left
      · ((intro w hSw; go_simp) <;> with_reducible rfl)
      try simp only [wa, wa2, wb, wb2, wp, wq, Act.put, List.setIfInBounds_toArray, List.set_cons_zero, List.set_cons_succ]
      refine Rk.take [21] (i := 19) (v := ?_) rfl (by kernel_rfl) (by kernel_rfl) (by kernel_rfl) (by kernel_rfl) (by kernel_rfl) (fun _ _ _ h => h) (Or.inl ⟨by kernel_rfl, ?_⟩) (by assumption) ?_
      rotate_left
      · ((intro w hSw; (try dsimp only at hSw); go_simp) <;> with_reducible rfl)
      try simp only [wa, wa2, wb, wb2, wp, wq, Act.put, List.setIfInBounds_toArray, List.set_cons_zero, List.set_cons_succ]
      refine Rk.takeP (i := 20) (v := ?_) rfl (by kernel_rfl) (by kernel_rfl) (by kernel_rfl) (by kernel_rfl) (fun _ _ _ h => h) (Or.inl ⟨by kernel_rfl, ?_⟩) (by assumption) ?_
      rotate_left
      · ((intro w hSw; go_simp) <;> with_reducible rfl)
      try simp only [wa, wa2, wb, wb2, wp, wq, Act.put, List.setIfInBounds_toArray, List.set_cons_zero, List.set_cons_succ]
      refine Rk.tail [21, 22, 23] [_, _, _] (by kernel_rfl) (by kernel_rfl) rfl (by decide) ?_
      go_wp2_with fail
      go_roundw
      case rel => exact ⟨i + 1, swE L p q, by go_num, by omega, HI, HMM, Lib.hid HEND.out.1.drew, Lib.hid (below_drewN (hB.out.trans (HEND.out.2.2.mono (by have := hB.out.size; omega))) _), Lib.hid ((hK.out.trans HEND.out.2.1).trans (KG.below (below_drewN (Below.refl _ _) _)))⟩
      case measure => simp [intOf]; omega
    · have HE : Hid (L = RES) := Lib.hid (by
        have h := hR.out
        rw [show k - i = 0 by omega] at h
        exact h)
      go_wp2
      go_end0
      exact ⟨rfl, hB.out, hK.out, by rw [← HE.out]; exact hOW⟩
end Go.Proofs.Ytghnigmmkenddaa.Ar
