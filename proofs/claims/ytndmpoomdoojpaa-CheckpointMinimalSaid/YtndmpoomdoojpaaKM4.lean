/- What an accepted plan tells: its cost is at least the binomial cost, and more slots change nothing. -/
import Derived.Test.YtndmpoomdoojpaaKM3
import Derived.Test.YtndmpoomdoojpaaK3
namespace Go.Proofs.Ytndmpoomdoojpaa.Ck
open Go.ChangeShapes Go.WideShapes Go.ChangeAt Go.RowKit
set_option linter.unusedVariables false

def regs (s : Int) (t : St) : List Nat := t.now.toNat :: (t.held.take s.toNat).map Int.toNat
def Inv (n s T : Int) (t : St) : Prop := 0 ≤ t.now ∧ t.held.length = 64 ∧ 0 ≤ t.left ∧ t.left ≤ n ∧ Low (s.toNat + 1) (regs s t) t.left.toNat (T - t.cost)
theorem sl_iff {s z : Int} : sl s z = true ↔ 0 ≤ z ∧ z < s := by unfold sl; simp
theorem step_inv {n s T : Int} {t : St} {a : Act3} (hn : n ≤ 64) (s0 : 0 ≤ s) (s1 : s ≤ 64) (h : Inv n s T t) (hv : val n s t a = true) : Inv n s T (nxt t a) := by
  obtain ⟨h1, h2, h3, h4, h5⟩ := h
  obtain ⟨op, A, z⟩ := a
  by_cases o1 : op = 1
  · subst o1
    rw [val1] at hv
    simp only [Bool.and_eq_true, decide_eq_true_eq] at hv
    obtain ⟨_, e, _⟩ := hv
    refine ⟨by show 0 ≤ A; omega, h2, h3, h4, ?_⟩
    have h6 := Low.adv (p := t.now.toNat) h5
    have e2 : regs s (nxt t (1, A, z)) = (t.now.toNat + 1) :: (t.held.take s.toNat).map Int.toNat := by
      show A.toNat :: _ = _
      rw [show A.toNat = t.now.toNat + 1 by omega]
      rfl
    rw [e2]
    show Low _ _ t.left.toNat (T - (t.cost + 1))
    rw [show T - (t.cost + 1) = T - t.cost - 1 by omega]
    exact h6
  · by_cases o2 : op = 2
    · subst o2
      rw [val2] at hv
      simp only [Bool.and_eq_true, decide_eq_true_eq] at hv
      obtain ⟨e, es⟩ := hv
      refine ⟨h1, by show (t.held.set z.toNat t.now).length = 64; simpa using h2, h3, h4, h5.anti fun x hx => ?_⟩
      have hx : x ∈ t.now.toNat :: ((t.held.set z.toNat t.now).take s.toNat).map Int.toNat := hx
      right
      rcases List.mem_cons.1 hx with rfl | hx
      · exact List.mem_cons_self
      · obtain ⟨y, hy, rfl⟩ := List.mem_map.1 hx
        rw [List.take_set] at hy
        rcases List.mem_or_eq_of_mem_set hy with hy | rfl
        · exact List.mem_cons_of_mem _ (List.mem_map.2 ⟨y, hy, rfl⟩)
        · exact List.mem_cons_self
    · by_cases o3 : op = 3
      · subst o3
        rw [val3] at hv
        simp only [Bool.and_eq_true, Bool.or_eq_true, decide_eq_true_eq] at hv
        have hm : 0 ≤ A ∧ (A.toNat = 0 ∨ A.toNat ∈ regs s t) := by
          rcases hv with ⟨e1, e2, e3⟩ | ⟨e1, e2⟩
          · refine ⟨e3, .inr (List.mem_cons_of_mem _ (List.mem_map.2 ⟨A, ?_, rfl⟩))⟩
            obtain ⟨z0, z1⟩ := sl_iff.1 e1
            rw [getD_at (by omega)] at e2
            rw [List.mem_take_iff_getElem]
            exact ⟨z.toNat, by omega, e2⟩
          · exact ⟨by omega, .inl (by omega)⟩
        refine ⟨hm.1, h2, h3, h4, h5.anti fun x hx => ?_⟩
        have hx : x ∈ A.toNat :: (t.held.take s.toNat).map Int.toNat := hx
        rcases List.mem_cons.1 hx with rfl | hx
        · exact hm.2
        · exact .inr (List.mem_cons_of_mem _ hx)
      · by_cases o4 : op = 4
        · subst o4
          rw [val4] at hv
          simp only [Bool.and_eq_true, decide_eq_true_eq] at hv
          obtain ⟨_, e1, e2, e3⟩ := hv
          refine ⟨h1, h2, by show 0 ≤ t.left - 1; omega, by show t.left - 1 ≤ n; omega, ?_⟩
          show Low _ (t.now.toNat :: (t.held.take s.toNat).map Int.toNat) (t.left - 1).toNat (T - t.cost)
          have h6 : Low (s.toNat + 1) (t.now.toNat :: (t.held.take s.toNat).map Int.toNat) (t.now.toNat + 1) (T - t.cost) := by
            have h7 := h5
            rw [show t.left.toNat = t.now.toNat + 1 by omega] at h7
            exact h7
          rw [show (t.left - 1).toNat = t.now.toNat by omega]
          exact h6.rev (by omega) (by omega) (by simp; omega)
        · rw [val0 o1 o2 o3 o4] at hv; cases hv
theorem go_low {n s T L : Int} (hn : n ≤ 64) (s0 : 0 ≤ s) (s1 : s ≤ 64) : ∀ (xs : List Act3) (t : St) (i c : Int), Inv n s T t → go n s L t i xs = (c, 0) → T ≤ c
  | [], t, i, c, h, hg => by
    have hg : (if 0 < t.left then (L, 6) else (t.cost, 0)) = (c, (0 : Int)) := hg
    split at hg
    · simp at hg
    · simp only [Prod.mk.injEq, and_true] at hg
      subst hg
      obtain ⟨h1, h2, h3, h4, h5⟩ := h
      have := h5.2 (by omega)
      omega
  | a :: xs, t, i, c, h, hg => by
    by_cases hv : val n s t a = true
    · rw [go_ok hv] at hg
      exact go_low hn s0 s1 xs _ _ c (step_inv hn s0 s1 h hv) hg
    · rw [go_bad (by simpa using hv)] at hg
      simp at hg
theorem val_wide {n s s' : Int} (hs : s ≤ s') {t : St} {a : Act3} (hv : val n s t a = true) : val n s' t a = true := by
  obtain ⟨op, A, z⟩ := a
  have m : sl s z = true → sl s' z = true := fun h => sl_iff.2 (by have := sl_iff.1 h; omega)
  by_cases o1 : op = 1
  · subst o1; exact hv
  · by_cases o2 : op = 2
    · subst o2
      rw [val2] at hv ⊢
      rw [Bool.and_eq_true] at hv ⊢
      exact ⟨hv.1, m hv.2⟩
    · by_cases o3 : op = 3
      · subst o3
        rw [val3] at hv ⊢
        simp only [Bool.and_eq_true, Bool.or_eq_true] at hv ⊢
        exact hv.imp (fun h => ⟨m h.1, h.2⟩) id
      · by_cases o4 : op = 4
        · subst o4; exact hv
        · rw [val0 o1 o2 o3 o4] at hv; cases hv
theorem go_wide {n s s' L : Int} (hs : s ≤ s') : ∀ (xs : List Act3) (t : St) (i c : Int), go n s L t i xs = (c, 0) → go n s' L t i xs = (c, 0)
  | [], t, i, c, hg => hg
  | a :: xs, t, i, c, hg => by
    by_cases hv : val n s t a = true
    · rw [go_ok hv] at hg
      rw [go_ok (val_wide hs hv)]
      exact go_wide hs xs _ _ c hg
    · rw [go_bad (by simpa using hv)] at hg
      simp at hg
/-- What an accepted plan tells. -/
theorem ck_min {n s a : Int} {xs : List Act3} (hl : xs.length ≤ 400) (h : ck n s xs = (a, 0)) : (0 ≤ n ∧ n ≤ 64 ∧ 0 ≤ s ∧ s ≤ 64) ∧ co n s ≤ a ∧ ∀ s', s ≤ s' → s' ≤ 64 → ck n s' xs = (a, 0) := by
  unfold ck at h
  split at h
  · simp at h
  · rename_i hi
    rw [if_neg (by omega)] at h
    have hb : 0 ≤ n ∧ n ≤ 64 ∧ 0 ≤ s ∧ s ≤ 64 := by
      have : inr n s = true := by simpa using hi
      unfold inr at this
      simpa using this
    refine ⟨hb, ?_, fun s' h1 h2 => ?_⟩
    · obtain ⟨n0, n1, s0, s1⟩ := hb
      refine go_low n1 s0 s1 xs _ _ a ⟨by show (0 : Int) ≤ 0; omega, by simp, n0, by show n ≤ n; omega, ?_⟩ h
      have z : ∀ x ∈ regs s ⟨List.replicate 64 (-1), 0, n, 0⟩, x = 0 := fun x hx => by
        have hx : x ∈ (0 : Int).toNat :: ((List.replicate 64 (-1 : Int)).take s.toNat).map Int.toNat := hx
        rcases List.mem_cons.1 hx with rfl | hx
        · rfl
        · obtain ⟨y, hy, rfl⟩ := List.mem_map.1 hx
          have := (List.mem_replicate.1 (List.mem_of_mem_take hy)).2
          subst this; rfl
      have := Low.start (c := s.toNat + 1) (n := n.toNat) z (by omega) (by omega)
      have e : F (s.toNat + 1) n.toNat = co n s - 0 := by
        show co ((n.toNat : Nat) : Int) ((s.toNat : Nat) : Int) = _
        rw [Int.toNat_of_nonneg n0, Int.toNat_of_nonneg s0]; omega
      rw [e] at this
      exact this
    · unfold ck
      have : inr n s' = true := by unfold inr; simp; omega
      rw [this, if_neg (by decide), if_neg (by omega)]
      exact go_wide h1 xs _ _ a h
theorem co_wide {n s : Int} (n0 : 0 ≤ n) (n1 : n ≤ 64) (s0 : 0 ≤ s) : ∀ k : Nat, s + k ≤ 64 → co n (s + k) ≤ co n s
  | 0, h => by simp
  | k + 1, h => by
    have ih := co_wide n0 n1 s0 k (by omega)
    have := (co_ext (n := n) (s := s + k) n0 n1 (by omega) (by omega)).2.2.1
    rw [show s + ((k + 1 : Nat) : Int) = s + k + 1 by omega]
    omega
end Go.Proofs.Ytndmpoomdoojpaa.Ck
