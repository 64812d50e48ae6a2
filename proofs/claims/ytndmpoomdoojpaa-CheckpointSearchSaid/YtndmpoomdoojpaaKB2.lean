/- A way of least cost through the search. -/
import Derived.Test.YtndmpoomdoojpaaKB1
namespace Go.Proofs.Ytndmpoomdoojpaa.Ck.Bf
open Go.ChangeShapes Go.WideShapes Go.ChangeAt Go.RowKit Go.Proofs.Ytndmpoomdoojpaa.Ck
set_option linter.unusedVariables false
/-- The sum of a split. -/
def sm (n f k : Nat) : Int := (k : Int) + co ((n - k : Nat) : Int) ((f - 1 : Nat) : Int) + co (k : Int) (f : Int)
/-- The first split of the least sum, of those up to a number. -/
def spl (n f : Nat) : Nat → Nat
  | 0 => 1
  | m + 1 => if sm n f (m + 1) < sm n f (spl n f m) then m + 1 else spl n f m
theorem spl_bd (n f : Nat) : ∀ m, 1 ≤ spl n f m ∧ spl n f m ≤ max 1 m
  | 0 => ⟨Nat.le_refl _, by show 1 ≤ max 1 0; omega⟩
  | m + 1 => by
    have ih := spl_bd n f m
    unfold spl
    split <;> omega
theorem spl_le (n f : Nat) : ∀ m k, 1 ≤ k → k ≤ max 1 m → sm n f (spl n f m) ≤ sm n f k
  | 0, k, h1, h2 => by
    obtain rfl : k = 1 := by omega
    exact Int.le_refl _
  | m + 1, k, h1, h2 => by
    have ih := spl_le n f m
    unfold spl
    by_cases hk : k = m + 1
    · subst hk
      split <;> omega
    · have := ih k h1 (by omega)
      split <;> omega
/-- The least sum is the cost. -/
theorem bl_min {k n : Nat} (hk : k + 1 < 65) (hn : n < 65) : ∀ m, m < n → ∀ x : Int, (∀ j, 1 ≤ j → j ≤ m → x ≤ sm n (k + 1) j) → x ≤ (n : Int) * (n - 1) / 2 → x ≤ bl (R k) (R (k + 1)) n m
  | 0, _, x, _, h => h
  | m + 1, hm, x, hj, h => by
    unfold bl
    have h1 := bl_min hk hn m (by omega) x (fun j a b => hj j a (by omega)) h
    have h2 := hj (m + 1) (by omega) (Nat.le_refl _)
    unfold sm at h2
    rw [R_get (by omega), R_get (by omega)]
    simp only [Nat.add_sub_cancel] at h2
    omega
theorem bl_le {k n : Nat} (hk : k + 1 < 65) (hn : n < 65) : ∀ m, m < n → ∀ j, 1 ≤ j → j ≤ m → bl (R k) (R (k + 1)) n m ≤ sm n (k + 1) j
  | 0, _, j, h1, h2 => by omega
  | m + 1, hm, j, h1, h2 => by
    unfold bl
    by_cases hj : j = m + 1
    · subst hj
      unfold sm
      rw [R_get (by omega), R_get (by omega)]
      simp only [Nat.add_sub_cancel]
      omega
    · have := bl_le hk hn m (by omega) j h1 (by omega)
      omega
theorem co_small {f : Nat} (hf : f < 65) : co 0 f = 0 ∧ co 1 f = 0 := by
  have h : ((List.range 65).all fun (s : Nat) => decide (co 0 s = 0) && decide (co 1 s = 0)) = true := by decide +kernel
  have := List.all_eq_true.1 h f (List.mem_range.2 hf)
  simpa using this
theorem tri (m : Nat) : ((m + 1 : Nat) : Int) * (((m + 1 : Nat) : Int) - 1) / 2 = (m : Int) + (m : Int) * ((m : Int) - 1) / 2 := by
  have e : ((m + 1 : Nat) : Int) * (((m + 1 : Nat) : Int) - 1) = (m : Int) * ((m : Int) - 1) + (m : Int) * 2 := by
    rw [show ((m + 1 : Nat) : Int) - 1 = (m : Int) by omega, show ((m + 1 : Nat) : Int) = (m : Int) + 1 by omega, Int.add_mul, Int.mul_sub]
    omega
  rw [e, Int.add_mul_ediv_right _ _ (by decide), Int.add_comm]
theorem co_tri {n : Nat} (hn : n < 65) : co (n : Int) 0 = (n : Int) * ((n : Int) - 1) / 2 := (rec_zero hn).symm
theorem co_zero_step {m : Nat} (hm : m + 1 < 65) : (m : Int) + co (m : Int) 0 = co ((m + 1 : Nat) : Int) 0 := by
  rw [co_tri hm, co_tri (by omega), tri]
theorem spl_cost {n f : Nat} (h2 : 2 ≤ n) (hn : n < 65) (h1 : 1 ≤ f) (hf : f < 65) : sm n f (spl n f (n - 1)) = co (n : Int) (f : Int) := by
  obtain ⟨k, rfl⟩ : ∃ k, f = k + 1 := ⟨f - 1, by omega⟩
  have hr := rec_ok (k := k) (n := n) (by omega) hn
  have hb := spl_bd n (k + 1) (n - 1)
  refine Int.le_antisymm ?_ ?_
  · rw [← hr]
    refine bl_min (by omega) hn (n - 1) (by omega) _ (fun j a b => spl_le n (k + 1) (n - 1) j a (by omega)) ?_
    have h := spl_le n (k + 1) (n - 1) 1 (Nat.le_refl _) (by omega)
    have hs : sm n (k + 1) 1 = 1 + co ((n - 1 : Nat) : Int) (k : Int) + co 1 ((k + 1 : Nat) : Int) := rfl
    rw [(co_small hf).2] at hs
    have hc : co ((n - 1 : Nat) : Int) (k : Int) ≤ co ((n - 1 : Nat) : Int) 0 := by
      by_cases hk : k ≤ 63
      · exact (co_ext (n := ((n - 1 : Nat) : Int)) (s := (k : Int)) (by omega) (by omega) (by omega) (by omega)).2.2.2.1
      · omega
    obtain ⟨m, rfl⟩ : ∃ m, n = m + 1 := ⟨n - 1, by omega⟩
    rw [tri]
    rw [co_tri (by omega)] at hc
    simp only [Nat.add_sub_cancel] at hc hs h ⊢
    omega
  · rw [← hr]
    exact bl_le (by omega) hn (n - 1) (by omega) _ hb.1 (by omega)
/-- A way from a position to another, with so many advances. -/
inductive Pt (N S : Nat) (x : Nd) : Nat → Nd → Prop
  | refl : Pt N S x 0 x
  | free {c : Nat} {y z : Nd} : Pt N S x c y → z ∈ nb N S y → Pt N S x c z
  | adv {c : Nat} {y : Nd} : Pt N S x c y → y.1 < N → Pt N S x (c + 1) (y.1 + 1, y.2.1, y.2.2)
theorem Pt.trans {N S : Nat} {x y z : Nd} {c d : Nat} (h : Pt N S x c y) (g : Pt N S y d z) : Pt N S x (c + d) z := by
  induction g with
  | refl => exact h
  | free _ hz ih => exact .free ih hz
  | adv _ hz ih => exact .adv ih hz
theorem Pt.walk {N S fr l s : Nat} : ∀ k, fr + k ≤ N → Pt N S (fr, l, s) k (fr + k, l, s)
  | 0, _ => .refl
  | k + 1, h => .adv (Pt.walk k (by omega)) (by simp only; omega)
theorem Pt.one {N S : Nat} {x y : Nd} (h : y ∈ nb N S x) : Pt N S x 0 y := .free .refl h
/-- A state that can be restored. -/
def At0 (fr s : Nat) : Prop := fr = 0 ∨ s.testBit fr = true
theorem At0.mem {N S fr a l s : Nat} (h : At0 fr s) (hN : fr < N) : (fr, l, s) ∈ nb N S (a, l, s) := by
  rcases h with rfl | h
  · exact mem_nb.2 (.inl rfl)
  · by_cases h0 : fr = 0
    · subst h0; exact mem_nb.2 (.inl rfl)
    · exact mem_nb.2 (.inr (.inr (.inl ⟨fr, hN, by omega, h, .inl rfl⟩)))
theorem or_xor {s j : Nat} (h : s.testBit j = false) : (s ||| 2 ^ j) ^^^ 2 ^ j = s := by
  refine Nat.eq_of_testBit_eq fun i => ?_
  rw [tb_xor, tb_or]
  by_cases e : j = i
  · subst e; simp [h]
  · simp [e]
theorem rvs (N S : Nat) (hN : N ≤ 64) (hS : S ≤ 64) : ∀ (m n f fr s : Nat), n ≤ m → fr + n ≤ N → f + (HS s N).length ≤ S → At0 fr s → (∀ j, s.testBit j = true → j ≤ fr) → ∃ (c a : Nat), (c : Int) = co (n : Int) (f : Int) ∧ Pt N S (fr, fr + n, s) c (a, fr, s)
  | m, 0, f, fr, s, _, hfr, hf, h0, hb => ⟨0, fr, ((co_small (f := f) (by omega)).1).symm, .refl⟩
  | m, 1, f, fr, s, _, hfr, hf, h0, hb => ⟨0, fr, ((co_small (f := f) (by omega)).2).symm, .one (mem_nb.2 (.inr (.inl ⟨rfl, rfl⟩)))⟩
  | 0, n + 2, f, fr, s, hm, _, _, _, _ => by omega
  | m + 1, n + 2, 0, fr, s, hm, hfr, hf, h0, hb => by
    obtain ⟨c, a, hc, hp⟩ := rvs N S hN hS m (n + 1) 0 fr s (by omega) (by omega) hf h0 hb
    have h1 : Pt N S (fr, fr + (n + 2), s) (n + 1) (fr + (n + 1), fr + (n + 2), s) := Pt.walk (n + 1) (by omega)
    have h2 : Pt N S (fr, fr + (n + 2), s) (n + 1) (fr + (n + 1), fr + (n + 1), s) := .free h1 (mem_nb.2 (.inr (.inl ⟨rfl, rfl⟩)))
    have h3 : Pt N S (fr, fr + (n + 2), s) (n + 1) (fr, fr + (n + 1), s) := .free h2 (h0.mem (by omega))
    refine ⟨n + 1 + c, a, ?_, h3.trans hp⟩
    have := co_zero_step (m := n + 1) (by omega)
    push_cast at this hc ⊢
    omega
  | m + 1, n + 2, f + 1, fr, s, hm, hfr, hf, h0, hb => by
    obtain ⟨k1, k2⟩ := spl_bd (n + 2) (f + 1) (n + 1)
    obtain ⟨k, hk⟩ : ∃ k, spl (n + 2) (f + 1) (n + 1) = k := ⟨_, rfl⟩
    have hcost := spl_cost (n := n + 2) (f := f + 1) (by omega) (by omega) (by omega) (by omega)
    rw [show n + 2 - 1 = n + 1 from rfl, hk] at hcost
    rw [hk] at k1 k2
    have hbk : s.testBit (fr + k) = false := by
      cases hq : s.testBit (fr + k) with
      | false => rfl
      | true => have := hb _ hq; omega
    have hs : ∀ j, (s ||| 2 ^ (fr + k)).testBit j = true → s.testBit j = true ∨ j = fr + k := fun j hj => by
      rw [tb_or, Bool.or_eq_true, decide_eq_true_eq] at hj
      exact hj.imp id fun e => e.symm
    have hl := HS_add hs N
    rw [if_pos (by omega)] at hl
    have hbit : (s ||| 2 ^ (fr + k)).testBit (fr + k) = true := by rw [tb_or]; simp
    obtain ⟨c1, a1, hc1, hp1⟩ := rvs N S hN hS m (n + 2 - k) f (fr + k) (s ||| 2 ^ (fr + k)) (by omega) (by omega) (by omega) (.inr hbit) (fun j hj => by
      rcases hs j hj with h | rfl
      · have := hb j h; omega
      · exact Nat.le_refl _)
    obtain ⟨c2, a2, hc2, hp2⟩ := rvs N S hN hS m k (f + 1) fr s (by omega) (by omega) (by omega) h0 hb
    have h1 : Pt N S (fr, fr + (n + 2), s) k (fr + k, fr + (n + 2), s) := Pt.walk k (by omega)
    have h2 : Pt N S (fr, fr + (n + 2), s) k (fr + k, fr + (n + 2), s ||| 2 ^ (fr + k)) := .free h1 (mem_nb.2 (.inr (.inr (.inr ⟨by simp only; omega, by simp only; omega, by simp only; omega, rfl⟩))))
    have e1 : fr + k + (n + 2 - k) = fr + (n + 2) := by omega
    rw [e1] at hp1
    have h3 := h2.trans hp1
    have h4 : Pt N S (fr, fr + (n + 2), s) (k + c1) (a1, fr + k, s) := .free h3 (mem_nb.2 (.inr (.inr (.inl ⟨fr + k, by omega, by omega, hbit, .inr (by simp only; rw [or_xor hbk])⟩))))
    have h5 : Pt N S (fr, fr + (n + 2), s) (k + c1) (fr, fr + k, s) := .free h4 (h0.mem (by omega))
    refine ⟨k + c1 + c2, a2, ?_, h5.trans hp2⟩
    unfold sm at hcost
    simp only [Nat.add_sub_cancel] at hcost
    push_cast at hcost hc1 hc2 ⊢
    omega
/-- From the start, all steps are reversed at the binomial cost. -/
theorem reach_co (N S : Nat) (hN : N ≤ 64) (hS : S ≤ 64) : ∃ (c a : Nat), (c : Int) = co (N : Int) (S : Int) ∧ Pt N S (0, N, 0) c (a, 0, 0) := by
  obtain ⟨c, a, h1, h2⟩ := rvs N S hN hS N N S 0 0 (Nat.le_refl _) (by omega) (by rw [HS_none]; simp) (.inl rfl) (fun j hj => absurd hj (by simp))
  rw [Nat.zero_add] at h2
  exact ⟨c, a, h1, h2⟩
end Go.Proofs.Ytndmpoomdoojpaa.Ck.Bf
