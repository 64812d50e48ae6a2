/- The lexer: the reference's scan is the program's. -/
import Derived.Test.YtipeapjbodnagaaX12
namespace Go.Proofs.Ytipeapjbodnagaa.Lx
open Go.ChangeShapes Go.WideShapes Go.ChangeAt Go.RowKit
open Go.Proofs.Ytipeapjbodnagaa.Nm
set_option linter.unusedVariables false

theorem rn_drop (f : Int → Bool) (l : List UInt8) (k : Nat) : k + rn f (l.drop k) 0 = rn f l k := by unfold rn; rw [List.drop_zero]; omega
theorem forall_u8 {P : UInt8 → Prop} (h : ∀ n, n < 256 → P (UInt8.ofNat n)) (c : UInt8) : P c := by
  have := h c.toNat c.toNat_lt
  rwa [UInt8.ofNat_toNat] at this
theorem pf1 (c x : UInt8) (r : List UInt8) : pf (c :: r) ⟨#[x]⟩ = (c == x) := by
  show (decide (1 ≤ (c :: r).length) && ((c :: r).take 1 == [x])) = _
  rw [decide_eq_true (by simp), Bool.true_and]
  simp
theorem pf2 (c x z : UInt8) (r : List UInt8) : pf (c :: r) ⟨#[x, z]⟩ = (c == x && (r.head? == some z)) := by
  show (decide (2 ≤ (c :: r).length) && ((c :: r).take 2 == [x, z])) = _
  cases r with
  | nil => simp
  | cons d r => simp
def G (c : UInt8) (b : Bool) : Nat := if (c == 60 && b) = true then 2 else if (c == 61 && b) = true then 2 else if sy (n8 c) = true then 1 else 0
theorem ss_G (c : UInt8) (r : List UInt8) : ss (c :: r) = G c (r.head? == some 61) := by
  unfold ss syb
  simp only [fs, pf1, pf2]
  generalize (r.head? == some 61) = b
  revert c
  apply forall_u8
  cases b <;> decide +kernel
theorem n8_eq (c : UInt8) (m : Nat) (hm : m < 256) : (c == UInt8.ofNat m) = decide (n8 c = (m : Int)) := by
  rw [Bool.eq_iff_iff, beq_iff_eq, decide_eq_true_eq]
  constructor
  · rintro rfl; unfold n8; simp; omega
  · intro h
    unfold n8 at h
    have : c.toNat = m := by omega
    rw [← this]; simp
theorem ss_kd {l : List UInt8} {k : Nat} (h : k < l.length) (h1 : let1 (by1 l k) = false) (h2 : dg (by1 l k) = false) : (kd l k).1 = 0 ∧ ss (l.drop k) = 0 ∨ ((kd l k).1 = 3 ∧ k + ss (l.drop k) = (kd l k).2 ∧ 0 < ss (l.drop k)) := by
  obtain ⟨c, e, hc⟩ := drop_at h
  rw [e, ss_G]
  have hh : ((l.drop (k + 1)).head? == some 61) = decide (k + 1 < l.length ∧ by1 l (k + 1) = 61) := by
    by_cases hk : k + 1 < l.length
    · obtain ⟨d, e2, hd⟩ := drop_at hk
      rw [e2]
      have := n8_eq d 61 (by decide)
      rw [Bool.eq_iff_iff, decide_eq_true_eq]
      simp
      rw [← hd]
      constructor
      · rintro rfl; exact ⟨hk, rfl⟩
      · rintro ⟨_, h9⟩
        have h10 : (d == UInt8.ofNat 61) = true := by rw [this]; exact decide_eq_true h9
        exact beq_iff_eq.1 h10
    · rw [List.drop_eq_nil_of_le (by omega), decide_eq_false (by omega)]; rfl
  rw [hh]
  have c60 := n8_eq c 60 (by decide)
  have c61 := n8_eq c 61 (by decide)
  rw [hc] at c60 c61
  unfold G
  have e60 : (c == 60) = decide (by1 l k = 60) := c60
  have e61 : (c == 61) = decide (by1 l k = 61) := c61
  rw [e60, e61, hc]
  by_cases hs : sy (by1 l k) = true
  · right
    by_cases h3 : k + 1 < l.length ∧ (by1 l k = 60 ∨ by1 l k = 61) ∧ by1 l (k + 1) = 61
    · rw [kd_sy2 h1 h2 hs h3, decide_eq_true (show k + 1 < l.length ∧ by1 l (k + 1) = 61 from ⟨h3.1, h3.2.2⟩)]
      rcases h3.2.1 with h4 | h4
      · rw [h4]; exact ⟨rfl, rfl, by decide⟩
      · rw [h4]; exact ⟨rfl, rfl, by decide⟩
    · rw [kd_sy1 h1 h2 hs h3]
      have e1 : (if (decide (by1 l k = 60) && decide (k + 1 < l.length ∧ by1 l (k + 1) = 61)) = true then 2 else if (decide (by1 l k = 61) && decide (k + 1 < l.length ∧ by1 l (k + 1) = 61)) = true then 2 else if sy (by1 l k) = true then 1 else 0) = 1 := by
        rw [if_neg (by simp; exact fun a b c => h3 ⟨b, .inl a, c⟩), if_neg (by simp; exact fun a b c => h3 ⟨b, .inr a, c⟩), if_pos hs]
      rw [e1]; exact ⟨rfl, rfl, by decide⟩
  · left
    have hs : sy (by1 l k) = false := by simpa using hs
    rw [kd_no h1 h2 hs]
    have q60 : by1 l k ≠ 60 := fun h9 => by rw [h9] at hs; cases hs
    have q61 : by1 l k ≠ 61 := fun h9 => by rw [h9] at hs; cases hs
    rw [decide_eq_false q60, decide_eq_false q61, Bool.false_and, if_neg (by decide), if_neg (by decide), if_neg (by rw [hs]; decide)]
    exact ⟨rfl, rfl⟩
/-- What the reference finds at a place, and what the program finds there. -/
theorem ref_kd {l : List UInt8} {k : Nat} (h : k < l.length) :
    (∃ m, 0 < m ∧ rr (l.drop k) = (m, (kd l k).1) ∧ k + m = (kd l k).2 ∧ ((kd l k).1 = 1 ∨ (kd l k).1 = 2)) ∨
    (rr (l.drop k) = (0, 0) ∧ ((kd l k).1 = 0 ∧ ss (l.drop k) = 0 ∨ ((kd l k).1 = 3 ∧ k + ss (l.drop k) = (kd l k).2 ∧ 0 < ss (l.drop k)))) := by
  have hb : by1 (l.drop k) 0 = by1 l k := by rw [by1_drop, Nat.add_zero]
  have hl : (l.drop k).length ≠ 0 := by rw [List.length_drop]; omega
  by_cases h1 : let1 (by1 l k) = true
  · left
    have hw : wd (by1 l k) = true := by unfold wd; rw [h1]; rfl
    have e := rn_go h hw
    have e2 := rn_drop wd l k
    have le := rn_le (f := wd) (l := l) (k := k + 1) (by omega)
    exact ⟨rn wd (l.drop k) 0, by omega, by unfold rr; rw [if_neg hl, hb, if_pos h1, kd_let h1], by rw [kd_let h1]; show _ = rn wd l (k + 1); omega, by rw [kd_let h1]; exact .inl rfl⟩
  · have h1 : let1 (by1 l k) = false := by simpa using h1
    by_cases h2 : dg (by1 l k) = true
    · left
      have e := rn_go h h2
      have e2 := rn_drop dg l k
      have le := rn_le (f := dg) (l := l) (k := k + 1) (by omega)
      exact ⟨rn dg (l.drop k) 0, by omega, by unfold rr; rw [if_neg hl, hb, if_neg (by rw [h1]; decide), if_pos h2, kd_dig h1 h2], by rw [kd_dig h1 h2]; show _ = rn dg l (k + 1); omega, by rw [kd_dig h1 h2]; exact .inr rfl⟩
    · have h2 : dg (by1 l k) = false := by simpa using h2
      right
      exact ⟨by unfold rr; rw [if_neg hl, hb, if_neg (by rw [h1]; decide), if_neg (by rw [h2]; decide)], ss_kd h h1 h2⟩
end Go.Proofs.Ytipeapjbodnagaa.Lx
