/- The texts of fractions: mathematics. -/
import Derived.Test.YtikcinkbkakkmaaGreatDoorFxU
import Derived.Lib.ParseIntB
import Derived.Lib.ItoaNum
import Derived.Lib.Bytealg
import Derived.Lib.Strings
import Derived.Test.YtikcinkbkakkmaaGreatDoorShelfT
import Derived.Test.YtikcinkbkakkmaaGreatDoorReg
import Derived.Test.YtikcinkbkakkmaaGreatDoorGA
import Derived.Lib.SmallJoins
import Derived.Lib.Hide
import Derived.IntWalk

namespace Go.Proofs.YtikcinkbkakkmaaGreatDoor.Tx
open Go.ChangeShapes Go.WideShapes Go.ChangeAt Go.RowKit
open Fr Fx
set_option maxRecDepth 8000
set_option linter.unusedVariables false
set_option linter.unusedSimpArgs false

def isD (c : UInt8) : Bool := decide (48 ≤ c.toNat ∧ c.toNat ≤ 57)
def neg : List UInt8 → Bool
  | [] => false
  | c :: _ => decide (c.toNat = 45)
def bd (l : List UInt8) : List UInt8 := if neg l then l.tail else l
/-- A decimal integer without leading zeros. -/
def whole (l : List UInt8) : Bool := decide (bd l ≠ []) && (bd l).all isD && !(decide ((bd l).headD 0 = 48) && decide (1 < l.length))
def nv10 : Nat → List UInt8 → Nat
  | a, [] => a
  | a, c :: r => nv10 (a * 10 + (c.toNat - 48)) r
def av (l : List UInt8) : Nat := nv10 0 (bd l)
def sv (l : List UInt8) : Int := if neg l then -(av l : Int) else av l
def fit (l : List UInt8) : Bool := decide (av l ≤ 2147483647)
theorem neg_cons {c : UInt8} {r : List UInt8} : neg (c :: r) = true ↔ c = 45 := by
  unfold neg
  rw [decide_eq_true_iff]
  constructor
  · intro h; exact UInt8.toNat_inj.1 h
  · rintro rfl; rfl
theorem trim_bd (l : List UInt8) : Lib.trimPrefix l [45] = bd l := by
  unfold Lib.trimPrefix Lib.hasPrefix bd
  cases l with
  | nil => rfl
  | cons c r =>
    by_cases h : c = 45
    · subst h
      rw [if_pos (by simp [List.isPrefixOf]), if_pos (neg_cons.2 rfl)]; rfl
    · rw [if_neg (by simp [List.isPrefixOf]; exact fun e => h e.symm), if_neg (fun e => h (neg_cons.1 e))]
theorem nv_append (a : Nat) (l r : List UInt8) : nv10 a (l ++ r) = nv10 (nv10 a l) r := by
  induction l generalizing a with
  | nil => rfl
  | cons c l ih => exact ih _
theorem nv_snoc (a : Nat) (l : List UInt8) (c : UInt8) : nv10 a (l ++ [c]) = nv10 a l * 10 + (c.toNat - 48) := by rw [nv_append]; rfl
theorem nv_ge (a : Nat) (l : List UInt8) : a ≤ nv10 a l := by
  induction l generalizing a with
  | nil => exact Nat.le_refl _
  | cons c l ih => exact Nat.le_trans (by omega) (ih _)
theorem puM : ∀ (l : List UInt8) (a : Nat), l.all isD = true → a ≤ 18446744073709551615 → Lib.parseUintM 18446744073709551615 a l = if nv10 a l ≤ 18446744073709551615 then .ok (nv10 a l) else .range
  | [], a, _, ha => by unfold Lib.parseUintM nv10; rw [if_pos ha]
  | c :: r, a, h, ha => by
    rw [List.all_cons, Bool.and_eq_true] at h
    obtain ⟨h1, h2⟩ := h
    unfold isD at h1
    rw [decide_eq_true_iff] at h1
    unfold Lib.parseUintM nv10
    rw [if_pos h1]
    have hg := nv_ge (a * 10 + (c.toNat - 48)) r
    by_cases g1 : 1844674407370955162 ≤ a
    · rw [if_pos g1, if_neg (by omega)]
    · rw [if_neg g1]
      by_cases g2 : 18446744073709551615 < a * 10 + (c.toNat - 48)
      · rw [if_pos g2, if_neg (by omega)]
      · rw [if_neg g2]
        exact puM r _ h2 (by omega)
theorem puB {l : List UInt8} (h : l ≠ []) (hd : l.all isD = true) : Lib.parseUintB 64 l = if nv10 0 l ≤ 18446744073709551615 then .ok (nv10 0 l) else .range := by
  unfold Lib.parseUintB
  rw [if_neg h]
  exact puM l 0 hd (by decide)
theorem whole_parts {l : List UInt8} (h : whole l = true) : bd l ≠ [] ∧ (bd l).all isD = true ∧ ((bd l).headD 0 = 48 → l.length ≤ 1) := by
  unfold whole at h
  rw [Bool.and_eq_true, Bool.and_eq_true, Bool.not_eq_true', decide_eq_true_iff] at h
  obtain ⟨⟨h1, h2⟩, h3⟩ := h
  refine ⟨h1, h2, fun e => ?_⟩
  rw [e] at h3
  simpa using h3
theorem whole_of {l : List UInt8} (h1 : bd l ≠ []) (h2 : (bd l).all isD = true) (h3 : (bd l).headD 0 = 48 → l.length ≤ 1) : whole l = true := by
  unfold whole
  rw [decide_eq_true h1, h2]
  by_cases e : (bd l).headD 0 = 48
  · rw [decide_eq_true e, decide_eq_false (by have := h3 e; omega)]; rfl
  · rw [decide_eq_false e]; rfl
theorem pint_eq {l : List UInt8} (h : whole l = true) : Lib.parseIntB 64 l = (if av l ≤ 18446744073709551615 then (if ¬ neg l = true ∧ 9223372036854775808 ≤ av l then .range else if neg l = true ∧ 9223372036854775808 < av l then .range else .ok (sv l)) else .range) := by
  obtain ⟨h1, h2, _⟩ := whole_parts h
  cases l with
  | nil => exact absurd rfl h1
  | cons c r =>
    unfold Lib.parseIntB
    by_cases hn : c = 45
    · subst hn
      have e : bd (45 :: r) = r := by unfold bd; rw [if_pos (neg_cons.2 rfl)]; rfl
      rw [e] at h1 h2
      have en : neg (45 :: r) = true := neg_cons.2 rfl
      have ea : av (45 :: r) = nv10 0 r := by unfold av; rw [e]
      have es : sv (45 :: r) = -(nv10 0 r : Int) := by unfold sv; rw [if_pos en, ea]
      rw [en, ea, es]
      dsimp only
      rw [if_pos (by decide), puB h1 h2]
      by_cases g : nv10 0 r ≤ 18446744073709551615
      · simp [if_pos g]
      · simp [if_neg g]
    · have en : neg (c :: r) = false := by
        cases e : neg (c :: r)
        · rfl
        · exact absurd (neg_cons.1 e) hn
      have e : bd (c :: r) = c :: r := by unfold bd; rw [if_neg (by rw [en]; decide)]
      rw [e] at h1 h2
      have ea : av (c :: r) = nv10 0 (c :: r) := by unfold av; rw [e]
      have es : sv (c :: r) = (nv10 0 (c :: r) : Int) := by unfold sv; rw [if_neg (by rw [en]; decide), ea]
      have hd := h2
      rw [List.all_cons, Bool.and_eq_true] at hd
      have hd := hd.1
      unfold isD at hd
      rw [decide_eq_true_iff] at hd
      rw [en, ea, es]
      dsimp only
      rw [if_neg (by omega), puB h1 h2]
      have hc : ¬ c.toNat = 45 := by omega
      by_cases g : nv10 0 (c :: r) ≤ 18446744073709551615
      · simp [if_pos g, hc]
      · simp [if_neg g]
theorem pint {l : List UInt8} (h : whole l = true) (hf : fit l = true) : Lib.parseIntB 64 l = .ok (sv l) ∧ -2147483647 ≤ sv l ∧ sv l ≤ 2147483647 := by
  unfold fit at hf
  rw [decide_eq_true_iff] at hf
  refine ⟨?_, ?_⟩
  · rw [pint_eq h, if_pos (by omega), if_neg (by omega), if_neg (by omega)]
  · unfold sv; split <;> omega
theorem pint_no {l : List UInt8} (h : whole l = true) (hf : fit l = false) : (∃ v, Lib.parseIntB 64 l = .ok v ∧ (v < -2147483647 ∨ 2147483647 < v) ∧ -9223372036854775808 ≤ v ∧ v ≤ 9223372036854775807) ∨ Lib.parseIntB 64 l = .range := by
  unfold fit at hf
  rw [decide_eq_false_iff_not] at hf
  rw [pint_eq h]
  by_cases g : av l ≤ 18446744073709551615
  · rw [if_pos g]
    by_cases g1 : ¬ neg l = true ∧ 9223372036854775808 ≤ av l
    · rw [if_pos g1]; exact Or.inr rfl
    · rw [if_neg g1]
      by_cases g2 : neg l = true ∧ 9223372036854775808 < av l
      · rw [if_pos g2]; exact Or.inr rfl
      · rw [if_neg g2]
        refine Or.inl ⟨sv l, rfl, ?_⟩
        unfold sv
        by_cases hn : neg l = true
        · rw [if_pos hn]
          have : ¬ 9223372036854775808 < av l := fun h => g2 ⟨hn, h⟩
          omega
        · rw [if_neg hn]
          have : ¬ 9223372036854775808 ≤ av l := fun h => g1 ⟨hn, h⟩
          omega
  · rw [if_neg g]; exact Or.inr rfl
/-- The place of the stroke. -/
def ix (l : List UInt8) : Int := Lib.indexByte l 47
theorem ix_none : ∀ {l : List UInt8}, (47 : UInt8) ∉ l → ix l = -1
  | [], _ => rfl
  | c :: r, h => by
    have h1 : ix r = -1 := ix_none (fun e => h (List.mem_cons_of_mem _ e))
    have h2 : (c == 47) = false := by
      cases e : c == 47
      · rfl
      · exact absurd (by rw [beq_iff_eq] at e; rw [e]; exact List.mem_cons_self ..) h
    unfold ix at h1 ⊢
    unfold Lib.indexByte
    rw [h2, h1]; rfl
theorem ix_at : ∀ (a b : List UInt8), (47 : UInt8) ∉ a → ix (a ++ 47 :: b) = a.length
  | [], b, _ => rfl
  | c :: r, b, h => by
    have h1 : ix (r ++ 47 :: b) = r.length := ix_at r b (fun e => h (List.mem_cons_of_mem _ e))
    have h2 : (c == 47) = false := by
      cases e : c == 47
      · rfl
      · exact absurd (by rw [beq_iff_eq] at e; rw [e]; exact List.mem_cons_self ..) h
    unfold ix at h1 ⊢
    rw [List.cons_append]
    unfold Lib.indexByte
    rw [h2, h1]
    rw [if_neg (by decide), if_neg (by simp <;> omega)]
    simp
theorem first47 : ∀ (l : List UInt8), (47 : UInt8) ∈ l → ∃ a b, l = a ++ 47 :: b ∧ (47 : UInt8) ∉ a
  | [], h => by cases h
  | c :: r, h => by
    by_cases e : c = 47
    · subst e; exact ⟨[], r, rfl, by simp⟩
    · obtain ⟨a, b, e1, e2⟩ := first47 r (by rcases List.mem_cons.1 h with h | h; exact absurd h.symm e; exact h)
      exact ⟨c :: a, b, by rw [e1]; rfl, by simp; exact ⟨fun e3 => e e3.symm, e2⟩⟩
theorem split47 (l : List UInt8) : ((47 : UInt8) ∉ l ∧ ix l = -1) ∨ ∃ a b, l = a ++ 47 :: b ∧ (47 : UInt8) ∉ a ∧ ix l = a.length := by
  by_cases h : (47 : UInt8) ∈ l
  · right
    obtain ⟨a, b, e, hn⟩ := first47 l h
    exact ⟨a, b, e, hn, by rw [e]; exact ix_at a b hn⟩
  · exact Or.inl ⟨h, ix_none h⟩
def sla (l : List UInt8) : Bool := decide (ix l ≠ -1)
def top (l : List UInt8) : List UInt8 := if ix l = -1 then l else l.take (ix l).toNat
def bot (l : List UInt8) : List UInt8 := if ix l = -1 then [49] else l.drop ((ix l).toNat + 1)
/-- The answer of Parse. -/
def psv (l : List UInt8) : Int × Int × Int :=
  if whole (top l) = false ∨ whole (bot l) = false ∨ neg (bot l) = true ∨ bot l = [48] ∨ (sla l = true ∧ bot l = [49]) then (0, 0, 5)
  else if fit (top l) = false ∨ fit (bot l) = false then (0, 0, 3)
  else if vld (sv (top l)) (sv (bot l)) = false then (0, 0, 5) else (sv (top l), sv (bot l), 0)
/-- The text of Format. -/
def fmv (n d : Int) : List UInt8 := if vld n d = false then [] else if d = 1 then Lib.itoa n else Lib.itoa n ++ 47 :: Lib.itoa d
theorem dec_small {k : Nat} (h : k < 10) : Lib.decDigits k = [UInt8.ofNat (48 + k)] := by rw [Lib.decDigits, dif_pos h]
theorem dec_big {k : Nat} (h : ¬ k < 10) : Lib.decDigits k = Lib.decDigits (k / 10) ++ [UInt8.ofNat (48 + k % 10)] := by rw [Lib.decDigits, dif_neg h]
theorem dig_nat {k : Nat} (h : k < 10) : (UInt8.ofNat (48 + k)).toNat = 48 + k := by
  rw [UInt8.toNat_ofNat']; omega
theorem dec_spec (k : Nat) : Lib.decDigits k ≠ [] ∧ (Lib.decDigits k).all isD = true ∧ nv10 0 (Lib.decDigits k) = k ∧ ((Lib.decDigits k).headD 0 = 48 → k = 0) := by
  induction k using Nat.strongRecOn with
  | _ k ih =>
    by_cases h : k < 10
    · rw [dec_small h]
      have e := dig_nat h
      refine ⟨by simp, ?_, ?_, fun e2 => ?_⟩
      · simp only [List.all_cons, List.all_nil, Bool.and_true]; unfold isD; rw [e]; exact decide_eq_true (by omega)
      · show 0 * 10 + ((UInt8.ofNat (48 + k)).toNat - 48) = k; rw [e]; omega
      · have : (UInt8.ofNat (48 + k)).toNat = (48 : UInt8).toNat := by rw [show UInt8.ofNat (48 + k) = 48 from e2]
        rw [e] at this
        have h48 : (48 : UInt8).toNat = 48 := rfl
        omega
    · obtain ⟨h1, h2, h3, h4⟩ := ih (k / 10) (by omega)
      rw [dec_big h]
      have e := dig_nat (Nat.mod_lt k (by decide : 0 < 10))
      refine ⟨by simp, ?_, ?_, fun e2 => ?_⟩
      · rw [List.all_append, h2]; simp only [List.all_cons, List.all_nil, Bool.and_true, Bool.true_and]; unfold isD; rw [e]; exact decide_eq_true (by omega)
      · rw [nv_snoc, h3, e]; omega
      · exfalso
        have : k / 10 = 0 := h4 (by
          cases hd : Lib.decDigits (k / 10) with
          | nil => exact absurd hd h1
          | cons c r => rw [hd] at e2; exact e2)
        omega
theorem isD_ne {c : UInt8} (h : isD c = true) : c ≠ 45 ∧ c ≠ 47 := by
  unfold isD at h
  rw [decide_eq_true_iff] at h
  constructor
  · rintro rfl; revert h; decide
  · rintro rfl; revert h; decide
theorem neg_digits {l : List UInt8} (h : l.all isD = true) : neg l = false := by
  cases l with
  | nil => rfl
  | cons c r =>
    rw [List.all_cons, Bool.and_eq_true] at h
    cases e : neg (c :: r)
    · rfl
    · exact absurd (neg_cons.1 e) (isD_ne h.1).1
theorem itoa_spec (n : Int) : neg (Lib.itoa n) = decide (n < 0) ∧ bd (Lib.itoa n) = Lib.decDigits n.natAbs ∧ whole (Lib.itoa n) = true ∧ av (Lib.itoa n) = n.natAbs ∧ sv (Lib.itoa n) = n ∧ (47 : UInt8) ∉ Lib.itoa n := by
  obtain ⟨h1, h2, h3, h4⟩ := dec_spec n.natAbs
  by_cases hn : n < 0
  · have e : Lib.itoa n = 45 :: Lib.decDigits n.natAbs := by unfold Lib.itoa; rw [if_pos hn]
    have en : neg (Lib.itoa n) = true := by rw [e]; exact neg_cons.2 rfl
    have eb : bd (Lib.itoa n) = Lib.decDigits n.natAbs := by unfold bd; rw [if_pos en, e]; rfl
    have ea : av (Lib.itoa n) = n.natAbs := by unfold av; rw [eb, h3]
    refine ⟨by rw [en, decide_eq_true hn], eb, whole_of (by rw [eb]; exact h1) (by rw [eb]; exact h2) (fun e2 => ?_), ea, ?_, ?_⟩
    · rw [eb] at e2; have := h4 e2; omega
    · unfold sv; rw [if_pos en, ea]; omega
    · rw [e]
      intro hm
      rcases List.mem_cons.1 hm with h | h
      · revert h; decide
      · exact (isD_ne (List.all_eq_true.1 h2 _ h)).2 rfl
  · have e : Lib.itoa n = Lib.decDigits n.natAbs := by unfold Lib.itoa; rw [if_neg hn]; congr 1; omega
    have en : neg (Lib.itoa n) = false := by rw [e]; exact neg_digits h2
    have eb : bd (Lib.itoa n) = Lib.decDigits n.natAbs := by unfold bd; rw [if_neg (by rw [en]; decide), e]
    have ea : av (Lib.itoa n) = n.natAbs := by unfold av; rw [eb, h3]
    refine ⟨by rw [en, decide_eq_false hn], eb, whole_of (by rw [eb]; exact h1) (by rw [eb]; exact h2) (fun e2 => ?_), ea, ?_, ?_⟩
    · rw [eb] at e2
      rw [e, h4 e2]
      decide +kernel
    · unfold sv; rw [if_neg (by rw [en]; decide), ea]; omega
    · rw [e]
      intro hm
      exact (isD_ne (List.all_eq_true.1 h2 _ hm)).2 rfl
theorem nv_pos {l : List UInt8} (h : l ≠ []) (hd : l.all isD = true) (h0 : l.headD 0 ≠ 48) : 1 ≤ nv10 0 l := by
  cases l with
  | nil => exact absurd rfl h
  | cons c r =>
    rw [List.all_cons, Bool.and_eq_true] at hd
    have hd := hd.1
    unfold isD at hd
    rw [decide_eq_true_iff] at hd
    have hne : c.toNat ≠ 48 := fun e => h0 (UInt8.toNat_inj.1 e)
    have := nv_ge (0 * 10 + (c.toNat - 48)) r
    show 1 ≤ nv10 (0 * 10 + (c.toNat - 48)) r
    omega
theorem dec_nv : ∀ (m : Nat) (l : List UInt8), l.length = m → l ≠ [] → l.all isD = true → (l.headD 0 = 48 → l.length ≤ 1) → Lib.decDigits (nv10 0 l) = l
  | 0, l, hm, h, _, _ => absurd (List.eq_nil_of_length_eq_zero hm) h
  | m + 1, l, hm, h, hd, h0 => by
    obtain ⟨r, c, rfl⟩ : ∃ r c, l = r ++ [c] := ⟨l.dropLast, l.getLast h, (List.dropLast_concat_getLast h).symm⟩
    rw [List.all_append, Bool.and_eq_true] at hd
    obtain ⟨hd1, hd2⟩ := hd
    simp only [List.all_cons, List.all_nil, Bool.and_true] at hd2
    unfold isD at hd2
    rw [decide_eq_true_iff] at hd2
    have hc : UInt8.ofNat (48 + (c.toNat - 48)) = c := by
      rw [show 48 + (c.toNat - 48) = c.toNat by omega]; exact UInt8.ofNat_toNat
    rw [nv_snoc]
    cases r with
    | nil =>
      show Lib.decDigits (0 * 10 + (c.toNat - 48)) = [c]
      rw [Nat.zero_mul, Nat.zero_add, dec_small (by omega), hc]
    | cons x r =>
      have h48 : (x :: r).headD 0 ≠ 48 := fun e => by
        have := h0 e
        simp at this
      have hp := nv_pos (l := x :: r) (by simp) hd1 h48
      have ih := dec_nv m (x :: r) (by simp at hm ⊢; omega) (by simp) hd1 (fun e => absurd e h48)
      generalize nv10 0 (x :: r) = q at *
      rw [dec_big (by omega), show (q * 10 + (c.toNat - 48)) / 10 = q by omega, show (q * 10 + (c.toNat - 48)) % 10 = c.toNat - 48 by omega, ih, hc]
theorem itoa_sv {l : List UInt8} (h : whole l = true) : Lib.itoa (sv l) = l := by
  obtain ⟨h1, h2, h3⟩ := whole_parts h
  cases hn : neg l
  · have eb : bd l = l := by unfold bd; rw [if_neg (by rw [hn]; decide)]
    rw [eb] at h1 h2 h3
    unfold sv
    rw [if_neg (by rw [hn]; decide)]
    unfold Lib.itoa
    rw [if_neg (by omega), Int.toNat_natCast]
    unfold av
    rw [eb]
    exact dec_nv _ l rfl h1 h2 h3
  · cases l with
    | nil => cases hn
    | cons c r =>
      have hc := neg_cons.1 hn
      subst hc
      have eb : bd (45 :: r) = r := by unfold bd; rw [if_pos hn]; rfl
      rw [eb] at h1 h2 h3
      have h48 : r.headD 0 ≠ 48 := fun e => by
        have := h3 e
        rw [List.length_cons] at this
        exact h1 (List.eq_nil_of_length_eq_zero (by omega))
      have hp := nv_pos h1 h2 h48
      unfold sv
      rw [if_pos hn]
      unfold av
      rw [eb]
      unfold Lib.itoa
      rw [if_pos (by omega), show (-(nv10 0 r : Int)).natAbs = nv10 0 r by omega, dec_nv _ r rfl h1 h2 (fun e => absurd e h48)]
theorem cut_none {l : List UInt8} (h : (47 : UInt8) ∉ l) : top l = l ∧ bot l = [49] ∧ sla l = false := by
  have e := ix_none h
  exact ⟨by unfold top; rw [if_pos e], by unfold bot; rw [if_pos e], by unfold sla; rw [e]; rfl⟩
theorem cut_at (a b : List UInt8) (h : (47 : UInt8) ∉ a) : top (a ++ 47 :: b) = a ∧ bot (a ++ 47 :: b) = b ∧ sla (a ++ 47 :: b) = true := by
  have e := ix_at a b h
  refine ⟨?_, ?_, ?_⟩
  · unfold top; rw [e, if_neg (by omega)]; simp
  · unfold bot; rw [e, if_neg (by omega)]
    rw [Int.toNat_natCast, ← List.drop_drop, List.drop_left]; rfl
  · unfold sla; rw [e]; exact decide_eq_true (by omega)
theorem itoa_ne {n : Int} {l : List UInt8} (h : Lib.itoa n = l) : n = sv l := by rw [← h]; exact (itoa_spec n).2.2.2.2.1.symm
/-- What Format writes, Parse reads. -/
theorem parse_format {n d : Int} (h : vld n d = true) : psv (fmv n d) = (n, d, 0) := by
  obtain ⟨d0, d1, n0, n1, _⟩ := vld_parts h
  obtain ⟨a1, a2, a3, a4, a5, a6⟩ := itoa_spec n
  obtain ⟨b1, b2, b3, b4, b5, b6⟩ := itoa_spec d
  unfold fmv
  rw [if_neg (by rw [h]; decide)]
  by_cases hd : d = 1
  · subst hd
    rw [if_pos rfl]
    obtain ⟨e1, e2, e3⟩ := cut_none a6
    unfold psv
    rw [e1, e2, e3]
    rw [if_neg (by rw [a3]; simp; decide), if_neg (by unfold fit; rw [a4]; simp; exact ⟨by omega, by decide⟩), if_neg (by rw [a5, show sv [49] = 1 from by decide, h]; decide), a5]
    rfl
  · rw [if_neg hd]
    obtain ⟨e1, e2, e3⟩ := cut_at (Lib.itoa n) (Lib.itoa d) a6
    unfold psv
    rw [e1, e2, e3]
    have c0 : Lib.itoa d ≠ [48] := fun e => by have := itoa_ne e; rw [show sv [48] = 0 from by decide] at this; omega
    have c1 : Lib.itoa d ≠ [49] := fun e => by have := itoa_ne e; rw [show sv [49] = 1 from by decide] at this; omega
    rw [if_neg (by rw [a3, b3, b1]; simp [c0, c1]; omega), if_neg (by unfold fit; rw [a4, b4]; simp; omega), if_neg (by rw [a5, b5, h]; decide), a5, b5]
/-- What Parse reads, Format writes. -/
theorem format_parse {l : List UInt8} {n d : Int} (h : psv l = (n, d, 0)) : vld n d = true ∧ fmv n d = l := by
  unfold psv at h
  by_cases c1 : whole (top l) = false ∨ whole (bot l) = false ∨ neg (bot l) = true ∨ bot l = [48] ∨ (sla l = true ∧ bot l = [49])
  · rw [if_pos c1] at h; simp at h
  rw [if_neg c1] at h
  by_cases c2 : fit (top l) = false ∨ fit (bot l) = false
  · rw [if_pos c2] at h; simp at h
  rw [if_neg c2] at h
  by_cases c3 : vld (sv (top l)) (sv (bot l)) = false
  · rw [if_pos c3] at h; simp at h
  rw [if_neg c3] at h
  simp only [Prod.mk.injEq, and_true] at h
  obtain ⟨rfl, rfl⟩ := h
  have hv : vld (sv (top l)) (sv (bot l)) = true := by simpa using c3
  refine ⟨hv, ?_⟩
  have w1 : whole (top l) = true := by
    cases e : whole (top l)
    · exact absurd (Or.inl e) c1
    · rfl
  have w2 : whole (bot l) = true := by
    cases e : whole (bot l)
    · exact absurd (Or.inr (Or.inl e)) c1
    · rfl
  unfold fmv
  rw [if_neg (by rw [hv]; decide), itoa_sv w1, itoa_sv w2]
  rcases split47 l with ⟨hn, _⟩ | ⟨a, b, rfl, hn, _⟩
  · obtain ⟨e1, e2, e3⟩ := cut_none hn
    rw [e1, e2, if_pos (by decide)]
  · obtain ⟨e1, e2, e3⟩ := cut_at a b hn
    rw [e1, e2]
    rw [e2] at w2
    have hne : sv b ≠ 1 := fun e => c1 (Or.inr (Or.inr (Or.inr (Or.inr ⟨e3, by rw [e2, ← itoa_sv w2, e]; decide +kernel⟩))))
    rw [if_neg hne]
end Go.Proofs.YtikcinkbkakkmaaGreatDoor.Tx


namespace Go.Proofs.YtikcinkbkakkmaaGreatDoor.Tx
open Go.ChangeShapes Go.WideShapes Go.ChangeAt Go.RowKit
open Fr Fx
set_option maxRecDepth 8000
set_option linter.unusedVariables false
set_option linter.unusedSimpArgs false

theorem rb {a b : Bool} (h : a = b) : Ending.returned (.bool a) = .returned (.bool b) := by rw [h]
/-- What the variables of Go's library hold. -/
def LA (w : World) : Prop := Lib.TabIs Tryz.prog w "internal/strconv.uint64pow10" .u64 Lib.pow10Tab ∧ ∃ ev, w.cell? ⟨3, 0, none⟩ = some ev ∧ (ev = .nilIface ∨ ∃ te pe, ev = .iface te pe)
theorem LA.below {w w' : World} (h : LA w) (hb : Below w.heap.size w w') : LA w' := by
  obtain ⟨h1, ev, h2, h3⟩ := h
  exact ⟨Joins.tab_stays (g := 1) (by kernel_rfl) h1 hb (Nat.le_refl _), ev, Rg.keep hb (World.block_lt_of_cell? _ _ h2) h2, h3⟩
theorem c_trim (s : ByteArray) (w : World) : Calls Tryz.prog 109 #[.string s, .string ⟨#[45]⟩] w fun e w' => e = .returned (.string ⟨(bd s.data.toList).toArray⟩) ∧ w = w' :=
  (Tryz.strings_TrimPrefix s ⟨#[45]⟩ w).mono fun e w' ⟨he, hw⟩ => ⟨by rw [he, show (⟨#[45]⟩ : ByteArray).data.toList = [45] from rfl, trim_bd], hw.symm⟩
theorem get_list {t : ByteArray} {B : List UInt8} (h : t.data.toList = B) (k : Nat) (hk : k < t.size) (hB : k < B.length) : t[k] = B[k] := by
  subst h; rfl
theorem size_list {t : ByteArray} {B : List UInt8} (h : t.data.toList = B) : t.size = B.length := by subst h; exact Lib.size_eq t
set_option maxHeartbeats 4000000 in
theorem isint_loop (s t : ByteArray) (w : World) (W z y : Bool) (ht : t.size ≤ maxLen) (h0 : 0 < t.size) (h7 : t.toList.isEmpty = false) (hz : ((t[0].toNat : Int) == 48) = z) (hy : decide ((1 : Int) < s.size) = y) (hs : s.size ≤ maxLen)
    (TR : Hid (∀ w, Calls Tryz.prog 109 #[.string s, .string ⟨#[45]⟩] w fun e w' => e = .returned (.string t) ∧ w = w'))
    (H1 : Hid ((z && y) = true → W = false)) (H2 : Hid (∀ k (h : k < t.size), isD t[k] = false → W = false)) (H3 : Hid ((z && y) = false → (∀ k (h : k < t.size), isD t[k] = true) → W = true)) :
    Calls Tryz.prog 81 #[.string s] w fun e w' => e = .returned (.bool W) ∧ w = w' := by
  unfold maxLen at ht hs
  have TL : Hid ((z && y) = false → Hid (∀ k (h : k < t.size), isD t[k] = true) → W = true) := Lib.hid fun h h' => H3.out h h'.out
  have h8 : (t.toList == []) = false := by
    cases h : t.toList with
    | nil => rw [h] at h7; cases h7
    | cons => rfl
  cases z
  all_goals cases y
  case true.true =>
    rw [H1.out rfl]
    clear H1 H2 H3 TL
    go_enter Tryz.func81, Tryz.ntmps81
    go_wp2_with (first | (go_at_call 109; (with_reducible refine (TR.out _).mono ?_); rintro e w9 ⟨rfl, rfl⟩))
    go_ret
    exact ⟨rfl, rfl⟩
  all_goals
    replace TL := Lib.hid (TL.out rfl)
    clear H1 H3
    go_enter Tryz.func81, Tryz.ntmps81
    go_wp2_with (first | (go_at_call 109; (with_reducible refine (TR.out _).mono ?_); rintro e w9 ⟨rfl, rfl⟩))
    go_loop [21] (fun i => ∃ k : Nat, i = .int .i64 k ∧ k ≤ t.size ∧ Hid (∀ j (h : j < t.size), j < k → isD t[j] = true)) (fun i => t.size - (intOf i).toNat)
    case atStart => exact ⟨0, rfl, Nat.zero_le _, Lib.hid fun j h h' => absurd h' (Nat.not_lt_zero _)⟩
    case round =>
      obtain ⟨k, rfl, hk, HP⟩ := hrel
      clear hz hy h7 h8
      by_cases hlt : k < t.size
      · have kk : (0 : Int) ≤ k := by omega
        have k2 : (k : Int) < t.size := by omega
        by_cases g1 : (t[k].toNat : Int) < 48
        · obtain rfl : W = false := H2.out k hlt (by unfold isD; exact decide_eq_false (by omega))
          clear H2 TL HP
          go_wp2
          go_ret
          exact ⟨rfl, rfl⟩
        · by_cases g2 : 57 < (t[k].toNat : Int)
          · obtain rfl : W = false := H2.out k hlt (by unfold isD; exact decide_eq_false (by omega))
            clear H2 TL HP
            go_wp2
            go_ret
            exact ⟨rfl, rfl⟩
          · have HN : Hid (∀ j (h : j < t.size), j < k + 1 → isD t[j] = true) := Lib.hid fun j h hj => by
              rcases (by omega : j < k ∨ j = k) with h' | rfl
              · exact HP.out j h h'
              · unfold isD; exact decide_eq_true (by omega)
            have g3 : (48 : Int) ≤ t[k].toNat := by omega
            have g4 : (t[k].toNat : Int) ≤ 57 := by omega
            clear HP g1 g2
            go_wp2
            go_round
            case rel => exact ⟨k + 1, by go_num, by omega, HN⟩
            case measure => simp [intOf]; omega
      · have hW := TL.out (Lib.hid fun j h => HP.out j h (by omega))
        subst hW
        clear H2 TL HP
        go_wp2
        go_ret
        exact ⟨rfl, rfl⟩
theorem c_isint (s : ByteArray) (w : World) (hs : s.size ≤ maxLen) : Calls Tryz.prog 81 #[.string s] w fun e w' => e = .returned (.bool (whole s.data.toList)) ∧ w = w' := by
  have TR := Lib.hid fun w => c_trim s w
  have hsz := Lib.size_eq s
  have hbl : (bd s.data.toList).length ≤ s.data.toList.length := by unfold bd; split <;> simp
  obtain ⟨B, hB⟩ : ∃ B, bd s.data.toList = B := ⟨_, rfl⟩
  rw [hB] at TR hbl
  obtain ⟨t, ht⟩ : ∃ t : ByteArray, t = ⟨B.toArray⟩ := ⟨_, rfl⟩
  have htl : t.data.toList = B := by rw [ht]
  rw [← ht] at TR
  have hts := size_list htl
  by_cases h0 : t.size = 0
  · have hBn : B = [] := List.eq_nil_of_length_eq_zero (by omega)
    have hw : whole s.data.toList = false := by unfold whole; rw [hB, hBn]; rfl
    rw [hw]
    obtain rfl : t = ⟨#[]⟩ := by rw [ht, hBn]
    clear ht hB hsz hbl h0 hw hBn hts htl
    go_enter Tryz.func81, Tryz.ntmps81
    go_wp2_with (first | (go_at_call 109; (with_reducible refine (TR.out _).mono ?_); rintro e w9 ⟨rfl, rfl⟩))
    go_ret
    exact ⟨rfl, rfl⟩
  · have hp : 0 < t.size := by omega
    have hne : B ≠ [] := fun e => by rw [e] at hts; exact h0 hts
    have e0 : t[0] = B.headD 0 := by
      rw [get_list htl 0 hp (by omega)]
      cases B with
      | nil => exact absurd rfl hne
      | cons c r => rfl
    have hz : ∀ z, ((t[0].toNat : Int) == 48) = z → decide (B.headD 0 = 48) = z := fun z h => by
      rw [← h, e0, Bool.eq_iff_iff, decide_eq_true_iff, beq_iff_eq]
      constructor
      · intro h; rw [h]; rfl
      · intro h; exact UInt8.toNat_inj.1 (by have h48 : (48 : UInt8).toNat = 48 := rfl; omega)
    have hall : (∀ k (h : k < t.size), isD t[k] = true) ↔ B.all isD = true := by
      rw [List.all_eq_true]
      constructor
      · intro h x hx
        obtain ⟨k, hk, rfl⟩ := List.getElem_of_mem hx
        rw [← get_list htl k (by omega) hk]
        exact h k _
      · intro h k hk
        rw [get_list htl k hk (by omega)]
        exact h _ (List.getElem_mem _)
    have hwd : whole s.data.toList = (B.all isD && !(decide (B.headD 0 = 48) && decide ((1 : Int) < s.size))) := by
      unfold whole
      rw [hB, decide_eq_true hne, Bool.true_and, hsz]
      congr 3
      rw [decide_eq_decide]
      omega
    refine isint_loop s t w _ _ _ (by omega) hp ?_ rfl rfl hs TR (Lib.hid fun h => ?_) (Lib.hid fun k h h' => ?_) (Lib.hid fun h h' => ?_)
    · cases h : t.toList with
      | nil => rw [Lib.toList_data, htl] at h; exact absurd h hne
      | cons => rfl
    · rw [hwd, hz _ rfl, h]; simp
    · rw [hwd]
      cases e : B.all isD
      · rfl
      · rw [hall.2 e k h] at h'; cases h'
    · rw [hwd, hall.1 h', hz _ rfl, h]; rfl
end Go.Proofs.YtikcinkbkakkmaaGreatDoor.Tx


namespace Go.Proofs.YtikcinkbkakkmaaGreatDoor.Tx
open Go.ChangeShapes Go.WideShapes Go.ChangeAt Go.RowKit
open Fr Fx
set_option maxRecDepth 8000
set_option linter.unusedVariables false
set_option linter.unusedSimpArgs false

theorem c_pi {s : ByteArray} {v : Int} (w : World) (hs : s.size ≤ 9223372036854775806) (h : Lib.parseIntB 64 s.data.toList = .ok v) :
    Calls Tryz.prog 110 #[.string s, .int .i64 10, .int .i64 64] w (Ret (.tuple #[.int .i64 v, .nilIface]) w) := by
  refine (Tryz.strconv_ParseInt_10_at64_ok s hs v h w).mono ?_
  rintro e w' ⟨rfl, hw⟩
  refine ⟨rfl, ?_⟩
  rcases hw with rfl | ⟨t, rfl⟩
  · exact Below.refl _ _
  · exact Lib.bytesWorld_below _ _ _
/-- A number that does not fit: whatever number, and false. -/
def NoFit (w : World) (e : Ending) (w' : World) : Prop := ∃ n : Int, e = .returned (.tuple #[.int .i64 n, .bool false]) ∧ Below w.heap.size w w'
theorem c_bo {s : ByteArray} (w : World) (hs : s.size ≤ 281474976710656) (h : whole s.data.toList = true) (hf : fit s.data.toList = true) :
    Calls Tryz.prog 82 #[.string s] w (Ret (.tuple #[.int .i64 (sv s.data.toList), .bool true]) w) := by
  obtain ⟨hp, h1, h2⟩ := pint h hf
  have P := Lib.hid (c_pi w (by omega) hp)
  clear hp h hf
  generalize sv s.data.toList = v at *
  go_enter Tryz.func82, Tryz.ntmps82
  go_wp2_with (go_at_call 110; refine P.out.mono ?_; rintro e w1 ⟨rfl, hb⟩)
  go_ret2
  exact ⟨rfl, hb⟩
theorem c_bon {s : ByteArray} (w : World) (hs : s.size ≤ 281474976710656) (hL : LA w) (h : whole s.data.toList = true) (hf : fit s.data.toList = false) :
    Calls Tryz.prog 82 #[.string s] w (NoFit w) := by
  rcases pint_no h hf with ⟨v, hp, hv, v0, v1⟩ | hp
  · have P := Lib.hid (c_pi w (by omega) hp)
    clear hp h hf hL
    rcases hv with hv | hv
    · go_enter Tryz.func82, Tryz.ntmps82
      go_wp2_with (go_at_call 110; refine P.out.mono ?_; rintro e w1 ⟨rfl, hb⟩)
      go_ret2
      exact ⟨_, rfl, hb⟩
    · have q0 : -2147483647 ≤ v := by omega
      have q1 : decide (v ≤ 2147483647) = false := by simp; omega
      clear hv
      go_enter Tryz.func82, Tryz.ntmps82
      go_wp2_with (go_at_call 110; refine P.out.mono ?_; rintro e w1 ⟨rfl, hb⟩)
      go_ret2
      exact ⟨_, rfl, hb⟩
  · obtain ⟨_, ev, hc, hev⟩ := hL
    have P := Lib.hid (Tryz.strconv_ParseInt_10_at64_range s hs hp ev w hc hev)
    clear hp h hf hc hev
    generalize Lib.intSat 64 s.data.toList = v at *
    go_enter Tryz.func82, Tryz.ntmps82
    go_wp2_with (go_at_call 110; refine P.out.mono ?_; rintro e w1 ⟨q, rfl, hq1, hq2, hb⟩; clear hq1 hq2)
    go_ret2
    exact ⟨_, rfl, hb⟩
theorem c_six (s : ByteArray) (w : World) : Calls Tryz.prog 119 #[.string s, .string ⟨#[47]⟩] w fun e w' => e = .returned (.int .i64 (ix s.data.toList)) ∧ w = w' :=
  (Tryz.stringslite_Index_one s 47 w).mono fun e w' ⟨he, hw⟩ => ⟨he, hw.symm⟩
theorem c_cut0 (s : ByteArray) (w : World) (h : ix s.data.toList = -1) : Calls Tryz.prog 80 #[.string s, .string ⟨#[47]⟩] w fun e w' => e = .returned (.tuple #[.string s, .string ⟨#[]⟩, .bool false]) ∧ ∃ n, w' = w.drewN n := by
  have I := Lib.hid fun w => c_six s w
  rw [h] at I
  clear h
  have C : Hid (∀ w, Calls Tryz.prog 108 #[.string s, .string ⟨#[47]⟩] w fun e w' => e = .returned (.tuple #[.string s, .string ⟨#[]⟩, .bool false]) ∧ ∃ n, w' = w.drewN n) := Lib.hid fun w => by
    go_enter Tryz.func108, Tryz.ntmps108
    go_wp2_with (go_at_call 119; refine (I.out _).mono ?_; rintro e w' ⟨rfl, rfl⟩)
    go_ret3
    exact ⟨rfl, 0, rfl⟩
  go_enter Tryz.func80, Tryz.ntmps80
  go_wp2_with (go_at_call 108; refine (C.out _).mono ?_; rintro e w' ⟨rfl, n, rfl⟩)
  go_ret3
  exact ⟨rfl, _, rfl⟩
theorem c_cut1 (s : ByteArray) (i : Nat) (w : World) (h : ix s.data.toList = i) (hi : i + 1 ≤ s.size) (hs : s.size ≤ maxLen) : Calls Tryz.prog 80 #[.string s, .string ⟨#[47]⟩] w fun e w' => e = .returned (.tuple #[.string (s.extract 0 i), .string (s.extract (i + 1) s.size), .bool true]) ∧ ∃ n, w' = w.drewN n := by
  have I := Lib.hid fun w => c_six s w
  rw [h] at I
  clear h
  unfold maxLen at hs
  have C : Hid (∀ w, Calls Tryz.prog 108 #[.string s, .string ⟨#[47]⟩] w fun e w' => e = .returned (.tuple #[.string (s.extract 0 i), .string (s.extract (i + 1) s.size), .bool true]) ∧ ∃ n, w' = w.drewN n) := Lib.hid fun w => by
    have c1 : (0 : Int) ≤ ↑i := by omega
    have c2 : (↑i : Int) ≤ ↑s.size := by omega
    have c3 : (0 : Int) ≤ ↑i + 1 := by omega
    have c4 : (↑i + 1 : Int) ≤ ↑s.size := by omega
    have c5 : (IntKind.i64.wrap ((i : Int) + 1)) = (i : Int) + 1 := IntWalk.i64_in _ (by omega)
    have c6 : ((i : Int) + 1).toNat = i + 1 := by omega
    go_enter Tryz.func108, Tryz.ntmps108
    go_wp2_with (go_at_call 119; refine (I.out _).mono ?_; rintro e w' ⟨rfl, rfl⟩)
    go_quiet (fail)
    go_wp2
    go_ret3
    exact ⟨rfl, _, rfl⟩
  go_enter Tryz.func80, Tryz.ntmps80
  go_wp2_with (go_at_call 108; refine (C.out _).mono ?_; rintro e w' ⟨rfl, n, rfl⟩)
  go_ret3
  exact ⟨rfl, _, rfl⟩

/-- Text of Go's halves. -/
theorem sl_take (s : ByteArray) (i : Nat) (h : i ≤ s.size) : (s.extract 0 i).data.toList = s.data.toList.take i := by
  simp [ByteArray.data_extract]
theorem sl_drop (s : ByteArray) (i : Nat) : (s.extract i s.size).data.toList = s.data.toList.drop i := by
  rw [ByteArray.data_extract, Array.toList_extract, List.extract_eq_take_drop, Lib.size_eq, List.take_of_length_le (by rw [List.length_drop]; omega)]
theorem size_take (s : ByteArray) (i : Nat) (h : i ≤ s.size) : (s.extract 0 i).size = i := by rw [Lib.size_eq, sl_take s i h, List.length_take, ← Lib.size_eq]; omega
theorem size_drop (s : ByteArray) (i : Nat) : (s.extract i s.size).size = s.size - i := by rw [Lib.size_eq, sl_drop s i, List.length_drop, ← Lib.size_eq]
end Go.Proofs.YtikcinkbkakkmaaGreatDoor.Tx
