/- The lexer: plain mathematics. -/
import Derived.Test.YtipeapjbodnagaaN3
import Derived.Lib.Bytealg
namespace Go.Proofs.Ytipeapjbodnagaa.Lx
open Go.ChangeShapes Go.WideShapes Go.ChangeAt Go.RowKit
open Go.Proofs.Ytipeapjbodnagaa.Nm
set_option linter.unusedVariables false

/-- A byte of a list, by its place. -/
def by1 (l : List UInt8) (k : Nat) : Int := ((l.getD k 0).toNat : Int)
theorem by1_at {s : ByteArray} {k : Nat} (h : k < s.size) : by1 s.data.toList k = (s[k].toNat : Int) := by
  unfold by1 List.getD
  rw [List.getElem?_eq_getElem (by simpa using h)]
  rfl
theorem by1_bd (l : List UInt8) (k : Nat) : 0 ≤ by1 l k ∧ by1 l k ≤ 255 := by
  unfold by1; have := (l.getD k 0).toNat_lt; omega
theorem by1_drop (l : List UInt8) (a k : Nat) : by1 (l.drop a) k = by1 l (a + k) := by simp [by1, List.getD, List.getElem?_drop]
def sp (c : Int) : Bool := c == 9 || (c == 10 || (c == 13 || c == 32))
def dg (c : Int) : Bool := decide (48 ≤ c) && decide (c ≤ 57)
def syL : List Int := [40, 41, 91, 93, 123, 125, 44, 59, 58, 43, 45, 42, 47, 60, 61, 38, 124, 33, 46, 64]
def sy (c : Int) : Bool := syL.contains c
def n8 (c : UInt8) : Int := (c.toNat : Int)
/-- How many bytes of white space and comments stand at the start; the flag tells that a comment is open. -/
def sk : Bool → List UInt8 → Nat
  | _, [] => 0
  | true, c :: r => if n8 c = 10 then 1 + sk false r else 1 + sk true r
  | false, c :: r => if sp (n8 c) = true then 1 + sk false r else if n8 c = 35 then 1 + sk true r else 0
theorem sk_f (c : UInt8) (r : List UInt8) : sk false (c :: r) = if sp (n8 c) = true then 1 + sk false r else if n8 c = 35 then 1 + sk true r else 0 := by rw [sk]
theorem sk_t (c : UInt8) (r : List UInt8) : sk true (c :: r) = if n8 c = 10 then 1 + sk false r else 1 + sk true r := by rw [sk]
def skp (l : List UInt8) (k : Nat) : Nat := k + sk false (l.drop k)
def skc (l : List UInt8) (k : Nat) : Nat := k + sk true (l.drop k)
theorem drop_at {l : List UInt8} {k : Nat} (h : k < l.length) : ∃ c, l.drop k = c :: l.drop (k + 1) ∧ n8 c = by1 l k := by
  refine ⟨l[k], List.drop_eq_getElem_cons h, ?_⟩
  unfold n8 by1 List.getD
  rw [List.getElem?_eq_getElem h]
  rfl
theorem sk_le : ∀ (l : List UInt8) (b : Bool), sk b l ≤ l.length
  | [], b => by cases b <;> exact Nat.le_refl _
  | c :: r, true => by
    have h1 := sk_le r true
    have h2 := sk_le r false
    unfold sk
    simp only [List.length_cons]
    split <;> omega
  | c :: r, false => by
    have h1 := sk_le r true
    have h2 := sk_le r false
    unfold sk
    simp only [List.length_cons]
    split
    · omega
    · split <;> omega
theorem skp_le {l : List UInt8} {k : Nat} (h : k ≤ l.length) : k ≤ skp l k ∧ skp l k ≤ l.length := by
  have := sk_le (l.drop k) false
  rw [List.length_drop] at this
  unfold skp; omega
theorem skp_end {l : List UInt8} {k : Nat} (h : l.length ≤ k) : skp l k = k := by unfold skp; rw [List.drop_eq_nil_of_le h]; rfl
theorem skc_end {l : List UInt8} {k : Nat} (h : l.length ≤ k) : skc l k = k := by unfold skc; rw [List.drop_eq_nil_of_le h]; rfl
theorem skp_sp {l : List UInt8} {k : Nat} (h : k < l.length) (hs : sp (by1 l k) = true) : skp l k = skp l (k + 1) := by
  obtain ⟨c, e, hc⟩ := drop_at h
  unfold skp
  rw [e, sk_f, hc, if_pos hs]
  omega
theorem skp_no {l : List UInt8} {k : Nat} (h : k < l.length) (hs : sp (by1 l k) = false) (h2 : by1 l k ≠ 35) : skp l k = k := by
  obtain ⟨c, e, hc⟩ := drop_at h
  unfold skp
  rw [e, sk_f, hc, if_neg (by rw [hs]; decide), if_neg h2]
  rfl
theorem skp_hash {l : List UInt8} {k : Nat} (h : k < l.length) (h2 : by1 l k = 35) : skp l k = skc l k := by
  obtain ⟨c, e, hc⟩ := drop_at h
  unfold skp skc
  rw [e, sk_f, sk_t, hc, h2, if_neg (by decide), if_pos rfl, if_neg (by decide)]
theorem skc_go {l : List UInt8} {k : Nat} (h : k < l.length) (h2 : by1 l k ≠ 10) : skc l k = skc l (k + 1) := by
  obtain ⟨c, e, hc⟩ := drop_at h
  unfold skc
  rw [e, sk_t, hc, if_neg h2]
  omega
theorem skc_nl {l : List UInt8} {k : Nat} (h : k < l.length) (h2 : by1 l k = 10) : skc l k = skp l k := by
  obtain ⟨c, e, hc⟩ := drop_at h
  unfold skc skp
  rw [e, sk_f, sk_t, hc, if_pos h2, if_pos (by rw [h2]; rfl)]
theorem u8_eq (c : UInt8) : (c == 10) = decide (n8 c = 10) := by
  rw [Bool.eq_iff_iff, beq_iff_eq, decide_eq_true_eq]
  constructor
  · rintro rfl; rfl
  · intro h
    have : c.toNat = (10 : UInt8).toNat := by unfold n8 at h; show c.toNat = 10; omega
    exact UInt8.toNat_inj.1 this
theorem index_sk : ∀ r : List UInt8, (Lib.indexByte r 10 = -1 → sk true r = r.length) ∧ (∀ j : Nat, Lib.indexByte r 10 = (j : Int) → j < r.length ∧ sk true r = j + sk false (r.drop j))
  | [] => ⟨fun _ => rfl, fun j h => by unfold Lib.indexByte at h; omega⟩
  | c :: r => by
    obtain ⟨h1, h2⟩ := index_sk r
    by_cases hc : n8 c = 10
    · have e : Lib.indexByte (c :: r) 10 = 0 := by unfold Lib.indexByte; rw [u8_eq, decide_eq_true hc]; rfl
      rw [e]
      refine ⟨fun h => by omega, fun j hj => ?_⟩
      obtain rfl : j = 0 := by omega
      refine ⟨by simp, ?_⟩
      rw [List.drop_zero, Nat.zero_add]
      rw [sk_t, sk_f, if_pos hc, if_pos (by rw [hc]; rfl)]
    · have e : Lib.indexByte (c :: r) 10 = if Lib.indexByte r 10 == -1 then -1 else Lib.indexByte r 10 + 1 := by
        conv => lhs; unfold Lib.indexByte
        rw [u8_eq, decide_eq_false hc]; rfl
  
      have s1 : sk true (c :: r) = 1 + sk true r := by rw [sk_t, if_neg hc]
      rw [e, s1]
      by_cases hr : Lib.indexByte r 10 = -1
      · rw [hr]
        refine ⟨fun _ => by rw [h1 hr, List.length_cons]; omega, fun j hj => ?_⟩
        exfalso; rw [if_pos (by rfl)] at hj; omega
      · rw [if_neg (by simpa using hr)]
        refine ⟨fun h => ?_, fun j hj => ?_⟩
        · exfalso
          have : ∀ l : List UInt8, -1 ≤ Lib.indexByte l 10 := by
            intro l
            induction l with
            | nil => exact Int.le_refl _
            | cons a l ih => unfold Lib.indexByte; split; · omega
                             · split <;> omega
          have := this r
          omega
        · cases j with
          | zero => exfalso
                    have : ∀ l : List UInt8, -1 ≤ Lib.indexByte l 10 := by
                      intro l
                      induction l with
                      | nil => exact Int.le_refl _
                      | cons a l ih => unfold Lib.indexByte; split; · omega
                                       · split <;> omega
                    have := this r
                    omega
          | succ j =>
            obtain ⟨a, b⟩ := h2 j (by omega)
            exact ⟨by simp; omega, by rw [List.drop_succ_cons, b]; omega⟩
theorem skp_none {l : List UInt8} {k : Nat} (h : k < l.length) (h2 : by1 l k = 35) (hi : Lib.indexByte (l.drop k) 10 = -1) : skp l k = l.length := by
  rw [skp_hash h h2]
  unfold skc
  rw [(index_sk _).1 hi, List.length_drop]; omega
theorem skp_some {l : List UInt8} {k j : Nat} (h : k < l.length) (h2 : by1 l k = 35) (hi : Lib.indexByte (l.drop k) 10 = (j : Int)) : k + j < l.length ∧ 0 < j ∧ skp l k = skp l (k + j) := by
  obtain ⟨a, b⟩ := (index_sk _).2 j hi
  rw [List.length_drop] at a
  have hj : 0 < j := by
    rcases Nat.eq_zero_or_pos j with rfl | hj
    · exfalso
      obtain ⟨c, e, hc⟩ := drop_at h
      rw [e] at hi
      unfold Lib.indexByte at hi
      rw [u8_eq, hc, h2] at hi
      simp at hi
      split at hi
      · omega
      · have : ∀ l : List UInt8, -1 ≤ Lib.indexByte l 10 := by
          intro l
          induction l with
          | nil => exact Int.le_refl _
          | cons a l ih => unfold Lib.indexByte; split; · omega
                           · split <;> omega
        have := this (l.drop (k + 1))
        omega
    · exact hj
  refine ⟨by omega, hj, ?_⟩
  rw [skp_hash h h2]
  unfold skc skp
  rw [b, List.drop_drop]; omega
/-- Where a run of bytes ends. -/
def rn (f : Int → Bool) (l : List UInt8) (k : Nat) : Nat := k + ((l.drop k).takeWhile fun c => f (n8 c)).length
theorem rn_go {f : Int → Bool} {l : List UInt8} {k : Nat} (h : k < l.length) (hf : f (by1 l k) = true) : rn f l k = rn f l (k + 1) := by
  obtain ⟨c, e, hc⟩ := drop_at h
  unfold rn
  rw [e, List.takeWhile_cons_of_pos (by rw [hc]; exact hf)]
  simp; omega
theorem rn_no {f : Int → Bool} {l : List UInt8} {k : Nat} (h : k < l.length) (hf : f (by1 l k) = false) : rn f l k = k := by
  obtain ⟨c, e, hc⟩ := drop_at h
  unfold rn
  rw [e, List.takeWhile_cons_of_neg (by rw [hc, hf]; decide)]
  simp
theorem rn_end {f : Int → Bool} {l : List UInt8} {k : Nat} (h : l.length ≤ k) : rn f l k = k := by unfold rn; rw [List.drop_eq_nil_of_le h]; rfl
theorem rn_le {f : Int → Bool} {l : List UInt8} {k : Nat} (h : k ≤ l.length) : k ≤ rn f l k ∧ rn f l k ≤ l.length := by
  have := (List.takeWhile_sublist (p := fun c => f (n8 c)) (l := l.drop k)).length_le
  rw [List.length_drop] at this
  unfold rn; omega
/-- The kind and the end of the token at a place. -/
def kd (l : List UInt8) (k : Nat) : Int × Nat :=
  if let1 (by1 l k) = true then (1, rn wd l (k + 1)) else if dg (by1 l k) = true then (2, rn dg l (k + 1)) else
  if sy (by1 l k) = true then (3, if k + 1 < l.length ∧ (by1 l k = 60 ∨ by1 l k = 61) ∧ by1 l (k + 1) = 61 then k + 2 else k + 1) else (0, k)
theorem kd_bd {l : List UInt8} {k : Nat} (h : k < l.length) : (0 ≤ (kd l k).1 ∧ (kd l k).1 ≤ 3) ∧ (kd l k).2 ≤ l.length ∧ ((kd l k).1 ≠ 0 → k < (kd l k).2) := by
  have h1 := rn_le (f := wd) (l := l) (k := k + 1) (by omega)
  have h2 := rn_le (f := dg) (l := l) (k := k + 1) (by omega)
  have key : ∀ (a : Int) (b : Nat), kd l k = (a, b) → (0 ≤ a ∧ a ≤ 3) → b ≤ l.length → (a ≠ 0 → k < b) → (0 ≤ (kd l k).1 ∧ (kd l k).1 ≤ 3) ∧ (kd l k).2 ≤ l.length ∧ ((kd l k).1 ≠ 0 → k < (kd l k).2) := by
    intro a b e x1 x2 x3
    rw [e]; exact ⟨x1, x2, x3⟩
  by_cases c1 : let1 (by1 l k) = true
  · exact key 1 (rn wd l (k + 1)) (by unfold kd; rw [if_pos c1]) (by omega) (by omega) (fun _ => by omega)
  · by_cases c2 : dg (by1 l k) = true
    · exact key 2 (rn dg l (k + 1)) (by unfold kd; rw [if_neg c1, if_pos c2]) (by omega) (by omega) (fun _ => by omega)
    · by_cases c3 : sy (by1 l k) = true
      · by_cases c4 : k + 1 < l.length ∧ (by1 l k = 60 ∨ by1 l k = 61) ∧ by1 l (k + 1) = 61
        · exact key 3 (k + 2) (by unfold kd; rw [if_neg c1, if_neg c2, if_pos c3, if_pos c4]) (by omega) (by omega) (fun _ => by omega)
        · exact key 3 (k + 1) (by unfold kd; rw [if_neg c1, if_neg c2, if_pos c3, if_neg c4]) (by omega) (by omega) (fun _ => by omega)
      · exact key 0 k (by unfold kd; rw [if_neg c1, if_neg c2, if_neg c3]) (by omega) (by omega) (fun h => absurd rfl h)
end Go.Proofs.Ytipeapjbodnagaa.Lx
