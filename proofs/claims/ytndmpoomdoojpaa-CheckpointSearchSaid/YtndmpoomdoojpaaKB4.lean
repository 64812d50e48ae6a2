/- Rows of positions and of flags, sets of states as numbers. -/
import Derived.Test.YtndmpoomdoojpaaKB3
import Derived.Laws.OwnMore
import Derived.WalkLawsBesides
import Derived.WalkSpells
import Derived.Handy
import Derived.IntWalk
import Derived.Lib.Hide
namespace Go.Proofs.Ytndmpoomdoojpaa.Ck.Bf
open Go.ChangeShapes Go.WideShapes Go.ChangeAt Go.RowKit Go.Proofs.Ytndmpoomdoojpaa.Ck
set_option linter.unusedVariables false
/-- Positions as they lie in a row. -/
def fl3 (l : List Nd) : List Value := l.flatMap fun x => [.int .i64 (x.1 : Int), .int .i64 (x.2.1 : Int), .int .i64 (x.2.2 : Int)]
theorem fl3_app (a b : List Nd) : fl3 (a ++ b) = fl3 a ++ fl3 b := List.flatMap_append
theorem fl3_len : ∀ l : List Nd, (fl3 l).length = l.length * 3
  | [] => rfl
  | x :: r => by
    have : fl3 (x :: r) = [.int .i64 (x.1 : Int), .int .i64 (x.2.1 : Int), .int .i64 (x.2.2 : Int)] ++ fl3 r := rfl
    rw [this, List.length_append, fl3_len r, List.length_cons]
    simp
    omega
theorem fl3_get : ∀ {l : List Nd} {k : Nat} {x : Nd}, l[k]? = some x → (fl3 l)[k * 3]? = some (.int .i64 (x.1 : Int)) ∧ (fl3 l)[k * 3 + 1]? = some (.int .i64 (x.2.1 : Int)) ∧ (fl3 l)[k * 3 + 2]? = some (.int .i64 (x.2.2 : Int))
  | [], k, x, h => by simp at h
  | y :: r, 0, x, h => by
    have : y = x := by simpa using h
    subst this
    exact ⟨rfl, rfl, rfl⟩
  | y :: r, k + 1, x, h => by
    obtain ⟨h0, h1, h2⟩ := fl3_get (l := r) (k := k) (x := x) (by simpa using h)
    have e : fl3 (y :: r) = .int .i64 (y.1 : Int) :: .int .i64 (y.2.1 : Int) :: .int .i64 (y.2.2 : Int) :: fl3 r := rfl
    rw [e]
    have a0 : (k + 1) * 3 = k * 3 + 1 + 1 + 1 := by omega
    have a1 : (k + 1) * 3 + 1 = (k * 3 + 1) + 1 + 1 + 1 := by omega
    have a2 : (k + 1) * 3 + 2 = (k * 3 + 2) + 1 + 1 + 1 := by omega
    refine ⟨?_, ?_, ?_⟩
    · rw [a0, List.getElem?_cons_succ, List.getElem?_cons_succ, List.getElem?_cons_succ]; exact h0
    · rw [a1, List.getElem?_cons_succ, List.getElem?_cons_succ, List.getElem?_cons_succ]; exact h1
    · rw [a2, List.getElem?_cons_succ, List.getElem?_cons_succ, List.getElem?_cons_succ]; exact h2
theorem own3_get {w : World} {base : Nat} {E : TypeId} {n c g : Nat} {l : List Nd} (h : w.ownsRow base E 3 (.slice (some ⟨g, 0, none⟩) n c) n (fl3 l)) (hl : l.length = n) {k : Nat} {x : Nd} (hk : l[k]? = some x) :
    w.cell? ⟨g, k * 3, none⟩ = some (.int .i64 (x.1 : Int)) ∧ w.cell? ⟨g, k * 3 + 1, none⟩ = some (.int .i64 (x.2.1 : Int)) ∧ w.cell? ⟨g, k * 3 + 2, none⟩ = some (.int .i64 (x.2.2 : Int)) := by
  have hkl := (List.getElem?_eq_some_iff.1 hk).1
  obtain ⟨h0, h1, h2⟩ := fl3_get hk
  exact ⟨(h.cellAt _ (by omega)).trans h0, (h.cellAt _ (by omega)).trans h1, (h.cellAt _ (by omega)).trans h2⟩
/-- The last position taken away. -/
theorem own3_pop {w : World} {base : Nat} {E : TypeId} {n c : Nat} {p : Option Addr} {l : List Nd} {x : Nd} (h : w.ownsRow base E 3 (.slice p (n + 1) c) (n + 1) (fl3 (l ++ [x]))) (hl : l.length = n) : w.ownsRow base E 3 (.slice p n c) n (fl3 l) := by
  refine ⟨by rw [fl3_len, hl], ?_⟩
  rcases h.2 with ⟨_, h0⟩ | ⟨g, cap, cur, hv, hb, hg, hn, hm, hs, ht⟩
  · omega
  · cases hv
    refine .inr ⟨g, _, cur, rfl, hb, hg, by omega, hm, hs, ?_⟩
    have e := congrArg (List.take (n * 3)) ht
    rw [List.take_take, fl3_app, List.take_left' (by rw [fl3_len, hl])] at e
    rw [← e]
    congr 1
    omega
theorem own3_some {w : World} {base : Nat} {E : TypeId} {n c : Nat} {p : Option Addr} {xs : List Value} (h : w.ownsRow base E 3 (.slice p n c) n xs) (hn : 0 < n) : ∃ g, p = some ⟨g, 0, none⟩ ∧ base ≤ g ∧ g < w.heap.size ∧ n ≤ c ∧ c ≤ maxLen := by
  have hlt := h.lt
  rcases h.2 with ⟨h0, h1⟩ | ⟨g, cap, cur, h0, h1, h2, h3, h4, -⟩
  · omega
  · cases h0
    exact ⟨g, rfl, h1, (hlt g rfl).2, h3, h4⟩
/-- Flags in a row. -/
theorem ownB_get {w : World} {base : Nat} {E : TypeId} {n c g : Nat} {sn : List Bool} (h : w.ownsRow base E 1 (.slice (some ⟨g, 0, none⟩) n c) n (sn.map Value.bool)) (hl : sn.length = n) {k : Nat} (hk : k < n) : w.cell? ⟨g, k, none⟩ = some (.bool (sn.getD k false)) := by
  rw [h.cellAt k (by omega), List.getElem?_map, List.getD_eq_getElem?_getD, List.getElem?_eq_getElem (by omega)]
  rfl
theorem ownB_set {w : World} {base : Nat} {E : TypeId} {n c g : Nat} {sn : List Bool} (h : w.ownsRow base E 1 (.slice (some ⟨g, 0, none⟩) n c) n (sn.map Value.bool)) (k : Nat) : (w.setCell ⟨g, k, none⟩ (.bool true)).ownsRow base E 1 (.slice (some ⟨g, 0, none⟩) n c) n ((sn.set k true).map Value.bool) := by
  rw [List.map_set]
  exact (h.stored k _).1
theorem wrapN {a : Nat} (h : a < 2 ^ 63) : IntKind.i64.wrap (a : Int) = (a : Int) := by rw [IntKind.wrap_i64]; omega
theorem bAnd {a b : Nat} (ha : a < 2 ^ 63) (hb : b < 2 ^ 63) : bits .and .i64 (a : Int) (b : Int) = ((a &&& b : Nat) : Int) := by
  have e : (BitVec.ofInt IntKind.i64.bits (a : Int) &&& BitVec.ofInt IntKind.i64.bits (b : Int)).toNat = a &&& b := by
    rw [BitVec.ofInt_natCast, BitVec.ofInt_natCast, BitVec.toNat_and, BitVec.toNat_ofNat, BitVec.toNat_ofNat, Nat.mod_eq_of_lt (by show a < 2 ^ 64; omega), Nat.mod_eq_of_lt (by show b < 2 ^ 64; omega)]
  unfold bits
  simp only [e]
  exact wrapN (Nat.and_lt_two_pow _ hb)
theorem bOr {a b : Nat} (ha : a < 2 ^ 63) (hb : b < 2 ^ 63) : bits .or .i64 (a : Int) (b : Int) = ((a ||| b : Nat) : Int) := by
  have e : (BitVec.ofInt IntKind.i64.bits (a : Int) ||| BitVec.ofInt IntKind.i64.bits (b : Int)).toNat = a ||| b := by
    rw [BitVec.ofInt_natCast, BitVec.ofInt_natCast, BitVec.toNat_or, BitVec.toNat_ofNat, BitVec.toNat_ofNat, Nat.mod_eq_of_lt (by show a < 2 ^ 64; omega), Nat.mod_eq_of_lt (by show b < 2 ^ 64; omega)]
  unfold bits
  simp only [e]
  exact wrapN (Nat.or_lt_two_pow ha hb)
theorem bClr {a i : Nat} (ha : a < 2 ^ 63) (hi : i < 63) (hb : a.testBit i = true) : bits .andNot .i64 (a : Int) ((2 ^ i : Nat) : Int) = ((a ^^^ 2 ^ i : Nat) : Int) := by
  have h2 : 2 ^ i < 2 ^ 63 := Nat.pow_lt_pow_right (by decide) hi
  have e : (BitVec.ofInt IntKind.i64.bits (a : Int) &&& ~~~ BitVec.ofInt IntKind.i64.bits ((2 ^ i : Nat) : Int)).toNat = a ^^^ 2 ^ i := by
    refine Nat.eq_of_testBit_eq fun j => ?_
    rw [tb_xor, ← BitVec.getLsbD, BitVec.getLsbD_and, BitVec.getLsbD_not, BitVec.ofInt_natCast, BitVec.ofInt_natCast, BitVec.getLsbD_ofNat, BitVec.getLsbD_ofNat, Nat.testBit_two_pow]
    by_cases hj : j < 64
    · have : decide (j < IntKind.i64.bits) = true := decide_eq_true hj
      rw [this]
      by_cases e : i = j
      · subst e; simp [hb]
      · simp [e]
    · have h1 : decide (j < IntKind.i64.bits) = false := decide_eq_false hj
      have h3 : a.testBit j = false := Nat.testBit_lt_two_pow (Nat.lt_of_lt_of_le ha (Nat.pow_le_pow_right (by decide) (by omega)))
      have h4 : decide (i = j) = false := decide_eq_false (by omega)
      rw [h1, h3, h4]
      rfl
  unfold bits
  simp only [e]
  exact wrapN (Nat.xor_lt_two_pow ha h2)
theorem and_one (s i : Nat) : s / 2 ^ i &&& 1 = if s.testBit i = true then 1 else 0 := by
  rw [Nat.and_one_is_mod, Nat.testBit_eq_decide_div_mod_eq]
  have := Nat.mod_two_eq_zero_or_one (s / 2 ^ i)
  split <;> simp_all
end Go.Proofs.Ytndmpoomdoojpaa.Ck.Bf
