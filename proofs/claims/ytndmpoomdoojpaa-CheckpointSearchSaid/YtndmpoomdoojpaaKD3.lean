/- Do of the reference at a state of the search. -/
import Derived.Test.YtndmpoomdoojpaaRows
import Derived.WalkKit
import Derived.ProofKit
import Derived.OpenShut
import Derived.WalkLawsBesides
import Derived.WalkSpells
import Derived.Outline
import Derived.Handy
import Derived.IntWalk
import Derived.Deep.QuietTactic
import Derived.BigQuiet
import Derived.Lib.Hide
import Derived.Test.YtndmpoomdoojpaaKD2
import Derived.Test.YtndmpoomdoojpaaK19
namespace Go.Proofs.Ytndmpoomdoojpaa.Ck.Sr
open Go.ChangeShapes Go.WideShapes Go.ChangeAt Go.RowKit Go.Proofs.Ytndmpoomdoojpaa.Ck Go.Proofs.Ytndmpoomdoojpaa.Ck.Bf
set_option linter.unusedVariables false


/-- A state of the search as the plan's check has it. -/
def stO (S : Nat) (a l : Nat) (s : List Int) : St := ⟨s ++ List.replicate (64 - S) (-1), (a : Int), (l : Int), 0⟩
theorem stO_len {S a l : Nat} {s : List Int} (h : s.length = S) (hS : S ≤ 64) : (stO S a l s).held.length = 64 := by
  show (s ++ List.replicate (64 - S) (-1)).length = 64
  rw [List.length_append, List.length_replicate]; omega
theorem stO_take {S a l : Nat} {s : List Int} (h : s.length = S) : (stO S a l s).held.take S = s := List.take_left' h
theorem stO_get {S a l k : Nat} {s : List Int} (h : s.length = S) (hk : k < S) : (stO S a l s).held.getD k 0 = s.getD k 0 := by
  show (s ++ List.replicate (64 - S) (-1)).getD k 0 = _
  rw [List.getD_eq_getElem?_getD, List.getElem?_append_left (by omega), List.getD_eq_getElem?_getD]
/-- Do at a state of the search: not valid, or the next state. -/
def DO (S base : Nat) (ok : Bool) (now left : Int) (v : Value) (now' left' : Int) (s' : List Int) (w : World) (e : Ending) (w' : World) : Prop := Below w.heap.size w w' ∧ ((ok = false ∧ e = .returned (.tuple #[rv now left v, .bool false])) ∨ (ok = true ∧ ∃ v', e = .returned (.tuple #[rv now' left' v', .bool true]) ∧ w'.ownsRow base 3 1 v' S (s'.map (Value.int .i64))))
section
variable (N S base a l : Nat) (s : List Int) (v : Value) (w : World) (hb : base ≤ w.heap.size) (hN : N ≤ 5) (hS : S ≤ 2) (ha : a ≤ N) (hl : l ≤ N) (hsl : s.length = S) (hO : Hid (w.ownsRow base 3 1 v S (s.map (Value.int .i64))))
include hb hN hS ha hl hsl hO
theorem do_of (act : Act3) (hA : -9223372036854775808 ≤ act.2.1) (ok : Bool) (hok : val N S (stO S a l s) act = ok) (now' left' : Int) (s' : List Int) (hn : ok = true → (nxt (stO S a l s) act).now = now' ∧ (nxt (stO S a l s) act).left = left' ∧ (nxt (stO S a l s) act).held.take S = s') : Calls Try.prog 52 #[rv a l v, .int .i64 (N : Int), .agg #[.int .i64 act.1, .int .i64 act.2.1, .int .i64 act.2.2]] w (DO S base ok a l v now' left' s' w) := by
  have h := rdo (N : Int) S (stO S a l s) act v w base hb (by omega) (by omega) (show 0 ≤ ((a : Nat) : Int) ∧ ((a : Nat) : Int) ≤ 64 by omega) (show 0 ≤ ((l : Nat) : Int) ∧ ((l : Nat) : Int) ≤ 64 by omega) hA (stO_len hsl (by omega)) (Lib.hid (by rw [stO_take hsl]; exact hO.out))
  refine h.mono fun e w' hd => ?_
  obtain ⟨h1, h2⟩ := hd
  refine ⟨h1, ?_⟩
  rcases h2 with ⟨g1, g2⟩ | ⟨g1, v', g2, g3⟩
  · exact .inl ⟨hok.symm.trans g1, g2⟩
  · obtain ⟨k1, k2, k3⟩ := hn (hok.symm.trans g1)
    rw [k1, k2] at g2
    rw [k3] at g3
    exact .inr ⟨hok.symm.trans g1, v', g2, g3⟩
theorem do_store (k : Nat) (hk : k < S) : Calls Try.prog 52 #[rv a l v, .int .i64 (N : Int), .agg #[.int .i64 2, .int .i64 (a : Int), .int .i64 (k : Int)]] w (DO S base true a l v a l (s.set k (a : Int)) w) := by
  refine do_of N S base a l s v w hb hN hS ha hl hsl hO (2, (a : Int), (k : Int)) (show -9223372036854775808 ≤ (a : Int) by omega) true ?_ _ _ _ (fun _ => ⟨rfl, rfl, ?_⟩)
  · rw [val2]
    have h1 : sl (S : Int) (k : Int) = true := decide_eq_true ⟨by omega, by omega⟩
    rw [h1]
    simp [stO]
  · show (((stO S a l s).held.set (k : Int).toNat ((a : Nat) : Int))).take S = _
    rw [Int.toNat_natCast, List.take_set, stO_take hsl]
theorem do_rest (k : Nat) (hk : k < S) (hz : -1 ≤ s.getD k 0) : Calls Try.prog 52 #[rv a l v, .int .i64 (N : Int), .agg #[.int .i64 3, .int .i64 (s.getD k 0), .int .i64 (k : Int)]] w (DO S base (decide (0 ≤ s.getD k 0)) a l v (s.getD k 0) l s w) := by
  refine do_of N S base a l s v w hb hN hS ha hl hsl hO (3, s.getD k 0, (k : Int)) (show -9223372036854775808 ≤ s.getD k 0 by omega) _ ?_ _ _ _ (fun _ => ⟨rfl, rfl, stO_take (a := a) (l := l) hsl⟩)
  rw [val3]
  have h1 : sl (S : Int) (k : Int) = true := decide_eq_true ⟨by omega, by omega⟩
  have h2 : decide ((k : Int) = -1) = false := decide_eq_false (by omega)
  have h3 : decide ((stO S a l s).held.getD (k : Int).toNat 0 = s.getD k 0) = true := decide_eq_true (by rw [Int.toNat_natCast]; exact stO_get hsl hk)
  rw [h1, h2, h3]
  simp
theorem do_zero : Calls Try.prog 52 #[rv a l v, .int .i64 (N : Int), .agg #[.int .i64 3, .int .i64 0, .int .i64 (-1)]] w (DO S base true a l v 0 l s w) := by
  refine do_of N S base a l s v w hb hN hS ha hl hsl hO (3, 0, -1) (by decide) true ?_ _ _ _ (fun _ => ⟨rfl, rfl, stO_take (a := a) (l := l) hsl⟩)
  rw [val3]
  simp
theorem do_rev : Calls Try.prog 52 #[rv a l v, .int .i64 (N : Int), .agg #[.int .i64 4, .int .i64 (l : Int), .int .i64 0]] w (DO S base (decide (a + 1 = l)) a l v a ((l : Int) - 1) s w) := by
  refine do_of N S base a l s v w hb hN hS ha hl hsl hO (4, (l : Int), 0) (show -9223372036854775808 ≤ (l : Int) by omega) _ ?_ _ _ _ (fun _ => ⟨rfl, rfl, stO_take (a := a) (l := l) hsl⟩)
  have k1 : (stO S a l s).left = (l : Int) := rfl
  have k2 : (stO S a l s).now = (a : Int) := rfl
  rw [val4, k1, k2]
  by_cases h : a + 1 = l
  · have e1 : decide ((1 : Int) ≤ (l : Int)) = true := decide_eq_true (by omega)
    have e3 : decide ((a : Int) = (l : Int) - 1) = true := decide_eq_true (by omega)
    rw [decide_eq_true h, e1, e3]
    simp
  · have e3 : decide ((a : Int) = (l : Int) - 1) = false := decide_eq_false (by omega)
    rw [decide_eq_false h, e3]
    simp
theorem do_adv : Calls Try.prog 52 #[rv a l v, .int .i64 (N : Int), .agg #[.int .i64 1, .int .i64 ((a : Int) + 1), .int .i64 0]] w (DO S base (decide (a < N)) a l v ((a : Int) + 1) l s w) := by
  refine do_of N S base a l s v w hb hN hS ha hl hsl hO (1, (a : Int) + 1, 0) (show -9223372036854775808 ≤ (a : Int) + 1 by omega) _ ?_ _ _ _ (fun _ => ⟨rfl, rfl, stO_take (a := a) (l := l) hsl⟩)
  rw [val1]
  by_cases h : a < N
  · rw [decide_eq_true h]
    simp [stO]
    omega
  · rw [decide_eq_false h]
    simp [stO]
    omega
end
/-- What holds of the list while free lengthens it. -/
structure Fv (N S : Nat) (L0 M : List Sd) (i : Nat) : Prop where
  nd : M.Nodup
  wf : ∀ x ∈ M, WfS N S x
  up : ∀ x ∈ L0, x ∈ M
  sd : ∀ x ∈ M, ∃ y ∈ L0, PtS N S y 0 x
  cl : ∀ j y, j < i → M[j]? = some y → ∀ u ∈ sb S y, u ∈ M
  le : i ≤ M.length
theorem Fv.start {N S : Nat} {L0 : List Sd} (hn : L0.Nodup) (hw : ∀ x ∈ L0, WfS N S x) : Fv N S L0 L0 0 := ⟨hn, hw, fun _ h => h, fun x h => ⟨x, h, .refl⟩, fun j y h => absurd h (Nat.not_lt_zero _), Nat.zero_le _⟩
theorem adS_inv {l : List Sd} {x y : Sd} {j : Nat} (hj : j < l.length) (h : (adS l x)[j]? = some y) : l[j]? = some y := by
  unfold adS at h
  split at h
  · exact h
  · rw [List.getElem?_append_left hj] at h; exact h
theorem Fv.step {N S i : Nat} {L0 M : List Sd} {x y : Sd} (h : Fv N S L0 M i) (hx : x ∈ M) (hy : y ∈ sb S x) : Fv N S L0 (adS M y) i := by
  refine ⟨adS_nd h.nd, fun z hz => ?_, fun z hz => adS_up (h.up z hz), fun z hz => ?_, fun j z hj hz u hu => adS_up (h.cl j z hj (adS_inv (Nat.lt_of_lt_of_le hj h.le) hz) u hu), Nat.le_trans h.le adS_len⟩
  · rcases adS_mem hz with g | rfl
    · exact h.wf z g
    · exact (h.wf x hx).free hy
  · rcases adS_mem hz with g | rfl
    · exact h.sd z g
    · obtain ⟨y0, h1, h2⟩ := h.sd x hx
      exact ⟨y0, h1, .free h2 hy⟩
theorem Fv.next {N S i : Nat} {L0 M : List Sd} {x : Sd} (h : Fv N S L0 M i) (hx : M[i]? = some x) (ha : ∀ u ∈ sb S x, u ∈ M) : Fv N S L0 M (i + 1) :=
  ⟨h.nd, h.wf, h.up, h.sd, fun j y hj hy u hu => by
    by_cases e : j = i
    · subst e
      rw [hx] at hy
      cases hy
      exact ha u hu
    · exact h.cl j y (by omega) hy u hu, (List.getElem?_eq_some_iff.1 hx).1⟩
theorem Fv.done {N S : Nat} {L0 M : List Sd} (h : Fv N S L0 M M.length) : Fr N S L0 M := ⟨h.nd, h.up, h.sd, fun y hy u hu => by
  obtain ⟨j, hj⟩ := List.getElem?_of_mem hy
  exact h.cl j y (List.getElem?_eq_some_iff.1 hj).1 hj u hu⟩
theorem Fv.few {N S i : Nat} {L0 M : List Sd} (hN : N ≤ 5) (hS : S ≤ 2) (h : Fv N S L0 M i) : M.length ≤ 1764 := Sr.few hN hS h.nd h.wf
end Go.Proofs.Ytndmpoomdoojpaa.Ck.Sr
