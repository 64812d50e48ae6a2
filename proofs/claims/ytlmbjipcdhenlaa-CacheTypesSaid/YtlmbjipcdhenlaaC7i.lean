/- The cache: slices of strings and of operations; Has. -/
import Derived.Test.YtlmbjipcdhenlaaC6i
import Derived.Deep.QuietTactic
import Derived.BigQuiet
namespace Go.Proofs.Ytlmbjipcdhenlaa.Ci
open Go.ChangeShapes Go.WideShapes Go.ChangeAt Go.RowKit
open Go.Proofs.Ytlmbjipcdhenlaa.Ca
set_option linter.unusedVariables false
set_option linter.unusedSimpArgs false
theorem ret_bool {a b : Bool} (h : a = b) : Ending.returned (.bool a) = .returned (.bool b) := by rw [h]
def hasB (s : ByteArray) (l : List ByteArray) : Bool := l.any fun x => decide (x = s)
theorem hasB_yes {s : ByteArray} {l : List ByteArray} : hasB s l = true ↔ s ∈ l := by
  unfold hasB
  rw [List.any_eq_true]
  exact ⟨fun ⟨x, hx, e⟩ => (of_decide_eq_true e) ▸ hx, fun h => ⟨s, h, decide_eq_true rfl⟩⟩
theorem hasB_no {s : ByteArray} {l : List ByteArray} : hasB s l = false ↔ s ∉ l := by
  rw [← hasB_yes]; simp
theorem bytes_eq {a b : ByteArray} (h : a.toList = b.toList) : a = b := by
  exact ByteArray.ext (Array.ext' (by simpa [ByteArray.toList_eq] using h))
/-- A slice that reads as a list of strings. -/
def SlT (w : World) (p : Option Addr) (l : List ByteArray) : Prop := ∀ i, i < l.length → ∃ b o, p = some ⟨b, o, none⟩ ∧ w.cell? ⟨b, o + i, none⟩ = some (.string (l.getD i ByteArray.empty))
abbrev Ac := Int × ByteArray × Int
def ac0 : Ac := (0, ByteArray.empty, 0)
/-- A slice that reads as a list of operations. -/
def SlA (w : World) (p : Option Addr) (l : List Ac) : Prop := ∀ i, i < l.length → ∃ b o, p = some ⟨b, o, none⟩ ∧ w.cell? ⟨b, o + i * 3, none⟩ = some (.int .i64 (l.getD i ac0).1) ∧ w.cell? ⟨b, o + i * 3 + 1, none⟩ = some (.string (l.getD i ac0).2.1) ∧ w.cell? ⟨b, o + i * 3 + 2, none⟩ = some (.int .i64 (l.getD i ac0).2.2)
theorem lt_cell {w : World} {b o : Nat} {v : Value} (h : w.cell? ⟨b, o, none⟩ = some v) : b < w.heap.size := by have := World.block_lt_of_cell? w _ h; simpa using this
theorem kpc {w u : World} {b o : Nat} {v : Value} {base : Nat} (hb : Below base w u) (h1 : b < base) (h : w.cell? ⟨b, o, none⟩ = some v) : u.cell? ⟨b, o, none⟩ = some v := (hb.cell (p := ⟨b, o, none⟩) h1).trans h
theorem SlT.keep {w u : World} {p : Option Addr} {l : List ByteArray} (hb : Below w.heap.size w u) (h : SlT w p l) : SlT u p l := fun i hi => by
  obtain ⟨b, o, rfl, c⟩ := h i hi
  exact ⟨b, o, rfl, kpc hb (lt_cell c) c⟩
theorem SlA.keep {w u : World} {p : Option Addr} {l : List Ac} (hb : Below w.heap.size w u) (h : SlA w p l) : SlA u p l := fun i hi => by
  obtain ⟨b, o, rfl, c, d, e⟩ := h i hi
  exact ⟨b, o, rfl, kpc hb (lt_cell c) c, kpc hb (lt_cell d) d, kpc hb (lt_cell e) e⟩
theorem SlT.take {w : World} {p : Option Addr} {l : List ByteArray} (h : SlT w p l) (k : Nat) : SlT w p (l.take k) := fun i hi => by
  rw [List.length_take] at hi
  obtain ⟨b, o, rfl, c⟩ := h i (by omega)
  refine ⟨b, o, rfl, ?_⟩
  rw [show (l.take k).getD i ByteArray.empty = l.getD i ByteArray.empty by unfold List.getD; rw [List.getElem?_take_of_lt (by omega)]]
  exact c
theorem own_slT {w : World} {base : Nat} {v : Value} {l : List ByteArray} (h : w.ownsRow base 9 1 v l.length (l.map Value.string)) : ∃ p c, v = .slice p l.length c ∧ l.length ≤ c ∧ SlT w p l ∧ (p = none ∨ ∃ g, p = some ⟨g, 0, none⟩ ∧ base ≤ g ∧ g < w.heap.size) := by
  obtain ⟨h1, h2⟩ := h
  rcases h2 with ⟨rfl, hn⟩ | ⟨g, cap, cur, rfl, hb, hh, hc, hm, hs, ht⟩
  · exact ⟨none, 0, by rw [hn], by omega, fun i hi => absurd hi (by omega), .inl rfl⟩
  · have hO : w.ownsRow base 9 1 (.slice (some ⟨g, 0, none⟩) l.length cap) l.length (l.map Value.string) := ⟨h1, .inr ⟨g, cap, cur, rfl, hb, hh, hc, hm, hs, ht⟩⟩
    refine ⟨some ⟨g, 0, none⟩, cap, rfl, hc, fun i hi => ⟨g, 0, rfl, ?_⟩, .inr ⟨g, rfl, (hO.lt g rfl).1, (hO.lt g rfl).2⟩⟩
    have := hO.cellAt i (by omega)
    rw [List.getElem?_map, List.getElem?_eq_getElem hi] at this
    rw [Nat.zero_add, this]
    unfold List.getD
    rw [List.getElem?_eq_getElem hi]
    rfl
set_option maxRecDepth 100000 in
set_option maxHeartbeats 4000000 in
theorem has1 (p : Option Addr) (l : List ByteArray) (c : Nat) (s : ByteArray) (w : World) (hn : l.length ≤ maxLen) (RA : Hid (SlT w p l)) : Calls Try.prog 35 #[.slice p l.length c, .string s] w fun e w' => e = .returned (.bool (hasB s l)) ∧ w = w' := by
  unfold maxLen at hn
  go_enter Try.func35, Try.ntmps35
  go_wp2
  go_loopw [5] (fun i wr => ∃ j : Nat, i = .int .i64 (j : Int) ∧ j ≤ l.length ∧ wr = w ∧ Hid (s ∉ l.take j)) (fun i _ => l.length - (intOf i).toNat)
  case atStart => exact ⟨0, rfl, by omega, rfl, Lib.hid (by simp)⟩
  case round =>
    obtain ⟨j, rfl, hj, rfl, HJ⟩ := hrel
    have j0 : (0 : Int) ≤ j := by omega
    by_cases hlt : j < l.length
    · obtain ⟨b, o, rfl, c0⟩ := RA.out j hlt
      have htk := Lib.hid (List.take_succ_eq_append_getElem hlt)
      have hg : l.getD j ByteArray.empty = l[j] := by unfold List.getD; rw [List.getElem?_eq_getElem hlt]; rfl
      have hmem := Lib.hid (List.getElem_mem hlt)
      rw [hg] at c0
      generalize l[j] = x at *
      clear hg
      have j1 : (j : Int) < l.length := by omega
      by_cases hx : x = s
      · subst hx
        have HR := Lib.hid (show hasB x l = true from hasB_yes.2 hmem.out)
        go_wp2
        go_ret
        exact ⟨ret_bool HR.out.symm, rfl⟩
      · have hv : (x.toList == s.toList) = false := by
          rw [Bool.eq_false_iff]
          intro h
          exact hx (bytes_eq (beq_iff_eq.1 h))
        have HJ2 : Hid (s ∉ l.take (j + 1)) := Lib.hid (by
          rw [htk.out, List.mem_append, not_or, List.mem_singleton]
          exact ⟨HJ.out, fun e => hx e.symm⟩)
        clear hx
        go_wp2
        go_roundw
        case rel => exact ⟨j + 1, by go_num, by omega, by first | rfl | trivial, HJ2⟩
        case measure => simp [intOf]; omega
    · have j1 : ¬ (j : Int) < l.length := by omega
      have HR := Lib.hid (show hasB s l = false from hasB_no.2 (by
        have h := HJ.out
        rwa [List.take_of_length_le (by omega)] at h))
      go_wp2
      go_ret
      exact ⟨ret_bool HR.out.symm, rfl⟩
def PB (b base : Nat) (most : Int) (hits misses nb : Nat) (s : ByteArray) (v : Int) (w : World) (e : Ending) (w' : World) : Prop :=
  Below base w w' ∧ ∃ (bv : Bool) (T : List (ByteArray × Int)), e = .returned (.bool bv) ∧ CV w' b base most ((s, v) :: T) hits misses (nb + 1) ∧ (T.length : Int) + 1 ≤ most
theorem putB (b base : Nat) (most : Int) (L : List (ByteArray × Int)) (hits misses nb : Nat) (s : ByteArray) (v : Int) (w : World) (C : CV w b base most L hits misses nb) (hs : s.size ≤ maxLen) (hnb : nb < 900) (hm : most ≤ 1024) (h1 : 1 ≤ most) (hl : (L.length : Int) ≤ most) :
    Calls Try.prog 18 #[.pointer (some ⟨b, 0, none⟩), .string s, .int .i64 v] w (PB b base most hits misses nb s v w) := by
  refine (putV b base most L hits misses nb s v w C hs hnb hm).mono ?_
  rintro e w' ⟨hb, ⟨h2, rfl, hC⟩ | ⟨h2, rfl, hC⟩⟩
  · exact ⟨hb, _, _, rfl, hC, h2⟩
  · have hne : rml L s ≠ [] := fun h => by rw [h] at h2; simp at h2; omega
    rw [List.dropLast_cons_of_ne_nil hne] at hC
    have := rml_len L s
    have h3 : (rml L s).length ≠ 0 := fun h => hne (List.eq_nil_of_length_eq_zero h)
    exact ⟨hb, _, _, rfl, hC, by rw [List.length_dropLast]; omega⟩
end Go.Proofs.Ytlmbjipcdhenlaa.Ci
