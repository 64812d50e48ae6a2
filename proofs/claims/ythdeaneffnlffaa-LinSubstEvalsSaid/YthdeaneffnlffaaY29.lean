/- Linear forms: the index of a binding. -/
import Derived.Test.YthdeaneffnlffaaY24
namespace Go.Proofs.Ythdeaneffnlffaa.Ln
open Go.ChangeShapes Go.WideShapes Go.ChangeAt Go.RowKit
set_option linter.unusedVariables false
set_option linter.unusedSimpArgs false
theorem clo1 (s t : ByteArray) (a : Int) (gm : Nat) (w : World) (hm : w.cell? ⟨gm, 0, none⟩ = some (.string s)) (v : Bool) (hv : (t.toList == s.toList) = v) :
    Calls Try.prog 48 #[.agg #[.string t, .int .i64 a], .pointer (some ⟨gm, 0, none⟩)] w fun e w' => e = .returned (.bool v) ∧ Below w.heap.size w w' := by
  have B0 : Below w.heap.size w (w.alloc (Obj.cells #[Value.string t, Value.int .i64 a] 53)) := (Below.refl _ _).alloc (Nat.le_refl _) _
  have f0 := kp B0 (lt_of_cell hm) hm
  go_enter Try.func48, Try.ntmps48
  go_wp2
  go_ret
  exact ⟨rfl, B0⟩
/-- The index of the first binding of a name, or -1. -/
def IXW (es : List Mo) (s : ByteArray) (w : World) (e : Ending) (w' : World) : Prop :=
  Below w.heap.size w w' ∧ ((s ∉ es.map (·.1) ∧ e = .returned (.int .i64 (-1))) ∨ ∃ j : Nat, j < es.length ∧ e = .returned (.int .i64 (j : Int)) ∧ (es.getD j mo0).1 = s ∧ (es.getD j mo0).2 = co es s)
theorem not_mem_of {es : List Mo} {s : ByteArray} {j : Nat} (hj : j = es.length) (h : ∀ i, i < j → (es.getD i mo0).1 ≠ s) : s ∉ es.map (·.1) := by
  intro hm
  obtain ⟨m, hm, e⟩ := List.mem_map.1 hm
  obtain ⟨i, hi, rfl⟩ := List.getElem_of_mem hm
  refine h i (by omega) ?_
  rw [show es.getD i mo0 = es[i] by unfold List.getD; rw [List.getElem?_eq_getElem hi]; rfl]
  exact e
theorem co_first {s : ByteArray} : ∀ {es : List Mo} {j : Nat}, j < es.length → (∀ i, i < j → (es.getD i mo0).1 ≠ s) → (es.getD j mo0).1 = s → (es.getD j mo0).2 = co es s
  | [], j, hj, _, _ => by simp at hj
  | x :: r, 0, _, _, he => by
    have he' : x.1 = s := he
    rw [co_cons, if_pos he']
    rfl
  | x :: r, j + 1, hj, h, he => by
    have h0 : x.1 ≠ s := h 0 (by omega)
    rw [co_cons, if_neg h0]
    exact co_first (es := r) (by simpa using hj) (fun i hi => h (i + 1) (by omega)) he
set_option maxRecDepth 100000 in
set_option maxHeartbeats 8000000 in
theorem idx1 (q : Option Addr) (es : List Mo) (d : Nat) (s : ByteArray) (gm : Nat) (w : World) (hn : es.length ≤ maxLen) (RA : Hid (SlM w q es)) (hm : w.cell? ⟨gm, 0, none⟩ = some (.string s)) :
    Calls Try.prog 47 #[.slice q es.length d, .func (.func 48) #[] #[.pointer (some ⟨gm, 0, none⟩)]] w (IXW es s w) := by
  have C := Lib.hid fun (t : ByteArray) (a : Int) (u : World) h v hv => clo1 s t a gm u h v hv
  unfold maxLen at hn
  go_enter Try.func47, Try.ntmps47
  go_wp2
  go_loopw [8] (fun i wr => ∃ j : Nat, i = .int .i64 (j : Int) ∧ j ≤ es.length ∧ Below w.heap.size w wr ∧ Hid (∀ i, i < j → (es.getD i mo0).1 ≠ s)) (fun i _ => es.length - (intOf i).toNat)
  case atStart => exact ⟨0, rfl, by omega, Below.refl _ _, Lib.hid fun i hi => absurd hi (by omega)⟩
  case round =>
    obtain ⟨j, rfl, hj, hB, HN⟩ := hrel
    have j0 : (0 : Int) ≤ j := by omega
    by_cases hlt : j < es.length
    · obtain ⟨b, o, rfl, c0, c1⟩ := SlM.keep hB RA.out j hlt
      have HC := Lib.hid fun he => co_first (s := s) hlt HN.out he
      obtain ⟨⟨t, a⟩, hx⟩ : ∃ x, es.getD j mo0 = x := ⟨_, rfl⟩
      have HX := Lib.hid hx
      rw [hx] at c0 c1
      simp only at c0 c1
      clear hx
      have j1 : (j : Int) < es.length := by omega
      have hm2 := kp hB (lt_of_cell hm) hm
      obtain ⟨v, hv⟩ : ∃ v, (t.toList == s.toList) = v := ⟨_, rfl⟩
      have C2 := Lib.hid (C.out t a wr hm2 v hv)
      have HV := Lib.hid hv
      clear hv C
      cases v
      · go_wp2_with fail
        refine C2.out.mono ?_
        rintro e w2 ⟨rfl, hb⟩
        have hB2 := hB.trans (hb.mono hB.size)
        have HN2 : Hid (∀ i, i < j + 1 → (es.getD i mo0).1 ≠ s) := Lib.hid fun i hi => by
          by_cases hij : i = j
          · subst hij
            rw [HX.out]
            intro e
            have := HV.out
            rw [same_iff] at this
            exact absurd e (of_decide_eq_false this)
          · exact HN.out i (by omega)
        go_wp2
        go_roundw
        case rel => exact ⟨j + 1, by go_num, by omega, hB2, HN2⟩
        case measure => simp [intOf]; omega
      · go_wp2_with fail
        refine C2.out.mono ?_
        rintro e w2 ⟨rfl, hb⟩
        have hB2 := hB.trans (hb.mono hB.size)
        have hts : (es.getD j mo0).1 = s := by
          rw [HX.out]
          have := HV.out
          rw [same_iff] at this
          exact of_decide_eq_true this
        have HE := Lib.hid (show s ∉ es.map (·.1) ∧ (Ending.returned (.int .i64 (j : Int))) = .returned (.int .i64 (-1)) ∨ ∃ j' : Nat, j' < es.length ∧ (Ending.returned (.int .i64 (j : Int))) = .returned (.int .i64 (j' : Int)) ∧ (es.getD j' mo0).1 = s ∧ (es.getD j' mo0).2 = co es s from .inr ⟨j, hlt, rfl, hts, HC.out hts⟩)
        clear hts
        go_wp2
        go_ret
        exact ⟨hB2, HE.out⟩
    · have j1 : ¬ (j : Int) < es.length := by omega
      have HE := Lib.hid (show s ∉ es.map (·.1) from not_mem_of (by omega) HN.out)
      go_wp2
      go_ret
      exact ⟨hB, .inl ⟨HE.out, rfl⟩⟩
end Go.Proofs.Ythdeaneffnlffaa.Ln
