/- The cache: lists of linked entries, the mathematics. -/
import Derived.ProofKit
namespace Go.Proofs.Ytlmbjipcdhenlaa.Ca
set_option linter.unusedVariables false
set_option linter.unusedSimpArgs false
def upd (f : Nat → Option Nat) (x : Nat) (p : Option Nat) : Nat → Option Nat := fun y => if y = x then p else f y
/-- The links of a list of blocks, the newest first. -/
def Chain (B : List Nat) (N O : Nat → Option Nat) : Prop := ∀ i x, B[i]? = some x → N x = (if i = 0 then none else B[i - 1]?) ∧ O x = B[i + 1]?
structure Un (e : Nat) (N O : Nat → Option Nat) (h t : Option Nat) (N' O' : Nat → Option Nat) (h' t' : Option Nat) : Prop where
  n : ∀ x, N' x = if x = e then none else if O e = some x then N e else N x
  o : ∀ x, O' x = if x = e then none else if N e = some x then O e else O x
  h : h' = if N e = none then O e else h
  t : t' = if O e = none then N e else t
structure Pu (e : Nat) (N O : Nat → Option Nat) (h t : Option Nat) (N' O' : Nat → Option Nat) (h' t' : Option Nat) : Prop where
  n : ∀ x, N' x = if h = some x then some e else N x
  o : ∀ x, O' x = if x = e then h else O x
  h : h' = some e
  t : t' = if t = none then some e else t
theorem inj {B : List Nat} (hn : B.Nodup) {i j : Nat} {x : Nat} (h1 : B[i]? = some x) (h2 : B[j]? = some x) : i = j := by
  have hi : i < B.length := by
    rcases Nat.lt_or_ge i B.length with h | h
    · exact h
    · rw [List.getElem?_eq_none h] at h1; cases h1
  exact (List.getElem?_inj hi hn).1 (h1.trans h2.symm)
theorem lt_of {α : Type} {B : List α} {i : Nat} {x : α} (h1 : B[i]? = some x) : i < B.length := by
  rcases Nat.lt_or_ge i B.length with h | h
  · exact h
  · rw [List.getElem?_eq_none h] at h1; cases h1
theorem chain_self {B : List Nat} {N O : Nat → Option Nat} (hc : Chain B N O) (hn : B.Nodup) {i e : Nat} (he : B[i]? = some e) : N e ≠ some e ∧ O e ≠ some e := by
  obtain ⟨h1, h2⟩ := hc i e he
  constructor
  · rw [h1]
    split
    · simp
    · intro h; have := inj hn he h; omega
  · rw [h2]; intro h; have := inj hn he h; omega
theorem chain_mem {B : List Nat} {N O : Nat → Option Nat} (hc : Chain B N O) {i e : Nat} (he : B[i]? = some e) : (∀ n, N e = some n → n ∈ B) ∧ ∀ o, O e = some o → o ∈ B := by
  obtain ⟨h1, h2⟩ := hc i e he
  constructor
  · intro n hn
    rw [h1] at hn
    split at hn
    · cases hn
    · exact List.mem_of_getElem? hn
  · intro o ho
    rw [h2] at ho
    exact List.mem_of_getElem? ho
theorem chain_un {B : List Nat} {N O N' O' : Nat → Option Nat} {h' t' : Option Nat} {i e : Nat} (hc : Chain B N O) (hn : B.Nodup) (he : B[i]? = some e) (hU : Un e N O B.head? B.getLast? N' O' h' t') :
    Chain (B.eraseIdx i) N' O' ∧ h' = (B.eraseIdx i).head? ∧ t' = (B.eraseIdx i).getLast? := by
  have hi := lt_of he
  obtain ⟨n0, o0⟩ := hc i e he
  refine ⟨fun j x hj => ?_, ?_, ?_⟩
  · rw [List.getElem?_eraseIdx] at hj
    rw [hU.n, hU.o, n0, o0]
    by_cases hji : j < i
    · rw [if_pos hji] at hj
      have hxe : x ≠ e := fun h => by subst h; have := inj hn he hj; omega
      obtain ⟨n1, o1⟩ := hc j x hj
      rw [if_neg hxe, if_neg hxe, n1, o1, List.getElem?_eraseIdx, List.getElem?_eraseIdx, if_pos (show j - 1 < i by omega)]
      refine ⟨?_, ?_⟩
      · rw [if_neg (fun h => by have := inj hn hj h; omega)]
      · by_cases h1 : j + 1 = i
        · rw [if_neg (show ¬ i = 0 by omega), show i - 1 = j by omega, if_pos hj, if_neg (by omega), h1]
        · rw [if_neg (fun h => by split at h <;> first | (cases h; done) | (have := inj hn hj h; omega)), if_pos (by omega)]
    · rw [if_neg hji] at hj
      have hxe : x ≠ e := fun h => by subst h; have := inj hn he hj; omega
      obtain ⟨n1, o1⟩ := hc (j + 1) x hj
      rw [if_neg hxe, if_neg hxe, n1, o1, List.getElem?_eraseIdx, List.getElem?_eraseIdx, if_neg (show ¬ j + 1 < i by omega), if_neg (show ¬ j + 1 = 0 by omega)]
      refine ⟨?_, ?_⟩
      · by_cases h1 : j = i
        · subst h1
          rw [if_pos hj]
          split
          · rfl
          · rw [if_pos (by omega)]
        · rw [if_neg (fun h => by have := inj hn hj h; omega), if_neg (show ¬ j = 0 by omega), if_neg (show ¬ j - 1 < i by omega)]
          congr 1
          omega
      · rw [if_neg (fun h => by split at h <;> first | (cases h; done) | (have := inj hn hj h; omega))]
  · rw [hU.h, n0, o0, List.head?_eq_getElem?, List.head?_eq_getElem?, List.getElem?_eraseIdx]
    by_cases h0 : i = 0
    · subst h0; simp
    · rw [if_neg h0, if_neg (show ¬ B[i - 1]? = none by rw [List.getElem?_eq_getElem (by omega)]; simp), if_pos (show 0 < i by omega)]
  · rw [hU.t, n0, o0, List.getLast?_eq_getElem?, List.getLast?_eq_getElem?, List.getElem?_eraseIdx, List.length_eraseIdx, if_pos hi]
    by_cases h1 : i + 1 = B.length
    · rw [if_pos (List.getElem?_eq_none (by omega))]
      split
      · rename_i h0
        rw [show B.length - 1 - 1 = 0 by omega, if_neg (by omega), List.getElem?_eq_none (by omega)]
      · rw [if_pos (by omega)]
        congr 1
        omega
    · rw [if_neg (by rw [List.getElem?_eq_getElem (by omega)]; simp), if_neg (by omega)]
      congr 1
      omega
theorem chain_pu {B : List Nat} {N O N' O' : Nat → Option Nat} {h' t' : Option Nat} {e : Nat} (hc : Chain B N O) (hn : B.Nodup) (he : e ∉ B) (hz : N e = none) (hU : Pu e N O B.head? B.getLast? N' O' h' t') :
    Chain (e :: B) N' O' ∧ h' = (e :: B).head? ∧ t' = (e :: B).getLast? := by
  have hh : B.head? = B[0]? := List.head?_eq_getElem?
  refine ⟨fun j x hj => ?_, ?_, ?_⟩
  · rw [hU.n, hU.o]
    rcases j with _ | j
    · simp at hj
      subst hj
      rw [if_neg (show ¬ B.head? = some e from fun h => he (List.mem_of_mem_head? h))]
      exact ⟨by simp [hz], by simp [hh]⟩
    · rw [List.getElem?_cons_succ] at hj
      have hxe : x ≠ e := fun h => he (h ▸ List.mem_of_getElem? hj)
      obtain ⟨n1, o1⟩ := hc j x hj
      rw [if_neg hxe, o1, n1, if_neg (show ¬ j + 1 = 0 by omega), List.getElem?_cons_succ]
      refine ⟨?_, rfl⟩
      by_cases h0 : j = 0
      · subst h0
        rw [if_pos (by rw [hh]; exact hj)]
        rfl
      · rw [if_neg (fun h => by rw [hh] at h; have := inj hn hj h; omega), if_neg h0]
        obtain ⟨m, rfl⟩ : ∃ m, j = m + 1 := ⟨j - 1, by omega⟩
        rfl
  · rw [hU.h]; rfl
  · rw [hU.t]
    cases B with
    | nil => rfl
    | cons b B => simp [List.getLast?_cons_cons]
theorem nodup_erase {B : List Nat} (h : B.Nodup) (i : Nat) : (B.eraseIdx i).Nodup := h.sublist (List.eraseIdx_sublist _ _)
theorem not_mem_erase {B : List Nat} (h : B.Nodup) {i e : Nat} (he : B[i]? = some e) : e ∉ B.eraseIdx i := fun hm => by
  obtain ⟨j, hj⟩ := List.getElem?_of_mem hm
  rw [List.getElem?_eraseIdx] at hj
  split at hj
  · have := inj h he hj; omega
  · have := inj h he hj; omega
section
variable {α : Type}
/-- Entries: block, key, value. -/
abbrev En (α : Type) := Nat × ByteArray × α
def look (X : List (En α)) (s : ByteArray) : Option Nat := (X.find? fun x => decide (x.2.1 = s)).map (·.1)
theorem look_nil (s : ByteArray) : look ([] : List (En α)) s = none := rfl
theorem look_cons (x : En α) (X : List (En α)) (s : ByteArray) : look (x :: X) s = if x.2.1 = s then some x.1 else look X s := by
  unfold look
  rw [List.find?_cons]
  by_cases h : x.2.1 = s <;> simp [h]
theorem look_none {X : List (En α)} {s : ByteArray} : look X s = none ↔ s ∉ X.map (·.2.1) := by
  induction X with
  | nil => simp [look_nil]
  | cons x X ih =>
    rw [look_cons, List.map_cons, List.mem_cons]
    by_cases h : x.2.1 = s
    · simp [h]
    · rw [if_neg h, ih]
      simp [show ¬ s = x.2.1 from fun e => h e.symm]
theorem look_some {X : List (En α)} {s : ByteArray} {e : Nat} (h : look X s = some e) : ∃ (i : Nat) (v : α), X[i]? = some (e, s, v) := by
  induction X with
  | nil => cases h
  | cons x X ih =>
    rw [look_cons] at h
    by_cases hx : x.2.1 = s
    · rw [if_pos hx] at h
      cases h
      exact ⟨0, x.2.2, by rw [List.getElem?_cons_zero, ← hx]⟩
    · rw [if_neg hx] at h
      obtain ⟨i, v, hi⟩ := ih h
      exact ⟨i + 1, v, by rw [List.getElem?_cons_succ]; exact hi⟩
theorem look_at {X : List (En α)} (hn : (X.map (·.2.1)).Nodup) {i : Nat} {x : En α} (h : X[i]? = some x) : look X x.2.1 = some x.1 := by
  induction X generalizing i with
  | nil => simp at h
  | cons y X ih =>
    rw [List.map_cons, List.nodup_cons] at hn
    rw [look_cons]
    rcases i with _ | i
    · simp at h; subst h; rw [if_pos rfl]
    · rw [List.getElem?_cons_succ] at h
      rw [if_neg, ih hn.2 h]
      intro e
      exact hn.1 (e ▸ List.mem_map_of_mem (List.mem_of_getElem? h))
theorem look_erase {X : List (En α)} {i : Nat} {x : En α} (h : X[i]? = some x) {s : ByteArray} (hs : s ≠ x.2.1) : look (X.eraseIdx i) s = look X s := by
  induction X generalizing i with
  | nil => simp at h
  | cons y X ih =>
    rcases i with _ | i
    · simp at h; subst h
      rw [List.eraseIdx_cons_zero, look_cons, if_neg (fun e => hs e.symm)]
    · rw [List.getElem?_cons_succ] at h
      rw [List.eraseIdx_cons_succ, look_cons, look_cons, ih h]
theorem key_erase {X : List (En α)} (hn : (X.map (·.2.1)).Nodup) {i : Nat} {x : En α} (h : X[i]? = some x) : x.2.1 ∉ (X.eraseIdx i).map (·.2.1) := by
  induction X generalizing i with
  | nil => simp at h
  | cons y X ih =>
    rw [List.map_cons, List.nodup_cons] at hn
    rcases i with _ | i
    · simp at h; subst h
      rw [List.eraseIdx_cons_zero]; exact hn.1
    · rw [List.getElem?_cons_succ] at h
      rw [List.eraseIdx_cons_succ, List.map_cons, List.mem_cons, not_or]
      refine ⟨fun e => hn.1 (e ▸ List.mem_map_of_mem (List.mem_of_getElem? h)), ih hn.2 h⟩
theorem map_erase {β : Type} (f : En α → β) (X : List (En α)) (i : Nat) : (X.eraseIdx i).map f = (X.map f).eraseIdx i := by
  induction X generalizing i with
  | nil => rfl
  | cons x X ih => cases i with
    | zero => rfl
    | succ i => rw [List.eraseIdx_cons_succ, List.map_cons, ih, List.map_cons, List.eraseIdx_cons_succ]
theorem mem_erase {X : List (En α)} {i : Nat} {x : En α} (h : x ∈ X.eraseIdx i) : x ∈ X := (List.eraseIdx_sublist X i).mem h
theorem keys_erase {X : List (En α)} (hn : (X.map (·.2.1)).Nodup) (i : Nat) : ((X.eraseIdx i).map (·.2.1)).Nodup := hn.sublist ((List.eraseIdx_sublist X i).map _)
end
end Go.Proofs.Ytlmbjipcdhenlaa.Ca
