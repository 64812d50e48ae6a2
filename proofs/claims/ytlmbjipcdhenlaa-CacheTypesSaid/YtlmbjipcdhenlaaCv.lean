/- The cache: keys and values in order of use, the mathematics. -/
import Derived.Test.YtlmbjipcdhenlaaC0
namespace Go.Proofs.Ytlmbjipcdhenlaa.Ca
set_option linter.unusedVariables false
set_option linter.unusedSimpArgs false
section
variable {α : Type}
def lkv (L : List (ByteArray × α)) (s : ByteArray) : Option α := (L.find? fun x => decide (x.1 = s)).map (·.2)
def rml (L : List (ByteArray × α)) (s : ByteArray) : List (ByteArray × α) := L.filter fun x => !decide (x.1 = s)
theorem lkv_cons (x : ByteArray × α) (L : List (ByteArray × α)) (s : ByteArray) : lkv (x :: L) s = if x.1 = s then some x.2 else lkv L s := by
  unfold lkv
  rw [List.find?_cons]
  by_cases h : x.1 = s <;> simp [h]
theorem lkv_none {L : List (ByteArray × α)} {s : ByteArray} : lkv L s = none ↔ s ∉ L.map (·.1) := by
  induction L with
  | nil => simp [lkv]
  | cons x L ih =>
    rw [lkv_cons, List.map_cons, List.mem_cons]
    by_cases h : x.1 = s
    · simp [h]
    · rw [if_neg h, ih]
      simp [show ¬ s = x.1 from fun e => h e.symm]
theorem lkv_at {L : List (ByteArray × α)} (hn : (L.map (·.1)).Nodup) {x : ByteArray × α} (h : x ∈ L) : lkv L x.1 = some x.2 := by
  induction L with
  | nil => cases h
  | cons y L ih =>
    rw [List.map_cons, List.nodup_cons] at hn
    rw [lkv_cons]
    rcases List.mem_cons.1 h with rfl | h
    · rw [if_pos rfl]
    · rw [if_neg (show ¬ y.1 = x.1 from fun e => hn.1 (by rw [e]; exact List.mem_map_of_mem h)), ih hn.2 h]
theorem rml_none {L : List (ByteArray × α)} {s : ByteArray} (h : s ∉ L.map (·.1)) : rml L s = L := by
  unfold rml
  rw [List.filter_eq_self]
  intro x hx
  rw [decide_eq_false (show ¬ x.1 = s from fun e => h (by rw [← e]; exact List.mem_map_of_mem hx))]
  rfl
theorem map_snd (X : List (En α)) : (X.map (·.2)).map (·.1) = X.map (·.2.1) := by rw [List.map_map]; rfl
theorem look_lkv {X : List (En α)} {s : ByteArray} (h : look X s = none) : lkv (X.map (·.2)) s = none := by
  rw [lkv_none, map_snd]
  exact look_none.1 h
theorem erase_rml {X : List (En α)} (hn : (X.map (·.2.1)).Nodup) {i : Nat} {x : En α} (h : X[i]? = some x) : (X.eraseIdx i).map (·.2) = rml (X.map (·.2)) x.2.1 := by
  induction X generalizing i with
  | nil => simp at h
  | cons y X ih =>
    rw [List.map_cons, List.nodup_cons] at hn
    unfold rml at ih ⊢
    rcases i with _ | i
    · simp at h; subst h
      rw [List.eraseIdx_cons_zero, List.map_cons, List.filter_cons, decide_eq_true rfl, if_neg (by decide)]
      exact (rml_none (by rw [map_snd]; exact hn.1)).symm
    · rw [List.getElem?_cons_succ] at h
      rw [List.eraseIdx_cons_succ, List.map_cons, List.map_cons, List.filter_cons, decide_eq_false (show ¬ y.2.1 = x.2.1 from fun e => hn.1 (by rw [e]; exact List.mem_map_of_mem (f := (·.2.1)) (List.mem_of_getElem? h))), if_pos (by decide), ih hn.2 h]
theorem erase_last : ∀ (l : List α), l.eraseIdx (l.length - 1) = l.dropLast
  | [] => rfl
  | [_] => rfl
  | x :: y :: l => by
    have := erase_last (y :: l)
    simp only [List.length_cons, Nat.add_sub_cancel] at this ⊢
    rw [List.eraseIdx_cons_succ, List.dropLast_cons_of_ne_nil (by simp)]
    rw [this]
theorem rml_len (L : List (ByteArray × α)) (s : ByteArray) : (rml L s).length ≤ L.length := List.length_filter_le _ _
theorem rml_keys {L : List (ByteArray × α)} {s : ByteArray} : s ∉ (rml L s).map (·.1) := fun h => by
  obtain ⟨x, hx, e⟩ := List.mem_map.1 h
  have := (List.mem_filter.1 hx).2
  rw [decide_eq_true e] at this
  cases this
theorem rml_nodup {L : List (ByteArray × α)} {s : ByteArray} (h : (L.map (·.1)).Nodup) : ((rml L s).map (·.1)).Nodup := h.sublist (List.filter_sublist.map _)
end
end Go.Proofs.Ytlmbjipcdhenlaa.Ca
