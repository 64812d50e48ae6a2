/- The search by costs: what holds while it runs, and its answer. -/
import Derived.Test.YtndmpoomdoojpaaKB2
namespace Go.Proofs.Ytndmpoomdoojpaa.Ck.Bf
open Go.ChangeShapes Go.WideShapes Go.ChangeAt Go.RowKit Go.Proofs.Ytndmpoomdoojpaa.Ck
set_option linter.unusedVariables false
/-- The number of a position. -/
def nm (x : Nd) : Nat := (x.2.2 * 13 + x.1) * 13 + x.2.1
def Sn (sn : List Bool) (x : Nd) : Prop := sn.getD (nm x) false = true
theorem nm_inj {N S : Nat} {x y : Nd} (hN : N ≤ 12) (hx : Wf N S x) (hy : Wf N S y) (h : nm x = nm y) : x = y := by
  obtain ⟨a, l, s⟩ := x
  obtain ⟨b, k, t⟩ := y
  obtain ⟨h1, h2, -⟩ := hx
  obtain ⟨g1, g2, -⟩ := hy
  unfold nm at h
  simp only at h h1 h2 g1 g2
  have e1 : l = k := by omega
  have e2 : a = b := by omega
  have e3 : s = t := by omega
  rw [e1, e2, e3]
theorem lt_of_bits {s N : Nat} (h : ∀ j, s.testBit j = true → j < N) : s < 2 ^ N := by
  refine Nat.lt_pow_two_of_testBit s fun i hi => ?_
  cases hq : s.testBit i with
  | false => rfl
  | true => have := h i hq; omega
theorem nm_lt {N S : Nat} {x : Nd} (hN : N ≤ 12) (hx : Wf N S x) : nm x < 2 ^ (max N 1) * 169 := by
  obtain ⟨a, l, s⟩ := x
  obtain ⟨h1, h2, h3, -⟩ := hx
  have h := lt_of_bits (s := s) (N := max N 1) (fun j hj => by have := h3 j hj; omega)
  unfold nm
  simp only at h1 h2 h ⊢
  omega
theorem set_T {sn : List Bool} {k j : Nat} (hk : k < sn.length) : (sn.set k true).getD j false = true ↔ sn.getD j false = true ∨ j = k := by
  rw [List.getD_eq_getElem?_getD, List.getD_eq_getElem?_getD, List.getElem?_set]
  by_cases e : k = j
  · subst e; simp [hk]
  · rw [if_neg e]
    constructor
    · exact .inl
    · rintro (h | rfl)
      · exact h
      · exact absurd rfl e
/-- One advance. -/
def av (x : Nd) : Nd := (x.1 + 1, x.2.1, x.2.2)
structure Bf (N S c : Nat) (sn : List Bool) (fr nx : List Nd) : Prop where
  len : sn.length = 2 ^ (max N 1) * 169
  wf : ∀ x ∈ fr, Wf N S x ∧ Lw N S x (co N S - c)
  wn : ∀ x ∈ nx, Wf N S x ∧ Lw N S x (co N S - c - 1)
  st : Sn sn (0, N, 0) ∨ (0, N, 0) ∈ fr
  c0 : ∀ x, Sn sn x → Wf N S x → ∀ y ∈ nb N S x, Sn sn y ∨ y ∈ fr
  c1 : ∀ x, Sn sn x → Wf N S x → x.1 < N → Sn sn (av x) ∨ av x ∈ fr ∨ av x ∈ nx
  pr : ∀ d x, Pt N S (0, N, 0) d x → d < c → Sn sn x ∧ (x.1 < N → Sn sn (av x) ∨ av x ∈ fr)
  nz : ∀ x, Sn sn x → Wf N S x → x.2.1 ≠ 0
theorem Pt.wf {N S d : Nat} {x y : Nd} (h : Pt N S x d y) (w : Wf N S x) : Wf N S y := by
  induction h with
  | refl => exact w
  | free _ hz ih => exact ih.free hz
  | adv _ hz ih => exact ih.adv hz
theorem Bf.start {N S : Nat} (hN : N ≤ 12) (hS : S ≤ 64) : Bf N S 0 (List.replicate (2 ^ (max N 1) * 169) false) [(0, N, 0)] [] := by
  obtain ⟨w, l⟩ := start_Lw (N := N) (S := S) (by omega) hS
  have no : ∀ x, ¬ Sn (List.replicate (2 ^ (max N 1) * 169) false) x := fun x hx => by
    unfold Sn at hx
    rw [List.getD_eq_getElem?_getD, List.getElem?_replicate] at hx
    split at hx <;> exact absurd hx (by decide)
  exact ⟨List.length_replicate, fun x hx => by rw [List.mem_singleton] at hx; subst hx; exact ⟨w, by simpa using l⟩, fun x hx => absurd hx (by simp), .inr (List.mem_singleton.2 rfl), fun x hx => absurd hx (no x), fun x hx => absurd hx (no x), fun d x _ h => absurd h (by omega), fun x hx => absurd hx (no x)⟩
theorem Bf.skip {N S c : Nat} {sn : List Bool} {fr nx : List Nd} {x : Nd} (h : Bf N S c sn (fr ++ [x]) nx) (hx : Sn sn x) : Bf N S c sn fr nx := by
  have m : ∀ y, y ∈ fr ++ [x] → Sn sn y ∨ y ∈ fr := fun y hy => by
    rcases List.mem_append.1 hy with h1 | h1
    · exact .inr h1
    · rw [List.mem_singleton] at h1; subst h1; exact .inl hx
  refine ⟨h.len, fun y hy => h.wf y (List.mem_append_left _ hy), h.wn, h.st.elim .inl (m _), fun y h1 h2 z hz => (h.c0 y h1 h2 z hz).elim .inl (m _), fun y h1 h2 h3 => ?_, fun d y h1 h2 => ⟨(h.pr d y h1 h2).1, fun h3 => ((h.pr d y h1 h2).2 h3).elim .inl (m _)⟩, h.nz⟩
  rcases h.c1 y h1 h2 h3 with g | g | g
  · exact .inl g
  · exact (m _ g).elim .inl fun g => .inr (.inl g)
  · exact .inr (.inr g)
theorem Bf.take {N S c : Nat} {sn : List Bool} {fr nx : List Nd} {x : Nd} (hN : N ≤ 12) (hS : S ≤ 64) (h : Bf N S c sn (fr ++ [x]) nx) (hz : x.2.1 ≠ 0) : Bf N S c (sn.set (nm x) true) (fr ++ nb N S x) (nx ++ if x.1 < N then [av x] else []) := by
  obtain ⟨wx, lx⟩ := h.wf x (List.mem_append_right _ (List.mem_singleton.2 rfl))
  have hl : nm x < sn.length := by rw [h.len]; exact nm_lt hN wx
  have up : ∀ y, Sn sn y → Sn (sn.set (nm x) true) y := fun y hy => (set_T hl).2 (.inl hy)
  have me : Sn (sn.set (nm x) true) x := (set_T hl).2 (.inr rfl)
  have dn : ∀ y, Sn (sn.set (nm x) true) y → Wf N S y → Sn sn y ∨ y = x := fun y hy wy => ((set_T hl).1 hy).elim .inl fun e => .inr (nm_inj hN wy wx e)
  have m : ∀ y, Sn sn y ∨ y ∈ fr ++ [x] → Sn (sn.set (nm x) true) y ∨ y ∈ fr ++ nb N S x := fun y hy => by
    rcases hy with h1 | h1
    · exact .inl (up y h1)
    · rcases List.mem_append.1 h1 with h1 | h1
      · exact .inr (List.mem_append_left _ h1)
      · rw [List.mem_singleton] at h1; subst h1; exact .inl me
  refine ⟨by rw [List.length_set]; exact h.len, fun y hy => ?_, fun y hy => ?_, m _ h.st, fun y h1 h2 z hzb => ?_, fun y h1 h2 h3 => ?_, fun d y h1 h2 => ⟨up _ (h.pr d y h1 h2).1, fun h3 => m _ ((h.pr d y h1 h2).2 h3)⟩, fun y h1 h2 => ?_⟩
  · rcases List.mem_append.1 hy with h1 | h1
    · exact h.wf y (List.mem_append_left _ h1)
    · exact ⟨wx.free h1, lx.free (by omega) hS wx h1⟩
  · rcases List.mem_append.1 hy with h1 | h1
    · exact h.wn y h1
    · by_cases hc : x.1 < N
      · rw [if_pos hc, List.mem_singleton] at h1
        subst h1
        exact ⟨wx.adv hc, lx.adv⟩
      · rw [if_neg hc] at h1; exact absurd h1 (by simp)
  · rcases dn y h1 h2 with g | rfl
    · exact m _ (h.c0 y g h2 z hzb)
    · exact .inr (List.mem_append_right _ hzb)
  · rcases dn y h1 h2 with g | rfl
    · rcases h.c1 y g h2 h3 with g | g | g
      · exact .inl (up _ g)
      · exact (m _ (.inr g)).elim .inl fun g => .inr (.inl g)
      · exact .inr (.inr (List.mem_append_left _ g))
    · exact .inr (.inr (List.mem_append_right _ (by rw [if_pos h3]; exact List.mem_singleton.2 rfl)))
  · rcases dn y h1 h2 with g | rfl
    · exact h.nz y g h2
    · exact hz
theorem Bf.all {N S c : Nat} {sn : List Bool} {nx : List Nd} (h : Bf N S c sn [] nx) (hS : S ≤ 64) (hN : N ≤ 12) {d : Nat} {x : Nd} (p : Pt N S (0, N, 0) d x) : d ≤ c → Sn sn x := by
  have w0 := (start_Lw (N := N) (S := S) (by omega) hS).1
  have f : ∀ {y : Nd}, Sn sn y ∨ y ∈ ([] : List Nd) → Sn sn y := fun hy => hy.elim id fun h => absurd h (by simp)
  induction p with
  | refl => exact fun _ => f h.st
  | free p1 hz ih => exact fun hd => f (h.c0 _ (ih hd) (p1.wf w0) _ hz)
  | adv p1 hz ih => exact fun hd => f ((h.pr _ _ p1 (by omega)).2 hz)
theorem Bf.next {N S c : Nat} {sn : List Bool} {nx : List Nd} (hN : N ≤ 12) (hS : S ≤ 64) (h : Bf N S c sn [] nx) : Bf N S (c + 1) sn nx [] := by
  have w0 := (start_Lw (N := N) (S := S) (by omega) hS).1
  have f : ∀ {y : Nd}, Sn sn y ∨ y ∈ ([] : List Nd) → Sn sn y := fun hy => hy.elim id fun h => absurd h (by simp)
  have g : ∀ x, Sn sn x → Wf N S x → x.1 < N → Sn sn (av x) ∨ av x ∈ nx := fun x h1 h2 h3 => by
    rcases h.c1 x h1 h2 h3 with k | k | k
    · exact .inl k
    · exact absurd k (by simp)
    · exact .inr k
  refine ⟨h.len, fun x hx => ?_, fun x hx => absurd hx (by simp), .inl (f h.st), fun x h1 h2 y hy => .inl (f (h.c0 x h1 h2 y hy)), fun x h1 h2 h3 => (g x h1 h2 h3).elim .inl fun k => .inr (.inl k), fun d x p hd => ?_, h.nz⟩
  · obtain ⟨w, l⟩ := h.wn x hx
    refine ⟨w, ?_⟩
    have e : co (N : Int) (S : Int) - ((c + 1 : Nat) : Int) = co (N : Int) (S : Int) - (c : Int) - 1 := by push_cast; omega
    rw [e]; exact l
  · have s1 := h.all hS hN p (by omega)
    exact ⟨s1, g x s1 (p.wf w0)⟩
/-- The search doesn't go on past the binomial cost. -/
theorem Bf.hi {N S c : Nat} {sn : List Bool} {fr nx : List Nd} (hN : N ≤ 12) (hS : S ≤ 64) (h : Bf N S c sn fr nx) : (c : Int) ≤ co (N : Int) (S : Int) := by
  obtain ⟨k, a, hk, p⟩ := reach_co N S (by omega) hS
  rw [← hk]
  by_cases hc : c ≤ k
  · exact_mod_cast hc
  · have w0 := (start_Lw (N := N) (S := S) (by omega) hS).1
    exact absurd rfl (h.nz _ (h.pr k _ p (by omega)).1 (p.wf w0))
/-- What is found costs the binomial cost. -/
theorem Bf.found {N S c : Nat} {sn : List Bool} {fr nx : List Nd} {x : Nd} (hN : N ≤ 12) (hS : S ≤ 64) (h : Bf N S c sn (fr ++ [x]) nx) (h0 : x.2.1 = 0) : co (N : Int) (S : Int) = c := by
  have h1 := h.hi hN hS
  have h2 := (h.wf x (List.mem_append_right _ (List.mem_singleton.2 rfl))).2.done h0
  omega
/-- How many are not seen yet. -/
def un (sn : List Bool) : Nat := sn.countP (fun b => !b)
theorem un_set {sn : List Bool} {k : Nat} (hk : k < sn.length) (h : sn.getD k false = false) : un (sn.set k true) + 1 = un sn := by
  induction sn generalizing k with
  | nil => simp at hk
  | cons b r ih =>
    cases k with
    | zero =>
      have : b = false := by simpa using h
      subst this
      simp [un]
    | succ k =>
      have := ih (k := k) (by simpa using hk) (by simpa using h)
      unfold un at this ⊢
      rw [List.set_cons_succ, List.countP_cons, List.countP_cons]
      omega
theorem nbL_len (a l s : Nat) : ∀ n, (nbL a l s n).length ≤ 2 * n
  | 0 => Nat.zero_le _
  | n + 1 => by
    have := nbL_len a l s n
    unfold nbL
    rw [List.length_append]
    split <;> simp <;> omega
theorem nb_len (N S : Nat) (x : Nd) : (nb N S x).length ≤ 2 * N + 3 := by
  have := nbL_len x.1 x.2.1 x.2.2 N
  unfold nb
  rw [List.length_append, List.length_append, List.length_cons]
  split <;> split <;> simp <;> omega
end Go.Proofs.Ytndmpoomdoojpaa.Ck.Bf
