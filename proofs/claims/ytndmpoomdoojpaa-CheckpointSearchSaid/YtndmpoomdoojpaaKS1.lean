/- The exhaustive search over plans: its levels, and what they tell. -/
import Derived.Test.YtndmpoomdoojpaaKB2
namespace Go.Proofs.Ytndmpoomdoojpaa.Ck.Sr
open Go.ChangeShapes Go.WideShapes Go.ChangeAt Go.RowKit Go.Proofs.Ytndmpoomdoojpaa.Ck Go.Proofs.Ytndmpoomdoojpaa.Ck.Bf
set_option linter.unusedVariables false
/-- The state, the steps left, what the slots hold. -/
abbrev Sd := Nat × Nat × List Int
/-- What one slot gives. -/
def sb1 (x : Sd) (k : Nat) : List Sd := (x.1, x.2.1, x.2.2.set k (x.1 : Int)) :: if 0 ≤ x.2.2.getD k 0 then [((x.2.2.getD k 0).toNat, x.2.1, x.2.2)] else []
/-- What is reached without an advance. -/
def sbL (x : Sd) : Nat → List Sd
  | 0 => []
  | k + 1 => sbL x k ++ sb1 x k
def sb (S : Nat) (x : Sd) : List Sd := sbL x S ++ ((0, x.2.1, x.2.2) :: if x.1 + 1 = x.2.1 then [(x.1, x.2.1 - 1, x.2.2)] else [])
theorem mem_sbL {x y : Sd} : ∀ {S : Nat}, y ∈ sbL x S ↔ ∃ k, k < S ∧ y ∈ sb1 x k
  | 0 => by simp [sbL]
  | S + 1 => by
    unfold sbL
    rw [List.mem_append, mem_sbL]
    constructor
    · rintro (⟨k, h1, h2⟩ | h)
      · exact ⟨k, by omega, h2⟩
      · exact ⟨S, by omega, h⟩
    · rintro ⟨k, h1, h2⟩
      by_cases e : k = S
      · subst e; exact .inr h2
      · exact .inl ⟨k, by omega, h2⟩
theorem mem_sb {S : Nat} {x y : Sd} : y ∈ sb S x ↔ (∃ k, k < S ∧ y = (x.1, x.2.1, x.2.2.set k (x.1 : Int))) ∨ (∃ k, k < S ∧ 0 ≤ x.2.2.getD k 0 ∧ y = ((x.2.2.getD k 0).toNat, x.2.1, x.2.2)) ∨ y = (0, x.2.1, x.2.2) ∨ (x.1 + 1 = x.2.1 ∧ y = (x.1, x.2.1 - 1, x.2.2)) := by
  unfold sb
  rw [List.mem_append, mem_sbL, List.mem_cons]
  constructor
  · rintro (⟨k, h1, h2⟩ | h | h)
    · unfold sb1 at h2
      rcases List.mem_cons.1 h2 with h2 | h2
      · exact .inl ⟨k, h1, h2⟩
      · by_cases hc : 0 ≤ x.2.2.getD k 0
        · rw [if_pos hc, List.mem_singleton] at h2
          exact .inr (.inl ⟨k, h1, hc, h2⟩)
        · rw [if_neg hc] at h2; exact absurd h2 (by simp)
    · exact .inr (.inr (.inl h))
    · by_cases hc : x.1 + 1 = x.2.1
      · rw [if_pos hc, List.mem_singleton] at h
        exact .inr (.inr (.inr ⟨hc, h⟩))
      · rw [if_neg hc] at h; exact absurd h (by simp)
  · rintro (⟨k, h1, h2⟩ | ⟨k, h1, hc, h2⟩ | h | ⟨hc, h⟩)
    · exact .inl ⟨k, h1, by unfold sb1; exact List.mem_cons.2 (.inl h2)⟩
    · exact .inl ⟨k, h1, by unfold sb1; rw [if_pos hc]; exact List.mem_cons.2 (.inr (List.mem_singleton.2 h2))⟩
    · exact .inr (.inl h)
    · refine .inr (.inr ?_)
      rw [if_pos hc, List.mem_singleton]
      exact h
/-- A state as the search reaches it. -/
def WfS (N S : Nat) (x : Sd) : Prop := x.1 ≤ N ∧ x.2.1 ≤ N ∧ x.2.2.length = S ∧ ∀ v ∈ x.2.2, -1 ≤ v ∧ v ≤ (N : Int)
theorem getD_mem {l : List Int} {k : Nat} (h : k < l.length) : l.getD k 0 ∈ l := by
  rw [List.getD_eq_getElem?_getD, List.getElem?_eq_getElem h]
  exact List.getElem_mem h
theorem WfS.free {N S : Nat} {x y : Sd} (h : WfS N S x) (hy : y ∈ sb S x) : WfS N S y := by
  obtain ⟨a, l, s⟩ := x
  obtain ⟨h1, h2, h3, h4⟩ := h
  simp only at h1 h2 h3 h4
  rcases mem_sb.1 hy with ⟨k, hk, rfl⟩ | ⟨k, hk, hc, rfl⟩ | rfl | ⟨hc, rfl⟩
  · refine ⟨h1, h2, by simp only; rw [List.length_set]; exact h3, fun v hv => ?_⟩
    rcases List.mem_or_eq_of_mem_set hv with h | h
    · exact h4 v h
    · subst h; simp only; omega
  · simp only at hc
    have := h4 _ (getD_mem (k := k) (by omega))
    exact ⟨by simp only; omega, h2, h3, h4⟩
  · exact ⟨Nat.zero_le _, h2, h3, h4⟩
  · exact ⟨h1, by simp only at hc ⊢; omega, h3, h4⟩
def avS (x : Sd) : Sd := (x.1 + 1, x.2.1, x.2.2)
theorem WfS.adv {N S : Nat} {x : Sd} (h : WfS N S x) (ha : x.1 < N) : WfS N S (avS x) := ⟨ha, h.2.1, h.2.2.1, h.2.2.2⟩
def LwS (S : Nat) (x : Sd) (T : Int) : Prop := Low (S + 1) (x.1 :: x.2.2.map Int.toNat) x.2.1 T
theorem LwS.free {N S : Nat} {x y : Sd} {T : Int} (hN : N ≤ 63) (hS : S ≤ 64) (w : WfS N S x) (h : LwS S x T) (hy : y ∈ sb S x) : LwS S y T := by
  obtain ⟨a, l, s⟩ := x
  obtain ⟨h1, h2, h3, h4⟩ := w
  unfold LwS at h ⊢
  simp only at h1 h2 h3 h4 h
  rcases mem_sb.1 hy with ⟨k, hk, rfl⟩ | ⟨k, hk, hc, rfl⟩ | rfl | ⟨hc, rfl⟩
  · refine h.anti fun j hj => ?_
    rcases List.mem_cons.1 hj with rfl | hj
    · exact .inr List.mem_cons_self
    · obtain ⟨v, hv, rfl⟩ := List.mem_map.1 hj
      rcases List.mem_or_eq_of_mem_set hv with g | g
      · exact .inr (List.mem_cons_of_mem _ (List.mem_map.2 ⟨v, g, rfl⟩))
      · subst g; exact .inr (by simp only [Int.toNat_natCast]; exact List.mem_cons_self)
  · refine h.anti fun j hj => ?_
    rcases List.mem_cons.1 hj with rfl | hj
    · exact .inr (List.mem_cons_of_mem _ (List.mem_map.2 ⟨_, getD_mem (by omega), rfl⟩))
    · exact .inr (List.mem_cons_of_mem _ hj)
  · refine h.anti fun j hj => ?_
    rcases List.mem_cons.1 hj with rfl | hj
    · exact .inl rfl
    · exact .inr (List.mem_cons_of_mem _ hj)
  · simp only at hc ⊢
    subst hc
    rw [Nat.add_sub_cancel]
    exact h.rev (by omega) (by omega) (by rw [List.length_map]; omega)
theorem LwS.adv {S : Nat} {x : Sd} {T : Int} (h : LwS S x T) : LwS S (avS x) (T - 1) := Low.adv h
theorem LwS.done {S : Nat} {x : Sd} {T : Int} (h : LwS S x T) (h0 : x.2.1 = 0) : T ≤ 0 := by
  have h9 : Low (S + 1) (x.1 :: x.2.2.map Int.toNat) x.2.1 T := h
  exact h9.2 h0
def st0 (N S : Nat) : Sd := (0, N, List.replicate S (-1))
theorem start_S {N S : Nat} (hN : N ≤ 64) (hS : S ≤ 64) : WfS N S (st0 N S) ∧ LwS S (st0 N S) (co N S) := by
  refine ⟨⟨Nat.zero_le _, Nat.le_refl _, List.length_replicate, fun v hv => ?_⟩, ?_⟩
  · have := List.eq_of_mem_replicate hv
    omega
  · refine Low.start (c := S + 1) (n := N) (C := 0 :: (List.replicate S (-1 : Int)).map Int.toNat) (fun x hx => ?_) (by omega) hN
    rcases List.mem_cons.1 hx with h | h
    · exact h
    · obtain ⟨v, hv, rfl⟩ := List.mem_map.1 h
      have := List.eq_of_mem_replicate hv
      subst this
      rfl
/-- A way from a state to another, with so many advances. -/
inductive PtS (N S : Nat) (x : Sd) : Nat → Sd → Prop
  | refl : PtS N S x 0 x
  | free {c : Nat} {y z : Sd} : PtS N S x c y → z ∈ sb S y → PtS N S x c z
  | adv {c : Nat} {y : Sd} : PtS N S x c y → y.1 < N → PtS N S x (c + 1) (avS y)
theorem PtS.trans {N S : Nat} {x y z : Sd} {c d : Nat} (h : PtS N S x c y) (g : PtS N S y d z) : PtS N S x (c + d) z := by
  induction g with
  | refl => exact h
  | free _ hz ih => exact .free ih hz
  | adv _ hz ih => exact .adv ih hz
theorem PtS.wf {N S d : Nat} {x y : Sd} (h : PtS N S x d y) (w : WfS N S x) : WfS N S y := by
  induction h with
  | refl => exact w
  | free _ hz ih => exact ih.free hz
  | adv _ hz ih => exact ih.adv hz
theorem PtS.lw {N S d : Nat} {x y : Sd} {T : Int} (hN : N ≤ 63) (hS : S ≤ 64) (h : PtS N S x d y) (w : WfS N S x) (l : LwS S x T) : LwS S y (T - d) := by
  induction h with
  | refl => simpa using l
  | free p hz ih => exact ih.free hN hS (p.wf w) hz
  | @adv c y p hz ih =>
    have e : T - ((c + 1 : Nat) : Int) = T - (c : Int) - 1 := by push_cast; omega
    rw [e]
    exact ih.adv
theorem PtS.walk {N S fr l : Nat} {s : List Int} : ∀ k, fr + k ≤ N → PtS N S (fr, l, s) k (fr + k, l, s)
  | 0, _ => .refl
  | k + 1, h => .adv (PtS.walk k (by omega)) (by simp only; omega)
/-- The last advance of a way. -/
theorem PtS.split {N S d c : Nat} {x z : Sd} (h : PtS N S x d z) (hd : d = c + 1) : ∃ y, PtS N S x c y ∧ y.1 < N ∧ PtS N S (avS y) 0 z := by
  induction h with
  | refl => omega
  | free p hz ih =>
    obtain ⟨y, h1, h2, h3⟩ := ih hd
    exact ⟨y, h1, h2, .free h3 hz⟩
  | adv p hz ih =>
    have : c = _ := (Nat.succ.inj hd).symm
    subst this
    exact ⟨_, p, hz, .refl⟩
def AtS (fr nx : Nat) (s : List Int) : Prop := fr = 0 ∨ ∃ z, z < nx ∧ s.getD z 0 = (fr : Int)
theorem AtS.mem {S fr nx a l : Nat} {s : List Int} (h : AtS fr nx s) (hn : nx ≤ S) : (fr, l, s) ∈ sb S (a, l, s) := by
  rcases h with rfl | ⟨z, hz, h⟩
  · exact mem_sb.2 (.inr (.inr (.inl rfl)))
  · exact mem_sb.2 (.inr (.inl ⟨z, by omega, by simp only; omega, by simp only; rw [h, Int.toNat_natCast]⟩))
theorem AtS.same {fr nx : Nat} {s s' : List Int} (h : AtS fr nx s) (e : ∀ i, i < nx → s'.getD i 0 = s.getD i 0) : AtS fr nx s' := by
  rcases h with h | ⟨z, hz, h⟩
  · exact .inl h
  · exact .inr ⟨z, hz, (e z hz).trans h⟩
theorem getD_setI {l : List Int} {a j : Nat} {v : Int} (h : a < l.length) : (l.set a v).getD j 0 = if a = j then v else l.getD j 0 := by
  rw [List.getD_eq_getElem?_getD, List.getElem?_set]
  by_cases e : a = j
  · rw [if_pos e, if_pos e, if_pos (by omega)]; rfl
  · rw [if_neg e, if_neg e, List.getD_eq_getElem?_getD]
theorem rvsS (N S : Nat) (hN : N ≤ 64) (hS : S ≤ 64) : ∀ (m n f fr nx : Nat) (s : List Int), n ≤ m → fr + n ≤ N → nx + f ≤ S → s.length = S → AtS fr nx s → ∃ (c a : Nat) (s' : List Int), (c : Int) = co (n : Int) (f : Int) ∧ PtS N S (fr, fr + n, s) c (a, fr, s') ∧ s'.length = S ∧ ∀ i, i < nx → s'.getD i 0 = s.getD i 0
  | m, 0, f, fr, nx, s, _, hfr, hf, hl, h0 => ⟨0, fr, s, ((co_small (f := f) (by omega)).1).symm, .refl, hl, fun _ _ => rfl⟩
  | m, 1, f, fr, nx, s, _, hfr, hf, hl, h0 => ⟨0, fr, s, ((co_small (f := f) (by omega)).2).symm, .free .refl (mem_sb.2 (.inr (.inr (.inr ⟨rfl, rfl⟩)))), hl, fun _ _ => rfl⟩
  | 0, n + 2, f, fr, nx, s, hm, _, _, _, _ => by omega
  | m + 1, n + 2, 0, fr, nx, s, hm, hfr, hf, hl, h0 => by
    obtain ⟨c, a, s', hc, hp, h7, h8⟩ := rvsS N S hN hS m (n + 1) 0 fr nx s (by omega) (by omega) hf hl h0
    have h1 : PtS N S (fr, fr + (n + 2), s) (n + 1) (fr + (n + 1), fr + (n + 2), s) := PtS.walk (n + 1) (by omega)
    have h2 : PtS N S (fr, fr + (n + 2), s) (n + 1) (fr + (n + 1), fr + (n + 1), s) := .free h1 (mem_sb.2 (.inr (.inr (.inr ⟨rfl, rfl⟩))))
    have h3 : PtS N S (fr, fr + (n + 2), s) (n + 1) (fr, fr + (n + 1), s) := .free h2 (h0.mem (by omega))
    refine ⟨n + 1 + c, a, s', ?_, h3.trans hp, h7, h8⟩
    have := co_zero_step (m := n + 1) (by omega)
    push_cast at this hc ⊢
    omega
  | m + 1, n + 2, f + 1, fr, nx, s, hm, hfr, hf, hl, h0 => by
    obtain ⟨k1, k2⟩ := spl_bd (n + 2) (f + 1) (n + 1)
    obtain ⟨k, hk⟩ : ∃ k, spl (n + 2) (f + 1) (n + 1) = k := ⟨_, rfl⟩
    have hcost := spl_cost (n := n + 2) (f := f + 1) (by omega) (by omega) (by omega) (by omega)
    rw [show n + 2 - 1 = n + 1 from rfl, hk] at hcost
    rw [hk] at k1 k2
    have gs : ∀ j, (s.set nx ((fr + k : Nat) : Int)).getD j 0 = if nx = j then ((fr + k : Nat) : Int) else s.getD j 0 := fun j => getD_setI (by omega)
    obtain ⟨c1, a1, s1, hc1, hp1, l1, e1⟩ := rvsS N S hN hS m (n + 2 - k) f (fr + k) (nx + 1) (s.set nx ((fr + k : Nat) : Int)) (by omega) (by omega) (by omega) (by rw [List.length_set]; exact hl) (.inr ⟨nx, by omega, by rw [gs, if_pos rfl]⟩)
    have es : ∀ i, i < nx → s1.getD i 0 = s.getD i 0 := fun i hi => by rw [e1 i (by omega), gs, if_neg (by omega)]
    have h01 := h0.same es
    obtain ⟨c2, a2, s2, hc2, hp2, l2, e2⟩ := rvsS N S hN hS m k (f + 1) fr nx s1 (by omega) (by omega) (by omega) l1 h01
    have h1 : PtS N S (fr, fr + (n + 2), s) k (fr + k, fr + (n + 2), s) := PtS.walk k (by omega)
    have h2 : PtS N S (fr, fr + (n + 2), s) k (fr + k, fr + (n + 2), s.set nx ((fr + k : Nat) : Int)) := .free h1 (mem_sb.2 (.inl ⟨nx, by omega, rfl⟩))
    have e3 : fr + k + (n + 2 - k) = fr + (n + 2) := by omega
    rw [e3] at hp1
    have h3 := h2.trans hp1
    have h4 : PtS N S (fr, fr + (n + 2), s) (k + c1) (fr, fr + k, s1) := .free h3 (h01.mem (by omega))
    refine ⟨k + c1 + c2, a2, s2, ?_, h4.trans hp2, l2, fun i hi => (e2 i hi).trans (es i hi)⟩
    unfold sm at hcost
    simp only [Nat.add_sub_cancel] at hcost
    push_cast at hcost hc1 hc2 ⊢
    omega
theorem reach_S (N S : Nat) (hN : N ≤ 64) (hS : S ≤ 64) : ∃ (c a : Nat) (s : List Int), (c : Int) = co (N : Int) (S : Int) ∧ PtS N S (st0 N S) c (a, 0, s) := by
  obtain ⟨c, a, s, h1, h2, -, -⟩ := rvsS N S hN hS N N S 0 0 (List.replicate S (-1)) (Nat.le_refl _) (by omega) (by omega) List.length_replicate (.inl rfl)
  rw [Nat.zero_add] at h2
  exact ⟨c, a, s, h1, h2⟩
/-- What lies in a list that holds with each state all that it gives without an advance. -/
theorem PtS.closed {N S d : Nat} {x z : Sd} {l : List Sd} (h : PtS N S x d z) (hd : d = 0) (hx : x ∈ l) (hc : ∀ y ∈ l, ∀ u ∈ sb S y, u ∈ l) : z ∈ l := by
  induction h with
  | refl => exact hx
  | free p hz ih => exact hc _ (ih hd) _ hz
  | adv p hz ih => omega
/-- A level of the search: just the states that ways of that cost reach. -/
structure Lv (N S c : Nat) (l : List Sd) : Prop where
  nd : l.Nodup
  sd : ∀ x ∈ l, PtS N S (st0 N S) c x
  cm : ∀ x, PtS N S (st0 N S) c x → x ∈ l
/-- What free gives. -/
structure Fr (N S : Nat) (l0 l : List Sd) : Prop where
  nd : l.Nodup
  up : ∀ x ∈ l0, x ∈ l
  sd : ∀ x ∈ l, ∃ y ∈ l0, PtS N S y 0 x
  cl : ∀ y ∈ l, ∀ u ∈ sb S y, u ∈ l
theorem Lv.start {N S : Nat} {l : List Sd} (h : Fr N S [st0 N S] l) : Lv N S 0 l :=
  ⟨h.nd, fun x hx => by obtain ⟨y, h1, h2⟩ := h.sd x hx; rw [List.mem_singleton] at h1; subst h1; exact h2, fun x hx => hx.closed rfl (h.up _ (List.mem_singleton.2 rfl)) h.cl⟩
/-- What a round collects. -/
structure Nx (N : Nat) (l : List Sd) (i : Nat) (nx : List Sd) : Prop where
  nd : nx.Nodup
  sd : ∀ x ∈ nx, ∃ y ∈ l, y.1 < N ∧ x = avS y
  cm : ∀ j y, j < i → l[j]? = some y → y.1 < N → avS y ∈ nx
theorem Lv.next {N S c : Nat} {l nx l' : List Sd} (h : Lv N S c l) (hn : Nx N l l.length nx) (hf : Fr N S nx l') : Lv N S (c + 1) l' := by
  refine ⟨hf.nd, fun x hx => ?_, fun x hx => ?_⟩
  · obtain ⟨y, h1, h2⟩ := hf.sd x hx
    obtain ⟨z, h3, h4, rfl⟩ := hn.sd y h1
    exact PtS.trans (c := c + 1) (.adv (h.sd z h3) h4) h2
  · obtain ⟨y, h1, h2, h3⟩ := hx.split rfl
    obtain ⟨j, hj⟩ := List.getElem?_of_mem (h.cm y h1)
    have hjl := (List.getElem?_eq_some_iff.1 hj).1
    exact h3.closed rfl (hf.up _ (hn.cm j y hjl hj h2)) hf.cl
theorem Lv.found {N S c : Nat} {l : List Sd} {x : Sd} (hN : N ≤ 63) (hS : S ≤ 64) (h : Lv N S c l) (hx : x ∈ l) (h0 : x.2.1 = 0) : co (N : Int) (S : Int) ≤ c := by
  obtain ⟨w, lw⟩ := start_S (N := N) (S := S) (by omega) hS
  have := ((h.sd x hx).lw hN hS w lw).done h0
  omega
theorem Lv.not {N S c : Nat} {l : List Sd} (hN : N ≤ 64) (hS : S ≤ 64) (h : Lv N S c l) (hz : ∀ x ∈ l, x.2.1 ≠ 0) : (c : Int) ≠ co (N : Int) (S : Int) := by
  obtain ⟨k, a, s, hk, p⟩ := reach_S N S hN hS
  intro e
  have : k = c := by omega
  subst this
  exact hz _ (h.cm _ p) rfl
end Go.Proofs.Ytndmpoomdoojpaa.Ck.Sr
