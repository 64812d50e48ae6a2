/- Normalize: mathematics of the normal form. -/
import Derived.Test.YtbicmlkjonaccaaDoorK11
import Derived.Test.YtbicmlkjonaccaaDoorK10

namespace Go.Proofs.YtbicmlkjonaccaaDoor.Ln
open Go.ChangeShapes Go.WideShapes Go.ChangeAt Go.RowKit
open Go.Proofs.YtbicmlkjonaccaaDoor.Nm
set_option linter.unusedVariables false
set_option linter.unusedSimpArgs false
set_option maxRecDepth 8000

/-- No two constraints with the same monomials contradict each other. -/
def Cns (ts : List Qm) : Prop := ∀ a ∈ ts, ∀ b ∈ ts, a.2.1 = b.2.1 -> a.2.2 = true -> a.1 <= b.1 /\ (b.2.2 = true -> b.1 = a.1)
/-- The strongest of those with its monomials. -/
def Bst (ts : List Qm) (x : Qm) : Prop := x ∈ ts /\ ∀ b ∈ ts, b.2.1 = x.2.1 -> x.1 <= b.1 /\ (b.2.2 = true -> x.2.2 = true)
abbrev AscM (l : List Qm) : Prop := l.Pairwise fun a b => lc a.2.1 b.2.1 < 0
theorem Bst.uniq {ts : List Qm} {x y : Qm} (h : Bst ts x) (h2 : Bst ts y) (e : x.2.1 = y.2.1) : x = y := by
 have a := h.2 y h2.1 e.symm
 have b := h2.2 x h.1 e
 refine Prod.ext (by omega) (Prod.ext e ?_)
 cases ex : x.2.2 with
 | true => exact (b.2 ex).symm
 | false =>
  cases ey : y.2.2 with
  | true => have := a.2 ey; rw [ex] at this; exact this
  | false => rfl
theorem asc_ext : ∀ {l m : List Qm}, AscM l -> AscM m -> (∀ x, x ∈ l ↔ x ∈ m) -> l = m
 | [], [], _, _, _ => rfl
 | [], y :: s, _, _, h => absurd ((h y).2 (by simp)) (by simp)
 | x :: r, [], _, _, h => absurd ((h x).1 (by simp)) (by simp)
 | x :: r, y :: s, hl, hm, h => by
  obtain ⟨l1, l2⟩ := List.pairwise_cons.1 hl
  obtain ⟨m1, m2⟩ := List.pairwise_cons.1 hm
  have e : x = y := by
   rcases List.mem_cons.1 ((h x).1 (by simp)) with a | a
   ·exact a
   ·rcases List.mem_cons.1 ((h y).2 (by simp)) with b | b
    ·exact b.symm
    ·have h1 := m1 x a
     have h2 := l1 y b
     have := lc_swap x.2.1 y.2.1
     omega
  subst e
  rw [asc_ext l2 m2 fun z => ?_]
  refine ⟨fun hz => ?_, fun hz => ?_⟩
  ·rcases List.mem_cons.1 ((h z).1 (List.mem_cons_of_mem _ hz)) with a | a
   ·subst a; have := l1 z hz; rw [lc_self] at this; omega
   ·exact a
  ·rcases List.mem_cons.1 ((h z).2 (List.mem_cons_of_mem _ hz)) with a | a
   ·subst a; have := m1 z hz; rw [lc_self] at this; omega
   ·exact a
/-- The one constraint that stands for a group. -/
def uniQ (g : List Qm) : Option Qm := match g.find? (fun c => c.2.2) with
 | none => g.head?
 | some t => if g.any (fun c => decide (c.1 < t.1) || (c.2.2 && c.1 != t.1)) then none else some t
abbrev SrtQ (l : List Qm) : Prop := l.Pairwise fun a b => ¬ qc b a < 0
theorem uni_none {g : List Qm} {m : List Mo} (hm : ∀ x ∈ g, x.2.1 = m) (hn : g ≠ []) (h : uniQ g = none) : ¬ Cns g := by
 unfold uniQ at h
 split at h
 ·cases g with
  | nil => exact absurd rfl hn
  | cons a r => cases h
 ·rename_i t ht
  have h1 := List.mem_of_find?_eq_some ht
  have h2 := List.find?_some ht
  try dsimp only at h2
  split at h
  ·rename_i ha
   obtain ⟨c, hc, hb⟩ := List.any_eq_true.1 ha
   intro C
   have := C t h1 c hc ((hm t h1).trans (hm c hc).symm) h2
   simp only [Bool.or_eq_true, decide_eq_true_eq, Bool.and_eq_true, bne_iff_ne, ne_eq] at hb
   rcases hb with hb | ⟨hb, hb2⟩
   ·omega
   ·exact hb2 (this.2 hb)
  ·cases h
theorem uni_some {g : List Qm} {m : List Mo} {x : Qm} (hm : ∀ x ∈ g, x.2.1 = m) (hs : SrtQ g) (h : uniQ g = some x) : Cns g /\ Bst g x := by
 unfold uniQ at h
 split at h
 ·rename_i hf
  have hne : ∀ c ∈ g, ¬ c.2.2 = true := fun c hc h2 => by
   have := List.find?_eq_none.1 hf c hc
   exact this h2
  cases g with
  | nil => cases h
  | cons a r =>
   simp only [List.head?_cons, Option.some.injEq] at h
   subst h
   refine ⟨fun u hu v hv _ h2 => absurd h2 (hne u hu), List.mem_cons_self .., fun b hb _ => ⟨?_, fun h2 => absurd h2 (hne b hb)⟩⟩
   rcases List.mem_cons.1 hb with rfl | hb2
   ·exact Int.le_refl _
   ·have h3 := (List.pairwise_cons.1 hs).1 b hb2
    rw [qc_lt] at h3
    have e : b.2.1 = a.2.1 := (hm b hb).trans (hm a (List.mem_cons_self ..)).symm
    exact Int.not_lt.1 fun h4 => h3 (.inr ⟨e, .inl h4⟩)
 ·rename_i t ht
  have h1 := List.mem_of_find?_eq_some ht
  have h2 := List.find?_some ht
  try dsimp only at h2
  split at h
  ·cases h
  ·rename_i ha
   cases h
   have hk : ∀ c ∈ g, x.1 <= c.1 /\ (c.2.2 = true -> c.1 = x.1) := fun c hc => by
    have hb : ¬ ((decide (c.1 < x.1) || (c.2.2 && c.1 != x.1)) = true) := fun hb => ha (List.any_eq_true.2 ⟨c, hc, hb⟩)
    simp only [Bool.or_eq_true, decide_eq_true_eq, Bool.and_eq_true, bne_iff_ne, ne_eq] at hb
    refine ⟨by omega, fun h3 => Classical.byContradiction fun h4 => hb (.inr ⟨h3, h4⟩)⟩
   refine ⟨fun a ha' b hb _ he => ?_, h1, fun b hb _ => ⟨(hk b hb).1, fun _ => h2⟩⟩
   have e1 := (hk a ha').2 he
   refine ⟨by have := (hk b hb).1; omega, fun h3 => by have := (hk b hb).2 h3; omega⟩
abbrev smM (t b : Qm) : Bool := decide (b.2.1 = t.2.1)
/-- The groups, one after another. -/
def grpQ : Nat -> List Qm -> Option (List Qm)
 | 0, _ => some []
 | _ + 1, [] => some []
 | n + 1, t :: r => match uniQ (t :: r.takeWhile (smM t)) with
  | none => none
  | some x => (grpQ n (r.dropWhile (smM t))).map (x :: ·)
theorem takeW_mem {p : Qm -> Bool} : ∀ {l : List Qm} {x : Qm}, x ∈ l.takeWhile p -> p x = true
 | [], x, h => absurd h (by simp)
 | a :: r, x, h => by
  rw [List.takeWhile_cons] at h
  split at h
  ·rename_i ha
   rcases List.mem_cons.1 h with rfl | h
   ·exact ha
   ·exact takeW_mem h
  ·cases h
theorem dropW_head {p : Qm -> Bool} : ∀ {l : List Qm} {x : Qm} {r : List Qm}, l.dropWhile p = x :: r -> p x = false
 | [], x, r, h => by simp at h
 | a :: s, x, r, h => by
  rw [List.dropWhile_cons] at h
  split at h
  ·exact dropW_head h
  ·rename_i ha
   cases h
   simpa using ha
theorem srt_parts {t : Qm} {r : List Qm} (hs : SrtQ (t :: r)) : (∀ x ∈ t :: r.takeWhile (smM t), x.2.1 = t.2.1) /\ SrtQ (t :: r.takeWhile (smM t)) /\ SrtQ (r.dropWhile (smM t)) /\ (∀ b ∈ r.dropWhile (smM t), lc t.2.1 b.2.1 < 0) /\ t :: r = (t :: r.takeWhile (smM t)) ++ r.dropWhile (smM t) := by
 have e : t :: r = (t :: r.takeWhile (smM t)) ++ r.dropWhile (smM t) := by rw [List.cons_append, List.takeWhile_append_dropWhile]
 have h1 : ∀ x ∈ t :: r.takeWhile (smM t), x.2.1 = t.2.1 := fun x hx => by
  rcases List.mem_cons.1 hx with rfl | hx
  ·rfl
  ·exact of_decide_eq_true (takeW_mem (p := smM t) hx)
 have hs2 := hs
 rw [e] at hs2
 obtain ⟨s1, s2, s3⟩ := List.pairwise_append.1 hs2
 refine ⟨h1, s1, s2, ?_, e⟩
 have base : ∀ b ∈ r.dropWhile (smM t), lc t.2.1 b.2.1 <= 0 := fun b hb => by
  have h := s3 t (List.mem_cons_self ..) b hb
  rw [qc_lt] at h
  have := lc_swap t.2.1 b.2.1
  omega
 cases hd : r.dropWhile (smM t) with
 | nil => exact fun b hb => absurd hb (by simp)
 | cons y s =>
  rw [hd] at base s2
  have hy : ¬ y.2.1 = t.2.1 := of_decide_eq_false (dropW_head (p := smM t) hd)
  have hy2 : lc t.2.1 y.2.1 < 0 := by
   have := base y (List.mem_cons_self ..)
   rcases Int.lt_or_eq_of_le this with h | h
   ·exact h
   ·exact absurd ((lc_zero _ _).1 h).symm hy
  intro b hb
  rcases List.mem_cons.1 hb with rfl | hb
  ·exact hy2
  ·have h := (List.pairwise_cons.1 s2).1 b hb
   rw [qc_lt] at h
   have h4 : ¬ lc b.2.1 y.2.1 < 0 := fun x => h (.inl x)
   have h5 := lc_swap b.2.1 y.2.1
   rcases Int.lt_or_eq_of_le (show lc y.2.1 b.2.1 <= 0 by omega) with h6 | h6
   ·exact lc_trans _ _ _ hy2 h6
   ·rw [<- (lc_zero _ _).1 h6]; exact hy2
theorem grp_ok : ∀ (n : Nat) (T : List Qm), T.length <= n -> SrtQ T -> (grpQ n T = none -> ¬ Cns T) /\ (∀ out, grpQ n T = some out -> Cns T /\ AscM out /\ ∀ x, x ∈ out ↔ Bst T x)
 | 0, T, hn, _ => by
  obtain rfl : T = [] := List.length_eq_zero_iff.1 (by omega)
  refine ⟨fun h => (by cases h), fun out h => ?_⟩
  cases h
  exact ⟨fun a ha => absurd ha (by simp), List.Pairwise.nil, fun x => ⟨fun h => absurd h (by simp), fun h => absurd h.1 (by simp)⟩⟩
 | n + 1, [], _, _ => by
  refine ⟨fun h => (by cases h), fun out h => ?_⟩
  cases h
  exact ⟨fun a ha => absurd ha (by simp), List.Pairwise.nil, fun x => ⟨fun h => absurd h (by simp), fun h => absurd h.1 (by simp)⟩⟩
 | n + 1, t :: r, hn, hs => by
  obtain ⟨hG, sG, sR, lR, e⟩ := srt_parts hs
  have hlen : (r.dropWhile (smM t)).length <= n := by
   have h := congrArg List.length e
   simp only [List.length_cons, List.length_append] at h hn
   omega
  obtain ⟨ih0, ih1⟩ := grp_ok n _ hlen sR
  unfold grpQ
  generalize hGd : t :: r.takeWhile (smM t) = G at *
  generalize hRd : r.dropWhile (smM t) = R at *
  rw [e]
  have hGne : G ≠ [] := by rw [<- hGd]; simp
  have far : ∀ x ∈ G, ∀ b ∈ R, lc x.2.1 b.2.1 < 0 := fun x hx b hb => by rw [hG x hx]; exact lR b hb
  have farne : ∀ x ∈ G, ∀ b ∈ R, x.2.1 ≠ b.2.1 := fun x hx b hb h => by
   have := far x hx b hb
   rw [h, lc_self] at this
   omega
  have cG : Cns (G ++ R) -> Cns G := fun C a ha b hb => C a (List.mem_append_left _ ha) b (List.mem_append_left _ hb)
  have cR : Cns (G ++ R) -> Cns R := fun C a ha b hb => C a (List.mem_append_right _ ha) b (List.mem_append_right _ hb)
  have cB : Cns G -> Cns R -> Cns (G ++ R) := fun C1 C2 a ha b hb hm he => by
   rcases List.mem_append.1 ha with ha | ha <;> rcases List.mem_append.1 hb with hb | hb
   ·exact C1 a ha b hb hm he
   ·exact absurd hm (farne a ha b hb)
   ·exact absurd hm.symm (farne b hb a ha)
   ·exact C2 a ha b hb hm he
  have bB : ∀ x, Bst (G ++ R) x ↔ Bst G x \/ Bst R x := fun x => by
   refine ⟨fun h => ?_, fun h => ?_⟩
   ·rcases List.mem_append.1 h.1 with h1 | h1
    ·exact .inl ⟨h1, fun b hb => h.2 b (List.mem_append_left _ hb)⟩
    ·exact .inr ⟨h1, fun b hb => h.2 b (List.mem_append_right _ hb)⟩
   ·rcases h with h | h
    ·refine ⟨List.mem_append_left _ h.1, fun b hb hm => ?_⟩
     rcases List.mem_append.1 hb with hb | hb
     ·exact h.2 b hb hm
     ·exact absurd hm.symm (farne x h.1 b hb)
    ·refine ⟨List.mem_append_right _ h.1, fun b hb hm => ?_⟩
     rcases List.mem_append.1 hb with hb | hb
     ·exact absurd hm (farne b hb x h.1)
     ·exact h.2 b hb hm
  cases hu : uniQ G with
  | none =>
   refine ⟨fun _ C => uni_none hG hGne hu (cG C), fun out h => ?_⟩
   cases h
  | some x0 =>
   obtain ⟨c1, b1⟩ := uni_some hG sG hu
   cases hg : grpQ n R with
   | none =>
    refine ⟨fun _ C => ih0 hg (cR C), fun out h => ?_⟩
    cases h
   | some o =>
    obtain ⟨c2, a2, m2⟩ := ih1 o hg
    refine ⟨fun h => (by cases h), fun out h => ?_⟩
    cases h
    refine ⟨cB c1 c2, List.pairwise_cons.2 ⟨fun b hb => far x0 b1.1 b ((m2 b).1 hb).1, a2⟩, fun x => ?_⟩
    rw [bB, List.mem_cons, m2]
    refine ⟨fun h => h.elim (fun h => .inl (by rw [h]; exact b1)) .inr, fun h => h.elim (fun h => .inl ?_) .inr⟩
    exact Bst.uniq h b1 ((hG x h.1).trans (hG x0 b1.1).symm)
/-- The stronger of two constraints with the same monomials; whether they agree. -/
def strQ (a b : Qm) : Qm × Bool := if a.2.2 = true then (a, if b.2.2 = true then a.1 == b.1 else decide (a.1 <= b.1)) else if b.2.2 = true then (b, decide (b.1 <= a.1)) else if b.1 < a.1 then (b, true) else (a, true)
/-- A constraint is added to those collected. -/
def addQ : List Qm -> Qm -> List Qm × Bool
 | [], t => ([t], true)
 | a :: r, t => if a.2.1 = t.2.1 then ((strQ a t).1 :: r, (strQ a t).2) else (a :: (addQ r t).1, (addQ r t).2)
abbrev DisM (l : List Qm) : Prop := l.Pairwise fun a b => a.2.1 ≠ b.2.1
/-- What holds of those collected out of P. -/
structure ColQ (P out : List Qm) (s : Bool) : Prop where
 dis : DisM out
 sub : ∀ x ∈ out, x ∈ P
 cov : ∀ b ∈ P, ∃ x ∈ out, x.2.1 = b.2.1
 yes : s = true -> Cns P /\ ∀ x ∈ out, Bst P x
 no : s = false -> ¬ Cns P
theorem ColQ.nil : ColQ [] [] true := ⟨List.Pairwise.nil, fun x h => absurd h (by simp), fun b h => absurd h (by simp), fun _ => ⟨fun a h => absurd h (by simp), fun x h => absurd h (by simp)⟩, fun h => (by cases h)⟩
theorem str_mono {a b : Qm} (h : a.2.1 = b.2.1) : (strQ a b).1.2.1 = b.2.1 := by
 unfold strQ
 split
 ·exact h
 ·split
  ·rfl
  ·split
   ·rfl
   ·exact h
theorem str_mem (a b : Qm) : (strQ a b).1 = a \/ (strQ a b).1 = b := by
 unfold strQ
 split
 ·exact .inl rfl
 ·split
  ·exact .inr rfl
  ·split
   ·exact .inr rfl
   ·exact .inl rfl
/-- Either the monomials are new, or one collected has them. -/
theorem add_cases : ∀ (out : List Qm) (t : Qm), DisM out -> ((∀ x ∈ out, x.2.1 ≠ t.2.1) /\ addQ out t = (out ++ [t], true)) \/ (∃ U a V, out = U ++ a :: V /\ a.2.1 = t.2.1 /\ (∀ x ∈ U, x.2.1 ≠ t.2.1) /\ (∀ x ∈ V, x.2.1 ≠ t.2.1) /\ addQ out t = (U ++ (strQ a t).1 :: V, (strQ a t).2))
 | [], t, _ => .inl ⟨fun x h => absurd h (by simp), rfl⟩
 | a :: r, t, hd => by
  obtain ⟨d1, d2⟩ := List.pairwise_cons.1 hd
  unfold addQ
  by_cases h : a.2.1 = t.2.1
  ·rw [if_pos h]
   exact .inr ⟨[], a, r, rfl, h, fun x hx => absurd hx (by simp), fun x hx hm => d1 x hx (h.trans hm.symm), rfl⟩
  ·rw [if_neg h]
   rcases add_cases r t d2 with ⟨h1, h2⟩ | ⟨U, b, V, rfl, h2, h3, h4, h5⟩
   ·rw [h2]
    refine .inl ⟨fun x hx => ?_, rfl⟩
    rcases List.mem_cons.1 hx with rfl | hx
    ·exact h
    ·exact h1 x hx
   ·rw [h5]
    refine .inr ⟨a :: U, b, V, rfl, h2, fun x hx => ?_, h4, rfl⟩
    rcases List.mem_cons.1 hx with rfl | hx
    ·exact h
    ·exact h3 x hx

theorem cns_snoc {P : List Qm} {t : Qm} : Cns (P ++ [t]) ↔ Cns P /\ (∀ u ∈ P, u.2.1 = t.2.1 -> (u.2.2 = true -> u.1 <= t.1 /\ (t.2.2 = true -> t.1 = u.1)) /\ (t.2.2 = true -> t.1 <= u.1 /\ (u.2.2 = true -> u.1 = t.1))) := by
 refine ⟨fun C => ⟨fun a ha b hb => C a (List.mem_append_left _ ha) b (List.mem_append_left _ hb), fun u hu hm => ⟨fun he => C u (List.mem_append_left _ hu) t (by simp) hm he, fun he => C t (by simp) u (List.mem_append_left _ hu) hm.symm he⟩⟩, fun ⟨C, H⟩ a ha b hb hm he => ?_⟩
 rcases List.mem_append.1 ha with ha1 | ha1 <;> rcases List.mem_append.1 hb with hb1 | hb1
 ·exact C a ha1 b hb1 hm he
 ·obtain rfl := List.mem_singleton.1 hb1
  exact (H a ha1 hm).1 he
 ·obtain rfl := List.mem_singleton.1 ha1
  exact (H b hb1 hm.symm).2 he
 ·obtain rfl := List.mem_singleton.1 ha1
  obtain rfl := List.mem_singleton.1 hb1
  exact ⟨Int.le_refl _, fun _ => rfl⟩
theorem bst_snoc {P : List Qm} {t x : Qm} (h : Bst P x) (hm : t.2.1 = x.2.1 -> x.1 <= t.1 /\ (t.2.2 = true -> x.2.2 = true)) : Bst (P ++ [t]) x := by
 refine ⟨List.mem_append_left _ h.1, fun b hb hmm => ?_⟩
 rcases List.mem_append.1 hb with hb | hb
 ·exact h.2 b hb hmm
 ·obtain rfl := List.mem_singleton.1 hb
  exact hm hmm
theorem ColQ.step {P out : List Qm} {s : Bool} (C : ColQ P out s) (t : Qm) : ColQ (P ++ [t]) (addQ out t).1 (s && (addQ out t).2) := by
 rcases add_cases out t C.dis with ⟨h1, h2⟩ | ⟨U, a, V, rfl, h2, h3, h4, h5⟩
 ·rw [h2]
  have nw : ∀ u ∈ P, u.2.1 ≠ t.2.1 := fun u hu hm => by
   obtain ⟨x, hx, hxm⟩ := C.cov u hu
   exact h1 x hx (hxm.trans hm)
  refine ⟨List.pairwise_append.2 ⟨C.dis, List.pairwise_singleton _ _, fun x hx b hb => by rw [List.mem_singleton.1 hb]; exact h1 x hx⟩, fun x hx => ?_, fun b hb => ?_, fun hs => ?_, fun hs hc => ?_⟩
  ·rcases List.mem_append.1 hx with hx | hx
   ·exact List.mem_append_left _ (C.sub x hx)
   ·exact List.mem_append_right _ hx
  ·rcases List.mem_append.1 hb with hb | hb
   ·obtain ⟨x, hx, hxm⟩ := C.cov b hb
    exact ⟨x, List.mem_append_left _ hx, hxm⟩
   ·exact ⟨t, by simp, by rw [List.mem_singleton.1 hb]⟩
  ·rw [Bool.and_true] at hs
   obtain ⟨c1, b1⟩ := C.yes hs
   refine ⟨cns_snoc.2 ⟨c1, fun u hu hm => absurd hm (nw u hu)⟩, fun x hx => ?_⟩
   rcases List.mem_append.1 hx with hx | hx
   ·exact bst_snoc (b1 x hx) (fun hm => absurd hm.symm (h1 x hx))
   ·obtain rfl := List.mem_singleton.1 hx
    refine ⟨by simp, fun b hb hm => ?_⟩
    rcases List.mem_append.1 hb with hb | hb
    ·exact absurd hm (nw b hb)
    ·rw [List.mem_singleton.1 hb]; exact ⟨Int.le_refl _, id⟩
  ·rw [Bool.and_true] at hs
   exact C.no hs (cns_snoc.1 hc).1
 ·rw [h5]
  have haP : a ∈ P := C.sub a (by simp)
  have hsm := str_mono h2
  have hmem : (strQ a t).1 ∈ P ++ [t] := by
   rcases str_mem a t with h | h
   ·rw [h]; exact List.mem_append_left _ haP
   ·rw [h]; simp
  obtain ⟨dU, dV, dUV⟩ := List.pairwise_append.1 C.dis
  obtain ⟨dV1, dV2⟩ := List.pairwise_cons.1 dV
  refine ⟨List.pairwise_append.2 ⟨dU, List.pairwise_cons.2 ⟨fun x hx => by rw [hsm]; exact fun h => h4 x hx h.symm, dV2⟩, fun x hx b hb => ?_⟩, fun x hx => ?_, fun b hb => ?_, fun hs => ?_, fun hs hc => ?_⟩
  ·rcases List.mem_cons.1 hb with rfl | hb
   ·rw [hsm]; exact h3 x hx
   ·exact dUV x hx b (List.mem_cons_of_mem _ hb)
  ·rcases List.mem_append.1 hx with hx | hx
   ·exact List.mem_append_left _ (C.sub x (by simp [hx]))
   ·rcases List.mem_cons.1 hx with rfl | hx
    ·exact hmem
    ·exact List.mem_append_left _ (C.sub x (by simp [hx]))
  ·rcases List.mem_append.1 hb with hb | hb
   ·obtain ⟨x, hx, hxm⟩ := C.cov b hb
    rcases List.mem_append.1 hx with hx | hx
    ·exact ⟨x, List.mem_append_left _ hx, hxm⟩
    ·rcases List.mem_cons.1 hx with rfl | hx
     ·exact ⟨_, List.mem_append_right _ (List.mem_cons_self ..), hsm.trans (h2.symm.trans hxm)⟩
     ·exact ⟨x, List.mem_append_right _ (List.mem_cons_of_mem _ hx), hxm⟩
   ·exact ⟨_, List.mem_append_right _ (List.mem_cons_self ..), by rw [List.mem_singleton.1 hb]; exact hsm⟩
  ·rw [Bool.and_eq_true] at hs
   obtain ⟨c1, b1⟩ := C.yes hs.1
   have ba := b1 a (by simp)
   have hok := hs.2
   have key : (∀ u ∈ P, u.2.1 = t.2.1 -> (u.2.2 = true -> u.1 <= t.1 /\ (t.2.2 = true -> t.1 = u.1)) /\ (t.2.2 = true -> t.1 <= u.1 /\ (u.2.2 = true -> u.1 = t.1))) /\ (strQ a t).1.1 <= t.1 /\ (strQ a t).1.1 <= a.1 /\ (t.2.2 = true -> (strQ a t).1.2.2 = true) /\ (a.2.2 = true -> (strQ a t).1.2.2 = true) := by
    unfold strQ at hok ⊢
    by_cases ea : a.2.2 = true
    ·rw [if_pos ea] at hok ⊢
     dsimp only at hok ⊢
     have hat : a.1 <= t.1 /\ (t.2.2 = true -> a.1 = t.1) := by
      by_cases et : t.2.2 = true
      ·rw [if_pos et] at hok
       have := eq_of_beq hok
       exact ⟨by omega, fun _ => this⟩
      ·rw [if_neg et] at hok
       exact ⟨of_decide_eq_true hok, fun h => absurd h et⟩
     refine ⟨fun u hu hm => ?_, hat.1, Int.le_refl _, fun _ => ea, fun _ => ea⟩
     have hau := c1 a haP u hu (h2.trans hm.symm) ea
     refine ⟨fun eu => ?_, fun et => ?_⟩
     ·have := hau.2 eu
      exact ⟨by omega, fun et => by have := hat.2 et; omega⟩
     ·have h9 := hat.2 et
      exact ⟨by omega, fun eu => by have := hau.2 eu; omega⟩
    ·rw [if_neg ea] at hok ⊢
     have nu : ∀ u ∈ P, u.2.1 = t.2.1 -> ¬ u.2.2 = true := fun u hu hm eu => ea ((ba.2 u hu (hm.trans h2.symm)).2 eu)
     by_cases et : t.2.2 = true
     ·rw [if_pos et] at hok ⊢
      dsimp only at hok ⊢
      have h9 := of_decide_eq_true hok
      refine ⟨fun u hu hm => ⟨fun eu => absurd eu (nu u hu hm), fun _ => ⟨?_, fun eu => absurd eu (nu u hu hm)⟩⟩, Int.le_refl _, h9, fun _ => et, fun h => absurd h ea⟩
      have := (ba.2 u hu (hm.trans h2.symm)).1
      omega
     ·rw [if_neg et]
      refine ⟨fun u hu hm => ⟨fun eu => absurd eu (nu u hu hm), fun h => absurd h et⟩, ?_⟩
      by_cases hlt : t.1 < a.1
      ·rw [if_pos hlt]
       exact ⟨Int.le_refl _, by dsimp only; omega, fun h => absurd h et, fun h => absurd h ea⟩
      ·rw [if_neg hlt]
       exact ⟨by dsimp only; omega, Int.le_refl _, fun h => absurd h et, fun h => absurd h ea⟩
   refine ⟨cns_snoc.2 ⟨c1, key.1⟩, fun x hx => ?_⟩
   rcases List.mem_append.1 hx with hx | hx
   ·exact bst_snoc (b1 x (by simp [hx])) (fun hm => absurd hm.symm (h3 x hx))
   ·rcases List.mem_cons.1 hx with rfl | hx
    ·refine ⟨hmem, fun b hb hm => ?_⟩
     rcases List.mem_append.1 hb with hb | hb
     ·have := ba.2 b hb ((hm.trans hsm).trans h2.symm)
      exact ⟨by omega, fun eb => key.2.2.2.2 (this.2 eb)⟩
     ·rw [List.mem_singleton.1 hb]; exact ⟨key.2.1, key.2.2.2.1⟩
    ·exact bst_snoc (b1 x (by simp [hx])) (fun hm => absurd hm.symm (h4 x hx))
  ·rw [Bool.and_eq_false_iff] at hs
   rcases hs with hs | hs
   ·exact C.no hs (cns_snoc.1 hc).1
   ·have H := (cns_snoc.1 hc).2 a haP h2
    unfold strQ at hs
    by_cases ea : a.2.2 = true
    ·rw [if_pos ea] at hs
     dsimp only at hs
     by_cases et : t.2.2 = true
     ·rw [if_pos et] at hs
      have := (H.1 ea).2 et
      rw [this, beq_self_eq_true] at hs
      cases hs
     ·rw [if_neg et] at hs
      exact of_decide_eq_false hs (H.1 ea).1
    ·rw [if_neg ea] at hs
     by_cases et : t.2.2 = true
     ·rw [if_pos et] at hs
      exact of_decide_eq_false hs (H.2 et).1
     ·rw [if_neg et] at hs
      split at hs <;> cases hs
/-- The answer of Normalize. -/
structure NzR (l : List Qm) (a : List Qm × Bool × Int) : Prop where
 lim : 256 < l.length -> a = ([], false, 2)
 err : l.length <= 256 -> (firF l 0).2 ≠ 0 -> a = ([], false, (firF l 0).2)
 nev : l.length <= 256 -> (firF l 0).2 = 0 -> l.all posF = false -> a = ([], false, 0)
 con : l.length <= 256 -> (firF l 0).2 = 0 -> l.all posF = true -> ¬ Cns (l.filterMap keepF) -> a = ([], false, 0)
 yes : l.length <= 256 -> (firF l 0).2 = 0 -> l.all posF = true -> Cns (l.filterMap keepF) -> a.2 = (true, 0) /\ AscM a.1 /\ ∀ x, x ∈ a.1 ↔ Bst (l.filterMap keepF) x
theorem NzR.uniq {l : List Qm} {a b : List Qm × Bool × Int} (h : NzR l a) (h2 : NzR l b) : a = b := by
 rcases Nat.lt_or_ge 256 l.length with c | c
 ·rw [h.lim c, h2.lim c]
 ·by_cases e : (firF l 0).2 = 0
  ·cases p : l.all posF with
   | false => rw [h.nev c e p, h2.nev c e p]
   | true =>
    by_cases k : Cns (l.filterMap keepF)
    ·obtain ⟨a1, a2, a3⟩ := h.yes c e p k
     obtain ⟨b1, b2, b3⟩ := h2.yes c e p k
     exact Prod.ext (asc_ext a2 b2 fun x => (a3 x).trans (b3 x).symm) (a1.trans b1.symm)
    ·rw [h.con c e p k, h2.con c e p k]
  ·rw [h.err c e, h2.err c e]
end Go.Proofs.YtbicmlkjonaccaaDoor.Ln


namespace Go.Proofs.YtbicmlkjonaccaaDoor.Ln
open Go.ChangeShapes Go.WideShapes Go.ChangeAt Go.RowKit
open Go.Proofs.YtbicmlkjonaccaaDoor.Nm
set_option linter.unusedVariables false
set_option linter.unusedSimpArgs false
set_option maxRecDepth 8000

abbrev isE (c : E5) : Bool := c.2.2.2.2
theorem ixq_spec : ∀ (L : List E5) (i : Nat), (L.find? isE = none /\ ixq L i = -1) \/ (∃ k, k < L.length /\ ixq L i = ((i + k : Nat) : Int) /\ L.find? isE = some (L.getD k e50) /\ (L.getD k e50).2.2.2.2 = true)
 | [], i => .inl ⟨rfl, rfl⟩
 | e :: r, i => by
  unfold ixq
  by_cases h : e.2.2.2.2 = true
  ·rw [if_pos h]
   exact .inr ⟨0, by simp, by simp, by rw [List.find?_cons_of_pos (p := isE) h]; rfl, h⟩
  ·rw [if_neg h, List.find?_cons_of_neg (p := isE) h]
   rcases ixq_spec r (i + 1) with ⟨h1, h2⟩ | ⟨k, h1, h2, h3, h4⟩
   ·exact .inl ⟨h1, h2⟩
   ·exact .inr ⟨k + 1, by simp; omega, by rw [h2]; congr 1; omega, by rw [h3]; rfl, h4⟩
abbrev badE (a c : E5) : Bool := decide (c.1 < a.1) || (c.2.2.2.2 && c.1 != a.1)
/-- What unify answers. -/
def uniE (L : List E5) : E5 × Bool := match L.find? isE with
 | none => (L.getD 0 e50, true)
 | some a => if L.any (badE a) then (e50, false) else (a, true)
theorem any_congr {α β : Type} {f : α -> β} {p : α -> Bool} {q : β -> Bool} : ∀ {l : List α}, (∀ x ∈ l, p x = q (f x)) -> l.any p = (l.map f).any q
 | [], _ => rfl
 | a :: r, h => by
  rw [List.map_cons, List.any_cons, List.any_cons, h a (List.mem_cons_self ..), any_congr fun x hx => h x (List.mem_cons_of_mem _ hx)]
theorem find_congr {α β : Type} {f : α -> β} {p : α -> Bool} {q : β -> Bool} : ∀ {l : List α}, (∀ x ∈ l, p x = q (f x)) -> (l.find? p).map f = (l.map f).find? q
 | [], _ => rfl
 | a :: r, h => by
  have ih := find_congr (l := r) fun x hx => h x (List.mem_cons_of_mem _ hx)
  have ha := h a (List.mem_cons_self ..)
  rw [List.map_cons]
  cases hp : p a with
  | true => rw [List.find?_cons_of_pos hp, List.find?_cons_of_pos (by rw [<- ha]; exact hp)]; rfl
  | false => rw [List.find?_cons_of_neg (by rw [hp]; simp), List.find?_cons_of_neg (by rw [<- ha, hp]; simp)]; exact ih
/-- What unify answers stands for the strongest constraint. -/
theorem uniE_Q {w : World} {L : List E5} {ts : List Qm} (h : StdL w L ts) (hn : 0 < L.length) : (uniQ ts = none /\ uniE L = (e50, false)) \/ (∃ t e, uniQ ts = some t /\ uniE L = (e, true) /\ Std w e t) := by
 have hm := h.map
 have st : ∀ x ∈ L, Std w x (stQ w x) := fun x hx => (h.mem hx).1
 have e1 : ∀ x ∈ L, isE x = (stQ w x).2.2 := fun x hx => (st x hx).2.2.1
 have f1 : (L.find? isE).map (stQ w) = ts.find? (fun c => c.2.2) := by rw [<- hm]; exact find_congr e1
 unfold uniQ uniE
 cases hf : L.find? isE with
 | none =>
  rw [hf] at f1
  rw [<- f1]
  right
  have h0 : 0 < ts.length := by rw [<- h.1]; exact hn
  refine ⟨ts.getD 0 q0m, L.getD 0 e50, ?_, rfl, h.2 0 h0⟩
  cases ts with
  | nil => simp at h0
  | cons a r => rfl
 | some a =>
  rw [hf] at f1
  rw [<- f1]
  have ha : a ∈ L := List.mem_of_find?_eq_some hf
  have sa := st a ha
  have e2 : L.any (badE a) = ts.any (fun c => decide (c.1 < (stQ w a).1) || (c.2.2 && c.1 != (stQ w a).1)) := by
   rw [<- hm]
   refine any_congr fun x hx => ?_
   have sx := st x hx
   unfold badE
   rw [sx.1, sx.2.2.1, sa.1]
  dsimp only [Option.map]
  rw [<- e2]
  cases L.any (badE a) with
  | true => exact .inl ⟨rfl, rfl⟩
  | false => exact .inr ⟨stQ w a, a, rfl, rfl, sa⟩

set_option maxRecDepth 100000 in
set_option maxHeartbeats 8000000 in
theorem uniG (b o cap : Nat) (L : List E5) (w : World) (h0 : 0 < L.length) (hn : L.length <= 100000) (RA : Hid (SlE w b o L)) :
  Calls Tryd.prog 75 #[.slice (some ⟨b, o, none⟩) L.length cap] w fun e w' => e = .returned (.tuple #[agE (uniE L).1, .bool (uniE L).2]) /\ Below w.heap.size w w' := by
 obtain ⟨RES, hRES⟩ : ∃ RES, uniE L = RES := ⟨_, rfl⟩
 rw [hRES]
 have IX0 := fun w RA => ixN b o cap L w hn RA
 obtain ⟨n, hnn⟩ : ∃ n, L.length = n := ⟨_, rfl⟩
 have HN := Lib.hid hnn
 rw [hnn] at hn h0 IX0 ⊢
 have BA : ∀ o, Below w.heap.size w (w.alloc o) := fun o => (Below.refl _ _).alloc (Nat.le_refl _) o
 unfold uniE at hRES
 rcases ixq_spec L 0 with ⟨hf, hi⟩ | ⟨kk, hk, hi, hf, he⟩
 ·rw [hf] at hRES
  have HR := Lib.hid hRES
  rw [hi] at IX0
  have IX := Lib.hid IX0
  clear hRES hf hi IX0 hnn
  obtain ⟨c0, c1, c2⟩ := RA.out 0 (by rw [HN.out]; exact h0)
  obtain ⟨x, hx⟩ : ∃ x, L.getD 0 e50 = x := ⟨_, rfl⟩
  rw [hx] at c0 c1 c2
  have HX := Lib.hid hx
  clear hx
  obtain ⟨k, p, m, d, eq⟩ := x
  simp only [Nat.zero_mul, Nat.add_zero] at c0 c1 c2
  have lg := World.block_lt_of_cell? _ _ c0
  dsimp only at lg c0 c1 c2
  have g1 : (0 : Int) < n := by omega
  go_enter Tryd.func75, Tryd.ntmps75
  go_wp2_with (go_at_call 108; (with_reducible refine (IX.out _ (Lib.hid (SlE.keep (BA _) RA.out))).mono ?_); rintro e w1 ⟨rfl, hb⟩; have BB := Lib.hid ((BA (Obj.cells #[Value.int .i64 0, Value.slice none 0 0, Value.bool false] 36)).trans (hb.mono (by simp))); have y0 : w1.cell? ⟨w.heap.size, 0, none⟩ = some (.int .i64 0) := Rg.keep hb (by simp) (by go_cell); have y1 : w1.cell? ⟨w.heap.size, 1, none⟩ = some (.slice none 0 0) := Rg.keep hb (by simp) (by go_cell); have y2 : w1.cell? ⟨w.heap.size, 2, none⟩ = some (.bool false) := Rg.keep hb (by simp) (by go_cell); have x0 : w1.frozen? ⟨w.heap.size, 0, none⟩ = false := Rg.keepF hb (by simp) (by go_cell); have x1 : w1.frozen? ⟨w.heap.size, 1, none⟩ = false := Rg.keepF hb (by simp) (by go_cell); have x2 : w1.frozen? ⟨w.heap.size, 2, none⟩ = false := Rg.keepF hb (by simp) (by go_cell); have e0 := Rg.keep BB.out lg c0; have e1 := Rg.keep BB.out lg c1; have e2 := Rg.keep BB.out lg c2; have ng : ¬ w.heap.size = b := (by omega); clear hb c0 c1 c2)
  have lw : w.heap.size < w1.heap.size := World.block_lt_of_cell? _ _ y0
  have KB := BB
  have SB := ((KB.out.setCell (p := ⟨w.heap.size, 0, none⟩) (Nat.le_refl _) (.int .i64 k)).setCell (p := ⟨w.heap.size, 1, none⟩) (Nat.le_refl _) (.slice p m d)).setCell (p := ⟨w.heap.size, 2, none⟩) (Nat.le_refl _) (.bool eq)
  refine bodyPost_ret (v := .tuple #[.agg #[.int .i64 k, .slice p m d, .bool eq], .bool true]) (by simp [results, Tryd.results75, go_sem, y0, y1, y2, x0, x1, x2, lw]) rfl ⟨by rw [<- HR.out, HX.out]; rfl, SB⟩
 ·rw [hf] at hRES
  rw [hi, Nat.zero_add] at IX0
  have IX := Lib.hid IX0
  dsimp only at hRES
  obtain ⟨a0, a1, a2⟩ := RA.out kk hk
  have hk2 : kk < n := by rw [<- hnn]; exact hk
  obtain ⟨x, hx⟩ : ∃ x, L.getD kk e50 = x := ⟨_, rfl⟩
  rw [hx] at a0 a1 a2 hRES he
  obtain ⟨AN, hAN⟩ : ∃ AN, L.any (badE x) = AN := ⟨_, rfl⟩
  rw [hAN] at hRES
  have HR := Lib.hid hRES
  have HA := Lib.hid hAN
  clear hRES hf hi IX0 hnn hx hAN hk
  obtain ⟨ka, pa, ma, da, ea⟩ := x
  dsimp only at a0 a1 a2 he
  subst he
  have lg := World.block_lt_of_cell? _ _ a0
  dsimp only at lg
  have g1 : ¬ (kk : Int) < 0 := by omega
  have g2 : (kk : Int) < n := by omega
  have g3 : (0 : Int) <= kk := by omega
  go_enter Tryd.func75, Tryd.ntmps75
  go_wp2_with (go_at_call 108; (with_reducible refine (IX.out _ (Lib.hid (SlE.keep (BA _) RA.out))).mono ?_); rintro e w1 ⟨rfl, hb⟩; have BB := Lib.hid ((BA (Obj.cells #[Value.int .i64 0, Value.slice none 0 0, Value.bool false] 36)).trans (hb.mono (by simp))); have y0 : w1.cell? ⟨w.heap.size, 0, none⟩ = some (.int .i64 0) := Rg.keep hb (by simp) (by go_cell); have y1 : w1.cell? ⟨w.heap.size, 1, none⟩ = some (.slice none 0 0) := Rg.keep hb (by simp) (by go_cell); have y2 : w1.cell? ⟨w.heap.size, 2, none⟩ = some (.bool false) := Rg.keep hb (by simp) (by go_cell); have x0 : w1.frozen? ⟨w.heap.size, 0, none⟩ = false := Rg.keepF hb (by simp) (by go_cell); have x1 : w1.frozen? ⟨w.heap.size, 1, none⟩ = false := Rg.keepF hb (by simp) (by go_cell); have x2 : w1.frozen? ⟨w.heap.size, 2, none⟩ = false := Rg.keepF hb (by simp) (by go_cell); have e0 := Rg.keep BB.out lg a0; have e1 := Rg.keep BB.out lg a1; have e2 := Rg.keep BB.out lg a2; have ng : ¬ w.heap.size = b := (by omega); clear hb a0 a1 a2)
  have lw : w.heap.size < w1.heap.size := World.block_lt_of_cell? _ _ y0
  have Y := Lib.hid (And.intro y0 (And.intro y1 (And.intro y2 (And.intro x0 (And.intro x1 x2)))))
  have E := Lib.hid (And.intro e0 (And.intro e1 e2))
  clear y0 y1 y2 x0 x1 x2 e0 e1 e2
  go_loopw [16] (fun iv wr => ∃ (j : Nat), iv = .int .i64 (j : Int) /\ j <= n /\ Hid (Below w1.heap.size w1 wr) /\ Hid ((L.drop j).any (badE (ka, pa, ma, da, true)) = AN)) (fun iv _ => n - (intOf iv).toNat)
  case atStart => exact ⟨0, rfl, Nat.zero_le _, Lib.hid (Below.refl _ _), HA⟩
  case round =>
   obtain ⟨j, rfl, hj, hB, hE⟩ := hrel
   have jj : (0 : Int) <= j := by omega
   have ls : w1.heap.size <= wr.heap.size := hB.out.size
   have lg1 : b < w1.heap.size := World.block_lt_of_cell? _ _ E.out.1
   have KB : Hid (Below w.heap.size w wr) := Lib.hid (BB.out.trans (hB.out.mono BB.out.size))
   have e0 := Rg.keep hB.out lg1 E.out.1
   have e1 := Rg.keep hB.out lg1 E.out.2.1
   have e2 := Rg.keep hB.out lg1 E.out.2.2
   have y0 := Rg.keep hB.out lw Y.out.1
   have y1 := Rg.keep hB.out lw Y.out.2.1
   have y2 := Rg.keep hB.out lw Y.out.2.2.1
   have x0 := Rg.keepF hB.out lw Y.out.2.2.2.1
   have x1 := Rg.keepF hB.out lw Y.out.2.2.2.2.1
   have x2 := Rg.keepF hB.out lw Y.out.2.2.2.2.2
   have lgr : b < wr.heap.size := by omega
   have lwr : w.heap.size < wr.heap.size := by omega
   by_cases hlt : j < n
   ·have hjl : j < L.length := by rw [HN.out]; exact hlt
    have j2 : (j : Int) < n := by omega
    obtain ⟨c0, c1, c2⟩ := (SlE.keep KB.out RA.out) j hjl
    have hdr : L.drop j = L.getD j e50 :: L.drop (j + 1) := by
     rw [List.drop_eq_getElem_cons hjl]; simp [List.getD, List.getElem?_eq_getElem hjl]
    have h := hE.out
    rw [hdr, List.any_cons] at h
    obtain ⟨x, hx⟩ : ∃ x, L.getD j e50 = x := ⟨_, rfl⟩
    rw [hx] at c0 c1 c2 h
    obtain ⟨k, p, m, d, eq⟩ := x
    dsimp only at c0 c1 c2
    have BO := (Below.refl wr.heap.size wr).alloc (Nat.le_refl _) (Obj.cells #[Value.int .i64 k, Value.slice p m d, Value.bool eq] 36)
    have f0 : (wr.alloc (Obj.cells #[Value.int .i64 k, Value.slice p m d, Value.bool eq] 36)).cell? ⟨wr.heap.size, 0, none⟩ = some (.int .i64 k) := by go_cell
    have f2 : (wr.alloc (Obj.cells #[Value.int .i64 k, Value.slice p m d, Value.bool eq] 36)).cell? ⟨wr.heap.size, 2, none⟩ = some (.bool eq) := by go_cell
    have d0 : (wr.alloc (Obj.cells #[Value.int .i64 k, Value.slice p m d, Value.bool eq] 36)).cell? ⟨b, o + kk * 3, none⟩ = some (.int .i64 ka) := Rg.keep BO lgr e0
    have KO := Lib.hid (KB.out.alloc KB.out.size (Obj.cells #[Value.int .i64 k, Value.slice p m d, Value.bool eq] 36))
    have HBO := Lib.hid (hB.out.alloc ls (Obj.cells #[Value.int .i64 k, Value.slice p m d, Value.bool eq] 36))
    obtain ⟨q1, hq1⟩ : ∃ q1, decide (k < ka) = q1 := ⟨_, rfl⟩
    obtain ⟨q3, hq3⟩ : ∃ q3, (k != ka) = q3 := ⟨_, rfl⟩
    have hbad : badE (ka, pa, ma, da, true) (k, p, m, d, eq) = (q1 || (eq && q3)) := by unfold badE; dsimp only; rw [hq1, hq3]
    rw [hbad] at h
    clear hx hdr hE hjl hbad BO
    cases hP : (q1 || (eq && q3)) with
    | true =>
     rw [hP, Bool.true_or] at h
     have HAN : Hid (AN = true) := Lib.hid h.symm
     clear h
     have z0 := Rg.keep ((Below.refl wr.heap.size wr).alloc (Nat.le_refl _) (Obj.cells #[Value.int .i64 k, Value.slice p m d, Value.bool eq] 36)) lwr y0
     have z1 := Rg.keep ((Below.refl wr.heap.size wr).alloc (Nat.le_refl _) (Obj.cells #[Value.int .i64 k, Value.slice p m d, Value.bool eq] 36)) lwr y1
     have z2 := Rg.keep ((Below.refl wr.heap.size wr).alloc (Nat.le_refl _) (Obj.cells #[Value.int .i64 k, Value.slice p m d, Value.bool eq] 36)) lwr y2
     have v0 := Rg.keepF ((Below.refl wr.heap.size wr).alloc (Nat.le_refl _) (Obj.cells #[Value.int .i64 k, Value.slice p m d, Value.bool eq] 36)) lwr x0
     have v1 := Rg.keepF ((Below.refl wr.heap.size wr).alloc (Nat.le_refl _) (Obj.cells #[Value.int .i64 k, Value.slice p m d, Value.bool eq] 36)) lwr x1
     have v2 := Rg.keepF ((Below.refl wr.heap.size wr).alloc (Nat.le_refl _) (Obj.cells #[Value.int .i64 k, Value.slice p m d, Value.bool eq] 36)) lwr x2
     cases q1 <;> cases eq <;> cases q3 <;> first | (exfalso; exact Bool.noConfusion hP) | skip
     all_goals
      clear hP
      go_wp2_with fail
      go_quiet (fail)
      go_wp2_with fail
      have SB := ((KO.out.trans ⟨rfl, rfl, rfl, Nat.le_refl _, fun _ _ => rfl⟩ : Below w.heap.size w ((wr.alloc _).drewN nq)).setCell (p := ⟨w.heap.size, 0, none⟩) (Nat.le_refl _) (.int .i64 0)).setCell (p := ⟨w.heap.size, 1, none⟩) (Nat.le_refl _) (.slice none 0 0) |>.setCell (p := ⟨w.heap.size, 2, none⟩) (Nat.le_refl _) (.bool false)
      refine bodyPost_ret (v := .tuple #[.agg #[.int .i64 0, .slice none 0 0, .bool false], .bool false]) (by simp [results, Tryd.results75, go_sem, z0, z1, z2, v0, v1, v2, lwr]) rfl ⟨by rw [<- HR.out, HAN.out]; rfl, SB⟩
    | false =>
     rw [hP, Bool.false_or] at h
     have HAN := Lib.hid h
     clear h
     cases q1 <;> cases eq <;> cases q3 <;> first | (exfalso; exact Bool.noConfusion hP) | skip
     all_goals
      clear hP
      go_wp2_with fail
      go_quiet (fail)
      go_wp2_with fail
      go_roundw
      case rel => exact ⟨j + 1, by go_num, by omega, Lib.hid (HBO.out.trans ⟨rfl, rfl, rfl, Nat.le_refl _, fun _ _ => rfl⟩), HAN⟩
      case measure => simp [intOf]; omega
   ·obtain rfl : j = n := by omega
    have HAN : Hid (AN = false) := Lib.hid (by
     have h := hE.out
     rw [List.drop_of_length_le (by rw [HN.out]; exact Nat.le_refl _)] at h
     exact h.symm)
    go_wp2_with fail
    have SB := ((KB.out.setCell (p := ⟨w.heap.size, 0, none⟩) (Nat.le_refl _) (.int .i64 ka)).setCell (p := ⟨w.heap.size, 1, none⟩) (Nat.le_refl _) (.slice pa ma da)).setCell (p := ⟨w.heap.size, 2, none⟩) (Nat.le_refl _) (.bool true)
    refine bodyPost_ret (v := .tuple #[.agg #[.int .i64 ka, .slice pa ma da, .bool true], .bool true]) (by simp [results, Tryd.results75, go_sem, y0, y1, y2, x0, x1, x2, lwr]) rfl ⟨by rw [<- HR.out, HAN.out]; rfl, SB⟩
end Go.Proofs.YtbicmlkjonaccaaDoor.Ln


namespace Go.Proofs.YtbicmlkjonaccaaDoor.Ln
open Go.ChangeShapes Go.WideShapes Go.ChangeAt Go.RowKit
open Go.Proofs.YtbicmlkjonaccaaDoor.Nm
set_option linter.unusedVariables false
set_option linter.unusedSimpArgs false
set_option maxRecDepth 8000

theorem smQ_bd {lim : Nat} {l : List Qm} (h : smQ lim l = true) : l.length <= lim /\ ∀ f ∈ l, f.2.1.length <= 40 := by
 unfold smQ at h
 simp only [Bool.and_eq_true, decide_eq_true_eq, List.all_eq_true] at h
 refine ⟨h.1, fun f hf => ?_⟩
 have h2 := h.2 f hf
 unfold smF at h2
 simp only [Bool.and_eq_true, decide_eq_true_eq] at h2
 exact h2.1
/-- What an argument that is a list of constraints is known to be. -/
def argQ (l : List Qm) : Prop := ∀ f ∈ l, (-9223372036854775808 <= f.1 /\ f.1 <= 9223372036854775807) /\ f.2.1.length <= maxLen /\ ∀ y ∈ f.2.1, y.1.size <= maxLen /\ (-9223372036854775808 <= y.2 /\ y.2 <= 9223372036854775807)
theorem SlQ.keep {w w' : World} {p : Option Addr} {l : List Qm} (hb : Below w.heap.size w w') (h : SlQ w p l) : SlQ w' p l := fun i hi => by
 obtain ⟨b, o, q, c, hp, c0, c1, c2, hS⟩ := h i hi
 have lb : b < w.heap.size := World.block_lt_of_cell? _ _ c0
 exact ⟨b, o, q, c, hp, Rg.keep hb lb c0, Rg.keep hb lb c1, Rg.keep hb lb c2, SlM.keep hb hS⟩
end Go.Proofs.YtbicmlkjonaccaaDoor.Ln


namespace Go.Proofs.YtbicmlkjonaccaaDoor.Ln
open Go.ChangeShapes Go.WideShapes Go.ChangeAt Go.RowKit
open Go.Proofs.YtbicmlkjonaccaaDoor.Nm
set_option linter.unusedVariables false
set_option linter.unusedSimpArgs false
set_option maxRecDepth 8000

theorem SlQ_of {w : World} {b0 n : Nat} {q : Option Addr} {c : Nat} {L : List E5} {ts : List Qm} (h : w.ownsRow b0 36 3 (.slice q n c) L.length (rowE L)) (hs : StdL w L ts) (hn : n = L.length) : SlQ w q ts /\ ts.length = n /\ n <= c := by
 subst hn
 rcases h.2 with ⟨hv, h0⟩ | ⟨g, cap, cur, hv, hb, hh, hc, r⟩
 ·injection hv with h1 h2 h3
  exact ⟨fun i hi => absurd hi (by rw [<- hs.1]; omega), hs.1.symm, by omega⟩
 ·cases hv
  refine ⟨fun i hi => ?_, hs.1.symm, hc⟩
  have hi2 : i < L.length := by rw [hs.1]; exact hi
  obtain ⟨v0, v1, v2⟩ := rowE_get L i hi2
  have c0 := (h.cellAt (i * 3) (by omega)).trans v0
  have c1 := (h.cellAt (i * 3 + 1) (by omega)).trans v1
  have c2 := (h.cellAt (i * 3 + 2) (by omega)).trans v2
  obtain ⟨s0, s1, s2, s3⟩ := hs.2 i hi
  rw [s0] at c0
  rw [s1] at c1
  rw [s2] at c2
  exact ⟨g, 0, _, _, rfl, by simpa using c0, by simpa using c1, by simpa using c2, s3.1⟩
theorem SlE_of {w : World} {b0 n g cap i : Nat} {L : List E5} (h : w.ownsRow b0 36 3 (.slice (some ⟨g, 0, none⟩) n cap) n (rowE L)) (hn : L.length = n) : SlE w g (i * 3) (L.drop i) := fun j hj => by
 rw [List.length_drop] at hj
 have hi2 : i + j < L.length := by omega
 obtain ⟨v0, v1, v2⟩ := rowE_get L (i + j) hi2
 have c0 := (h.cellAt ((i + j) * 3) (by omega)).trans v0
 have c1 := (h.cellAt ((i + j) * 3 + 1) (by omega)).trans v1
 have c2 := (h.cellAt ((i + j) * 3 + 2) (by omega)).trans v2
 have e : (i + j) * 3 = i * 3 + j * 3 := by omega
 have g : (L.drop i).getD j e50 = L.getD (i + j) e50 := by rw [List.getD_eq_getElem?_getD, List.getElem?_drop, <- List.getD_eq_getElem?_getD]
 rw [e] at c0 c1 c2
 rw [g]
 exact ⟨c0, c1, c2⟩
theorem SlE.take {w : World} {b o m : Nat} {L : List E5} (h : SlE w b o L) : SlE w b o (L.take m) := fun j hj => by
 rw [List.length_take] at hj
 have g : (L.take m).getD j e50 = L.getD j e50 := by rw [List.getD_eq_getElem?_getD, List.getElem?_take, if_pos (by omega), <- List.getD_eq_getElem?_getD]
 rw [g]
 exact h j (by omega)
theorem StdL.cut {w : World} {L : List E5} {ts : List Qm} (h : StdL w L ts) (i m : Nat) : StdL w ((L.drop i).take m) ((ts.drop i).take m) := by
 refine ⟨by rw [List.length_take, List.length_take, List.length_drop, List.length_drop, h.1], fun j hj => ?_⟩
 rw [List.length_take, List.length_drop] at hj
 have g1 : ((L.drop i).take m).getD j e50 = L.getD (i + j) e50 := by rw [List.getD_eq_getElem?_getD, List.getElem?_take, if_pos (by omega), List.getElem?_drop, <- List.getD_eq_getElem?_getD]
 have g2 : ((ts.drop i).take m).getD j q0m = ts.getD (i + j) q0m := by rw [List.getD_eq_getElem?_getD, List.getElem?_take, if_pos (by omega), List.getElem?_drop, <- List.getD_eq_getElem?_getD]
 rw [g1, g2]
 exact h.2 (i + j) (by omega)
/-- How many of a list belong to its first element's group. -/
def mnyQ (ts : List Qm) : Nat := match ts with
 | [] => 0
 | t :: r => (r.takeWhile (smM t)).length + 1
theorem tw_take {p : Qm -> Bool} : ∀ l : List Qm, l.takeWhile p = l.take (l.takeWhile p).length /\ l.dropWhile p = l.drop (l.takeWhile p).length
 | [] => ⟨rfl, rfl⟩
 | a :: r => by
  obtain ⟨h1, h2⟩ := tw_take r
  rw [List.takeWhile_cons, List.dropWhile_cons]
  split
  ·rw [List.length_cons, List.take_succ_cons, List.drop_succ_cons]
   exact ⟨congrArg (a :: ·) h1, h2⟩
  ·exact ⟨rfl, rfl⟩
theorem tw_in {p : Qm -> Bool} : ∀ (l : List Qm) (k : Nat), k < (l.takeWhile p).length -> p (l.getD k q0m) = true
 | [], k, h => absurd h (by simp)
 | a :: r, k, h => by
  rw [List.takeWhile_cons] at h
  split at h
  ·rename_i ha
   cases k with
   | zero => exact ha
   | succ k => exact tw_in r k (by simpa using h)
  ·exact absurd h (by simp)
theorem tw_at {p : Qm -> Bool} : ∀ (l : List Qm), (l.takeWhile p).length < l.length -> p (l.getD (l.takeWhile p).length q0m) = false
 | [], h => absurd h (by simp)
 | a :: r, h => by
  rw [List.takeWhile_cons] at h ⊢
  split at h
  ·rename_i ha
   rw [if_pos ha]
   exact tw_at r (by simpa using h)
  ·rename_i ha
   rw [if_neg ha]
   simpa using ha
theorem mny_facts {ts : List Qm} (h : 0 < ts.length) : 1 <= mnyQ ts /\ mnyQ ts <= ts.length /\ (∀ m, 1 <= m -> m < mnyQ ts -> (ts.getD m q0m).2.1 = (ts.getD 0 q0m).2.1) /\ (mnyQ ts < ts.length -> (ts.getD (mnyQ ts) q0m).2.1 ≠ (ts.getD 0 q0m).2.1) /\ (∀ n, ts.length <= n -> ∃ k, n = k + 1 /\ grpQ n ts = match uniQ (ts.take (mnyQ ts)) with
  | none => none
  | some x => (grpQ k (ts.drop (mnyQ ts))).map (x :: ·)) := by
 cases ts with
 | nil => simp at h
 | cons t r =>
  obtain ⟨h1, h2⟩ := tw_take (p := smM t) r
  have hl := (List.takeWhile_sublist (p := smM t) (l := r)).length_le
  have e0 : mnyQ (t :: r) = (r.takeWhile (smM t)).length + 1 := rfl
  rw [e0]
  refine ⟨by omega, by rw [List.length_cons]; omega, fun m m1 m2 => ?_, fun m2 => ?_, fun n hn => ?_⟩
  ·obtain ⟨k, rfl⟩ : ∃ k, m = k + 1 := ⟨m - 1, by omega⟩
   have := tw_in (p := smM t) r k (by omega)
   exact of_decide_eq_true this
  ·have := tw_at (p := smM t) r (by rw [List.length_cons] at m2; omega)
   exact of_decide_eq_false this
  ·rw [List.length_cons] at hn
   obtain ⟨k, rfl⟩ : ∃ k, n = k + 1 := ⟨n - 1, by omega⟩
   refine ⟨k, rfl, ?_⟩
   rw [List.take_succ_cons, List.drop_succ_cons, <- h1, <- h2]
   rfl
theorem firG (p : Option Addr) (l : List Qm) (c : Nat) (w : World) (hn : l.length <= 1000) (RA : Hid (SlQ w p l))
  (T : Hid (∀ f ∈ l, ∀ p c w', SlM w' p f.2.1 -> Calls Tryd.prog 28 #[Cv f.1 p f.2.1.length c f.2.2] w' (TR (tgQ f) w'))) :
  Calls Tryd.prog 56 #[.slice p l.length c, .func (.func 70) #[] #[.pointer (some ⟨w.heap.size, 0, none⟩), .pointer (some ⟨w.heap.size + 1, 0, none⟩)]] ((w.alloc (Obj.cells #[Value.slice none 0 0] 30)).alloc (Obj.cells #[Value.bool true] 4)) fun e w' => e = .returned (.tuple #[.int .i64 ((firF l 0).1 : Nat), .int .i64 (firF l 0).2]) /\ Below w.heap.size w w' /\ ((firF l 0).2 = 0 -> ∃ q cp L, w'.heap[w.heap.size]? = some (.cells #[.slice q L.length cp] 30 (0, 0)) /\ w'.heap[w.heap.size + 1]? = some (.cells #[.bool (l.all posF)] 4 (0, 0)) /\ w'.ownsRow (w.heap.size + 2) 36 3 (.slice q L.length cp) L.length (rowE L) /\ StdL w' L (l.filterMap keepF)) := by
 have B2 : Below w.heap.size w ((w.alloc (Obj.cells #[Value.slice none 0 0] 30)).alloc (Obj.cells #[Value.bool true] 4)) := ((Below.refl _ _).alloc (Nat.le_refl _) _).alloc (by simp) _
 have h0 : ((w.alloc (Obj.cells #[Value.slice none 0 0] 30)).alloc (Obj.cells #[Value.bool true] 4)).heap[w.heap.size]? = some (.cells #[.slice none 0 0] 30 (0, 0)) := (Below.heap_alloc _ _ _ (by simp)).trans (heap_alloc_new w _)
 have h1 : ((w.alloc (Obj.cells #[Value.slice none 0 0] 30)).alloc (Obj.cells #[Value.bool true] 4)).heap[w.heap.size + 1]? = some (.cells #[.bool true] 4 (0, 0)) := by have := heap_alloc_new (w.alloc (Obj.cells #[Value.slice none 0 0] 30)) (Obj.cells #[Value.bool true] 4); simpa using this
 have F := fstg p l c w.heap.size (.slice none 0 0) ((w.alloc (Obj.cells #[Value.slice none 0 0] 30)).alloc (Obj.cells #[Value.bool true] 4)) hn (Lib.hid fun wz hz => SlQ.keep (B2.trans hz) RA.out) T (Lib.hid ⟨h0, h1, World.ownsRow_nil _ _ _ _, ⟨rfl, fun i hi => absurd hi (Nat.not_lt_zero _)⟩⟩) (by simp)
 refine F.mono ?_
 rintro e w' ⟨rfl, hb, _, hF⟩
 refine ⟨rfl, B2.trans hb, fun he => ?_⟩
 obtain ⟨vl, L, k0, k1, hO, hS⟩ := hF he
 rw [List.take_length] at k1 hS
 obtain ⟨q, cp, rfl⟩ := own_slice hO
 exact ⟨q, cp, L, k0, k1, hO, hS⟩

theorem ins0 (w : World) : Calls Tryd.prog 120 #[.slice none 0 0, .int .i64 0, .int .i64 0, .func (.func 72) #[] #[]] w fun e w' => e = .returned (.tuple #[]) /\ Below w.heap.size w w' := by
 go_enter Tryd.func120, Tryd.ntmps120
 go_wp2_with fail
 refine wp_loop_rounds 2 ?_
 rw [rounds_succ]
 go_wp2_with fail
 go_end0
 exact ⟨rfl, Below.refl _ _⟩
theorem stab0 (w : World) : Calls Tryd.prog 102 #[.slice none 0 0, .int .i64 0, .func (.func 72) #[] #[]] w fun e w' => e = .returned (.tuple #[]) /\ Below w.heap.size w w' := by
 have IC := Lib.hid fun w => ins0 w
 go_enter Tryd.func102, Tryd.ntmps102
 go_wp2_with fail
 refine wp_loop_rounds 2 ?_
 rw [rounds_succ]
 go_wp2_with fail
 refine (IC.out _).mono ?_
 rintro e w1 ⟨rfl, hb⟩
 go_wp2_with fail
 refine wp_loop_rounds 2 ?_
 rw [rounds_succ]
 go_wp2_with fail
 go_end0
 exact ⟨rfl, hb⟩
theorem sort0 (w : World) : Calls Tryd.prog 71 #[.slice none 0 0, .func (.func 72) #[] #[]] w fun e w' => e = .returned (.tuple #[]) /\ Below w.heap.size w w' := by
 have IC := Lib.hid fun w => stab0 w
 go_enter Tryd.func71, Tryd.ntmps71
 go_wp2_with (go_at_call 102; (with_reducible refine (IC.out _).mono ?_); rintro e w1 ⟨rfl, hb⟩)
 go_end0
 exact ⟨rfl, hb⟩
/-- The sort of what was collected, empty or not. -/
theorem sortV (q : Option Addr) (cap base n : Nat) (L0 : List E5) (ts : List Qm) (w : World) (hn : n <= 100000) (hL : Hid (L0.length = n)) (hO : Hid (w.ownsRow base 36 3 (.slice q n cap) n (rowE L0))) (HS : Hid (StdL w L0 ts)) (hm : Hid (∀ t ∈ ts, t.2.1.length <= maxLen)) (hbw : base <= w.heap.size) :
  Calls Tryd.prog 71 #[.slice q n cap, .func (.func 72) #[] #[]] w fun e w' => e = .returned (.tuple #[]) /\ Below base w w' /\ K59 w w' /\ ∃ L' T', L'.length = n /\ StdL w' L' T' /\ T'.Perm ts /\ SrtQ T' /\ w'.ownsRow base 36 3 (.slice q n cap) n (rowE L') := by
 have hO2 := hO
 rcases hO.out.2 with ⟨hv, h0⟩ | ⟨g, cap', cur, hv, hb, r⟩
 ·cases hv
  have hl := hL.out
  have e1 : L0 = [] := List.length_eq_zero_iff.1 hl
  have e2 : ts = [] := List.length_eq_zero_iff.1 (by rw [<- HS.out.1]; exact hl)
  subst e1 e2
  refine (sort0 w).mono ?_
  rintro e w' ⟨rfl, hb⟩
  exact ⟨rfl, hb.mono hbw, K59.below hb, [], [], rfl, ⟨rfl, fun i hi => absurd hi (Nat.not_lt_zero _)⟩, List.Perm.refl _, List.Pairwise.nil, own_belowE hO2.out hb⟩
 ·cases hv
  have S := sortN g cap base n L0 L0 (fun x y => qc (stQ w x) (stQ w y)) (ord_by (stQ w)) w w hn (Lib.hid ⟨hL.out, fun x h => h⟩) hO2 (Lib.hid (ncmpL w L0 ts HS.out hm.out)) (Lib.hid fun _ _ h => h) hbw
  refine S.mono ?_
  rintro e w' ⟨rfl, hb', k, L', r', s', o'⟩
  obtain ⟨h1, h2⟩ := HS.out.perm r'.perm
  refine ⟨rfl, hb', k, L', L'.map (stQ w), r'.len.trans hL.out, h1.on k, h2, ?_, o'.out⟩
  refine List.pairwise_map.2 ?_
  refine List.pairwise_iff_getElem.2 fun i j hi hj hij => ?_
  have h := s' i j (Nat.zero_le _) hij (by rw [r'.len, hL.out] at hj; exact hj)
  have e1 : L'.getD i e50 = L'[i] := by unfold List.getD; rw [List.getElem?_eq_getElem hi]; rfl
  have e2 : L'.getD j e50 = L'[j] := by unfold List.getD; rw [List.getElem?_eq_getElem hj]; rfl
  rw [e1, e2] at h
  exact h
end Go.Proofs.YtbicmlkjonaccaaDoor.Ln


namespace Go.Proofs.YtbicmlkjonaccaaDoor.Ln
open Go.ChangeShapes Go.WideShapes Go.ChangeAt Go.RowKit
open Go.Proofs.YtbicmlkjonaccaaDoor.Nm
set_option linter.unusedVariables false
set_option linter.unusedSimpArgs false
set_option maxRecDepth 8000

theorem own_blkE {w w' : World} {B b2 g n cap m : Nat} {xs : List Value} (h : w.ownsRow B 36 3 (.slice (some ⟨g, 0, none⟩) n cap) m xs) (hg : g < b2) (hb : Below b2 w w') : w'.ownsRow B 36 3 (.slice (some ⟨g, 0, none⟩) n cap) m xs := by
 obtain ⟨hl, h0 | ⟨g', cap', cur, hv, hb', hh, r⟩⟩ := h
 ·exact ⟨hl, .inl h0⟩
 ·cases hv
  exact ⟨hl, .inr ⟨g, cap, cur, rfl, hb', (hb.block g hg).trans hh, r⟩⟩
theorem tmem {ts : List Qm} {j : Nat} (h : j < ts.length) : ts.getD j q0m ∈ ts := qget h
def lenAt (w : World) (b : Nat) : Nat := match w.cell? ⟨b, 0, none⟩ with
 | some (.slice _ n _) => n
 | _ => 0
theorem lenAt_of {w : World} {b n c : Nat} {A : Option Addr} (h : w.heap[b]? = some (.cells #[.slice A n c] 30 (0, 0))) : lenAt w b = n := by
 unfold lenAt
 rw [cell_of_one h]
theorem cns_perm {ts us : List Qm} (p : ts.Perm us) : Cns ts ↔ Cns us := ⟨fun C a ha b hb => C a (p.mem_iff.2 ha) b (p.mem_iff.2 hb), fun C a ha b hb => C a (p.mem_iff.1 ha) b (p.mem_iff.1 hb)⟩
theorem bst_perm {ts us : List Qm} (p : ts.Perm us) (x : Qm) : Bst ts x ↔ Bst us x := ⟨fun C => ⟨p.mem_iff.1 C.1, fun b hb => C.2 b (p.mem_iff.2 hb)⟩, fun C => ⟨p.mem_iff.2 C.1, fun b hb => C.2 b (p.mem_iff.1 hb)⟩⟩
/-- What Normalize leaves. -/
def NZ (l : List Qm) (w : World) (e : Ending) (w' : World) : Prop := ∃ a q d, NzR l a /\ e = .returned (.tuple #[.slice q a.1.length d, .bool a.2.1, .int .i64 a.2.2]) /\ SlQ w' q a.1 /\ a.1.length <= d /\ Below w.heap.size w w'
theorem nz_grp {l T' : List Qm} {n : Nat} (hl : l.length <= 256) (he : (firF l 0).2 = 0) (hp : l.all posF = true) (hn : T'.length <= n) (P : T'.Perm (l.filterMap keepF)) (S : SrtQ T') : (grpQ n T' = none -> NzR l ([], false, 0)) /\ ∀ out, grpQ n T' = some out -> NzR l (out, true, 0) := by
 obtain ⟨g1, g2⟩ := grp_ok n T' hn S
 refine ⟨fun h => ⟨fun h2 => by omega, fun _ h2 => absurd he h2, fun _ _ h2 => absurd (hp.symm.trans h2) (by simp), fun _ _ _ _ => rfl, fun _ _ _ h2 => absurd ((cns_perm P).2 h2) (g1 h)⟩, fun out h => ?_⟩
 obtain ⟨c, a, m⟩ := g2 out h
 exact ⟨fun h2 => by omega, fun _ h2 => absurd he h2, fun _ _ h2 => absurd (hp.symm.trans h2) (by simp), fun _ _ _ h2 => absurd ((cns_perm P).1 c) h2, fun _ _ _ _ => ⟨rfl, a, fun x => (m x).trans (bst_perm P x)⟩⟩
theorem nz_lim (p : Option Addr) (l : List Qm) (c : Nat) (w : World) (hl : l.length <= 1000) (h : 256 < l.length) : Calls Tryd.prog 36 #[.slice p l.length c] w (NZ l w) := by
 have HN : Hid (NzR l ([], false, 2)) := Lib.hid ⟨fun _ => rfl, fun h2 => by omega, fun h2 => by omega, fun h2 => by omega, fun h2 => by omega⟩
 have h2 : (256 : Int) < l.length := by omega
 go_enter Tryd.func36, Tryd.ntmps36
 go_wp2_with fail
 refine bodyPost_ret (v := .tuple #[.slice none 0 0, .bool false, .int .i64 2]) (by simp [results, Tryd.results36, go_sem]) rfl ?_
 exact ⟨([], false, 2), none, 0, HN.out, rfl, fun i hi => absurd hi (Nat.not_lt_zero _), Nat.le_refl _, Below.refl _ _⟩
theorem nz_err (p : Option Addr) (l : List Qm) (c : Nat) (w : World) (hl : l.length <= 256) (he : (firF l 0).2 ≠ 0) (RA : Hid (SlQ w p l))
  (T : Hid (∀ f ∈ l, ∀ p c w', SlM w' p f.2.1 -> Calls Tryd.prog 28 #[Cv f.1 p f.2.1.length c f.2.2] w' (TR (tgQ f) w'))) : Calls Tryd.prog 36 #[.slice p l.length c] w (NZ l w) := by
 have HN : Hid (NzR l ([], false, (firF l 0).2)) := Lib.hid ⟨fun h2 => by omega, fun _ _ => rfl, fun _ h2 => absurd h2 he, fun _ h2 => absurd h2 he, fun _ h2 => absurd h2 he⟩
 have F0 := firG p l c w (by omega) RA T
 have h2 : ¬ (256 : Int) < l.length := by omega
 obtain ⟨j0, hj0⟩ : ∃ j0, (firF l 0).1 = j0 := ⟨_, rfl⟩
 obtain ⟨er, her⟩ : ∃ er, (firF l 0).2 = er := ⟨_, rfl⟩
 rw [her] at HN he F0
 rw [hj0] at F0
 have F := Lib.hid F0
 have g1 : (er == 0) = false := by simpa using he
 have g2 : (er != 0) = true := by simpa using he
 clear F0 hj0 her
 go_enter Tryd.func36, Tryd.ntmps36
 go_wp2_with (go_at_call 56; (with_reducible refine F.out.mono ?_); rintro e w1 ⟨rfl, B1, -⟩)
 refine bodyPost_ret (v := .tuple #[.slice none 0 0, .bool false, .int .i64 (er)]) (by simp [results, Tryd.results36, go_sem]) rfl ?_
 exact ⟨([], false, er), none, 0, HN.out, rfl, fun i hi => absurd hi (Nat.not_lt_zero _), Nat.le_refl _, B1⟩
theorem nz_nev (p : Option Addr) (l : List Qm) (c : Nat) (w : World) (hl : l.length <= 256) (he : (firF l 0).2 = 0) (hp : l.all posF = false) (RA : Hid (SlQ w p l))
  (T : Hid (∀ f ∈ l, ∀ p c w', SlM w' p f.2.1 -> Calls Tryd.prog 28 #[Cv f.1 p f.2.1.length c f.2.2] w' (TR (tgQ f) w'))) : Calls Tryd.prog 36 #[.slice p l.length c] w (NZ l w) := by
 have HN : Hid (NzR l ([], false, 0)) := Lib.hid ⟨fun h2 => by omega, fun _ h2 => absurd he h2, fun _ _ _ => rfl, fun _ _ h2 => absurd (hp.symm.trans h2) (by simp), fun _ _ h2 => absurd (hp.symm.trans h2) (by simp)⟩
 have F0 := firG p l c w (by omega) RA T
 have h2 : ¬ (256 : Int) < l.length := by omega
 obtain ⟨j0, hj0⟩ : ∃ j0, (firF l 0).1 = j0 := ⟨_, rfl⟩
 rw [he, hp, hj0] at F0
 have F := Lib.hid F0
 clear F0 hj0 he hp
 go_enter Tryd.func36, Tryd.ntmps36
 go_wp2_with (go_at_call 56; (with_reducible refine F.out.mono ?_); rintro e w1 ⟨rfl, B1, hF⟩; obtain ⟨qs, cap, L, h0, h1, hO, hS⟩ := hF rfl; have b1 := cell_of_one h1; clear hF h0 h1 hO hS)
 refine bodyPost_ret (v := .tuple #[.slice none 0 0, .bool false, .int .i64 0]) (by simp [results, Tryd.results36, go_sem]) rfl ?_
 exact ⟨([], false, 0), none, 0, HN.out, rfl, fun i hi => absurd hi (Nat.not_lt_zero _), Nat.le_refl _, B1⟩
end Go.Proofs.YtbicmlkjonaccaaDoor.Ln
