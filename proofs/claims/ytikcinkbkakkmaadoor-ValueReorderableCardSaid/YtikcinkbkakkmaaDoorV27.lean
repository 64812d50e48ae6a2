/- A reduction of the reversed list: mathematics. -/
import Derived.Test.YtikcinkbkakkmaaDoorV19
import Derived.Test.YtikcinkbkakkmaaDoorV9
import Derived.Test.YtikcinkbkakkmaaDoorGM
import Derived.Test.YtikcinkbkakkmaaDoorGB

namespace Go.Proofs.YtikcinkbkakkmaaDoor.Va
open Go.ChangeShapes Go.WideShapes Go.ChangeAt Go.RowKit
open Fr Fx

set_option linter.unusedVariables false
set_option linter.unusedSimpArgs false

abbrev P2 := Int × Int
def q (a : P2) : Rat := Rat.divInt a.1 a.2
theorem vv_vld {K B F R O n d : Int} (h : vv K B F R O n d = true) : vld n d = true := by
  obtain ⟨x1, x2, x3, x4, x5⟩ := vv_small h
  by_cases k1 : K = 1
  · have ht := vv_ty h
    unfold vv at h
    rw [if_neg (by omega), ht, if_pos k1] at h
    exact h
  · obtain rfl := x5 k1
    exact vld_one x3 x4
theorem pair_eq {a b : P2} (ha : vld a.1 a.2 = true) (hb : vld b.1 b.2 = true) (h : a.1 * b.2 = b.1 * a.2) : a = b := by
  obtain ⟨a0, _⟩ := vld_parts ha
  obtain ⟨b0, _⟩ := vld_parts hb
  obtain ⟨e1, e2, _⟩ := new_back a.1 a.2 b.1 b.2 (by omega) hb h
  obtain ⟨g1, g2, _⟩ := new_back a.1 a.2 a.1 a.2 (by omega) ha rfl
  exact Prod.ext (g1.symm.trans e1) (g2.symm.trans e2)
theorem q_inj {a b : P2} (ha : vld a.1 a.2 = true) (hb : vld b.1 b.2 = true) (h : q a = q b) : a = b := by
  obtain ⟨a0, _⟩ := vld_parts ha
  obtain ⟨b0, _⟩ := vld_parts hb
  exact pair_eq ha hb ((Rat.divInt_eq_divInt_iff (by omega) (by omega)).1 h)
def cmb (fold : Int) (x y : Rat) : Rat := if fold = 1 then x + y else x * y
def un (fold : Int) : Rat := if fold = 1 then 0 else 1
theorem cmb_comm (f : Int) (x y : Rat) : cmb f x y = cmb f y x := by
  unfold cmb; split
  · exact Rat.add_comm _ _
  · exact Rat.mul_comm _ _
theorem cmb_assoc (f : Int) (x y z : Rat) : cmb f (cmb f x y) z = cmb f x (cmb f y z) := by
  unfold cmb; by_cases h : f = 1
  · simp only [if_pos h]; exact Rat.add_assoc _ _ _
  · simp only [if_neg h]; exact Rat.mul_assoc _ _ _
theorem cmb_un (f : Int) (x : Rat) : cmb f (un f) x = x := by
  unfold cmb un; by_cases h : f = 1
  · simp only [if_pos h]; exact Rat.zero_add _
  · simp only [if_neg h]; exact Rat.one_mul _
theorem fold_out (f : Int) (l : List Rat) : ∀ a, l.foldl (cmb f) a = cmb f a (l.foldl (cmb f) (un f)) := by
  induction l with
  | nil => intro a; rw [List.foldl_nil, List.foldl_nil, cmb_comm, cmb_un]
  | cons x l ih => intro a; rw [List.foldl_cons, List.foldl_cons, ih (cmb f a x), ih (cmb f (un f) x), cmb_un, cmb_assoc]
theorem fold_rev (f : Int) (l : List Rat) : l.reverse.foldl (cmb f) (un f) = l.foldl (cmb f) (un f) := by
  induction l with
  | nil => rfl
  | cons x l ih => rw [List.reverse_cons, List.foldl_append, ih, List.foldl_cons, List.foldl_nil, List.foldl_cons, cmb_un, fold_out f l x, cmb_comm]
theorem nw_cases {n d : Int} (hd : 0 < d) : ((nw n d).2.2 = 0 ∧ vld (nw n d).1 (nw n d).2.1 = true ∧ (nw n d).1 * d = n * (nw n d).2.1) ∨ (nw n d).2.2 = 3 := by
  unfold nw
  by_cases he : newE n d = 0
  · exact Or.inl ⟨he, new_valid n d he, Fr.new_red n d hd he⟩
  · right
    show newE n d = 3
    unfold newE at he ⊢
    rw [if_neg (by omega)] at he ⊢
    unfold lowE at he ⊢
    generalize (if n < 0 then -n else n) = a at *
    generalize (if d < 0 then -d else d) = b at *
    by_cases hc : 2147483647 < a / ↑(Int.gcd a b) ∨ 2147483647 < b / ↑(Int.gcd a b)
    · rw [if_pos hc]
    · rw [if_neg hc] at he; exact absurd rfl he
theorem step_nw {fold : Int} {a b : P2} {X : Int} (ha : vld a.1 a.2 = true) (hb : vld b.1 b.2 = true) (hq : Rat.divInt X (a.2 * b.2) = cmb fold (q a) (q b)) :
    ((nw X (a.2 * b.2)).2.2 = 0 ∧ vld (nw X (a.2 * b.2)).1 (nw X (a.2 * b.2)).2.1 = true ∧ q ((nw X (a.2 * b.2)).1, (nw X (a.2 * b.2)).2.1) = cmb fold (q a) (q b)) ∨ (nw X (a.2 * b.2)).2.2 = 3 := by
  obtain ⟨a0, _⟩ := vld_parts ha
  obtain ⟨b0, _⟩ := vld_parts hb
  have hp : 0 < a.2 * b.2 := Int.mul_pos (by omega) (by omega)
  rcases nw_cases (n := X) hp with ⟨h1, h2, h3⟩ | h
  · obtain ⟨c0, _⟩ := vld_parts h2
    refine Or.inl ⟨h1, h2, ?_⟩
    rw [← hq]
    exact (Rat.divInt_eq_divInt_iff (by show (nw X (a.2 * b.2)).2.1 ≠ 0; omega) (by omega)).2 h3
  · exact Or.inr h
theorem step_ok {fold K B F R O : Int} {a b : P2} (hf : fold = 1 ∨ fold = 2) (hk : K ≠ 2) (ha : vv K B F R O a.1 a.2 = true) (hb : vv K B F R O b.1 b.2 = true) :
    ((apv (opv fold) K B F R O a.1 a.2 b.1 b.2).2.2 = 0 ∧ vv K B F R O (apv (opv fold) K B F R O a.1 a.2 b.1 b.2).1 (apv (opv fold) K B F R O a.1 a.2 b.1 b.2).2.1 = true ∧ q ((apv (opv fold) K B F R O a.1 a.2 b.1 b.2).1, (apv (opv fold) K B F R O a.1 a.2 b.1 b.2).2.1) = cmb fold (q a) (q b)) ∨ (apv (opv fold) K B F R O a.1 a.2 b.1 b.2).2.2 = 3 := by
  have ht := vv_ty ha
  have hva := vv_vld ha
  have hvb := vv_vld hb
  have hop : (fold = 1 ∧ opv fold = 4) ∨ (fold = 2 ∧ opv fold = 6) := by
    rcases hf with rfl | rfl
    · exact Or.inl ⟨rfl, rfl⟩
    · exact Or.inr ⟨rfl, rfl⟩
  obtain ⟨a0, _⟩ := vld_parts hva
  obtain ⟨b0, _⟩ := vld_parts hvb
  have hap : apv (opv fold) K B F R O a.1 a.2 b.1 b.2 = if K = 1 then frv (opv fold) a.1 a.2 b.1 b.2 else whv (opv fold) a.1 b.1 := by
    unfold apv
    rw [if_neg (by omega), if_neg (by rw [ht]; decide), if_neg (by rw [ha, hb]; simp), if_neg (by omega), if_neg (by omega), if_neg hk]
  rw [hap]
  by_cases k1 : K = 1
  · rw [if_pos k1]
    have hvv : ∀ n d, vld n d = true → vv K B F R O n d = true := fun n d h => by
      unfold vv; rw [if_neg hk, ht, if_pos k1]; exact h
    rcases hop with ⟨rfl, ho⟩ | ⟨rfl, ho⟩
    · rw [ho]
      unfold frv
      rw [if_pos rfl]
      rcases step_nw (fold := 1) (X := a.1 * b.2 + b.1 * a.2) hva hvb (by unfold cmb q; rw [if_pos rfl, Rat.divInt_add_divInt _ _ (by omega) (by omega)]) with ⟨h1, h2, h3⟩ | h
      · exact Or.inl ⟨h1, hvv _ _ h2, h3⟩
      · exact Or.inr h
    · rw [ho]
      unfold frv
      rw [if_neg (by decide), if_neg (by decide), if_pos rfl]
      rcases step_nw (fold := 2) (X := a.1 * b.1) hva hvb (by unfold cmb q; rw [if_neg (by decide), Rat.divInt_mul_divInt]) with ⟨h1, h2, h3⟩ | h
      · exact Or.inl ⟨h1, hvv _ _ h2, h3⟩
      · exact Or.inr h
  · rw [if_neg k1]
    obtain ⟨_, _, _, _, da⟩ := vv_small ha
    obtain ⟨_, _, _, _, db⟩ := vv_small hb
    have ea := da k1
    have eb := db k1
    have hvv : ∀ n : Int, -2147483647 ≤ n ∧ n ≤ 2147483647 → vv K B F R O n 1 = true := fun n h => by
      unfold vv; rw [if_neg hk, ht, if_neg k1, Bool.true_and]; exact decide_eq_true ⟨rfl, h⟩
    unfold whv
    rw [if_neg (by omega)]
    by_cases hr : -2147483647 ≤ whn (opv fold) a.1 b.1 ∧ whn (opv fold) a.1 b.1 ≤ 2147483647
    · rw [if_pos hr]
      refine Or.inl ⟨rfl, hvv _ hr, ?_⟩
      rcases hop with ⟨rfl, ho⟩ | ⟨rfl, ho⟩
      · rw [ho]; unfold cmb q whn; rw [if_pos rfl, if_pos rfl, Rat.divInt_add_divInt _ _ (by omega) (by omega), ea, eb]; simp
      · rw [ho]; unfold cmb q whn; rw [if_neg (by decide), if_neg (by decide), if_pos rfl, if_neg (by decide), Rat.divInt_mul_divInt, ea, eb]; simp
    · rw [if_neg hr]; exact Or.inr rfl
theorem rdf_ok {fold K B F R O : Int} (hf : fold = 1 ∨ fold = 2) (hk : K ≠ 2) : ∀ (l : List P2) (a : P2), vv K B F R O a.1 a.2 = true → (∀ x ∈ l, vv K B F R O x.1 x.2 = true) →
    ((rdf (opv fold) K B F R O l a).2.2 = 0 ∧ vv K B F R O (rdf (opv fold) K B F R O l a).1 (rdf (opv fold) K B F R O l a).2.1 = true ∧ q ((rdf (opv fold) K B F R O l a).1, (rdf (opv fold) K B F R O l a).2.1) = (l.map q).foldl (cmb fold) (q a)) ∨ (rdf (opv fold) K B F R O l a).2.2 = 3
  | [], a, ha, _ => Or.inl ⟨rfl, ha, rfl⟩
  | v :: r, a, ha, hl => by
    have hs := step_ok hf hk ha (hl v (by simp))
    unfold rdf
    rcases hs with ⟨h1, h2, h3⟩ | h
    · rw [if_pos h1]
      rcases rdf_ok hf hk r ((apv (opv fold) K B F R O a.1 a.2 v.1 v.2).1, (apv (opv fold) K B F R O a.1 a.2 v.1 v.2).2.1) h2 (fun x hx => hl x (by simp [hx])) with ⟨g1, g2, g3⟩ | g
      · refine Or.inl ⟨g1, g2, ?_⟩
        rw [g3, List.map_cons, List.foldl_cons, h3]
      · exact Or.inr g
    · rw [if_neg (by omega)]; exact Or.inr h
/-- The order of two numbers. -/
def le2 (a b : P2) : Prop := a.1 * b.2 ≤ b.1 * a.2
theorem le2_trans {a b c : P2} (a0 : 0 < a.2) (b0 : 0 < b.2) (c0 : 0 < c.2) (h1 : le2 a b) (h2 : le2 b c) : le2 a c := by
  unfold le2 at *
  have e1 := Int.mul_le_mul_of_nonneg_right h1 (Int.le_of_lt c0)
  have e2 := Int.mul_le_mul_of_nonneg_right h2 (Int.le_of_lt a0)
  have e3 : a.1 * b.2 * c.2 = a.1 * c.2 * b.2 := Int.mul_right_comm _ _ _
  have e4 : b.1 * a.2 * c.2 = b.1 * c.2 * a.2 := Int.mul_right_comm _ _ _
  have e5 : c.1 * b.2 * a.2 = c.1 * a.2 * b.2 := Int.mul_right_comm _ _ _
  exact Int.le_of_mul_le_mul_right (by omega : a.1 * c.2 * b.2 ≤ c.1 * a.2 * b.2) b0
theorem cpv_le {K B F R O : Int} {a b : P2} (ha : vv K B F R O a.1 a.2 = true) (hb : vv K B F R O b.1 b.2 = true) : (cpv K B F R O a.1 a.2 b.1 b.2 ≤ 0 ↔ le2 a b) ∧ (0 ≤ cpv K B F R O a.1 a.2 b.1 b.2 ↔ le2 b a) := by
  unfold cpv le2
  rw [ha, hb, Bool.and_true, if_pos rfl]
  rcases cmpv_cases (a.1 * b.2) (b.1 * a.2) with ⟨h, e⟩ | ⟨h, e⟩ | ⟨h, e⟩ <;> rw [e] <;> constructor <;> constructor <;> intro <;> omega
theorem pick_min {K B F R O : Int} {a b : P2} (ha : vv K B F R O a.1 a.2 = true) (hb : vv K B F R O b.1 b.2 = true) : (le2 a b ∧ apv 9 K B F R O a.1 a.2 b.1 b.2 = (a.1, a.2, 0)) ∨ (le2 b a ∧ apv 9 K B F R O a.1 a.2 b.1 b.2 = (b.1, b.2, 0)) := by
  obtain ⟨c1, c2⟩ := cpv_le ha hb
  have hap : apv 9 K B F R O a.1 a.2 b.1 b.2 = (if cpv K B F R O a.1 a.2 b.1 b.2 ≤ 0 then (a.1, a.2, 0) else (b.1, b.2, 0)) := by
    unfold apv
    rw [if_neg (by omega), if_neg (by rw [vv_ty ha]; decide), if_neg (by rw [ha, hb]; simp), if_pos rfl]
  rw [hap]
  by_cases h : cpv K B F R O a.1 a.2 b.1 b.2 ≤ 0
  · exact Or.inl ⟨c1.1 h, if_pos h⟩
  · exact Or.inr ⟨c2.1 (by omega), if_neg h⟩
theorem pick_max {K B F R O : Int} {a b : P2} (ha : vv K B F R O a.1 a.2 = true) (hb : vv K B F R O b.1 b.2 = true) : (le2 b a ∧ apv 10 K B F R O a.1 a.2 b.1 b.2 = (a.1, a.2, 0)) ∨ (le2 a b ∧ apv 10 K B F R O a.1 a.2 b.1 b.2 = (b.1, b.2, 0)) := by
  obtain ⟨c1, c2⟩ := cpv_le ha hb
  have hap : apv 10 K B F R O a.1 a.2 b.1 b.2 = (if 0 ≤ cpv K B F R O a.1 a.2 b.1 b.2 then (a.1, a.2, 0) else (b.1, b.2, 0)) := by
    unfold apv
    rw [if_neg (by omega), if_neg (by rw [vv_ty ha]; decide), if_neg (by rw [ha, hb]; simp), if_neg (by omega), if_pos rfl]
  rw [hap]
  by_cases h : 0 ≤ cpv K B F R O a.1 a.2 b.1 b.2
  · exact Or.inl ⟨c2.1 h, if_pos h⟩
  · exact Or.inr ⟨c1.1 (by omega), if_neg h⟩
theorem pos2 {K B F R O : Int} {a : P2} (ha : vv K B F R O a.1 a.2 = true) : 0 < a.2 := by
  obtain ⟨x, _⟩ := vv_small ha
  omega
theorem rdf_ext {K B F R O op : Int} {L : P2 → P2 → Prop} (hL : ∀ a b c : P2, vv K B F R O a.1 a.2 = true → vv K B F R O b.1 b.2 = true → vv K B F R O c.1 c.2 = true → L a b → L b c → L a c) (hr : ∀ a, L a a)
    (hp : ∀ a b : P2, vv K B F R O a.1 a.2 = true → vv K B F R O b.1 b.2 = true → (L a b ∧ apv op K B F R O a.1 a.2 b.1 b.2 = (a.1, a.2, 0)) ∨ (L b a ∧ apv op K B F R O a.1 a.2 b.1 b.2 = (b.1, b.2, 0))) :
    ∀ (l : List P2) (a : P2), vv K B F R O a.1 a.2 = true → (∀ x ∈ l, vv K B F R O x.1 x.2 = true) → ∃ m : P2, rdf op K B F R O l a = (m.1, m.2, 0) ∧ m ∈ a :: l ∧ ∀ y ∈ a :: l, L m y
  | [], a, ha, _ => ⟨a, rfl, by simp, fun y hy => by obtain rfl : y = a := (by simpa using hy); exact hr y⟩
  | v :: r, a, ha, hl => by
    have hv := hl v (by simp)
    unfold rdf
    rcases hp a v ha hv with ⟨h1, h2⟩ | ⟨h1, h2⟩
    · rw [h2, if_pos rfl]
      obtain ⟨m, e, hm, hall⟩ := rdf_ext hL hr hp r a ha (fun x hx => hl x (by simp [hx]))
      have hmv : vv K B F R O m.1 m.2 = true := by
        rcases List.mem_cons.1 hm with rfl | h
        · exact ha
        · exact hl m (by simp [h])
      refine ⟨m, e, by rcases List.mem_cons.1 hm with rfl | h <;> simp_all, fun y hy => ?_⟩
      rcases List.mem_cons.1 hy with rfl | h
      · exact hall _ (List.mem_cons_self ..)
      · rcases List.mem_cons.1 h with rfl | h
        · exact hL m a y hmv ha hv (hall a (by simp)) h1
        · exact hall y (by simp [h])
    · rw [h2, if_pos rfl]
      obtain ⟨m, e, hm, hall⟩ := rdf_ext hL hr hp r v hv (fun x hx => hl x (by simp [hx]))
      have hmv : vv K B F R O m.1 m.2 = true := by
        rcases List.mem_cons.1 hm with rfl | h
        · exact hv
        · exact hl m (by simp [h])
      refine ⟨m, e, List.mem_cons_of_mem _ hm, fun y hy => ?_⟩
      rcases List.mem_cons.1 hy with rfl | h
      · exact hL m v y hmv hv ha (hall v (by simp)) h1
      · exact hall y h
theorem two_ext {K B F R O op : Int} {L : P2 → P2 → Prop} (hL : ∀ a b c : P2, vv K B F R O a.1 a.2 = true → vv K B F R O b.1 b.2 = true → vv K B F R O c.1 c.2 = true → L a b → L b c → L a c) (hr : ∀ a, L a a)
    (hp : ∀ a b : P2, vv K B F R O a.1 a.2 = true → vv K B F R O b.1 b.2 = true → (L a b ∧ apv op K B F R O a.1 a.2 b.1 b.2 = (a.1, a.2, 0)) ∨ (L b a ∧ apv op K B F R O a.1 a.2 b.1 b.2 = (b.1, b.2, 0)))
    (hant : ∀ a b : P2, vv K B F R O a.1 a.2 = true → vv K B F R O b.1 b.2 = true → L a b → L b a → a = b) {v v' : P2} {r r' : List P2} (hs : ∀ x, x ∈ v :: r ↔ x ∈ v' :: r') (hall : ∀ x ∈ v :: r, vv K B F R O x.1 x.2 = true) :
    rdf op K B F R O r v = rdf op K B F R O r' v' ∧ (rdf op K B F R O r v).2.2 = 0 := by
  obtain ⟨m, e, hm, h⟩ := rdf_ext hL hr hp r v (hall v (by simp)) (fun x hx => hall x (by simp [hx]))
  have hall' : ∀ x ∈ v' :: r', vv K B F R O x.1 x.2 = true := fun x hx => hall x ((hs x).2 hx)
  obtain ⟨m', e', hm', h'⟩ := rdf_ext hL hr hp r' v' (hall' v' (by simp)) (fun x hx => hall' x (by simp [hx]))
  obtain rfl : m = m' := hant m m' (hall m hm) (hall' m' hm') (h m' ((hs m').2 hm')) (h' m ((hs m).1 hm))
  rw [e, e']
  exact ⟨rfl, rfl⟩
theorem bad_iff {K B F R O : Int} (xs : List P2) : (∃ i, i < xs.length ∧ vv K B F R O (xs.getD i (0, 0)).1 (xs.getD i (0, 0)).2 = false) ↔ ∃ x ∈ xs, vv K B F R O x.1 x.2 = false := by
  constructor
  · rintro ⟨i, hi, h⟩
    refine ⟨xs.getD i (0, 0), ?_, h⟩
    rw [List.getD_eq_getElem?_getD, List.getElem?_eq_getElem hi]
    exact List.getElem_mem hi
  · rintro ⟨x, hx, h⟩
    obtain ⟨i, hi, rfl⟩ := List.getElem_of_mem hx
    refine ⟨i, hi, ?_⟩
    rw [List.getD_eq_getElem?_getD, List.getElem?_eq_getElem hi]
    exact h
theorem reo {fold K B F R O : Int} {xs : List P2} (hv : rov fold K B F R O = true) (hne : xs ≠ []) :
    (((rdv fold K B F R O xs).2.2 = 3 ∨ (rdv fold K B F R O xs.reverse).2.2 = 3) ∧ K ≠ 2 ∧ fold ≠ 3 ∧ fold ≠ 4) ∨
    ((rdv fold K B F R O xs).2.2 ≠ 3 ∧ rdv fold K B F R O xs = rdv fold K B F R O xs.reverse) := by
  unfold rov at hv
  rw [Bool.and_eq_true, decide_eq_true_iff] at hv
  obtain ⟨ht, hf⟩ := hv
  have hk : known fold = true := by unfold known; exact decide_eq_true (by omega)
  have E : ∀ l, rdv fold K B F R O l = if (∃ i, i < l.length ∧ vv K B F R O (l.getD i (0, 0)).1 (l.getD i (0, 0)).2 = false) then (0, 0, 1) else rdt fold K B F R O l := fun l => by
    unfold rdv
    rw [if_neg (by rw [hk]; decide), if_neg (by rw [ht]; decide)]
  rw [E, E]
  by_cases hb : ∃ x ∈ xs, vv K B F R O x.1 x.2 = false
  · rw [if_pos ((bad_iff xs).2 hb), if_pos ((bad_iff xs.reverse).2 (by obtain ⟨x, hx, h⟩ := hb; exact ⟨x, List.mem_reverse.2 hx, h⟩))]
    exact Or.inr ⟨by decide, rfl⟩
  rw [if_neg (fun h => hb ((bad_iff xs).1 h)), if_neg (fun h => hb (by obtain ⟨x, hx, h⟩ := (bad_iff xs.reverse).1 h; exact ⟨x, List.mem_reverse.1 hx, h⟩))]
  have hall : ∀ x ∈ xs, vv K B F R O x.1 x.2 = true := fun x hx => by
    cases h : vv K B F R O x.1 x.2
    · exact absurd ⟨x, hx, h⟩ hb
    · rfl
  clear hb
  have hs : ∀ x, x ∈ xs ↔ x ∈ xs.reverse := fun x => List.mem_reverse.symm
  have hrv : (xs.reverse.map q).foldl (cmb fold) (un fold) = (xs.map q).foldl (cmb fold) (un fold) := by rw [List.map_reverse]; exact fold_rev fold _
  have hr0 : xs.reverse ≠ [] := by simpa using hne
  have hall' : ∀ x ∈ xs.reverse, vv K B F R O x.1 x.2 = true := fun x hx => hall x ((hs x).2 hx)
  generalize xs.reverse = ys at *
  cases xs with
  | nil => exact absurd rfl hne
  | cons v r =>
    cases ys with
    | nil => exact absurd rfl hr0
    | cons v' r' =>
      show ((_ = 3 ∨ _) ∧ _) ∨ _
      unfold rdt
      rcases hf with rfl | rfl | ⟨k2, hf⟩
      · right
        obtain ⟨h1, h2⟩ := two_ext (op := 9) (L := le2) (fun a b c ha hb hc => le2_trans (pos2 ha) (pos2 hb) (pos2 hc)) (fun a => Int.le_refl _) (fun a b ha hb => pick_min ha hb)
          (fun a b ha hb h1 h2 => pair_eq (vv_vld ha) (vv_vld hb) (Int.le_antisymm h1 h2)) hs hall
        exact ⟨by show (rdf 9 K B F R O r v).2.2 ≠ 3; rw [h2]; decide, h1⟩
      · right
        obtain ⟨h1, h2⟩ := two_ext (op := 10) (L := fun a b => le2 b a) (fun a b c ha hb hc h1 h2 => le2_trans (pos2 hc) (pos2 hb) (pos2 ha) h2 h1) (fun a => Int.le_refl _) (fun a b ha hb => pick_max ha hb)
          (fun a b ha hb h1 h2 => pair_eq (vv_vld ha) (vv_vld hb) (Int.le_antisymm h2 h1)) hs hall
        exact ⟨by show (rdf 10 K B F R O r v).2.2 ≠ 3; rw [h2]; decide, h1⟩
      · have e1 := rdf_ok hf k2 r v (hall v (by simp)) (fun x hx => hall x (by simp [hx]))
        have e2 := rdf_ok hf k2 r' v' (hall' v' (by simp)) (fun x hx => hall' x (by simp [hx]))
        rcases e1 with ⟨a1, a2, a3⟩ | a
        · rcases e2 with ⟨b1, b2, b3⟩ | b
          · right
            refine ⟨by rw [a1]; decide, ?_⟩
            have hq : q ((rdf (opv fold) K B F R O r v).1, (rdf (opv fold) K B F R O r v).2.1) = q ((rdf (opv fold) K B F R O r' v').1, (rdf (opv fold) K B F R O r' v').2.1) := by
              rw [a3, b3]
              rw [List.map_cons, List.map_cons, List.foldl_cons, List.foldl_cons, cmb_un, cmb_un] at hrv
              exact hrv.symm
            have := q_inj (vv_vld a2) (vv_vld b2) hq
            show rdf (opv fold) K B F R O r v = rdf (opv fold) K B F R O r' v'
            generalize rdf (opv fold) K B F R O r v = A at *
            generalize rdf (opv fold) K B F R O r' v' = B' at *
            obtain ⟨x, y, z⟩ := A
            obtain ⟨x', y', z'⟩ := B'
            simp only [Prod.mk.injEq] at this
            obtain ⟨rfl, rfl⟩ := this
            dsimp only at a1 b1
            rw [a1, b1]
          · left
            exact ⟨Or.inr b, k2, by omega, by omega⟩
        · left
          exact ⟨Or.inl a, k2, by omega, by omega⟩
end Go.Proofs.YtikcinkbkakkmaaDoor.Va
