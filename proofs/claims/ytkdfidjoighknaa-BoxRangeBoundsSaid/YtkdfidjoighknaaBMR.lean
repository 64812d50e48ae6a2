/- Boxes: the mathematics of a range. -/
import Derived.Test.YtkdfidjoighknaaB26
import Derived.Test.YtkdfidjoighknaaBF
namespace Go.Proofs.Ytkdfidjoighknaa.Bx
open Go.ChangeShapes Go.WideShapes Go.ChangeAt Go.RowKit
set_option linter.unusedVariables false
set_option linter.unusedSimpArgs false
open Go.Proofs.Ytkdfidjoighknaa.Nm Go.Proofs.Ytkdfidjoighknaa.Ln
/-- The bindings of a point. -/
def bnd (ns : List ByteArray) (ps : List Int) : List Mo := ns.zip ps
theorem eqs {s t : ByteArray} : (s.toList == t.toList) = true ↔ t = s := by rw [same_iff, decide_eq_true_iff]; exact ⟨fun h => h.symm, fun h => h.symm⟩
theorem fx_cons (n : ByteArray) (ns : List ByteArray) (s : ByteArray) : fx (n :: ns) s = if n = s then 0 else fx ns s + 1 := by
  unfold fx
  rw [List.findIdx_cons]
  by_cases h : n = s
  · rw [if_pos h, eqs.2 h]; rfl
  · rw [if_neg h, show (s.toList == n.toList) = false by cases hb : (s.toList == n.toList) with
      | false => rfl
      | true => exact absurd (eqs.1 hb) h]; rfl
theorem co_bnd : ∀ (ns : List ByteArray) (ps : List Int) (s : ByteArray), ns.length = ps.length → fx ns s < ns.length → co (bnd ns ps) s = ps.getD (fx ns s) 0 ∧ s ∈ (bnd ns ps).map (·.1)
  | [], _, s, _, h => by simp at h
  | n :: ns, [], s, hl, _ => by simp at hl
  | n :: ns, p :: ps, s, hl, h => by
    rw [fx_cons] at h ⊢
    show co ((n, p) :: bnd ns ps) s = _ ∧ s ∈ ((n, p) :: bnd ns ps).map (·.1)
    rw [co_cons]
    by_cases hs : n = s
    · subst hs
      rw [if_pos rfl, if_pos rfl]
      exact ⟨rfl, by simp⟩
    · rw [if_neg hs, if_neg hs]
      rw [if_neg hs] at h
      have ih := co_bnd ns ps s (by simpa using hl) (by simp at h; omega)
      refine ⟨?_, ?_⟩
      · rw [show (p :: ps).getD (fx ns s + 1) 0 = ps.getD (fx ns s) 0 from rfl]; exact ih.1
      · rw [List.map_cons]; exact List.mem_cons_of_mem _ ih.2
theorem fx_inj {ns : List ByteArray} : ∀ {s t : ByteArray}, fx ns s < ns.length → fx ns s = fx ns t → s = t := by
  induction ns with
  | nil => intro s t h; simp at h
  | cons n ns ih =>
    intro s t h e
    rw [fx_cons] at h
    rw [fx_cons, fx_cons] at e
    by_cases h1 : n = s
    · rw [if_pos h1] at e
      by_cases h2 : n = t
      · rw [← h1, h2]
      · rw [if_neg h2] at e; omega
    · rw [if_neg h1] at e h
      by_cases h2 : n = t
      · rw [if_pos h2] at e; omega
      · rw [if_neg h2] at e
        exact ih (by simp at h; omega) (by omega)
theorem stp_neg {zs : List Int} {ns : List ByteArray} {m : Mo} {a b : Int × Int} (h : m.2 < 0) (hs : stp zs ns m a = some b) : b.1 = a.1 + m.2 * (zs.getD (fx ns m.1) 0 - 1) ∧ b.2 = a.2 ∧ F64 b.1 := by
  unfold stp at hs
  rw [if_pos h] at hs
  split at hs
  · rename_i hc
    cases hs
    exact ⟨rfl, rfl, hc.2⟩
  · cases hs
theorem stp_pos {zs : List Int} {ns : List ByteArray} {m : Mo} {a b : Int × Int} (h : ¬ m.2 < 0) (hs : stp zs ns m a = some b) : b.2 = a.2 + m.2 * (zs.getD (fx ns m.1) 0 - 1) ∧ b.1 = a.1 ∧ F64 b.2 := by
  unfold stp at hs
  rw [if_neg h] at hs
  split at hs
  · rename_i hc
    cases hs
    exact ⟨rfl, rfl, hc.2⟩
  · cases hs
theorem rfo_cons {zs : List Int} {ns : List ByteArray} {m : Mo} {ms : List Mo} {a p : Int × Int} (h : rfo zs ns (m :: ms) a = some p) : ∃ b, stp zs ns m a = some b ∧ rfo zs ns ms b = some p := by
  unfold rfo at h
  cases hs : stp zs ns m a with
  | none => rw [hs] at h; cases h
  | some b => rw [hs] at h; exact ⟨b, rfl, h⟩
theorem rfo_fit {zs : List Int} {ns : List ByteArray} : ∀ {xs : List Mo} {a p : Int × Int}, rfo zs ns xs a = some p → F64 a.1 → F64 a.2 → F64 p.1 ∧ F64 p.2
  | [], a, p, h, h1, h2 => by cases h; exact ⟨h1, h2⟩
  | m :: ms, a, p, h, h1, h2 => by
    obtain ⟨b, hs, hr⟩ := rfo_cons h
    by_cases hm : m.2 < 0
    · obtain ⟨e1, e2, f⟩ := stp_neg hm hs
      exact rfo_fit hr f (by rw [e2]; exact h2)
    · obtain ⟨e1, e2, f⟩ := stp_pos hm hs
      exact rfo_fit hr (by rw [e2]; exact h1) f
/-- The value at a point lies between the two answers. -/
theorem rfo_bd {zs ps : List Int} {ns : List ByteArray} (hl : ns.length = ps.length) (hi : ins zs ps) : ∀ {xs : List Mo} {a p : Int × Int}, rfo zs ns xs a = some p → xs.all (kn ns) = true → p.1 ≤ a.1 + evS (bnd ns ps) xs ∧ a.2 + evS (bnd ns ps) xs ≤ p.2
  | [], a, p, h, _ => by cases h; show a.1 ≤ a.1 + 0 ∧ a.2 + 0 ≤ a.2; omega
  | m :: ms, a, p, h, hk => by
    obtain ⟨b, hs, hr⟩ := rfo_cons h
    rw [List.all_cons, Bool.and_eq_true] at hk
    have hf : fx ns m.1 < ns.length := of_decide_eq_true hk.1
    have ih := rfo_bd hl hi hr hk.2
    have hc := (co_bnd ns ps m.1 hl hf).1
    have hp := hi.2 (fx ns m.1) (by have := hi.1; omega)
    show p.1 ≤ a.1 + (m.2 * co (bnd ns ps) m.1 + evS (bnd ns ps) ms) ∧ a.2 + (m.2 * co (bnd ns ps) m.1 + evS (bnd ns ps) ms) ≤ p.2
    rw [hc]
    obtain ⟨x, hx⟩ : ∃ x, ps.getD (fx ns m.1) 0 = x := ⟨_, rfl⟩
    obtain ⟨z, hz⟩ : ∃ z, zs.getD (fx ns m.1) 0 = z := ⟨_, rfl⟩
    rw [hx] at hp ⊢
    rw [hz] at hp
    by_cases hm : m.2 < 0
    · obtain ⟨e1, e2, f⟩ := stp_neg hm hs
      rw [hz] at e1
      have n1 := Int.mul_le_mul_of_nonpos_left (a := m.2) (by omega) (by omega : x ≤ z - 1)
      have n2 := Int.mul_le_mul_of_nonpos_left (a := m.2) (by omega) (by omega : 0 ≤ x)
      rw [Int.mul_zero] at n2
      omega
    · obtain ⟨e1, e2, f⟩ := stp_pos hm hs
      rw [hz] at e1
      have n1 := Int.mul_le_mul_of_nonneg_left (c := m.2) (by omega : x ≤ z - 1) (by omega)
      have n2 := Int.mul_nonneg (by omega : 0 ≤ m.2) hp.1
      omega
theorem rfo_lo {zs ps : List Int} {ns : List ByteArray} : ∀ {xs : List Mo} {a p : Int × Int}, rfo zs ns xs a = some p → (∀ m ∈ xs, co (bnd ns ps) m.1 = if m.2 < 0 then zs.getD (fx ns m.1) 0 - 1 else 0) → p.1 = a.1 + evS (bnd ns ps) xs
  | [], a, p, h, _ => by cases h; show a.1 = a.1 + 0; omega
  | m :: ms, a, p, h, hc => by
    obtain ⟨b, hs, hr⟩ := rfo_cons h
    have ih := rfo_lo (ps := ps) hr (fun x hx => hc x (by simp [hx]))
    show p.1 = a.1 + (m.2 * co (bnd ns ps) m.1 + evS (bnd ns ps) ms)
    rw [hc m (by simp)]
    by_cases hm : m.2 < 0
    · rw [if_pos hm]
      have := (stp_neg hm hs).1
      omega
    · rw [if_neg hm, Int.mul_zero]
      have := (stp_pos hm hs).2.1
      omega
theorem rfo_hi {zs ps : List Int} {ns : List ByteArray} : ∀ {xs : List Mo} {a p : Int × Int}, rfo zs ns xs a = some p → (∀ m ∈ xs, co (bnd ns ps) m.1 = if ¬ m.2 < 0 then zs.getD (fx ns m.1) 0 - 1 else 0) → p.2 = a.2 + evS (bnd ns ps) xs
  | [], a, p, h, _ => by cases h; show a.2 = a.2 + 0; omega
  | m :: ms, a, p, h, hc => by
    obtain ⟨b, hs, hr⟩ := rfo_cons h
    have ih := rfo_hi (ps := ps) hr (fun x hx => hc x (by simp [hx]))
    show p.2 = a.2 + (m.2 * co (bnd ns ps) m.1 + evS (bnd ns ps) ms)
    rw [hc m (by simp)]
    by_cases hm : m.2 < 0
    · rw [if_neg (fun h => h hm), Int.mul_zero]
      have := (stp_neg hm hs).2.1
      omega
    · rw [if_pos hm]
      have := (stp_pos hm hs).1
      omega
/-- A corner of the box: the last place where a monomial of that kind has the name. -/
def crn (σ : Int → Bool) (xs : List Mo) (ns : List ByteArray) (zs : List Int) : List Int := (List.range zs.length).map fun j => if xs.any (fun m => σ m.2 && decide (fx ns m.1 = j)) = true then zs.getD j 0 - 1 else 0
theorem crn_length (σ : Int → Bool) (xs : List Mo) (ns : List ByteArray) (zs : List Int) : (crn σ xs ns zs).length = zs.length := by unfold crn; simp
theorem crn_get {σ : Int → Bool} {xs : List Mo} {ns : List ByteArray} {zs : List Int} {j : Nat} (hj : j < zs.length) : (crn σ xs ns zs).getD j 0 = if xs.any (fun m => σ m.2 && decide (fx ns m.1 = j)) = true then zs.getD j 0 - 1 else 0 := by
  unfold crn List.getD
  rw [List.getElem?_map, List.getElem?_range hj]
  rfl
theorem crn_ins {σ : Int → Bool} {xs : List Mo} {ns : List ByteArray} {zs : List Int} (hl : zs.any low = false) : ins zs (crn σ xs ns zs) := by
  refine ⟨crn_length _ _ _ _, fun j hj => ?_⟩
  rw [crn_get hj]
  have := pos_of hl hj
  split <;> omega
theorem crn_at {σ : Int → Bool} {xs : List Mo} {ns : List ByteArray} {zs : List Int} (hl : ns.length = zs.length) (hk : xs.all (kn ns) = true) (hd : (xs.map (·.1)).Nodup) {m : Mo} (hm : m ∈ xs) : (crn σ xs ns zs).getD (fx ns m.1) 0 = if σ m.2 = true then zs.getD (fx ns m.1) 0 - 1 else 0 := by
  have hf : fx ns m.1 < ns.length := of_decide_eq_true (List.all_eq_true.1 hk m hm)
  rw [crn_get (by omega)]
  by_cases hs : σ m.2 = true
  · rw [if_pos hs, if_pos]
    rw [List.any_eq_true]
    exact ⟨m, hm, by rw [hs, decide_eq_true rfl]; rfl⟩
  · rw [if_neg hs, if_neg]
    intro h
    obtain ⟨x, hx, h⟩ := List.any_eq_true.1 h
    rw [Bool.and_eq_true] at h
    have e := fx_inj (by have : fx ns x.1 < ns.length := of_decide_eq_true (List.all_eq_true.1 hk x hx); exact this) (of_decide_eq_true h.2)
    have : x = m := by
      obtain ⟨i, hi, rfl⟩ := List.getElem_of_mem hx
      obtain ⟨j, hj, rfl⟩ := List.getElem_of_mem hm
      have h2 := (List.getElem_inj (h₀ := by simpa using hi) (h₁ := by simpa using hj) hd).1 (by simpa using e)
      subst h2; rfl
    rw [this] at h
    exact hs h.1
theorem evV_lo {xs : List Mo} {ns : List ByteArray} {zs : List Int} {a p : Int × Int} (hl : ns.length = zs.length) (hk : xs.all (kn ns) = true) (hd : (xs.map (·.1)).Nodup) (h : rfo zs ns xs a = some p) : p.1 = a.1 + evS (bnd ns (crn (fun c => decide (c < 0)) xs ns zs)) xs := by
  refine rfo_lo h fun m hm => ?_
  have hf : fx ns m.1 < ns.length := of_decide_eq_true (List.all_eq_true.1 hk m hm)
  rw [(co_bnd ns _ m.1 (by rw [crn_length, hl]) hf).1, crn_at hl hk hd hm]
  by_cases hc : m.2 < 0 <;> simp [hc]
theorem evV_hi {xs : List Mo} {ns : List ByteArray} {zs : List Int} {a p : Int × Int} (hl : ns.length = zs.length) (hk : xs.all (kn ns) = true) (hd : (xs.map (·.1)).Nodup) (h : rfo zs ns xs a = some p) : p.2 = a.2 + evS (bnd ns (crn (fun c => decide (¬ c < 0)) xs ns zs)) xs := by
  refine rfo_hi h fun m hm => ?_
  have hf : fx ns m.1 < ns.length := of_decide_eq_true (List.all_eq_true.1 hk m hm)
  rw [(co_bnd ns _ m.1 (by rw [crn_length, hl]) hf).1, crn_at hl hk hd hm]
  by_cases hc : m.2 < 0 <;> simp [hc]
theorem okL_nodup {xs : List Mo} (h : okL xs = true) : (xs.map (·.1)).Nodup := by
  have := (okL_iff.1 h).1
  refine List.Pairwise.imp ?_ this
  intro a b hab e
  subst e
  exact slt_irrefl _ hab
/-- What Range answers. -/
theorem rT_cases (k : Int) (xs : List Mo) (ns : List ByteArray) (zs : List Int) : ((rT k xs ns zs).1 = 0 ∧ (rT k xs ns zs).2.1 = 0 ∧ (rT k xs ns zs).2.2 ≠ 0) ∨
    (okL xs = true ∧ bV zs = 0 ∧ ns.length = zs.length ∧ cnt zs ≠ 0 ∧ xs.all (kn ns) = true ∧ ∃ p, rfo zs ns xs (k, k) = some p ∧ rT k xs ns zs = (p.1, p.2, 0)) := by
  by_cases h1 : okL xs = true
  · by_cases h2 : bV zs = 0
    · by_cases h3 : ns.length = zs.length ∧ cnt zs ≠ 0
      · by_cases h4 : xs.all (kn ns) = true
        · cases h5 : rfo zs ns xs (k, k) with
          | none => rw [rT5 h1 h2 h3 h4 h5]; exact .inl ⟨rfl, rfl, by decide⟩
          | some p => exact .inr ⟨h1, h2, h3.1, h3.2, h4, p, rfl, rT6 h1 h2 h3 h4 h5⟩
        · rw [rT4 h1 h2 h3 h4]; exact .inl ⟨rfl, rfl, by decide⟩
      · rw [rT3 h1 h2 h3]; exact .inl ⟨rfl, rfl, by decide⟩
    · rw [rT2 h1 h2]; exact .inl ⟨rfl, rfl, h2⟩
  · rw [rT1 h1]; exact .inl ⟨rfl, rfl, by decide⟩
/-- The value of the form at the point of a rank. -/
def vAt (k : Int) (xs : List Mo) (ns : List ByteArray) (zs : List Int) (a : Int) : Int := k + evS (bnd ns (pt zs a)) xs
/-- All that the walk asks of a range that is given. -/
theorem rng_facts {k : Int} {xs : List Mo} {ns : List ByteArray} {zs : List Int} {p : Int × Int} (hk0 : F64 k) (h1 : okL xs = true) (h2 : bV zs = 0) (h3 : ns.length = zs.length) (h4 : cnt zs ≠ 0) (h5 : xs.all (kn ns) = true) (h6 : rfo zs ns xs (k, k) = some p) :
    0 < cnt zs ∧ F64 p.1 ∧ F64 p.2 ∧ (∀ a, 0 ≤ a → a < cnt zs → p.1 ≤ vAt k xs ns zs a ∧ vAt k xs ns zs a ≤ p.2 ∧ ∀ x e, EV k xs (bnd ns (pt zs a)) x e → x = vAt k xs ns zs a ∧ e = 0) ∧
      (∃ a : Nat, (a : Int) < cnt zs ∧ vAt k xs ns zs a = p.1) ∧ (∃ a : Nat, (a : Int) < cnt zs ∧ vAt k xs ns zs a = p.2) := by
  have hd := okL_nodup h1
  have hz : zs.any zr = false := by
    cases hz : zs.any zr with
    | false => rfl
    | true => exact absurd (by unfold cnt; rw [if_pos h2]; exact sp_zero hz) h4
  obtain ⟨hl, s1, s2⟩ := bV_zero_full h2 hz
  have hc : cnt zs = sp zs := by unfold cnt; rw [if_pos h2]
  rw [hc]
  obtain ⟨f1, f2⟩ := rfo_fit h6 hk0 hk0
  have hpl : ∀ a, ns.length = (pt zs a).length := fun a => by rw [pt_length, h3]
  have corner : ∀ q, ins zs q → ∃ a : Nat, (a : Int) < sp zs ∧ pt zs a = q := fun q hq => by
    have r0 := rk_nonneg hq (Nat.le_refl _)
    have r1 := rk_last hq
    refine ⟨(rk zs q zs.length).toNat, by omega, ?_⟩
    rw [Int.toNat_of_nonneg r0]
    exact pt_rk hq
  refine ⟨by omega, f1, f2, fun a a0 a1 => ?_, ?_, ?_⟩
  · have hb := rfo_bd (hpl a) (pt_ins hl a) h6 h5
    refine ⟨hb.1, hb.2, fun x e hE => ?_⟩
    have hall : ∀ m ∈ xs, m.1 ∈ (bnd ns (pt zs a)).map (·.1) := fun m hm => (co_bnd ns _ m.1 (hpl a) (of_decide_eq_true (List.all_eq_true.1 h5 m hm))).2
    have hfit : fit64 (k + evS (bnd ns (pt zs a)) xs) = true := by
      rw [fit_yes]
      unfold F64 at f1 f2
      have b1 := hb.1
      have b2 := hb.2
      simp only at b1 b2
      omega
    rcases hE with ⟨a', _⟩ | ⟨_, ⟨m, hm, b⟩, _⟩ | ⟨_, _, _, hx, he⟩ | ⟨_, _, c', _⟩
    · rw [h1] at a'; cases a'
    · exact absurd (hall m hm) b
    · exact ⟨hx, he⟩
    · rw [hfit] at c'; cases c'
  · obtain ⟨a, ha, hq⟩ := corner _ (crn_ins (σ := fun c => decide (c < 0)) (xs := xs) (ns := ns) hl)
    refine ⟨a, ha, ?_⟩
    unfold vAt
    rw [hq]
    exact (evV_lo h3 h5 hd h6).symm
  · obtain ⟨a, ha, hq⟩ := corner _ (crn_ins (σ := fun c => decide (¬ c < 0)) (xs := xs) (ns := ns) hl)
    refine ⟨a, ha, ?_⟩
    unfold vAt
    rw [hq]
    exact (evV_hi h3 h5 hd h6).symm
end Go.Proofs.Ytkdfidjoighknaa.Bx
