/- For all forms, names and extents, where Range answers, the value at every point lies between its two results and both are taken; else both are zero (P9.6; at most 40 monomials, 1000 names and 500 points, as the statement itself says). No condition. -/
import Derived.Test.YtkdfidjoighknaaB28
import Derived.SliceStrings
import Derived.Lib.SmallJoins
import Derived.Deep.Slices
import Derived.Deep.Fields
import Derived.ChangeSame
import Derived.Carry
import Derived.ProofKit
import Derived.LaidMore
import Derived.OpenShut
namespace Go.Proofs.Ytkdfidjoighknaa.boxRangeBounds
open Go.ChangeShapes Go.WideShapes Go.ChangeAt Go.RowKit Go.Joins Go.Deep
set_option linter.unusedVariables false

theorem own : ownKnob Try.prog.godebug = none := by kernel_rfl
theorem laidOut : laidOutB Try.prog = true := by kernel_rfl
theorem cells44 : Try.prog.cellsOf 44 = 2 := by kernel_rfl
section
variable {H : Type} {enc : TypeId × Value → H} {P : Program} {w : World} {base : Nat} {spare : Nat → Bool} {held : Bool}
theorem open_slice_fields {t e : TypeId} {fs : Array Field} {fuel : Nat} {cs : List Value} {x : DataW H × List MemPlace} (ht : P.underlying t = some (.slice e)) (he : P.underlying e = some (.struct fs))
    (hone : oneCellFields P fs = true) (hC : P.cellsOf e = fs.size) (h : DataW.trod enc P w base spare held fuel t cs = some x) :
    (cs = [.slice none 0 0] ∧ x = (.nil, [])) ∨
    ∃ (a : Addr) (len cap m : Nat) (D : Nat → DataW H) (Pl : Nat → List MemPlace), cs = [.slice (some a) len cap] ∧ base ≤ a.block ∧ len ≤ cap ∧ cap ≤ maxLen ∧ m = (if spare a.block then cap else len) ∧
      x = (.slice ((List.range len).map D) ((List.range (m - len)).map fun j => D (len + j)), MemPlace.row a (m * fs.size) ++ (List.range m).flatMap Pl) ∧
      ∀ i, i < m → ∃ (ys : List (DataW H × List MemPlace)) (n : Nat), D i = .agg (ys.map (·.1)) ∧ Pl i = ys.flatMap (·.2) ∧ ys.length = fs.size ∧
        ∀ (j : Nat) (f : Field), fs[j]? = some f → ∃ (v : Value) (y : DataW H × List MemPlace), w.cell? (a.add (i * fs.size + j)) = some v ∧ ys[j]? = some y ∧ DataW.trod enc P w base spare held n f.type [v] = some y := by
  rcases open_slice ht h with h0 | ⟨a, len, cap, m, n, D, Pl, hcs, hb, hl, hm, hmm, hx, hi⟩
  · exact .inl h0
  · refine .inr ⟨a, len, cap, m, D, Pl, hcs, hb, hl, hm, hmm, by rw [hC] at hx; exact hx, fun i him => ?_⟩
    obtain ⟨cs', hc, ht'⟩ := hi i him
    rw [hC] at hc
    obtain ⟨ys, n', hn', hy, hlen, hyl, hf⟩ := DataW.trod_struct he ht'
    obtain ⟨_, hcl, hat⟩ := World.cells?_some hc
    simp only [Prod.mk.injEq] at hy
    refine ⟨ys, n', hy.1, hy.2, hyl, fun j f hj => ?_⟩
    obtain ⟨ho, hk⟩ := hone_of hone j f hj
    have hjl : j < fs.size := (Array.getElem?_eq_some_iff.1 hj).1
    have hcell := hat j hjl
    have hv : cs'[j]? = some (cs'[j]'(by omega)) := List.getElem?_eq_getElem (by omega)
    have h1 := hf j f hj
    rw [ho, hk] at h1
    have hone' : (cs'.drop j).take 1 = [cs'[j]'(by omega)] := by
      rw [List.drop_eq_getElem_cons (by omega)]
      rfl
    rw [hone'] at h1
    have hys : ys[j]? = some (ys[j]'(by omega)) := List.getElem?_eq_getElem (by omega)
    refine ⟨_, _, ?_, hys, h1.trans hys⟩
    rw [← Go.Deep.add_add, hcell, hv]

end
set_option maxRecDepth 100000 in
open Bx in
theorem ints_arg {H : Type} {enc : TypeId × Value → H} {W : World} {sp : Nat → Bool} {v : Value} {d : DataW H} {ps : List MemPlace} {r : Reach} {b0 : Nat} (hlt : ∀ x ∈ ps, x.block < W.heap.size) (hv : Value.okWide Try.prog W r b0 22 v)
    (h : DataW.Trod enc Try.prog W 0 sp true 22 v d ps) : ∃ (p : Option Addr) (zs : List Int) (c : Nat), v = .slice p zs.length c ∧ zs.length ≤ c ∧ c ≤ maxLen ∧ SlI W p zs ∧ ∀ z ∈ zs, -9223372036854775808 ≤ z ∧ z ≤ 9223372036854775807 := by
  obtain ⟨s, l, c, rfl⟩ := okWide_slice Try.underlying22 hv
  obtain ⟨fuel, h⟩ := h
  rcases open_ints Try.underlying22 Try.underlying3 (by kernel_rfl) h with ⟨hc, _⟩ | ⟨a, len, cap, zs, hc, hb, hl, hm, hz, hx, hi, hw⟩
  · simp [Value.cells] at hc
    obtain ⟨rfl, rfl, rfl⟩ := hc
    exact ⟨none, [], 0, rfl, Nat.le_refl _, Nat.zero_le _, fun i hi => absurd hi (by simp), fun z hz => by cases hz⟩
  · simp [Value.cells] at hc
    obtain ⟨rfl, rfl, rfl⟩ := hc
    have hlz : l ≤ zs.length := by rw [hz]; split <;> omega
    have hlen : (zs.take l).length = l := by rw [List.length_take]; omega
    refine ⟨some a, zs.take l, c, by rw [hlen], by omega, hm, fun i hil => ?_, fun z hz => bounds_i64 (hw z (List.mem_of_mem_take hz))⟩
    rw [hlen] at hil
    have h1 := hi i (by omega)
    have hspot : a.spot = none := by
      have h0 := World.cell?_spot (hi 0 (by omega))
      simpa [Addr.add] using h0
    obtain ⟨b, off, spot⟩ := a
    simp at hspot
    subst hspot
    refine ⟨b, off, rfl, ?_⟩
    have e : (⟨b, off, none⟩ : Addr).add i = ⟨b, off + i, none⟩ := by
      unfold Addr.add
      split
      · simp [*]
      · rfl
    rw [e] at h1
    rw [h1]
    congr 2
    unfold List.getD
    rw [List.getElem?_take_of_lt hil]
theorem pick_monos {p : Nat → Ln.Mo → Prop} {l : Nat} (h : ∀ i, i < l → ∃ x, p i x) : ∃ X : Nat → Ln.Mo, ∀ i, i < l → p i (X i) := by
  have h' : ∀ i, ∃ x, i < l → p i x := fun i => by
    by_cases hi : i < l
    · obtain ⟨x, hx⟩ := h i hi
      exact ⟨x, fun _ => hx⟩
    · exact ⟨Ln.mo0, fun h => absurd h hi⟩
  exact ⟨fun i => Classical.choose (h' i), fun i => Classical.choose_spec (h' i)⟩
set_option maxRecDepth 100000 in
theorem monos_cells {H : Type} {enc : TypeId × Value → H} {W : World} {sp : Nat → Bool} {v : Value} {n : Nat} {y : DataW H × List MemPlace}
    (h : DataW.trod enc Try.prog W 0 sp true n 42 [v] = some y) : ∃ (p : Option Addr) (zs : List Ln.Mo) (c : Nat), v = .slice p zs.length c ∧ zs.length ≤ c ∧ c ≤ maxLen ∧ Ln.SlM W p zs ∧ ∀ z ∈ zs, z.1.size ≤ maxLen ∧ (-9223372036854775808 ≤ z.2 ∧ z.2 ≤ 9223372036854775807) := by
  obtain ⟨d, ps⟩ := y
  rcases open_slice_fields (P := Try.prog) Try.underlying42 Try.underlying72 (by kernel_rfl) (by kernel_rfl) h with ⟨hc, _⟩ | ⟨a, len, cap, m, D, Pl, hc, hb, hl, hm, hmm, hx, hi⟩
  · simp at hc
    subst hc
    exact ⟨none, [], 0, rfl, Nat.le_refl _, Nat.zero_le _, fun i hi => absurd hi (by simp), fun z hz => by cases hz⟩
  · simp at hc
    subst hc
    obtain ⟨l, hl0⟩ : ∃ l, l = len := ⟨_, rfl⟩
    subst hl0
    obtain ⟨c, hc0⟩ : ∃ c, c = cap := ⟨_, rfl⟩
    subst hc0
    have hlm : l ≤ m := by rw [hmm]; split <;> omega
    have each : ∀ i, i < l → ∃ x : Ln.Mo, (W.cell? (a.add (i * 2)) = some (.string x.1) ∧ W.cell? (a.add (i * 2 + 1)) = some (.int .i64 x.2)) ∧ x.1.size ≤ maxLen ∧ (-9223372036854775808 ≤ x.2 ∧ x.2 ≤ 9223372036854775807) := by
      intro i hil
      obtain ⟨ys, n2, _, _, _, hf⟩ := hi i (by omega)
      obtain ⟨v0, y0, c0, _, t0⟩ := hf 0 _ rfl
      obtain ⟨v1, y1, c1, _, t1⟩ := hf 1 _ rfl
      obtain ⟨s0, e0, _, w0⟩ := DataW.trod_string Try.underlying9 t0
      obtain ⟨s1, e1, _, w1⟩ := DataW.trod_int Try.underlying2 t1
      simp only [List.cons.injEq, and_true] at e0 e1
      subst e0 e1
      exact ⟨(s0, s1), ⟨c0, c1⟩, w0, bounds_i64 w1⟩
    obtain ⟨X, hX⟩ := pick_monos each
    have hlen : ((List.range l).map X).length = l := by simp
    have hget : ∀ i, i < l → ((List.range l).map X).getD i Ln.mo0 = X i := fun i hil => by simp [List.getD, hil]
    refine ⟨some a, (List.range l).map X, c, by rw [hlen], by rw [hlen]; omega, hm, fun i hil => ?_, fun z hz => ?_⟩
    · rw [hlen] at hil
      have hspot : a.spot = none := by
        have h1 := (hX 0 (by omega)).1.1
        simp [Addr.add] at h1
        exact World.cell?_spot h1
      obtain ⟨b, off, spot⟩ := a
      simp at hspot
      subst hspot
      have e : ∀ k : Nat, (⟨b, off, none⟩ : Addr).add k = ⟨b, off + k, none⟩ := fun k => by
        unfold Addr.add
        split
        · simp [*]
        · rfl
      have h1 := (hX i hil).1
      rw [e, e] at h1
      rw [hget i hil]
      exact ⟨b, off, rfl, h1.1, by rw [Nat.add_assoc]; exact h1.2⟩
    · obtain ⟨i, hi2, rfl⟩ := List.mem_map.1 hz
      exact (hX i (List.mem_range.1 hi2)).2
set_option maxRecDepth 100000 in
theorem strs_arg {H : Type} {enc : TypeId × Value → H} {W : World} {sp : Nat → Bool} {v : Value} {d : DataW H} {ps : List MemPlace} {r : Reach} {b0 : Nat} (hlt : ∀ x ∈ ps, x.block < W.heap.size) (hv : Value.okWide Try.prog W r b0 45 v)
    (h : DataW.Trod enc Try.prog W 0 sp true 45 v d ps) : ∃ (p : Option Addr) (zs : List ByteArray) (c : Nat), v = .slice p zs.length c ∧ zs.length ≤ c ∧ c ≤ maxLen ∧ Nm.SlT W p zs ∧ ∀ z ∈ zs, z.size ≤ maxLen := by
  obtain ⟨s, l, c, rfl⟩ := okWide_slice Try.underlying45 hv
  obtain ⟨fuel, h⟩ := h
  rcases open_strings Try.underlying45 Try.underlying9 (by kernel_rfl) h with ⟨hc, _⟩ | ⟨a, len, cap, zs, hc, hb, hl, hm, hz, hx, hi, hw⟩
  · simp [Value.cells] at hc
    obtain ⟨rfl, rfl, rfl⟩ := hc
    exact ⟨none, [], 0, rfl, Nat.le_refl _, Nat.zero_le _, fun i hi => absurd hi (by simp), fun z hz => by cases hz⟩
  · simp [Value.cells] at hc
    obtain ⟨rfl, rfl, rfl⟩ := hc
    have hlz : l ≤ zs.length := by rw [hz]; split <;> omega
    have hlen : (zs.take l).length = l := by rw [List.length_take]; omega
    refine ⟨some a, zs.take l, c, by rw [hlen], by omega, hm, fun i hil => ?_, fun z hz => hw z (List.mem_of_mem_take hz)⟩
    rw [hlen] at hil
    have h1 := hi i (by omega)
    have hspot : a.spot = none := by
      have h0 := World.cell?_spot (hi 0 (by omega))
      simpa [Addr.add] using h0
    obtain ⟨b, off, spot⟩ := a
    simp at hspot
    subst hspot
    refine ⟨b, off, rfl, ?_⟩
    have e : (⟨b, off, none⟩ : Addr).add i = ⟨b, off + i, none⟩ := by
      unfold Addr.add
      split
      · simp [*]
      · rfl
    rw [e] at h1
    rw [h1]
    congr 2
    unfold List.getD
    rw [List.getElem?_take_of_lt hil]

set_option maxRecDepth 100000 in
theorem lifted (os : Os) (started : os.Started) (H : Type) (enc : TypeId × Value → H) :
    ReturnsInHanded {} Try.checked os 9 .any (Rows.boxRangeBoundsSpec.pre6 enc Try.prog Try.f9 Rows.boxRangeBoundsRow.domain false) (Rows.boxRangeBoundsSpec.post enc Try.prog Try.f9 false true false false) := by
  refine returnsInHanded_of_change (C := Try.checked) own started (by kernel_rfl) Try.func9
    (ChangeSpec.witness6 (enc := enc) (C := Try.checked) false ⟨#[], #[.agg #[.int .i64 0, .slice none 0 0], .slice none 0 0, .slice none 0 0], []⟩ 8 (by kernel_rfl) (by kernel_rfl) (by kernel_rfl) (by kernel_rfl)) ?_
  intro W base args ds gs before hval0 hW hcnd _
  have hval : ∀ (j : Nat) t v, Try.f9.params[j]? = some t → args[j]? = some v → Value.okWide Try.prog W .any base t v := hval0
  have hW' := hW
  obtain ⟨p, q, hA0, hV, rfl, hfz, hnd⟩ := hW
  have hA : DataW.TrodAll enc Try.prog W 0 (fun _ => true) true Try.f9.params.toList args.toList ds p := hA0
  rw [Try.params9] at hA hval
  obtain ⟨v0, vs0, d0, ds0, p0, q0, hargs, rfl, rfl, h0, r0⟩ := trodAll_cons hA
  obtain ⟨v1, vs1, d1, ds1, p1, q1, rfl, rfl, rfl, h1, r1⟩ := trodAll_cons r0
  obtain ⟨v2, vs2, d2, ds2, p2, q2, rfl, rfl, rfl, h2, r2⟩ := trodAll_cons r1
  obtain ⟨rfl, rfl, rfl⟩ := trodAll_nil r2
  obtain rfl : args = #[v0, v1, v2] := by cases args; simp_all
  obtain ⟨rfl, rfl⟩ := trodVars_none hV
  have lt0 : ∀ x ∈ p0, x.block < W.heap.size := fun x hx => hW'.lt x (by simp [hx])
  have lt1 : ∀ x ∈ p1, x.block < W.heap.size := fun x hx => hW'.lt x (by simp [hx])
  have lt2 : ∀ x ∈ p2, x.block < W.heap.size := fun x hx => hW'.lt x (by simp [hx])
  have g0 := h0
  have g1 := h1
  have g2 := h2
  obtain ⟨c0x0, c0x1, y0x0, y0x1, m0, rfl, hd0, hp0, z0x0, z0x1⟩ := open_agg2 Try.underlying44 (by kernel_rfl) cells44 (hval 0 44 v0 rfl rfl) g0
  obtain ⟨a0, e0, _, w0⟩ := DataW.trod_int Try.underlying2 z0x0
  simp only [List.cons.injEq, and_true] at e0
  subst e0
  obtain ⟨P0, Z0, C0, rfl, lc0, mc0, S0, b0⟩ := monos_cells z0x1
  obtain ⟨P1, Z1, C1, rfl, lc1, mc1, S1, b1⟩ := strs_arg lt1 (hval 1 45 v1 rfl rfl) g1
  obtain ⟨P2, Z2, C2, rfl, lc2, mc2, S2, b2⟩ := ints_arg lt2 (hval 2 22 v2 rfl rfl) g2
  clear hA0 hval0
  simp only [List.append_nil] at hW'
  refine (Bx.law9 a0 P0 Z0 C0 P1 Z1 C1 P2 Z2 C2 W (bounds_i64 w0) lc0 mc0 (Lib.hid S0) b0 lc1 mc1 (Lib.hid S1) b1 lc2 mc2 (Lib.hid S2) b2).mono fun e W' ⟨he, bel⟩ => ?_
  subst he
  exact ⟨_, rfl, _, _, _, [], _, [], hW', trodAll_mk1 (shut_bool Try.underlying4 _), (trodAll_cons_mk (Below.trod laidOut (by kernel_rfl) (of_decide_eq_true (by kernel_rfl)) h0 bel lt0) (trodAll_cons_mk (Below.trod laidOut (by kernel_rfl) (of_decide_eq_true (by kernel_rfl)) h1 bel lt1) (trodAll_cons_mk (Below.trod laidOut (by kernel_rfl) (of_decide_eq_true (by kernel_rfl)) h2 bel lt2) trodAll_mk0))), rfl, bel.frame _, fun h => by cases h⟩

theorem over : Rows.boxRangeBoundsRow.holds Try.pinned (OpenSpec.ofChange Rows.boxRangeBoundsSpec) :=
  OpenClaim.holds_of_wide 9 Try.f9 rfl rfl rfl rfl rfl rfl rfl ⟨rfl, rfl, rfl, rfl, rfl⟩ rfl rfl rfl rfl rfl (by kernel_rfl) Try.func9 (by kernel_rfl)
    (of_decide_eq_true (by kernel_rfl)) (by unfold Func.isWrapper; first | (rw [if_pos (by decide +kernel)]; kernel_rfl) | (rw [if_neg (by decide +kernel)]; exact ⟨rfl, rfl⟩))
    (fun os started H enc _ => lifted os started H enc)

theorem proved : Rows.BoxRangeBoundsSaid := over
#print axioms proved
end Go.Proofs.Ytkdfidjoighknaa.boxRangeBounds
