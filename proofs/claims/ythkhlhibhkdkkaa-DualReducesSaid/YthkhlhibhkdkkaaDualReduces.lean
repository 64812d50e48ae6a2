/- For any fold and list of dual numbers, Reduce combines them as the reference does (P25.2; at most 60, as the statement itself says). No condition. -/
import Derived.Test.YthkhlhibhkdkkaaD14
import Derived.Lib.Hide
import Derived.Lib.SmallJoins
import Derived.Deep.Slices
import Derived.Deep.Fields
import Derived.ChangeSame
import Derived.Carry
import Derived.ProofKit
import Derived.LaidMore
import Derived.OpenShut

namespace Go.Proofs.Ythkhlhibhkdkkaa.dualReduces
open Go.ChangeShapes Go.WideShapes Go.ChangeAt Go.RowKit Go.Joins Go.Deep
set_option linter.unusedVariables false

theorem own : ownKnob Try.prog.godebug = none := by kernel_rfl
theorem laidOut : laidOutB Try.prog = true := by kernel_rfl
theorem cells25 : Try.prog.cellsOf 25 = 4 := by kernel_rfl
theorem okv : Try.prog.cellsOf 23 = 2 := by kernel_rfl
set_option maxRecDepth 100000 in
theorem dual_cells {H : Type} {enc : TypeId × Value → H} {W : World} {sp : Nat → Bool} {cs : List Value} {n0 : Nat} {x : DataW H × List MemPlace} (hl : cs.length = 4)
    (hf : DataW.trod enc Try.prog W 0 sp true n0 25 cs = some x) : ∃ a0 a1 a2 a3 : Int, cs = [.int .i64 a0, .int .i64 a1, .int .i64 a2, .int .i64 a3] ∧ (-9223372036854775808 ≤ a0 ∧ a0 ≤ 9223372036854775807) := by
  match cs, hl with
  | [c0, c1, c2, c3], _ =>
    obtain ⟨y0, y1, n, hx, _, h0, h1⟩ := trod_struct2 Try.underlying25 hf
    have t0 : DataW.trod enc Try.prog W 0 sp true n 23 [c0, c1] = some y0 := by simpa [Value.cells, okv] using h0
    have t1 : DataW.trod enc Try.prog W 0 sp true n 23 [c2, c3] = some y1 := by simpa [Value.cells, okv] using h1
    obtain ⟨z0, z1, n2, _, _, p0, p1⟩ := trod_struct2 Try.underlying23 t0
    obtain ⟨z2, z3, n3, _, _, p2, p3⟩ := trod_struct2 Try.underlying23 t1
    have k1 : Try.prog.cellsOf 2 = 1 := by kernel_rfl
    obtain ⟨a0, e0, _, w0⟩ := DataW.trod_int Try.underlying2 (show DataW.trod enc Try.prog W 0 sp true n2 2 [c0] = some z0 by simpa [k1] using p0)
    obtain ⟨a1, e1, _, w1⟩ := DataW.trod_int Try.underlying2 (show DataW.trod enc Try.prog W 0 sp true n2 2 [c1] = some z1 by simpa [k1] using p1)
    obtain ⟨a2, e2, _, w2⟩ := DataW.trod_int Try.underlying2 (show DataW.trod enc Try.prog W 0 sp true n3 2 [c2] = some z2 by simpa [k1] using p2)
    obtain ⟨a3, e3, _, w3⟩ := DataW.trod_int Try.underlying2 (show DataW.trod enc Try.prog W 0 sp true n3 2 [c3] = some z3 by simpa [k1] using p3)
    simp only [List.cons.injEq, and_true] at e0 e1 e2 e3
    subst e0 e1 e2 e3
    exact ⟨a0, a1, a2, a3, rfl, bounds_i64 w0⟩
theorem pick {p : Nat → Va.Q4 → Prop} {l : Nat} (h : ∀ i, i < l → ∃ x, p i x) : ∃ X : Nat → Va.Q4, ∀ i, i < l → p i (X i) := by
  have h' : ∀ i, ∃ x, i < l → p i x := fun i => by
    by_cases hi : i < l
    · obtain ⟨x, hx⟩ := h i hi
      exact ⟨x, fun _ => hx⟩
    · exact ⟨Va.q0, fun h => absurd h hi⟩
  exact ⟨fun i => Classical.choose (h' i), fun i => Classical.choose_spec (h' i)⟩
set_option maxRecDepth 100000 in
theorem duals_arg {H : Type} {enc : TypeId × Value → H} {W : World} {sp : Nat → Bool} {v : Value} {d : DataW H} {ps : List MemPlace} {r : Reach} {b0 : Nat} (hlt : ∀ x ∈ ps, x.block < W.heap.size) (hv : Value.okWide Try.prog W r b0 36 v)
    (h : DataW.Trod enc Try.prog W 0 sp true 36 v d ps) : ∃ (p : Option Addr) (zs : List Va.Q4) (c : Nat), v = .slice p zs.length c ∧ zs.length ≤ c ∧ c ≤ maxLen ∧ Va.SlD W p zs ∧ ∀ z ∈ zs, Va.inB z.1 := by
  obtain ⟨s, l, c, rfl⟩ := okWide_slice Try.underlying36 hv
  obtain ⟨fuel, h⟩ := h
  rcases open_slice (P := Try.prog) Try.underlying36 h with ⟨hc, _⟩ | ⟨a, len, cap, m, n, D, Pl, hc, hb, hl, hm, hmm, hx, hi⟩
  · simp [Value.cells] at hc
    obtain ⟨rfl, rfl, rfl⟩ := hc
    exact ⟨none, [], 0, rfl, Nat.le_refl _, Nat.zero_le _, fun i hi => absurd hi (by simp), fun z hz => by cases hz⟩
  · simp [Value.cells] at hc
    obtain ⟨rfl, rfl, rfl⟩ := hc
    have hlm : l ≤ m := by rw [hmm]; split <;> omega
    have each : ∀ i, i < l → ∃ x : Va.Q4, (W.cell? ((a.add (i * 4)).add 0) = some (.int .i64 x.1) ∧ W.cell? ((a.add (i * 4)).add 1) = some (.int .i64 x.2.1) ∧ W.cell? ((a.add (i * 4)).add 2) = some (.int .i64 x.2.2.1) ∧ W.cell? ((a.add (i * 4)).add 3) = some (.int .i64 x.2.2.2)) ∧ Va.inB x.1 := by
      intro i hil
      obtain ⟨cs', h1, h2⟩ := hi i (by omega)
      rw [cells25] at h1
      obtain ⟨_, hcl, hat⟩ := World.cells?_some h1
      obtain ⟨a0, a1, a2, a3, rfl, w0⟩ := dual_cells hcl h2
      refine ⟨(a0, a1, a2, a3), ⟨?_, ?_, ?_, ?_⟩, w0⟩
      · exact hat 0 (by decide)
      · exact hat 1 (by decide)
      · exact hat 2 (by decide)
      · exact hat 3 (by decide)
    obtain ⟨X, hX⟩ := pick each
    have hlen : ((List.range l).map X).length = l := by simp
    have hget : ∀ i, i < l → ((List.range l).map X).getD i Va.q0 = X i := fun i hil => by simp [List.getD, hil]
    refine ⟨some a, (List.range l).map X, c, by rw [hlen], by rw [hlen]; omega, hm, fun i hil => ?_, fun z hz => ?_⟩
    · rw [hlen] at hil
      have hspot : a.spot = none := by
        have h1 := (hX 0 (by omega)).1.1
        simp [Addr.add] at h1
        exact World.cell?_spot h1
      obtain ⟨b, off, spot⟩ := a
      simp at hspot
      subst hspot
      have e : ∀ k j : Nat, ((⟨b, off, none⟩ : Addr).add k).add j = ⟨b, off + k + j, none⟩ := fun k j => by
        have q : ∀ o k : Nat, (⟨b, o, none⟩ : Addr).add k = ⟨b, o + k, none⟩ := fun o k => by
          unfold Addr.add
          split
          · simp [*]
          · rfl
        rw [q, q]
      have h1 := (hX i hil).1
      rw [e, e, e, e] at h1
      rw [hget i hil]
      exact ⟨b, off, rfl, h1.1, h1.2.1, h1.2.2.1, h1.2.2.2⟩
    · obtain ⟨i, hi2, rfl⟩ := List.mem_map.1 hz
      exact (hX i (List.mem_range.1 hi2)).2
theorem getm {xs : List Va.Q4} {j : Nat} (h : j < xs.length) : xs.getD j Va.q0 ∈ xs := by
  have e1 : xs.getD j Va.q0 = xs[j] := by unfold List.getD; rw [List.getElem?_eq_getElem h]; rfl
  rw [e1]
  exact List.getElem_mem h
theorem walk (fold : Int) (p : Option Addr) (xs : List Va.Q4) (c : Nat) (w : World) (hf : -9223372036854775808 ≤ fold ∧ fold ≤ 9223372036854775807) (lc : xs.length ≤ c) (mc : c ≤ maxLen) (S : Hid (Va.SlD w p xs)) (hb : ∀ z ∈ xs, Va.inB z.1) : Calls Try.prog 4 #[.int .i64 fold, .slice p xs.length c] w fun e w' => e = .returned (.bool true) ∧ Below w.heap.size w w' :=
  Va.law_reduces fold p xs c w (Nat.le_trans lc mc) lc S (Lib.hid fun i hi => hb _ (getm hi))

set_option maxRecDepth 100000 in
theorem lifted (os : Os) (started : os.Started) (H : Type) (enc : TypeId × Value → H) :
    ReturnsInHanded {} Try.checked os 4 .any (Rows.dualReducesSpec.pre6 enc Try.prog Try.f4 Rows.dualReducesRow.domain false) (Rows.dualReducesSpec.post enc Try.prog Try.f4 false true false false) := by
  refine returnsInHanded_of_change (C := Try.checked) own started (by kernel_rfl) Try.func4
    (ChangeSpec.witness6 (enc := enc) (C := Try.checked) false ⟨#[], #[.int .i64 0, .slice none 0 0], []⟩ 8 (by kernel_rfl) (by kernel_rfl) (by kernel_rfl) (by kernel_rfl)) ?_
  intro W base args ds gs before hval0 hW hcnd _
  have hval : ∀ (j : Nat) t v, Try.f4.params[j]? = some t → args[j]? = some v → Value.okWide Try.prog W .any base t v := hval0
  have hW' := hW
  obtain ⟨p, q, hA0, hV, rfl, hfz, hnd⟩ := hW
  have hA : DataW.TrodAll enc Try.prog W 0 (fun _ => true) true Try.f4.params.toList args.toList ds p := hA0
  rw [Try.params4] at hA hval
  obtain ⟨v0, vs0, d0, ds0, p0, q0, hargs, rfl, rfl, h0, r0⟩ := trodAll_cons hA
  obtain ⟨v1, vs1, d1, ds1, p1, q1, rfl, rfl, rfl, h1, r1⟩ := trodAll_cons r0
  obtain ⟨rfl, rfl, rfl⟩ := trodAll_nil r1
  obtain rfl : args = #[v0, v1] := by cases args; simp_all
  obtain ⟨rfl, rfl⟩ := trodVars_none hV
  have lt0 : ∀ x ∈ p0, x.block < W.heap.size := fun x hx => hW'.lt x (by simp [hx])
  have lt1 : ∀ x ∈ p1, x.block < W.heap.size := fun x hx => hW'.lt x (by simp [hx])
  have g0 := h0
  have g1 := h1
  obtain ⟨a0, rfl, hd0, hp0, w0⟩ := open_int Try.underlying3 (hval 0 3 v0 rfl rfl) g0
  obtain ⟨P1, Z1, C1, rfl, lc1, mc1, S1, b1⟩ := duals_arg lt1 (hval 1 36 v1 rfl rfl) g1
  clear hA0 hval0
  simp only [List.append_nil] at hW'
  refine (walk a0 P1 Z1 C1 W (bounds_i64 w0) lc1 mc1 (Lib.hid S1) b1).mono fun e W' ⟨he, bel⟩ => ?_
  subst he
  exact ⟨_, rfl, _, _, _, [], _, [], hW', trodAll_mk1 (shut_bool Try.underlying4 _), (trodAll_cons_mk (Below.trod laidOut (by kernel_rfl) (of_decide_eq_true (by kernel_rfl)) h0 bel lt0) (trodAll_cons_mk (Below.trod laidOut (by kernel_rfl) (of_decide_eq_true (by kernel_rfl)) h1 bel lt1) trodAll_mk0)), rfl, bel.frame _, fun h => by cases h⟩

theorem over : Rows.dualReducesRow.holds Try.pinned (OpenSpec.ofChange Rows.dualReducesSpec) :=
  OpenClaim.holds_of_wide 4 Try.f4 rfl rfl rfl rfl rfl rfl rfl ⟨rfl, rfl, rfl, rfl, rfl⟩ rfl rfl rfl rfl rfl (by kernel_rfl) Try.func4 (by kernel_rfl)
    (of_decide_eq_true (by kernel_rfl)) (by unfold Func.isWrapper; first | (rw [if_pos (by decide +kernel)]; kernel_rfl) | (rw [if_neg (by decide +kernel)]; exact ⟨rfl, rfl⟩))
    (fun os started H enc _ => lifted os started H enc)

theorem proved : Rows.DualReducesSaid := over
#print axioms proved
end Go.Proofs.Ythkhlhibhkdkkaa.dualReduces
