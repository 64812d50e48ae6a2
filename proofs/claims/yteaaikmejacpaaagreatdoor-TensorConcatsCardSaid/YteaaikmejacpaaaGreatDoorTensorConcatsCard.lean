/- For every axis and every list of tensors, Concat of package tensor answers as its definition does (P12.5; at most 8 tensors of at most 4200 elements, as the statement itself says): the row, and its tied card. -/
import Derived.Test.YteaaikmejacpaaaGreatDoorC0
import Derived.Lib.Hide
import Derived.Deep.Strs
import Derived.Test.YteaaikmejacpaaaGreatDoorCards
import Derived.Test.YteaaikmejacpaaaGreatDoorTie
import Derived.Lib.SmallJoins
import Derived.Deep.Slices
import Derived.Deep.Fields
import Derived.ChangeSame
import Derived.Carry
import Derived.ProofKit
import Derived.LaidMore
import Derived.OpenShut
import Derived.Stop.Joined
import Derived.ChangeMaps5
import Derived.Stop.LaidErr
import Derived.MakeChecks
import Derived.Lib.LaidTab
namespace Go.Proofs.YteaaikmejacpaaaGreatDoor.tensorConcats
open Go.ChangeShapes Go.WideShapes Go.ChangeAt Go.RowKit Go.Joins Go.Deep
set_option linter.unusedVariables false

theorem own : ownKnob Tryz.prog.godebug = none := by kernel_rfl
theorem laidOut : laidOutB Tryz.prog = true := by kernel_rfl
theorem cellsT : Tryz.prog.cellsOf 23 = 5 := by kernel_rfl
theorem cellsV : Tryz.prog.cellsOf 29 = 2 := by kernel_rfl
theorem door_met (os : Os) (args : Array Value) : laidMetH Tryz.prog Rows.tensorConcatsRow.laid ((World.doorLaid Tryz.prog 400 os).forCall (fun _ _ => 0) ⟨#[], args, []⟩).memory :=
 laidMetH_of_parts3 (fuel := 8) (laidMet_of_run' 8 (by kernel_rfl) (by kernel_rfl)) (by kernel_rfl) (by kernel_rfl)
section
variable {H : Type} {enc : TypeId × Value -> H} {P : Program} {w : World} {base : Nat} {spare : Nat -> Bool} {held : Bool}
theorem open_agg5 {r : Reach} {b0 : Nat} {t : TypeId} {f0 f1 f2 f3 f4 : Field} {v : Value} {d : DataW H} {p : List MemPlace} (hs : P.underlying t = some (.struct #[f0, f1, f2, f3, f4])) (hone : oneCellFields P #[f0, f1, f2, f3, f4] = true) (hC : P.cellsOf t = 5)
  (hv : Value.okWide P w r b0 t v) (h : DataW.Trod enc P w base spare held t v d p) :
  ∃ (v0 v1 v2 v3 v4 : Value) (y0 y1 y2 y3 y4 : DataW H × List MemPlace) (n : Nat), v = .agg #[v0, v1, v2, v3, v4] /\ d = .agg [y0.1, y1.1, y2.1, y3.1, y4.1] /\ p = y0.2 ++ (y1.2 ++ (y2.2 ++ (y3.2 ++ y4.2))) /\
   DataW.trod enc P w base spare held n f0.type [v0] = some y0 /\ DataW.trod enc P w base spare held n f1.type [v1] = some y1 /\ DataW.trod enc P w base spare held n f2.type [v2] = some y2 /\ DataW.trod enc P w base spare held n f3.type [v3] = some y3 /\ DataW.trod enc P w base spare held n f4.type [v4] = some y4 := by
 obtain ⟨cs, rfl, hsz⟩ := okWide_struct hs hv
 obtain ⟨l⟩ := cs
 match l, hsz.trans hC with
 | [c0, c1, c2, c3, c4], _ =>
  obtain ⟨fuel, hf⟩ := h
  obtain ⟨xs, n, _, hx, _, hlen, hg⟩ := DataW.trod_struct hs hf
  obtain ⟨o0, k0⟩ := hone_of hone 0 f0 rfl
  obtain ⟨o1, k1⟩ := hone_of hone 1 f1 rfl
  obtain ⟨o2, k2⟩ := hone_of hone 2 f2 rfl
  obtain ⟨o3, k3⟩ := hone_of hone 3 f3 rfl
  obtain ⟨o4, k4⟩ := hone_of hone 4 f4 rfl
  match xs, hlen with
  | [y0, y1, y2, y3, y4], _ =>
   simp only [Prod.mk.injEq] at hx
   exact ⟨c0, c1, c2, c3, c4, y0, y1, y2, y3, y4, n, rfl, by simpa using hx.1, by simpa using hx.2, by simpa [Value.cells, o0, k0] using hg 0 f0 rfl, by simpa [Value.cells, o1, k1] using hg 1 f1 rfl, by simpa [Value.cells, o2, k2] using hg 2 f2 rfl, by simpa [Value.cells, o3, k3] using hg 3 f3 rfl, by simpa [Value.cells, o4, k4] using hg 4 f4 rfl⟩
end
section
variable {H : Type} {enc : TypeId × Value -> H} {P : Program} {w : World} {base : Nat} {spare : Nat -> Bool} {held : Bool}
theorem open_slice_fields {t e : TypeId} {fs : Array Field} {fuel : Nat} {cs : List Value} {x : DataW H × List MemPlace} (ht : P.underlying t = some (.slice e)) (he : P.underlying e = some (.struct fs))
  (hone : oneCellFields P fs = true) (hC : P.cellsOf e = fs.size) (h : DataW.trod enc P w base spare held fuel t cs = some x) :
  (cs = [.slice none 0 0] /\ x = (.nil, [])) \/
  ∃ (a : Addr) (len cap m : Nat) (D : Nat -> DataW H) (Pl : Nat -> List MemPlace), cs = [.slice (some a) len cap] /\ base <= a.block /\ len <= cap /\ cap <= maxLen /\ m = (if spare a.block then cap else len) /\
   x = (.slice ((List.range len).map D) ((List.range (m - len)).map fun j => D (len + j)), MemPlace.row a (m * fs.size) ++ (List.range m).flatMap Pl) /\
   ∀ i, i < m -> ∃ (ys : List (DataW H × List MemPlace)) (n : Nat), D i = .agg (ys.map (·.1)) /\ Pl i = ys.flatMap (·.2) /\ ys.length = fs.size /\
    ∀ (j : Nat) (f : Field), fs[j]? = some f -> ∃ (v : Value) (y : DataW H × List MemPlace), w.cell? (a.add (i * fs.size + j)) = some v /\ ys[j]? = some y /\ DataW.trod enc P w base spare held n f.type [v] = some y := by
 rcases open_slice ht h with h0 | ⟨a, len, cap, m, n, D, Pl, hcs, hb, hl, hm, hmm, hx, hi⟩
 ·exact .inl h0
 ·refine .inr ⟨a, len, cap, m, D, Pl, hcs, hb, hl, hm, hmm, by rw [hC] at hx; exact hx, fun i him => ?_⟩
  obtain ⟨cs', hc, ht'⟩ := hi i him
  rw [hC] at hc
  obtain ⟨ys, n', hn', hy, hlen, hyl, hf⟩ := DataW.trod_struct he ht'
  obtain ⟨_, hcl, hat⟩ := World.cells?_some hc
  simp only [Prod.mk.injEq] at hy
  refine ⟨ys, n', hy.1, hy.2, hyl, fun j f hj => ?_⟩
  obtain ⟨ho, hk⟩ := hone_of hone j f hj
  have hjl : j < fs.size := (Array.getElem?_eq_some_iff.1 hj).1
  have hcell := hat j hjl
  have hv : cs'[j]? = some (cs'[j]'(by omega)) := List.getElem?_eq_getElem (by omega)
  have h1 := hf j f hj
  rw [ho, hk] at h1
  have hone' : (cs'.drop j).take 1 = [cs'[j]'(by omega)] := by
   rw [List.drop_eq_getElem_cons (by omega)]
   rfl
  rw [hone'] at h1
  have hys : ys[j]? = some (ys[j]'(by omega)) := List.getElem?_eq_getElem (by omega)
  refine ⟨_, _, ?_, hys, h1.trans hys⟩
  rw [<- Go.Deep.add_add, hcell, hv]

end
theorem pick_vals {p : Nat -> (Int × Int) -> Prop} {l : Nat} (h : ∀ i, i < l -> ∃ x, p i x) : ∃ X : Nat -> (Int × Int), ∀ i, i < l -> p i (X i) := by
 have h' : ∀ i, ∃ x, i < l -> p i x := fun i => by
  by_cases hi : i < l
  ·obtain ⟨x, hx⟩ := h i hi
   exact ⟨x, fun _ => hx⟩
  ·exact ⟨(0, 0), fun h => absurd h hi⟩
 exact ⟨fun i => Classical.choose (h' i), fun i => Classical.choose_spec (h' i)⟩
set_option maxRecDepth 100000 in
theorem vals_cells {H : Type} {enc : TypeId × Value -> H} {W : World} {sp : Nat -> Bool} {v : Value} {n : Nat} {y : DataW H × List MemPlace}
  (h : DataW.trod enc Tryz.prog W 0 sp true n 25 [v] = some y) : ∃ (p : Option Addr) (zs : List (Int × Int)) (c : Nat), v = .slice p zs.length c /\ zs.length <= c /\ c <= maxLen /\ Va.SlV W p zs /\ ∀ z ∈ zs, (-9223372036854775808 <= z.1 /\ z.1 <= 9223372036854775807) /\ (-9223372036854775808 <= z.2 /\ z.2 <= 9223372036854775807) := by
 obtain ⟨d, ps⟩ := y
 rcases open_slice_fields (P := Tryz.prog) Tryz.underlying25 Tryz.underlying29 (by kernel_rfl) (by kernel_rfl) h with ⟨hc, _⟩ | ⟨a, len, cap, m, D, Pl, hc, hb, hl, hm, hmm, hx, hi⟩
 ·simp at hc
  subst hc
  exact ⟨none, [], 0, rfl, Nat.le_refl _, Nat.zero_le _, fun i hi => absurd hi (by simp), fun z hz => by cases hz⟩
 ·simp at hc
  subst hc
  obtain ⟨l, hl0⟩ : ∃ l, l = len := ⟨_, rfl⟩
  subst hl0
  obtain ⟨c, hc0⟩ : ∃ c, c = cap := ⟨_, rfl⟩
  subst hc0
  have hlm : l <= m := by rw [hmm]; split <;> omega
  have each : ∀ i, i < l -> ∃ x : (Int × Int), (W.cell? (a.add (i * 2)) = some (.int .i64 x.1) /\ W.cell? (a.add (i * 2 + 1)) = some (.int .i64 x.2)) /\ (-9223372036854775808 <= x.1 /\ x.1 <= 9223372036854775807) /\ (-9223372036854775808 <= x.2 /\ x.2 <= 9223372036854775807) := by
   intro i hil
   obtain ⟨ys, n2, _, _, _, hf⟩ := hi i (by omega)
   obtain ⟨v0, y0, c0, _, t0⟩ := hf 0 _ rfl
   obtain ⟨v1, y1, c1, _, t1⟩ := hf 1 _ rfl
   obtain ⟨s0, e0, _, w0⟩ := DataW.trod_int Tryz.underlying2 t0
   obtain ⟨s1, e1, _, w1⟩ := DataW.trod_int Tryz.underlying2 t1
   simp only [List.cons.injEq, and_true] at e0 e1
   subst e0 e1
   exact ⟨(s0, s1), ⟨c0, c1⟩, bounds_i64 w0, bounds_i64 w1⟩
  obtain ⟨X, hX⟩ := pick_vals each
  have hlen : ((List.range l).map X).length = l := by simp
  have hget : ∀ i, i < l -> ((List.range l).map X).getD i (0, 0) = X i := fun i hil => by simp [List.getD, hil]
  refine ⟨some a, (List.range l).map X, c, by rw [hlen], by rw [hlen]; omega, hm, fun i hil => ?_, fun z hz => ?_⟩
  ·rw [hlen] at hil
   have hspot : a.spot = none := by
    have h1 := (hX 0 (by omega)).1.1
    simp [Addr.add] at h1
    exact World.cell?_spot h1
   obtain ⟨b, off, spot⟩ := a
   simp at hspot
   subst hspot
   have e : ∀ k : Nat, (⟨b, off, none⟩ : Addr).add k = ⟨b, off + k, none⟩ := fun k => by
    unfold Addr.add
    split
    ·simp [*]
    ·rfl
   have h1 := (hX i hil).1
   rw [e, e] at h1
   rw [hget i hil]
   exact ⟨b, off, rfl, h1.1, by rw [Nat.add_assoc]; exact h1.2⟩
  ·obtain ⟨i, hi2, rfl⟩ := List.mem_map.1 hz
   exact (hX i (List.mem_range.1 hi2)).2
set_option maxRecDepth 100000 in
theorem ints_arg {H : Type} {enc : TypeId × Value -> H} {W : World} {sp : Nat -> Bool} {v : Value} {d : DataW H} {ps : List MemPlace} {r : Reach} {b0 : Nat} (hlt : ∀ x ∈ ps, x.block < W.heap.size) (hv : Value.okWide Tryz.prog W r b0 24 v)
  (h : DataW.Trod enc Tryz.prog W 0 sp true 24 v d ps) : ∃ (p : Option Addr) (zs : List Int) (c : Nat), v = .slice p zs.length c /\ zs.length <= c /\ c <= maxLen /\ Sh.SlI W p zs /\ ∀ z ∈ zs, -9223372036854775808 <= z /\ z <= 9223372036854775807 := by
 obtain ⟨s, l, c, rfl⟩ := okWide_slice Tryz.underlying24 hv
 obtain ⟨fuel, h⟩ := h
 rcases open_ints Tryz.underlying24 Tryz.underlying3 (by kernel_rfl) h with ⟨hc, _⟩ | ⟨a, len, cap, zs, hc, hb, hl, hm, hz, hx, hi, hw⟩
 ·simp [Value.cells] at hc
  obtain ⟨rfl, rfl, rfl⟩ := hc
  exact ⟨none, [], 0, rfl, Nat.le_refl _, Nat.zero_le _, fun i hi => absurd hi (by simp), fun z hz => by cases hz⟩
 ·simp [Value.cells] at hc
  obtain ⟨rfl, rfl, rfl⟩ := hc
  have hlz : l <= zs.length := by rw [hz]; split <;> omega
  have hlen : (zs.take l).length = l := by rw [List.length_take]; omega
  refine ⟨some a, zs.take l, c, by rw [hlen], by omega, hm, fun i hil => ?_, fun z hz => bounds_i64 (hw z (List.mem_of_mem_take hz))⟩
  rw [hlen] at hil
  have h1 := hi i (by omega)
  have hspot : a.spot = none := by
   have h0 := World.cell?_spot (hi 0 (by omega))
   simpa [Addr.add] using h0
  obtain ⟨b, off, spot⟩ := a
  simp at hspot
  subst hspot
  refine ⟨b, off, rfl, ?_⟩
  have e : (⟨b, off, none⟩ : Addr).add i = ⟨b, off + i, none⟩ := by
   unfold Addr.add
   split
   ·simp [*]
   ·rfl
  rw [e] at h1
  rw [h1]
  congr 2
  unfold List.getD
  rw [List.getElem?_take_of_lt hil]
set_option maxRecDepth 100000 in
theorem ints_cells {H : Type} {enc : TypeId × Value -> H} {W : World} {sp : Nat -> Bool} {v : Value} {n : Nat} {y : DataW H × List MemPlace}
  (h : DataW.trod enc Tryz.prog W 0 sp true n 24 [v] = some y) : ∃ (p : Option Addr) (zs : List Int) (c : Nat), v = .slice p zs.length c /\ zs.length <= c /\ c <= maxLen /\ Sh.SlI W p zs /\ ∀ z ∈ zs, -9223372036854775808 <= z /\ z <= 9223372036854775807 := by
 obtain ⟨d, ps⟩ := y
 rcases open_ints Tryz.underlying24 Tryz.underlying3 (by kernel_rfl) h with ⟨hc, _⟩ | ⟨a, len, cap, zs, hc, hb, hl, hm, hz, hx, hi, hw⟩
 ·simp at hc
  subst hc
  exact ⟨none, [], 0, rfl, Nat.le_refl _, Nat.zero_le _, fun i hi => absurd hi (by simp), fun z hz => by cases hz⟩
 ·simp at hc
  subst hc
  have hlz : len <= zs.length := by rw [hz]; split <;> omega
  have hlen : (zs.take len).length = len := by rw [List.length_take]; omega
  refine ⟨some a, zs.take len, cap, by rw [hlen], by omega, hm, fun i hil => ?_, fun z hz => bounds_i64 (hw z (List.mem_of_mem_take hz))⟩
  rw [hlen] at hil
  have h1 := hi i (by omega)
  have hspot : a.spot = none := by
   have h0 := World.cell?_spot (hi 0 (by omega))
   simpa [Addr.add] using h0
  obtain ⟨b, off, spot⟩ := a
  simp at hspot
  subst hspot
  refine ⟨b, off, rfl, ?_⟩
  have e : (⟨b, off, none⟩ : Addr).add i = ⟨b, off + i, none⟩ := by
   unfold Addr.add
   split
   ·simp [*]
   ·rfl
  rw [e] at h1
  rw [h1]
  congr 2
  unfold List.getD
  rw [List.getElem?_take_of_lt hil]
set_option maxRecDepth 100000 in
theorem cellsTT : Tryz.prog.cellsOf 27 = 7 := by kernel_rfl
theorem cellsSI : Tryz.prog.cellsOf 24 = 1 := by kernel_rfl
theorem cellsSV : Tryz.prog.cellsOf 25 = 1 := by kernel_rfl
theorem cellsI3 : Tryz.prog.cellsOf 3 = 1 := by kernel_rfl
set_option maxRecDepth 100000 in
theorem tens_cells {H : Type} {enc : TypeId × Value -> H} {W : World} {sp : Nat -> Bool} {c0 c1 c2 c3 c4 c5 c6 : Value} {fuel : Nat} {y : DataW H × List MemPlace}
  (hf : DataW.trod enc Tryz.prog W 0 sp true fuel 27 [c0, c1, c2, c3, c4, c5, c6] = some y) : ∃ t : Te.Tr, c0 = .int .i64 t.K /\ c1 = .int .i64 t.B /\ c2 = .int .i64 t.F /\ c3 = .int .i64 t.R /\ c4 = .int .i64 t.O /\ c5 = .slice t.p t.zs.length t.c /\ c6 = .slice t.q t.vs.length t.d /\ Sh.SlI W t.p t.zs /\ Va.SlV W t.q t.vs /\ Te.okT t := by
 obtain ⟨y0, y1, y2, n, _, _, h0, h1, h2⟩ := trod_struct3 Tryz.underlying27 hf
 have t0 : DataW.trod enc Tryz.prog W 0 sp true n 23 [c0, c1, c2, c3, c4] = some y0 := by simpa [Value.cells, cellsT] using h0
 have t1 : DataW.trod enc Tryz.prog W 0 sp true n 24 [c5] = some y1 := by simpa [Value.cells, cellsSI] using h1
 have t2 : DataW.trod enc Tryz.prog W 0 sp true n 25 [c6] = some y2 := by simpa [Value.cells, cellsSV] using h2
 obtain ⟨xs, n2, _, hx, _, hlen, hg⟩ := DataW.trod_struct Tryz.underlying23 t0
 match xs, hlen with
 | [x0, x1, x2, x3, x4], _ =>
  have g0 : DataW.trod enc Tryz.prog W 0 sp true n2 3 [c0] = some x0 := by simpa [Value.cells, cellsI3] using hg 0 _ rfl
  have g1 : DataW.trod enc Tryz.prog W 0 sp true n2 3 [c1] = some x1 := by simpa [Value.cells, cellsI3] using hg 1 _ rfl
  have g2 : DataW.trod enc Tryz.prog W 0 sp true n2 3 [c2] = some x2 := by simpa [Value.cells, cellsI3] using hg 2 _ rfl
  have g3 : DataW.trod enc Tryz.prog W 0 sp true n2 3 [c3] = some x3 := by simpa [Value.cells, cellsI3] using hg 3 _ rfl
  have g4 : DataW.trod enc Tryz.prog W 0 sp true n2 3 [c4] = some x4 := by simpa [Value.cells, cellsI3] using hg 4 _ rfl
  obtain ⟨a0, e0, _, w0⟩ := DataW.trod_int Tryz.underlying3 g0
  obtain ⟨a1, e1, _, w1⟩ := DataW.trod_int Tryz.underlying3 g1
  obtain ⟨a2, e2, _, w2⟩ := DataW.trod_int Tryz.underlying3 g2
  obtain ⟨a3, e3, _, w3⟩ := DataW.trod_int Tryz.underlying3 g3
  obtain ⟨a4, e4, _, w4⟩ := DataW.trod_int Tryz.underlying3 g4
  simp only [List.cons.injEq, and_true] at e0 e1 e2 e3 e4
  subst e0 e1 e2 e3 e4
  obtain ⟨P, Z, C, rfl, lc, mc, S, bb⟩ := ints_cells t1
  obtain ⟨P2, Z2, C2, rfl, lc2, mc2, S2, bb2⟩ := vals_cells t2
  exact ⟨⟨a0, a1, a2, a3, a4, P, Z, C, P2, Z2, C2⟩, rfl, rfl, rfl, rfl, rfl, rfl, rfl, S, S2, (bounds_i64 w1).1, (bounds_i64 w1).2, lc, mc, lc2, mc2⟩
set_option maxRecDepth 100000 in
theorem pickT {p : Nat -> Te.Tr -> Prop} {l : Nat} (h : ∀ i, i < l -> ∃ x, p i x) : ∃ X : Nat -> Te.Tr, ∀ i, i < l -> p i (X i) := by
 have h' : ∀ i, ∃ x, i < l -> p i x := fun i => by
  by_cases hi : i < l
  ·obtain ⟨x, hx⟩ := h i hi
   exact ⟨x, fun _ => hx⟩
  ·exact ⟨⟨0, 0, 0, 0, 0, none, [], 0, none, [], 0⟩, fun h => absurd h hi⟩
 exact ⟨fun i => Classical.choose (h' i), fun i => Classical.choose_spec (h' i)⟩
set_option maxRecDepth 100000 in
theorem tlist_arg {H : Type} {enc : TypeId × Value -> H} {W : World} {sp : Nat -> Bool} {v : Value} {d : DataW H} {ps : List MemPlace} {r : Reach} {b0 : Nat} (hv : Value.okWide Tryz.prog W r b0 60 v)
  (h : DataW.Trod enc Tryz.prog W 0 sp true 60 v d ps) : ∃ (p : Option Addr) (L : List Te.Tr) (c : Nat), v = .slice p L.length c /\ L.length <= c /\ c <= maxLen /\ Te.SlX W p L /\ ∀ t ∈ L, Te.okT t := by
 obtain ⟨s, l, c, rfl⟩ := okWide_slice Tryz.underlying60 hv
 obtain ⟨fuel, h⟩ := h
 rcases open_slice (P := Tryz.prog) Tryz.underlying60 h with ⟨hc, _⟩ | ⟨a, len, cap, m, n, D, Pl, hc, hb, hl, hm, hmm, hx, hi⟩
 ·simp [Value.cells] at hc
  obtain ⟨rfl, rfl, rfl⟩ := hc
  exact ⟨none, [], 0, rfl, Nat.le_refl _, Nat.zero_le _, fun i t e => by simp at e, fun t ht => by cases ht⟩
 ·simp [Value.cells] at hc
  obtain ⟨rfl, rfl, rfl⟩ := hc
  have hlm : l <= m := by rw [hmm]; split <;> omega
  have each : ∀ i, i < l -> ∃ t : Te.Tr, (W.cell? (a.add (i * 7)) = some (.int .i64 t.K) /\ W.cell? (a.add (i * 7 + 1)) = some (.int .i64 t.B) /\ W.cell? (a.add (i * 7 + 2)) = some (.int .i64 t.F) /\ W.cell? (a.add (i * 7 + 3)) = some (.int .i64 t.R) /\ W.cell? (a.add (i * 7 + 4)) = some (.int .i64 t.O) /\ W.cell? (a.add (i * 7 + 5)) = some (.slice t.p t.zs.length t.c) /\ W.cell? (a.add (i * 7 + 6)) = some (.slice t.q t.vs.length t.d)) /\ Sh.SlI W t.p t.zs /\ Va.SlV W t.q t.vs /\ Te.okT t := by
   intro i hil
   obtain ⟨cs', hcs, ht⟩ := hi i (by omega)
   rw [cellsTT] at hcs
   obtain ⟨_, hlen, hat⟩ := World.cells?_some hcs
   match cs', hlen with
   | [c0, c1, c2, c3, c4, c5, c6], _ =>
    obtain ⟨t, rfl, rfl, rfl, rfl, rfl, rfl, rfl, k1, k2, k3⟩ := tens_cells ht
    have q0 := hat 0 (by decide)
    have q1 := hat 1 (by decide)
    have q2 := hat 2 (by decide)
    have q3 := hat 3 (by decide)
    have q4 := hat 4 (by decide)
    have q5 := hat 5 (by decide)
    have q6 := hat 6 (by decide)
    rw [Go.Deep.add_add] at q0 q1 q2 q3 q4 q5 q6
    exact ⟨t, ⟨q0, q1, q2, q3, q4, q5, q6⟩, k1, k2, k3⟩
  obtain ⟨X, hX⟩ := pickT each
  have hlen : ((List.range l).map X).length = l := by simp
  refine ⟨some a, (List.range l).map X, c, by rw [hlen], by rw [hlen]; omega, hm, fun i t ht => ?_, fun t ht => ?_⟩
  ·have hil : i < l := by
    rcases Nat.lt_or_ge i l with h9 | h9
    ·exact h9
    ·rw [List.getElem?_eq_none (by rw [hlen]; exact h9)] at ht
     cases ht
   have hti : t = X i := by
    rw [List.getElem?_map, List.getElem?_range hil] at ht
    exact (Option.some.inj ht).symm
   subst hti
   have hspot : a.spot = none := by
    have h1 := (hX 0 (by omega)).1.1
    simp [Addr.add] at h1
    exact World.cell?_spot h1
   obtain ⟨b, off, spot⟩ := a
   simp at hspot
   subst hspot
   have e : ∀ k : Nat, (⟨b, off, none⟩ : Addr).add k = ⟨b, off + k, none⟩ := fun k => by
    unfold Addr.add
    split
    ·simp [*]
    ·rfl
   have h1 := hX i hil
   simp only [e] at h1
   simp only [<- Nat.add_assoc] at h1
   exact ⟨⟨b, off, rfl, h1.1⟩, h1.2.1, h1.2.2.1⟩
  ·obtain ⟨i, hi2, rfl⟩ := List.mem_map.1 ht
   exact (hX i (List.mem_range.1 hi2)).2.2.2
theorem la_of {W : World} (hL : laidMetH Tryz.prog Rows.tensorConcatsRow.laid W) : Tx.LA W := by
 rw [Go.MakeChecks.laidMetH_plain _ _ _ (by kernel_rfl)] at hL
 have h2 := hL.tail.tail
 exact ⟨Lib.tabIs_of_head (g := 0) (t := 177) (e := 130) (n := 20) (by kernel_rfl) (by kernel_rfl) Tryz.underlying177 Tryz.underlying130 (by kernel_rfl) (by kernel_rfl) h2, trivial⟩
set_option maxRecDepth 100000 in
theorem walk (n0 : Int) (xp1 : Option Addr) (xL1 : List Te.Tr) (xc1 : Nat) (w : World) (bn0 : (-9223372036854775808 <= n0 /\ n0 <= 9223372036854775807)) (xl1 : xL1.length <= xc1) (xm1 : xc1 <= maxLen) (xS1 : Hid (Te.SlX w xp1 xL1)) (xo1 : ∀ t ∈ xL1, Te.okT t) (hL : Tx.LA w) : Calls Tryz.prog 11 #[.int .i64 n0, .slice xp1 xL1.length xc1] w fun e w' => e = .returned (.bool true) /\ Below w.heap.size w w' :=
 Te.law_cc n0 xp1 xL1 xc1 w xl1 xm1 xo1 xS1 hL

set_option maxRecDepth 100000 in
theorem lifted (os : Os) (started : os.Started) (H : Type) (enc : TypeId × Value -> H) :
  ReturnsInHanded {} Tryz.checked os 11 .any (fun w args => (Rows.tensorConcatsSpec.pre enc Tryz.prog Tryz.f11 [] false w args /\ laidMetH Tryz.prog Rows.tensorConcatsRow.laid w) /\ sizedMet enc Tryz.prog Tryz.f11 (OpenSpec.ofChange Rows.tensorConcatsSpec) false w args)
   (Rows.tensorConcatsSpec.post enc Tryz.prog Tryz.f11 false true false false) := by
 refine returnsInHanded_of_change_and (C := Tryz.checked) (X := fun w _ => laidMetH Tryz.prog Rows.tensorConcatsRow.laid w) (fun _ _ _ hh h => h.of_heap hh) own started (by kernel_rfl) Tryz.func11
  (ChangeSpec.witness_shaped (enc := enc) (C := Tryz.checked) (os := os) (X := fun w _ => laidMetH Tryz.prog Rows.tensorConcatsRow.laid w) false (World.doorLaid Tryz.prog 400 os) #[.int .i64 0, .slice none 0 0] 8 rfl (World.shaped_of_RefB (by kernel_rfl) (by kernel_rfl)) (by kernel_rfl) (by kernel_rfl) (by kernel_rfl) (door_met os _)) ?_
 intro W base args ds gs before hval0 hW _ _ hL _
 have hval : ∀ (j : Nat) t v, Tryz.f11.params[j]? = some t -> args[j]? = some v -> Value.okWide Tryz.prog W .any base t v := hval0
 have hW' := hW
 obtain ⟨p, q, hA0, hV, rfl, hfz, hnd⟩ := hW
 have hA : DataW.TrodAll enc Tryz.prog W 0 (fun _ => true) true Tryz.f11.params.toList args.toList ds p := hA0
 rw [Tryz.params11] at hA hval
 obtain ⟨v0, vs0, d0, ds0, p0, q0, hargs, rfl, rfl, h0, r0⟩ := trodAll_cons hA
 obtain ⟨v1, vs1, d1, ds1, p1, q1, rfl, rfl, rfl, h1, r1⟩ := trodAll_cons r0
 obtain ⟨rfl, rfl, rfl⟩ := trodAll_nil r1
 obtain rfl : args = #[v0, v1] := by cases args; simp_all
 obtain ⟨rfl, rfl⟩ := trodVars_none hV
 have lt0 : ∀ x ∈ p0, x.block < W.heap.size := fun x hx => hW'.lt x (by simp [hx])
 have lt1 : ∀ x ∈ p1, x.block < W.heap.size := fun x hx => hW'.lt x (by simp [hx])
 have g0 := h0
 have g1 := h1
 obtain ⟨a0, rfl, rfl, rfl, w0⟩ := open_int Tryz.underlying3 (hval 0 3 v0 rfl rfl) h0
 obtain ⟨xp1, xL1, xc1, rfl, xl1, xm1, xS1, xo1⟩ := tlist_arg (hval 1 60 v1 rfl rfl) g1
 clear hA0 hval0
 simp only [List.append_nil] at hW'
 refine (walk a0 xp1 xL1 xc1 W (bounds_i64 w0) xl1 xm1 (Lib.hid xS1) xo1 (la_of hL)).mono fun e W' ⟨he, bel⟩ => ?_
 subst he
 exact ⟨_, rfl, _, _, _, [], _, [], hW', trodAll_mk1 (shut_bool Tryz.underlying4 _), (trodAll_cons_mk (shut_int Tryz.underlying3 w0) (trodAll_cons_mk (Below.trod laidOut (by kernel_rfl) (of_decide_eq_true (by kernel_rfl)) h1 bel lt1) trodAll_mk0)), rfl, bel.frame _, fun h => by cases h⟩

theorem row_holds : Rows.TensorConcatsSaid :=
 OpenClaim.holds_of_wide 11 Tryz.f11 rfl rfl rfl rfl rfl rfl rfl ⟨rfl, rfl, rfl, rfl, rfl⟩ rfl rfl rfl rfl rfl (by kernel_rfl) Tryz.func11 (by kernel_rfl)
  (of_decide_eq_true (by kernel_rfl)) (by unfold Func.isWrapper; first | (rw [if_pos (by decide +kernel)]; kernel_rfl) | (rw [if_neg (by decide +kernel)]; exact ⟨rfl, rfl⟩))
  (fun os started H enc _ => lifted os started H enc)

theorem proved : Rows.TensorConcatsCardSaid :=
 Claim7.holds_tied_plain_at .later [] [.data, .data, .data] true (true, "d6d38172c1cd416339d0edb99f4024993a566c89e8566c390aa11e549e13ce8d") false
  row_holds (fun _ h => by cases h) (by kernel_rfl) (fun _ h => by cases h) tensorConcats_row_tie rfl ⟨rfl, rfl⟩ (by kernel_rfl) rfl
  (fun f fn hf hfn => by
   obtain rfl : f = 11 := Option.some.inj ((show Tryz.prog.funcNamed "brocade/brocadelaw12.TensorConcats" = some 11 by kernel_rfl).symm.trans hf) |>.symm
   obtain rfl : fn = Tryz.f11 := (Option.some.inj (Tryz.func11.symm.trans hfn)).symm
   exact ⟨by kernel_rfl, fun j t ht => by
    rw [Tryz.params11] at ht
    have h3 : t = 3 \/ t = 60 := by
     rcases j with _ | _ | j
     ·simp at ht; simp [<- ht]
     ·simp at ht; simp [<- ht]
     ·simp at ht
    rcases h3 with rfl | rfl
    ·exact (show Tryz.prog.wantsStandIn 3 = false by kernel_rfl)
    ·exact (show Tryz.prog.wantsStandIn 60 = false by kernel_rfl)⟩)
  (by kernel_rfl)
#print axioms proved
end Go.Proofs.YteaaikmejacpaaaGreatDoor.tensorConcats
