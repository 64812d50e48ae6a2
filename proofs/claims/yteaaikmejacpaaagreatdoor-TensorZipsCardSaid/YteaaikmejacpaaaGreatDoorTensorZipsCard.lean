/- For every two tensors, operator and place, Zip of package tensor applies the function to all pairs of elements in order and stops at the first error or invalid result, as its definition does (P12.3; at most 1000 elements, as the statement itself says): the row, and its tied card. -/
import Derived.Test.YteaaikmejacpaaaGreatDoorG0
import Derived.Lib.Hide
import Derived.Deep.Strs
import Derived.Test.YteaaikmejacpaaaGreatDoorCards
import Derived.Test.YteaaikmejacpaaaGreatDoorTie
import Derived.Lib.SmallJoins
import Derived.Deep.Slices
import Derived.Deep.Fields
import Derived.ChangeSame
import Derived.Carry
import Derived.ProofKit
import Derived.LaidMore
import Derived.OpenShut
import Derived.Stop.Joined
import Derived.ChangeMaps5
import Derived.Stop.LaidErr
import Derived.MakeChecks
import Derived.Lib.LaidTab
namespace Go.Proofs.YteaaikmejacpaaaGreatDoor.tensorZips
open Go.ChangeShapes Go.WideShapes Go.ChangeAt Go.RowKit Go.Joins Go.Deep
set_option linter.unusedVariables false

theorem own : ownKnob Tryz.prog.godebug = none := by kernel_rfl
theorem laidOut : laidOutB Tryz.prog = true := by kernel_rfl
theorem cellsT : Tryz.prog.cellsOf 23 = 5 := by kernel_rfl
theorem cellsV : Tryz.prog.cellsOf 29 = 2 := by kernel_rfl
theorem door_met (os : Os) (args : Array Value) : laidMetH Tryz.prog Rows.tensorZipsRow.laid ((World.doorLaid Tryz.prog 400 os).forCall (fun _ _ => 0) ⟨#[], args, []⟩).memory :=
 laidMetH_of_parts3 (fuel := 8) (laidMet_of_run' 8 (by kernel_rfl) (by kernel_rfl)) (by kernel_rfl) (by kernel_rfl)
section
variable {H : Type} {enc : TypeId × Value -> H} {P : Program} {w : World} {base : Nat} {spare : Nat -> Bool} {held : Bool}
theorem open_agg5 {r : Reach} {b0 : Nat} {t : TypeId} {f0 f1 f2 f3 f4 : Field} {v : Value} {d : DataW H} {p : List MemPlace} (hs : P.underlying t = some (.struct #[f0, f1, f2, f3, f4])) (hone : oneCellFields P #[f0, f1, f2, f3, f4] = true) (hC : P.cellsOf t = 5)
  (hv : Value.okWide P w r b0 t v) (h : DataW.Trod enc P w base spare held t v d p) :
  ∃ (v0 v1 v2 v3 v4 : Value) (y0 y1 y2 y3 y4 : DataW H × List MemPlace) (n : Nat), v = .agg #[v0, v1, v2, v3, v4] /\ d = .agg [y0.1, y1.1, y2.1, y3.1, y4.1] /\ p = y0.2 ++ (y1.2 ++ (y2.2 ++ (y3.2 ++ y4.2))) /\
   DataW.trod enc P w base spare held n f0.type [v0] = some y0 /\ DataW.trod enc P w base spare held n f1.type [v1] = some y1 /\ DataW.trod enc P w base spare held n f2.type [v2] = some y2 /\ DataW.trod enc P w base spare held n f3.type [v3] = some y3 /\ DataW.trod enc P w base spare held n f4.type [v4] = some y4 := by
 obtain ⟨cs, rfl, hsz⟩ := okWide_struct hs hv
 obtain ⟨l⟩ := cs
 match l, hsz.trans hC with
 | [c0, c1, c2, c3, c4], _ =>
  obtain ⟨fuel, hf⟩ := h
  obtain ⟨xs, n, _, hx, _, hlen, hg⟩ := DataW.trod_struct hs hf
  obtain ⟨o0, k0⟩ := hone_of hone 0 f0 rfl
  obtain ⟨o1, k1⟩ := hone_of hone 1 f1 rfl
  obtain ⟨o2, k2⟩ := hone_of hone 2 f2 rfl
  obtain ⟨o3, k3⟩ := hone_of hone 3 f3 rfl
  obtain ⟨o4, k4⟩ := hone_of hone 4 f4 rfl
  match xs, hlen with
  | [y0, y1, y2, y3, y4], _ =>
   simp only [Prod.mk.injEq] at hx
   exact ⟨c0, c1, c2, c3, c4, y0, y1, y2, y3, y4, n, rfl, by simpa using hx.1, by simpa using hx.2, by simpa [Value.cells, o0, k0] using hg 0 f0 rfl, by simpa [Value.cells, o1, k1] using hg 1 f1 rfl, by simpa [Value.cells, o2, k2] using hg 2 f2 rfl, by simpa [Value.cells, o3, k3] using hg 3 f3 rfl, by simpa [Value.cells, o4, k4] using hg 4 f4 rfl⟩
end
section
variable {H : Type} {enc : TypeId × Value -> H} {P : Program} {w : World} {base : Nat} {spare : Nat -> Bool} {held : Bool}
theorem open_slice_fields {t e : TypeId} {fs : Array Field} {fuel : Nat} {cs : List Value} {x : DataW H × List MemPlace} (ht : P.underlying t = some (.slice e)) (he : P.underlying e = some (.struct fs))
  (hone : oneCellFields P fs = true) (hC : P.cellsOf e = fs.size) (h : DataW.trod enc P w base spare held fuel t cs = some x) :
  (cs = [.slice none 0 0] /\ x = (.nil, [])) \/
  ∃ (a : Addr) (len cap m : Nat) (D : Nat -> DataW H) (Pl : Nat -> List MemPlace), cs = [.slice (some a) len cap] /\ base <= a.block /\ len <= cap /\ cap <= maxLen /\ m = (if spare a.block then cap else len) /\
   x = (.slice ((List.range len).map D) ((List.range (m - len)).map fun j => D (len + j)), MemPlace.row a (m * fs.size) ++ (List.range m).flatMap Pl) /\
   ∀ i, i < m -> ∃ (ys : List (DataW H × List MemPlace)) (n : Nat), D i = .agg (ys.map (·.1)) /\ Pl i = ys.flatMap (·.2) /\ ys.length = fs.size /\
    ∀ (j : Nat) (f : Field), fs[j]? = some f -> ∃ (v : Value) (y : DataW H × List MemPlace), w.cell? (a.add (i * fs.size + j)) = some v /\ ys[j]? = some y /\ DataW.trod enc P w base spare held n f.type [v] = some y := by
 rcases open_slice ht h with h0 | ⟨a, len, cap, m, n, D, Pl, hcs, hb, hl, hm, hmm, hx, hi⟩
 ·exact .inl h0
 ·refine .inr ⟨a, len, cap, m, D, Pl, hcs, hb, hl, hm, hmm, by rw [hC] at hx; exact hx, fun i him => ?_⟩
  obtain ⟨cs', hc, ht'⟩ := hi i him
  rw [hC] at hc
  obtain ⟨ys, n', hn', hy, hlen, hyl, hf⟩ := DataW.trod_struct he ht'
  obtain ⟨_, hcl, hat⟩ := World.cells?_some hc
  simp only [Prod.mk.injEq] at hy
  refine ⟨ys, n', hy.1, hy.2, hyl, fun j f hj => ?_⟩
  obtain ⟨ho, hk⟩ := hone_of hone j f hj
  have hjl : j < fs.size := (Array.getElem?_eq_some_iff.1 hj).1
  have hcell := hat j hjl
  have hv : cs'[j]? = some (cs'[j]'(by omega)) := List.getElem?_eq_getElem (by omega)
  have h1 := hf j f hj
  rw [ho, hk] at h1
  have hone' : (cs'.drop j).take 1 = [cs'[j]'(by omega)] := by
   rw [List.drop_eq_getElem_cons (by omega)]
   rfl
  rw [hone'] at h1
  have hys : ys[j]? = some (ys[j]'(by omega)) := List.getElem?_eq_getElem (by omega)
  refine ⟨_, _, ?_, hys, h1.trans hys⟩
  rw [<- Go.Deep.add_add, hcell, hv]

end
theorem pick_vals {p : Nat -> (Int × Int) -> Prop} {l : Nat} (h : ∀ i, i < l -> ∃ x, p i x) : ∃ X : Nat -> (Int × Int), ∀ i, i < l -> p i (X i) := by
 have h' : ∀ i, ∃ x, i < l -> p i x := fun i => by
  by_cases hi : i < l
  ·obtain ⟨x, hx⟩ := h i hi
   exact ⟨x, fun _ => hx⟩
  ·exact ⟨(0, 0), fun h => absurd h hi⟩
 exact ⟨fun i => Classical.choose (h' i), fun i => Classical.choose_spec (h' i)⟩
set_option maxRecDepth 100000 in
theorem vals_cells {H : Type} {enc : TypeId × Value -> H} {W : World} {sp : Nat -> Bool} {v : Value} {n : Nat} {y : DataW H × List MemPlace}
  (h : DataW.trod enc Tryz.prog W 0 sp true n 25 [v] = some y) : ∃ (p : Option Addr) (zs : List (Int × Int)) (c : Nat), v = .slice p zs.length c /\ zs.length <= c /\ c <= maxLen /\ Va.SlV W p zs /\ ∀ z ∈ zs, (-9223372036854775808 <= z.1 /\ z.1 <= 9223372036854775807) /\ (-9223372036854775808 <= z.2 /\ z.2 <= 9223372036854775807) := by
 obtain ⟨d, ps⟩ := y
 rcases open_slice_fields (P := Tryz.prog) Tryz.underlying25 Tryz.underlying29 (by kernel_rfl) (by kernel_rfl) h with ⟨hc, _⟩ | ⟨a, len, cap, m, D, Pl, hc, hb, hl, hm, hmm, hx, hi⟩
 ·simp at hc
  subst hc
  exact ⟨none, [], 0, rfl, Nat.le_refl _, Nat.zero_le _, fun i hi => absurd hi (by simp), fun z hz => by cases hz⟩
 ·simp at hc
  subst hc
  obtain ⟨l, hl0⟩ : ∃ l, l = len := ⟨_, rfl⟩
  subst hl0
  obtain ⟨c, hc0⟩ : ∃ c, c = cap := ⟨_, rfl⟩
  subst hc0
  have hlm : l <= m := by rw [hmm]; split <;> omega
  have each : ∀ i, i < l -> ∃ x : (Int × Int), (W.cell? (a.add (i * 2)) = some (.int .i64 x.1) /\ W.cell? (a.add (i * 2 + 1)) = some (.int .i64 x.2)) /\ (-9223372036854775808 <= x.1 /\ x.1 <= 9223372036854775807) /\ (-9223372036854775808 <= x.2 /\ x.2 <= 9223372036854775807) := by
   intro i hil
   obtain ⟨ys, n2, _, _, _, hf⟩ := hi i (by omega)
   obtain ⟨v0, y0, c0, _, t0⟩ := hf 0 _ rfl
   obtain ⟨v1, y1, c1, _, t1⟩ := hf 1 _ rfl
   obtain ⟨s0, e0, _, w0⟩ := DataW.trod_int Tryz.underlying2 t0
   obtain ⟨s1, e1, _, w1⟩ := DataW.trod_int Tryz.underlying2 t1
   simp only [List.cons.injEq, and_true] at e0 e1
   subst e0 e1
   exact ⟨(s0, s1), ⟨c0, c1⟩, bounds_i64 w0, bounds_i64 w1⟩
  obtain ⟨X, hX⟩ := pick_vals each
  have hlen : ((List.range l).map X).length = l := by simp
  have hget : ∀ i, i < l -> ((List.range l).map X).getD i (0, 0) = X i := fun i hil => by simp [List.getD, hil]
  refine ⟨some a, (List.range l).map X, c, by rw [hlen], by rw [hlen]; omega, hm, fun i hil => ?_, fun z hz => ?_⟩
  ·rw [hlen] at hil
   have hspot : a.spot = none := by
    have h1 := (hX 0 (by omega)).1.1
    simp [Addr.add] at h1
    exact World.cell?_spot h1
   obtain ⟨b, off, spot⟩ := a
   simp at hspot
   subst hspot
   have e : ∀ k : Nat, (⟨b, off, none⟩ : Addr).add k = ⟨b, off + k, none⟩ := fun k => by
    unfold Addr.add
    split
    ·simp [*]
    ·rfl
   have h1 := (hX i hil).1
   rw [e, e] at h1
   rw [hget i hil]
   exact ⟨b, off, rfl, h1.1, by rw [Nat.add_assoc]; exact h1.2⟩
  ·obtain ⟨i, hi2, rfl⟩ := List.mem_map.1 hz
   exact (hX i (List.mem_range.1 hi2)).2
set_option maxRecDepth 100000 in
theorem ints_arg {H : Type} {enc : TypeId × Value -> H} {W : World} {sp : Nat -> Bool} {v : Value} {d : DataW H} {ps : List MemPlace} {r : Reach} {b0 : Nat} (hlt : ∀ x ∈ ps, x.block < W.heap.size) (hv : Value.okWide Tryz.prog W r b0 24 v)
  (h : DataW.Trod enc Tryz.prog W 0 sp true 24 v d ps) : ∃ (p : Option Addr) (zs : List Int) (c : Nat), v = .slice p zs.length c /\ zs.length <= c /\ c <= maxLen /\ Sh.SlI W p zs /\ ∀ z ∈ zs, -9223372036854775808 <= z /\ z <= 9223372036854775807 := by
 obtain ⟨s, l, c, rfl⟩ := okWide_slice Tryz.underlying24 hv
 obtain ⟨fuel, h⟩ := h
 rcases open_ints Tryz.underlying24 Tryz.underlying3 (by kernel_rfl) h with ⟨hc, _⟩ | ⟨a, len, cap, zs, hc, hb, hl, hm, hz, hx, hi, hw⟩
 ·simp [Value.cells] at hc
  obtain ⟨rfl, rfl, rfl⟩ := hc
  exact ⟨none, [], 0, rfl, Nat.le_refl _, Nat.zero_le _, fun i hi => absurd hi (by simp), fun z hz => by cases hz⟩
 ·simp [Value.cells] at hc
  obtain ⟨rfl, rfl, rfl⟩ := hc
  have hlz : l <= zs.length := by rw [hz]; split <;> omega
  have hlen : (zs.take l).length = l := by rw [List.length_take]; omega
  refine ⟨some a, zs.take l, c, by rw [hlen], by omega, hm, fun i hil => ?_, fun z hz => bounds_i64 (hw z (List.mem_of_mem_take hz))⟩
  rw [hlen] at hil
  have h1 := hi i (by omega)
  have hspot : a.spot = none := by
   have h0 := World.cell?_spot (hi 0 (by omega))
   simpa [Addr.add] using h0
  obtain ⟨b, off, spot⟩ := a
  simp at hspot
  subst hspot
  refine ⟨b, off, rfl, ?_⟩
  have e : (⟨b, off, none⟩ : Addr).add i = ⟨b, off + i, none⟩ := by
   unfold Addr.add
   split
   ·simp [*]
   ·rfl
  rw [e] at h1
  rw [h1]
  congr 2
  unfold List.getD
  rw [List.getElem?_take_of_lt hil]
set_option maxRecDepth 100000 in
theorem ints_cells {H : Type} {enc : TypeId × Value -> H} {W : World} {sp : Nat -> Bool} {v : Value} {n : Nat} {y : DataW H × List MemPlace}
  (h : DataW.trod enc Tryz.prog W 0 sp true n 24 [v] = some y) : ∃ (p : Option Addr) (zs : List Int) (c : Nat), v = .slice p zs.length c /\ zs.length <= c /\ c <= maxLen /\ Sh.SlI W p zs /\ ∀ z ∈ zs, -9223372036854775808 <= z /\ z <= 9223372036854775807 := by
 obtain ⟨d, ps⟩ := y
 rcases open_ints Tryz.underlying24 Tryz.underlying3 (by kernel_rfl) h with ⟨hc, _⟩ | ⟨a, len, cap, zs, hc, hb, hl, hm, hz, hx, hi, hw⟩
 ·simp at hc
  subst hc
  exact ⟨none, [], 0, rfl, Nat.le_refl _, Nat.zero_le _, fun i hi => absurd hi (by simp), fun z hz => by cases hz⟩
 ·simp at hc
  subst hc
  have hlz : len <= zs.length := by rw [hz]; split <;> omega
  have hlen : (zs.take len).length = len := by rw [List.length_take]; omega
  refine ⟨some a, zs.take len, cap, by rw [hlen], by omega, hm, fun i hil => ?_, fun z hz => bounds_i64 (hw z (List.mem_of_mem_take hz))⟩
  rw [hlen] at hil
  have h1 := hi i (by omega)
  have hspot : a.spot = none := by
   have h0 := World.cell?_spot (hi 0 (by omega))
   simpa [Addr.add] using h0
  obtain ⟨b, off, spot⟩ := a
  simp at hspot
  subst hspot
  refine ⟨b, off, rfl, ?_⟩
  have e : (⟨b, off, none⟩ : Addr).add i = ⟨b, off + i, none⟩ := by
   unfold Addr.add
   split
   ·simp [*]
   ·rfl
  rw [e] at h1
  rw [h1]
  congr 2
  unfold List.getD
  rw [List.getElem?_take_of_lt hil]
set_option maxRecDepth 100000 in
theorem cellsTT : Tryz.prog.cellsOf 27 = 7 := by kernel_rfl
theorem cellsSI : Tryz.prog.cellsOf 24 = 1 := by kernel_rfl
theorem cellsSV : Tryz.prog.cellsOf 25 = 1 := by kernel_rfl
theorem cellsI3 : Tryz.prog.cellsOf 3 = 1 := by kernel_rfl
set_option maxRecDepth 100000 in
theorem tens_arg {H : Type} {enc : TypeId × Value -> H} {W : World} {sp : Nat -> Bool} {v : Value} {d : DataW H} {ps : List MemPlace} {r : Reach} {b0 : Nat} (hv : Value.okWide Tryz.prog W r b0 27 v)
  (h : DataW.Trod enc Tryz.prog W 0 sp true 27 v d ps) : ∃ (K B F R O : Int) (p : Option Addr) (zs : List Int) (c : Nat) (q : Option Addr) (vs : List (Int × Int)) (d : Nat), v = .agg #[.int .i64 K, .int .i64 B, .int .i64 F, .int .i64 R, .int .i64 O, .slice p zs.length c, .slice q vs.length d] /\ (-9223372036854775808 <= B /\ B <= 9223372036854775807) /\ zs.length <= c /\ c <= maxLen /\ vs.length <= d /\ d <= maxLen /\ Sh.SlI W p zs /\ Va.SlV W q vs /\ (∀ z ∈ zs, (-9223372036854775808 <= z /\ z <= 9223372036854775807)) /\ ∀ y ∈ vs, (-9223372036854775808 <= y.1 /\ y.1 <= 9223372036854775807) /\ (-9223372036854775808 <= y.2 /\ y.2 <= 9223372036854775807) := by
 obtain ⟨cs, rfl, hsz⟩ := okWide_struct Tryz.underlying27 hv
 obtain ⟨l⟩ := cs
 match l, hsz.trans cellsTT with
 | [c0, c1, c2, c3, c4, c5, c6], _ =>
  obtain ⟨fuel, hf⟩ := h
  obtain ⟨y0, y1, y2, n, _, _, h0, h1, h2⟩ := trod_struct3 Tryz.underlying27 hf
  have t0 : DataW.trod enc Tryz.prog W 0 sp true n 23 [c0, c1, c2, c3, c4] = some y0 := by simpa [Value.cells, cellsT] using h0
  have t1 : DataW.trod enc Tryz.prog W 0 sp true n 24 [c5] = some y1 := by simpa [Value.cells, cellsSI] using h1
  have t2 : DataW.trod enc Tryz.prog W 0 sp true n 25 [c6] = some y2 := by simpa [Value.cells, cellsSV] using h2
  obtain ⟨xs, n2, _, hx, _, hlen, hg⟩ := DataW.trod_struct Tryz.underlying23 t0
  match xs, hlen with
  | [x0, x1, x2, x3, x4], _ =>
   have g0 : DataW.trod enc Tryz.prog W 0 sp true n2 3 [c0] = some x0 := by simpa [Value.cells, cellsI3] using hg 0 _ rfl
   have g1 : DataW.trod enc Tryz.prog W 0 sp true n2 3 [c1] = some x1 := by simpa [Value.cells, cellsI3] using hg 1 _ rfl
   have g2 : DataW.trod enc Tryz.prog W 0 sp true n2 3 [c2] = some x2 := by simpa [Value.cells, cellsI3] using hg 2 _ rfl
   have g3 : DataW.trod enc Tryz.prog W 0 sp true n2 3 [c3] = some x3 := by simpa [Value.cells, cellsI3] using hg 3 _ rfl
   have g4 : DataW.trod enc Tryz.prog W 0 sp true n2 3 [c4] = some x4 := by simpa [Value.cells, cellsI3] using hg 4 _ rfl
   obtain ⟨a0, e0, _, w0⟩ := DataW.trod_int Tryz.underlying3 g0
   obtain ⟨a1, e1, _, w1⟩ := DataW.trod_int Tryz.underlying3 g1
   obtain ⟨a2, e2, _, w2⟩ := DataW.trod_int Tryz.underlying3 g2
   obtain ⟨a3, e3, _, w3⟩ := DataW.trod_int Tryz.underlying3 g3
   obtain ⟨a4, e4, _, w4⟩ := DataW.trod_int Tryz.underlying3 g4
   simp only [List.cons.injEq, and_true] at e0 e1 e2 e3 e4
   subst e0 e1 e2 e3 e4
   obtain ⟨P, Z, C, rfl, lc, mc, S, bb⟩ := ints_cells t1
   obtain ⟨P2, Z2, C2, rfl, lc2, mc2, S2, bb2⟩ := vals_cells t2
   exact ⟨a0, a1, a2, a3, a4, P, Z, C, P2, Z2, C2, rfl, bounds_i64 w1, lc, mc, lc2, mc2, S, S2, bb, bb2⟩
theorem la_of {W : World} (hL : laidMetH Tryz.prog Rows.tensorZipsRow.laid W) : Tx.LA W := by
 rw [Go.MakeChecks.laidMetH_plain _ _ _ (by kernel_rfl)] at hL
 have h2 := hL.tail.tail
 exact ⟨Lib.tabIs_of_head (g := 0) (t := 177) (e := 130) (n := 20) (by kernel_rfl) (by kernel_rfl) Tryz.underlying177 Tryz.underlying130 (by kernel_rfl) (by kernel_rfl) h2, trivial⟩
set_option maxRecDepth 100000 in
theorem walk (tK0 tB0 tF0 tR0 tO0 : Int) (tp0 : Option Addr) (tz0 : List Int) (tc0 : Nat) (tq0 : Option Addr) (tv0 : List (Int × Int)) (td0 : Nat) (tK1 tB1 tF1 tR1 tO1 : Int) (tp1 : Option Addr) (tz1 : List Int) (tc1 : Nat) (tq1 : Option Addr) (tv1 : List (Int × Int)) (td1 : Nat) (n2 : Int) (n3 : Int) (w : World) (tb0 : (-9223372036854775808 <= tB0 /\ tB0 <= 9223372036854775807)) (tl0 : tz0.length <= tc0) (tm0 : tc0 <= maxLen) (tn0 : tv0.length <= td0) (to0 : td0 <= maxLen) (tS0 : Hid (Sh.SlI w tp0 tz0)) (tV0 : Hid (Va.SlV w tq0 tv0)) (tx0 : ∀ z ∈ tz0, (-9223372036854775808 <= z /\ z <= 9223372036854775807)) (ty0 : ∀ y ∈ tv0, (-9223372036854775808 <= y.1 /\ y.1 <= 9223372036854775807) /\ (-9223372036854775808 <= y.2 /\ y.2 <= 9223372036854775807)) (tb1 : (-9223372036854775808 <= tB1 /\ tB1 <= 9223372036854775807)) (tl1 : tz1.length <= tc1) (tm1 : tc1 <= maxLen) (tn1 : tv1.length <= td1) (to1 : td1 <= maxLen) (tS1 : Hid (Sh.SlI w tp1 tz1)) (tV1 : Hid (Va.SlV w tq1 tv1)) (tx1 : ∀ z ∈ tz1, (-9223372036854775808 <= z /\ z <= 9223372036854775807)) (ty1 : ∀ y ∈ tv1, (-9223372036854775808 <= y.1 /\ y.1 <= 9223372036854775807) /\ (-9223372036854775808 <= y.2 /\ y.2 <= 9223372036854775807)) (bn2 : (-9223372036854775808 <= n2 /\ n2 <= 9223372036854775807)) (bn3 : (-9223372036854775808 <= n3 /\ n3 <= 9223372036854775807)) (hL : Tx.LA w) : Calls Tryz.prog 7 #[.agg #[.int .i64 tK0, .int .i64 tB0, .int .i64 tF0, .int .i64 tR0, .int .i64 tO0, .slice tp0 tz0.length tc0, .slice tq0 tv0.length td0], .agg #[.int .i64 tK1, .int .i64 tB1, .int .i64 tF1, .int .i64 tR1, .int .i64 tO1, .slice tp1 tz1.length tc1, .slice tq1 tv1.length td1], .int .i64 n2, .int .i64 n3] w fun e w' => e = .returned (.bool true) /\ Below w.heap.size w w' :=
 Te.law_zi tK0 tB0 tF0 tR0 tO0 tp0 tz0 tc0 tq0 tv0 td0 tK1 tB1 tF1 tR1 tO1 tp1 tz1 tc1 tq1 tv1 td1 n2 n3 w tb0.1 tb0.2 tb1.1 tb1.2 (Nat.le_trans tl0 tm0) (Nat.le_trans tn0 to0) (Nat.le_trans tl1 tm1) (Nat.le_trans tn1 to1) tS0 tV0 tS1 tV1 hL

set_option maxRecDepth 100000 in
theorem lifted (os : Os) (started : os.Started) (H : Type) (enc : TypeId × Value -> H) :
  ReturnsInHanded {} Tryz.checked os 7 .any (fun w args => (Rows.tensorZipsSpec.pre enc Tryz.prog Tryz.f7 [] false w args /\ laidMetH Tryz.prog Rows.tensorZipsRow.laid w) /\ sizedMet enc Tryz.prog Tryz.f7 (OpenSpec.ofChange Rows.tensorZipsSpec) false w args)
   (Rows.tensorZipsSpec.post enc Tryz.prog Tryz.f7 false true false false) := by
 refine returnsInHanded_of_change_and (C := Tryz.checked) (X := fun w _ => laidMetH Tryz.prog Rows.tensorZipsRow.laid w) (fun _ _ _ hh h => h.of_heap hh) own started (by kernel_rfl) Tryz.func7
  (ChangeSpec.witness_shaped (enc := enc) (C := Tryz.checked) (os := os) (X := fun w _ => laidMetH Tryz.prog Rows.tensorZipsRow.laid w) false (World.doorLaid Tryz.prog 400 os) #[.agg #[.int .i64 0, .int .i64 0, .int .i64 0, .int .i64 0, .int .i64 0, .slice none 0 0, .slice none 0 0], .agg #[.int .i64 0, .int .i64 0, .int .i64 0, .int .i64 0, .int .i64 0, .slice none 0 0, .slice none 0 0], .int .i64 0, .int .i64 0] 8 rfl (World.shaped_of_RefB (by kernel_rfl) (by kernel_rfl)) (by kernel_rfl) (by kernel_rfl) (by kernel_rfl) (door_met os _)) ?_
 intro W base args ds gs before hval0 hW _ _ hL _
 have hval : ∀ (j : Nat) t v, Tryz.f7.params[j]? = some t -> args[j]? = some v -> Value.okWide Tryz.prog W .any base t v := hval0
 have hW' := hW
 obtain ⟨p, q, hA0, hV, rfl, hfz, hnd⟩ := hW
 have hA : DataW.TrodAll enc Tryz.prog W 0 (fun _ => true) true Tryz.f7.params.toList args.toList ds p := hA0
 rw [Tryz.params7] at hA hval
 obtain ⟨v0, vs0, d0, ds0, p0, q0, hargs, rfl, rfl, h0, r0⟩ := trodAll_cons hA
 obtain ⟨v1, vs1, d1, ds1, p1, q1, rfl, rfl, rfl, h1, r1⟩ := trodAll_cons r0
 obtain ⟨v2, vs2, d2, ds2, p2, q2, rfl, rfl, rfl, h2, r2⟩ := trodAll_cons r1
 obtain ⟨v3, vs3, d3, ds3, p3, q3, rfl, rfl, rfl, h3, r3⟩ := trodAll_cons r2
 obtain ⟨rfl, rfl, rfl⟩ := trodAll_nil r3
 obtain rfl : args = #[v0, v1, v2, v3] := by cases args; simp_all
 obtain ⟨rfl, rfl⟩ := trodVars_none hV
 have lt0 : ∀ x ∈ p0, x.block < W.heap.size := fun x hx => hW'.lt x (by simp [hx])
 have lt1 : ∀ x ∈ p1, x.block < W.heap.size := fun x hx => hW'.lt x (by simp [hx])
 have lt2 : ∀ x ∈ p2, x.block < W.heap.size := fun x hx => hW'.lt x (by simp [hx])
 have lt3 : ∀ x ∈ p3, x.block < W.heap.size := fun x hx => hW'.lt x (by simp [hx])
 have g0 := h0
 have g1 := h1
 have g2 := h2
 have g3 := h3
 obtain ⟨tK0, tB0, tF0, tR0, tO0, tp0, tz0, tc0, tq0, tv0, td0, rfl, tb0, tl0, tm0, tn0, to0, tS0, tV0, tx0, ty0⟩ := tens_arg (hval 0 27 v0 rfl rfl) g0
 obtain ⟨tK1, tB1, tF1, tR1, tO1, tp1, tz1, tc1, tq1, tv1, td1, rfl, tb1, tl1, tm1, tn1, to1, tS1, tV1, tx1, ty1⟩ := tens_arg (hval 1 27 v1 rfl rfl) g1
 obtain ⟨a2, rfl, rfl, rfl, w2⟩ := open_int Tryz.underlying3 (hval 2 3 v2 rfl rfl) h2
 obtain ⟨a3, rfl, rfl, rfl, w3⟩ := open_int Tryz.underlying3 (hval 3 3 v3 rfl rfl) h3
 clear hA0 hval0
 simp only [List.append_nil] at hW'
 refine (walk tK0 tB0 tF0 tR0 tO0 tp0 tz0 tc0 tq0 tv0 td0 tK1 tB1 tF1 tR1 tO1 tp1 tz1 tc1 tq1 tv1 td1 a2 a3 W tb0 tl0 tm0 tn0 to0 (Lib.hid tS0) (Lib.hid tV0) tx0 ty0 tb1 tl1 tm1 tn1 to1 (Lib.hid tS1) (Lib.hid tV1) tx1 ty1 (bounds_i64 w2) (bounds_i64 w3) (la_of hL)).mono fun e W' ⟨he, bel⟩ => ?_
 subst he
 exact ⟨_, rfl, _, _, _, [], _, [], hW', trodAll_mk1 (shut_bool Tryz.underlying4 _), (trodAll_cons_mk (Below.trod laidOut (by kernel_rfl) (of_decide_eq_true (by kernel_rfl)) h0 bel lt0) (trodAll_cons_mk (Below.trod laidOut (by kernel_rfl) (of_decide_eq_true (by kernel_rfl)) h1 bel lt1) (trodAll_cons_mk (shut_int Tryz.underlying3 w2) (trodAll_cons_mk (shut_int Tryz.underlying3 w3) trodAll_mk0)))), rfl, bel.frame _, fun h => by cases h⟩

theorem row_holds : Rows.TensorZipsSaid :=
 OpenClaim.holds_of_wide 7 Tryz.f7 rfl rfl rfl rfl rfl rfl rfl ⟨rfl, rfl, rfl, rfl, rfl⟩ rfl rfl rfl rfl rfl (by kernel_rfl) Tryz.func7 (by kernel_rfl)
  (of_decide_eq_true (by kernel_rfl)) (by unfold Func.isWrapper; first | (rw [if_pos (by decide +kernel)]; kernel_rfl) | (rw [if_neg (by decide +kernel)]; exact ⟨rfl, rfl⟩))
  (fun os started H enc _ => lifted os started H enc)

theorem proved : Rows.TensorZipsCardSaid :=
 Claim7.holds_tied_plain_at .later [] [.data, .data, .data] true (true, "d6d38172c1cd416339d0edb99f4024993a566c89e8566c390aa11e549e13ce8d") false
  row_holds (fun _ h => by cases h) (by kernel_rfl) (fun _ h => by cases h) tensorZips_row_tie rfl ⟨rfl, rfl⟩ (by kernel_rfl) rfl
  (fun f fn hf hfn => by
   obtain rfl : f = 7 := Option.some.inj ((show Tryz.prog.funcNamed "brocade/brocadelaw12.TensorZips" = some 7 by kernel_rfl).symm.trans hf) |>.symm
   obtain rfl : fn = Tryz.f7 := (Option.some.inj (Tryz.func7.symm.trans hfn)).symm
   exact ⟨by kernel_rfl, fun j t ht => by
    rw [Tryz.params7] at ht
    have h3 : t = 3 \/ t = 27 := by
     rcases j with _ | _ | _ | _ | j
     ·simp at ht; simp [<- ht]
     ·simp at ht; simp [<- ht]
     ·simp at ht; simp [<- ht]
     ·simp at ht; simp [<- ht]
     ·simp at ht
    rcases h3 with rfl | rfl
    ·exact (show Tryz.prog.wantsStandIn 3 = false by kernel_rfl)
    ·exact (show Tryz.prog.wantsStandIn 27 = false by kernel_rfl)⟩)
  (by kernel_rfl)
#print axioms proved
end Go.Proofs.YteaaikmejacpaaaGreatDoor.tensorZips
