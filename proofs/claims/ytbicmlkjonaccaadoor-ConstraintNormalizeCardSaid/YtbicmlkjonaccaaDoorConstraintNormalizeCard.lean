/- For every list of constraints Normalize of package constraint answers as the reference does (P6.5; at most 300 constraints of at most 40 monomials, as the statement itself says): the row, and its tied card. -/
import Derived.Test.YtbicmlkjonaccaaDoorK27
import Derived.Lib.Hide
import Derived.Test.YtbicmlkjonaccaaDoorCards
import Derived.Test.YtbicmlkjonaccaaDoorTie
import Derived.Lib.SmallJoins
import Derived.Deep.Slices
import Derived.Deep.Fields
import Derived.ChangeSame
import Derived.Carry
import Derived.ProofKit
import Derived.LaidMore
import Derived.OpenShut
import Derived.Stop.Joined
import Derived.ChangeMaps5
import Derived.Stop.LaidErr
import Derived.MakeChecks
import Derived.Lib.LaidTab

namespace Go.Proofs.YtbicmlkjonaccaaDoor.constraintNormalize
open Go.ChangeShapes Go.WideShapes Go.ChangeAt Go.RowKit Go.Joins Go.Deep
set_option linter.unusedVariables false

theorem own : ownKnob Tryd.prog.godebug = none := by kernel_rfl
theorem laidOut : laidOutB Tryd.prog = true := by kernel_rfl


theorem door_met (os : Os) (args : Array Value) : laidMetH Tryd.prog Rows.constraintNormalizeRow.laid ((World.doorLaid Tryd.prog 400 os).forCall (fun _ _ => 0) ⟨#[], args, []⟩).memory :=
 laidMetH_of_parts3 (fuel := 8) (laidMet_of_run' 8 (by kernel_rfl) (by kernel_rfl)) (by kernel_rfl) (by kernel_rfl)
section
variable {H : Type} {enc : TypeId × Value -> H} {P : Program} {w : World} {base : Nat} {spare : Nat -> Bool} {held : Bool}
theorem open_agg5 {r : Reach} {b0 : Nat} {t : TypeId} {f0 f1 f2 f3 f4 : Field} {v : Value} {d : DataW H} {p : List MemPlace} (hs : P.underlying t = some (.struct #[f0, f1, f2, f3, f4])) (hone : oneCellFields P #[f0, f1, f2, f3, f4] = true) (hC : P.cellsOf t = 5)
  (hv : Value.okWide P w r b0 t v) (h : DataW.Trod enc P w base spare held t v d p) :
  ∃ (v0 v1 v2 v3 v4 : Value) (y0 y1 y2 y3 y4 : DataW H × List MemPlace) (n : Nat), v = .agg #[v0, v1, v2, v3, v4] /\ d = .agg [y0.1, y1.1, y2.1, y3.1, y4.1] /\ p = y0.2 ++ (y1.2 ++ (y2.2 ++ (y3.2 ++ y4.2))) /\
   DataW.trod enc P w base spare held n f0.type [v0] = some y0 /\ DataW.trod enc P w base spare held n f1.type [v1] = some y1 /\ DataW.trod enc P w base spare held n f2.type [v2] = some y2 /\ DataW.trod enc P w base spare held n f3.type [v3] = some y3 /\ DataW.trod enc P w base spare held n f4.type [v4] = some y4 := by
 obtain ⟨cs, rfl, hsz⟩ := okWide_struct hs hv
 obtain ⟨l⟩ := cs
 match l, hsz.trans hC with
 | [c0, c1, c2, c3, c4], _ =>
  obtain ⟨fuel, hf⟩ := h
  obtain ⟨xs, n, _, hx, _, hlen, hg⟩ := DataW.trod_struct hs hf
  obtain ⟨o0, k0⟩ := hone_of hone 0 f0 rfl
  obtain ⟨o1, k1⟩ := hone_of hone 1 f1 rfl
  obtain ⟨o2, k2⟩ := hone_of hone 2 f2 rfl
  obtain ⟨o3, k3⟩ := hone_of hone 3 f3 rfl
  obtain ⟨o4, k4⟩ := hone_of hone 4 f4 rfl
  match xs, hlen with
  | [y0, y1, y2, y3, y4], _ =>
   simp only [Prod.mk.injEq] at hx
   exact ⟨c0, c1, c2, c3, c4, y0, y1, y2, y3, y4, n, rfl, by simpa using hx.1, by simpa using hx.2, by simpa [Value.cells, o0, k0] using hg 0 f0 rfl, by simpa [Value.cells, o1, k1] using hg 1 f1 rfl, by simpa [Value.cells, o2, k2] using hg 2 f2 rfl, by simpa [Value.cells, o3, k3] using hg 3 f3 rfl, by simpa [Value.cells, o4, k4] using hg 4 f4 rfl⟩
end
theorem cells24 : Tryd.prog.cellsOf 24 = 2 := by kernel_rfl
section
variable {H : Type} {enc : TypeId × Value -> H} {P : Program} {w : World} {base : Nat} {spare : Nat -> Bool} {held : Bool}
theorem open_slice_fields {t e : TypeId} {fs : Array Field} {fuel : Nat} {cs : List Value} {x : DataW H × List MemPlace} (ht : P.underlying t = some (.slice e)) (he : P.underlying e = some (.struct fs))
  (hone : oneCellFields P fs = true) (hC : P.cellsOf e = fs.size) (h : DataW.trod enc P w base spare held fuel t cs = some x) :
  (cs = [.slice none 0 0] /\ x = (.nil, [])) \/
  ∃ (a : Addr) (len cap m : Nat) (D : Nat -> DataW H) (Pl : Nat -> List MemPlace), cs = [.slice (some a) len cap] /\ base <= a.block /\ len <= cap /\ cap <= maxLen /\ m = (if spare a.block then cap else len) /\
   x = (.slice ((List.range len).map D) ((List.range (m - len)).map fun j => D (len + j)), MemPlace.row a (m * fs.size) ++ (List.range m).flatMap Pl) /\
   ∀ i, i < m -> ∃ (ys : List (DataW H × List MemPlace)) (n : Nat), D i = .agg (ys.map (·.1)) /\ Pl i = ys.flatMap (·.2) /\ ys.length = fs.size /\
    ∀ (j : Nat) (f : Field), fs[j]? = some f -> ∃ (v : Value) (y : DataW H × List MemPlace), w.cell? (a.add (i * fs.size + j)) = some v /\ ys[j]? = some y /\ DataW.trod enc P w base spare held n f.type [v] = some y := by
 rcases open_slice ht h with h0 | ⟨a, len, cap, m, n, D, Pl, hcs, hb, hl, hm, hmm, hx, hi⟩
 ·exact .inl h0
 ·refine .inr ⟨a, len, cap, m, D, Pl, hcs, hb, hl, hm, hmm, by rw [hC] at hx; exact hx, fun i him => ?_⟩
  obtain ⟨cs', hc, ht'⟩ := hi i him
  rw [hC] at hc
  obtain ⟨ys, n', hn', hy, hlen, hyl, hf⟩ := DataW.trod_struct he ht'
  obtain ⟨_, hcl, hat⟩ := World.cells?_some hc
  simp only [Prod.mk.injEq] at hy
  refine ⟨ys, n', hy.1, hy.2, hyl, fun j f hj => ?_⟩
  obtain ⟨ho, hk⟩ := hone_of hone j f hj
  have hjl : j < fs.size := (Array.getElem?_eq_some_iff.1 hj).1
  have hcell := hat j hjl
  have hv : cs'[j]? = some (cs'[j]'(by omega)) := List.getElem?_eq_getElem (by omega)
  have h1 := hf j f hj
  rw [ho, hk] at h1
  have hone' : (cs'.drop j).take 1 = [cs'[j]'(by omega)] := by
   rw [List.drop_eq_getElem_cons (by omega)]
   rfl
  rw [hone'] at h1
  have hys : ys[j]? = some (ys[j]'(by omega)) := List.getElem?_eq_getElem (by omega)
  refine ⟨_, _, ?_, hys, h1.trans hys⟩
  rw [<- Go.Deep.add_add, hcell, hv]

end
theorem pick_monos {p : Nat -> Ln.Mo -> Prop} {l : Nat} (h : ∀ i, i < l -> ∃ x, p i x) : ∃ X : Nat -> Ln.Mo, ∀ i, i < l -> p i (X i) := by
 have h' : ∀ i, ∃ x, i < l -> p i x := fun i => by
  by_cases hi : i < l
  ·obtain ⟨x, hx⟩ := h i hi
   exact ⟨x, fun _ => hx⟩
  ·exact ⟨Ln.mo0, fun h => absurd h hi⟩
 exact ⟨fun i => Classical.choose (h' i), fun i => Classical.choose_spec (h' i)⟩
set_option maxRecDepth 100000 in
theorem monos_cells {H : Type} {enc : TypeId × Value -> H} {W : World} {sp : Nat -> Bool} {v : Value} {n : Nat} {y : DataW H × List MemPlace}
  (h : DataW.trod enc Tryd.prog W 0 sp true n 22 [v] = some y) : ∃ (p : Option Addr) (zs : List Ln.Mo) (c : Nat), v = .slice p zs.length c /\ zs.length <= c /\ c <= maxLen /\ Ln.SlM W p zs /\ ∀ z ∈ zs, z.1.size <= maxLen /\ (-9223372036854775808 <= z.2 /\ z.2 <= 9223372036854775807) := by
 obtain ⟨d, ps⟩ := y
 rcases open_slice_fields (P := Tryd.prog) Tryd.underlying22 Tryd.underlying59 (by kernel_rfl) (by kernel_rfl) h with ⟨hc, _⟩ | ⟨a, len, cap, m, D, Pl, hc, hb, hl, hm, hmm, hx, hi⟩
 ·simp at hc
  subst hc
  exact ⟨none, [], 0, rfl, Nat.le_refl _, Nat.zero_le _, fun i hi => absurd hi (by simp), fun z hz => by cases hz⟩
 ·simp at hc
  subst hc
  obtain ⟨l, hl0⟩ : ∃ l, l = len := ⟨_, rfl⟩
  subst hl0
  obtain ⟨c, hc0⟩ : ∃ c, c = cap := ⟨_, rfl⟩
  subst hc0
  have hlm : l <= m := by rw [hmm]; split <;> omega
  have each : ∀ i, i < l -> ∃ x : Ln.Mo, (W.cell? (a.add (i * 2)) = some (.string x.1) /\ W.cell? (a.add (i * 2 + 1)) = some (.int .i64 x.2)) /\ x.1.size <= maxLen /\ (-9223372036854775808 <= x.2 /\ x.2 <= 9223372036854775807) := by
   intro i hil
   obtain ⟨ys, n2, _, _, _, hf⟩ := hi i (by omega)
   obtain ⟨v0, y0, c0, _, t0⟩ := hf 0 _ rfl
   obtain ⟨v1, y1, c1, _, t1⟩ := hf 1 _ rfl
   obtain ⟨s0, e0, _, w0⟩ := DataW.trod_string Tryd.underlying9 t0
   obtain ⟨s1, e1, _, w1⟩ := DataW.trod_int Tryd.underlying2 t1
   simp only [List.cons.injEq, and_true] at e0 e1
   subst e0 e1
   exact ⟨(s0, s1), ⟨c0, c1⟩, w0, bounds_i64 w1⟩
  obtain ⟨X, hX⟩ := pick_monos each
  have hlen : ((List.range l).map X).length = l := by simp
  have hget : ∀ i, i < l -> ((List.range l).map X).getD i Ln.mo0 = X i := fun i hil => by simp [List.getD, hil]
  refine ⟨some a, (List.range l).map X, c, by rw [hlen], by rw [hlen]; omega, hm, fun i hil => ?_, fun z hz => ?_⟩
  ·rw [hlen] at hil
   have hspot : a.spot = none := by
    have h1 := (hX 0 (by omega)).1.1
    simp [Addr.add] at h1
    exact World.cell?_spot h1
   obtain ⟨b, off, spot⟩ := a
   simp at hspot
   subst hspot
   have e : ∀ k : Nat, (⟨b, off, none⟩ : Addr).add k = ⟨b, off + k, none⟩ := fun k => by
    unfold Addr.add
    split
    ·simp [*]
    ·rfl
   have h1 := (hX i hil).1
   rw [e, e] at h1
   rw [hget i hil]
   exact ⟨b, off, rfl, h1.1, by rw [Nat.add_assoc]; exact h1.2⟩
  ·obtain ⟨i, hi2, rfl⟩ := List.mem_map.1 hz
   exact (hX i (List.mem_range.1 hi2)).2
theorem cells36 : Tryd.prog.cellsOf 36 = 3 := by kernel_rfl
theorem okc2 : Tryd.prog.cellsOf 2 = 1 := by kernel_rfl
theorem okc22 : Tryd.prog.cellsOf 22 = 1 := by kernel_rfl
theorem okcb : Tryd.prog.cellsOf 4 = 1 := by kernel_rfl
set_option maxRecDepth 100000 in
theorem con_cells {H : Type} {enc : TypeId × Value -> H} {W : World} {sp : Nat -> Bool} {c0 c1 c2 : Value} {n : Nat} {y : DataW H × List MemPlace}
  (hf : DataW.trod enc Tryd.prog W 0 sp true n 36 [c0, c1, c2] = some y) : ∃ (k : Int) (p : Option Addr) (xs : List Ln.Mo) (c : Nat) (eq : Bool), (c0 = .int .i64 k /\ c1 = .slice p xs.length c /\ c2 = .bool eq) /\ (-9223372036854775808 <= k /\ k <= 9223372036854775807) /\ xs.length <= c /\ c <= maxLen /\ Ln.SlM W p xs /\ (∀ m ∈ xs, m.1.size <= maxLen /\ -9223372036854775808 <= m.2 /\ m.2 <= 9223372036854775807) := by
 obtain ⟨y0, y1, n, hx, _, h0, h1⟩ := trod_struct2 Tryd.underlying36 hf
 have t0 : DataW.trod enc Tryd.prog W 0 sp true n 24 [c0, c1] = some y0 := by simpa [Value.cells, cells24] using h0
 have t1 : DataW.trod enc Tryd.prog W 0 sp true n 4 [c2] = some y1 := by simpa [Value.cells, okcb] using h1
 obtain ⟨z0, z1, n2, _, _, u0, u1⟩ := trod_struct2 Tryd.underlying24 t0
 have u2 : DataW.trod enc Tryd.prog W 0 sp true n2 2 [c0] = some z0 := by simpa [Value.cells, okc2] using u0
 have u3 : DataW.trod enc Tryd.prog W 0 sp true n2 22 [c1] = some z1 := by simpa [Value.cells, okc22] using u1
 obtain ⟨a, e, _, w⟩ := DataW.trod_int Tryd.underlying2 u2
 obtain ⟨b, e2, _⟩ := DataW.trod_bool Tryd.underlying4 t1
 simp only [List.cons.injEq, and_true] at e e2
 subst e e2
 obtain ⟨P, Z, C, rfl, lc, mc, S, bb⟩ := monos_cells u3
 exact ⟨a, P, Z, C, b, ⟨rfl, rfl, rfl⟩, bounds_i64 w, lc, mc, S, bb⟩
set_option maxRecDepth 100000 in
theorem con_arg {H : Type} {enc : TypeId × Value -> H} {W : World} {sp : Nat -> Bool} {v : Value} {d : DataW H} {ps : List MemPlace} {r : Reach} {b0 : Nat} (hv : Value.okWide Tryd.prog W r b0 36 v)
  (h : DataW.Trod enc Tryd.prog W 0 sp true 36 v d ps) : ∃ (k : Int) (p : Option Addr) (xs : List Ln.Mo) (c : Nat) (eq : Bool), v = .agg #[.int .i64 k, .slice p xs.length c, .bool eq] /\ (-9223372036854775808 <= k /\ k <= 9223372036854775807) /\ xs.length <= c /\ c <= maxLen /\ Ln.SlM W p xs /\ (∀ m ∈ xs, m.1.size <= maxLen /\ -9223372036854775808 <= m.2 /\ m.2 <= 9223372036854775807) := by
 obtain ⟨cs, rfl, hsz⟩ := okWide_struct Tryd.underlying36 hv
 obtain ⟨c0, c1, c2, rfl⟩ := array3 (hsz.trans cells36)
 obtain ⟨fuel, hf⟩ := h
 obtain ⟨a, P, Z, C, b, ⟨rfl, rfl, rfl⟩, w, lc, mc, S, bb⟩ := con_cells hf
 exact ⟨a, P, Z, C, b, rfl, w, lc, mc, S, bb⟩
theorem pick_cons {p : Nat -> Ln.Qm -> Prop} {l : Nat} (h : ∀ i, i < l -> ∃ x, p i x) : ∃ X : Nat -> Ln.Qm, ∀ i, i < l -> p i (X i) := by
 have h' : ∀ i, ∃ x, i < l -> p i x := fun i => by
  by_cases hi : i < l
  ·obtain ⟨x, hx⟩ := h i hi
   exact ⟨x, fun _ => hx⟩
  ·exact ⟨Ln.q0m, fun h => absurd h hi⟩
 exact ⟨fun i => Classical.choose (h' i), fun i => Classical.choose_spec (h' i)⟩
set_option maxRecDepth 100000 in
theorem cons_arg {H : Type} {enc : TypeId × Value -> H} {W : World} {sp : Nat -> Bool} {v : Value} {d : DataW H} {ps : List MemPlace} {r : Reach} {b0 : Nat} (hlt : ∀ x ∈ ps, x.block < W.heap.size) (hv : Value.okWide Tryd.prog W r b0 30 v)
  (h : DataW.Trod enc Tryd.prog W 0 sp true 30 v d ps) : ∃ (p : Option Addr) (zs : List Ln.Qm) (c : Nat), v = .slice p zs.length c /\ zs.length <= c /\ c <= maxLen /\ Ln.SlQ W p zs /\ Ln.argQ zs := by
 obtain ⟨s, l, c, rfl⟩ := okWide_slice Tryd.underlying30 hv
 obtain ⟨fuel, h⟩ := h
 rcases open_slice Tryd.underlying30 h with ⟨hc, _⟩ | ⟨a, len, cap, m, n, D, Pl, hc, hb, hl, hm, hmm, hx, hi⟩
 ·simp [Value.cells] at hc
  obtain ⟨rfl, rfl, rfl⟩ := hc
  exact ⟨none, [], 0, rfl, Nat.le_refl _, Nat.zero_le _, fun i hi => absurd hi (by simp), fun z hz => by cases hz⟩
 ·simp [Value.cells] at hc
  obtain ⟨rfl, rfl, rfl⟩ := hc
  have hlm : l <= m := by rw [hmm]; split <;> omega
  have each : ∀ i, i < l -> ∃ x : Ln.Qm, (∃ q c, W.cell? (a.add (i * 3)) = some (.int .i64 x.1) /\ W.cell? (a.add (i * 3 + 1)) = some (.slice q x.2.1.length c) /\ W.cell? (a.add (i * 3 + 2)) = some (.bool x.2.2) /\ Ln.SlM W q x.2.1) /\
    ((-9223372036854775808 <= x.1 /\ x.1 <= 9223372036854775807) /\ x.2.1.length <= maxLen /\ ∀ y ∈ x.2.1, y.1.size <= maxLen /\ (-9223372036854775808 <= y.2 /\ y.2 <= 9223372036854775807)) := by
   intro i hil
   obtain ⟨cs', hcc, ht'⟩ := hi i (by omega)
   rw [cells36] at hcc
   obtain ⟨_, hcl, hat⟩ := World.cells?_some hcc
   match cs', hcl with
   | [c0, c1, c2], _ =>
    obtain ⟨k, P, Z, C, b, ⟨rfl, rfl, rfl⟩, w, lc, mc, S, bb⟩ := con_cells ht'
    have g0 := hat 0 (by omega)
    have g1 := hat 1 (by omega)
    have g2 := hat 2 (by omega)
    rw [Go.Deep.add_add] at g0 g1 g2
    exact ⟨(k, Z, b), ⟨P, C, g0, g1, g2, S⟩, w, Nat.le_trans lc mc, bb⟩
  obtain ⟨X, hX⟩ := pick_cons each
  have hlen : ((List.range l).map X).length = l := by simp
  have hget : ∀ i, i < l -> ((List.range l).map X).getD i Ln.q0m = X i := fun i hil => by simp [List.getD, hil]
  refine ⟨some a, (List.range l).map X, c, by rw [hlen], by rw [hlen]; omega, hm, fun i hil => ?_, fun z hz => ?_⟩
  ·rw [hlen] at hil
   have hspot : a.spot = none := by
    obtain ⟨q, c, h1, _⟩ := (hX 0 (by omega)).1
    simp [Addr.add] at h1
    exact World.cell?_spot h1
   obtain ⟨b, off, spot⟩ := a
   simp at hspot
   subst hspot
   have e : ∀ k : Nat, (⟨b, off, none⟩ : Addr).add k = ⟨b, off + k, none⟩ := fun k => by
    unfold Addr.add
    split
    ·simp [*]
    ·rfl
   obtain ⟨q, c, h1, h2, h3, h4⟩ := (hX i hil).1
   rw [e] at h1 h2 h3
   rw [hget i hil]
   exact ⟨b, off, q, c, rfl, h1, by rw [Nat.add_assoc]; exact h2, by rw [Nat.add_assoc]; exact h3, h4⟩
  ·obtain ⟨i, hi2, rfl⟩ := List.mem_map.1 hz
   exact (hX i (List.mem_range.1 hi2)).2
theorem la_of {W : World} (hL : laidMetH Tryd.prog Rows.constraintNormalizeRow.laid W) : Ln.LA W := by
 rw [Go.MakeChecks.laidMetH_plain _ _ _ (by kernel_rfl)] at hL
 have h2 := hL.tail.tail
 exact ⟨Lib.tabIs_of_head (g := 1) (t := 156) (e := 76) (n := 20) (by kernel_rfl) (by kernel_rfl) Tryd.underlying156 Tryd.underlying76 (by kernel_rfl) (by kernel_rfl) h2, trivial⟩
set_option maxRecDepth 100000 in
theorem walk (p0 : Option Addr) (l0 : List Ln.Qm) (c0 : Nat) (w : World) (lc0 : l0.length <= c0) (mc0 : c0 <= maxLen) (S0 : Hid (Ln.SlQ w p0 l0)) (hb0 : Ln.argQ l0) (hL : Ln.LA w) : Calls Tryd.prog 11 #[.slice p0 l0.length c0] w fun e w' => e = .returned (.bool true) /\ Below w.heap.size w w' :=
 Ln.law_cnorm p0 l0 c0 w (Nat.le_trans lc0 mc0) S0 (Lib.hid hb0) (Lib.hid fun w' h => hL.below h)

set_option maxRecDepth 100000 in
theorem lifted (os : Os) (started : os.Started) (H : Type) (enc : TypeId × Value -> H) :
  ReturnsInHanded {} Tryd.checked os 11 .any (fun w args => (Rows.constraintNormalizeSpec.pre enc Tryd.prog Tryd.f11 [] false w args /\ laidMetH Tryd.prog Rows.constraintNormalizeRow.laid w) /\ sizedMet enc Tryd.prog Tryd.f11 (OpenSpec.ofChange Rows.constraintNormalizeSpec) false w args)
   (Rows.constraintNormalizeSpec.post enc Tryd.prog Tryd.f11 false true false false) := by
 refine returnsInHanded_of_change_and (C := Tryd.checked) (X := fun w _ => laidMetH Tryd.prog Rows.constraintNormalizeRow.laid w) (fun _ _ _ hh h => h.of_heap hh) own started (by kernel_rfl) Tryd.func11
  (ChangeSpec.witness_shaped (enc := enc) (C := Tryd.checked) (os := os) (X := fun w _ => laidMetH Tryd.prog Rows.constraintNormalizeRow.laid w) false (World.doorLaid Tryd.prog 400 os) #[.slice none 0 0] 8 rfl (World.shaped_of_RefB (by kernel_rfl) (by kernel_rfl)) (by kernel_rfl) (by kernel_rfl) (by kernel_rfl) (door_met os _)) ?_
 intro W base args ds gs before hval0 hW _ _ hL _
 have hval : ∀ (j : Nat) t v, Tryd.f11.params[j]? = some t -> args[j]? = some v -> Value.okWide Tryd.prog W .any base t v := hval0
 have hW' := hW
 obtain ⟨p, q, hA0, hV, rfl, hfz, hnd⟩ := hW
 have hA : DataW.TrodAll enc Tryd.prog W 0 (fun _ => true) true Tryd.f11.params.toList args.toList ds p := hA0
 rw [Tryd.params11] at hA hval
 obtain ⟨v0, vs0, d0, ds0, p0, q0, hargs, rfl, rfl, h0, r0⟩ := trodAll_cons hA
 obtain ⟨rfl, rfl, rfl⟩ := trodAll_nil r0
 obtain rfl : args = #[v0] := by cases args; simp_all
 obtain ⟨rfl, rfl⟩ := trodVars_none hV
 have lt0 : ∀ x ∈ p0, x.block < W.heap.size := fun x hx => hW'.lt x (by simp [hx])
 have g0 := h0
 obtain ⟨P0, Z0, C0, rfl, lc0, mc0, S0, b0⟩ := cons_arg lt0 (hval 0 30 v0 rfl rfl) g0
 clear hA0 hval0
 simp only [List.append_nil] at hW'
 refine (walk P0 Z0 C0 W lc0 mc0 (Lib.hid S0) b0 (la_of hL)).mono fun e W' ⟨he, bel⟩ => ?_
 subst he
 exact ⟨_, rfl, _, _, _, [], _, [], hW', trodAll_mk1 (shut_bool Tryd.underlying4 _), (trodAll_cons_mk (Below.trod laidOut (by kernel_rfl) (of_decide_eq_true (by kernel_rfl)) h0 bel lt0) trodAll_mk0), rfl, bel.frame _, fun h => by cases h⟩

theorem row_holds : Rows.ConstraintNormalizeSaid :=
 OpenClaim.holds_of_wide 11 Tryd.f11 rfl rfl rfl rfl rfl rfl rfl ⟨rfl, rfl, rfl, rfl, rfl⟩ rfl rfl rfl rfl rfl (by kernel_rfl) Tryd.func11 (by kernel_rfl)
  (of_decide_eq_true (by kernel_rfl)) (by unfold Func.isWrapper; first | (rw [if_pos (by decide +kernel)]; kernel_rfl) | (rw [if_neg (by decide +kernel)]; exact ⟨rfl, rfl⟩))
  (fun os started H enc _ => lifted os started H enc)

theorem proved : Rows.ConstraintNormalizeCardSaid :=
 Claim7.holds_tied_plain_at .later [] [.data, .data, .data] true (true, "f879ec4be0f2f3cad4ff6a92189198b141b8ba091fc695a00204614cf6fce62a") false
  row_holds (fun _ h => by cases h) (by kernel_rfl) (fun _ h => by cases h) constraintNormalize_row_tie rfl ⟨rfl, rfl⟩ (by kernel_rfl) rfl
  (fun f fn hf hfn => by
   obtain rfl : f = 11 := Option.some.inj ((show Tryd.prog.funcNamed "brocade/brocadelaw06.ConstraintNormalize" = some 11 by kernel_rfl).symm.trans hf) |>.symm
   obtain rfl : fn = Tryd.f11 := (Option.some.inj (Tryd.func11.symm.trans hfn)).symm
   exact ⟨by kernel_rfl, fun j t ht => by
    rw [Tryd.params11] at ht
    have h3 : t = 30 := by
     rcases j with _ | j
     ·simp at ht; simp [<- ht]
     ·simp at ht
    rcases h3 with rfl
    ·exact (show Tryd.prog.wantsStandIn 30 = false by kernel_rfl)⟩)
  (by kernel_rfl)
#print axioms proved
end Go.Proofs.YtbicmlkjonaccaaDoor.constraintNormalize
