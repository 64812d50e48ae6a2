/- Every result of Apply, Cast and Parse of package value is valid for its type, Cast to the same type changes nothing, and Parse is the inverse of Format (4.8): the row, and its tied card. -/
import Derived.Test.YtikcinkbkakkmaaGreatDoorV35
import Derived.Lib.Hide
import Derived.Test.YtikcinkbkakkmaaGreatDoorCards
import Derived.Test.YtikcinkbkakkmaaGreatDoorTie
import Derived.Lib.SmallJoins
import Derived.Deep.Slices
import Derived.Deep.Fields
import Derived.ChangeSame
import Derived.Carry
import Derived.ProofKit
import Derived.LaidMore
import Derived.OpenShut
import Derived.Stop.Joined
import Derived.ChangeMaps5
import Derived.Stop.LaidErr
import Derived.MakeChecks
import Derived.Lib.LaidTab

namespace Go.Proofs.YtikcinkbkakkmaaGreatDoor.valueResultsValid
open Go.ChangeShapes Go.WideShapes Go.ChangeAt Go.RowKit Go.Joins Go.Deep
set_option linter.unusedVariables false

theorem own : ownKnob Tryz.prog.godebug = none := by kernel_rfl
theorem laidOut : laidOutB Tryz.prog = true := by kernel_rfl
theorem cellsT : Tryz.prog.cellsOf 23 = 5 := by kernel_rfl
theorem cellsV : Tryz.prog.cellsOf 25 = 2 := by kernel_rfl
theorem door_met (os : Os) (args : Array Value) : laidMetH Tryz.prog Rows.valueResultsValidRow.laid ((World.doorLaid Tryz.prog 400 os).forCall (fun _ _ => 0) ⟨#[], args, []⟩).memory :=
  laidMetH_of_parts3 (fuel := 8) (laidMet_of_run' 8 (by kernel_rfl) (by kernel_rfl)) (by kernel_rfl) (by kernel_rfl)
section
variable {H : Type} {enc : TypeId × Value → H} {P : Program} {w : World} {base : Nat} {spare : Nat → Bool} {held : Bool}
theorem open_agg5 {r : Reach} {b0 : Nat} {t : TypeId} {f0 f1 f2 f3 f4 : Field} {v : Value} {d : DataW H} {p : List MemPlace} (hs : P.underlying t = some (.struct #[f0, f1, f2, f3, f4])) (hone : oneCellFields P #[f0, f1, f2, f3, f4] = true) (hC : P.cellsOf t = 5)
    (hv : Value.okWide P w r b0 t v) (h : DataW.Trod enc P w base spare held t v d p) :
    ∃ (v0 v1 v2 v3 v4 : Value) (y0 y1 y2 y3 y4 : DataW H × List MemPlace) (n : Nat), v = .agg #[v0, v1, v2, v3, v4] ∧ d = .agg [y0.1, y1.1, y2.1, y3.1, y4.1] ∧ p = y0.2 ++ (y1.2 ++ (y2.2 ++ (y3.2 ++ y4.2))) ∧
      DataW.trod enc P w base spare held n f0.type [v0] = some y0 ∧ DataW.trod enc P w base spare held n f1.type [v1] = some y1 ∧ DataW.trod enc P w base spare held n f2.type [v2] = some y2 ∧ DataW.trod enc P w base spare held n f3.type [v3] = some y3 ∧ DataW.trod enc P w base spare held n f4.type [v4] = some y4 := by
  obtain ⟨cs, rfl, hsz⟩ := okWide_struct hs hv
  obtain ⟨l⟩ := cs
  match l, hsz.trans hC with
  | [c0, c1, c2, c3, c4], _ =>
    obtain ⟨fuel, hf⟩ := h
    obtain ⟨xs, n, _, hx, _, hlen, hg⟩ := DataW.trod_struct hs hf
    obtain ⟨o0, k0⟩ := hone_of hone 0 f0 rfl
    obtain ⟨o1, k1⟩ := hone_of hone 1 f1 rfl
    obtain ⟨o2, k2⟩ := hone_of hone 2 f2 rfl
    obtain ⟨o3, k3⟩ := hone_of hone 3 f3 rfl
    obtain ⟨o4, k4⟩ := hone_of hone 4 f4 rfl
    match xs, hlen with
    | [y0, y1, y2, y3, y4], _ =>
      simp only [Prod.mk.injEq] at hx
      exact ⟨c0, c1, c2, c3, c4, y0, y1, y2, y3, y4, n, rfl, by simpa using hx.1, by simpa using hx.2, by simpa [Value.cells, o0, k0] using hg 0 f0 rfl, by simpa [Value.cells, o1, k1] using hg 1 f1 rfl, by simpa [Value.cells, o2, k2] using hg 2 f2 rfl, by simpa [Value.cells, o3, k3] using hg 3 f3 rfl, by simpa [Value.cells, o4, k4] using hg 4 f4 rfl⟩
end
section
variable {H : Type} {enc : TypeId × Value → H} {P : Program} {w : World} {base : Nat} {spare : Nat → Bool} {held : Bool}
theorem open_arr4 {r : Reach} {b0 : Nat} {t e : TypeId} {f0 f1 : Field} {v : Value} {d : DataW H} {p : List MemPlace} (ht : P.underlying t = some (.array 2 e)) (hs : P.underlying e = some (.struct #[f0, f1])) (hone : oneCellFields P #[f0, f1] = true) (hC : P.cellsOf t = 4) (hCe : P.cellsOf e = 2)
    (hv : Value.okWide P w r b0 t v) (h : DataW.Trod enc P w base spare held t v d p) :
    ∃ (v0 v1 v2 v3 : Value) (y0 y1 y2 y3 : DataW H × List MemPlace) (n m : Nat), v = .agg #[v0, v1, v2, v3] ∧
      DataW.trod enc P w base spare held n f0.type [v0] = some y0 ∧ DataW.trod enc P w base spare held n f1.type [v1] = some y1 ∧ DataW.trod enc P w base spare held m f0.type [v2] = some y2 ∧ DataW.trod enc P w base spare held m f1.type [v3] = some y3 := by
  simp only [Value.okWide, ht] at hv
  obtain ⟨cs, rfl, hsz, _⟩ := hv
  obtain ⟨l⟩ := cs
  match l, hsz.trans hC with
  | [c0, c1, c2, c3], _ =>
    obtain ⟨fuel, hf⟩ := h
    obtain ⟨xs, m, _, hx, _, hlen, hg⟩ := DataW.trod_array ht hf
    obtain ⟨o0, k0⟩ := hone_of hone 0 f0 rfl
    obtain ⟨o1, k1⟩ := hone_of hone 1 f1 rfl
    match xs, hlen with
    | [x0, x1], _ =>
      have g0 := hg 0 (by omega)
      have g1 := hg 1 (by omega)
      rw [hCe] at g0 g1
      simp only [Value.cells] at g0 g1
      obtain ⟨ys, n, _, _, _, hl0, q0⟩ := DataW.trod_struct hs g0
      obtain ⟨zs, n', _, _, _, hl1, q1⟩ := DataW.trod_struct hs g1
      match ys, hl0 with
      | [y0, y1], _ =>
        match zs, hl1 with
        | [z0, z1], _ =>
          exact ⟨c0, c1, c2, c3, y0, y1, z0, z1, n, n', rfl, by simpa [o0, k0] using q0 0 f0 rfl, by simpa [o1, k1] using q0 1 f1 rfl, by simpa [o0, k0] using q1 0 f0 rfl, by simpa [o1, k1] using q1 1 f1 rfl⟩
end
section
variable {H : Type} {enc : TypeId × Value → H} {P : Program} {w : World} {base : Nat} {spare : Nat → Bool} {held : Bool}
theorem open_arr10 {r : Reach} {b0 : Nat} {t e : TypeId} {f0 f1 f2 f3 f4 : Field} {v : Value} {d : DataW H} {p : List MemPlace} (ht : P.underlying t = some (.array 2 e)) (hs : P.underlying e = some (.struct #[f0, f1, f2, f3, f4])) (hone : oneCellFields P #[f0, f1, f2, f3, f4] = true) (hC : P.cellsOf t = 10) (hCe : P.cellsOf e = 5)
    (hv : Value.okWide P w r b0 t v) (h : DataW.Trod enc P w base spare held t v d p) :
    ∃ (v0 v1 v2 v3 v4 v5 v6 v7 v8 v9 : Value) (y0 y1 y2 y3 y4 y5 y6 y7 y8 y9 : DataW H × List MemPlace) (n m : Nat), v = .agg #[v0, v1, v2, v3, v4, v5, v6, v7, v8, v9] ∧
      DataW.trod enc P w base spare held n f0.type [v0] = some y0 ∧ DataW.trod enc P w base spare held n f1.type [v1] = some y1 ∧ DataW.trod enc P w base spare held n f2.type [v2] = some y2 ∧ DataW.trod enc P w base spare held n f3.type [v3] = some y3 ∧ DataW.trod enc P w base spare held n f4.type [v4] = some y4 ∧
      DataW.trod enc P w base spare held m f0.type [v5] = some y5 ∧ DataW.trod enc P w base spare held m f1.type [v6] = some y6 ∧ DataW.trod enc P w base spare held m f2.type [v7] = some y7 ∧ DataW.trod enc P w base spare held m f3.type [v8] = some y8 ∧ DataW.trod enc P w base spare held m f4.type [v9] = some y9 := by
  simp only [Value.okWide, ht] at hv
  obtain ⟨cs, rfl, hsz, _⟩ := hv
  obtain ⟨l⟩ := cs
  match l, hsz.trans hC with
  | [c0, c1, c2, c3, c4, c5, c6, c7, c8, c9], _ =>
    obtain ⟨fuel, hf⟩ := h
    obtain ⟨xs, m, _, hx, _, hlen, hg⟩ := DataW.trod_array ht hf
    obtain ⟨o0, k0⟩ := hone_of hone 0 f0 rfl
    obtain ⟨o1, k1⟩ := hone_of hone 1 f1 rfl
    obtain ⟨o2, k2⟩ := hone_of hone 2 f2 rfl
    obtain ⟨o3, k3⟩ := hone_of hone 3 f3 rfl
    obtain ⟨o4, k4⟩ := hone_of hone 4 f4 rfl
    match xs, hlen with
    | [x0, x1], _ =>
      have g0 := hg 0 (by omega)
      have g1 := hg 1 (by omega)
      rw [hCe] at g0 g1
      simp only [Value.cells] at g0 g1
      obtain ⟨ys, n, _, _, _, hl0, q0⟩ := DataW.trod_struct hs g0
      obtain ⟨zs, n', _, _, _, hl1, q1⟩ := DataW.trod_struct hs g1
      match ys, hl0 with
      | [y0, y1, y2, y3, y4], _ =>
        match zs, hl1 with
        | [z0, z1, z2, z3, z4], _ =>
          exact ⟨c0, c1, c2, c3, c4, c5, c6, c7, c8, c9, y0, y1, y2, y3, y4, z0, z1, z2, z3, z4, n, n', rfl, by simpa [o0, k0] using q0 0 f0 rfl, by simpa [o1, k1] using q0 1 f1 rfl, by simpa [o2, k2] using q0 2 f2 rfl, by simpa [o3, k3] using q0 3 f3 rfl, by simpa [o4, k4] using q0 4 f4 rfl,
            by simpa [o0, k0] using q1 0 f0 rfl, by simpa [o1, k1] using q1 1 f1 rfl, by simpa [o2, k2] using q1 2 f2 rfl, by simpa [o3, k3] using q1 3 f3 rfl, by simpa [o4, k4] using q1 4 f4 rfl⟩
end
theorem row_err (u : TypeId) (h : Tryz.prog.typeName? 3 u = some "*errors.errorString") : u = 137 := typeName_ptr_named (nm := "errors.errorString") (by kernel_rfl) (by kernel_rfl) (by decide) u h
theorem la_of {W : World} (hL : laidMetH Tryz.prog Rows.valueResultsValidRow.laid W) : Tx.LA W := by
  rw [Go.MakeChecks.laidMetH_plain _ _ _ (by kernel_rfl)] at hL
  have h2 := hL.tail.tail
  have hT : Lib.TabIs Tryz.prog W "internal/strconv.uint64pow10" .u64 Lib.pow10Tab := Lib.tabIs_of_head (g := 1) (t := 124) (e := 83) (n := 20) (by kernel_rfl) (by kernel_rfl) Tryz.underlying124 Tryz.underlying83 (by kernel_rfl) (by kernel_rfl) h2
  obtain ⟨a, s, hv, _⟩ := laid_sentinel (g := 3) (ti := 101) (tp := 137) (te := 139) (ts := 9) h2.tail (by kernel_rfl) (by kernel_rfl) Tryz.underlying101 row_err Tryz.underlying137 Tryz.underlying139 rfl rfl Tryz.underlying9 (by kernel_rfl) (by kernel_rfl)
  have hc := World.var?_cell (show Tryz.prog.globalNamed "strconv.ErrRange" = some 3 by kernel_rfl) hv 0
  exact ⟨hT, _, hc, Or.inr ⟨_, _, rfl⟩⟩
theorem walk (op K B F R O K2 B2 F2 R2 O2 n1 d1 n2 d2 : Int) (s : ByteArray) (w : World) (hop : -9223372036854775808 ≤ op ∧ op ≤ 9223372036854775807) (hK : -9223372036854775808 ≤ K ∧ K ≤ 9223372036854775807) (hB : -9223372036854775808 ≤ B ∧ B ≤ 9223372036854775807) (hF : -9223372036854775808 ≤ F ∧ F ≤ 9223372036854775807) (hR : -9223372036854775808 ≤ R ∧ R ≤ 9223372036854775807) (hO : -9223372036854775808 ≤ O ∧ O ≤ 9223372036854775807) (hK2 : -9223372036854775808 ≤ K2 ∧ K2 ≤ 9223372036854775807) (hB2 : -9223372036854775808 ≤ B2 ∧ B2 ≤ 9223372036854775807) (hF2 : -9223372036854775808 ≤ F2 ∧ F2 ≤ 9223372036854775807) (hR2 : -9223372036854775808 ≤ R2 ∧ R2 ≤ 9223372036854775807) (hO2 : -9223372036854775808 ≤ O2 ∧ O2 ≤ 9223372036854775807) (hn1 : -9223372036854775808 ≤ n1 ∧ n1 ≤ 9223372036854775807) (hd1 : -9223372036854775808 ≤ d1 ∧ d1 ≤ 9223372036854775807) (hn2 : -9223372036854775808 ≤ n2 ∧ n2 ≤ 9223372036854775807) (hd2 : -9223372036854775808 ≤ d2 ∧ d2 ≤ 9223372036854775807) (hs : s.size ≤ maxLen) (hL : Tx.LA w) : Calls Tryz.prog 6 #[.int .i64 op, .agg #[.int .i64 K, .int .i64 B, .int .i64 F, .int .i64 R, .int .i64 O, .int .i64 K2, .int .i64 B2, .int .i64 F2, .int .i64 R2, .int .i64 O2], .agg #[.int .i64 n1, .int .i64 d1, .int .i64 n2, .int .i64 d2], .string s] w fun e w' => e = .returned (.bool true) ∧ Below w.heap.size w w' := Va.law_rv op K B F R O K2 B2 F2 R2 O2 n1 d1 n2 d2 s w hB.1 hB.2 hB2.1 hB2.2 hn2 hL

set_option maxRecDepth 100000 in
theorem lifted (os : Os) (started : os.Started) (H : Type) (enc : TypeId × Value → H) :
    ReturnsInHanded {} Tryz.checked os 6 .any (fun w args => (Rows.valueResultsValidSpec.pre enc Tryz.prog Tryz.f6 [] false w args ∧ laidMetH Tryz.prog Rows.valueResultsValidRow.laid w) ∧ sizedMet enc Tryz.prog Tryz.f6 (OpenSpec.ofChange Rows.valueResultsValidSpec) false w args)
      (Rows.valueResultsValidSpec.post enc Tryz.prog Tryz.f6 false true false false) := by
  refine returnsInHanded_of_change_and (C := Tryz.checked) (X := fun w _ => laidMetH Tryz.prog Rows.valueResultsValidRow.laid w) (fun _ _ _ hh h => h.of_heap hh) own started (by kernel_rfl) Tryz.func6
    (ChangeSpec.witness_shaped (enc := enc) (C := Tryz.checked) (os := os) (X := fun w _ => laidMetH Tryz.prog Rows.valueResultsValidRow.laid w) false (World.doorLaid Tryz.prog 400 os) #[.int .i64 0, .agg #[.int .i64 0, .int .i64 0, .int .i64 0, .int .i64 0, .int .i64 0, .int .i64 0, .int .i64 0, .int .i64 0, .int .i64 0, .int .i64 0], .agg #[.int .i64 0, .int .i64 0, .int .i64 0, .int .i64 0], .string ⟨#[]⟩] 8 rfl (World.shaped_of_RefB (by kernel_rfl) (by kernel_rfl)) (by kernel_rfl) (by kernel_rfl) (by kernel_rfl) (door_met os _)) ?_
  intro W base args ds gs before hval0 hW _ _ hL _
  have hval : ∀ (j : Nat) t v, Tryz.f6.params[j]? = some t → args[j]? = some v → Value.okWide Tryz.prog W .any base t v := hval0
  have hW' := hW
  obtain ⟨p, q, hA0, hV, rfl, hfz, hnd⟩ := hW
  have hA : DataW.TrodAll enc Tryz.prog W 0 (fun _ => true) true Tryz.f6.params.toList args.toList ds p := hA0
  rw [Tryz.params6] at hA hval
  obtain ⟨v0, vs0, d0, ds0, p0, q0, hargs, rfl, rfl, h0, r0⟩ := trodAll_cons hA
  obtain ⟨v1, vs1, d1, ds1, p1, q1, rfl, rfl, rfl, h1, r1⟩ := trodAll_cons r0
  obtain ⟨v2, vs2, d2, ds2, p2, q2, rfl, rfl, rfl, h2, r2⟩ := trodAll_cons r1
  obtain ⟨v3, vs3, d3, ds3, p3, q3, rfl, rfl, rfl, h3, r3⟩ := trodAll_cons r2
  obtain ⟨rfl, rfl, rfl⟩ := trodAll_nil r3
  obtain rfl : args = #[v0, v1, v2, v3] := by cases args; simp_all
  obtain ⟨rfl, rfl⟩ := trodVars_none hV
  have lt0 : ∀ x ∈ p0, x.block < W.heap.size := fun x hx => hW'.lt x (by simp [hx])
  have lt1 : ∀ x ∈ p1, x.block < W.heap.size := fun x hx => hW'.lt x (by simp [hx])
  have lt2 : ∀ x ∈ p2, x.block < W.heap.size := fun x hx => hW'.lt x (by simp [hx])
  have lt3 : ∀ x ∈ p3, x.block < W.heap.size := fun x hx => hW'.lt x (by simp [hx])
  have g0 := h0
  have g1 := h1
  have g2 := h2
  have g3 := h3
  obtain ⟨a0, rfl, rfl, rfl, w0⟩ := open_int Tryz.underlying3 (hval 0 3 v0 rfl rfl) h0
  obtain ⟨c1x0, c1x1, c1x2, c1x3, c1x4, c1x5, c1x6, c1x7, c1x8, c1x9, y1x0, y1x1, y1x2, y1x3, y1x4, y1x5, y1x6, y1x7, y1x8, y1x9, m1, n1, rfl, z1x0, z1x1, z1x2, z1x3, z1x4, z1x5, z1x6, z1x7, z1x8, z1x9⟩ := open_arr10 Tryz.underlying43 Tryz.underlying23 (by kernel_rfl) (by kernel_rfl) cellsT (hval 1 43 v1 rfl rfl) g1
  obtain ⟨a1x0, e1x0, _, w1x0⟩ := DataW.trod_int Tryz.underlying3 z1x0
  obtain ⟨a1x1, e1x1, _, w1x1⟩ := DataW.trod_int Tryz.underlying3 z1x1
  obtain ⟨a1x2, e1x2, _, w1x2⟩ := DataW.trod_int Tryz.underlying3 z1x2
  obtain ⟨a1x3, e1x3, _, w1x3⟩ := DataW.trod_int Tryz.underlying3 z1x3
  obtain ⟨a1x4, e1x4, _, w1x4⟩ := DataW.trod_int Tryz.underlying3 z1x4
  obtain ⟨a1x5, e1x5, _, w1x5⟩ := DataW.trod_int Tryz.underlying3 z1x5
  obtain ⟨a1x6, e1x6, _, w1x6⟩ := DataW.trod_int Tryz.underlying3 z1x6
  obtain ⟨a1x7, e1x7, _, w1x7⟩ := DataW.trod_int Tryz.underlying3 z1x7
  obtain ⟨a1x8, e1x8, _, w1x8⟩ := DataW.trod_int Tryz.underlying3 z1x8
  obtain ⟨a1x9, e1x9, _, w1x9⟩ := DataW.trod_int Tryz.underlying3 z1x9
  simp only [List.cons.injEq, and_true] at e1x0 e1x1 e1x2 e1x3 e1x4 e1x5 e1x6 e1x7 e1x8 e1x9
  subst e1x0 e1x1 e1x2 e1x3 e1x4 e1x5 e1x6 e1x7 e1x8 e1x9
  obtain ⟨c2x0, c2x1, c2x2, c2x3, y2x0, y2x1, y2x2, y2x3, m2, n2, rfl, z2x0, z2x1, z2x2, z2x3⟩ := open_arr4 Tryz.underlying26 Tryz.underlying25 (by kernel_rfl) (by kernel_rfl) cellsV (hval 2 26 v2 rfl rfl) g2
  obtain ⟨a2x0, e2x0, _, w2x0⟩ := DataW.trod_int Tryz.underlying2 z2x0
  obtain ⟨a2x1, e2x1, _, w2x1⟩ := DataW.trod_int Tryz.underlying2 z2x1
  obtain ⟨a2x2, e2x2, _, w2x2⟩ := DataW.trod_int Tryz.underlying2 z2x2
  obtain ⟨a2x3, e2x3, _, w2x3⟩ := DataW.trod_int Tryz.underlying2 z2x3
  simp only [List.cons.injEq, and_true] at e2x0 e2x1 e2x2 e2x3
  subst e2x0 e2x1 e2x2 e2x3
  obtain ⟨s3, rfl, hd3, hp3, z3⟩ := Go.ChangeMaps.open_string Tryz.underlying9 (hval 3 9 v3 rfl rfl) g3
  clear hA0 hval0
  simp only [List.append_nil] at hW'
  refine (walk a0 a1x0 a1x1 a1x2 a1x3 a1x4 a1x5 a1x6 a1x7 a1x8 a1x9 a2x0 a2x1 a2x2 a2x3 s3 W (bounds_i64 w0) (bounds_i64 w1x0) (bounds_i64 w1x1) (bounds_i64 w1x2) (bounds_i64 w1x3) (bounds_i64 w1x4) (bounds_i64 w1x5) (bounds_i64 w1x6) (bounds_i64 w1x7) (bounds_i64 w1x8) (bounds_i64 w1x9) (bounds_i64 w2x0) (bounds_i64 w2x1) (bounds_i64 w2x2) (bounds_i64 w2x3) z3 (la_of hL)).mono fun e W' ⟨he, bel⟩ => ?_
  subst he
  exact ⟨_, rfl, _, _, _, [], _, [], hW', trodAll_mk1 (shut_bool Tryz.underlying4 _), (trodAll_cons_mk (shut_int Tryz.underlying3 w0) (trodAll_cons_mk (Below.trod laidOut (by kernel_rfl) (of_decide_eq_true (by kernel_rfl)) h1 bel lt1) (trodAll_cons_mk (Below.trod laidOut (by kernel_rfl) (of_decide_eq_true (by kernel_rfl)) h2 bel lt2) (trodAll_cons_mk (Below.trod laidOut (by kernel_rfl) (of_decide_eq_true (by kernel_rfl)) h3 bel lt3) trodAll_mk0)))), rfl, bel.frame _, fun h => by cases h⟩

theorem row_holds : Rows.ValueResultsValidSaid :=
  OpenClaim.holds_of_wide 6 Tryz.f6 rfl rfl rfl rfl rfl rfl rfl ⟨rfl, rfl, rfl, rfl, rfl⟩ rfl rfl rfl rfl rfl (by kernel_rfl) Tryz.func6 (by kernel_rfl)
    (of_decide_eq_true (by kernel_rfl)) (by unfold Func.isWrapper; first | (rw [if_pos (by decide +kernel)]; kernel_rfl) | (rw [if_neg (by decide +kernel)]; exact ⟨rfl, rfl⟩))
    (fun os started H enc _ => lifted os started H enc)

theorem proved : Rows.ValueResultsValidCardSaid :=
  Claim7.holds_tied_plain_at .later [] [.data, .data, .data, .sentinel, .sentinel] true (true, "5592ea3744a1616a30940e2d1c6f294c4396d5c84d0e392480af1b1f208e63ed") true
    row_holds (fun _ h => by cases h) (by kernel_rfl) (fun _ h => by cases h) valueResultsValid_row_tie rfl ⟨rfl, rfl⟩ (by kernel_rfl) rfl
    (fun f fn hf hfn => by
      obtain rfl : f = 6 := Option.some.inj ((show Tryz.prog.funcNamed "brocade/brocadelaw04.ValueResultsValid" = some 6 by kernel_rfl).symm.trans hf) |>.symm
      obtain rfl : fn = Tryz.f6 := (Option.some.inj (Tryz.func6.symm.trans hfn)).symm
      exact ⟨by kernel_rfl, fun j t ht => by
        rw [Tryz.params6] at ht
        have h3 : t = 3 ∨ t = 9 ∨ t = 26 ∨ t = 43 := by
          rcases j with _ | _ | _ | _ | j
          · simp at ht; simp [← ht]
          · simp at ht; simp [← ht]
          · simp at ht; simp [← ht]
          · simp at ht; simp [← ht]
          · simp at ht
        rcases h3 with rfl | rfl | rfl | rfl
        · exact (show Tryz.prog.wantsStandIn 3 = false by kernel_rfl)
        · exact (show Tryz.prog.wantsStandIn 9 = false by kernel_rfl)
        · exact (show Tryz.prog.wantsStandIn 26 = false by kernel_rfl)
        · exact (show Tryz.prog.wantsStandIn 43 = false by kernel_rfl)⟩)
    (by kernel_rfl)
#print axioms proved
end Go.Proofs.YtikcinkbkakkmaaGreatDoor.valueResultsValid
