/- Linear forms: a product and whether it fits. -/
import Derived.Test.YtbicmlkjonaccaaDoorK3
import Derived.Laws.AppendOwn
import Derived.Laws.OwnMore
import Derived.OneCell
import Derived.Deep.Onto

namespace Go.Proofs.YtbicmlkjonaccaaDoor.Ln
open Go.ChangeShapes Go.WideShapes Go.ChangeAt Go.RowKit
set_option linter.unusedVariables false
set_option linter.unusedSimpArgs false
theorem sgn0 {x : Int} (h0 : 0 <= x) (h1 : x < 18446744073709551616) : IntKind.u64.wrap (wrap64 x / 9223372036854775808) = if x < 9223372036854775808 then 0 else 18446744073709551615 := by
 rw [u64w]
 unfold wrap64
 split <;> omega
theorem wfitG (g : Nat) (V : Int) (w : World) (h1 : -1569275433846670190958947355801916604025588861116008628224 <= V) (h2 : V <= 1569275433846670190958947355801916604025588861116008628224)
  (a0 : w.cell? ⟨g, 0, none⟩ = some (.int .u64 (l2 V))) (a1 : w.cell? ⟨g, 1, none⟩ = some (.int .u64 (l1 V))) (a2 : w.cell? ⟨g, 2, none⟩ = some (.int .u64 (l0 V))) :
  Calls Tryd.prog 83 #[.pointer (some ⟨g, 0, none⟩)] w fun e w' => e = .returned (.bool (fit64 V)) /\ ∃ n, w' = w.drewN n := by
 have hb := l_bd V
 have hi := fits_iff h1 h2
 refine (wfitT g (l0 V) (l1 V) (l2 V) _ _ _ w (sgn0 hb.1.1 hb.1.2) rfl rfl a0 a1 a2).mono ?_
 rintro e w' ⟨rfl, hn⟩
 refine ⟨?_, hn⟩
 rw [show fit64 V = ((l1 V == (if l0 V < 9223372036854775808 then 0 else 18446744073709551615)) && (l2 V == (if l0 V < 9223372036854775808 then 0 else 18446744073709551615))) from ?_]
 rw [Bool.eq_iff_iff, fit_yes, Bool.and_eq_true, beq_iff_eq, beq_iff_eq]
 exact hi.symm
theorem grown_of {w w2 : World} {a : Addr} {v : Value} (h : Below w.heap.size w w2) : w.grownBy (w2.setCell a v) (some a.block) :=
 ⟨h.os, h.tape, h.output, by rw [World.size_setCell]; exact h.size, fun k hk hne => (Below.heap_setCell w2 a v k (fun e => hne (by rw [e]))).trans (h.block k hk)⟩
def TW (x by' : Int) (f : Bool) (gf : Nat) (w : World) (e : Ending) (w' : World) : Prop :=
 e = .returned (.int .i64 (wrap64 (x * by'))) /\ w.grownBy w' (some gf) /\ w'.cell? ⟨gf, 0, none⟩ = some (.bool (f && fit64 (x * by'))) /\ w'.frozen? ⟨gf, 0, none⟩ = false
set_option maxRecDepth 100000 in
set_option maxHeartbeats 8000000 in
theorem times1 (x by' : Int) (f : Bool) (gb gf : Nat) (w : World) (x1 : -9223372036854775808 <= x) (x2 : x <= 9223372036854775807) (b1 : -9223372036854775808 <= by') (b2 : by' <= 9223372036854775807)
  (hb : w.cell? ⟨gb, 0, none⟩ = some (.int .i64 by')) (hf : w.cell? ⟨gf, 0, none⟩ = some (.bool f)) (hz : w.frozen? ⟨gf, 0, none⟩ = false) (hne : gb ≠ gf) (hne' : gf ≠ gb) :
  Calls Tryd.prog 95 #[.int .i64 x, .pointer (some ⟨gb, 0, none⟩), .pointer (some ⟨gf, 0, none⟩)] w (TW x by' f gf w) := by
 have hg : gf < w.heap.size := by have := World.block_lt_of_cell? w _ hf; simpa using this
 have hgb : gb < w.heap.size := by have := World.block_lt_of_cell? w _ hb; simpa using this
 have C1 := Lib.hid fun (w1 : World) (g : Nat) h0 h1 h2 z0 z1 z2 => waddG g 0 x by' w1 x1 x2 b1 b2 h0 h1 h2 z0 z1 z2
 have C2 := Lib.hid fun (w1 : World) (g : Nat) h0 h1 h2 => wfitG g (x * by') w1 (by have := prod_bd x1 x2 b1 b2; omega) (by have := prod_bd x1 x2 b1 b2; omega) h0 h1 h2
 rw [Int.zero_add, show l2 0 = 0 from rfl, show l1 0 = 0 from rfl, show l0 0 = 0 from rfl] at C1
 have B0 : Below w.heap.size w (w.alloc (Obj.cells #[Value.int .u64 0, Value.int .u64 0, Value.int .u64 0] 102)) := (Below.refl _ _).alloc (Nat.le_refl _) _
 have f1 := kp B0 hgb hb
 go_enter Tryd.func95, Tryd.ntmps95
 go_wp2_with fail
 have hfz := (B0.frozen (p := ⟨gf, 0, none⟩) hg).trans hz
 have f2 := kp B0 hg hf
 refine (C1.out (w.alloc (Obj.cells #[Value.int .u64 0, Value.int .u64 0, Value.int .u64 0] 102)) w.heap.size (by go_cell) (by go_cell) (by go_cell) (by first | go_cell | simp) (by first | go_cell | simp) (by first | go_cell | simp)).mono ?_
 rintro e w2 ⟨rfl, h2⟩
 have r0 : w2.cell? ⟨w.heap.size, 0, none⟩ = some (.int .u64 (l2 (x * by'))) := by rw [h2]; go_cell
 have r1 : w2.cell? ⟨w.heap.size, 1, none⟩ = some (.int .u64 (l1 (x * by'))) := by rw [h2]; go_cell
 have r2 : w2.cell? ⟨w.heap.size, 2, none⟩ = some (.int .u64 (l0 (x * by'))) := by rw [h2]; go_cell
 have K2 : Below w.heap.size w w2 := by
  rw [h2]
  exact ((B0.setCell (p := ⟨w.heap.size, 2, none⟩) (Nat.le_refl _) _).setCell (p := ⟨w.heap.size, 1, none⟩) (Nat.le_refl _) _).setCell (p := ⟨w.heap.size, 0, none⟩) (Nat.le_refl _) _
 have C3 := Lib.hid (C2.out w2 w.heap.size r0 r1 r2)
 clear h2 f1 f2 hfz B0 r0 r1 r2 C1 C2
 have f1 := kp K2 hgb hb
 have f2 := kp K2 hg hf
 have hfz := (K2.frozen (p := ⟨gf, 0, none⟩) hg).trans hz
 obtain ⟨v, hv⟩ : ∃ v, fit64 (x * by') = v := ⟨_, rfl⟩
 rw [hv] at C3
 have HV := Lib.hid hv
 clear hv
 cases f
 ·go_wp2
  go_ret
  exact ⟨rfl, grown_of (a := ⟨gf, 0, none⟩) K2, by go_cell, by first | go_cell | simp [World.frozen?_setCell, hfz]⟩
 ·go_wp2_with (first | (go_at_call 83; refine C3.out.mono ?_; rintro e w3 ⟨rfl, n, rfl⟩))
  go_ret
  exact ⟨rfl, grown_of (a := ⟨gf, 0, none⟩) (below_drewN K2 n), by rw [HV.out, Bool.true_and]; go_cell, by first | go_cell | simp [World.frozen?_setCell, hfz]⟩
/-- Cells of blocks of the call's own. -/
def Cl (L : List (Nat × Nat × Value)) (u : World) : Prop := ∀ b o v, (b, o, v) ∈ L -> u.cell? ⟨b, o, none⟩ = some v /\ u.frozen? ⟨b, o, none⟩ = false
theorem lt_of_cell {u : World} {b o : Nat} {v : Value} (h : u.cell? ⟨b, o, none⟩ = some v) : b < u.heap.size := by have := World.block_lt_of_cell? u _ h; simpa using this
theorem Cl.below {L : List (Nat × Nat × Value)} {u u' : World} (h : Cl L u) (hb : Below u.heap.size u u') : Cl L u' := fun b o v hm => by
 obtain ⟨h1, h2⟩ := h b o v hm
 have := lt_of_cell h1
 exact ⟨(hb.cell (p := ⟨b, o, none⟩) this).trans h1, (hb.frozen (p := ⟨b, o, none⟩) this).trans h2⟩
theorem Cl.grown {L : List (Nat × Nat × Value)} {u u' : World} {r : Option Nat} (h : Cl L u) (hg : u.grownBy u' r) (hne : ∀ x ∈ L, some x.1 ≠ r) : Cl L u' := fun b o v hm => by
 obtain ⟨h1, h2⟩ := h b o v hm
 have hb := hg.block b (lt_of_cell h1) (hne _ hm)
 exact ⟨(World.cell?_of_block (a := ⟨b, o, none⟩) hb).trans h1, (World.frozen?_of_block (a := ⟨b, o, none⟩) hb).trans h2⟩
theorem Cl.far {L : List (Nat × Nat × Value)} {u : World} {a : Addr} {x : Value} (h : Cl L u) (hne : ∀ y ∈ L, y.1 ≠ a.block) : Cl L (u.setCell a x) := fun b o v hm => by
 obtain ⟨h1, h2⟩ := h b o v hm
 have hb := Below.heap_setCell u a x b (hne _ hm)
 exact ⟨(World.cell?_of_block (a := ⟨b, o, none⟩) hb).trans h1, (World.frozen?_of_block (a := ⟨b, o, none⟩) hb).trans h2⟩
theorem Cl.drewN {L : List (Nat × Nat × Value)} {u : World} (h : Cl L u) (n : Nat) : Cl L (u.drewN n) := fun b o v hm => h b o v hm
theorem Cl.drew {L : List (Nat × Nat × Value)} {u : World} (h : Cl L u) : Cl L u.drew := fun b o v hm => h b o v hm
theorem Cl.nil (u : World) : Cl [] u := fun _ _ _ h => by cases h
theorem Cl.cons {L : List (Nat × Nat × Value)} {u : World} {b o : Nat} {v : Value} (h1 : u.cell? ⟨b, o, none⟩ = some v) (h2 : u.frozen? ⟨b, o, none⟩ = false) (h : Cl L u) : Cl ((b, o, v) :: L) u := fun b' o' v' hm => by
 rcases List.mem_cons.1 hm with e | e
 ·cases e; exact ⟨h1, h2⟩
 ·exact h _ _ _ e
theorem Cl.head {L : List (Nat × Nat × Value)} {u : World} {b o : Nat} {v : Value} (h : Cl ((b, o, v) :: L) u) : u.cell? ⟨b, o, none⟩ = some v := (h b o v (by simp)).1
theorem Cl.headF {L : List (Nat × Nat × Value)} {u : World} {b o : Nat} {v : Value} (h : Cl ((b, o, v) :: L) u) : u.frozen? ⟨b, o, none⟩ = false := (h b o v (by simp)).2
theorem Cl.tail {L : List (Nat × Nat × Value)} {u : World} {x : Nat × Nat × Value} (h : Cl (x :: L) u) : Cl L u := fun b o v hm => h b o v (List.mem_cons_of_mem _ hm)
theorem Cl.sub {L L' : List (Nat × Nat × Value)} {u : World} (h : Cl L u) (hs : ∀ x ∈ L', x ∈ L) : Cl L' u := fun b o v hm => h b o v (hs _ hm)
theorem Cl.append {L L' : List (Nat × Nat × Value)} {u : World} (h : Cl L u) (h' : Cl L' u) : Cl (L ++ L') u := fun b o v hm => (List.mem_append.1 hm).elim (h b o v) (h' b o v)
theorem own_ne {u : World} {base : Nat} {E : TypeId} {sz n : Nat} {v : Value} {xs : List Value} {g : Nat} (h : u.ownsRow base E sz v n xs) (hg : g < base) : v.ownBlock = none \/ v.ownBlock ≠ some g := by
 cases hb : v.ownBlock with
 | none => exact .inl rfl
 | some q => exact .inr (fun e => by cases e; have := (h.lt _ hb).1; omega)
theorem Cl.own {L : List (Nat × Nat × Value)} {u u' : World} {base : Nat} {E : TypeId} {sz n : Nat} {v : Value} {xs : List Value} (h : Cl L u) (hO : u.ownsRow base E sz v n xs) (hg : u.grownBy u' v.ownBlock) (hL : ∀ x ∈ L, x.1 < base) : Cl L u' :=
 h.grown hg (fun x hx e => by have := (hO.lt _ e.symm).1; have := hL x hx; omega)
theorem grown_set {u : World} {a : Addr} {v : Value} : u.grownBy (u.setCell a v) (some a.block) := grown_of (Below.refl _ _)
theorem own_set {u : World} {base : Nat} {E : TypeId} {sz n : Nat} {v : Value} {xs : List Value} {a : Addr} {y : Value} (h : u.ownsRow base E sz v n xs) (ha : a.block < base) : (u.setCell a y).ownsRow base E sz v n xs := h.kept grown_set (own_ne h ha)
theorem own_slice {u : World} {base : Nat} {E : TypeId} {sz n : Nat} {v : Value} {xs : List Value} (h : u.ownsRow base E sz v n xs) : ∃ q c, v = .slice q n c := by
 rcases h.2 with ⟨rfl, hn⟩ | ⟨g, cap, cur, rfl, _⟩
 ·exact ⟨none, 0, by rw [hn]⟩
 ·exact ⟨_, _, rfl⟩
theorem below_grown {B : Nat} {w u u' : World} {r : Option Nat} (h : Below B w u) (hg : u.grownBy u' r) (hB : B <= u.heap.size) (hr : ∀ k, r = some k -> B <= k) : Below B w u' := h.grown hg hB hr
/-- Monomials in a row of the call's own. -/
def moC (m : Mo) : List Value := [.string m.1, .int .i64 m.2]
def moCs (l : List Mo) : List Value := l.flatMap moC
theorem moCs_len (l : List Mo) : (moCs l).length = l.length * 2 := by
 induction l with
 | nil => rfl
 | cons t ts ih => unfold moCs at ih ⊢; rw [List.flatMap_cons, List.length_append, ih, List.length_cons]; show 2 + _ = _; omega
theorem moCs_snoc (l : List Mo) (m : Mo) : moCs (l ++ [m]) = moCs l ++ moC m := by unfold moCs; rw [List.flatMap_append]; simp
theorem moCs_get : ∀ (l : List Mo) (i : Nat), i < l.length -> (moCs l)[i * 2]? = some (.string (l.getD i mo0).1) /\ (moCs l)[i * 2 + 1]? = some (.int .i64 (l.getD i mo0).2)
 | [], i, h => absurd h (by simp)
 | m :: l, 0, h => ⟨rfl, rfl⟩
 | m :: l, i + 1, h => by
  obtain ⟨h1, h2⟩ := moCs_get l i (by simpa using h)
  unfold moCs at h1 h2 ⊢
  rw [List.flatMap_cons]
  have e1 : (i + 1) * 2 = (i * 2 + 1) + 1 := by omega
  have e2 : (i + 1) * 2 + 1 = (i * 2 + 1 + 1) + 1 := by omega
  refine ⟨?_, ?_⟩
  ·rw [e1]; show (_ :: _ :: _)[_]? = _; rw [List.getElem?_cons_succ, List.getElem?_cons_succ]; exact h1
  ·rw [e2]; show (_ :: _ :: _)[_]? = _; rw [List.getElem?_cons_succ, List.getElem?_cons_succ]; exact h2
theorem addr_add (g k : Nat) : (⟨g, 0, none⟩ : Addr).add k = ⟨g, k, none⟩ := by
 unfold Addr.add
 split <;> simp_all
theorem own_sl {w : World} {base : Nat} {v : Value} {l : List Mo} (h : w.ownsRow base 59 2 v l.length (moCs l)) : ∃ p c, v = .slice p l.length c /\ SlM w p l := by
 obtain ⟨h1, h2⟩ := h
 rcases h2 with ⟨rfl, hn⟩ | ⟨g, cap, cur, rfl, hb, hh, hc, hm, hs, ht⟩
 ·exact ⟨none, 0, by rw [hn], fun i hi => absurd hi (by omega)⟩
 ·refine ⟨some ⟨g, 0, none⟩, cap, rfl, fun i hi => ⟨g, 0, rfl, ?_⟩⟩
  have hO : w.ownsRow base 59 2 (.slice (some ⟨g, 0, none⟩) l.length cap) l.length (moCs l) := ⟨h1, .inr ⟨g, cap, cur, rfl, hb, hh, hc, hm, hs, ht⟩⟩
  obtain ⟨c1, c2⟩ := moCs_get l i hi
  have d1 := hO.cells (g := g) rfl _ _ c1
  have d2 := hO.cells (g := g) rfl _ _ c2
  rw [addr_add] at d1 d2
  exact ⟨by rw [Nat.zero_add]; exact d1, by rw [Nat.zero_add]; exact d2⟩
theorem own_sl' {w : World} {base n : Nat} {v : Value} {l : List Mo} (h : w.ownsRow base 59 2 v n (moCs l)) (hn : n = l.length) : ∃ p c, v = .slice p n c /\ SlM w p l := by
 subst hn
 exact own_sl h
theorem SlM.below {w u : World} {p : Option Addr} {xs : List Mo} (h : SlM w p xs) (hb : Below w.heap.size w u) : SlM u p xs := SlM.keep hb h
def LR (k : Int) (ys : List Mo) (er : Int) (w : World) (e : Ending) (w' : World) : Prop := ∃ p c, e = .returned (.tuple #[Lv k p ys.length c, .int .i64 er]) /\ SlM w' p ys /\ Below w.heap.size w w'
theorem LR.zero {er : Int} {w w' : World} {e : Ending} (h : e = .returned (.tuple #[.agg #[.int .i64 0, .slice none 0 0], .int .i64 er])) (hb : Below w.heap.size w w') : LR 0 [] er w e w' := ⟨none, 0, h, fun i hi => absurd hi (by simp), hb⟩
theorem infoMo : (Tryd.prog.info? 59).map (fun i => (i.zero, i.size, i.bytes)) = some (some (.agg #[.string ⟨#[]⟩, .int .i64 0]), 2, 24) := by kernel_rfl
end Go.Proofs.YtbicmlkjonaccaaDoor.Ln


namespace Go.Proofs.YtbicmlkjonaccaaDoor.Ln
open Go.ChangeShapes Go.WideShapes Go.ChangeAt Go.RowKit
set_option linter.unusedVariables false
set_option linter.unusedSimpArgs false
theorem below2 {B n : Nat} {w u : World} (h : Below B w u) (hn : B <= n) (x y : Value) : Below B w ((u.setCell ⟨n, 0, none⟩ x).setCell ⟨n, 1, none⟩ y) := (h.setCell (p := ⟨n, 0, none⟩) hn x).setCell (p := ⟨n, 1, none⟩) hn y
theorem take_step {xs : List Mo} {j : Nat} (h : j < xs.length) : xs.take (j + 1) = xs.take j ++ [xs.getD j mo0] := by
 rw [List.take_succ_eq_append_getElem h]
 have e1 : xs.getD j mo0 = xs[j] := by unfold List.getD; rw [List.getElem?_eq_getElem h]; rfl
 rw [e1]
def sclF (by' k : Int) (xs : List Mo) : Bool := fit64 (k * by') && xs.all fun m => fit64 (m.2 * by')
def sclV (by' : Int) (xs : List Mo) : List Mo := xs.map fun m => (m.1, wrap64 (m.2 * by'))
def sclR (by' k : Int) (xs : List Mo) : Int × List Mo × Int := if okL xs = false then (0, [], 1) else if by' = 0 then (0, [], 0) else if sclF by' k xs = true then (wrap64 (k * by'), sclV by' xs, 0) else (0, [], 3)
set_option maxRecDepth 100000 in
set_option maxHeartbeats 16000000 in
theorem scale1 (k : Int) (p : Option Addr) (xs : List Mo) (c : Nat) (by' : Int) (w : World) (hn : xs.length <= 1000) (RA : Hid (SlM w p xs)) (RS : Hid (∀ i, i < xs.length -> (xs.getD i mo0).1.size <= maxLen /\ -9223372036854775808 <= (xs.getD i mo0).2 /\ (xs.getD i mo0).2 <= 9223372036854775807))
  (k1 : -9223372036854775808 <= k) (k2 : k <= 9223372036854775807) (b1 : -9223372036854775808 <= by') (b2 : by' <= 9223372036854775807) :
  Calls Tryd.prog 61 #[Lv k p xs.length c, .int .i64 by'] w (LR (sclR by' k xs).1 (sclR by' k xs).2.1 (sclR by' k xs).2.2 w) := by
 have C1 := Lib.hid fun (u : World) (h : Hid (SlM u p xs)) => val1 k p xs c u (by unfold maxLen; omega) h (Lib.hid fun i hi => (RS.out i hi).1)
 have B0 : Below w.heap.size w (((w.alloc (Obj.cells #[Value.int .i64 k, Value.slice p xs.length c] 24)).alloc (Obj.cells #[Value.int .i64 by'] 2)).alloc (Obj.cells #[Value.int .i64 0, Value.slice none 0 0] 24)) := ((((Below.refl _ _).alloc (Nat.le_refl _) _).alloc (by simp) _).alloc (by simp; omega) _)
 have S0 : w.heap.size + 2 < ((((w.alloc (Obj.cells #[Value.int .i64 k, Value.slice p xs.length c] 24)).alloc (Obj.cells #[Value.int .i64 by'] 2)).alloc (Obj.cells #[Value.int .i64 0, Value.slice none 0 0] 24))).heap.size := by simp
 have F0 : Cl [(w.heap.size, 0, .int .i64 k), (w.heap.size, 1, .slice p xs.length c), (w.heap.size + 1, 0, .int .i64 by'), (w.heap.size + 1 + 1, 0, .int .i64 0), (w.heap.size + 1 + 1, 1, .slice none 0 0)] (((w.alloc (Obj.cells #[Value.int .i64 k, Value.slice p xs.length c] 24)).alloc (Obj.cells #[Value.int .i64 by'] 2)).alloc (Obj.cells #[Value.int .i64 0, Value.slice none 0 0] 24)) :=
  Cl.cons (by go_cell) (by first | go_cell | simp) (Cl.cons (by go_cell) (by first | go_cell | simp) (Cl.cons (by go_cell) (by first | go_cell | simp) (Cl.cons (by go_cell) (by first | go_cell | simp) (Cl.cons (by go_cell) (by first | go_cell | simp) (Cl.nil _)))))
 unfold Lv at *
 obtain ⟨ok, hok⟩ : ∃ ok, okL xs = ok := ⟨_, rfl⟩
 cases ok
 ·have hv : vL xs = 1 := by unfold vL; rw [hok]; rfl
  have hR : sclR by' k xs = (0, [], 1) := by unfold sclR; rw [if_pos hok]
  rw [hR]
  rw [hv] at C1
  go_enter Tryd.func61, Tryd.ntmps61
  go_wp2_with fail
  generalize (((w.alloc (Obj.cells #[Value.int .i64 k, Value.slice p xs.length c] 24)).alloc (Obj.cells #[Value.int .i64 by'] 2)).alloc (Obj.cells #[Value.int .i64 0, Value.slice none 0 0] 24)) = z at *
  have c0 := F0.head
  refine (C1.out _ (Lib.hid (SlM.keep B0 RA.out))).mono ?_
  rintro e w1 ⟨rfl, hb⟩
  have F1 := F0.below hb
  have K1 := B0.trans (hb.mono B0.size)
  have S1 : w.heap.size + 2 < w1.heap.size := Nat.lt_of_lt_of_le S0 hb.size
  clear F0 hb B0 S0 c0
  have q3 := F1.tail.tail.tail.head
  have zq3 := F1.tail.tail.tail.headF
  have q4 := F1.tail.tail.tail.tail.head
  have zq4 := F1.tail.tail.tail.tail.headF
  go_wp2
  exact bodyPost_ret (v := .tuple #[.agg #[.int .i64 0, .slice none 0 0], .int .i64 1]) (by simp [results, Tryd.results61, go_sem, q3, q4]) rfl (LR.zero rfl (below2 K1 (by omega) _ _))
 ·have hv : vL xs = 0 := by unfold vL; rw [hok]; rfl
  rw [hv] at C1
  by_cases hby : by' = 0
  ·subst hby
   have hR : sclR 0 k xs = (0, [], 0) := by unfold sclR; rw [if_neg (by rw [hok]; decide), if_pos rfl]
   rw [hR]
   go_enter Tryd.func61, Tryd.ntmps61
   go_wp2_with fail
   generalize (((w.alloc (Obj.cells #[Value.int .i64 k, Value.slice p xs.length c] 24)).alloc (Obj.cells #[Value.int .i64 0] 2)).alloc (Obj.cells #[Value.int .i64 0, Value.slice none 0 0] 24)) = z at *
   have c0 := F0.head
   refine (C1.out _ (Lib.hid (SlM.keep B0 RA.out))).mono ?_
   rintro e w1 ⟨rfl, hb⟩
   have F1 := F0.below hb
   have K1 := B0.trans (hb.mono B0.size)
   have S1 : w.heap.size + 2 < w1.heap.size := Nat.lt_of_lt_of_le S0 hb.size
   clear F0 hb B0 S0 c0
   have q2 := F1.tail.tail.head
   have q3 := F1.tail.tail.tail.head
   have zq3 := F1.tail.tail.tail.headF
   have q4 := F1.tail.tail.tail.tail.head
   have zq4 := F1.tail.tail.tail.tail.headF
   go_wp2
   exact bodyPost_ret (v := .tuple #[.agg #[.int .i64 0, .slice none 0 0], .int .i64 0]) (by simp [results, Tryd.results61, go_sem, q3, q4]) rfl (LR.zero rfl (below2 K1 (by omega) _ _))
  ·have hbf : (by' == 0) = false := beq_false_of_ne hby
   have hR : sclR by' k xs = if sclF by' k xs = true then (wrap64 (k * by'), sclV by' xs, 0) else (0, [], 3) := by unfold sclR; rw [if_neg (by rw [hok]; decide), if_neg hby]
   obtain ⟨R, hRR⟩ : ∃ R, sclR by' k xs = R := ⟨_, rfl⟩
   rw [hRR] at hR ⊢
   have HY := Lib.hid fun h : sclF by' k xs = true => hR.trans (if_pos h)
   have HN := Lib.hid fun h : ¬ sclF by' k xs = true => hR.trans (if_neg h)
   clear hR hby hv hok hRR
   have T1 := Lib.hid fun (x : Int) (f : Bool) (gf : Nat) (u : World) hx1 hx2 hb hf hz h1 h2 => times1 x by' f (w.heap.size + 1) gf u hx1 hx2 b1 b2 hb hf hz h1 h2
   go_enter Tryd.func61, Tryd.ntmps61
   go_wp2_with fail
   generalize (((w.alloc (Obj.cells #[Value.int .i64 k, Value.slice p xs.length c] 24)).alloc (Obj.cells #[Value.int .i64 by'] 2)).alloc (Obj.cells #[Value.int .i64 0, Value.slice none 0 0] 24)) = z at *
   have c0 := F0.head
   refine (C1.out _ (Lib.hid (SlM.keep B0 RA.out))).mono ?_
   rintro e w1 ⟨rfl, hb⟩
   have F1 := F0.below hb
   have K1 := B0.trans (hb.mono B0.size)
   have S1 : w.heap.size + 2 < w1.heap.size := Nat.lt_of_lt_of_le S0 hb.size
   clear F0 hb B0 S0 c0 C1
   have FA := Cl.cons (b := w1.heap.size) (o := 0) (v := .bool true) (by go_cell) (by first | go_cell | simp) (F1.below ((Below.refl _ _).alloc (Nat.le_refl _) (Obj.cells #[Value.bool true] 4)))
   have KA := K1.alloc K1.size (Obj.cells #[Value.bool true] 4)
   have n1 : w.heap.size + 1 ≠ w1.heap.size := by omega
   have n2 : w1.heap.size ≠ w.heap.size + 1 := by omega
   have q2 := F1.tail.tail.head
   have p0 := FA.head
   have zp0 := FA.headF
   have p1 := FA.tail.head
   have p2 := FA.tail.tail.head
   have p3 := FA.tail.tail.tail.head
   have gfz : w.heap.size + 2 < w1.heap.size := S1
   have gfs : w1.heap.size < (w1.alloc (Obj.cells #[Value.bool true] 4)).heap.size := by simp
   go_wp2_with fail
   generalize w1.alloc (Obj.cells #[Value.bool true] 4) = u1 at *
   clear K1 F1 q2
   generalize w1.heap.size = gf at *
   refine (T1.out k true gf u1 k1 k2 p3 p0 zp0 n1 n2).mono ?_
   rintro e u2 ⟨rfl, hgu, hfu, hzu⟩
   have F2 := Cl.cons hfu hzu (FA.tail.grown hgu (by simp only [List.forall_mem_cons, ne_eq, Option.some.injEq]; simp; omega))
   have K2 := below_grown KA hgu KA.size (by intro q hq; cases hq; omega)
   have S2 : gf < u2.heap.size := Nat.lt_of_lt_of_le gfs hgu.size
   have HK0 := Lib.hid (show ∃ K0, wrap64 (k * by') = K0 from ⟨_, rfl⟩)
   obtain ⟨K0, hK0⟩ := HK0.out
   obtain ⟨f0, hf0⟩ : ∃ f0, (true && fit64 (k * by')) = f0 := ⟨_, rfl⟩
   rw [hf0] at F2
   rw [hK0]
   have HK0 := Lib.hid hK0
   have HF0 := Lib.hid hf0
   clear hK0 hf0 hgu hfu hzu FA KA p0 zp0 p1 p2 p3 gfs gfz
   have FB := Cl.cons (b := u2.heap.size) (o := 0) (v := .int .i64 K0) (by go_cell) (by first | go_cell | simp) (Cl.cons (b := u2.heap.size) (o := 1) (v := .slice none 0 0) (by go_cell) (by first | go_cell | simp) (F2.below ((Below.refl _ _).alloc (Nat.le_refl _) (Obj.cells #[Value.int .i64 K0, Value.slice none 0 0] 24))))
   have KB := K2.alloc K2.size (Obj.cells #[Value.int .i64 K0, Value.slice none 0 0] 24)
   have SB : u2.heap.size < (u2.alloc (Obj.cells #[Value.int .i64 K0, Value.slice none 0 0] 24)).heap.size := by simp
   have p1 := FB.tail.tail.tail.tail.head
   go_wp2_with fail
   generalize u2.alloc (Obj.cells #[Value.int .i64 K0, Value.slice none 0 0] 24) = u3 at *
   have hgg : gf < u2.heap.size := S2
   clear S2 p1 F2 K2
   generalize u2.heap.size = gr at *
   have F3 : Hid (Cl [(gr, 0, .int .i64 K0), (gr, 1, .slice none 0 0), (gf, 0, .bool f0), (w.heap.size + 1, 0, .int .i64 by'), (w.heap.size + 1 + 1, 0, .int .i64 0), (w.heap.size + 1 + 1, 1, .slice none 0 0)] u3) := Lib.hid (FB.sub (by intro x hx; simp only [List.mem_cons, List.not_mem_nil, or_false] at hx ⊢; rcases hx with h | h | h | h | h | h <;> simp [h]))
   clear FB
   obtain ⟨i0, hi, hz0, hz1, hz2⟩ := info_parts infoMo
   go_loopw [27] (fun i wr => ∃ (j : Nat) (v : Value) (f : Bool), i = .int .i64 (j : Int) /\ j <= xs.length /\ Below w.heap.size w wr /\ gr < wr.heap.size /\ Hid (Cl [(gr, 0, .int .i64 K0), (gr, 1, v), (gf, 0, .bool f), (w.heap.size + 1, 0, .int .i64 by'), (w.heap.size + 1 + 1, 0, .int .i64 0), (w.heap.size + 1 + 1, 1, .slice none 0 0)] wr) /\ Hid (wr.ownsRow (gr + 1) 59 2 v j (moCs (sclV by' (xs.take j)))) /\ Hid (f = (f0 && (xs.take j).all fun m => fit64 (m.2 * by')))) (fun i _ => xs.length - (intOf i).toNat)
   case atStart => exact ⟨0, .slice none 0 0, f0, rfl, by omega, KB, SB, F3, Lib.hid (World.ownsRow_nil _ _ _ _), Lib.hid (by simp)⟩
   case round =>
    obtain ⟨j, vl, f, rfl, hj, hB, hgr, hF, hO, hf⟩ := hrel
    have j0 : (0 : Int) <= j := by omega
    by_cases hlt : j < xs.length
    ·obtain ⟨b, o, rfl, c0, c1⟩ := SlM.keep hB RA.out j hlt
     have hrs := RS.out j hlt
     have htk := Lib.hid (take_step hlt)
     obtain ⟨⟨s, a⟩, hx⟩ : ∃ x, xs.getD j mo0 = x := ⟨_, rfl⟩
     have htk := Lib.hid (by have h := htk.out; rw [hx] at h; exact h)
     rw [hx] at c0 c1 hrs
     simp only at c0 c1 hrs
     clear hx
     obtain ⟨_, a1, a2⟩ := hrs
     have j1 : (j : Int) < xs.length := by omega
     go_wp2_with fail
     have FM := (Cl.cons (b := wr.heap.size) (o := 0) (v := .string s) (by go_cell) (by first | go_cell | simp) (Cl.cons (b := wr.heap.size) (o := 1) (v := .int .i64 a) (by go_cell) (by first | go_cell | simp) (hF.out.below ((Below.refl _ _).alloc (Nat.le_refl _) (Obj.cells #[Value.string s, Value.int .i64 a] 59))))).drew
     have BM := (hB.alloc hB.size (Obj.cells #[Value.string s, Value.int .i64 a] 59)).drew
     have OM : Hid ((wr.alloc (Obj.cells #[Value.string s, Value.int .i64 a] 59)).drew.ownsRow (gr + 1) 59 2 vl j (moCs (sclV by' (xs.take j)))) := Lib.hid (hO.out.alloc _)
     clear c0 c1 hB hF hO
     generalize wr.alloc (Obj.cells #[Value.string s, Value.int .i64 a] 59) = wm at *
     generalize wr.heap.size = gm at *
     have d0 := FM.head
     have d1 := FM.tail.head
     have d1z := FM.tail.tail.head
     have d2 := FM.tail.tail.tail.head
     have zd2 := FM.tail.tail.tail.headF
     have d3 := FM.tail.tail.tail.tail.head
     have zd3 := FM.tail.tail.tail.tail.headF
     have d4 := FM.tail.tail.tail.tail.tail.head
     have hz := (⟨d2, d0, d1⟩ : wm.drew.cell? ⟨gr, 1, none⟩ = some vl /\ wm.drew.cell? ⟨gm, 0, none⟩ = some (.string s) /\ wm.drew.cell? ⟨gm, 1, none⟩ = some (.int .i64 a))
     refine Rk.begin (S := fun wS => wS.cell? ⟨gr, 1, none⟩ = some vl /\ wS.cell? ⟨gm, 0, none⟩ = some (.string s) /\ wS.cell? ⟨gm, 1, none⟩ = some (.int .i64 a)) 10 (by kernel_rfl) hz (fun hHeld => ?_)
     refine Rk.takeP (i := 0) (v := ?_) rfl (by kernel_rfl) (by kernel_rfl) (by kernel_rfl) (by kernel_rfl) (fun _ _ _ h => h) (Or.inl ⟨by kernel_rfl, ?_⟩) (by assumption) ?_
     rotate_left
     ·((intro w hSw; go_simp) <;> with_reducible rfl)
     try simp only [Act.put, List.setIfInBounds_toArray, List.set_cons_zero, List.set_cons_succ]
     refine Rk.take [10] (i := 1) (v := ?_) rfl (by kernel_rfl) (by kernel_rfl) (by kernel_rfl) (by kernel_rfl) (by kernel_rfl) (fun _ _ _ h => h) (Or.inl ⟨by kernel_rfl, ?_⟩) (by assumption) ?_
     rotate_left
     ·((intro w hSw; (try dsimp only at hSw); go_simp) <;> with_reducible rfl)
     try simp only [Act.put, List.setIfInBounds_toArray, List.set_cons_zero, List.set_cons_succ]
     refine Rk.takeP (i := 2) (v := ?_) rfl (by kernel_rfl) (by kernel_rfl) (by kernel_rfl) (by kernel_rfl) (fun _ _ _ h => h) (Or.inl ⟨by kernel_rfl, ?_⟩) (by assumption) ?_
     rotate_left
     ·((intro w hSw; go_simp) <;> with_reducible rfl)
     try simp only [Act.put, List.setIfInBounds_toArray, List.set_cons_zero, List.set_cons_succ]
     refine Rk.take [8, 9, 10] (i := 3) (v := ?_) rfl (by kernel_rfl) (by kernel_rfl) (by kernel_rfl) (by kernel_rfl) (by kernel_rfl) (fun _ _ _ h => h) (Or.inl ⟨by kernel_rfl, ?_⟩) (by assumption) ?_
     rotate_left
     ·((intro w hSw; (try dsimp only at hSw); go_simp) <;> with_reducible rfl)
     try simp only [Act.put, List.setIfInBounds_toArray, List.set_cons_zero, List.set_cons_succ]
     refine Rk.takeP (i := 4) (v := ?_) rfl (by kernel_rfl) (by kernel_rfl) (by kernel_rfl) (by kernel_rfl) (fun _ _ _ h => h) (Or.inl ⟨by kernel_rfl, ?_⟩) (by assumption) ?_
     rotate_left
     ·((intro w hSw; go_simp) <;> with_reducible rfl)
     try simp only [Act.put, List.setIfInBounds_toArray, List.set_cons_zero, List.set_cons_succ]
     refine Rk.takeP (i := 5) (v := ?_) rfl (by kernel_rfl) (by kernel_rfl) (by kernel_rfl) (by kernel_rfl) (fun _ _ _ h => h) (Or.inl ⟨by kernel_rfl, ?_⟩) (by assumption) ?_
     rotate_left
     ·((intro w hSw; go_simp) <;> with_reducible rfl)
     try simp only [Act.put, List.setIfInBounds_toArray, List.set_cons_zero, List.set_cons_succ]
     refine Rk.take [7, 10] (i := 6) (v := ?_) rfl (by kernel_rfl) (by kernel_rfl) (by kernel_rfl) (by kernel_rfl) (by kernel_rfl) (fun _ _ _ h => h) (Or.inl ⟨by kernel_rfl, ?_⟩) (by assumption) ?_
     rotate_left
     ·((intro w hSw; (try dsimp only at hSw); go_simp) <;> with_reducible rfl)
     try simp only [Act.put, List.setIfInBounds_toArray, List.set_cons_zero, List.set_cons_succ]
     refine Rk.one (i := 7) (by kernel_rfl) rfl (fun KK hK => ?_)
     rw [if_pos (by kernel_rfl)]
     go_simp
     ((with_reducible refine (T1.out a f gf _ a1 a2 d4 d3 zd3 n1 n2).mono ?_); rintro e u ⟨rfl, hgu, hfu, hzu⟩)
     have hNew : u.cell? ⟨gr, 1, none⟩ = some vl /\ u.cell? ⟨gm, 0, none⟩ = some (.string s) /\ u.cell? ⟨gm, 1, none⟩ = some (.int .i64 a) := ⟨hgu.cell d2 (by simp; omega), hgu.cell d0 (by simp; omega), hgu.cell d1 (by simp; omega)⟩
     refine hK.out _ _ hNew (fun hHeld => ?_)
     clear hK KK
     refine Rk.takeP (i := 8) (v := ?_) rfl (by kernel_rfl) (by kernel_rfl) (by kernel_rfl) (by kernel_rfl) (fun _ _ _ h => h) (Or.inl ⟨by kernel_rfl, ?_⟩) (by assumption) ?_
     rotate_left
     ·((intro w hSw; go_simp) <;> with_reducible rfl)
     try simp only [Act.put, List.setIfInBounds_toArray, List.set_cons_zero, List.set_cons_succ]
     refine Rk.one (i := 9) (by kernel_rfl) rfl (fun KK hK => ?_)
     rw [if_pos (by kernel_rfl)]
     go_simp
     have BA := (Below.refl u.heap.size u).alloc (Nat.le_refl _) (Obj.cells #[Value.string s, Value.int .i64 (wrap64 (a * by'))] 59)
     refine hK.out _ _ ⟨kp BA (lt_of_cell hHeld.1) hHeld.1, kp BA (lt_of_cell hHeld.2.1) hHeld.2.1, kp BA (lt_of_cell hHeld.2.2) hHeld.2.2⟩ (fun hHeld => ?_)
     clear hK KK
     refine Rk.tail [10, 11, 12] [_, _, _] (by kernel_rfl) (by kernel_rfl) rfl (by decide) ?_
     have BU := (Below.refl u.heap.size u).alloc (Nat.le_refl _) (Obj.cells #[Value.string s, Value.int .i64 (wrap64 (a * by'))] 59)
     have FU := (Cl.cons hfu hzu ((FM.sub (L' := [(gr, 0, .int .i64 K0), (gr, 1, vl), (w.heap.size + 1, 0, .int .i64 by'), (w.heap.size + 1 + 1, 0, .int .i64 0), (w.heap.size + 1 + 1, 1, .slice none 0 0)]) (by intro x hx; simp only [List.mem_cons, List.not_mem_nil, or_false] at hx ⊢; rcases hx with h | h | h | h | h <;> simp [h])).grown hgu (by simp only [List.forall_mem_cons, ne_eq, Option.some.injEq]; simp; omega))).below BU
     have OU := (OM.out.kept hgu (own_ne OM.out (by omega))).alloc (Obj.cells #[Value.string s, Value.int .i64 (wrap64 (a * by'))] 59)
     have KU1 := below_grown BM hgu BM.size (by intro q hq; cases hq; omega)
     have KU := KU1.alloc KU1.size (Obj.cells #[Value.string s, Value.int .i64 (wrap64 (a * by'))] 59)
     have zU : gr < u.heap.size := Nat.lt_of_lt_of_le (lt_of_cell d2) hgu.size
     clear FM BM OM d0 d1 d2 d3 d4 zd2 zd3 hz hgu hfu hzu hHeld
     go_wp2_with (at_builtin; refine wpList_append_own _ rfl _ _ 22 rfl (gr + 1) 59 i0 (.agg #[.string ⟨#[]⟩, .int .i64 0]) 2 24 Tryd.underlying22 hi hz0 hz1 hz2 rfl (by decide) _ _ _ rfl OU ⟨u.heap.size, 0, none⟩ 1 1 [.string s, .int .i64 (wrap64 (a * by'))] rfl rfl ?_ ?_ ?_ ?_ ?_ ?_)
     ·intro q x hx
      rcases q with _ | _ | q
      ·cases hx; go_cell
      ·cases hx; go_cell
      ·simp at hx
     ·intro x hx
      simp at hx
      rcases hx with rfl | rfl <;> rfl
     ·unfold maxLen; omega
     ·omega
     ·simp; omega
     intro v' w4 hown' hgrow _
     have F4 := FU.own OU hgrow (by simp only [List.forall_mem_cons]; simp; omega)
     have K4 := KU.grown hgrow KU.size (fun q hq => by have := (OU.lt q hq).1; have := KU.size; omega)
     have hown2 : Hid (w4.ownsRow (gr + 1) 59 2 v' (j + 1) (moCs (sclV by' (xs.take (j + 1))))) := Lib.hid (by
      rw [htk.out, sclV, List.map_append, List.map_cons, List.map_nil, moCs_snoc]
      exact hown')
     have hf2 : Hid ((f && fit64 (a * by')) = (f0 && (xs.take (j + 1)).all fun m => fit64 (m.2 * by'))) := Lib.hid (by
      rw [htk.out, hf.out, List.all_append]
      simp [Bool.and_assoc])
     obtain ⟨q', c', rfl⟩ := own_slice hown2.out
     clear hown' hgrow FU OU KU KU1 BU hf htk hi hz0 hz1 hz2
     generalize (f && fit64 (a * by')) = f' at *
     have e0 := F4.head
     have e1 := F4.tail.head
     have ze1 := F4.tail.headF
     have e2 := F4.tail.tail.head
     have ze2 := F4.tail.tail.headF
     go_wp2
     go_roundw
     case rel => exact ⟨j + 1, .slice q' (j + 1) c', f', by go_num, by omega, K4.setCell (p := ⟨gr, 1, none⟩) (by show w.heap.size <= gr; omega) _, by rw [World.size_setCell]; exact lt_of_cell e2, Lib.hid (Cl.cons (by go_cell) (by first | go_cell | simp [World.frozen?_setCell, ze1]) (Cl.cons (by go_cell) (by first | go_cell | simp [World.frozen?_setCell, ze2]) (Cl.far (F4.sub (by intro x hx; simp only [List.mem_cons, List.not_mem_nil, or_false] at hx ⊢; rcases hx with h | h | h | h <;> simp [h])) (by simp only [List.forall_mem_cons]; simp; omega)))), Lib.hid (own_set hown2.out (by simp)), hf2⟩
     case measure => simp [intOf]; omega
    ·have j1 : ¬ (j : Int) < xs.length := by omega
     obtain rfl : j = xs.length := by omega
     have hO2 := hO.out
     have hf2 := hf.out
     rw [List.take_length] at hO2 hf2
     have F4 := hF.out
     clear hF hO hf
     have hlen : (sclV by' xs).length = xs.length := by unfold sclV; rw [List.length_map]
     cases f
     ·have HR := Lib.hid (HN.out (by
       unfold sclF
       rw [<- show (true && fit64 (k * by')) = fit64 (k * by') from Bool.true_and _, HF0.out, <- hf2]
       decide))
      clear hf2
      have e2 := F4.tail.tail.head
      have e4 := F4.tail.tail.tail.tail.head
      have ze4 := F4.tail.tail.tail.tail.headF
      have e5 := F4.tail.tail.tail.tail.tail.head
      have ze5 := F4.tail.tail.tail.tail.tail.headF
      go_wp2
      exact bodyPost_ret (v := .tuple #[.agg #[.int .i64 0, .slice none 0 0], .int .i64 3]) (by simp [results, Tryd.results61, go_sem, e4, e5]) rfl (by rw [HR.out]; exact LR.zero rfl (below2 hB (by omega) _ _))
     ·have HR := Lib.hid (HY.out (by
       unfold sclF
       rw [<- show (true && fit64 (k * by')) = fit64 (k * by') from Bool.true_and _, HF0.out, <- hf2]))
      have HL := Lib.hid hlen
      clear hf2 hlen
      obtain ⟨q', c', rfl⟩ := own_slice hO2
      have e0 := F4.head
      have e1 := F4.tail.head
      have e2 := F4.tail.tail.head
      have e4 := F4.tail.tail.tail.tail.head
      have ze4 := F4.tail.tail.tail.tail.headF
      have e5 := F4.tail.tail.tail.tail.tail.head
      have ze5 := F4.tail.tail.tail.tail.tail.headF
      go_wp2
      have hOF := own_set (a := ⟨w.heap.size + 1 + 1, 1, none⟩) (y := .slice q' xs.length c') (own_set (a := ⟨w.heap.size + 1 + 1, 0, none⟩) (y := .int .i64 K0) hO2 (by simp; omega)) (by simp; omega)
      obtain ⟨q2, c2, he, hsl⟩ := own_sl' hOF HL.out.symm
      cases he
      exact bodyPost_ret (v := .tuple #[.agg #[.int .i64 K0, .slice q' xs.length c'], .int .i64 0]) (by simp [results, Tryd.results61, go_sem, e4, e5]) rfl (by rw [HR.out, HK0.out]; exact ⟨q', c', by rw [HL.out]; rfl, hsl, below2 hB (by omega) _ _⟩)
end Go.Proofs.YtbicmlkjonaccaaDoor.Ln


namespace Go.Proofs.YtbicmlkjonaccaaDoor.Ln
open Go.ChangeShapes Go.WideShapes Go.ChangeAt Go.RowKit
set_option linter.unusedVariables false
set_option linter.unusedSimpArgs false
theorem getD_mem {xs : List Mo} {j : Nat} (h : j < xs.length) : xs.getD j mo0 ∈ xs := by
 have e1 : xs.getD j mo0 = xs[j] := by unfold List.getD; rw [List.getElem?_eq_getElem h]; rfl
 rw [e1]
 exact List.getElem_mem h

end Go.Proofs.YtbicmlkjonaccaaDoor.Ln


namespace Go.Proofs.YtbicmlkjonaccaaDoor.Ln
open Go.ChangeShapes Go.WideShapes Go.ChangeAt Go.RowKit
open Go.Proofs.YtbicmlkjonaccaaDoor.Nm
set_option linter.unusedVariables false
set_option linter.unusedSimpArgs false
theorem cb_trans : ∀ a b c : List UInt8, Lib.compareBytes a b < 0 -> Lib.compareBytes b c < 0 -> Lib.compareBytes a c < 0
 | [], [], _, h, _ => by simp [Lib.compareBytes] at h
 | _ :: _, [], _, h, _ => by simp [Lib.compareBytes] at h
 | [], _ :: _, [], _, h => by simp [Lib.compareBytes] at h
 | [], _ :: _, _ :: _, _, _ => by simp [Lib.compareBytes]
 | _ :: _, _ :: _, [], _, h => by simp [Lib.compareBytes] at h
 | a :: a', b :: b', c :: c', h, h2 => by
  have ih := cb_trans a' b' c'
  unfold Lib.compareBytes at h h2 ⊢
  simp only [UInt8.lt_iff_toNat_lt] at h h2 ⊢
  by_cases h1 : a.toNat < b.toNat
  ·by_cases h3 : b.toNat < c.toNat
   ·rw [if_pos (by omega)]; omega
   ·rw [if_neg h3] at h2
    by_cases h4 : c.toNat < b.toNat
    ·rw [if_pos h4] at h2; omega
    ·rw [if_pos (by omega)]; omega
  ·rw [if_neg h1] at h
   by_cases h5 : b.toNat < a.toNat
   ·rw [if_pos h5] at h; omega
   ·rw [if_neg h5] at h
    by_cases h3 : b.toNat < c.toNat
    ·rw [if_pos (by omega)]; omega
    ·rw [if_neg h3] at h2
     by_cases h4 : c.toNat < b.toNat
     ·rw [if_pos h4] at h2; omega
     ·rw [if_neg h4] at h2
      rw [if_neg (by omega), if_neg (by omega)]
      exact ih h h2
def slt (a b : ByteArray) : Prop := cs a b < 0
instance (a b : ByteArray) : Decidable (slt a b) := inferInstanceAs (Decidable (cs a b < 0))
theorem slt_trans {a b c : ByteArray} (h : slt a b) (h2 : slt b c) : slt a c := cb_trans _ _ _ h h2
theorem slt_irrefl (a : ByteArray) : ¬ slt a a := by
 unfold slt
 rw [(cs_zero).2 rfl]
 decide
theorem slt_asymm {a b : ByteArray} (h : slt a b) : ¬ slt b a := fun h2 => slt_irrefl _ (slt_trans h h2)

theorem slt_less (a b : ByteArray) : Op.bytesLess a.toList b.toList = decide (slt a b) := cs_less a b
theorem same_iff (a b : ByteArray) : (a.toList == b.toList) = decide (a = b) := by
 rw [cs_eq, Bool.eq_iff_iff, decide_eq_true_eq, decide_eq_true_eq, cs_zero]
def Srt (l : List ByteArray) : Prop := l.Pairwise slt
theorem Srt.ext : ∀ {l m : List ByteArray}, Srt l -> Srt m -> (∀ x, x ∈ l ↔ x ∈ m) -> l = m
 | [], [], _, _, _ => rfl
 | [], b :: m, _, _, h => by have := (h b).2 (by simp); cases this
 | a :: l, [], _, _, h => by have := (h a).1 (by simp); cases this
 | a :: l, b :: m, h1, h2, h => by
  unfold Srt at h1 h2
  rw [List.pairwise_cons] at h1 h2
  have hab : a = b := by
   rcases List.mem_cons.1 ((h a).1 (by simp)) with e | e
   ·exact e
   ·rcases List.mem_cons.1 ((h b).2 (by simp)) with e2 | e2
    ·exact e2.symm
    ·exact absurd (h1.1 b e2) (slt_asymm (h2.1 a e))
  subst hab
  rw [Srt.ext h1.2 h2.2 (fun x => by
   have hx := h x
   rw [List.mem_cons, List.mem_cons] at hx
   constructor
   ·intro hm
    rcases hx.1 (.inr hm) with e | e
    ·subst e; exact absurd (h1.1 _ hm) (slt_irrefl _)
    ·exact e
   ·intro hm
    rcases hx.2 (.inr hm) with e | e
    ·subst e; exact absurd (h2.1 _ hm) (slt_irrefl _)
    ·exact e)]
/-- The names of a valid form ascend. -/
theorem okL_iff {xs : List Mo} : okL xs = true ↔ (Srt (xs.map (·.1)) /\ ∀ m ∈ xs, nmB m.1 = true /\ m.2 ≠ 0) := by
 unfold okL
 rw [List.all_eq_true]
 have getE : ∀ j (h : j < xs.length), xs.getD j mo0 = xs[j] := fun j h => by unfold List.getD; rw [List.getElem?_eq_getElem h]; rfl
 constructor
 ·intro h
  have hb : ∀ j, j < xs.length -> nmB (xs.getD j mo0).1 = true /\ (xs.getD j mo0).2 ≠ 0 /\ (0 < j -> slt (xs.getD (j - 1) mo0).1 (xs.getD j mo0).1) := fun j hj => by
   have h1 := h j (List.mem_range.2 hj)
   unfold bd at h1
   rw [slt_less] at h1
   simp only [Bool.not_eq_true', Bool.or_eq_false_iff, Bool.not_eq_false', beq_eq_false_iff_ne, Bool.and_eq_false_imp, decide_eq_true_eq] at h1
   exact ⟨h1.1, h1.2.1, fun h0 => by simpa using h1.2.2 h0⟩
  refine ⟨?_, ?_⟩
  ·unfold Srt
   rw [List.pairwise_iff_getElem]
   intro i j hi hj hij
   have key : ∀ d i (hi : i + d + 1 < xs.length), slt (xs.getD i mo0).1 (xs.getD (i + d + 1) mo0).1 := by
    intro d
    induction d with
    | zero => intro i hi; exact (hb (i + 0 + 1) hi).2.2 (by omega)
    | succ d ih =>
     intro i hi
     exact slt_trans (ih i (by omega)) ((hb (i + (d + 1) + 1) hi).2.2 (by omega))
   simp only [List.length_map] at hi hj
   have := key (j - i - 1) i (by omega)
   rw [show i + (j - i - 1) + 1 = j by omega, getE i hi, getE j hj] at this
   simpa using this
  ·intro m hm
   obtain ⟨j, hj, rfl⟩ := List.getElem_of_mem hm
   have := hb j hj
   rw [getE j hj] at this
   exact ⟨this.1, this.2.1⟩
 ·intro h j hj
  have hj := List.mem_range.1 hj
  unfold bd
  rw [slt_less]
  have h1 := h.2 (xs.getD j mo0) (getD_mem hj)
  rw [h1.1, beq_false_of_ne h1.2]
  have hs : 0 < j -> slt (xs.getD (j - 1) mo0).1 (xs.getD j mo0).1 := fun h0 => by
   have := (List.pairwise_iff_getElem.1 h.1) (j - 1) j (by simp; omega) (by simpa using hj) (by omega)
   rw [getE j hj, getE (j - 1) (by omega)]
   simpa using this
  generalize (xs.getD (j - 1) mo0).1 = A at *
  generalize (xs.getD j mo0).1 = B at *
  by_cases h0 : 0 < j
  ·rw [decide_eq_true (hs h0)]; simp
  ·rw [decide_eq_false h0]; rfl
theorem co_nil (s : ByteArray) : co [] s = 0 := rfl
theorem co_cons (x : Mo) (l : List Mo) (s : ByteArray) : co (x :: l) s = if x.1 = s then x.2 else co l s := by
 show (if (x.1.toList == s.toList) = true then x.2 else co l s) = _
 rw [same_iff]
 by_cases h : x.1 = s <;> simp [h]

def mg : List Mo -> List Mo -> List Mo
 | [], ys => ys
 | x :: xs, [] => x :: xs
 | x :: xs, y :: ys => if slt x.1 y.1 then x :: mg xs (y :: ys) else if slt y.1 x.1 then y :: mg (x :: xs) ys else (x.1, x.2 + y.2) :: mg xs ys
termination_by a b => a.length + b.length

end Go.Proofs.YtbicmlkjonaccaaDoor.Ln


namespace Go.Proofs.YtbicmlkjonaccaaDoor.Ln
open Go.ChangeShapes Go.WideShapes Go.ChangeAt Go.RowKit
set_option linter.unusedVariables false
set_option linter.unusedSimpArgs false

theorem SlM.grown {w u : World} {p : Option Addr} {xs : List Mo} {g : Nat} (h : SlM w p xs) (hg : w.grownBy u (some g)) (hp : ∀ b o, p = some ⟨b, o, none⟩ -> b ≠ g) : SlM u p xs := fun i hi => by
 obtain ⟨b, o, rfl, c0, c1⟩ := h i hi
 have hb := hg.block b (lt_of_cell c0) (fun e => hp b o rfl (by cases e; rfl))
 exact ⟨b, o, rfl, (World.cell?_of_block (a := ⟨b, _, none⟩) hb).trans c0, (World.cell?_of_block (a := ⟨b, _, none⟩) hb).trans c1⟩

end Go.Proofs.YtbicmlkjonaccaaDoor.Ln


namespace Go.Proofs.YtbicmlkjonaccaaDoor.Ln
open Go.ChangeShapes Go.WideShapes Go.ChangeAt Go.RowKit
set_option linter.unusedVariables false
set_option linter.unusedSimpArgs false

def okM (m : Mo) : Prop := m.2 ≠ 0 /\ -9223372036854775808 <= m.2 /\ m.2 <= 9223372036854775807
theorem okM.wrap {m : Mo} (h : okM m) : wrap64 m.2 = m.2 := by unfold okM at h; unfold wrap64; omega

end Go.Proofs.YtbicmlkjonaccaaDoor.Ln


namespace Go.Proofs.YtbicmlkjonaccaaDoor.Ln
open Go.ChangeShapes Go.WideShapes Go.ChangeAt Go.RowKit
set_option linter.unusedVariables false
set_option linter.unusedSimpArgs false

theorem Sl_set {w : World} {p : Option Addr} {xs : List Mo} {a : Addr} {x : Value} (h : SlM w p xs) (hp : ∀ b o, p = some ⟨b, o, none⟩ -> xs ≠ [] -> b ≠ a.block) : SlM (w.setCell a x) p xs := fun i hi => by
 obtain ⟨b, o, rfl, c0, c1⟩ := h i hi
 have hb := Below.heap_setCell w a x b (hp b o rfl (fun e => by rw [e] at hi; simp at hi))
 exact ⟨b, o, rfl, (World.cell?_of_block (a := ⟨b, _, none⟩) hb).trans c0, (World.cell?_of_block (a := ⟨b, _, none⟩) hb).trans c1⟩

end Go.Proofs.YtbicmlkjonaccaaDoor.Ln


namespace Go.Proofs.YtbicmlkjonaccaaDoor.Ln
open Go.ChangeShapes Go.WideShapes Go.ChangeAt Go.RowKit
set_option linter.unusedVariables false
set_option linter.unusedSimpArgs false
/-- The greatest common divisor of a number and of the magnitudes of the coefficients. -/
def gcdL (g : Nat) : List Mo -> Nat
 | [] => g
 | m :: r => gcdL (Nat.gcd g m.2.natAbs) r
theorem gcdL_step {xs : List Mo} {j g : Nat} (h : j < xs.length) : gcdL g (xs.drop j) = gcdL (Nat.gcd g (xs.getD j mo0).2.natAbs) (xs.drop (j + 1)) := by
 rw [List.drop_eq_getElem_cons h]
 have e1 : xs.getD j mo0 = xs[j] := by unfold List.getD; rw [List.getElem?_eq_getElem h]; rfl
 rw [e1]
 rfl
theorem gcd_bd {g n : Nat} (hg : g < 18446744073709551616) (hn : n < 18446744073709551616) : Nat.gcd g n < 18446744073709551616 := by
 by_cases h : n = 0
 ·subst h; rw [Nat.gcd_zero_right]; exact hg
 ·exact Nat.lt_of_le_of_lt (Nat.le_of_dvd (by omega) (Nat.gcd_dvd_right g n)) hn
theorem gcd_step {g n : Nat} : Nat.gcd n (g % n) = Nat.gcd g n := by rw [Nat.gcd_comm n, <- Nat.gcd_rec, Nat.gcd_comm]
set_option maxRecDepth 100000 in
set_option maxHeartbeats 16000000 in
theorem gcd1 (k : Int) (p : Option Addr) (xs : List Mo) (c : Nat) (w : World) (hn : xs.length <= maxLen) (RA : Hid (SlM w p xs)) (RS : Hid (∀ i, i < xs.length -> (xs.getD i mo0).1.size <= maxLen /\ -9223372036854775808 <= (xs.getD i mo0).2 /\ (xs.getD i mo0).2 <= 9223372036854775807)) :
    Calls Tryd.prog 59 #[Lv k p xs.length c] w fun e w' => e = .returned (.int .i64 (wrap64 (gcdL 0 xs))) /\ Below w.heap.size w w' := by
  have B0 : Below w.heap.size w (w.alloc (Obj.cells #[Value.int .i64 k, Value.slice p xs.length c] 24)) := (Below.refl _ _).alloc (Nat.le_refl _) _
  have f1 : ((w.alloc (Obj.cells #[Value.int .i64 k, Value.slice p xs.length c] 24))).cell? ⟨w.heap.size, 1, none⟩ = some (.slice p xs.length c) := by go_cell
  unfold maxLen at hn
  unfold Lv
  go_enter Tryd.func59, Tryd.ntmps59
  go_wp2
  have RA1 := Lib.hid (SlM.keep B0 RA.out)
  generalize (w.alloc (Obj.cells #[Value.int .i64 k, Value.slice p xs.length c] 24)) = z at *
  go_loopw [3, 10] (fun gv i wr => ∃ j g : Nat, i = .int .i64 (j : Int) /\ gv = .int .u64 (g : Int) /\ j <= xs.length /\ g < 18446744073709551616 /\ Below z.heap.size z wr /\ Hid (gcdL 0 xs = gcdL g (xs.drop j))) (fun _ i _ => xs.length - (intOf i).toNat)
  case atStart => exact ⟨0, 0, rfl, rfl, by omega, by omega, Below.refl _ _, Lib.hid rfl⟩
  case round =>
    obtain ⟨j, g, rfl, rfl, hj, hg, hB, HL⟩ := hrel
    have j0 : (0 : Int) <= j := by omega
    by_cases hlt : j < xs.length
    · obtain ⟨b, o, rfl, c0, c1⟩ := SlM.keep hB RA1.out j hlt
      have hst := Lib.hid (gcdL_step (g := g) hlt)
      have hrs := RS.out j hlt
      obtain ⟨⟨t, a⟩, hx⟩ : ∃ x, xs.getD j mo0 = x := ⟨_, rfl⟩
      replace hst := Lib.hid (by have h := hst.out; rw [hx] at h; exact h)
      rw [hx] at c0 c1 hrs
      simp only at c0 c1 hrs
      clear hx
      obtain ⟨_, a1, a2⟩ := hrs
      have j1 : (j : Int) < xs.length := by omega
      obtain ⟨n, hnn⟩ : ∃ n, a.natAbs = n := ⟨_, rfl⟩
      have hn2 : n < 18446744073709551616 := by omega
      have HS := Lib.hid (show gcdL 0 xs = gcdL (Nat.gcd g n) (xs.drop (j + 1)) by rw [HL.out, hst.out, <- hnn])
      clear HL hst
      have hB2 := hB.alloc hB.size (Obj.cells #[Value.string t, Value.int .i64 a] 59)
      by_cases ha : a < 0
      all_goals
        first
        | (have u1 : IntKind.u64.wrap a = a + 18446744073709551616 := by rw [u64w]; omega
           have u2 : IntKind.u64.wrap (-(a + 18446744073709551616)) = (n : Int) := by rw [u64w]; omega)
        | (have u1 : IntKind.u64.wrap a = (n : Int) := by rw [u64w]; omega)
        go_wp2_with fail
        clear c0 c1
        clear hB ha
        go_loopw [3, 6] (fun gv av wr => ∃ g' a' : Nat, gv = .int .u64 (g' : Int) /\ av = .int .u64 (a' : Int) /\ g' < 18446744073709551616 /\ a' < 18446744073709551616 /\ Below z.heap.size z wr /\ Hid (Nat.gcd g' a' = Nat.gcd g n)) (fun _ av _ => (intOf av).toNat)
        case atStart => exact ⟨g, n, rfl, rfl, hg, hn2, hB2, Lib.hid rfl⟩
        case round =>
          clear hB2
          obtain ⟨g', a', rfl, rfl, hg', ha', hB3, HG⟩ := hrel
          by_cases h0 : a' = 0
          · subst h0
            have HS2 := Lib.hid (show gcdL 0 xs = gcdL g' (xs.drop (j + 1)) by rw [HS.out, <- HG.out, Nat.gcd_zero_right])
            clear HS HG
            go_wp2
            go_roundw
            case rel => exact ⟨j + 1, g', by go_num, rfl, by omega, hg', hB3, HS2⟩
            case measure => simp [intOf]; omega
          · have hb0 : ((a' : Int) == 0) = false := beq_false_of_ne (by omega)
            have hb1 : ((a' : Int) != 0) = true := by rw [bne, hb0]; rfl
            have hb2 : ((a' : Int) = 0) = False := by simp; exact h0
            have hmod : g' % a' < a' := Nat.mod_lt _ (by omega)
            have HG2 := Lib.hid (show Nat.gcd a' (g' % a') = Nat.gcd g n by rw [gcd_step, HG.out])
            have e1 : ((g' : Int) % (a' : Int)) = ((g' % a' : Nat) : Int) := (Int.natCast_emod g' a').symm
            have e2 : Int.tmod (g' : Int) (a' : Int) = ((g' % a' : Nat) : Int) := by rw [Int.tmod_eq_emod_of_nonneg (by omega)]; exact e1
            obtain ⟨r, hr⟩ : ∃ r, g' % a' = r := ⟨_, rfl⟩
            rw [hr] at e1 e2 HG2 hmod
            clear hr HG hb2
            go_wp2_with fail
            go_quiet (fail)
            go_wp2
            go_roundw
            case rel => exact ⟨a', r, rfl, rfl, ha', by omega, below_drewN hB3 _, HG2⟩
            case measure => simp [intOf]; omega
    · have j1 : ¬ (j : Int) < xs.length := by omega
      have HE := Lib.hid (show gcdL 0 xs = g by rw [HL.out, List.drop_of_length_le (by omega)]; rfl)
      go_wp2
      go_ret
      exact ⟨by rw [HE.out]; rfl, B0.trans (hB.mono B0.size)⟩
end Go.Proofs.YtbicmlkjonaccaaDoor.Ln
