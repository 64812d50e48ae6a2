/- Linear forms: a product and whether it fits. -/
import Derived.Test.YthdeaneffnlffaaY15
import Derived.Laws.AppendOwn
import Derived.Laws.OwnMore
import Derived.OneCell
import Derived.Deep.Onto
namespace Go.Proofs.Ythdeaneffnlffaa.Ln
open Go.ChangeShapes Go.WideShapes Go.ChangeAt Go.RowKit
set_option linter.unusedVariables false

theorem sgn0 {x : Int} (h0 : 0 ≤ x) (h1 : x < 18446744073709551616) : IntKind.u64.wrap (wrap64 x / 9223372036854775808) = if x < 9223372036854775808 then 0 else 18446744073709551615 := by
  rw [u64w]
  unfold wrap64
  split <;> omega
theorem wfitG (g : Nat) (V : Int) (w : World) (h1 : -1569275433846670190958947355801916604025588861116008628224 ≤ V) (h2 : V ≤ 1569275433846670190958947355801916604025588861116008628224)
    (a0 : w.cell? ⟨g, 0, none⟩ = some (.int .u64 (l2 V))) (a1 : w.cell? ⟨g, 1, none⟩ = some (.int .u64 (l1 V))) (a2 : w.cell? ⟨g, 2, none⟩ = some (.int .u64 (l0 V))) :
    Calls Try.prog 40 #[.pointer (some ⟨g, 0, none⟩)] w fun e w' => e = .returned (.bool (fit64 V)) ∧ ∃ n, w' = w.drewN n := by
  have hb := l_bd V
  have hi := fits_iff h1 h2
  refine (wfitT g (l0 V) (l1 V) (l2 V) _ _ _ w (sgn0 hb.1.1 hb.1.2) rfl rfl a0 a1 a2).mono ?_
  rintro e w' ⟨rfl, hn⟩
  refine ⟨?_, hn⟩
  rw [show fit64 V = ((l1 V == (if l0 V < 9223372036854775808 then 0 else 18446744073709551615)) && (l2 V == (if l0 V < 9223372036854775808 then 0 else 18446744073709551615))) from ?_]
  rw [Bool.eq_iff_iff, fit_yes, Bool.and_eq_true, beq_iff_eq, beq_iff_eq]
  exact hi.symm
theorem grown_of {w w2 : World} {a : Addr} {v : Value} (h : Below w.heap.size w w2) : w.grownBy (w2.setCell a v) (some a.block) :=
  ⟨h.os, h.tape, h.output, by rw [World.size_setCell]; exact h.size, fun k hk hne => (Below.heap_setCell w2 a v k (fun e => hne (by rw [e]))).trans (h.block k hk)⟩
def TW (x by' : Int) (f : Bool) (gf : Nat) (w : World) (e : Ending) (w' : World) : Prop :=
  e = .returned (.int .i64 (wrap64 (x * by'))) ∧ w.grownBy w' (some gf) ∧ w'.cell? ⟨gf, 0, none⟩ = some (.bool (f && fit64 (x * by'))) ∧ w'.frozen? ⟨gf, 0, none⟩ = false
set_option maxRecDepth 100000 in
set_option maxHeartbeats 8000000 in
theorem times1 (x by' : Int) (f : Bool) (gb gf : Nat) (w : World) (x1 : -9223372036854775808 ≤ x) (x2 : x ≤ 9223372036854775807) (b1 : -9223372036854775808 ≤ by') (b2 : by' ≤ 9223372036854775807)
    (hb : w.cell? ⟨gb, 0, none⟩ = some (.int .i64 by')) (hf : w.cell? ⟨gf, 0, none⟩ = some (.bool f)) (hz : w.frozen? ⟨gf, 0, none⟩ = false) (hne : gb ≠ gf) (hne' : gf ≠ gb) :
    Calls Try.prog 38 #[.int .i64 x, .pointer (some ⟨gb, 0, none⟩), .pointer (some ⟨gf, 0, none⟩)] w (TW x by' f gf w) := by
  have hg : gf < w.heap.size := by have := World.block_lt_of_cell? w _ hf; simpa using this
  have hgb : gb < w.heap.size := by have := World.block_lt_of_cell? w _ hb; simpa using this
  have C1 := Lib.hid fun (w1 : World) (g : Nat) h0 h1 h2 z0 z1 z2 => waddG g 0 x by' w1 x1 x2 b1 b2 h0 h1 h2 z0 z1 z2
  have C2 := Lib.hid fun (w1 : World) (g : Nat) h0 h1 h2 => wfitG g (x * by') w1 (by have := prod_bd x1 x2 b1 b2; omega) (by have := prod_bd x1 x2 b1 b2; omega) h0 h1 h2
  rw [Int.zero_add, show l2 0 = 0 from rfl, show l1 0 = 0 from rfl, show l0 0 = 0 from rfl] at C1
  have B0 : Below w.heap.size w (w.alloc (Obj.cells #[Value.int .u64 0, Value.int .u64 0, Value.int .u64 0] 63)) := (Below.refl _ _).alloc (Nat.le_refl _) _
  have f1 := kp B0 hgb hb
  go_enter Try.func38, Try.ntmps38
  go_wp2_with fail
  have hfz := (B0.frozen (p := ⟨gf, 0, none⟩) hg).trans hz
  have f2 := kp B0 hg hf
  refine (C1.out (w.alloc (Obj.cells #[Value.int .u64 0, Value.int .u64 0, Value.int .u64 0] 63)) w.heap.size (by go_cell) (by go_cell) (by go_cell) (by first | go_cell | simp) (by first | go_cell | simp) (by first | go_cell | simp)).mono ?_
  rintro e w2 ⟨rfl, h2⟩
  have r0 : w2.cell? ⟨w.heap.size, 0, none⟩ = some (.int .u64 (l2 (x * by'))) := by rw [h2]; go_cell
  have r1 : w2.cell? ⟨w.heap.size, 1, none⟩ = some (.int .u64 (l1 (x * by'))) := by rw [h2]; go_cell
  have r2 : w2.cell? ⟨w.heap.size, 2, none⟩ = some (.int .u64 (l0 (x * by'))) := by rw [h2]; go_cell
  have K2 : Below w.heap.size w w2 := by
    rw [h2]
    exact ((B0.setCell (p := ⟨w.heap.size, 2, none⟩) (Nat.le_refl _) _).setCell (p := ⟨w.heap.size, 1, none⟩) (Nat.le_refl _) _).setCell (p := ⟨w.heap.size, 0, none⟩) (Nat.le_refl _) _
  have C3 := Lib.hid (C2.out w2 w.heap.size r0 r1 r2)
  clear h2 f1 f2 hfz B0 r0 r1 r2 C1 C2
  have f1 := kp K2 hgb hb
  have f2 := kp K2 hg hf
  have hfz := (K2.frozen (p := ⟨gf, 0, none⟩) hg).trans hz
  obtain ⟨v, hv⟩ : ∃ v, fit64 (x * by') = v := ⟨_, rfl⟩
  rw [hv] at C3
  have HV := Lib.hid hv
  clear hv
  cases f
  · go_wp2
    go_ret
    exact ⟨rfl, grown_of (a := ⟨gf, 0, none⟩) K2, by go_cell, by first | go_cell | simp [World.frozen?_setCell, hfz]⟩
  · go_wp2_with (first | (go_at_call 40; refine C3.out.mono ?_; rintro e w3 ⟨rfl, n, rfl⟩))
    go_ret
    exact ⟨rfl, grown_of (a := ⟨gf, 0, none⟩) (below_drewN K2 n), by rw [HV.out, Bool.true_and]; go_cell, by first | go_cell | simp [World.frozen?_setCell, hfz]⟩
/-- Cells of blocks of the call's own. -/
def Cl (L : List (Nat × Nat × Value)) (u : World) : Prop := ∀ b o v, (b, o, v) ∈ L → u.cell? ⟨b, o, none⟩ = some v ∧ u.frozen? ⟨b, o, none⟩ = false
theorem lt_of_cell {u : World} {b o : Nat} {v : Value} (h : u.cell? ⟨b, o, none⟩ = some v) : b < u.heap.size := by have := World.block_lt_of_cell? u _ h; simpa using this
theorem Cl.below {L : List (Nat × Nat × Value)} {u u' : World} (h : Cl L u) (hb : Below u.heap.size u u') : Cl L u' := fun b o v hm => by
  obtain ⟨h1, h2⟩ := h b o v hm
  have := lt_of_cell h1
  exact ⟨(hb.cell (p := ⟨b, o, none⟩) this).trans h1, (hb.frozen (p := ⟨b, o, none⟩) this).trans h2⟩
theorem Cl.grown {L : List (Nat × Nat × Value)} {u u' : World} {r : Option Nat} (h : Cl L u) (hg : u.grownBy u' r) (hne : ∀ x ∈ L, some x.1 ≠ r) : Cl L u' := fun b o v hm => by
  obtain ⟨h1, h2⟩ := h b o v hm
  have hb := hg.block b (lt_of_cell h1) (hne _ hm)
  exact ⟨(World.cell?_of_block (a := ⟨b, o, none⟩) hb).trans h1, (World.frozen?_of_block (a := ⟨b, o, none⟩) hb).trans h2⟩
theorem Cl.far {L : List (Nat × Nat × Value)} {u : World} {a : Addr} {x : Value} (h : Cl L u) (hne : ∀ y ∈ L, y.1 ≠ a.block) : Cl L (u.setCell a x) := fun b o v hm => by
  obtain ⟨h1, h2⟩ := h b o v hm
  have hb := Below.heap_setCell u a x b (hne _ hm)
  exact ⟨(World.cell?_of_block (a := ⟨b, o, none⟩) hb).trans h1, (World.frozen?_of_block (a := ⟨b, o, none⟩) hb).trans h2⟩
theorem Cl.drewN {L : List (Nat × Nat × Value)} {u : World} (h : Cl L u) (n : Nat) : Cl L (u.drewN n) := fun b o v hm => h b o v hm
theorem Cl.drew {L : List (Nat × Nat × Value)} {u : World} (h : Cl L u) : Cl L u.drew := fun b o v hm => h b o v hm
theorem Cl.nil (u : World) : Cl [] u := fun _ _ _ h => by cases h
theorem Cl.cons {L : List (Nat × Nat × Value)} {u : World} {b o : Nat} {v : Value} (h1 : u.cell? ⟨b, o, none⟩ = some v) (h2 : u.frozen? ⟨b, o, none⟩ = false) (h : Cl L u) : Cl ((b, o, v) :: L) u := fun b' o' v' hm => by
  rcases List.mem_cons.1 hm with e | e
  · cases e; exact ⟨h1, h2⟩
  · exact h _ _ _ e
theorem Cl.head {L : List (Nat × Nat × Value)} {u : World} {b o : Nat} {v : Value} (h : Cl ((b, o, v) :: L) u) : u.cell? ⟨b, o, none⟩ = some v := (h b o v (by simp)).1
theorem Cl.headF {L : List (Nat × Nat × Value)} {u : World} {b o : Nat} {v : Value} (h : Cl ((b, o, v) :: L) u) : u.frozen? ⟨b, o, none⟩ = false := (h b o v (by simp)).2
theorem Cl.tail {L : List (Nat × Nat × Value)} {u : World} {x : Nat × Nat × Value} (h : Cl (x :: L) u) : Cl L u := fun b o v hm => h b o v (List.mem_cons_of_mem _ hm)
theorem Cl.sub {L L' : List (Nat × Nat × Value)} {u : World} (h : Cl L u) (hs : ∀ x ∈ L', x ∈ L) : Cl L' u := fun b o v hm => h b o v (hs _ hm)
theorem Cl.append {L L' : List (Nat × Nat × Value)} {u : World} (h : Cl L u) (h' : Cl L' u) : Cl (L ++ L') u := fun b o v hm => (List.mem_append.1 hm).elim (h b o v) (h' b o v)
theorem own_ne {u : World} {base : Nat} {E : TypeId} {sz n : Nat} {v : Value} {xs : List Value} {g : Nat} (h : u.ownsRow base E sz v n xs) (hg : g < base) : v.ownBlock = none ∨ v.ownBlock ≠ some g := by
  cases hb : v.ownBlock with
  | none => exact .inl rfl
  | some q => exact .inr (fun e => by cases e; have := (h.lt _ hb).1; omega)
theorem Cl.own {L : List (Nat × Nat × Value)} {u u' : World} {base : Nat} {E : TypeId} {sz n : Nat} {v : Value} {xs : List Value} (h : Cl L u) (hO : u.ownsRow base E sz v n xs) (hg : u.grownBy u' v.ownBlock) (hL : ∀ x ∈ L, x.1 < base) : Cl L u' :=
  h.grown hg (fun x hx e => by have := (hO.lt _ e.symm).1; have := hL x hx; omega)
theorem grown_set {u : World} {a : Addr} {v : Value} : u.grownBy (u.setCell a v) (some a.block) := grown_of (Below.refl _ _)
theorem own_set {u : World} {base : Nat} {E : TypeId} {sz n : Nat} {v : Value} {xs : List Value} {a : Addr} {y : Value} (h : u.ownsRow base E sz v n xs) (ha : a.block < base) : (u.setCell a y).ownsRow base E sz v n xs := h.kept grown_set (own_ne h ha)
theorem own_slice {u : World} {base : Nat} {E : TypeId} {sz n : Nat} {v : Value} {xs : List Value} (h : u.ownsRow base E sz v n xs) : ∃ q c, v = .slice q n c := by
  rcases h.2 with ⟨rfl, hn⟩ | ⟨g, cap, cur, rfl, _⟩
  · exact ⟨none, 0, by rw [hn]⟩
  · exact ⟨_, _, rfl⟩
theorem below_grown {B : Nat} {w u u' : World} {r : Option Nat} (h : Below B w u) (hg : u.grownBy u' r) (hB : B ≤ u.heap.size) (hr : ∀ k, r = some k → B ≤ k) : Below B w u' := h.grown hg hB hr
/-- Monomials in a row of the call's own. -/
def moC (m : Mo) : List Value := [.string m.1, .int .i64 m.2]
def moCs (l : List Mo) : List Value := l.flatMap moC
theorem moCs_len (l : List Mo) : (moCs l).length = l.length * 2 := by
  induction l with
  | nil => rfl
  | cons t ts ih => unfold moCs at ih ⊢; rw [List.flatMap_cons, List.length_append, ih, List.length_cons]; show 2 + _ = _; omega
theorem moCs_snoc (l : List Mo) (m : Mo) : moCs (l ++ [m]) = moCs l ++ moC m := by unfold moCs; rw [List.flatMap_append]; simp
theorem moCs_get : ∀ (l : List Mo) (i : Nat), i < l.length → (moCs l)[i * 2]? = some (.string (l.getD i mo0).1) ∧ (moCs l)[i * 2 + 1]? = some (.int .i64 (l.getD i mo0).2)
  | [], i, h => absurd h (by simp)
  | m :: l, 0, h => ⟨rfl, rfl⟩
  | m :: l, i + 1, h => by
    obtain ⟨h1, h2⟩ := moCs_get l i (by simpa using h)
    unfold moCs at h1 h2 ⊢
    rw [List.flatMap_cons]
    have e1 : (i + 1) * 2 = (i * 2 + 1) + 1 := by omega
    have e2 : (i + 1) * 2 + 1 = (i * 2 + 1 + 1) + 1 := by omega
    refine ⟨?_, ?_⟩
    · rw [e1]; show (_ :: _ :: _)[_]? = _; rw [List.getElem?_cons_succ, List.getElem?_cons_succ]; exact h1
    · rw [e2]; show (_ :: _ :: _)[_]? = _; rw [List.getElem?_cons_succ, List.getElem?_cons_succ]; exact h2
theorem addr_add (g k : Nat) : (⟨g, 0, none⟩ : Addr).add k = ⟨g, k, none⟩ := by
  unfold Addr.add
  split <;> simp_all
theorem own_sl {w : World} {base : Nat} {v : Value} {l : List Mo} (h : w.ownsRow base 55 2 v l.length (moCs l)) : ∃ p c, v = .slice p l.length c ∧ SlM w p l := by
  obtain ⟨h1, h2⟩ := h
  rcases h2 with ⟨rfl, hn⟩ | ⟨g, cap, cur, rfl, hb, hh, hc, hm, hs, ht⟩
  · exact ⟨none, 0, by rw [hn], fun i hi => absurd hi (by omega)⟩
  · refine ⟨some ⟨g, 0, none⟩, cap, rfl, fun i hi => ⟨g, 0, rfl, ?_⟩⟩
    have hO : w.ownsRow base 55 2 (.slice (some ⟨g, 0, none⟩) l.length cap) l.length (moCs l) := ⟨h1, .inr ⟨g, cap, cur, rfl, hb, hh, hc, hm, hs, ht⟩⟩
    obtain ⟨c1, c2⟩ := moCs_get l i hi
    have d1 := hO.cells (g := g) rfl _ _ c1
    have d2 := hO.cells (g := g) rfl _ _ c2
    rw [addr_add] at d1 d2
    exact ⟨by rw [Nat.zero_add]; exact d1, by rw [Nat.zero_add]; exact d2⟩
theorem own_sl' {w : World} {base n : Nat} {v : Value} {l : List Mo} (h : w.ownsRow base 55 2 v n (moCs l)) (hn : n = l.length) : ∃ p c, v = .slice p n c ∧ SlM w p l := by
  subst hn
  exact own_sl h
theorem SlM.below {w u : World} {p : Option Addr} {xs : List Mo} (h : SlM w p xs) (hb : Below w.heap.size w u) : SlM u p xs := SlM.keep hb h
def LR (k : Int) (ys : List Mo) (er : Int) (w : World) (e : Ending) (w' : World) : Prop := ∃ p c, e = .returned (.tuple #[Lv k p ys.length c, .int .i64 er]) ∧ SlM w' p ys ∧ Below w.heap.size w w'
theorem LR.zero {er : Int} {w w' : World} {e : Ending} (h : e = .returned (.tuple #[.agg #[.int .i64 0, .slice none 0 0], .int .i64 er])) (hb : Below w.heap.size w w') : LR 0 [] er w e w' := ⟨none, 0, h, fun i hi => absurd hi (by simp), hb⟩
theorem infoMo : (Try.prog.info? 55).map (fun i => (i.zero, i.size, i.bytes)) = some (some (.agg #[.string ⟨#[]⟩, .int .i64 0]), 2, 24) := by kernel_rfl
end Go.Proofs.Ythdeaneffnlffaa.Ln
