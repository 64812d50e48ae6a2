/- Boxes: Next. -/
import Derived.Test.YtkdfidjoighknaaB11
namespace Go.Proofs.Ytkdfidjoighknaa.Bx
open Go.ChangeShapes Go.WideShapes Go.ChangeAt Go.RowKit Go.Shelf
set_option linter.unusedVariables false
set_option linter.unusedSimpArgs false
attribute [local go_sem] Oper.semAt_some

def nP (zs ps : List Int) : List Int := if inB zs ps = true then pP zs (rk zs ps zs.length + 1) else []
def nB (zs ps : List Int) : Bool := if inB zs ps = true then pB zs (rk zs ps zs.length + 1) else false
/-- after makes the iterator and two boxes. -/
theorem after1 (p q : Option Addr) (n c m d : Nat) (w : World) : Calls Try.prog 52 #[.slice p n c, .slice q m d] w fun e w' => e = .returned (.func (.func 83) #[] #[.pointer (some ⟨w.heap.size, 0, none⟩), .pointer (some ⟨w.heap.size + 1, 0, none⟩)]) ∧ w' = (w.alloc (.cells #[.slice p n c] 22)).alloc (.cells #[.slice q m d] 22) := by
  go_enter Try.func52, Try.ntmps52
  go_wp2
  go_ret
  exact ⟨rfl, rfl⟩
/-- Two result cells behind their stores. -/
theorem two_cells {U : World} {B : Nat} {x y v t : Value} (h0 : U.cell? ⟨B, 0, none⟩ = some x) (h1 : U.cell? ⟨B + 1, 0, none⟩ = some y) :
    ((U.setCell ⟨B, 0, none⟩ v).setCell ⟨B + 1, 0, none⟩ t).cell? ⟨B, 0, none⟩ = some v ∧ ((U.setCell ⟨B, 0, none⟩ v).setCell ⟨B + 1, 0, none⟩ t).cell? ⟨B + 1, 0, none⟩ = some t := by
  constructor
  · rw [World.cell?_setCell_far _ _ _ _ (by simp)]
    exact World.cell?_setCell_same' _ _ _ (by rw [h0]; rfl)
  · exact World.cell?_setCell_same' _ _ _ (by rw [World.cell?_setCell_far _ _ _ _ (by simp), h1]; rfl)
theorem below_alloc2 (w : World) (a b : Obj) : Below w.heap.size w ((w.alloc a).alloc b) := ((Below.refl _ _).alloc (Nat.le_refl _) _).alloc (by simp) _
theorem next1_no (p q : Option Addr) (zs ps : List Int) (c d : Nat) (w : World) (hn : zs.length ≤ maxLen) (hp : ps.length ≤ maxLen) (RA : Hid (SlI w p zs)) (RB : Hid (SlI w q ps)) (h : inB zs ps = false) :
    Calls Try.prog 24 #[.slice p zs.length c, .slice q ps.length d] w (PW (nP zs ps) (nB zs ps) w) := by
  rw [show nP zs ps = [] by unfold nP; rw [h]; rfl, show nB zs ps = false by unfold nB; rw [h]; rfl]
  have C := Lib.hid fun (u : World) (hu : Below w.heap.size w u) => cont1 p q zs ps c d u hn hp (Lib.hid (SlI.keep hu RA.out)) (Lib.hid (SlI.keep hu RB.out))
  rw [h] at C
  unfold maxLen at hn hp
  clear h
  go_enter Try.func24, Try.ntmps24
  go_wp2_with fail
  refine (C.out _ (((Below.refl _ _).alloc (Nat.le_refl _) _).alloc (by simp) _)).mono ?_
  rintro e w' ⟨rfl, md, rfl⟩
  have KD := Lib.hid (World.below_drewN' (below_alloc2 w (Obj.cells #[Value.slice none 0 0] 22) (Obj.cells #[Value.bool false] 4)) md)
  have z0 : (((w.alloc (Obj.cells #[Value.slice none 0 0] 22)).alloc (Obj.cells #[Value.bool false] 4)).drewN md).cell? ⟨w.heap.size, 0, none⟩ = some (.slice none 0 0) := by go_cell
  have z1 : (((w.alloc (Obj.cells #[Value.slice none 0 0] 22)).alloc (Obj.cells #[Value.bool false] 4)).drewN md).cell? ⟨w.heap.size + 1, 0, none⟩ = some (.bool false) := by go_cell
  have y0 : (((w.alloc (Obj.cells #[Value.slice none 0 0] 22)).alloc (Obj.cells #[Value.bool false] 4)).drewN md).frozen? ⟨w.heap.size, 0, none⟩ = false := by go_cell
  have y1 : (((w.alloc (Obj.cells #[Value.slice none 0 0] 22)).alloc (Obj.cells #[Value.bool false] 4)).drewN md).frozen? ⟨w.heap.size + 1, 0, none⟩ = false := by go_cell
  generalize (((w.alloc (Obj.cells #[Value.slice none 0 0] 22)).alloc (Obj.cells #[Value.bool false] 4)).drewN md) = u at *
  go_wp2
  obtain ⟨r0, r1⟩ := two_cells (v := .slice none 0 0) (t := .bool false) z0 z1
  exact bodyPost_ret (v := .tuple #[.slice none 0 0, .bool false]) (by simp [results, Try.results24, go_sem, r0, r1]) rfl ⟨_, rfl, Below.setCell (Below.setCell KD.out (Nat.le_refl _) _) (Nat.le_succ _) _, World.ownsRow_nil _ _ _ _⟩
/-- All rows of ints lie as they lay. -/
def KI (A W : World) : Prop := ∀ (g : Nat) (cs : Array Value), A.heap[g]? = some (.cells cs 3 (0, 0)) → W.heap[g]? = some (.cells cs 3 (0, 0))
theorem KI.trans {A B C : World} (h : KI A B) (k : KI B C) : KI A C := fun g cs hg => k g cs (h g cs hg)
theorem KI.putLoop {A : World} {l : Nat} {L : Loop} (o : Obj) (h : A.heap[l]? = some (.loop L)) : KI A (A.putObj l o) := fun g cs hg => by
  have : g ≠ l := fun e => by subst e; rw [h] at hg; cases hg
  exact (World.putObj_heap_other this).trans hg
theorem KI.box {A : World} {B t : Nat} {v : Value} (u : Value) (h : Boxed A B t v) (ht : t ≠ 3) : KI A (A.setCell ⟨B, 0, none⟩ u) := fun g cs hg => by
  have : g ≠ B := fun e => by
    subst e
    rw [show A.heap[g]? = _ from h] at hg
    simp at hg
    exact ht hg.2
  exact (Below.heap_setCell _ _ _ _ this).trans hg
theorem own_KI {A W : World} (h : KI A W) {b n : Nat} {v : Value} {xs : List Value} (ho : A.ownsRow b 3 1 v n xs) : W.ownsRow b 3 1 v n xs := by
  obtain ⟨hl, h1 | ⟨g, cap, cur, e, hb, hg, r⟩⟩ := ho
  · exact ⟨hl, .inl h1⟩
  · exact ⟨hl, .inr ⟨g, cap, cur, e, hb, h g cur hg, r⟩⟩
theorem boxed_put {A : World} {B l t : Nat} {v : Value} {L : Loop} (o : Obj) (h : Boxed A B t v) (hl : A.heap[l]? = some (.loop L)) : Boxed (A.putObj l o) B t v := by
  have : B ≠ l := fun e => by subst e; rw [show A.heap[B]? = _ from h] at hl; cases hl
  exact (World.putObj_heap_other this).trans h
theorem boxed_other {A : World} {B B' t : Nat} {v u : Value} (h : Boxed A B t v) (ne : B ≠ B') : Boxed (A.setCell ⟨B', 0, none⟩ u) B t v := (Below.heap_setCell _ _ _ _ ne).trans h
theorem loop_set {A : World} {l B : Nat} {L : Loop} {t : Nat} {v : Value} (u : Value) (h : A.heap[l]? = some (.loop L)) (hb : Boxed A B t v) : (A.setCell ⟨B, 0, none⟩ u).heap[l]? = some (.loop L) := by
  have : l ≠ B := fun e => by subst e; rw [show A.heap[l]? = _ from hb] at h; cases h
  exact (Below.heap_setCell _ _ _ _ this).trans h
theorem defer_set {A : World} {D B t : Nat} {v : Value} {ds : Option (List Deferred)} (u : Value) (h : A.heap[D]? = some (.deferred ds)) (hb : Boxed A B t v) : (A.setCell ⟨B, 0, none⟩ u).heap[D]? = some (.deferred ds) := by
  have : D ≠ B := fun e => by subst e; rw [show A.heap[D]? = _ from hb] at h; cases h
  exact (Below.heap_setCell _ _ _ _ this).trans h
theorem defer_put {A : World} {D l : Nat} {L : Loop} {ds : Option (List Deferred)} (o : Obj) (h : A.heap[D]? = some (.deferred ds)) (hl : A.heap[l]? = some (.loop L)) : (A.putObj l o).heap[D]? = some (.deferred ds) := by
  have : D ≠ l := fun e => by subst e; rw [h] at hl; cases hl
  exact (World.putObj_heap_other this).trans h
theorem below_put {w A : World} {l : Nat} (o : Obj) (h : Below w.heap.size w A) (hl : w.heap.size ≤ l) : Below w.heap.size w (A.putObj l o) := h.trans ⟨rfl, rfl, rfl, by simp, fun k hk => World.putObj_heap_other (by omega)⟩
/-- A round of Next has left the loop: the point lies in the result. -/
def NX (w : World) (N : Nat) (zs : List Int) (r1 : Int) (l D : Nat) (L : Loop) (a : Int) (W : World) : Prop :=
  a = r1 ∧ W.heap[l]? = some (.loop L) ∧ W.heap[D]? = some (.deferred (some [])) ∧ Below w.heap.size w W ∧ Boxed W (w.heap.size + 1) 4 (.bool true) ∧ ∃ g cq, Boxed W w.heap.size 22 (.slice (some ⟨g, 0, none⟩) N cq) ∧ W.ownsRow w.heap.size 3 1 (.slice (some ⟨g, 0, none⟩) N cq) N ((pt zs a).map (Value.int .i64))
set_option maxRecDepth 100000 in
set_option maxHeartbeats 4000000 in
theorem next1_yes (N : Nat) (p q : Option Addr) (zs ps : List Int) (c d : Nat) (w : World) (hd : N ≤ c) (hd2 : N ≤ d) (HNl : Hid (zs.length = N)) (HPl : Hid (ps.length = N)) (RA : Hid (SlI w p zs)) (RB : Hid (SlI w q ps)) (HI : Hid (inB zs ps = true)) :
    Calls Try.prog 24 #[.slice p N c, .slice q N d] w (PW (pP zs (rk zs ps N + 1)) (pB zs (rk zs ps N + 1)) w) := by
  have HU := Lib.hid (inB_full HI.out)
  have hN16 : N ≤ 16 := by have := HU.out.1; rw [HNl.out] at this; exact this
  have C := Lib.hid fun (u : World) (hu : Below w.heap.size w u) => (callsIn_wide (n := 4)).2 (cont1 p q zs ps c d u (by rw [HNl.out]; unfold maxLen; omega) (by rw [HPl.out]; unfold maxLen; omega) (Lib.hid (SlI.keep hu RA.out)) (Lib.hid (SlI.keep hu RB.out)))
  rw [HI.out, HNl.out, HPl.out] at C
  have AF := Lib.hid fun (u : World) => (callsIn_wide (n := 4)).2 (after1 p q N c N d u)
  refine (callsIn_wide (n := 5)).1 ?_
  refine callsIn_of_wp_marks Try.func24 rfl trivial ?_ rfl
  simp only [Try.ntmps24, List.size_toArray, List.length_cons, List.length_nil, Nat.reduceAdd, Nat.reduceSub, Array.replicate_succ, Array.replicate_zero, List.push_toArray, List.append_toArray, List.nil_append, List.cons_append]
  gi_wp2
  have BA := Lib.hid (below_alloc2 w (Obj.cells #[Value.slice none 0 0] 22) (Obj.cells #[Value.bool false] 4))
  have x0 : Boxed ((w.alloc (Obj.cells #[Value.slice none 0 0] 22)).alloc (Obj.cells #[Value.bool false] 4)) w.heap.size 22 (.slice none 0 0) := (Boxed.new w 22 (.slice none 0 0)).alloc _
  have x1 : Boxed ((w.alloc (Obj.cells #[Value.slice none 0 0] 22)).alloc (Obj.cells #[Value.bool false] 4)) (w.heap.size + 1) 4 (.bool false) := by have h := Boxed.new (w.alloc (Obj.cells #[Value.slice none 0 0] 22)) 4 (.bool false); rw [World.size_alloc] at h; exact h
  have X0 := Lib.hid x0
  have X1 := Lib.hid x1
  have HS : Hid (w.heap.size + 2 ≤ ((w.alloc (Obj.cells #[Value.slice none 0 0] 22)).alloc (Obj.cells #[Value.bool false] 4)).heap.size) := Lib.hid (by simp)
  clear x0 x1
  generalize ((w.alloc (Obj.cells #[Value.slice none 0 0] 22)).alloc (Obj.cells #[Value.bool false] 4)) = wa at *
  refine ⟨trivial, (C.out _ BA.out).mono ?_⟩
  rintro e w' ⟨rfl, md, rfl⟩
  have BB := Lib.hid (World.below_drewN' BA.out md)
  have Y0 : Hid (Boxed (wa.drewN md) w.heap.size 22 (.slice none 0 0)) := X0
  have Y1 : Hid (Boxed (wa.drewN md) (w.heap.size + 1) 4 (.bool false)) := X1
  have HT : Hid (w.heap.size + 2 ≤ (wa.drewN md).heap.size) := HS
  generalize wa.drewN md = wb at *
  clear C X0 X1 HS BA
  gi_wp2
  refine ⟨trivial, (AF.out wb).mono ?_⟩
  rintro e w' ⟨rfl, rfl⟩
  gi_wp2
  have E0 := Lib.hid ((Boxed.new wb 22 (.slice p N c)).alloc (.cells #[.slice q N d] 22))
  have E1 : Hid (Boxed ((wb.alloc (Obj.cells #[Value.slice p N c] 22)).alloc (Obj.cells #[Value.slice q N d] 22)) (wb.heap.size + 1) 22 (.slice q N d)) := Lib.hid (by have h := Boxed.new (wb.alloc (.cells #[.slice p N c] 22)) 22 (.slice q N d); rw [World.size_alloc] at h; exact h)
  have Z0 := Lib.hid ((Y0.out.alloc (.cells #[.slice p N c] 22)).alloc (.cells #[.slice q N d] 22))
  have Z1 := Lib.hid ((Y1.out.alloc (.cells #[.slice p N c] 22)).alloc (.cells #[.slice q N d] 22))
  have BC := Lib.hid ((BB.out.alloc BB.out.size (.cells #[.slice p N c] 22)).alloc (by have := BB.out.size; simp; omega) (.cells #[.slice q N d] 22))
  have HV : Hid (w.heap.size + 2 ≤ ((wb.alloc (Obj.cells #[Value.slice p N c] 22)).alloc (Obj.cells #[Value.slice q N d] 22)).heap.size) := Lib.hid (by have := HT.out; simp; omega)
  clear Y0 Y1 BB AF
  generalize ((wb.alloc (Obj.cells #[Value.slice p N c] 22)).alloc (Obj.cells #[Value.slice q N d] 22)) = wc at *
  obtain ⟨r1, hr1⟩ : ∃ r1, rk zs ps N + 1 = r1 := ⟨_, rfl⟩
  refine Rf.rf_stmt rfl (by omega) (gf := 83) (lb := #[.pointer (some ⟨wb.heap.size, 0, none⟩), .pointer (some ⟨wb.heap.size + 1, 0, none⟩)]) rfl trivial (enters_of Try.func83 (by kernel_rfl) rfl) (fun fn hfn => ?_)
  generalize hL : (Loop.mk _ _ _ _ _ _ _ _) = L
  obtain ⟨LL, hLL⟩ : ∃ LL : LoopState → Option Code → Loop, LL = fun st pe => { L with state := st, pending := pe } := ⟨_, rfl⟩
  have HL0 : LL .ready none = L := by rw [hLL, ← hL]
  rw [show (#[Value.func (Fn.yield (wc.heap.size + 1)) #[] #[]] ++ #[Value.pointer (some { block := wb.heap.size, off := 0 }), Value.pointer (some { block := wb.heap.size + 1, off := 0 })] : Array Value) = #[Value.func (Fn.yield (wc.heap.size + 1)) #[] #[], Value.pointer (some { block := wb.heap.size, off := 0 }), Value.pointer (some { block := wb.heap.size + 1, off := 0 })] from rfl]
  have hl0 : ((wc.alloc (Obj.deferred (some []))).alloc (Obj.loop L)).heap[wc.heap.size + 1]? = some (.loop (LL .ready none)) := by
    rw [HL0]
    have := World.alloc_heap_new (wc.alloc (.deferred (some []))) (.loop L); rwa [World.size_alloc] at this
  have hd0 : ((wc.alloc (Obj.deferred (some []))).alloc (Obj.loop L)).heap[wc.heap.size]? = some (.deferred (some [])) := (Below.heap_alloc _ _ _ (by simp)).trans (World.alloc_heap_new wc _)
  have hB9 : Below w.heap.size w ((wc.alloc (Obj.deferred (some []))).alloc (Obj.loop L)) := (BC.out.alloc BC.out.size _).alloc (by have := BC.out.size; simp; omega) _
  have V := HV.out
  refine (aft_in 4 (by omega) (wc.heap.size + 1) wb.heap.size (wb.heap.size + 1) N p q zs ps c d w _ HNl hd hd2 HI RA RB
    (fun a W => a = r1 ∧ W.heap[wc.heap.size + 1]? = some (.loop (LL .ready none)) ∧ W.heap[wc.heap.size]? = some (.deferred (some [])) ∧ Boxed W w.heap.size 22 (.slice none 0 0) ∧ Boxed W (w.heap.size + 1) 4 (.bool false) ∧ Below w.heap.size w W)
    (NX w N zs r1 (wc.heap.size + 1) wc.heap.size (LL .done (some .ret)))
    (Lib.hid ?hJ) (Lib.hid ?hY) hB9 ((E0.out.alloc _).alloc _) ((E1.out.alloc _).alloc _) (Lib.hid ⟨hr1, hl0, hd0, (Z0.out.alloc _).alloc _, (Z1.out.alloc _).alloc _, hB9⟩)).mono ?_
  case hJ =>
    rintro a A B ⟨h1, h2, h3, h4, h5, h6⟩ hb
    exact ⟨h1, (hb.block _ (Array.getElem?_eq_some_iff.1 h2).1).trans h2, (hb.block _ (Array.getElem?_eq_some_iff.1 h3).1).trans h3, boxed_beyond hb h4, boxed_beyond hb h5, h6.trans (hb.mono h6.size)⟩
  case hY =>
    rintro a A g cq a0 a1 ⟨rfl, h2, h3, h4, h5, h6⟩ hBA hx0 hx1 hO
    have h2' : A.heap[wc.heap.size + 1]? = some (.loop { L with state := .ready, pending := none }) := by rw [h2, hLL]
    have eA := congrArg Loop.assign hL
    have eB := congrArg Loop.body hL
    have eT := congrArg Loop.tmps hL
    have eP := congrArg Loop.params hL
    dsimp only at eA eB eT eP
    have hbz : (A.putObj (wc.heap.size + 1) (.loop { L with state := .busy, pending := none })).heap[wc.heap.size + 1]? = some (.loop { L with state := .busy, pending := none }) := World.putObj_heap_same (Array.getElem?_eq_some_iff.1 h2).1
    have u4 := boxed_put (.loop { L with state := .busy, pending := none }) h4 h2
    have u5 := boxed_put (.loop { L with state := .busy, pending := none }) h5 h2
    have u3 := defer_put (.loop { L with state := .busy, pending := none }) h3 h2
    have u6 := below_put (.loop { L with state := .busy, pending := none }) (l := wc.heap.size + 1) h6 (by omega)
    have uO := own_KI (KI.putLoop (.loop { L with state := .busy, pending := none }) h2) hO
    have HDONE : Hid (LL .done (some .ret) = { L with state := .done, pending := some .ret }) := Lib.hid (by rw [hLL])
    have HFN : Hid (Fence.wide.fn L.fn) := Lib.hid (by rw [← hL]; exact hfn)
    have EH := Lib.hid (And.intro eA (And.intro eB (And.intro eT eP)))
    clear hL eA eB eT eP hLL HL0 hl0 hd0 hB9
    refine Rf.rf_yield2 L { tmps := #[.slice p N c, .slice q N d, undef, undef, .pointer (some ⟨w.heap.size, 0, none⟩), .pointer (some ⟨w.heap.size + 1, 0, none⟩), .slice (some ⟨g, 0, none⟩) N cq, .slice p N c, .slice q N d, .bool true, .bool false, .slice p N c, .slice q N d, .func (.func 83) #[] #[.pointer (some ⟨wb.heap.size, 0, none⟩), .pointer (some ⟨wb.heap.size + 1, 0, none⟩)], .slice (some ⟨g, 0, none⟩) N cq, undef], defers := [] } HFN.out h2' (by rw [← EH.out.2.2.2]; rfl) ?hA ?hB
    case hA =>
      rw [← EH.out.1, ← EH.out.2.2.1, ← EH.out.2.2.2]
      clear hbz u3 u4 u5 u6 uO
      gi_wp2
      exact ⟨trivial, trivial⟩
    clear h2'
    generalize (A.putObj (wc.heap.size + 1) (.loop { L with state := .busy, pending := none })) = U at *
    rw [← EH.out.2.1]
    have c4 := u4.cell
    have f4 := u4.frozen
    have c5 := u5.cell
    have f5 := u5.frozen
    have v5 := boxed_other (u := .slice (some ⟨g, 0, none⟩) N cq) u5 (by omega : w.heap.size + 1 ≠ w.heap.size)
    have k5 := v5.cell
    have v4 := u4.set (.slice (some ⟨g, 0, none⟩) N cq)
    have x4 := boxed_other (u := .bool true) v4 (by omega : w.heap.size ≠ w.heap.size + 1)
    have x5 := v5.set (.bool true)
    have xl := loop_set (.bool true) (loop_set (.slice (some ⟨g, 0, none⟩) N cq) hbz u4) v5
    have xd := defer_set (.bool true) (defer_set (.slice (some ⟨g, 0, none⟩) N cq) u3 u4) v5
    have xB := Below.setCell (Below.setCell u6 (p := ⟨w.heap.size, 0, none⟩) (Nat.le_refl _) (.slice (some ⟨g, 0, none⟩) N cq)) (p := ⟨w.heap.size + 1, 0, none⟩) (Nat.le_succ _) (.bool true)
    have xO := own_KI ((KI.box (.slice (some ⟨g, 0, none⟩) N cq) u4 (by decide)).trans (KI.box (.bool true) v5 (by decide))) uO
    have G := Lib.hid (And.intro xl (And.intro xd (And.intro xB (And.intro x4 (And.intro x5 xO)))))
    clear xl xd xB x4 x5 xO v4 v5 u3 u4 u5 u6 uO hO hx0 hx1 hbz h2 h3 h4 h5 h6
    gi_wp2
    obtain ⟨xl, xd, xB, x4, x5, xO⟩ := G.out
    refine ⟨xl, .inr ⟨rfl, rfl, ?_, defer_put _ xd xl, below_put _ xB (by omega), boxed_put _ x5 xl, g, cq, boxed_put _ x4 xl, own_KI (KI.putLoop _ xl) xO⟩⟩
    rw [HDONE.out]
    exact World.putObj_heap_same (Array.getElem?_eq_some_iff.1 xl).1
  · rintro e W ⟨hv, (⟨h1, h2, h3, h4, h5, h6⟩ | ⟨a, a0, a1, h1, h2, h3, h6, h5, g, cq, h4, hO⟩)⟩
    · refine ⟨hv, .ready, none, by rw [h2, hLL], by decide, ?_⟩
      have HE : Hid (pB zs r1 = false) := Lib.hid (by
        cases hb : pB zs r1 with
        | false => rfl
        | true => have h := (pB_yes hb).2; rw [HU.out.2.2.1, ← h1] at h; omega)
      have HP : Hid (pP zs r1 = []) := Lib.hid (if_neg (by rw [HE.out]; decide))
      show Exit.inBlock _ _ _ _ _
      have u4 := boxed_put (.loop { L with state := .exhausted, pending := none }) h4 h2
      have u5 := boxed_put (.loop { L with state := .exhausted, pending := none }) h5 h2
      have u3 := defer_put (.loop { L with state := .exhausted, pending := none }) h3 h2
      have u6 := below_put (.loop { L with state := .exhausted, pending := none }) (l := wc.heap.size + 1) h6 (by omega)
      clear hL hLL HL0 hl0 hd0 hB9 h2 h3 h4 h5 h6
      generalize (W.putObj (wc.heap.size + 1) (.loop { L with state := .exhausted, pending := none })) = U at *
      have c4 := u4.cell
      have f4 := u4.frozen
      have c5 := u5.cell
      have f5 := u5.frozen
      have v5 := boxed_other (u := .slice none 0 0) u5 (by omega : w.heap.size + 1 ≠ w.heap.size)
      have k5 := v5.cell
      have v4 := u4.set (.slice none 0 0)
      have x4 := boxed_other (u := .bool false) v4 (by omega : w.heap.size ≠ w.heap.size + 1)
      have x5 := v5.set (.bool false)
      have xd := defer_set (.bool false) (defer_set (.slice none 0 0) u3 u4) v5
      have xB := Below.setCell (Below.setCell u6 (p := ⟨w.heap.size, 0, none⟩) (Nat.le_refl _) (.slice none 0 0)) (p := ⟨w.heap.size + 1, 0, none⟩) (Nat.le_succ _) (.bool false)
      have G := Lib.hid (And.intro xd (And.intro xB (And.intro x4 x5)))
      clear xd xB x4 x5 v4 v5 u3 u4 u5 u6
      gi_wp2
      obtain ⟨xd, xB, x4, x5⟩ := G.out
      refine ⟨by simp, .inl ⟨_, _, rfl, run_takeDeferred xd, ?_⟩⟩
      have k4 := cell_kept x4.cell (grownBy_putObj' _ wc.heap.size (.deferred none)) (fun r e => by cases e; exact ⟨_, xd, rfl⟩)
      have k5 := cell_kept x5.cell (grownBy_putObj' _ wc.heap.size (.deferred none)) (fun r e => by cases e; exact ⟨_, xd, rfl⟩)
      refine ⟨.tuple #[.slice none 0 0, .bool false], ?_, ?_⟩
      · simp [results, Try.f24, go_sem, k4, k5]
      · rw [hr1, HE.out, HP.out]
        exact ⟨_, rfl, below_put _ xB (by omega), World.ownsRow_nil _ _ _ _⟩
    · refine ⟨hv, .done, some .ret, by rw [h2, hLL], by decide, ?_⟩
      show Code.wpIn _ _ _ _ _ _ _
      have HE : Hid (pB zs r1 = true) := Lib.hid (pB_of (by rw [← h1]; omega) (by rw [HU.out.2.2.1, ← h1]; exact a1))
      have HP : Hid (pP zs r1 = pt zs r1) := Lib.hid (if_pos HE.out)
      rw [h1] at hO
      have HPT : Hid ((pt zs r1).length = N) := Lib.hid ((pt_length _ _).trans HNl.out)
      have u4 := boxed_put (.loop { L with state := .exhausted, pending := some .ret }) h4 h2
      have u5 := boxed_put (.loop { L with state := .exhausted, pending := some .ret }) h5 h2
      have u3 := defer_put (.loop { L with state := .exhausted, pending := some .ret }) h3 h2
      have u6 := below_put (.loop { L with state := .exhausted, pending := some .ret }) (l := wc.heap.size + 1) h6 (by omega)
      have uO := own_KI (KI.putLoop (.loop { L with state := .exhausted, pending := some .ret }) h2) hO
      clear hL hLL HL0 hl0 hd0 hB9 h2 h3 h4 h5 h6 hO
      generalize (W.putObj (wc.heap.size + 1) (.loop { L with state := .exhausted, pending := some .ret })) = U at *
      have G := Lib.hid (And.intro u3 (And.intro u6 (And.intro u4 (And.intro u5 uO))))
      clear u3 u4 u5 u6 uO
      gi_wp2
      obtain ⟨xd, xB, x4, x5, xO⟩ := G.out
      refine ⟨by simp, .inl ⟨_, _, rfl, run_takeDeferred xd, ?_⟩⟩
      have k4 := cell_kept x4.cell (grownBy_putObj' _ wc.heap.size (.deferred none)) (fun r e => by cases e; exact ⟨_, xd, rfl⟩)
      have k5 := cell_kept x5.cell (grownBy_putObj' _ wc.heap.size (.deferred none)) (fun r e => by cases e; exact ⟨_, xd, rfl⟩)
      refine ⟨.tuple #[.slice (some ⟨g, 0, none⟩) N cq, .bool true], ?_, ?_⟩
      · simp [results, Try.f24, go_sem, k4, k5]
      · rw [hr1, HE.out, HP.out]
        refine ⟨_, rfl, below_put _ xB (by omega), ?_⟩
        rw [HPT.out]
        exact own_KI (fun gg cs hg => by
          have : gg ≠ wc.heap.size := fun e => by subst e; rw [xd] at hg; cases hg
          exact (World.putObj_heap_other this).trans hg) xO
theorem next1 (p q : Option Addr) (zs ps : List Int) (c d : Nat) (w : World) (hn : zs.length ≤ maxLen) (hp : ps.length ≤ maxLen) (hd : zs.length ≤ c) (hd2 : ps.length ≤ d) (RA : Hid (SlI w p zs)) (RB : Hid (SlI w q ps)) :
    Calls Try.prog 24 #[.slice p zs.length c, .slice q ps.length d] w (PW (nP zs ps) (nB zs ps) w) := by
  by_cases h : inB zs ps = true
  · have hl := (inB_yes h).2.1
    rw [show nP zs ps = pP zs (rk zs ps zs.length + 1) from if_pos h, show nB zs ps = pB zs (rk zs ps zs.length + 1) from if_pos h, hl]
    exact next1_yes zs.length p q zs ps c d w hd (by omega) (Lib.hid rfl) (Lib.hid hl) RA RB (Lib.hid h)
  · exact next1_no p q zs ps c d w hn hp RA RB (by simpa using h)
end Go.Proofs.Ytkdfidjoighknaa.Bx
