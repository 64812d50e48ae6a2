/- Boxes: the points that an iterator gives, collected. -/
import Derived.Test.YtkdfidjoighknaaB30
import Derived.Test.YtkdfidjoighknaaB20
import Derived.Maps.OwnIn
namespace Go.Proofs.Ytkdfidjoighknaa.Bx
open Go.ChangeShapes Go.WideShapes Go.ChangeAt Go.RowKit
set_option linter.unusedVariables false
set_option linter.unusedSimpArgs false
open Go.Shelf
attribute [local go_sem] Oper.semAt_some
/-- What collect answers: the first points, each in a row of its own. -/
def CW (zs : List Int) (k : Nat) (w : World) (e : Ending) (w' : World) : Prop := ∃ v vs, e = .returned v ∧ vs.length = k ∧ Below w.heap.size w w' ∧ w'.ownsRow w.heap.size 22 1 v vs.length vs ∧ Pts w.heap.size zs w' vs
def kC (lim C : Int) : Nat := if lim ≤ 0 then 0 else min lim.toNat C.toNat
theorem own_setBox {A : World} {B t base e size : Nat} {v y : Value} {n : Nat} {xs : List Value} (u : Value) (ho : A.ownsRow base e size v n xs) (hb : Boxed A B t y) (hn : t ≠ e) : (A.setCell ⟨B, 0, none⟩ u).ownsRow base e size v n xs := by
  obtain ⟨hl, h1 | ⟨g', cap, cur, e', hbb, hh, r⟩⟩ := ho
  · exact ⟨hl, .inl h1⟩
  · refine ⟨hl, .inr ⟨g', cap, cur, e', hbb, (Below.heap_setCell _ _ _ _ (fun e9 => ?_)).trans hh, r⟩⟩
    subst e9
    rw [show A.heap[g']? = _ from hb] at hh
    cases hh
    exact hn rfl
/-- A growth of a row of slices leaves the rest. -/
theorem grown_at {A W : World} {base : Nat} {v : Value} {n : Nat} {xs : List Value} (h : A.ownsRow base 22 1 v n xs) (hg : A.grownBy W v.ownBlock) {g : Nat} {x : Obj} (hx : A.heap[g]? = some x) (hn : ∀ cs, x ≠ .cells cs 22 (0, 0)) : W.heap[g]? = some x := by
  refine (hg.block g (some_lt hx) (fun e => ?_)).trans hx
  obtain ⟨cs, hc⟩ := own_blk h e.symm
  rw [hx] at hc
  cases hc
  exact hn _ rfl
theorem CSt.setl {w0 : World} {zs : List Int} {lim : Int} {l D bo bl : Nat} {L : Loop} {a : Nat} {X : List Nat} {A : World} (L9 : Loop) (h : CSt w0 zs lim l D bo bl L a X A) (hw : w0.heap.size ≤ l) : CSt w0 zs lim l D bo bl L9 a X (A.putObj l (.loop L9)) := by
  obtain ⟨h1, h2, h3, h4, v, vs, h5, h6, h7, h8, h9⟩ := h
  have NC : ∀ (cs : Array Value) (t : Nat) (f : Nat × Nat), Obj.loop L ≠ .cells cs t f := fun _ _ _ h => by cases h
  exact ⟨World.putObj_heap_same (some_lt h1), defer_put _ h2 h1, below_put _ h3 hw, boxed_put2 _ h4 h1 NC, v, vs, boxed_put2 _ h5 h1 NC, h6, own_put _ h7 h1 NC, h8.KI (KI.put _ h1 NC), h9⟩
theorem coll_no (p : Option Addr) (zs : List Int) (c : Nat) (lim : Int) (w : World) (hN : zs.length ≤ maxLen) (hby : zs.length * 8 ≤ 140737488355328) (RA : Hid (SlI w p zs)) (hl : lim ≤ 0) :
    Calls Try.prog 27 #[.slice p zs.length c, .int .i64 lim] w (CW zs 0 w) := by
  have BA := ((Below.refl w.heap.size w).alloc (Nat.le_refl _) (Obj.cells #[Value.int .i64 lim] 3)).alloc (by simp) (Obj.cells #[Value.slice none 0 0] 35)
  have AL := Lib.hid (all1 p zs c ((w.alloc (Obj.cells #[Value.int .i64 lim] 3)).alloc (Obj.cells #[Value.slice none 0 0] 35)) hN hby (Lib.hid (SlI.keep BA RA.out)))
  have EN : ∀ (u : World) (a : Nat), (binOp .eql 74 (.func (.func 81) #[] #[.pointer (some ⟨a, 0, none⟩)]) .nilFunc).run Try.prog u = .ok (.bool false) u := fun u a => by kernel_rfl
  have XL := (Boxed.new w 3 (.int .i64 lim)).alloc (.cells #[.slice none 0 0] 35)
  have XO : Boxed ((w.alloc (Obj.cells #[Value.int .i64 lim] 3)).alloc (Obj.cells #[Value.slice none 0 0] 35)) (w.heap.size + 1) 35 (.slice none 0 0) := by have h := Boxed.new (w.alloc (.cells #[.int .i64 lim] 3)) 35 (.slice none 0 0); rw [World.size_alloc] at h; exact h
  have k1 : decide (lim ≤ 0) = true := decide_eq_true hl
  have HXL := Lib.hid XL
  have HBA := Lib.hid BA
  clear XL BA XO
  go_enter Try.func27, Try.ntmps27
  go_wp2_with fail
  generalize ((w.alloc (Obj.cells #[Value.int .i64 lim] 3)).alloc (Obj.cells #[Value.slice none 0 0] 35)) = wa at *
  refine AL.out.mono ?_
  rintro e w1 ⟨rfl, hb, _⟩
  have cl := (boxed_beyond hb HXL.out).cell
  have HB1 := Lib.hid (HBA.out.trans (hb.mono HBA.out.size))
  clear hb
  go_wp2
  go_ret
  exact ⟨_, [], rfl, rfl, HB1.out, World.ownsRow_nil _ _ _ _, fun i v hv => by cases hv⟩
set_option maxRecDepth 100000 in
set_option maxHeartbeats 8000000 in
theorem coll_yes (p : Option Addr) (zs : List Int) (c : Nat) (lim : Int) (w : World) (hN : zs.length ≤ maxLen) (hby : zs.length * 8 ≤ 140737488355328) (RA : Hid (SlI w p zs)) (hl : ¬ lim ≤ 0) :
    Calls Try.prog 27 #[.slice p zs.length c, .int .i64 lim] w (CW zs (min lim.toNat (cnt zs).toNat) w) := by
  have BA := ((Below.refl w.heap.size w).alloc (Nat.le_refl _) (Obj.cells #[Value.int .i64 lim] 3)).alloc (by simp) (Obj.cells #[Value.slice none 0 0] 35)
  have AL := Lib.hid ((callsIn_wide (n := 13)).2 (all1 p zs c ((w.alloc (Obj.cells #[Value.int .i64 lim] 3)).alloc (Obj.cells #[Value.slice none 0 0] 35)) hN hby (Lib.hid (SlI.keep BA RA.out))))
  have EN : ∀ (u : World) (a : Nat), (binOp .eql 74 (.func (.func 81) #[] #[.pointer (some ⟨a, 0, none⟩)]) .nilFunc).run Try.prog u = .ok (.bool false) u := fun u a => by kernel_rfl
  have XL := (Boxed.new w 3 (.int .i64 lim)).alloc (.cells #[.slice none 0 0] 35)
  have XO : Boxed ((w.alloc (Obj.cells #[Value.int .i64 lim] 3)).alloc (Obj.cells #[Value.slice none 0 0] 35)) (w.heap.size + 1) 35 (.slice none 0 0) := by have h := Boxed.new (w.alloc (.cells #[.int .i64 lim] 3)) 35 (.slice none 0 0); rw [World.size_alloc] at h; exact h
  have k1 : decide (lim ≤ 0) = false := decide_eq_false hl
  have HXL := Lib.hid XL
  have HXO := Lib.hid XO
  have HBA := Lib.hid BA
  have HSA : Hid (((w.alloc (Obj.cells #[Value.int .i64 lim] 3)).alloc (Obj.cells #[Value.slice none 0 0] 35)).heap.size = w.heap.size + 2) := Lib.hid (by simp)
  clear XL BA XO
  refine (callsIn_wide (n := 14)).1 ?_
  refine callsIn_of_wp_marks Try.func27 rfl trivial ?_ rfl
  simp only [Try.ntmps27, List.size_toArray, List.length_cons, List.length_nil, Nat.reduceAdd, Nat.reduceSub, Array.replicate_succ, Array.replicate_zero, List.push_toArray, List.append_toArray, List.nil_append, List.cons_append]
  gi_wp2
  generalize ((w.alloc (Obj.cells #[Value.int .i64 lim] 3)).alloc (Obj.cells #[Value.slice none 0 0] 35)) = wa at *
  refine ⟨trivial, AL.out.mono ?_⟩
  rintro e w1 ⟨rfl, hb, v9, hx9, ho9⟩
  obtain ⟨q9, c9, rfl⟩ := own_slice ho9
  have hc9 : zs.length ≤ c9 := by
    obtain ⟨_, _, e9, h9, _⟩ := own_SlI ho9
    cases e9
    exact h9
  have cl := (boxed_beyond hb HXL.out).cell
  have HL1 := Lib.hid (boxed_beyond hb HXL.out)
  have HO1 := Lib.hid (boxed_beyond hb HXO.out)
  have HB1 := Lib.hid (HBA.out.trans (hb.mono HBA.out.size))
  have HX1 := Lib.hid hx9
  have HR1 := Lib.hid (ho9.mono HBA.out.size)
  have HS1 : Hid (w.heap.size + 2 ≤ wa.heap.size ∧ wa.heap.size < w1.heap.size) := Lib.hid ⟨by rw [HSA.out]; omega, hx9.lt⟩
  clear hb hx9 ho9 HXL HXO HBA AL HSA
  obtain ⟨bx, hbx⟩ : ∃ b, wa.heap.size = b := ⟨_, rfl⟩
  rw [hbx] at HX1 HS1 ⊢
  clear hbx
  gi_wp2
  obtain ⟨l, hl9⟩ : ∃ x, w1.heap.size + 1 = x := ⟨_, rfl⟩
  obtain ⟨D, hD9⟩ : ∃ x, w1.heap.size = x := ⟨_, rfl⟩
  have HLD : Hid (l = D + 1 ∧ w.heap.size + 2 < D) := Lib.hid (by have := HS1.out; omega)
  refine Rf.rf_stmt rfl (by omega) (gf := 81) (lb := #[.pointer (some ⟨bx, 0, none⟩)]) rfl trivial (enters_of Try.func81 (by kernel_rfl) rfl) (fun fn hfn => ?_)
  generalize hL : (Loop.mk _ _ _ _ _ _ _ _) = L2
  obtain ⟨LL, hLL⟩ : ∃ LL : LoopState → Option Code → Loop, LL = fun st pe => { L2 with state := st, pending := pe } := ⟨_, rfl⟩
  have HL0 : LL .ready none = L2 := by rw [hLL, ← hL]
  rw [hl9, show (#[Value.func (Fn.yield l) #[] #[]] ++ #[Value.pointer (some { block := bx, off := 0 })] : Array Value) = #[Value.func (Fn.yield l) #[] #[], Value.pointer (some { block := bx, off := 0 })] from rfl]
  have BB := ((Below.refl w1.heap.size w1).alloc (Nat.le_refl _) (Obj.deferred (some []))).alloc (by simp) (Obj.loop L2)
  have hl0 : ((w1.alloc (Obj.deferred (some []))).alloc (Obj.loop L2)).heap[l]? = some (.loop (LL .ready none)) := by
    rw [HL0, ← hl9]
    have := World.alloc_heap_new (w1.alloc (.deferred (some []))) (.loop L2); rwa [World.size_alloc] at this
  have hd0 : ((w1.alloc (Obj.deferred (some []))).alloc (Obj.loop L2)).heap[D]? = some (.deferred (some [])) := by
    rw [← hD9]
    exact (Below.heap_alloc _ _ _ (by simp)).trans (World.alloc_heap_new w1 _)
  have HCS : Hid (CSt w zs lim l D (w.heap.size + 1) w.heap.size (LL .ready none) 0 [bx] ((w1.alloc (Obj.deferred (some []))).alloc (Obj.loop L2))) := Lib.hid
    ⟨hl0, hd0, HB1.out.trans (BB.mono HB1.out.size), boxed_beyond BB HL1.out, .slice none 0 0, [], boxed_beyond BB HO1.out, rfl, World.ownsRow_nil _ _ _ _, (fun i v hv => by cases hv), (fun g hg => by cases hg)⟩
  have HD2 := Lib.hid hD9
  clear hl9 hD9
  have hw : w.heap.size ≤ l := by have := HLD.out; omega
  have NC : ∀ (M : Loop) (cs : Array Value) (t : Nat) (f : Nat × Nat), Obj.loop M ≠ .cells cs t f := fun _ _ _ _ h => by cases h
  have ND : ∀ (M : Option (List Deferred)) (cs : Array Value) (t : Nat) (f : Nat × Nat), Obj.deferred M ≠ .cells cs t f := fun _ _ _ _ h => by cases h
  refine (all_in 13 (by omega) w _ zs zs.length lim l D (w.heap.size + 1) w.heap.size bx (LL .ready none) (LL .done (some (.exit 0))) q9 c9 (Lib.hid rfl) hc9 hN hby (by omega) (Lib.hid ?_) (Lib.hid (own_beyond' BB HR1.out)) (Lib.hid (boxed_beyond BB HX1.out)) HCS).mono ?_
  · intro m a X A q cq hm ha hal hC hX hO
    have h2' : A.heap[l]? = some (.loop { L2 with state := .ready, pending := none }) := by rw [hC.1, hLL]
    have eA := congrArg Loop.assign hL
    have eB := congrArg Loop.body hL
    have eT := congrArg Loop.tmps hL
    have eP := congrArg Loop.params hL
    dsimp only at eA eB eT eP
    have h65 := (cnt_pos (by omega) ha).2.2.2
    have ha6 : a < 65536 := by omega
    have uC := CSt.setl { L2 with state := .busy, pending := none } hC hw
    have uO := own_put (.loop { L2 with state := .busy, pending := none }) hO h2' (NC _)
    have HDONE : Hid (LL .done (some (.exit 0)) = { L2 with state := .done, pending := some (.exit 0) }) := Lib.hid (by rw [hLL])
    have HRDY : Hid (LL .ready none = { L2 with state := .ready, pending := none }) := Lib.hid (by rw [hLL])
    have HFN : Hid (Fence.wide.fn L2.fn) := Lib.hid (by rw [← hL]; exact hfn)
    have EH := Lib.hid (And.intro eA (And.intro eB (And.intro eT eP)))
    have HAU : Hid (∀ g x, A.heap[g]? = some x → g ≠ l → (A.putObj l (.loop { L2 with state := .busy, pending := none })).heap[g]? = some x) := Lib.hid fun g x hg hne => (World.putObj_heap_other hne).trans hg
    have HAS : Hid ((A.putObj l (.loop { L2 with state := .busy, pending := none })).heap.size = A.heap.size) := Lib.hid (by simp)
    have HXX := Lib.hid hX
    have G := Lib.hid (And.intro uC uO)
    clear hL eA eB eT eP hLL HL0 hl0 hd0 BB HCS hC hO uC uO hX h65
    refine Rf.rf_yield2 L2 { tmps := #[.slice p zs.length c, .int .i64 lim, undef, .pointer (some ⟨w.heap.size, 0, none⟩), .slice none 0 0, .pointer (some ⟨w.heap.size + 1, 0, none⟩), .func (.func 81) #[] #[.pointer (some ⟨bx, 0, none⟩)], .slice q zs.length cq, .slice p zs.length c, .func (.func 81) #[] #[.pointer (some ⟨bx, 0, none⟩)], .func (.func 81) #[] #[.pointer (some ⟨bx, 0, none⟩)], .bool false, .bool false, .int .i64 lim, .bool false, .bool false, .func (.func 81) #[] #[.pointer (some ⟨bx, 0, none⟩)], .slice q zs.length cq, undef, undef, undef, undef, undef, undef, undef, undef, undef], defers := [] } HFN.out h2' (by rw [← EH.out.2.2.2]; rfl) ?_ ?_
    · rw [← EH.out.1, ← EH.out.2.2.1, ← EH.out.2.2.2]
      gi_wp2
      all_goals exact ⟨trivial, trivial⟩
    clear h2'
    generalize (A.putObj l (.loop { L2 with state := .busy, pending := none })) = U at *
    rw [← EH.out.2.1]
    obtain ⟨⟨c1, c2, c3, c4, v, vs, c5, c6, c7, c8, c9⟩, uO⟩ := G.out
    obtain ⟨qv, cv, rfl⟩ := own_slice c7
    have co := c5.cell
    have fo := c5.frozen
    have BA := (Below.refl U.heap.size U).alloc (Nat.le_refl _) (Obj.cells #[Value.slice q zs.length cq] 22)
    have OA := c7.alloc (Obj.cells #[Value.slice q zs.length cq] 22)
    have UA0 := Lib.hid c3.size
    have GA := Lib.hid (And.intro (ext_at c1 BA) (And.intro (ext_at c2 BA) (And.intro (c3.trans (BA.mono c3.size)) (And.intro (boxed_beyond BA c4) (And.intro (boxed_beyond BA c5) (And.intro (c8.KI (KI.below BA)) (And.intro (own_beyond' BA uO) BA)))))))
    have HOA := Lib.hid OA
    have HC9 := Lib.hid c9
    obtain ⟨a1, ha1⟩ : ∃ x, a + 1 = x := ⟨_, rfl⟩
    have HA1 := Lib.hid ha1
    obtain ⟨i0, hi, hz0, hz1, hz2⟩ := info_parts info22
    clear G c1 c2 c3 c4 c5 c7 c8 c9 uO OA BA EH HFN
    gi_wp2_with (gi_at_builtin; refine wpListIn_append_own_at _ rfl _ _ 35 rfl w.heap.size 22 i0 (.slice none 0 0) 1 24 Try.underlying35 hi hz0 hz1 hz2 rfl (by decide) _ _ _ rfl HOA.out ⟨U.heap.size, 0, none⟩ 1 1 [.slice q zs.length cq] rfl rfl ?_ ?_ ?_ ?_ ?_ ?_)
    · intro j u hj
      cases j with
      | zero => cases hj; go_cell
      | succ j => cases hj
    · intro x hx
      cases List.mem_singleton.1 hx
      rfl
    · unfold maxLen; omega
    · omega
    · have := UA0.out; simp; omega
    intro v' w5 hown' hgrow _ hat
    obtain ⟨g1, g2, g3, g4, g5, g6, g7, g8⟩ := GA.out
    have N1 : ∀ (M : Loop) (cs : Array Value), Obj.loop M ≠ .cells cs 22 (0, 0) := fun _ _ h => by cases h
    have N2 : ∀ (M : Option (List Deferred)) (cs : Array Value), Obj.deferred M ≠ .cells cs 22 (0, 0) := fun _ _ h => by cases h
    have b5 : Boxed w5 (w.heap.size + 1) 35 (.slice qv a cv) := grown_at HOA.out hgrow g5 (fun cs h => by cases h)
    have b4 : Boxed w5 w.heap.size 3 (.int .i64 lim) := grown_at HOA.out hgrow g4 (fun cs h => by cases h)
    have kI := KI.grown HOA.out (by decide) hgrow
    have q1 := grown_at HOA.out hgrow g1 (N1 _)
    have q2 := grown_at HOA.out hgrow g2 (N2 _)
    have b3 := g3.grown hgrow g3.size (fun q' hq' => (HOA.out.lt q' hq').1)
    try rw [ha1] at hown'
    obtain ⟨qn, cn, rfl⟩ := own_slice hown'
    have s5 := b5.set (.slice qn a1 cn)
    have s4 := boxed_other (u := .slice qn a1 cn) b4 (by omega : w.heap.size ≠ w.heap.size + 1)
    have kII := kI.trans (KI.box (.slice qn a1 cn) b5 (by decide))
    have ne1 : l ≠ w.heap.size + 1 := by have := HLD.out; omega
    have ne2 : D ≠ w.heap.size + 1 := by have := HLD.out; omega
    have GF : Hid (CSt w zs lim l D (w.heap.size + 1) w.heap.size { L2 with state := .busy, pending := none } a1 X (w5.setCell ⟨w.heap.size + 1, 0, none⟩ (.slice qn a1 cn)) ∧ (A.heap.size ≤ (w5.setCell ⟨w.heap.size + 1, 0, none⟩ (.slice qn a1 cn)).heap.size ∧ ∀ g x, A.heap[g]? = some x → g ≠ l → g ≠ w.heap.size + 1 → ((∀ cs f, x ≠ .cells cs 22 f) ∨ g ∈ X) → (w5.setCell ⟨w.heap.size + 1, 0, none⟩ (.slice qn a1 cn)).heap[g]? = some x)) := Lib.hid (by
      refine ⟨⟨(Below.heap_setCell _ _ _ _ ne1).trans q1, (Below.heap_setCell _ _ _ _ ne2).trans q2, Below.setCell b3 (Nat.le_succ _) _, s4, .slice qn a1 cn, vs ++ [.slice q zs.length cq], s5, by rw [List.length_append, c6, ← ha1]; rfl, own_setBox _ hown' b5 (by decide), fun i v hv => ?_, fun g hg hgX => ?_⟩, ?_, fun g x hg hgl hgb hc => ?_⟩
      · rcases Nat.lt_trichotomy i vs.length with h | rfl | h
        · rw [List.getElem?_append_left h] at hv
          exact own_KI kII (g6 i v hv)
        · rw [List.getElem?_append_right (Nat.le_refl _), Nat.sub_self] at hv
          cases hv
          rw [c6]
          exact own_KI kII g7
        · rw [List.getElem?_eq_none (by simp; omega)] at hv
          cases hv
      · rcases hat with h | h
        · rw [h] at hg
          exact HC9.out g hg hgX
        · rw [h] at hg
          cases hg
          have := HXX.out _ hgX
          have := HAS.out
          try simp at this
          omega
      · have h1 := HAS.out
        have h2 := g8.size
        have h3 := hgrow.size
        rw [World.size_setCell]
        omega
      · have h2 := ext_at (HAU.out g x hg hgl) g8
        refine (Below.heap_setCell _ _ _ _ hgb).trans ?_
        rcases hc with hc | hc
        · exact grown_at HOA.out hgrow h2 (fun cs => hc cs _)
        · exact (hgrow.block g (some_lt h2) (fun e => HC9.out g e.symm hc)).trans h2)
    have co5 := b5.cell
    have fo5 := b5.frozen
    have co6 := s5.cell
    have cl6 := s4.cell
    clear hown' hgrow hat b5 b4 kI q1 q2 b3 s5 s4 kII g1 g2 g3 g4 g5 g6 g7 g8 GA HOA HC9 HAU hi hz0 hz1 hz2 i0 co fo ha1
    by_cases hq : (a1 : Int) = lim
    · have d1 : decide ((a1 : Int) = lim) = true := decide_eq_true hq
      have d2 : ((a1 : Int) == lim) = true := by rw [hq]; simp
      have HQ := Lib.hid hq
      clear hq
      gi_wp2
      obtain ⟨xC, xS, xX⟩ := GF.out
      refine ⟨xC.1, false, rfl, ⟨by simpa using xS, fun g x hg hgl hgb hc => (World.putObj_heap_other hgl).trans (xX g x hg hgl hgb hc)⟩, (fun h => by cases h), (fun _ => ⟨by rw [HA1.out]; exact HQ.out, ?_⟩)⟩
      rw [HDONE.out, HA1.out]
      exact xC.setl _ hw
    · have d1 : decide ((a1 : Int) = lim) = false := decide_eq_false hq
      have d2 : ((a1 : Int) == lim) = false := beq_false_of_ne hq
      have HQ : Hid ((a1 : Int) < lim) := Lib.hid (by have := HA1.out; omega)
      clear hq
      gi_wp2
      obtain ⟨xC, xS, xX⟩ := GF.out
      refine ⟨xC.1, true, rfl, ⟨by simpa using xS, fun g x hg hgl hgb hc => (World.putObj_heap_other hgl).trans (xX g x hg hgl hgb hc)⟩, (fun _ => ⟨by rw [HA1.out]; exact HQ.out, ?_⟩), (fun h => by cases h)⟩
      rw [HRDY.out, HA1.out]
      exact xC.setl _ hw
  rintro e W ⟨hv, a, (⟨ha, hal, hC⟩ | ⟨ha, hal, hC⟩)⟩
  · refine ⟨hv, .ready, none, by rw [hC.1, hLL], by decide, ?_⟩
    show Exit.inBlock _ _ _ _ _
    have uC := CSt.setl { L2 with state := .exhausted, pending := none } hC hw
    have G := Lib.hid uC
    have HA := Lib.hid (And.intro ha hal)
    clear hL hLL HL0 hl0 hd0 BB HCS hC uC ha hal
    generalize (W.putObj l (.loop { L2 with state := .exhausted, pending := none })) = U at *
    obtain ⟨_, xd, xB, _, v, vs, xo, xn, xr, xp, _⟩ := G.out
    have co := xo.cell
    have G2 := Lib.hid (And.intro xd (And.intro xB (And.intro xr xp)))
    clear xd xB xo xr xp
    gi_wp2
    obtain ⟨xd, xB, xr, xp⟩ := G2.out
    obtain ⟨ha, hal⟩ := HA.out
    refine ⟨by simp, .inl ⟨_, _, by rw [← HD2.out], run_takeDeferred xd, ?_⟩⟩
    refine ⟨v, by simp [results, Try.f27, go_sem], v, vs, rfl, by omega, below_put _ xB (by have := HLD.out; omega), ?_, xp.KI (KI.put _ xd (ND _))⟩
    rw [xn]
    exact own_put _ xr xd (ND _)
  · refine ⟨hv, .done, some (.exit 0), by rw [hC.1, hLL], by decide, ?_⟩
    show Code.wpIn _ _ _ _ _ _ _
    have uC := CSt.setl { L2 with state := .exhausted, pending := some (.exit 0) } hC hw
    have G := Lib.hid uC
    have HA := Lib.hid (And.intro ha hal)
    clear hL hLL HL0 hl0 hd0 BB HCS hC uC ha hal
    generalize (W.putObj l (.loop { L2 with state := .exhausted, pending := some (.exit 0) })) = U at *
    obtain ⟨_, xd, xB, _, v, vs, xo, xn, xr, xp, _⟩ := G.out
    have co := xo.cell
    have G2 := Lib.hid (And.intro xd (And.intro xB (And.intro xr xp)))
    clear xd xB xo xr xp
    gi_wp2
    obtain ⟨xd, xB, xr, xp⟩ := G2.out
    obtain ⟨ha, hal⟩ := HA.out
    refine ⟨by simp, .inl ⟨_, _, by rw [← HD2.out], run_takeDeferred xd, ?_⟩⟩
    refine ⟨v, by simp [results, Try.f27, go_sem], v, vs, rfl, by omega, below_put _ xB (by have := HLD.out; omega), ?_, xp.KI (KI.put _ xd (ND _))⟩
    rw [xn]
    exact own_put _ xr xd (ND _)
end Go.Proofs.Ytkdfidjoighknaa.Bx
