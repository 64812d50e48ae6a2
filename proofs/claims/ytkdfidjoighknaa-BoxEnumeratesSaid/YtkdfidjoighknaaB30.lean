/- Boxes: the iterator of all points. -/
import Derived.Test.YtkdfidjoighknaaB29
namespace Go.Proofs.Ytkdfidjoighknaa.Bx
open Go.ChangeShapes Go.WideShapes Go.ChangeAt Go.RowKit
set_option linter.unusedVariables false
set_option linter.unusedSimpArgs false
open Go.Shelf
attribute [local go_sem] Oper.semAt_some
/-- A row abides a change of what is no cells. -/
theorem own_put {A : World} {g base e size : Nat} {v : Value} {n : Nat} {xs : List Value} {x : Obj} (o : Obj) (h : A.ownsRow base e size v n xs) (hg : A.heap[g]? = some x) (hx : ∀ cs t f, x ≠ .cells cs t f) : (A.putObj g o).ownsRow base e size v n xs := by
  obtain ⟨hl, h1 | ⟨g', cap, cur, e', hb, hh, r⟩⟩ := h
  · exact ⟨hl, .inl h1⟩
  · refine ⟨hl, .inr ⟨g', cap, cur, e', hb, (World.putObj_heap_other (fun e9 => ?_)).trans hh, r⟩⟩
    subst e9
    rw [hh] at hg
    cases hg
    exact hx _ _ _ rfl
theorem boxed_put2 {A : World} {g b t : Nat} {v : Value} {x : Obj} (o : Obj) (h : Boxed A b t v) (hg : A.heap[g]? = some x) (hx : ∀ cs t f, x ≠ .cells cs t f) : Boxed (A.putObj g o) b t v := by
  have : b ≠ g := fun e => by
    subst e
    rw [show A.heap[b]? = _ from h] at hg
    cases hg
    exact hx _ _ _ rfl
  exact (World.putObj_heap_other this).trans h
/-- The state of a collection under way. -/
def CSt (w0 : World) (zs : List Int) (lim : Int) (l D bo bl : Nat) (L : Loop) (a : Nat) (X : List Nat) (A : World) : Prop :=
  A.heap[l]? = some (.loop L) ∧ A.heap[D]? = some (.deferred (some [])) ∧ Below w0.heap.size w0 A ∧ Boxed A bl 3 (.int .i64 lim) ∧
    ∃ v vs, Boxed A bo 35 v ∧ vs.length = a ∧ A.ownsRow w0.heap.size 22 1 v a vs ∧ Pts w0.heap.size zs A vs ∧ ∀ g, v.ownBlock = some g → g ∉ X
theorem some_lt {A : World} {g : Nat} {x : Obj} (h : A.heap[g]? = some x) : g < A.heap.size := (Array.getElem?_eq_some_iff.1 h).1
theorem ext_at {A B : World} {g : Nat} {x : Obj} (h : A.heap[g]? = some x) (hB : Below A.heap.size A B) : B.heap[g]? = some x := (hB.block g (some_lt h)).trans h
theorem CSt.ext {w0 : World} {zs : List Int} {lim : Int} {l D bo bl : Nat} {L : Loop} {a : Nat} {X : List Nat} {A B : World} (h : CSt w0 zs lim l D bo bl L a X A) (hB : Below A.heap.size A B) : CSt w0 zs lim l D bo bl L a X B := by
  obtain ⟨h1, h2, h3, h4, v, vs, h5, h6, h7, h8, h9⟩ := h
  exact ⟨ext_at h1 hB, ext_at h2 hB, h3.trans (hB.mono h3.size), boxed_beyond hB h4, v, vs, boxed_beyond hB h5, h6, own_beyond' hB h7, h8.KI (KI.below hB), h9⟩
theorem CSt.drew {w0 : World} {zs : List Int} {lim : Int} {l D bo bl : Nat} {L : Loop} {a : Nat} {X : List Nat} {A : World} (h : CSt w0 zs lim l D bo bl L a X A) : CSt w0 zs lim l D bo bl L a X A.drew := ⟨h.1, h.2.1, Below.drew h.2.2.1, h.2.2.2.1, h.2.2.2.2⟩
theorem KI.put {A : World} {g : Nat} {x : Obj} (o : Obj) (hg : A.heap[g]? = some x) (hx : ∀ cs t f, x ≠ .cells cs t f) : KI A (A.putObj g o) := fun g' cs h => by
  refine (World.putObj_heap_other (fun e => ?_)).trans h
  subst e
  rw [h] at hg
  cases hg
  exact hx _ _ _ rfl
theorem CSt.put {w0 : World} {zs : List Int} {lim : Int} {l D bo bl : Nat} {L : Loop} {a : Nat} {X : List Nat} {A : World} {g : Nat} {x : Obj} (o : Obj) (h : CSt w0 zs lim l D bo bl L a X A) (hg : A.heap[g]? = some x) (hx : ∀ cs t f, x ≠ .cells cs t f) (hl : l ≠ g) (hD : D ≠ g) (hw : w0.heap.size ≤ g) : CSt w0 zs lim l D bo bl L a X (A.putObj g o) := by
  obtain ⟨h1, h2, h3, h4, v, vs, h5, h6, h7, h8, h9⟩ := h
  exact ⟨(World.putObj_heap_other hl).trans h1, (World.putObj_heap_other hD).trans h2, below_put o h3 hw, boxed_put2 o h4 hg hx, v, vs, boxed_put2 o h5 hg hx, h6, own_put o h7 hg hx, h8.KI (KI.put o hg hx), h9⟩
theorem CSt.fresh {w0 : World} {zs : List Int} {lim : Int} {l D bo bl : Nat} {L : Loop} {a : Nat} {X : List Nat} {A : World} {g : Nat} (h : CSt w0 zs lim l D bo bl L a X A) (hg : A.heap.size ≤ g) : CSt w0 zs lim l D bo bl L a (g :: X) A := by
  obtain ⟨h1, h2, h3, h4, v, vs, h5, h6, h7, h8, h9⟩ := h
  refine ⟨h1, h2, h3, h4, v, vs, h5, h6, h7, h8, fun g' hg' => ?_⟩
  rw [List.mem_cons, not_or]
  have := (h7.lt _ hg').2
  exact ⟨by omega, h9 _ hg'⟩
theorem CSt.drop {w0 : World} {zs : List Int} {lim : Int} {l D bo bl : Nat} {L : Loop} {a : Nat} {X : List Nat} {A : World} (h : CSt w0 zs lim l D bo bl L a X A) : CSt w0 zs lim l D bo bl L a [] A := by
  obtain ⟨h1, h2, h3, h4, v, vs, h5, h6, h7, h8, h9⟩ := h
  exact ⟨h1, h2, h3, h4, v, vs, h5, h6, h7, h8, fun _ _ => by simp⟩
/-- What a call of the collection's yield leaves as it lay. -/
def KX (l bo : Nat) (X : List Nat) (A W : World) : Prop := A.heap.size ≤ W.heap.size ∧ ∀ g x, A.heap[g]? = some x → g ≠ l → g ≠ bo → ((∀ cs f, x ≠ .cells cs 22 f) ∨ g ∈ X) → W.heap[g]? = some x
theorem KX.ints {w0 : World} {zs : List Int} {lim : Int} {l D bo bl : Nat} {L : Loop} {a : Nat} {X : List Nat} {A W : World} (h : CSt w0 zs lim l D bo bl L a X A) (k : KX l bo X A W) : KI A W := fun g cs hg => by
  obtain ⟨h1, h2, h3, h4, v, vs, h5, _⟩ := h
  refine k.2 g _ hg (fun e => ?_) (fun e => ?_) (.inl (fun cs f e => ?_))
  · subst e; rw [hg] at h1; cases h1
  · subst e; rw [show A.heap[g]? = _ from h5] at hg; cases hg
  · cases e
theorem KX.box {w0 : World} {zs : List Int} {lim : Int} {l D bo bl : Nat} {L : Loop} {a : Nat} {X : List Nat} {A W : World} (h : CSt w0 zs lim l D bo bl L a X A) (k : KX l bo X A W) {b t : Nat} {y : Value} (hb : Boxed A b t y) (ht : t ≠ 35) (hX : t ≠ 22 ∨ b ∈ X) : Boxed W b t y := by
  obtain ⟨h1, h2, h3, h4, v, vs, h5, _⟩ := h
  refine k.2 b _ hb (fun e => ?_) (fun e => ?_) ?_
  · subst e; rw [show A.heap[b]? = _ from hb] at h1; cases h1
  · subst e
    have h9 : A.heap[b]? = _ := hb
    rw [show A.heap[b]? = _ from h5] at h9
    cases h9
    exact ht rfl
  · rcases hX with h | h
    · exact .inl (fun cs f e => by cases e; exact h rfl)
    · exact .inr h
theorem KX.other {w0 : World} {zs : List Int} {lim : Int} {l D bo bl : Nat} {L : Loop} {a : Nat} {X : List Nat} {A W : World} (h : CSt w0 zs lim l D bo bl L a X A) (k : KX l bo X A W) {g : Nat} {x : Obj} (hg : A.heap[g]? = some x) (hl : g ≠ l) (hx : ∀ cs t f, x ≠ .cells cs t f) : W.heap[g]? = some x := by
  obtain ⟨h1, h2, h3, h4, v, vs, h5, _⟩ := h
  refine k.2 g _ hg hl (fun e => ?_) (.inl (fun cs f => hx _ _ _))
  subst e; rw [show A.heap[g]? = _ from h5] at hg; cases hg; exact hx _ _ _ rfl
/-- What the collection's yield keeps its word of. -/
def YC (w0 : World) (zs : List Int) (lim : Int) (l D bo bl : Nat) (L L' : Loop) (N : Nat) : Prop := ∀ (m a : Nat) (X : List Nat) (A : World) (q : Option Addr) (cq : Nat), 3 ≤ m → (a : Int) < cnt zs → (a : Int) < lim → CSt w0 zs lim l D bo bl L a X A → (∀ x ∈ X, x < A.heap.size) → A.ownsRow w0.heap.size 3 1 (.slice q N cq) N ((pt zs (a : Int)).map (Value.int .i64)) →
  YieldAt Fence.wide m Try.prog l #[.slice q N cq] A fun e W' => ∃ t, e = .returned (.bool t) ∧ KX l bo X A W' ∧ (t = true → ((a + 1 : Nat) : Int) < lim ∧ CSt w0 zs lim l D bo bl L (a + 1) X W') ∧ (t = false → ((a + 1 : Nat) : Int) = lim ∧ CSt w0 zs lim l D bo bl L' (a + 1) X W')
/-- All's iterator has come to its end. -/
def AIW (w0 : World) (zs : List Int) (lim : Int) (l D bo bl : Nat) (L L' : Loop) (e : Ending) (W' : World) : Prop := (∃ v, e = .returned v) ∧ ∃ a : Nat, (a = (cnt zs).toNat ∧ (a : Int) < lim ∧ CSt w0 zs lim l D bo bl L a [] W') ∨ (a ≤ (cnt zs).toNat ∧ (a : Int) = lim ∧ CSt w0 zs lim l D bo bl L' a [] W')
theorem RoundIn.inR {F : Fence} {n : Nat} {P : Program} {l : Nat} {f : FuncId} {tmps : Array Value} {assign body : Code} {w : World} {R : Ending → World → Prop} (k : Nat) (h : RoundIn F n P l f tmps assign body w R) : RoundIn (F.inRound k) n P l f tmps assign body w R := h
theorem all_no (l bx : Nat) (p : Option Addr) (zs : List Int) (c : Nat) (W : World) (hN : zs.length ≤ maxLen) (RA : Hid (SlI W p zs)) (hx : Boxed W bx 22 (.slice p zs.length c)) (hP : pB zs 0 = false) :
    Calls Try.prog 81 #[.func (.yield l) #[] #[], .pointer (some ⟨bx, 0, none⟩)] W fun e W' => (∃ v, e = .returned v) ∧ Below W.heap.size W W' := by
  have BA := (Below.refl W.heap.size W).alloc (Nat.le_refl _) (Obj.cells #[Value.func (.yield l) #[] #[]] 27)
  have PT := Lib.hid (point1 p zs c 0 (W.alloc (Obj.cells #[Value.func (.yield l) #[] #[]] 27)) hN (Lib.hid (SlI.keep BA RA.out)))
  rw [hP] at PT
  have cx := (boxed_beyond BA hx).cell
  have HB := Lib.hid BA
  clear BA hx
  go_enter Try.func81, Try.ntmps81
  go_wp2_with fail
  refine PT.out.mono ?_
  rintro e W1 ⟨v, rfl, hb, ho⟩
  have K1 := Lib.hid (HB.out.trans (hb.mono HB.out.size))
  clear hb ho cx PT
  go_wp2
  go_quiet (fail)
  go_wp2
  first | go_end0 | skip
  first | (refine bodyPost_ret (results_none rfl _ _ _) rfl ?_) | skip
  exact ⟨⟨_, rfl⟩, below_drewN K1.out _⟩
/-- A region that does not panic. -/
def QN (K : Act → World → Prop) : Exit → Act → World → Prop
  | .normal, a, w => K a w
  | _, _, _ => False
theorem wpIn_qn {F : Fence} {n : Nat} {P : Program} {c : Code} {Q : Exit → Act → World → Prop} {a : Act} {w : World} (h : c.wpIn F n P (QN fun a w => Q .normal a w) a w) : c.wpIn F n P Q a w := wpIn_mono h fun e a w hq => by
  cases e with
  | normal => exact hq
  | _ => exact hq.elim
set_option maxRecDepth 100000 in
set_option maxHeartbeats 8000000 in
theorem all_in (n : Nat) (hn : 12 ≤ n) (w0 W : World) (zs : List Int) (N : Nat) (lim : Int) (l D bo bl bx : Nat) (L L' : Loop) (p : Option Addr) (c : Nat) (HNl : Hid (zs.length = N)) (hc : N ≤ c) (hN : N ≤ maxLen) (hby : N * 8 ≤ 140737488355328) (hlim : 0 < lim)
    (HY : Hid (YC w0 zs lim l D bo bl L L' N)) (hO : Hid (W.ownsRow w0.heap.size 3 1 (.slice p N c) N (zs.map (Value.int .i64)))) (hx : Hid (Boxed W bx 22 (.slice p N c))) (hS : Hid (CSt w0 zs lim l D bo bl L 0 [bx] W)) :
    CallsIn Fence.wide n Try.prog 81 #[.func (.yield l) #[] #[], .pointer (some ⟨bx, 0, none⟩)] W (AIW w0 zs lim l D bo bl L L') := by
  have hmix : Try.prog.follows .mixedOrders = true := by kernel_rfl
  have SLI : ∀ (u : World) (q : Option Addr) (cq : Nat) (xs : List Int), xs.length = N → u.ownsRow w0.heap.size 3 1 (.slice q N cq) N (xs.map (Value.int .i64)) → N ≤ cq ∧ SlI u q xs := fun u q cq xs hxs ho => by
    rw [← hxs] at ho
    obtain ⟨q9, d9, e9, h9, _, S9⟩ := own_SlI ho
    cases e9
    exact ⟨by omega, S9.out⟩
  have HSL := Lib.hid SLI
  clear SLI
  have PT := Lib.hid fun (u : World) (ho : u.ownsRow w0.heap.size 3 1 (.slice p N c) N (zs.map (Value.int .i64))) => (callsIn_wide (n := n - 1)).2 (by
    have h := point1 p zs c 0 u (by rw [HNl.out]; exact hN) (Lib.hid (HSL.out u p c zs HNl.out ho).2)
    rw [HNl.out] at h
    exact h)
  by_cases hP9 : pB zs 0 = false
  · refine (callsIn_wide.2 (all_no l bx p zs c W (by rw [HNl.out]; exact hN) (Lib.hid (HSL.out W p c zs HNl.out hO.out).2) (by rw [HNl.out]; exact hx.out) hP9)).mono ?_
    rintro e W' ⟨hv, hb⟩
    have h0 : (cnt zs).toNat = 0 := by
      rcases Int.lt_or_le 0 (cnt zs) with h | h
      · rw [pB_of (Int.le_refl 0) h] at hP9; cases hP9
      · omega
    exact ⟨hv, 0, .inl ⟨h0.symm, hlim, (hS.out.ext hb).drop⟩⟩
  refine callsIn_of_wp_marks Try.func81 rfl trivial ?_ rfl
  simp only [Try.ntmps81, List.size_toArray, List.length_cons, List.length_nil, Nat.reduceAdd, Nat.reduceSub, Array.replicate_succ, Array.replicate_zero, List.push_toArray, List.append_toArray, List.nil_append, List.cons_append]
  have BA := (Below.refl W.heap.size W).alloc (Nat.le_refl _) (Obj.cells #[Value.func (.yield l) #[] #[]] 27)
  have hxA := boxed_beyond BA hx.out
  have cxA := hxA.cell
  gi_wp2
  have HSA := Lib.hid (hS.out.ext BA)
  have HOA := Lib.hid (own_beyond' BA hO.out)
  have HBY := Lib.hid (Boxed.new W 27 (.func (.yield l) #[] #[]))
  have HXA := Lib.hid hxA
  have HSZ : Hid (w0.heap.size ≤ W.heap.size) := Lib.hid hS.out.2.2.1.size
  have HFR := Lib.hid (show l < W.heap.size from some_lt hS.out.1)
  clear hxA cxA BA hO hx hS
  generalize W.heap.size = by9 at *
  generalize W.alloc (Obj.cells #[Value.func (.yield l) #[] #[]] 27) = WA at *
  refine ⟨trivial, fun _ => by omega, (PT.out WA HOA.out).mono ?_⟩
  rintro e W1 ⟨v, rfl, hb, ho⟩
  have HS1 := Lib.hid (HSA.out.ext hb)
  have HO1 := Lib.hid (own_beyond' hb HOA.out)
  have HY1 := Lib.hid (boxed_beyond hb HBY.out)
  have HX1 := Lib.hid (boxed_beyond hb HXA.out)
  have HV1 := Lib.hid (ho.mono HSA.out.2.2.1.size)
  clear hb ho HSA HOA HBY HXA PT
  cases hP : pB zs 0 with
  | false => exact absurd hP hP9
  | true =>
    have hS0 := (pB_yes hP).2
    rw [show pP zs 0 = pt zs 0 from if_pos hP, (pt_length zs 0).trans HNl.out] at HV1
    obtain ⟨q1, d1, rfl⟩ := own_slice HV1.out
    have CL := Lib.hid fun (u : World) (ho : u.ownsRow w0.heap.size 3 1 (.slice q1 N d1) N ((pt zs 0).map (Value.int .i64))) => (callsIn_wide (n := n - 1)).2 (by
      have hl := (pt_length zs 0).trans HNl.out
      have h := c48g q1 (pt zs 0) d1 u (by rw [hl]; exact hN) (by rw [hl]; exact hby) (Lib.hid (HSL.out u q1 d1 (pt zs 0) hl ho).2)
      rw [hl] at h
      exact h)
    have CL9 := Lib.hid (CL.out W1.drew HV1.out.drew)
    have cy := (show Boxed W1.drew by9 27 (.func (.yield l) #[] #[]) from HY1.out).cell
    gi_wp2
    refine wpIn_qn ?_
    gi_region_with_o (first
      | (refine ⟨trivial, fun _ => by omega, CL9.out.mono ?_⟩
         rintro e W2 ⟨v2, rfl, hb2, ho2⟩
         have HS2 := Lib.hid (HS1.out.drew.ext hb2)
         have HV2 := Lib.hid (ho2.mono HS1.out.2.2.1.size)
         rw [(pt_length zs 0).trans HNl.out] at HV2
         have HB2 := Lib.hid hb2
         have cyW := (boxed_beyond hb2 (show Boxed W1.drew by9 27 (.func (.yield l) #[] #[]) from HY1.out)).cell
         clear ho2
         obtain ⟨q2, d2, rfl⟩ := own_slice HV2.out
         obtain ⟨fn9, tm9, as9, bo9, hy9, hR9⟩ := HY.out (n - 1) 0 [bx] W2 q2 d2 (by omega) hS0 (by omega) HS2.out (fun x hx => by cases List.mem_singleton.1 hx; exact Nat.lt_of_lt_of_le HX1.out.lt hb2.size) HV2.out)
      | (refine ⟨fun _ => by omega, hR9.mono ?_⟩
         rintro e W3 ⟨t, rfl, hk, h1, h2⟩))
    all_goals
      have BW := (Below.drew (Below.refl W1.heap.size W1)).trans hb2
      have X2 := boxed_beyond BW HX1.out
      have Y2 := boxed_beyond BW HY1.out
      have O2 := own_beyond' BW HO1.out
      have V2 := own_beyond' BW HV1.out
      have HKI := KX.ints HS2.out hk
      have HX3 := Lib.hid (KX.box HS2.out hk X2 (by decide) (.inr (by simp)))
      have HY3 := Lib.hid (KX.box HS2.out hk Y2 (by decide) (.inl (by decide)))
      have HO3 := Lib.hid (own_KI HKI O2)
      have HV3 := Lib.hid (own_KI HKI V2)
      have H1 := Lib.hid h1
      have H2 := Lib.hid h2
      have HZ3 : Hid (by9 ≤ W3.heap.size) := Lib.hid (by have := BW.size; have := hk.1; have := some_lt (show W1.heap[by9]? = _ from HY1.out); omega)
      clear BW X2 Y2 O2 V2 HKI hk h1 h2 hb2 HB2 HS2 HV2 hy9 hR9 cy cyW CL CL9 HX1 HY1 HO1 HV1 HS1
      cases t with
      | false =>
        simp only [QN]
        gi_wp2
        exact ⟨.tuple #[], results_none rfl _ _ _, ⟨_, rfl⟩, 1, .inr ⟨by omega, (H2.out (by trivial)).1, (H2.out (by trivial)).2.drop⟩⟩
      | true =>
        have cx3 := HX3.out.cell
        have AF := (callsIn_wide (n := n - 1)).2 (after1 p q1 N c N d1 W3)
        simp only [QN]
        gi_wp2
        refine ⟨trivial, fun _ => by omega, AF.mono ?_⟩
        rintro e w' ⟨rfl, rfl⟩
        gi_wp2
        have BW := ((Below.refl W3.heap.size W3).alloc (Nat.le_refl _) (Obj.cells #[Value.slice p N c] 22)).alloc (by simp) (Obj.cells #[Value.slice q1 N d1] 22)
        have E0 := Lib.hid ((Boxed.new W3 22 (.slice p N c)).alloc (.cells #[.slice q1 N d1] 22))
        have E1 : Hid (Boxed ((W3.alloc (Obj.cells #[Value.slice p N c] 22)).alloc (Obj.cells #[Value.slice q1 N d1] 22)) (W3.heap.size + 1) 22 (.slice q1 N d1)) := Lib.hid (by have h := Boxed.new (W3.alloc (.cells #[.slice p N c] 22)) 22 (.slice q1 N d1); rw [World.size_alloc] at h; exact h)
        have HC4 := Lib.hid ((((H1.out (by trivial)).2.fresh (Nat.le_refl _)).fresh (g := W3.heap.size + 1) (by omega)).ext BW)
        have HLM := Lib.hid (H1.out (by trivial)).1
        have HY4 := Lib.hid (boxed_beyond BW HY3.out)
        have HO4 := Lib.hid (own_beyond' BW HO3.out)
        have HV4 := Lib.hid (own_beyond' BW HV3.out)
        have HZ4 : Hid (W3.heap.size + 1 < ((W3.alloc (Obj.cells #[Value.slice p N c] 22)).alloc (Obj.cells #[Value.slice q1 N d1] 22)).heap.size) := Lib.hid (by simp)
        have HBX := Lib.hid HX3.out.lt
        clear BW HX3 HY3 HO3 HV3 H1 H2 cx3 AF
        generalize W3.heap.size = b0 at *
        generalize ((W3.alloc (Obj.cells #[Value.slice p N c] 22)).alloc (Obj.cells #[Value.slice q1 N d1] 22)) = wc at *
        obtain ⟨l2, hl2⟩ : ∃ x, wc.heap.size + 1 = x := ⟨_, rfl⟩
        obtain ⟨D2, hD2⟩ : ∃ x, wc.heap.size = x := ⟨_, rfl⟩
        have HL2D : Hid (l2 = D2 + 1) := Lib.hid (by omega)
        have HLL2 : Hid (l < D2 ∧ w0.heap.size ≤ D2 ∧ D < D2 ∧ b0 + 1 < D2) := Lib.hid (by have := HZ3.out; have := HZ4.out; have := HFR.out; have := HSZ.out; have := some_lt HC4.out.2.1; omega)
        have HPOS := cnt_pos (Int.le_refl 0) hS0
        have HI : Hid (inB zs (pt zs 0) = true) := Lib.hid (ins_inB HPOS.1 (pt_ins HPOS.2.2.1 0))
        have HRK : Hid (rk zs (pt zs 0) N = 0) := Lib.hid (by have h := rk_pt_end HPOS.2.2.1 (Int.le_refl 0) (by have := HPOS.2.2.2.2.1; omega : (0 : Int) < sp zs); rw [HNl.out] at h; exact h)
        have HSP : Hid (cnt zs = sp zs) := Lib.hid HPOS.2.2.2.1
        have HD1 := Lib.hid (HSL.out wc q1 d1 (pt zs 0) ((pt_length zs 0).trans HNl.out) HV4.out).1
        clear HPOS
        refine Rf.rf_stmt rfl (by omega) (gf := 83) (lb := #[.pointer (some ⟨b0, 0, none⟩), .pointer (some ⟨b0 + 1, 0, none⟩)]) rfl trivial (enters_of Try.func83 (by kernel_rfl) rfl) (fun fn hfn => ?_)
        generalize hL : (Loop.mk _ _ _ _ _ _ _ _) = L2
        obtain ⟨LL, hLL⟩ : ∃ LL : LoopState → Option Code → Loop, LL = fun st pe => { L2 with state := st, pending := pe } := ⟨_, rfl⟩
        have HL0 : LL .ready none = L2 := by rw [hLL, ← hL]
        rw [hl2, show (#[Value.func (Fn.yield l2) #[] #[]] ++ #[Value.pointer (some { block := b0, off := 0 }), Value.pointer (some { block := b0 + 1, off := 0 })] : Array Value) = #[Value.func (Fn.yield l2) #[] #[], Value.pointer (some { block := b0, off := 0 }), Value.pointer (some { block := b0 + 1, off := 0 })] from rfl]
        have BB := ((Below.refl wc.heap.size wc).alloc (Nat.le_refl _) (Obj.deferred (some []))).alloc (by simp) (Obj.loop L2)
        have hl0 : ((wc.alloc (Obj.deferred (some []))).alloc (Obj.loop L2)).heap[l2]? = some (.loop (LL .ready none)) := by
          rw [HL0, ← hl2]
          have := World.alloc_heap_new (wc.alloc (.deferred (some []))) (.loop L2); rwa [World.size_alloc] at this
        have hd0 : ((wc.alloc (Obj.deferred (some []))).alloc (Obj.loop L2)).heap[D2]? = some (.deferred (some [])) := by
          rw [← hD2]
          exact (Below.heap_alloc _ _ _ (by simp)).trans (World.alloc_heap_new wc _)
        have C5 := HC4.out.ext BB
        have Y5 := boxed_beyond BB HY4.out
        have O5 := own_beyond' BB HO4.out
        have V5 := own_beyond' BB HV4.out
        have S5 : w0.heap.size ≤ ((wc.alloc (Obj.deferred (some []))).alloc (Obj.loop L2)).heap.size := by have := BB.size; have := HLL2.out; omega
        have HLM2 := HLM.out
        have HD2 := Lib.hid hD2
        clear hl2 hD2
        refine (aft_in2 (n - 1) (by omega) l2 b0 (b0 + 1) N p q1 zs (pt zs 0) c d1 w0.heap.size _ HNl hc HD1.out HI
          (fun A => A.ownsRow w0.heap.size 3 1 (.slice p N c) N (zs.map (Value.int .i64)) ∧ A.ownsRow w0.heap.size 3 1 (.slice q1 N d1) N ((pt zs 0).map (Value.int .i64)) ∧ w0.heap.size ≤ A.heap.size)
          (Lib.hid fun A B h hb => ⟨own_beyond' hb h.1, own_beyond' hb h.2.1, Nat.le_trans h.2.2 hb.size⟩)
          (Lib.hid fun A h => ⟨(HSL.out A p c zs HNl.out h.1).2, (HSL.out A q1 d1 (pt zs 0) ((pt_length zs 0).trans HNl.out) h.2.1).2, h.2.2⟩)
          (fun a A => ∃ k : Nat, a = k ∧ (k : Int) < lim ∧ CSt w0 zs lim l D bo bl L k [b0 + 1, b0, bx] A ∧ A.heap[l2]? = some (.loop (LL .ready none)) ∧ A.heap[D2]? = some (.deferred (some [])) ∧ Boxed A by9 27 (.func (.yield l) #[] #[]))
          (fun a A => ∃ k : Nat, a = k ∧ ((k + 1 : Nat) : Int) = lim ∧ CSt w0 zs lim l D bo bl L' (k + 1) [b0 + 1, b0, bx] A ∧ A.heap[l2]? = some (.loop (LL .done (some .ret))) ∧ A.heap[D2]? = some (.deferred (some [])))
          (Lib.hid ?_) (Lib.hid ?_) ⟨O5, V5, S5⟩ ((E0.out.alloc _).alloc _) ((E1.out.alloc _).alloc _) (Lib.hid ⟨1, by rw [HRK.out]; rfl, HLM2, C5, hl0, hd0, Y5⟩)).mono ?_
        · rintro a A B ⟨k, h1, h2, h3, h4, h5, h6⟩ hb
          exact ⟨k, h1, h2, h3.ext hb, ext_at h4 hb, ext_at h5 hb, boxed_beyond hb h6⟩
        · rintro a A g cq a0 a1 ⟨k, rfl, hkl, hC, h2, h3, h4⟩ hZA hx0 hx1 hOr
          have h2' : A.heap[l2]? = some (.loop { L2 with state := .ready, pending := none }) := by rw [h2, hLL]
          have eA := congrArg Loop.assign hL
          have eB := congrArg Loop.body hL
          have eT := congrArg Loop.tmps hL
          have eP := congrArg Loop.params hL
          dsimp only at eA eB eT eP
          have NC : ∀ (M : Loop) (cs : Array Value) (t : Nat) (f : Nat × Nat), Obj.loop M ≠ .cells cs t f := fun _ _ _ _ h => by cases h
          have hl12 : l ≠ l2 := by have := HLL2.out; have := HL2D.out; omega
          have hD12 : D ≠ l2 := by have := HLL2.out; have := HL2D.out; omega
          have hw2 : w0.heap.size ≤ l2 := by have := HLL2.out; have := HL2D.out; omega
          have hbz : (A.putObj l2 (.loop { L2 with state := .busy, pending := none })).heap[l2]? = some (.loop { L2 with state := .busy, pending := none }) := World.putObj_heap_same (some_lt h2)
          have uC := CSt.put (.loop { L2 with state := .busy, pending := none }) hC h2 (NC _) hl12 hD12 hw2
          have u4 := boxed_put2 (.loop { L2 with state := .busy, pending := none }) h4 h2 (NC _)
          have u0 := boxed_put2 (.loop { L2 with state := .busy, pending := none }) hx0 h2 (NC _)
          have u1 := boxed_put2 (.loop { L2 with state := .busy, pending := none }) hx1 h2 (NC _)
          have u3 := defer_put (.loop { L2 with state := .busy, pending := none }) h3 h2
          have uO := own_put (.loop { L2 with state := .busy, pending := none }) hOr h2 (NC _)
          have uK := KI.put (.loop { L2 with state := .busy, pending := none }) h2 (NC _)
          have HDONE : Hid (LL .done (some .ret) = { L2 with state := .done, pending := some .ret }) := Lib.hid (by rw [hLL])
          have HRDY : Hid (LL .ready none = { L2 with state := .ready, pending := none }) := Lib.hid (by rw [hLL])
          have HFN : Hid (Fence.wide.fn L2.fn) := Lib.hid (by rw [← hL]; exact hfn)
          have EH := Lib.hid (And.intro eA (And.intro eB (And.intro eT eP)))
          obtain ⟨fn9, tm9, as9, bo9, hy9, hR9⟩ := HY.out (n - 1 - 1 - 1) k [b0 + 1, b0, bx] _ (some ⟨g, 0, none⟩) cq (by omega) (by rw [HSP.out]; exact a1) hkl uC (fun x hx => by have := u0.lt; have := u1.lt; have := HBX.out; simp only [List.mem_cons, List.not_mem_nil, or_false] at hx; rcases hx with rfl | rfl | rfl <;> omega) uO
          have G := Lib.hid (And.intro hx0 (And.intro hx1 (And.intro hZA (And.intro uK (And.intro uC (And.intro u3 (And.intro u0 (And.intro u1 (And.intro hbz u4)))))))))
          clear hL eA eB eT eP hLL HL0 hl0 hd0 C5 Y5 O5 V5 S5 BB HLM2 hC h3 h4 hOr uO hx0 hx1 hZA uK
          refine Rf.rf_yield2 L2 { tmps := #[.func (.yield l) #[] #[], .pointer (some ⟨bx, 0, none⟩), .pointer (some ⟨by9, 0, none⟩), .slice q1 N d1, .bool true, .slice (some ⟨g, 0, none⟩) N cq, .tuple #[.slice q1 N d1, .bool true], .slice p N c, .tuple #[.slice q1 N d1, .bool true], .slice q1 N d1, .bool true, .bool true, .bool false, .bool false, .func (.yield l) #[] #[], .slice q1 N d1, .slice q2 N d2, .bool true, .bool false, .bool false, .slice p N c, .slice q1 N d1, .func (.func 83) #[] #[.pointer (some ⟨b0, 0, none⟩), .pointer (some ⟨b0 + 1, 0, none⟩)], .slice (some ⟨g, 0, none⟩) N cq, undef, undef, undef, undef], defers := [] } HFN.out h2' (by rw [← EH.out.2.2.2]; rfl) ?_ ?_
          · rw [← EH.out.1, ← EH.out.2.2.1, ← EH.out.2.2.2]
            clear hy9 hR9 hbz uC u4 u0 u1 u3
            gi_wp2
            exact ⟨trivial, trivial⟩
          clear h2'
          generalize (A.putObj l2 (.loop { L2 with state := .busy, pending := none })) = U at *
          rw [← EH.out.2.1]
          have cy := u4.cell
          clear hbz uC u4 u0 u1 u3
          gi_wp2
          refine ⟨fun _ => by omega, (RoundIn.inR l2 hR9).mono ?_⟩
          rintro e W' ⟨t, rfl, hk9, g1, g2⟩
          obtain ⟨hx0, hx1, hZA, uK, uC, u3, u0, u1, hbz, u4⟩ := G.out
          have xl := KX.other uC hk9 hbz (Ne.symm hl12) (NC _)
          have xd := KX.other uC hk9 u3 (by have := HLL2.out; have := HL2D.out; omega) (fun _ _ _ h => by cases h)
          have xK := KX.ints uC hk9
          have x4 := KX.box uC hk9 u4 (by decide) (.inl (by decide))
          have x0 := KX.box uC hk9 u0 (by decide) (.inr (by simp))
          have x1 := KX.box uC hk9 u1 (by decide) (.inr (by simp))
          have XS := hk9.1
          have G2 := Lib.hid (And.intro xl (And.intro xd (And.intro xK (And.intro x4 (And.intro x0 (And.intro x1 XS))))))
          have GG1 := Lib.hid g1
          have GG2 := Lib.hid g2
          have GZ := Lib.hid (And.intro hx0 (And.intro hx1 (And.intro hZA uK)))
          clear hk9 g1 g2 xl xd xK x4 x0 x1 XS hx0 hx1 hZA uK uC u3 u0 u1 hbz u4 hR9 hy9 cy
          cases t with
          | false =>
            gi_wp2
            obtain ⟨xl, xd, xK, x4, x0, x1, XS⟩ := G2.out
            obtain ⟨e1, e2⟩ := GG2.out (by trivial)
            refine ⟨xl, .inr ⟨rfl, k, rfl, e1, e2.put _ xl (NC _) hl12 hD12 hw2, ?_, defer_put _ xd xl⟩⟩
            rw [HDONE.out]
            exact World.putObj_heap_same (some_lt xl)
          | true =>
            gi_wp2
            obtain ⟨xl, xd, xK, x4, x0, x1, XS⟩ := G2.out
            obtain ⟨e1, e2⟩ := GG1.out (by trivial)
            obtain ⟨hx0, hx1, hZA, uK⟩ := GZ.out
            have kk := (uK.trans xK).trans (KI.put (.loop { L2 with state := .ready, pending := none }) xl (NC _))
            refine ⟨xl, .inl ⟨rfl, ⟨k + 1, by omega, e1, e2.put _ xl (NC _) hl12 hD12 hw2, ?_, defer_put _ xd xl, boxed_put2 _ x4 xl (NC _)⟩, ⟨own_KI kk hZA.1, own_KI kk hZA.2.1, ?_⟩, (boxed_put2 _ x0 xl (NC _)).trans hx0.symm, (boxed_put2 _ x1 xl (NC _)).trans hx1.symm, kk⟩⟩
            · rw [HRDY.out]
              exact World.putObj_heap_same (some_lt xl)
            · have := e2.2.2.1.size
              simpa using this
        · have NC : ∀ (M : Loop) (cs : Array Value) (t : Nat) (f : Nat × Nat), Obj.loop M ≠ .cells cs t f := fun _ _ _ _ h => by cases h
          have ND : ∀ (M : Option (List Deferred)) (cs : Array Value) (t : Nat) (f : Nat × Nat), Obj.deferred M ≠ .cells cs t f := fun _ _ _ _ h => by cases h
          have hl12 : l ≠ l2 := by have := HLL2.out; have := HL2D.out; omega
          have hD12 : D ≠ l2 := by have := HLL2.out; have := HL2D.out; omega
          have hw2 : w0.heap.size ≤ l2 := by have := HLL2.out; have := HL2D.out; omega
          have hl13 : l ≠ D2 := by have := HLL2.out; have := HL2D.out; omega
          have hD13 : D ≠ D2 := by have := HLL2.out; have := HL2D.out; omega
          have hw3 : w0.heap.size ≤ D2 := by have := HLL2.out; have := HL2D.out; omega
          rintro e W ⟨hv, (⟨k, hk, hkl, hC, h2, h3, h4⟩ | ⟨a, a0, a1, k, rfl, hkl, hC, h2, h3⟩)⟩
          · refine ⟨hv, .ready, none, by rw [h2, hLL], by decide, ?_⟩
            show Exit.inBlock _ _ _ _ _
            have u3 := defer_put (.loop { L2 with state := .exhausted, pending := none }) h3 h2
            have uC := CSt.put (.loop { L2 with state := .exhausted, pending := none }) hC h2 (NC _) hl12 hD12 hw2
            have G := Lib.hid (And.intro u3 uC)
            clear hL hLL HL0 hl0 hd0 C5 Y5 O5 V5 S5 BB HLM2 hC h2 h3 h4 u3 uC
            generalize (W.putObj l2 (.loop { L2 with state := .exhausted, pending := none })) = U at *
            gi_wp2
            obtain ⟨xd, xC⟩ := G.out
            refine ⟨by simp, .inl ⟨_, _, by rw [← HD2.out], run_takeDeferred xd, ?_⟩⟩
            exact ⟨.tuple #[], results_none rfl _ _ _, ⟨_, rfl⟩, k, .inl ⟨by rw [HSP.out]; omega, hkl, (xC.put _ xd (ND _) hl13 hD13 hw3).drop⟩⟩
          · refine ⟨hv, .done, some .ret, by rw [h2, hLL], by decide, ?_⟩
            show Code.wpIn _ _ _ _ _ _ _
            have u3 := defer_put (.loop { L2 with state := .exhausted, pending := some .ret }) h3 h2
            have uC := CSt.put (.loop { L2 with state := .exhausted, pending := some .ret }) hC h2 (NC _) hl12 hD12 hw2
            have G := Lib.hid (And.intro u3 uC)
            have HK := Lib.hid (And.intro a0 (And.intro a1 hkl))
            clear hL hLL HL0 hl0 hd0 C5 Y5 O5 V5 S5 BB HLM2 hC h2 h3 u3 uC a0 a1 hkl
            generalize (W.putObj l2 (.loop { L2 with state := .exhausted, pending := some .ret })) = U at *
            gi_wp2
            obtain ⟨xd, xC⟩ := G.out
            obtain ⟨a0, a1, hkl⟩ := HK.out
            refine ⟨by simp, .inl ⟨_, _, by rw [← HD2.out], run_takeDeferred xd, ?_⟩⟩
            exact ⟨.tuple #[], results_none rfl _ _ _, ⟨_, rfl⟩, k + 1, .inr ⟨by rw [HSP.out]; omega, hkl, (xC.put _ xd (ND _) hl13 hD13 hw3).drop⟩⟩
end Go.Proofs.Ytkdfidjoighknaa.Bx
