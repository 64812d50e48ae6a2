/- Linear forms: Add. -/
import Derived.Test.YtbicmlkjonaccaaDoorY23
import Derived.Test.YtbicmlkjonaccaaDoorJ4

namespace Go.Proofs.YtbicmlkjonaccaaDoor.Ln
open Go.ChangeShapes Go.WideShapes Go.ChangeAt Go.RowKit
set_option linter.unusedVariables false
set_option linter.unusedSimpArgs false
theorem Sl_lt {w : World} {p : Option Addr} {xs : List Mo} (h : SlM w p xs) : ∀ b o, p = some ⟨b, o, none⟩ → xs ≠ [] → b < w.heap.size := fun b o hp hne => by
  obtain ⟨b1, o1, e, c0, _⟩ := h 0 (by cases xs with | nil => exact absurd rfl hne | cons => simp)
  rw [hp] at e
  cases e
  exact lt_of_cell c0
theorem Sl_set {w : World} {p : Option Addr} {xs : List Mo} {a : Addr} {x : Value} (h : SlM w p xs) (hp : ∀ b o, p = some ⟨b, o, none⟩ → xs ≠ [] → b ≠ a.block) : SlM (w.setCell a x) p xs := fun i hi => by
  obtain ⟨b, o, rfl, c0, c1⟩ := h i hi
  have hb := Below.heap_setCell w a x b (hp b o rfl (fun e => by rw [e] at hi; simp at hi))
  exact ⟨b, o, rfl, (World.cell?_of_block (a := ⟨b, _, none⟩) hb).trans c0, (World.cell?_of_block (a := ⟨b, _, none⟩) hb).trans c1⟩
theorem Sl_set2 {w : World} {p : Option Addr} {xs : List Mo} {g : Nat} {x y : Value} (h : SlM w p xs) (hp : ∀ b o, p = some ⟨b, o, none⟩ → xs ≠ [] → b ≠ g) : SlM ((w.setCell ⟨g, 0, none⟩ x).setCell ⟨g, 1, none⟩ y) p xs := Sl_set (Sl_set h hp) hp
theorem below_undrew {B : Nat} {w u : World} (h : Below B w u) : Below B w.drew u := ⟨h.os, h.tape, h.output, h.size, h.block⟩
theorem okM_of {xs : List Mo} (h : okL xs = true) (hb : ∀ i, i < xs.length → (xs.getD i mo0).1.size ≤ maxLen ∧ -9223372036854775808 ≤ (xs.getD i mo0).2 ∧ (xs.getD i mo0).2 ≤ 9223372036854775807) : ∀ m ∈ xs, okM m := fun m hm => by
  refine ⟨((okL_iff.1 h).2 m hm).2, ?_⟩
  obtain ⟨j, hj, rfl⟩ := List.getElem_of_mem hm
  have := hb j hj
  rw [show xs.getD j mo0 = xs[j] by unfold List.getD; rw [List.getElem?_eq_getElem hj]; rfl] at this
  exact this.2
set_option maxRecDepth 100000 in
set_option maxHeartbeats 32000000 in
theorem add1 (k : Int) (p : Option Addr) (xs : List Mo) (c : Nat) (k' : Int) (q : Option Addr) (ys : List Mo) (d : Nat) (w : World) (hn : xs.length ≤ 1000) (hm : ys.length ≤ 1000) (hc : xs.length ≤ c) (hd : ys.length ≤ d) (RA : Hid (SlM w p xs)) (RB : Hid (SlM w q ys))
    (RS : Hid (∀ i, i < xs.length → (xs.getD i mo0).1.size ≤ maxLen ∧ -9223372036854775808 ≤ (xs.getD i mo0).2 ∧ (xs.getD i mo0).2 ≤ 9223372036854775807)) (RT : Hid (∀ i, i < ys.length → (ys.getD i mo0).1.size ≤ maxLen ∧ -9223372036854775808 ≤ (ys.getD i mo0).2 ∧ (ys.getD i mo0).2 ≤ 9223372036854775807))
    (k1 : -9223372036854775808 ≤ k) (k2 : k ≤ 9223372036854775807) (b1 : -9223372036854775808 ≤ k') (b2 : k' ≤ 9223372036854775807) :
    Calls Tryd.prog 67 #[Lv k p xs.length c, Lv k' q ys.length d] w (LR (adR k xs k' ys).1 (adR k xs k' ys).2.1 (adR k xs k' ys).2.2 w) := by
  have C1 := Lib.hid fun (u : World) (h : Hid (SlM u p xs)) => val1 k p xs c u (by unfold maxLen; omega) h (Lib.hid fun i hi => (RS.out i hi).1)
  have C2 := Lib.hid fun (u : World) (h : Hid (SlM u q ys)) => val1 k' q ys d u (by unfold maxLen; omega) h (Lib.hid fun i hi => (RT.out i hi).1)
  have B0 : Below w.heap.size w (((w.alloc (Obj.cells #[Value.int .i64 k, Value.slice p xs.length c] 24)).alloc (Obj.cells #[Value.int .i64 k', Value.slice q ys.length d] 24)).alloc (Obj.cells #[Value.int .i64 0, Value.slice none 0 0] 24)) := ((((Below.refl _ _).alloc (Nat.le_refl _) _).alloc (by simp) _).alloc (by simp; omega) _)
  have S0 : w.heap.size + 2 < ((((w.alloc (Obj.cells #[Value.int .i64 k, Value.slice p xs.length c] 24)).alloc (Obj.cells #[Value.int .i64 k', Value.slice q ys.length d] 24)).alloc (Obj.cells #[Value.int .i64 0, Value.slice none 0 0] 24))).heap.size := by simp
  have F0 : Cl [(w.heap.size, 0, .int .i64 k), (w.heap.size, 1, .slice p xs.length c), (w.heap.size + 1, 0, .int .i64 k'), (w.heap.size + 1, 1, .slice q ys.length d), (w.heap.size + 1 + 1, 0, .int .i64 0), (w.heap.size + 1 + 1, 1, .slice none 0 0)] (((w.alloc (Obj.cells #[Value.int .i64 k, Value.slice p xs.length c] 24)).alloc (Obj.cells #[Value.int .i64 k', Value.slice q ys.length d] 24)).alloc (Obj.cells #[Value.int .i64 0, Value.slice none 0 0] 24)) := (Cl.cons (by go_cell) (by first | go_cell | simp) (Cl.cons (by go_cell) (by first | go_cell | simp) (Cl.cons (by go_cell) (by first | go_cell | simp) (Cl.cons (by go_cell) (by first | go_cell | simp) (Cl.cons (by go_cell) (by first | go_cell | simp) (Cl.cons (by go_cell) (by first | go_cell | simp) (Cl.nil _)))))))
  obtain ⟨R, hRR⟩ : ∃ R, adR k xs k' ys = R := ⟨_, rfl⟩
  have hR : R = if okL xs = false ∨ okL ys = false then (0, [], 1) else if adF k k' (mg xs ys) = true then (wrap64 (k + k'), flt (mg xs ys), 0) else (0, [], 3) := by rw [← hRR]; rfl
  rw [hRR]
  clear hRR
  unfold Lv at *
  obtain ⟨ok, hok⟩ : ∃ ok, okL xs = ok := ⟨_, rfl⟩
  obtain ⟨ok2, hok2⟩ : ∃ ok, okL ys = ok := ⟨_, rfl⟩
  cases ok
  · have hv : vL xs = 1 := by unfold vL; rw [hok]; rfl
    have HR := Lib.hid (hR.trans (if_pos (.inl hok)))
    rw [hv] at C1
    clear hR hok hok2 hv
    go_enter Tryd.func67, Tryd.ntmps67
    go_wp2_with fail
    generalize (((w.alloc (Obj.cells #[Value.int .i64 k, Value.slice p xs.length c] 24)).alloc (Obj.cells #[Value.int .i64 k', Value.slice q ys.length d] 24)).alloc (Obj.cells #[Value.int .i64 0, Value.slice none 0 0] 24)) = z at *
    have q0 := F0.head
    have q1 := F0.tail.head
    have q2 := F0.tail.tail.head
    have q3 := F0.tail.tail.tail.head
    refine (C1.out _ (Lib.hid (SlM.keep B0 RA.out))).mono ?_
    rintro e w1 ⟨rfl, hb⟩
    have F1 := F0.below hb
    have K1 := B0.trans (hb.mono B0.size)
    clear F0 hb B0 S0 q0 q1 q2 q3
    have q4 := F1.tail.tail.tail.tail.head
    have zq4 := F1.tail.tail.tail.tail.headF
    have q5 := F1.tail.tail.tail.tail.tail.head
    have zq5 := F1.tail.tail.tail.tail.tail.headF
    go_wp2
    exact bodyPost_ret (v := .tuple #[.agg #[.int .i64 0, .slice none 0 0], .int .i64 1]) (by simp [results, Tryd.results67, go_sem, q4, q5]) rfl (by rw [HR.out]; exact LR.zero rfl (below2 K1 (by omega) _ _))
  · have hv : vL xs = 0 := by unfold vL; rw [hok]; rfl
    rw [hv] at C1
    clear hv
    cases ok2
    · have hv : vL ys = 1 := by unfold vL; rw [hok2]; rfl
      have HR := Lib.hid (hR.trans (if_pos (.inr hok2)))
      rw [hv] at C2
      clear hR hok hok2 hv
      go_enter Tryd.func67, Tryd.ntmps67
      go_wp2_with fail
      generalize (((w.alloc (Obj.cells #[Value.int .i64 k, Value.slice p xs.length c] 24)).alloc (Obj.cells #[Value.int .i64 k', Value.slice q ys.length d] 24)).alloc (Obj.cells #[Value.int .i64 0, Value.slice none 0 0] 24)) = z at *
      have q0 := F0.head
      have q1 := F0.tail.head
      have q2 := F0.tail.tail.head
      have q3 := F0.tail.tail.tail.head
      refine (C1.out _ (Lib.hid (SlM.keep B0 RA.out))).mono ?_
      rintro e w1 ⟨rfl, hb⟩
      replace F0 := F0.below hb
      replace B0 := B0.trans (hb.mono B0.size)
      clear hb S0 q0 q1 q2 q3
      have q0 := F0.head
      have q1 := F0.tail.head
      have q2 := F0.tail.tail.head
      have q3 := F0.tail.tail.tail.head
      go_wp2_with fail
      refine (C2.out _ (Lib.hid (SlM.keep B0 RB.out))).mono ?_
      rintro e w2 ⟨rfl, hb⟩
      have F1 := F0.below hb
      have K1 := B0.trans (hb.mono B0.size)
      clear F0 hb B0 q0 q1 q2 q3
      have q4 := F1.tail.tail.tail.tail.head
      have zq4 := F1.tail.tail.tail.tail.headF
      have q5 := F1.tail.tail.tail.tail.tail.head
      have zq5 := F1.tail.tail.tail.tail.tail.headF
      go_wp2
      exact bodyPost_ret (v := .tuple #[.agg #[.int .i64 0, .slice none 0 0], .int .i64 1]) (by simp [results, Tryd.results67, go_sem, q4, q5]) rfl (by rw [HR.out]; exact LR.zero rfl (below2 K1 (by omega) _ _))
    · have hv : vL ys = 0 := by unfold vL; rw [hok2]; rfl
      rw [hv] at C2
      replace hR := hR.trans (if_neg (by rw [hok, hok2]; decide))
      have HX := Lib.hid (okM_of hok RS.out)
      have HY := Lib.hid (okM_of hok2 RT.out)
      obtain ⟨v, hV⟩ : ∃ v, ((true && fit64 (k + k')) && (mg xs ys).all fun m => fit64 m.2) = v := ⟨_, rfl⟩
      have HV := Lib.hid hV
      have HRt := Lib.hid fun h : v = true => hR.trans (if_pos (show adF k k' (mg xs ys) = true by unfold adF; rw [← h, ← hV, Bool.true_and]))
      have HRf := Lib.hid fun h : v = false => hR.trans (if_neg (show ¬ adF k k' (mg xs ys) = true by unfold adF; rw [Bool.true_and] at hV; rw [hV, h]; decide))
      clear hR hok hok2 hv hV
      go_enter Tryd.func67, Tryd.ntmps67
      go_wp2_with fail
      generalize (((w.alloc (Obj.cells #[Value.int .i64 k, Value.slice p xs.length c] 24)).alloc (Obj.cells #[Value.int .i64 k', Value.slice q ys.length d] 24)).alloc (Obj.cells #[Value.int .i64 0, Value.slice none 0 0] 24)) = z at *
      have q0 := F0.head
      have q1 := F0.tail.head
      have q2 := F0.tail.tail.head
      have q3 := F0.tail.tail.tail.head
      refine (C1.out _ (Lib.hid (SlM.keep B0 RA.out))).mono ?_
      rintro e w1 ⟨rfl, hb⟩
      replace F0 := F0.below hb
      replace B0 := B0.trans (hb.mono B0.size)
      replace S0 := Nat.lt_of_lt_of_le S0 hb.size
      clear hb q0 q1 q2 q3
      have q0 := F0.head
      have q1 := F0.tail.head
      have q2 := F0.tail.tail.head
      have q3 := F0.tail.tail.tail.head
      go_wp2_with fail
      refine (C2.out _ (Lib.hid (SlM.keep B0 RB.out))).mono ?_
      rintro e w2 ⟨rfl, hb⟩
      replace F0 := F0.below hb
      replace B0 := B0.trans (hb.mono B0.size)
      replace S0 := Nat.lt_of_lt_of_le S0 hb.size
      clear hb q0 q1 q2 q3
      have FX := Cl.cons (b := w2.heap.size) (o := 0) (v := .bool true) (by go_cell) (by first | go_cell | simp) (F0.below ((Below.refl _ _).alloc (Nat.le_refl _) (Obj.cells #[Value.bool true] 4)))
      have KX := B0.alloc B0.size (Obj.cells #[Value.bool true] 4)
      have hsz : w2.heap.size < (w2.alloc (Obj.cells #[Value.bool true] 4)).heap.size := by simp
      clear F0 B0 C1 C2
      go_wp2_with fail
      generalize w2.alloc (Obj.cells #[Value.bool true] 4) = u1 at *
      generalize w2.heap.size = gf at *
      have CP := Lib.hid fun (x y : Int) (g : Bool) (u : World) h1 h2 => plus1 k k' g gf u k1 k2 b1 b2 h1 h2
      have CM := Lib.hid fun (g : Bool) (u : World) h1 h2 h3 h4 => merge1 p q xs ys c d g gf u HX HY hn hm hc hd h1 h2 (Lib.hid fun b o e hne => by have := Sl_lt RA.out b o e hne; omega) (Lib.hid fun b o e hne => by have := Sl_lt RB.out b o e hne; omega) h3 h4
      replace CP := Lib.hid (CP.out 0 0)
      obtain ⟨V, hVV⟩ : ∃ V, flt (mg xs ys) = V := ⟨_, rfl⟩
      rw [hVV] at CM HRt
      clear hVV
      replace FX : Cl [(gf, 0, .bool true), (w.heap.size, 0, .int .i64 k), (w.heap.size, 1, .slice p xs.length c), (w.heap.size + 1, 0, .int .i64 k'), (w.heap.size + 1, 1, .slice q ys.length d), (w.heap.size + 1 + 1, 0, .int .i64 0), (w.heap.size + 1 + 1, 1, .slice none 0 0)] u1.drew := FX
      replace KX := KX.drew
      replace hsz : gf < u1.drew.heap.size := hsz
      have hz9 : u1.drew.cell? ⟨w.heap.size, 0, none⟩ = some (.int .i64 k) ∧ u1.drew.cell? ⟨w.heap.size, 1, none⟩ = some (.slice p xs.length c) ∧ u1.drew.cell? ⟨w.heap.size + 1, 0, none⟩ = some (.int .i64 k') ∧ u1.drew.cell? ⟨w.heap.size + 1, 1, none⟩ = some (.slice q ys.length d) := ⟨(FX w.heap.size 0 (.int .i64 k) (by simp)).1, (FX w.heap.size 1 (.slice p xs.length c) (by simp)).1, (FX (w.heap.size + 1) 0 (.int .i64 k') (by simp)).1, (FX (w.heap.size + 1) 1 (.slice q ys.length d) (by simp)).1⟩
      cases v
      · have HR := Lib.hid (HRf.out rfl)
        clear HRf HRt
        refine Rk.begin (S := fun wS => wS.cell? ⟨w.heap.size, 0, none⟩ = some (.int .i64 k) ∧ wS.cell? ⟨w.heap.size, 1, none⟩ = some (.slice p xs.length c) ∧ wS.cell? ⟨w.heap.size + 1, 0, none⟩ = some (.int .i64 k') ∧ wS.cell? ⟨w.heap.size + 1, 1, none⟩ = some (.slice q ys.length d)) 14 (by kernel_rfl) hz9 (fun hHeld => ?_)
        refine Rk.takeP (i := 0) (v := ?_) rfl (by kernel_rfl) (by kernel_rfl) (by kernel_rfl) (by kernel_rfl) (fun _ _ _ h => h) (Or.inl ⟨by kernel_rfl, ?_⟩) (by assumption) ?_
        rotate_left
        · ((intro w hSw; go_simp) <;> with_reducible rfl)
        try simp only [Act.put, List.setIfInBounds_toArray, List.set_cons_zero, List.set_cons_succ]
        refine Rk.takeP (i := 1) (v := ?_) rfl (by kernel_rfl) (by kernel_rfl) (by kernel_rfl) (by kernel_rfl) (fun _ _ _ h => h) (Or.inl ⟨by kernel_rfl, ?_⟩) (by assumption) ?_
        rotate_left
        · ((intro w hSw; go_simp) <;> with_reducible rfl)
        try simp only [Act.put, List.setIfInBounds_toArray, List.set_cons_zero, List.set_cons_succ]
        refine Rk.take [14] (i := 2) (v := ?_) rfl (by kernel_rfl) (by kernel_rfl) (by kernel_rfl) (by kernel_rfl) (by kernel_rfl) (fun _ _ _ h => h) (Or.inl ⟨by kernel_rfl, ?_⟩) (by assumption) ?_
        rotate_left
        · ((intro w hSw; (try dsimp only at hSw); go_simp) <;> with_reducible rfl)
        try simp only [Act.put, List.setIfInBounds_toArray, List.set_cons_zero, List.set_cons_succ]
        refine Rk.takeP (i := 3) (v := ?_) rfl (by kernel_rfl) (by kernel_rfl) (by kernel_rfl) (by kernel_rfl) (fun _ _ _ h => h) (Or.inl ⟨by kernel_rfl, ?_⟩) (by assumption) ?_
        rotate_left
        · ((intro w hSw; go_simp) <;> with_reducible rfl)
        try simp only [Act.put, List.setIfInBounds_toArray, List.set_cons_zero, List.set_cons_succ]
        refine Rk.take [14] (i := 4) (v := ?_) rfl (by kernel_rfl) (by kernel_rfl) (by kernel_rfl) (by kernel_rfl) (by kernel_rfl) (fun _ _ _ h => h) (Or.inl ⟨by kernel_rfl, ?_⟩) (by assumption) ?_
        rotate_left
        · ((intro w hSw; (try dsimp only at hSw); go_simp) <;> with_reducible rfl)
        try simp only [Act.put, List.setIfInBounds_toArray, List.set_cons_zero, List.set_cons_succ]
        refine Rk.takeP (i := 6) (v := ?_) rfl (by kernel_rfl) (by kernel_rfl) (by kernel_rfl) (by kernel_rfl) (fun _ _ _ h => h) (Or.inl ⟨by kernel_rfl, ?_⟩) (by assumption) ?_
        rotate_left
        · ((intro w hSw; go_simp) <;> with_reducible rfl)
        try simp only [Act.put, List.setIfInBounds_toArray, List.set_cons_zero, List.set_cons_succ]
        refine Rk.take [14] (i := 7) (v := ?_) rfl (by kernel_rfl) (by kernel_rfl) (by kernel_rfl) (by kernel_rfl) (by kernel_rfl) (fun _ _ _ h => h) (Or.inl ⟨by kernel_rfl, ?_⟩) (by assumption) ?_
        rotate_left
        · ((intro w hSw; (try dsimp only at hSw); go_simp) <;> with_reducible rfl)
        try simp only [Act.put, List.setIfInBounds_toArray, List.set_cons_zero, List.set_cons_succ]
        refine Rk.takeP (i := 8) (v := ?_) rfl (by kernel_rfl) (by kernel_rfl) (by kernel_rfl) (by kernel_rfl) (fun _ _ _ h => h) (Or.inl ⟨by kernel_rfl, ?_⟩) (by assumption) ?_
        rotate_left
        · ((intro w hSw; go_simp) <;> with_reducible rfl)
        try simp only [Act.put, List.setIfInBounds_toArray, List.set_cons_zero, List.set_cons_succ]
        refine Rk.take [14] (i := 9) (v := ?_) rfl (by kernel_rfl) (by kernel_rfl) (by kernel_rfl) (by kernel_rfl) (by kernel_rfl) (fun _ _ _ h => h) (Or.inl ⟨by kernel_rfl, ?_⟩) (by assumption) ?_
        rotate_left
        · ((intro w hSw; (try dsimp only at hSw); go_simp) <;> with_reducible rfl)
        try simp only [Act.put, List.setIfInBounds_toArray, List.set_cons_zero, List.set_cons_succ]
        refine Rk.takeP (i := 10) (v := ?_) rfl (by kernel_rfl) (by kernel_rfl) (by kernel_rfl) (by kernel_rfl) (fun _ _ _ h => h) (Or.inl ⟨by kernel_rfl, ?_⟩) (by assumption) ?_
        rotate_left
        · ((intro w hSw; go_simp) <;> with_reducible rfl)
        try simp only [Act.put, List.setIfInBounds_toArray, List.set_cons_zero, List.set_cons_succ]
        refine Rk.two (i := 5) (j := 13) (by kernel_rfl) rfl rfl (fun KK hK => ?_) (fun KK hK => ?_)
        · rw [if_pos (by kernel_rfl)]
          go_simp
          have hA := (FX gf 0 (.bool true) (by simp)).1
          have hB := (FX gf 0 (.bool true) (by simp)).2
          ((with_reducible refine (CP.out true u1.drew hA hB).mono ?_); rintro e u2 ⟨rfl, hg, hc, hz⟩)
          replace FX := Cl.cons hc hz ((FX.sub (L' := [(w.heap.size, 0, .int .i64 k), (w.heap.size, 1, .slice p xs.length c), (w.heap.size + 1, 0, .int .i64 k'), (w.heap.size + 1, 1, .slice q ys.length d), (w.heap.size + 1 + 1, 0, .int .i64 0), (w.heap.size + 1 + 1, 1, .slice none 0 0)]) (by intro x hx; simp only [List.mem_cons, List.not_mem_nil, or_false] at hx ⊢; rcases hx with h | h | h | h | h | h <;> simp [h])).grown hg (by simp only [List.forall_mem_cons, ne_eq, Option.some.injEq]; simp; omega))
          replace KX := below_grown KX hg KX.size (by intro q' hq'; cases hq'; omega)
          replace hsz : gf < u2.heap.size := Nat.lt_of_lt_of_le hsz hg.size
          clear hg hc hz hA hB
          refine hK.out _ _ ⟨(FX w.heap.size 0 (.int .i64 k) (by simp)).1, (FX w.heap.size 1 (.slice p xs.length c) (by simp)).1, (FX (w.heap.size + 1) 0 (.int .i64 k') (by simp)).1, (FX (w.heap.size + 1) 1 (.slice q ys.length d) (by simp)).1⟩ (fun hHeld => ?_)
          clear hK KK
          refine Rk.two (i := 11) (j := 13) (by kernel_rfl) rfl rfl (fun KK hK => ?_) (fun KK hK => ?_)
          · rw [if_pos (by kernel_rfl)]
            go_simp
            have hA := (FX gf 0 (.bool (true && fit64 (k + k'))) (by simp)).1
            have hB := (FX gf 0 (.bool (true && fit64 (k + k'))) (by simp)).2
            have hC := Lib.hid (SlM.keep KX RA.out)
            have hD := Lib.hid (SlM.keep KX RB.out)
            ((with_reducible refine (CM.out (true && fit64 (k + k')) u2 hC hD hA hB).mono ?_); rintro e u3 ⟨pl, cl, rfl, SL, hg, hc, hz, hbk⟩)
            rw [HV.out] at hc
            replace FX := Cl.cons hc hz ((FX.sub (L' := [(w.heap.size, 0, .int .i64 k), (w.heap.size, 1, .slice p xs.length c), (w.heap.size + 1, 0, .int .i64 k'), (w.heap.size + 1, 1, .slice q ys.length d), (w.heap.size + 1 + 1, 0, .int .i64 0), (w.heap.size + 1 + 1, 1, .slice none 0 0)]) (by intro x hx; simp only [List.mem_cons, List.not_mem_nil, or_false] at hx ⊢; rcases hx with h | h | h | h | h | h <;> simp [h])).grown hg (by simp only [List.forall_mem_cons, ne_eq, Option.some.injEq]; simp; omega))
            have hlt8 := Sl_lt SL
            have hnr : ∀ b o, pl = some ⟨b, o, none⟩ → V ≠ [] → b ≠ w.heap.size + 1 + 1 := fun b o h1 _ => by have := hbk b o h1; omega
            replace KX := below_grown KX hg KX.size (by intro q' hq'; cases hq'; omega)
            replace hsz : gf < u3.heap.size := Nat.lt_of_lt_of_le hsz hg.size
            clear hg hc hz hbk hA hB hC hD
            refine hK.out _ _ ⟨(FX w.heap.size 0 (.int .i64 k) (by simp)).1, (FX w.heap.size 1 (.slice p xs.length c) (by simp)).1, (FX (w.heap.size + 1) 0 (.int .i64 k') (by simp)).1, (FX (w.heap.size + 1) 1 (.slice q ys.length d) (by simp)).1⟩ (fun hHeld => ?_)
            clear hK KK
            refine Rk.takeP (i := 12) (v := ?_) rfl (by kernel_rfl) (by kernel_rfl) (by kernel_rfl) (by kernel_rfl) (fun _ _ _ h => h) (Or.inl ⟨by kernel_rfl, ?_⟩) (by assumption) ?_
            rotate_left
            · ((intro w hSw; go_simp) <;> with_reducible rfl)
            try simp only [Act.put, List.setIfInBounds_toArray, List.set_cons_zero, List.set_cons_succ]
            refine Rk.one (i := 13) (by kernel_rfl) rfl (fun KK hK => ?_)
            rw [if_pos (by kernel_rfl)]
            go_simp
            have BA : Below u3.heap.size u3 (u3.alloc (Obj.cells #[Value.int .i64 0, Value.slice none 0 0] 24)) := (Below.refl u3.heap.size u3).alloc (Nat.le_refl _) (Obj.cells #[Value.int .i64 0, Value.slice none 0 0] 24)
            replace FX := Cl.cons (u := (u3.alloc (Obj.cells #[Value.int .i64 0, Value.slice none 0 0] 24))) (b := u3.heap.size) (o := 0) (v := .int .i64 0) (by go_cell) (by first | go_cell | simp) (Cl.cons (b := u3.heap.size) (o := 1) (v := .slice none 0 0) (by go_cell) (by first | go_cell | simp) (FX.below BA))
            replace KX := KX.trans (BA.mono KX.size)
            have hg8 : gf < u3.heap.size := hsz
            replace SL := SL.below BA
            have hne8 : ∀ b o, pl = some ⟨b, o, none⟩ → V ≠ [] → b ≠ u3.heap.size := fun b o h1 h2 => Nat.ne_of_lt (hlt8 b o h1 h2)
            replace hsz : gf < (u3.alloc (Obj.cells #[Value.int .i64 0, Value.slice none 0 0] 24)).heap.size := Nat.lt_of_lt_of_le hsz BA.size
            have h8s : u3.heap.size < (u3.alloc (Obj.cells #[Value.int .i64 0, Value.slice none 0 0] 24)).heap.size := by simp
            refine hK.out _ _ ⟨(FX w.heap.size 0 (.int .i64 k) (by simp)).1, (FX w.heap.size 1 (.slice p xs.length c) (by simp)).1, (FX (w.heap.size + 1) 0 (.int .i64 k') (by simp)).1, (FX (w.heap.size + 1) 1 (.slice q ys.length d) (by simp)).1⟩ (fun hHeld => ?_)
            clear hK KK
            generalize (u3.alloc (Obj.cells #[Value.int .i64 0, Value.slice none 0 0] 24)) = uA at *
            generalize u3.heap.size = g8 at *
            have hK : True := trivial
            have KK : True := trivial
            clear hK KK
            refine Rk.tail [14] [_] (by kernel_rfl) (by kernel_rfl) rfl (by decide) ?_
            have e0 := FX.head
            have ze0 := FX.headF
            have e1 := FX.tail.head
            have ze1 := FX.tail.headF
            have e2 := FX.tail.tail.head
            have e3 := FX.tail.tail.tail.tail.tail.tail.tail.head
            have ze3 := FX.tail.tail.tail.tail.tail.tail.tail.headF
            have e4 := FX.tail.tail.tail.tail.tail.tail.tail.tail.head
            have ze4 := FX.tail.tail.tail.tail.tail.tail.tail.tail.headF
            clear FX hHeld
            have hr1 : w.heap.size + 1 + 1 < g8 := by omega
            go_wp2
            exact bodyPost_ret (v := .tuple #[.agg #[.int .i64 0, .slice none 0 0], .int .i64 3]) (by simp [results, Tryd.results67, go_sem, e0, e1, e2, e3, e4, ze0, ze1]) rfl (by rw [HR.out]; exact LR.zero rfl (below2 (below2 KX (by omega) _ _) (by omega) _ _))
          · rw [if_pos (by kernel_rfl)]
            go_simp
            have BA : Below u2.heap.size u2 (u2.alloc (Obj.cells #[Value.int .i64 0, Value.slice none 0 0] 24)) := (Below.refl u2.heap.size u2).alloc (Nat.le_refl _) (Obj.cells #[Value.int .i64 0, Value.slice none 0 0] 24)
            replace FX := Cl.cons (u := (u2.alloc (Obj.cells #[Value.int .i64 0, Value.slice none 0 0] 24))) (b := u2.heap.size) (o := 0) (v := .int .i64 0) (by go_cell) (by first | go_cell | simp) (Cl.cons (b := u2.heap.size) (o := 1) (v := .slice none 0 0) (by go_cell) (by first | go_cell | simp) (FX.below BA))
            replace KX := KX.trans (BA.mono KX.size)
            have hg8 : gf < u2.heap.size := hsz
            replace hsz : gf < (u2.alloc (Obj.cells #[Value.int .i64 0, Value.slice none 0 0] 24)).heap.size := Nat.lt_of_lt_of_le hsz BA.size
            have h8s : u2.heap.size < (u2.alloc (Obj.cells #[Value.int .i64 0, Value.slice none 0 0] 24)).heap.size := by simp
            refine hK.out _ _ ⟨(FX w.heap.size 0 (.int .i64 k) (by simp)).1, (FX w.heap.size 1 (.slice p xs.length c) (by simp)).1, (FX (w.heap.size + 1) 0 (.int .i64 k') (by simp)).1, (FX (w.heap.size + 1) 1 (.slice q ys.length d) (by simp)).1⟩ (fun hHeld => ?_)
            clear hK KK
            generalize (u2.alloc (Obj.cells #[Value.int .i64 0, Value.slice none 0 0] 24)) = uA at *
            generalize u2.heap.size = g8 at *
            have hK : True := trivial
            have KK : True := trivial
            clear hK KK
            refine Rk.one (i := 11) (by kernel_rfl) rfl (fun KK hK => ?_)
            rw [if_pos (by kernel_rfl)]
            go_simp
            have hA := (FX gf 0 (.bool (true && fit64 (k + k'))) (by simp)).1
            have hB := (FX gf 0 (.bool (true && fit64 (k + k'))) (by simp)).2
            have hC := Lib.hid (SlM.keep KX RA.out)
            have hD := Lib.hid (SlM.keep KX RB.out)
            ((with_reducible refine (CM.out (true && fit64 (k + k')) uA hC hD hA hB).mono ?_); rintro e u3 ⟨pl, cl, rfl, SL, hg, hc, hz, hbk⟩)
            rw [HV.out] at hc
            replace FX := Cl.cons hc hz ((FX.sub (L' := [(g8, 0, .int .i64 0), (g8, 1, .slice none 0 0), (w.heap.size, 0, .int .i64 k), (w.heap.size, 1, .slice p xs.length c), (w.heap.size + 1, 0, .int .i64 k'), (w.heap.size + 1, 1, .slice q ys.length d), (w.heap.size + 1 + 1, 0, .int .i64 0), (w.heap.size + 1 + 1, 1, .slice none 0 0)]) (by intro x hx; simp only [List.mem_cons, List.not_mem_nil, or_false] at hx ⊢; rcases hx with h | h | h | h | h | h | h | h <;> simp [h])).grown hg (by simp only [List.forall_mem_cons, ne_eq, Option.some.injEq]; simp; omega))
            have hlt8 := Sl_lt SL
            have hnr : ∀ b o, pl = some ⟨b, o, none⟩ → V ≠ [] → b ≠ w.heap.size + 1 + 1 := fun b o h1 _ => by have := hbk b o h1; omega
            have hne8 : ∀ b o, pl = some ⟨b, o, none⟩ → V ≠ [] → b ≠ g8 := fun b o h1 _ => by have := hbk b o h1; omega
            replace KX := below_grown KX hg KX.size (by intro q' hq'; cases hq'; omega)
            replace hsz : gf < u3.heap.size := Nat.lt_of_lt_of_le hsz hg.size
            clear hg hc hz hbk hA hB hC hD
            refine hK.out _ _ ⟨(FX w.heap.size 0 (.int .i64 k) (by simp)).1, (FX w.heap.size 1 (.slice p xs.length c) (by simp)).1, (FX (w.heap.size + 1) 0 (.int .i64 k') (by simp)).1, (FX (w.heap.size + 1) 1 (.slice q ys.length d) (by simp)).1⟩ (fun hHeld => ?_)
            clear hK KK
            refine Rk.takeP (i := 12) (v := ?_) rfl (by kernel_rfl) (by kernel_rfl) (by kernel_rfl) (by kernel_rfl) (fun _ _ _ h => h) (Or.inl ⟨by kernel_rfl, ?_⟩) (by assumption) ?_
            rotate_left
            · ((intro w hSw; go_simp) <;> with_reducible rfl)
            try simp only [Act.put, List.setIfInBounds_toArray, List.set_cons_zero, List.set_cons_succ]
            refine Rk.tail [14] [_] (by kernel_rfl) (by kernel_rfl) rfl (by decide) ?_
            have e2 := FX.head
            have e0 := FX.tail.head
            have ze0 := FX.tail.headF
            have e1 := FX.tail.tail.head
            have ze1 := FX.tail.tail.headF
            have e3 := FX.tail.tail.tail.tail.tail.tail.tail.head
            have ze3 := FX.tail.tail.tail.tail.tail.tail.tail.headF
            have e4 := FX.tail.tail.tail.tail.tail.tail.tail.tail.head
            have ze4 := FX.tail.tail.tail.tail.tail.tail.tail.tail.headF
            clear FX hHeld
            have hr1 : w.heap.size + 1 + 1 < g8 := by omega
            go_wp2
            exact bodyPost_ret (v := .tuple #[.agg #[.int .i64 0, .slice none 0 0], .int .i64 3]) (by simp [results, Tryd.results67, go_sem, e0, e1, e2, e3, e4, ze0, ze1]) rfl (by rw [HR.out]; exact LR.zero rfl (below2 (below2 KX (by omega) _ _) (by omega) _ _))
        · rw [if_pos (by kernel_rfl)]
          go_simp
          have BA : Below u1.drew.heap.size u1.drew (u1.alloc (Obj.cells #[Value.int .i64 0, Value.slice none 0 0] 24)).drew := below_undrew (((Below.refl u1.heap.size u1).alloc (Nat.le_refl _) (Obj.cells #[Value.int .i64 0, Value.slice none 0 0] 24)).drew)
          replace FX := Cl.cons (u := (u1.alloc (Obj.cells #[Value.int .i64 0, Value.slice none 0 0] 24)).drew) (b := u1.heap.size) (o := 0) (v := .int .i64 0) (by go_cell) (by first | go_cell | simp) (Cl.cons (b := u1.heap.size) (o := 1) (v := .slice none 0 0) (by go_cell) (by first | go_cell | simp) (FX.below BA))
          replace KX := KX.trans (BA.mono KX.size)
          have hg8 : gf < u1.heap.size := hsz
          replace hsz : gf < (u1.alloc (Obj.cells #[Value.int .i64 0, Value.slice none 0 0] 24)).drew.heap.size := Nat.lt_of_lt_of_le hsz BA.size
          have h8s : u1.heap.size < (u1.alloc (Obj.cells #[Value.int .i64 0, Value.slice none 0 0] 24)).drew.heap.size := by simp
          refine hK.out _ _ ⟨(FX w.heap.size 0 (.int .i64 k) (by simp)).1, (FX w.heap.size 1 (.slice p xs.length c) (by simp)).1, (FX (w.heap.size + 1) 0 (.int .i64 k') (by simp)).1, (FX (w.heap.size + 1) 1 (.slice q ys.length d) (by simp)).1⟩ (fun hHeld => ?_)
          clear hK KK
          generalize (u1.alloc (Obj.cells #[Value.int .i64 0, Value.slice none 0 0] 24)).drew = uA at *
          generalize u1.heap.size = g8 at *
          have hK : True := trivial
          have KK : True := trivial
          clear hK KK
          refine Rk.one (i := 5) (by kernel_rfl) rfl (fun KK hK => ?_)
          rw [if_pos (by kernel_rfl)]
          go_simp
          have hA := (FX gf 0 (.bool true) (by simp)).1
          have hB := (FX gf 0 (.bool true) (by simp)).2
          ((with_reducible refine (CP.out true uA hA hB).mono ?_); rintro e u2 ⟨rfl, hg, hc, hz⟩)
          replace FX := Cl.cons hc hz ((FX.sub (L' := [(g8, 0, .int .i64 0), (g8, 1, .slice none 0 0), (w.heap.size, 0, .int .i64 k), (w.heap.size, 1, .slice p xs.length c), (w.heap.size + 1, 0, .int .i64 k'), (w.heap.size + 1, 1, .slice q ys.length d), (w.heap.size + 1 + 1, 0, .int .i64 0), (w.heap.size + 1 + 1, 1, .slice none 0 0)]) (by intro x hx; simp only [List.mem_cons, List.not_mem_nil, or_false] at hx ⊢; rcases hx with h | h | h | h | h | h | h | h <;> simp [h])).grown hg (by simp only [List.forall_mem_cons, ne_eq, Option.some.injEq]; simp; omega))
          replace KX := below_grown KX hg KX.size (by intro q' hq'; cases hq'; omega)
          replace hsz : gf < u2.heap.size := Nat.lt_of_lt_of_le hsz hg.size
          replace h8s : g8 < u2.heap.size := Nat.lt_of_lt_of_le h8s hg.size
          clear hg hc hz hA hB
          refine hK.out _ _ ⟨(FX w.heap.size 0 (.int .i64 k) (by simp)).1, (FX w.heap.size 1 (.slice p xs.length c) (by simp)).1, (FX (w.heap.size + 1) 0 (.int .i64 k') (by simp)).1, (FX (w.heap.size + 1) 1 (.slice q ys.length d) (by simp)).1⟩ (fun hHeld => ?_)
          clear hK KK
          refine Rk.one (i := 11) (by kernel_rfl) rfl (fun KK hK => ?_)
          rw [if_pos (by kernel_rfl)]
          go_simp
          have hA := (FX gf 0 (.bool (true && fit64 (k + k'))) (by simp)).1
          have hB := (FX gf 0 (.bool (true && fit64 (k + k'))) (by simp)).2
          have hC := Lib.hid (SlM.keep KX RA.out)
          have hD := Lib.hid (SlM.keep KX RB.out)
          ((with_reducible refine (CM.out (true && fit64 (k + k')) u2 hC hD hA hB).mono ?_); rintro e u3 ⟨pl, cl, rfl, SL, hg, hc, hz, hbk⟩)
          rw [HV.out] at hc
          replace FX := Cl.cons hc hz ((FX.sub (L' := [(g8, 0, .int .i64 0), (g8, 1, .slice none 0 0), (w.heap.size, 0, .int .i64 k), (w.heap.size, 1, .slice p xs.length c), (w.heap.size + 1, 0, .int .i64 k'), (w.heap.size + 1, 1, .slice q ys.length d), (w.heap.size + 1 + 1, 0, .int .i64 0), (w.heap.size + 1 + 1, 1, .slice none 0 0)]) (by intro x hx; simp only [List.mem_cons, List.not_mem_nil, or_false] at hx ⊢; rcases hx with h | h | h | h | h | h | h | h <;> simp [h])).grown hg (by simp only [List.forall_mem_cons, ne_eq, Option.some.injEq]; simp; omega))
          have hlt8 := Sl_lt SL
          have hnr : ∀ b o, pl = some ⟨b, o, none⟩ → V ≠ [] → b ≠ w.heap.size + 1 + 1 := fun b o h1 _ => by have := hbk b o h1; omega
          have hne8 : ∀ b o, pl = some ⟨b, o, none⟩ → V ≠ [] → b ≠ g8 := fun b o h1 _ => by have := hbk b o h1; omega
          replace KX := below_grown KX hg KX.size (by intro q' hq'; cases hq'; omega)
          replace hsz : gf < u3.heap.size := Nat.lt_of_lt_of_le hsz hg.size
          clear hg hc hz hbk hA hB hC hD
          refine hK.out _ _ ⟨(FX w.heap.size 0 (.int .i64 k) (by simp)).1, (FX w.heap.size 1 (.slice p xs.length c) (by simp)).1, (FX (w.heap.size + 1) 0 (.int .i64 k') (by simp)).1, (FX (w.heap.size + 1) 1 (.slice q ys.length d) (by simp)).1⟩ (fun hHeld => ?_)
          clear hK KK
          refine Rk.takeP (i := 12) (v := ?_) rfl (by kernel_rfl) (by kernel_rfl) (by kernel_rfl) (by kernel_rfl) (fun _ _ _ h => h) (Or.inl ⟨by kernel_rfl, ?_⟩) (by assumption) ?_
          rotate_left
          · ((intro w hSw; go_simp) <;> with_reducible rfl)
          try simp only [Act.put, List.setIfInBounds_toArray, List.set_cons_zero, List.set_cons_succ]
          refine Rk.tail [14] [_] (by kernel_rfl) (by kernel_rfl) rfl (by decide) ?_
          have e2 := FX.head
          have e0 := FX.tail.head
          have ze0 := FX.tail.headF
          have e1 := FX.tail.tail.head
          have ze1 := FX.tail.tail.headF
          have e3 := FX.tail.tail.tail.tail.tail.tail.tail.head
          have ze3 := FX.tail.tail.tail.tail.tail.tail.tail.headF
          have e4 := FX.tail.tail.tail.tail.tail.tail.tail.tail.head
          have ze4 := FX.tail.tail.tail.tail.tail.tail.tail.tail.headF
          clear FX hHeld
          have hr1 : w.heap.size + 1 + 1 < g8 := by omega
          go_wp2
          exact bodyPost_ret (v := .tuple #[.agg #[.int .i64 0, .slice none 0 0], .int .i64 3]) (by simp [results, Tryd.results67, go_sem, e0, e1, e2, e3, e4, ze0, ze1]) rfl (by rw [HR.out]; exact LR.zero rfl (below2 (below2 KX (by omega) _ _) (by omega) _ _))
      · have HR := Lib.hid (HRt.out rfl)
        clear HRf HRt
        refine Rk.begin (S := fun wS => wS.cell? ⟨w.heap.size, 0, none⟩ = some (.int .i64 k) ∧ wS.cell? ⟨w.heap.size, 1, none⟩ = some (.slice p xs.length c) ∧ wS.cell? ⟨w.heap.size + 1, 0, none⟩ = some (.int .i64 k') ∧ wS.cell? ⟨w.heap.size + 1, 1, none⟩ = some (.slice q ys.length d)) 14 (by kernel_rfl) hz9 (fun hHeld => ?_)
        refine Rk.takeP (i := 0) (v := ?_) rfl (by kernel_rfl) (by kernel_rfl) (by kernel_rfl) (by kernel_rfl) (fun _ _ _ h => h) (Or.inl ⟨by kernel_rfl, ?_⟩) (by assumption) ?_
        rotate_left
        · ((intro w hSw; go_simp) <;> with_reducible rfl)
        try simp only [Act.put, List.setIfInBounds_toArray, List.set_cons_zero, List.set_cons_succ]
        refine Rk.takeP (i := 1) (v := ?_) rfl (by kernel_rfl) (by kernel_rfl) (by kernel_rfl) (by kernel_rfl) (fun _ _ _ h => h) (Or.inl ⟨by kernel_rfl, ?_⟩) (by assumption) ?_
        rotate_left
        · ((intro w hSw; go_simp) <;> with_reducible rfl)
        try simp only [Act.put, List.setIfInBounds_toArray, List.set_cons_zero, List.set_cons_succ]
        refine Rk.take [14] (i := 2) (v := ?_) rfl (by kernel_rfl) (by kernel_rfl) (by kernel_rfl) (by kernel_rfl) (by kernel_rfl) (fun _ _ _ h => h) (Or.inl ⟨by kernel_rfl, ?_⟩) (by assumption) ?_
        rotate_left
        · ((intro w hSw; (try dsimp only at hSw); go_simp) <;> with_reducible rfl)
        try simp only [Act.put, List.setIfInBounds_toArray, List.set_cons_zero, List.set_cons_succ]
        refine Rk.takeP (i := 3) (v := ?_) rfl (by kernel_rfl) (by kernel_rfl) (by kernel_rfl) (by kernel_rfl) (fun _ _ _ h => h) (Or.inl ⟨by kernel_rfl, ?_⟩) (by assumption) ?_
        rotate_left
        · ((intro w hSw; go_simp) <;> with_reducible rfl)
        try simp only [Act.put, List.setIfInBounds_toArray, List.set_cons_zero, List.set_cons_succ]
        refine Rk.take [14] (i := 4) (v := ?_) rfl (by kernel_rfl) (by kernel_rfl) (by kernel_rfl) (by kernel_rfl) (by kernel_rfl) (fun _ _ _ h => h) (Or.inl ⟨by kernel_rfl, ?_⟩) (by assumption) ?_
        rotate_left
        · ((intro w hSw; (try dsimp only at hSw); go_simp) <;> with_reducible rfl)
        try simp only [Act.put, List.setIfInBounds_toArray, List.set_cons_zero, List.set_cons_succ]
        refine Rk.takeP (i := 6) (v := ?_) rfl (by kernel_rfl) (by kernel_rfl) (by kernel_rfl) (by kernel_rfl) (fun _ _ _ h => h) (Or.inl ⟨by kernel_rfl, ?_⟩) (by assumption) ?_
        rotate_left
        · ((intro w hSw; go_simp) <;> with_reducible rfl)
        try simp only [Act.put, List.setIfInBounds_toArray, List.set_cons_zero, List.set_cons_succ]
        refine Rk.take [14] (i := 7) (v := ?_) rfl (by kernel_rfl) (by kernel_rfl) (by kernel_rfl) (by kernel_rfl) (by kernel_rfl) (fun _ _ _ h => h) (Or.inl ⟨by kernel_rfl, ?_⟩) (by assumption) ?_
        rotate_left
        · ((intro w hSw; (try dsimp only at hSw); go_simp) <;> with_reducible rfl)
        try simp only [Act.put, List.setIfInBounds_toArray, List.set_cons_zero, List.set_cons_succ]
        refine Rk.takeP (i := 8) (v := ?_) rfl (by kernel_rfl) (by kernel_rfl) (by kernel_rfl) (by kernel_rfl) (fun _ _ _ h => h) (Or.inl ⟨by kernel_rfl, ?_⟩) (by assumption) ?_
        rotate_left
        · ((intro w hSw; go_simp) <;> with_reducible rfl)
        try simp only [Act.put, List.setIfInBounds_toArray, List.set_cons_zero, List.set_cons_succ]
        refine Rk.take [14] (i := 9) (v := ?_) rfl (by kernel_rfl) (by kernel_rfl) (by kernel_rfl) (by kernel_rfl) (by kernel_rfl) (fun _ _ _ h => h) (Or.inl ⟨by kernel_rfl, ?_⟩) (by assumption) ?_
        rotate_left
        · ((intro w hSw; (try dsimp only at hSw); go_simp) <;> with_reducible rfl)
        try simp only [Act.put, List.setIfInBounds_toArray, List.set_cons_zero, List.set_cons_succ]
        refine Rk.takeP (i := 10) (v := ?_) rfl (by kernel_rfl) (by kernel_rfl) (by kernel_rfl) (by kernel_rfl) (fun _ _ _ h => h) (Or.inl ⟨by kernel_rfl, ?_⟩) (by assumption) ?_
        rotate_left
        · ((intro w hSw; go_simp) <;> with_reducible rfl)
        try simp only [Act.put, List.setIfInBounds_toArray, List.set_cons_zero, List.set_cons_succ]
        refine Rk.two (i := 5) (j := 13) (by kernel_rfl) rfl rfl (fun KK hK => ?_) (fun KK hK => ?_)
        · rw [if_pos (by kernel_rfl)]
          go_simp
          have hA := (FX gf 0 (.bool true) (by simp)).1
          have hB := (FX gf 0 (.bool true) (by simp)).2
          ((with_reducible refine (CP.out true u1.drew hA hB).mono ?_); rintro e u2 ⟨rfl, hg, hc, hz⟩)
          replace FX := Cl.cons hc hz ((FX.sub (L' := [(w.heap.size, 0, .int .i64 k), (w.heap.size, 1, .slice p xs.length c), (w.heap.size + 1, 0, .int .i64 k'), (w.heap.size + 1, 1, .slice q ys.length d), (w.heap.size + 1 + 1, 0, .int .i64 0), (w.heap.size + 1 + 1, 1, .slice none 0 0)]) (by intro x hx; simp only [List.mem_cons, List.not_mem_nil, or_false] at hx ⊢; rcases hx with h | h | h | h | h | h <;> simp [h])).grown hg (by simp only [List.forall_mem_cons, ne_eq, Option.some.injEq]; simp; omega))
          replace KX := below_grown KX hg KX.size (by intro q' hq'; cases hq'; omega)
          replace hsz : gf < u2.heap.size := Nat.lt_of_lt_of_le hsz hg.size
          clear hg hc hz hA hB
          refine hK.out _ _ ⟨(FX w.heap.size 0 (.int .i64 k) (by simp)).1, (FX w.heap.size 1 (.slice p xs.length c) (by simp)).1, (FX (w.heap.size + 1) 0 (.int .i64 k') (by simp)).1, (FX (w.heap.size + 1) 1 (.slice q ys.length d) (by simp)).1⟩ (fun hHeld => ?_)
          clear hK KK
          refine Rk.two (i := 11) (j := 13) (by kernel_rfl) rfl rfl (fun KK hK => ?_) (fun KK hK => ?_)
          · rw [if_pos (by kernel_rfl)]
            go_simp
            have hA := (FX gf 0 (.bool (true && fit64 (k + k'))) (by simp)).1
            have hB := (FX gf 0 (.bool (true && fit64 (k + k'))) (by simp)).2
            have hC := Lib.hid (SlM.keep KX RA.out)
            have hD := Lib.hid (SlM.keep KX RB.out)
            ((with_reducible refine (CM.out (true && fit64 (k + k')) u2 hC hD hA hB).mono ?_); rintro e u3 ⟨pl, cl, rfl, SL, hg, hc, hz, hbk⟩)
            rw [HV.out] at hc
            replace FX := Cl.cons hc hz ((FX.sub (L' := [(w.heap.size, 0, .int .i64 k), (w.heap.size, 1, .slice p xs.length c), (w.heap.size + 1, 0, .int .i64 k'), (w.heap.size + 1, 1, .slice q ys.length d), (w.heap.size + 1 + 1, 0, .int .i64 0), (w.heap.size + 1 + 1, 1, .slice none 0 0)]) (by intro x hx; simp only [List.mem_cons, List.not_mem_nil, or_false] at hx ⊢; rcases hx with h | h | h | h | h | h <;> simp [h])).grown hg (by simp only [List.forall_mem_cons, ne_eq, Option.some.injEq]; simp; omega))
            have hlt8 := Sl_lt SL
            have hnr : ∀ b o, pl = some ⟨b, o, none⟩ → V ≠ [] → b ≠ w.heap.size + 1 + 1 := fun b o h1 _ => by have := hbk b o h1; omega
            replace KX := below_grown KX hg KX.size (by intro q' hq'; cases hq'; omega)
            replace hsz : gf < u3.heap.size := Nat.lt_of_lt_of_le hsz hg.size
            clear hg hc hz hbk hA hB hC hD
            refine hK.out _ _ ⟨(FX w.heap.size 0 (.int .i64 k) (by simp)).1, (FX w.heap.size 1 (.slice p xs.length c) (by simp)).1, (FX (w.heap.size + 1) 0 (.int .i64 k') (by simp)).1, (FX (w.heap.size + 1) 1 (.slice q ys.length d) (by simp)).1⟩ (fun hHeld => ?_)
            clear hK KK
            refine Rk.takeP (i := 12) (v := ?_) rfl (by kernel_rfl) (by kernel_rfl) (by kernel_rfl) (by kernel_rfl) (fun _ _ _ h => h) (Or.inl ⟨by kernel_rfl, ?_⟩) (by assumption) ?_
            rotate_left
            · ((intro w hSw; go_simp) <;> with_reducible rfl)
            try simp only [Act.put, List.setIfInBounds_toArray, List.set_cons_zero, List.set_cons_succ]
            refine Rk.one (i := 13) (by kernel_rfl) rfl (fun KK hK => ?_)
            rw [if_pos (by kernel_rfl)]
            go_simp
            have BA : Below u3.heap.size u3 (u3.alloc (Obj.cells #[Value.int .i64 0, Value.slice none 0 0] 24)) := (Below.refl u3.heap.size u3).alloc (Nat.le_refl _) (Obj.cells #[Value.int .i64 0, Value.slice none 0 0] 24)
            replace FX := Cl.cons (u := (u3.alloc (Obj.cells #[Value.int .i64 0, Value.slice none 0 0] 24))) (b := u3.heap.size) (o := 0) (v := .int .i64 0) (by go_cell) (by first | go_cell | simp) (Cl.cons (b := u3.heap.size) (o := 1) (v := .slice none 0 0) (by go_cell) (by first | go_cell | simp) (FX.below BA))
            replace KX := KX.trans (BA.mono KX.size)
            have hg8 : gf < u3.heap.size := hsz
            replace SL := SL.below BA
            have hne8 : ∀ b o, pl = some ⟨b, o, none⟩ → V ≠ [] → b ≠ u3.heap.size := fun b o h1 h2 => Nat.ne_of_lt (hlt8 b o h1 h2)
            replace hsz : gf < (u3.alloc (Obj.cells #[Value.int .i64 0, Value.slice none 0 0] 24)).heap.size := Nat.lt_of_lt_of_le hsz BA.size
            have h8s : u3.heap.size < (u3.alloc (Obj.cells #[Value.int .i64 0, Value.slice none 0 0] 24)).heap.size := by simp
            refine hK.out _ _ ⟨(FX w.heap.size 0 (.int .i64 k) (by simp)).1, (FX w.heap.size 1 (.slice p xs.length c) (by simp)).1, (FX (w.heap.size + 1) 0 (.int .i64 k') (by simp)).1, (FX (w.heap.size + 1) 1 (.slice q ys.length d) (by simp)).1⟩ (fun hHeld => ?_)
            clear hK KK
            generalize (u3.alloc (Obj.cells #[Value.int .i64 0, Value.slice none 0 0] 24)) = uA at *
            generalize u3.heap.size = g8 at *
            have hK : True := trivial
            have KK : True := trivial
            clear hK KK
            refine Rk.tail [14] [_] (by kernel_rfl) (by kernel_rfl) rfl (by decide) ?_
            have e0 := FX.head
            have ze0 := FX.headF
            have e1 := FX.tail.head
            have ze1 := FX.tail.headF
            have e2 := FX.tail.tail.head
            have e3 := FX.tail.tail.tail.tail.tail.tail.tail.head
            have ze3 := FX.tail.tail.tail.tail.tail.tail.tail.headF
            have e4 := FX.tail.tail.tail.tail.tail.tail.tail.tail.head
            have ze4 := FX.tail.tail.tail.tail.tail.tail.tail.tail.headF
            clear FX hHeld
            have hr1 : w.heap.size + 1 + 1 < g8 := by omega
            go_wp2
            exact bodyPost_ret (v := .tuple #[.agg #[.int .i64 (wrap64 (k + k')), .slice pl V.length cl], .int .i64 0]) (by simp [results, Tryd.results67, go_sem, e0, e1, e2, e3, e4, ze0, ze1]) rfl (by rw [HR.out]; exact ⟨pl, cl, rfl, Sl_set2 (Sl_set2 SL hne8) hnr, below2 (below2 KX (by omega) _ _) (by omega) _ _⟩)
          · rw [if_pos (by kernel_rfl)]
            go_simp
            have BA : Below u2.heap.size u2 (u2.alloc (Obj.cells #[Value.int .i64 0, Value.slice none 0 0] 24)) := (Below.refl u2.heap.size u2).alloc (Nat.le_refl _) (Obj.cells #[Value.int .i64 0, Value.slice none 0 0] 24)
            replace FX := Cl.cons (u := (u2.alloc (Obj.cells #[Value.int .i64 0, Value.slice none 0 0] 24))) (b := u2.heap.size) (o := 0) (v := .int .i64 0) (by go_cell) (by first | go_cell | simp) (Cl.cons (b := u2.heap.size) (o := 1) (v := .slice none 0 0) (by go_cell) (by first | go_cell | simp) (FX.below BA))
            replace KX := KX.trans (BA.mono KX.size)
            have hg8 : gf < u2.heap.size := hsz
            replace hsz : gf < (u2.alloc (Obj.cells #[Value.int .i64 0, Value.slice none 0 0] 24)).heap.size := Nat.lt_of_lt_of_le hsz BA.size
            have h8s : u2.heap.size < (u2.alloc (Obj.cells #[Value.int .i64 0, Value.slice none 0 0] 24)).heap.size := by simp
            refine hK.out _ _ ⟨(FX w.heap.size 0 (.int .i64 k) (by simp)).1, (FX w.heap.size 1 (.slice p xs.length c) (by simp)).1, (FX (w.heap.size + 1) 0 (.int .i64 k') (by simp)).1, (FX (w.heap.size + 1) 1 (.slice q ys.length d) (by simp)).1⟩ (fun hHeld => ?_)
            clear hK KK
            generalize (u2.alloc (Obj.cells #[Value.int .i64 0, Value.slice none 0 0] 24)) = uA at *
            generalize u2.heap.size = g8 at *
            have hK : True := trivial
            have KK : True := trivial
            clear hK KK
            refine Rk.one (i := 11) (by kernel_rfl) rfl (fun KK hK => ?_)
            rw [if_pos (by kernel_rfl)]
            go_simp
            have hA := (FX gf 0 (.bool (true && fit64 (k + k'))) (by simp)).1
            have hB := (FX gf 0 (.bool (true && fit64 (k + k'))) (by simp)).2
            have hC := Lib.hid (SlM.keep KX RA.out)
            have hD := Lib.hid (SlM.keep KX RB.out)
            ((with_reducible refine (CM.out (true && fit64 (k + k')) uA hC hD hA hB).mono ?_); rintro e u3 ⟨pl, cl, rfl, SL, hg, hc, hz, hbk⟩)
            rw [HV.out] at hc
            replace FX := Cl.cons hc hz ((FX.sub (L' := [(g8, 0, .int .i64 0), (g8, 1, .slice none 0 0), (w.heap.size, 0, .int .i64 k), (w.heap.size, 1, .slice p xs.length c), (w.heap.size + 1, 0, .int .i64 k'), (w.heap.size + 1, 1, .slice q ys.length d), (w.heap.size + 1 + 1, 0, .int .i64 0), (w.heap.size + 1 + 1, 1, .slice none 0 0)]) (by intro x hx; simp only [List.mem_cons, List.not_mem_nil, or_false] at hx ⊢; rcases hx with h | h | h | h | h | h | h | h <;> simp [h])).grown hg (by simp only [List.forall_mem_cons, ne_eq, Option.some.injEq]; simp; omega))
            have hlt8 := Sl_lt SL
            have hnr : ∀ b o, pl = some ⟨b, o, none⟩ → V ≠ [] → b ≠ w.heap.size + 1 + 1 := fun b o h1 _ => by have := hbk b o h1; omega
            have hne8 : ∀ b o, pl = some ⟨b, o, none⟩ → V ≠ [] → b ≠ g8 := fun b o h1 _ => by have := hbk b o h1; omega
            replace KX := below_grown KX hg KX.size (by intro q' hq'; cases hq'; omega)
            replace hsz : gf < u3.heap.size := Nat.lt_of_lt_of_le hsz hg.size
            clear hg hc hz hbk hA hB hC hD
            refine hK.out _ _ ⟨(FX w.heap.size 0 (.int .i64 k) (by simp)).1, (FX w.heap.size 1 (.slice p xs.length c) (by simp)).1, (FX (w.heap.size + 1) 0 (.int .i64 k') (by simp)).1, (FX (w.heap.size + 1) 1 (.slice q ys.length d) (by simp)).1⟩ (fun hHeld => ?_)
            clear hK KK
            refine Rk.takeP (i := 12) (v := ?_) rfl (by kernel_rfl) (by kernel_rfl) (by kernel_rfl) (by kernel_rfl) (fun _ _ _ h => h) (Or.inl ⟨by kernel_rfl, ?_⟩) (by assumption) ?_
            rotate_left
            · ((intro w hSw; go_simp) <;> with_reducible rfl)
            try simp only [Act.put, List.setIfInBounds_toArray, List.set_cons_zero, List.set_cons_succ]
            refine Rk.tail [14] [_] (by kernel_rfl) (by kernel_rfl) rfl (by decide) ?_
            have e2 := FX.head
            have e0 := FX.tail.head
            have ze0 := FX.tail.headF
            have e1 := FX.tail.tail.head
            have ze1 := FX.tail.tail.headF
            have e3 := FX.tail.tail.tail.tail.tail.tail.tail.head
            have ze3 := FX.tail.tail.tail.tail.tail.tail.tail.headF
            have e4 := FX.tail.tail.tail.tail.tail.tail.tail.tail.head
            have ze4 := FX.tail.tail.tail.tail.tail.tail.tail.tail.headF
            clear FX hHeld
            have hr1 : w.heap.size + 1 + 1 < g8 := by omega
            go_wp2
            exact bodyPost_ret (v := .tuple #[.agg #[.int .i64 (wrap64 (k + k')), .slice pl V.length cl], .int .i64 0]) (by simp [results, Tryd.results67, go_sem, e0, e1, e2, e3, e4, ze0, ze1]) rfl (by rw [HR.out]; exact ⟨pl, cl, rfl, Sl_set2 (Sl_set2 SL hne8) hnr, below2 (below2 KX (by omega) _ _) (by omega) _ _⟩)
        · rw [if_pos (by kernel_rfl)]
          go_simp
          have BA : Below u1.drew.heap.size u1.drew (u1.alloc (Obj.cells #[Value.int .i64 0, Value.slice none 0 0] 24)).drew := below_undrew (((Below.refl u1.heap.size u1).alloc (Nat.le_refl _) (Obj.cells #[Value.int .i64 0, Value.slice none 0 0] 24)).drew)
          replace FX := Cl.cons (u := (u1.alloc (Obj.cells #[Value.int .i64 0, Value.slice none 0 0] 24)).drew) (b := u1.heap.size) (o := 0) (v := .int .i64 0) (by go_cell) (by first | go_cell | simp) (Cl.cons (b := u1.heap.size) (o := 1) (v := .slice none 0 0) (by go_cell) (by first | go_cell | simp) (FX.below BA))
          replace KX := KX.trans (BA.mono KX.size)
          have hg8 : gf < u1.heap.size := hsz
          replace hsz : gf < (u1.alloc (Obj.cells #[Value.int .i64 0, Value.slice none 0 0] 24)).drew.heap.size := Nat.lt_of_lt_of_le hsz BA.size
          have h8s : u1.heap.size < (u1.alloc (Obj.cells #[Value.int .i64 0, Value.slice none 0 0] 24)).drew.heap.size := by simp
          refine hK.out _ _ ⟨(FX w.heap.size 0 (.int .i64 k) (by simp)).1, (FX w.heap.size 1 (.slice p xs.length c) (by simp)).1, (FX (w.heap.size + 1) 0 (.int .i64 k') (by simp)).1, (FX (w.heap.size + 1) 1 (.slice q ys.length d) (by simp)).1⟩ (fun hHeld => ?_)
          clear hK KK
          generalize (u1.alloc (Obj.cells #[Value.int .i64 0, Value.slice none 0 0] 24)).drew = uA at *
          generalize u1.heap.size = g8 at *
          have hK : True := trivial
          have KK : True := trivial
          clear hK KK
          refine Rk.one (i := 5) (by kernel_rfl) rfl (fun KK hK => ?_)
          rw [if_pos (by kernel_rfl)]
          go_simp
          have hA := (FX gf 0 (.bool true) (by simp)).1
          have hB := (FX gf 0 (.bool true) (by simp)).2
          ((with_reducible refine (CP.out true uA hA hB).mono ?_); rintro e u2 ⟨rfl, hg, hc, hz⟩)
          replace FX := Cl.cons hc hz ((FX.sub (L' := [(g8, 0, .int .i64 0), (g8, 1, .slice none 0 0), (w.heap.size, 0, .int .i64 k), (w.heap.size, 1, .slice p xs.length c), (w.heap.size + 1, 0, .int .i64 k'), (w.heap.size + 1, 1, .slice q ys.length d), (w.heap.size + 1 + 1, 0, .int .i64 0), (w.heap.size + 1 + 1, 1, .slice none 0 0)]) (by intro x hx; simp only [List.mem_cons, List.not_mem_nil, or_false] at hx ⊢; rcases hx with h | h | h | h | h | h | h | h <;> simp [h])).grown hg (by simp only [List.forall_mem_cons, ne_eq, Option.some.injEq]; simp; omega))
          replace KX := below_grown KX hg KX.size (by intro q' hq'; cases hq'; omega)
          replace hsz : gf < u2.heap.size := Nat.lt_of_lt_of_le hsz hg.size
          replace h8s : g8 < u2.heap.size := Nat.lt_of_lt_of_le h8s hg.size
          clear hg hc hz hA hB
          refine hK.out _ _ ⟨(FX w.heap.size 0 (.int .i64 k) (by simp)).1, (FX w.heap.size 1 (.slice p xs.length c) (by simp)).1, (FX (w.heap.size + 1) 0 (.int .i64 k') (by simp)).1, (FX (w.heap.size + 1) 1 (.slice q ys.length d) (by simp)).1⟩ (fun hHeld => ?_)
          clear hK KK
          refine Rk.one (i := 11) (by kernel_rfl) rfl (fun KK hK => ?_)
          rw [if_pos (by kernel_rfl)]
          go_simp
          have hA := (FX gf 0 (.bool (true && fit64 (k + k'))) (by simp)).1
          have hB := (FX gf 0 (.bool (true && fit64 (k + k'))) (by simp)).2
          have hC := Lib.hid (SlM.keep KX RA.out)
          have hD := Lib.hid (SlM.keep KX RB.out)
          ((with_reducible refine (CM.out (true && fit64 (k + k')) u2 hC hD hA hB).mono ?_); rintro e u3 ⟨pl, cl, rfl, SL, hg, hc, hz, hbk⟩)
          rw [HV.out] at hc
          replace FX := Cl.cons hc hz ((FX.sub (L' := [(g8, 0, .int .i64 0), (g8, 1, .slice none 0 0), (w.heap.size, 0, .int .i64 k), (w.heap.size, 1, .slice p xs.length c), (w.heap.size + 1, 0, .int .i64 k'), (w.heap.size + 1, 1, .slice q ys.length d), (w.heap.size + 1 + 1, 0, .int .i64 0), (w.heap.size + 1 + 1, 1, .slice none 0 0)]) (by intro x hx; simp only [List.mem_cons, List.not_mem_nil, or_false] at hx ⊢; rcases hx with h | h | h | h | h | h | h | h <;> simp [h])).grown hg (by simp only [List.forall_mem_cons, ne_eq, Option.some.injEq]; simp; omega))
          have hlt8 := Sl_lt SL
          have hnr : ∀ b o, pl = some ⟨b, o, none⟩ → V ≠ [] → b ≠ w.heap.size + 1 + 1 := fun b o h1 _ => by have := hbk b o h1; omega
          have hne8 : ∀ b o, pl = some ⟨b, o, none⟩ → V ≠ [] → b ≠ g8 := fun b o h1 _ => by have := hbk b o h1; omega
          replace KX := below_grown KX hg KX.size (by intro q' hq'; cases hq'; omega)
          replace hsz : gf < u3.heap.size := Nat.lt_of_lt_of_le hsz hg.size
          clear hg hc hz hbk hA hB hC hD
          refine hK.out _ _ ⟨(FX w.heap.size 0 (.int .i64 k) (by simp)).1, (FX w.heap.size 1 (.slice p xs.length c) (by simp)).1, (FX (w.heap.size + 1) 0 (.int .i64 k') (by simp)).1, (FX (w.heap.size + 1) 1 (.slice q ys.length d) (by simp)).1⟩ (fun hHeld => ?_)
          clear hK KK
          refine Rk.takeP (i := 12) (v := ?_) rfl (by kernel_rfl) (by kernel_rfl) (by kernel_rfl) (by kernel_rfl) (fun _ _ _ h => h) (Or.inl ⟨by kernel_rfl, ?_⟩) (by assumption) ?_
          rotate_left
          · ((intro w hSw; go_simp) <;> with_reducible rfl)
          try simp only [Act.put, List.setIfInBounds_toArray, List.set_cons_zero, List.set_cons_succ]
          refine Rk.tail [14] [_] (by kernel_rfl) (by kernel_rfl) rfl (by decide) ?_
          have e2 := FX.head
          have e0 := FX.tail.head
          have ze0 := FX.tail.headF
          have e1 := FX.tail.tail.head
          have ze1 := FX.tail.tail.headF
          have e3 := FX.tail.tail.tail.tail.tail.tail.tail.head
          have ze3 := FX.tail.tail.tail.tail.tail.tail.tail.headF
          have e4 := FX.tail.tail.tail.tail.tail.tail.tail.tail.head
          have ze4 := FX.tail.tail.tail.tail.tail.tail.tail.tail.headF
          clear FX hHeld
          have hr1 : w.heap.size + 1 + 1 < g8 := by omega
          go_wp2
          exact bodyPost_ret (v := .tuple #[.agg #[.int .i64 (wrap64 (k + k')), .slice pl V.length cl], .int .i64 0]) (by simp [results, Tryd.results67, go_sem, e0, e1, e2, e3, e4, ze0, ze1]) rfl (by rw [HR.out]; exact ⟨pl, cl, rfl, Sl_set2 (Sl_set2 SL hne8) hnr, below2 (below2 KX (by omega) _ _) (by omega) _ _⟩)
end Go.Proofs.YtbicmlkjonaccaaDoor.Ln
