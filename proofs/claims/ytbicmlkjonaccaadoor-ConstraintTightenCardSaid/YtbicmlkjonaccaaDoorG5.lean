/- Linear forms: Scale of the reference. -/
import Derived.Test.YtbicmlkjonaccaaDoorG4

namespace Go.Proofs.YtbicmlkjonaccaaDoor.Ln
open Go.ChangeShapes Go.WideShapes Go.ChangeAt Go.RowKit
set_option linter.unusedVariables false
set_option linter.unusedSimpArgs false
theorem getD_mem {xs : List Mo} {j : Nat} (h : j < xs.length) : xs.getD j mo0 ∈ xs := by
  have e1 : xs.getD j mo0 = xs[j] := by unfold List.getD; rw [List.getElem?_eq_getElem h]; rfl
  rw [e1]
  exact List.getElem_mem h
theorem timesY (a b : Int) (w : World) (ha1 : -9223372036854775808 ≤ a) (ha2 : a ≤ 9223372036854775807) (hb1 : -9223372036854775808 ≤ b) (hb2 : b ≤ 9223372036854775807) (h : fit64 (a * b) = true) :
    Calls Tryd.prog 98 #[.int .i64 a, .int .i64 b] w fun e w' => e = .returned (.tuple #[.int .i64 (wrap64 (a * b)), .bool true]) ∧ w = w' := by
  have C := times a b w ha1 ha2 hb1 hb2
  have hb := fit_yes.1 h
  rw [h, if_pos rfl] at C
  rw [show wrap64 (a * b) = a * b by generalize a * b = n at *; unfold wrap64; omega]
  exact C
theorem timesN (a b : Int) (w : World) (ha1 : -9223372036854775808 ≤ a) (ha2 : a ≤ 9223372036854775807) (hb1 : -9223372036854775808 ≤ b) (hb2 : b ≤ 9223372036854775807) (h : fit64 (a * b) = false) :
    Calls Tryd.prog 98 #[.int .i64 a, .int .i64 b] w fun e w' => e = .returned (.tuple #[.int .i64 0, .bool false]) ∧ w = w' := by
  have C := times a b w ha1 ha2 hb1 hb2
  rw [h, if_neg (by decide)] at C
  exact C
set_option maxRecDepth 100000 in
set_option maxHeartbeats 16000000 in
theorem scale2 (k : Int) (p : Option Addr) (xs : List Mo) (c : Nat) (by' : Int) (w : World) (hn : xs.length ≤ 1000) (RA : Hid (SlM w p xs)) (RS : Hid (∀ i, i < xs.length → (xs.getD i mo0).1.size ≤ maxLen ∧ -9223372036854775808 ≤ (xs.getD i mo0).2 ∧ (xs.getD i mo0).2 ≤ 9223372036854775807))
    (k1 : -9223372036854775808 ≤ k) (k2 : k ≤ 9223372036854775807) (b1 : -9223372036854775808 ≤ by') (b2 : by' ≤ 9223372036854775807) :
    Calls Tryd.prog 68 #[Lv k p xs.length c, .int .i64 by'] w (LR (sclR by' k xs).1 (sclR by' k xs).2.1 (sclR by' k xs).2.2 w) := by
  have C1 := Lib.hid fun (u : World) (h : Hid (SlM u p xs)) => val2 k p xs c u (by unfold maxLen; omega) h (Lib.hid fun i hi => (RS.out i hi).1)
  have B0 : Below w.heap.size w ((w.alloc (Obj.cells #[Value.int .i64 k, Value.slice p xs.length c] 24)).alloc (Obj.cells #[Value.int .i64 0, Value.slice none 0 0] 24)) := (((Below.refl _ _).alloc (Nat.le_refl _) _).alloc (by simp) _)
  have S0 : w.heap.size + 1 < (((w.alloc (Obj.cells #[Value.int .i64 k, Value.slice p xs.length c] 24)).alloc (Obj.cells #[Value.int .i64 0, Value.slice none 0 0] 24))).heap.size := by simp
  have F0 : Cl [(w.heap.size, 0, .int .i64 k), (w.heap.size, 1, .slice p xs.length c), (w.heap.size + 1, 0, .int .i64 0), (w.heap.size + 1, 1, .slice none 0 0)] ((w.alloc (Obj.cells #[Value.int .i64 k, Value.slice p xs.length c] 24)).alloc (Obj.cells #[Value.int .i64 0, Value.slice none 0 0] 24)) :=
    Cl.cons (by go_cell) (by first | go_cell | simp) (Cl.cons (by go_cell) (by first | go_cell | simp) (Cl.cons (by go_cell) (by first | go_cell | simp) (Cl.cons (by go_cell) (by first | go_cell | simp) (Cl.nil _))))
  unfold Lv at *
  obtain ⟨R, hRR⟩ : ∃ R, sclR by' k xs = R := ⟨_, rfl⟩
  have hR : R = if okL xs = false then (0, [], 1) else if by' = 0 then (0, [], 0) else if sclF by' k xs = true then (wrap64 (k * by'), sclV by' xs, 0) else (0, [], 3) := by rw [← hRR]; rfl
  rw [hRR]
  clear hRR
  obtain ⟨ok, hok⟩ : ∃ ok, okL xs = ok := ⟨_, rfl⟩
  cases ok
  · have hv : vL xs = 1 := by unfold vL; rw [hok]; rfl
    have HR := Lib.hid (hR.trans (if_pos hok))
    rw [hv] at C1
    clear hR
    go_enter Tryd.func68, Tryd.ntmps68
    go_wp2_with fail
    generalize ((w.alloc (Obj.cells #[Value.int .i64 k, Value.slice p xs.length c] 24)).alloc (Obj.cells #[Value.int .i64 0, Value.slice none 0 0] 24)) = z at *
    have c0 := F0.head
    refine (C1.out _ (Lib.hid (SlM.keep B0 RA.out))).mono ?_
    rintro e w1 ⟨rfl, hb⟩
    have F1 := F0.below hb
    have K1 := B0.trans (hb.mono B0.size)
    clear F0 hb B0 S0 c0
    have q3 := F1.tail.tail.head
    have zq3 := F1.tail.tail.headF
    have q4 := F1.tail.tail.tail.head
    have zq4 := F1.tail.tail.tail.headF
    go_wp2
    exact bodyPost_ret (v := .tuple #[.agg #[.int .i64 0, .slice none 0 0], .int .i64 1]) (by simp [results, Tryd.results68, go_sem, q3, q4]) rfl (by rw [HR.out]; exact LR.zero rfl (below2 K1 (by omega) _ _))
  · have hv : vL xs = 0 := by unfold vL; rw [hok]; rfl
    replace hR := hR.trans (if_neg (by rw [hok]; decide))
    rw [hv] at C1
    by_cases hby : by' = 0
    · subst hby
      have HR := Lib.hid (hR.trans (if_pos rfl))
      clear hR
      go_enter Tryd.func68, Tryd.ntmps68
      go_wp2_with fail
      generalize ((w.alloc (Obj.cells #[Value.int .i64 k, Value.slice p xs.length c] 24)).alloc (Obj.cells #[Value.int .i64 0, Value.slice none 0 0] 24)) = z at *
      have c0 := F0.head
      refine (C1.out _ (Lib.hid (SlM.keep B0 RA.out))).mono ?_
      rintro e w1 ⟨rfl, hb⟩
      have F1 := F0.below hb
      have K1 := B0.trans (hb.mono B0.size)
      clear F0 hb B0 S0 c0
      have q3 := F1.tail.tail.head
      have zq3 := F1.tail.tail.headF
      have q4 := F1.tail.tail.tail.head
      have zq4 := F1.tail.tail.tail.headF
      go_wp2
      exact bodyPost_ret (v := .tuple #[.agg #[.int .i64 0, .slice none 0 0], .int .i64 0]) (by simp [results, Tryd.results68, go_sem, q3, q4]) rfl (by rw [HR.out]; exact LR.zero rfl (below2 K1 (by omega) _ _))
    · have hbf : (by' == 0) = false := beq_false_of_ne hby
      replace hR := hR.trans (if_neg hby)
      have HN := Lib.hid fun h : ¬ sclF by' k xs = true => hR.trans (if_neg h)
      have HY := Lib.hid fun h : sclF by' k xs = true => hR.trans (if_pos h)
      have TY := Lib.hid fun (x : Int) (u : World) hx1 hx2 h => timesY x by' u hx1 hx2 b1 b2 h
      have TN := Lib.hid fun (x : Int) (u : World) hx1 hx2 h => timesN x by' u hx1 hx2 b1 b2 h
      clear hR hby hv hok
      obtain ⟨fk, hfk⟩ : ∃ f, fit64 (k * by') = f := ⟨_, rfl⟩
      cases fk
      · have HR := Lib.hid (HN.out (by unfold sclF; rw [hfk]; simp))
        have HF := Lib.hid hfk
        clear HN HY hfk
        go_enter Tryd.func68, Tryd.ntmps68
        go_wp2_with fail
        generalize ((w.alloc (Obj.cells #[Value.int .i64 k, Value.slice p xs.length c] 24)).alloc (Obj.cells #[Value.int .i64 0, Value.slice none 0 0] 24)) = z at *
        refine (C1.out _ (Lib.hid (SlM.keep B0 RA.out))).mono ?_
        rintro e w1 ⟨rfl, hb⟩
        have F1 := F0.below hb
        have K1 := B0.trans (hb.mono B0.size)
        clear F0 hb B0 S0
        have q0 := F1.head
        have q3 := F1.tail.tail.head
        have zq3 := F1.tail.tail.headF
        have q4 := F1.tail.tail.tail.head
        have zq4 := F1.tail.tail.tail.headF
        go_wp2_with fail

        refine (TN.out k _ k1 k2 HF.out).mono ?_
        rintro e w' ⟨rfl, rfl⟩
        go_wp2
        exact bodyPost_ret (v := .tuple #[.agg #[.int .i64 0, .slice none 0 0], .int .i64 3]) (by simp [results, Tryd.results68, go_sem, q3, q4]) rfl (by rw [HR.out]; exact LR.zero rfl (below2 K1 (by omega) _ _))
      · have HF := Lib.hid hfk
        obtain ⟨K0, hK0⟩ : ∃ K0, wrap64 (k * by') = K0 := ⟨_, rfl⟩
        have HK0 := Lib.hid hK0
        clear hfk hK0
        go_enter Tryd.func68, Tryd.ntmps68
        go_wp2_with fail
        generalize ((w.alloc (Obj.cells #[Value.int .i64 k, Value.slice p xs.length c] 24)).alloc (Obj.cells #[Value.int .i64 0, Value.slice none 0 0] 24)) = z at *
        refine (C1.out _ (Lib.hid (SlM.keep B0 RA.out))).mono ?_
        rintro e w1 ⟨rfl, hb⟩
        have F1 := F0.below hb
        have K1 := B0.trans (hb.mono B0.size)
        have S1 : w.heap.size + 1 < w1.heap.size := Nat.lt_of_lt_of_le S0 hb.size
        clear F0 hb B0 S0
        have q0 := F1.head
        have q1 := F1.tail.head
        have q3 := F1.tail.tail.head
        have zq3 := F1.tail.tail.headF
        have q4 := F1.tail.tail.tail.head
        have zq4 := F1.tail.tail.tail.headF
        go_wp2_with fail
        refine (TY.out k _ k1 k2 HF.out).mono ?_
        rw [HK0.out]
        rintro e w' ⟨rfl, rfl⟩
        have FB := Cl.cons (b := w1.heap.size) (o := 0) (v := .int .i64 K0) (by go_cell) (by first | go_cell | simp) (Cl.cons (b := w1.heap.size) (o := 1) (v := .slice none 0 0) (by go_cell) (by first | go_cell | simp) (F1.below ((Below.refl _ _).alloc (Nat.le_refl _) (Obj.cells #[Value.int .i64 K0, Value.slice none 0 0] 24))))
        have KB := K1.alloc K1.size (Obj.cells #[Value.int .i64 K0, Value.slice none 0 0] 24)
        have SB : w1.heap.size < (w1.alloc (Obj.cells #[Value.int .i64 K0, Value.slice none 0 0] 24)).heap.size := by simp
        go_wp2_with fail
        generalize w1.alloc (Obj.cells #[Value.int .i64 K0, Value.slice none 0 0] 24) = u3 at *
        clear q0 q1 q3 q4 zq3 zq4 F1 K1
        generalize w1.heap.size = gr at *
        have F3 : Hid (Cl [(gr, 0, .int .i64 K0), (gr, 1, .slice none 0 0), (w.heap.size, 1, .slice p xs.length c), (w.heap.size + 1, 0, .int .i64 0), (w.heap.size + 1, 1, .slice none 0 0)] u3) := Lib.hid (FB.sub (by intro x hx; simp only [List.mem_cons, List.not_mem_nil, or_false] at hx ⊢; rcases hx with h | h | h | h | h <;> simp [h]))
        clear FB
        obtain ⟨i0, hi, hz0, hz1, hz2⟩ := info_parts infoMo
        go_loopw [9] (fun i wr => ∃ (j : Nat) (v : Value), i = .int .i64 (j : Int) ∧ j ≤ xs.length ∧ Below w.heap.size w wr ∧ gr < wr.heap.size ∧ Hid (Cl [(gr, 0, .int .i64 K0), (gr, 1, v), (w.heap.size, 1, .slice p xs.length c), (w.heap.size + 1, 0, .int .i64 0), (w.heap.size + 1, 1, .slice none 0 0)] wr) ∧ Hid (wr.ownsRow (gr + 1) 59 2 v j (moCs (sclV by' (xs.take j)))) ∧ Hid (((xs.take j).all fun m => fit64 (m.2 * by')) = true)) (fun i _ => xs.length - (intOf i).toNat)
        case atStart => exact ⟨0, .slice none 0 0, rfl, by omega, KB, SB, F3, Lib.hid (World.ownsRow_nil _ _ _ _), Lib.hid (by simp)⟩
        case round =>
          obtain ⟨j, vl, rfl, hj, hB, hgr, hF, hO, hf⟩ := hrel
          have j0 : (0 : Int) ≤ j := by omega
          by_cases hlt : j < xs.length
          · obtain ⟨b, o, rfl, c0, c1⟩ := SlM.keep hB RA.out j hlt
            have hrs := RS.out j hlt
            have htk := Lib.hid (take_step hlt)
            have hmem := Lib.hid (getD_mem hlt)
            obtain ⟨⟨s, a⟩, hx⟩ : ∃ x, xs.getD j mo0 = x := ⟨_, rfl⟩
            have htk := Lib.hid (by have h := htk.out; rw [hx] at h; exact h)
            have hmem := Lib.hid (by have h := hmem.out; rw [hx] at h; exact h)
            rw [hx] at c0 c1 hrs
            simp only at c0 c1 hrs
            clear hx
            obtain ⟨_, a1, a2⟩ := hrs
            have j1 : (j : Int) < xs.length := by omega
            have F4 := hF.out
            have e0 := F4.head
            have e1 := F4.tail.head
            have ze1 := F4.tail.headF
            have e2 := F4.tail.tail.head
            have e3 := F4.tail.tail.tail.head
            have ze3 := F4.tail.tail.tail.headF
            have e4 := F4.tail.tail.tail.tail.head
            have ze4 := F4.tail.tail.tail.tail.headF
            obtain ⟨fa, hfa⟩ : ∃ f, fit64 (a * by') = f := ⟨_, rfl⟩
            cases fa
            · have HR := Lib.hid (HN.out (by
                unfold sclF
                rw [Bool.and_eq_true, List.all_eq_true]
                intro h
                have := h.2 _ hmem.out
                rw [hfa] at this
                cases this))
              have HA := Lib.hid hfa
              clear hfa HN HY
              go_wp2_with fail
              refine (TN.out a _ a1 a2 HA.out).mono ?_
              rintro e w' ⟨rfl, rfl⟩
              go_wp2
              exact bodyPost_ret (v := .tuple #[.agg #[.int .i64 0, .slice none 0 0], .int .i64 3]) (by simp [results, Tryd.results68, go_sem, e3, e4]) rfl (by rw [HR.out]; exact LR.zero rfl (below2 hB (by omega) _ _))
            · have HA := Lib.hid hfa
              obtain ⟨C, hC⟩ : ∃ C, wrap64 (a * by') = C := ⟨_, rfl⟩
              have HC := Lib.hid hC
              clear hfa hC
              go_wp2_with fail
              refine (TY.out a _ a1 a2 HA.out).mono ?_
              rw [HC.out]
              rintro e w' ⟨rfl, rfl⟩
              go_wp2_with fail
              have hz := (⟨e1, e2, c0⟩ : wr.drew.cell? ⟨gr, 1, none⟩ = some vl ∧ wr.drew.cell? ⟨w.heap.size, 1, none⟩ = some (.slice (some ⟨b, o, none⟩) xs.length c) ∧ wr.drew.cell? ⟨b, o + j * 2, none⟩ = some (.string s))
              refine Rk.begin (S := fun wS => wS.cell? ⟨gr, 1, none⟩ = some vl ∧ wS.cell? ⟨w.heap.size, 1, none⟩ = some (.slice (some ⟨b, o, none⟩) xs.length c) ∧ wS.cell? ⟨b, o + j * 2, none⟩ = some (.string s)) 11 (by kernel_rfl) hz (fun hHeld => ?_)
              refine Rk.takeP (i := 0) (v := ?_) rfl (by kernel_rfl) (by kernel_rfl) (by kernel_rfl) (by kernel_rfl) (fun _ _ _ h => h) (Or.inl ⟨by kernel_rfl, ?_⟩) (by assumption) ?_
              rotate_left
              · ((intro w hSw; go_simp) <;> with_reducible rfl)
              try simp only [Act.put, List.setIfInBounds_toArray, List.set_cons_zero, List.set_cons_succ]
              refine Rk.take [11] (i := 1) (v := ?_) rfl (by kernel_rfl) (by kernel_rfl) (by kernel_rfl) (by kernel_rfl) (by kernel_rfl) (fun _ _ _ h => h) (Or.inl ⟨by kernel_rfl, ?_⟩) (by assumption) ?_
              rotate_left
              · ((intro w hSw; (try dsimp only at hSw); go_simp) <;> with_reducible rfl)
              try simp only [Act.put, List.setIfInBounds_toArray, List.set_cons_zero, List.set_cons_succ]
              refine Rk.takeP (i := 2) (v := ?_) rfl (by kernel_rfl) (by kernel_rfl) (by kernel_rfl) (by kernel_rfl) (fun _ _ _ h => h) (Or.inl ⟨by kernel_rfl, ?_⟩) (by assumption) ?_
              rotate_left
              · ((intro w hSw; go_simp) <;> with_reducible rfl)
              try simp only [Act.put, List.setIfInBounds_toArray, List.set_cons_zero, List.set_cons_succ]
              refine Rk.take [5, 6, 7, 9, 10, 11] (i := 3) (v := ?_) rfl (by kernel_rfl) (by kernel_rfl) (by kernel_rfl) (by kernel_rfl) (by kernel_rfl) (fun _ _ _ h => h) (Or.inl ⟨by kernel_rfl, ?_⟩) (by assumption) ?_
              rotate_left
              · ((intro w hSw; (try dsimp only at hSw); go_simp) <;> with_reducible rfl)
              try simp only [Act.put, List.setIfInBounds_toArray, List.set_cons_zero, List.set_cons_succ]
              refine Rk.takeP (i := 4) (v := ?_) rfl (by kernel_rfl) (by kernel_rfl) (by kernel_rfl) (by kernel_rfl) (fun _ _ _ h => h) (Or.inl ⟨by kernel_rfl, ?_⟩) (by assumption) ?_
              rotate_left
              · ((intro w hSw; go_simp) <;> with_reducible rfl)
              try simp only [Act.put, List.setIfInBounds_toArray, List.set_cons_zero, List.set_cons_succ]
              refine Rk.takeP (i := 5) (v := ?_) rfl (by kernel_rfl) (by kernel_rfl) (by kernel_rfl) (by kernel_rfl) (fun _ _ _ h => h) (Or.inl ⟨by kernel_rfl, ?_⟩) (by assumption) ?_
              rotate_left
              · ((intro w hSw; go_simp) <;> with_reducible rfl)
              try simp only [Act.put, List.setIfInBounds_toArray, List.set_cons_zero, List.set_cons_succ]
              refine Rk.takeP (i := 6) (v := ?_) rfl (by kernel_rfl) (by kernel_rfl) (by kernel_rfl) (by kernel_rfl) (fun _ _ _ h => h) (Or.inl ⟨by kernel_rfl, ?_⟩) (by assumption) ?_
              rotate_left
              · ((intro w hSw; go_simp) <;> with_reducible rfl)
              try simp only [Act.put, List.setIfInBounds_toArray, List.set_cons_zero, List.set_cons_succ]
              refine Rk.take [9, 10, 11] (i := 7) (v := ?_) rfl (by kernel_rfl) (by kernel_rfl) (by kernel_rfl) (by kernel_rfl) (by kernel_rfl) (fun _ _ _ h => h) (Or.inl ⟨by kernel_rfl, ?_⟩) (by assumption) ?_
              rotate_left
              · ((intro w hSw; (try dsimp only at hSw); go_simp) <;> with_reducible rfl)
              try simp only [Act.put, List.setIfInBounds_toArray, List.set_cons_zero, List.set_cons_succ]
              refine Rk.takeP (i := 8) (v := ?_) rfl (by kernel_rfl) (by kernel_rfl) (by kernel_rfl) (by kernel_rfl) (fun _ _ _ h => h) (Or.inl ⟨by kernel_rfl, ?_⟩) (by assumption) ?_
              rotate_left
              · ((intro w hSw; go_simp) <;> with_reducible rfl)
              try simp only [Act.put, List.setIfInBounds_toArray, List.set_cons_zero, List.set_cons_succ]
              refine Rk.takeP (i := 9) (v := ?_) rfl (by kernel_rfl) (by kernel_rfl) (by kernel_rfl) (by kernel_rfl) (fun _ _ _ h => h) (Or.inl ⟨by kernel_rfl, ?_⟩) (by assumption) ?_
              rotate_left
              · ((intro w hSw; go_simp) <;> with_reducible rfl)
              try simp only [Act.put, List.setIfInBounds_toArray, List.set_cons_zero, List.set_cons_succ]
              refine Rk.one (i := 10) (by kernel_rfl) rfl (fun KK hK => ?_)
              rw [if_pos (by kernel_rfl)]
              go_simp
              have BA := (Below.refl wr.drew.heap.size wr.drew).alloc (Nat.le_refl _) (Obj.cells #[Value.string s, Value.int .i64 C] 59)
              refine hK.out _ _ ⟨kp BA (lt_of_cell hHeld.1) hHeld.1, kp BA (lt_of_cell hHeld.2.1) hHeld.2.1, kp BA (lt_of_cell hHeld.2.2) hHeld.2.2⟩ (fun hHeld => ?_)
              clear hK KK
              refine Rk.tail [11, 12, 13] [_, _, _] (by kernel_rfl) (by kernel_rfl) rfl (by decide) ?_
              have FU := (F4.drew).below ((Below.refl wr.drew.heap.size wr.drew).alloc (Nat.le_refl _) (Obj.cells #[Value.string s, Value.int .i64 C] 59))
              have OU : ((wr.drew).alloc (Obj.cells #[Value.string s, Value.int .i64 C] 59)).ownsRow (gr + 1) 59 2 vl j (moCs (sclV by' (xs.take j))) := World.ownsRow.alloc hO.out _
              have KU := (hB.drew).alloc hB.size (Obj.cells #[Value.string s, Value.int .i64 C] 59)
              clear hHeld hz F4 hF hO hB e0 e1 e2 e3 e4 ze1 ze3 ze4 c0 c1
              go_wp2_with (at_builtin; refine wpList_append_own _ rfl _ _ 22 rfl (gr + 1) 59 i0 (.agg #[.string ⟨#[]⟩, .int .i64 0]) 2 24 Tryd.underlying22 hi hz0 hz1 hz2 rfl (by decide) _ _ _ rfl OU ⟨wr.heap.size, 0, none⟩ 1 1 [.string s, .int .i64 C] rfl rfl ?_ ?_ ?_ ?_ ?_ ?_)
              · intro q x hx
                rcases q with _ | _ | q
                · cases hx; go_cell
                · cases hx; go_cell
                · simp at hx
              · intro x hx
                simp at hx
                rcases hx with rfl | rfl <;> rfl
              · unfold maxLen; omega
              · omega
              · simp; omega
              intro v' w4 hown' hgrow _
              have F4 := FU.own OU hgrow (by simp only [List.forall_mem_cons]; simp; omega)
              have K4 := KU.grown hgrow KU.size (fun q hq => by have := (OU.lt q hq).1; have := KU.size; omega)
              have hown2 : Hid (w4.ownsRow (gr + 1) 59 2 v' (j + 1) (moCs (sclV by' (xs.take (j + 1))))) := Lib.hid (by
                rw [htk.out, sclV, List.map_append, List.map_cons, List.map_nil, moCs_snoc, HC.out]
                exact hown')
              have hf2 : Hid (((xs.take (j + 1)).all fun m => fit64 (m.2 * by')) = true) := Lib.hid (by
                rw [htk.out, List.all_append, hf.out]
                simp [HA.out])
              obtain ⟨q', c', rfl⟩ := own_slice hown2.out
              clear hown' hgrow FU OU KU hf htk hi hz0 hz1 hz2
              have d0 := F4.head
              have zd0 := F4.headF
              have d1 := F4.tail.head
              have zd1 := F4.tail.headF
              have d2 := F4.tail.tail.head
              go_wp2
              go_roundw
              case rel => exact ⟨j + 1, .slice q' (j + 1) c', by go_num, by omega, K4.setCell (p := ⟨gr, 1, none⟩) (by show w.heap.size ≤ gr; omega) _, by rw [World.size_setCell]; exact lt_of_cell d1, Lib.hid (Cl.cons (by go_cell) (by first | go_cell | simp [World.frozen?_setCell, zd0]) (Cl.cons (by go_cell) (by first | go_cell | simp [World.frozen?_setCell, zd1]) (Cl.far (F4.sub (by intro x hx; simp only [List.mem_cons, List.not_mem_nil, or_false] at hx ⊢; rcases hx with h | h | h <;> simp [h])) (by simp only [List.forall_mem_cons]; simp; omega)))), Lib.hid (own_set hown2.out (by simp)), hf2⟩
              case measure => simp [intOf]; omega
          · have j1 : ¬ (j : Int) < xs.length := by omega
            obtain rfl : j = xs.length := by omega
            have hO2 := hO.out
            have hf2 := hf.out
            rw [List.take_length] at hO2 hf2
            have F4 := hF.out
            clear hF hO hf
            have HL := Lib.hid (show (sclV by' xs).length = xs.length by unfold sclV; rw [List.length_map])
            have HR := Lib.hid (HY.out (by unfold sclF; rw [HF.out, hf2]; rfl))
            clear hf2
            obtain ⟨q', c', rfl⟩ := own_slice hO2
            have d0 := F4.head
            have d1 := F4.tail.head
            have d2 := F4.tail.tail.head
            have d3 := F4.tail.tail.tail.head
            have zd3 := F4.tail.tail.tail.headF
            have d4 := F4.tail.tail.tail.tail.head
            have zd4 := F4.tail.tail.tail.tail.headF
            go_wp2
            have hOF := own_set (a := ⟨w.heap.size + 1, 1, none⟩) (y := .slice q' xs.length c') (own_set (a := ⟨w.heap.size + 1, 0, none⟩) (y := .int .i64 K0) hO2 (by simp; omega)) (by simp; omega)
            obtain ⟨q2, c2, he, hsl⟩ := own_sl' hOF HL.out.symm
            cases he
            exact bodyPost_ret (v := .tuple #[.agg #[.int .i64 K0, .slice q' xs.length c'], .int .i64 0]) (by simp [results, Tryd.results68, go_sem, d3, d4]) rfl (by rw [HR.out, HK0.out]; exact ⟨q', c', by rw [HL.out]; rfl, hsl, below2 hB (by omega) _ _⟩)
end Go.Proofs.YtbicmlkjonaccaaDoor.Ln


namespace Go.Proofs.YtbicmlkjonaccaaDoor.Ln
open Go.ChangeShapes Go.WideShapes Go.ChangeAt Go.RowKit
open Go.Proofs.YtbicmlkjonaccaaDoor.Nm
set_option linter.unusedVariables false
set_option linter.unusedSimpArgs false
theorem cb_trans : ∀ a b c : List UInt8, Lib.compareBytes a b < 0 → Lib.compareBytes b c < 0 → Lib.compareBytes a c < 0
  | [], [], _, h, _ => by simp [Lib.compareBytes] at h
  | _ :: _, [], _, h, _ => by simp [Lib.compareBytes] at h
  | [], _ :: _, [], _, h => by simp [Lib.compareBytes] at h
  | [], _ :: _, _ :: _, _, _ => by simp [Lib.compareBytes]
  | _ :: _, _ :: _, [], _, h => by simp [Lib.compareBytes] at h
  | a :: a', b :: b', c :: c', h, h2 => by
    have ih := cb_trans a' b' c'
    unfold Lib.compareBytes at h h2 ⊢
    simp only [UInt8.lt_iff_toNat_lt] at h h2 ⊢
    by_cases h1 : a.toNat < b.toNat
    · by_cases h3 : b.toNat < c.toNat
      · rw [if_pos (by omega)]; omega
      · rw [if_neg h3] at h2
        by_cases h4 : c.toNat < b.toNat
        · rw [if_pos h4] at h2; omega
        · rw [if_pos (by omega)]; omega
    · rw [if_neg h1] at h
      by_cases h5 : b.toNat < a.toNat
      · rw [if_pos h5] at h; omega
      · rw [if_neg h5] at h
        by_cases h3 : b.toNat < c.toNat
        · rw [if_pos (by omega)]; omega
        · rw [if_neg h3] at h2
          by_cases h4 : c.toNat < b.toNat
          · rw [if_pos h4] at h2; omega
          · rw [if_neg h4] at h2
            rw [if_neg (by omega), if_neg (by omega)]
            exact ih h h2
def slt (a b : ByteArray) : Prop := cs a b < 0
instance (a b : ByteArray) : Decidable (slt a b) := inferInstanceAs (Decidable (cs a b < 0))
theorem slt_trans {a b c : ByteArray} (h : slt a b) (h2 : slt b c) : slt a c := cb_trans _ _ _ h h2
theorem slt_irrefl (a : ByteArray) : ¬ slt a a := by
  unfold slt
  rw [(cs_zero).2 rfl]
  decide
theorem slt_asymm {a b : ByteArray} (h : slt a b) : ¬ slt b a := fun h2 => slt_irrefl _ (slt_trans h h2)
theorem slt_tri (a b : ByteArray) : slt a b ∨ a = b ∨ slt b a := by
  have := cs_swap a b
  have := cs_bd a b
  unfold slt
  by_cases h : cs a b = 0
  · exact .inr (.inl (cs_zero.1 h))
  · omega
theorem slt_less (a b : ByteArray) : Op.bytesLess a.toList b.toList = decide (slt a b) := cs_less a b
theorem same_iff (a b : ByteArray) : (a.toList == b.toList) = decide (a = b) := by
  rw [cs_eq, Bool.eq_iff_iff, decide_eq_true_eq, decide_eq_true_eq, cs_zero]
def Srt (l : List ByteArray) : Prop := l.Pairwise slt
theorem Srt.ext : ∀ {l m : List ByteArray}, Srt l → Srt m → (∀ x, x ∈ l ↔ x ∈ m) → l = m
  | [], [], _, _, _ => rfl
  | [], b :: m, _, _, h => by have := (h b).2 (by simp); cases this
  | a :: l, [], _, _, h => by have := (h a).1 (by simp); cases this
  | a :: l, b :: m, h1, h2, h => by
    unfold Srt at h1 h2
    rw [List.pairwise_cons] at h1 h2
    have hab : a = b := by
      rcases List.mem_cons.1 ((h a).1 (by simp)) with e | e
      · exact e
      · rcases List.mem_cons.1 ((h b).2 (by simp)) with e2 | e2
        · exact e2.symm
        · exact absurd (h1.1 b e2) (slt_asymm (h2.1 a e))
    subst hab
    rw [Srt.ext h1.2 h2.2 (fun x => by
      have hx := h x
      rw [List.mem_cons, List.mem_cons] at hx
      constructor
      · intro hm
        rcases hx.1 (.inr hm) with e | e
        · subst e; exact absurd (h1.1 _ hm) (slt_irrefl _)
        · exact e
      · intro hm
        rcases hx.2 (.inr hm) with e | e
        · subst e; exact absurd (h2.1 _ hm) (slt_irrefl _)
        · exact e)]
/-- The names of a valid form ascend. -/
theorem okL_iff {xs : List Mo} : okL xs = true ↔ (Srt (xs.map (·.1)) ∧ ∀ m ∈ xs, nmB m.1 = true ∧ m.2 ≠ 0) := by
  unfold okL
  rw [List.all_eq_true]
  have getE : ∀ j (h : j < xs.length), xs.getD j mo0 = xs[j] := fun j h => by unfold List.getD; rw [List.getElem?_eq_getElem h]; rfl
  constructor
  · intro h
    have hb : ∀ j, j < xs.length → nmB (xs.getD j mo0).1 = true ∧ (xs.getD j mo0).2 ≠ 0 ∧ (0 < j → slt (xs.getD (j - 1) mo0).1 (xs.getD j mo0).1) := fun j hj => by
      have h1 := h j (List.mem_range.2 hj)
      unfold bd at h1
      rw [slt_less] at h1
      simp only [Bool.not_eq_true', Bool.or_eq_false_iff, Bool.not_eq_false', beq_eq_false_iff_ne, Bool.and_eq_false_imp, decide_eq_true_eq] at h1
      exact ⟨h1.1, h1.2.1, fun h0 => by simpa using h1.2.2 h0⟩
    refine ⟨?_, ?_⟩
    · unfold Srt
      rw [List.pairwise_iff_getElem]
      intro i j hi hj hij
      have key : ∀ d i (hi : i + d + 1 < xs.length), slt (xs.getD i mo0).1 (xs.getD (i + d + 1) mo0).1 := by
        intro d
        induction d with
        | zero => intro i hi; exact (hb (i + 0 + 1) hi).2.2 (by omega)
        | succ d ih =>
          intro i hi
          exact slt_trans (ih i (by omega)) ((hb (i + (d + 1) + 1) hi).2.2 (by omega))
      simp only [List.length_map] at hi hj
      have := key (j - i - 1) i (by omega)
      rw [show i + (j - i - 1) + 1 = j by omega, getE i hi, getE j hj] at this
      simpa using this
    · intro m hm
      obtain ⟨j, hj, rfl⟩ := List.getElem_of_mem hm
      have := hb j hj
      rw [getE j hj] at this
      exact ⟨this.1, this.2.1⟩
  · intro h j hj
    have hj := List.mem_range.1 hj
    unfold bd
    rw [slt_less]
    have h1 := h.2 (xs.getD j mo0) (getD_mem hj)
    rw [h1.1, beq_false_of_ne h1.2]
    have hs : 0 < j → slt (xs.getD (j - 1) mo0).1 (xs.getD j mo0).1 := fun h0 => by
      have := (List.pairwise_iff_getElem.1 h.1) (j - 1) j (by simp; omega) (by simpa using hj) (by omega)
      rw [getE j hj, getE (j - 1) (by omega)]
      simpa using this
    generalize (xs.getD (j - 1) mo0).1 = A at *
    generalize (xs.getD j mo0).1 = B at *
    by_cases h0 : 0 < j
    · rw [decide_eq_true (hs h0)]; simp
    · rw [decide_eq_false h0]; rfl
theorem co_nil (s : ByteArray) : co [] s = 0 := rfl
theorem co_cons (x : Mo) (l : List Mo) (s : ByteArray) : co (x :: l) s = if x.1 = s then x.2 else co l s := by
  show (if (x.1.toList == s.toList) = true then x.2 else co l s) = _
  rw [same_iff]
  by_cases h : x.1 = s <;> simp [h]
theorem co_out {l : List Mo} {s : ByteArray} (h : s ∉ l.map (·.1)) : co l s = 0 := by
  induction l with
  | nil => rfl
  | cons x l ih =>
    rw [List.map_cons, List.mem_cons, not_or] at h
    rw [co_cons, if_neg (fun e => h.1 e.symm), ih h.2]
theorem co_in {l : List Mo} (hs : Srt (l.map (·.1))) {m : Mo} (h : m ∈ l) : co l m.1 = m.2 := by
  induction l with
  | nil => cases h
  | cons x l ih =>
    unfold Srt at hs
    rw [List.map_cons, List.pairwise_cons] at hs
    rw [co_cons]
    rcases List.mem_cons.1 h with rfl | h
    · rw [if_pos rfl]
    · have := hs.1 m.1 (List.mem_map_of_mem h)
      rw [if_neg (fun e => slt_irrefl _ (e ▸ this)), ih hs.2 h]
def mg : List Mo → List Mo → List Mo
  | [], ys => ys
  | x :: xs, [] => x :: xs
  | x :: xs, y :: ys => if slt x.1 y.1 then x :: mg xs (y :: ys) else if slt y.1 x.1 then y :: mg (x :: xs) ys else (x.1, x.2 + y.2) :: mg xs ys
termination_by a b => a.length + b.length
theorem mg_nil (xs : List Mo) : mg xs [] = xs := by cases xs <;> (unfold mg; rfl)
theorem nil_mg (ys : List Mo) : mg [] ys = ys := by unfold mg; rfl
theorem mg_lt {x y : Mo} {xs ys : List Mo} (h : slt x.1 y.1) : mg (x :: xs) (y :: ys) = x :: mg xs (y :: ys) := by rw [mg, if_pos h]
theorem mg_gt {x y : Mo} {xs ys : List Mo} (h : slt y.1 x.1) : mg (x :: xs) (y :: ys) = y :: mg (x :: xs) ys := by rw [mg, if_neg (slt_asymm h), if_pos h]
theorem mg_eq {x y : Mo} {xs ys : List Mo} (h : x.1 = y.1) : mg (x :: xs) (y :: ys) = (x.1, x.2 + y.2) :: mg xs ys := by rw [mg, if_neg (h ▸ slt_irrefl _), if_neg (h ▸ slt_irrefl _)]
/-- One principle for all facts on the merged list. -/
theorem mg_ind {P : List Mo → List Mo → Prop} (h1 : ∀ ys, P [] ys) (h2 : ∀ x xs, P (x :: xs) []) (h3 : ∀ x xs y ys, slt x.1 y.1 → P xs (y :: ys) → P (x :: xs) (y :: ys))
    (h4 : ∀ x xs y ys, slt y.1 x.1 → P (x :: xs) ys → P (x :: xs) (y :: ys)) (h5 : ∀ x xs y ys, x.1 = y.1 → P xs ys → P (x :: xs) (y :: ys)) : ∀ (n : Nat) (xs ys : List Mo), xs.length + ys.length ≤ n → P xs ys
  | _, [], ys, _ => h1 ys
  | _, x :: xs, [], _ => h2 x xs
  | 0, x :: xs, y :: ys, h => by simp at h
  | n + 1, x :: xs, y :: ys, h => by
    simp only [List.length_cons] at h
    rcases slt_tri x.1 y.1 with e | e | e
    · exact h3 x xs y ys e (mg_ind h1 h2 h3 h4 h5 n xs (y :: ys) (by simp; omega))
    · exact h5 x xs y ys e (mg_ind h1 h2 h3 h4 h5 n xs ys (by omega))
    · exact h4 x xs y ys e (mg_ind h1 h2 h3 h4 h5 n (x :: xs) ys (by simp; omega))
theorem mg_mem (s : ByteArray) (xs ys : List Mo) : s ∈ (mg xs ys).map (·.1) ↔ s ∈ xs.map (·.1) ∨ s ∈ ys.map (·.1) := by
  refine mg_ind (P := fun xs ys => s ∈ (mg xs ys).map (·.1) ↔ s ∈ xs.map (·.1) ∨ s ∈ ys.map (·.1)) ?_ ?_ ?_ ?_ ?_ _ xs ys (Nat.le_refl _)
  · intro ys; rw [nil_mg]; simp
  · intro x xs; rw [mg_nil]; simp
  · intro x xs y ys h ih
    rw [mg_lt h, List.map_cons, List.mem_cons, ih]
    simp only [List.map_cons, List.mem_cons]
    rw [or_assoc]
  · intro x xs y ys h ih
    rw [mg_gt h, List.map_cons, List.mem_cons, ih]
    simp only [List.map_cons, List.mem_cons]
    constructor
    · rintro (h | (h | h) | h) <;> simp [h]
    · rintro ((h | h) | h | h) <;> simp [h]
  · intro x xs y ys h ih
    rw [mg_eq h, List.map_cons, List.mem_cons, ih]
    simp only [List.map_cons, List.mem_cons]
    constructor
    · rintro (h | h | h) <;> simp [h]
    · rintro ((h2 | h2) | h2 | h2)
      · simp [h2]
      · simp [h2]
      · rw [h2, ← h]; simp
      · simp [h2]
theorem mg_srt (xs ys : List Mo) : Srt (xs.map (·.1)) → Srt (ys.map (·.1)) → Srt ((mg xs ys).map (·.1)) := by
  refine mg_ind (P := fun xs ys => Srt (xs.map (·.1)) → Srt (ys.map (·.1)) → Srt ((mg xs ys).map (·.1))) ?_ ?_ ?_ ?_ ?_ _ xs ys (Nat.le_refl _)
  · intro ys _ h; rw [nil_mg]; exact h
  · intro x xs h _; rw [mg_nil]; exact h
  · intro x xs y ys h ih hx hy
    unfold Srt at *
    rw [List.map_cons, List.pairwise_cons] at hx
    have hy' := hy
    rw [List.map_cons, List.pairwise_cons] at hy'
    rw [mg_lt h, List.map_cons, List.pairwise_cons]
    refine ⟨fun s hs => ?_, ih hx.2 hy⟩
    rcases (mg_mem s _ _).1 hs with e | e
    · exact hx.1 s e
    · rw [List.map_cons, List.mem_cons] at e
      rcases e with rfl | e
      · exact h
      · exact slt_trans h (hy'.1 s e)
  · intro x xs y ys h ih hx hy
    unfold Srt at *
    have hx' := hx
    rw [List.map_cons, List.pairwise_cons] at hx'
    rw [List.map_cons, List.pairwise_cons] at hy
    rw [mg_gt h, List.map_cons, List.pairwise_cons]
    refine ⟨fun s hs => ?_, ih hx hy.2⟩
    rcases (mg_mem s _ _).1 hs with e | e
    · rw [List.map_cons, List.mem_cons] at e
      rcases e with rfl | e
      · exact h
      · exact slt_trans h (hx'.1 s e)
    · exact hy.1 s e
  · intro x xs y ys h ih hx hy
    unfold Srt at *
    rw [List.map_cons, List.pairwise_cons] at hx hy
    rw [mg_eq h, List.map_cons, List.pairwise_cons]
    refine ⟨fun s hs => ?_, ih hx.2 hy.2⟩
    rcases (mg_mem s _ _).1 hs with e | e
    · exact hx.1 s e
    · exact h ▸ hy.1 s e
theorem srt_out {x : ByteArray} {l : List ByteArray} (h : Srt (x :: l)) : x ∉ l := fun hm => by
  unfold Srt at h
  rw [List.pairwise_cons] at h
  exact slt_irrefl _ (h.1 x hm)
theorem srt_tail {x : ByteArray} {l : List ByteArray} (h : Srt (x :: l)) : Srt l := by unfold Srt at *; rw [List.pairwise_cons] at h; exact h.2
theorem lt_out {s x : ByteArray} {l : List ByteArray} (h : Srt (x :: l)) (hs : slt s x) : s ∉ x :: l := fun hm => by
  unfold Srt at h
  rw [List.pairwise_cons] at h
  rcases List.mem_cons.1 hm with rfl | e
  · exact slt_irrefl _ hs
  · exact slt_irrefl _ (slt_trans hs (h.1 s e))
theorem mg_co (s : ByteArray) (xs ys : List Mo) : Srt (xs.map (·.1)) → Srt (ys.map (·.1)) → co (mg xs ys) s = co xs s + co ys s := by
  refine mg_ind (P := fun xs ys => Srt (xs.map (·.1)) → Srt (ys.map (·.1)) → co (mg xs ys) s = co xs s + co ys s) ?_ ?_ ?_ ?_ ?_ _ xs ys (Nat.le_refl _)
  · intro ys _ _; rw [nil_mg, co_nil, Int.zero_add]
  · intro x xs _ _; rw [mg_nil, co_nil, Int.add_zero]
  · intro x xs y ys h ih hx hy
    rw [mg_lt h, co_cons, ih (srt_tail hx) hy, co_cons x xs]
    by_cases e : x.1 = s
    · rw [if_pos e, if_pos e, co_out (l := y :: ys) (s := s) (e ▸ lt_out hy h), Int.add_zero]
    · rw [if_neg e, if_neg e]
  · intro x xs y ys h ih hx hy
    rw [mg_gt h, co_cons, ih hx (srt_tail hy), co_cons y ys]
    by_cases e : y.1 = s
    · rw [if_pos e, if_pos e, co_out (l := x :: xs) (s := s) (e ▸ lt_out hx h), Int.zero_add]
    · rw [if_neg e, if_neg e]
  · intro x xs y ys h ih hx hy
    rw [mg_eq h, co_cons, ih (srt_tail hx) (srt_tail hy), co_cons x xs, co_cons y ys]
    by_cases e : x.1 = s
    · rw [if_pos e, if_pos e, if_pos (h ▸ e)]
    · rw [if_neg e, if_neg e, if_neg (fun e2 => e (h.trans e2))]
/-- The merged list, by its names. -/
theorem mg_names {xs ys : List Mo} (hx : Srt (xs.map (·.1))) (hy : Srt (ys.map (·.1))) {l : List ByteArray} (hl : Srt l) (hm : ∀ s, s ∈ l ↔ s ∈ xs.map (·.1) ∨ s ∈ ys.map (·.1)) : l.map (fun s => (s, co xs s + co ys s)) = mg xs ys := by
  have h1 : l = (mg xs ys).map (·.1) := Srt.ext hl (mg_srt xs ys hx hy) (fun s => by rw [hm, mg_mem])
  rw [h1, List.map_map]
  conv => rhs; rw [← List.map_id (mg xs ys)]
  refine List.map_congr_left (fun m hmm => ?_)
  have := co_in (mg_srt xs ys hx hy) hmm
  rw [mg_co m.1 xs ys hx hy] at this
  show (m.1, co xs m.1 + co ys m.1) = m
  rw [this]
def flt (l : List Mo) : List Mo := (l.map fun m => (m.1, wrap64 m.2)).filter fun m => m.2 != 0
def adF (k k' : Int) (l : List Mo) : Bool := fit64 (k + k') && l.all fun m => fit64 m.2
def adR (k : Int) (xs : List Mo) (k' : Int) (ys : List Mo) : Int × List Mo × Int := if okL xs = false ∨ okL ys = false then (0, [], 1) else if adF k k' (mg xs ys) = true then (wrap64 (k + k'), flt (mg xs ys), 0) else (0, [], 3)
theorem flt_snoc (l : List Mo) (m : Mo) : flt (l ++ [m]) = flt l ++ (if wrap64 m.2 = 0 then [] else [(m.1, wrap64 m.2)]) := by
  unfold flt
  rw [List.map_append, List.filter_append, List.map_cons, List.map_nil]
  by_cases h : wrap64 m.2 = 0 <;> simp [h]
theorem flt_len (l : List Mo) : (flt l).length ≤ l.length := by
  unfold flt
  exact Nat.le_trans (List.length_filter_le _ _) (by simp)
theorem mg_len (xs ys : List Mo) : (mg xs ys).length ≤ xs.length + ys.length := by
  refine mg_ind (P := fun xs ys => (mg xs ys).length ≤ xs.length + ys.length) ?_ ?_ ?_ ?_ ?_ _ xs ys (Nat.le_refl _)
  · intro ys; rw [nil_mg]; simp
  · intro x xs; rw [mg_nil]; simp
  · intro x xs y ys h ih; rw [mg_lt h]; simp at ih ⊢; omega
  · intro x xs y ys h ih; rw [mg_gt h]; simp at ih ⊢; omega
  · intro x xs y ys h ih; rw [mg_eq h]; simp at ih ⊢; omega
end Go.Proofs.YtbicmlkjonaccaaDoor.Ln


namespace Go.Proofs.YtbicmlkjonaccaaDoor.Ln
open Go.ChangeShapes Go.WideShapes Go.ChangeAt Go.RowKit
set_option linter.unusedVariables false
set_option linter.unusedSimpArgs false
def PW (x y : Int) (f : Bool) (gf : Nat) (w : World) (e : Ending) (w' : World) : Prop :=
  e = .returned (.int .i64 (wrap64 (x + y))) ∧ w.grownBy w' (some gf) ∧ w'.cell? ⟨gf, 0, none⟩ = some (.bool (f && fit64 (x + y))) ∧ w'.frozen? ⟨gf, 0, none⟩ = false
theorem sum_fit {x y C : Int} (x1 : -9223372036854775808 ≤ x) (x2 : x ≤ 9223372036854775807) (y1 : -9223372036854775808 ≤ y) (y2 : y ≤ 9223372036854775807) (hC : wrap64 (x + y) = C) :
    fit64 (x + y) = !((decide (x < 0) == decide (y < 0)) && (decide (C < 0) != decide (x < 0))) := by
  rw [Bool.eq_iff_iff, fit_yes]
  unfold wrap64 at hC
  by_cases h1 : x < 0 <;> by_cases h2 : y < 0 <;> by_cases h3 : C < 0 <;> simp [h1, h2, h3] <;> omega
set_option maxRecDepth 100000 in
set_option maxHeartbeats 8000000 in
theorem plus1 (x y : Int) (f : Bool) (gf : Nat) (w : World) (x1 : -9223372036854775808 ≤ x) (x2 : x ≤ 9223372036854775807) (y1 : -9223372036854775808 ≤ y) (y2 : y ≤ 9223372036854775807)
    (hf : w.cell? ⟨gf, 0, none⟩ = some (.bool f)) (hz : w.frozen? ⟨gf, 0, none⟩ = false) :
    Calls Tryd.prog 96 #[.int .i64 x, .int .i64 y, .pointer (some ⟨gf, 0, none⟩)] w (PW x y f gf w) := by
  obtain ⟨C, hC⟩ : ∃ C, wrap64 (x + y) = C := ⟨_, rfl⟩
  have hfit := sum_fit x1 x2 y1 y2 hC
  have HC := Lib.hid hC
  have hs0 : w.grownBy w (some gf) := ⟨rfl, rfl, rfl, Nat.le_refl _, fun _ _ _ => rfl⟩
  obtain ⟨q1, h1⟩ : ∃ q, decide (x < 0) = q := ⟨_, rfl⟩
  obtain ⟨q2, h2⟩ : ∃ q, decide (y < 0) = q := ⟨_, rfl⟩
  obtain ⟨q3, h3⟩ : ∃ q, decide (C < 0) = q := ⟨_, rfl⟩
  rw [h1, h2, h3] at hfit
  have HF := Lib.hid hfit
  clear hfit
  cases q1 <;> cases q2 <;> cases q3
  all_goals
    go_enter Tryd.func96, Tryd.ntmps96
    go_wp2
    go_ret
    first
    | exact ⟨by rw [HC.out]; rfl, hs0, by rw [HF.out, hf]; cases f <;> rfl, hz⟩
    | exact ⟨by rw [HC.out]; rfl, grown_set, by rw [HF.out]; (first | go_cell | (cases f <;> go_cell)), by simp [World.frozen?_setCell, hz]⟩
theorem plusY (a b : Int) (w : World) (ha1 : -9223372036854775808 ≤ a) (ha2 : a ≤ 9223372036854775807) (hb1 : -9223372036854775808 ≤ b) (hb2 : b ≤ 9223372036854775807) (h : fit64 (a + b) = true) :
    Calls Tryd.prog 99 #[.int .i64 a, .int .i64 b] w fun e w' => e = .returned (.tuple #[.int .i64 (wrap64 (a + b)), .bool true]) ∧ w = w' := by
  have hb := fit_yes.1 h
  rw [show wrap64 (a + b) = a + b by unfold wrap64; omega]
  have e1 : -9223372036854775808 ≤ a + b := hb.1
  have e2 : a + b ≤ 9223372036854775807 := hb.2
  clear hb h
  by_cases hp : 0 < b
  · have c1 : ¬ 9223372036854775807 - b < a := by omega
    go_enter Tryd.func99, Tryd.ntmps99
    go_wp2
    exact bodyPost_ret (v := .tuple #[.int .i64 (a + b), .bool true]) (by simp [results, Tryd.results99, go_sem]) rfl ⟨rfl, rfl⟩
  · by_cases hn : b < 0
    · have c1 : ¬ a < -9223372036854775808 - b := by omega
      go_enter Tryd.func99, Tryd.ntmps99
      go_wp2
      exact bodyPost_ret (v := .tuple #[.int .i64 (a + b), .bool true]) (by simp [results, Tryd.results99, go_sem]) rfl ⟨rfl, rfl⟩
    · go_enter Tryd.func99, Tryd.ntmps99
      go_wp2
      exact bodyPost_ret (v := .tuple #[.int .i64 (a + b), .bool true]) (by simp [results, Tryd.results99, go_sem]) rfl ⟨rfl, rfl⟩
theorem plusN (a b : Int) (w : World) (ha1 : -9223372036854775808 ≤ a) (ha2 : a ≤ 9223372036854775807) (hb1 : -9223372036854775808 ≤ b) (hb2 : b ≤ 9223372036854775807) (h : fit64 (a + b) = false) :
    Calls Tryd.prog 99 #[.int .i64 a, .int .i64 b] w fun e w' => e = .returned (.tuple #[.int .i64 0, .bool false]) ∧ w = w' := by
  have hb : ¬ (-9223372036854775808 ≤ a + b ∧ a + b ≤ 9223372036854775807) := fun hh => by rw [fit_yes.2 hh] at h; cases h
  clear h
  by_cases hp : 0 < b
  · have c1 : 9223372036854775807 - b < a := by omega
    clear hb
    go_enter Tryd.func99, Tryd.ntmps99
    go_wp2
    exact bodyPost_ret (v := .tuple #[.int .i64 0, .bool false]) (by simp [results, Tryd.results99, go_sem]) rfl ⟨rfl, rfl⟩
  · have hn : b < 0 := by omega
    have c1 : a < -9223372036854775808 - b := by omega
    clear hb
    go_enter Tryd.func99, Tryd.ntmps99
    go_wp2
    exact bodyPost_ret (v := .tuple #[.int .i64 0, .bool false]) (by simp [results, Tryd.results99, go_sem]) rfl ⟨rfl, rfl⟩
theorem cut1 {w : World} {b o c : Nat} {x : Mo} {xa : List Mo} (h : SlM w (some ⟨b, o, none⟩) (x :: xa)) (hc : (x :: xa).length ≤ c) :
    ∃ A : Option Addr, (if c = 1 then some (⟨b, o, none⟩ : Addr) else some ⟨b, o + 2, none⟩) = A ∧ SlM w A xa ∧ xa.length ≤ c - 1 ∧ ∀ b' o', A = some ⟨b', o', none⟩ → b' = b := by
  rw [List.length_cons] at hc
  refine ⟨_, rfl, fun i hi => ?_, by omega, fun b' o' e => ?_⟩
  · rw [if_neg (by omega)]
    obtain ⟨b1, o1, e, c0, c1⟩ := h (i + 1) (by rw [List.length_cons]; omega)
    cases e
    refine ⟨b, o + 2, rfl, ?_, ?_⟩
    · rw [show o + 2 + i * 2 = o + (i + 1) * 2 by omega]; exact c0
    · rw [show o + 2 + i * 2 + 1 = o + (i + 1) * 2 + 1 by omega]; exact c1
  · split at e <;> (cases e; rfl)
theorem SlM.grown {w u : World} {p : Option Addr} {xs : List Mo} {g : Nat} (h : SlM w p xs) (hg : w.grownBy u (some g)) (hp : ∀ b o, p = some ⟨b, o, none⟩ → b ≠ g) : SlM u p xs := fun i hi => by
  obtain ⟨b, o, rfl, c0, c1⟩ := h i hi
  have hb := hg.block b (lt_of_cell c0) (fun e => hp b o rfl (by cases e; rfl))
  exact ⟨b, o, rfl, (World.cell?_of_block (a := ⟨b, _, none⟩) hb).trans c0, (World.cell?_of_block (a := ⟨b, _, none⟩) hb).trans c1⟩
theorem grown_trans {w u v : World} {g : Nat} (h : w.grownBy u (some g)) (h2 : u.grownBy v (some g)) : w.grownBy v (some g) :=
  ⟨h2.os.trans h.os, h2.tape.trans h.tape, h2.output.trans h.output, Nat.le_trans h.size h2.size, fun k hk hne => (h2.block k (Nat.lt_of_lt_of_le hk h.size) hne).trans (h.block k hk hne)⟩
theorem grown_drew {w u : World} {r : Option Nat} (h : w.grownBy u r) : w.grownBy u.drew r := ⟨h.os, h.tape, h.output, h.size, h.block⟩
theorem grown_drewN {w u : World} {r : Option Nat} (h : w.grownBy u r) (n : Nat) : w.grownBy (u.drewN n) r := ⟨h.os, h.tape, h.output, h.size, h.block⟩
theorem grown_alloc {w u : World} {r : Option Nat} (h : w.grownBy u r) (o : Obj) : w.grownBy (u.alloc o) r :=
  ⟨h.os, h.tape, h.output, by simp; have := h.size; omega, fun k hk hne => (Below.heap_alloc u o k (Nat.lt_of_lt_of_le hk h.size)).trans (h.block k hk hne)⟩
/-- A growth of blocks of the call's own. -/
theorem grown_own {w u v : World} {g base : Nat} {E : TypeId} {sz n : Nat} {x : Value} {xs : List Value} (h : w.grownBy u (some g)) (hO : u.ownsRow base E sz x n xs) (hb : w.heap.size ≤ base) (h2 : u.grownBy v x.ownBlock) : w.grownBy v (some g) :=
  ⟨h2.os.trans h.os, h2.tape.trans h.tape, h2.output.trans h.output, Nat.le_trans h.size h2.size, fun k hk hne => (h2.block k (Nat.lt_of_lt_of_le hk h.size) (fun e => by have := (hO.lt k e.symm).1; omega)).trans (h.block k hk hne)⟩
end Go.Proofs.YtbicmlkjonaccaaDoor.Ln
