/- Linear forms: Add of the reference. -/
import Derived.Test.YtbicmlkjonaccaaDoorJ15

namespace Go.Proofs.YtbicmlkjonaccaaDoor.Ln
open Go.ChangeShapes Go.WideShapes Go.ChangeAt Go.RowKit
set_option linter.unusedVariables false
set_option linter.unusedSimpArgs false
theorem own_below {u u' : World} {base : Nat} {E : TypeId} {sz n : Nat} {v : Value} {xs : List Value} (h : u.ownsRow base E sz v n xs) (hb : Below u.heap.size u u') : u'.ownsRow base E sz v n xs :=
  h.kept (row := none) ⟨hb.os, hb.tape, hb.output, hb.size, fun k hk _ => hb.block k hk⟩ (by cases v.ownBlock <;> simp)
theorem grown_below {w u u' : World} {r : Option Nat} (h : w.grownBy u r) (hb : Below u.heap.size u u') : w.grownBy u' r :=
  ⟨hb.os.trans h.os, hb.tape.trans h.tape, hb.output.trans h.output, Nat.le_trans h.size hb.size, fun k hk hne => (hb.block k (Nat.lt_of_lt_of_le hk h.size)).trans (h.block k hk hne)⟩
theorem co_bd {xs : List Mo} (hb : ∀ i, i < xs.length → (xs.getD i mo0).1.size ≤ maxLen ∧ -9223372036854775808 ≤ (xs.getD i mo0).2 ∧ (xs.getD i mo0).2 ≤ 9223372036854775807) (s : ByteArray) : -9223372036854775808 ≤ co xs s ∧ co xs s ≤ 9223372036854775807 := by
  have key : ∀ l : List Mo, (∀ m ∈ l, -9223372036854775808 ≤ m.2 ∧ m.2 ≤ 9223372036854775807) → -9223372036854775808 ≤ co l s ∧ co l s ≤ 9223372036854775807 := by
    intro l
    induction l with
    | nil => intro _; rw [co_nil]; omega
    | cons x l ih =>
      intro h
      rw [co_cons]
      split
      · exact h x (by simp)
      · exact ih (fun m hm => h m (List.mem_cons_of_mem _ hm))
  refine key xs (fun m hm => ?_)
  obtain ⟨j, hj, rfl⟩ := List.getElem_of_mem hm
  have := hb j hj
  rw [show xs.getD j mo0 = xs[j] by unfold List.getD; rw [List.getElem?_eq_getElem hj]; rfl] at this
  exact this.2
set_option maxRecDepth 100000 in
set_option maxHeartbeats 32000000 in
theorem add2 (k : Int) (p : Option Addr) (xs : List Mo) (c : Nat) (k' : Int) (q : Option Addr) (ys : List Mo) (d : Nat) (w : World) (hn : xs.length ≤ 1000) (hm : ys.length ≤ 1000) (hc : xs.length ≤ c) (hd : ys.length ≤ d) (RA : Hid (SlM w p xs)) (RB : Hid (SlM w q ys))
    (RS : Hid (∀ i, i < xs.length → (xs.getD i mo0).1.size ≤ maxLen ∧ -9223372036854775808 ≤ (xs.getD i mo0).2 ∧ (xs.getD i mo0).2 ≤ 9223372036854775807)) (RT : Hid (∀ i, i < ys.length → (ys.getD i mo0).1.size ≤ maxLen ∧ -9223372036854775808 ≤ (ys.getD i mo0).2 ∧ (ys.getD i mo0).2 ≤ 9223372036854775807))
    (k1 : -9223372036854775808 ≤ k) (k2 : k ≤ 9223372036854775807) (b1 : -9223372036854775808 ≤ k') (b2 : k' ≤ 9223372036854775807) :
    Calls Tryd.prog 69 #[Lv k p xs.length c, Lv k' q ys.length d] w (LR (adR k xs k' ys).1 (adR k xs k' ys).2.1 (adR k xs k' ys).2.2 w) := by
  have C1 := Lib.hid fun (u : World) (h : Hid (SlM u p xs)) => val2 k p xs c u (by unfold maxLen; omega) h (Lib.hid fun i hi => (RS.out i hi).1)
  have C2 := Lib.hid fun (u : World) (h : Hid (SlM u q ys)) => val2 k' q ys d u (by unfold maxLen; omega) h (Lib.hid fun i hi => (RT.out i hi).1)
  have B0 : Below w.heap.size w (((w.alloc (Obj.cells #[Value.int .i64 k, Value.slice p xs.length c] 24)).alloc (Obj.cells #[Value.int .i64 k', Value.slice q ys.length d] 24)).alloc (Obj.cells #[Value.int .i64 0, Value.slice none 0 0] 24)) := ((((Below.refl _ _).alloc (Nat.le_refl _) _).alloc (by simp) _).alloc (by simp; omega) _)
  have S0 : w.heap.size + 2 < ((((w.alloc (Obj.cells #[Value.int .i64 k, Value.slice p xs.length c] 24)).alloc (Obj.cells #[Value.int .i64 k', Value.slice q ys.length d] 24)).alloc (Obj.cells #[Value.int .i64 0, Value.slice none 0 0] 24))).heap.size := by simp
  have F0 : Cl [(w.heap.size, 0, .int .i64 k), (w.heap.size, 1, .slice p xs.length c), (w.heap.size + 1, 0, .int .i64 k'), (w.heap.size + 1, 1, .slice q ys.length d), (w.heap.size + 1 + 1, 0, .int .i64 0), (w.heap.size + 1 + 1, 1, .slice none 0 0)] (((w.alloc (Obj.cells #[Value.int .i64 k, Value.slice p xs.length c] 24)).alloc (Obj.cells #[Value.int .i64 k', Value.slice q ys.length d] 24)).alloc (Obj.cells #[Value.int .i64 0, Value.slice none 0 0] 24)) := (Cl.cons (by go_cell) (by first | go_cell | simp) (Cl.cons (by go_cell) (by first | go_cell | simp) (Cl.cons (by go_cell) (by first | go_cell | simp) (Cl.cons (by go_cell) (by first | go_cell | simp) (Cl.cons (by go_cell) (by first | go_cell | simp) (Cl.cons (by go_cell) (by first | go_cell | simp) (Cl.nil _)))))))
  obtain ⟨R, hRR⟩ : ∃ R, adR k xs k' ys = R := ⟨_, rfl⟩
  have hR : R = if okL xs = false ∨ okL ys = false then (0, [], 1) else if adF k k' (mg xs ys) = true then (wrap64 (k + k'), flt (mg xs ys), 0) else (0, [], 3) := by rw [← hRR]; rfl
  rw [hRR]
  clear hRR
  unfold Lv at *
  obtain ⟨ok, hok⟩ : ∃ ok, okL xs = ok := ⟨_, rfl⟩
  obtain ⟨ok2, hok2⟩ : ∃ ok, okL ys = ok := ⟨_, rfl⟩
  cases ok
  · have hv : vL xs = 1 := by unfold vL; rw [hok]; rfl
    have HR := Lib.hid (hR.trans (if_pos (.inl hok)))
    rw [hv] at C1
    clear hR hok hok2 hv
    go_enter Tryd.func69, Tryd.ntmps69
    go_wp2_with fail
    generalize (((w.alloc (Obj.cells #[Value.int .i64 k, Value.slice p xs.length c] 24)).alloc (Obj.cells #[Value.int .i64 k', Value.slice q ys.length d] 24)).alloc (Obj.cells #[Value.int .i64 0, Value.slice none 0 0] 24)) = z at *
    have q0 := F0.head
    have q1 := F0.tail.head
    have q2 := F0.tail.tail.head
    have q3 := F0.tail.tail.tail.head
    refine (C1.out _ (Lib.hid (SlM.keep B0 RA.out))).mono ?_
    rintro e w1 ⟨rfl, hb⟩
    have F1 := F0.below hb
    have K1 := B0.trans (hb.mono B0.size)
    clear F0 hb B0 S0 q0 q1 q2 q3
    have q4 := F1.tail.tail.tail.tail.head
    have zq4 := F1.tail.tail.tail.tail.headF
    have q5 := F1.tail.tail.tail.tail.tail.head
    have zq5 := F1.tail.tail.tail.tail.tail.headF
    go_wp2
    exact bodyPost_ret (v := .tuple #[.agg #[.int .i64 0, .slice none 0 0], .int .i64 1]) (by simp [results, Tryd.results69, go_sem, q4, q5]) rfl (by rw [HR.out]; exact LR.zero rfl (below2 K1 (by omega) _ _))
  · have hv : vL xs = 0 := by unfold vL; rw [hok]; rfl
    rw [hv] at C1
    clear hv
    cases ok2
    · have hv : vL ys = 1 := by unfold vL; rw [hok2]; rfl
      have HR := Lib.hid (hR.trans (if_pos (.inr hok2)))
      rw [hv] at C2
      clear hR hok hok2 hv
      go_enter Tryd.func69, Tryd.ntmps69
      go_wp2_with fail
      generalize (((w.alloc (Obj.cells #[Value.int .i64 k, Value.slice p xs.length c] 24)).alloc (Obj.cells #[Value.int .i64 k', Value.slice q ys.length d] 24)).alloc (Obj.cells #[Value.int .i64 0, Value.slice none 0 0] 24)) = z at *
      have q0 := F0.head
      have q1 := F0.tail.head
      have q2 := F0.tail.tail.head
      have q3 := F0.tail.tail.tail.head
      refine (C1.out _ (Lib.hid (SlM.keep B0 RA.out))).mono ?_
      rintro e w1 ⟨rfl, hb⟩
      replace F0 := F0.below hb
      replace B0 := B0.trans (hb.mono B0.size)
      clear hb S0 q0 q1 q2 q3
      have q0 := F0.head
      have q1 := F0.tail.head
      have q2 := F0.tail.tail.head
      have q3 := F0.tail.tail.tail.head
      go_wp2_with fail
      refine (C2.out _ (Lib.hid (SlM.keep B0 RB.out))).mono ?_
      rintro e w2 ⟨rfl, hb⟩
      have F1 := F0.below hb
      have K1 := B0.trans (hb.mono B0.size)
      clear F0 hb B0 q0 q1 q2 q3
      have q4 := F1.tail.tail.tail.tail.head
      have zq4 := F1.tail.tail.tail.tail.headF
      have q5 := F1.tail.tail.tail.tail.tail.head
      have zq5 := F1.tail.tail.tail.tail.tail.headF
      go_wp2
      exact bodyPost_ret (v := .tuple #[.agg #[.int .i64 0, .slice none 0 0], .int .i64 1]) (by simp [results, Tryd.results69, go_sem, q4, q5]) rfl (by rw [HR.out]; exact LR.zero rfl (below2 K1 (by omega) _ _))
    · have hv : vL ys = 0 := by unfold vL; rw [hok2]; rfl
      rw [hv] at C2
      replace hR := hR.trans (if_neg (by rw [hok, hok2]; decide))
      have HX := Lib.hid (okL_iff.1 hok).1
      have HY := Lib.hid (okL_iff.1 hok2).1
      have HRt := Lib.hid fun h : adF k k' (mg xs ys) = true => hR.trans (if_pos h)
      have HRf := Lib.hid fun h : ¬ adF k k' (mg xs ys) = true => hR.trans (if_neg h)
      have CA := Lib.hid fun (s : ByteArray) (u : World) h => coeff2 k p xs c s u (by unfold maxLen; omega) h
      have CB := Lib.hid fun (s : ByteArray) (u : World) h => coeff2 k' q ys d s u (by unfold maxLen; omega) h
      unfold Lv at CA CB
      clear hR hok hok2 hv
      obtain ⟨fk, hfk⟩ : ∃ f, fit64 (k + k') = f := ⟨_, rfl⟩
      cases fk
      · have HR := Lib.hid (HRf.out (by unfold adF; rw [hfk]; simp))
        have CP := plusN k k'
        have HF := Lib.hid hfk
        have CP := Lib.hid fun w => plusN k k' w k1 k2 b1 b2 HF.out
        clear hfk HRt HRf
        go_enter Tryd.func69, Tryd.ntmps69
        go_wp2_with fail
        generalize (((w.alloc (Obj.cells #[Value.int .i64 k, Value.slice p xs.length c] 24)).alloc (Obj.cells #[Value.int .i64 k', Value.slice q ys.length d] 24)).alloc (Obj.cells #[Value.int .i64 0, Value.slice none 0 0] 24)) = z at *
        have q0 := F0.head
        have q1 := F0.tail.head
        have q2 := F0.tail.tail.head
        have q3 := F0.tail.tail.tail.head
        refine (C1.out _ (Lib.hid (SlM.keep B0 RA.out))).mono ?_
        rintro e w1 ⟨rfl, hb⟩
        replace F0 := F0.below hb
        replace B0 := B0.trans (hb.mono B0.size)
        replace S0 := Nat.lt_of_lt_of_le S0 hb.size
        clear hb q0 q1 q2 q3
        have q0 := F0.head
        have q1 := F0.tail.head
        have q2 := F0.tail.tail.head
        have q3 := F0.tail.tail.tail.head
        go_wp2_with fail
        refine (C2.out _ (Lib.hid (SlM.keep B0 RB.out))).mono ?_
        rintro e w2 ⟨rfl, hb⟩
        have F1 := F0.below hb
        have K1 := B0.trans (hb.mono B0.size)
        have S1 : w.heap.size + 2 < w2.heap.size := Nat.lt_of_lt_of_le S0 hb.size
        clear F0 hb B0 S0 q0 q1 q2 q3
        have q0 := F1.head
        have q2 := F1.tail.tail.head
        have q4 := F1.tail.tail.tail.tail.head
        have zq4 := F1.tail.tail.tail.tail.headF
        have q5 := F1.tail.tail.tail.tail.tail.head
        have zq5 := F1.tail.tail.tail.tail.tail.headF
        go_wp2_with fail
        refine (CP.out _).mono ?_
        rintro e w3 ⟨rfl, rfl⟩
        go_wp2
        exact bodyPost_ret (v := .tuple #[.agg #[.int .i64 0, .slice none 0 0], .int .i64 3]) (by simp [results, Tryd.results69, go_sem, q4, q5]) rfl (by rw [HR.out]; exact LR.zero rfl (below2 K1 (by omega) _ _))
      · have HF := Lib.hid hfk
        obtain ⟨K0, hK0⟩ : ∃ K0, wrap64 (k + k') = K0 := ⟨_, rfl⟩
        have HK0 := Lib.hid hK0
        have CP := Lib.hid fun w => plusY k k' w k1 k2 b1 b2 HF.out
        rw [hK0] at CP
        clear hfk hK0
        go_enter Tryd.func69, Tryd.ntmps69
        go_wp2_with fail
        generalize (((w.alloc (Obj.cells #[Value.int .i64 k, Value.slice p xs.length c] 24)).alloc (Obj.cells #[Value.int .i64 k', Value.slice q ys.length d] 24)).alloc (Obj.cells #[Value.int .i64 0, Value.slice none 0 0] 24)) = z at *
        have q0 := F0.head
        have q1 := F0.tail.head
        have q2 := F0.tail.tail.head
        have q3 := F0.tail.tail.tail.head
        refine (C1.out _ (Lib.hid (SlM.keep B0 RA.out))).mono ?_
        rintro e w1 ⟨rfl, hb⟩
        replace F0 := F0.below hb
        replace B0 := B0.trans (hb.mono B0.size)
        replace S0 := Nat.lt_of_lt_of_le S0 hb.size
        clear hb q0 q1 q2 q3
        have q0 := F0.head
        have q1 := F0.tail.head
        have q2 := F0.tail.tail.head
        have q3 := F0.tail.tail.tail.head
        go_wp2_with fail
        refine (C2.out _ (Lib.hid (SlM.keep B0 RB.out))).mono ?_
        rintro e w2 ⟨rfl, hb⟩
        have F1 := F0.below hb
        have K1 := B0.trans (hb.mono B0.size)
        have S1 : w.heap.size + 2 < w2.heap.size := Nat.lt_of_lt_of_le S0 hb.size
        clear F0 hb B0 S0 q0 q1 q2 q3
        have q0 := F1.head
        have q1 := F1.tail.head
        have q2 := F1.tail.tail.head
        have q3 := F1.tail.tail.tail.head
        have q4 := F1.tail.tail.tail.tail.head
        have zq4 := F1.tail.tail.tail.tail.headF
        have q5 := F1.tail.tail.tail.tail.tail.head
        have zq5 := F1.tail.tail.tail.tail.tail.headF
        go_wp2_with fail
        refine (CP.out _).mono ?_
        rintro e w3 ⟨rfl, rfl⟩
        have FB := Cl.cons (b := w2.heap.size) (o := 0) (v := .int .i64 K0) (by go_cell) (by first | go_cell | simp) (Cl.cons (b := w2.heap.size) (o := 1) (v := .slice none 0 0) (by go_cell) (by first | go_cell | simp) (F1.below ((Below.refl _ _).alloc (Nat.le_refl _) (Obj.cells #[Value.int .i64 K0, Value.slice none 0 0] 24))))
        have KB := K1.alloc K1.size (Obj.cells #[Value.int .i64 K0, Value.slice none 0 0] 24)
        have SB : w2.heap.size < (w2.alloc (Obj.cells #[Value.int .i64 K0, Value.slice none 0 0] 24)).heap.size := by simp
        clear q0 q1 q2 q3 q4 q5 zq4 zq5 F1
        have r0 := FB.head
        have r1 := FB.tail.head
        have q0 := FB.tail.tail.head
        have q1 := FB.tail.tail.tail.head
        have q2 := FB.tail.tail.tail.tail.head
        have q3 := FB.tail.tail.tail.tail.tail.head
        have HZ3 := Lib.hid (show (w2.alloc (Obj.cells #[Value.int .i64 K0, Value.slice none 0 0] 24)).heap.size = w2.heap.size + 1 by simp)
        go_wp2_with fail
        generalize w2.alloc (Obj.cells #[Value.int .i64 K0, Value.slice none 0 0] 24) = w3 at *
        have hgr : w.heap.size + 2 < w2.heap.size := S1
        clear K1 S1
        generalize w2.heap.size = gr at *
        have SLL : SlL (w3.alloc (Obj.cells #[Value.int .i64 k, Value.slice p xs.length c, Value.int .i64 k', Value.slice q ys.length d] 24)) (some ⟨gr + 1, 0, none⟩) [(k, p, xs, c), (k', q, ys, d)] := fun i hi => by
          have hKK := KB.alloc KB.size (Obj.cells #[Value.int .i64 k, Value.slice p xs.length c, Value.int .i64 k', Value.slice q ys.length d] 24)
          rcases i with _ | _ | i
          · exact ⟨gr + 1, 0, rfl, by rw [← HZ3.out]; go_cell, by rw [← HZ3.out]; go_cell, SlM.keep hKK RA.out⟩
          · exact ⟨gr + 1, 0, rfl, by rw [← HZ3.out]; go_cell, by rw [← HZ3.out]; go_cell, SlM.keep hKK RB.out⟩
          · exact absurd (show i + 2 < 2 from hi) (by omega)
        have CN : Calls Tryd.prog 100 #[.slice (some ⟨gr + 1, 0, none⟩) 2 2] (w3.alloc (Obj.cells #[Value.int .i64 k, Value.slice p xs.length c, Value.int .i64 k', Value.slice q ys.length d] 24)) (NW [(k, p, xs, c), (k', q, ys, d)] (w3.alloc (Obj.cells #[Value.int .i64 k, Value.slice p xs.length c, Value.int .i64 k', Value.slice q ys.length d] 24))) :=
          names2 (some ⟨gr + 1, 0, none⟩) [(k, p, xs, c), (k', q, ys, d)] 2 (w3.alloc (Obj.cells #[Value.int .i64 k, Value.slice p xs.length c, Value.int .i64 k', Value.slice q ys.length d] 24)) (by simp) (Lib.hid fun i hi => by rcases i with _ | _ | i <;> first | exact hn | exact hm | exact absurd (show _ + 2 < 2 from hi) (by omega)) (Lib.hid SLL)
        refine CN.mono ?_
        rintro e w4 ⟨vn, L, rfl, hO, hS, hM, hl, hb⟩
        have BA := (Below.refl w3.heap.size w3).alloc (Nat.le_refl _) (Obj.cells #[Value.int .i64 k, Value.slice p xs.length c, Value.int .i64 k', Value.slice q ys.length d] 24)
        have F4 := (FB.below BA).below hb
        have K4 : Below w.heap.size w w4 := (KB.trans (BA.mono KB.size)).trans (hb.mono (KB.trans (BA.mono KB.size)).size)
        have S4 : gr < w4.heap.size := Nat.lt_of_lt_of_le SB (Nat.le_trans BA.size hb.size)
        have hbs : gr < (w3.alloc (Obj.cells #[Value.int .i64 k, Value.slice p xs.length c, Value.int .i64 k', Value.slice q ys.length d] 24)).heap.size := Nat.lt_of_lt_of_le SB BA.size
        obtain ⟨pn, cn, rfl, hT⟩ := own_st hO rfl
        have hpn : ∀ b o, pn = some ⟨b, o, none⟩ → b ≠ gr := fun b o e => by subst e; have := (hO.lt b rfl).1; omega
        have hNM := mg_names HX.out HY.out hS (fun s => by rw [hM s]; simp [nms])
        have hNL : L.length = (mg xs ys).length := by rw [← hNM, List.length_map]
        have hl2 : L.length ≤ 2000 := by simpa using hl
        obtain ⟨M, hMM⟩ : ∃ M, mg xs ys = M := ⟨_, rfl⟩
        rw [hMM] at hNM hNL HRt HRf
        have HM := Lib.hid hNM
        have HL := Lib.hid hNL
        have HT := Lib.hid hT
        clear hNM hNL hT hO hS hM hl hb CN SLL FB KB SB BA hbs hMM r0 r1 q0 q1 q2 q3 HZ3
        have HG0 := Lib.hid (show w4.grownBy w4 (some gr) from ⟨rfl, rfl, rfl, Nat.le_refl _, fun _ _ _ => rfl⟩)
        obtain ⟨i0, hi, hz0, hz1, hz2⟩ := info_parts infoMo
        go_wp2_with fail
        go_loopw [10] (fun i wr => ∃ (j : Nat) (v : Value), i = .int .i64 (j : Int) ∧ j ≤ L.length ∧ Below w.heap.size w wr ∧ Hid (w4.grownBy wr (some gr)) ∧ Hid (Cl [(gr, 0, .int .i64 K0), (gr, 1, v), (w.heap.size, 0, .int .i64 k), (w.heap.size, 1, .slice p xs.length c), (w.heap.size + 1, 0, .int .i64 k'), (w.heap.size + 1, 1, .slice q ys.length d), (w.heap.size + 1 + 1, 0, .int .i64 0), (w.heap.size + 1 + 1, 1, .slice none 0 0)] wr) ∧ Hid (wr.ownsRow w4.heap.size 59 2 v (flt (M.take j)).length (moCs (flt (M.take j)))) ∧ Hid (((M.take j).all fun m => fit64 m.2) = true)) (fun i _ => L.length - (intOf i).toNat)
        case atStart => exact ⟨0, .slice none 0 0, rfl, by omega, K4, HG0, Lib.hid F4, Lib.hid (World.ownsRow_nil _ _ _ _), Lib.hid (by simp)⟩
        case round =>
          obtain ⟨j, vl, rfl, hj, hB, hG, hF, hO, hf⟩ := hrel
          have j0 : (0 : Int) ≤ j := by omega
          by_cases hlt : j < L.length
          · obtain ⟨gn, on, rfl, c0⟩ := HT.out j hlt
            have hgn := hpn gn on rfl
            replace c0 := cell_grown hG.out hgn c0
            have htk := Lib.hid (take_step (xs := M) (j := j) (by rw [← HL.out]; exact hlt))
            have hmm := Lib.hid (getD_mem (xs := M) (j := j) (by rw [← HL.out]; exact hlt))
            have hel : M.getD j mo0 = (L.getD j ByteArray.empty, co xs (L.getD j ByteArray.empty) + co ys (L.getD j ByteArray.empty)) := by
              rw [← HM.out]
              unfold List.getD
              rw [List.getElem?_map, List.getElem?_eq_getElem hlt]
              rfl
            obtain ⟨s, hs⟩ : ∃ s, L.getD j ByteArray.empty = s := ⟨_, rfl⟩
            rw [hs] at c0 hel
            replace htk := Lib.hid (by have h := htk.out; rw [hel] at h; exact h)
            replace hmm := Lib.hid (by have h := hmm.out; rw [hel] at h; exact h)
            have ba := co_bd RS.out s
            have bb := co_bd RT.out s
            have CA2 := Lib.hid (CA.out s)
            have CB2 := Lib.hid (CB.out s)
            obtain ⟨x, hx⟩ : ∃ x, co xs s = x := ⟨_, rfl⟩
            obtain ⟨y, hy⟩ : ∃ y, co ys s = y := ⟨_, rfl⟩
            rw [hx] at ba CA2 htk hmm
            rw [hy] at bb CB2 htk hmm
            clear hel hs hx hy
            have F5 := hF.out
            have j1 : (j : Int) < L.length := by omega
            have e0 := F5.head
            have e1 := F5.tail.head
            have ze1 := F5.tail.headF
            have q0 := F5.tail.tail.head
            have q1 := F5.tail.tail.tail.head
            have q2 := F5.tail.tail.tail.tail.head
            have q3 := F5.tail.tail.tail.tail.tail.head
            have q4 := F5.tail.tail.tail.tail.tail.tail.head
            have zq4 := F5.tail.tail.tail.tail.tail.tail.headF
            have q5 := F5.tail.tail.tail.tail.tail.tail.tail.head
            have zq5 := F5.tail.tail.tail.tail.tail.tail.tail.headF
            have hz9 := (⟨q0, q1, q2, q3, c0⟩ : wr.drew.cell? ⟨w.heap.size, 0, none⟩ = some (.int .i64 k) ∧ wr.drew.cell? ⟨w.heap.size, 1, none⟩ = some (.slice p xs.length c) ∧ wr.drew.cell? ⟨w.heap.size + 1, 0, none⟩ = some (.int .i64 k') ∧ wr.drew.cell? ⟨w.heap.size + 1, 1, none⟩ = some (.slice q ys.length d) ∧ wr.drew.cell? ⟨gn, on + j, none⟩ = some (.string s))
            obtain ⟨fa, hfa⟩ : ∃ f, fit64 (x + y) = f := ⟨_, rfl⟩
            cases fa
            · have HR := Lib.hid (HRf.out (by
                unfold adF
                rw [Bool.and_eq_true, List.all_eq_true]
                intro h
                have := h.2 _ hmm.out
                rw [hfa] at this
                cases this))
              have HA := Lib.hid hfa
              have CQ := Lib.hid fun w => plusN x y w ba.1 ba.2 bb.1 bb.2 HA.out
              clear hfa HRt HRf
              go_wp2_with fail
              refine Rk.begin (S := fun wS => wS.cell? ⟨w.heap.size, 0, none⟩ = some (.int .i64 k) ∧ wS.cell? ⟨w.heap.size, 1, none⟩ = some (.slice p xs.length c) ∧ wS.cell? ⟨w.heap.size + 1, 0, none⟩ = some (.int .i64 k') ∧ wS.cell? ⟨w.heap.size + 1, 1, none⟩ = some (.slice q ys.length d) ∧ wS.cell? ⟨gn, on + j, none⟩ = some (.string s)) 17 (by kernel_rfl) hz9 (fun hHeld => ?_)
              refine Rk.take [17] (i := 0) (v := ?_) rfl (by kernel_rfl) (by kernel_rfl) (by kernel_rfl) (by kernel_rfl) (by kernel_rfl) (fun _ _ _ h => h) (Or.inl ⟨by kernel_rfl, ?_⟩) (by assumption) ?_
              rotate_left
              · ((intro w hSw; (try dsimp only at hSw); go_simp) <;> with_reducible rfl)
              try simp only [Act.put, List.setIfInBounds_toArray, List.set_cons_zero, List.set_cons_succ]
              refine Rk.takeP (i := 1) (v := ?_) rfl (by kernel_rfl) (by kernel_rfl) (by kernel_rfl) (by kernel_rfl) (fun _ _ _ h => h) (Or.inl ⟨by kernel_rfl, ?_⟩) (by assumption) ?_
              rotate_left
              · ((intro w hSw; go_simp) <;> with_reducible rfl)
              try simp only [Act.put, List.setIfInBounds_toArray, List.set_cons_zero, List.set_cons_succ]
              refine Rk.takeP (i := 2) (v := ?_) rfl (by kernel_rfl) (by kernel_rfl) (by kernel_rfl) (by kernel_rfl) (fun _ _ _ h => h) (Or.inl ⟨by kernel_rfl, ?_⟩) (by assumption) ?_
              rotate_left
              · ((intro w hSw; go_simp) <;> with_reducible rfl)
              try simp only [Act.put, List.setIfInBounds_toArray, List.set_cons_zero, List.set_cons_succ]
              refine Rk.takeP (i := 3) (v := ?_) rfl (by kernel_rfl) (by kernel_rfl) (by kernel_rfl) (by kernel_rfl) (fun _ _ _ h => h) (Or.inl ⟨by kernel_rfl, ?_⟩) (by assumption) ?_
              rotate_left
              · ((intro w hSw; go_simp) <;> with_reducible rfl)
              try simp only [Act.put, List.setIfInBounds_toArray, List.set_cons_zero, List.set_cons_succ]
              refine Rk.take [17] (i := 4) (v := ?_) rfl (by kernel_rfl) (by kernel_rfl) (by kernel_rfl) (by kernel_rfl) (by kernel_rfl) (fun _ _ _ h => h) (Or.inl ⟨by kernel_rfl, ?_⟩) (by assumption) ?_
              rotate_left
              · ((intro w hSw; (try dsimp only at hSw); go_simp) <;> with_reducible rfl)
              try simp only [Act.put, List.setIfInBounds_toArray, List.set_cons_zero, List.set_cons_succ]
              refine Rk.take [17] (i := 6) (v := ?_) rfl (by kernel_rfl) (by kernel_rfl) (by kernel_rfl) (by kernel_rfl) (by kernel_rfl) (fun _ _ _ h => h) (Or.inl ⟨by kernel_rfl, ?_⟩) (by assumption) ?_
              rotate_left
              · ((intro w hSw; (try dsimp only at hSw); go_simp) <;> with_reducible rfl)
              try simp only [Act.put, List.setIfInBounds_toArray, List.set_cons_zero, List.set_cons_succ]
              refine Rk.takeP (i := 7) (v := ?_) rfl (by kernel_rfl) (by kernel_rfl) (by kernel_rfl) (by kernel_rfl) (fun _ _ _ h => h) (Or.inl ⟨by kernel_rfl, ?_⟩) (by assumption) ?_
              rotate_left
              · ((intro w hSw; go_simp) <;> with_reducible rfl)
              try simp only [Act.put, List.setIfInBounds_toArray, List.set_cons_zero, List.set_cons_succ]
              refine Rk.takeP (i := 8) (v := ?_) rfl (by kernel_rfl) (by kernel_rfl) (by kernel_rfl) (by kernel_rfl) (fun _ _ _ h => h) (Or.inl ⟨by kernel_rfl, ?_⟩) (by assumption) ?_
              rotate_left
              · ((intro w hSw; go_simp) <;> with_reducible rfl)
              try simp only [Act.put, List.setIfInBounds_toArray, List.set_cons_zero, List.set_cons_succ]
              refine Rk.takeP (i := 9) (v := ?_) rfl (by kernel_rfl) (by kernel_rfl) (by kernel_rfl) (by kernel_rfl) (fun _ _ _ h => h) (Or.inl ⟨by kernel_rfl, ?_⟩) (by assumption) ?_
              rotate_left
              · ((intro w hSw; go_simp) <;> with_reducible rfl)
              try simp only [Act.put, List.setIfInBounds_toArray, List.set_cons_zero, List.set_cons_succ]
              refine Rk.take [17] (i := 10) (v := ?_) rfl (by kernel_rfl) (by kernel_rfl) (by kernel_rfl) (by kernel_rfl) (by kernel_rfl) (fun _ _ _ h => h) (Or.inl ⟨by kernel_rfl, ?_⟩) (by assumption) ?_
              rotate_left
              · ((intro w hSw; (try dsimp only at hSw); go_simp) <;> with_reducible rfl)
              try simp only [Act.put, List.setIfInBounds_toArray, List.set_cons_zero, List.set_cons_succ]
              refine Rk.one (i := 5) (by kernel_rfl) rfl (fun KK hK => ?_)
              rw [if_pos (by kernel_rfl)]
              go_simp
              have hC := Lib.hid (SlM.keep (hB.drew) RA.out)
              ((with_reducible refine (CA2.out wr.drew hC).mono ?_); rintro e u1 ⟨rfl, hb1⟩)
              refine hK.out _ _ ⟨kp hb1 (lt_of_cell hHeld.1) hHeld.1, kp hb1 (lt_of_cell hHeld.2.1) hHeld.2.1, kp hb1 (lt_of_cell hHeld.2.2.1) hHeld.2.2.1, kp hb1 (lt_of_cell hHeld.2.2.2.1) hHeld.2.2.2.1, kp hb1 (lt_of_cell hHeld.2.2.2.2) hHeld.2.2.2.2⟩ (fun hHeld => ?_)
              clear hK KK
              refine Rk.one (i := 11) (by kernel_rfl) rfl (fun KK hK => ?_)
              rw [if_pos (by kernel_rfl)]
              go_simp
              have KB1 := (hB.drew).trans (hb1.mono hB.size)
              have hD := Lib.hid (SlM.keep KB1 RB.out)
              ((with_reducible refine (CB2.out u1 hD).mono ?_); rintro e u2 ⟨rfl, hb2⟩)
              refine hK.out _ _ ⟨kp hb2 (lt_of_cell hHeld.1) hHeld.1, kp hb2 (lt_of_cell hHeld.2.1) hHeld.2.1, kp hb2 (lt_of_cell hHeld.2.2.1) hHeld.2.2.1, kp hb2 (lt_of_cell hHeld.2.2.2.1) hHeld.2.2.2.1, kp hb2 (lt_of_cell hHeld.2.2.2.2) hHeld.2.2.2.2⟩ (fun hHeld => ?_)
              clear hK KK
              refine Rk.one (i := 12) (by kernel_rfl) rfl (fun KK hK => ?_)
              rw [if_pos (by kernel_rfl)]
              go_simp
              ((with_reducible refine (CQ.out u2).mono ?_); rintro e u3 ⟨rfl, rfl⟩)
              refine hK.out _ _ hHeld (fun hHeld => ?_)
              clear hK KK
              refine Rk.takeP (i := 13) (v := ?_) rfl (by kernel_rfl) (by kernel_rfl) (by kernel_rfl) (by kernel_rfl) (fun _ _ _ h => h) (Or.inl ⟨by kernel_rfl, ?_⟩) (by assumption) ?_
              rotate_left
              · ((intro w hSw; go_simp) <;> with_reducible rfl)
              try simp only [Act.put, List.setIfInBounds_toArray, List.set_cons_zero, List.set_cons_succ]
              refine Rk.takeP (i := 14) (v := ?_) rfl (by kernel_rfl) (by kernel_rfl) (by kernel_rfl) (by kernel_rfl) (fun _ _ _ h => h) (Or.inl ⟨by kernel_rfl, ?_⟩) (by assumption) ?_
              rotate_left
              · ((intro w hSw; go_simp) <;> with_reducible rfl)
              try simp only [Act.put, List.setIfInBounds_toArray, List.set_cons_zero, List.set_cons_succ]
              refine Rk.takeP (i := 15) (v := ?_) rfl (by kernel_rfl) (by kernel_rfl) (by kernel_rfl) (by kernel_rfl) (fun _ _ _ h => h) (Or.inl ⟨by kernel_rfl, ?_⟩) (by assumption) ?_
              rotate_left
              · ((intro w hSw; go_simp) <;> with_reducible rfl)
              try simp only [Act.put, List.setIfInBounds_toArray, List.set_cons_zero, List.set_cons_succ]
              refine Rk.takeP (i := 16) (v := ?_) rfl (by kernel_rfl) (by kernel_rfl) (by kernel_rfl) (by kernel_rfl) (fun _ _ _ h => h) (Or.inl ⟨by kernel_rfl, ?_⟩) (by assumption) ?_
              rotate_left
              · ((intro w hSw; go_simp) <;> with_reducible rfl)
              try simp only [Act.put, List.setIfInBounds_toArray, List.set_cons_zero, List.set_cons_succ]
              refine Rk.tail [17] [_] (by kernel_rfl) (by kernel_rfl) rfl (by decide) ?_
              have K6 := ((hB.drew).trans (hb1.mono hB.size)).trans (hb2.mono (Nat.le_trans hB.size hb1.size))
              have F6 := (F5.drew.below hb1).below hb2
              clear hHeld hz9 F5 q0 q1 q2 q3 q4 q5 zq4 zq5 e0 e1 ze1
              have e0 := F6.head
              have e1 := F6.tail.head
              have ze1 := F6.tail.headF
              have q0 := F6.tail.tail.head
              have q1 := F6.tail.tail.tail.head
              have q2 := F6.tail.tail.tail.tail.head
              have q3 := F6.tail.tail.tail.tail.tail.head
              have q4 := F6.tail.tail.tail.tail.tail.tail.head
              have zq4 := F6.tail.tail.tail.tail.tail.tail.headF
              have q5 := F6.tail.tail.tail.tail.tail.tail.tail.head
              have zq5 := F6.tail.tail.tail.tail.tail.tail.tail.headF
              go_wp2
              exact bodyPost_ret (v := .tuple #[.agg #[.int .i64 0, .slice none 0 0], .int .i64 3]) (by simp [results, Tryd.results69, go_sem, q4, q5]) rfl (by rw [HR.out]; exact LR.zero rfl (below2 K6 (by omega) _ _))
            · have HA := Lib.hid hfa
              obtain ⟨C, hC⟩ : ∃ C, wrap64 (x + y) = C := ⟨_, rfl⟩
              have HC := Lib.hid hC
              have CQ := Lib.hid fun w => plusY x y w ba.1 ba.2 bb.1 bb.2 HA.out
              rw [hC] at CQ
              clear hfa hC
              go_wp2_with fail
              refine Rk.begin (S := fun wS => wS.cell? ⟨w.heap.size, 0, none⟩ = some (.int .i64 k) ∧ wS.cell? ⟨w.heap.size, 1, none⟩ = some (.slice p xs.length c) ∧ wS.cell? ⟨w.heap.size + 1, 0, none⟩ = some (.int .i64 k') ∧ wS.cell? ⟨w.heap.size + 1, 1, none⟩ = some (.slice q ys.length d) ∧ wS.cell? ⟨gn, on + j, none⟩ = some (.string s)) 17 (by kernel_rfl) hz9 (fun hHeld => ?_)
              refine Rk.take [17] (i := 0) (v := ?_) rfl (by kernel_rfl) (by kernel_rfl) (by kernel_rfl) (by kernel_rfl) (by kernel_rfl) (fun _ _ _ h => h) (Or.inl ⟨by kernel_rfl, ?_⟩) (by assumption) ?_
              rotate_left
              · ((intro w hSw; (try dsimp only at hSw); go_simp) <;> with_reducible rfl)
              try simp only [Act.put, List.setIfInBounds_toArray, List.set_cons_zero, List.set_cons_succ]
              refine Rk.takeP (i := 1) (v := ?_) rfl (by kernel_rfl) (by kernel_rfl) (by kernel_rfl) (by kernel_rfl) (fun _ _ _ h => h) (Or.inl ⟨by kernel_rfl, ?_⟩) (by assumption) ?_
              rotate_left
              · ((intro w hSw; go_simp) <;> with_reducible rfl)
              try simp only [Act.put, List.setIfInBounds_toArray, List.set_cons_zero, List.set_cons_succ]
              refine Rk.takeP (i := 2) (v := ?_) rfl (by kernel_rfl) (by kernel_rfl) (by kernel_rfl) (by kernel_rfl) (fun _ _ _ h => h) (Or.inl ⟨by kernel_rfl, ?_⟩) (by assumption) ?_
              rotate_left
              · ((intro w hSw; go_simp) <;> with_reducible rfl)
              try simp only [Act.put, List.setIfInBounds_toArray, List.set_cons_zero, List.set_cons_succ]
              refine Rk.takeP (i := 3) (v := ?_) rfl (by kernel_rfl) (by kernel_rfl) (by kernel_rfl) (by kernel_rfl) (fun _ _ _ h => h) (Or.inl ⟨by kernel_rfl, ?_⟩) (by assumption) ?_
              rotate_left
              · ((intro w hSw; go_simp) <;> with_reducible rfl)
              try simp only [Act.put, List.setIfInBounds_toArray, List.set_cons_zero, List.set_cons_succ]
              refine Rk.take [17] (i := 4) (v := ?_) rfl (by kernel_rfl) (by kernel_rfl) (by kernel_rfl) (by kernel_rfl) (by kernel_rfl) (fun _ _ _ h => h) (Or.inl ⟨by kernel_rfl, ?_⟩) (by assumption) ?_
              rotate_left
              · ((intro w hSw; (try dsimp only at hSw); go_simp) <;> with_reducible rfl)
              try simp only [Act.put, List.setIfInBounds_toArray, List.set_cons_zero, List.set_cons_succ]
              refine Rk.take [17] (i := 6) (v := ?_) rfl (by kernel_rfl) (by kernel_rfl) (by kernel_rfl) (by kernel_rfl) (by kernel_rfl) (fun _ _ _ h => h) (Or.inl ⟨by kernel_rfl, ?_⟩) (by assumption) ?_
              rotate_left
              · ((intro w hSw; (try dsimp only at hSw); go_simp) <;> with_reducible rfl)
              try simp only [Act.put, List.setIfInBounds_toArray, List.set_cons_zero, List.set_cons_succ]
              refine Rk.takeP (i := 7) (v := ?_) rfl (by kernel_rfl) (by kernel_rfl) (by kernel_rfl) (by kernel_rfl) (fun _ _ _ h => h) (Or.inl ⟨by kernel_rfl, ?_⟩) (by assumption) ?_
              rotate_left
              · ((intro w hSw; go_simp) <;> with_reducible rfl)
              try simp only [Act.put, List.setIfInBounds_toArray, List.set_cons_zero, List.set_cons_succ]
              refine Rk.takeP (i := 8) (v := ?_) rfl (by kernel_rfl) (by kernel_rfl) (by kernel_rfl) (by kernel_rfl) (fun _ _ _ h => h) (Or.inl ⟨by kernel_rfl, ?_⟩) (by assumption) ?_
              rotate_left
              · ((intro w hSw; go_simp) <;> with_reducible rfl)
              try simp only [Act.put, List.setIfInBounds_toArray, List.set_cons_zero, List.set_cons_succ]
              refine Rk.takeP (i := 9) (v := ?_) rfl (by kernel_rfl) (by kernel_rfl) (by kernel_rfl) (by kernel_rfl) (fun _ _ _ h => h) (Or.inl ⟨by kernel_rfl, ?_⟩) (by assumption) ?_
              rotate_left
              · ((intro w hSw; go_simp) <;> with_reducible rfl)
              try simp only [Act.put, List.setIfInBounds_toArray, List.set_cons_zero, List.set_cons_succ]
              refine Rk.take [17] (i := 10) (v := ?_) rfl (by kernel_rfl) (by kernel_rfl) (by kernel_rfl) (by kernel_rfl) (by kernel_rfl) (fun _ _ _ h => h) (Or.inl ⟨by kernel_rfl, ?_⟩) (by assumption) ?_
              rotate_left
              · ((intro w hSw; (try dsimp only at hSw); go_simp) <;> with_reducible rfl)
              try simp only [Act.put, List.setIfInBounds_toArray, List.set_cons_zero, List.set_cons_succ]
              refine Rk.one (i := 5) (by kernel_rfl) rfl (fun KK hK => ?_)
              rw [if_pos (by kernel_rfl)]
              go_simp
              have hC := Lib.hid (SlM.keep (hB.drew) RA.out)
              ((with_reducible refine (CA2.out wr.drew hC).mono ?_); rintro e u1 ⟨rfl, hb1⟩)
              refine hK.out _ _ ⟨kp hb1 (lt_of_cell hHeld.1) hHeld.1, kp hb1 (lt_of_cell hHeld.2.1) hHeld.2.1, kp hb1 (lt_of_cell hHeld.2.2.1) hHeld.2.2.1, kp hb1 (lt_of_cell hHeld.2.2.2.1) hHeld.2.2.2.1, kp hb1 (lt_of_cell hHeld.2.2.2.2) hHeld.2.2.2.2⟩ (fun hHeld => ?_)
              clear hK KK
              refine Rk.one (i := 11) (by kernel_rfl) rfl (fun KK hK => ?_)
              rw [if_pos (by kernel_rfl)]
              go_simp
              have KB1 := (hB.drew).trans (hb1.mono hB.size)
              have hD := Lib.hid (SlM.keep KB1 RB.out)
              ((with_reducible refine (CB2.out u1 hD).mono ?_); rintro e u2 ⟨rfl, hb2⟩)
              refine hK.out _ _ ⟨kp hb2 (lt_of_cell hHeld.1) hHeld.1, kp hb2 (lt_of_cell hHeld.2.1) hHeld.2.1, kp hb2 (lt_of_cell hHeld.2.2.1) hHeld.2.2.1, kp hb2 (lt_of_cell hHeld.2.2.2.1) hHeld.2.2.2.1, kp hb2 (lt_of_cell hHeld.2.2.2.2) hHeld.2.2.2.2⟩ (fun hHeld => ?_)
              clear hK KK
              refine Rk.one (i := 12) (by kernel_rfl) rfl (fun KK hK => ?_)
              rw [if_pos (by kernel_rfl)]
              go_simp
              ((with_reducible refine (CQ.out u2).mono ?_); rintro e u3 ⟨rfl, rfl⟩)
              refine hK.out _ _ hHeld (fun hHeld => ?_)
              clear hK KK
              refine Rk.takeP (i := 13) (v := ?_) rfl (by kernel_rfl) (by kernel_rfl) (by kernel_rfl) (by kernel_rfl) (fun _ _ _ h => h) (Or.inl ⟨by kernel_rfl, ?_⟩) (by assumption) ?_
              rotate_left
              · ((intro w hSw; go_simp) <;> with_reducible rfl)
              try simp only [Act.put, List.setIfInBounds_toArray, List.set_cons_zero, List.set_cons_succ]
              refine Rk.takeP (i := 14) (v := ?_) rfl (by kernel_rfl) (by kernel_rfl) (by kernel_rfl) (by kernel_rfl) (fun _ _ _ h => h) (Or.inl ⟨by kernel_rfl, ?_⟩) (by assumption) ?_
              rotate_left
              · ((intro w hSw; go_simp) <;> with_reducible rfl)
              try simp only [Act.put, List.setIfInBounds_toArray, List.set_cons_zero, List.set_cons_succ]
              refine Rk.takeP (i := 15) (v := ?_) rfl (by kernel_rfl) (by kernel_rfl) (by kernel_rfl) (by kernel_rfl) (fun _ _ _ h => h) (Or.inl ⟨by kernel_rfl, ?_⟩) (by assumption) ?_
              rotate_left
              · ((intro w hSw; go_simp) <;> with_reducible rfl)
              try simp only [Act.put, List.setIfInBounds_toArray, List.set_cons_zero, List.set_cons_succ]
              refine Rk.takeP (i := 16) (v := ?_) rfl (by kernel_rfl) (by kernel_rfl) (by kernel_rfl) (by kernel_rfl) (fun _ _ _ h => h) (Or.inl ⟨by kernel_rfl, ?_⟩) (by assumption) ?_
              rotate_left
              · ((intro w hSw; go_simp) <;> with_reducible rfl)
              try simp only [Act.put, List.setIfInBounds_toArray, List.set_cons_zero, List.set_cons_succ]
              refine Rk.tail [17] [_] (by kernel_rfl) (by kernel_rfl) rfl (by decide) ?_
              have K6 := ((hB.drew).trans (hb1.mono hB.size)).trans (hb2.mono (Nat.le_trans hB.size hb1.size))
              have F6 := (F5.drew.below hb1).below hb2
              have O6 := own_below (own_below (u := wr.drew) hO.out hb1) hb2
              have G6 := grown_below (grown_below (grown_drew hG.out) hb1) hb2
              have c6 := hHeld.2.2.2.2
              clear hHeld hz9 F5 q0 q1 q2 q3 q4 q5 zq4 zq5 e0 e1 ze1 hb1 hb2 hO hG hF hB c0
              have hall : Hid (((M.take (j + 1)).all fun m => fit64 m.2) = true) := Lib.hid (by
                rw [htk.out, List.all_append, hf.out]
                simp [HA.out])
              by_cases hC0 : C = 0
              · have hb0 : (C == 0) = true := beq_iff_eq.2 hC0
                have hb9 : (C != 0) = false := by rw [bne, hb0]; rfl
                have e1 := Lib.hid (show flt (M.take (j + 1)) = flt (M.take j) by rw [htk.out, flt_snoc, HC.out, if_pos hC0, List.append_nil])
                clear hC0
                go_wp2
                go_roundw
                case rel => exact ⟨j + 1, vl, by go_num, by omega, K6, Lib.hid G6, Lib.hid F6, Lib.hid (by rw [e1.out]; exact O6), hall⟩
                case measure => simp [intOf]; omega
              · have hb0 : (C == 0) = false := beq_false_of_ne hC0
                have hb9 : (C != 0) = true := by rw [bne, hb0]; rfl
                have e1 := Lib.hid (show flt (M.take (j + 1)) = flt (M.take j) ++ [(s, C)] by rw [htk.out, flt_snoc, HC.out, if_neg hC0])
                have HLL := Lib.hid (show (flt (M.take j)).length ≤ 2000 from Nat.le_trans (flt_len _) (by rw [List.length_take]; omega))
                clear hC0
                have e0x := F6.head
                have e1x := F6.tail.head
                have ze1x := F6.tail.headF
                have q0 := F6.tail.tail.head
                have q1 := F6.tail.tail.tail.head
                have q2 := F6.tail.tail.tail.tail.head
                have q3 := F6.tail.tail.tail.tail.tail.head
                have q4 := F6.tail.tail.tail.tail.tail.tail.head
                have zq4 := F6.tail.tail.tail.tail.tail.tail.headF
                have q5 := F6.tail.tail.tail.tail.tail.tail.tail.head
                have zq5 := F6.tail.tail.tail.tail.tail.tail.tail.headF
                go_wp2_with fail
                have hz8 := (⟨e1x, c6⟩ : u2.drew.cell? ⟨gr, 1, none⟩ = some vl ∧ u2.drew.cell? ⟨gn, on + j, none⟩ = some (.string s))
                refine Rk.begin (S := fun wS => wS.cell? ⟨gr, 1, none⟩ = some vl ∧ wS.cell? ⟨gn, on + j, none⟩ = some (.string s)) 9 (by kernel_rfl) hz8 (fun hHeld => ?_)
                refine Rk.takeP (i := 0) (v := ?_) rfl (by kernel_rfl) (by kernel_rfl) (by kernel_rfl) (by kernel_rfl) (fun _ _ _ h => h) (Or.inl ⟨by kernel_rfl, ?_⟩) (by assumption) ?_
                rotate_left
                · ((intro w hSw; go_simp) <;> with_reducible rfl)
                try simp only [Act.put, List.setIfInBounds_toArray, List.set_cons_zero, List.set_cons_succ]
                refine Rk.take [9] (i := 1) (v := ?_) rfl (by kernel_rfl) (by kernel_rfl) (by kernel_rfl) (by kernel_rfl) (by kernel_rfl) (fun _ _ _ h => h) (Or.inl ⟨by kernel_rfl, ?_⟩) (by assumption) ?_
                rotate_left
                · ((intro w hSw; (try dsimp only at hSw); go_simp) <;> with_reducible rfl)
                try simp only [Act.put, List.setIfInBounds_toArray, List.set_cons_zero, List.set_cons_succ]
                refine Rk.takeP (i := 2) (v := ?_) rfl (by kernel_rfl) (by kernel_rfl) (by kernel_rfl) (by kernel_rfl) (fun _ _ _ h => h) (Or.inl ⟨by kernel_rfl, ?_⟩) (by assumption) ?_
                rotate_left
                · ((intro w hSw; go_simp) <;> with_reducible rfl)
                try simp only [Act.put, List.setIfInBounds_toArray, List.set_cons_zero, List.set_cons_succ]
                refine Rk.takeP (i := 3) (v := ?_) rfl (by kernel_rfl) (by kernel_rfl) (by kernel_rfl) (by kernel_rfl) (fun _ _ _ h => h) (Or.inl ⟨by kernel_rfl, ?_⟩) (by assumption) ?_
                rotate_left
                · ((intro w hSw; go_simp) <;> with_reducible rfl)
                try simp only [Act.put, List.setIfInBounds_toArray, List.set_cons_zero, List.set_cons_succ]
                refine Rk.takeP (i := 4) (v := ?_) rfl (by kernel_rfl) (by kernel_rfl) (by kernel_rfl) (by kernel_rfl) (fun _ _ _ h => h) (Or.inl ⟨by kernel_rfl, ?_⟩) (by assumption) ?_
                rotate_left
                · ((intro w hSw; go_simp) <;> with_reducible rfl)
                try simp only [Act.put, List.setIfInBounds_toArray, List.set_cons_zero, List.set_cons_succ]
                refine Rk.take [7, 8, 9] (i := 5) (v := ?_) rfl (by kernel_rfl) (by kernel_rfl) (by kernel_rfl) (by kernel_rfl) (by kernel_rfl) (fun _ _ _ h => h) (Or.inl ⟨by kernel_rfl, ?_⟩) (by assumption) ?_
                rotate_left
                · ((intro w hSw; (try dsimp only at hSw); go_simp) <;> with_reducible rfl)
                try simp only [Act.put, List.setIfInBounds_toArray, List.set_cons_zero, List.set_cons_succ]
                refine Rk.takeP (i := 6) (v := ?_) rfl (by kernel_rfl) (by kernel_rfl) (by kernel_rfl) (by kernel_rfl) (fun _ _ _ h => h) (Or.inl ⟨by kernel_rfl, ?_⟩) (by assumption) ?_
                rotate_left
                · ((intro w hSw; go_simp) <;> with_reducible rfl)
                try simp only [Act.put, List.setIfInBounds_toArray, List.set_cons_zero, List.set_cons_succ]
                refine Rk.takeP (i := 7) (v := ?_) rfl (by kernel_rfl) (by kernel_rfl) (by kernel_rfl) (by kernel_rfl) (fun _ _ _ h => h) (Or.inl ⟨by kernel_rfl, ?_⟩) (by assumption) ?_
                rotate_left
                · ((intro w hSw; go_simp) <;> with_reducible rfl)
                try simp only [Act.put, List.setIfInBounds_toArray, List.set_cons_zero, List.set_cons_succ]
                refine Rk.one (i := 8) (by kernel_rfl) rfl (fun KK hK => ?_)
                rw [if_pos (by kernel_rfl)]
                go_simp
                have BA := (Below.refl u2.drew.heap.size u2.drew).alloc (Nat.le_refl _) (Obj.cells #[Value.string s, Value.int .i64 C] 59)
                refine hK.out _ _ ⟨kp BA (lt_of_cell hHeld.1) hHeld.1, kp BA (lt_of_cell hHeld.2) hHeld.2⟩ (fun hHeld => ?_)
                clear hK KK
                refine Rk.tail [9, 10, 11] [_, _, _] (by kernel_rfl) (by kernel_rfl) rfl (by decide) ?_
                have FU := (F6.drew).below ((Below.refl u2.drew.heap.size u2.drew).alloc (Nat.le_refl _) (Obj.cells #[Value.string s, Value.int .i64 C] 59))
                have OU : ((u2.drew).alloc (Obj.cells #[Value.string s, Value.int .i64 C] 59)).ownsRow w4.heap.size 59 2 vl (flt (M.take j)).length (moCs (flt (M.take j))) := World.ownsRow.alloc O6 _
                have KU := (K6.drew).alloc K6.size (Obj.cells #[Value.string s, Value.int .i64 C] 59)
                have GU := grown_alloc (grown_drew G6) (Obj.cells #[Value.string s, Value.int .i64 C] 59)
                clear hHeld hz8 F6 O6 K6 G6 e0x e1x ze1x q0 q1 q2 q3 q4 q5 zq4 zq5 c6
                go_wp2_with (at_builtin; refine wpList_append_own _ rfl _ _ 22 rfl w4.heap.size 59 i0 (.agg #[.string ⟨#[]⟩, .int .i64 0]) 2 24 Tryd.underlying22 hi hz0 hz1 hz2 rfl (by decide) _ _ _ rfl OU ⟨u2.heap.size, 0, none⟩ 1 1 [.string s, .int .i64 C] rfl rfl ?_ ?_ ?_ ?_ ?_ ?_)
                · intro q' x' hx'
                  rcases q' with _ | _ | q'
                  · cases hx'; go_cell
                  · cases hx'; go_cell
                  · simp at hx'
                · intro x' hx'
                  simp at hx'
                  rcases hx' with rfl | rfl <;> rfl
                · have := HLL.out; unfold maxLen; omega
                · have := HLL.out; omega
                · have := GU.size; simp at this ⊢; omega
                intro v' w5 hown' hgrow _
                have F7 := FU.own OU hgrow (by simp only [List.forall_mem_cons]; simp; omega)
                have K7 := KU.grown hgrow KU.size (fun q' hq' => by have := (OU.lt q' hq').1; have := K4.size; omega)
                have G7 := grown_own GU OU (Nat.le_refl _) hgrow
                have hown2 : Hid (w5.ownsRow w4.heap.size 59 2 v' (flt (M.take (j + 1))).length (moCs (flt (M.take (j + 1))))) := Lib.hid (by
                  rw [e1.out, List.length_append, moCs_snoc]
                  exact hown')
                obtain ⟨q', c', rfl⟩ := own_slice hown2.out
                clear hown' hgrow FU OU KU GU hf hi hz0 hz1 hz2
                have e0x := F7.head
                have ze0x := F7.headF
                have e1x := F7.tail.head
                have ze1x := F7.tail.headF
                go_wp2
                go_roundw
                case rel => exact ⟨j + 1, .slice q' (flt (M.take (j + 1))).length c', by go_num, by omega, K7.setCell (p := ⟨gr, 1, none⟩) (by show w.heap.size ≤ gr; omega) _, Lib.hid (grown_trans G7 grown_set), Lib.hid (Cl.cons (by go_cell) (by first | go_cell | simp [World.frozen?_setCell, ze0x]) (Cl.cons (by go_cell) (by first | go_cell | simp [World.frozen?_setCell, ze1x]) (Cl.far (F7.sub (by intro x hx; simp only [List.mem_cons, List.not_mem_nil, or_false] at hx ⊢; rcases hx with h | h | h | h | h | h <;> simp [h])) (by simp only [List.forall_mem_cons]; simp; omega)))), Lib.hid (own_set hown2.out (by simpa using S4)), hall⟩
                case measure => simp [intOf]; omega
          · have j1 : ¬ (j : Int) < L.length := by omega
            have hjM : j = M.length := by have := HL.out; omega
            have hO2 := hO.out
            have hf2 := hf.out
            rw [hjM, List.take_length] at hO2 hf2
            have F5 := hF.out
            have HR := Lib.hid (HRt.out (by unfold adF; rw [HF.out, hf2]; rfl))
            obtain ⟨V, hV⟩ : ∃ V, flt M = V := ⟨_, rfl⟩
            rw [hV] at hO2 HR
            obtain ⟨q', c', rfl⟩ := own_slice hO2
            clear hF hO hf hf2 hV hjM
            have e0 := F5.head
            have e1 := F5.tail.head
            have ze1 := F5.tail.headF
            have q0 := F5.tail.tail.head
            have q1 := F5.tail.tail.tail.head
            have q2 := F5.tail.tail.tail.tail.head
            have q3 := F5.tail.tail.tail.tail.tail.head
            have q4 := F5.tail.tail.tail.tail.tail.tail.head
            have zq4 := F5.tail.tail.tail.tail.tail.tail.headF
            have q5 := F5.tail.tail.tail.tail.tail.tail.tail.head
            have zq5 := F5.tail.tail.tail.tail.tail.tail.tail.headF
            go_wp2
            have hOF := own_set (a := ⟨w.heap.size + 1 + 1, 1, none⟩) (y := .slice q' V.length c') (own_set (a := ⟨w.heap.size + 1 + 1, 0, none⟩) (y := .int .i64 K0) hO2 (by simp; omega)) (by simp; omega)
            obtain ⟨q2', c2, he, hsl⟩ := own_sl' hOF rfl
            cases he
            exact bodyPost_ret (v := .tuple #[.agg #[.int .i64 K0, .slice q' V.length c'], .int .i64 0]) (by simp [results, Tryd.results69, go_sem, q4, q5]) rfl (by rw [HR.out, HK0.out]; exact ⟨q', c', rfl, hsl, below2 hB (by omega) _ _⟩)
end Go.Proofs.YtbicmlkjonaccaaDoor.Ln
