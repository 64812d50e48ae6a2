/- Linear forms: Scale. -/
import Derived.Test.YtbicmlkjonaccaaDoorJ4
import Derived.Test.YtbicmlkjonaccaaDoorJ3

namespace Go.Proofs.YtbicmlkjonaccaaDoor.Ln
open Go.ChangeShapes Go.WideShapes Go.ChangeAt Go.RowKit
set_option linter.unusedVariables false
set_option linter.unusedSimpArgs false
theorem below2 {B n : Nat} {w u : World} (h : Below B w u) (hn : B ≤ n) (x y : Value) : Below B w ((u.setCell ⟨n, 0, none⟩ x).setCell ⟨n, 1, none⟩ y) := (h.setCell (p := ⟨n, 0, none⟩) hn x).setCell (p := ⟨n, 1, none⟩) hn y
theorem take_step {xs : List Mo} {j : Nat} (h : j < xs.length) : xs.take (j + 1) = xs.take j ++ [xs.getD j mo0] := by
  rw [List.take_succ_eq_append_getElem h]
  have e1 : xs.getD j mo0 = xs[j] := by unfold List.getD; rw [List.getElem?_eq_getElem h]; rfl
  rw [e1]
def sclF (by' k : Int) (xs : List Mo) : Bool := fit64 (k * by') && xs.all fun m => fit64 (m.2 * by')
def sclV (by' : Int) (xs : List Mo) : List Mo := xs.map fun m => (m.1, wrap64 (m.2 * by'))
def sclR (by' k : Int) (xs : List Mo) : Int × List Mo × Int := if okL xs = false then (0, [], 1) else if by' = 0 then (0, [], 0) else if sclF by' k xs = true then (wrap64 (k * by'), sclV by' xs, 0) else (0, [], 3)
set_option maxRecDepth 100000 in
set_option maxHeartbeats 16000000 in
theorem scale1 (k : Int) (p : Option Addr) (xs : List Mo) (c : Nat) (by' : Int) (w : World) (hn : xs.length ≤ 1000) (RA : Hid (SlM w p xs)) (RS : Hid (∀ i, i < xs.length → (xs.getD i mo0).1.size ≤ maxLen ∧ -9223372036854775808 ≤ (xs.getD i mo0).2 ∧ (xs.getD i mo0).2 ≤ 9223372036854775807))
    (k1 : -9223372036854775808 ≤ k) (k2 : k ≤ 9223372036854775807) (b1 : -9223372036854775808 ≤ by') (b2 : by' ≤ 9223372036854775807) :
    Calls Tryd.prog 61 #[Lv k p xs.length c, .int .i64 by'] w (LR (sclR by' k xs).1 (sclR by' k xs).2.1 (sclR by' k xs).2.2 w) := by
  have C1 := Lib.hid fun (u : World) (h : Hid (SlM u p xs)) => val1 k p xs c u (by unfold maxLen; omega) h (Lib.hid fun i hi => (RS.out i hi).1)
  have B0 : Below w.heap.size w (((w.alloc (Obj.cells #[Value.int .i64 k, Value.slice p xs.length c] 24)).alloc (Obj.cells #[Value.int .i64 by'] 2)).alloc (Obj.cells #[Value.int .i64 0, Value.slice none 0 0] 24)) := ((((Below.refl _ _).alloc (Nat.le_refl _) _).alloc (by simp) _).alloc (by simp; omega) _)
  have S0 : w.heap.size + 2 < ((((w.alloc (Obj.cells #[Value.int .i64 k, Value.slice p xs.length c] 24)).alloc (Obj.cells #[Value.int .i64 by'] 2)).alloc (Obj.cells #[Value.int .i64 0, Value.slice none 0 0] 24))).heap.size := by simp
  have F0 : Cl [(w.heap.size, 0, .int .i64 k), (w.heap.size, 1, .slice p xs.length c), (w.heap.size + 1, 0, .int .i64 by'), (w.heap.size + 1 + 1, 0, .int .i64 0), (w.heap.size + 1 + 1, 1, .slice none 0 0)] (((w.alloc (Obj.cells #[Value.int .i64 k, Value.slice p xs.length c] 24)).alloc (Obj.cells #[Value.int .i64 by'] 2)).alloc (Obj.cells #[Value.int .i64 0, Value.slice none 0 0] 24)) :=
    Cl.cons (by go_cell) (by first | go_cell | simp) (Cl.cons (by go_cell) (by first | go_cell | simp) (Cl.cons (by go_cell) (by first | go_cell | simp) (Cl.cons (by go_cell) (by first | go_cell | simp) (Cl.cons (by go_cell) (by first | go_cell | simp) (Cl.nil _)))))
  unfold Lv at *
  obtain ⟨ok, hok⟩ : ∃ ok, okL xs = ok := ⟨_, rfl⟩
  cases ok
  · have hv : vL xs = 1 := by unfold vL; rw [hok]; rfl
    have hR : sclR by' k xs = (0, [], 1) := by unfold sclR; rw [if_pos hok]
    rw [hR]
    rw [hv] at C1
    go_enter Tryd.func61, Tryd.ntmps61
    go_wp2_with fail
    generalize (((w.alloc (Obj.cells #[Value.int .i64 k, Value.slice p xs.length c] 24)).alloc (Obj.cells #[Value.int .i64 by'] 2)).alloc (Obj.cells #[Value.int .i64 0, Value.slice none 0 0] 24)) = z at *
    have c0 := F0.head
    refine (C1.out _ (Lib.hid (SlM.keep B0 RA.out))).mono ?_
    rintro e w1 ⟨rfl, hb⟩
    have F1 := F0.below hb
    have K1 := B0.trans (hb.mono B0.size)
    have S1 : w.heap.size + 2 < w1.heap.size := Nat.lt_of_lt_of_le S0 hb.size
    clear F0 hb B0 S0 c0
    have q3 := F1.tail.tail.tail.head
    have zq3 := F1.tail.tail.tail.headF
    have q4 := F1.tail.tail.tail.tail.head
    have zq4 := F1.tail.tail.tail.tail.headF
    go_wp2
    exact bodyPost_ret (v := .tuple #[.agg #[.int .i64 0, .slice none 0 0], .int .i64 1]) (by simp [results, Tryd.results61, go_sem, q3, q4]) rfl (LR.zero rfl (below2 K1 (by omega) _ _))
  · have hv : vL xs = 0 := by unfold vL; rw [hok]; rfl
    rw [hv] at C1
    by_cases hby : by' = 0
    · subst hby
      have hR : sclR 0 k xs = (0, [], 0) := by unfold sclR; rw [if_neg (by rw [hok]; decide), if_pos rfl]
      rw [hR]
      go_enter Tryd.func61, Tryd.ntmps61
      go_wp2_with fail
      generalize (((w.alloc (Obj.cells #[Value.int .i64 k, Value.slice p xs.length c] 24)).alloc (Obj.cells #[Value.int .i64 0] 2)).alloc (Obj.cells #[Value.int .i64 0, Value.slice none 0 0] 24)) = z at *
      have c0 := F0.head
      refine (C1.out _ (Lib.hid (SlM.keep B0 RA.out))).mono ?_
      rintro e w1 ⟨rfl, hb⟩
      have F1 := F0.below hb
      have K1 := B0.trans (hb.mono B0.size)
      have S1 : w.heap.size + 2 < w1.heap.size := Nat.lt_of_lt_of_le S0 hb.size
      clear F0 hb B0 S0 c0
      have q2 := F1.tail.tail.head
      have q3 := F1.tail.tail.tail.head
      have zq3 := F1.tail.tail.tail.headF
      have q4 := F1.tail.tail.tail.tail.head
      have zq4 := F1.tail.tail.tail.tail.headF
      go_wp2
      exact bodyPost_ret (v := .tuple #[.agg #[.int .i64 0, .slice none 0 0], .int .i64 0]) (by simp [results, Tryd.results61, go_sem, q3, q4]) rfl (LR.zero rfl (below2 K1 (by omega) _ _))
    · have hbf : (by' == 0) = false := beq_false_of_ne hby
      have hR : sclR by' k xs = if sclF by' k xs = true then (wrap64 (k * by'), sclV by' xs, 0) else (0, [], 3) := by unfold sclR; rw [if_neg (by rw [hok]; decide), if_neg hby]
      obtain ⟨R, hRR⟩ : ∃ R, sclR by' k xs = R := ⟨_, rfl⟩
      rw [hRR] at hR ⊢
      have HY := Lib.hid fun h : sclF by' k xs = true => hR.trans (if_pos h)
      have HN := Lib.hid fun h : ¬ sclF by' k xs = true => hR.trans (if_neg h)
      clear hR hby hv hok hRR
      have T1 := Lib.hid fun (x : Int) (f : Bool) (gf : Nat) (u : World) hx1 hx2 hb hf hz h1 h2 => times1 x by' f (w.heap.size + 1) gf u hx1 hx2 b1 b2 hb hf hz h1 h2
      go_enter Tryd.func61, Tryd.ntmps61
      go_wp2_with fail
      generalize (((w.alloc (Obj.cells #[Value.int .i64 k, Value.slice p xs.length c] 24)).alloc (Obj.cells #[Value.int .i64 by'] 2)).alloc (Obj.cells #[Value.int .i64 0, Value.slice none 0 0] 24)) = z at *
      have c0 := F0.head
      refine (C1.out _ (Lib.hid (SlM.keep B0 RA.out))).mono ?_
      rintro e w1 ⟨rfl, hb⟩
      have F1 := F0.below hb
      have K1 := B0.trans (hb.mono B0.size)
      have S1 : w.heap.size + 2 < w1.heap.size := Nat.lt_of_lt_of_le S0 hb.size
      clear F0 hb B0 S0 c0 C1
      have FA := Cl.cons (b := w1.heap.size) (o := 0) (v := .bool true) (by go_cell) (by first | go_cell | simp) (F1.below ((Below.refl _ _).alloc (Nat.le_refl _) (Obj.cells #[Value.bool true] 4)))
      have KA := K1.alloc K1.size (Obj.cells #[Value.bool true] 4)
      have n1 : w.heap.size + 1 ≠ w1.heap.size := by omega
      have n2 : w1.heap.size ≠ w.heap.size + 1 := by omega
      have q2 := F1.tail.tail.head
      have p0 := FA.head
      have zp0 := FA.headF
      have p1 := FA.tail.head
      have p2 := FA.tail.tail.head
      have p3 := FA.tail.tail.tail.head
      have gfz : w.heap.size + 2 < w1.heap.size := S1
      have gfs : w1.heap.size < (w1.alloc (Obj.cells #[Value.bool true] 4)).heap.size := by simp
      go_wp2_with fail
      generalize w1.alloc (Obj.cells #[Value.bool true] 4) = u1 at *
      clear K1 F1 q2
      generalize w1.heap.size = gf at *
      refine (T1.out k true gf u1 k1 k2 p3 p0 zp0 n1 n2).mono ?_
      rintro e u2 ⟨rfl, hgu, hfu, hzu⟩
      have F2 := Cl.cons hfu hzu (FA.tail.grown hgu (by simp only [List.forall_mem_cons, ne_eq, Option.some.injEq]; simp; omega))
      have K2 := below_grown KA hgu KA.size (by intro q hq; cases hq; omega)
      have S2 : gf < u2.heap.size := Nat.lt_of_lt_of_le gfs hgu.size
      have HK0 := Lib.hid (show ∃ K0, wrap64 (k * by') = K0 from ⟨_, rfl⟩)
      obtain ⟨K0, hK0⟩ := HK0.out
      obtain ⟨f0, hf0⟩ : ∃ f0, (true && fit64 (k * by')) = f0 := ⟨_, rfl⟩
      rw [hf0] at F2
      rw [hK0]
      have HK0 := Lib.hid hK0
      have HF0 := Lib.hid hf0
      clear hK0 hf0 hgu hfu hzu FA KA p0 zp0 p1 p2 p3 gfs gfz
      have FB := Cl.cons (b := u2.heap.size) (o := 0) (v := .int .i64 K0) (by go_cell) (by first | go_cell | simp) (Cl.cons (b := u2.heap.size) (o := 1) (v := .slice none 0 0) (by go_cell) (by first | go_cell | simp) (F2.below ((Below.refl _ _).alloc (Nat.le_refl _) (Obj.cells #[Value.int .i64 K0, Value.slice none 0 0] 24))))
      have KB := K2.alloc K2.size (Obj.cells #[Value.int .i64 K0, Value.slice none 0 0] 24)
      have SB : u2.heap.size < (u2.alloc (Obj.cells #[Value.int .i64 K0, Value.slice none 0 0] 24)).heap.size := by simp
      have p1 := FB.tail.tail.tail.tail.head
      go_wp2_with fail
      generalize u2.alloc (Obj.cells #[Value.int .i64 K0, Value.slice none 0 0] 24) = u3 at *
      have hgg : gf < u2.heap.size := S2
      clear S2 p1 F2 K2
      generalize u2.heap.size = gr at *
      have F3 : Hid (Cl [(gr, 0, .int .i64 K0), (gr, 1, .slice none 0 0), (gf, 0, .bool f0), (w.heap.size + 1, 0, .int .i64 by'), (w.heap.size + 1 + 1, 0, .int .i64 0), (w.heap.size + 1 + 1, 1, .slice none 0 0)] u3) := Lib.hid (FB.sub (by intro x hx; simp only [List.mem_cons, List.not_mem_nil, or_false] at hx ⊢; rcases hx with h | h | h | h | h | h <;> simp [h]))
      clear FB
      obtain ⟨i0, hi, hz0, hz1, hz2⟩ := info_parts infoMo
      go_loopw [27] (fun i wr => ∃ (j : Nat) (v : Value) (f : Bool), i = .int .i64 (j : Int) ∧ j ≤ xs.length ∧ Below w.heap.size w wr ∧ gr < wr.heap.size ∧ Hid (Cl [(gr, 0, .int .i64 K0), (gr, 1, v), (gf, 0, .bool f), (w.heap.size + 1, 0, .int .i64 by'), (w.heap.size + 1 + 1, 0, .int .i64 0), (w.heap.size + 1 + 1, 1, .slice none 0 0)] wr) ∧ Hid (wr.ownsRow (gr + 1) 59 2 v j (moCs (sclV by' (xs.take j)))) ∧ Hid (f = (f0 && (xs.take j).all fun m => fit64 (m.2 * by')))) (fun i _ => xs.length - (intOf i).toNat)
      case atStart => exact ⟨0, .slice none 0 0, f0, rfl, by omega, KB, SB, F3, Lib.hid (World.ownsRow_nil _ _ _ _), Lib.hid (by simp)⟩
      case round =>
        obtain ⟨j, vl, f, rfl, hj, hB, hgr, hF, hO, hf⟩ := hrel
        have j0 : (0 : Int) ≤ j := by omega
        by_cases hlt : j < xs.length
        · obtain ⟨b, o, rfl, c0, c1⟩ := SlM.keep hB RA.out j hlt
          have hrs := RS.out j hlt
          have htk := Lib.hid (take_step hlt)
          obtain ⟨⟨s, a⟩, hx⟩ : ∃ x, xs.getD j mo0 = x := ⟨_, rfl⟩
          have htk := Lib.hid (by have h := htk.out; rw [hx] at h; exact h)
          rw [hx] at c0 c1 hrs
          simp only at c0 c1 hrs
          clear hx
          obtain ⟨_, a1, a2⟩ := hrs
          have j1 : (j : Int) < xs.length := by omega
          go_wp2_with fail
          have FM := (Cl.cons (b := wr.heap.size) (o := 0) (v := .string s) (by go_cell) (by first | go_cell | simp) (Cl.cons (b := wr.heap.size) (o := 1) (v := .int .i64 a) (by go_cell) (by first | go_cell | simp) (hF.out.below ((Below.refl _ _).alloc (Nat.le_refl _) (Obj.cells #[Value.string s, Value.int .i64 a] 59))))).drew
          have BM := (hB.alloc hB.size (Obj.cells #[Value.string s, Value.int .i64 a] 59)).drew
          have OM : Hid ((wr.alloc (Obj.cells #[Value.string s, Value.int .i64 a] 59)).drew.ownsRow (gr + 1) 59 2 vl j (moCs (sclV by' (xs.take j)))) := Lib.hid (hO.out.alloc _)
          clear c0 c1 hB hF hO
          generalize wr.alloc (Obj.cells #[Value.string s, Value.int .i64 a] 59) = wm at *
          generalize wr.heap.size = gm at *
          have d0 := FM.head
          have d1 := FM.tail.head
          have d1z := FM.tail.tail.head
          have d2 := FM.tail.tail.tail.head
          have zd2 := FM.tail.tail.tail.headF
          have d3 := FM.tail.tail.tail.tail.head
          have zd3 := FM.tail.tail.tail.tail.headF
          have d4 := FM.tail.tail.tail.tail.tail.head
          have hz := (⟨d2, d0, d1⟩ : wm.drew.cell? ⟨gr, 1, none⟩ = some vl ∧ wm.drew.cell? ⟨gm, 0, none⟩ = some (.string s) ∧ wm.drew.cell? ⟨gm, 1, none⟩ = some (.int .i64 a))
          refine Rk.begin (S := fun wS => wS.cell? ⟨gr, 1, none⟩ = some vl ∧ wS.cell? ⟨gm, 0, none⟩ = some (.string s) ∧ wS.cell? ⟨gm, 1, none⟩ = some (.int .i64 a)) 10 (by kernel_rfl) hz (fun hHeld => ?_)
          refine Rk.takeP (i := 0) (v := ?_) rfl (by kernel_rfl) (by kernel_rfl) (by kernel_rfl) (by kernel_rfl) (fun _ _ _ h => h) (Or.inl ⟨by kernel_rfl, ?_⟩) (by assumption) ?_
          rotate_left
          · ((intro w hSw; go_simp) <;> with_reducible rfl)
          try simp only [Act.put, List.setIfInBounds_toArray, List.set_cons_zero, List.set_cons_succ]
          refine Rk.take [10] (i := 1) (v := ?_) rfl (by kernel_rfl) (by kernel_rfl) (by kernel_rfl) (by kernel_rfl) (by kernel_rfl) (fun _ _ _ h => h) (Or.inl ⟨by kernel_rfl, ?_⟩) (by assumption) ?_
          rotate_left
          · ((intro w hSw; (try dsimp only at hSw); go_simp) <;> with_reducible rfl)
          try simp only [Act.put, List.setIfInBounds_toArray, List.set_cons_zero, List.set_cons_succ]
          refine Rk.takeP (i := 2) (v := ?_) rfl (by kernel_rfl) (by kernel_rfl) (by kernel_rfl) (by kernel_rfl) (fun _ _ _ h => h) (Or.inl ⟨by kernel_rfl, ?_⟩) (by assumption) ?_
          rotate_left
          · ((intro w hSw; go_simp) <;> with_reducible rfl)
          try simp only [Act.put, List.setIfInBounds_toArray, List.set_cons_zero, List.set_cons_succ]
          refine Rk.take [8, 9, 10] (i := 3) (v := ?_) rfl (by kernel_rfl) (by kernel_rfl) (by kernel_rfl) (by kernel_rfl) (by kernel_rfl) (fun _ _ _ h => h) (Or.inl ⟨by kernel_rfl, ?_⟩) (by assumption) ?_
          rotate_left
          · ((intro w hSw; (try dsimp only at hSw); go_simp) <;> with_reducible rfl)
          try simp only [Act.put, List.setIfInBounds_toArray, List.set_cons_zero, List.set_cons_succ]
          refine Rk.takeP (i := 4) (v := ?_) rfl (by kernel_rfl) (by kernel_rfl) (by kernel_rfl) (by kernel_rfl) (fun _ _ _ h => h) (Or.inl ⟨by kernel_rfl, ?_⟩) (by assumption) ?_
          rotate_left
          · ((intro w hSw; go_simp) <;> with_reducible rfl)
          try simp only [Act.put, List.setIfInBounds_toArray, List.set_cons_zero, List.set_cons_succ]
          refine Rk.takeP (i := 5) (v := ?_) rfl (by kernel_rfl) (by kernel_rfl) (by kernel_rfl) (by kernel_rfl) (fun _ _ _ h => h) (Or.inl ⟨by kernel_rfl, ?_⟩) (by assumption) ?_
          rotate_left
          · ((intro w hSw; go_simp) <;> with_reducible rfl)
          try simp only [Act.put, List.setIfInBounds_toArray, List.set_cons_zero, List.set_cons_succ]
          refine Rk.take [7, 10] (i := 6) (v := ?_) rfl (by kernel_rfl) (by kernel_rfl) (by kernel_rfl) (by kernel_rfl) (by kernel_rfl) (fun _ _ _ h => h) (Or.inl ⟨by kernel_rfl, ?_⟩) (by assumption) ?_
          rotate_left
          · ((intro w hSw; (try dsimp only at hSw); go_simp) <;> with_reducible rfl)
          try simp only [Act.put, List.setIfInBounds_toArray, List.set_cons_zero, List.set_cons_succ]
          refine Rk.one (i := 7) (by kernel_rfl) rfl (fun KK hK => ?_)
          rw [if_pos (by kernel_rfl)]
          go_simp
          ((with_reducible refine (T1.out a f gf _ a1 a2 d4 d3 zd3 n1 n2).mono ?_); rintro e u ⟨rfl, hgu, hfu, hzu⟩)
          have hNew : u.cell? ⟨gr, 1, none⟩ = some vl ∧ u.cell? ⟨gm, 0, none⟩ = some (.string s) ∧ u.cell? ⟨gm, 1, none⟩ = some (.int .i64 a) := ⟨hgu.cell d2 (by simp; omega), hgu.cell d0 (by simp; omega), hgu.cell d1 (by simp; omega)⟩
          refine hK.out _ _ hNew (fun hHeld => ?_)
          clear hK KK
          refine Rk.takeP (i := 8) (v := ?_) rfl (by kernel_rfl) (by kernel_rfl) (by kernel_rfl) (by kernel_rfl) (fun _ _ _ h => h) (Or.inl ⟨by kernel_rfl, ?_⟩) (by assumption) ?_
          rotate_left
          · ((intro w hSw; go_simp) <;> with_reducible rfl)
          try simp only [Act.put, List.setIfInBounds_toArray, List.set_cons_zero, List.set_cons_succ]
          refine Rk.one (i := 9) (by kernel_rfl) rfl (fun KK hK => ?_)
          rw [if_pos (by kernel_rfl)]
          go_simp
          have BA := (Below.refl u.heap.size u).alloc (Nat.le_refl _) (Obj.cells #[Value.string s, Value.int .i64 (wrap64 (a * by'))] 59)
          refine hK.out _ _ ⟨kp BA (lt_of_cell hHeld.1) hHeld.1, kp BA (lt_of_cell hHeld.2.1) hHeld.2.1, kp BA (lt_of_cell hHeld.2.2) hHeld.2.2⟩ (fun hHeld => ?_)
          clear hK KK
          refine Rk.tail [10, 11, 12] [_, _, _] (by kernel_rfl) (by kernel_rfl) rfl (by decide) ?_
          have BU := (Below.refl u.heap.size u).alloc (Nat.le_refl _) (Obj.cells #[Value.string s, Value.int .i64 (wrap64 (a * by'))] 59)
          have FU := (Cl.cons hfu hzu ((FM.sub (L' := [(gr, 0, .int .i64 K0), (gr, 1, vl), (w.heap.size + 1, 0, .int .i64 by'), (w.heap.size + 1 + 1, 0, .int .i64 0), (w.heap.size + 1 + 1, 1, .slice none 0 0)]) (by intro x hx; simp only [List.mem_cons, List.not_mem_nil, or_false] at hx ⊢; rcases hx with h | h | h | h | h <;> simp [h])).grown hgu (by simp only [List.forall_mem_cons, ne_eq, Option.some.injEq]; simp; omega))).below BU
          have OU := (OM.out.kept hgu (own_ne OM.out (by omega))).alloc (Obj.cells #[Value.string s, Value.int .i64 (wrap64 (a * by'))] 59)
          have KU1 := below_grown BM hgu BM.size (by intro q hq; cases hq; omega)
          have KU := KU1.alloc KU1.size (Obj.cells #[Value.string s, Value.int .i64 (wrap64 (a * by'))] 59)
          have zU : gr < u.heap.size := Nat.lt_of_lt_of_le (lt_of_cell d2) hgu.size
          clear FM BM OM d0 d1 d2 d3 d4 zd2 zd3 hz hgu hfu hzu hHeld
          go_wp2_with (at_builtin; refine wpList_append_own _ rfl _ _ 22 rfl (gr + 1) 59 i0 (.agg #[.string ⟨#[]⟩, .int .i64 0]) 2 24 Tryd.underlying22 hi hz0 hz1 hz2 rfl (by decide) _ _ _ rfl OU ⟨u.heap.size, 0, none⟩ 1 1 [.string s, .int .i64 (wrap64 (a * by'))] rfl rfl ?_ ?_ ?_ ?_ ?_ ?_)
          · intro q x hx
            rcases q with _ | _ | q
            · cases hx; go_cell
            · cases hx; go_cell
            · simp at hx
          · intro x hx
            simp at hx
            rcases hx with rfl | rfl <;> rfl
          · unfold maxLen; omega
          · omega
          · simp; omega
          intro v' w4 hown' hgrow _
          have F4 := FU.own OU hgrow (by simp only [List.forall_mem_cons]; simp; omega)
          have K4 := KU.grown hgrow KU.size (fun q hq => by have := (OU.lt q hq).1; have := KU.size; omega)
          have hown2 : Hid (w4.ownsRow (gr + 1) 59 2 v' (j + 1) (moCs (sclV by' (xs.take (j + 1))))) := Lib.hid (by
            rw [htk.out, sclV, List.map_append, List.map_cons, List.map_nil, moCs_snoc]
            exact hown')
          have hf2 : Hid ((f && fit64 (a * by')) = (f0 && (xs.take (j + 1)).all fun m => fit64 (m.2 * by'))) := Lib.hid (by
            rw [htk.out, hf.out, List.all_append]
            simp [Bool.and_assoc])
          obtain ⟨q', c', rfl⟩ := own_slice hown2.out
          clear hown' hgrow FU OU KU KU1 BU hf htk hi hz0 hz1 hz2
          generalize (f && fit64 (a * by')) = f' at *
          have e0 := F4.head
          have e1 := F4.tail.head
          have ze1 := F4.tail.headF
          have e2 := F4.tail.tail.head
          have ze2 := F4.tail.tail.headF
          go_wp2
          go_roundw
          case rel => exact ⟨j + 1, .slice q' (j + 1) c', f', by go_num, by omega, K4.setCell (p := ⟨gr, 1, none⟩) (by show w.heap.size ≤ gr; omega) _, by rw [World.size_setCell]; exact lt_of_cell e2, Lib.hid (Cl.cons (by go_cell) (by first | go_cell | simp [World.frozen?_setCell, ze1]) (Cl.cons (by go_cell) (by first | go_cell | simp [World.frozen?_setCell, ze2]) (Cl.far (F4.sub (by intro x hx; simp only [List.mem_cons, List.not_mem_nil, or_false] at hx ⊢; rcases hx with h | h | h | h <;> simp [h])) (by simp only [List.forall_mem_cons]; simp; omega)))), Lib.hid (own_set hown2.out (by simp)), hf2⟩
          case measure => simp [intOf]; omega
        · have j1 : ¬ (j : Int) < xs.length := by omega
          obtain rfl : j = xs.length := by omega
          have hO2 := hO.out
          have hf2 := hf.out
          rw [List.take_length] at hO2 hf2
          have F4 := hF.out
          clear hF hO hf
          have hlen : (sclV by' xs).length = xs.length := by unfold sclV; rw [List.length_map]
          cases f
          · have HR := Lib.hid (HN.out (by
              unfold sclF
              rw [← show (true && fit64 (k * by')) = fit64 (k * by') from Bool.true_and _, HF0.out, ← hf2]
              decide))
            clear hf2
            have e2 := F4.tail.tail.head
            have e4 := F4.tail.tail.tail.tail.head
            have ze4 := F4.tail.tail.tail.tail.headF
            have e5 := F4.tail.tail.tail.tail.tail.head
            have ze5 := F4.tail.tail.tail.tail.tail.headF
            go_wp2
            exact bodyPost_ret (v := .tuple #[.agg #[.int .i64 0, .slice none 0 0], .int .i64 3]) (by simp [results, Tryd.results61, go_sem, e4, e5]) rfl (by rw [HR.out]; exact LR.zero rfl (below2 hB (by omega) _ _))
          · have HR := Lib.hid (HY.out (by
              unfold sclF
              rw [← show (true && fit64 (k * by')) = fit64 (k * by') from Bool.true_and _, HF0.out, ← hf2]))
            have HL := Lib.hid hlen
            clear hf2 hlen
            obtain ⟨q', c', rfl⟩ := own_slice hO2
            have e0 := F4.head
            have e1 := F4.tail.head
            have e2 := F4.tail.tail.head
            have e4 := F4.tail.tail.tail.tail.head
            have ze4 := F4.tail.tail.tail.tail.headF
            have e5 := F4.tail.tail.tail.tail.tail.head
            have ze5 := F4.tail.tail.tail.tail.tail.headF
            go_wp2
            have hOF := own_set (a := ⟨w.heap.size + 1 + 1, 1, none⟩) (y := .slice q' xs.length c') (own_set (a := ⟨w.heap.size + 1 + 1, 0, none⟩) (y := .int .i64 K0) hO2 (by simp; omega)) (by simp; omega)
            obtain ⟨q2, c2, he, hsl⟩ := own_sl' hOF HL.out.symm
            cases he
            exact bodyPost_ret (v := .tuple #[.agg #[.int .i64 K0, .slice q' xs.length c'], .int .i64 0]) (by simp [results, Tryd.results61, go_sem, e4, e5]) rfl (by rw [HR.out, HK0.out]; exact ⟨q', c', by rw [HL.out]; rfl, hsl, below2 hB (by omega) _ _⟩)
end Go.Proofs.YtbicmlkjonaccaaDoor.Ln


namespace Go.Proofs.YtbicmlkjonaccaaDoor.Ln
open Go.ChangeShapes Go.WideShapes Go.ChangeAt Go.RowKit
set_option linter.unusedVariables false
set_option linter.unusedSimpArgs false
theorem getD_mem {xs : List Mo} {j : Nat} (h : j < xs.length) : xs.getD j mo0 ∈ xs := by
  have e1 : xs.getD j mo0 = xs[j] := by unfold List.getD; rw [List.getElem?_eq_getElem h]; rfl
  rw [e1]
  exact List.getElem_mem h
theorem timesY (a b : Int) (w : World) (ha1 : -9223372036854775808 ≤ a) (ha2 : a ≤ 9223372036854775807) (hb1 : -9223372036854775808 ≤ b) (hb2 : b ≤ 9223372036854775807) (h : fit64 (a * b) = true) :
    Calls Tryd.prog 98 #[.int .i64 a, .int .i64 b] w fun e w' => e = .returned (.tuple #[.int .i64 (wrap64 (a * b)), .bool true]) ∧ w = w' := by
  have C := times a b w ha1 ha2 hb1 hb2
  have hb := fit_yes.1 h
  rw [h, if_pos rfl] at C
  rw [show wrap64 (a * b) = a * b by generalize a * b = n at *; unfold wrap64; omega]
  exact C
theorem timesN (a b : Int) (w : World) (ha1 : -9223372036854775808 ≤ a) (ha2 : a ≤ 9223372036854775807) (hb1 : -9223372036854775808 ≤ b) (hb2 : b ≤ 9223372036854775807) (h : fit64 (a * b) = false) :
    Calls Tryd.prog 98 #[.int .i64 a, .int .i64 b] w fun e w' => e = .returned (.tuple #[.int .i64 0, .bool false]) ∧ w = w' := by
  have C := times a b w ha1 ha2 hb1 hb2
  rw [h, if_neg (by decide)] at C
  exact C
set_option maxRecDepth 100000 in
set_option maxHeartbeats 16000000 in
theorem scale2 (k : Int) (p : Option Addr) (xs : List Mo) (c : Nat) (by' : Int) (w : World) (hn : xs.length ≤ 1000) (RA : Hid (SlM w p xs)) (RS : Hid (∀ i, i < xs.length → (xs.getD i mo0).1.size ≤ maxLen ∧ -9223372036854775808 ≤ (xs.getD i mo0).2 ∧ (xs.getD i mo0).2 ≤ 9223372036854775807))
    (k1 : -9223372036854775808 ≤ k) (k2 : k ≤ 9223372036854775807) (b1 : -9223372036854775808 ≤ by') (b2 : by' ≤ 9223372036854775807) :
    Calls Tryd.prog 68 #[Lv k p xs.length c, .int .i64 by'] w (LR (sclR by' k xs).1 (sclR by' k xs).2.1 (sclR by' k xs).2.2 w) := by
  have C1 := Lib.hid fun (u : World) (h : Hid (SlM u p xs)) => val2 k p xs c u (by unfold maxLen; omega) h (Lib.hid fun i hi => (RS.out i hi).1)
  have B0 : Below w.heap.size w ((w.alloc (Obj.cells #[Value.int .i64 k, Value.slice p xs.length c] 24)).alloc (Obj.cells #[Value.int .i64 0, Value.slice none 0 0] 24)) := (((Below.refl _ _).alloc (Nat.le_refl _) _).alloc (by simp) _)
  have S0 : w.heap.size + 1 < (((w.alloc (Obj.cells #[Value.int .i64 k, Value.slice p xs.length c] 24)).alloc (Obj.cells #[Value.int .i64 0, Value.slice none 0 0] 24))).heap.size := by simp
  have F0 : Cl [(w.heap.size, 0, .int .i64 k), (w.heap.size, 1, .slice p xs.length c), (w.heap.size + 1, 0, .int .i64 0), (w.heap.size + 1, 1, .slice none 0 0)] ((w.alloc (Obj.cells #[Value.int .i64 k, Value.slice p xs.length c] 24)).alloc (Obj.cells #[Value.int .i64 0, Value.slice none 0 0] 24)) :=
    Cl.cons (by go_cell) (by first | go_cell | simp) (Cl.cons (by go_cell) (by first | go_cell | simp) (Cl.cons (by go_cell) (by first | go_cell | simp) (Cl.cons (by go_cell) (by first | go_cell | simp) (Cl.nil _))))
  unfold Lv at *
  obtain ⟨R, hRR⟩ : ∃ R, sclR by' k xs = R := ⟨_, rfl⟩
  have hR : R = if okL xs = false then (0, [], 1) else if by' = 0 then (0, [], 0) else if sclF by' k xs = true then (wrap64 (k * by'), sclV by' xs, 0) else (0, [], 3) := by rw [← hRR]; rfl
  rw [hRR]
  clear hRR
  obtain ⟨ok, hok⟩ : ∃ ok, okL xs = ok := ⟨_, rfl⟩
  cases ok
  · have hv : vL xs = 1 := by unfold vL; rw [hok]; rfl
    have HR := Lib.hid (hR.trans (if_pos hok))
    rw [hv] at C1
    clear hR
    go_enter Tryd.func68, Tryd.ntmps68
    go_wp2_with fail
    generalize ((w.alloc (Obj.cells #[Value.int .i64 k, Value.slice p xs.length c] 24)).alloc (Obj.cells #[Value.int .i64 0, Value.slice none 0 0] 24)) = z at *
    have c0 := F0.head
    refine (C1.out _ (Lib.hid (SlM.keep B0 RA.out))).mono ?_
    rintro e w1 ⟨rfl, hb⟩
    have F1 := F0.below hb
    have K1 := B0.trans (hb.mono B0.size)
    clear F0 hb B0 S0 c0
    have q3 := F1.tail.tail.head
    have zq3 := F1.tail.tail.headF
    have q4 := F1.tail.tail.tail.head
    have zq4 := F1.tail.tail.tail.headF
    go_wp2
    exact bodyPost_ret (v := .tuple #[.agg #[.int .i64 0, .slice none 0 0], .int .i64 1]) (by simp [results, Tryd.results68, go_sem, q3, q4]) rfl (by rw [HR.out]; exact LR.zero rfl (below2 K1 (by omega) _ _))
  · have hv : vL xs = 0 := by unfold vL; rw [hok]; rfl
    replace hR := hR.trans (if_neg (by rw [hok]; decide))
    rw [hv] at C1
    by_cases hby : by' = 0
    · subst hby
      have HR := Lib.hid (hR.trans (if_pos rfl))
      clear hR
      go_enter Tryd.func68, Tryd.ntmps68
      go_wp2_with fail
      generalize ((w.alloc (Obj.cells #[Value.int .i64 k, Value.slice p xs.length c] 24)).alloc (Obj.cells #[Value.int .i64 0, Value.slice none 0 0] 24)) = z at *
      have c0 := F0.head
      refine (C1.out _ (Lib.hid (SlM.keep B0 RA.out))).mono ?_
      rintro e w1 ⟨rfl, hb⟩
      have F1 := F0.below hb
      have K1 := B0.trans (hb.mono B0.size)
      clear F0 hb B0 S0 c0
      have q3 := F1.tail.tail.head
      have zq3 := F1.tail.tail.headF
      have q4 := F1.tail.tail.tail.head
      have zq4 := F1.tail.tail.tail.headF
      go_wp2
      exact bodyPost_ret (v := .tuple #[.agg #[.int .i64 0, .slice none 0 0], .int .i64 0]) (by simp [results, Tryd.results68, go_sem, q3, q4]) rfl (by rw [HR.out]; exact LR.zero rfl (below2 K1 (by omega) _ _))
    · have hbf : (by' == 0) = false := beq_false_of_ne hby
      replace hR := hR.trans (if_neg hby)
      have HN := Lib.hid fun h : ¬ sclF by' k xs = true => hR.trans (if_neg h)
      have HY := Lib.hid fun h : sclF by' k xs = true => hR.trans (if_pos h)
      have TY := Lib.hid fun (x : Int) (u : World) hx1 hx2 h => timesY x by' u hx1 hx2 b1 b2 h
      have TN := Lib.hid fun (x : Int) (u : World) hx1 hx2 h => timesN x by' u hx1 hx2 b1 b2 h
      clear hR hby hv hok
      obtain ⟨fk, hfk⟩ : ∃ f, fit64 (k * by') = f := ⟨_, rfl⟩
      cases fk
      · have HR := Lib.hid (HN.out (by unfold sclF; rw [hfk]; simp))
        have HF := Lib.hid hfk
        clear HN HY hfk
        go_enter Tryd.func68, Tryd.ntmps68
        go_wp2_with fail
        generalize ((w.alloc (Obj.cells #[Value.int .i64 k, Value.slice p xs.length c] 24)).alloc (Obj.cells #[Value.int .i64 0, Value.slice none 0 0] 24)) = z at *
        refine (C1.out _ (Lib.hid (SlM.keep B0 RA.out))).mono ?_
        rintro e w1 ⟨rfl, hb⟩
        have F1 := F0.below hb
        have K1 := B0.trans (hb.mono B0.size)
        clear F0 hb B0 S0
        have q0 := F1.head
        have q3 := F1.tail.tail.head
        have zq3 := F1.tail.tail.headF
        have q4 := F1.tail.tail.tail.head
        have zq4 := F1.tail.tail.tail.headF
        go_wp2_with fail

        refine (TN.out k _ k1 k2 HF.out).mono ?_
        rintro e w' ⟨rfl, rfl⟩
        go_wp2
        exact bodyPost_ret (v := .tuple #[.agg #[.int .i64 0, .slice none 0 0], .int .i64 3]) (by simp [results, Tryd.results68, go_sem, q3, q4]) rfl (by rw [HR.out]; exact LR.zero rfl (below2 K1 (by omega) _ _))
      · have HF := Lib.hid hfk
        obtain ⟨K0, hK0⟩ : ∃ K0, wrap64 (k * by') = K0 := ⟨_, rfl⟩
        have HK0 := Lib.hid hK0
        clear hfk hK0
        go_enter Tryd.func68, Tryd.ntmps68
        go_wp2_with fail
        generalize ((w.alloc (Obj.cells #[Value.int .i64 k, Value.slice p xs.length c] 24)).alloc (Obj.cells #[Value.int .i64 0, Value.slice none 0 0] 24)) = z at *
        refine (C1.out _ (Lib.hid (SlM.keep B0 RA.out))).mono ?_
        rintro e w1 ⟨rfl, hb⟩
        have F1 := F0.below hb
        have K1 := B0.trans (hb.mono B0.size)
        have S1 : w.heap.size + 1 < w1.heap.size := Nat.lt_of_lt_of_le S0 hb.size
        clear F0 hb B0 S0
        have q0 := F1.head
        have q1 := F1.tail.head
        have q3 := F1.tail.tail.head
        have zq3 := F1.tail.tail.headF
        have q4 := F1.tail.tail.tail.head
        have zq4 := F1.tail.tail.tail.headF
        go_wp2_with fail
        refine (TY.out k _ k1 k2 HF.out).mono ?_
        rw [HK0.out]
        rintro e w' ⟨rfl, rfl⟩
        have FB := Cl.cons (b := w1.heap.size) (o := 0) (v := .int .i64 K0) (by go_cell) (by first | go_cell | simp) (Cl.cons (b := w1.heap.size) (o := 1) (v := .slice none 0 0) (by go_cell) (by first | go_cell | simp) (F1.below ((Below.refl _ _).alloc (Nat.le_refl _) (Obj.cells #[Value.int .i64 K0, Value.slice none 0 0] 24))))
        have KB := K1.alloc K1.size (Obj.cells #[Value.int .i64 K0, Value.slice none 0 0] 24)
        have SB : w1.heap.size < (w1.alloc (Obj.cells #[Value.int .i64 K0, Value.slice none 0 0] 24)).heap.size := by simp
        go_wp2_with fail
        generalize w1.alloc (Obj.cells #[Value.int .i64 K0, Value.slice none 0 0] 24) = u3 at *
        clear q0 q1 q3 q4 zq3 zq4 F1 K1
        generalize w1.heap.size = gr at *
        have F3 : Hid (Cl [(gr, 0, .int .i64 K0), (gr, 1, .slice none 0 0), (w.heap.size, 1, .slice p xs.length c), (w.heap.size + 1, 0, .int .i64 0), (w.heap.size + 1, 1, .slice none 0 0)] u3) := Lib.hid (FB.sub (by intro x hx; simp only [List.mem_cons, List.not_mem_nil, or_false] at hx ⊢; rcases hx with h | h | h | h | h <;> simp [h]))
        clear FB
        obtain ⟨i0, hi, hz0, hz1, hz2⟩ := info_parts infoMo
        go_loopw [9] (fun i wr => ∃ (j : Nat) (v : Value), i = .int .i64 (j : Int) ∧ j ≤ xs.length ∧ Below w.heap.size w wr ∧ gr < wr.heap.size ∧ Hid (Cl [(gr, 0, .int .i64 K0), (gr, 1, v), (w.heap.size, 1, .slice p xs.length c), (w.heap.size + 1, 0, .int .i64 0), (w.heap.size + 1, 1, .slice none 0 0)] wr) ∧ Hid (wr.ownsRow (gr + 1) 59 2 v j (moCs (sclV by' (xs.take j)))) ∧ Hid (((xs.take j).all fun m => fit64 (m.2 * by')) = true)) (fun i _ => xs.length - (intOf i).toNat)
        case atStart => exact ⟨0, .slice none 0 0, rfl, by omega, KB, SB, F3, Lib.hid (World.ownsRow_nil _ _ _ _), Lib.hid (by simp)⟩
        case round =>
          obtain ⟨j, vl, rfl, hj, hB, hgr, hF, hO, hf⟩ := hrel
          have j0 : (0 : Int) ≤ j := by omega
          by_cases hlt : j < xs.length
          · obtain ⟨b, o, rfl, c0, c1⟩ := SlM.keep hB RA.out j hlt
            have hrs := RS.out j hlt
            have htk := Lib.hid (take_step hlt)
            have hmem := Lib.hid (getD_mem hlt)
            obtain ⟨⟨s, a⟩, hx⟩ : ∃ x, xs.getD j mo0 = x := ⟨_, rfl⟩
            have htk := Lib.hid (by have h := htk.out; rw [hx] at h; exact h)
            have hmem := Lib.hid (by have h := hmem.out; rw [hx] at h; exact h)
            rw [hx] at c0 c1 hrs
            simp only at c0 c1 hrs
            clear hx
            obtain ⟨_, a1, a2⟩ := hrs
            have j1 : (j : Int) < xs.length := by omega
            have F4 := hF.out
            have e0 := F4.head
            have e1 := F4.tail.head
            have ze1 := F4.tail.headF
            have e2 := F4.tail.tail.head
            have e3 := F4.tail.tail.tail.head
            have ze3 := F4.tail.tail.tail.headF
            have e4 := F4.tail.tail.tail.tail.head
            have ze4 := F4.tail.tail.tail.tail.headF
            obtain ⟨fa, hfa⟩ : ∃ f, fit64 (a * by') = f := ⟨_, rfl⟩
            cases fa
            · have HR := Lib.hid (HN.out (by
                unfold sclF
                rw [Bool.and_eq_true, List.all_eq_true]
                intro h
                have := h.2 _ hmem.out
                rw [hfa] at this
                cases this))
              have HA := Lib.hid hfa
              clear hfa HN HY
              go_wp2_with fail
              refine (TN.out a _ a1 a2 HA.out).mono ?_
              rintro e w' ⟨rfl, rfl⟩
              go_wp2
              exact bodyPost_ret (v := .tuple #[.agg #[.int .i64 0, .slice none 0 0], .int .i64 3]) (by simp [results, Tryd.results68, go_sem, e3, e4]) rfl (by rw [HR.out]; exact LR.zero rfl (below2 hB (by omega) _ _))
            · have HA := Lib.hid hfa
              obtain ⟨C, hC⟩ : ∃ C, wrap64 (a * by') = C := ⟨_, rfl⟩
              have HC := Lib.hid hC
              clear hfa hC
              go_wp2_with fail
              refine (TY.out a _ a1 a2 HA.out).mono ?_
              rw [HC.out]
              rintro e w' ⟨rfl, rfl⟩
              go_wp2_with fail
              have hz := (⟨e1, e2, c0⟩ : wr.drew.cell? ⟨gr, 1, none⟩ = some vl ∧ wr.drew.cell? ⟨w.heap.size, 1, none⟩ = some (.slice (some ⟨b, o, none⟩) xs.length c) ∧ wr.drew.cell? ⟨b, o + j * 2, none⟩ = some (.string s))
              refine Rk.begin (S := fun wS => wS.cell? ⟨gr, 1, none⟩ = some vl ∧ wS.cell? ⟨w.heap.size, 1, none⟩ = some (.slice (some ⟨b, o, none⟩) xs.length c) ∧ wS.cell? ⟨b, o + j * 2, none⟩ = some (.string s)) 11 (by kernel_rfl) hz (fun hHeld => ?_)
              refine Rk.takeP (i := 0) (v := ?_) rfl (by kernel_rfl) (by kernel_rfl) (by kernel_rfl) (by kernel_rfl) (fun _ _ _ h => h) (Or.inl ⟨by kernel_rfl, ?_⟩) (by assumption) ?_
              rotate_left
              · ((intro w hSw; go_simp) <;> with_reducible rfl)
              try simp only [Act.put, List.setIfInBounds_toArray, List.set_cons_zero, List.set_cons_succ]
              refine Rk.take [11] (i := 1) (v := ?_) rfl (by kernel_rfl) (by kernel_rfl) (by kernel_rfl) (by kernel_rfl) (by kernel_rfl) (fun _ _ _ h => h) (Or.inl ⟨by kernel_rfl, ?_⟩) (by assumption) ?_
              rotate_left
              · ((intro w hSw; (try dsimp only at hSw); go_simp) <;> with_reducible rfl)
              try simp only [Act.put, List.setIfInBounds_toArray, List.set_cons_zero, List.set_cons_succ]
              refine Rk.takeP (i := 2) (v := ?_) rfl (by kernel_rfl) (by kernel_rfl) (by kernel_rfl) (by kernel_rfl) (fun _ _ _ h => h) (Or.inl ⟨by kernel_rfl, ?_⟩) (by assumption) ?_
              rotate_left
              · ((intro w hSw; go_simp) <;> with_reducible rfl)
              try simp only [Act.put, List.setIfInBounds_toArray, List.set_cons_zero, List.set_cons_succ]
              refine Rk.take [5, 6, 7, 9, 10, 11] (i := 3) (v := ?_) rfl (by kernel_rfl) (by kernel_rfl) (by kernel_rfl) (by kernel_rfl) (by kernel_rfl) (fun _ _ _ h => h) (Or.inl ⟨by kernel_rfl, ?_⟩) (by assumption) ?_
              rotate_left
              · ((intro w hSw; (try dsimp only at hSw); go_simp) <;> with_reducible rfl)
              try simp only [Act.put, List.setIfInBounds_toArray, List.set_cons_zero, List.set_cons_succ]
              refine Rk.takeP (i := 4) (v := ?_) rfl (by kernel_rfl) (by kernel_rfl) (by kernel_rfl) (by kernel_rfl) (fun _ _ _ h => h) (Or.inl ⟨by kernel_rfl, ?_⟩) (by assumption) ?_
              rotate_left
              · ((intro w hSw; go_simp) <;> with_reducible rfl)
              try simp only [Act.put, List.setIfInBounds_toArray, List.set_cons_zero, List.set_cons_succ]
              refine Rk.takeP (i := 5) (v := ?_) rfl (by kernel_rfl) (by kernel_rfl) (by kernel_rfl) (by kernel_rfl) (fun _ _ _ h => h) (Or.inl ⟨by kernel_rfl, ?_⟩) (by assumption) ?_
              rotate_left
              · ((intro w hSw; go_simp) <;> with_reducible rfl)
              try simp only [Act.put, List.setIfInBounds_toArray, List.set_cons_zero, List.set_cons_succ]
              refine Rk.takeP (i := 6) (v := ?_) rfl (by kernel_rfl) (by kernel_rfl) (by kernel_rfl) (by kernel_rfl) (fun _ _ _ h => h) (Or.inl ⟨by kernel_rfl, ?_⟩) (by assumption) ?_
              rotate_left
              · ((intro w hSw; go_simp) <;> with_reducible rfl)
              try simp only [Act.put, List.setIfInBounds_toArray, List.set_cons_zero, List.set_cons_succ]
              refine Rk.take [9, 10, 11] (i := 7) (v := ?_) rfl (by kernel_rfl) (by kernel_rfl) (by kernel_rfl) (by kernel_rfl) (by kernel_rfl) (fun _ _ _ h => h) (Or.inl ⟨by kernel_rfl, ?_⟩) (by assumption) ?_
              rotate_left
              · ((intro w hSw; (try dsimp only at hSw); go_simp) <;> with_reducible rfl)
              try simp only [Act.put, List.setIfInBounds_toArray, List.set_cons_zero, List.set_cons_succ]
              refine Rk.takeP (i := 8) (v := ?_) rfl (by kernel_rfl) (by kernel_rfl) (by kernel_rfl) (by kernel_rfl) (fun _ _ _ h => h) (Or.inl ⟨by kernel_rfl, ?_⟩) (by assumption) ?_
              rotate_left
              · ((intro w hSw; go_simp) <;> with_reducible rfl)
              try simp only [Act.put, List.setIfInBounds_toArray, List.set_cons_zero, List.set_cons_succ]
              refine Rk.takeP (i := 9) (v := ?_) rfl (by kernel_rfl) (by kernel_rfl) (by kernel_rfl) (by kernel_rfl) (fun _ _ _ h => h) (Or.inl ⟨by kernel_rfl, ?_⟩) (by assumption) ?_
              rotate_left
              · ((intro w hSw; go_simp) <;> with_reducible rfl)
              try simp only [Act.put, List.setIfInBounds_toArray, List.set_cons_zero, List.set_cons_succ]
              refine Rk.one (i := 10) (by kernel_rfl) rfl (fun KK hK => ?_)
              rw [if_pos (by kernel_rfl)]
              go_simp
              have BA := (Below.refl wr.drew.heap.size wr.drew).alloc (Nat.le_refl _) (Obj.cells #[Value.string s, Value.int .i64 C] 59)
              refine hK.out _ _ ⟨kp BA (lt_of_cell hHeld.1) hHeld.1, kp BA (lt_of_cell hHeld.2.1) hHeld.2.1, kp BA (lt_of_cell hHeld.2.2) hHeld.2.2⟩ (fun hHeld => ?_)
              clear hK KK
              refine Rk.tail [11, 12, 13] [_, _, _] (by kernel_rfl) (by kernel_rfl) rfl (by decide) ?_
              have FU := (F4.drew).below ((Below.refl wr.drew.heap.size wr.drew).alloc (Nat.le_refl _) (Obj.cells #[Value.string s, Value.int .i64 C] 59))
              have OU : ((wr.drew).alloc (Obj.cells #[Value.string s, Value.int .i64 C] 59)).ownsRow (gr + 1) 59 2 vl j (moCs (sclV by' (xs.take j))) := World.ownsRow.alloc hO.out _
              have KU := (hB.drew).alloc hB.size (Obj.cells #[Value.string s, Value.int .i64 C] 59)
              clear hHeld hz F4 hF hO hB e0 e1 e2 e3 e4 ze1 ze3 ze4 c0 c1
              go_wp2_with (at_builtin; refine wpList_append_own _ rfl _ _ 22 rfl (gr + 1) 59 i0 (.agg #[.string ⟨#[]⟩, .int .i64 0]) 2 24 Tryd.underlying22 hi hz0 hz1 hz2 rfl (by decide) _ _ _ rfl OU ⟨wr.heap.size, 0, none⟩ 1 1 [.string s, .int .i64 C] rfl rfl ?_ ?_ ?_ ?_ ?_ ?_)
              · intro q x hx
                rcases q with _ | _ | q
                · cases hx; go_cell
                · cases hx; go_cell
                · simp at hx
              · intro x hx
                simp at hx
                rcases hx with rfl | rfl <;> rfl
              · unfold maxLen; omega
              · omega
              · simp; omega
              intro v' w4 hown' hgrow _
              have F4 := FU.own OU hgrow (by simp only [List.forall_mem_cons]; simp; omega)
              have K4 := KU.grown hgrow KU.size (fun q hq => by have := (OU.lt q hq).1; have := KU.size; omega)
              have hown2 : Hid (w4.ownsRow (gr + 1) 59 2 v' (j + 1) (moCs (sclV by' (xs.take (j + 1))))) := Lib.hid (by
                rw [htk.out, sclV, List.map_append, List.map_cons, List.map_nil, moCs_snoc, HC.out]
                exact hown')
              have hf2 : Hid (((xs.take (j + 1)).all fun m => fit64 (m.2 * by')) = true) := Lib.hid (by
                rw [htk.out, List.all_append, hf.out]
                simp [HA.out])
              obtain ⟨q', c', rfl⟩ := own_slice hown2.out
              clear hown' hgrow FU OU KU hf htk hi hz0 hz1 hz2
              have d0 := F4.head
              have zd0 := F4.headF
              have d1 := F4.tail.head
              have zd1 := F4.tail.headF
              have d2 := F4.tail.tail.head
              go_wp2
              go_roundw
              case rel => exact ⟨j + 1, .slice q' (j + 1) c', by go_num, by omega, K4.setCell (p := ⟨gr, 1, none⟩) (by show w.heap.size ≤ gr; omega) _, by rw [World.size_setCell]; exact lt_of_cell d1, Lib.hid (Cl.cons (by go_cell) (by first | go_cell | simp [World.frozen?_setCell, zd0]) (Cl.cons (by go_cell) (by first | go_cell | simp [World.frozen?_setCell, zd1]) (Cl.far (F4.sub (by intro x hx; simp only [List.mem_cons, List.not_mem_nil, or_false] at hx ⊢; rcases hx with h | h | h <;> simp [h])) (by simp only [List.forall_mem_cons]; simp; omega)))), Lib.hid (own_set hown2.out (by simp)), hf2⟩
              case measure => simp [intOf]; omega
          · have j1 : ¬ (j : Int) < xs.length := by omega
            obtain rfl : j = xs.length := by omega
            have hO2 := hO.out
            have hf2 := hf.out
            rw [List.take_length] at hO2 hf2
            have F4 := hF.out
            clear hF hO hf
            have HL := Lib.hid (show (sclV by' xs).length = xs.length by unfold sclV; rw [List.length_map])
            have HR := Lib.hid (HY.out (by unfold sclF; rw [HF.out, hf2]; rfl))
            clear hf2
            obtain ⟨q', c', rfl⟩ := own_slice hO2
            have d0 := F4.head
            have d1 := F4.tail.head
            have d2 := F4.tail.tail.head
            have d3 := F4.tail.tail.tail.head
            have zd3 := F4.tail.tail.tail.headF
            have d4 := F4.tail.tail.tail.tail.head
            have zd4 := F4.tail.tail.tail.tail.headF
            go_wp2
            have hOF := own_set (a := ⟨w.heap.size + 1, 1, none⟩) (y := .slice q' xs.length c') (own_set (a := ⟨w.heap.size + 1, 0, none⟩) (y := .int .i64 K0) hO2 (by simp; omega)) (by simp; omega)
            obtain ⟨q2, c2, he, hsl⟩ := own_sl' hOF HL.out.symm
            cases he
            exact bodyPost_ret (v := .tuple #[.agg #[.int .i64 K0, .slice q' xs.length c'], .int .i64 0]) (by simp [results, Tryd.results68, go_sem, d3, d4]) rfl (by rw [HR.out, HK0.out]; exact ⟨q', c', by rw [HL.out]; rfl, hsl, below2 hB (by omega) _ _⟩)
end Go.Proofs.YtbicmlkjonaccaaDoor.Ln
