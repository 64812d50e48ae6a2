/- Linear forms: Substitute of the reference. -/
import Derived.Test.YthdeaneffnlffaaY53
import Derived.Test.YthdeaneffnlffaaY55
import Derived.Test.YthdeaneffnlffaaY12
namespace Go.Proofs.Ythdeaneffnlffaa.Ln
open Go.ChangeShapes Go.WideShapes Go.ChangeAt Go.RowKit
set_option linter.unusedVariables false
set_option linter.unusedSimpArgs false
open Go.Proofs.Ythdeaneffnlffaa.Nm
set_option maxRecDepth 100000 in
set_option maxHeartbeats 32000000 in
theorem sub2 (k : Int) (p : Option Addr) (xs : List Mo) (c : Nat) (s : ByteArray) (k' : Int) (q : Option Addr) (ys : List Mo) (d : Nat) (w : World) (hn : xs.length ≤ 1000) (hm : ys.length ≤ 1000) (hs : s.size ≤ maxLen) (RA : Hid (SlM w p xs)) (RB : Hid (SlM w q ys))
    (RS : Hid (∀ i, i < xs.length → (xs.getD i mo0).1.size ≤ maxLen ∧ -9223372036854775808 ≤ (xs.getD i mo0).2 ∧ (xs.getD i mo0).2 ≤ 9223372036854775807)) (RT : Hid (∀ i, i < ys.length → (ys.getD i mo0).1.size ≤ maxLen ∧ -9223372036854775808 ≤ (ys.getD i mo0).2 ∧ (ys.getD i mo0).2 ≤ 9223372036854775807))
    (k1 : -9223372036854775808 ≤ k) (k2 : k ≤ 9223372036854775807) (b1 : -9223372036854775808 ≤ k') (b2 : k' ≤ 9223372036854775807) :
    Calls Try.prog 18 #[Lv k p xs.length c, .string s, Lv k' q ys.length d] w (LR (subR k xs s k' ys).1 (subR k xs s k' ys).2.1 (subR k xs s k' ys).2.2 w) := by
  have V1 := Lib.hid fun (u : World) (h : Hid (SlM u p xs)) => val2 k p xs c u (by unfold maxLen; omega) h (Lib.hid fun i hi => (RS.out i hi).1)
  have V2 := Lib.hid fun (u : World) (h : Hid (SlM u q ys)) => val2 k' q ys d u (by unfold maxLen; omega) h (Lib.hid fun i hi => (RT.out i hi).1)
  have CN := Lib.hid fun (u : World) => name s u hs
  have CO := Lib.hid fun (u : World) (h : Hid (SlM u p xs)) => coeff2 k p xs c s u (by unfold maxLen; omega) h
  have K : Below w.heap.size w (((w.alloc (Obj.cells #[Value.int .i64 k, Value.slice p xs.length c] 24)).alloc (Obj.cells #[Value.int .i64 k', Value.slice q ys.length d] 24)).alloc (Obj.cells #[Value.int .i64 0, Value.slice none 0 0] 24)) := ((((Below.refl _ _).alloc (Nat.le_refl _) _).alloc (by simp) _).alloc (by simp; omega) _)
  have S0 : w.heap.size + 2 < ((((w.alloc (Obj.cells #[Value.int .i64 k, Value.slice p xs.length c] 24)).alloc (Obj.cells #[Value.int .i64 k', Value.slice q ys.length d] 24)).alloc (Obj.cells #[Value.int .i64 0, Value.slice none 0 0] 24))).heap.size := by simp
  have F : Cl [(w.heap.size, 0, .int .i64 k), (w.heap.size, 1, .slice p xs.length c), (w.heap.size + 1, 0, .int .i64 k'), (w.heap.size + 1, 1, .slice q ys.length d), (w.heap.size + 1 + 1, 0, .int .i64 0), (w.heap.size + 1 + 1, 1, .slice none 0 0)] (((w.alloc (Obj.cells #[Value.int .i64 k, Value.slice p xs.length c] 24)).alloc (Obj.cells #[Value.int .i64 k', Value.slice q ys.length d] 24)).alloc (Obj.cells #[Value.int .i64 0, Value.slice none 0 0] 24)) := (Cl.cons (by go_cell) (by first | go_cell | simp) (Cl.cons (by go_cell) (by first | go_cell | simp) (Cl.cons (by go_cell) (by first | go_cell | simp) (Cl.cons (by go_cell) (by first | go_cell | simp) (Cl.cons (by go_cell) (by first | go_cell | simp) (Cl.cons (by go_cell) (by first | go_cell | simp) (Cl.nil _)))))))
  have HBY := Lib.hid (co_bd RS.out s)
  have SCB := Lib.hid fun b => scl_get (b := b) (k := k') RT.out
  have RMB := Lib.hid (rm_get (s := s) RS.out)
  have RML := Lib.hid (rmN_len s xs)
  have SCL := Lib.hid fun b => sclR_len b k' ys
  have SC := Lib.hid fun b (hb1 : -9223372036854775808 ≤ b) (hb2 : b ≤ 9223372036854775807) (u : World) (h : Hid (SlM u q ys)) => scale2 k' q ys d b u hm h RT b1 b2 hb1 hb2
  obtain ⟨R, hR⟩ : ∃ R, subR k xs s k' ys = R := ⟨_, rfl⟩
  rw [hR]
  unfold subR at hR
  obtain ⟨o1, h1⟩ : ∃ v, okL xs = v := ⟨_, rfl⟩
  obtain ⟨o2, h2⟩ : ∃ v, nmB s = v := ⟨_, rfl⟩
  obtain ⟨o3, h3⟩ : ∃ v, okL ys = v := ⟨_, rfl⟩
  obtain ⟨by', h4⟩ : ∃ v, co xs s = v := ⟨_, rfl⟩
  unfold vL at V1 V2
  rw [h1] at V1 hR
  rw [h2] at CN hR
  rw [h3] at V2 hR
  rw [h4] at CO HBY hR
  have HR0 := Lib.hid hR
  clear h1 h2 h3 h4 hR
  unfold Lv at *
  cases o1
  · have HR := Lib.hid (show R = (0, [], 1) by rw [← HR0.out]; rfl)
    go_enter Try.func18, Try.ntmps18
    go_wp2_with fail
    generalize (((w.alloc (Obj.cells #[Value.int .i64 k, Value.slice p xs.length c] 24)).alloc (Obj.cells #[Value.int .i64 k', Value.slice q ys.length d] 24)).alloc (Obj.cells #[Value.int .i64 0, Value.slice none 0 0] 24)) = z at *
    have q0 := F.head
    have q1 := F.tail.head
    have q2 := F.tail.tail.head
    have q3 := F.tail.tail.tail.head
    have q4 := F.tail.tail.tail.tail.head
    have zq4 := F.tail.tail.tail.tail.headF
    have q5 := F.tail.tail.tail.tail.tail.head
    have zq5 := F.tail.tail.tail.tail.tail.headF
    refine (V1.out _ (RA.out.up K)).mono ?_
    rintro e wn ⟨rfl, hb⟩
    replace F := F.below hb
    replace K := K.trans (hb.mono K.size)
    clear hb
    clear q0 q1 q2 q3 q4 q5 zq4 zq5
    have q0 := F.head
    have q1 := F.tail.head
    have q2 := F.tail.tail.head
    have q3 := F.tail.tail.tail.head
    have q4 := F.tail.tail.tail.tail.head
    have zq4 := F.tail.tail.tail.tail.headF
    have q5 := F.tail.tail.tail.tail.tail.head
    have zq5 := F.tail.tail.tail.tail.tail.headF
    go_wp2
    exact bodyPost_ret (v := .tuple #[.agg #[.int .i64 0, .slice none 0 0], .int .i64 1]) (by simp [results, Try.results18, go_sem, q4, q5, zq4, zq5]) rfl (by rw [HR.out]; exact LR.zero rfl (below2 K (by omega) _ _))
  · cases o2
    · have HR := Lib.hid (show R = (0, [], 1) by rw [← HR0.out]; rfl)
      go_enter Try.func18, Try.ntmps18
      go_wp2_with fail
      generalize (((w.alloc (Obj.cells #[Value.int .i64 k, Value.slice p xs.length c] 24)).alloc (Obj.cells #[Value.int .i64 k', Value.slice q ys.length d] 24)).alloc (Obj.cells #[Value.int .i64 0, Value.slice none 0 0] 24)) = z at *
      have q0 := F.head
      have q1 := F.tail.head
      have q2 := F.tail.tail.head
      have q3 := F.tail.tail.tail.head
      have q4 := F.tail.tail.tail.tail.head
      have zq4 := F.tail.tail.tail.tail.headF
      have q5 := F.tail.tail.tail.tail.tail.head
      have zq5 := F.tail.tail.tail.tail.tail.headF
      refine (V1.out _ (RA.out.up K)).mono ?_
      rintro e wn ⟨rfl, hb⟩
      replace F := F.below hb
      replace K := K.trans (hb.mono K.size)
      clear hb
      clear q0 q1 q2 q3 q4 q5 zq4 zq5
      have q0 := F.head
      have q1 := F.tail.head
      have q2 := F.tail.tail.head
      have q3 := F.tail.tail.tail.head
      have q4 := F.tail.tail.tail.tail.head
      have zq4 := F.tail.tail.tail.tail.headF
      have q5 := F.tail.tail.tail.tail.tail.head
      have zq5 := F.tail.tail.tail.tail.tail.headF
      go_wp2_with fail
      refine (CN.out _).mono ?_
      rintro e wn ⟨rfl, hb⟩
      replace F := F.below hb
      replace K := K.trans (hb.mono K.size)
      clear hb
      clear q0 q1 q2 q3 q4 q5 zq4 zq5
      have q0 := F.head
      have q1 := F.tail.head
      have q2 := F.tail.tail.head
      have q3 := F.tail.tail.tail.head
      have q4 := F.tail.tail.tail.tail.head
      have zq4 := F.tail.tail.tail.tail.headF
      have q5 := F.tail.tail.tail.tail.tail.head
      have zq5 := F.tail.tail.tail.tail.tail.headF
      go_wp2
      exact bodyPost_ret (v := .tuple #[.agg #[.int .i64 0, .slice none 0 0], .int .i64 1]) (by simp [results, Try.results18, go_sem, q4, q5, zq4, zq5]) rfl (by rw [HR.out]; exact LR.zero rfl (below2 K (by omega) _ _))
    · cases o3
      · have HR := Lib.hid (show R = (0, [], 1) by rw [← HR0.out]; rfl)
        go_enter Try.func18, Try.ntmps18
        go_wp2_with fail
        generalize (((w.alloc (Obj.cells #[Value.int .i64 k, Value.slice p xs.length c] 24)).alloc (Obj.cells #[Value.int .i64 k', Value.slice q ys.length d] 24)).alloc (Obj.cells #[Value.int .i64 0, Value.slice none 0 0] 24)) = z at *
        have q0 := F.head
        have q1 := F.tail.head
        have q2 := F.tail.tail.head
        have q3 := F.tail.tail.tail.head
        have q4 := F.tail.tail.tail.tail.head
        have zq4 := F.tail.tail.tail.tail.headF
        have q5 := F.tail.tail.tail.tail.tail.head
        have zq5 := F.tail.tail.tail.tail.tail.headF
        refine (V1.out _ (RA.out.up K)).mono ?_
        rintro e wn ⟨rfl, hb⟩
        replace F := F.below hb
        replace K := K.trans (hb.mono K.size)
        clear hb
        clear q0 q1 q2 q3 q4 q5 zq4 zq5
        have q0 := F.head
        have q1 := F.tail.head
        have q2 := F.tail.tail.head
        have q3 := F.tail.tail.tail.head
        have q4 := F.tail.tail.tail.tail.head
        have zq4 := F.tail.tail.tail.tail.headF
        have q5 := F.tail.tail.tail.tail.tail.head
        have zq5 := F.tail.tail.tail.tail.tail.headF
        go_wp2_with fail
        refine (CN.out _).mono ?_
        rintro e wn ⟨rfl, hb⟩
        replace F := F.below hb
        replace K := K.trans (hb.mono K.size)
        clear hb
        clear q0 q1 q2 q3 q4 q5 zq4 zq5
        have q0 := F.head
        have q1 := F.tail.head
        have q2 := F.tail.tail.head
        have q3 := F.tail.tail.tail.head
        have q4 := F.tail.tail.tail.tail.head
        have zq4 := F.tail.tail.tail.tail.headF
        have q5 := F.tail.tail.tail.tail.tail.head
        have zq5 := F.tail.tail.tail.tail.tail.headF
        go_wp2_with fail
        refine (V2.out _ (RB.out.up K)).mono ?_
        rintro e wn ⟨rfl, hb⟩
        replace F := F.below hb
        replace K := K.trans (hb.mono K.size)
        clear hb
        clear q0 q1 q2 q3 q4 q5 zq4 zq5
        have q0 := F.head
        have q1 := F.tail.head
        have q2 := F.tail.tail.head
        have q3 := F.tail.tail.tail.head
        have q4 := F.tail.tail.tail.tail.head
        have zq4 := F.tail.tail.tail.tail.headF
        have q5 := F.tail.tail.tail.tail.tail.head
        have zq5 := F.tail.tail.tail.tail.tail.headF
        go_wp2
        exact bodyPost_ret (v := .tuple #[.agg #[.int .i64 0, .slice none 0 0], .int .i64 1]) (by simp [results, Try.results18, go_sem, q4, q5, zq4, zq5]) rfl (by rw [HR.out]; exact LR.zero rfl (below2 K (by omega) _ _))
      · replace HR0 := Lib.hid ((if_neg (by decide)).symm.trans HR0.out)
        by_cases hby : by' = 0
        · subst hby
          have HR := Lib.hid (show R = (k, xs, 0) by rw [← HR0.out]; rfl)
          go_enter Try.func18, Try.ntmps18
          go_wp2_with fail
          generalize (((w.alloc (Obj.cells #[Value.int .i64 k, Value.slice p xs.length c] 24)).alloc (Obj.cells #[Value.int .i64 k', Value.slice q ys.length d] 24)).alloc (Obj.cells #[Value.int .i64 0, Value.slice none 0 0] 24)) = z at *
          have q0 := F.head
          have q1 := F.tail.head
          have q2 := F.tail.tail.head
          have q3 := F.tail.tail.tail.head
          have q4 := F.tail.tail.tail.tail.head
          have zq4 := F.tail.tail.tail.tail.headF
          have q5 := F.tail.tail.tail.tail.tail.head
          have zq5 := F.tail.tail.tail.tail.tail.headF
          refine (V1.out _ (RA.out.up K)).mono ?_
          rintro e wn ⟨rfl, hb⟩
          replace F := F.below hb
          replace K := K.trans (hb.mono K.size)
          clear hb
          clear q0 q1 q2 q3 q4 q5 zq4 zq5
          have q0 := F.head
          have q1 := F.tail.head
          have q2 := F.tail.tail.head
          have q3 := F.tail.tail.tail.head
          have q4 := F.tail.tail.tail.tail.head
          have zq4 := F.tail.tail.tail.tail.headF
          have q5 := F.tail.tail.tail.tail.tail.head
          have zq5 := F.tail.tail.tail.tail.tail.headF
          go_wp2_with fail
          refine (CN.out _).mono ?_
          rintro e wn ⟨rfl, hb⟩
          replace F := F.below hb
          replace K := K.trans (hb.mono K.size)
          clear hb
          clear q0 q1 q2 q3 q4 q5 zq4 zq5
          have q0 := F.head
          have q1 := F.tail.head
          have q2 := F.tail.tail.head
          have q3 := F.tail.tail.tail.head
          have q4 := F.tail.tail.tail.tail.head
          have zq4 := F.tail.tail.tail.tail.headF
          have q5 := F.tail.tail.tail.tail.tail.head
          have zq5 := F.tail.tail.tail.tail.tail.headF
          go_wp2_with fail
          refine (V2.out _ (RB.out.up K)).mono ?_
          rintro e wn ⟨rfl, hb⟩
          replace F := F.below hb
          replace K := K.trans (hb.mono K.size)
          clear hb
          clear q0 q1 q2 q3 q4 q5 zq4 zq5
          have q0 := F.head
          have q1 := F.tail.head
          have q2 := F.tail.tail.head
          have q3 := F.tail.tail.tail.head
          have q4 := F.tail.tail.tail.tail.head
          have zq4 := F.tail.tail.tail.tail.headF
          have q5 := F.tail.tail.tail.tail.tail.head
          have zq5 := F.tail.tail.tail.tail.tail.headF
          go_wp2_with fail
          refine (CO.out _ (RA.out.up K)).mono ?_
          rintro e wn ⟨rfl, hb⟩
          replace F := F.below hb
          replace K := K.trans (hb.mono K.size)
          clear hb
          clear q0 q1 q2 q3 q4 q5 zq4 zq5
          have q0 := F.head
          have q1 := F.tail.head
          have q2 := F.tail.tail.head
          have q3 := F.tail.tail.tail.head
          have q4 := F.tail.tail.tail.tail.head
          have zq4 := F.tail.tail.tail.tail.headF
          have q5 := F.tail.tail.tail.tail.tail.head
          have zq5 := F.tail.tail.tail.tail.tail.headF
          have hsl := SlM.keep K RA.out
          have hlt := Lib.hid (Sl_lt RA.out)
          go_wp2
          exact bodyPost_ret (v := .tuple #[.agg #[.int .i64 k, .slice p xs.length c], .int .i64 0]) (by simp [results, Try.results18, go_sem, q4, q5, zq4, zq5]) rfl (by rw [HR.out]; exact ⟨p, c, rfl, Sl_set2 hsl (fun b o e h => by have := hlt.out b o e h; omega), below2 K (by omega) _ _⟩)
        · replace HR0 := Lib.hid ((if_neg hby).symm.trans HR0.out)
          have hbf : (by' == 0) = false := beq_false_of_ne hby
          have hbb := HBY.out
          have SC1 := Lib.hid (SC.out by' hbb.1 hbb.2)
          have SCB1 := Lib.hid (SCB.out by')
          have SCL1 := Lib.hid (SCL.out by')
          obtain ⟨⟨K1, Y1, er⟩, hS⟩ : ∃ R, sclR by' k' ys = R := ⟨_, rfl⟩
          rw [hS] at SC1 SCB1 SCL1 HR0
          simp only at SC1 SCB1 SCL1 HR0
          unfold LR at SC1
          unfold Lv at SC1
          clear hS hby SC SCB SCL HBY hbb
          go_enter Try.func18, Try.ntmps18
          go_wp2_with fail
          generalize (((w.alloc (Obj.cells #[Value.int .i64 k, Value.slice p xs.length c] 24)).alloc (Obj.cells #[Value.int .i64 k', Value.slice q ys.length d] 24)).alloc (Obj.cells #[Value.int .i64 0, Value.slice none 0 0] 24)) = z at *
          have q0 := F.head
          have q1 := F.tail.head
          have q2 := F.tail.tail.head
          have q3 := F.tail.tail.tail.head
          have q4 := F.tail.tail.tail.tail.head
          have zq4 := F.tail.tail.tail.tail.headF
          have q5 := F.tail.tail.tail.tail.tail.head
          have zq5 := F.tail.tail.tail.tail.tail.headF
          refine (V1.out _ (RA.out.up K)).mono ?_
          rintro e wn ⟨rfl, hb⟩
          replace F := F.below hb
          replace K := K.trans (hb.mono K.size)
          clear hb
          clear q0 q1 q2 q3 q4 q5 zq4 zq5
          have q0 := F.head
          have q1 := F.tail.head
          have q2 := F.tail.tail.head
          have q3 := F.tail.tail.tail.head
          have q4 := F.tail.tail.tail.tail.head
          have zq4 := F.tail.tail.tail.tail.headF
          have q5 := F.tail.tail.tail.tail.tail.head
          have zq5 := F.tail.tail.tail.tail.tail.headF
          go_wp2_with fail
          refine (CN.out _).mono ?_
          rintro e wn ⟨rfl, hb⟩
          replace F := F.below hb
          replace K := K.trans (hb.mono K.size)
          clear hb
          clear q0 q1 q2 q3 q4 q5 zq4 zq5
          have q0 := F.head
          have q1 := F.tail.head
          have q2 := F.tail.tail.head
          have q3 := F.tail.tail.tail.head
          have q4 := F.tail.tail.tail.tail.head
          have zq4 := F.tail.tail.tail.tail.headF
          have q5 := F.tail.tail.tail.tail.tail.head
          have zq5 := F.tail.tail.tail.tail.tail.headF
          go_wp2_with fail
          refine (V2.out _ (RB.out.up K)).mono ?_
          rintro e wn ⟨rfl, hb⟩
          replace F := F.below hb
          replace K := K.trans (hb.mono K.size)
          clear hb
          clear q0 q1 q2 q3 q4 q5 zq4 zq5
          have q0 := F.head
          have q1 := F.tail.head
          have q2 := F.tail.tail.head
          have q3 := F.tail.tail.tail.head
          have q4 := F.tail.tail.tail.tail.head
          have zq4 := F.tail.tail.tail.tail.headF
          have q5 := F.tail.tail.tail.tail.tail.head
          have zq5 := F.tail.tail.tail.tail.tail.headF
          go_wp2_with fail
          refine (CO.out _ (RA.out.up K)).mono ?_
          rintro e wn ⟨rfl, hb⟩
          replace F := F.below hb
          replace K := K.trans (hb.mono K.size)
          clear hb
          clear q0 q1 q2 q3 q4 q5 zq4 zq5
          have q0 := F.head
          have q1 := F.tail.head
          have q2 := F.tail.tail.head
          have q3 := F.tail.tail.tail.head
          have q4 := F.tail.tail.tail.tail.head
          have zq4 := F.tail.tail.tail.tail.headF
          have q5 := F.tail.tail.tail.tail.tail.head
          have zq5 := F.tail.tail.tail.tail.tail.headF
          have FB := Cl.cons (b := wn.heap.size) (o := 0) (v := .int .i64 k) (by go_cell) (by first | go_cell | simp) (Cl.cons (b := wn.heap.size) (o := 1) (v := .slice none 0 0) (by go_cell) (by first | go_cell | simp) (F.below ((Below.refl _ _).alloc (Nat.le_refl _) (Obj.cells #[Value.int .i64 k, Value.slice none 0 0] 24))))
          have KB := K.alloc K.size (Obj.cells #[Value.int .i64 k, Value.slice none 0 0] 24)
          have hgr : w.heap.size + 1 + 1 < wn.heap.size := lt_of_cell q4
          have hgr2 : wn.heap.size < (wn.alloc (Obj.cells #[Value.int .i64 k, Value.slice none 0 0] 24)).heap.size := by simp
          go_wp2_with fail
          generalize wn.alloc (Obj.cells #[Value.int .i64 k, Value.slice none 0 0] 24) = z3 at *
          generalize wn.heap.size = gr at *
          clear F K q0 q1 q2 q3 q4 q5 zq4 zq5 S0
          obtain ⟨i0, hi, hz0, hz1, hz2⟩ := info_parts infoMo
          go_loopw [10] (fun i wr => ∃ (j : Nat) (v : Value), i = .int .i64 (j : Int) ∧ j ≤ xs.length ∧ Below w.heap.size w wr ∧ gr < wr.heap.size ∧ Hid (Cl [(gr, 0, .int .i64 k), (gr, 1, v), (w.heap.size, 0, .int .i64 k), (w.heap.size, 1, .slice p xs.length c), (w.heap.size + 1, 0, .int .i64 k'), (w.heap.size + 1, 1, .slice q ys.length d), (w.heap.size + 1 + 1, 0, .int .i64 0), (w.heap.size + 1 + 1, 1, .slice none 0 0)] wr) ∧ Hid (wr.ownsRow (gr + 1) 55 2 v (rmN s (xs.take j)).length (moCs (rmN s (xs.take j))))) (fun i _ => xs.length - (intOf i).toNat)
          case atStart => exact ⟨0, .slice none 0 0, rfl, by omega, KB, hgr2, Lib.hid FB, Lib.hid (World.ownsRow_nil _ _ _ _)⟩
          case round =>
            obtain ⟨j, vl, rfl, hj, hB, hgw, hF, hO⟩ := hrel
            have j0 : (0 : Int) ≤ j := by omega
            clear FB KB hgr2
            by_cases hlt : j < xs.length
            · obtain ⟨b, o, rfl, c0, c1⟩ := SlM.keep hB RA.out j hlt
              have htk := Lib.hid (take_step hlt)
              obtain ⟨⟨t, a⟩, hx⟩ : ∃ x, xs.getD j mo0 = x := ⟨_, rfl⟩
              replace htk := Lib.hid (by have h := htk.out; rw [hx] at h; exact h)
              rw [hx] at c0 c1
              simp only at c0 c1
              clear hx
              have j1 : (j : Int) < xs.length := by omega
              have F := hF.out
              obtain ⟨v, hv⟩ : ∃ v, (t.toList == s.toList) = v := ⟨_, rfl⟩
              have HV := Lib.hid hv
              have hv2 : (t.toList != s.toList) = !v := by rw [bne, hv]
              cases v
              · have HF : Hid (rmN s (xs.take (j + 1)) = rmN s (xs.take j) ++ [(t, a)]) := Lib.hid (by rw [htk.out, rmN_snoc, if_neg (by rw [HV.out]; decide)])
                have HLL := Lib.hid (show (rmN s (xs.take j)).length ≤ 1000 from Nat.le_trans (rmN_len _ _) (by rw [List.length_take]; omega))
                have r0 := F.head
                have r1 := F.tail.head
                have zr1 := F.tail.headF
                have q0 := F.tail.tail.head
                have q1 := F.tail.tail.tail.head
                have q2 := F.tail.tail.tail.tail.head
                have q3 := F.tail.tail.tail.tail.tail.head
                have q4 := F.tail.tail.tail.tail.tail.tail.head
                have zq4 := F.tail.tail.tail.tail.tail.tail.headF
                have q5 := F.tail.tail.tail.tail.tail.tail.tail.head
                have zq5 := F.tail.tail.tail.tail.tail.tail.tail.headF
                skip
                go_wp2_with fail
                have hz9 := (⟨r1, q1, c0, c1⟩ : wr.drew.cell? ⟨gr, 1, none⟩ = some vl ∧ wr.drew.cell? ⟨w.heap.size, 1, none⟩ = some (.slice (some ⟨b, o, none⟩) xs.length c) ∧ wr.drew.cell? ⟨b, o + j * 2, none⟩ = some (.string t) ∧ wr.drew.cell? ⟨b, o + j * 2 + 1, none⟩ = some (.int .i64 a))
                refine Rk.begin (S := fun wS => wS.cell? ⟨gr, 1, none⟩ = some vl ∧ wS.cell? ⟨w.heap.size, 1, none⟩ = some (.slice (some ⟨b, o, none⟩) xs.length c) ∧ wS.cell? ⟨b, o + j * 2, none⟩ = some (.string t) ∧ wS.cell? ⟨b, o + j * 2 + 1, none⟩ = some (.int .i64 a)) 8 (by kernel_rfl) hz9 (fun hHeld => ?_)
                refine Rk.takeP (i := 0) (v := ?_) rfl (by kernel_rfl) (by kernel_rfl) (by kernel_rfl) (by kernel_rfl) (fun _ _ _ h => h) (Or.inl ⟨by kernel_rfl, ?_⟩) (by assumption) ?_
                rotate_left
                · ((intro w hSw; go_simp) <;> with_reducible rfl)
                try simp only [Act.put, List.setIfInBounds_toArray, List.set_cons_zero, List.set_cons_succ]
                refine Rk.take [8] (i := 1) (v := ?_) rfl (by kernel_rfl) (by kernel_rfl) (by kernel_rfl) (by kernel_rfl) (by kernel_rfl) (fun _ _ _ h => h) (Or.inl ⟨by kernel_rfl, ?_⟩) (by assumption) ?_
                rotate_left
                · ((intro w hSw; (try dsimp only at hSw); go_simp) <;> with_reducible rfl)
                try simp only [Act.put, List.setIfInBounds_toArray, List.set_cons_zero, List.set_cons_succ]
                refine Rk.takeP (i := 2) (v := ?_) rfl (by kernel_rfl) (by kernel_rfl) (by kernel_rfl) (by kernel_rfl) (fun _ _ _ h => h) (Or.inl ⟨by kernel_rfl, ?_⟩) (by assumption) ?_
                rotate_left
                · ((intro w hSw; go_simp) <;> with_reducible rfl)
                try simp only [Act.put, List.setIfInBounds_toArray, List.set_cons_zero, List.set_cons_succ]
                refine Rk.take [5, 6, 7, 8] (i := 3) (v := ?_) rfl (by kernel_rfl) (by kernel_rfl) (by kernel_rfl) (by kernel_rfl) (by kernel_rfl) (fun _ _ _ h => h) (Or.inl ⟨by kernel_rfl, ?_⟩) (by assumption) ?_
                rotate_left
                · ((intro w hSw; (try dsimp only at hSw); go_simp) <;> with_reducible rfl)
                try simp only [Act.put, List.setIfInBounds_toArray, List.set_cons_zero, List.set_cons_succ]
                refine Rk.takeP (i := 4) (v := ?_) rfl (by kernel_rfl) (by kernel_rfl) (by kernel_rfl) (by kernel_rfl) (fun _ _ _ h => h) (Or.inl ⟨by kernel_rfl, ?_⟩) (by assumption) ?_
                rotate_left
                · ((intro w hSw; go_simp) <;> with_reducible rfl)
                try simp only [Act.put, List.setIfInBounds_toArray, List.set_cons_zero, List.set_cons_succ]
                refine Rk.takeP (i := 5) (v := ?_) rfl (by kernel_rfl) (by kernel_rfl) (by kernel_rfl) (by kernel_rfl) (fun _ _ _ h => h) (Or.inl ⟨by kernel_rfl, ?_⟩) (by assumption) ?_
                rotate_left
                · ((intro w hSw; go_simp) <;> with_reducible rfl)
                try simp only [Act.put, List.setIfInBounds_toArray, List.set_cons_zero, List.set_cons_succ]
                refine Rk.take [7, 8] (i := 6) (v := ?_) rfl (by kernel_rfl) (by kernel_rfl) (by kernel_rfl) (by kernel_rfl) (by kernel_rfl) (fun _ _ _ h => h) (Or.inl ⟨by kernel_rfl, ?_⟩) (by assumption) ?_
                rotate_left
                · ((intro w hSw; (try dsimp only at hSw); go_simp) <;> with_reducible rfl)
                try simp only [Act.put, List.setIfInBounds_toArray, List.set_cons_zero, List.set_cons_succ]
                refine Rk.one (i := 7) (by kernel_rfl) rfl (fun KK hK => ?_)
                rw [if_pos (by kernel_rfl)]
                go_simp
                have BA := (Below.refl wr.drew.heap.size wr.drew).alloc (Nat.le_refl _) (Obj.cells #[Value.string t, Value.int .i64 a] 55)
                refine hK.out _ _ ⟨kp BA (lt_of_cell hHeld.1) hHeld.1, kp BA (lt_of_cell hHeld.2.1) hHeld.2.1, kp BA (lt_of_cell hHeld.2.2.1) hHeld.2.2.1, kp BA (lt_of_cell hHeld.2.2.2) hHeld.2.2.2⟩ (fun hHeld => ?_)
                clear hK KK
                refine Rk.tail [8, 9, 10] [_, _, _] (by kernel_rfl) (by kernel_rfl) rfl (by decide) ?_
                have FU := (F.drew).below ((Below.refl wr.drew.heap.size wr.drew).alloc (Nat.le_refl _) (Obj.cells #[Value.string t, Value.int .i64 a] 55))
                have OU : ((wr.drew).alloc (Obj.cells #[Value.string t, Value.int .i64 a] 55)).ownsRow (gr + 1) 55 2 vl (rmN s (xs.take j)).length (moCs (rmN s (xs.take j))) := World.ownsRow.alloc hO.out _
                have KU := (hB.drew).alloc hB.size (Obj.cells #[Value.string t, Value.int .i64 a] 55)
                clear hHeld hz9 F hF hO c0 c1 r0 r1 q0 q1 q2 q3 q4 q5 zq4 zq5 zr1
                go_wp2_with (at_builtin; refine wpList_append_own _ rfl _ _ 22 rfl (gr + 1) 55 i0 (.agg #[.string ⟨#[]⟩, .int .i64 0]) 2 24 Try.underlying22 hi hz0 hz1 hz2 rfl (by decide) _ _ _ rfl OU ⟨wr.heap.size, 0, none⟩ 1 1 [.string t, .int .i64 a] rfl rfl ?_ ?_ ?_ ?_ ?_ ?_)
                · intro q' x' hx'
                  rcases q' with _ | _ | q'
                  · cases hx'; go_cell
                  · cases hx'; go_cell
                  · simp at hx'
                · intro x' hx'
                  simp at hx'
                  rcases hx' with rfl | rfl <;> rfl
                · have := HLL.out; unfold maxLen; omega
                · have := HLL.out; omega
                · simp; omega
                intro v' w5 hown' hgrow _
                have F7 := FU.own OU hgrow (by simp only [List.forall_mem_cons]; simp; omega)
                have K7 := KU.grown hgrow KU.size (fun q' hq' => by have := (OU.lt q' hq').1; have := hB.size; omega)
                have hown2 : Hid (w5.ownsRow (gr + 1) 55 2 v' (rmN s (xs.take (j + 1))).length (moCs (rmN s (xs.take (j + 1))))) := Lib.hid (by
                  rw [HF.out, List.length_append, moCs_snoc]
                  exact hown')
                obtain ⟨q', c', rfl⟩ := own_slice hown2.out
                clear hown' hgrow FU OU KU hi hz0 hz1 hz2
                have e0x := F7.head
                have ze0x := F7.headF
                have e1x := F7.tail.head
                have ze1x := F7.tail.headF
                go_wp2
                go_roundw
                case rel => exact ⟨j + 1, .slice q' (rmN s (xs.take (j + 1))).length c', by go_num, by omega, K7.setCell (p := ⟨gr, 1, none⟩) (by show w.heap.size ≤ gr; omega) _, by rw [World.size_setCell]; exact lt_of_cell e0x, Lib.hid (Cl.cons (by go_cell) (by first | go_cell | simp [World.frozen?_setCell, ze0x]) (Cl.cons (by go_cell) (by first | go_cell | simp [World.frozen?_setCell, ze1x]) (Cl.far (F7.sub (by intro x hx; simp only [List.mem_cons, List.not_mem_nil, or_false] at hx ⊢; rcases hx with h | h | h | h | h | h <;> simp [h])) (by simp only [List.forall_mem_cons]; simp; omega)))), Lib.hid (own_set hown2.out (by simp))⟩
                case measure => simp [intOf]; omega
              · have HF : Hid (rmN s (xs.take (j + 1)) = rmN s (xs.take j)) := Lib.hid (by rw [htk.out, rmN_snoc, if_pos HV.out, List.append_nil])
                have r0 := F.head
                have r1 := F.tail.head
                have zr1 := F.tail.headF
                have q0 := F.tail.tail.head
                have q1 := F.tail.tail.tail.head
                have q2 := F.tail.tail.tail.tail.head
                have q3 := F.tail.tail.tail.tail.tail.head
                have q4 := F.tail.tail.tail.tail.tail.tail.head
                have zq4 := F.tail.tail.tail.tail.tail.tail.headF
                have q5 := F.tail.tail.tail.tail.tail.tail.tail.head
                have zq5 := F.tail.tail.tail.tail.tail.tail.tail.headF
                go_wp2
                go_roundw
                case rel => exact ⟨j + 1, vl, by go_num, by omega, hB, hgw, hF, by rw [HF.out]; exact hO⟩
                case measure => simp [intOf]; omega
            · have j1 : ¬ (j : Int) < xs.length := by omega
              obtain rfl : j = xs.length := by omega
              have hO2 := hO.out
              rw [List.take_length] at hO2
              have F := hF.out
              clear hF hO hi hz0 hz1 hz2
              obtain ⟨q9, c9, rfl⟩ := own_slice hO2
              have r0 := F.head
              have r1 := F.tail.head
              have zr1 := F.tail.headF
              have q0 := F.tail.tail.head
              have q1 := F.tail.tail.tail.head
              have q2 := F.tail.tail.tail.tail.head
              have q3 := F.tail.tail.tail.tail.tail.head
              have q4 := F.tail.tail.tail.tail.tail.tail.head
              have zq4 := F.tail.tail.tail.tail.tail.tail.headF
              have q5 := F.tail.tail.tail.tail.tail.tail.tail.head
              have zq5 := F.tail.tail.tail.tail.tail.tail.tail.headF
              have K := hB
              go_wp2_with fail
              refine (SC1.out _ (RB.out.up K)).mono ?_
              rintro e wn ⟨q1x, c1x, rfl, s1, hb⟩
              replace F := F.below hb
              replace K := K.trans (hb.mono K.size)
              have hO3 := own_below hO2 hb
              clear hb
              clear r0 r1 q0 q1 q2 q3 q4 q5 zq4 zq5 zr1
              by_cases her : er = 0
              · subst her
                replace HR0 := Lib.hid ((if_pos rfl).symm.trans HR0.out)
                have hO4 := World.ownsRow.alloc hO3 (Obj.cells #[Value.int .i64 K1, Value.slice q1x Y1.length c1x] 24)
                replace F := Cl.cons (b := wn.heap.size) (o := 0) (v := .int .i64 K1) (by go_cell) (by first | go_cell | simp) (Cl.cons (b := wn.heap.size) (o := 1) (v := .slice q1x Y1.length c1x) (by go_cell) (by first | go_cell | simp) (F.below ((Below.refl _ _).alloc (Nat.le_refl _) (Obj.cells #[Value.int .i64 K1, Value.slice q1x Y1.length c1x] 24))))
                replace K := K.alloc K.size (Obj.cells #[Value.int .i64 K1, Value.slice q1x Y1.length c1x] 24)
                replace s1 := SlM.keep ((Below.refl wn.heap.size wn).alloc (Nat.le_refl _) (Obj.cells #[Value.int .i64 K1, Value.slice q1x Y1.length c1x] 24)) s1
                have x0 := F.head
                have x1 := F.tail.head
                have r0 := F.tail.tail.head
                have r1 := F.tail.tail.tail.head
                have q0 := F.tail.tail.tail.tail.head
                have q1 := F.tail.tail.tail.tail.tail.head
                have q2 := F.tail.tail.tail.tail.tail.tail.head
                have q3 := F.tail.tail.tail.tail.tail.tail.tail.head
                have q4 := F.tail.tail.tail.tail.tail.tail.tail.tail.head
                have zq4 := F.tail.tail.tail.tail.tail.tail.tail.tail.headF
                have q5 := F.tail.tail.tail.tail.tail.tail.tail.tail.tail.head
                have zq5 := F.tail.tail.tail.tail.tail.tail.tail.tail.tail.headF
                go_wp2_with fail
                generalize wn.alloc (Obj.cells #[Value.int .i64 K1, Value.slice q1x Y1.length c1x] 24) = zA at *
                generalize wn.heap.size = gA at *
                obtain ⟨p7, c7, he7, t0⟩ := own_sl hO4
                cases he7
                clear hO4 hO3 hO2
                have hML := RML.out
                have hYL := SCL1.out
                have CA := add2f k q9 (rmN s xs) c9 K1 q1x Y1 c1x zA (by omega) (by omega) (Lib.hid t0) (Lib.hid s1) RMB (Lib.hid SCB1.out.1) k1 k2 SCB1.out.2.1 SCB1.out.2.2
                rw [HR0.out] at CA
                unfold LRf at CA
                unfold Lv at CA
                clear t0 s1
                refine CA.mono ?_
                rintro e w8 ⟨q2x, c2x, rfl, s2, hfr, hb⟩
                have hw7 : w.heap.size + 1 + 1 < zA.heap.size := lt_of_cell q4
                replace F := F.below hb
                replace K := K.trans (hb.mono K.size)
                clear hb CA
                clear x0 x1 r0 r1 q0 q1 q2 q3 q4 q5 zq4 zq5
                have x0 := F.head
                have x1 := F.tail.head
                have r0 := F.tail.tail.head
                have r1 := F.tail.tail.tail.head
                have q0 := F.tail.tail.tail.tail.head
                have q1 := F.tail.tail.tail.tail.tail.head
                have q2 := F.tail.tail.tail.tail.tail.tail.head
                have q3 := F.tail.tail.tail.tail.tail.tail.tail.head
                have q4 := F.tail.tail.tail.tail.tail.tail.tail.tail.head
                have zq4 := F.tail.tail.tail.tail.tail.tail.tail.tail.headF
                have q5 := F.tail.tail.tail.tail.tail.tail.tail.tail.tail.head
                have zq5 := F.tail.tail.tail.tail.tail.tail.tail.tail.tail.headF
                go_wp2
                exact bodyPost_ret (v := .tuple #[.agg #[.int .i64 R.1, .slice q2x R.2.1.length c2x], .int .i64 R.2.2]) (by simp [results, Try.results18, go_sem, q4, q5, zq4, zq5]) rfl ⟨q2x, c2x, rfl, Sl_set2 s2 (fun b o e _ => by have := hfr b o e; omega), below2 K (by omega) _ _⟩
              · have e1 : (er == 0) = false := beq_false_of_ne her
                have e2 : (er != 0) = true := by rw [bne, e1]; rfl
                have HR := Lib.hid (show R = (0, [], er) by rw [← HR0.out, if_neg her])
                clear her HR0
                replace F := Cl.cons (b := wn.heap.size) (o := 0) (v := .int .i64 K1) (by go_cell) (by first | go_cell | simp) (Cl.cons (b := wn.heap.size) (o := 1) (v := .slice q1x Y1.length c1x) (by go_cell) (by first | go_cell | simp) (F.below ((Below.refl _ _).alloc (Nat.le_refl _) (Obj.cells #[Value.int .i64 K1, Value.slice q1x Y1.length c1x] 24))))
                replace K := K.alloc K.size (Obj.cells #[Value.int .i64 K1, Value.slice q1x Y1.length c1x] 24)
                replace s1 := SlM.keep ((Below.refl wn.heap.size wn).alloc (Nat.le_refl _) (Obj.cells #[Value.int .i64 K1, Value.slice q1x Y1.length c1x] 24)) s1
                have x0 := F.head
                have x1 := F.tail.head
                have r0 := F.tail.tail.head
                have r1 := F.tail.tail.tail.head
                have q0 := F.tail.tail.tail.tail.head
                have q1 := F.tail.tail.tail.tail.tail.head
                have q2 := F.tail.tail.tail.tail.tail.tail.head
                have q3 := F.tail.tail.tail.tail.tail.tail.tail.head
                have q4 := F.tail.tail.tail.tail.tail.tail.tail.tail.head
                have zq4 := F.tail.tail.tail.tail.tail.tail.tail.tail.headF
                have q5 := F.tail.tail.tail.tail.tail.tail.tail.tail.tail.head
                have zq5 := F.tail.tail.tail.tail.tail.tail.tail.tail.tail.headF
                go_wp2
                exact bodyPost_ret (v := .tuple #[.agg #[.int .i64 0, .slice none 0 0], .int .i64 er]) (by simp [results, Try.results18, go_sem, q4, q5, zq4, zq5]) rfl (by rw [HR.out]; exact LR.zero rfl (below2 K (by omega) _ _))
end Go.Proofs.Ythdeaneffnlffaa.Ln
