/- Linear forms: Substitute. -/
import Derived.Test.YthdeaneffnlffaaY52
import Derived.Test.YthdeaneffnlffaaY54
import Derived.Test.YthdeaneffnlffaaY27
namespace Go.Proofs.Ythdeaneffnlffaa.Ln
open Go.ChangeShapes Go.WideShapes Go.ChangeAt Go.RowKit
set_option linter.unusedVariables false
set_option linter.unusedSimpArgs false
open Go.Proofs.Ythdeaneffnlffaa.Nm
def subR (k : Int) (xs : List Mo) (s : ByteArray) (k' : Int) (ys : List Mo) : Int × List Mo × Int :=
  if okL xs = false ∨ nmB s = false ∨ okL ys = false then (0, [], 1) else if co xs s = 0 then (k, xs, 0) else if (sclR (co xs s) k' ys).2.2 = 0 then adR k (rmN s xs) (sclR (co xs s) k' ys).1 (sclR (co xs s) k' ys).2.1 else (0, [], (sclR (co xs s) k' ys).2.2)
theorem scl_get {b k : Int} {ys : List Mo} (h : ∀ i, i < ys.length → (ys.getD i mo0).1.size ≤ maxLen ∧ -9223372036854775808 ≤ (ys.getD i mo0).2 ∧ (ys.getD i mo0).2 ≤ 9223372036854775807) :
    (∀ i, i < (sclR b k ys).2.1.length → ((sclR b k ys).2.1.getD i mo0).1.size ≤ maxLen ∧ -9223372036854775808 ≤ ((sclR b k ys).2.1.getD i mo0).2 ∧ ((sclR b k ys).2.1.getD i mo0).2 ≤ 9223372036854775807) ∧ -9223372036854775808 ≤ (sclR b k ys).1 ∧ (sclR b k ys).1 ≤ 9223372036854775807 := by
  have hw : ∀ n : Int, -9223372036854775808 ≤ wrap64 n ∧ wrap64 n ≤ 9223372036854775807 := fun n => by unfold wrap64; omega
  unfold sclR
  split
  · exact ⟨fun i hi => absurd hi (by simp), by decide⟩
  · split
    · exact ⟨fun i hi => absurd hi (by simp), by decide⟩
    · split
      · refine ⟨bd_get fun z hz => ?_, hw _⟩
        obtain ⟨x, h1, rfl⟩ := List.mem_map.1 hz
        refine ⟨?_, hw _⟩
        obtain ⟨j, hj, rfl⟩ := List.getElem_of_mem h1
        have := h j hj
        rw [show ys.getD j mo0 = ys[j] by unfold List.getD; rw [List.getElem?_eq_getElem hj]; rfl] at this
        exact this.1
      · exact ⟨fun i hi => absurd hi (by simp), by decide⟩
theorem rm_get {s : ByteArray} {xs : List Mo} (h : ∀ i, i < xs.length → (xs.getD i mo0).1.size ≤ maxLen ∧ -9223372036854775808 ≤ (xs.getD i mo0).2 ∧ (xs.getD i mo0).2 ≤ 9223372036854775807) :
    ∀ i, i < (rmN s xs).length → ((rmN s xs).getD i mo0).1.size ≤ maxLen ∧ -9223372036854775808 ≤ ((rmN s xs).getD i mo0).2 ∧ ((rmN s xs).getD i mo0).2 ≤ 9223372036854775807 :=
  bd_get fun z hz => by
    have hz := (List.mem_filter.1 hz).1
    obtain ⟨j, hj, rfl⟩ := List.getElem_of_mem hz
    have := h j hj
    rw [show xs.getD j mo0 = xs[j] by unfold List.getD; rw [List.getElem?_eq_getElem hj]; rfl] at this
    exact ⟨this.1, this.2.1, this.2.2⟩
theorem Sl_grown {w u : World} {g : Nat} {p : Option Addr} {xs : List Mo} (h : SlM w p xs) (hg : w.grownBy u (some g)) (hp : ∀ b o, p = some ⟨b, o, none⟩ → xs ≠ [] → b ≠ g) : SlM u p xs := fun i hi => by
  obtain ⟨b, o, rfl, c0, c1⟩ := h i hi
  have hb := hg.block b (lt_of_cell c0) (by have := hp b o rfl (fun e => by rw [e] at hi; simp at hi); simpa using this)
  exact ⟨b, o, rfl, (World.cell?_of_block (a := ⟨b, _, none⟩) hb).trans c0, (World.cell?_of_block (a := ⟨b, _, none⟩) hb).trans c1⟩
set_option maxRecDepth 100000 in
set_option maxHeartbeats 32000000 in
theorem sub1 (k : Int) (p : Option Addr) (xs : List Mo) (c : Nat) (s : ByteArray) (k' : Int) (q : Option Addr) (ys : List Mo) (d : Nat) (w : World) (hn : xs.length ≤ 1000) (hm : ys.length ≤ 1000) (hs : s.size ≤ maxLen) (RA : Hid (SlM w p xs)) (RB : Hid (SlM w q ys))
    (RS : Hid (∀ i, i < xs.length → (xs.getD i mo0).1.size ≤ maxLen ∧ -9223372036854775808 ≤ (xs.getD i mo0).2 ∧ (xs.getD i mo0).2 ≤ 9223372036854775807)) (RT : Hid (∀ i, i < ys.length → (ys.getD i mo0).1.size ≤ maxLen ∧ -9223372036854775808 ≤ (ys.getD i mo0).2 ∧ (ys.getD i mo0).2 ≤ 9223372036854775807))
    (k1 : -9223372036854775808 ≤ k) (k2 : k ≤ 9223372036854775807) (b1 : -9223372036854775808 ≤ k') (b2 : k' ≤ 9223372036854775807) :
    Calls Try.prog 17 #[Lv k p xs.length c, .string s, Lv k' q ys.length d] w (LR (subR k xs s k' ys).1 (subR k xs s k' ys).2.1 (subR k xs s k' ys).2.2 w) := by
  have V1 := Lib.hid fun (u : World) (h : Hid (SlM u p xs)) => val1 k p xs c u (by unfold maxLen; omega) h (Lib.hid fun i hi => (RS.out i hi).1)
  have V2 := Lib.hid fun (u : World) (h : Hid (SlM u q ys)) => val1 k' q ys d u (by unfold maxLen; omega) h (Lib.hid fun i hi => (RT.out i hi).1)
  have CN := Lib.hid fun (u : World) => isName s u hs
  have CO := Lib.hid fun (u : World) (h : Hid (SlM u p xs)) => coeff1 k p xs c s u (by unfold maxLen; omega) h
  have CD := Lib.hid fun (u : World) (h : Hid (SlM u p xs)) => deepLin1 k p xs c u hn h
  have K : Below w.heap.size w ((((w.alloc (Obj.cells #[Value.int .i64 k, Value.slice p xs.length c] 24)).alloc (Obj.cells #[Value.string s] 9)).alloc (Obj.cells #[Value.int .i64 k', Value.slice q ys.length d] 24)).alloc (Obj.cells #[Value.int .i64 0, Value.slice none 0 0] 24)) := (((((Below.refl _ _).alloc (Nat.le_refl _) _).alloc (by simp) _).alloc (by simp; omega) _).alloc (by simp; omega) _)
  have S0 : w.heap.size + 3 < (((((w.alloc (Obj.cells #[Value.int .i64 k, Value.slice p xs.length c] 24)).alloc (Obj.cells #[Value.string s] 9)).alloc (Obj.cells #[Value.int .i64 k', Value.slice q ys.length d] 24)).alloc (Obj.cells #[Value.int .i64 0, Value.slice none 0 0] 24))).heap.size := by simp
  have F : Cl [(w.heap.size, 0, .int .i64 k), (w.heap.size, 1, .slice p xs.length c), (w.heap.size + 1, 0, .string s), (w.heap.size + 1 + 1, 0, .int .i64 k'), (w.heap.size + 1 + 1, 1, .slice q ys.length d), (w.heap.size + 1 + 1 + 1, 0, .int .i64 0), (w.heap.size + 1 + 1 + 1, 1, .slice none 0 0)] ((((w.alloc (Obj.cells #[Value.int .i64 k, Value.slice p xs.length c] 24)).alloc (Obj.cells #[Value.string s] 9)).alloc (Obj.cells #[Value.int .i64 k', Value.slice q ys.length d] 24)).alloc (Obj.cells #[Value.int .i64 0, Value.slice none 0 0] 24)) := (Cl.cons (by go_cell) (by first | go_cell | simp) (Cl.cons (by go_cell) (by first | go_cell | simp) (Cl.cons (by go_cell) (by first | go_cell | simp) (Cl.cons (by go_cell) (by first | go_cell | simp) (Cl.cons (by go_cell) (by first | go_cell | simp) (Cl.cons (by go_cell) (by first | go_cell | simp) (Cl.cons (by go_cell) (by first | go_cell | simp) (Cl.nil _))))))))
  have HBY := Lib.hid (co_bd RS.out s)
  have HCO := Lib.hid fun h : co xs s ≠ 0 => (show s ∈ xs.map (·.1) from Classical.byContradiction fun hc => h (co_out hc))
  have SCB := Lib.hid fun b => scl_get (b := b) (k := k') RT.out
  have RMB := Lib.hid (rm_get (s := s) RS.out)
  have RML := Lib.hid (rmN_len s xs)
  have SCL := Lib.hid fun b => sclR_len b k' ys
  have SC := Lib.hid fun b (hb1 : -9223372036854775808 ≤ b) (hb2 : b ≤ 9223372036854775807) (u : World) (h : Hid (SlM u q ys)) => scale1c k' q ys d b u hm h RT b1 b2 hb1 hb2
  obtain ⟨R, hR⟩ : ∃ R, subR k xs s k' ys = R := ⟨_, rfl⟩
  rw [hR]
  unfold subR at hR
  obtain ⟨o1, h1⟩ : ∃ v, okL xs = v := ⟨_, rfl⟩
  obtain ⟨o2, h2⟩ : ∃ v, nmB s = v := ⟨_, rfl⟩
  obtain ⟨o3, h3⟩ : ∃ v, okL ys = v := ⟨_, rfl⟩
  obtain ⟨by', h4⟩ : ∃ v, co xs s = v := ⟨_, rfl⟩
  unfold vL at V1 V2
  rw [h1] at V1 hR
  rw [h2] at CN hR
  rw [h3] at V2 hR
  rw [h4] at CO HBY HCO hR
  have HR0 := Lib.hid hR
  clear h1 h2 h3 h4 hR
  unfold Lv at *
  cases o1
  · have HR := Lib.hid (show R = (0, [], 1) by rw [← HR0.out]; rfl)
    go_enter Try.func17, Try.ntmps17
    go_wp2_with fail
    generalize ((((w.alloc (Obj.cells #[Value.int .i64 k, Value.slice p xs.length c] 24)).alloc (Obj.cells #[Value.string s] 9)).alloc (Obj.cells #[Value.int .i64 k', Value.slice q ys.length d] 24)).alloc (Obj.cells #[Value.int .i64 0, Value.slice none 0 0] 24)) = z at *
    have q0 := F.head
    have q1 := F.tail.head
    have q2 := F.tail.tail.head
    have q3 := F.tail.tail.tail.head
    have q4 := F.tail.tail.tail.tail.head
    have q5 := F.tail.tail.tail.tail.tail.head
    have zq5 := F.tail.tail.tail.tail.tail.headF
    have q6 := F.tail.tail.tail.tail.tail.tail.head
    have zq6 := F.tail.tail.tail.tail.tail.tail.headF
    refine (V1.out _ (RA.out.up K)).mono ?_
    rintro e wn ⟨rfl, hb⟩
    replace F := F.below hb
    replace K := K.trans (hb.mono K.size)
    clear hb
    clear q0 q1 q2 q3 q4 q5 q6 zq5 zq6
    have q0 := F.head
    have q1 := F.tail.head
    have q2 := F.tail.tail.head
    have q3 := F.tail.tail.tail.head
    have q4 := F.tail.tail.tail.tail.head
    have q5 := F.tail.tail.tail.tail.tail.head
    have zq5 := F.tail.tail.tail.tail.tail.headF
    have q6 := F.tail.tail.tail.tail.tail.tail.head
    have zq6 := F.tail.tail.tail.tail.tail.tail.headF
    go_wp2
    exact bodyPost_ret (v := .tuple #[.agg #[.int .i64 0, .slice none 0 0], .int .i64 1]) (by simp [results, Try.results17, go_sem, q5, q6, zq5, zq6]) rfl (by rw [HR.out]; exact LR.zero rfl (below2 K (by omega) _ _))
  · cases o2
    · have HR := Lib.hid (show R = (0, [], 1) by rw [← HR0.out]; rfl)
      go_enter Try.func17, Try.ntmps17
      go_wp2_with fail
      generalize ((((w.alloc (Obj.cells #[Value.int .i64 k, Value.slice p xs.length c] 24)).alloc (Obj.cells #[Value.string s] 9)).alloc (Obj.cells #[Value.int .i64 k', Value.slice q ys.length d] 24)).alloc (Obj.cells #[Value.int .i64 0, Value.slice none 0 0] 24)) = z at *
      have q0 := F.head
      have q1 := F.tail.head
      have q2 := F.tail.tail.head
      have q3 := F.tail.tail.tail.head
      have q4 := F.tail.tail.tail.tail.head
      have q5 := F.tail.tail.tail.tail.tail.head
      have zq5 := F.tail.tail.tail.tail.tail.headF
      have q6 := F.tail.tail.tail.tail.tail.tail.head
      have zq6 := F.tail.tail.tail.tail.tail.tail.headF
      refine (V1.out _ (RA.out.up K)).mono ?_
      rintro e wn ⟨rfl, hb⟩
      replace F := F.below hb
      replace K := K.trans (hb.mono K.size)
      clear hb
      clear q0 q1 q2 q3 q4 q5 q6 zq5 zq6
      have q0 := F.head
      have q1 := F.tail.head
      have q2 := F.tail.tail.head
      have q3 := F.tail.tail.tail.head
      have q4 := F.tail.tail.tail.tail.head
      have q5 := F.tail.tail.tail.tail.tail.head
      have zq5 := F.tail.tail.tail.tail.tail.headF
      have q6 := F.tail.tail.tail.tail.tail.tail.head
      have zq6 := F.tail.tail.tail.tail.tail.tail.headF
      go_wp2_with fail
      refine (CN.out _).mono ?_
      rintro e wq ⟨rfl, rfl⟩
      go_wp2
      exact bodyPost_ret (v := .tuple #[.agg #[.int .i64 0, .slice none 0 0], .int .i64 1]) (by simp [results, Try.results17, go_sem, q5, q6, zq5, zq6]) rfl (by rw [HR.out]; exact LR.zero rfl (below2 K (by omega) _ _))
    · cases o3
      · have HR := Lib.hid (show R = (0, [], 1) by rw [← HR0.out]; rfl)
        go_enter Try.func17, Try.ntmps17
        go_wp2_with fail
        generalize ((((w.alloc (Obj.cells #[Value.int .i64 k, Value.slice p xs.length c] 24)).alloc (Obj.cells #[Value.string s] 9)).alloc (Obj.cells #[Value.int .i64 k', Value.slice q ys.length d] 24)).alloc (Obj.cells #[Value.int .i64 0, Value.slice none 0 0] 24)) = z at *
        have q0 := F.head
        have q1 := F.tail.head
        have q2 := F.tail.tail.head
        have q3 := F.tail.tail.tail.head
        have q4 := F.tail.tail.tail.tail.head
        have q5 := F.tail.tail.tail.tail.tail.head
        have zq5 := F.tail.tail.tail.tail.tail.headF
        have q6 := F.tail.tail.tail.tail.tail.tail.head
        have zq6 := F.tail.tail.tail.tail.tail.tail.headF
        refine (V1.out _ (RA.out.up K)).mono ?_
        rintro e wn ⟨rfl, hb⟩
        replace F := F.below hb
        replace K := K.trans (hb.mono K.size)
        clear hb
        clear q0 q1 q2 q3 q4 q5 q6 zq5 zq6
        have q0 := F.head
        have q1 := F.tail.head
        have q2 := F.tail.tail.head
        have q3 := F.tail.tail.tail.head
        have q4 := F.tail.tail.tail.tail.head
        have q5 := F.tail.tail.tail.tail.tail.head
        have zq5 := F.tail.tail.tail.tail.tail.headF
        have q6 := F.tail.tail.tail.tail.tail.tail.head
        have zq6 := F.tail.tail.tail.tail.tail.tail.headF
        go_wp2_with fail
        refine (CN.out _).mono ?_
        rintro e wq ⟨rfl, rfl⟩
        go_wp2_with fail
        refine (V2.out _ (RB.out.up K)).mono ?_
        rintro e wn ⟨rfl, hb⟩
        replace F := F.below hb
        replace K := K.trans (hb.mono K.size)
        clear hb
        clear q0 q1 q2 q3 q4 q5 q6 zq5 zq6
        have q0 := F.head
        have q1 := F.tail.head
        have q2 := F.tail.tail.head
        have q3 := F.tail.tail.tail.head
        have q4 := F.tail.tail.tail.tail.head
        have q5 := F.tail.tail.tail.tail.tail.head
        have zq5 := F.tail.tail.tail.tail.tail.headF
        have q6 := F.tail.tail.tail.tail.tail.tail.head
        have zq6 := F.tail.tail.tail.tail.tail.tail.headF
        go_wp2
        exact bodyPost_ret (v := .tuple #[.agg #[.int .i64 0, .slice none 0 0], .int .i64 1]) (by simp [results, Try.results17, go_sem, q5, q6, zq5, zq6]) rfl (by rw [HR.out]; exact LR.zero rfl (below2 K (by omega) _ _))
      · replace HR0 := Lib.hid ((if_neg (by decide)).symm.trans HR0.out)
        by_cases hby : by' = 0
        · subst hby
          have HR := Lib.hid (show R = (k, xs, 0) by rw [← HR0.out]; rfl)
          go_enter Try.func17, Try.ntmps17
          go_wp2_with fail
          generalize ((((w.alloc (Obj.cells #[Value.int .i64 k, Value.slice p xs.length c] 24)).alloc (Obj.cells #[Value.string s] 9)).alloc (Obj.cells #[Value.int .i64 k', Value.slice q ys.length d] 24)).alloc (Obj.cells #[Value.int .i64 0, Value.slice none 0 0] 24)) = z at *
          have q0 := F.head
          have q1 := F.tail.head
          have q2 := F.tail.tail.head
          have q3 := F.tail.tail.tail.head
          have q4 := F.tail.tail.tail.tail.head
          have q5 := F.tail.tail.tail.tail.tail.head
          have zq5 := F.tail.tail.tail.tail.tail.headF
          have q6 := F.tail.tail.tail.tail.tail.tail.head
          have zq6 := F.tail.tail.tail.tail.tail.tail.headF
          refine (V1.out _ (RA.out.up K)).mono ?_
          rintro e wn ⟨rfl, hb⟩
          replace F := F.below hb
          replace K := K.trans (hb.mono K.size)
          clear hb
          clear q0 q1 q2 q3 q4 q5 q6 zq5 zq6
          have q0 := F.head
          have q1 := F.tail.head
          have q2 := F.tail.tail.head
          have q3 := F.tail.tail.tail.head
          have q4 := F.tail.tail.tail.tail.head
          have q5 := F.tail.tail.tail.tail.tail.head
          have zq5 := F.tail.tail.tail.tail.tail.headF
          have q6 := F.tail.tail.tail.tail.tail.tail.head
          have zq6 := F.tail.tail.tail.tail.tail.tail.headF
          go_wp2_with fail
          refine (CN.out _).mono ?_
          rintro e wq ⟨rfl, rfl⟩
          go_wp2_with fail
          refine (V2.out _ (RB.out.up K)).mono ?_
          rintro e wn ⟨rfl, hb⟩
          replace F := F.below hb
          replace K := K.trans (hb.mono K.size)
          clear hb
          clear q0 q1 q2 q3 q4 q5 q6 zq5 zq6
          have q0 := F.head
          have q1 := F.tail.head
          have q2 := F.tail.tail.head
          have q3 := F.tail.tail.tail.head
          have q4 := F.tail.tail.tail.tail.head
          have q5 := F.tail.tail.tail.tail.tail.head
          have zq5 := F.tail.tail.tail.tail.tail.headF
          have q6 := F.tail.tail.tail.tail.tail.tail.head
          have zq6 := F.tail.tail.tail.tail.tail.tail.headF
          go_wp2_with fail
          refine (CO.out _ (RA.out.up K)).mono ?_
          rintro e wn ⟨rfl, hb⟩
          replace F := F.below hb
          replace K := K.trans (hb.mono K.size)
          clear hb
          clear q0 q1 q2 q3 q4 q5 q6 zq5 zq6
          have q0 := F.head
          have q1 := F.tail.head
          have q2 := F.tail.tail.head
          have q3 := F.tail.tail.tail.head
          have q4 := F.tail.tail.tail.tail.head
          have q5 := F.tail.tail.tail.tail.tail.head
          have zq5 := F.tail.tail.tail.tail.tail.headF
          have q6 := F.tail.tail.tail.tail.tail.tail.head
          have zq6 := F.tail.tail.tail.tail.tail.tail.headF
          have hsz : w.heap.size + 1 + 1 + 1 < wn.heap.size := lt_of_cell q5
          go_wp2_with fail
          refine (CD.out _ (RA.out.up K)).mono ?_
          rintro e w5 ⟨v, rfl, hO, hb⟩
          replace F := F.below hb
          replace K := K.trans (hb.mono K.size)
          clear hb
          clear q0 q1 q2 q3 q4 q5 q6 zq5 zq6
          have q0 := F.head
          have q1 := F.tail.head
          have q2 := F.tail.tail.head
          have q3 := F.tail.tail.tail.head
          have q4 := F.tail.tail.tail.tail.head
          have q5 := F.tail.tail.tail.tail.tail.head
          have zq5 := F.tail.tail.tail.tail.tail.headF
          have q6 := F.tail.tail.tail.tail.tail.tail.head
          have zq6 := F.tail.tail.tail.tail.tail.tail.headF
          obtain ⟨q9, d9, rfl⟩ := own_slice hO
          go_wp2
          have hOF := own_set (a := ⟨w.heap.size + 1 + 1 + 1, 1, none⟩) (y := .slice q9 xs.length d9) (own_set (a := ⟨w.heap.size + 1 + 1 + 1, 0, none⟩) (y := .int .i64 k) hO (by simpa using hsz)) (by simpa using hsz)
          obtain ⟨q8, d8, he, hsl⟩ := own_sl hOF
          cases he
          exact bodyPost_ret (v := .tuple #[.agg #[.int .i64 k, .slice q9 xs.length d9], .int .i64 0]) (by simp [results, Try.results17, go_sem, q5, q6, zq5, zq6]) rfl (by rw [HR.out]; exact ⟨q9, d9, rfl, hsl, below2 K (by omega) _ _⟩)
        · replace HR0 := Lib.hid ((if_neg hby).symm.trans HR0.out)
          have hin := HCO.out hby
          have hbf : (by' == 0) = false := beq_false_of_ne hby
          have hbb := HBY.out
          have SC1 := Lib.hid (SC.out by' hbb.1 hbb.2)
          have SCB1 := Lib.hid (SCB.out by')
          have SCL1 := Lib.hid (SCL.out by')
          obtain ⟨⟨K1, Y1, er⟩, hS⟩ : ∃ R, sclR by' k' ys = R := ⟨_, rfl⟩
          rw [hS] at SC1 SCB1 SCL1 HR0
          simp only at SC1 SCB1 SCL1 HR0
          unfold LRc at SC1
          unfold Lv at SC1
          have HIN := Lib.hid hin
          clear hS hby hin SC SCB SCL HBY HCO hbb
          go_enter Try.func17, Try.ntmps17
          go_wp2_with fail
          generalize ((((w.alloc (Obj.cells #[Value.int .i64 k, Value.slice p xs.length c] 24)).alloc (Obj.cells #[Value.string s] 9)).alloc (Obj.cells #[Value.int .i64 k', Value.slice q ys.length d] 24)).alloc (Obj.cells #[Value.int .i64 0, Value.slice none 0 0] 24)) = z at *
          have q0 := F.head
          have q1 := F.tail.head
          have q2 := F.tail.tail.head
          have q3 := F.tail.tail.tail.head
          have q4 := F.tail.tail.tail.tail.head
          have q5 := F.tail.tail.tail.tail.tail.head
          have zq5 := F.tail.tail.tail.tail.tail.headF
          have q6 := F.tail.tail.tail.tail.tail.tail.head
          have zq6 := F.tail.tail.tail.tail.tail.tail.headF
          refine (V1.out _ (RA.out.up K)).mono ?_
          rintro e wn ⟨rfl, hb⟩
          replace F := F.below hb
          replace K := K.trans (hb.mono K.size)
          clear hb
          clear q0 q1 q2 q3 q4 q5 q6 zq5 zq6
          have q0 := F.head
          have q1 := F.tail.head
          have q2 := F.tail.tail.head
          have q3 := F.tail.tail.tail.head
          have q4 := F.tail.tail.tail.tail.head
          have q5 := F.tail.tail.tail.tail.tail.head
          have zq5 := F.tail.tail.tail.tail.tail.headF
          have q6 := F.tail.tail.tail.tail.tail.tail.head
          have zq6 := F.tail.tail.tail.tail.tail.tail.headF
          go_wp2_with fail
          refine (CN.out _).mono ?_
          rintro e wq ⟨rfl, rfl⟩
          go_wp2_with fail
          refine (V2.out _ (RB.out.up K)).mono ?_
          rintro e wn ⟨rfl, hb⟩
          replace F := F.below hb
          replace K := K.trans (hb.mono K.size)
          clear hb
          clear q0 q1 q2 q3 q4 q5 q6 zq5 zq6
          have q0 := F.head
          have q1 := F.tail.head
          have q2 := F.tail.tail.head
          have q3 := F.tail.tail.tail.head
          have q4 := F.tail.tail.tail.tail.head
          have q5 := F.tail.tail.tail.tail.tail.head
          have zq5 := F.tail.tail.tail.tail.tail.headF
          have q6 := F.tail.tail.tail.tail.tail.tail.head
          have zq6 := F.tail.tail.tail.tail.tail.tail.headF
          go_wp2_with fail
          refine (CO.out _ (RA.out.up K)).mono ?_
          rintro e wn ⟨rfl, hb⟩
          replace F := F.below hb
          replace K := K.trans (hb.mono K.size)
          clear hb
          clear q0 q1 q2 q3 q4 q5 q6 zq5 zq6
          have q0 := F.head
          have q1 := F.tail.head
          have q2 := F.tail.tail.head
          have q3 := F.tail.tail.tail.head
          have q4 := F.tail.tail.tail.tail.head
          have q5 := F.tail.tail.tail.tail.tail.head
          have zq5 := F.tail.tail.tail.tail.tail.headF
          have q6 := F.tail.tail.tail.tail.tail.tail.head
          have zq6 := F.tail.tail.tail.tail.tail.tail.headF
          go_wp2_with fail
          refine (SC1.out _ (RB.out.up K)).mono ?_
          rintro e wn ⟨q1x, c1x, rfl, s1, hc1, hb⟩
          replace F := F.below hb
          replace K := K.trans (hb.mono K.size)
          clear hb
          clear q0 q1 q2 q3 q4 q5 q6 zq5 zq6
          by_cases her : er = 0
          · subst her
            replace HR0 := Lib.hid ((if_pos rfl).symm.trans HR0.out)
            replace F := Cl.cons (b := wn.heap.size) (o := 0) (v := .int .i64 K1) (by go_cell) (by first | go_cell | simp) (Cl.cons (b := wn.heap.size) (o := 1) (v := .slice q1x Y1.length c1x) (by go_cell) (by first | go_cell | simp) (F.below ((Below.refl _ _).alloc (Nat.le_refl _) (Obj.cells #[Value.int .i64 K1, Value.slice q1x Y1.length c1x] 24))))
            replace K := K.alloc K.size (Obj.cells #[Value.int .i64 K1, Value.slice q1x Y1.length c1x] 24)
            replace s1 := SlM.keep ((Below.refl wn.heap.size wn).alloc (Nat.le_refl _) (Obj.cells #[Value.int .i64 K1, Value.slice q1x Y1.length c1x] 24)) s1
            have x0 := F.head
            have x1 := F.tail.head
            have q0 := F.tail.tail.head
            have q1 := F.tail.tail.tail.head
            have q2 := F.tail.tail.tail.tail.head
            have q3 := F.tail.tail.tail.tail.tail.head
            have q4 := F.tail.tail.tail.tail.tail.tail.head
            have q5 := F.tail.tail.tail.tail.tail.tail.tail.head
            have zq5 := F.tail.tail.tail.tail.tail.tail.tail.headF
            have q6 := F.tail.tail.tail.tail.tail.tail.tail.tail.head
            have zq6 := F.tail.tail.tail.tail.tail.tail.tail.tail.headF
            go_wp2_with fail
            generalize wn.alloc (Obj.cells #[Value.int .i64 K1, Value.slice q1x Y1.length c1x] 24) = zA at *
            generalize wn.heap.size = gA at *
            have hlt1 := Lib.hid (Sl_lt s1)
            skip
            have HZA := Lib.hid (lt_of_cell x0)
            have hszr := lt_of_cell q5
            refine (CD.out _ (RA.out.up K)).mono ?_
            rintro e w5 ⟨v, rfl, hO, hb⟩
            have hz5 := hb.size
            replace F := F.below hb
            replace s1 := SlM.keep hb s1
            replace K := K.trans (hb.mono K.size)
            clear x0 x1 q0 q1 q2 q3 q4 q5 q6 zq5 zq6
            obtain ⟨hO1, ⟨rfl, hn0⟩ | ⟨g, cap, cur, rfl, hgb, hgh, hgc, hgm, hgs, hgt⟩⟩ := hO
            · exact absurd HIN.out (by rw [List.eq_nil_of_length_eq_zero hn0]; simp)
            have hO : w5.ownsRow _ 55 2 (.slice (some ⟨g, 0, none⟩) xs.length cap) xs.length (moCs xs) := ⟨hO1, .inr ⟨g, cap, cur, rfl, hgb, hgh, hgc, hgm, hgs, hgt⟩⟩
            have hgl : g < w5.heap.size := (hO.lt g rfl).2
            clear hO1 hgh hgm hgs hgt hb
            have hO := hO.alloc (Obj.cells #[Value.int .i64 k, Value.slice (some ⟨g, 0, none⟩) xs.length cap] 24)
            replace F := Cl.cons (b := w5.heap.size) (o := 0) (v := .int .i64 k) (by go_cell) (by first | go_cell | simp) (Cl.cons (b := w5.heap.size) (o := 1) (v := .slice (some ⟨g, 0, none⟩) xs.length cap) (by go_cell) (by first | go_cell | simp) (F.below ((Below.refl _ _).alloc (Nat.le_refl _) (Obj.cells #[Value.int .i64 k, Value.slice (some ⟨g, 0, none⟩) xs.length cap] 24))))
            replace K := K.alloc K.size (Obj.cells #[Value.int .i64 k, Value.slice (some ⟨g, 0, none⟩) xs.length cap] 24)
            replace s1 := SlM.keep ((Below.refl w5.heap.size w5).alloc (Nat.le_refl _) (Obj.cells #[Value.int .i64 k, Value.slice (some ⟨g, 0, none⟩) xs.length cap] 24)) s1
            have y0 := F.head
            have y1 := F.tail.head
            have zy1 := F.tail.headF
            have x0 := F.tail.tail.head
            have x1 := F.tail.tail.tail.head
            have q0 := F.tail.tail.tail.tail.head
            have q1 := F.tail.tail.tail.tail.tail.head
            have q2 := F.tail.tail.tail.tail.tail.tail.head
            have q3 := F.tail.tail.tail.tail.tail.tail.tail.head
            have q4 := F.tail.tail.tail.tail.tail.tail.tail.tail.head
            have q5 := F.tail.tail.tail.tail.tail.tail.tail.tail.tail.head
            have zq5 := F.tail.tail.tail.tail.tail.tail.tail.tail.tail.headF
            have q6 := F.tail.tail.tail.tail.tail.tail.tail.tail.tail.tail.head
            have zq6 := F.tail.tail.tail.tail.tail.tail.tail.tail.tail.tail.headF
            go_wp2_with fail
            generalize w5.alloc (Obj.cells #[Value.int .i64 k, Value.slice (some ⟨g, 0, none⟩) xs.length cap] 24) = zB at *
            generalize w5.heap.size = gB at *
            refine (delf1 _ g xs cap s (w.heap.size + 1) _ hn hO q2 (by omega) HIN.out).mono ?_
            rintro e w6 ⟨rfl, hO6, hG⟩
            have hza := HZA.out
            have hgAB : gA ≠ gB := by omega
            have hgBA : gB ≠ gA := by omega
            have F6 := F.grown hG (by simp only [List.forall_mem_cons, ne_eq, Option.some.injEq]; simp; omega)
            have K6 := below_grown K hG K.size (by intro q' hq'; cases hq'; have := K.size; omega)
            have t1 := Sl_grown s1 hG (fun b o e h => by have := hlt1.out b o e h; omega)
            clear y0 y1 x0 x1 q0 q1 q2 q3 q4 q5 q6 zq5 zq6 zy1 F K s1 hG hO
            obtain ⟨p7, c7, he7, t0⟩ := own_sl hO6
            have hcF := own_cap hO6
            cases he7
            clear hO6
            have y0 := F6.head
            have y1 := F6.tail.head
            have zy1 := F6.tail.headF
            have x0 := F6.tail.tail.head
            have x1 := F6.tail.tail.tail.head
            have q0 := F6.tail.tail.tail.tail.head
            have q1 := F6.tail.tail.tail.tail.tail.head
            have q2 := F6.tail.tail.tail.tail.tail.tail.head
            have q3 := F6.tail.tail.tail.tail.tail.tail.tail.head
            have q4 := F6.tail.tail.tail.tail.tail.tail.tail.tail.head
            have q5 := F6.tail.tail.tail.tail.tail.tail.tail.tail.tail.head
            have zq5 := F6.tail.tail.tail.tail.tail.tail.tail.tail.tail.headF
            have q6 := F6.tail.tail.tail.tail.tail.tail.tail.tail.tail.tail.head
            have zq6 := F6.tail.tail.tail.tail.tail.tail.tail.tail.tail.tail.headF
            go_wp2_with fail
            have t2 := Sl_set (a := ⟨gB, 1, none⟩) (x := .slice (some ⟨g, 0, none⟩) (rmN s xs).length cap) t0 (fun b o e _ => by cases e; show g ≠ gB; omega)
            have t3 := Sl_set (a := ⟨gB, 1, none⟩) (x := .slice (some ⟨g, 0, none⟩) (rmN s xs).length cap) t1 (fun b o e h => by have := hlt1.out b o e h; show b ≠ gB; omega)
            have K7 := K6.setCell (p := ⟨gB, 1, none⟩) (by show w.heap.size ≤ gB; omega) (.slice (some ⟨g, 0, none⟩) (rmN s xs).length cap)
            have F7 := Cl.far (a := ⟨gB, 1, none⟩) (x := .slice (some ⟨g, 0, none⟩) (rmN s xs).length cap) F6.tail.tail.tail.tail (by simp only [List.forall_mem_cons]; simp; omega)
            clear y0 y1 x0 x1 q0 q1 q2 q3 q4 q5 q6 zq5 zq6 zy1 F6 K6 t0 t1
            generalize w6.setCell ⟨gB, 1, none⟩ (.slice (some ⟨g, 0, none⟩) (rmN s xs).length cap) = w7 at *
            have hML := RML.out
            have hYL := SCL1.out
            have CA := add1f k (some ⟨g, 0, none⟩) (rmN s xs) cap K1 q1x Y1 c1x w7 (by omega) (by omega) hcF hc1 (Lib.hid t2) (Lib.hid t3) RMB (Lib.hid SCB1.out.1) k1 k2 SCB1.out.2.1 SCB1.out.2.2
            rw [HR0.out] at CA
            unfold LRf at CA
            unfold Lv at CA
            clear t2 t3
            refine CA.mono ?_
            rintro e w8 ⟨q2x, c2x, rfl, s2, hfr, hb⟩
            have hw7 : w.heap.size + 1 + 1 + 1 < w7.heap.size := lt_of_cell F7.tail.tail.tail.tail.tail.head
            have F := F7.below hb
            have K := K7.trans (hb.mono K7.size)
            clear F7 K7 hb CA
            have q0 := F.head
            have q1 := F.tail.head
            have q2 := F.tail.tail.head
            have q3 := F.tail.tail.tail.head
            have q4 := F.tail.tail.tail.tail.head
            have q5 := F.tail.tail.tail.tail.tail.head
            have zq5 := F.tail.tail.tail.tail.tail.headF
            have q6 := F.tail.tail.tail.tail.tail.tail.head
            have zq6 := F.tail.tail.tail.tail.tail.tail.headF
            go_wp2
            exact bodyPost_ret (v := .tuple #[.agg #[.int .i64 R.1, .slice q2x R.2.1.length c2x], .int .i64 R.2.2]) (by simp [results, Try.results17, go_sem, q5, q6, zq5, zq6]) rfl ⟨q2x, c2x, rfl, Sl_set2 s2 (fun b o e _ => by have := hfr b o e; omega), below2 K (by omega) _ _⟩
          · have e1 : (er == 0) = false := beq_false_of_ne her
            have e2 : (er != 0) = true := by rw [bne, e1]; rfl
            have HR := Lib.hid (show R = (0, [], er) by rw [← HR0.out, if_neg her])
            clear her HR0
            replace F := Cl.cons (b := wn.heap.size) (o := 0) (v := .int .i64 K1) (by go_cell) (by first | go_cell | simp) (Cl.cons (b := wn.heap.size) (o := 1) (v := .slice q1x Y1.length c1x) (by go_cell) (by first | go_cell | simp) (F.below ((Below.refl _ _).alloc (Nat.le_refl _) (Obj.cells #[Value.int .i64 K1, Value.slice q1x Y1.length c1x] 24))))
            replace K := K.alloc K.size (Obj.cells #[Value.int .i64 K1, Value.slice q1x Y1.length c1x] 24)
            replace s1 := SlM.keep ((Below.refl wn.heap.size wn).alloc (Nat.le_refl _) (Obj.cells #[Value.int .i64 K1, Value.slice q1x Y1.length c1x] 24)) s1
            have x0 := F.head
            have x1 := F.tail.head
            have q0 := F.tail.tail.head
            have q1 := F.tail.tail.tail.head
            have q2 := F.tail.tail.tail.tail.head
            have q3 := F.tail.tail.tail.tail.tail.head
            have q4 := F.tail.tail.tail.tail.tail.tail.head
            have q5 := F.tail.tail.tail.tail.tail.tail.tail.head
            have zq5 := F.tail.tail.tail.tail.tail.tail.tail.headF
            have q6 := F.tail.tail.tail.tail.tail.tail.tail.tail.head
            have zq6 := F.tail.tail.tail.tail.tail.tail.tail.tail.headF
            go_wp2
            exact bodyPost_ret (v := .tuple #[.agg #[.int .i64 0, .slice none 0 0], .int .i64 er]) (by simp [results, Try.results17, go_sem, q5, q6, zq5, zq6]) rfl (by rw [HR.out]; exact LR.zero rfl (below2 K (by omega) _ _))
end Go.Proofs.Ythdeaneffnlffaa.Ln
