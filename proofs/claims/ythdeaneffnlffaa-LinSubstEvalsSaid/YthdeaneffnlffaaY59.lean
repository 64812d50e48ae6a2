/- Linear forms: the statement on the value of a substituted form. -/
import Derived.Test.YthdeaneffnlffaaY58
import Derived.Test.YthdeaneffnlffaaY6
import Derived.Deep.Cut
import Derived.Deep.CutRange
namespace Go.Proofs.Ythdeaneffnlffaa.Ln
open Go.ChangeShapes Go.WideShapes Go.ChangeAt Go.RowKit
set_option linter.unusedVariables false
set_option linter.unusedSimpArgs false
open Go.Proofs.Ythdeaneffnlffaa.Nm
theorem Sl_over {u : World} {q : Option Addr} {xs : List Mo} {g : Nat} {n : Int} {a : Option Addr} {m c : Nat} {x y : Value} (h : SlM u q xs) (h0 : u.cell? ⟨g, 0, none⟩ = some (.int .i64 n)) (h1 : u.cell? ⟨g, 1, none⟩ = some (.slice a m c)) : SlM ((u.setCell ⟨g, 0, none⟩ x).setCell ⟨g, 1, none⟩ y) q xs := fun i hi => by
  obtain ⟨b, o, rfl, c0, c1⟩ := h i hi
  refine ⟨b, o, rfl, ?_⟩
  by_cases hb : b = g
  · subst hb
    have n0 : o + i * 2 ≠ 0 := fun e => by rw [e, h0] at c0; cases c0
    have n1 : o + i * 2 ≠ 1 := fun e => by rw [e, h1] at c0; cases c0
    have n2 : o + i * 2 + 1 ≠ 0 := by omega
    have n3 : o + i * 2 + 1 ≠ 1 := by omega
    constructor
    · rw [World.cell?_setCell_other _ _ _ _ (by intro e; injection e with _ e2 _; omega), World.cell?_setCell_other _ _ _ _ (by intro e; injection e with _ e2 _; omega)]; exact c0
    · rw [World.cell?_setCell_other _ _ _ _ (by intro e; injection e with _ e2 _; omega), World.cell?_setCell_other _ _ _ _ (by intro e; injection e with _ e2 _; omega)]; exact c1
  · constructor
    · rw [World.cell?_setCell_far _ _ _ _ (fun e => hb e.symm), World.cell?_setCell_far _ _ _ _ (fun e => hb e.symm)]; exact c0
    · rw [World.cell?_setCell_far _ _ _ _ (fun e => hb e.symm), World.cell?_setCell_far _ _ _ _ (fun e => hb e.symm)]; exact c1
theorem var_sl {u : World} {g : Nat} {s : ByteArray} (h0 : u.cell? ⟨g, 0, none⟩ = some (.string s)) (h1 : u.cell? ⟨g, 1, none⟩ = some (.int .i64 1)) : SlM u (some ⟨g, 0, none⟩) [(s, 1)] := fun i hi => by
  obtain rfl : i = 0 := by simp at hi; omega
  exact ⟨g, 0, rfl, h0, h1⟩
theorem own_slE {w : World} {E : TypeId} {base : Nat} {v : Value} {l : List Mo} (h : w.ownsRow base E 2 v l.length (moCs l)) : ∃ p c, v = .slice p l.length c ∧ SlM w p l := by
  obtain ⟨h1, h2⟩ := h
  rcases h2 with ⟨rfl, hn⟩ | ⟨g, cap, cur, rfl, hb, hh, hc, hm, hs, ht⟩
  · exact ⟨none, 0, by rw [hn], fun i hi => absurd hi (by omega)⟩
  · refine ⟨some ⟨g, 0, none⟩, cap, rfl, fun i hi => ⟨g, 0, rfl, ?_⟩⟩
    have hO : w.ownsRow base E 2 (.slice (some ⟨g, 0, none⟩) l.length cap) l.length (moCs l) := ⟨h1, .inr ⟨g, cap, cur, rfl, hb, hh, hc, hm, hs, ht⟩⟩
    obtain ⟨c1, c2⟩ := moCs_get l i hi
    have d1 := hO.cells (g := g) rfl _ _ c1
    have d2 := hO.cells (g := g) rfl _ _ c2
    rw [addr_add] at d1 d2
    exact ⟨by rw [Nat.zero_add]; exact d1, by rw [Nat.zero_add]; exact d2⟩
theorem sl_cells {w : World} {b o : Nat} {l : List Mo} (h : SlM w (some ⟨b, o, none⟩) l) : ∀ j u, (moCs l)[j]? = some u → w.cell? ((⟨b, o, none⟩ : Addr).add j) = some u := fun j u hj => by
  have hjl : j < l.length * 2 := by
    rcases Nat.lt_or_ge j (moCs l).length with h' | h'
    · rwa [moCs_len] at h'
    · rw [List.getElem?_eq_none h'] at hj; cases hj
  have hadd : (⟨b, o, none⟩ : Addr).add j = ⟨b, o + j, none⟩ := by
    unfold Addr.add
    split <;> simp_all
  rw [hadd]
  obtain ⟨b', o', e, c0, c1⟩ := h (j / 2) (by omega)
  cases e
  obtain ⟨d0, d1⟩ := moCs_get l (j / 2) (by omega)
  by_cases hp : j % 2 = 0
  · rw [show j / 2 * 2 = j by omega] at c0 d0
    rw [d0] at hj
    rw [c0]
    exact hj
  · rw [show j / 2 * 2 + 1 = j by omega] at d1
    rw [show o + j / 2 * 2 + 1 = o + j by omega] at c1
    rw [d1] at hj
    rw [c1]
    exact hj
theorem mo_one (l : List Mo) : ∀ u ∈ moCs l, u.oneCell' = true := fun u hu => by
  unfold moCs at hu
  obtain ⟨m, _, hm⟩ := List.mem_flatMap.1 hu
  unfold moC at hm
  simp at hm
  rcases hm with rfl | rfl <;> rfl
theorem run_append_of_nil {P : Program} {w : World} (base : Nat) (t ty e : TypeId) (i : TypeInfo) (size : Nat) (ht : P.underlying t = some (.slice e)) (hi : P.info? e = some i)
    (v : Value) (n : Nat) (xs : List Value) (hown : w.ownsRow base e size v n xs) (c : Nat) : (Builtin.append_ #[t, t] ty #[v, .slice none 0 c]).run P w = .ok v w := by
  rcases hown.2 with ⟨rfl, rfl⟩ | ⟨g, cap, cur, rfl, _, _, hnc, _⟩
  · simp [Builtin.append_, run_underlying ht, sizeOf, typeInfo, hi, Builtin.lenOf, Builtin.firstCells]
  · simp [Builtin.append_, run_underlying ht, sizeOf, typeInfo, hi, Builtin.lenOf, Builtin.firstCells, hnc, storeCells]
theorem wpList_append_sl {P : Program} (w : World) {ops : Array Oper} {rest : List Oper} {o : Oper} {a : Act} {Q : Exit → Act → World → Prop} (hgd : o.guard = none) (s x : Operand) (t : TypeId)
    (ho : o.op = .call { callee := .builtin .append, args := #[s, x], argTypes := #[t, t] })
    (base : Nat) (e : TypeId) (i : TypeInfo) (z : Value) (bytes : Nat) (ht : P.underlying t = some (.slice e)) (hi : P.info? e = some i) (hz : i.zero = some z)
    (hsize : i.size = 2) (hby : i.bytes = bytes) (hzs : z.cells.size = 2)
    (v : Value) (n : Nat) (xs : List Value) (hs : a.eval s = v) (hown : w.ownsRow base e 2 v n xs)
    (A : Option Addr) (es : List Mo) (c : Nat) (hx : a.eval x = .slice A es.length c) (hr : SlM w A es)
    (h63 : n + es.length ≤ maxLen) (hbytes : (n + es.length) * bytes ≤ 140737488355328) (hbase : base ≤ w.heap.size)
    (h : ∀ v' w', w'.ownsRow base e 2 v' (n + es.length) (xs ++ moCs es) → w.grownBy w' v.ownBlock → wpList P ops Q rest (a.put o.dst v') w') : wpList P ops Q (o :: rest) a w := by
  by_cases he : es = []
  · subst he
    rcases A with _ | ad
    · refine wpList_plain hgd fun K hK => ?_
      have hr := run_append_of_nil (w := w) base t o.type e i 2 ht hi v n xs hown c
      unfold Oper.wp execOp
      simp only [ho, resolve, invoke, builtin, Sem.run_bind, Sem.run_pure, Result.andThen_ok, List.map_toArray, List.map_cons, List.map_nil, hs, hx, List.length_nil, hr]
      exact hK _ _ (h v w (by simpa [moCs] using hown) ⟨rfl, rfl, rfl, Nat.le_refl _, fun _ _ _ => rfl⟩)
    · exact wpList_append_own w hgd s x t ho base e i z 2 bytes ht hi hz hsize hby hzs (by decide) v n xs hs hown ad 0 c [] hx rfl (fun j u hj => by simp at hj) (fun u hu => by simp at hu) h63 hbytes hbase (fun v' w' h1 h2 _ => h v' w' h1 h2)
  · rcases A with _ | ⟨b, o', sp⟩
    · obtain ⟨b, o', e, _⟩ := hr 0 (by cases es with | nil => exact absurd rfl he | cons => simp)
      cases e
    · obtain ⟨b1, o1, e, _⟩ := hr 0 (by cases es with | nil => exact absurd rfl he | cons => simp)
      cases e
      exact wpList_append_own w hgd s x t ho base _ i z 2 bytes ht hi hz hsize hby hzs (by decide) v n xs hs hown ⟨b, o', none⟩ es.length c (moCs es) hx (moCs_len es) (sl_cells hr) (mo_one es) h63 hbytes hbase (fun v' w' h1 h2 _ => h v' w' h1 h2)
theorem infoBi : (Try.prog.info? 53).map (fun i => (i.zero, i.size, i.bytes)) = some (some (.agg #[.string ⟨#[]⟩, .int .i64 0]), 2, 24) := by kernel_rfl
theorem nm_i : nmB (⟨#[105]⟩ : ByteArray) = true := by decide +kernel
theorem sub_bd {k k' : Int} {xs ys V : List Mo} {s : ByteArray} (hV : SubN k xs s k' ys V)
    (bx : ∀ i, i < xs.length → (xs.getD i mo0).1.size ≤ maxLen ∧ -9223372036854775808 ≤ (xs.getD i mo0).2 ∧ (xs.getD i mo0).2 ≤ 9223372036854775807) (bY : ∀ i, i < ys.length → (ys.getD i mo0).1.size ≤ maxLen ∧ -9223372036854775808 ≤ (ys.getD i mo0).2 ∧ (ys.getD i mo0).2 ≤ 9223372036854775807) :
    ∀ i, i < V.length → (V.getD i mo0).1.size ≤ maxLen ∧ -9223372036854775808 ≤ (V.getD i mo0).2 ∧ (V.getD i mo0).2 ≤ 9223372036854775807 :=
  bd_get fun z hz => by
    have h2 := hV.bd z hz
    refine ⟨?_, by omega, by omega⟩
    rcases hV.nm z hz with h | h
    · obtain ⟨x, q1, q2⟩ := List.mem_map.1 (rm_mem.1 h).1; rw [← q2]; exact mem_sz bx x q1
    · obtain ⟨x, q1, q2⟩ := List.mem_map.1 h; rw [← q2]; exact mem_sz bY x q1
set_option maxRecDepth 100000 in
set_option maxHeartbeats 64000000 in
theorem law_substEvals (k : Int) (p : Option Addr) (xs : List Mo) (c : Nat) (k' : Int) (q : Option Addr) (ys : List Mo) (d : Nat) (r : Option Addr) (es : List Mo) (f : Nat) (w : World)
    (hk : -9223372036854775808 ≤ k ∧ k ≤ 9223372036854775807) (hc : xs.length ≤ c) (hm : c ≤ maxLen) (RA : Hid (SlM w p xs)) (hx : ∀ z ∈ xs, z.1.size ≤ maxLen ∧ (-9223372036854775808 ≤ z.2 ∧ z.2 ≤ 9223372036854775807))
    (hk' : -9223372036854775808 ≤ k' ∧ k' ≤ 9223372036854775807) (hd : ys.length ≤ d) (hm' : d ≤ maxLen) (RB : Hid (SlM w q ys)) (hy : ∀ z ∈ ys, z.1.size ≤ maxLen ∧ (-9223372036854775808 ≤ z.2 ∧ z.2 ≤ 9223372036854775807))
    (hf : es.length ≤ f) (hm'' : f ≤ maxLen) (RE : Hid (SlM w r es)) (he : ∀ z ∈ es, z.1.size ≤ maxLen ∧ (-9223372036854775808 ≤ z.2 ∧ z.2 ≤ 9223372036854775807)) :
    Calls Try.prog 9 #[.agg #[.int .i64 k, .slice p xs.length c], .agg #[.int .i64 k', .slice q ys.length d], .slice r es.length f] w fun e w' => e = .returned (.bool true) ∧ Below w.heap.size w w' := by
  have EX := Lib.hid alive
  have RS := Lib.hid (bd_get hx)
  have RT := Lib.hid (bd_get hy)
  have RU := Lib.hid (bd_get he)
  have hel : es.length ≤ maxLen := Nat.le_trans hf hm''
  have HEM := Lib.hid he
  have N1 := Lib.hid fun w R => nearLin1 k p xs c w (Nat.le_trans hc hm) R
  have N2 := Lib.hid fun w R => nearLin1 k' q ys d w (Nat.le_trans hd hm') R
  have N3 := Lib.hid fun w R => nearEnv1 r es f w hel R
  have V1 := Lib.hid fun w R => val2 k p xs c w (Nat.le_trans hc hm) R (Lib.hid fun i hi => (RS.out i hi).1)
  have V2 := Lib.hid fun w R => val2 k' q ys d w (Nat.le_trans hd hm') R (Lib.hid fun i hi => (RT.out i hi).1)
  have CV := Lib.hid fun w => var1_ok (⟨#[105]⟩ : ByteArray) w (by unfold maxLen; decide) nm_i
  have S1 := Lib.hid fun (hl : xs.length ≤ 1000) gv cv w (R : Hid (SlM w p xs)) (R' : Hid (SlM w (some ⟨gv, 0, none⟩) [((⟨#[105]⟩ : ByteArray), 1)])) => (show Calls Try.prog 17 #[Lv k p xs.length c, .string (⟨#[105]⟩ : ByteArray), .agg #[.int .i64 0, .slice (some ⟨gv, 0, none⟩) 1 cv]] w (LR (subR k xs (⟨#[105]⟩ : ByteArray) 0 [((⟨#[105]⟩ : ByteArray), 1)]).1 (subR k xs (⟨#[105]⟩ : ByteArray) 0 [((⟨#[105]⟩ : ByteArray), 1)]).2.1 (subR k xs (⟨#[105]⟩ : ByteArray) 0 [((⟨#[105]⟩ : ByteArray), 1)]).2.2 w) from sub1 k p xs c (⟨#[105]⟩ : ByteArray) 0 (some ⟨gv, 0, none⟩) [((⟨#[105]⟩ : ByteArray), 1)] cv w hl (by decide) (by unfold maxLen; decide) R R' RS (Lib.hid (bd_get fun z hz => by rw [List.mem_singleton] at hz; subst hz; exact ⟨by unfold maxLen; decide, by show (-9223372036854775808 : Int) ≤ 1 ∧ (1 : Int) ≤ 9223372036854775807; decide⟩)) hk.1 hk.2 (by decide) (by decide))
  have S2 := Lib.hid fun (hl : xs.length ≤ 1000) (hl' : ys.length ≤ 1000) w R R' => sub1 k p xs c (⟨#[105]⟩ : ByteArray) k' q ys d w hl hl' (by unfold maxLen; decide) R R' RS RT hk.1 hk.2 hk'.1 hk'.2
  have E2 := Lib.hid fun (hl : ys.length ≤ 1000) w R R' => eval1 k' q ys d r es f w hl hel R R' RT RU hk'.1 hk'.2
  have E1 := Lib.hid fun (hl : xs.length ≤ 1000) q' (es' : List Mo) c' w (h1 : es'.length ≤ maxLen) R R' RU' => eval1 k p xs c q' es' c' w hl h1 R R' RS RU' hk.1 hk.2
  have E3 := Lib.hid fun kn q1 (zs : List Mo) c1 w (hl : zs.length ≤ 1000) R R' RZ h1 h2 => eval1 kn q1 zs c1 r es f w hl hel R R' RZ RU h1 h2
  have EQ := Lib.hid fun K q1 (ys : List Mo) c1 q2 c2 w hl R1 R2 => linEq K q1 ys c1 q2 c2 w hl R1 R2
  have K : Below w.heap.size w ((w.alloc (Obj.cells #[Value.int .i64 k, Value.slice p xs.length c] 24)).alloc (Obj.cells #[Value.int .i64 k', Value.slice q ys.length d] 24)) := two_below _ _
  have F : Cl [(w.heap.size, 0, .int .i64 k), (w.heap.size, 1, .slice p xs.length c), (w.heap.size + 1, 0, .int .i64 k'), (w.heap.size + 1, 1, .slice q ys.length d)] ((w.alloc (Obj.cells #[Value.int .i64 k, Value.slice p xs.length c] 24)).alloc (Obj.cells #[Value.int .i64 k', Value.slice q ys.length d] 24)) := Cl.cons (by go_cell) (by first | go_cell | simp) (Cl.cons (by go_cell) (by first | go_cell | simp) (Cl.cons (by go_cell) (by first | go_cell | simp) (Cl.cons (by go_cell) (by first | go_cell | simp) (Cl.nil _))))
  obtain ⟨v1, hv1⟩ : ∃ v, nlB k xs = v := ⟨_, rfl⟩
  obtain ⟨v2, hv2⟩ : ∃ v, nlB k' ys = v := ⟨_, rfl⟩
  obtain ⟨v3, hv3⟩ : ∃ v, neB es = v := ⟨_, rfl⟩
  obtain ⟨o1, ho1⟩ : ∃ v, okL xs = v := ⟨_, rfl⟩
  obtain ⟨o2, ho2⟩ : ∃ v, okL ys = v := ⟨_, rfl⟩
  rw [hv1] at N1
  rw [hv2] at N2
  rw [hv3] at N3
  unfold vL at V1 V2
  rw [ho1] at V1
  rw [ho2] at V2
  have HH := Lib.hid (⟨hv1, hv2, hv3, ho1, ho2⟩ : nlB k xs = v1 ∧ nlB k' ys = v2 ∧ neB es = v3 ∧ okL xs = o1 ∧ okL ys = o2)
  clear hx hy he hc hd hf hm hm' hm'' hel hv1 hv2 hv3 ho1 ho2
  unfold LR at *
  unfold Lv at *
  go_enter Try.func9, Try.ntmps9
  go_wp2_with fail
  generalize ((w.alloc (Obj.cells #[Value.int .i64 k, Value.slice p xs.length c] 24)).alloc (Obj.cells #[Value.int .i64 k', Value.slice q ys.length d] 24)) = z at *
  have f0 := F.head
  have f1 := F.tail.head
  have h0 := F.tail.tail.head
  have h1 := F.tail.tail.tail.head
  refine (N1.out _ (RA.out.up K)).mono ?_
  rintro e wn ⟨rfl, hb⟩
  replace F := F.below hb
  replace K := K.trans (hb.mono K.size)
  clear hb
  clear f0 f1 h0 h1
  cases v1
  case false =>
    go_wp2_with fail
    refine (EX.out _).mono ?_
    rintro e wn ⟨rfl, hb⟩
    go_wp2
    go_ret
    exact ⟨rfl, K.trans (hb.mono K.size)⟩
  case true =>
    have f0 := F.head
    have f1 := F.tail.head
    have h0 := F.tail.tail.head
    have h1 := F.tail.tail.tail.head
    go_wp2_with fail
    refine (N2.out _ (RB.out.up K)).mono ?_
    rintro e wn ⟨rfl, hb⟩
    replace F := F.below hb
    replace K := K.trans (hb.mono K.size)
    clear hb
    clear f0 f1 h0 h1
    cases v2
    case false =>
      go_wp2_with fail
      refine (EX.out _).mono ?_
      rintro e wn ⟨rfl, hb⟩
      go_wp2
      go_ret
      exact ⟨rfl, K.trans (hb.mono K.size)⟩
    case true =>
      go_wp2_with fail
      refine (N3.out _ (RE.out.up K)).mono ?_
      rintro e wn ⟨rfl, rfl⟩
      cases v3
      case false =>
        go_wp2_with fail
        refine (EX.out _).mono ?_
        rintro e wn ⟨rfl, hb⟩
        go_wp2
        go_ret
        exact ⟨rfl, K.trans (hb.mono K.size)⟩
      case true =>
        have f0 := F.head
        have f1 := F.tail.head
        have h0 := F.tail.tail.head
        have h1 := F.tail.tail.tail.head
        go_wp2_with fail
        refine (V1.out _ (RA.out.up K)).mono ?_
        rintro e wn ⟨rfl, hb⟩
        replace F := F.below hb
        replace K := K.trans (hb.mono K.size)
        clear hb
        clear f0 f1 h0 h1
        cases o1
        case false =>
          simp only [Bool.false_eq_true, if_false] at *
          go_wp2_with fail
          refine (EX.out _).mono ?_
          rintro e wn ⟨rfl, hb⟩
          go_wp2
          go_ret
          exact ⟨rfl, K.trans (hb.mono K.size)⟩
        case true =>
          have f0 := F.head
          have f1 := F.tail.head
          have h0 := F.tail.tail.head
          have h1 := F.tail.tail.tail.head
          go_wp2_with fail
          refine (V2.out _ (RB.out.up K)).mono ?_
          rintro e wn ⟨rfl, hb⟩
          replace F := F.below hb
          replace K := K.trans (hb.mono K.size)
          clear hb
          clear f0 f1 h0 h1
          cases o2
          case false =>
            go_wp2_with fail
            refine (EX.out _).mono ?_
            rintro e wn ⟨rfl, hb⟩
            go_wp2
            go_ret
            exact ⟨rfl, K.trans (hb.mono K.size)⟩
          case true =>
            have hX := nlB_yes HH.out.1
            have hY := nlB_yes HH.out.2.1
            have hE := neB_yes HH.out.2.2.1
            have hxl : xs.length ≤ 40 := hX.1
            have hyl : ys.length ≤ 40 := hY.1
            have hesl : es.length ≤ 40 := hE.1
            have hkk := hX.2.1
            have hkk' := hY.2.1
            obtain ⟨V, hV⟩ := subR_near (s := (⟨#[105]⟩ : ByteArray)) HH.out.2.2.2.1 nm_i HH.out.2.2.2.2 hkk hkk' hX.2.2 hY.2.2
            have HSUB := Lib.hid hV
            have b1 := Lib.hid (subR_self (s := (⟨#[105]⟩ : ByteArray)) HH.out.2.2.2.1 nm_i hkk hX.2.2)
            have b2 := Lib.hid hV.eq
            have hby := co_near hX.2.2 (⟨#[105]⟩ : ByteArray)
            have hbk := mul_bd hby hkk'
            have hVl : V.length ≤ 80 := by have := hV.len; omega
            have b5 := Lib.hid (sub_bd hV RS.out RT.out)
            rw [b1.out] at S1
            rw [b2.out] at S2
            simp only at S1 S2
            obtain ⟨KS, hKS⟩ : ∃ S, k + co xs (⟨#[105]⟩ : ByteArray) * k' = S := ⟨_, rfl⟩
            have hKb : -2199023255552 ≤ KS ∧ KS ≤ 2199023255552 := by omega
            have HS := Lib.hid fun v a b m => EV_subst (es := es) (v := v) (a := a) (b := b) (m := m) HSUB.out
            rw [hKS] at S2 HS
            clear hV hX hY hE b1 b2 hKS hby hbk HH HSUB
            have CS := Lib.hid (S1.out (by omega))
            clear S1
            go_upto_region 3 with fail
            have FX := F.sub (L' := [(w.heap.size, 0, .int .i64 k), (w.heap.size, 1, .slice p xs.length c)]) (by intro x hx; simp only [List.mem_cons, List.not_mem_nil, or_false] at hx ⊢; rcases hx with h | h <;> simp [h])
            have RZ := Lib.hid (SlM.keep K RA.out)
            go_cut [7, 8] from 42 to 47 (fun p7 e8 wx => ∃ (g8 : Nat) (q1 : Option Addr) (c1 : Nat), p7 = .pointer (some ⟨g8, 0, none⟩) ∧ e8 = .int .i64 0 ∧ Below wn.heap.size wn wx ∧ Hid (SlM wx q1 xs) ∧ Hid (Cl [(g8, 0, .int .i64 k), (g8, 1, .slice q1 xs.length c1)] wx))
            case first =>
              replace FX := FX.drew
              have KX : Below wn.heap.size wn wn.drew := (Below.refl _ _).drew
              clear F K
              have hz9 : wn.drew.cell? ⟨w.heap.size, 0, none⟩ = some (.int .i64 k) ∧ wn.drew.cell? ⟨w.heap.size, 1, none⟩ = some (.slice p xs.length c) := ⟨(FX w.heap.size 0 (.int .i64 k) (by simp)).1, (FX w.heap.size 1 (.slice p xs.length c) (by simp)).1⟩
              refine Rk.begin (S := fun wS => wS.cell? ⟨w.heap.size, 0, none⟩ = some (.int .i64 k) ∧ wS.cell? ⟨w.heap.size, 1, none⟩ = some (.slice p xs.length c)) 7 (by kernel_rfl) hz9 (fun hHeld => ?_)
              refine Rk.take [7] (i := 0) (v := ?_) rfl (by kernel_rfl) (by kernel_rfl) (by kernel_rfl) (by kernel_rfl) (by kernel_rfl) (fun _ _ _ h => h) (Or.inl ⟨by kernel_rfl, ?_⟩) (by assumption) ?_
              rotate_left
              · ((intro w hSw; (try dsimp only at hSw); go_simp) <;> with_reducible rfl)
              try simp only [Act.put, List.setIfInBounds_toArray, List.set_cons_zero, List.set_cons_succ]
              refine Rk.two (i := 1) (j := 6) (by kernel_rfl) rfl rfl (fun KK hK => ?_) (fun KK hK => ?_)
              · rw [if_pos (by kernel_rfl)]
                go_simp
                ((with_reducible refine (CV.out wn.drew).mono ?_); rintro e uV ⟨gv, cv, rfl, v0, v1, hbV⟩)
                have HV := Lib.hid (var_sl v0 v1)
                replace FX := FX.below hbV
                replace KX := KX.trans (hbV.mono KX.size)
                refine hK.out _ _ ⟨(FX w.heap.size 0 (.int .i64 k) (by simp)).1, (FX w.heap.size 1 (.slice p xs.length c) (by simp)).1⟩ (fun hHeld => ?_)
                clear hbV v0 v1
                clear hK KK
                refine Rk.two (i := 2) (j := 6) (by kernel_rfl) rfl rfl (fun KK hK => ?_) (fun KK hK => ?_)
                · rw [if_pos (by kernel_rfl)]
                  go_simp
                  have RZ2 := Lib.hid (SlM.keep KX RZ.out)
                  ((with_reducible refine (CS.out gv cv uV RZ2 HV).mono ?_); rintro e uS ⟨q1, c1, rfl, s1, hbS⟩)
                  replace s1 := Lib.hid s1
                  replace FX := FX.below hbS
                  replace KX := KX.trans (hbS.mono KX.size)
                  refine hK.out _ _ ⟨(FX w.heap.size 0 (.int .i64 k) (by simp)).1, (FX w.heap.size 1 (.slice p xs.length c) (by simp)).1⟩ (fun hHeld => ?_)
                  clear hbS RZ2 HV
                  clear hK KK
                  refine Rk.takeP (i := 3) (v := ?_) rfl (by kernel_rfl) (by kernel_rfl) (by kernel_rfl) (by kernel_rfl) (fun _ _ _ h => h) (Or.inl ⟨by kernel_rfl, ?_⟩) (by assumption) ?_
                  rotate_left
                  · ((intro w hSw; go_simp) <;> with_reducible rfl)
                  try simp only [Act.put, List.setIfInBounds_toArray, List.set_cons_zero, List.set_cons_succ]
                  refine Rk.takeP (i := 4) (v := ?_) rfl (by kernel_rfl) (by kernel_rfl) (by kernel_rfl) (by kernel_rfl) (fun _ _ _ h => h) (Or.inl ⟨by kernel_rfl, ?_⟩) (by assumption) ?_
                  rotate_left
                  · ((intro w hSw; go_simp) <;> with_reducible rfl)
                  try simp only [Act.put, List.setIfInBounds_toArray, List.set_cons_zero, List.set_cons_succ]
                  refine Rk.takeP (i := 5) (v := ?_) rfl (by kernel_rfl) (by kernel_rfl) (by kernel_rfl) (by kernel_rfl) (fun _ _ _ h => h) (Or.inl ⟨by kernel_rfl, ?_⟩) (by assumption) ?_
                  rotate_left
                  · ((intro w hSw; go_simp) <;> with_reducible rfl)
                  try simp only [Act.put, List.setIfInBounds_toArray, List.set_cons_zero, List.set_cons_succ]
                  refine Rk.one (i := 6) (by kernel_rfl) rfl (fun KK hK => ?_)
                  rw [if_pos (by kernel_rfl)]
                  go_simp
                  have BA : Below uS.heap.size uS (uS.alloc (Obj.cells #[Value.int .i64 0, Value.slice none 0 0] 24)) := (Below.refl uS.heap.size uS).alloc (Nat.le_refl _) (Obj.cells #[Value.int .i64 0, Value.slice none 0 0] 24)
                  replace FX := Cl.cons (u := (uS.alloc (Obj.cells #[Value.int .i64 0, Value.slice none 0 0] 24))) (b := uS.heap.size) (o := 0) (v := .int .i64 0) (by go_cell) (by first | go_cell | simp) (Cl.cons (b := uS.heap.size) (o := 1) (v := .slice none 0 0) (by go_cell) (by first | go_cell | simp) (FX.below BA))
                  have hg8 : wn.heap.size ≤ uS.heap.size := KX.size
                  replace KX := KX.trans (BA.mono KX.size)
                  replace s1 := Lib.hid (SlM.keep BA s1.out)
                  refine hK.out _ _ ⟨(FX w.heap.size 0 (.int .i64 k) (by simp)).1, (FX w.heap.size 1 (.slice p xs.length c) (by simp)).1⟩ (fun hHeld => ?_)
                  clear hK KK BA
                  generalize (uS.alloc (Obj.cells #[Value.int .i64 0, Value.slice none 0 0] 24)) = uA at *
                  generalize uS.heap.size = g8 at *
                  have hK : True := trivial
                  have KK : True := trivial
                  clear hK KK
                  refine Rk.tail [7, 8] [_, _] (by kernel_rfl) (by kernel_rfl) rfl (by decide) ?_
                  have e0 := (FX g8 0 (.int .i64 0) (by simp)).1
                  have e1 := (FX g8 1 (.slice none 0 0) (by simp)).1
                  have ze0 := (FX g8 0 (.int .i64 0) (by simp)).2
                  have ze1 := (FX g8 1 (.slice none 0 0) (by simp)).2
                  clear hHeld FX
                  go_wp2_with fail
                  go_meet
                  exact ⟨g8, q1, c1, rfl, rfl, below2 KX hg8 _ _, Lib.hid (Sl_over s1.out e0 e1), Lib.hid (Cl.cons (by go_cell) (by first | go_cell | simp [World.frozen?_setCell, ze0]) (Cl.cons (by go_cell) (by first | go_cell | simp [World.frozen?_setCell, ze1]) (Cl.nil _)))⟩
                · rw [if_pos (by kernel_rfl)]
                  go_simp
                  have BA : Below uV.heap.size uV (uV.alloc (Obj.cells #[Value.int .i64 0, Value.slice none 0 0] 24)) := (Below.refl uV.heap.size uV).alloc (Nat.le_refl _) (Obj.cells #[Value.int .i64 0, Value.slice none 0 0] 24)
                  replace FX := Cl.cons (u := (uV.alloc (Obj.cells #[Value.int .i64 0, Value.slice none 0 0] 24))) (b := uV.heap.size) (o := 0) (v := .int .i64 0) (by go_cell) (by first | go_cell | simp) (Cl.cons (b := uV.heap.size) (o := 1) (v := .slice none 0 0) (by go_cell) (by first | go_cell | simp) (FX.below BA))
                  have hg8 : wn.heap.size ≤ uV.heap.size := KX.size
                  replace KX := KX.trans (BA.mono KX.size)
                  replace HV := Lib.hid (SlM.keep BA HV.out)
                  refine hK.out _ _ ⟨(FX w.heap.size 0 (.int .i64 k) (by simp)).1, (FX w.heap.size 1 (.slice p xs.length c) (by simp)).1⟩ (fun hHeld => ?_)
                  clear hK KK BA
                  generalize (uV.alloc (Obj.cells #[Value.int .i64 0, Value.slice none 0 0] 24)) = uA at *
                  generalize uV.heap.size = g8 at *
                  have hK : True := trivial
                  have KK : True := trivial
                  clear hK KK
                  refine Rk.one (i := 2) (by kernel_rfl) rfl (fun KK hK => ?_)
                  rw [if_pos (by kernel_rfl)]
                  go_simp
                  have RZ2 := Lib.hid (SlM.keep KX RZ.out)
                  ((with_reducible refine (CS.out gv cv uA RZ2 HV).mono ?_); rintro e uS ⟨q1, c1, rfl, s1, hbS⟩)
                  replace s1 := Lib.hid s1
                  replace FX := FX.below hbS
                  replace KX := KX.trans (hbS.mono KX.size)
                  refine hK.out _ _ ⟨(FX w.heap.size 0 (.int .i64 k) (by simp)).1, (FX w.heap.size 1 (.slice p xs.length c) (by simp)).1⟩ (fun hHeld => ?_)
                  clear hbS RZ2 HV
                  clear hK KK
                  refine Rk.takeP (i := 3) (v := ?_) rfl (by kernel_rfl) (by kernel_rfl) (by kernel_rfl) (by kernel_rfl) (fun _ _ _ h => h) (Or.inl ⟨by kernel_rfl, ?_⟩) (by assumption) ?_
                  rotate_left
                  · ((intro w hSw; go_simp) <;> with_reducible rfl)
                  try simp only [Act.put, List.setIfInBounds_toArray, List.set_cons_zero, List.set_cons_succ]
                  refine Rk.takeP (i := 4) (v := ?_) rfl (by kernel_rfl) (by kernel_rfl) (by kernel_rfl) (by kernel_rfl) (fun _ _ _ h => h) (Or.inl ⟨by kernel_rfl, ?_⟩) (by assumption) ?_
                  rotate_left
                  · ((intro w hSw; go_simp) <;> with_reducible rfl)
                  try simp only [Act.put, List.setIfInBounds_toArray, List.set_cons_zero, List.set_cons_succ]
                  refine Rk.takeP (i := 5) (v := ?_) rfl (by kernel_rfl) (by kernel_rfl) (by kernel_rfl) (by kernel_rfl) (fun _ _ _ h => h) (Or.inl ⟨by kernel_rfl, ?_⟩) (by assumption) ?_
                  rotate_left
                  · ((intro w hSw; go_simp) <;> with_reducible rfl)
                  try simp only [Act.put, List.setIfInBounds_toArray, List.set_cons_zero, List.set_cons_succ]
                  refine Rk.tail [7, 8] [_, _] (by kernel_rfl) (by kernel_rfl) rfl (by decide) ?_
                  have e0 := (FX g8 0 (.int .i64 0) (by simp)).1
                  have e1 := (FX g8 1 (.slice none 0 0) (by simp)).1
                  have ze0 := (FX g8 0 (.int .i64 0) (by simp)).2
                  have ze1 := (FX g8 1 (.slice none 0 0) (by simp)).2
                  clear hHeld FX
                  go_wp2_with fail
                  go_meet
                  exact ⟨g8, q1, c1, rfl, rfl, below2 KX hg8 _ _, Lib.hid (Sl_over s1.out e0 e1), Lib.hid (Cl.cons (by go_cell) (by first | go_cell | simp [World.frozen?_setCell, ze0]) (Cl.cons (by go_cell) (by first | go_cell | simp [World.frozen?_setCell, ze1]) (Cl.nil _)))⟩
              · rw [if_pos (by kernel_rfl)]
                go_simp
                have BA : Below wn.drew.heap.size wn.drew (wn.alloc (Obj.cells #[Value.int .i64 0, Value.slice none 0 0] 24)).drew := below_undrew (((Below.refl wn.heap.size wn).alloc (Nat.le_refl _) (Obj.cells #[Value.int .i64 0, Value.slice none 0 0] 24)).drew)
                replace FX := Cl.cons (u := (wn.alloc (Obj.cells #[Value.int .i64 0, Value.slice none 0 0] 24)).drew) (b := wn.heap.size) (o := 0) (v := .int .i64 0) (by go_cell) (by first | go_cell | simp) (Cl.cons (b := wn.heap.size) (o := 1) (v := .slice none 0 0) (by go_cell) (by first | go_cell | simp) (FX.below BA))
                have hg8 : wn.heap.size ≤ wn.heap.size := KX.size
                replace KX := KX.trans (BA.mono KX.size)
                refine hK.out _ _ ⟨(FX w.heap.size 0 (.int .i64 k) (by simp)).1, (FX w.heap.size 1 (.slice p xs.length c) (by simp)).1⟩ (fun hHeld => ?_)
                clear hK KK BA
                generalize (wn.alloc (Obj.cells #[Value.int .i64 0, Value.slice none 0 0] 24)).drew = uA at *
                have hK : True := trivial
                have KK : True := trivial
                clear hK KK
                refine Rk.one (i := 1) (by kernel_rfl) rfl (fun KK hK => ?_)
                rw [if_pos (by kernel_rfl)]
                go_simp
                ((with_reducible refine (CV.out uA).mono ?_); rintro e uV ⟨gv, cv, rfl, v0, v1, hbV⟩)
                have HV := Lib.hid (var_sl v0 v1)
                replace FX := FX.below hbV
                replace KX := KX.trans (hbV.mono KX.size)
                refine hK.out _ _ ⟨(FX w.heap.size 0 (.int .i64 k) (by simp)).1, (FX w.heap.size 1 (.slice p xs.length c) (by simp)).1⟩ (fun hHeld => ?_)
                clear hbV v0 v1
                clear hK KK
                refine Rk.one (i := 2) (by kernel_rfl) rfl (fun KK hK => ?_)
                rw [if_pos (by kernel_rfl)]
                go_simp
                have RZ2 := Lib.hid (SlM.keep KX RZ.out)
                ((with_reducible refine (CS.out gv cv uV RZ2 HV).mono ?_); rintro e uS ⟨q1, c1, rfl, s1, hbS⟩)
                replace s1 := Lib.hid s1
                replace FX := FX.below hbS
                replace KX := KX.trans (hbS.mono KX.size)
                refine hK.out _ _ ⟨(FX w.heap.size 0 (.int .i64 k) (by simp)).1, (FX w.heap.size 1 (.slice p xs.length c) (by simp)).1⟩ (fun hHeld => ?_)
                clear hbS RZ2 HV
                clear hK KK
                refine Rk.takeP (i := 3) (v := ?_) rfl (by kernel_rfl) (by kernel_rfl) (by kernel_rfl) (by kernel_rfl) (fun _ _ _ h => h) (Or.inl ⟨by kernel_rfl, ?_⟩) (by assumption) ?_
                rotate_left
                · ((intro w hSw; go_simp) <;> with_reducible rfl)
                try simp only [Act.put, List.setIfInBounds_toArray, List.set_cons_zero, List.set_cons_succ]
                refine Rk.takeP (i := 4) (v := ?_) rfl (by kernel_rfl) (by kernel_rfl) (by kernel_rfl) (by kernel_rfl) (fun _ _ _ h => h) (Or.inl ⟨by kernel_rfl, ?_⟩) (by assumption) ?_
                rotate_left
                · ((intro w hSw; go_simp) <;> with_reducible rfl)
                try simp only [Act.put, List.setIfInBounds_toArray, List.set_cons_zero, List.set_cons_succ]
                refine Rk.takeP (i := 5) (v := ?_) rfl (by kernel_rfl) (by kernel_rfl) (by kernel_rfl) (by kernel_rfl) (fun _ _ _ h => h) (Or.inl ⟨by kernel_rfl, ?_⟩) (by assumption) ?_
                rotate_left
                · ((intro w hSw; go_simp) <;> with_reducible rfl)
                try simp only [Act.put, List.setIfInBounds_toArray, List.set_cons_zero, List.set_cons_succ]
                refine Rk.tail [7, 8] [_, _] (by kernel_rfl) (by kernel_rfl) rfl (by decide) ?_
                have e0 := (FX wn.heap.size 0 (.int .i64 0) (by simp)).1
                have e1 := (FX wn.heap.size 1 (.slice none 0 0) (by simp)).1
                have ze0 := (FX wn.heap.size 0 (.int .i64 0) (by simp)).2
                have ze1 := (FX wn.heap.size 1 (.slice none 0 0) (by simp)).2
                clear hHeld FX
                go_wp2_with fail
                go_meet
                exact ⟨wn.heap.size, q1, c1, rfl, rfl, below2 KX hg8 _ _, Lib.hid (Sl_over s1.out e0 e1), Lib.hid (Cl.cons (by go_cell) (by first | go_cell | simp [World.frozen?_setCell, ze0]) (Cl.cons (by go_cell) (by first | go_cell | simp [World.frozen?_setCell, ze1]) (Cl.nil _)))⟩
            case rest =>
              obtain ⟨g8, q1, c1, rfl, rfl, KB, s1, FB⟩ := hcut
              clear FX RZ CS CV
              replace F : Cl ([(g8, 0, .int .i64 k), (g8, 1, .slice q1 xs.length c1), (w.heap.size, 0, .int .i64 k), (w.heap.size, 1, .slice p xs.length c), (w.heap.size + 1, 0, .int .i64 k'), (w.heap.size + 1, 1, .slice q ys.length d)]) wc := Cl.append FB.out (F.below KB)
              replace K := K.trans (KB.mono K.size)
              clear KB FB
              replace s1 := s1.out
              have x0 := F.head
              have x1 := F.tail.head
              have f0 := F.tail.tail.head
              have f1 := F.tail.tail.tail.head
              have h0 := F.tail.tail.tail.tail.head
              have h1 := F.tail.tail.tail.tail.tail.head
              go_wp2_with fail
              refine (S2.out (by omega) (by omega) _ (RA.out.up K) (RB.out.up K)).mono ?_
              rintro e wn ⟨q2, c2, rfl, s2, hb⟩
              replace F := F.below hb
              replace K := K.trans (hb.mono K.size)
              replace s1 := SlM.keep hb s1
              clear hb
              clear x0 x1 f0 f1 h0 h1
              replace F := Cl.cons (b := wn.heap.size) (o := 0) (v := .int .i64 KS) (by go_cell) (by first | go_cell | simp) (Cl.cons (b := wn.heap.size) (o := 1) (v := .slice q2 V.length c2) (by go_cell) (by first | go_cell | simp) (F.below ((Below.refl _ _).alloc (Nat.le_refl _) (Obj.cells #[Value.int .i64 KS, Value.slice q2 V.length c2] 24))))
              replace K := K.alloc K.size (Obj.cells #[Value.int .i64 KS, Value.slice q2 V.length c2] 24)
              replace s1 := SlM.keep ((Below.refl wn.heap.size wn).alloc (Nat.le_refl _) (Obj.cells #[Value.int .i64 KS, Value.slice q2 V.length c2] 24)) s1
              replace s2 := SlM.keep ((Below.refl wn.heap.size wn).alloc (Nat.le_refl _) (Obj.cells #[Value.int .i64 KS, Value.slice q2 V.length c2] 24)) s2
              have y0 := F.head
              have y1 := F.tail.head
              have x0 := F.tail.tail.head
              have x1 := F.tail.tail.tail.head
              have f0 := F.tail.tail.tail.tail.head
              have f1 := F.tail.tail.tail.tail.tail.head
              have h0 := F.tail.tail.tail.tail.tail.tail.head
              have h1 := F.tail.tail.tail.tail.tail.tail.tail.head
              go_wp2_with fail
              generalize wn.alloc (Obj.cells #[Value.int .i64 KS, Value.slice q2 V.length c2] 24) = zB at *
              generalize wn.heap.size = gB at *
              refine (EQ.out _ _ _ _ _ _ _ (by unfold maxLen; omega) (Lib.hid s1) (RA.out.up K)).mono ?_
              rintro e wn ⟨rfl, hb⟩
              replace F := F.below hb
              replace K := K.trans (hb.mono K.size)
              replace s2 := SlM.keep hb s2
              clear hb
              clear y0 y1 x0 x1 f0 f1 h0 h1
              clear s1
              have y0 := F.head
              have y1 := F.tail.head
              have x0 := F.tail.tail.head
              have x1 := F.tail.tail.tail.head
              have f0 := F.tail.tail.tail.tail.head
              have f1 := F.tail.tail.tail.tail.tail.head
              have h0 := F.tail.tail.tail.tail.tail.tail.head
              have h1 := F.tail.tail.tail.tail.tail.tail.tail.head
              go_wp2_with fail
              refine (E2.out (by omega) _ (RB.out.up K) (RE.out.up K)).mono ?_
              rintro e wn ⟨v, i2, rfl, hE2, hb⟩
              replace F := F.below hb
              replace K := K.trans (hb.mono K.size)
              replace s2 := SlM.keep hb s2
              clear hb
              clear y0 y1 x0 x1 f0 f1 h0 h1
              have HE2 := Lib.hid hE2
              clear hE2
              have y0 := F.head
              have y1 := F.tail.head
              have x0 := F.tail.tail.head
              have x1 := F.tail.tail.tail.head
              have f0 := F.tail.tail.tail.tail.head
              have f1 := F.tail.tail.tail.tail.tail.head
              have h0 := F.tail.tail.tail.tail.tail.tail.head
              have h1 := F.tail.tail.tail.tail.tail.tail.tail.head
              by_cases hi2 : i2 = 0
              · subst hi2
                obtain ⟨v4, hv4⟩ : ∃ b, nr v = b := ⟨_, rfl⟩
                have CN := near1 v
                rw [hv4] at CN
                have CN := Lib.hid CN
                have HV4 := Lib.hid hv4
                clear hv4
                go_wp2_with fail
                refine (CN.out _).mono ?_
                rintro e wq ⟨rfl, rfl⟩
                cases v4
                · skip
                  go_wp2_with fail
                  refine (EX.out _).mono ?_
                  rintro e wn ⟨rfl, hb⟩
                  go_wp2
                  go_ret
                  exact ⟨rfl, K.trans (hb.mono K.size)⟩
                · have hvn := nr_iff.1 HV4.out
                  obtain ⟨i0, hi, hz0, hz1, hz2⟩ := info_parts infoBi
                  have hown0 : (wn.alloc (Obj.cells #[Value.string (⟨#[105]⟩ : ByteArray), Value.int .i64 v] 53)).ownsRow wn.heap.size 53 2 (.slice (some ⟨wn.heap.size, 0, none⟩) 1 1) 1 [.string (⟨#[105]⟩ : ByteArray), .int .i64 v] := World.ownsRow_lit wn #[.string (⟨#[105]⟩ : ByteArray), .int .i64 v] 1 (Nat.le_refl _) (by unfold maxLen; decide) rfl
                  have BW := (Below.refl wn.heap.size wn).alloc (Nat.le_refl _) (Obj.cells #[Value.string (⟨#[105]⟩ : ByteArray), Value.int .i64 v] 53)
                  have RE2 := SlM.keep BW (SlM.keep K RE.out)
                  have HZ := Lib.hid hz2
                  clear hz2
                  skip
                  go_wp2_with (((at_builtin); (refine wpList_append_sl _ rfl _ _ 35 rfl wn.heap.size 53 i0 (.agg #[.string ⟨#[]⟩, .int .i64 0]) 24 Try.underlying35 hi hz0 hz1 HZ.out rfl _ _ _ rfl hown0 r es f rfl RE2 (by unfold maxLen; omega) (by omega) (by simp) ?_); (intro v' w5 hown' hgrow); (replace hgrow : (wn.alloc (Obj.cells #[Value.string (⟨#[105]⟩ : ByteArray), Value.int .i64 v] 53)).grownBy w5 (some wn.heap.size) := hgrow); (rw [show 1 + es.length = (((⟨#[105]⟩ : ByteArray), v) :: es).length by rw [List.length_cons]; omega] at hown'); (obtain ⟨qw, cw, rfl, s5⟩ := own_slE hown'); (have l0 := lt_of_cell y0); (have l1 := lt_of_cell x0); (have l2 := lt_of_cell f0); (have l3 := lt_of_cell h0); (have F5 := (F.below BW).grown hgrow (by simp only [List.forall_mem_cons, ne_eq, Option.some.injEq]; simp; omega)); (have t2 := Sl_grown (SlM.keep BW s2) hgrow (fun b o e h => by have := Sl_lt s2 b o e h; omega)); (have K5 := below_grown (K.trans (BW.mono K.size)) hgrow (K.trans (BW.mono K.size)).size (by intro q' hq'; cases hq'; exact K.size)); (clear F K s2 hgrow hown' hown0 BW RE2 hi hz0 hz1 l0 l1 l2 l3 y0 y1 x0 x1 f0 f1 h0 h1); (have F := F5); (have K := K5); (have s2 := t2); (clear F5 K5 t2); (have y0 := F.head); (have y1 := F.tail.head); (have x0 := F.tail.tail.head); (have x1 := F.tail.tail.tail.head); (have f0 := F.tail.tail.tail.tail.head); (have f1 := F.tail.tail.tail.tail.tail.head); (have h0 := F.tail.tail.tail.tail.tail.tail.head); (have h1 := F.tail.tail.tail.tail.tail.tail.tail.head)))
                  have RW := Lib.hid (bd_get (xs := (((⟨#[105]⟩ : ByteArray), v) :: es)) fun z hz => by
                    rcases List.mem_cons.1 hz with rfl | hz
                    · exact ⟨by show (1 : Nat) ≤ maxLen; unfold maxLen; decide, by omega⟩
                    · exact HEM.out z hz)
                  have C9 := E1.out (by omega) qw (((⟨#[105]⟩ : ByteArray), v) :: es) cw w5 (by unfold maxLen; rw [List.length_cons]; omega) (RA.out.up K) (Lib.hid s5) RW
                  replace C9 := Lib.hid C9
                  refine (C9.out).mono ?_
                  rintro e wn ⟨a, i1, rfl, hE1, hb⟩
                  replace F := F.below hb
                  replace K := K.trans (hb.mono K.size)
                  replace s2 := SlM.keep hb s2
                  clear hb
                  clear y0 y1 x0 x1 f0 f1 h0 h1
                  have HE1 := Lib.hid hE1
                  clear hE1
                  have y0 := F.head
                  have y1 := F.tail.head
                  have x0 := F.tail.tail.head
                  have x1 := F.tail.tail.tail.head
                  have f0 := F.tail.tail.tail.tail.head
                  have f1 := F.tail.tail.tail.tail.tail.head
                  have h0 := F.tail.tail.tail.tail.tail.tail.head
                  have h1 := F.tail.tail.tail.tail.tail.tail.tail.head
                  by_cases hi1 : i1 = 0
                  · subst hi1
                    have hE3 := Lib.hid (HS.out v a · · HE2.out HE1.out)
                    clear HE1 HE2 HS
                    go_wp2_with fail
                    refine (E3.out KS q2 V c2 _ (by omega) (Lib.hid s2) (RE.out.up K) b5 (by omega) (by omega)).mono ?_
                    rintro e wn ⟨b, m, rfl, hx, hb⟩
                    replace F := F.below hb
                    replace K := K.trans (hb.mono K.size)
                    clear hb
                    clear y0 y1 x0 x1 f0 f1 h0 h1
                    obtain ⟨rfl, rfl⟩ := hE3.out b m hx
                    clear hE3 hx
                    go_wp2_with fail
                    refine (EX.out _).mono ?_
                    rintro e wn ⟨rfl, hb⟩
                    go_wp2
                    go_ret
                    exact ⟨rfl, K.trans (hb.mono K.size)⟩
                  · have e1 : (i1 == 0) = false := beq_false_of_ne hi1
                    have e2 : (i1 != 0) = true := by rw [bne, e1]; rfl
                    clear hi1
                    go_wp2_with fail
                    refine (EX.out _).mono ?_
                    rintro e wn ⟨rfl, hb⟩
                    go_wp2
                    go_ret
                    exact ⟨rfl, K.trans (hb.mono K.size)⟩
              · have e1 : (i2 == 0) = false := beq_false_of_ne hi2
                have e2 : (i2 != 0) = true := by rw [bne, e1]; rfl
                clear hi2
                go_wp2_with fail
                refine (EX.out _).mono ?_
                rintro e wn ⟨rfl, hb⟩
                go_wp2
                go_ret
                exact ⟨rfl, K.trans (hb.mono K.size)⟩
end Go.Proofs.Ythdeaneffnlffaa.Ln
