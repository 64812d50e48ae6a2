/- Linear forms: the statement on the value of a sum. -/
import Derived.Test.YthdeaneffnlffaaY47
import Derived.Test.YthdeaneffnlffaaY49
namespace Go.Proofs.Ythdeaneffnlffaa.Ln
open Go.ChangeShapes Go.WideShapes Go.ChangeAt Go.RowKit
set_option linter.unusedVariables false
set_option linter.unusedSimpArgs false
theorem ng_near {xs : List Mo} (h : ∀ m ∈ xs, -1048576 ≤ m.2 ∧ m.2 ≤ 1048576) : ∀ m ∈ ngL xs, -1048576 ≤ m.2 ∧ m.2 ≤ 1048576 := fun m hm => by
  obtain ⟨x, h1, rfl⟩ := List.mem_map.1 hm
  have := h x h1
  simp only
  omega
theorem mem_sz {xs : List Mo} (hb : ∀ i, i < xs.length → (xs.getD i mo0).1.size ≤ maxLen ∧ -9223372036854775808 ≤ (xs.getD i mo0).2 ∧ (xs.getD i mo0).2 ≤ 9223372036854775807) : ∀ m ∈ xs, m.1.size ≤ maxLen := fun m hm => by
  obtain ⟨j, hj, rfl⟩ := List.getElem_of_mem hm
  have := hb j hj
  rw [show xs.getD j mo0 = xs[j] by unfold List.getD; rw [List.getElem?_eq_getElem hj]; rfl] at this
  exact this.1
theorem ng_bd {xs : List Mo} (h : ∀ m ∈ xs, -1048576 ≤ m.2 ∧ m.2 ≤ 1048576) (hb : ∀ i, i < xs.length → (xs.getD i mo0).1.size ≤ maxLen ∧ -9223372036854775808 ≤ (xs.getD i mo0).2 ∧ (xs.getD i mo0).2 ≤ 9223372036854775807) :
    ∀ i, i < (ngL xs).length → ((ngL xs).getD i mo0).1.size ≤ maxLen ∧ -9223372036854775808 ≤ ((ngL xs).getD i mo0).2 ∧ ((ngL xs).getD i mo0).2 ≤ 9223372036854775807 :=
  bd_get fun z hz => by
    have h2 := ng_near h z hz
    obtain ⟨x, h1, rfl⟩ := List.mem_map.1 hz
    refine ⟨mem_sz hb x h1, by omega, by omega⟩
theorem sum_bd {xs ys : List Mo} (hx : ∀ m ∈ xs, -1048576 ≤ m.2 ∧ m.2 ≤ 1048576) (hy : ∀ m ∈ ys, -1048576 ≤ m.2 ∧ m.2 ≤ 1048576)
    (bx : ∀ i, i < xs.length → (xs.getD i mo0).1.size ≤ maxLen ∧ -9223372036854775808 ≤ (xs.getD i mo0).2 ∧ (xs.getD i mo0).2 ≤ 9223372036854775807) (bY : ∀ i, i < ys.length → (ys.getD i mo0).1.size ≤ maxLen ∧ -9223372036854775808 ≤ (ys.getD i mo0).2 ∧ (ys.getD i mo0).2 ≤ 9223372036854775807) :
    ∀ i, i < ((mg xs ys).filter fun m => m.2 != 0).length → (((mg xs ys).filter fun m => m.2 != 0).getD i mo0).1.size ≤ maxLen ∧ -9223372036854775808 ≤ (((mg xs ys).filter fun m => m.2 != 0).getD i mo0).2 ∧ (((mg xs ys).filter fun m => m.2 != 0).getD i mo0).2 ≤ 9223372036854775807 :=
  bd_get fun z hz => by
    rw [List.mem_filter] at hz
    have h2 := mg_bd 1048576 1048576 (by decide) (by decide) xs ys hx hy z hz.1
    refine ⟨?_, by omega, by omega⟩
    rcases (mg_mem z.1 xs ys).1 (List.mem_map_of_mem hz.1) with h | h
    · obtain ⟨x, q1, q2⟩ := List.mem_map.1 h; rw [← q2]; exact mem_sz bx x q1
    · obtain ⟨x, q1, q2⟩ := List.mem_map.1 h; rw [← q2]; exact mem_sz bY x q1
set_option maxRecDepth 100000 in
set_option maxHeartbeats 32000000 in
theorem law_sumEvals (k : Int) (p : Option Addr) (xs : List Mo) (c : Nat) (k' : Int) (q : Option Addr) (ys : List Mo) (d : Nat) (r : Option Addr) (es : List Mo) (f : Nat) (w : World)
    (hk : -9223372036854775808 ≤ k ∧ k ≤ 9223372036854775807) (hc : xs.length ≤ c) (hm : c ≤ maxLen) (RA : Hid (SlM w p xs)) (hx : ∀ z ∈ xs, z.1.size ≤ maxLen ∧ (-9223372036854775808 ≤ z.2 ∧ z.2 ≤ 9223372036854775807))
    (hk' : -9223372036854775808 ≤ k' ∧ k' ≤ 9223372036854775807) (hd : ys.length ≤ d) (hm' : d ≤ maxLen) (RB : Hid (SlM w q ys)) (hy : ∀ z ∈ ys, z.1.size ≤ maxLen ∧ (-9223372036854775808 ≤ z.2 ∧ z.2 ≤ 9223372036854775807))
    (hf : es.length ≤ f) (hm'' : f ≤ maxLen) (RE : Hid (SlM w r es)) (he : ∀ z ∈ es, z.1.size ≤ maxLen ∧ (-9223372036854775808 ≤ z.2 ∧ z.2 ≤ 9223372036854775807)) :
    Calls Try.prog 8 #[.agg #[.int .i64 k, .slice p xs.length c], .agg #[.int .i64 k', .slice q ys.length d], .slice r es.length f] w fun e w' => e = .returned (.bool true) ∧ Below w.heap.size w w' := by
  have EX := Lib.hid alive
  have RS := Lib.hid (bd_get hx)
  have RT := Lib.hid (bd_get hy)
  have RU := Lib.hid (bd_get he)
  have hel : es.length ≤ maxLen := Nat.le_trans hf hm''
  have N1 := Lib.hid fun w R => nearLin1 k p xs c w (Nat.le_trans hc hm) R
  have N2 := Lib.hid fun w R => nearLin1 k' q ys d w (Nat.le_trans hd hm') R
  have N3 := Lib.hid fun w R => nearEnv1 r es f w hel R
  have V1 := Lib.hid fun w R => val2 k p xs c w (Nat.le_trans hc hm) R (Lib.hid fun i hi => (RS.out i hi).1)
  have V2 := Lib.hid fun w R => val2 k' q ys d w (Nat.le_trans hd hm') R (Lib.hid fun i hi => (RT.out i hi).1)
  have A1 := Lib.hid fun (hl : xs.length ≤ 1000) (hl' : ys.length ≤ 1000) w R R' => add1 k p xs c k' q ys d w hl hl' hc hd R R' RS RT hk.1 hk.2 hk'.1 hk'.2
  have A2 := Lib.hid fun (hl : xs.length ≤ 1000) (hl' : ys.length ≤ 1000) w R R' => add1 k' q ys d k p xs c w hl' hl hd hc R R' RT RS hk'.1 hk'.2 hk.1 hk.2
  have SC := Lib.hid fun (hl : xs.length ≤ 1000) w R => scale1c k p xs c (-1) w hl R RS hk.1 hk.2 (by decide) (by decide)
  have A3 := Lib.hid fun kn q1 (zs : List Mo) c1 w (hl : xs.length ≤ 1000) (hl' : zs.length ≤ 1000) hc1 R R' RZ h1 h2 => add1 k p xs c kn q1 zs c1 w hl hl' hc hc1 R R' RS RZ hk.1 hk.2 h1 h2
  have E1 := Lib.hid fun (hl : xs.length ≤ 1000) w R R' => eval1 k p xs c r es f w hl hel R R' RS RU hk.1 hk.2
  have E2 := Lib.hid fun (hl : ys.length ≤ 1000) w R R' => eval1 k' q ys d r es f w hl hel R R' RT RU hk'.1 hk'.2
  have E3 := Lib.hid fun kn q1 (zs : List Mo) c1 w (hl : zs.length ≤ 1000) R R' RZ h1 h2 => eval1 kn q1 zs c1 r es f w hl hel R R' RZ RU h1 h2
  have EQ := Lib.hid fun K q1 (ys : List Mo) c1 q2 c2 w hl R1 R2 => linEq K q1 ys c1 q2 c2 w hl R1 R2
  have K : Below w.heap.size w ((w.alloc (Obj.cells #[Value.int .i64 k, Value.slice p xs.length c] 24)).alloc (Obj.cells #[Value.int .i64 k', Value.slice q ys.length d] 24)) := two_below _ _
  have F : Cl [(w.heap.size, 0, .int .i64 k), (w.heap.size, 1, .slice p xs.length c), (w.heap.size + 1, 0, .int .i64 k'), (w.heap.size + 1, 1, .slice q ys.length d)] ((w.alloc (Obj.cells #[Value.int .i64 k, Value.slice p xs.length c] 24)).alloc (Obj.cells #[Value.int .i64 k', Value.slice q ys.length d] 24)) := Cl.cons (by go_cell) (by first | go_cell | simp) (Cl.cons (by go_cell) (by first | go_cell | simp) (Cl.cons (by go_cell) (by first | go_cell | simp) (Cl.cons (by go_cell) (by first | go_cell | simp) (Cl.nil _))))
  obtain ⟨v1, hv1⟩ : ∃ v, nlB k xs = v := ⟨_, rfl⟩
  obtain ⟨v2, hv2⟩ : ∃ v, nlB k' ys = v := ⟨_, rfl⟩
  obtain ⟨v3, hv3⟩ : ∃ v, neB es = v := ⟨_, rfl⟩
  obtain ⟨o1, ho1⟩ : ∃ v, okL xs = v := ⟨_, rfl⟩
  obtain ⟨o2, ho2⟩ : ∃ v, okL ys = v := ⟨_, rfl⟩
  rw [hv1] at N1
  rw [hv2] at N2
  rw [hv3] at N3
  unfold vL at V1 V2
  rw [ho1] at V1
  rw [ho2] at V2
  have HH := Lib.hid (⟨hv1, hv2, hv3, ho1, ho2⟩ : nlB k xs = v1 ∧ nlB k' ys = v2 ∧ neB es = v3 ∧ okL xs = o1 ∧ okL ys = o2)
  have HC := Lib.hid (⟨hc, hd, hf⟩ : xs.length ≤ c ∧ ys.length ≤ d ∧ es.length ≤ f)
  clear hx hy he hc hd hf hm hm' hm'' hel hv1 hv2 hv3 ho1 ho2
  unfold LR LRc at *
  unfold Lv at *
  go_enter Try.func8, Try.ntmps8
  go_wp2_with fail
  generalize ((w.alloc (Obj.cells #[Value.int .i64 k, Value.slice p xs.length c] 24)).alloc (Obj.cells #[Value.int .i64 k', Value.slice q ys.length d] 24)) = z at *
  have f0 := F.head
  have f1 := F.tail.head
  have h0 := F.tail.tail.head
  have h1 := F.tail.tail.tail.head
  skip
  refine (N1.out _ (RA.out.up K)).mono ?_
  rintro e wn ⟨rfl, hb⟩
  replace F := F.below hb
  replace K := K.trans (hb.mono K.size)
  clear hb
  clear f0 f1 h0 h1
  cases v1
  case false =>
    go_wp2_with fail
    refine (EX.out _).mono ?_
    rintro e wn ⟨rfl, hb⟩
    go_wp2
    go_ret
    exact ⟨rfl, K.trans (hb.mono K.size)⟩
  case true =>
    have f0 := F.head
    have f1 := F.tail.head
    have h0 := F.tail.tail.head
    have h1 := F.tail.tail.tail.head
    go_wp2_with fail
    refine (N2.out _ (RB.out.up K)).mono ?_
    rintro e wn ⟨rfl, hb⟩
    replace F := F.below hb
    replace K := K.trans (hb.mono K.size)
    clear hb
    clear f0 f1 h0 h1
    cases v2
    case false =>
      go_wp2_with fail
      refine (EX.out _).mono ?_
      rintro e wn ⟨rfl, hb⟩
      go_wp2
      go_ret
      exact ⟨rfl, K.trans (hb.mono K.size)⟩
    case true =>
      go_wp2_with fail
      refine (N3.out _ (RE.out.up K)).mono ?_
      rintro e wn ⟨rfl, rfl⟩
      cases v3
      case false =>
        go_wp2_with fail
        refine (EX.out _).mono ?_
        rintro e wn ⟨rfl, hb⟩
        go_wp2
        go_ret
        exact ⟨rfl, K.trans (hb.mono K.size)⟩
      case true =>
        have f0 := F.head
        have f1 := F.tail.head
        have h0 := F.tail.tail.head
        have h1 := F.tail.tail.tail.head
        go_wp2_with fail
        refine (V1.out _ (RA.out.up K)).mono ?_
        rintro e wn ⟨rfl, hb⟩
        replace F := F.below hb
        replace K := K.trans (hb.mono K.size)
        clear hb
        clear f0 f1 h0 h1
        cases o1
        case false =>
          simp only [Bool.false_eq_true, if_false] at *
          go_wp2_with fail
          refine (EX.out _).mono ?_
          rintro e wn ⟨rfl, hb⟩
          go_wp2
          go_ret
          exact ⟨rfl, K.trans (hb.mono K.size)⟩
        case true =>
          have f0 := F.head
          have f1 := F.tail.head
          have h0 := F.tail.tail.head
          have h1 := F.tail.tail.tail.head
          go_wp2_with fail
          refine (V2.out _ (RB.out.up K)).mono ?_
          rintro e wn ⟨rfl, hb⟩
          replace F := F.below hb
          replace K := K.trans (hb.mono K.size)
          clear hb
          clear f0 f1 h0 h1
          cases o2
          case false =>
            go_wp2_with fail
            refine (EX.out _).mono ?_
            rintro e wn ⟨rfl, hb⟩
            go_wp2
            go_ret
            exact ⟨rfl, K.trans (hb.mono K.size)⟩
          case true =>
            have hX := nlB_yes HH.out.1
            have hY := nlB_yes HH.out.2.1
            have hE := neB_yes HH.out.2.2.1
            have hxl : xs.length ≤ 40 := hX.1
            have hyl : ys.length ≤ 40 := hY.1
            have hkk := hX.2.1
            have hkk' := hY.2.1
            have hXs := Lib.hid hX.2.2
            have hYs := Lib.hid hY.2.2
            have b1 := Lib.hid (adR_in 1048576 (by decide) (by decide) HH.out.2.2.2.1 HH.out.2.2.2.2 hkk hkk' hXs.out hYs.out)
            have b2 := Lib.hid ((adR_in 1048576 (by decide) (by decide) HH.out.2.2.2.2 HH.out.2.2.2.1 hkk' hkk hYs.out hXs.out).trans (by rw [mg_comm, Int.add_comm] : _ = (k + k', (mg xs ys).filter fun m => m.2 != 0, (0 : Int))))
            have b3 := Lib.hid (sclR_neg HH.out.2.2.2.1 hkk hXs.out)
            have b4 := Lib.hid ((adR_in (k := k) (k' := -k) (ys := ngL xs) 1048576 (by decide) (by decide) HH.out.2.2.2.1 (okL_ng HH.out.2.2.2.1) hkk (by omega) hXs.out (ng_near hXs.out)).trans (by rw [mg_ng, Int.add_right_neg] : _ = ((0 : Int), ([] : List Mo), (0 : Int))))
            have b5 := Lib.hid (sum_bd hXs.out hYs.out RS.out RT.out)
            have b6 := Lib.hid fun u v w m => EV_sum (u := u) (v := v) (w := w) (m := m) HH.out.1 HH.out.2.1 HH.out.2.2.1
            have b7 : ((mg xs ys).filter fun m => m.2 != 0).length ≤ 80 := Nat.le_trans (List.length_filter_le _ _) (Nat.le_trans (mg_len _ _) (by omega))
            have b8 := Lib.hid (ng_bd hXs.out RS.out)
            have b9 : (ngL xs).length = xs.length := by unfold ngL; rw [List.length_map]
            rw [b1.out] at A1
            rw [b2.out] at A2
            rw [b3.out] at SC
            simp only at A1 A2 SC
            generalize ((mg xs ys).filter fun m => m.2 != 0) = V at *
            replace A3 := Lib.hid (A3.out (-k) · (ngL xs))
            rw [b4.out] at A3
            simp only at A3
            generalize ngL xs = G at *
            have hGl : G.length ≤ 40 := by omega
            clear b9 hX hY hE HH
            replace HC := HC
            obtain ⟨S, hS⟩ : ∃ S, k + k' = S := ⟨_, rfl⟩
            rw [hS] at A1 A2 b6
            have hSb : -2097152 ≤ S ∧ S ≤ 2097152 := by omega
            have HS := Lib.hid hS
            clear hS b1 b2 b3 b4
            have f0 := F.head
            have f1 := F.tail.head
            have h0 := F.tail.tail.head
            have h1 := F.tail.tail.tail.head
            go_wp2_with fail
            refine (A1.out (by omega) (by omega) _ (RA.out.up K) (RB.out.up K)).mono ?_
            rintro e wn ⟨q1, c1, rfl, s1, hb⟩
            replace F := F.below hb
            replace K := K.trans (hb.mono K.size)
            clear hb
            clear f0 f1 h0 h1
            replace F := Cl.cons (b := wn.heap.size) (o := 0) (v := .int .i64 S) (by go_cell) (by first | go_cell | simp) (Cl.cons (b := wn.heap.size) (o := 1) (v := .slice q1 V.length c1) (by go_cell) (by first | go_cell | simp) (F.below ((Below.refl _ _).alloc (Nat.le_refl _) (Obj.cells #[Value.int .i64 S, Value.slice q1 V.length c1] 24))))
            replace K := K.alloc K.size (Obj.cells #[Value.int .i64 S, Value.slice q1 V.length c1] 24)
            replace s1 := SlM.keep ((Below.refl wn.heap.size wn).alloc (Nat.le_refl _) (Obj.cells #[Value.int .i64 S, Value.slice q1 V.length c1] 24)) s1
            have x0 := F.head
            have x1 := F.tail.head
            have f0 := F.tail.tail.head
            have f1 := F.tail.tail.tail.head
            have h0 := F.tail.tail.tail.tail.head
            have h1 := F.tail.tail.tail.tail.tail.head
            go_wp2_with fail
            generalize wn.alloc (Obj.cells #[Value.int .i64 S, Value.slice q1 V.length c1] 24) = zA at *
            generalize wn.heap.size = gA at *
            skip
            refine (A2.out (by omega) (by omega) _ (RB.out.up K) (RA.out.up K)).mono ?_
            rintro e wn ⟨q2, c2, rfl, s2, hb⟩
            replace F := F.below hb
            replace K := K.trans (hb.mono K.size)
            replace s1 := SlM.keep hb s1
            clear hb
            clear x0 x1 f0 f1 h0 h1
            replace F := Cl.cons (b := wn.heap.size) (o := 0) (v := .int .i64 S) (by go_cell) (by first | go_cell | simp) (Cl.cons (b := wn.heap.size) (o := 1) (v := .slice q2 V.length c2) (by go_cell) (by first | go_cell | simp) (F.below ((Below.refl _ _).alloc (Nat.le_refl _) (Obj.cells #[Value.int .i64 S, Value.slice q2 V.length c2] 24))))
            replace K := K.alloc K.size (Obj.cells #[Value.int .i64 S, Value.slice q2 V.length c2] 24)
            replace s1 := SlM.keep ((Below.refl wn.heap.size wn).alloc (Nat.le_refl _) (Obj.cells #[Value.int .i64 S, Value.slice q2 V.length c2] 24)) s1
            replace s2 := SlM.keep ((Below.refl wn.heap.size wn).alloc (Nat.le_refl _) (Obj.cells #[Value.int .i64 S, Value.slice q2 V.length c2] 24)) s2
            have y0 := F.head
            have y1 := F.tail.head
            have x0 := F.tail.tail.head
            have x1 := F.tail.tail.tail.head
            have f0 := F.tail.tail.tail.tail.head
            have f1 := F.tail.tail.tail.tail.tail.head
            have h0 := F.tail.tail.tail.tail.tail.tail.head
            have h1 := F.tail.tail.tail.tail.tail.tail.tail.head
            go_wp2_with fail
            generalize wn.alloc (Obj.cells #[Value.int .i64 S, Value.slice q2 V.length c2] 24) = zB at *
            generalize wn.heap.size = gB at *
            skip
            refine (SC.out (by omega) _ (RA.out.up K)).mono ?_
            rintro e wn ⟨q3, c3, rfl, s3, hc3, hb⟩
            replace F := F.below hb
            replace K := K.trans (hb.mono K.size)
            replace s1 := SlM.keep hb s1
            replace s2 := SlM.keep hb s2
            clear hb
            clear y0 y1 x0 x1 f0 f1 h0 h1
            replace F := Cl.cons (b := wn.heap.size) (o := 0) (v := .int .i64 (-k)) (by go_cell) (by first | go_cell | simp) (Cl.cons (b := wn.heap.size) (o := 1) (v := .slice q3 G.length c3) (by go_cell) (by first | go_cell | simp) (F.below ((Below.refl _ _).alloc (Nat.le_refl _) (Obj.cells #[Value.int .i64 (-k), Value.slice q3 G.length c3] 24))))
            replace K := K.alloc K.size (Obj.cells #[Value.int .i64 (-k), Value.slice q3 G.length c3] 24)
            replace s1 := SlM.keep ((Below.refl wn.heap.size wn).alloc (Nat.le_refl _) (Obj.cells #[Value.int .i64 (-k), Value.slice q3 G.length c3] 24)) s1
            replace s2 := SlM.keep ((Below.refl wn.heap.size wn).alloc (Nat.le_refl _) (Obj.cells #[Value.int .i64 (-k), Value.slice q3 G.length c3] 24)) s2
            replace s3 := SlM.keep ((Below.refl wn.heap.size wn).alloc (Nat.le_refl _) (Obj.cells #[Value.int .i64 (-k), Value.slice q3 G.length c3] 24)) s3
            have n0 := F.head
            have n1 := F.tail.head
            have y0 := F.tail.tail.head
            have y1 := F.tail.tail.tail.head
            have x0 := F.tail.tail.tail.tail.head
            have x1 := F.tail.tail.tail.tail.tail.head
            have f0 := F.tail.tail.tail.tail.tail.tail.head
            have f1 := F.tail.tail.tail.tail.tail.tail.tail.head
            have h0 := F.tail.tail.tail.tail.tail.tail.tail.tail.head
            have h1 := F.tail.tail.tail.tail.tail.tail.tail.tail.tail.head
            go_wp2_with fail
            generalize wn.alloc (Obj.cells #[Value.int .i64 (-k), Value.slice q3 G.length c3] 24) = zC at *
            generalize wn.heap.size = gC at *
            skip
            refine (A3.out q3 c3 _ (by omega) (by omega) (by omega) (RA.out.up K) (Lib.hid s3) b8 (by omega) (by omega)).mono ?_
            rintro e wn ⟨q4, c4, rfl, s4, hb⟩
            replace F := F.below hb
            replace K := K.trans (hb.mono K.size)
            replace s1 := SlM.keep hb s1
            replace s2 := SlM.keep hb s2
            clear hb
            clear n0 n1 y0 y1 x0 x1 f0 f1 h0 h1
            replace F := Cl.cons (b := wn.heap.size) (o := 0) (v := .int .i64 0) (by go_cell) (by first | go_cell | simp) (Cl.cons (b := wn.heap.size) (o := 1) (v := .slice q4 0 c4) (by go_cell) (by first | go_cell | simp) (F.below ((Below.refl _ _).alloc (Nat.le_refl _) (Obj.cells #[Value.int .i64 0, Value.slice q4 0 c4] 24))))
            replace K := K.alloc K.size (Obj.cells #[Value.int .i64 0, Value.slice q4 0 c4] 24)
            replace s1 := SlM.keep ((Below.refl wn.heap.size wn).alloc (Nat.le_refl _) (Obj.cells #[Value.int .i64 0, Value.slice q4 0 c4] 24)) s1
            replace s2 := SlM.keep ((Below.refl wn.heap.size wn).alloc (Nat.le_refl _) (Obj.cells #[Value.int .i64 0, Value.slice q4 0 c4] 24)) s2
            have z0 := F.head
            have z1 := F.tail.head
            have n0 := F.tail.tail.head
            have n1 := F.tail.tail.tail.head
            have y0 := F.tail.tail.tail.tail.head
            have y1 := F.tail.tail.tail.tail.tail.head
            have x0 := F.tail.tail.tail.tail.tail.tail.head
            have x1 := F.tail.tail.tail.tail.tail.tail.tail.head
            have f0 := F.tail.tail.tail.tail.tail.tail.tail.tail.head
            have f1 := F.tail.tail.tail.tail.tail.tail.tail.tail.tail.head
            have h0 := F.tail.tail.tail.tail.tail.tail.tail.tail.tail.tail.head
            have h1 := F.tail.tail.tail.tail.tail.tail.tail.tail.tail.tail.tail.head
            go_wp2_with fail
            generalize wn.alloc (Obj.cells #[Value.int .i64 0, Value.slice q4 0 c4] 24) = zD at *
            generalize wn.heap.size = gD at *
            skip
            refine (EQ.out _ _ _ _ _ _ _ (by unfold maxLen; omega) (Lib.hid s1) (Lib.hid s2)).mono ?_
            rintro e wn ⟨rfl, hb⟩
            replace F := F.below hb
            replace K := K.trans (hb.mono K.size)
            replace s1 := SlM.keep hb s1
            clear hb
            clear z0 z1 n0 n1 y0 y1 x0 x1 f0 f1 h0 h1
            have z0 := F.head
            have z1 := F.tail.head
            have n0 := F.tail.tail.head
            have n1 := F.tail.tail.tail.head
            have y0 := F.tail.tail.tail.tail.head
            have y1 := F.tail.tail.tail.tail.tail.head
            have x0 := F.tail.tail.tail.tail.tail.tail.head
            have x1 := F.tail.tail.tail.tail.tail.tail.tail.head
            have f0 := F.tail.tail.tail.tail.tail.tail.tail.tail.head
            have f1 := F.tail.tail.tail.tail.tail.tail.tail.tail.tail.head
            have h0 := F.tail.tail.tail.tail.tail.tail.tail.tail.tail.tail.head
            have h1 := F.tail.tail.tail.tail.tail.tail.tail.tail.tail.tail.tail.head
            go_wp2_with fail
            refine (E1.out (by omega) _ (RA.out.up K) (RE.out.up K)).mono ?_
            rintro e wn ⟨u, i1, rfl, hE1, hb⟩
            replace F := F.below hb
            replace K := K.trans (hb.mono K.size)
            replace s1 := SlM.keep hb s1
            clear hb
            clear z0 z1 n0 n1 y0 y1 x0 x1 f0 f1 h0 h1
            have z0 := F.head
            have z1 := F.tail.head
            have n0 := F.tail.tail.head
            have n1 := F.tail.tail.tail.head
            have y0 := F.tail.tail.tail.tail.head
            have y1 := F.tail.tail.tail.tail.tail.head
            have x0 := F.tail.tail.tail.tail.tail.tail.head
            have x1 := F.tail.tail.tail.tail.tail.tail.tail.head
            have f0 := F.tail.tail.tail.tail.tail.tail.tail.tail.head
            have f1 := F.tail.tail.tail.tail.tail.tail.tail.tail.tail.head
            have h0 := F.tail.tail.tail.tail.tail.tail.tail.tail.tail.tail.head
            have h1 := F.tail.tail.tail.tail.tail.tail.tail.tail.tail.tail.tail.head
            have HE1 := Lib.hid hE1
            clear hE1
            go_wp2_with fail
            refine (E2.out (by omega) _ (RB.out.up K) (RE.out.up K)).mono ?_
            rintro e wn ⟨v, i2, rfl, hE2, hb⟩
            replace F := F.below hb
            replace K := K.trans (hb.mono K.size)
            replace s1 := SlM.keep hb s1
            clear hb
            clear z0 z1 n0 n1 y0 y1 x0 x1 f0 f1 h0 h1
            have z0 := F.head
            have z1 := F.tail.head
            have n0 := F.tail.tail.head
            have n1 := F.tail.tail.tail.head
            have y0 := F.tail.tail.tail.tail.head
            have y1 := F.tail.tail.tail.tail.tail.head
            have x0 := F.tail.tail.tail.tail.tail.tail.head
            have x1 := F.tail.tail.tail.tail.tail.tail.tail.head
            have f0 := F.tail.tail.tail.tail.tail.tail.tail.tail.head
            have f1 := F.tail.tail.tail.tail.tail.tail.tail.tail.tail.head
            have h0 := F.tail.tail.tail.tail.tail.tail.tail.tail.tail.tail.head
            have h1 := F.tail.tail.tail.tail.tail.tail.tail.tail.tail.tail.tail.head
            have HE2 := Lib.hid hE2
            clear hE2
            by_cases hi1 : i1 = 0
            · subst hi1
              by_cases hi2 : i2 = 0
              · subst hi2
                have hE3 := Lib.hid (b6.out u v · · HE1.out HE2.out)
                clear HE1 HE2 b6
                go_wp2_with fail
                refine (E3.out S q1 V c1 _ (by omega) (Lib.hid s1) (RE.out.up K) b5 (by omega) (by omega)).mono ?_
                rintro e wn ⟨x, m, rfl, hx, hb⟩
                replace F := F.below hb
                replace K := K.trans (hb.mono K.size)
                clear hb
                obtain ⟨rfl, rfl, hu1, hu2⟩ := hE3.out x m hx
                clear hE3 hx
                go_wp2_with fail
                refine (EX.out _).mono ?_
                rintro e wn ⟨rfl, hb⟩
                go_wp2
                go_ret
                exact ⟨rfl, K.trans (hb.mono K.size)⟩
              · have e1 : (i2 == 0) = false := beq_false_of_ne hi2
                have e2 : (i2 != 0) = true := by rw [bne, e1]; rfl
                clear hi2
                go_wp2_with fail
                refine (EX.out _).mono ?_
                rintro e wn ⟨rfl, hb⟩
                go_wp2
                go_ret
                exact ⟨rfl, K.trans (hb.mono K.size)⟩
            · have e1 : (i1 == 0) = false := beq_false_of_ne hi1
              have e2 : (i1 != 0) = true := by rw [bne, e1]; rfl
              clear hi1
              go_wp2_with fail
              refine (EX.out _).mono ?_
              rintro e wn ⟨rfl, hb⟩
              go_wp2
              go_ret
              exact ⟨rfl, K.trans (hb.mono K.size)⟩
end Go.Proofs.Ythdeaneffnlffaa.Ln
