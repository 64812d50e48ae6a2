/- The cache: the statement on sequences of operations. -/
import Derived.Test.YtlmbjipcdhenlaaC15i
namespace Go.Proofs.Ytlmbjipcdhenlaa.Ci
open Go.ChangeShapes Go.WideShapes Go.ChangeAt Go.RowKit
open Go.Proofs.Ytlmbjipcdhenlaa.Ca
set_option linter.unusedVariables false
set_option linter.unusedSimpArgs false
theorem rml_lt {L : List Mo} {s : ByteArray} {v : Int} (h : lkv L s = some v) : (rml L s).length + 1 ≤ L.length := by
  induction L with
  | nil => cases h
  | cons x L ih =>
    rw [lkv_cons] at h
    unfold rml at ih ⊢
    rw [List.filter_cons]
    by_cases hx : x.1 = s
    · rw [decide_eq_true hx, if_neg (by decide)]
      exact Nat.succ_le_succ (List.length_filter_le _ _)
    · rw [if_neg hx] at h
      rw [decide_eq_false hx, if_pos (by decide), List.length_cons, List.length_cons]
      have := ih h
      omega
set_option maxRecDepth 100000 in
set_option maxHeartbeats 32000000 in
theorem law_plays (m : Int) (p : Option Addr) (l : List Ac) (c : Nat) (w : World) (hm : -9223372036854775808 ≤ m ∧ m ≤ 9223372036854775807) (hc : l.length ≤ c) (hcm : c ≤ maxLen) (RA : Hid (SlA w p l)) (hx : ∀ z ∈ l, (-9223372036854775808 ≤ z.1 ∧ z.1 ≤ 9223372036854775807) ∧ z.2.1.size ≤ maxLen ∧ (-9223372036854775808 ≤ z.2.2 ∧ z.2.2 ≤ 9223372036854775807)) :
    Calls Try.prog 3 #[.int .i64 m, .slice p l.length c] w fun e w' => e = .returned (.bool true) ∧ Below w.heap.size w w' := by
  have EX := Lib.hid Cs.alive
  have HX := Lib.hid hx
  have hln : l.length ≤ maxLen := Nat.le_trans hc hcm
  unfold maxLen at hln
  obtain ⟨hm0, hm1⟩ := hm
  clear hx hc hcm
  by_cases h80 : 80 < l.length
  · have d80 : (80 : Int) < l.length := by omega
    go_enter Try.func3, Try.ntmps3
    go_wp2_with fail
    refine (EX.out _).mono ?_
    rintro e w2 ⟨rfl, hb⟩
    go_wp2
    go_ret
    exact ⟨rfl, hb⟩
  · have d80 : ¬ (80 : Int) < l.length := by omega
    by_cases hv : 1 ≤ m ∧ m ≤ 1024
    · obtain ⟨n1, n2⟩ := hv
      have CN := Lib.hid (newV m w n1 n2)
      have CRN := Lib.hid fun u => rnew1 m u n1 n2
      clear hm0 hm1
      go_enter Try.func3, Try.ntmps3
      go_wp2_with fail
      refine CN.out.mono ?_
      rintro e w1 ⟨b, rfl, C1, B1⟩
      go_wp2_with fail
      refine (CRN.out _).mono ?_
      rintro e w2 ⟨rfl, hb2⟩
      have BA := (Below.refl w2.heap.size w2).alloc (Nat.le_refl _) (Obj.cells #[Value.int .i64 m, Value.int .i64 0, Value.int .i64 0, Value.slice none 0 0] 30)
      have B2 := (B1.trans (hb2.mono B1.size)).trans (BA.mono (B1.trans (hb2.mono B1.size)).size)
      have hsz := (B1.trans (hb2.mono B1.size)).size
      have C2 := Lib.hid ((((CS.of C1).below hb2).below BA).mono (S' := fun k => k = w2.heap.size ∨ (Value.slice none 0 0).ownBlock = some k) (fun k hk => by
        rcases hk with rfl | hk
        · exact .inr ⟨Nat.le_refl _, by simp⟩
        · cases hk))
      have R2 : Hid (RX (w2.alloc (Obj.cells #[Value.int .i64 m, Value.int .i64 0, Value.int .i64 0, Value.slice none 0 0] 30)) w2.heap.size w.heap.size m [] 0 0 (.slice none 0 0)) := Lib.hid ⟨by go_cell, by go_cell, by go_cell, by go_cell, (by first | go_cell | simp), (by first | go_cell | simp), (by first | go_cell | simp), World.ownsRow_nil _ _ _ _, (by simp [Value.ownBlock]), hsz⟩
      clear C1 B1 hb2 BA CN CRN
      go_wp2_with fail
      generalize w2.alloc (Obj.cells #[Value.int .i64 m, Value.int .i64 0, Value.int .i64 0, Value.slice none 0 0] 30) = w3 at *
      generalize w2.heap.size = xb at *
      go_loopw [9] (fun i wr => ∃ (j : Nat) (L : List Mo) (hits misses : Nat) (va : Value), i = .int .i64 (j : Int) ∧ j ≤ l.length ∧ Below w.heap.size w wr ∧ Hid (CS wr b w.heap.size m L hits misses j (fun k => k = xb ∨ va.ownBlock = some k)) ∧ Hid (RX wr xb w.heap.size m L hits misses va) ∧ Hid ((L.length : Int) ≤ m)) (fun i _ => l.length - (intOf i).toNat)
      case atStart => exact ⟨0, [], 0, 0, .slice none 0 0, rfl, by omega, B2, C2, R2, Lib.hid (by simp; omega)⟩
      case round =>
        obtain ⟨j, L, hits, misses, va, rfl, hj, hB, hC, hR, hL⟩ := hrel
        clear B2 C2 R2
        have j0 : (0 : Int) ≤ j := by omega
        by_cases hlt : j < l.length
        · obtain ⟨ba, oa, rfl, a0, a1, a2⟩ := SlA.keep hB RA.out j hlt
          have hrs := HX.out (l.getD j ac0) (by unfold List.getD; rw [List.getElem?_eq_getElem hlt]; exact List.getElem_mem hlt)
          obtain ⟨⟨d, k, v⟩, hv⟩ : ∃ x, l.getD j ac0 = x := ⟨_, rfl⟩
          rw [hv] at a0 a1 a2 hrs
          simp only at a0 a1 a2 hrs
          clear hv
          obtain ⟨_, hks, hv1, hv2⟩ := hrs
          have j1 : (j : Int) < l.length := by omega
          have BA := (Below.refl wr.heap.size wr).alloc (Nat.le_refl _) (Obj.cells #[Value.int .i64 d, Value.string k, Value.int .i64 v] 34)
          have KZ := hB.trans (BA.mono hB.size)
          have CZ := Lib.hid (hC.out.below BA)
          have RZ := Lib.hid (hR.out.below BA)
          have HND := Lib.hid hC.out.cv.nodup
          have hcn := hC.out.cnt
          have hle := hC.out.cv.le.1
          have hxw : xb < wr.heap.size := lt_cell hR.out.m
          have HLO := Lib.hid hR.out.lo
          have HVA := Lib.hid (show ∀ q, va.ownBlock = some q → q < wr.heap.size from fun q hq => (hR.out.row.lt q hq).2)
          have t0 : (wr.alloc (Obj.cells #[Value.int .i64 d, Value.string k, Value.int .i64 v] 34)).cell? ⟨wr.heap.size, 0, none⟩ = some (.int .i64 d) := by go_cell
          have t1 : (wr.alloc (Obj.cells #[Value.int .i64 d, Value.string k, Value.int .i64 v] 34)).cell? ⟨wr.heap.size, 1, none⟩ = some (.string k) := by go_cell
          have t2 : (wr.alloc (Obj.cells #[Value.int .i64 d, Value.string k, Value.int .i64 v] 34)).cell? ⟨wr.heap.size, 2, none⟩ = some (.int .i64 v) := by go_cell
          have hsz2 : wr.heap.size < (wr.alloc (Obj.cells #[Value.int .i64 d, Value.string k, Value.int .i64 v] 34)).heap.size := by simp
          go_wp2_with fail
          all_goals
            clear a0 a1 a2 BA hC hR
            generalize wr.alloc (Obj.cells #[Value.int .i64 d, Value.string k, Value.int .i64 v] 34) = z at *
            generalize hga : wr.heap.size = ga at *
            clear hga
          · obtain rfl := eq_of_beq ‹(d == 0) = true›
            have CG := Lib.hid (getS b w.heap.size m L hits misses j _ k z CZ.out hks (by omega))
            refine CG.out.mono ?_
            rintro e w2 ⟨hb2, hkp, hor⟩
            have R2 := RZ.out.kp hkp (.inl (.inl rfl)) (fun q hq => .inl (.inr hq))
            have t1' : w2.cell? ⟨ga, 1, none⟩ = some (.string k) := (World.cell?_of_block (a := ⟨ga, 1, none⟩) (hkp ga (.inr ⟨Nat.le_refl _, hsz2⟩))).trans t1
            have K2 := KZ.trans hb2
            have CRG := Lib.hid (rget1 xb w.heap.size m L hits misses va k w2 (Lib.hid R2) (by omega) HND.out (by omega) (by omega))
            clear hkp hb2 R2 CG CZ RZ t0 t1 t2
            rcases hor with ⟨hn, rfl, C2⟩ | ⟨vv, hvv, rfl, C2⟩
            · have C2 := Lib.hid (C2.mono (S' := fun k => k = xb ∨ va.ownBlock = some k) (fun k hk => .inl hk))
              have HNN := Lib.hid hn
              clear hn
              go_wp2_with fail
              refine CRG.out.mono ?_
              rintro e w3 (⟨_, rfl, hLW⟩ | ⟨v9, hv9, _, _⟩)
              rotate_left
              · rw [HNN.out] at hv9; cases hv9
              have K3 : Below w.heap.size w w3 := K2.grown hLW.1 K2.size (fun q hq => by cases hq; exact HLO.out)
              obtain ⟨va3, R3, C3⟩ := pair_next C2.out hLW
              clear hLW C2 CRG K2
              have CST := Lib.hid (state1 b w.heap.size m L hits (misses + 1) _ xb w.heap.size va3 w3 C3.cv R3 (by omega))
              have HC3 := Lib.hid C3
              have HR3 := Lib.hid R3
              have HK3 := Lib.hid K3
              clear C3 R3 K3
              go_wp2_with fail
              refine CST.out.mono ?_
              rintro e w4 ⟨rfl, hb4⟩
              have C4 := Lib.hid ((HC3.out.below hb4).mono (S' := fun k => k = xb ∨ va3.ownBlock = some k) (fun k hk => .inl hk))
              have R4 := Lib.hid (HR3.out.below hb4)
              have K4 := HK3.out.trans (hb4.mono HK3.out.size)
              clear hb4 CST HC3 HR3 HK3
              go_wp2
              go_roundw
              case rel => exact ⟨j + 1, L, hits, (misses + 1), va3, by go_num, by omega, K4, C4, R4, Lib.hid (hL.out)⟩
              case measure => simp [intOf]; omega
            · have C2 := Lib.hid (C2.mono (S' := fun k => k = xb ∨ va.ownBlock = some k) (fun k hk => .inl hk))
              have HNN := Lib.hid hvv
              have HRL := Lib.hid (rml_lt hvv)
              clear hvv
              go_wp2_with fail
              refine CRG.out.mono ?_
              rintro e w3 (⟨h9, _, _⟩ | ⟨v9, hv9, rfl, hLW⟩)
              · rw [HNN.out] at h9; cases h9
              rw [HNN.out] at hv9
              cases hv9
              have K3 : Below w.heap.size w w3 := K2.grown hLW.1 K2.size (fun q hq => by cases hq; exact HLO.out)
              obtain ⟨va3, R3, C3⟩ := pair_next C2.out hLW
              have hll : ((k, vv) :: rml L k).length ≤ L.length := HRL.out
              clear hLW C2 CRG K2
              have CST := Lib.hid (state1 b w.heap.size m ((k, vv) :: rml L k) (hits + 1) misses _ xb w.heap.size va3 w3 C3.cv R3 (by omega))
              have HC3 := Lib.hid C3
              have HR3 := Lib.hid R3
              have HK3 := Lib.hid K3
              clear C3 R3 K3
              go_wp2_with fail
              refine CST.out.mono ?_
              rintro e w4 ⟨rfl, hb4⟩
              have C4 := Lib.hid ((HC3.out.below hb4).mono (S' := fun k => k = xb ∨ va3.ownBlock = some k) (fun k hk => .inl hk))
              have R4 := Lib.hid (HR3.out.below hb4)
              have K4 := HK3.out.trans (hb4.mono HK3.out.size)
              clear hb4 CST HC3 HR3 HK3
              go_wp2
              go_roundw
              case rel => exact ⟨j + 1, ((k, vv) :: rml L k), (hits + 1), misses, va3, by go_num, by omega, K4, C4, R4, Lib.hid (by have := hL.out; omega)⟩
              case measure => simp [intOf]; omega
          · obtain rfl := eq_of_beq ‹(d == 1) = true›
            have CP := Lib.hid (putS b w.heap.size m L hits misses j _ k v z CZ.out hks (by omega) n2)
            refine CP.out.mono ?_
            rintro e w2 ⟨hb2, hkp, hor⟩
            have R2 := RZ.out.kp hkp (.inl (.inl rfl)) (fun q hq => .inl (.inr hq))
            have t1' : w2.cell? ⟨ga, 1, none⟩ = some (.string k) := (World.cell?_of_block (a := ⟨ga, 1, none⟩) (hkp ga (.inr ⟨Nat.le_refl _, hsz2⟩))).trans t1
            have t2' : w2.cell? ⟨ga, 2, none⟩ = some (.int .i64 v) := (World.cell?_of_block (a := ⟨ga, 2, none⟩) (hkp ga (.inr ⟨Nat.le_refl _, hsz2⟩))).trans t2
            have K2 := KZ.trans hb2
            have CRP := Lib.hid (rput1 xb w.heap.size m L hits misses va k v w2 (Lib.hid R2) hL.out n2 n1 HND.out)
            have hrl := rml_len L k
            clear hkp hb2 R2 CP CZ RZ t0 t1 t2
            rcases hor with ⟨hn, rfl, C2⟩ | ⟨hn, rfl, C2⟩
            · have C2 := Lib.hid (C2.mono (S' := fun k => k = xb ∨ va.ownBlock = some k) (fun k hk => .inl hk))
              go_wp2_with fail
              refine CRP.out.mono ?_
              rintro e w3 (⟨_, rfl, hLW⟩ | ⟨h9, _, _⟩)
              rotate_left
              · exact absurd h9 (by omega)
              have K3 : Below w.heap.size w w3 := K2.grown hLW.1 K2.size (fun q hq => by cases hq; exact HLO.out)
              obtain ⟨va3, R3, C3⟩ := pair_next C2.out hLW
              have hll : (((k, v) :: rml L k).length : Int) ≤ m := by rw [List.length_cons]; omega
              clear hLW C2 CRP K2
              have CST := Lib.hid (state1 b w.heap.size m ((k, v) :: rml L k) hits misses _ xb w.heap.size va3 w3 C3.cv R3 (by omega))
              have HC3 := Lib.hid C3
              have HR3 := Lib.hid R3
              have HK3 := Lib.hid K3
              clear C3 R3 K3
              go_wp2_with fail
              refine CST.out.mono ?_
              rintro e w4 ⟨rfl, hb4⟩
              have C4 := Lib.hid ((HC3.out.below hb4).mono (S' := fun k => k = xb ∨ va3.ownBlock = some k) (fun k hk => .inl hk))
              have R4 := Lib.hid (HR3.out.below hb4)
              have K4 := HK3.out.trans (hb4.mono HK3.out.size)
              clear hb4 CST HC3 HR3 HK3
              go_wp2
              go_roundw
              case rel => exact ⟨j + 1, ((k, v) :: rml L k), hits, misses, va3, by go_num, by omega, K4, C4, R4, Lib.hid (hll)⟩
              case measure => simp [intOf]; omega
            · have C2 := Lib.hid (C2.mono (S' := fun k => k = xb ∨ va.ownBlock = some k) (fun k hk => .inl hk))
              go_wp2_with fail
              refine CRP.out.mono ?_
              rintro e w3 (⟨h9, _, _⟩ | ⟨_, rfl, hLW⟩)
              · exact absurd h9 (by omega)
              have K3 : Below w.heap.size w w3 := K2.grown hLW.1 K2.size (fun q hq => by cases hq; exact HLO.out)
              obtain ⟨va3, R3, C3⟩ := pair_next C2.out hLW
              have hll : ((k, v) :: rml L k).dropLast.length ≤ L.length := by rw [List.length_dropLast, List.length_cons]; omega
              clear hLW C2 CRP K2
              have CST := Lib.hid (state1 b w.heap.size m ((k, v) :: rml L k).dropLast hits misses _ xb w.heap.size va3 w3 C3.cv R3 (by omega))
              have HC3 := Lib.hid C3
              have HR3 := Lib.hid R3
              have HK3 := Lib.hid K3
              clear C3 R3 K3
              go_wp2_with fail
              refine CST.out.mono ?_
              rintro e w4 ⟨rfl, hb4⟩
              have C4 := Lib.hid ((HC3.out.below hb4).mono (S' := fun k => k = xb ∨ va3.ownBlock = some k) (fun k hk => .inl hk))
              have R4 := Lib.hid (HR3.out.below hb4)
              have K4 := HK3.out.trans (hb4.mono HK3.out.size)
              clear hb4 CST HC3 HR3 HK3
              go_wp2
              go_roundw
              case rel => exact ⟨j + 1, ((k, v) :: rml L k).dropLast, hits, misses, va3, by go_num, by omega, K4, C4, R4, Lib.hid (by have := hL.out; omega)⟩
              case measure => simp [intOf]; omega
          · obtain rfl := eq_of_beq ‹(d == 2) = true›
            have CM := Lib.hid (removeS b w.heap.size m L hits misses j _ k z CZ.out hks)
            refine CM.out.mono ?_
            rintro e w2 ⟨hb2, hkp, C2, rfl⟩
            have R2 := RZ.out.kp hkp (.inl (.inl rfl)) (fun q hq => .inl (.inr hq))
            have t1' : w2.cell? ⟨ga, 1, none⟩ = some (.string k) := (World.cell?_of_block (a := ⟨ga, 1, none⟩) (hkp ga (.inr ⟨Nat.le_refl _, hsz2⟩))).trans t1
            have K2 := KZ.trans hb2
            have CRM := Lib.hid (rremove1 xb w.heap.size m L hits misses va k w2 (Lib.hid R2) (by omega) HND.out)
            have C2 := Lib.hid (C2.mono (S' := fun k => k = xb ∨ va.ownBlock = some k) (fun k hk => .inl hk))
            have hll := rml_len L k
            clear hkp hb2 R2 CM CZ RZ t0 t1 t2
            obtain ⟨bb, hbb⟩ : ∃ x, (lkv L k).isSome = x := ⟨_, rfl⟩
            unfold RRW at CRM
            rw [hbb] at CRM ⊢
            clear hbb
            go_wp2_with fail
            refine CRM.out.mono ?_
            rintro e w3 ⟨rfl, hLW⟩
            have K3 : Below w.heap.size w w3 := K2.grown hLW.1 K2.size (fun q hq => by cases hq; exact HLO.out)
            obtain ⟨va3, R3, C3⟩ := pair_next C2.out hLW
            clear hLW C2 CRM K2
            cases bb
            all_goals
              replace C3 := C3.up (Nat.le_succ _)
              have CST := Lib.hid (state1 b w.heap.size m (rml L k) hits misses _ xb w.heap.size va3 w3 C3.cv R3 (by omega))
              have HC3 := Lib.hid C3
              have HR3 := Lib.hid R3
              have HK3 := Lib.hid K3
              clear C3 R3 K3
              go_wp2_with fail
              refine CST.out.mono ?_
              rintro e w4 ⟨rfl, hb4⟩
              have C4 := Lib.hid ((HC3.out.below hb4).mono (S' := fun k => k = xb ∨ va3.ownBlock = some k) (fun k hk => .inl hk))
              have R4 := Lib.hid (HR3.out.below hb4)
              have K4 := HK3.out.trans (hb4.mono HK3.out.size)
              clear hb4 CST HC3 HR3 HK3
              go_wp2
              go_roundw
              case rel => exact ⟨j + 1, (rml L k), hits, misses, va3, by go_num, by omega, K4, C4, R4, Lib.hid (by have := hL.out; omega)⟩
              case measure => simp [intOf]; omega
          · have C3 := CZ.out.mono (S' := fun k => k = xb ∨ va.ownBlock = some k) (fun k hk => .inl hk)
            have R3 := RZ.out
            have K3 := KZ
            clear CZ RZ KZ
            replace C3 := C3.up (Nat.le_succ _)
            have CST := Lib.hid (state1 b w.heap.size m L hits misses _ xb w.heap.size va z C3.cv R3 (by omega))
            have HC3 := Lib.hid C3
            have HR3 := Lib.hid R3
            have HK3 := Lib.hid K3
            clear C3 R3 K3
            refine CST.out.mono ?_
            rintro e w4 ⟨rfl, hb4⟩
            have C4 := Lib.hid ((HC3.out.below hb4).mono (S' := fun k => k = xb ∨ va.ownBlock = some k) (fun k hk => .inl hk))
            have R4 := Lib.hid (HR3.out.below hb4)
            have K4 := HK3.out.trans (hb4.mono HK3.out.size)
            clear hb4 CST HC3 HR3 HK3
            go_wp2
            go_roundw
            case rel => exact ⟨j + 1, L, hits, misses, va, by go_num, by omega, K4, C4, R4, Lib.hid (hL.out)⟩
            case measure => simp [intOf]; omega
        · have j1 : ¬ (j : Int) < l.length := by omega
          go_wp2_with fail
          refine (EX.out _).mono ?_
          rintro e w2 ⟨rfl, hb⟩
          go_wp2
          go_ret
          exact ⟨rfl, hB.trans (hb.mono hB.size)⟩
    · have hv2 : m < 1 ∨ 1024 < m := by omega
      have CN := Lib.hid (new_bad m w hv2)
      have CRN := Lib.hid fun u => rnew_bad m u hv2
      clear hv hv2
      go_enter Try.func3, Try.ntmps3
      go_wp2_with fail
      refine CN.out.mono ?_
      rintro e w1 ⟨rfl, rfl⟩
      go_wp2_with fail
      refine (CRN.out _).mono ?_
      rintro e w2 ⟨rfl, hb2⟩
      have B2 := hb2.alloc hb2.size (Obj.cells #[Value.int .i64 0, Value.int .i64 0, Value.int .i64 0, Value.slice none 0 0] 30)
      go_wp2_with fail
      refine (EX.out _).mono ?_
      rintro e w4 ⟨rfl, hb⟩
      go_wp2
      go_ret
      exact ⟨rfl, B2.trans (hb.mono B2.size)⟩
end Go.Proofs.Ytlmbjipcdhenlaa.Ci
