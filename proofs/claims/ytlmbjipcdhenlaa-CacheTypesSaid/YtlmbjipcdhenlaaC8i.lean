/- The cache: the statement on its bounds. -/
import Derived.Test.YtlmbjipcdhenlaaC7i
namespace Go.Proofs.Ytlmbjipcdhenlaa.Ci
open Go.ChangeShapes Go.WideShapes Go.ChangeAt Go.RowKit
open Go.Proofs.Ytlmbjipcdhenlaa.Ca
set_option linter.unusedVariables false
set_option linter.unusedSimpArgs false
theorem below_drewN {B : Nat} {w u : World} (h : Below B w u) (n : Nat) : Below B w (u.drewN n) := ⟨h.os, h.tape, h.output, h.size, h.block⟩
theorem nodup_take {l : List ByteArray} (hn : l.Nodup) {k : Nat} (hk : k < l.length) : l[k] ∉ l.take k := fun h => by
  obtain ⟨i, hi, e⟩ := List.getElem_of_mem h
  rw [List.length_take] at hi
  rw [List.getElem_take] at e
  have := (List.getElem_inj hn).1 e
  omega
set_option maxRecDepth 100000 in
set_option maxHeartbeats 16000000 in
theorem law_bounds (m : Int) (p : Option Addr) (l : List Ac) (c : Nat) (w : World) (hm : 0 ≤ m ∧ m ≤ 255) (hc : l.length ≤ c) (hcm : c ≤ maxLen) (RA : Hid (SlA w p l)) (hx : ∀ z ∈ l, (-9223372036854775808 ≤ z.1 ∧ z.1 ≤ 9223372036854775807) ∧ z.2.1.size ≤ maxLen ∧ (-9223372036854775808 ≤ z.2.2 ∧ z.2.2 ≤ 9223372036854775807)) :
    Calls Try.prog 5 #[.int .u8 m, .slice p l.length c] w fun e w' => e = .returned (.bool true) ∧ Below w.heap.size w w' := by
  have EX := Lib.hid Cs.alive
  have HX := Lib.hid hx
  have hln : l.length ≤ maxLen := Nat.le_trans hc hcm
  unfold maxLen at hln
  obtain ⟨hm0, hm1⟩ := hm
  have r0 : 0 ≤ m % 20 := by omega
  have r1 : m % 20 ≤ 19 := by omega
  have CN := Lib.hid (newV (1 + m % 20) w (by omega) (by omega))
  clear hx hc hcm
  by_cases h60 : 60 < l.length
  · have d60 : (60 : Int) < l.length := by omega
    go_enter Try.func5, Try.ntmps5
    go_wp2_with fail
    refine CN.out.mono ?_
    rintro e w1 ⟨b, rfl, C1, B1⟩
    go_wp2_with fail
    refine (EX.out _).mono ?_
    rintro e w2 ⟨rfl, hb⟩
    go_wp2
    go_ret
    exact ⟨rfl, B1.trans (hb.mono B1.size)⟩
  · have d60 : ¬ (60 : Int) < l.length := by omega
    go_enter Try.func5, Try.ntmps5
    go_wp2_with fail
    refine CN.out.mono ?_
    rintro e w1 ⟨b, rfl, C1, B1⟩
    obtain ⟨n, hn⟩ : ∃ n, 1 + m % 20 = n := ⟨_, rfl⟩
    rw [hn] at C1
    have C1 := Lib.hid C1
    have n1 : 1 ≤ n := by omega
    have n2 : n ≤ 20 := by omega
    have HN := Lib.hid hn
    clear hn
    go_wp2_with fail
    rw [HN.out]
    clear HN CN r0 r1 hm0 hm1
    go_loopw [8] (fun i wr => ∃ (j : Nat) (L : List (ByteArray × Int)) (hits : Nat), i = .int .i64 (j : Int) ∧ j ≤ l.length ∧ Below w.heap.size w wr ∧ Hid (CV wr b w.heap.size n L hits 0 (2 * j)) ∧ Hid ((L.length : Int) ≤ n)) (fun i _ => l.length - (intOf i).toNat)
    case atStart => exact ⟨0, [], 0, rfl, by omega, B1, C1, Lib.hid (by simp; omega)⟩
    case round =>
      obtain ⟨j, L, hits, rfl, hj, hB, hC, hL⟩ := hrel
      clear B1 C1
      have j0 : (0 : Int) ≤ j := by omega
      by_cases hlt : j < l.length
      · obtain ⟨ba, oa, rfl, a0, a1, a2⟩ := SlA.keep hB RA.out j hlt
        have hrs := HX.out (l.getD j ac0) (by unfold List.getD; rw [List.getElem?_eq_getElem hlt]; exact List.getElem_mem hlt)
        obtain ⟨⟨dd, kk, vv⟩, hv⟩ : ∃ x, l.getD j ac0 = x := ⟨_, rfl⟩
        rw [hv] at a0 a1 a2 hrs
        simp only at a0 a1 a2 hrs
        clear hv
        obtain ⟨_, hks, hv1, hv2⟩ := hrs
        have j1 : (j : Int) < l.length := by omega
        have hbaw : ba < w.heap.size := by
          obtain ⟨b', o', e', c', _⟩ := RA.out j hlt
          cases e'
          exact lt_cell c'
        have CP := Lib.hid (putB b w.heap.size n L hits 0 (2 * j) kk vv wr.drew (hC.out.keep ((Below.refl _ _).drew)) hks (by omega) (by omega) n1 hL.out)
        clear hC hL
        go_wp2_with fail
        have hz8 : wr.drew.cell? ⟨ba, oa + j * 3 + 1, none⟩ = some (.string kk) ∧ wr.drew.cell? ⟨ba, oa + j * 3 + 2, none⟩ = some (.int .i64 vv) := ⟨a1, a2⟩
        refine Rk.begin (S := fun wS => wS.cell? ⟨ba, oa + j * 3 + 1, none⟩ = some (.string kk) ∧ wS.cell? ⟨ba, oa + j * 3 + 2, none⟩ = some (.int .i64 vv)) 11 (by kernel_rfl) hz8 (fun hHeld => ?_)
        refine Rk.takeP (i := 0) (v := ?_) rfl (by kernel_rfl) (by kernel_rfl) (by kernel_rfl) (by kernel_rfl) (fun _ _ _ h => h) (Or.inl ⟨by kernel_rfl, ?_⟩) (by assumption) ?_
        rotate_left
        · ((intro w hSw; go_simp) <;> with_reducible rfl)
        try simp only [Act.put, List.setIfInBounds_toArray, List.set_cons_zero, List.set_cons_succ]
        refine Rk.takeP (i := 1) (v := ?_) rfl (by kernel_rfl) (by kernel_rfl) (by kernel_rfl) (by kernel_rfl) (fun _ _ _ h => h) (Or.inl ⟨by kernel_rfl, ?_⟩) (by assumption) ?_
        rotate_left
        · ((intro w hSw; go_simp) <;> with_reducible rfl)
        try simp only [Act.put, List.setIfInBounds_toArray, List.set_cons_zero, List.set_cons_succ]
        refine Rk.takeP (i := 2) (v := ?_) rfl (by kernel_rfl) (by kernel_rfl) (by kernel_rfl) (by kernel_rfl) (fun _ _ _ h => h) (Or.inl ⟨by kernel_rfl, ?_⟩) (by assumption) ?_
        rotate_left
        · ((intro w hSw; go_simp) <;> with_reducible rfl)
        try simp only [Act.put, List.setIfInBounds_toArray, List.set_cons_zero, List.set_cons_succ]
        refine Rk.takeP (i := 3) (v := ?_) rfl (by kernel_rfl) (by kernel_rfl) (by kernel_rfl) (by kernel_rfl) (fun _ _ _ h => h) (Or.inl ⟨by kernel_rfl, ?_⟩) (by assumption) ?_
        rotate_left
        · ((intro w hSw; go_simp) <;> with_reducible rfl)
        try simp only [Act.put, List.setIfInBounds_toArray, List.set_cons_zero, List.set_cons_succ]
        refine Rk.takeP (i := 4) (v := ?_) rfl (by kernel_rfl) (by kernel_rfl) (by kernel_rfl) (by kernel_rfl) (fun _ _ _ h => h) (Or.inl ⟨by kernel_rfl, ?_⟩) (by assumption) ?_
        rotate_left
        · ((intro w hSw; go_simp) <;> with_reducible rfl)
        try simp only [Act.put, List.setIfInBounds_toArray, List.set_cons_zero, List.set_cons_succ]
        refine Rk.take [11] (i := 5) (v := ?_) rfl (by kernel_rfl) (by kernel_rfl) (by kernel_rfl) (by kernel_rfl) (by kernel_rfl) (fun _ _ _ h => h) (Or.inl ⟨by kernel_rfl, ?_⟩) (by assumption) ?_
        rotate_left
        · ((intro w hSw; (try dsimp only at hSw); go_simp) <;> with_reducible rfl)
        try simp only [Act.put, List.setIfInBounds_toArray, List.set_cons_zero, List.set_cons_succ]
        refine Rk.takeP (i := 6) (v := ?_) rfl (by kernel_rfl) (by kernel_rfl) (by kernel_rfl) (by kernel_rfl) (fun _ _ _ h => h) (Or.inl ⟨by kernel_rfl, ?_⟩) (by assumption) ?_
        rotate_left
        · ((intro w hSw; go_simp) <;> with_reducible rfl)
        try simp only [Act.put, List.setIfInBounds_toArray, List.set_cons_zero, List.set_cons_succ]
        refine Rk.takeP (i := 7) (v := ?_) rfl (by kernel_rfl) (by kernel_rfl) (by kernel_rfl) (by kernel_rfl) (fun _ _ _ h => h) (Or.inl ⟨by kernel_rfl, ?_⟩) (by assumption) ?_
        rotate_left
        · ((intro w hSw; go_simp) <;> with_reducible rfl)
        try simp only [Act.put, List.setIfInBounds_toArray, List.set_cons_zero, List.set_cons_succ]
        refine Rk.takeP (i := 8) (v := ?_) rfl (by kernel_rfl) (by kernel_rfl) (by kernel_rfl) (by kernel_rfl) (fun _ _ _ h => h) (Or.inl ⟨by kernel_rfl, ?_⟩) (by assumption) ?_
        rotate_left
        · ((intro w hSw; go_simp) <;> with_reducible rfl)
        try simp only [Act.put, List.setIfInBounds_toArray, List.set_cons_zero, List.set_cons_succ]
        refine Rk.takeP (i := 9) (v := ?_) rfl (by kernel_rfl) (by kernel_rfl) (by kernel_rfl) (by kernel_rfl) (fun _ _ _ h => h) (Or.inl ⟨by kernel_rfl, ?_⟩) (by assumption) ?_
        rotate_left
        · ((intro w hSw; go_simp) <;> with_reducible rfl)
        try simp only [Act.put, List.setIfInBounds_toArray, List.set_cons_zero, List.set_cons_succ]
        refine Rk.take [11] (i := 10) (v := ?_) rfl (by kernel_rfl) (by kernel_rfl) (by kernel_rfl) (by kernel_rfl) (by kernel_rfl) (fun _ _ _ h => h) (Or.inl ⟨by kernel_rfl, ?_⟩) (by assumption) ?_
        rotate_left
        · ((intro w hSw; (try dsimp only at hSw); go_simp) <;> with_reducible rfl)
        try simp only [Act.put, List.setIfInBounds_toArray, List.set_cons_zero, List.set_cons_succ]
        refine Rk.tail [11] [_] (by kernel_rfl) (by kernel_rfl) rfl (by decide) ?_
        clear hHeld hz8
        go_wp2_with fail
        refine CP.out.mono ?_
        rintro e w2 ⟨hb2, bv, T, rfl, C2, hT⟩
        have K2 : Below w.heap.size w w2 := hB.drew.trans hb2
        replace a1 := kpc (base := w.heap.size) hb2 hbaw a1
        replace a2 := kpc (base := w.heap.size) hb2 hbaw a2
        have hTl : T.length ≤ 20 := by omega
        have CK := Lib.hid (keysV b w.heap.size n _ hits 0 (2 * j + 1) w2 C2 (by rw [List.length_cons]; omega))
        have C2 := Lib.hid C2
        clear CP hb2 a0
        go_wp2_with fail
        refine CK.out.mono ?_
        rintro e w3 ⟨v9, rfl, hO, hb3⟩
        have K3 := K2.trans (hb3.mono K2.size)
        replace a1 := kpc (base := w2.heap.size) hb3 (by have := K2.size; omega) a1
        replace a2 := kpc (base := w2.heap.size) hb3 (by have := K2.size; omega) a2
        have C3 := Lib.hid (C2.out.keep hb3)
        have hND := Lib.hid C3.out.nodup
        obtain ⟨ks, hks2⟩ : ∃ ks, ((kk, vv) :: T).map (·.1) = ks := ⟨_, rfl⟩
        have hkl : ks.length = T.length + 1 := by rw [← hks2]; simp
        have hO2 : w3.ownsRow w2.heap.size 9 1 v9 ks.length (ks.map Value.string) := by
          rw [hkl, ← hks2, List.map_map]; exact hO
        obtain ⟨q9, c9, rfl, hc9, hS9, hq9⟩ := own_slT hO2
        have hk0 : ks.getD 0 ByteArray.empty = kk := by rw [← hks2]; rfl
        obtain ⟨g, o9, rfl, g0⟩ := hS9 0 (by omega)
        rw [hk0, Nat.add_zero] at g0
        have HND2 : Hid ks.Nodup := Lib.hid (by rw [← hks2]; exact hND.out)
        have CL := fun q => ((lenV1 b w.heap.size n _ hits 0 (2 * j + 1) (w3.drewN q) (C3.out.keep (below_drewN (Below.refl _ _) q))).mono fun e w' h => (⟨h.1, h.2.symm⟩ : e = .returned (.int .i64 ((((kk, vv) :: T).length : Nat) : Int)) ∧ w' = w3.drewN q))
        have HSL := Lib.hid hS9
        have hkn : (ks.length : Int) ≤ n := by omega
        have hk1 : (1 : Int) ≤ ks.length := by omega
        have HKL := Lib.hid hkl
        have hk00 : 0 < ks.length := by omega
        have hlen : (((kk, vv) :: T).length : Int) = ks.length := by rw [List.length_cons, hkl]
        rw [hlen] at CL
        have d1 : decide (n < (ks.length : Int)) = false := decide_eq_false (by omega)
        have d2 : ((ks.length : Int) == 0) = false := beq_false_of_ne (by omega)
        have d3 : ¬ (n < (ks.length : Int)) := by omega
        have hks2' := Lib.hid hks2
        replace CL := Lib.hid CL
        have CG := Lib.hid fun u (hu : Below w3.heap.size w3 u) => getV b w.heap.size n _ hits 0 (2 * j + 1) kk u (C3.out.keep hu) hks (by omega)
        have CH := Lib.hid fun (q : Nat) (y : ByteArray) u (hu : Below w3.heap.size w3 u) => has1 (some ⟨g, o9, none⟩) (ks.take q) c9 y u (by rw [List.length_take]; unfold maxLen; omega) (Lib.hid (SlT.take (HSL.out.keep hu) q))
        have HTN := Lib.hid (show kk ∉ T.map (·.1) by have := HND2.out; rw [← hks2'.out, List.map_cons, List.nodup_cons] at this; exact this.1)
        clear hO hO2 hS9 hk0 hks2 hND hkl hlen CK C2 hks2'
        go_wp2_with fail
        go_quiet ((go_at_call 34; exact Calls.quiet_of_same (CL.out _)))
        have K0 := below_drewN (Below.refl w3.heap.size w3) nq
        generalize w3.drewN nq = w4 at *
        go_wp2_with fail
        go_loopw [10] (fun x wr => ∃ q : Nat, x = .int .i64 (q : Int) ∧ 1 ≤ q ∧ q ≤ ks.length ∧ Below w3.heap.size w3 wr) (fun x _ => ks.length - (intOf x).toNat)
        case atStart => exact ⟨1, rfl, by omega, by omega, K0⟩
        case round =>
          obtain ⟨q, rfl, hq1, hq2, hBx⟩ := hrel
          have q0 : (0 : Int) ≤ q := by omega
          by_cases hlq : q < ks.length
          · obtain ⟨g', o', e', gq⟩ := HSL.out.keep hBx q hlq
            cases e'
            have hgq : ks.getD q ByteArray.empty = ks[q] := by unfold List.getD; rw [List.getElem?_eq_getElem hlq]; rfl
            have HNO := Lib.hid (hasB_no.2 (nodup_take HND2.out hlq))
            rw [hgq] at gq
            obtain ⟨y, hy⟩ : ∃ y, ks[q] = y := ⟨_, rfl⟩
            rw [hy] at gq HNO
            have C9 := CH.out q y wr.drew (hBx.drew)
            rw [HNO.out, List.length_take, Nat.min_eq_left hq2] at C9
            have C9 := Lib.hid C9
            have hqc : (q : Int) ≤ c9 := by omega
            have q1 : (q : Int) < ks.length := by omega
            have q2 : q ≤ c9 := by omega
            clear hgq hy
            go_wp2_with fail
            have hz7 : wr.drew.cell? ⟨g, o9 + q, none⟩ = some (.string y) := gq
            refine Rk.begin (S := fun wS => wS.cell? ⟨g, o9 + q, none⟩ = some (.string y)) 7 (by kernel_rfl) hz7 (fun hHeld => ?_)
            refine Rk.takeP (i := 0) (v := ?_) rfl (by kernel_rfl) (by kernel_rfl) (by kernel_rfl) (by kernel_rfl) (fun _ _ _ h => h) (Or.inl ⟨by kernel_rfl, ?_⟩) (by assumption) ?_
            rotate_left
            · ((intro w hSw; go_simp) <;> with_reducible rfl)
            try simp only [Act.put, List.setIfInBounds_toArray, List.set_cons_zero, List.set_cons_succ]
            refine Rk.takeP (i := 1) (v := ?_) rfl (by kernel_rfl) (by kernel_rfl) (by kernel_rfl) (by kernel_rfl) (fun _ _ _ h => h) (Or.inl ⟨by kernel_rfl, ?_⟩) (by assumption) ?_
            rotate_left
            · ((intro w hSw; go_simp) <;> with_reducible rfl)
            try simp only [Act.put, List.setIfInBounds_toArray, List.set_cons_zero, List.set_cons_succ]
            refine Rk.takeP (i := 2) (v := ?_) rfl (by kernel_rfl) (by kernel_rfl) (by kernel_rfl) (by kernel_rfl) (fun _ _ _ h => h) (Or.inl ⟨by kernel_rfl, ?_⟩) (by assumption) ?_
            rotate_left
            · ((intro w hSw; go_simp) <;> with_reducible rfl)
            try simp only [Act.put, List.setIfInBounds_toArray, List.set_cons_zero, List.set_cons_succ]
            refine Rk.takeP (i := 3) (v := ?_) rfl (by kernel_rfl) (by kernel_rfl) (by kernel_rfl) (by kernel_rfl) (fun _ _ _ h => h) (Or.inl ⟨by kernel_rfl, ?_⟩) (by assumption) ?_
            rotate_left
            · ((intro w hSw; go_simp) <;> with_reducible rfl)
            try simp only [Act.put, List.setIfInBounds_toArray, List.set_cons_zero, List.set_cons_succ]
            refine Rk.takeP (i := 4) (v := ?_) rfl (by kernel_rfl) (by kernel_rfl) (by kernel_rfl) (by kernel_rfl) (fun _ _ _ h => h) (Or.inl ⟨by kernel_rfl, ?_⟩) (by assumption) ?_
            rotate_left
            · ((intro w hSw; go_simp) <;> with_reducible rfl)
            try simp only [Act.put, List.setIfInBounds_toArray, List.set_cons_zero, List.set_cons_succ]
            refine Rk.takeP (i := 5) (v := ?_) rfl (by kernel_rfl) (by kernel_rfl) (by kernel_rfl) (by kernel_rfl) (fun _ _ _ h => h) (Or.inl ⟨by kernel_rfl, ?_⟩) (by assumption) ?_
            rotate_left
            · ((intro w hSw; go_simp) <;> with_reducible rfl)
            try simp only [Act.put, List.setIfInBounds_toArray, List.set_cons_zero, List.set_cons_succ]
            refine Rk.take [7] (i := 6) (v := ?_) rfl (by kernel_rfl) (by kernel_rfl) (by kernel_rfl) (by kernel_rfl) (by kernel_rfl) (fun _ _ _ h => h) (Or.inl ⟨by kernel_rfl, ?_⟩) (by assumption) ?_
            rotate_left
            · ((intro w hSw; (try dsimp only at hSw); go_simp) <;> with_reducible rfl)
            try simp only [Act.put, List.setIfInBounds_toArray, List.set_cons_zero, List.set_cons_succ]
            refine Rk.tail [7] [_] (by kernel_rfl) (by kernel_rfl) rfl (by decide) ?_
            clear hHeld hz7
            go_wp2_with fail
            refine C9.out.mono ?_
            rintro e w6 ⟨rfl, rfl⟩
            go_wp2
            go_roundw
            case rel => exact ⟨q + 1, by go_num, by omega, by omega, hBx.drew⟩
            case measure => simp [intOf]; omega
          · have q1 : ¬ (q : Int) < ks.length := by omega
            have CGx := Lib.hid (CG.out wr hBx)
            replace a1 := kpc (base := w3.heap.size) hBx (by have := K3.size; omega) a1
            replace a2 := kpc (base := w3.heap.size) hBx (by have := K3.size; omega) a2
            have hw3 := K3.size
            clear CG CH CL
            go_wp2_with fail
            refine CGx.out.mono ?_
            rintro e w6 ⟨hb6, ⟨h, _, _⟩ | ⟨v6, hv6, rfl, C6⟩⟩
            · rw [lkv_cons, if_pos rfl] at h; cases h
            rw [lkv_cons, if_pos rfl] at hv6
            cases hv6
            replace a1 := kpc (base := w.heap.size) hb6 hbaw a1
            replace a2 := kpc (base := w.heap.size) hb6 hbaw a2
            have K6 : Below w.heap.size w w6 := (K3.trans (hBx.mono K3.size)).trans hb6
            have C7 : Hid (CV w6 b w.heap.size n ((kk, vv) :: T) (hits + 1) 0 (2 * (j + 1))) := Lib.hid (by
              have h : rml ((kk, vv) :: T) kk = T := by
                unfold rml
                rw [List.filter_cons, decide_eq_true rfl, if_neg (by decide)]
                exact rml_none HTN.out
              rw [h] at C6
              exact C6)
            have HL7 : Hid ((((kk, vv) :: T).length : Int) ≤ n) := Lib.hid (by rw [List.length_cons]; omega)
            clear C6 CGx hb6
            go_wp2
            go_roundw
            case rel => exact ⟨j + 1, (kk, vv) :: T, hits + 1, by go_num, by omega, K6, C7, HL7⟩
            case measure => simp [intOf]; omega
      · have j1 : ¬ (j : Int) < l.length := by omega
        go_wp2_with fail
        refine (EX.out _).mono ?_
        rintro e w2 ⟨rfl, hb⟩
        go_wp2
        go_ret
        exact ⟨rfl, hB.trans (hb.mono hB.size)⟩
end Go.Proofs.Ytlmbjipcdhenlaa.Ci
