/- Boxes: the statement on all points: its walk. -/
import Derived.Test.YtkdfidjoighknaaB31
import Derived.Test.YtkdfidjoighknaaB22
namespace Go.Proofs.Ytkdfidjoighknaa.Bx
open Go.ChangeShapes Go.WideShapes Go.ChangeAt Go.RowKit
set_option linter.unusedVariables false
set_option linter.unusedSimpArgs false
open Go.Proofs.Ytkdfidjoighknaa.Nm Go.Proofs.Ytkdfidjoighknaa.Ln
theorem kC_pos {lim C : Int} (h : 0 ≤ lim) : kC lim C = min lim.toNat C.toNat := by
  unfold kC
  split <;> omega
theorem coll1 (p : Option Addr) (zs : List Int) (c : Nat) (lim : Int) (w : World) (hN : zs.length ≤ maxLen) (hby : zs.length * 8 ≤ 140737488355328) (RA : Hid (SlI w p zs)) :
    Calls Try.prog 27 #[.slice p zs.length c, .int .i64 lim] w (CW zs (kC lim (cnt zs)) w) := by
  unfold kC
  by_cases h : lim ≤ 0
  · rw [if_pos h]; exact coll_no p zs c lim w hN hby RA h
  · rw [if_neg h]; exact coll_yes p zs c lim w hN hby RA h
theorem own_ne {A : World} {b b' n : Nat} {v v' : Value} {xs ys : List Value} (h : A.ownsRow b 3 1 v n xs) (k : A.ownsRow b' 3 1 v' n ys) (hne : xs ≠ ys) : v.ownBlock = none ∨ v.ownBlock ≠ v'.ownBlock := by
  obtain ⟨hl, ⟨rfl, h0⟩ | ⟨g, cap, cur, rfl, _, hg, _, _, _, ht⟩⟩ := h
  · exact .inl rfl
  · refine .inr (fun e => hne ?_)
    obtain ⟨kl, ⟨rfl, _⟩ | ⟨g', cap', cur', rfl, _, hg', _, _, _, ht'⟩⟩ := k
    · cases e
    · cases e
      rw [hg] at hg'
      cases hg'
      rw [← ht, ← ht']
theorem own_tne {A : World} {b b' e e' s s' n n' : Nat} {v v' : Value} {xs ys : List Value} (h : A.ownsRow b e s v n xs) (k : A.ownsRow b' e' s' v' n' ys) (hne : e ≠ e') : v.ownBlock = none ∨ v.ownBlock ≠ v'.ownBlock := by
  cases hv : v.ownBlock with
  | none => exact .inl rfl
  | some g =>
    refine .inr (fun e9 => ?_)
    obtain ⟨c1, h1⟩ := own_blk h hv
    obtain ⟨c2, h2⟩ := own_blk k e9.symm
    rw [h1] at h2
    cases h2
    exact hne rfl
theorem pt_inj {zs : List Int} (hl : zs.any low = false) {i j : Nat} (hi : (i : Int) < sp zs) (hj : (j : Int) < sp zs) (h : (pt zs (i : Int)).map (Value.int .i64) = (pt zs (j : Int)).map (Value.int .i64)) : i = j := by
  have e : rk zs (pt zs (i : Int)) zs.length = rk zs (pt zs (j : Int)) zs.length := by rw [int_inj h]
  rw [rk_pt_end hl (by omega) hi, rk_pt_end hl (by omega) hj] at e
  omega
theorem grown_set {A W : World} {b : Nat} (h : A.grownBy W (some b)) (k : Nat) (u : Value) : A.grownBy (W.setCell ⟨b, k, none⟩ u) (some b) :=
  ⟨h.os, h.tape, h.output, by rw [World.size_setCell]; exact h.size, fun g hg hne => (Below.heap_setCell _ _ _ _ (fun e => hne (by subst e; rfl))).trans (h.block g hg hne)⟩
theorem grown_drewN (A : World) (m : Nat) (r : Option Nat) : A.grownBy (A.drewN m) r := ⟨rfl, rfl, rfl, Nat.le_refl _, fun _ _ _ => rfl⟩
theorem SlI_of {A : World} {b N : Nat} {q : Option Addr} {c : Nat} {xs : List Int} (hl : xs.length = N) (h : A.ownsRow b 3 1 (.slice q N c) N (xs.map (Value.int .i64))) : SlI A q xs := by
  rw [← hl] at h
  obtain ⟨_, _, e, _, _, S⟩ := own_SlI h
  cases e
  exact S.out
set_option maxRecDepth 100000 in
set_option maxHeartbeats 16000000 in
theorem enum_main (p : Option Addr) (zs : List Int) (c : Nat) (most : Int) (w : World) (h1 : zs.length ≤ 1000) (RA : Hid (SlI w p zs)) (hm : 0 ≤ most ∧ most ≤ 255) (hC : cnt zs ≤ 3000) :
    Calls Try.prog 5 #[.slice p zs.length c, .int .u8 most] w (RT w) := by
  have EX := Lib.hid exam
  have KR := fun (u : World) (hu : Below w.heap.size w u) => Lib.hid (SlI.keep hu RA.out)
  have CC := Lib.hid (rcount1 p zs c w (by unfold maxLen; omega) RA)
  have CA := Lib.hid fun u hu => rall1 p zs c u (by unfold maxLen; omega) (KR u hu)
  have CB := Lib.hid fun lim u hu => coll1 p zs c lim u (by unfold maxLen; omega) (by omega) (KR u hu)
  have PL := Lib.hid fun a : Int => pt_length zs a
  have PI := Lib.hid fun (i j : Nat) (hi : (i : Int) < cnt zs) (hj : (j : Int) < cnt zs) (hne : i ≠ j) (e : (pt zs (i : Int)).map (Value.int .i64) = (pt zs (j : Int)).map (Value.int .i64)) => (by
    have hp := cnt_pos (by omega) hi
    rw [hp.2.2.2.1] at hi hj
    exact hne (pt_inj hp.2.2.1 hi hj e) : False)
  have CI := Lib.hid fun (u : World) (q q' : Option Addr) (d d' : Nat) (xs : List Int) (hx : xs.length = zs.length) (A : SlI u q xs) (B : SlI u q' xs) (m : Nat) => (by
    have h := intEq1 q q' xs xs d d' (u.drewN m) (by rw [hx]; unfold maxLen; omega) (by rw [hx]; unfold maxLen; omega) (Lib.hid (SlI.keep (World.below_drewN' (Below.refl _ u) m) A)) (Lib.hid (SlI.keep (World.below_drewN' (Below.refl _ u) m) B))
    rw [decide_eq_true rfl, hx] at h
    exact h : Calls Try.prog 21 #[.slice q zs.length d, .slice q' zs.length d'] (u.drewN m) (DR (.bool true) (u.drewN m)))
  obtain ⟨C, hCC⟩ : ∃ C, cnt zs = C := ⟨_, rfl⟩
  have HK1 : Hid (kC 4000 C = C.toNat) := Lib.hid (by rw [kC_pos (by omega)]; omega)
  have HK2 : Hid (kC most C = min most.toNat C.toNat) := Lib.hid (kC_pos hm.1)
  have j0 : decide ((1000 : Int) < zs.length) = false := decide_eq_false (by omega)
  have j1 : decide ((3000 : Int) < C) = false := decide_eq_false (by omega)
  have jw : IntKind.i64.wrap most = most := by rw [IntKind.wrap_i64]; omega
  unfold RAW at CA
  rw [hCC] at CC CA CB PI hC
  clear hCC KR
  obtain ⟨N, hN⟩ : ∃ N, zs.length = N := ⟨_, rfl⟩
  rw [hN] at CC CA CB PL CI h1 j0 ⊢
  have HN := Lib.hid hN
  clear hN
  go_enter Try.func5, Try.ntmps5
  go_wp2_with fail
  refine CC.out.mono ?_
  rintro e w' ⟨rfl, md, rfl⟩
  have K1 := Lib.hid (World.below_drewN' (Below.refl w.heap.size w) md)
  generalize w.drewN md = w1 at *
  clear CC
  go_wp2_with fail
  refine (CA.out w1 K1.out).mono ?_
  rintro e w2 ⟨vw, ws, rfl, hlw, hb, how, hpw⟩
  obtain ⟨qw, cw, rfl⟩ := own_slice how
  have K2 := Lib.hid (K1.out.trans (hb.mono K1.out.size))
  have OW2 := Lib.hid how
  have PW2 := Lib.hid hpw
  clear hb how hpw CA
  rw [hlw] at OW2 ⊢
  go_wp2_with fail
  refine (CB.out 4000 w2 K2.out).mono ?_
  rintro e w3 ⟨va, as9, rfl, hla, hb, hoa, hpa⟩
  obtain ⟨qa, ca, rfl⟩ := own_slice hoa
  have K3 := Lib.hid (K2.out.trans (hb.mono K2.out.size))
  have BW := Lib.hid hb
  have OA3 := Lib.hid hoa
  have PA3 := Lib.hid hpa
  clear hb hoa hpa
  rw [HK1.out] at hla
  rw [hla] at OA3 ⊢
  go_wp2_with fail
  refine (CB.out most w3 K3.out).mono ?_
  rintro e w4 ⟨vb, bs, rfl, hlb, hb, hob, hpb⟩
  obtain ⟨qb, cb, rfl⟩ := own_slice hob
  have K4 := Lib.hid (K3.out.trans (hb.mono K3.out.size))
  have BA := Lib.hid hb
  have OB4 := Lib.hid hob
  have PB4 := Lib.hid hpb
  clear hb hob hpb CB
  rw [HK2.out] at hlb
  obtain ⟨S, hS⟩ : ∃ S, C.toNat = S := ⟨_, rfl⟩
  rw [hS] at hlw hla hlb OW2 OA3 ⊢
  obtain ⟨nb, hnb⟩ : ∃ nb, bs.length = nb := ⟨_, rfl⟩
  rw [hnb] at hlb OB4 ⊢
  have HSC : Hid ((S : Int) = C ∨ C < 0) := Lib.hid (by omega)
  have hCS : ∀ i : Nat, i < S → (i : Int) < C := fun i hi => by have := HSC.out; omega
  have OW3 := Lib.hid (own_beyond' BW.out OW2.out)
  have PW3 := Lib.hid (PW2.out.KI (KI.below BW.out))
  have hnS9 : nb ≤ S := by omega
  have hS3 : S ≤ 3000 := by omega
  have HLB := Lib.hid hlb
  have hmin : (if (S : Int) < most then (S : Int) else most) = (nb : Int) := by split <;> omega
  have hnn : ((nb : Int) != (nb : Int)) = false := by simp
  clear hlb
  go_wp2_with fail
  all_goals
    go_loopw [8] (fun iv wr => ∃ i : Nat, iv = .int .i64 (i : Int) ∧ i ≤ nb ∧ Hid (Below w3.heap.size w3 wr) ∧ Hid (wr.ownsRow w3.heap.size 22 1 (.slice qb nb cb) nb bs) ∧ Hid (∀ (j : Nat) (v : Value), i ≤ j → bs[j]? = some v → wr.ownsRow w3.heap.size 3 1 v N ((pt zs (j : Int)).map (Value.int .i64)))) (fun iv _ => nb - (intOf iv).toNat)
    case atStart => exact ⟨0, rfl, by omega, BA, OB4, Lib.hid fun j v _ hv => by have h := PB4.out j v hv; rw [HN.out] at h; exact h⟩
    case round =>
      obtain ⟨i, rfl, hin, HB, HO, HP⟩ := hrel
      have i0 : (0 : Int) ≤ i := by omega
      by_cases hlt : i < nb
      · have k1 : (i : Int) < nb := by omega
        have hnS := hnS9
        have k2 : (i : Int) < S := by omega
        have hiC : (i : Int) < C := by omega
        obtain ⟨y, hy⟩ : ∃ y, bs[i]? = some y := ⟨_, List.getElem?_eq_getElem (by omega)⟩
        have hOi := HP.out i y (Nat.le_refl _) hy
        obtain ⟨qi, di, rfl⟩ := own_slice hOi
        have OWr := own_beyond' HB.out OW3.out
        obtain ⟨z, hz⟩ : ∃ z, ws[i]? = some z := ⟨_, List.getElem?_eq_getElem (by omega)⟩
        have hOz := (PW3.out.KI (KI.below HB.out)) i z hz
        rw [HN.out] at hOz
        obtain ⟨qz, dz, rfl⟩ := own_slice hOz
        obtain ⟨gb, cb2, heb, _, _⟩ := HO.out.form (by omega)
        obtain ⟨gw, cw2, hew, _, _⟩ := OWr.form (by omega)
        have hcb := HO.out
        rw [heb] at hcb
        have hcb := (hcb.cellAt i (by omega)).trans hy
        rw [hew] at OWr
        have hcw := (OWr.cellAt i (by omega)).trans hz
        have CIi := Lib.hid (CI.out wr qi qz di dz (pt zs i) (PL.out i) (SlI_of (PL.out i) hOi) (SlI_of (PL.out i) hOz))
        have HOI := Lib.hid hOi
        have HEB := Lib.hid heb
        have b1 : ((i : Int) < nb) := k1
        rw [heb, hew]
        have HYI := Lib.hid hy
        clear OWr hOz hOi heb hew hz hy
        go_wp2
        go_quiet ((go_at_call 21; exact Calls.quiet_of (CIi.out _)))
        clear CIi hcb hcw
        go_wp2
        go_loopw [9] (fun kv w6 => ∃ kk : Nat, kv = .int .i64 (kk : Int) ∧ kk ≤ N ∧ Hid (wr.grownBy w6 (Value.slice qi N di).ownBlock) ∧ Hid (∃ ys : List Int, ys.length = N ∧ w6.ownsRow w3.heap.size 3 1 (.slice qi N di) N (ys.map (Value.int .i64)))) (fun kv _ => N - (intOf kv).toNat)
        case atStart => exact ⟨0, rfl, by omega, Lib.hid (grown_drewN _ _ _), Lib.hid ⟨pt zs i, PL.out i, HOI.out⟩⟩
        case round =>
          obtain ⟨kk, rfl, hkn, HG, HYS⟩ := hrel
          have kk0 : (0 : Int) ≤ kk := by omega
          have HO6 := Lib.hid (HO.out.kept HG.out (own_tne HO.out HOI.out (by decide)))
          have hcb := HO6.out
          rw [HEB.out] at hcb
          have HO6b := Lib.hid hcb
          have hcb := (hcb.cellAt i (by omega)).trans HYI.out
          by_cases hlt6 : kk < N
          · have kk1 : (kk : Int) < N := by omega
            obtain ⟨ys, hyl, hown⟩ := HYS.out
            obtain ⟨gi, ci, hei, _, _⟩ := hown.form (by omega)
            cases hei
            have oc := cells_of hown (j := kk) (by omega) hyl
            have of := hown.frozenAt kk
            obtain ⟨x, hx⟩ : ∃ x, ys.getD kk 0 = x := ⟨_, rfl⟩
            rw [hx] at oc
            obtain ⟨V, hV⟩ : ∃ V, IntKind.i64.wrap (x + 1) = V := ⟨_, rfl⟩
            have HST := Lib.hid (hown.stored kk (.int .i64 V)).1
            have HYL := Lib.hid hyl
            clear hown HYS hyl hx
            go_wp2
            go_roundw
            case rel => exact ⟨kk + 1, by go_num, by omega, Lib.hid (grown_set HG.out kk _), Lib.hid ⟨ys.set kk V, by simp [HYL.out], by rw [List.map_set]; exact HST.out⟩⟩
            case measure => simp [intOf]; omega
          · have kk1 : ¬ (kk : Int) < N := by omega
            clear HYS
            go_wp2
            have HB7 := Lib.hid (HB.out.grown HG.out HB.out.size (fun q' hq' => (HOI.out.lt q' hq').1))
            have HP7 := Lib.hid (fun (j : Nat) (v : Value) (hj : i + 1 ≤ j) (hv : bs[j]? = some v) => (by
              have hjn : j < nb := by have := (List.getElem?_eq_some_iff.1 hv).1; omega
              have h := HP.out j v (by omega) hv
              exact h.kept HG.out (own_ne h HOI.out (fun e => PI.out j i (by have := hnS9; omega) hiC (by omega) e))))
            go_roundw
            case rel => exact ⟨i + 1, by go_num, by omega, HB7, HO6b, HP7⟩
            case measure => simp [intOf]; omega
      · have k1 : ¬ (i : Int) < nb := by omega
        have OA5 := Lib.hid (own_beyond' HB.out OA3.out)
        have PA5 := Lib.hid (PA3.out.KI (KI.below HB.out))
        have BW5 := Lib.hid (BW.out.trans (HB.out.mono BW.out.size))
        clear HP HO HB OA3 PA3 BW BA
        go_wp2
        go_loopw [10] (fun iv wr => ∃ i : Nat, iv = .int .i64 (i : Int) ∧ i ≤ S ∧ Hid (Below w2.heap.size w2 wr) ∧ Hid (wr.ownsRow w2.heap.size 22 1 (.slice qa S ca) S as9) ∧ Hid (∀ (j : Nat) (v : Value), i ≤ j → as9[j]? = some v → wr.ownsRow w2.heap.size 3 1 v N ((pt zs (j : Int)).map (Value.int .i64)))) (fun iv _ => S - (intOf iv).toNat)
        case atStart => exact ⟨0, rfl, by omega, BW5, OA5, Lib.hid fun j v _ hv => by have h := PA5.out j v hv; rw [HN.out] at h; exact h⟩
        case round =>
          obtain ⟨i, rfl, hin, HB, HO, HP⟩ := hrel
          have i0 : (0 : Int) ≤ i := by omega
          by_cases hlt : i < S
          · have k1 : (i : Int) < S := by omega
            have hnS := (Nat.le_refl S)
            have k2 : (i : Int) < S := by omega
            have hiC : (i : Int) < C := by omega
            obtain ⟨y, hy⟩ : ∃ y, as9[i]? = some y := ⟨_, List.getElem?_eq_getElem (by omega)⟩
            have hOi := HP.out i y (Nat.le_refl _) hy
            obtain ⟨qi, di, rfl⟩ := own_slice hOi
            have OWr := own_beyond' HB.out OW2.out
            obtain ⟨z, hz⟩ : ∃ z, ws[i]? = some z := ⟨_, List.getElem?_eq_getElem (by omega)⟩
            have hOz := (PW2.out.KI (KI.below HB.out)) i z hz
            rw [HN.out] at hOz
            obtain ⟨qz, dz, rfl⟩ := own_slice hOz
            obtain ⟨gb, cb2, heb, _, _⟩ := HO.out.form (by omega)
            obtain ⟨gw, cw2, hew, _, _⟩ := OWr.form (by omega)
            have hcb := HO.out
            rw [heb] at hcb
            have hcb := (hcb.cellAt i (by omega)).trans hy
            rw [hew] at OWr
            have hcw := (OWr.cellAt i (by omega)).trans hz
            have CIi := Lib.hid (CI.out wr qi qz di dz (pt zs i) (PL.out i) (SlI_of (PL.out i) hOi) (SlI_of (PL.out i) hOz))
            have HOI := Lib.hid hOi
            have HEB := Lib.hid heb
            have b1 : ((i : Int) < S) := k1
            rw [heb, hew]
            have HYI := Lib.hid hy
            clear OWr hOz hOi heb hew hz hy
            go_wp2
            go_quiet ((go_at_call 21; exact Calls.quiet_of (CIi.out _)))
            clear CIi hcb hcw
            go_wp2
            go_loopw [11] (fun kv w6 => ∃ kk : Nat, kv = .int .i64 (kk : Int) ∧ kk ≤ N ∧ Hid (wr.grownBy w6 (Value.slice qi N di).ownBlock) ∧ Hid (∃ ys : List Int, ys.length = N ∧ w6.ownsRow w2.heap.size 3 1 (.slice qi N di) N (ys.map (Value.int .i64)))) (fun kv _ => N - (intOf kv).toNat)
            case atStart => exact ⟨0, rfl, by omega, Lib.hid (grown_drewN _ _ _), Lib.hid ⟨pt zs i, PL.out i, HOI.out⟩⟩
            case round =>
              obtain ⟨kk, rfl, hkn, HG, HYS⟩ := hrel
              have kk0 : (0 : Int) ≤ kk := by omega
              have HO6 := Lib.hid (HO.out.kept HG.out (own_tne HO.out HOI.out (by decide)))
              have hcb := HO6.out
              rw [HEB.out] at hcb
              have HO6b := Lib.hid hcb
              have hcb := (hcb.cellAt i (by omega)).trans HYI.out
              by_cases hlt6 : kk < N
              · have kk1 : (kk : Int) < N := by omega
                obtain ⟨ys, hyl, hown⟩ := HYS.out
                obtain ⟨gi, ci, hei, _, _⟩ := hown.form (by omega)
                cases hei
                have oc := cells_of hown (j := kk) (by omega) hyl
                have of := hown.frozenAt kk
                obtain ⟨x, hx⟩ : ∃ x, ys.getD kk 0 = x := ⟨_, rfl⟩
                rw [hx] at oc
                obtain ⟨V, hV⟩ : ∃ V, IntKind.i64.wrap (x + 1) = V := ⟨_, rfl⟩
                have HST := Lib.hid (hown.stored kk (.int .i64 V)).1
                have HYL := Lib.hid hyl
                clear hown HYS hyl hx
                go_wp2
                go_roundw
                case rel => exact ⟨kk + 1, by go_num, by omega, Lib.hid (grown_set HG.out kk _), Lib.hid ⟨ys.set kk V, by simp [HYL.out], by rw [List.map_set]; exact HST.out⟩⟩
                case measure => simp [intOf]; omega
              · have kk1 : ¬ (kk : Int) < N := by omega
                clear HYS
                go_wp2
                have HB7 := Lib.hid (HB.out.grown HG.out HB.out.size (fun q' hq' => (HOI.out.lt q' hq').1))
                have HP7 := Lib.hid (fun (j : Nat) (v : Value) (hj : i + 1 ≤ j) (hv : as9[j]? = some v) => (by
                  have hjn : j < S := by have := (List.getElem?_eq_some_iff.1 hv).1; omega
                  have h := HP.out j v (by omega) hv
                  exact h.kept HG.out (own_ne h HOI.out (fun e => PI.out j i (by have := (Nat.le_refl S); omega) hiC (by omega) e))))
                go_roundw
                case rel => exact ⟨i + 1, by go_num, by omega, HB7, HO6b, HP7⟩
                case measure => simp [intOf]; omega
          · have k1 : ¬ (i : Int) < S := by omega
            go_wp2_with fail
            have KZ := Lib.hid (K2.out.trans (HB.out.mono K2.out.size))
            refine (EX.out _).mono ?_
            rintro e w9 ⟨rfl, hb⟩
            have K9 := Lib.hid (KZ.out.trans (hb.mono KZ.out.size))
            clear hb
            go_wp2
            go_ret
            exact ⟨rfl, K9.out⟩
end Go.Proofs.Ytkdfidjoighknaa.Bx
