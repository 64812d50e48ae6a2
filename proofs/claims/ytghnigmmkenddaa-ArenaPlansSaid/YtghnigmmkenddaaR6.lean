/- Plan of the reference. -/
import Derived.Test.YtghnigmmkenddaaR5
namespace Go.Proofs.Ytghnigmmkenddaa.Ar
open Go.ChangeShapes Go.WideShapes Go.ChangeAt Go.RowKit
open Go.Proofs.Ytghnigmmkenddaa.Lv Go.Proofs.Ytghnigmmkenddaa.Nm
set_option linter.unusedVariables false
set_option linter.unusedSimpArgs false

/-- The places by decreasing size, of the first ones. -/
def OrI (kx : Int → Int) (i : Nat) (O : List Int) : Prop := O.length = i ∧ O.Perm (idn i) ∧ SrtC (cfk kx) 0 i O
theorem idn_snoc (i : Nat) : idn (i + 1) = idn i ++ [(i : Int)] := by unfold idn; rw [List.range_succ, List.map_append]; rfl
theorem OrI.next {kx : Int → Int} {i : Nat} {O : List Int} (h : OrI kx i O) : OrI kx (i + 1) (insJ (cfk kx) 0 i (O ++ [(i : Int)])) := by
  obtain ⟨h1, h2, h3⟩ := h
  have e : ∀ k, k < i → (O ++ [(i : Int)]).getD k e50 = O.getD k e50 := fun k hk => by
    rw [List.getD_eq_getElem?_getD, List.getD_eq_getElem?_getD, List.getElem?_append_left (by omega)]
  have g := insJ_ok (cfk_ord kx) 0 i i (O ++ [(i : Int)]) (Nat.zero_le _) (Nat.le_refl _) (by simp; omega) (fun p q p0 pq qi qn => by
    rw [e p (by omega), e q (by omega)]
    exact h3 p q p0 pq (by omega))
  refine ⟨by rw [g.1.len]; simp; omega, g.1.perm.trans ?_, g.2⟩
  rw [idn_snoc]
  exact h2.append_right _
theorem OrI.lt {kx : Int → Int} {i : Nat} {O : List Int} (h : OrI kx i O) {k : Nat} (hk : k < i) : ∃ j : Nat, j < i ∧ O.getD k e50 = j := idn_mem (h.2.1.mem_iff.1 (getD_mem5 (by rw [h.1]; exact hk)))
set_option maxRecDepth 100000 in
set_option maxHeartbeats 8000000 in
/-- Plan of the reference. -/
theorem planR (p : Option Addr) (xs : List Lf) (c n : Nat) (w : World) (HN : Hid (xs.length = n)) (hn : n ≤ 60) (RA : Hid (SlL w p xs)) (RS : Hid (∀ i, i < xs.length → (xs.getD i lf0).1.size ≤ maxLen)) :
    Calls Try.prog 11 #[.slice p n c] w fun e w' => ∃ v, e = .returned (.tuple #[v, .int .i64 (plF xs).2.1, .int .i64 (plF xs).2.2]) ∧ Below w.heap.size w w' ∧ w'.ownsRow w.heap.size 39 3 v (plF xs).1.length (rowS (plF xs).1) := by
  have C := Lib.hid (rval p xs c w (by rw [HN.out]; exact hn) RA RS)
  rw [HN.out] at C
  by_cases hv : vE xs = 0
  case neg =>
    have HP : Hid (plF xs = ([], 0, vE xs)) := Lib.hid (by unfold plF; rw [if_neg hv])
    rw [HP.out]
    obtain ⟨E, hE⟩ : ∃ E, vE xs = E := ⟨_, rfl⟩
    rw [hE] at C hv ⊢
    have e1 : (E != 0) = true := by simpa using hv
    clear hE
    go_enter Try.func11, Try.ntmps11
    go_wp2_with (go_at_call 23; (with_reducible refine C.out.mono ?_); rintro e w1 ⟨rfl, B1⟩)
    refine bodyPost_ret (v := .tuple #[.slice none 0 0, .int .i64 0, .int .i64 E]) (by simp [results, Try.results11, go_sem]) rfl ?_
    exact ⟨_, rfl, B1, World.ownsRow_nil _ _ _ _⟩
  have HV := Lib.hid hv
  have HP : Hid (plF xs = ((ffG xs [] (ksz xs) (List.replicate xs.length st0) 0).1, (ffG xs [] (ksz xs) (List.replicate xs.length st0) 0).2, 0)) := Lib.hid (by unfold plF; rw [if_pos hv])
  rw [hv] at C
  have HZ : Hid (∀ i, i < n → 1 ≤ (xs.getD i lf0).2.2.2 ∧ (xs.getD i lf0).2.2.2 ≤ 4096) := Lib.hid fun i hi => by have := valid_at HV.out (i := i) (by rw [HN.out]; exact hi); omega
  have hz : ∀ i, i < xs.length → 1 ≤ (xs.getD i lf0).2.2.2 ∧ (xs.getD i lf0).2.2.2 ≤ 4096 := fun i hi => HZ.out i (by rw [← HN.out]; exact hi)
  have HKP : Hid ((ksz xs).length = n ∧ (ksz xs).Nodup ∧ ∀ k ∈ ksz xs, k < n) := Lib.hid ⟨by rw [ksz_eq, kxx_len, HN.out], by rw [ksz_eq]; exact (kxx_perm _ _).nodup_iff.2 List.nodup_range, fun k hk => by rw [ksz_eq] at hk; rw [← HN.out]; exact kxx_mem hk⟩
  have FB := ffG_bd xs hz (ksz xs) [] (List.replicate xs.length st0) 0 0 (fun k hk => by rw [HN.out]; exact HKP.out.2.2 k hk) (rep_bd _) (Int.le_refl _) (Int.le_refl _) (Int.le_refl _)
  have G := ffG_GI xs (ksz xs) [] (List.replicate xs.length st0) 0 0 (by rw [List.nil_append]; exact HKP.out.2.1) (fun k hk => by rw [List.length_replicate, HN.out]; exact HKP.out.2.2 k hk) (rep_bd _) (Int.le_refl _) (GI0 _ _) (fun k hk => hz k (by rw [HN.out]; exact HKP.out.2.2 k hk))
  have HIN : Hid (∀ i, i < n → i ∈ ksz xs) := Lib.hid fun i hi => by rw [ksz_eq]; exact (kxx_perm _ _).mem_iff.2 (List.mem_range.2 (by rw [HN.out]; exact hi))
  obtain ⟨LL, hLL⟩ : ∃ LL, (ffG xs [] (ksz xs) (List.replicate xs.length st0) 0).1 = LL := ⟨_, rfl⟩
  obtain ⟨SZ, hSZ⟩ : ∃ SZ, (ffG xs [] (ksz xs) (List.replicate xs.length st0) 0).2 = SZ := ⟨_, rfl⟩
  rw [List.nil_append, hLL, hSZ] at G
  rw [HP.out, hLL, hSZ]
  have HLE : Hid (LL.length = n) := Lib.hid (by rw [← hLL, FB.2.2.1, List.length_replicate, HN.out])
  have HG := Lib.hid G
  have HLL := Lib.hid hLL
  have HSZ := Lib.hid hSZ
  obtain ⟨i0, hi, hz0, hz1, hz2⟩ := info_parts info3
  have HI3 := Lib.hid (And.intro hi (And.intro hz0 (And.intro hz1 hz2)))
  obtain ⟨i9, hi9, hy0, hy1, hy2⟩ := info_parts info39
  have HI39 := Lib.hid (And.intro hi9 (And.intro hy0 (And.intro hy1 hy2)))
  obtain ⟨kx, hkx⟩ : ∃ kx : Int → Int, kx = (fun i => -(xs.getD i.toNat lf0).2.2.2) := ⟨_, rfl⟩
  have HKX := Lib.hid hkx
  clear hv hz FB G hLL hSZ hi hz0 hz1 hz2 hi9 hy0 hy1 hy2 hkx
  go_enter Try.func11, Try.ntmps11
  go_wp2_with (go_at_call 23; (with_reducible refine C.out.mono ?_); rintro e w1 ⟨rfl, B1⟩)
  have HB1 := Lib.hid B1
  clear B1
  go_loopw [6, 7] (fun ov9 iv wr => ∃ (i : Nat) (O : List Int), iv = .int .i64 (i : Int) ∧ i ≤ n ∧ Hid (OrI kx i O) ∧ Hid (wr.ownsRow w.heap.size 3 1 ov9 i (rowE O)) ∧ Hid (Below w.heap.size w wr)) (fun _ iv _ => n - (intOf iv).toNat)
  case atStart => exact ⟨0, [], rfl, Nat.zero_le _, Lib.hid ⟨rfl, List.Perm.refl _, fun i j _ _ h => absurd h (Nat.not_lt_zero _)⟩, Lib.hid (World.ownsRow_nil _ _ _ _), HB1⟩
  case round =>
    clear HB1
    obtain ⟨i, O, rfl, hin, HO, hO, hB⟩ := hrel
    obtain ⟨w0, hw0⟩ : ∃ w0, w0 = wr := ⟨_, rfl⟩
    subst hw0
    by_cases hlt : i < n
    · have i0' : (0 : Int) ≤ i := by omega
      have i1 : (i : Int) < n := by omega
      have hs0 := hB.out.size
      have OA := Lib.hid (hO.out.alloc (Obj.cells #[.int .i64 (i : Int)] 3))
      have a0 : (w0.alloc (Obj.cells #[.int .i64 (i : Int)] 3)).cell? ⟨w0.heap.size, 0, none⟩ = some (.int .i64 (i : Int)) := by go_cell
      have BA : Hid (Below w.heap.size w (w0.alloc (Obj.cells #[.int .i64 (i : Int)] 3))) := Lib.hid (hB.out.alloc hs0 _)
      obtain ⟨ov8, hov⟩ := own_slice hO.out
      obtain ⟨hi, hz0, hz1, hz2⟩ := HI3.out
      go_wp2_with (at_builtin; refine wpList_append_own _ rfl _ _ 43 rfl w.heap.size 3 i0 (.int .i64 0) 1 8 Try.underlying43 hi hz0 hz1 hz2 rfl (by decide) _ _ _ rfl OA.out ⟨w0.heap.size, 0, none⟩ 1 1 [.int .i64 (i : Int)] rfl rfl ?_ ?_ ?_ ?_ ?_ ?_)
      · intro q' x' hx'
        rcases q' with _ | q'
        · cases hx'; exact a0
        · simp at hx'
      · intro x' hx'
        simp at hx'
        subst hx'
        rfl
      · unfold maxLen; omega
      · omega
      · have := BA.out.size; simpa using this
      intro v' w5 hown' hgrow _
      have K5 : Hid (Below w.heap.size w w5) := Lib.hid (BA.out.grown hgrow (by have := BA.out.size; exact this) (fun q' hq' => (OA.out.lt q' hq').1))
      rcases hown'.2 with ⟨_, h0⟩ | ⟨g, cap, cur, rfl, hgb, hheap, hcp, _⟩
      · omega
      have hown2 : Hid (w5.ownsRow w.heap.size 3 1 (.slice (some ⟨g, 0, none⟩) (i + 1) cap) (i + 1) (rowE (O ++ [(i : Int)]))) := Lib.hid (by
        unfold rowE
        rw [List.map_append]
        exact hown')
      have HON := Lib.hid HO.out.next
      obtain ⟨RJ, hRJ⟩ : ∃ RJ, insJ (cfk kx) 0 i (O ++ [(i : Int)]) = RJ := ⟨_, rfl⟩
      rw [hRJ] at HON
      have HRJ := Lib.hid hRJ
      have HOM : Hid (∀ k, k < i → (O ++ [(i : Int)]).getD k e50 < (O ++ [(i : Int)]).getD i e50) := Lib.hid fun k hk => by
        obtain ⟨j, hj, e⟩ := HO.out.lt hk
        have hl := HO.out.1
        have e1 : (O ++ [(i : Int)]).getD k e50 = O.getD k e50 := by rw [List.getD_eq_getElem?_getD, List.getD_eq_getElem?_getD, List.getElem?_append_left (by omega)]
        have e2 : (O ++ [(i : Int)]).getD i e50 = i := by rw [List.getD_eq_getElem?_getD, List.getElem?_append_right (by omega), hl, Nat.sub_self]; rfl
        rw [e1, e2, e]; omega
      have HDM : Hid ((O ++ [(i : Int)]).length = i + 1 ∧ ∀ x ∈ O ++ [(i : Int)], ∃ j : Nat, j < n ∧ x = j) := Lib.hid ⟨by rw [List.length_append, HO.out.1]; rfl, fun x hx => by
        rcases List.mem_append.1 hx with h | h
        · obtain ⟨j, hj, e⟩ := idn_mem (HO.out.2.1.mem_iff.1 h)
          exact ⟨j, by omega, e⟩
        · rw [List.mem_singleton] at h; exact ⟨i, hlt, h⟩⟩
      clear hown' hgrow OA a0 BA hi hz0 hz1 hz2 hov hO hB hRJ hheap HO
      go_wp2_with fail
      go_loopw [8] (fun jv wr => ∃ (j : Nat) (L2 : List Int), jv = .int .i64 (j : Int) ∧ j ≤ i ∧ Hid (insJ (cfk kx) 0 j L2 = RJ) ∧ Hid (L2.length = i + 1 ∧ ∀ x ∈ L2, ∃ j : Nat, j < n ∧ x = j) ∧ Hid (∀ k, k < j → L2.getD k e50 < L2.getD j e50) ∧ Hid (wr.ownsRow w.heap.size 3 1 (.slice (some ⟨g, 0, none⟩) (i + 1) cap) (i + 1) (rowE L2)) ∧ Hid (Below w.heap.size w wr)) (fun jv _ => (intOf jv).toNat)
      case atStart => exact ⟨i, _, rfl, Nat.le_refl _, HRJ, HDM, HOM, hown2, K5⟩
      case round =>
        clear HRJ HDM HOM hown2 K5
        obtain ⟨j, L2, rfl, hji, HJ, HM, HA, hOW, hB⟩ := hrel
        obtain ⟨w2, hw2⟩ : ∃ w2, w2 = wr := ⟨_, rfl⟩
        subst hw2
        have jj : (0 : Int) ≤ j := by omega
        rcases Nat.eq_zero_or_pos j with rfl | hjp
        · have j9 : decide ((0 : Int) < ((0 : Nat) : Int)) = false := by decide
          have j8 : decide ((0 : Int) < 0) = false := by decide
          have HE : Hid (OrI kx (i + 1) L2) := Lib.hid (by have h := HJ.out; rw [insJ_stop (Nat.le_refl _)] at h; rw [h]; exact HON.out)
          go_wp2_with fail
          go_quiet (fail)
          go_wp2_with fail
          go_roundw
          case rel => exact ⟨i + 1, L2, by go_num, by omega, HE, hOW, Lib.hid (below_drewN hB.out _)⟩
          case measure => (simp [intOf] <;> omega)
        obtain ⟨m, rfl⟩ : ∃ m, j = m + 1 := ⟨j - 1, by omega⟩
        have hm1 : m + 1 < L2.length := by rw [HM.out.1]; omega
        have hm0 : m < L2.length := by omega
        have cx := (hOW.out.cellAt (m + 1) (by omega)).trans (rowE_get L2 (m + 1) hm1)
        have cy := (hOW.out.cellAt m (by omega)).trans (rowE_get L2 m hm0)
        obtain ⟨x, hxn, ex⟩ := HM.out.2 _ (getD_mem5 hm1)
        obtain ⟨y, hyn, ey⟩ := HM.out.2 _ (getD_mem5 hm0)
        have hlt9 := HA.out m (Nat.lt_succ_self _)
        rw [ex] at cx hlt9
        rw [ey] at cy hlt9
        have HEX := Lib.hid ex
        have HEY := Lib.hid ey
        obtain ⟨b, o, rfl, hbw, _, _, _, x3⟩ := SlL_at RA.out HN.out hxn
        obtain ⟨b', o', ee, _, _, _, _, y3⟩ := SlL_at RA.out HN.out hyn
        cases ee
        have x3 := kpb hB.out hbw x3
        have y3 := kpb hB.out hbw y3
        have hcf : cfk kx (L2.getD (m + 1) e50) (L2.getD m e50) < 0 ↔ (xs.getD y lf0).2.2.2 < (xs.getD x lf0).2.2.2 := by
          rw [ex, ey, cfk_neg, HKX.out]
          simp only [Int.toNat_natCast]
          omega
        obtain ⟨zx, hzx⟩ : ∃ zx, (xs.getD x lf0).2.2.2 = zx := ⟨_, rfl⟩
        obtain ⟨zy, hzy⟩ : ∃ zy, (xs.getD y lf0).2.2.2 = zy := ⟨_, rfl⟩
        rw [hzx] at x3 hcf
        rw [hzy] at y3 hcf
        have HCF := Lib.hid hcf
        have wj : IntKind.i64.wrap ((m : Int) + 1 - 1) = m := by rw [IntKind.wrap_i64]; omega
        have wj2 : IntKind.i64.wrap (m : Int) = m := by rw [IntKind.wrap_i64]; omega
        have j1 : decide ((0 : Int) < (m : Int) + 1) = true := by rw [decide_eq_true_eq]; omega
        have j2 : (m : Int) + 1 < (i : Int) + 1 := by omega
        have j3 : (m : Int) < (i : Int) + 1 := by omega
        have j4 : (0 : Int) ≤ m := by omega
        have j5 : (0 : Int) ≤ (m : Int) + 1 := by omega
        have q0 : (0 : Int) ≤ x := by omega
        have q1 : (x : Int) < n := by omega
        have q2 : (0 : Int) ≤ y := by omega
        have q3 : (y : Int) < n := by omega
        clear ex ey hzx hzy hcf hlt9
        by_cases ht : zy < zx
        · have t1 : decide (zy < zx) = true := decide_eq_true ht
          have HJ2 : Hid (insJ (cfk kx) 0 m (swE L2 (m + 1) m) = RJ) := Lib.hid (by rw [← HJ.out, insJ_go (by omega) (HCF.out.2 ht)])
          have HM2 : Hid ((swE L2 (m + 1) m).length = i + 1 ∧ ∀ x ∈ swE L2 (m + 1) m, ∃ j : Nat, j < n ∧ x = j) := Lib.hid ⟨by rw [swE_len]; exact HM.out.1, fun z hz => HM.out.2 z (swE_mem hm1 hm0 hz)⟩
          have HA2 : Hid (∀ k, k < m → (swE L2 (m + 1) m).getD k e50 < (swE L2 (m + 1) m).getD m e50) := Lib.hid fun k hk => by
            rw [swE_get hm1 hm0, swE_get hm1 hm0, if_neg (by omega), if_neg (by omega), if_pos rfl]
            exact HA.out k (by omega)
          have HEND := Lib.hid (swq_world (x := (x : Int)) (y := (y : Int)) (.inl hgb) hOW.out HM.out.1 hm1 hm0 HEX.out HEY.out)
          have f0 : w2.frozen? ⟨g, m + 1, none⟩ = false := hOW.out.frozenAt _
          have f3 : w2.frozen? ⟨g, m, none⟩ = false := hOW.out.frozenAt _
          clear ht HJ HM HA hm1 hm0
          go_wp2_with fail
          go_quiet (fail)
          go_wp2_with fail
          go_roundw
          case rel => exact ⟨m, swE L2 (m + 1) m, by go_num, by omega, HJ2, HM2, HA2, Lib.hid (own_belowE HEND.out.1 (below_drewN (Below.refl _ _) _)), Lib.hid (below_drewN (hB.out.trans (HEND.out.2.2.mono (by have := hB.out.size; omega))) _)⟩
          case measure => (simp [intOf] <;> omega)
        · have t1 : decide (zy < zx) = false := decide_eq_false ht
          have HE : Hid (OrI kx (i + 1) L2) := Lib.hid (by have h := HJ.out; rw [insJ_no (fun h9 => ht (HCF.out.1 h9))] at h; rw [h]; exact HON.out)
          clear ht HJ HM HA hm1 hm0
          go_wp2_with fail
          go_quiet (fail)
          go_wp2_with fail
          go_roundw
          case rel => exact ⟨i + 1, L2, by go_num, by omega, HE, hOW, Lib.hid (below_drewN hB.out _)⟩
          case measure => (simp [intOf] <;> omega)
    obtain rfl : i = n := by omega
    have i1 : ¬ (i : Int) < i := by omega
    have hOL := ordL_uniq HO.out.2.1 HO.out.2.2
    have hO2 := hO.out
    rw [hOL] at hO2
    obtain ⟨q, cq, rfl⟩ := own_slice hO2
    have HKS : Hid (ksz xs = kxx kx i) := Lib.hid (by rw [ksz_eq, HKX.out, HN.out])
    have SN : Hid (SlN w0 q (ksz xs)) := Lib.hid fun k hk => by
      rw [HKS.out, kxx_len] at hk
      rcases hO2.2 with ⟨hv9, h0⟩ | ⟨g, cap, cur, hv9, _⟩
      · omega
      · cases hv9
        have h := (hO2.cellAt k (by omega)).trans (rowE_get _ k (by rw [ordL_len]; exact hk))
        rw [kxx_get hk] at h
        refine ⟨g, 0, rfl, ?_⟩
        rw [Nat.zero_add, HKS.out]
        exact h
    have FC := Lib.hid (fitC p q xs c i i cq (ksz xs) w0 HN hn (Lib.hid (RA.out.keep hB.out)) HZ HKP (Nat.le_refl _) SN)
    have hs0 := hB.out.size
    clear hOL hO2 hO HO
    go_upto_region 18 with (go_at_call 24; (with_reducible refine FC.out.mono ?_); rintro e w3 ⟨va, A, rfl, B3, O3, H3⟩; have hSZ9 : (ffG xs [] (ksz xs) (List.replicate i st0) 0).2 = SZ := (by rw [← HN.out]; exact HSZ.out); rw [hSZ9]; clear hSZ9; have HB3 := Lib.hid (hB.out.trans (B3.mono hs0)); have HO3 := Lib.hid O3; have HA3 : Hid (AL xs (ksz xs) A LL) := Lib.hid (by rw [← HN.out] at H3; rw [HLL.out] at H3; exact H3); clear B3 O3 H3 FC)
    obtain ⟨qa, ca, hva⟩ := own_slice HO3.out
    subst hva
    have HAC : Hid (∀ k, k < i → ∃ ga, qa = some ⟨ga, 0, none⟩ ∧ ga < w3.heap.size ∧ w3.cell? ⟨ga, k, none⟩ = some (.int .i64 (LL.getD k st0).2.1)) := Lib.hid fun k hk => by
      have hAL := HA3.out
      rcases HO3.out.2 with ⟨hv9, h0⟩ | ⟨ga, cap, cur, hv9, _⟩
      · omega
      · cases hv9
        have h := (HO3.out.cellAt k (by omega)).trans (rowE_get A k (by rw [hAL.1, HN.out]; exact hk))
        rw [((hAL.2.2 k (by rw [HN.out]; exact hk)).1 (HIN.out k hk)).1] at h
        exact ⟨ga, rfl, cl_lt h, h⟩
    have hs3 := HB3.out.size
    go_wp2_with fail
    go_loopw [13, 14] (fun ov9 iv wr => ∃ (k : Nat), iv = .int .i64 (k : Int) ∧ k ≤ i ∧ Hid (wr.ownsRow w3.heap.size 39 3 ov9 k (rowS (LL.take k))) ∧ Hid (Below w3.heap.size w3 wr)) (fun _ iv _ => i - (intOf iv).toNat)
    case atStart => exact ⟨0, rfl, Nat.zero_le _, Lib.hid (World.ownsRow_nil _ _ _ _), Lib.hid (Below.refl _ _)⟩
    case round =>
      obtain ⟨k, rfl, hk, hOk, hBk⟩ := hrel
      have HBW : Hid (Below w.heap.size w wr) := Lib.hid (HB3.out.trans (hBk.out.mono hs3))
      have hsk := hBk.out.size
      by_cases hlk : k < i
      case neg =>
        obtain rfl : k = i := by omega
        have k1 : ¬ (k : Int) < k := by omega
        have hOf := hOk.out
        rw [List.take_of_length_le (by rw [HLE.out]; exact Nat.le_refl _)] at hOf
        obtain ⟨qo, co, rfl⟩ := own_slice hOf
        have HOF := Lib.hid hOf
        clear hOf
        go_wp2_with fail
        refine bodyPost_ret (v := .tuple #[.slice qo k co, .int .i64 SZ, .int .i64 0]) (by simp [results, Try.results11, go_sem]) rfl ?_
        exact ⟨_, rfl, HBW.out, by rw [HLE.out]; exact HOF.out.mono hs3⟩
      obtain ⟨ga, rfl, hga, ca0⟩ := HAC.out k hlk
      have ca1 := kpb hBk.out hga ca0
      obtain ⟨b, o, rfl, hbw, x0, _, _, x3⟩ := SlL_at RA.out HN.out hlk
      have x0 := kpb HBW.out hbw x0
      have x3 := kpb HBW.out hbw x3
      have hnm := HG.out.nm k (HIN.out k hlk)
      have HTK : Hid (LL.take (k + 1) = LL.take k ++ [((xs.getD k lf0).1, (LL.getD k st0).2.1, (xs.getD k lf0).2.2.2)]) := Lib.hid (by
        rw [List.take_succ_eq_append_getElem (by rw [HLE.out]; exact hlk)]
        congr 1
        rw [← hnm.1, ← hnm.2]
        have e1 : LL.getD k st0 = LL[k]'(by rw [HLE.out]; exact hlk) := by unfold List.getD; rw [List.getElem?_eq_getElem (by rw [HLE.out]; exact hlk)]; rfl
        rw [e1])
      obtain ⟨x, hx⟩ : ∃ x, xs.getD k lf0 = x := ⟨_, rfl⟩
      obtain ⟨a, ha⟩ : ∃ a, (LL.getD k st0).2.1 = a := ⟨_, rfl⟩
      rw [hx] at x0 x3 HTK
      rw [ha] at ca1 HTK
      have hz22 : wr.drew.cell? ⟨b, o + k * 4, none⟩ = some (.string x.1) ∧ wr.drew.cell? ⟨b, o + k * 4 + 3, none⟩ = some (.int .i64 x.2.2.2) ∧ wr.drew.cell? ⟨ga, k, none⟩ = some (.int .i64 a) ∧ Below wr.heap.size wr wr.drew := ⟨x0, x3, ca1, (Below.refl _ _).drew⟩
      have k0 : (0 : Int) ≤ k := by omega
      have k1 : (k : Int) < i := by omega
      have HLT : Hid ((LL.take k).length = k) := Lib.hid (by rw [List.length_take, HLE.out]; omega)
      obtain ⟨i9', hI⟩ : ∃ i9', i9' = i9 := ⟨_, rfl⟩
      obtain ⟨hi9, hy0, hy1, hy2⟩ := HI39.out
      have OA : Hid ((wr.alloc (Obj.cells #[.string x.1, .int .i64 a, .int .i64 x.2.2.2] 39)).drew.ownsRow w3.heap.size 39 3 _ k (rowS (LL.take k))) := Lib.hid (own_belowE (hOk.out.alloc (Obj.cells #[.string x.1, .int .i64 a, .int .i64 x.2.2.2] 39)) (Below.refl _ _).drew)
      have a0 : (wr.alloc (Obj.cells #[.string x.1, .int .i64 a, .int .i64 x.2.2.2] 39)).drew.cell? ⟨wr.heap.size, 0, none⟩ = some (.string x.1) := by go_cell
      have a1 : (wr.alloc (Obj.cells #[.string x.1, .int .i64 a, .int .i64 x.2.2.2] 39)).drew.cell? ⟨wr.heap.size, 1, none⟩ = some (.int .i64 a) := by go_cell
      have a2 : (wr.alloc (Obj.cells #[.string x.1, .int .i64 a, .int .i64 x.2.2.2] 39)).drew.cell? ⟨wr.heap.size, 2, none⟩ = some (.int .i64 x.2.2.2) := by go_cell
      have BA : Hid (Below w3.heap.size w3 (wr.drew.alloc (Obj.cells #[.string x.1, .int .i64 a, .int .i64 x.2.2.2] 39))) := Lib.hid ((hBk.out.trans ((Below.refl _ _).drew.mono hsk)).alloc hsk _)
      clear hx ha x0 x3 ca0 ca1 hnm hI
      go_wp2_with fail
      refine Rk.begin (S := fun wS => wS.cell? ⟨b, o + k * 4, none⟩ = some (.string x.1) ∧ wS.cell? ⟨b, o + k * 4 + 3, none⟩ = some (.int .i64 x.2.2.2) ∧ wS.cell? ⟨ga, k, none⟩ = some (.int .i64 a) ∧ Below wr.heap.size wr wS) 16 (by kernel_rfl) hz22 (fun hHeld => ?_)
      refine Rk.takeP (i := 0) (v := ?_) rfl (by kernel_rfl) (by kernel_rfl) (by kernel_rfl) (by kernel_rfl) (fun _ _ _ h => h) (Or.inl ⟨by kernel_rfl, ?_⟩) (by assumption) ?_
      rotate_left
      · ((intro w hSw; go_simp) <;> with_reducible rfl)
      try simp only [Act.put, List.setIfInBounds_toArray, List.set_cons_zero, List.set_cons_succ]
      refine Rk.takeP (i := 1) (v := ?_) rfl (by kernel_rfl) (by kernel_rfl) (by kernel_rfl) (by kernel_rfl) (fun _ _ _ h => h) (Or.inl ⟨by kernel_rfl, ?_⟩) (by assumption) ?_
      rotate_left
      · ((intro w hSw; go_simp) <;> with_reducible rfl)
      try simp only [Act.put, List.setIfInBounds_toArray, List.set_cons_zero, List.set_cons_succ]
      refine Rk.takeP (i := 2) (v := ?_) rfl (by kernel_rfl) (by kernel_rfl) (by kernel_rfl) (by kernel_rfl) (fun _ _ _ h => h) (Or.inl ⟨by kernel_rfl, ?_⟩) (by assumption) ?_
      rotate_left
      · ((intro w hSw; go_simp) <;> with_reducible rfl)
      try simp only [Act.put, List.setIfInBounds_toArray, List.set_cons_zero, List.set_cons_succ]
      refine Rk.takeP (i := 3) (v := ?_) rfl (by kernel_rfl) (by kernel_rfl) (by kernel_rfl) (by kernel_rfl) (fun _ _ _ h => h) (Or.inl ⟨by kernel_rfl, ?_⟩) (by assumption) ?_
      rotate_left
      · ((intro w hSw; go_simp) <;> with_reducible rfl)
      try simp only [Act.put, List.setIfInBounds_toArray, List.set_cons_zero, List.set_cons_succ]
      refine Rk.takeP (i := 4) (v := ?_) rfl (by kernel_rfl) (by kernel_rfl) (by kernel_rfl) (by kernel_rfl) (fun _ _ _ h => h) (Or.inl ⟨by kernel_rfl, ?_⟩) (by assumption) ?_
      rotate_left
      · ((intro w hSw; go_simp) <;> with_reducible rfl)
      try simp only [Act.put, List.setIfInBounds_toArray, List.set_cons_zero, List.set_cons_succ]
      refine Rk.take [15, 16] (i := 5) (v := ?_) rfl (by kernel_rfl) (by kernel_rfl) (by kernel_rfl) (by kernel_rfl) (by kernel_rfl) (fun _ _ _ h => h) (Or.inl ⟨by kernel_rfl, ?_⟩) (by assumption) ?_
      rotate_left
      · ((intro w hSw; (try dsimp only at hSw); go_simp) <;> with_reducible rfl)
      try simp only [Act.put, List.setIfInBounds_toArray, List.set_cons_zero, List.set_cons_succ]
      refine Rk.takeP (i := 6) (v := ?_) rfl (by kernel_rfl) (by kernel_rfl) (by kernel_rfl) (by kernel_rfl) (fun _ _ _ h => h) (Or.inl ⟨by kernel_rfl, ?_⟩) (by assumption) ?_
      rotate_left
      · ((intro w hSw; go_simp) <;> with_reducible rfl)
      try simp only [Act.put, List.setIfInBounds_toArray, List.set_cons_zero, List.set_cons_succ]
      refine Rk.takeP (i := 7) (v := ?_) rfl (by kernel_rfl) (by kernel_rfl) (by kernel_rfl) (by kernel_rfl) (fun _ _ _ h => h) (Or.inl ⟨by kernel_rfl, ?_⟩) (by assumption) ?_
      rotate_left
      · ((intro w hSw; go_simp) <;> with_reducible rfl)
      try simp only [Act.put, List.setIfInBounds_toArray, List.set_cons_zero, List.set_cons_succ]
      refine Rk.takeP (i := 8) (v := ?_) rfl (by kernel_rfl) (by kernel_rfl) (by kernel_rfl) (by kernel_rfl) (fun _ _ _ h => h) (Or.inl ⟨by kernel_rfl, ?_⟩) (by assumption) ?_
      rotate_left
      · ((intro w hSw; go_simp) <;> with_reducible rfl)
      try simp only [Act.put, List.setIfInBounds_toArray, List.set_cons_zero, List.set_cons_succ]
      refine Rk.take [15, 16] (i := 9) (v := ?_) rfl (by kernel_rfl) (by kernel_rfl) (by kernel_rfl) (by kernel_rfl) (by kernel_rfl) (fun _ _ _ h => h) (Or.inl ⟨by kernel_rfl, ?_⟩) (by assumption) ?_
      rotate_left
      · ((intro w hSw; (try dsimp only at hSw); go_simp) <;> with_reducible rfl)
      try simp only [Act.put, List.setIfInBounds_toArray, List.set_cons_zero, List.set_cons_succ]
      refine Rk.takeP (i := 10) (v := ?_) rfl (by kernel_rfl) (by kernel_rfl) (by kernel_rfl) (by kernel_rfl) (fun _ _ _ h => h) (Or.inl ⟨by kernel_rfl, ?_⟩) (by assumption) ?_
      rotate_left
      · ((intro w hSw; go_simp) <;> with_reducible rfl)
      try simp only [Act.put, List.setIfInBounds_toArray, List.set_cons_zero, List.set_cons_succ]
      refine Rk.takeP (i := 11) (v := ?_) rfl (by kernel_rfl) (by kernel_rfl) (by kernel_rfl) (by kernel_rfl) (fun _ _ _ h => h) (Or.inl ⟨by kernel_rfl, ?_⟩) (by assumption) ?_
      rotate_left
      · ((intro w hSw; go_simp) <;> with_reducible rfl)
      try simp only [Act.put, List.setIfInBounds_toArray, List.set_cons_zero, List.set_cons_succ]
      refine Rk.takeP (i := 12) (v := ?_) rfl (by kernel_rfl) (by kernel_rfl) (by kernel_rfl) (by kernel_rfl) (fun _ _ _ h => h) (Or.inl ⟨by kernel_rfl, ?_⟩) (by assumption) ?_
      rotate_left
      · ((intro w hSw; go_simp) <;> with_reducible rfl)
      try simp only [Act.put, List.setIfInBounds_toArray, List.set_cons_zero, List.set_cons_succ]
      refine Rk.takeP (i := 13) (v := ?_) rfl (by kernel_rfl) (by kernel_rfl) (by kernel_rfl) (by kernel_rfl) (fun _ _ _ h => h) (Or.inl ⟨by kernel_rfl, ?_⟩) (by assumption) ?_
      rotate_left
      · ((intro w hSw; go_simp) <;> with_reducible rfl)
      try simp only [Act.put, List.setIfInBounds_toArray, List.set_cons_zero, List.set_cons_succ]
      refine Rk.take [15, 16] (i := 14) (v := ?_) rfl (by kernel_rfl) (by kernel_rfl) (by kernel_rfl) (by kernel_rfl) (by kernel_rfl) (fun _ _ _ h => h) (Or.inl ⟨by kernel_rfl, ?_⟩) (by assumption) ?_
      rotate_left
      · ((intro w hSw; (try dsimp only at hSw); go_simp) <;> with_reducible rfl)
      try simp only [Act.put, List.setIfInBounds_toArray, List.set_cons_zero, List.set_cons_succ]
      refine Rk.takeP (i := 15) (v := ?_) rfl (by kernel_rfl) (by kernel_rfl) (by kernel_rfl) (by kernel_rfl) (fun _ _ _ h => h) (Or.inl ⟨by kernel_rfl, ?_⟩) (by assumption) ?_
      rotate_left
      · ((intro w hSw; go_simp) <;> with_reducible rfl)
      try simp only [Act.put, List.setIfInBounds_toArray, List.set_cons_zero, List.set_cons_succ]
      refine Rk.tail [16, 17, 18] [_, _, _] (by kernel_rfl) (by kernel_rfl) rfl (by decide) ?_
      clear hHeld hz22
      go_wp2_with (at_builtin; refine wpList_append_own _ rfl _ _ 25 rfl w3.heap.size 39 i9 (.agg #[.string ⟨#[]⟩, .int .i64 0, .int .i64 0]) 3 32 Try.underlying25 hi9 hy0 hy1 hy2 rfl (by decide) _ _ _ rfl OA.out ⟨wr.heap.size, 0, none⟩ 1 1 [.string x.1, .int .i64 a, .int .i64 x.2.2.2] rfl rfl ?_ ?_ ?_ ?_ ?_ ?_)
      · intro q' x' hx'
        rcases q' with _ | _ | _ | q'
        · cases hx'; exact a0
        · cases hx'; exact a1
        · cases hx'; exact a2
        · simp at hx'
      · intro x' hx'
        simp at hx'
        rcases hx' with rfl | rfl | rfl <;> rfl
      · unfold maxLen; omega
      · omega
      · have := BA.out.size; exact this
      intro v' w5 hown' hgrow _
      have K5 := Lib.hid (BA.out.grown hgrow (by have := BA.out.size; exact this) (fun q' hq' => (OA.out.lt q' hq').1))
      have hown2 : Hid (w5.ownsRow w3.heap.size 39 3 v' (k + 1) (rowS (LL.take (k + 1)))) := Lib.hid (by
        rw [HTK.out, rowS_app]
        exact hown')
      clear hown' hgrow OA a0 a1 a2 BA hi9 hy0 hy1 hy2
      go_wp2_with fail
      go_roundw
      case rel => exact ⟨k + 1, by go_num, by omega, hown2, K5⟩
      case measure => simp [intOf]; omega
end Go.Proofs.Ytghnigmmkenddaa.Ar
