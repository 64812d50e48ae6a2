/- LowerBound. -/
import Derived.Test.YtghnigmmkenddaaC5m
namespace Go.Proofs.Ytghnigmmkenddaa.Ar
open Go.ChangeShapes Go.WideShapes Go.ChangeAt Go.RowKit
open Go.Proofs.Ytghnigmmkenddaa.Lv Go.Proofs.Ytghnigmmkenddaa.Nm
set_option linter.unusedVariables false
set_option linter.unusedSimpArgs false

set_option maxRecDepth 100000 in
set_option maxHeartbeats 8000000 in
/-- LowerBound of the code. -/
theorem lowC (p : Option Addr) (xs : List Lf) (c n : Nat) (w : World) (HN : Hid (xs.length = n)) (hn : n ≤ 60) (RA : Hid (SlL w p xs)) (RS : Hid (∀ i, i < xs.length → (xs.getD i lf0).1.size ≤ maxLen)) :
    Calls Try.prog 16 #[.slice p n c] w fun e w' => e = .returned (.int .i64 (lbF xs)) ∧ Below w.heap.size w w' := by
  have C := Lib.hid (pval p xs c w (by rw [HN.out]; exact hn) RA RS)
  rw [HN.out] at C
  by_cases hv : vE xs = 0
  case neg =>
    have HE : Hid (lbF xs = 0) := Lib.hid (by unfold lbF; rw [if_neg hv])
    obtain ⟨E, hE⟩ : ∃ E, vE xs = E := ⟨_, rfl⟩
    rw [hE] at C hv
    have e1 : (E != 0) = true := by simpa using hv
    clear hE
    go_enter Try.func16, Try.ntmps16
    go_wp2_with (go_at_call 19; (with_reducible refine C.out.mono ?_); rintro e w1 ⟨rfl, B1⟩)
    go_ret
    rw [HE.out]
    exact ⟨rfl, B1⟩
  rw [hv] at C
  have HV := Lib.hid hv
  have HZ : Hid (∀ i, i < n → 1 ≤ szF xs i ∧ szF xs i ≤ 4096) := Lib.hid fun i hi => by have := valid_at HV.out (i := i) (by rw [HN.out]; exact hi); unfold szF; omega
  obtain ⟨RES, hRES⟩ : ∃ RES, lbF xs = RES := ⟨_, rfl⟩
  have HRES : Hid (mxl ((List.range n).map fun i => Ss (frF xs) (toF xs) (szF xs) (List.range n) i) = RES) := Lib.hid (by rw [← hRES]; unfold lbF; rw [if_pos hv, HN.out])
  rw [hRES]
  clear hRES hv
  obtain ⟨σ, hσ⟩ : ∃ σ, kxx (fun i => (xs.getD i.toNat lf0).2.1) n = σ := ⟨_, rfl⟩
  obtain ⟨τ, hτ⟩ : ∃ τ, kxx (fun i => (xs.getD i.toNat lf0).2.2.1) n = τ := ⟨_, rfl⟩
  have Hσ : Hid (Asc (frF xs) σ ∧ σ.Perm (List.range n) ∧ σ.length = n ∧ ∀ k ∈ σ, k < n) := Lib.hid (by rw [← hσ]; exact ⟨Asc_of _ (fun i _ => by simp [frF]), kxx_perm _ _, kxx_len _ _, fun k h => kxx_mem h⟩)
  have Hτ : Hid (Asc (toF xs) τ ∧ τ.Perm (List.range n) ∧ τ.length = n ∧ ∀ k ∈ τ, k < n) := Lib.hid (by rw [← hτ]; exact ⟨Asc_of _ (fun i _ => by simp [toF]), kxx_perm _ _, kxx_len _ _, fun k h => kxx_mem h⟩)
  have HSQ := Lib.hid hσ
  have HTQ := Lib.hid hτ
  have HFT : Hid (∀ j, j < n → frF xs j ≤ toF xs j) := Lib.hid fun j hj => by have := valid_at HV.out (i := j) (by rw [HN.out]; exact hj); unfold frF toF; omega
  clear hσ hτ
  go_enter Try.func16, Try.ntmps16
  go_upto_region 6 with (first
    | (go_at_call 19; (with_reducible refine C.out.mono ?_); rintro e w1 ⟨rfl, B1⟩; have RA1 := Lib.hid (RA.out.keep B1); have HB1 := Lib.hid B1; have OC := Lib.hid (ord21 27 (fun a => a.2.1) (fun _ => True) (Lib.hid ent27) (Lib.hid fun a h w => k27 a w) p xs c n w1 HN hn RA1 (Lib.hid fun i hi => trivial)); clear B1 C)
    | (go_at_call 21; (with_reducible refine OC.out.mono ?_); rintro e w2 ⟨g2, rfl, B2, O2⟩; have RA2 := Lib.hid (RA1.out.keep B2); have HB2 := Lib.hid (HB1.out.trans (B2.mono HB1.out.size)); have HR2 : Hid (RI w2 g2 σ) := Lib.hid (by rw [← HSQ.out]; exact RI_of O2); have HG2 := Lib.hid (O2.lt g2 rfl).2; have OD := Lib.hid (ord21 28 (fun a => a.2.2.1) (fun _ => True) (Lib.hid ent28) (Lib.hid fun a h w => k28 a w) p xs c n w2 HN hn RA2 (Lib.hid fun i hi => trivial)); clear B2 O2 OC)
    | (go_at_call 21; (with_reducible refine OD.out.mono ?_); rintro e w3 ⟨g3, rfl, B3, O3⟩; have HB3 := Lib.hid (HB2.out.trans (B3.mono HB2.out.size)); have HR3 : Hid (RI w3 g3 τ) := Lib.hid (by rw [← HTQ.out]; exact RI_of O3); have HG3 := Lib.hid (O3.lt g3 rfl).2; have HS3 := Lib.hid (HR2.out.keep B3); have HL3 := Lib.hid (RA2.out.keep B3); have HG2b := Lib.hid (Nat.lt_of_lt_of_le HG2.out B3.size); clear B3 O3 OD))
  go_wp2_with fail
  go_loopw [4, 5, 6, 18] (fun ev gv tv iv wr => ∃ (r e : Nat) (G T : Int), iv = .int .i64 (r : Int) ∧ ev = .slice (some ⟨g3, e, none⟩) (n - e) (n - e) ∧ gv = .int .i64 G ∧ tv = .int .i64 T ∧ r ≤ n ∧ e ≤ n ∧ 0 ≤ G ∧ G ≤ 245760 ∧ Hid (T = sm (szF xs) (σ.take r) - sm (szF xs) (τ.take e)) ∧ Hid (∀ j, r ≤ j → j < n → e ≤ cnt (toF xs) τ (frF xs (σ.getD j 0))) ∧ Hid ((∀ P i R, σ = P ++ i :: R → P.length < r → Tt (frF xs) (toF xs) (szF xs) P i ≤ G) ∧ (G = 0 ∨ ∃ P i R, σ = P ++ i :: R ∧ G = Tt (frF xs) (toF xs) (szF xs) P i)) ∧ Hid (Below w3.heap.size w3 wr)) (fun _ _ _ iv _ => n - (intOf iv).toNat)
  case atStart => exact ⟨0, 0, 0, 0, rfl, rfl, rfl, rfl, Nat.zero_le _, Nat.zero_le _, Int.le_refl _, by decide, Lib.hid rfl, Lib.hid fun j _ _ => Nat.zero_le _, Lib.hid ⟨fun P i R _ h => absurd h (Nat.not_lt_zero _), .inl rfl⟩, Lib.hid (Below.refl _ _)⟩
  case round =>
    obtain ⟨r, e, G, T, rfl, rfl, rfl, rfl, hr, he, G0, G1, HT, HE, HG, hB⟩ := hrel
    obtain ⟨w0, hw0⟩ : ∃ w0, w0 = wr := ⟨_, rfl⟩
    subst hw0
    by_cases hlt : r < n
    case neg =>
      obtain rfl : r = n := by omega
      have r1 : ¬ (r : Int) < r := by omega
      have HF : Hid (G = RES) := Lib.hid (by
        rw [← HRES.out]
        refine sweep_eq (σ := σ) Hσ.out.1 (fun j hj => by have := HZ.out j (Hσ.out.2.2.2 j hj); omega) G0 (mxl_nonneg _) (fun P i R h => HG.out.1 P i R h (by have h2 := Hσ.out.2.2.1; rw [h] at h2; simp at h2; omega)) HG.out.2 (fun i hi => ?_) ?_
        · rw [Ss_perm Hσ.out.2.1]
          exact mxl_ge (List.mem_map.2 ⟨i, List.mem_range.2 (Hσ.out.2.2.2 i hi), rfl⟩)
        · rcases mxl_mem ((List.range r).map fun i => Ss (frF xs) (toF xs) (szF xs) (List.range r) i) with h | h
          · exact .inl h
          · obtain ⟨i, hi, h2⟩ := List.mem_map.1 h
            exact .inr ⟨i, Hσ.out.2.1.mem_iff.2 hi, by rw [Ss_perm Hσ.out.2.1]; exact h2.symm⟩)
      have G2 : G < 2147483647 := by omega
      have G3 : ¬ 2147483647 < G := by omega
      go_wp2_with fail
      go_ret
      rw [HF.out]
      exact ⟨rfl, HB3.out.trans (hB.out.mono HB3.out.size)⟩
    have hrσ : r < σ.length := by rw [Hσ.out.2.2.1]; exact hlt
    have hsr := kpb hB.out HG2b.out (HS3.out r hrσ)
    have hin := Hσ.out.2.2.2 _ (getD_mem0 hrσ)
    obtain ⟨i, hi⟩ : ∃ i, σ.getD r 0 = i := ⟨_, rfl⟩
    have HI := Lib.hid hi
    have HSP : Hid (σ = σ.take r ++ i :: σ.drop (r + 1)) := Lib.hid (by rw [← HI.out, ← drop_cons0 hrσ, List.take_append_drop])
    rw [hi] at hsr hin
    obtain ⟨b, o, rfl, hbw, c0, c1, c2, c3⟩ := SlL_at HL3.out HN.out hin
    have HC := Lib.hid (And.intro c1 (And.intro c2 c3))
    have hzi := HZ.out i hin
    obtain ⟨zi1, zi2⟩ := hzi
    have r0 : (0 : Int) ≤ r := by omega
    have r1 : (r : Int) < n := by omega
    have i0' : (0 : Int) ≤ i := by omega
    have i1 : (i : Int) < n := by omega
    clear hi c0 c1 c2 c3
    go_wp2_with fail
    go_loopw [4, 6] (fun ev tv wr => ∃ (e : Nat) (T : Int), ev = .slice (some ⟨g3, e, none⟩) (n - e) (n - e) ∧ tv = .int .i64 T ∧ e ≤ cnt (toF xs) τ (frF xs i) ∧ Hid (T = sm (szF xs) (σ.take r) - sm (szF xs) (τ.take e)) ∧ Hid (Below w3.heap.size w3 wr)) (fun ev _ _ => match ev with | .slice _ l _ => l | _ => 0)
    case atStart => exact ⟨e, T, rfl, rfl, by have h := HE.out r (Nat.le_refl _) hlt; rw [HI.out] at h; exact h, HT, hB⟩
    case round =>
      clear HT HE he hB
      obtain ⟨e, T, rfl, rfl, hec, HT, hB⟩ := hrel
      obtain ⟨w1, hw1⟩ : ∃ w1, w1 = wr := ⟨_, rfl⟩
      subst hw1
      have hcn := cnt_lt (to' := toF xs) (x := frF xs i) (Hτ.out.2.1.mem_iff.2 (List.mem_range.2 hin)) (HFT.out i hin)
      rw [Hτ.out.2.2.1] at hcn
      have hen : e < n := by omega
      have heτ : e < τ.length := by rw [Hτ.out.2.2.1]; exact hen
      have hst := kpb hB.out HG3.out (HR3.out e heτ)
      have hkn := Hτ.out.2.2.2 _ (getD_mem0 heτ)
      obtain ⟨k, hk⟩ : ∃ k, τ.getD e 0 = k := ⟨_, rfl⟩
      have HTK := Lib.hid (take_snoc heτ)
      have HNX := Lib.hid (ended_next (x := frF xs i) Hτ.out.1 (e := e) (j := k) (by rw [← hk, List.getD_eq_getElem?_getD, List.getElem?_eq_getElem heτ]; rfl))
      rw [hk] at hst hkn HTK
      obtain ⟨b', o', ee, _, d0, d1, d2, d3⟩ := SlL_at HL3.out HN.out hkn
      cases ee
      have d2 := kpb hB.out hbw d2
      have d3 := kpb hB.out hbw d3
      have c1 := kpb hB.out hbw HC.out.1
      have c3 := kpb hB.out hbw HC.out.2.2
      have hzk := HZ.out k hkn
      obtain ⟨zk1, zk2⟩ := hzk
      have HSM := Lib.hid (And.intro (sm_bd hn HZ.out (l := σ.take r) (by simp; omega) (fun j hj => Hσ.out.2.2.2 j (List.mem_of_mem_take hj))) (sm_bd hn HZ.out (l := τ.take e) (by simp; omega) (fun j hj => Hτ.out.2.2.2 j (List.mem_of_mem_take hj))))
      have T0 : -245760 ≤ T := by have h1 := HSM.out; have h2 := HT.out; omega
      have T1 : T ≤ 245760 := by have h1 := HSM.out; have h2 := HT.out; omega
      have HBN : Hid (Below w.heap.size w w1) := Lib.hid (HB3.out.trans (hB.out.mono HB3.out.size))
      obtain ⟨xt, hxt⟩ : ∃ xt, toF xs k = xt := ⟨_, rfl⟩
      obtain ⟨xf, hxf⟩ : ∃ xf, frF xs i = xf := ⟨_, rfl⟩
      obtain ⟨xz, hxz⟩ : ∃ xz, szF xs k = xz := ⟨_, rfl⟩
      obtain ⟨xy, hxy⟩ : ∃ xy, szF xs i = xy := ⟨_, rfl⟩
      have HXF := Lib.hid hxf
      have HXZ := Lib.hid hxz
      have HXY := Lib.hid hxy
      replace d2 : w1.cell? ⟨b, o + k * 4 + 2, none⟩ = some (.int .i64 xt) := by rw [← hxt]; exact d2
      replace d3 : w1.cell? ⟨b, o + k * 4 + 3, none⟩ = some (.int .i64 xz) := by rw [← hxz]; exact d3
      replace c1 : w1.cell? ⟨b, o + i * 4 + 1, none⟩ = some (.int .i64 xf) := by rw [← hxf]; exact c1
      replace c3 : w1.cell? ⟨b, o + i * 4 + 3, none⟩ = some (.int .i64 xy) := by rw [← hxy]; exact c3
      rw [hxt, hxf] at HNX
      rw [hxf] at hec hcn
      rw [hxz] at zk1 zk2
      rw [hxy] at zi1 zi2
      have n0 : (0 : Int) < ((n - e : Nat) : Int) := by omega
      have n1 : 0 < n - e := by omega
      have k0 : (0 : Int) ≤ k := by omega
      have k1 : (k : Int) < n := by omega
      clear d0 d1 hk hxt hxf hxz hxy heτ
      by_cases ht : xt < xf
      case pos =>
        have hlt2 : e < cnt (toF xs) τ xf := HNX.out.1 ht
        have t1 : decide (xt < xf) = true := decide_eq_true ht
        have n2 : ¬ (n - e = 1) := by omega
        have n3 : 1 ≤ n - e := by omega
        have n4 : (1 : Int) ≤ ((n - e : Nat) : Int) := by omega
        have HT2 : Hid (T - xz = sm (szF xs) (σ.take r) - sm (szF xs) (τ.take (e + 1))) := Lib.hid (by
          rw [HTK.out, sm_app, HT.out, ← HXZ.out]
          show _ - _ - szF xs k = _ - (_ + (szF xs k + 0))
          omega)
        clear ht
        go_wp2_with fail
        go_quiet (fail)
        go_wp2_with fail
        go_roundw
        case rel => exact ⟨e + 1, T - xz, by rw [show n - (e + 1) = n - e - 1 by omega], rfl, by rw [HXF.out]; omega, HT2, Lib.hid (below_drewN hB.out _)⟩
        case measure => simp; omega
      have t1 : decide (xt < xf) = false := decide_eq_false ht
      have hcq : e = cnt (toF xs) τ xf := by
        have h : ¬ e < cnt (toF xs) τ xf := fun h => ht (HNX.out.2 h)
        omega
      have HTT : Hid (Tt (frF xs) (toF xs) (szF xs) (σ.take r) i = T + xy) := Lib.hid (by
        have h := sweep_tot (sz := szF xs) Hσ.out.1 Hτ.out.1 (Hτ.out.2.1.trans Hσ.out.2.1.symm) (fun j hj => HFT.out j (Hσ.out.2.2.2 j hj)) HSP.out
        rw [← h, HXF.out, ← hcq, HXY.out, HT.out])
      have HT2 : Hid (T + xy = sm (szF xs) (σ.take (r + 1)) - sm (szF xs) (τ.take e)) := Lib.hid (by
        rw [take_snoc hrσ, HI.out, sm_app, HT.out, ← HXY.out]
        show _ - _ + szF xs i = _ + (szF xs i + 0) - _
        omega)
      have HE2 : Hid (∀ j, r + 1 ≤ j → j < n → e ≤ cnt (toF xs) τ (frF xs (σ.getD j 0))) := Lib.hid fun j hj1 hj2 => by
        rw [hcq, ← HXF.out]
        refine cnt_mono _ _ ?_
        have h := List.pairwise_iff_getElem.1 Hσ.out.1 r j hrσ (by rw [Hσ.out.2.2.1]; exact hj2) (by omega)
        have e1 : ∀ t (ht : t < σ.length), σ.getD t 0 = σ[t] := fun t ht => by unfold List.getD; rw [List.getElem?_eq_getElem ht]; rfl
        rw [← HI.out, e1 r hrσ, e1 j (by rw [Hσ.out.2.2.1]; exact hj2)]
        exact h
      have TB : Hid (0 ≤ T + xy ∧ T + xy ≤ 245760) := Lib.hid (by
        rw [← HTT.out]
        unfold Tt
        exact sm_bd hn HZ.out (Nat.le_trans (List.length_filter_le _ _) (by simp; omega)) (fun j hj => by
          have h := (List.mem_filter.1 hj).1
          rcases List.mem_append.1 h with h | h
          · exact Hσ.out.2.2.2 j (List.mem_of_mem_take h)
          · rw [List.mem_singleton] at h; rw [h]; exact hin))
      obtain ⟨tb0, tb1⟩ := TB.out
      have HGN : ∀ G', G ≤ G' → T + xy ≤ G' → (G' = G ∨ G' = T + xy) → Hid ((∀ P i R, σ = P ++ i :: R → P.length < r + 1 → Tt (frF xs) (toF xs) (szF xs) P i ≤ G') ∧ (G' = 0 ∨ ∃ P i R, σ = P ++ i :: R ∧ G' = Tt (frF xs) (toF xs) (szF xs) P i)) := fun G' h1 h2 h3 => Lib.hid ⟨fun P j R h h4 => by
          rcases Nat.lt_or_eq_of_le (Nat.le_of_lt_succ h4) with h5 | h5
          · have := HG.out.1 P j R h h5; omega
          · have h6 : P = σ.take r := by rw [h, ← h5]; simp
            have h7 : j = i := by
              have h8 := HI.out
              rw [h, ← h5] at h8
              simpa [List.getD] using h8
            rw [h6, h7, HTT.out]
            exact h2, by
          rcases h3 with h | h
          · rw [h]; exact HG.out.2
          · exact .inr ⟨_, _, _, HSP.out, by rw [h, HTT.out]⟩⟩
      have HGN := Lib.hid HGN
      clear ht hcq HNX
      by_cases hmx : G < T + xy
      case pos =>
        have HG2' := HGN.out (T + xy) (by omega) (Int.le_refl _) (.inr rfl)
        go_wp2_with fail
        go_quiet (fail)
        go_wp2_with fail
        go_roundw
        case rel => exact ⟨r + 1, e, T + xy, T + xy, by go_num, rfl, rfl, rfl, by omega, by omega, by omega, by omega, HT2, HE2, HG2', Lib.hid (below_drewN hB.out _)⟩
        case measure => simp [intOf]; omega
      have hmx2 : T + xy ≤ G := by omega
      have HG2' := HGN.out G (Int.le_refl _) (by omega) (.inl rfl)
      clear hmx
      go_wp2_with fail
      go_quiet (fail)
      go_wp2_with fail
      go_roundw
      case rel => exact ⟨r + 1, e, G, T + xy, by go_num, rfl, rfl, rfl, by omega, by omega, by omega, by omega, HT2, HE2, HG2', Lib.hid (below_drewN hB.out _)⟩
      case measure => simp [intOf]; omega
end Go.Proofs.Ytghnigmmkenddaa.Ar
