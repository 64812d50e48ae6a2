/- The law on negation and the environments. -/
import Derived.Test.YtbicmlkjonaccaaDoorH34
import Derived.Test.YtbicmlkjonaccaaDoorH21

namespace Go.Proofs.YtbicmlkjonaccaaDoor.Ln
open Go.ChangeShapes Go.WideShapes Go.ChangeAt Go.RowKit
open Go.Proofs.YtbicmlkjonaccaaDoor.Nm
set_option linter.unusedVariables false
set_option linter.unusedSimpArgs false
set_option maxRecDepth 8000

set_option maxRecDepth 100000 in
set_option maxHeartbeats 8000000 in
theorem law_ccompl (k : Int) (p : Option Addr) (xs : List Mo) (c : Nat) (eq : Bool) (q : Option Addr) (es : List Mo) (d : Nat) (w : World) (hn : xs.length ≤ maxLen) (hc : xs.length ≤ c) (hm : es.length ≤ maxLen) (RA : Hid (SlM w p xs)) (RB : Hid (SlM w q es)) (RS : Hid (∀ i, i < xs.length → (xs.getD i mo0).1.size ≤ maxLen ∧ -9223372036854775808 ≤ (xs.getD i mo0).2 ∧ (xs.getD i mo0).2 ≤ 9223372036854775807)) (RT : Hid (∀ i, i < es.length → (es.getD i mo0).1.size ≤ maxLen ∧ -9223372036854775808 ≤ (es.getD i mo0).2 ∧ (es.getD i mo0).2 ≤ 9223372036854775807)) (k1 : -9223372036854775808 ≤ k) (k2 : k ≤ 9223372036854775807) (hL : Hid (∀ w', Below w.heap.size w w' → LA w')) :
    Calls Tryd.prog 8 #[Cv k p xs.length c eq, .slice q es.length d] w fun e w' => e = .returned (.bool true) ∧ Below w.heap.size w w' := by
  have B0 : Below w.heap.size w ((w.alloc (Obj.cells #[Value.int .i64 k, Value.slice p xs.length c, Value.bool eq] 36)).alloc (Obj.cells #[Value.int .i64 k, Value.slice p xs.length c, Value.bool eq] 36)) := ((Below.refl _ _).alloc (Nat.le_refl _) _).alloc (by simp) _
  have RZ := Lib.hid (SlM.keep B0 RA.out)
  have SQ : SlQ ((w.alloc (Obj.cells #[Value.int .i64 k, Value.slice p xs.length c, Value.bool eq] 36)).alloc (Obj.cells #[Value.int .i64 k, Value.slice p xs.length c, Value.bool eq] 36)) (some ⟨w.heap.size + 1, 0, none⟩) [(k, xs, eq)] := fun i hi => by
    rcases i with _ | i
    · exact ⟨w.heap.size + 1, 0, p, c, rfl, by go_cell, by go_cell, by go_cell, RZ.out⟩
    · exact absurd (show i + 1 < 1 from hi) (by omega)
  have SM := Lib.hid (small6 (some ⟨w.heap.size + 1, 0, none⟩) [(k, xs, eq)] 1 1 ((w.alloc (Obj.cells #[Value.int .i64 k, Value.slice p xs.length c, Value.bool eq] 36)).alloc (Obj.cells #[Value.int .i64 k, Value.slice p xs.length c, Value.bool eq] 36)) (by simp [maxLen]) (Lib.hid (by intro f hf; simp at hf; rcases hf with rfl; exact hn)) (by decide) (Lib.hid SQ))
  have EX := Lib.hid fun w h => exam6 w h
  have HB0 := Lib.hid B0
  have LW : w.heap.size < ((w.alloc (Obj.cells #[Value.int .i64 k, Value.slice p xs.length c, Value.bool eq] 36)).alloc (Obj.cells #[Value.int .i64 k, Value.slice p xs.length c, Value.bool eq] 36)).heap.size := by simp; omega
  have HM9 := Lib.hid hm
  unfold maxLen at hm
  cases hsm : smQ 1 [(k, xs, eq)]
  · rw [hsm] at SM
    clear hsm SQ
    unfold Cv at *
    go_enter Tryd.func8, Tryd.ntmps8
    go_wp2_with (first | (go_at_call 20; refine SM.out.mono ?_; rintro e w9 ⟨rfl, rfl⟩) | (go_at_call 21; (with_reducible refine (EX.out _ (Lib.hid fun w' h => hL.out _ (HB0.out.trans (h.mono HB0.out.size)))).mono ?_); rintro e wx ⟨rfl, hbx⟩))
    go_ret
    exact ⟨rfl, B0.trans (hbx.mono B0.size)⟩
  ·
    have h40 : xs.length ≤ 40 := by
      unfold smQ at hsm
      simp [smF] at hsm
      omega
    rw [hsm] at SM
    clear hsm SQ
    by_cases he : 100 < es.length
    · have he1 : (100 : Int) < es.length := by omega
      unfold Cv at *
      go_enter Tryd.func8, Tryd.ntmps8
      go_wp2_with (first | (go_at_call 20; refine SM.out.mono ?_; rintro e w9 ⟨rfl, rfl⟩) | (go_at_call 21; (with_reducible refine (EX.out _ (Lib.hid fun w' h => hL.out _ (HB0.out.trans (h.mono HB0.out.size)))).mono ?_); rintro e wx ⟨rfl, hbx⟩))
      go_ret
      exact ⟨rfl, B0.trans (hbx.mono B0.size)⟩
    · have he1 : ¬ (100 : Int) < es.length := by omega
      have N1 := Lib.hid fun w h => neg1 k p xs c eq w (Nat.le_trans h40 (by decide)) hc h RS k1 k2
      have HC := Lib.hid fun w h1 h2 => holds2 k p xs c eq q es d w (Nat.le_trans h40 (by decide)) HM9.out h1 h2 RS RT k1 k2
      have HE := Lib.hid fun k p xs c eq w hn h1 h2 RS k1 k2 => holds2 k p xs c eq q es d w hn HM9.out h1 h2 RS RT k1 k2
      have hlen := ngR_len k xs eq
      have hok := Lib.hid (ngR_ok k xs eq (Nat.le_trans h40 (by decide)) k1 k2 RS.out)
      have her := ngR_er k xs eq
      have hone := Lib.hid (ng_one (k := k) (xs := xs) (eq := eq) (es := es))
      obtain ⟨R, hR⟩ : ∃ R, ngR k xs eq = R := ⟨_, rfl⟩
      rw [hR] at N1 hlen hok her hone
      obtain ⟨l, er⟩ := R
      dsimp only at hlen hok her hone
      have hl2 := hlen.1
      clear hR hlen h40 hn
      by_cases h0 : er = 0
      · subst h0
        obtain ⟨⟨va, fa⟩, hva⟩ : ∃ R, hvF k xs eq es = R := ⟨_, rfl⟩
        rw [hva] at HC hone
        dsimp only at HC hone
        clear hva her
        unfold CsW at N1
        unfold Cv at *
        dsimp only at N1
        obtain ⟨n, hnn⟩ : ∃ n, l.length = n := ⟨_, rfl⟩
        have HN := Lib.hid hnn
        rw [hnn] at N1 hl2
        clear hnn
        by_cases hf : fa = 0
        · subst hf
          replace hone := Lib.hid (hone.out rfl rfl)
          obtain ⟨m0, hm0⟩ : ∃ m0 : Nat, (if va = true then 1 else 0) = m0 := ⟨_, rfl⟩
          rw [hm0] at hone
          have HM0 := Lib.hid hm0
          have hm1 : m0 ≤ 1 := by rw [← hm0]; split <;> omega
          clear hm0
          cases va
          · obtain rfl := HM0.out
            go_enter Tryd.func8, Tryd.ntmps8
            go_wp2_with (first | (go_at_call 20; refine SM.out.mono ?_; rintro e w9 ⟨rfl, rfl⟩) | (go_at_call 31; (with_reducible refine (N1.out _ RZ).mono ?_); rintro e w1 ⟨p1, c1, rfl, S1, hb1⟩; (try dsimp only at S1 ⊢); have x0 : w1.cell? ⟨w.heap.size, 0, none⟩ = some (.int .i64 k) := Rg.keep hb1 LW (by go_cell); have x1 : w1.cell? ⟨w.heap.size, 1, none⟩ = some (.slice p xs.length c) := Rg.keep hb1 LW (by go_cell); have x2 : w1.cell? ⟨w.heap.size, 2, none⟩ = some (.bool eq) := Rg.keep hb1 LW (by go_cell); have l1 : w.heap.size < w1.heap.size := Nat.lt_of_lt_of_le LW hb1.size; have KA := Lib.hid (HB0.out.trans (hb1.mono HB0.out.size)); have SO := Lib.hid S1) | (go_at_call 23; (with_reducible refine (HC.out _ (Lib.hid (SlM.keep KA.out RA.out)) (Lib.hid (SlM.keep KA.out RB.out))).mono ?_); rintro e w2 ⟨rfl, hb2⟩; have KB := Lib.hid (KA.out.trans (hb2.mono KA.out.size)); have SA := Lib.hid (SlQ.keep hb2 SO.out)))
            go_loopw [7, 10] (fun mv i wr => ∃ (t m : Nat), mv = .int .i64 m ∧ i = .int .i64 t ∧ t ≤ n ∧ m ≤ 1 + t ∧ Below w2.heap.size w2 wr ∧ Hid (m = 0 + cntQ es (l.take t)) ∧ Hid (∀ f ∈ l.take t, (hq es f).2 = 0)) (fun _ i _ => n - (intOf i).toNat)
            case atStart => exact ⟨0, 0, rfl, rfl, Nat.zero_le _, by omega, Below.refl _ _, Lib.hid (by simp [cntQ]), Lib.hid (by simp)⟩
            case round =>
              obtain ⟨t, m, rfl, rfl, ht, hmt, hB, hM, hE⟩ := hrel
              have tt : (0 : Int) ≤ t := by omega
              have KW := Lib.hid (KB.out.trans (hB.mono KB.out.size))
              by_cases hlt : t < n
              · obtain ⟨b, o, qa, da, rfl, c0, c1', c2, hS⟩ := SA.out t (by rw [HN.out]; exact hlt)
                have t2 : (t : Int) < n := by omega
                have hb2' : b < w2.heap.size := World.block_lt_of_cell? _ _ c0
                replace c0 := Rg.keep hB hb2' c0
                replace c1' := Rg.keep hB hb2' c1'
                replace c2 := Rg.keep hB hb2' c2
                have hbr : b < wr.heap.size := World.block_lt_of_cell? _ _ c0
                have HS2 := Lib.hid (SlM.keep hB hS)
                have HS3 := Lib.hid (SlM.keep KW.out RB.out)
                have ho := hok.out _ (qget (l := l) (i := t) (by rw [HN.out]; exact hlt))
                have hst := cnt_step (es := es) (l := l) (t := t) (by rw [HN.out]; exact hlt)
                have htk := qtake (l := l) (i := t) (by rw [HN.out]; exact hlt)
                unfold hq at hst
                obtain ⟨f, hf⟩ : ∃ f, l.getD t q0m = f := ⟨_, rfl⟩
                rw [hf] at c0 c1' c2 hS HS2 ho hst htk
                obtain ⟨kk, ys, ee⟩ := f
                dsimp only at c0 c1' c2 hS HS2 ho hst
                obtain ⟨o1, o2, o3⟩ := ho
                have CC := Lib.hid (HE.out kk qa ys da ee wr o1 HS2 HS3 (Lib.hid o3) o2.1 o2.2)
                obtain ⟨⟨v, e9⟩, hv⟩ : ∃ R, hvF kk ys ee es = R := ⟨_, rfl⟩
                have HV := Lib.hid hv
                rw [hv] at CC hst
                dsimp only at CC hst
                have HTK := Lib.hid htk
                have HB9 := Lib.hid hB
                clear hS hf o1 o2 o3 hv htk hB
                by_cases h9 : e9 = 0
                · subst h9
                  have HE2 : Hid (∀ f ∈ l.take (t + 1), (hq es f).2 = 0) := Lib.hid (by
                    rw [HTK.out]
                    intro f hf
                    rcases List.mem_append.1 hf with h | h
                    · exact hE.out f h
                    · rw [List.mem_singleton] at h
                      subst h
                      show (hvF kk ys ee es).2 = 0
                      rw [HV.out])
                  cases v
                  · have HM2 : Hid (m = 0 + cntQ es (l.take (t + 1))) := Lib.hid (by rw [hst, hM.out]; simp)
                    clear hst hM hE
                    go_wp2_with (go_at_call 23; (with_reducible refine CC.out.mono ?_); rintro e w5 ⟨rfl, hb5⟩; have HB5 := HB9.out.trans (hb5.mono HB9.out.size))
                    go_roundw
                    case rel => exact ⟨t + 1, m, rfl, by go_num, by omega, by omega, HB5, HM2, HE2⟩
                    case measure => simp [intOf]; omega
                  · have HM2 : Hid (m + 1 = 0 + cntQ es (l.take (t + 1))) := Lib.hid (by rw [hst, hM.out]; first | (simp; done) | (simp; omega))
                    clear hst hM hE
                    go_wp2_with (go_at_call 23; (with_reducible refine CC.out.mono ?_); rintro e w5 ⟨rfl, hb5⟩; have HB5 := HB9.out.trans (hb5.mono HB9.out.size))
                    go_roundw
                    case rel => exact ⟨t + 1, m + 1, by go_num, by go_num, by omega, by omega, HB5, HM2, HE2⟩
                    case measure => simp [intOf]; omega
                · have g0 : (e9 == 0) = false := by simpa using h9
                  have g1 : (e9 != 0) = true := by simpa using h9
                  clear h9 hst hM hE
                  go_wp2_with (first | (go_at_call 23; (with_reducible refine CC.out.mono ?_); rintro e w5 ⟨rfl, hb5⟩; have KD := Lib.hid (KW.out.trans (hb5.mono KW.out.size))) | (go_at_call 21; (with_reducible refine (EX.out _ (Lib.hid fun w' h => hL.out _ (KD.out.trans (h.mono KD.out.size)))).mono ?_); rintro e wx ⟨rfl, hbx⟩))
                  go_ret
                  exact ⟨rfl, KD.out.trans (hbx.mono KD.out.size)⟩
              · obtain rfl : t = n := by omega
                have h5 := hone.out
                have h6 := hM.out
                have h7 := hE.out
                rw [List.take_of_length_le (by rw [HN.out]; exact Nat.le_refl _)] at h6 h7
                have hm9 : m = 1 := by
                  have h8 := h5 h7
                  simp at h8
                  omega
                subst hm9
                clear h5 h6 h7 hM hE hB
                go_wp2_with (go_at_call 21; (with_reducible refine (EX.out _ (Lib.hid fun w' h => hL.out _ (KW.out.trans (h.mono KW.out.size)))).mono ?_); rintro e wx ⟨rfl, hbx⟩)
                go_ret
                exact ⟨rfl, KW.out.trans (hbx.mono KW.out.size)⟩
          · obtain rfl := HM0.out
            go_enter Tryd.func8, Tryd.ntmps8
            go_wp2_with (first | (go_at_call 20; refine SM.out.mono ?_; rintro e w9 ⟨rfl, rfl⟩) | (go_at_call 31; (with_reducible refine (N1.out _ RZ).mono ?_); rintro e w1 ⟨p1, c1, rfl, S1, hb1⟩; (try dsimp only at S1 ⊢); have x0 : w1.cell? ⟨w.heap.size, 0, none⟩ = some (.int .i64 k) := Rg.keep hb1 LW (by go_cell); have x1 : w1.cell? ⟨w.heap.size, 1, none⟩ = some (.slice p xs.length c) := Rg.keep hb1 LW (by go_cell); have x2 : w1.cell? ⟨w.heap.size, 2, none⟩ = some (.bool eq) := Rg.keep hb1 LW (by go_cell); have l1 : w.heap.size < w1.heap.size := Nat.lt_of_lt_of_le LW hb1.size; have KA := Lib.hid (HB0.out.trans (hb1.mono HB0.out.size)); have SO := Lib.hid S1) | (go_at_call 23; (with_reducible refine (HC.out _ (Lib.hid (SlM.keep KA.out RA.out)) (Lib.hid (SlM.keep KA.out RB.out))).mono ?_); rintro e w2 ⟨rfl, hb2⟩; have KB := Lib.hid (KA.out.trans (hb2.mono KA.out.size)); have SA := Lib.hid (SlQ.keep hb2 SO.out)))
            go_loopw [7, 10] (fun mv i wr => ∃ (t m : Nat), mv = .int .i64 m ∧ i = .int .i64 t ∧ t ≤ n ∧ m ≤ 1 + t ∧ Below w2.heap.size w2 wr ∧ Hid (m = 1 + cntQ es (l.take t)) ∧ Hid (∀ f ∈ l.take t, (hq es f).2 = 0)) (fun _ i _ => n - (intOf i).toNat)
            case atStart => exact ⟨0, 1, rfl, rfl, Nat.zero_le _, by omega, Below.refl _ _, Lib.hid (by simp [cntQ]), Lib.hid (by simp)⟩
            case round =>
              obtain ⟨t, m, rfl, rfl, ht, hmt, hB, hM, hE⟩ := hrel
              have tt : (0 : Int) ≤ t := by omega
              have KW := Lib.hid (KB.out.trans (hB.mono KB.out.size))
              by_cases hlt : t < n
              · obtain ⟨b, o, qa, da, rfl, c0, c1', c2, hS⟩ := SA.out t (by rw [HN.out]; exact hlt)
                have t2 : (t : Int) < n := by omega
                have hb2' : b < w2.heap.size := World.block_lt_of_cell? _ _ c0
                replace c0 := Rg.keep hB hb2' c0
                replace c1' := Rg.keep hB hb2' c1'
                replace c2 := Rg.keep hB hb2' c2
                have hbr : b < wr.heap.size := World.block_lt_of_cell? _ _ c0
                have HS2 := Lib.hid (SlM.keep hB hS)
                have HS3 := Lib.hid (SlM.keep KW.out RB.out)
                have ho := hok.out _ (qget (l := l) (i := t) (by rw [HN.out]; exact hlt))
                have hst := cnt_step (es := es) (l := l) (t := t) (by rw [HN.out]; exact hlt)
                have htk := qtake (l := l) (i := t) (by rw [HN.out]; exact hlt)
                unfold hq at hst
                obtain ⟨f, hf⟩ : ∃ f, l.getD t q0m = f := ⟨_, rfl⟩
                rw [hf] at c0 c1' c2 hS HS2 ho hst htk
                obtain ⟨kk, ys, ee⟩ := f
                dsimp only at c0 c1' c2 hS HS2 ho hst
                obtain ⟨o1, o2, o3⟩ := ho
                have CC := Lib.hid (HE.out kk qa ys da ee wr o1 HS2 HS3 (Lib.hid o3) o2.1 o2.2)
                obtain ⟨⟨v, e9⟩, hv⟩ : ∃ R, hvF kk ys ee es = R := ⟨_, rfl⟩
                have HV := Lib.hid hv
                rw [hv] at CC hst
                dsimp only at CC hst
                have HTK := Lib.hid htk
                have HB9 := Lib.hid hB
                clear hS hf o1 o2 o3 hv htk hB
                by_cases h9 : e9 = 0
                · subst h9
                  have HE2 : Hid (∀ f ∈ l.take (t + 1), (hq es f).2 = 0) := Lib.hid (by
                    rw [HTK.out]
                    intro f hf
                    rcases List.mem_append.1 hf with h | h
                    · exact hE.out f h
                    · rw [List.mem_singleton] at h
                      subst h
                      show (hvF kk ys ee es).2 = 0
                      rw [HV.out])
                  cases v
                  · have HM2 : Hid (m = 1 + cntQ es (l.take (t + 1))) := Lib.hid (by rw [hst, hM.out]; simp)
                    clear hst hM hE
                    go_wp2_with (go_at_call 23; (with_reducible refine CC.out.mono ?_); rintro e w5 ⟨rfl, hb5⟩; have HB5 := HB9.out.trans (hb5.mono HB9.out.size))
                    go_roundw
                    case rel => exact ⟨t + 1, m, rfl, by go_num, by omega, by omega, HB5, HM2, HE2⟩
                    case measure => simp [intOf]; omega
                  · have HM2 : Hid (m + 1 = 1 + cntQ es (l.take (t + 1))) := Lib.hid (by rw [hst, hM.out]; first | (simp; done) | (simp; omega))
                    clear hst hM hE
                    go_wp2_with (go_at_call 23; (with_reducible refine CC.out.mono ?_); rintro e w5 ⟨rfl, hb5⟩; have HB5 := HB9.out.trans (hb5.mono HB9.out.size))
                    go_roundw
                    case rel => exact ⟨t + 1, m + 1, by go_num, by go_num, by omega, by omega, HB5, HM2, HE2⟩
                    case measure => simp [intOf]; omega
                · have g0 : (e9 == 0) = false := by simpa using h9
                  have g1 : (e9 != 0) = true := by simpa using h9
                  clear h9 hst hM hE
                  go_wp2_with (first | (go_at_call 23; (with_reducible refine CC.out.mono ?_); rintro e w5 ⟨rfl, hb5⟩; have KD := Lib.hid (KW.out.trans (hb5.mono KW.out.size))) | (go_at_call 21; (with_reducible refine (EX.out _ (Lib.hid fun w' h => hL.out _ (KD.out.trans (h.mono KD.out.size)))).mono ?_); rintro e wx ⟨rfl, hbx⟩))
                  go_ret
                  exact ⟨rfl, KD.out.trans (hbx.mono KD.out.size)⟩
              · obtain rfl : t = n := by omega
                have h5 := hone.out
                have h6 := hM.out
                have h7 := hE.out
                rw [List.take_of_length_le (by rw [HN.out]; exact Nat.le_refl _)] at h6 h7
                have hm9 : m = 1 := by
                  have h8 := h5 h7
                  simp at h8
                  omega
                subst hm9
                clear h5 h6 h7 hM hE hB
                go_wp2_with (go_at_call 21; (with_reducible refine (EX.out _ (Lib.hid fun w' h => hL.out _ (KW.out.trans (h.mono KW.out.size)))).mono ?_); rintro e wx ⟨rfl, hbx⟩)
                go_ret
                exact ⟨rfl, KW.out.trans (hbx.mono KW.out.size)⟩
        · have g0 : (fa == 0) = false := by simpa using hf
          have g1 : (fa != 0) = true := by simpa using hf
          clear hf hone
          go_enter Tryd.func8, Tryd.ntmps8
          go_wp2_with (first | (go_at_call 20; refine SM.out.mono ?_; rintro e w9 ⟨rfl, rfl⟩) | (go_at_call 31; (with_reducible refine (N1.out _ RZ).mono ?_); rintro e w1 ⟨p1, c1, rfl, S1, hb1⟩; (try dsimp only at S1 ⊢); have x0 : w1.cell? ⟨w.heap.size, 0, none⟩ = some (.int .i64 k) := Rg.keep hb1 LW (by go_cell); have x1 : w1.cell? ⟨w.heap.size, 1, none⟩ = some (.slice p xs.length c) := Rg.keep hb1 LW (by go_cell); have x2 : w1.cell? ⟨w.heap.size, 2, none⟩ = some (.bool eq) := Rg.keep hb1 LW (by go_cell); have l1 : w.heap.size < w1.heap.size := Nat.lt_of_lt_of_le LW hb1.size; have KA := Lib.hid (HB0.out.trans (hb1.mono HB0.out.size)); have SO := Lib.hid S1) | (go_at_call 23; (with_reducible refine (HC.out _ (Lib.hid (SlM.keep KA.out RA.out)) (Lib.hid (SlM.keep KA.out RB.out))).mono ?_); rintro e w2 ⟨rfl, hb2⟩; have KB := Lib.hid (KA.out.trans (hb2.mono KA.out.size)); have SA := Lib.hid (SlQ.keep hb2 SO.out)) | (go_at_call 21; (with_reducible refine (EX.out _ (Lib.hid fun w' h => hL.out _ (KB.out.trans (h.mono KB.out.size)))).mono ?_); rintro e wx ⟨rfl, hbx⟩))
          go_ret
          exact ⟨rfl, KB.out.trans (hbx.mono KB.out.size)⟩
      · have g0 : (er == 0) = false := by simpa using h0
        have g1 : (er != 0) = true := by simpa using h0
        obtain rfl := her h0
        clear hone hok HC HE h0 her hl2
        unfold CsW at N1
        unfold Cv at *
        dsimp only [List.length_nil] at N1
        go_enter Tryd.func8, Tryd.ntmps8
        go_wp2_with (first | (go_at_call 20; refine SM.out.mono ?_; rintro e w9 ⟨rfl, rfl⟩) | (go_at_call 31; (with_reducible refine (N1.out _ RZ).mono ?_); rintro e w1 ⟨p1, c1, rfl, S1, hb1⟩; (try dsimp only at S1 ⊢); have x0 : w1.cell? ⟨w.heap.size, 0, none⟩ = some (.int .i64 k) := Rg.keep hb1 LW (by go_cell); have x1 : w1.cell? ⟨w.heap.size, 1, none⟩ = some (.slice p xs.length c) := Rg.keep hb1 LW (by go_cell); have x2 : w1.cell? ⟨w.heap.size, 2, none⟩ = some (.bool eq) := Rg.keep hb1 LW (by go_cell); have l1 : w.heap.size < w1.heap.size := Nat.lt_of_lt_of_le LW hb1.size; have KA := Lib.hid (HB0.out.trans (hb1.mono HB0.out.size)); have SO := Lib.hid S1) | (go_at_call 21; (with_reducible refine (EX.out _ (Lib.hid fun w' h => hL.out _ (KA.out.trans (h.mono KA.out.size)))).mono ?_); rintro e wx ⟨rfl, hbx⟩))
        go_ret
        exact ⟨rfl, KA.out.trans (hbx.mono KA.out.size)⟩
end Go.Proofs.YtbicmlkjonaccaaDoor.Ln
