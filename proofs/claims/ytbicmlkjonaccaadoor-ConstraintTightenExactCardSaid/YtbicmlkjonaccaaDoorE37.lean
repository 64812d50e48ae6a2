/- The law on tightening and the environments. -/
import Derived.Test.YtbicmlkjonaccaaDoorH30
import Derived.Test.YtbicmlkjonaccaaDoorH31
import Derived.Test.YtbicmlkjonaccaaDoorH21
import Derived.Test.YtbicmlkjonaccaaDoorH3

namespace Go.Proofs.YtbicmlkjonaccaaDoor.Ln
open Go.ChangeShapes Go.WideShapes Go.ChangeAt Go.RowKit
open Go.Proofs.YtbicmlkjonaccaaDoor.Nm
set_option linter.unusedVariables false
set_option linter.unusedSimpArgs false
set_option maxRecDepth 8000

theorem wrap_bd (n : Int) : -9223372036854775808 ≤ wrap64 n ∧ wrap64 n ≤ 9223372036854775807 := by unfold wrap64; omega
/-- What Tighten answers lies in range. -/
theorem tgR_ok (k : Int) (xs : List Mo) (eq : Bool) (k1 : -9223372036854775808 ≤ k) (k2 : k ≤ 9223372036854775807) (RS : ∀ i, i < xs.length → (xs.getD i mo0).1.size ≤ maxLen ∧ -9223372036854775808 ≤ (xs.getD i mo0).2 ∧ (xs.getD i mo0).2 ≤ 9223372036854775807) :
    (-9223372036854775808 ≤ (tgR k xs eq).1 ∧ (tgR k xs eq).1 ≤ 9223372036854775807) ∧ ∀ i, i < (tgR k xs eq).2.1.length → ((tgR k xs eq).2.1.getD i mo0).1.size ≤ maxLen ∧ -9223372036854775808 ≤ ((tgR k xs eq).2.1.getD i mo0).2 ∧ ((tgR k xs eq).2.1.getD i mo0).2 ≤ 9223372036854775807 := by
  have nil : ∀ i, i < ([] : List Mo).length → (([] : List Mo).getD i mo0).1.size ≤ maxLen ∧ -9223372036854775808 ≤ (([] : List Mo).getD i mo0).2 ∧ (([] : List Mo).getD i mo0).2 ≤ 9223372036854775807 := fun i hi => absurd hi (by simp)
  unfold tgR
  cases hok : okL xs
  · rw [if_pos rfl]
    exact ⟨by decide, nil⟩
  · rw [if_neg (by decide)]
    by_cases h0 : xs.length = 0
    · rw [if_pos h0]
      split
      · exact ⟨by decide, nil⟩
      · exact ⟨by decide, nil⟩
    · rw [if_neg h0]
      have hg := (gcdL_bd hok h0 (fun i hi => (RS i hi).2)).1
      generalize gcdL 0 xs = G at *
      have hY : ∀ i, i < (tdY G xs).length → ((tdY G xs).getD i mo0).1.size ≤ maxLen ∧ -9223372036854775808 ≤ ((tdY G xs).getD i mo0).2 ∧ ((tdY G xs).getD i mo0).2 ≤ 9223372036854775807 := fun i hi => by
        rw [tdY_len] at hi
        rw [tdY_get hi]
        have h3 := RS i hi
        exact ⟨h3.1, div_bd hg h3.2.1 h3.2.2⟩
      split
      · exact ⟨by decide, nil⟩
      · split
        · split
          · exact ⟨⟨by dsimp only; decide, by dsimp only; decide⟩, nil⟩
          · dsimp only
            unfold sclR
            split
            · exact ⟨by decide, nil⟩
            · rw [if_neg (by decide)]
              split
              · refine ⟨wrap_bd _, fun i hi => ?_⟩
                dsimp only at hi ⊢
                have hl : (sclV (-1) (tdY G xs)).length = (tdY G xs).length := by unfold sclV; rw [List.length_map]
                rw [hl] at hi
                have e : (sclV (-1) (tdY G xs)).getD i mo0 = (((tdY G xs).getD i mo0).1, wrap64 (((tdY G xs).getD i mo0).2 * -1)) := by
                  unfold sclV
                  rw [List.getD_eq_getElem?_getD, List.getElem?_map, List.getElem?_eq_getElem hi]
                  have e1 : (tdY G xs).getD i mo0 = (tdY G xs)[i] := by unfold List.getD; rw [List.getElem?_eq_getElem hi]; rfl
                  rw [e1]; rfl
                rw [e]
                exact ⟨(hY i hi).1, wrap_bd _⟩
              · exact ⟨by decide, nil⟩
        · exact ⟨div_bd hg k1 k2, hY⟩
set_option maxRecDepth 100000 in
set_option maxHeartbeats 8000000 in
theorem law_cexact (k : Int) (p : Option Addr) (xs : List Mo) (c : Nat) (eq : Bool) (q : Option Addr) (es : List Mo) (d : Nat) (w : World) (hn : xs.length ≤ maxLen) (hm : es.length ≤ maxLen) (RA : Hid (SlM w p xs)) (RB : Hid (SlM w q es)) (RS : Hid (∀ i, i < xs.length → (xs.getD i mo0).1.size ≤ maxLen ∧ -9223372036854775808 ≤ (xs.getD i mo0).2 ∧ (xs.getD i mo0).2 ≤ 9223372036854775807)) (RT : Hid (∀ i, i < es.length → (es.getD i mo0).1.size ≤ maxLen ∧ -9223372036854775808 ≤ (es.getD i mo0).2 ∧ (es.getD i mo0).2 ≤ 9223372036854775807)) (k1 : -9223372036854775808 ≤ k) (k2 : k ≤ 9223372036854775807) (hL : Hid (∀ w', Below w.heap.size w w' → LA w')) :
    Calls Tryd.prog 6 #[Cv k p xs.length c eq, .slice q es.length d] w fun e w' => e = .returned (.bool true) ∧ Below w.heap.size w w' := by
  have B0 : Below w.heap.size w ((w.alloc (Obj.cells #[Value.int .i64 k, Value.slice p xs.length c, Value.bool eq] 36)).alloc (Obj.cells #[Value.int .i64 k, Value.slice p xs.length c, Value.bool eq] 36)) := ((Below.refl _ _).alloc (Nat.le_refl _) _).alloc (by simp) _
  have RZ := Lib.hid (SlM.keep B0 RA.out)
  have SQ : SlQ ((w.alloc (Obj.cells #[Value.int .i64 k, Value.slice p xs.length c, Value.bool eq] 36)).alloc (Obj.cells #[Value.int .i64 k, Value.slice p xs.length c, Value.bool eq] 36)) (some ⟨w.heap.size + 1, 0, none⟩) [(k, xs, eq)] := fun i hi => by
    rcases i with _ | i
    · exact ⟨w.heap.size + 1, 0, p, c, rfl, by go_cell, by go_cell, by go_cell, RZ.out⟩
    · exact absurd (show i + 1 < 1 from hi) (by omega)
  have SM := Lib.hid (small6 (some ⟨w.heap.size + 1, 0, none⟩) [(k, xs, eq)] 1 1 ((w.alloc (Obj.cells #[Value.int .i64 k, Value.slice p xs.length c, Value.bool eq] 36)).alloc (Obj.cells #[Value.int .i64 k, Value.slice p xs.length c, Value.bool eq] 36)) (by simp [maxLen]) (Lib.hid (by intro f hf; simp at hf; rcases hf with rfl; exact hn)) (by decide) (Lib.hid SQ))
  have EX := Lib.hid fun w h => exam6 w h
  have HB0 := Lib.hid B0
  have LW : w.heap.size < ((w.alloc (Obj.cells #[Value.int .i64 k, Value.slice p xs.length c, Value.bool eq] 36)).alloc (Obj.cells #[Value.int .i64 k, Value.slice p xs.length c, Value.bool eq] 36)).heap.size := by simp; omega
  have HM9 := Lib.hid hm
  unfold maxLen at hm
  cases hsm : smQ 1 [(k, xs, eq)]
  · rw [hsm] at SM
    clear hsm SQ
    unfold Cv at *
    go_enter Tryd.func6, Tryd.ntmps6
    go_wp2_with (first | (go_at_call 20; refine SM.out.mono ?_; rintro e w9 ⟨rfl, rfl⟩) | (go_at_call 21; (with_reducible refine (EX.out _ (Lib.hid fun w' h => hL.out _ (HB0.out.trans (h.mono HB0.out.size)))).mono ?_); rintro e wx ⟨rfl, hbx⟩))
    go_ret
    exact ⟨rfl, B0.trans (hbx.mono B0.size)⟩
  ·
    have h40 : xs.length ≤ 40 := by
      unfold smQ at hsm
      simp [smF] at hsm
      omega
    rw [hsm] at SM
    clear hsm SQ
    by_cases he : 100 < es.length
    · have he1 : (100 : Int) < es.length := by omega
      unfold Cv at *
      go_enter Tryd.func6, Tryd.ntmps6
      go_wp2_with (first | (go_at_call 20; refine SM.out.mono ?_; rintro e w9 ⟨rfl, rfl⟩) | (go_at_call 21; (with_reducible refine (EX.out _ (Lib.hid fun w' h => hL.out _ (HB0.out.trans (h.mono HB0.out.size)))).mono ?_); rintro e wx ⟨rfl, hbx⟩))
      go_ret
      exact ⟨rfl, B0.trans (hbx.mono B0.size)⟩
    · have he1 : ¬ (100 : Int) < es.length := by omega
      have T1 := Lib.hid fun w h => tig1 k p xs c eq w (Nat.le_trans h40 (by decide)) h RS k1 k2
      have VC := Lib.hid fun w h => cval1 k p xs c eq w (Nat.le_trans h40 (by decide)) h (Lib.hid fun i hi => (RS.out i hi).1)
      have HC := Lib.hid fun w h1 h2 => holds2 k p xs c eq q es d w (Nat.le_trans h40 (by decide)) HM9.out h1 h2 RS RT k1 k2
      have hlen := tgR_len k xs eq
      have hok := tgR_ok k xs eq k1 k2 RS.out
      have herr := Lib.hid (tg_err (k := k) (xs := xs) (eq := eq) (fun i hi => (RS.out i hi).2))
      have hex := Lib.hid (tg_exact (k := k) (xs := xs) (eq := eq) (es := es) (fun i hi => (RS.out i hi).2))
      have hkd := Lib.hid (tg_kind k xs eq)
      obtain ⟨R, hR⟩ : ∃ R, tgR k xs eq = R := ⟨_, rfl⟩
      rw [hR] at T1 hlen hok herr hex hkd
      obtain ⟨a, ys, eq2, kind, er⟩ := R
      dsimp only at hlen hok herr hex hkd
      have HT := Lib.hid fun p c w h1 h2 => holds2 a p ys c eq2 q es d w (by omega) HM9.out h1 h2 (Lib.hid hok.2) RT hok.1.1 hok.1.2
      clear hR hlen h40 hn hok
      by_cases h0 : er = 0
      · subst h0
        obtain ⟨⟨va, fa⟩, hva⟩ : ∃ R, hvF k xs eq es = R := ⟨_, rfl⟩
        obtain ⟨⟨vb, gb⟩, hvb⟩ : ∃ R, hvF a ys eq2 es = R := ⟨_, rfl⟩
        rw [hva] at HC
        rw [hvb] at HT
        replace hex := Lib.hid (hex.out rfl)
        rw [hva, hvb] at hex
        dsimp only at HC HT hex
        clear hva hvb herr VC
        unfold Cv at *
        by_cases hf : fa = 0
        · subst hf
          by_cases hg : gb = 0
          · subst hg
            obtain ⟨e1, e2, e3⟩ := hex.out rfl rfl
            subst e1
            clear hex
            rcases hkd.out with rfl | rfl | rfl
            · cases va
              all_goals
                clear e2 e3 hkd
                go_enter Tryd.func6, Tryd.ntmps6
                go_wp2_with (first | (go_at_call 20; refine SM.out.mono ?_; rintro e w9 ⟨rfl, rfl⟩) | (go_at_call 28; (with_reducible refine (T1.out _ RZ).mono ?_); rintro e w1 ⟨p1, c1, rfl, S1, _, hb1⟩; unfold Cv; dsimp only at S1 ⊢; have x0 : w1.cell? ⟨w.heap.size, 0, none⟩ = some (.int .i64 k) := Rg.keep hb1 LW (by go_cell); have x1 : w1.cell? ⟨w.heap.size, 1, none⟩ = some (.slice p xs.length c) := Rg.keep hb1 LW (by go_cell); have x2 : w1.cell? ⟨w.heap.size, 2, none⟩ = some (.bool eq) := Rg.keep hb1 LW (by go_cell); have l1 : w.heap.size < w1.heap.size := Nat.lt_of_lt_of_le LW hb1.size; have KA := Lib.hid (HB0.out.trans (hb1.mono HB0.out.size)); have KO := Lib.hid (KA.out.alloc KA.out.size (Obj.cells #[Value.int .i64 a, Value.slice p1 ys.length c1, Value.bool eq2] 36)); have SO := Lib.hid (SlM.keep ((Below.refl _ _).alloc (Nat.le_refl _) (Obj.cells #[Value.int .i64 a, Value.slice p1 ys.length c1, Value.bool eq2] 36)) S1)) | (go_at_call 23; (with_reducible refine (HC.out _ (Lib.hid (SlM.keep KO.out RA.out)) (Lib.hid (SlM.keep KO.out RB.out))).mono ?_); rintro e w2 ⟨rfl, hb2⟩; have y0 : w2.cell? ⟨w1.heap.size, 0, none⟩ = some (.int .i64 a) := Rg.keep hb2 (by simp) (by go_cell); have y1 : w2.cell? ⟨w1.heap.size, 1, none⟩ = some (.slice p1 ys.length c1) := Rg.keep hb2 (by simp) (by go_cell); have y2 : w2.cell? ⟨w1.heap.size, 2, none⟩ = some (.bool eq2) := Rg.keep hb2 (by simp) (by go_cell); have KB := Lib.hid (KO.out.trans (hb2.mono KO.out.size)); have SA := Lib.hid (SlM.keep hb2 SO.out)) | (go_at_call 23; (with_reducible refine (HT.out p1 c1 _ SA (Lib.hid (SlM.keep KB.out RB.out))).mono ?_); rintro e w3 ⟨rfl, hb3⟩; have KC := Lib.hid (KB.out.trans (hb3.mono KB.out.size))) | (go_at_call 21; (with_reducible refine (EX.out _ (Lib.hid fun w' h => hL.out _ (KC.out.trans (h.mono KC.out.size)))).mono ?_); rintro e wx ⟨rfl, hbx⟩))
                go_ret
                exact ⟨rfl, KC.out.trans (hbx.mono KC.out.size)⟩
            · obtain rfl := e2 rfl
              clear e2 e3 hkd
              go_enter Tryd.func6, Tryd.ntmps6
              go_wp2_with (first | (go_at_call 20; refine SM.out.mono ?_; rintro e w9 ⟨rfl, rfl⟩) | (go_at_call 28; (with_reducible refine (T1.out _ RZ).mono ?_); rintro e w1 ⟨p1, c1, rfl, S1, _, hb1⟩; unfold Cv; dsimp only at S1 ⊢; have x0 : w1.cell? ⟨w.heap.size, 0, none⟩ = some (.int .i64 k) := Rg.keep hb1 LW (by go_cell); have x1 : w1.cell? ⟨w.heap.size, 1, none⟩ = some (.slice p xs.length c) := Rg.keep hb1 LW (by go_cell); have x2 : w1.cell? ⟨w.heap.size, 2, none⟩ = some (.bool eq) := Rg.keep hb1 LW (by go_cell); have l1 : w.heap.size < w1.heap.size := Nat.lt_of_lt_of_le LW hb1.size; have KA := Lib.hid (HB0.out.trans (hb1.mono HB0.out.size)); have KO := Lib.hid (KA.out.alloc KA.out.size (Obj.cells #[Value.int .i64 a, Value.slice p1 ys.length c1, Value.bool eq2] 36)); have SO := Lib.hid (SlM.keep ((Below.refl _ _).alloc (Nat.le_refl _) (Obj.cells #[Value.int .i64 a, Value.slice p1 ys.length c1, Value.bool eq2] 36)) S1)) | (go_at_call 23; (with_reducible refine (HC.out _ (Lib.hid (SlM.keep KO.out RA.out)) (Lib.hid (SlM.keep KO.out RB.out))).mono ?_); rintro e w2 ⟨rfl, hb2⟩; have y0 : w2.cell? ⟨w1.heap.size, 0, none⟩ = some (.int .i64 a) := Rg.keep hb2 (by simp) (by go_cell); have y1 : w2.cell? ⟨w1.heap.size, 1, none⟩ = some (.slice p1 ys.length c1) := Rg.keep hb2 (by simp) (by go_cell); have y2 : w2.cell? ⟨w1.heap.size, 2, none⟩ = some (.bool eq2) := Rg.keep hb2 (by simp) (by go_cell); have KB := Lib.hid (KO.out.trans (hb2.mono KO.out.size)); have SA := Lib.hid (SlM.keep hb2 SO.out)) | (go_at_call 23; (with_reducible refine (HT.out p1 c1 _ SA (Lib.hid (SlM.keep KB.out RB.out))).mono ?_); rintro e w3 ⟨rfl, hb3⟩; have KC := Lib.hid (KB.out.trans (hb3.mono KB.out.size))) | (go_at_call 21; (with_reducible refine (EX.out _ (Lib.hid fun w' h => hL.out _ (KC.out.trans (h.mono KC.out.size)))).mono ?_); rintro e wx ⟨rfl, hbx⟩))
              go_ret
              exact ⟨rfl, KC.out.trans (hbx.mono KC.out.size)⟩
            · obtain rfl := e3 rfl
              clear e2 e3 hkd
              go_enter Tryd.func6, Tryd.ntmps6
              go_wp2_with (first | (go_at_call 20; refine SM.out.mono ?_; rintro e w9 ⟨rfl, rfl⟩) | (go_at_call 28; (with_reducible refine (T1.out _ RZ).mono ?_); rintro e w1 ⟨p1, c1, rfl, S1, _, hb1⟩; unfold Cv; dsimp only at S1 ⊢; have x0 : w1.cell? ⟨w.heap.size, 0, none⟩ = some (.int .i64 k) := Rg.keep hb1 LW (by go_cell); have x1 : w1.cell? ⟨w.heap.size, 1, none⟩ = some (.slice p xs.length c) := Rg.keep hb1 LW (by go_cell); have x2 : w1.cell? ⟨w.heap.size, 2, none⟩ = some (.bool eq) := Rg.keep hb1 LW (by go_cell); have l1 : w.heap.size < w1.heap.size := Nat.lt_of_lt_of_le LW hb1.size; have KA := Lib.hid (HB0.out.trans (hb1.mono HB0.out.size)); have KO := Lib.hid (KA.out.alloc KA.out.size (Obj.cells #[Value.int .i64 a, Value.slice p1 ys.length c1, Value.bool eq2] 36)); have SO := Lib.hid (SlM.keep ((Below.refl _ _).alloc (Nat.le_refl _) (Obj.cells #[Value.int .i64 a, Value.slice p1 ys.length c1, Value.bool eq2] 36)) S1)) | (go_at_call 23; (with_reducible refine (HC.out _ (Lib.hid (SlM.keep KO.out RA.out)) (Lib.hid (SlM.keep KO.out RB.out))).mono ?_); rintro e w2 ⟨rfl, hb2⟩; have y0 : w2.cell? ⟨w1.heap.size, 0, none⟩ = some (.int .i64 a) := Rg.keep hb2 (by simp) (by go_cell); have y1 : w2.cell? ⟨w1.heap.size, 1, none⟩ = some (.slice p1 ys.length c1) := Rg.keep hb2 (by simp) (by go_cell); have y2 : w2.cell? ⟨w1.heap.size, 2, none⟩ = some (.bool eq2) := Rg.keep hb2 (by simp) (by go_cell); have KB := Lib.hid (KO.out.trans (hb2.mono KO.out.size)); have SA := Lib.hid (SlM.keep hb2 SO.out)) | (go_at_call 23; (with_reducible refine (HT.out p1 c1 _ SA (Lib.hid (SlM.keep KB.out RB.out))).mono ?_); rintro e w3 ⟨rfl, hb3⟩; have KC := Lib.hid (KB.out.trans (hb3.mono KB.out.size))) | (go_at_call 21; (with_reducible refine (EX.out _ (Lib.hid fun w' h => hL.out _ (KC.out.trans (h.mono KC.out.size)))).mono ?_); rintro e wx ⟨rfl, hbx⟩))
              go_ret
              exact ⟨rfl, KC.out.trans (hbx.mono KC.out.size)⟩
          · have g0 : (gb == 0) = false := by simpa using hg
            have g1 : (gb != 0) = true := by simpa using hg
            clear hg hex hkd
            go_enter Tryd.func6, Tryd.ntmps6
            go_wp2_with (first | (go_at_call 20; refine SM.out.mono ?_; rintro e w9 ⟨rfl, rfl⟩) | (go_at_call 28; (with_reducible refine (T1.out _ RZ).mono ?_); rintro e w1 ⟨p1, c1, rfl, S1, _, hb1⟩; unfold Cv; dsimp only at S1 ⊢; have x0 : w1.cell? ⟨w.heap.size, 0, none⟩ = some (.int .i64 k) := Rg.keep hb1 LW (by go_cell); have x1 : w1.cell? ⟨w.heap.size, 1, none⟩ = some (.slice p xs.length c) := Rg.keep hb1 LW (by go_cell); have x2 : w1.cell? ⟨w.heap.size, 2, none⟩ = some (.bool eq) := Rg.keep hb1 LW (by go_cell); have l1 : w.heap.size < w1.heap.size := Nat.lt_of_lt_of_le LW hb1.size; have KA := Lib.hid (HB0.out.trans (hb1.mono HB0.out.size)); have KO := Lib.hid (KA.out.alloc KA.out.size (Obj.cells #[Value.int .i64 a, Value.slice p1 ys.length c1, Value.bool eq2] 36)); have SO := Lib.hid (SlM.keep ((Below.refl _ _).alloc (Nat.le_refl _) (Obj.cells #[Value.int .i64 a, Value.slice p1 ys.length c1, Value.bool eq2] 36)) S1)) | (go_at_call 23; (with_reducible refine (HC.out _ (Lib.hid (SlM.keep KO.out RA.out)) (Lib.hid (SlM.keep KO.out RB.out))).mono ?_); rintro e w2 ⟨rfl, hb2⟩; have y0 : w2.cell? ⟨w1.heap.size, 0, none⟩ = some (.int .i64 a) := Rg.keep hb2 (by simp) (by go_cell); have y1 : w2.cell? ⟨w1.heap.size, 1, none⟩ = some (.slice p1 ys.length c1) := Rg.keep hb2 (by simp) (by go_cell); have y2 : w2.cell? ⟨w1.heap.size, 2, none⟩ = some (.bool eq2) := Rg.keep hb2 (by simp) (by go_cell); have KB := Lib.hid (KO.out.trans (hb2.mono KO.out.size)); have SA := Lib.hid (SlM.keep hb2 SO.out)) | (go_at_call 23; (with_reducible refine (HT.out p1 c1 _ SA (Lib.hid (SlM.keep KB.out RB.out))).mono ?_); rintro e w3 ⟨rfl, hb3⟩; have KC := Lib.hid (KB.out.trans (hb3.mono KB.out.size))) | (go_at_call 21; (with_reducible refine (EX.out _ (Lib.hid fun w' h => hL.out _ (KC.out.trans (h.mono KC.out.size)))).mono ?_); rintro e wx ⟨rfl, hbx⟩))
            go_ret
            exact ⟨rfl, KC.out.trans (hbx.mono KC.out.size)⟩
        · have g0 : (fa == 0) = false := by simpa using hf
          have g1 : (fa != 0) = true := by simpa using hf
          clear hf hex hkd
          go_enter Tryd.func6, Tryd.ntmps6
          go_wp2_with (first | (go_at_call 20; refine SM.out.mono ?_; rintro e w9 ⟨rfl, rfl⟩) | (go_at_call 28; (with_reducible refine (T1.out _ RZ).mono ?_); rintro e w1 ⟨p1, c1, rfl, S1, _, hb1⟩; unfold Cv; dsimp only at S1 ⊢; have x0 : w1.cell? ⟨w.heap.size, 0, none⟩ = some (.int .i64 k) := Rg.keep hb1 LW (by go_cell); have x1 : w1.cell? ⟨w.heap.size, 1, none⟩ = some (.slice p xs.length c) := Rg.keep hb1 LW (by go_cell); have x2 : w1.cell? ⟨w.heap.size, 2, none⟩ = some (.bool eq) := Rg.keep hb1 LW (by go_cell); have l1 : w.heap.size < w1.heap.size := Nat.lt_of_lt_of_le LW hb1.size; have KA := Lib.hid (HB0.out.trans (hb1.mono HB0.out.size)); have KO := Lib.hid (KA.out.alloc KA.out.size (Obj.cells #[Value.int .i64 a, Value.slice p1 ys.length c1, Value.bool eq2] 36)); have SO := Lib.hid (SlM.keep ((Below.refl _ _).alloc (Nat.le_refl _) (Obj.cells #[Value.int .i64 a, Value.slice p1 ys.length c1, Value.bool eq2] 36)) S1)) | (go_at_call 23; (with_reducible refine (HC.out _ (Lib.hid (SlM.keep KO.out RA.out)) (Lib.hid (SlM.keep KO.out RB.out))).mono ?_); rintro e w2 ⟨rfl, hb2⟩; have y0 : w2.cell? ⟨w1.heap.size, 0, none⟩ = some (.int .i64 a) := Rg.keep hb2 (by simp) (by go_cell); have y1 : w2.cell? ⟨w1.heap.size, 1, none⟩ = some (.slice p1 ys.length c1) := Rg.keep hb2 (by simp) (by go_cell); have y2 : w2.cell? ⟨w1.heap.size, 2, none⟩ = some (.bool eq2) := Rg.keep hb2 (by simp) (by go_cell); have KB := Lib.hid (KO.out.trans (hb2.mono KO.out.size)); have SA := Lib.hid (SlM.keep hb2 SO.out)) | (go_at_call 23; (with_reducible refine (HT.out p1 c1 _ SA (Lib.hid (SlM.keep KB.out RB.out))).mono ?_); rintro e w3 ⟨rfl, hb3⟩; have KC := Lib.hid (KB.out.trans (hb3.mono KB.out.size))) | (go_at_call 21; (with_reducible refine (EX.out _ (Lib.hid fun w' h => hL.out _ (KC.out.trans (h.mono KC.out.size)))).mono ?_); rintro e wx ⟨rfl, hbx⟩))
          go_ret
          exact ⟨rfl, KC.out.trans (hbx.mono KC.out.size)⟩
      · clear hex hkd HC HT
        rcases herr.out h0 with rfl | ⟨rfl, hv⟩
        · clear herr h0 VC
          unfold Cv at *
          go_enter Tryd.func6, Tryd.ntmps6
          go_wp2_with (first | (go_at_call 20; refine SM.out.mono ?_; rintro e w9 ⟨rfl, rfl⟩) | (go_at_call 28; (with_reducible refine (T1.out _ RZ).mono ?_); rintro e w1 ⟨p1, c1, rfl, S1, _, hb1⟩; unfold Cv; dsimp only at S1 ⊢; have x0 : w1.cell? ⟨w.heap.size, 0, none⟩ = some (.int .i64 k) := Rg.keep hb1 LW (by go_cell); have x1 : w1.cell? ⟨w.heap.size, 1, none⟩ = some (.slice p xs.length c) := Rg.keep hb1 LW (by go_cell); have x2 : w1.cell? ⟨w.heap.size, 2, none⟩ = some (.bool eq) := Rg.keep hb1 LW (by go_cell); have l1 : w.heap.size < w1.heap.size := Nat.lt_of_lt_of_le LW hb1.size; have KA := Lib.hid (HB0.out.trans (hb1.mono HB0.out.size)); have KO := Lib.hid (KA.out.alloc KA.out.size (Obj.cells #[Value.int .i64 a, Value.slice p1 ys.length c1, Value.bool eq2] 36)); have SO := Lib.hid (SlM.keep ((Below.refl _ _).alloc (Nat.le_refl _) (Obj.cells #[Value.int .i64 a, Value.slice p1 ys.length c1, Value.bool eq2] 36)) S1)) | (go_at_call 21; (with_reducible refine (EX.out _ (Lib.hid fun w' h => hL.out _ (KO.out.trans (h.mono KO.out.size)))).mono ?_); rintro e wx ⟨rfl, hbx⟩))
          go_ret
          exact ⟨rfl, KO.out.trans (hbx.mono KO.out.size)⟩
        · rw [hv] at VC
          clear herr h0 hv
          unfold Cv at *
          go_enter Tryd.func6, Tryd.ntmps6
          go_wp2_with (first | (go_at_call 20; refine SM.out.mono ?_; rintro e w9 ⟨rfl, rfl⟩) | (go_at_call 28; (with_reducible refine (T1.out _ RZ).mono ?_); rintro e w1 ⟨p1, c1, rfl, S1, _, hb1⟩; unfold Cv; dsimp only at S1 ⊢; have x0 : w1.cell? ⟨w.heap.size, 0, none⟩ = some (.int .i64 k) := Rg.keep hb1 LW (by go_cell); have x1 : w1.cell? ⟨w.heap.size, 1, none⟩ = some (.slice p xs.length c) := Rg.keep hb1 LW (by go_cell); have x2 : w1.cell? ⟨w.heap.size, 2, none⟩ = some (.bool eq) := Rg.keep hb1 LW (by go_cell); have l1 : w.heap.size < w1.heap.size := Nat.lt_of_lt_of_le LW hb1.size; have KA := Lib.hid (HB0.out.trans (hb1.mono HB0.out.size)); have KO := Lib.hid (KA.out.alloc KA.out.size (Obj.cells #[Value.int .i64 a, Value.slice p1 ys.length c1, Value.bool eq2] 36)); have SO := Lib.hid (SlM.keep ((Below.refl _ _).alloc (Nat.le_refl _) (Obj.cells #[Value.int .i64 a, Value.slice p1 ys.length c1, Value.bool eq2] 36)) S1)) | (go_at_call 24; (with_reducible refine (VC.out _ (Lib.hid (SlM.keep KO.out RA.out))).mono ?_); rintro e w2 ⟨rfl, hb2⟩; have KV := Lib.hid (KO.out.trans (hb2.mono KO.out.size))) | (go_at_call 21; (with_reducible refine (EX.out _ (Lib.hid fun w' h => hL.out _ (KV.out.trans (h.mono KV.out.size)))).mono ?_); rintro e wx ⟨rfl, hbx⟩))
          go_ret
          exact ⟨rfl, KV.out.trans (hbx.mono KV.out.size)⟩
end Go.Proofs.YtbicmlkjonaccaaDoor.Ln
