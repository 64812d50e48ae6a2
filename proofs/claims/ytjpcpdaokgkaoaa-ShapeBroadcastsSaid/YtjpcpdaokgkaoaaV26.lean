/- The statement on Permute: its walk. -/
import Derived.Test.YtjpcpdaokgkaoaaV25
namespace Go.Proofs.Ytjpcpdaokgkaoaa.Sh
open Go.ChangeShapes Go.WideShapes Go.ChangeAt Go.RowKit
set_option linter.unusedVariables false

theorem pm_zero {zs os : List Int} (h : pmE zs os = 0) : vE zs = 0 ∧ os.length = zs.length ∧ gd zs.length os zs.length ∧ pmL zs os = pm zs os := by
  unfold pmE at h
  by_cases h1 : (vE zs != 0) = true
  · rw [if_pos h1] at h; simp [h] at h1
  rw [if_neg h1] at h
  by_cases h2 : os.length = zs.length ∧ gd zs.length os zs.length
  · refine ⟨by simpa using h1, h2.1, h2.2, ?_⟩
    unfold pmL
    rw [if_neg h1, if_pos h2]
  · rw [if_neg h2] at h; cases h
theorem pmL_len {zs os : List Int} (h : os.length ≤ maxLen) : (pmL zs os).length ≤ maxLen := by
  unfold pmL
  split
  · simp
  split
  · rw [pm_length]; exact h
  · simp
set_option maxHeartbeats 4000000 in
theorem law6_long1 (p : Option Addr) (zs : List Int) (c : Nat) (q : Option Addr) (os : List Int) (d : Nat) (w : World) (hc : zs.length ≤ c) (hc' : c ≤ maxLen) (RA : Hid (SlI w p zs)) (hd : os.length ≤ d) (hd' : d ≤ maxLen) (RB : Hid (SlI w q os)) (h5 : 50 < zs.length) : Calls Try.prog 6 #[.slice p zs.length c, .slice q os.length d] w (Ret (.bool true) w) := by
  have AL := Lib.hid alive
  have l1 : decide ((50 : Int) < zs.length) = true := by simp <;> omega
  have l2 : decide (50 < zs.length) = true := by simp <;> omega
  go_enter Try.func6, Try.ntmps6
  go_wp2_with (go_at_call 13; refine (AL.out _).mono ?_; rintro e w1 ⟨rfl, hb⟩)
  go_ret
  exact ⟨rfl, hb⟩
set_option maxHeartbeats 4000000 in
theorem law6_long2 (p : Option Addr) (zs : List Int) (c : Nat) (q : Option Addr) (os : List Int) (d : Nat) (w : World) (hc : zs.length ≤ c) (hc' : c ≤ maxLen) (RA : Hid (SlI w p zs)) (hd : os.length ≤ d) (hd' : d ≤ maxLen) (RB : Hid (SlI w q os)) (h5 : ¬ 50 < zs.length) (h6 : 50 < os.length) : Calls Try.prog 6 #[.slice p zs.length c, .slice q os.length d] w (Ret (.bool true) w) := by
  have AL := Lib.hid alive
  have l1 : decide ((50 : Int) < zs.length) = false := by simp <;> omega
  have l2 : decide (50 < zs.length) = false := by simp <;> omega
  have m1 : decide ((50 : Int) < os.length) = true := by simp <;> omega
  have m2 : decide (50 < os.length) = true := by simp <;> omega
  go_enter Try.func6, Try.ntmps6
  go_wp2_with (go_at_call 13; refine (AL.out _).mono ?_; rintro e w1 ⟨rfl, hb⟩)
  go_ret
  exact ⟨rfl, hb⟩
set_option maxHeartbeats 4000000 in
theorem law6_err (p : Option Addr) (zs : List Int) (c : Nat) (q : Option Addr) (os : List Int) (d : Nat) (w : World) (hc : zs.length ≤ c) (hc' : c ≤ maxLen) (RA : Hid (SlI w p zs)) (hd : os.length ≤ d) (hd' : d ≤ maxLen) (RB : Hid (SlI w q os)) (h5 : ¬ 50 < zs.length) (h6 : ¬ 50 < os.length) (hE : (pmE zs os != 0) = true) : Calls Try.prog 6 #[.slice p zs.length c, .slice q os.length d] w (Ret (.bool true) w) := by
  have AL := Lib.hid alive
  have l1 : decide ((50 : Int) < zs.length) = false := by simp <;> omega
  have l2 : decide (50 < zs.length) = false := by simp <;> omega
  have m1 : decide ((50 : Int) < os.length) = false := by simp <;> omega
  have m2 : decide (50 < os.length) = false := by simp <;> omega
  have hn : zs.length ≤ maxLen := Nat.le_trans hc hc'
  have C27 := Lib.hid (c27 p q zs os c d w hn RA RB)
  have C28 := Lib.hid fun (y : World) (h : Below w.heap.size w y) => c28 p q zs os c d y hn (Lib.hid (SlI.keep h RA.out)) (Lib.hid (SlI.keep h RB.out))
  have HSL := Lib.hid (pmL_len (zs := zs) (os := os) (Nat.le_trans hd hd'))
  generalize pmL zs os = L at *
  generalize pmE zs os = E at *
  generalize zs.length = n at *
  generalize os.length = m at *
  have b1 : (E != E) = false := by simp
  clear h5 h6
  go_enter Try.func6, Try.ntmps6
  go_wp2_with fail
  refine (C27.out).mono ?_
  rintro e w1 ⟨v1, rfl, K1, O1⟩
  obtain ⟨p1, c1, rfl, lc1, lm1, S1⟩ := own_SlI O1
  clear O1 C27
  go_wp2_with fail
  refine (C28.out w1 K1).mono ?_
  rintro e w2 ⟨v2, rfl, K2, O2⟩
  obtain ⟨p2, c2, rfl, _, _, S2⟩ := own_SlI O2
  have S1' := Lib.hid (SlI.keep K2 S1.out)
  have KB : Below w.heap.size w w2 := K1.trans (K2.mono K1.size)
  have CI := Lib.hid (c18 p1 p2 L L c1 c2 w2 HSL.out HSL.out S1' S2)
  rw [decide_eq_true rfl] at CI
  clear O2 C28 S1 S2 HSL K2 K1
  go_wp2_with fail
  refine (CI.out).mono ?_
  rintro e w3 ⟨rfl, k3, hw3⟩
  have K3 : Below w.heap.size w w3 := by rw [hw3]; exact below_drewN KB k3
  have S1 : Hid (SlI w3 p1 L) := Lib.hid (SlI.keep (by rw [hw3]; exact below_drewN (Below.refl _ _) k3) S1'.out)
  clear CI hw3 KB S1'
  go_wp2_with fail
  refine (AL.out _).mono ?_
  rintro e w4 ⟨rfl, hb⟩
  go_wp2
  go_ret
  exact ⟨rfl, K3.trans (hb.mono K3.size)⟩
set_option maxHeartbeats 8000000 in
theorem law6_ok (p : Option Addr) (zs : List Int) (c : Nat) (q : Option Addr) (os : List Int) (d : Nat) (w : World) (hc : zs.length ≤ c) (hc' : c ≤ maxLen) (RA : Hid (SlI w p zs)) (hd : os.length ≤ d) (hd' : d ≤ maxLen) (RB : Hid (SlI w q os)) (hE : pmE zs os = 0) : Calls Try.prog 6 #[.slice p zs.length c, .slice q os.length d] w (Ret (.bool true) w) := by
  obtain ⟨hv, hl, hg, hL⟩ := pm_zero hE
  obtain ⟨h66, _⟩ := valid_of hv
  have h5 : ¬ 50 < zs.length := by omega
  have h6 : ¬ 50 < os.length := by omega
  have AL := Lib.hid alive
  have l1 : decide ((50 : Int) < zs.length) = false := by simp <;> omega
  have l2 : decide (50 < zs.length) = false := by simp <;> omega
  have m1 : decide ((50 : Int) < os.length) = false := by simp <;> omega
  have m2 : decide (50 < os.length) = false := by simp <;> omega
  have hn : zs.length ≤ maxLen := Nat.le_trans hc hc'
  have C27 := Lib.hid (c27 p q zs os c d w hn RA RB)
  have C28 := Lib.hid fun (y : World) (h : Below w.heap.size w y) => c28 p q zs os c d y hn (Lib.hid (SlI.keep h RA.out)) (Lib.hid (SlI.keep h RB.out))
  have HSL := Lib.hid (pmL_len (zs := zs) (os := os) (Nat.le_trans hd hd'))
  have C27b : Hid (∀ (y : World) (q1 q2 : Option Addr) (bs : List Int) (cc dd : Nat), SlI y q1 (pm zs os) → SlI y q2 bs → bs.length = zs.length → (∀ i, i < zs.length → bs.getD (os.getD i 0).toNat 0 = (i : Int)) → Calls Try.prog 27 #[.slice q1 zs.length cc, .slice q2 zs.length dd] y (QW zs 0 y)) := Lib.hid fun y q1 q2 bs cc dd s1 s2 hb1 hb2 => by
    have h := c27 q1 q2 (pm zs os) bs cc dd y (by rw [pm_length, hl]; exact hn) (Lib.hid s1) (Lib.hid s2)
    have hpl : (pm zs os).length = zs.length := by rw [pm_length, hl]
    have hve := vE_perm (pm_perm hl hg) hv
    have hgb := bk_good hl hg hb2
    have hgb2 : bs.length = (pm zs os).length ∧ gd (pm zs os).length bs (pm zs os).length := by rw [hpl]; exact ⟨hb1, hgb⟩
    have e1 : pmE (pm zs os) bs = 0 := by
      unfold pmE
      rw [if_neg (by rw [hve]; decide), if_pos hgb2]
    have e2 : pmL (pm zs os) bs = zs := by
      unfold pmL
      rw [if_neg (by rw [hve]; decide), if_pos hgb2]
      exact bk_back hl hb1 hg hb2
    rw [e1, e2, hpl, hb1] at h
    exact h
  rw [hE, hL] at C27 C28
  rw [hL] at HSL
  have CZ : Hid (∀ (y : World) (q1 : Option Addr) (cc : Nat), Below w.heap.size w y → SlI y q1 zs → Calls Try.prog 18 #[.slice q1 zs.length cc, .slice p zs.length c] y fun e w' => e = .returned (.bool true) ∧ ∃ k, w' = y.drewN k) := Lib.hid fun y q1 cc h s => by
    have h2 := c18 q1 p zs zs cc c y hn hn (Lib.hid s) (Lib.hid (SlI.keep h RA.out))
    rw [decide_eq_true rfl] at h2
    exact h2
  have HG := Lib.hid hg
  have HLP : Hid ((pm zs os).length = zs.length) := Lib.hid (by rw [pm_length, hl])
  clear hE hL hg hv h5 h6
  obtain ⟨n, hN⟩ : ∃ n, zs.length = n := ⟨_, rfl⟩
  have hM : os.length = n := by omega
  have HN := Lib.hid hN
  have HM := Lib.hid hM
  rw [hN] at C27 C28 C27b CZ HG HLP l1 l2 h66 hn ⊢
  rw [hM] at C27 C28 m1 m2 ⊢
  clear hN hM hl
  obtain ⟨i0, hi, hz0, hz1, hz2⟩ := info_parts info3
  generalize hL : pm zs os = L at C27 C28 C27b HSL HLP
  clear hL
  go_enter Try.func6, Try.ntmps6
  go_wp2_with fail
  refine (C27.out).mono ?_
  rintro e w1 ⟨v1, rfl, K1, O1⟩
  obtain ⟨p1, c1, rfl, lc1, lm1, S1⟩ := own_SlI O1
  rw [HLP.out]
  clear O1 C27
  go_wp2_with fail
  refine (C28.out w1 K1).mono ?_
  rintro e w2 ⟨v2, rfl, K2, O2⟩
  obtain ⟨p2, c2, rfl, _, _, S2⟩ := own_SlI O2
  rw [HLP.out]
  have S1' := Lib.hid (SlI.keep K2 S1.out)
  have KB : Below w.heap.size w w2 := K1.trans (K2.mono K1.size)
  have CI := Lib.hid (c18 p1 p2 L L c1 c2 w2 HSL.out HSL.out S1' S2)
  rw [decide_eq_true rfl, HLP.out] at CI
  clear O2 C28 S1 S2 HSL K2 K1
  go_wp2_with fail
  refine (CI.out).mono ?_
  rintro e w3 ⟨rfl, k3, hw3⟩
  have K3 : Below w.heap.size w w3 := by rw [hw3]; exact below_drewN KB k3
  have S1 : Hid (SlI w3 p1 L) := Lib.hid (SlI.keep (by rw [hw3]; exact below_drewN (Below.refl _ _) k3) S1'.out)
  clear CI hw3 KB S1'
  go_wp2_with (refine wpList_make_full _ rfl _ _ 22 rfl w3.heap.size 3 i0 (.int .i64 0) 1 Try.underlying22 hi hz0 hz1 .i64 .i64 _ _ n rfl rfl rfl rfl (by rw [hz2]; omega) (by unfold maxLen; omega) (Nat.le_refl _) ?_; intro w4 hown hg; have hB := below_own (Nat.le_refl _) hg; clear hg hi hz0 hz1 hz2 i0)
  have bs1 : Hid (w4.ownsRow w3.heap.size 3 1 (.slice (some ⟨w3.heap.size, 0, none⟩) n n) n ((List.replicate n (0 : Int)).map (Value.int .i64))) := Lib.hid (by
    have h := hown
    rw [show (Value.int IntKind.i64 0).cells = #[.int .i64 0] from rfl, toList_madeCells_one, Nat.mul_one] at h
    rw [List.map_replicate]
    exact h)
  clear hown
  go_loopw [10] (fun i wr => ∃ (k : Nat) (bs : List Int), i = .int .i64 (k : Int) ∧ k ≤ n ∧ Below w3.heap.size w3 wr ∧ bs.length = n ∧ Hid (∀ i, i < k → bs.getD (os.getD i 0).toNat 0 = (i : Int)) ∧ Hid (wr.ownsRow w3.heap.size 3 1 (.slice (some ⟨w3.heap.size, 0, none⟩) n n) n (bs.map (Value.int .i64)))) (fun i _ => n - (intOf i).toNat)
  case atStart => exact ⟨0, _, rfl, by omega, hB, by simp, Lib.hid fun i hi => by omega, bs1⟩
  case round =>
    obtain ⟨k, bs, rfl, hk, KR, hbl, hBS, oB⟩ := hrel
    clear bs1 hB
    have KW : Below w.heap.size w wr := K3.trans (KR.mono K3.size)
    by_cases hlt : k < n
    · obtain ⟨b2, o2, rfl, x2⟩ := RB.out k (by rw [HM.out]; exact hlt)
      have hgk := HG.out k hlt
      obtain ⟨x, hX⟩ : ∃ x, os.getD k 0 = x := ⟨_, rfl⟩
      rw [hX] at x2 hgk
      obtain ⟨g0, g1, g2⟩ := hgk
      obtain ⟨X, rfl⟩ : ∃ X : Nat, x = X := ⟨x.toNat, by omega⟩
      have lt2 : b2 < w.heap.size := by have := World.block_lt_of_cell? w _ x2; simpa using this
      have x3 := Rg.keep' KW lt2 x2
      have ks := K3.size
      have HX := Lib.hid hX
      have HD := Lib.hid g2
      have hXn : X < n := by omega
      have i0' : (0 : Int) ≤ k := by omega
      have i1 : (k : Int) < n := by omega
      have n2 : ¬ w3.heap.size = b2 := by omega
      have oc := cells_of oB.out (j := X) hXn hbl
      have of := oB.out.frozenAt X
      have sB := Lib.hid (oB.out.stored X (.int .i64 (k : Int))).1
      have KR2 : Below w3.heap.size w3 (wr.setCell ⟨w3.heap.size, X, none⟩ (.int .i64 (k : Int))) := Below.setCell KR (Nat.le_refl _) _
      clear hX g2 x2
      go_wp2
      go_roundw
      case rel =>
        refine ⟨k + 1, bs.set X (k : Int), by go_num, by omega, KR2, by simp [hbl], Lib.hid fun i hi => ?_, Lib.hid (by rw [List.map_set]; exact sB.out)⟩
        by_cases e : i = k
        · subst e
          rw [HX.out, Int.toNat_natCast, getD_at (by simp [hbl]; omega), List.getElem_set_self]
        · have hik : i < k := by omega
          obtain ⟨g3, g4, _⟩ := HG.out i (by omega)
          have h2 := HD.out i hik
          have h3 := hBS.out i hik
          rw [getD_at (by rw [List.length_set, hbl]; omega), List.getElem_set_ne (by omega), ← getD_at (by omega)]
          exact h3
      case measure => simp [intOf]; omega
    · obtain rfl : k = n := by omega
      have SB : Hid (SlI wr (some ⟨w3.heap.size, 0, none⟩) bs) := Lib.hid fun i hi => ⟨_, _, rfl, by rw [Nat.zero_add]; exact cells_of oB.out (by omega) hbl⟩
      have SL : Hid (SlI wr p1 L) := Lib.hid (SlI.keep KR S1.out)
      have CF := Lib.hid (fun cc => C27b.out wr p1 (some ⟨w3.heap.size, 0, none⟩) bs c1 cc SL.out SB.out hbl hBS.out)
      clear C27b SB SL hBS oB
      go_wp2_with fail
      refine (CF.out _).mono ?_
      rintro e w5 ⟨v5, rfl, K5, O5⟩
      obtain ⟨p5, c5, rfl, _, _, S5⟩ := own_SlI O5
      rw [HN.out]
      have KW5 : Below w.heap.size w w5 := KW.trans (K5.mono KW.size)
      clear O5 CF K5
      go_wp2_with fail
      refine (CZ.out w5 _ _ KW5 S5.out).mono ?_
      rintro e w6 ⟨rfl, k6, hw6⟩
      have K6 : Below w.heap.size w w6 := by rw [hw6]; exact below_drewN KW5 k6
      clear hw6 CZ
      go_wp2_with fail
      refine (AL.out _).mono ?_
      rintro e w7 ⟨rfl, hb⟩
      go_wp2
      go_ret
      exact ⟨rfl, K6.trans (hb.mono K6.size)⟩
theorem law6 (p : Option Addr) (zs : List Int) (c : Nat) (q : Option Addr) (os : List Int) (d : Nat) (w : World) (hc : zs.length ≤ c) (hc' : c ≤ maxLen) (RA : Hid (SlI w p zs)) (hd : os.length ≤ d) (hd' : d ≤ maxLen) (RB : Hid (SlI w q os)) : Calls Try.prog 6 #[.slice p zs.length c, .slice q os.length d] w (Ret (.bool true) w) := by
  by_cases h5 : 50 < zs.length
  · exact law6_long1 p zs c q os d w hc hc' RA hd hd' RB h5
  by_cases h6 : 50 < os.length
  · exact law6_long2 p zs c q os d w hc hc' RA hd hd' RB h5 h6
  by_cases hE : pmE zs os = 0
  · exact law6_ok p zs c q os d w hc hc' RA hd hd' RB hE
  · exact law6_err p zs c q os d w hc hc' RA hd hd' RB h5 h6 (by simpa using hE)
end Go.Proofs.Ytjpcpdaokgkaoaa.Sh
