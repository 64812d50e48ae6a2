/- Linear forms: the statement on coefficients, divisors and names. -/
import Derived.Test.YthdeaneffnlffaaY43
import Derived.Test.YthdeaneffnlffaaY39
import Derived.Test.YthdeaneffnlffaaY19
import Derived.Test.YthdeaneffnlffaaY6
namespace Go.Proofs.Ythdeaneffnlffaa.Ln
open Go.ChangeShapes Go.WideShapes Go.ChangeAt Go.RowKit
set_option linter.unusedVariables false
set_option linter.unusedSimpArgs false
open Go.Proofs.Ythdeaneffnlffaa.Nm
set_option maxRecDepth 100000 in
set_option maxHeartbeats 8000000 in
theorem stringsEq (p q : Option Addr) (L : List ByteArray) (c d : Nat) (w : World) (hn : L.length ≤ maxLen) (RA : Hid (SlT w p L)) (RB : Hid (SlT w q L)) :
    Calls Try.prog 25 #[.slice p L.length c, .slice q L.length d] w fun e w' => e = .returned (.bool true) ∧ Below w.heap.size w w' := by
  unfold maxLen at hn
  go_enter Try.func25, Try.ntmps25
  go_wp2
  go_loopw [5] (fun i wr => ∃ j r : Nat, i = .int .i64 (j : Int) ∧ j ≤ L.length ∧ wr = w.drewN r) (fun i _ => L.length - (intOf i).toNat)
  case atStart => exact ⟨0, 0, rfl, by omega, rfl⟩
  case round =>
    obtain ⟨j, r, rfl, hk, rfl⟩ := hrel
    have k0 : (0 : Int) ≤ j := by omega
    by_cases hlt : j < L.length
    · obtain ⟨b, o, rfl, c0⟩ := RA.out j hlt
      obtain ⟨b', o', rfl, d0⟩ := RB.out j hlt
      obtain ⟨t, ht⟩ : ∃ x, L.getD j ByteArray.empty = x := ⟨_, rfl⟩
      rw [ht] at c0 d0
      have k1 : (j : Int) < L.length := by omega
      clear ht
      go_wp2
      go_quiet (fail)
      go_wp2
      go_roundw
      case rel => exact ⟨j + 1, _, by go_num, by omega, rfl⟩
      case measure => simp [intOf]; omega
    · have k1 : ¬ (j : Int) < L.length := by omega
      go_wp2
      go_ret
      exact ⟨rfl, below_drewN (Below.refl _ _) _⟩
set_option maxRecDepth 100000 in
set_option maxHeartbeats 16000000 in
theorem law_queries (p : Option Addr) (fs : List Fm) (c : Nat) (s : ByteArray) (w : World) (hc : fs.length ≤ c) (hm : c ≤ maxLen) (RA : Hid (SlL w p fs))
    (hx : ∀ f ∈ fs, (-9223372036854775808 ≤ f.1 ∧ f.1 ≤ 9223372036854775807) ∧ f.2.2.1.length ≤ maxLen ∧ ∀ z ∈ f.2.2.1, z.1.size ≤ maxLen ∧ (-9223372036854775808 ≤ z.2 ∧ z.2 ≤ 9223372036854775807)) (hs : s.size ≤ maxLen) :
    Calls Try.prog 7 #[.slice p fs.length c, .string s] w fun e w' => e = .returned (.bool true) ∧ Below w.heap.size w w' := by
  have EX := Lib.hid alive
  have hn : fs.length ≤ maxLen := Nat.le_trans hc hm
  have HX := Lib.hid hx
  unfold maxLen at hn
  clear hx hc hm
  by_cases h6 : 6 < fs.length
  · have d6 : (6 : Int) < fs.length := by omega
    go_enter Try.func7, Try.ntmps7
    go_wp2_with fail
    refine (EX.out _).mono ?_
    rintro e wn ⟨rfl, hb⟩
    go_wp2
    go_ret
    exact ⟨rfl, hb⟩
  · have d6 : ¬ (6 : Int) < fs.length := by omega
    go_enter Try.func7, Try.ntmps7
    go_wp2
    go_loopw [5] (fun i wr => ∃ j : Nat, i = .int .i64 (j : Int) ∧ j ≤ fs.length ∧ Below w.heap.size w wr ∧ Hid (∀ i, i < j → (fs.getD i fm0).2.2.1.length ≤ 40)) (fun i _ => fs.length - (intOf i).toNat)
    case atStart => exact ⟨0, rfl, by omega, Below.refl _ _, Lib.hid fun i hi => absurd hi (by omega)⟩
    case round =>
      obtain ⟨j, rfl, hj, hB, HJ⟩ := hrel
      have j0 : (0 : Int) ≤ j := by omega
      by_cases hlt : j < fs.length
      · obtain ⟨b, o, rfl, c0, c1, c2⟩ := SlL.keep hB RA.out j hlt
        have hfx := HX.out (fs.getD j fm0) (by unfold List.getD; rw [List.getElem?_eq_getElem hlt]; exact List.getElem_mem hlt)
        obtain ⟨⟨kk, pp, xs, cc⟩, hf⟩ : ∃ f, fs.getD j fm0 = f := ⟨_, rfl⟩
        have HF := Lib.hid hf
        rw [hf] at c0 c1 c2 hfx
        simp only at c0 c1 c2 hfx
        clear hf
        have j1 : (j : Int) < fs.length := by omega
        have RX := Lib.hid c2
        have RS := Lib.hid (bd_get hfx.2.2)
        have CS := Lib.hid fun u R => small2 kk pp xs cc u hfx.2.1 R
        have A1 := Lib.hid fun u R => coeff1 kk pp xs cc s u hfx.2.1 R
        have A2 := Lib.hid fun u R => coeff2 kk pp xs cc s u hfx.2.1 R
        have A3 := Lib.hid fun u R => gcd1 kk pp xs cc u hfx.2.1 R RS
        have A4 := Lib.hid fun u R => gcd2 kk pp xs cc u hfx.2.1 R RS
        have HS := Lib.hid fun h : smB xs = true => (smB_yes h).1
        generalize smB xs = v at *
        generalize co xs s = x9 at *
        generalize wrap64 (gcdL 0 xs) = y9 at *
        unfold Lv at *
        clear c2 hfx
        go_wp2_with fail
        refine (CS.out wr RX).mono ?_
        rintro e w2 ⟨rfl, hb⟩
        have KB := hB.trans (hb.mono hB.size)
        replace c0 := kp hb (lt_of_cell c0) c0
        replace c1 := kp hb (lt_of_cell c1) c1
        replace RX := Lib.hid (SlM.keep hb RX.out)
        clear hb hB
        cases v
        · go_wp2_with fail
          refine (EX.out _).mono ?_
          rintro e wn ⟨rfl, hb⟩
          go_wp2
          go_ret
          exact ⟨rfl, KB.trans (hb.mono KB.size)⟩
        · have hl := HS.out rfl
          have HJ2 : Hid (∀ i, i < j + 1 → (fs.getD i fm0).2.2.1.length ≤ 40) := Lib.hid fun i hi => by
            by_cases hij : i = j
            · subst hij; rw [HF.out]; exact hl
            · exact HJ.out i (by omega)
          have KW := KB
          have KB : Below w2.heap.size w2 w2.drew := (Below.refl _ _).drew
          go_wp2_with fail
          have hz9 : w2.drew.cell? ⟨b, o + j * 2, none⟩ = some (.int .i64 kk) ∧ w2.drew.cell? ⟨b, o + j * 2 + 1, none⟩ = some (.slice pp xs.length cc) := ⟨c0, c1⟩
          refine Rk.begin (S := fun wS => wS.cell? ⟨b, o + j * 2, none⟩ = some (.int .i64 kk) ∧ wS.cell? ⟨b, o + j * 2 + 1, none⟩ = some (.slice pp xs.length cc)) 25 (by kernel_rfl) hz9 (fun hHeld => ?_)
          refine Rk.takeP (i := 0) (v := ?_) rfl (by kernel_rfl) (by kernel_rfl) (by kernel_rfl) (by kernel_rfl) (fun _ _ _ h => h) (Or.inl ⟨by kernel_rfl, ?_⟩) (by assumption) ?_
          rotate_left
          · ((intro w hSw; go_simp) <;> with_reducible rfl)
          try simp only [Act.put, List.setIfInBounds_toArray, List.set_cons_zero, List.set_cons_succ]
          refine Rk.takeP (i := 1) (v := ?_) rfl (by kernel_rfl) (by kernel_rfl) (by kernel_rfl) (by kernel_rfl) (fun _ _ _ h => h) (Or.inl ⟨by kernel_rfl, ?_⟩) (by assumption) ?_
          rotate_left
          · ((intro w hSw; go_simp) <;> with_reducible rfl)
          try simp only [Act.put, List.setIfInBounds_toArray, List.set_cons_zero, List.set_cons_succ]
          refine Rk.takeP (i := 2) (v := ?_) rfl (by kernel_rfl) (by kernel_rfl) (by kernel_rfl) (by kernel_rfl) (fun _ _ _ h => h) (Or.inl ⟨by kernel_rfl, ?_⟩) (by assumption) ?_
          rotate_left
          · ((intro w hSw; go_simp) <;> with_reducible rfl)
          try simp only [Act.put, List.setIfInBounds_toArray, List.set_cons_zero, List.set_cons_succ]
          refine Rk.take [5, 11, 13, 25] (i := 3) (v := ?_) rfl (by kernel_rfl) (by kernel_rfl) (by kernel_rfl) (by kernel_rfl) (by kernel_rfl) (fun _ _ _ h => h) (Or.inl ⟨by kernel_rfl, ?_⟩) (by assumption) ?_
          rotate_left
          · ((intro w hSw; (try dsimp only at hSw); go_simp) <;> with_reducible rfl)
          try simp only [Act.put, List.setIfInBounds_toArray, List.set_cons_zero, List.set_cons_succ]
          refine Rk.takeP (i := 4) (v := ?_) rfl (by kernel_rfl) (by kernel_rfl) (by kernel_rfl) (by kernel_rfl) (fun _ _ _ h => h) (Or.inl ⟨by kernel_rfl, ?_⟩) (by assumption) ?_
          rotate_left
          · ((intro w hSw; go_simp) <;> with_reducible rfl)
          try simp only [Act.put, List.setIfInBounds_toArray, List.set_cons_zero, List.set_cons_succ]
          refine Rk.takeP (i := 6) (v := ?_) rfl (by kernel_rfl) (by kernel_rfl) (by kernel_rfl) (by kernel_rfl) (fun _ _ _ h => h) (Or.inl ⟨by kernel_rfl, ?_⟩) (by assumption) ?_
          rotate_left
          · ((intro w hSw; go_simp) <;> with_reducible rfl)
          try simp only [Act.put, List.setIfInBounds_toArray, List.set_cons_zero, List.set_cons_succ]
          refine Rk.takeP (i := 7) (v := ?_) rfl (by kernel_rfl) (by kernel_rfl) (by kernel_rfl) (by kernel_rfl) (fun _ _ _ h => h) (Or.inl ⟨by kernel_rfl, ?_⟩) (by assumption) ?_
          rotate_left
          · ((intro w hSw; go_simp) <;> with_reducible rfl)
          try simp only [Act.put, List.setIfInBounds_toArray, List.set_cons_zero, List.set_cons_succ]
          refine Rk.takeP (i := 8) (v := ?_) rfl (by kernel_rfl) (by kernel_rfl) (by kernel_rfl) (by kernel_rfl) (fun _ _ _ h => h) (Or.inl ⟨by kernel_rfl, ?_⟩) (by assumption) ?_
          rotate_left
          · ((intro w hSw; go_simp) <;> with_reducible rfl)
          try simp only [Act.put, List.setIfInBounds_toArray, List.set_cons_zero, List.set_cons_succ]
          refine Rk.take [11, 13, 25] (i := 9) (v := ?_) rfl (by kernel_rfl) (by kernel_rfl) (by kernel_rfl) (by kernel_rfl) (by kernel_rfl) (fun _ _ _ h => h) (Or.inl ⟨by kernel_rfl, ?_⟩) (by assumption) ?_
          rotate_left
          · ((intro w hSw; (try dsimp only at hSw); go_simp) <;> with_reducible rfl)
          try simp only [Act.put, List.setIfInBounds_toArray, List.set_cons_zero, List.set_cons_succ]
          refine Rk.takeP (i := 10) (v := ?_) rfl (by kernel_rfl) (by kernel_rfl) (by kernel_rfl) (by kernel_rfl) (fun _ _ _ h => h) (Or.inl ⟨by kernel_rfl, ?_⟩) (by assumption) ?_
          rotate_left
          · ((intro w hSw; go_simp) <;> with_reducible rfl)
          try simp only [Act.put, List.setIfInBounds_toArray, List.set_cons_zero, List.set_cons_succ]
          refine Rk.one (i := 5) (by kernel_rfl) rfl (fun KK hK => ?_)
          rw [if_pos (by kernel_rfl)]
          go_simp
          have hR1 := Lib.hid (SlM.keep KB RX.out)
          ((with_reducible refine (A1.out w2.drew hR1).mono ?_); rintro e u1 ⟨rfl, hb1⟩)
          replace KB := KB.trans (hb1.mono KB.size)
          refine hK.out _ _ ⟨kp hb1 (lt_of_cell hHeld.1) hHeld.1, kp hb1 (lt_of_cell hHeld.2) hHeld.2⟩ (fun hHeld => ?_)
          clear hK KK
          refine Rk.one (i := 11) (by kernel_rfl) rfl (fun KK hK => ?_)
          rw [if_pos (by kernel_rfl)]
          go_simp
          have hR2 := Lib.hid (SlM.keep KB RX.out)
          ((with_reducible refine (A2.out u1 hR2).mono ?_); rintro e u2 ⟨rfl, hb2⟩)
          replace KB := KB.trans (hb2.mono KB.size)
          refine hK.out _ _ ⟨kp hb2 (lt_of_cell hHeld.1) hHeld.1, kp hb2 (lt_of_cell hHeld.2) hHeld.2⟩ (fun hHeld => ?_)
          clear hK KK
          refine Rk.takeP (i := 12) (v := ?_) rfl (by kernel_rfl) (by kernel_rfl) (by kernel_rfl) (by kernel_rfl) (fun _ _ _ h => h) (Or.inl ⟨by kernel_rfl, ?_⟩) (by assumption) ?_
          rotate_left
          · ((intro w hSw; go_simp) <;> with_reducible rfl)
          try simp only [Act.put, List.setIfInBounds_toArray, List.set_cons_zero, List.set_cons_succ]
          refine Rk.takeP (i := 13) (v := ?_) rfl (by kernel_rfl) (by kernel_rfl) (by kernel_rfl) (by kernel_rfl) (fun _ _ _ h => h) (Or.inl ⟨by kernel_rfl, ?_⟩) (by assumption) ?_
          rotate_left
          · ((intro w hSw; go_simp) <;> with_reducible rfl)
          try simp only [Act.put, List.setIfInBounds_toArray, List.set_cons_zero, List.set_cons_succ]
          refine Rk.takeP (i := 14) (v := ?_) rfl (by kernel_rfl) (by kernel_rfl) (by kernel_rfl) (by kernel_rfl) (fun _ _ _ h => h) (Or.inl ⟨by kernel_rfl, ?_⟩) (by assumption) ?_
          rotate_left
          · ((intro w hSw; go_simp) <;> with_reducible rfl)
          try simp only [Act.put, List.setIfInBounds_toArray, List.set_cons_zero, List.set_cons_succ]
          refine Rk.takeP (i := 15) (v := ?_) rfl (by kernel_rfl) (by kernel_rfl) (by kernel_rfl) (by kernel_rfl) (fun _ _ _ h => h) (Or.inl ⟨by kernel_rfl, ?_⟩) (by assumption) ?_
          rotate_left
          · ((intro w hSw; go_simp) <;> with_reducible rfl)
          try simp only [Act.put, List.setIfInBounds_toArray, List.set_cons_zero, List.set_cons_succ]
          refine Rk.takeP (i := 16) (v := ?_) rfl (by kernel_rfl) (by kernel_rfl) (by kernel_rfl) (by kernel_rfl) (fun _ _ _ h => h) (Or.inl ⟨by kernel_rfl, ?_⟩) (by assumption) ?_
          rotate_left
          · ((intro w hSw; go_simp) <;> with_reducible rfl)
          try simp only [Act.put, List.setIfInBounds_toArray, List.set_cons_zero, List.set_cons_succ]
          refine Rk.take [18, 24, 25] (i := 17) (v := ?_) rfl (by kernel_rfl) (by kernel_rfl) (by kernel_rfl) (by kernel_rfl) (by kernel_rfl) (fun _ _ _ h => h) (Or.inl ⟨by kernel_rfl, ?_⟩) (by assumption) ?_
          rotate_left
          · ((intro w hSw; (try dsimp only at hSw); go_simp) <;> with_reducible rfl)
          try simp only [Act.put, List.setIfInBounds_toArray, List.set_cons_zero, List.set_cons_succ]
          refine Rk.takeP (i := 19) (v := ?_) rfl (by kernel_rfl) (by kernel_rfl) (by kernel_rfl) (by kernel_rfl) (fun _ _ _ h => h) (Or.inl ⟨by kernel_rfl, ?_⟩) (by assumption) ?_
          rotate_left
          · ((intro w hSw; go_simp) <;> with_reducible rfl)
          try simp only [Act.put, List.setIfInBounds_toArray, List.set_cons_zero, List.set_cons_succ]
          refine Rk.takeP (i := 20) (v := ?_) rfl (by kernel_rfl) (by kernel_rfl) (by kernel_rfl) (by kernel_rfl) (fun _ _ _ h => h) (Or.inl ⟨by kernel_rfl, ?_⟩) (by assumption) ?_
          rotate_left
          · ((intro w hSw; go_simp) <;> with_reducible rfl)
          try simp only [Act.put, List.setIfInBounds_toArray, List.set_cons_zero, List.set_cons_succ]
          refine Rk.takeP (i := 21) (v := ?_) rfl (by kernel_rfl) (by kernel_rfl) (by kernel_rfl) (by kernel_rfl) (fun _ _ _ h => h) (Or.inl ⟨by kernel_rfl, ?_⟩) (by assumption) ?_
          rotate_left
          · ((intro w hSw; go_simp) <;> with_reducible rfl)
          try simp only [Act.put, List.setIfInBounds_toArray, List.set_cons_zero, List.set_cons_succ]
          refine Rk.take [23, 24, 25] (i := 22) (v := ?_) rfl (by kernel_rfl) (by kernel_rfl) (by kernel_rfl) (by kernel_rfl) (by kernel_rfl) (fun _ _ _ h => h) (Or.inl ⟨by kernel_rfl, ?_⟩) (by assumption) ?_
          rotate_left
          · ((intro w hSw; (try dsimp only at hSw); go_simp) <;> with_reducible rfl)
          try simp only [Act.put, List.setIfInBounds_toArray, List.set_cons_zero, List.set_cons_succ]
          refine Rk.one (i := 18) (by kernel_rfl) rfl (fun KK hK => ?_)
          rw [if_pos (by kernel_rfl)]
          go_simp
          have hR3 := Lib.hid (SlM.keep KB RX.out)
          ((with_reducible refine (A3.out u2 hR3).mono ?_); rintro e u3 ⟨rfl, hb3⟩)
          replace KB := KB.trans (hb3.mono KB.size)
          refine hK.out _ _ ⟨kp hb3 (lt_of_cell hHeld.1) hHeld.1, kp hb3 (lt_of_cell hHeld.2) hHeld.2⟩ (fun hHeld => ?_)
          clear hK KK
          refine Rk.one (i := 23) (by kernel_rfl) rfl (fun KK hK => ?_)
          rw [if_pos (by kernel_rfl)]
          go_simp
          have hR4 := Lib.hid (SlM.keep KB RX.out)
          ((with_reducible refine (A4.out u3 hR4).mono ?_); rintro e u4 ⟨rfl, hb4⟩)
          replace KB := KB.trans (hb4.mono KB.size)
          refine hK.out _ _ ⟨kp hb4 (lt_of_cell hHeld.1) hHeld.1, kp hb4 (lt_of_cell hHeld.2) hHeld.2⟩ (fun hHeld => ?_)
          clear hK KK
          refine Rk.takeP (i := 24) (v := ?_) rfl (by kernel_rfl) (by kernel_rfl) (by kernel_rfl) (by kernel_rfl) (fun _ _ _ h => h) (Or.inl ⟨by kernel_rfl, ?_⟩) (by assumption) ?_
          rotate_left
          · ((intro w hSw; go_simp) <;> with_reducible rfl)
          try simp only [Act.put, List.setIfInBounds_toArray, List.set_cons_zero, List.set_cons_succ]
          refine Rk.tail [25] [_] (by kernel_rfl) (by kernel_rfl) rfl (by decide) ?_
          have K9 := KW.trans (KB.mono KW.size)
          clear hHeld hz9
          go_wp2
          go_roundw
          case rel => exact ⟨j + 1, by go_num, by omega, K9, HJ2⟩
          case measure => simp [intOf]; omega
      · have j1 : ¬ (j : Int) < fs.length := by omega
        obtain rfl : j = fs.length := by omega
        have hx1 := Lib.hid fun i (hi : i < fs.length) => Nat.le_trans (HJ.out i hi) (show 40 ≤ 1000 by omega)
        have C1 := names1 p fs c wr (by omega) hx1 (Lib.hid (SlL.keep hB RA.out))
        have C1 := Lib.hid C1
        go_wp2_with fail
        refine C1.out.mono ?_
        rintro e w2 ⟨v1, L1, rfl, hO1, hS1, hM1, hl1, hb1⟩
        have K2 := hB.trans (hb1.mono hB.size)
        obtain ⟨q1, d1, rfl, t1⟩ := own_st hO1 rfl
        have C2 := Lib.hid (names2 p fs c w2 (by omega) hx1 (Lib.hid (SlL.keep K2 RA.out)))
        go_wp2_with fail
        refine C2.out.mono ?_
        rintro e w3 ⟨v2, L2, rfl, hO2, hS2, hM2, hl2, hb2⟩
        have K3 := K2.trans (hb2.mono K2.size)
        obtain ⟨q2, d2, rfl, t2⟩ := own_st hO2 rfl
        obtain rfl : L1 = L2 := Srt.ext hS1 hS2 (fun x => by rw [hM1, hM2])
        have t3 : SlT w3 q1 L1 := fun i hi => by
          obtain ⟨b, o, rfl, c0⟩ := t1 i hi
          exact ⟨b, o, rfl, kp hb2 (lt_of_cell c0) c0⟩
        have C3 := Lib.hid (stringsEq q1 q2 L1 d1 d2 w3 (by unfold maxLen; omega) (Lib.hid t3) (Lib.hid t2))
        clear t1 t2 t3 hO1 hO2 hS1 hS2 hM1 hM2 hb1 hb2
        go_wp2_with fail
        refine C3.out.mono ?_
        rintro e w4 ⟨rfl, hb⟩
        have K4 := K3.trans (hb.mono K3.size)
        go_wp2_with fail
        refine (EX.out _).mono ?_
        rintro e wn ⟨rfl, hb⟩
        go_wp2
        go_ret
        exact ⟨rfl, K4.trans (hb.mono K4.size)⟩
end Go.Proofs.Ythdeaneffnlffaa.Ln
