/- Format of the reference. -/
import Derived.Test.YtbicmlkjonaccaaDoorZ4
import Derived.Test.YtbicmlkjonaccaaDoorZ6
import Derived.Test.YtbicmlkjonaccaaDoorY11
import Derived.Test.YtbicmlkjonaccaaDoorRk
import Derived.IntWalk
namespace Go.Proofs.YtbicmlkjonaccaaDoor.Ln
open Go.ChangeShapes Go.WideShapes Go.ChangeAt Go.RowKit
open Go.Proofs.YtbicmlkjonaccaaDoor.Nm
set_option linter.unusedVariables false
set_option linter.unusedSimpArgs false
set_option maxRecDepth 8000

theorem app3 (l : List UInt8) (z : ByteArray) : ((⟨l.toArray⟩ : ByteArray) ++ (⟨#[42]⟩ : ByteArray) ++ z).data.toList = l ++ [42] ++ z.data.toList := by simp
set_option maxRecDepth 100000 in
set_option maxHeartbeats 8000000 in
theorem fmt2 (k : Int) (p : Option Addr) (xs : List Mo) (c : Nat) (w : World) (hn : xs.length ≤ 40) (RA : Hid (SlM w p xs)) (RS : Hid (∀ i, i < xs.length → (xs.getD i mo0).1.size ≤ maxLen))
    (RB : Hid (∀ i, i < xs.length → -9223372036854775808 ≤ (xs.getD i mo0).2 ∧ (xs.getD i mo0).2 ≤ 9223372036854775807)) (k0 : -9223372036854775808 ≤ k) (k1 : k ≤ 9223372036854775807) :
    Calls Tryd.prog 19 #[Lv k p xs.length c] w fun e w' => e = .returned (.string (if okL xs = true then ⟨(fmL k xs).toArray⟩ else ⟨#[]⟩)) ∧ Below w.heap.size w w' := by
  have VL := Lib.hid fun w h => val2 k p xs c w (by unfold maxLen; omega) h RS
  have B0 : Below w.heap.size w (w.alloc (Obj.cells #[Value.int .i64 k, Value.slice p xs.length c] 24)) := (Below.refl _ _).alloc (Nat.le_refl _) _
  cases hok : okL xs
  · rw [if_neg (by decide)]
    unfold vL at VL
    rw [hok, if_neg (by decide)] at VL
    have RA2 := Lib.hid (SlM.keep B0 RA.out)
    unfold Lv at *
    clear hok RB RS
    go_enter Tryd.func19, Tryd.ntmps19
    go_wp2_with (go_at_call 17; refine (VL.out _ RA2).mono ?_; rintro e w1 ⟨rfl, hb⟩)
    go_ret
    exact ⟨rfl, B0.trans (hb.mono B0.size)⟩
  · rw [if_pos rfl]
    unfold vL at VL
    rw [hok, if_pos rfl] at VL
    have HLEN := Lib.hid fun k hk => ok_bd hok RB.out hn (k := k) hk
    have RA2 := Lib.hid (SlM.keep B0 RA.out)
    unfold Lv at *
    clear hok RS
    obtain ⟨D, hD⟩ : ∃ D : ByteArray, ⟨(fmL k xs).toArray⟩ = D := ⟨_, rfl⟩
    rw [hD]
    have HD := Lib.hid hD
    clear hD
    go_enter Tryd.func19, Tryd.ntmps19
    go_wp2_with fail
    refine (VL.out _ RA2).mono ?_
    rintro e w1 ⟨rfl, hb⟩
    have c0 : w1.cell? ⟨w.heap.size, 0, none⟩ = some (.int .i64 k) := Rg.keep hb (by simp) (by go_cell)
    have c1 : w1.cell? ⟨w.heap.size, 1, none⟩ = some (.slice p xs.length c) := Rg.keep hb (by simp) (by go_cell)
    have K1 : Below w.heap.size w w1 := B0.trans (hb.mono B0.size)
    have hS : Hid (w1.cell? ⟨w.heap.size, 0, none⟩ = some (.int .i64 k) ∧ w1.cell? ⟨w.heap.size, 1, none⟩ = some (.slice p xs.length c) ∧ Below w.heap.size w w1) := Lib.hid ⟨c0, c1, K1⟩
    clear hb VL B0 RA2 c0 c1 K1
    go_wp2_with fail
    go_loopw [3, 4] (fun s a wr => ∃ (j : Nat) (t : ByteArray), a = .int .i64 (j : Int) ∧ s = .string t ∧ j ≤ xs.length ∧ t.size ≤ 1600 ∧ Hid (t.data.toList = fl xs j) ∧ Hid (wr.cell? ⟨w.heap.size, 0, none⟩ = some (.int .i64 k) ∧ wr.cell? ⟨w.heap.size, 1, none⟩ = some (.slice p xs.length c) ∧ Below w.heap.size w wr)) (fun _ a _ => xs.length - (intOf a).toNat)
    case atStart => exact ⟨0, ⟨#[]⟩, rfl, rfl, by omega, by decide, Lib.hid rfl, hS⟩
    case round =>
      obtain ⟨j, s, rfl, rfl, hj, hs, hI, hT⟩ := hrel
      clear hS
      obtain ⟨d0, d1, K0⟩ := hT.out
      have l0 : w.heap.size < wr.heap.size := World.block_lt_of_cell? _ _ d0
      have jj : (0 : Int) ≤ j := by omega
      by_cases hlt : j < xs.length
      · obtain ⟨b, o, rfl, e0, e1⟩ := RA.out j hlt
        have hbw : b < w.heap.size := World.block_lt_of_cell? _ _ e0
        replace e0 := Rg.keep K0 hbw e0
        replace e1 := Rg.keep K0 hbw e1
        have j1 : (j : Int) < xs.length := by omega
        obtain ⟨y0, y1⟩ := RB.out j hlt
        have hst : fl xs (j + 1) = fl xs j ++ sgn (fl xs j) (decide ((xs.getD j mo0).2 < 0)) ++ tmt (xs.getD j mo0) := rfl
        have hl1 := HLEN.out (j + 1) (by omega)
        obtain ⟨m, hm⟩ : ∃ m, xs.getD j mo0 = m := ⟨_, rfl⟩
        rw [hm] at e0 e1 hst y0 y1
        clear hm
        obtain ⟨z, by1⟩ := m
        dsimp only at e0 e1 hst y0 y1
        have SZ := Lib.hid fun w => rsize by1 y0 y1 w
        obtain ⟨ng, hng⟩ : ∃ ng, decide (by1 < 0) = ng := ⟨_, rfl⟩
        rw [hng] at hst
        by_cases h1 : by1.natAbs = 1
        · have ht : tmt (z, by1) = z.data.toList := by unfold tmt; rw [if_pos h1]; rfl
          rw [h1] at SZ
          have hN : (trm s ng z).data.toList = fl xs (j + 1) := by rw [trm_list, hI.out, hst, ht]
          have hsz : (trm s ng z).size ≤ 1600 := by rw [Lib.size_eq, hN]; exact hl1
          have hzz : z.size ≤ 1600 := by rw [hst, ht, List.length_append] at hl1; have : z.data.toList.length = z.size := by simp
                                         omega
          have TM := Lib.hid fun w => term1 s ng z w (by omega) (by omega)
          have HN := Lib.hid hN
          clear hst ht hl1 h1 y0 y1 hN
          go_wp2_with (first | (go_at_call 50; (with_reducible refine (SZ.out _).mono ?_); rintro e w8 ⟨rfl, rfl⟩) | (go_at_call 52; (with_reducible refine (TM.out _).mono ?_); rintro e w9 ⟨rfl, rfl⟩))
          go_roundw
          case rel => exact ⟨j + 1, _, by go_num, rfl, by omega, hsz, HN, hT⟩
          case measure => simp [intOf]; omega
        · have ht : tmt (z, by1) = Lib.decDigits by1.natAbs ++ [42] ++ z.data.toList := by unfold tmt; rw [if_neg h1]
          have DGb := Lib.hid fun w => rdigits by1.natAbs (by omega) w
          have hdl := dec20 by1.natAbs (by omega)
          obtain ⟨T, hT2⟩ : ∃ T, Lib.decDigits by1.natAbs = T := ⟨_, rfl⟩
          rw [hT2] at ht DGb hdl
          obtain ⟨tb, htb⟩ : ∃ tb : ByteArray, ⟨T.toArray⟩ = tb := ⟨_, rfl⟩
          have htl : tb.size = T.length := by rw [← htb]; exact arr_size T
          rw [htb] at DGb
          obtain ⟨u, hu⟩ : ∃ u : Nat, by1.natAbs = u := ⟨_, rfl⟩
          rw [hu] at SZ DGb h1
          have g1 : ((u : Int) == 1) = false := by rw [beq_eq_false_iff_ne]; omega
          have g2 : ((u : Int) != 1) = true := by simp; omega
          have hTT : (tb ++ (⟨#[42]⟩ : ByteArray) ++ z).data.toList = tmt (z, by1) := by rw [← htb, app3, ht]
          have hzz : z.size ≤ 1600 := by
            rw [hst, ht] at hl1
            simp only [List.length_append] at hl1
            have : z.data.toList.length = z.size := by simp
            omega
          have h42 : (⟨#[42]⟩ : ByteArray).size = 1 := rfl
          have q1 : (tb ++ (⟨#[42]⟩ : ByteArray)).size = T.length + 1 := by rw [ByteArray.size_append, htl]; rfl
          have q2 : (tb ++ (⟨#[42]⟩ : ByteArray) ++ z).size = T.length + 1 + z.size := by rw [ByteArray.size_append, q1]
          have hN : (trm s ng (tb ++ (⟨#[42]⟩ : ByteArray) ++ z)).data.toList = fl xs (j + 1) := by rw [trm_list, hI.out, hTT, hst]
          have hsz : (trm s ng (tb ++ (⟨#[42]⟩ : ByteArray) ++ z)).size ≤ 1600 := by rw [Lib.size_eq, hN]; exact hl1
          have TM := Lib.hid fun w => term1 s ng (tb ++ (⟨#[42]⟩ : ByteArray) ++ z) w (by omega) (by rw [q2]; omega)
          have HN := Lib.hid hN
          clear hst ht hl1 h1 y0 y1 hN hTT htb hT2 hu
          go_wp2_with (first | (go_at_call 50; (with_reducible refine (SZ.out _).mono ?_); rintro e w8 ⟨rfl, rfl⟩) | (go_at_call 51; (with_reducible refine (DGb.out _).mono ?_); rintro e w7 ⟨rfl, hb7⟩; have x0 := Rg.keep hb7 l0 d0; have x1 := Rg.keep hb7 l0 d1; have K7 : Below w.heap.size w w7 := K0.trans (hb7.mono K0.size)) | (go_at_call 52; (with_reducible refine (TM.out _).mono ?_); rintro e w9 ⟨rfl, rfl⟩))
          go_roundw
          case rel => exact ⟨j + 1, _, by go_num, rfl, by omega, hsz, HN, Lib.hid ⟨x0, x1, K7⟩⟩
          case measure => simp [intOf]; omega
      · obtain rfl : j = xs.length := by omega
        by_cases hk : k ≠ 0 ∨ xs.length = 0
        · obtain ⟨ng, hng⟩ : ∃ ng, decide (k < 0) = ng := ⟨_, rfl⟩
          have hfm : fmL k xs = fl xs xs.length ++ sgn (fl xs xs.length) ng ++ Lib.decDigits k.natAbs := by unfold fmL; rw [if_pos hk, hng]
          have SZ := Lib.hid fun w => rsize k k0 k1 w
          have DGk := Lib.hid fun w => rdigits k.natAbs (by omega) w
          have hdl := dec20 k.natAbs (by omega)
          obtain ⟨T, hT2⟩ : ∃ T, Lib.decDigits k.natAbs = T := ⟨_, rfl⟩
          rw [hT2] at hfm DGk hdl
          obtain ⟨tb, htb⟩ : ∃ tb : ByteArray, ⟨T.toArray⟩ = tb := ⟨_, rfl⟩
          have htl : tb.size = T.length := by rw [← htb]; exact arr_size T
          rw [htb] at DGk
          have TM := Lib.hid fun w => term1 s ng tb w (by omega) (by omega)
          have hE : trm s ng tb = D := by
            rw [← HD.out, hfm]
            apply ByteArray.ext
            apply Array.toList_inj.1
            rw [trm_list, hI.out, ← htb]
          rw [hE] at TM
          have hgo : (k != 0) = true ∨ ((k != 0) = false ∧ ((xs.length : Int) == 0) = true) := by
            by_cases q : k = 0
            · right; exact ⟨by simp [q], by rcases hk with h | h; exact absurd q h; simp [h]⟩
            · left; simpa using q
          have hz : wr.cell? ⟨w.heap.size, 0, none⟩ = some (.int .i64 k) ∧ wr.cell? ⟨w.heap.size, 1, none⟩ = some (.slice p xs.length c) ∧ Below w.heap.size w wr := ⟨d0, d1, K0⟩
          have HS : Hid (∀ u u' : World, (u.cell? ⟨w.heap.size, 0, none⟩ = some (.int .i64 k) ∧ u.cell? ⟨w.heap.size, 1, none⟩ = some (.slice p xs.length c) ∧ Below w.heap.size w u) → Below u.heap.size u u' → (u'.cell? ⟨w.heap.size, 0, none⟩ = some (.int .i64 k) ∧ u'.cell? ⟨w.heap.size, 1, none⟩ = some (.slice p xs.length c) ∧ Below w.heap.size w u')) := Lib.hid (fun u u' h hb => ⟨Rg.keep hb (World.block_lt_of_cell? _ _ h.1) h.1, Rg.keep hb (World.block_lt_of_cell? _ _ h.2.1) h.2.1, h.2.2.trans (hb.mono h.2.2.size)⟩)
          clear hk hfm hT2 htb hE hI hT
          rcases hgo with hg | ⟨hg, hg2⟩
          all_goals
            have hg' : (k == 0) = !(k != 0) := by simp [bne]
            rw [hg] at hg'
            simp only [Bool.not_true, Bool.not_false] at hg'
            go_wp2_with fail
            refine Rk.begin (S := fun wS => wS.cell? ⟨w.heap.size, 0, none⟩ = some (.int .i64 k) ∧ wS.cell? ⟨w.heap.size, 1, none⟩ = some (.slice p xs.length c) ∧ Below w.heap.size w wS) 9 (by kernel_rfl) (HS.out _ _ hz (Below.drew (Below.refl _ _))) (fun hHeld => ?_)
            refine Rk.takeP (i := 0) (v := ?_) rfl (by kernel_rfl) (by kernel_rfl) (by kernel_rfl) (by kernel_rfl) (fun _ _ _ h => h) (Or.inl ⟨by kernel_rfl, ?_⟩) (by assumption) ?_
            rotate_left
            · ((intro w hSw; go_simp) <;> with_reducible rfl)
            try simp only [Act.put, List.setIfInBounds_toArray, List.set_cons_zero, List.set_cons_succ]
            refine Rk.takeP (i := 1) (v := ?_) rfl (by kernel_rfl) (by kernel_rfl) (by kernel_rfl) (by kernel_rfl) (fun _ _ _ h => h) (Or.inl ⟨by kernel_rfl, ?_⟩) (by assumption) ?_
            rotate_left
            · ((intro w hSw; go_simp) <;> with_reducible rfl)
            try simp only [Act.put, List.setIfInBounds_toArray, List.set_cons_zero, List.set_cons_succ]
            refine Rk.take [9] (i := 2) (v := ?_) rfl (by kernel_rfl) (by kernel_rfl) (by kernel_rfl) (by kernel_rfl) (by kernel_rfl) (fun _ _ _ h => h) (Or.inl ⟨by kernel_rfl, ?_⟩) (by assumption) ?_
            rotate_left
            · ((intro w hSw; (try dsimp only at hSw); go_simp) <;> with_reducible rfl)
            try simp only [Act.put, List.setIfInBounds_toArray, List.set_cons_zero, List.set_cons_succ]
            refine Rk.takeP (i := 3) (v := ?_) rfl (by kernel_rfl) (by kernel_rfl) (by kernel_rfl) (by kernel_rfl) (fun _ _ _ h => h) (Or.inl ⟨by kernel_rfl, ?_⟩) (by assumption) ?_
            rotate_left
            · ((intro w hSw; go_simp) <;> with_reducible rfl)
            try simp only [Act.put, List.setIfInBounds_toArray, List.set_cons_zero, List.set_cons_succ]
            refine Rk.takeP (i := 4) (v := ?_) rfl (by kernel_rfl) (by kernel_rfl) (by kernel_rfl) (by kernel_rfl) (fun _ _ _ h => h) (Or.inl ⟨by kernel_rfl, ?_⟩) (by assumption) ?_
            rotate_left
            · ((intro w hSw; go_simp) <;> with_reducible rfl)
            try simp only [Act.put, List.setIfInBounds_toArray, List.set_cons_zero, List.set_cons_succ]
            refine Rk.take [9] (i := 5) (v := ?_) rfl (by kernel_rfl) (by kernel_rfl) (by kernel_rfl) (by kernel_rfl) (by kernel_rfl) (fun _ _ _ h => h) (Or.inl ⟨by kernel_rfl, ?_⟩) (by assumption) ?_
            rotate_left
            · ((intro w hSw; (try dsimp only at hSw); go_simp) <;> with_reducible rfl)
            try simp only [Act.put, List.setIfInBounds_toArray, List.set_cons_zero, List.set_cons_succ]
            refine Rk.one (i := 6) (by kernel_rfl) rfl (fun KK hK => ?_)
            rw [if_pos (by kernel_rfl)]
            go_simp
            ((with_reducible refine (SZ.out _).mono ?_); rintro e u9 ⟨rfl, rfl⟩)
            first | (refine hK.out _ _ (fun _ => hHeld) (fun hHeld => ?_)) | (refine hK.out _ _ hHeld (fun hHeld => ?_)) | (go_wp2_with fail; refine hK.out _ _ hHeld (fun hHeld => ?_))
            clear hK KK
            refine Rk.one (i := 7) (by kernel_rfl) rfl (fun KK hK => ?_)
            rw [if_pos (by kernel_rfl)]
            go_simp
            ((with_reducible refine (DGk.out _).mono ?_); rintro e u ⟨rfl, hb⟩)
            first | (refine hK.out _ _ (fun _ => HS.out _ _ hHeld hb) (fun hHeld => ?_)) | (refine hK.out _ _ (HS.out _ _ hHeld hb) (fun hHeld => ?_)) | (go_wp2_with fail; refine hK.out _ _ (HS.out _ _ hHeld hb) (fun hHeld => ?_))
            clear hK KK
            refine Rk.one (i := 8) (by kernel_rfl) rfl (fun KK hK => ?_)
            rw [if_pos (by kernel_rfl)]
            go_simp
            ((with_reducible refine (TM.out _).mono ?_); rintro e u9 ⟨rfl, rfl⟩)
            first | (refine hK.out _ _ (fun _ => hHeld) (fun hHeld => ?_)) | (refine hK.out _ _ hHeld (fun hHeld => ?_)) | (go_wp2_with fail; refine hK.out _ _ hHeld (fun hHeld => ?_))
            clear hK KK
            refine Rk.tail [9] [_] (by kernel_rfl) (by kernel_rfl) rfl (by decide) ?_
            obtain ⟨x0, x1, K5⟩ := hHeld
            go_wp2
            go_ret
            exact ⟨rfl, K5⟩
        · have hfm : fmL k xs = fl xs xs.length := by unfold fmL; rw [if_neg hk]
          have hE : s = D := by
            rw [← HD.out, hfm]
            apply ByteArray.ext
            apply Array.toList_inj.1
            rw [hI.out]
          have h1 : ¬ k ≠ 0 := fun h => hk (.inl h)
          have h2 : ¬ xs.length = 0 := fun h => hk (.inr h)
          have g1 : (k != 0) = false := by simpa using h1
          have g1' : (k == 0) = true := by simpa using h1
          have g2 : ((xs.length : Int) == 0) = false := by
            rw [beq_eq_false_iff_ne]; omega
          subst hE
          clear hk hfm h1 h2
          go_wp2
          go_ret
          exact ⟨rfl, K0⟩
end Go.Proofs.YtbicmlkjonaccaaDoor.Ln
