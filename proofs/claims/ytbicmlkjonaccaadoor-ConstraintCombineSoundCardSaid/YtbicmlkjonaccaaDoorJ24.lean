/- Format of the reference. -/
import Derived.Test.YtbicmlkjonaccaaDoorJ23
import Derived.Test.YtbicmlkjonaccaaDoorJ3
import Derived.Test.YtbicmlkjonaccaaDoorJ4
import Derived.IntWalk
import Derived.Test.YtbicmlkjonaccaaDoorJ22
import Derived.Test.YtbicmlkjonaccaaDoorJ20

namespace Go.Proofs.YtbicmlkjonaccaaDoor.Ln
open Go.ChangeShapes Go.WideShapes Go.ChangeAt Go.RowKit
open Go.Proofs.YtbicmlkjonaccaaDoor.Nm
set_option linter.unusedVariables false
set_option linter.unusedSimpArgs false
set_option maxRecDepth 8000

theorem app3 (l : List UInt8) (z : ByteArray) : ((⟨l.toArray⟩ : ByteArray) ++ (⟨#[42]⟩ : ByteArray) ++ z).data.toList = l ++ [42] ++ z.data.toList := by simp
set_option maxRecDepth 100000 in
set_option maxHeartbeats 8000000 in
theorem fmt2 (k : Int) (p : Option Addr) (xs : List Mo) (c : Nat) (w : World) (hn : xs.length ≤ 40) (RA : Hid (SlM w p xs)) (RS : Hid (∀ i, i < xs.length → (xs.getD i mo0).1.size ≤ maxLen))
    (RB : Hid (∀ i, i < xs.length → -9223372036854775808 ≤ (xs.getD i mo0).2 ∧ (xs.getD i mo0).2 ≤ 9223372036854775807)) (k0 : -9223372036854775808 ≤ k) (k1 : k ≤ 9223372036854775807) :
    Calls Tryd.prog 19 #[Lv k p xs.length c] w fun e w' => e = .returned (.string (if okL xs = true then ⟨(fmL k xs).toArray⟩ else ⟨#[]⟩)) ∧ Below w.heap.size w w' := by
  have VL := Lib.hid fun w h => val2 k p xs c w (by unfold maxLen; omega) h RS
  have B0 : Below w.heap.size w (w.alloc (Obj.cells #[Value.int .i64 k, Value.slice p xs.length c] 24)) := (Below.refl _ _).alloc (Nat.le_refl _) _
  cases hok : okL xs
  · rw [if_neg (by decide)]
    unfold vL at VL
    rw [hok, if_neg (by decide)] at VL
    have RA2 := Lib.hid (SlM.keep B0 RA.out)
    unfold Lv at *
    clear hok RB RS
    go_enter Tryd.func19, Tryd.ntmps19
    go_wp2_with (go_at_call 17; refine (VL.out _ RA2).mono ?_; rintro e w1 ⟨rfl, hb⟩)
    go_ret
    exact ⟨rfl, B0.trans (hb.mono B0.size)⟩
  · rw [if_pos rfl]
    unfold vL at VL
    rw [hok, if_pos rfl] at VL
    have HLEN := Lib.hid fun k hk => ok_bd hok RB.out hn (k := k) hk
    have RA2 := Lib.hid (SlM.keep B0 RA.out)
    unfold Lv at *
    clear hok RS
    obtain ⟨D, hD⟩ : ∃ D : ByteArray, ⟨(fmL k xs).toArray⟩ = D := ⟨_, rfl⟩
    rw [hD]
    have HD := Lib.hid hD
    clear hD
    go_enter Tryd.func19, Tryd.ntmps19
    go_wp2_with fail
    refine (VL.out _ RA2).mono ?_
    rintro e w1 ⟨rfl, hb⟩
    have c0 : w1.cell? ⟨w.heap.size, 0, none⟩ = some (.int .i64 k) := Rg.keep hb (by simp) (by go_cell)
    have c1 : w1.cell? ⟨w.heap.size, 1, none⟩ = some (.slice p xs.length c) := Rg.keep hb (by simp) (by go_cell)
    have K1 : Below w.heap.size w w1 := B0.trans (hb.mono B0.size)
    have hS : Hid (w1.cell? ⟨w.heap.size, 0, none⟩ = some (.int .i64 k) ∧ w1.cell? ⟨w.heap.size, 1, none⟩ = some (.slice p xs.length c) ∧ Below w.heap.size w w1) := Lib.hid ⟨c0, c1, K1⟩
    clear hb VL B0 RA2 c0 c1 K1
    go_wp2_with fail
    go_loopw [3, 4] (fun s a wr => ∃ (j : Nat) (t : ByteArray), a = .int .i64 (j : Int) ∧ s = .string t ∧ j ≤ xs.length ∧ t.size ≤ 1600 ∧ Hid (t.data.toList = fl xs j) ∧ Hid (wr.cell? ⟨w.heap.size, 0, none⟩ = some (.int .i64 k) ∧ wr.cell? ⟨w.heap.size, 1, none⟩ = some (.slice p xs.length c) ∧ Below w.heap.size w wr)) (fun _ a _ => xs.length - (intOf a).toNat)
    case atStart => exact ⟨0, ⟨#[]⟩, rfl, rfl, by omega, by decide, Lib.hid rfl, hS⟩
    case round =>
      obtain ⟨j, s, rfl, rfl, hj, hs, hI, hT⟩ := hrel
      clear hS
      obtain ⟨d0, d1, K0⟩ := hT.out
      have l0 : w.heap.size < wr.heap.size := World.block_lt_of_cell? _ _ d0
      have jj : (0 : Int) ≤ j := by omega
      by_cases hlt : j < xs.length
      · obtain ⟨b, o, rfl, e0, e1⟩ := RA.out j hlt
        have hbw : b < w.heap.size := World.block_lt_of_cell? _ _ e0
        replace e0 := Rg.keep K0 hbw e0
        replace e1 := Rg.keep K0 hbw e1
        have j1 : (j : Int) < xs.length := by omega
        obtain ⟨y0, y1⟩ := RB.out j hlt
        have hst : fl xs (j + 1) = fl xs j ++ sgT (fl xs j) (decide ((xs.getD j mo0).2 < 0)) ++ tmt (xs.getD j mo0) := rfl
        have hl1 := HLEN.out (j + 1) (by omega)
        obtain ⟨m, hm⟩ : ∃ m, xs.getD j mo0 = m := ⟨_, rfl⟩
        rw [hm] at e0 e1 hst y0 y1
        clear hm
        obtain ⟨z, by1⟩ := m
        dsimp only at e0 e1 hst y0 y1
        have SZ := Lib.hid fun w => rsize by1 y0 y1 w
        obtain ⟨ng, hng⟩ : ∃ ng, decide (by1 < 0) = ng := ⟨_, rfl⟩
        rw [hng] at hst
        by_cases h1 : by1.natAbs = 1
        · have ht : tmt (z, by1) = z.data.toList := by unfold tmt; rw [if_pos h1]; rfl
          rw [h1] at SZ
          have hN : (trm s ng z).data.toList = fl xs (j + 1) := by rw [trm_list, hI.out, hst, ht]
          have hsz : (trm s ng z).size ≤ 1600 := by rw [Lib.size_eq, hN]; exact hl1
          have hzz : z.size ≤ 1600 := by rw [hst, ht, List.length_append] at hl1; have : z.data.toList.length = z.size := by simp
                                         omega
          have TM := Lib.hid fun w => term1 s ng z w (by omega) (by omega)
          have HN := Lib.hid hN
          clear hst ht hl1 h1 y0 y1 hN
          go_wp2_with (first | (go_at_call 50; (with_reducible refine (SZ.out _).mono ?_); rintro e w8 ⟨rfl, rfl⟩) | (go_at_call 52; (with_reducible refine (TM.out _).mono ?_); rintro e w9 ⟨rfl, rfl⟩))
          go_roundw
          case rel => exact ⟨j + 1, _, by go_num, rfl, by omega, hsz, HN, hT⟩
          case measure => simp [intOf]; omega
        · have ht : tmt (z, by1) = Lib.decDigits by1.natAbs ++ [42] ++ z.data.toList := by unfold tmt; rw [if_neg h1]
          have DGb := Lib.hid fun w => rdigits by1.natAbs (by omega) w
          have hdl := dec20 by1.natAbs (by omega)
          obtain ⟨T, hT2⟩ : ∃ T, Lib.decDigits by1.natAbs = T := ⟨_, rfl⟩
          rw [hT2] at ht DGb hdl
          obtain ⟨tb, htb⟩ : ∃ tb : ByteArray, ⟨T.toArray⟩ = tb := ⟨_, rfl⟩
          have htl : tb.size = T.length := by rw [← htb]; exact arr_size T
          rw [htb] at DGb
          obtain ⟨u, hu⟩ : ∃ u : Nat, by1.natAbs = u := ⟨_, rfl⟩
          rw [hu] at SZ DGb h1
          have g1 : ((u : Int) == 1) = false := by rw [beq_eq_false_iff_ne]; omega
          have g2 : ((u : Int) != 1) = true := by simp; omega
          have hTT : (tb ++ (⟨#[42]⟩ : ByteArray) ++ z).data.toList = tmt (z, by1) := by rw [← htb, app3, ht]
          have hzz : z.size ≤ 1600 := by
            rw [hst, ht] at hl1
            simp only [List.length_append] at hl1
            have : z.data.toList.length = z.size := by simp
            omega
          have h42 : (⟨#[42]⟩ : ByteArray).size = 1 := rfl
          have q1 : (tb ++ (⟨#[42]⟩ : ByteArray)).size = T.length + 1 := by rw [ByteArray.size_append, htl]; rfl
          have q2 : (tb ++ (⟨#[42]⟩ : ByteArray) ++ z).size = T.length + 1 + z.size := by rw [ByteArray.size_append, q1]
          have hN : (trm s ng (tb ++ (⟨#[42]⟩ : ByteArray) ++ z)).data.toList = fl xs (j + 1) := by rw [trm_list, hI.out, hTT, hst]
          have hsz : (trm s ng (tb ++ (⟨#[42]⟩ : ByteArray) ++ z)).size ≤ 1600 := by rw [Lib.size_eq, hN]; exact hl1
          have TM := Lib.hid fun w => term1 s ng (tb ++ (⟨#[42]⟩ : ByteArray) ++ z) w (by omega) (by rw [q2]; omega)
          have HN := Lib.hid hN
          clear hst ht hl1 h1 y0 y1 hN hTT htb hT2 hu
          go_wp2_with (first | (go_at_call 50; (with_reducible refine (SZ.out _).mono ?_); rintro e w8 ⟨rfl, rfl⟩) | (go_at_call 51; (with_reducible refine (DGb.out _).mono ?_); rintro e w7 ⟨rfl, hb7⟩; have x0 := Rg.keep hb7 l0 d0; have x1 := Rg.keep hb7 l0 d1; have K7 : Below w.heap.size w w7 := K0.trans (hb7.mono K0.size)) | (go_at_call 52; (with_reducible refine (TM.out _).mono ?_); rintro e w9 ⟨rfl, rfl⟩))
          go_roundw
          case rel => exact ⟨j + 1, _, by go_num, rfl, by omega, hsz, HN, Lib.hid ⟨x0, x1, K7⟩⟩
          case measure => simp [intOf]; omega
      · obtain rfl : j = xs.length := by omega
        by_cases hk : k ≠ 0 ∨ xs.length = 0
        · obtain ⟨ng, hng⟩ : ∃ ng, decide (k < 0) = ng := ⟨_, rfl⟩
          have hfm : fmL k xs = fl xs xs.length ++ sgT (fl xs xs.length) ng ++ Lib.decDigits k.natAbs := by unfold fmL; rw [if_pos hk, hng]
          have SZ := Lib.hid fun w => rsize k k0 k1 w
          have DGk := Lib.hid fun w => rdigits k.natAbs (by omega) w
          have hdl := dec20 k.natAbs (by omega)
          obtain ⟨T, hT2⟩ : ∃ T, Lib.decDigits k.natAbs = T := ⟨_, rfl⟩
          rw [hT2] at hfm DGk hdl
          obtain ⟨tb, htb⟩ : ∃ tb : ByteArray, ⟨T.toArray⟩ = tb := ⟨_, rfl⟩
          have htl : tb.size = T.length := by rw [← htb]; exact arr_size T
          rw [htb] at DGk
          have TM := Lib.hid fun w => term1 s ng tb w (by omega) (by omega)
          have hE : trm s ng tb = D := by
            rw [← HD.out, hfm]
            apply ByteArray.ext
            apply Array.toList_inj.1
            rw [trm_list, hI.out, ← htb]
          rw [hE] at TM
          have hgo : (k != 0) = true ∨ ((k != 0) = false ∧ ((xs.length : Int) == 0) = true) := by
            by_cases q : k = 0
            · right; exact ⟨by simp [q], by rcases hk with h | h; exact absurd q h; simp [h]⟩
            · left; simpa using q
          have hz : wr.cell? ⟨w.heap.size, 0, none⟩ = some (.int .i64 k) ∧ wr.cell? ⟨w.heap.size, 1, none⟩ = some (.slice p xs.length c) ∧ Below w.heap.size w wr := ⟨d0, d1, K0⟩
          have HS : Hid (∀ u u' : World, (u.cell? ⟨w.heap.size, 0, none⟩ = some (.int .i64 k) ∧ u.cell? ⟨w.heap.size, 1, none⟩ = some (.slice p xs.length c) ∧ Below w.heap.size w u) → Below u.heap.size u u' → (u'.cell? ⟨w.heap.size, 0, none⟩ = some (.int .i64 k) ∧ u'.cell? ⟨w.heap.size, 1, none⟩ = some (.slice p xs.length c) ∧ Below w.heap.size w u')) := Lib.hid (fun u u' h hb => ⟨Rg.keep hb (World.block_lt_of_cell? _ _ h.1) h.1, Rg.keep hb (World.block_lt_of_cell? _ _ h.2.1) h.2.1, h.2.2.trans (hb.mono h.2.2.size)⟩)
          clear hk hfm hT2 htb hE hI hT
          rcases hgo with hg | ⟨hg, hg2⟩
          all_goals
            have hg' : (k == 0) = !(k != 0) := by simp [bne]
            rw [hg] at hg'
            simp only [Bool.not_true, Bool.not_false] at hg'
            go_wp2_with fail
            refine Rk.begin (S := fun wS => wS.cell? ⟨w.heap.size, 0, none⟩ = some (.int .i64 k) ∧ wS.cell? ⟨w.heap.size, 1, none⟩ = some (.slice p xs.length c) ∧ Below w.heap.size w wS) 9 (by kernel_rfl) (HS.out _ _ hz (Below.drew (Below.refl _ _))) (fun hHeld => ?_)
            refine Rk.takeP (i := 0) (v := ?_) rfl (by kernel_rfl) (by kernel_rfl) (by kernel_rfl) (by kernel_rfl) (fun _ _ _ h => h) (Or.inl ⟨by kernel_rfl, ?_⟩) (by assumption) ?_
            rotate_left
            · ((intro w hSw; go_simp) <;> with_reducible rfl)
            try simp only [Act.put, List.setIfInBounds_toArray, List.set_cons_zero, List.set_cons_succ]
            refine Rk.takeP (i := 1) (v := ?_) rfl (by kernel_rfl) (by kernel_rfl) (by kernel_rfl) (by kernel_rfl) (fun _ _ _ h => h) (Or.inl ⟨by kernel_rfl, ?_⟩) (by assumption) ?_
            rotate_left
            · ((intro w hSw; go_simp) <;> with_reducible rfl)
            try simp only [Act.put, List.setIfInBounds_toArray, List.set_cons_zero, List.set_cons_succ]
            refine Rk.take [9] (i := 2) (v := ?_) rfl (by kernel_rfl) (by kernel_rfl) (by kernel_rfl) (by kernel_rfl) (by kernel_rfl) (fun _ _ _ h => h) (Or.inl ⟨by kernel_rfl, ?_⟩) (by assumption) ?_
            rotate_left
            · ((intro w hSw; (try dsimp only at hSw); go_simp) <;> with_reducible rfl)
            try simp only [Act.put, List.setIfInBounds_toArray, List.set_cons_zero, List.set_cons_succ]
            refine Rk.takeP (i := 3) (v := ?_) rfl (by kernel_rfl) (by kernel_rfl) (by kernel_rfl) (by kernel_rfl) (fun _ _ _ h => h) (Or.inl ⟨by kernel_rfl, ?_⟩) (by assumption) ?_
            rotate_left
            · ((intro w hSw; go_simp) <;> with_reducible rfl)
            try simp only [Act.put, List.setIfInBounds_toArray, List.set_cons_zero, List.set_cons_succ]
            refine Rk.takeP (i := 4) (v := ?_) rfl (by kernel_rfl) (by kernel_rfl) (by kernel_rfl) (by kernel_rfl) (fun _ _ _ h => h) (Or.inl ⟨by kernel_rfl, ?_⟩) (by assumption) ?_
            rotate_left
            · ((intro w hSw; go_simp) <;> with_reducible rfl)
            try simp only [Act.put, List.setIfInBounds_toArray, List.set_cons_zero, List.set_cons_succ]
            refine Rk.take [9] (i := 5) (v := ?_) rfl (by kernel_rfl) (by kernel_rfl) (by kernel_rfl) (by kernel_rfl) (by kernel_rfl) (fun _ _ _ h => h) (Or.inl ⟨by kernel_rfl, ?_⟩) (by assumption) ?_
            rotate_left
            · ((intro w hSw; (try dsimp only at hSw); go_simp) <;> with_reducible rfl)
            try simp only [Act.put, List.setIfInBounds_toArray, List.set_cons_zero, List.set_cons_succ]
            refine Rk.one (i := 6) (by kernel_rfl) rfl (fun KK hK => ?_)
            rw [if_pos (by kernel_rfl)]
            go_simp
            ((with_reducible refine (SZ.out _).mono ?_); rintro e u9 ⟨rfl, rfl⟩)
            first | (refine hK.out _ _ (fun _ => hHeld) (fun hHeld => ?_)) | (refine hK.out _ _ hHeld (fun hHeld => ?_)) | (go_wp2_with fail; refine hK.out _ _ hHeld (fun hHeld => ?_))
            clear hK KK
            refine Rk.one (i := 7) (by kernel_rfl) rfl (fun KK hK => ?_)
            rw [if_pos (by kernel_rfl)]
            go_simp
            ((with_reducible refine (DGk.out _).mono ?_); rintro e u ⟨rfl, hb⟩)
            first | (refine hK.out _ _ (fun _ => HS.out _ _ hHeld hb) (fun hHeld => ?_)) | (refine hK.out _ _ (HS.out _ _ hHeld hb) (fun hHeld => ?_)) | (go_wp2_with fail; refine hK.out _ _ (HS.out _ _ hHeld hb) (fun hHeld => ?_))
            clear hK KK
            refine Rk.one (i := 8) (by kernel_rfl) rfl (fun KK hK => ?_)
            rw [if_pos (by kernel_rfl)]
            go_simp
            ((with_reducible refine (TM.out _).mono ?_); rintro e u9 ⟨rfl, rfl⟩)
            first | (refine hK.out _ _ (fun _ => hHeld) (fun hHeld => ?_)) | (refine hK.out _ _ hHeld (fun hHeld => ?_)) | (go_wp2_with fail; refine hK.out _ _ hHeld (fun hHeld => ?_))
            clear hK KK
            refine Rk.tail [9] [_] (by kernel_rfl) (by kernel_rfl) rfl (by decide) ?_
            obtain ⟨x0, x1, K5⟩ := hHeld
            go_wp2
            go_ret
            exact ⟨rfl, K5⟩
        · have hfm : fmL k xs = fl xs xs.length := by unfold fmL; rw [if_neg hk]
          have hE : s = D := by
            rw [← HD.out, hfm]
            apply ByteArray.ext
            apply Array.toList_inj.1
            rw [hI.out]
          have h1 : ¬ k ≠ 0 := fun h => hk (.inl h)
          have h2 : ¬ xs.length = 0 := fun h => hk (.inr h)
          have g1 : (k != 0) = false := by simpa using h1
          have g1' : (k == 0) = true := by simpa using h1
          have g2 : ((xs.length : Int) == 0) = false := by
            rw [beq_eq_false_iff_ne]; omega
          subst hE
          clear hk hfm h1 h2
          go_wp2
          go_ret
          exact ⟨rfl, K0⟩
end Go.Proofs.YtbicmlkjonaccaaDoor.Ln


namespace Go.Proofs.YtbicmlkjonaccaaDoor.Ln
open Go.ChangeShapes Go.WideShapes Go.ChangeAt Go.RowKit
open Go.Proofs.YtbicmlkjonaccaaDoor.Nm
set_option linter.unusedVariables false
set_option linter.unusedSimpArgs false
set_option maxRecDepth 8000

def pfx (eq : Bool) : ByteArray := if eq then ⟨#[48, 32, 61, 61, 32]⟩ else ⟨#[48, 32, 60, 61, 32]⟩
/-- The text of a constraint. -/
def cfm (k : Int) (xs : List Mo) (eq : Bool) : ByteArray := if okL xs = true then pfx eq ++ ⟨(fmL k xs).toArray⟩ else ⟨#[]⟩
theorem fmL_len {k : Int} {xs : List Mo} (h : okL xs = true) (hb : ∀ i, i < xs.length → -9223372036854775808 ≤ (xs.getD i mo0).2 ∧ (xs.getD i mo0).2 ≤ 9223372036854775807) (hn : xs.length ≤ 40) (k0 : -9223372036854775808 ≤ k) (k1 : k ≤ 9223372036854775807) : (fmL k xs).length ≤ 1700 := by
  have h1 := ok_bd h hb hn (Nat.le_refl xs.length)
  have h2 := sgT_len (fl xs xs.length) (decide (k < 0))
  have h3 := dec20 k.natAbs (by omega)
  unfold fmL
  split
  · rw [List.length_append, List.length_append]; omega
  · omega

set_option maxHeartbeats 4000000 in
theorem cfmt1 (k : Int) (p : Option Addr) (xs : List Mo) (c : Nat) (eq : Bool) (w : World) (hn : xs.length ≤ 40) (RA : Hid (SlM w p xs)) (RS : Hid (∀ i, i < xs.length → (xs.getD i mo0).1.size ≤ maxLen))
    (RB : Hid (∀ i, i < xs.length → -9223372036854775808 ≤ (xs.getD i mo0).2 ∧ (xs.getD i mo0).2 ≤ 9223372036854775807)) (k0 : -9223372036854775808 ≤ k) (k1 : k ≤ 9223372036854775807) (hL : LA w) :
    Calls Tryd.prog 38 #[Cv k p xs.length c eq] w fun e w' => e = .returned (.string (cfm k xs eq)) ∧ Below w.heap.size w w' := by
  have VL := Lib.hid fun w h => cval1 k p xs c eq w (by unfold maxLen; omega) h RS
  have FM := Lib.hid fun w h hl => fmt1 k p xs c w hn h RS RB k0 k1 hl
  have B0 : Below w.heap.size w (w.alloc (Obj.cells #[Value.int .i64 k, Value.slice p xs.length c, Value.bool eq] 36)) := (Below.refl _ _).alloc (Nat.le_refl _) _
  have RA2 := Lib.hid (SlM.keep B0 RA.out)
  have HL := Lib.hid hL
  unfold Cv Lv cfm vL at *
  cases hok : okL xs
  · rw [hok] at VL FM
    rw [if_neg (by decide)] at VL FM ⊢
    clear hok RB RS
    go_enter Tryd.func38, Tryd.ntmps38
    go_wp2_with (go_at_call 24; refine (VL.out _ RA2).mono ?_; rintro e w1 ⟨rfl, hb⟩)
    go_ret
    exact ⟨rfl, B0.trans (hb.mono B0.size)⟩
  · have hlen := fmL_len (k := k) hok RB.out hn k0 k1
    rw [hok] at VL FM
    rw [if_pos rfl] at VL FM ⊢
    obtain ⟨D, hD⟩ : ∃ D : ByteArray, ⟨(fmL k xs).toArray⟩ = D := ⟨_, rfl⟩
    have hDl : D.size ≤ 1700 := by rw [← hD, arr_size]; exact hlen
    rw [hD] at FM ⊢
    clear hok RB RS hlen hD k0 k1
    have h5 : ∀ b, (pfx b).size = 5 := fun b => by cases b <;> rfl
    cases eq
    · have q5 := h5 false
      have e5 : (⟨#[48, 32, 60, 61, 32]⟩ : ByteArray) = pfx false := rfl
      clear h5
      go_enter Tryd.func38, Tryd.ntmps38
      go_wp2_with (first | (go_at_call 24; refine (VL.out _ RA2).mono ?_; rintro e w1 ⟨rfl, hb⟩; have K1 : Below w.heap.size w w1 := B0.trans (hb.mono B0.size); have c0 : w1.cell? ⟨w.heap.size, 0, none⟩ = some (.int .i64 k) := Rg.keep hb (by simp) (by go_cell); have c1 : w1.cell? ⟨w.heap.size, 1, none⟩ = some (.slice p xs.length c) := Rg.keep hb (by simp) (by go_cell); have c2 : w1.cell? ⟨w.heap.size, 2, none⟩ = some (.bool false) := Rg.keep hb (by simp) (by go_cell)) | (go_at_call 18; refine (FM.out _ (Lib.hid (SlM.keep K1 RA.out)) (HL.out.below K1)).mono ?_; rintro e w2 ⟨rfl, hb2⟩))
      go_ret
      exact ⟨rfl, K1.trans (hb2.mono K1.size)⟩
    · have q5 := h5 true
      have e5 : (⟨#[48, 32, 61, 61, 32]⟩ : ByteArray) = pfx true := rfl
      clear h5
      go_enter Tryd.func38, Tryd.ntmps38
      go_wp2_with (first | (go_at_call 24; refine (VL.out _ RA2).mono ?_; rintro e w1 ⟨rfl, hb⟩; have K1 : Below w.heap.size w w1 := B0.trans (hb.mono B0.size); have c0 : w1.cell? ⟨w.heap.size, 0, none⟩ = some (.int .i64 k) := Rg.keep hb (by simp) (by go_cell); have c1 : w1.cell? ⟨w.heap.size, 1, none⟩ = some (.slice p xs.length c) := Rg.keep hb (by simp) (by go_cell); have c2 : w1.cell? ⟨w.heap.size, 2, none⟩ = some (.bool true) := Rg.keep hb (by simp) (by go_cell)) | (go_at_call 18; refine (FM.out _ (Lib.hid (SlM.keep K1 RA.out)) (HL.out.below K1)).mono ?_; rintro e w2 ⟨rfl, hb2⟩))
      go_ret
      exact ⟨rfl, K1.trans (hb2.mono K1.size)⟩

set_option maxHeartbeats 4000000 in
theorem cfmt2 (k : Int) (p : Option Addr) (xs : List Mo) (c : Nat) (eq : Bool) (w : World) (hn : xs.length ≤ 40) (RA : Hid (SlM w p xs)) (RS : Hid (∀ i, i < xs.length → (xs.getD i mo0).1.size ≤ maxLen))
    (RB : Hid (∀ i, i < xs.length → -9223372036854775808 ≤ (xs.getD i mo0).2 ∧ (xs.getD i mo0).2 ≤ 9223372036854775807)) (k0 : -9223372036854775808 ≤ k) (k1 : k ≤ 9223372036854775807)  :
    Calls Tryd.prog 39 #[Cv k p xs.length c eq] w fun e w' => e = .returned (.string (cfm k xs eq)) ∧ Below w.heap.size w w' := by
  have VL := Lib.hid fun w h => cval2 k p xs c eq w (by unfold maxLen; omega) h RS
  have FM := Lib.hid fun w h  => fmt2 k p xs c w hn h RS RB k0 k1 
  have B0 : Below w.heap.size w (w.alloc (Obj.cells #[Value.int .i64 k, Value.slice p xs.length c, Value.bool eq] 36)) := (Below.refl _ _).alloc (Nat.le_refl _) _
  have RA2 := Lib.hid (SlM.keep B0 RA.out)
  
  unfold Cv Lv cfm vL at *
  cases hok : okL xs
  · rw [hok] at VL FM
    rw [if_neg (by decide)] at VL FM ⊢
    clear hok RB RS
    go_enter Tryd.func39, Tryd.ntmps39
    go_wp2_with (go_at_call 25; refine (VL.out _ RA2).mono ?_; rintro e w1 ⟨rfl, hb⟩)
    go_ret
    exact ⟨rfl, B0.trans (hb.mono B0.size)⟩
  · have hlen := fmL_len (k := k) hok RB.out hn k0 k1
    rw [hok] at VL FM
    rw [if_pos rfl] at VL FM ⊢
    obtain ⟨D, hD⟩ : ∃ D : ByteArray, ⟨(fmL k xs).toArray⟩ = D := ⟨_, rfl⟩
    have hDl : D.size ≤ 1700 := by rw [← hD, arr_size]; exact hlen
    rw [hD] at FM ⊢
    clear hok RB RS hlen hD k0 k1
    have h5 : ∀ b, (pfx b).size = 5 := fun b => by cases b <;> rfl
    cases eq
    · have q5 := h5 false
      have e5 : (⟨#[48, 32, 60, 61, 32]⟩ : ByteArray) = pfx false := rfl
      clear h5
      go_enter Tryd.func39, Tryd.ntmps39
      go_wp2_with (first | (go_at_call 25; refine (VL.out _ RA2).mono ?_; rintro e w1 ⟨rfl, hb⟩; have K1 : Below w.heap.size w w1 := B0.trans (hb.mono B0.size); have c0 : w1.cell? ⟨w.heap.size, 0, none⟩ = some (.int .i64 k) := Rg.keep hb (by simp) (by go_cell); have c1 : w1.cell? ⟨w.heap.size, 1, none⟩ = some (.slice p xs.length c) := Rg.keep hb (by simp) (by go_cell); have c2 : w1.cell? ⟨w.heap.size, 2, none⟩ = some (.bool false) := Rg.keep hb (by simp) (by go_cell)) | (go_at_call 19; refine (FM.out _ (Lib.hid (SlM.keep K1 RA.out)) ).mono ?_; rintro e w2 ⟨rfl, hb2⟩))
      go_ret
      exact ⟨rfl, K1.trans (hb2.mono K1.size)⟩
    · have q5 := h5 true
      have e5 : (⟨#[48, 32, 61, 61, 32]⟩ : ByteArray) = pfx true := rfl
      clear h5
      go_enter Tryd.func39, Tryd.ntmps39
      go_wp2_with (first | (go_at_call 25; refine (VL.out _ RA2).mono ?_; rintro e w1 ⟨rfl, hb⟩; have K1 : Below w.heap.size w w1 := B0.trans (hb.mono B0.size); have c0 : w1.cell? ⟨w.heap.size, 0, none⟩ = some (.int .i64 k) := Rg.keep hb (by simp) (by go_cell); have c1 : w1.cell? ⟨w.heap.size, 1, none⟩ = some (.slice p xs.length c) := Rg.keep hb (by simp) (by go_cell); have c2 : w1.cell? ⟨w.heap.size, 2, none⟩ = some (.bool true) := Rg.keep hb (by simp) (by go_cell)) | (go_at_call 19; refine (FM.out _ (Lib.hid (SlM.keep K1 RA.out)) ).mono ?_; rintro e w2 ⟨rfl, hb2⟩))
      go_ret
      exact ⟨rfl, K1.trans (hb2.mono K1.size)⟩
end Go.Proofs.YtbicmlkjonaccaaDoor.Ln


namespace Go.Proofs.YtbicmlkjonaccaaDoor.Ln
open Go.ChangeShapes Go.WideShapes Go.ChangeAt Go.RowKit
open Go.Proofs.YtbicmlkjonaccaaDoor.Nm
set_option linter.unusedVariables false
set_option linter.unusedSimpArgs false
set_option maxRecDepth 8000

theorem rsA (l : List Mo) (h : l.all (fun m => decide (m.1.size ≤ maxLen) && decide (-9223372036854775808 ≤ m.2) && decide (m.2 ≤ 9223372036854775807)) = true) : Hid (∀ i, i < l.length → (l.getD i mo0).1.size ≤ maxLen ∧ -9223372036854775808 ≤ (l.getD i mo0).2 ∧ (l.getD i mo0).2 ≤ 9223372036854775807) := Lib.hid fun i hi => by
  have e1 : l.getD i mo0 = l[i] := by unfold List.getD; rw [List.getElem?_eq_getElem hi]; rfl
  have h2 := List.all_eq_true.1 h l[i] (List.getElem_mem hi)
  simp only [Bool.and_eq_true, decide_eq_true_eq] at h2
  rw [e1]
  exact ⟨h2.1.1, h2.1.2, h2.2⟩
theorem ti1 (p : Option Addr) (c : Nat) (w : World) (h : SlM w p [mI 2, mJ 4]) : Calls Tryd.prog 28 #[Cv (-3) p 2 c false] w (TR (-2, [mI 1, mJ 2], false, 0, 0) w) := by
  have T := tig_ge (-3) p [mI 2, mJ 4] c w (by simp) (Lib.hid h) (rsA _ (by decide +kernel)) (by decide) (by decide) (by decide +kernel) (by simp)
  rw [show (-3 / (gcdL 0 [mI 2, mJ 4] : Int)) = -2 by decide +kernel, show tdY (gcdL 0 [mI 2, mJ 4]) [mI 2, mJ 4] = [mI 1, mJ 2] by decide +kernel] at T
  exact T
theorem ti2 (p : Option Addr) (c : Nat) (w : World) (h : SlM w p [mI 2]) : Calls Tryd.prog 28 #[Cv (-3) p 1 c true] w (TR (-1, [], false, 2, 0) w) :=
  tig_no (-3) p [mI 2] c true w (by simp) (Lib.hid h) (rsA _ (by decide +kernel)) (by decide) (by decide) (by decide +kernel) (by simp) rfl (by decide +kernel)
theorem ti3 (k : Int) (k1 : -9223372036854775808 ≤ k) (k2 : k ≤ 9223372036854775807) (p : Option Addr) (c : Nat) (w : World) (h : SlM w p [mI 1]) : Calls Tryd.prog 28 #[Cv k p 1 c false] w (TR (k, [mI 1], false, 0, 0) w) := by
  have T := tig_ge k p [mI 1] c w (by simp) (Lib.hid h) (rsA _ (by decide +kernel)) k1 k2 (by decide +kernel) (by simp)
  rw [show (gcdL 0 [mI 1] : Int) = 1 by decide +kernel, show tdY (gcdL 0 [mI 1]) [mI 1] = [mI 1] by decide +kernel, Int.ediv_one] at T
  exact T
theorem ni1 (p : Option Addr) (c : Nat) (w : World) (h : SlM w p [mI 1]) : Calls Tryd.prog 31 #[Cv (-3) p 1 c false] w (NR 2 [mI (-1)] w) :=
  neg_ge (-3) p [mI 1] c w (by simp) (Lib.hid h) (rsA _ (by decide +kernel)) (by decide) (by decide) (by decide +kernel) [mI (-1)] 0 (by decide +kernel)
theorem no1 (p : Option Addr) (c : Nat) (w : World) (h : SlC w p [(0, [mI 1]), (-2, [mI 1])]) : Calls Tryd.prog 36 #[.slice p 2 c] w (NF (-2) [mI 1] w) :=
  norm2 p c 0 (-2) 0 (-2) [mI 1] [mI 1] w (by decide) (Lib.hid h) (Lib.hid fun p c w h => ti3 0 (by decide) (by decide) p c w h) (Lib.hid fun p c w h => ti3 (-2) (by decide) (by decide) p c w h) (by decide +kernel) (by decide +kernel)
theorem fo1 (p : Option Addr) (c : Nat) (w : World) (h : SlM w p [mI 1]) (hL : LA w) : Calls Tryd.prog 38 #[Cv (-3) p 1 c true] w fun e w' => e = .returned (.string ⟨#[48, 32, 61, 61, 32, 105, 32, 45, 32, 51]⟩) ∧ Below w.heap.size w w' := by
  have T := cfmt1 (-3) p [mI 1] c true w (by simp) (Lib.hid h) (Lib.hid fun i hi => ((rsA [mI 1] (by decide +kernel)).out i hi).1) (Lib.hid fun i hi => ((rsA [mI 1] (by decide +kernel)).out i hi).2) (by decide) (by decide) hL
  rw [show cfm (-3) [mI 1] true = ⟨#[48, 32, 61, 61, 32, 105, 32, 45, 32, 51]⟩ by decide +kernel] at T
  exact T
end Go.Proofs.YtbicmlkjonaccaaDoor.Ln
