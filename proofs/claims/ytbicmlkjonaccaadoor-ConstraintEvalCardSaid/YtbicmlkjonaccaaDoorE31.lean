/- The law on the evaluation of constraints. -/
import Derived.Test.YtbicmlkjonaccaaDoorG16
import Derived.Test.YtbicmlkjonaccaaDoorE19

namespace Go.Proofs.YtbicmlkjonaccaaDoor.Ln
open Go.ChangeShapes Go.WideShapes Go.ChangeAt Go.RowKit
open Go.Proofs.YtbicmlkjonaccaaDoor.Nm
set_option linter.unusedVariables false
set_option linter.unusedSimpArgs false
set_option maxRecDepth 8000

theorem smQ_bd {lim : Nat} {l : List Qm} (h : smQ lim l = true) : l.length ≤ lim ∧ ∀ f ∈ l, f.2.1.length ≤ 40 := by
  unfold smQ at h
  simp only [Bool.and_eq_true, decide_eq_true_eq, List.all_eq_true] at h
  refine ⟨h.1, fun f hf => ?_⟩
  have h2 := h.2 f hf
  unfold smF at h2
  simp only [Bool.and_eq_true, decide_eq_true_eq] at h2
  exact h2.1
/-- What an argument that is a list of constraints is known to be. -/
def argQ (l : List Qm) : Prop := ∀ f ∈ l, (-9223372036854775808 ≤ f.1 ∧ f.1 ≤ 9223372036854775807) ∧ f.2.1.length ≤ maxLen ∧ ∀ y ∈ f.2.1, y.1.size ≤ maxLen ∧ (-9223372036854775808 ≤ y.2 ∧ y.2 ≤ 9223372036854775807)
theorem okQ_of {l : List Qm} (h : argQ l) (hs : ∀ f ∈ l, f.2.1.length ≤ 40) : ∀ f ∈ l, okQ f := fun f hf => ⟨Nat.le_trans (hs f hf) (by decide), (h f hf).1, fun i hi => (h f hf).2.2 _ (getD_memS hi)⟩
set_option maxRecDepth 100000 in
set_option maxHeartbeats 8000000 in
theorem law_ceval (p : Option Addr) (l : List Qm) (c : Nat) (q : Option Addr) (es : List Mo) (d : Nat) (w : World) (hn : l.length ≤ maxLen) (hm : es.length ≤ maxLen) (RA : Hid (SlQ w p l)) (RB : Hid (SlM w q es)) (AQ : Hid (argQ l))
    (RT : Hid (∀ i, i < es.length → (es.getD i mo0).1.size ≤ maxLen ∧ -9223372036854775808 ≤ (es.getD i mo0).2 ∧ (es.getD i mo0).2 ≤ 9223372036854775807)) (hL : Hid (∀ w', Below w.heap.size w w' → LA w')) :
    Calls Tryd.prog 4 #[.slice p l.length c, .slice q es.length d] w fun e w' => e = .returned (.bool true) ∧ Below w.heap.size w w' := by
  have SM := Lib.hid (small6 p l c 60 w hn (Lib.hid fun f hf => (AQ.out f hf).2.1) (by decide) RA)
  have EX := Lib.hid fun w h => exam6 w h
  have KX : Hid (Below w.heap.size w w) := Lib.hid (Below.refl _ _)
  have HM9 := Lib.hid hm
  unfold maxLen at hm
  cases hsm : smQ 60 l
  · rw [hsm] at SM
    clear hsm
    go_enter Tryd.func4, Tryd.ntmps4
    go_wp2_with (first | (go_at_call 20; refine SM.out.mono ?_; rintro e w1 ⟨rfl, rfl⟩) | (go_at_call 21; (with_reducible refine (EX.out _ (Lib.hid fun w' h => hL.out _ (KX.out.trans (h.mono KX.out.size)))).mono ?_); rintro e w9 ⟨rfl, hb9⟩))
    go_ret
    exact ⟨rfl, hb9⟩
  · have HB := smQ_bd hsm
    rw [hsm] at SM
    clear hsm
    by_cases he : 100 < es.length
    · have he1 : (100 : Int) < es.length := by omega
      clear HB
      go_enter Tryd.func4, Tryd.ntmps4
      go_wp2_with (first | (go_at_call 20; refine SM.out.mono ?_; rintro e w1 ⟨rfl, rfl⟩) | (go_at_call 21; (with_reducible refine (EX.out _ (Lib.hid fun w' h => hL.out _ (KX.out.trans (h.mono KX.out.size)))).mono ?_); rintro e w9 ⟨rfl, hb9⟩))
      go_ret
      exact ⟨rfl, hb9⟩
    · have he1 : ¬ (100 : Int) < es.length := by omega
      have QK := Lib.hid (okQ_of AQ.out HB.2)
      have hl60 := HB.1
      have F1 := Lib.hid fun w h1 h2 => fv1 p l c q es d w (Nat.le_trans hl60 (by decide)) HM9.out h1 h2 RT QK
      have F2 := Lib.hid fun w h1 h2 => fv2 p l c q es d w (Nat.le_trans hl60 (by decide)) HM9.out h1 h2 RT QK
      have HE := Lib.hid fun k p xs c eq w hn h1 h2 RS k1 k2 => holds1 k p xs c eq q es d w hn HM9.out h1 h2 RS RT k1 k2
      have HE2 := Lib.hid fun k p xs c eq w hn h1 h2 RS k1 k2 => holds2 k p xs c eq q es d w hn HM9.out h1 h2 RS RT k1 k2
      obtain ⟨⟨r1, r2⟩, hR⟩ : ∃ R, fvF es l = R := ⟨_, rfl⟩
      rw [hR] at F1 F2
      dsimp only at F1 F2
      clear HB hR
      obtain ⟨n, hnn⟩ : ∃ n, l.length = n := ⟨_, rfl⟩
      have HN := Lib.hid hnn
      rw [hnn] at SM F1 F2 hl60 ⊢
      clear hnn hn
      go_enter Tryd.func4, Tryd.ntmps4
      go_wp2_with (go_at_call 20; refine SM.out.mono ?_; rintro e w1 ⟨rfl, rfl⟩)
      go_loopw [5] (fun i wr => ∃ (j : Nat), i = .int .i64 j ∧ j ≤ n ∧ Below w.heap.size w wr) (fun i _ => n - (intOf i).toNat)
      case atStart => exact ⟨0, rfl, Nat.zero_le _, Below.refl _ _⟩
      case round =>
      obtain ⟨j, rfl, hj, hB⟩ := hrel
      have jj : (0 : Int) ≤ j := by omega
      by_cases hlt : j < n
      · obtain ⟨b, o, qa, da, rfl, c0, c1, c2, hM⟩ := RA.out j (by rw [HN.out]; exact hlt)
        have j2 : (j : Int) < n := by omega
        have hbw : b < w.heap.size := World.block_lt_of_cell? _ _ c0
        replace c0 := Rg.keep hB hbw c0
        replace c1 := Rg.keep hB hbw c1
        replace c2 := Rg.keep hB hbw c2
        have hbr : b < wr.heap.size := World.block_lt_of_cell? _ _ c0
        have HM2 := Lib.hid (SlM.keep hB hM)
        have HB2 := Lib.hid (SlM.keep hB RB.out)
        have hok := QK.out _ (qget (l := l) (i := j) (by rw [HN.out]; exact hlt))
        obtain ⟨f, hf⟩ : ∃ f, l.getD j q0m = f := ⟨_, rfl⟩
        rw [hf] at c0 c1 c2 hM HM2 hok
        obtain ⟨k, xs, eq⟩ := f
        dsimp only at c0 c1 c2 hM HM2 hok
        obtain ⟨o1, o2, o3⟩ := hok
        have C1 := Lib.hid fun w h1 h2 => HE.out k qa xs da eq w o1 h1 h2 (Lib.hid o3) o2.1 o2.2
        have C2 := Lib.hid fun w h1 h2 => HE2.out k qa xs da eq w o1 h1 h2 (Lib.hid o3) o2.1 o2.2
        have V1 := Lib.hid fun w h => cval1 k qa xs da eq w (Nat.le_trans o1 (by decide)) h (Lib.hid fun i hi => (o3 i hi).1)
        have V2 := Lib.hid fun w h => cval2 k qa xs da eq w (Nat.le_trans o1 (by decide)) h (Lib.hid fun i hi => (o3 i hi).1)
        obtain ⟨⟨v, er⟩, hv⟩ : ∃ R, hvF k xs eq es = R := ⟨_, rfl⟩
        rw [hv] at C1 C2
        dsimp only at C1 C2
        generalize vL xs = vv at V1 V2
        have g1 : (er != er) = false := by simp
        have g2 : (vv != vv) = false := by simp
        have g3 : (v != v) = false := by simp
        have HB3 := Lib.hid hB
        unfold Cv at C1 C2 V1 V2
        clear hM hf o1 o2 o3 hv hB
        go_wp2_with (first | (go_at_call 22; (with_reducible refine (C1.out _ HM2 HB2).mono ?_); rintro e w1 ⟨rfl, hb1⟩; have c0 := Rg.keep hb1 hbr c0; have c1 := Rg.keep hb1 hbr c1; have c2 := Rg.keep hb1 hbr c2; have hbr1 : b < w1.heap.size := World.block_lt_of_cell? _ _ c0) | (go_at_call 23; (with_reducible refine (C2.out _ (Lib.hid (SlM.keep hb1 HM2.out)) (Lib.hid (SlM.keep hb1 HB2.out))).mono ?_); rintro e w2 ⟨rfl, hb2⟩; have c0 := Rg.keep hb2 hbr1 c0; have c1 := Rg.keep hb2 hbr1 c1; have c2 := Rg.keep hb2 hbr1 c2; have hbr2 : b < w2.heap.size := World.block_lt_of_cell? _ _ c0))
        have K12 := hb1.trans (hb2.mono hb1.size)
        have HM3 := Lib.hid (SlM.keep K12 HM2.out)
        have KB := Lib.hid (HB3.out.trans (K12.mono HB3.out.size))
        have HS : Hid (∀ u u' : World, (u.cell? ⟨b, o + j * 3, none⟩ = some (.int .i64 k) ∧ u.cell? ⟨b, o + j * 3 + 1, none⟩ = some (.slice qa xs.length da) ∧ u.cell? ⟨b, o + j * 3 + 2, none⟩ = some (.bool eq) ∧ Below w2.heap.size w2 u) → Below u.heap.size u u' → (u'.cell? ⟨b, o + j * 3, none⟩ = some (.int .i64 k) ∧ u'.cell? ⟨b, o + j * 3 + 1, none⟩ = some (.slice qa xs.length da) ∧ u'.cell? ⟨b, o + j * 3 + 2, none⟩ = some (.bool eq) ∧ Below w2.heap.size w2 u')) := Lib.hid (fun u u' h hb => ⟨Rg.keep hb (World.block_lt_of_cell? _ _ h.1) h.1, Rg.keep hb (World.block_lt_of_cell? _ _ h.2.1) h.2.1, Rg.keep hb (World.block_lt_of_cell? _ _ h.2.2.1) h.2.2.1, h.2.2.2.trans (hb.mono h.2.2.2.size)⟩)
        clear hb1 hb2 K12 HM2 HB2 C1 C2
        refine Rk.begin (S := fun wS => wS.cell? ⟨b, o + j * 3, none⟩ = some (.int .i64 k) ∧ wS.cell? ⟨b, o + j * 3 + 1, none⟩ = some (.slice qa xs.length da) ∧ wS.cell? ⟨b, o + j * 3 + 2, none⟩ = some (.bool eq) ∧ Below w2.heap.size w2 wS) 20 (by kernel_rfl) ⟨c0, c1, c2, (Below.refl _ _).drew⟩ (fun hHeld => ?_)
        refine Rk.takeP (i := 0) (v := ?_) rfl (by kernel_rfl) (by kernel_rfl) (by kernel_rfl) (by kernel_rfl) (fun _ _ _ h => h) (Or.inl ⟨by kernel_rfl, ?_⟩) (by assumption) ?_
        rotate_left
        · ((intro w hSw; go_simp) <;> with_reducible rfl)
        try simp only [Act.put, List.setIfInBounds_toArray, List.set_cons_zero, List.set_cons_succ]
        refine Rk.takeP (i := 1) (v := ?_) rfl (by kernel_rfl) (by kernel_rfl) (by kernel_rfl) (by kernel_rfl) (fun _ _ _ h => h) (Or.inl ⟨by kernel_rfl, ?_⟩) (by assumption) ?_
        rotate_left
        · ((intro w hSw; go_simp) <;> with_reducible rfl)
        try simp only [Act.put, List.setIfInBounds_toArray, List.set_cons_zero, List.set_cons_succ]
        refine Rk.takeP (i := 2) (v := ?_) rfl (by kernel_rfl) (by kernel_rfl) (by kernel_rfl) (by kernel_rfl) (fun _ _ _ h => h) (Or.inl ⟨by kernel_rfl, ?_⟩) (by assumption) ?_
        rotate_left
        · ((intro w hSw; go_simp) <;> with_reducible rfl)
        try simp only [Act.put, List.setIfInBounds_toArray, List.set_cons_zero, List.set_cons_succ]
        refine Rk.takeP (i := 3) (v := ?_) rfl (by kernel_rfl) (by kernel_rfl) (by kernel_rfl) (by kernel_rfl) (fun _ _ _ h => h) (Or.inl ⟨by kernel_rfl, ?_⟩) (by assumption) ?_
        rotate_left
        · ((intro w hSw; go_simp) <;> with_reducible rfl)
        try simp only [Act.put, List.setIfInBounds_toArray, List.set_cons_zero, List.set_cons_succ]
        refine Rk.takeP (i := 4) (v := ?_) rfl (by kernel_rfl) (by kernel_rfl) (by kernel_rfl) (by kernel_rfl) (fun _ _ _ h => h) (Or.inl ⟨by kernel_rfl, ?_⟩) (by assumption) ?_
        rotate_left
        · ((intro w hSw; go_simp) <;> with_reducible rfl)
        try simp only [Act.put, List.setIfInBounds_toArray, List.set_cons_zero, List.set_cons_succ]
        refine Rk.takeP (i := 5) (v := ?_) rfl (by kernel_rfl) (by kernel_rfl) (by kernel_rfl) (by kernel_rfl) (fun _ _ _ h => h) (Or.inl ⟨by kernel_rfl, ?_⟩) (by assumption) ?_
        rotate_left
        · ((intro w hSw; go_simp) <;> with_reducible rfl)
        try simp only [Act.put, List.setIfInBounds_toArray, List.set_cons_zero, List.set_cons_succ]
        refine Rk.takeP (i := 6) (v := ?_) rfl (by kernel_rfl) (by kernel_rfl) (by kernel_rfl) (by kernel_rfl) (fun _ _ _ h => h) (Or.inl ⟨by kernel_rfl, ?_⟩) (by assumption) ?_
        rotate_left
        · ((intro w hSw; go_simp) <;> with_reducible rfl)
        try simp only [Act.put, List.setIfInBounds_toArray, List.set_cons_zero, List.set_cons_succ]
        refine Rk.takeP (i := 7) (v := ?_) rfl (by kernel_rfl) (by kernel_rfl) (by kernel_rfl) (by kernel_rfl) (fun _ _ _ h => h) (Or.inl ⟨by kernel_rfl, ?_⟩) (by assumption) ?_
        rotate_left
        · ((intro w hSw; go_simp) <;> with_reducible rfl)
        try simp only [Act.put, List.setIfInBounds_toArray, List.set_cons_zero, List.set_cons_succ]
        refine Rk.takeP (i := 8) (v := ?_) rfl (by kernel_rfl) (by kernel_rfl) (by kernel_rfl) (by kernel_rfl) (fun _ _ _ h => h) (Or.inl ⟨by kernel_rfl, ?_⟩) (by assumption) ?_
        rotate_left
        · ((intro w hSw; go_simp) <;> with_reducible rfl)
        try simp only [Act.put, List.setIfInBounds_toArray, List.set_cons_zero, List.set_cons_succ]
        refine Rk.takeP (i := 9) (v := ?_) rfl (by kernel_rfl) (by kernel_rfl) (by kernel_rfl) (by kernel_rfl) (fun _ _ _ h => h) (Or.inl ⟨by kernel_rfl, ?_⟩) (by assumption) ?_
        rotate_left
        · ((intro w hSw; go_simp) <;> with_reducible rfl)
        try simp only [Act.put, List.setIfInBounds_toArray, List.set_cons_zero, List.set_cons_succ]
        refine Rk.takeP (i := 10) (v := ?_) rfl (by kernel_rfl) (by kernel_rfl) (by kernel_rfl) (by kernel_rfl) (fun _ _ _ h => h) (Or.inl ⟨by kernel_rfl, ?_⟩) (by assumption) ?_
        rotate_left
        · ((intro w hSw; go_simp) <;> with_reducible rfl)
        try simp only [Act.put, List.setIfInBounds_toArray, List.set_cons_zero, List.set_cons_succ]
        refine Rk.takeP (i := 11) (v := ?_) rfl (by kernel_rfl) (by kernel_rfl) (by kernel_rfl) (by kernel_rfl) (fun _ _ _ h => h) (Or.inl ⟨by kernel_rfl, ?_⟩) (by assumption) ?_
        rotate_left
        · ((intro w hSw; go_simp) <;> with_reducible rfl)
        try simp only [Act.put, List.setIfInBounds_toArray, List.set_cons_zero, List.set_cons_succ]
        refine Rk.take [13, 19, 20] (i := 12) (v := ?_) rfl (by kernel_rfl) (by kernel_rfl) (by kernel_rfl) (by kernel_rfl) (by kernel_rfl) (fun _ _ _ h => h) (Or.inl ⟨by kernel_rfl, ?_⟩) (by assumption) ?_
        rotate_left
        · ((intro w hSw; (try dsimp only at hSw); go_simp) <;> with_reducible rfl)
        try simp only [Act.put, List.setIfInBounds_toArray, List.set_cons_zero, List.set_cons_succ]
        refine Rk.takeP (i := 14) (v := ?_) rfl (by kernel_rfl) (by kernel_rfl) (by kernel_rfl) (by kernel_rfl) (fun _ _ _ h => h) (Or.inl ⟨by kernel_rfl, ?_⟩) (by assumption) ?_
        rotate_left
        · ((intro w hSw; go_simp) <;> with_reducible rfl)
        try simp only [Act.put, List.setIfInBounds_toArray, List.set_cons_zero, List.set_cons_succ]
        refine Rk.takeP (i := 15) (v := ?_) rfl (by kernel_rfl) (by kernel_rfl) (by kernel_rfl) (by kernel_rfl) (fun _ _ _ h => h) (Or.inl ⟨by kernel_rfl, ?_⟩) (by assumption) ?_
        rotate_left
        · ((intro w hSw; go_simp) <;> with_reducible rfl)
        try simp only [Act.put, List.setIfInBounds_toArray, List.set_cons_zero, List.set_cons_succ]
        refine Rk.takeP (i := 16) (v := ?_) rfl (by kernel_rfl) (by kernel_rfl) (by kernel_rfl) (by kernel_rfl) (fun _ _ _ h => h) (Or.inl ⟨by kernel_rfl, ?_⟩) (by assumption) ?_
        rotate_left
        · ((intro w hSw; go_simp) <;> with_reducible rfl)
        try simp only [Act.put, List.setIfInBounds_toArray, List.set_cons_zero, List.set_cons_succ]
        refine Rk.take [18, 19, 20] (i := 17) (v := ?_) rfl (by kernel_rfl) (by kernel_rfl) (by kernel_rfl) (by kernel_rfl) (by kernel_rfl) (fun _ _ _ h => h) (Or.inl ⟨by kernel_rfl, ?_⟩) (by assumption) ?_
        rotate_left
        · ((intro w hSw; (try dsimp only at hSw); go_simp) <;> with_reducible rfl)
        try simp only [Act.put, List.setIfInBounds_toArray, List.set_cons_zero, List.set_cons_succ]
        refine Rk.one (i := 13) (by kernel_rfl) rfl (fun KK hK => ?_)
        rw [if_pos (by kernel_rfl)]
        go_simp
        ((with_reducible refine (V1.out _ (Lib.hid (SlM.keep hHeld.2.2.2 HM3.out))).mono ?_); rintro e u ⟨rfl, hb⟩)
        first | (refine hK.out _ _ (fun _ => HS.out _ _ hHeld hb) (fun hHeld => ?_)) | (refine hK.out _ _ (HS.out _ _ hHeld hb) (fun hHeld => ?_)) | (go_wp2_with fail; refine hK.out _ _ (HS.out _ _ hHeld hb) (fun hHeld => ?_))
        clear hK KK
        refine Rk.one (i := 18) (by kernel_rfl) rfl (fun KK hK => ?_)
        rw [if_pos (by kernel_rfl)]
        go_simp
        ((with_reducible refine (V2.out _ (Lib.hid (SlM.keep hHeld.2.2.2 HM3.out))).mono ?_); rintro e u ⟨rfl, hb⟩)
        first | (refine hK.out _ _ (fun _ => HS.out _ _ hHeld hb) (fun hHeld => ?_)) | (refine hK.out _ _ (HS.out _ _ hHeld hb) (fun hHeld => ?_)) | (go_wp2_with fail; refine hK.out _ _ (HS.out _ _ hHeld hb) (fun hHeld => ?_))
        clear hK KK
        refine Rk.takeP (i := 19) (v := ?_) rfl (by kernel_rfl) (by kernel_rfl) (by kernel_rfl) (by kernel_rfl) (fun _ _ _ h => h) (Or.inl ⟨by kernel_rfl, ?_⟩) (by assumption) ?_
        rotate_left
        · ((intro w hSw; go_simp) <;> with_reducible rfl)
        try simp only [Act.put, List.setIfInBounds_toArray, List.set_cons_zero, List.set_cons_succ]
        refine Rk.tail [20] [_] (by kernel_rfl) (by kernel_rfl) rfl (by decide) ?_
        have KU := KB.out.trans (hHeld.2.2.2.mono KB.out.size)
        clear hHeld
        go_wp2_with fail
        go_roundw
        case rel => exact ⟨j + 1, by go_num, by omega, KU⟩
        case measure => simp [intOf]; omega
      · obtain rfl : j = n := by omega
        have HB3 := Lib.hid hB
        have HQ3 := Lib.hid (SlQ.keep hB RA.out)
        have HM3 := Lib.hid (SlM.keep hB RB.out)
        have g1 : (r1 == r1) = true := by simp
        have g2 : (r2 == r2) = true := by simp
        clear hB
        go_wp2_with (first | (go_at_call 26; (with_reducible refine (F1.out _ HQ3 HM3).mono ?_); rintro e w1 ⟨rfl, hb1⟩) | (go_at_call 27; (with_reducible refine (F2.out _ (Lib.hid (SlQ.keep hb1 HQ3.out)) (Lib.hid (SlM.keep hb1 HM3.out))).mono ?_); rintro e w2 ⟨rfl, hb2⟩; have K12 := hb1.trans (hb2.mono hb1.size); have KB := Lib.hid (HB3.out.trans (K12.mono HB3.out.size))) | (go_at_call 21; (with_reducible refine (EX.out _ (Lib.hid fun w' h => hL.out _ (KB.out.trans (h.mono KB.out.size)))).mono ?_); rintro e w9 ⟨rfl, hb9⟩))
        go_ret
        exact ⟨rfl, KB.out.trans (hb9.mono KB.out.size)⟩
end Go.Proofs.YtbicmlkjonaccaaDoor.Ln
