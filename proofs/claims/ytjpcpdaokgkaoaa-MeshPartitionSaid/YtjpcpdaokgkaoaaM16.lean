/- The statement on groups: its walk. -/
import Derived.Test.YtjpcpdaokgkaoaaM14
namespace Go.Proofs.Ytjpcpdaokgkaoaa.Sh
open Go.ChangeShapes Go.WideShapes Go.ChangeAt Go.RowKit
set_option linter.unusedVariables false

theorem gL_len (zs : List Int) (ax d : Int) : (gL zs ax d).length ≤ 16 := by
  unfold gL
  by_cases h : cB zs d = true ∧ 0 ≤ ax ∧ ax < zs.length
  · rw [if_pos h, gm_length]
    have := (mok_el (cB_valid h.1).1 (k := ax.toNat) (by omega)).2
    omega
  · rw [if_neg h]; simp
set_option maxHeartbeats 16000000 in
theorem law10_ok (p : Option Addr) (zs : List Int) (c : Nat) (ax d : Int) (w : World) (RA : Hid (SlI w p zs)) (h1 : zs.length ≤ 20) :
    Calls Try.prog 10 #[.agg #[.slice p zs.length c], .int .i64 ax, .int .i64 d] w (Ret (.bool true) w) := by
  have EX := Lib.hid ex51
  have hn : zs.length ≤ maxLen := by unfold maxLen; omega
  have l1 : decide ((20 : Int) < zs.length) = false := decide_eq_false (by omega)
  have l2 : decide (20 < zs.length) = false := decide_eq_false (by omega)
  have D41 := Lib.hid fun (y : World) (h : Below w.heap.size w y) => c41 p zs c ax d y hn (Lib.hid (SlI.keep h RA.out))
  have D42 := Lib.hid fun (y : World) (h : Below w.heap.size w y) => c42 p zs c ax d y hn (Lib.hid (SlI.keep h RA.out))
  have D44 := Lib.hid fun (y : World) (h : Below w.heap.size w y) => c44 p zs c ax y hn (Lib.hid (SlI.keep h RA.out))
  have D45 := Lib.hid fun (y : World) (h : Below w.heap.size w y) => c45 p zs c ax y hn (Lib.hid (SlI.keep h RA.out))
  have HL : Hid ((gL zs ax d).length ≤ maxLen) := Lib.hid (by have := gL_len zs ax d; unfold maxLen; omega)
  have HG : Hid ((gs zs ax (dv zs).toNat).length ≤ maxLen) := Lib.hid (by have := gs_len zs ax (dv zs).toNat; have := dv_le zs; unfold maxLen; omega)
  generalize gL zs ax d = L at D41 D42 HL
  generalize gs zs ax (dv zs).toNat = G at D44 D45 HG
  generalize zs.length = n at *
  have K0 := KW.mk (.slice p n c) 41 w
  go_enter Try.func10, Try.ntmps10
  go_wp2
  obtain ⟨z, hzz⟩ : ∃ z, z = w.alloc (Obj.cells #[Value.slice p n c] 41) := ⟨_, rfl⟩
  rw [← hzz] at K0 ⊢
  clear hzz
  obtain ⟨KZ, hlt, hx⟩ := K0
  have C41 := Lib.hid fun (y : World) (h : Below z.heap.size z y) => D41.out y (KZ.trans (h.mono KZ.size))
  have C42 := Lib.hid fun (y : World) (h : Below z.heap.size z y) => D42.out y (KZ.trans (h.mono KZ.size))
  have C44 := Lib.hid fun (y : World) (h : Below z.heap.size z y) => D44.out y (KZ.trans (h.mono KZ.size))
  have C45 := Lib.hid fun (y : World) (h : Below z.heap.size z y) => D45.out y (KZ.trans (h.mono KZ.size))
  clear D41 D42 D44 D45
  have hz : z.cell? ⟨w.heap.size, 0, none⟩ = some (.slice p n c) ∧ z.heap.size ≤ z.heap.size ∧ Below z.heap.size z z := ⟨hx, Nat.le_refl _, Below.refl _ _⟩
  clear hx
  have HS : Hid (∀ u u' : World, (u.cell? ⟨w.heap.size, 0, none⟩ = some (.slice p n c) ∧ z.heap.size ≤ u.heap.size ∧ Below z.heap.size z u) → Below u.heap.size u u' → (u'.cell? ⟨w.heap.size, 0, none⟩ = some (.slice p n c) ∧ z.heap.size ≤ u'.heap.size ∧ Below z.heap.size z u')) := Lib.hid (fun u u' h hb => ⟨Rg.keep hb (Nat.lt_of_lt_of_le hlt h.2.1) h.1, Nat.le_trans h.2.1 hb.size, h.2.2.trans (hb.mono h.2.2.size)⟩)
  refine wp_region_held_drew (S := fun w' => w'.cell? ⟨w.heap.size, 0, none⟩ = some (.slice p n c) ∧ z.heap.size ≤ w'.heap.size ∧ Below z.heap.size z w') (by kernel_rfl) (HS.out _ _ hz (Below.drew (Below.refl _ _))) (fun hHeld => ?_)
  refine Rg.take (i := 0) (v := ?_) rfl (by kernel_rfl) (by kernel_rfl) (by kernel_rfl) (fun _ _ _ h => h) (Or.inl ⟨by kernel_rfl, ?_⟩) (by assumption) ?_
  rotate_left
  · ((intro w hSw; (try dsimp only at hSw); go_simp) <;> with_reducible rfl)
  try simp only [Act.put, List.setIfInBounds_toArray, List.set_cons_zero, List.set_cons_succ]
  refine Rg.take (i := 1) (v := ?_) rfl (by kernel_rfl) (by kernel_rfl) (by kernel_rfl) (fun _ _ _ h => h) (Or.inl ⟨by kernel_rfl, ?_⟩) (by assumption) ?_
  rotate_left
  · ((intro w hSw; (try dsimp only at hSw); go_simp) <;> with_reducible rfl)
  try simp only [Act.put, List.setIfInBounds_toArray, List.set_cons_zero, List.set_cons_succ]
  refine Rg.take (i := 2) (v := ?_) rfl (by kernel_rfl) (by kernel_rfl) (by kernel_rfl) (fun _ _ _ h => h) (Or.inl ⟨by kernel_rfl, ?_⟩) (by assumption) ?_
  rotate_left
  · ((intro w hSw; (try dsimp only at hSw); go_simp) <;> with_reducible rfl)
  try simp only [Act.put, List.setIfInBounds_toArray, List.set_cons_zero, List.set_cons_succ]
  refine Rg.take (i := 4) (v := ?_) rfl (by kernel_rfl) (by kernel_rfl) (by kernel_rfl) (fun _ _ _ h => h) (Or.inl ⟨by kernel_rfl, ?_⟩) (by assumption) ?_
  rotate_left
  · ((intro w hSw; (try dsimp only at hSw); go_simp) <;> with_reducible rfl)
  try simp only [Act.put, List.setIfInBounds_toArray, List.set_cons_zero, List.set_cons_succ]
  refine Rg.take (i := 5) (v := ?_) rfl (by kernel_rfl) (by kernel_rfl) (by kernel_rfl) (fun _ _ _ h => h) (Or.inl ⟨by kernel_rfl, ?_⟩) (by assumption) ?_
  rotate_left
  · ((intro w hSw; (try dsimp only at hSw); go_simp) <;> with_reducible rfl)
  try simp only [Act.put, List.setIfInBounds_toArray, List.set_cons_zero, List.set_cons_succ]
  refine Rg.take (i := 6) (v := ?_) rfl (by kernel_rfl) (by kernel_rfl) (by kernel_rfl) (fun _ _ _ h => h) (Or.inl ⟨by kernel_rfl, ?_⟩) (by assumption) ?_
  rotate_left
  · ((intro w hSw; (try dsimp only at hSw); go_simp) <;> with_reducible rfl)
  try simp only [Act.put, List.setIfInBounds_toArray, List.set_cons_zero, List.set_cons_succ]
  refine Rg.one (i := 3) (by kernel_rfl) rfl (fun KK hK => ?_)
  rw [if_pos (by kernel_rfl)]
  go_simp
  ((with_reducible refine (C41.out _ hHeld.2.2).mono ?_); rintro e u1 ⟨v1, rfl, hb, ho⟩)
  obtain ⟨q1, d1, rfl, _, _, S1⟩ := own_SlI ho
  have hNew := HS.out _ _ hHeld hb
  clear ho C41
  first | (refine hK.out _ _ hNew (fun _ => ?_)) | (go_wp2_with fail; refine hK.out _ _ hNew (fun _ => ?_))
  clear hK KK hHeld hb
  have hHeld := hNew
  clear hNew
  refine Rg.one (i := 7) (by kernel_rfl) rfl (fun KK hK => ?_)
  rw [if_pos (by kernel_rfl)]
  go_simp
  ((with_reducible refine (C42.out _ hHeld.2.2).mono ?_); rintro e u2 ⟨v2, rfl, hb, ho⟩)
  obtain ⟨q2, d2, rfl, _, _, S2⟩ := own_SlI ho
  have hNew := HS.out _ _ hHeld hb
  have T1 := Lib.hid (SlI.keep hb S1.out)
  have CI := Lib.hid (c18 q1 q2 L L d1 d2 _ HL.out HL.out T1 S2)
  rw [decide_eq_true rfl] at CI
  clear ho C42 S1 T1 S2
  first | (refine hK.out _ _ hNew (fun _ => ?_)) | (go_wp2_with fail; refine hK.out _ _ hNew (fun _ => ?_))
  clear hK KK hHeld hb
  have hHeld := hNew
  clear hNew
  refine Rg.one (i := 8) (by kernel_rfl) rfl (fun KK hK => ?_)
  rw [if_pos (by kernel_rfl)]
  go_simp
  ((with_reducible refine (CI.out).mono ?_); rintro e u ⟨rfl, kd, rfl⟩)
  have hNew := HS.out _ _ hHeld (below_drewN (Below.refl _ _) kd)
  first | (refine hK.out _ _ hNew (fun _ => ?_)) | (go_wp2_with fail; refine hK.out _ _ hNew (fun _ => ?_))
  clear hK KK hHeld
  have hHeld := hNew
  clear hNew
  refine Rg.take (i := 9) (v := ?_) rfl (by kernel_rfl) (by kernel_rfl) (by kernel_rfl) (fun _ _ _ h => h) (Or.inl ⟨by kernel_rfl, ?_⟩) (by assumption) ?_
  rotate_left
  · ((intro w hSw; (try dsimp only at hSw); go_simp) <;> with_reducible rfl)
  try simp only [Act.put, List.setIfInBounds_toArray, List.set_cons_zero, List.set_cons_succ]
  refine Rg.take (i := 10) (v := ?_) rfl (by kernel_rfl) (by kernel_rfl) (by kernel_rfl) (fun _ _ _ h => h) (Or.inl ⟨by kernel_rfl, ?_⟩) (by assumption) ?_
  rotate_left
  · ((intro w hSw; (try dsimp only at hSw); go_simp) <;> with_reducible rfl)
  try simp only [Act.put, List.setIfInBounds_toArray, List.set_cons_zero, List.set_cons_succ]
  refine Rg.take (i := 11) (v := ?_) rfl (by kernel_rfl) (by kernel_rfl) (by kernel_rfl) (fun _ _ _ h => h) (Or.inl ⟨by kernel_rfl, ?_⟩) (by assumption) ?_
  rotate_left
  · ((intro w hSw; (try dsimp only at hSw); go_simp) <;> with_reducible rfl)
  try simp only [Act.put, List.setIfInBounds_toArray, List.set_cons_zero, List.set_cons_succ]
  refine Rg.take (i := 13) (v := ?_) rfl (by kernel_rfl) (by kernel_rfl) (by kernel_rfl) (fun _ _ _ h => h) (Or.inl ⟨by kernel_rfl, ?_⟩) (by assumption) ?_
  rotate_left
  · ((intro w hSw; (try dsimp only at hSw); go_simp) <;> with_reducible rfl)
  try simp only [Act.put, List.setIfInBounds_toArray, List.set_cons_zero, List.set_cons_succ]
  refine Rg.take (i := 14) (v := ?_) rfl (by kernel_rfl) (by kernel_rfl) (by kernel_rfl) (fun _ _ _ h => h) (Or.inl ⟨by kernel_rfl, ?_⟩) (by assumption) ?_
  rotate_left
  · ((intro w hSw; (try dsimp only at hSw); go_simp) <;> with_reducible rfl)
  try simp only [Act.put, List.setIfInBounds_toArray, List.set_cons_zero, List.set_cons_succ]
  refine Rg.one (i := 12) (by kernel_rfl) rfl (fun KK hK => ?_)
  rw [if_pos (by kernel_rfl)]
  go_simp
  ((with_reducible refine (C44.out _ hHeld.2.2).mono ?_); rintro e u3 ⟨v3, vs3, rfl, hb, ho, hr⟩)
  obtain ⟨q3, d3, rfl, _, _, S3⟩ := own_SlS ho hr
  have hNew := HS.out _ _ hHeld hb
  clear ho C44 hr
  first | (refine hK.out _ _ hNew (fun _ => ?_)) | (go_wp2_with fail; refine hK.out _ _ hNew (fun _ => ?_))
  clear hK KK hHeld hb
  have hHeld := hNew
  clear hNew
  refine Rg.one (i := 15) (by kernel_rfl) rfl (fun KK hK => ?_)
  rw [if_pos (by kernel_rfl)]
  go_simp
  ((with_reducible refine (C45.out _ hHeld.2.2).mono ?_); rintro e u4 ⟨v4, vs4, rfl, hb, ho, hr⟩)
  obtain ⟨q4, d4, rfl, _, _, S4⟩ := own_SlS ho hr
  have hNew := HS.out _ _ hHeld hb
  have T3 := Lib.hid (SlS.keep hb S3.out)
  have CJ := Lib.hid (c43 q3 q4 G G d3 d4 _ HG.out HG.out T3 S4)
  rw [decide_eq_true rfl] at CJ
  clear ho C45 hr S3 T3 S4
  first | (refine hK.out _ _ hNew (fun _ => ?_)) | (go_wp2_with fail; refine hK.out _ _ hNew (fun _ => ?_))
  clear hK KK hHeld hb
  have hHeld := hNew
  clear hNew
  refine Rg.one (i := 16) (by kernel_rfl) rfl (fun KK hK => ?_)
  rw [if_pos (by kernel_rfl)]
  go_simp
  ((with_reducible refine (CJ.out).mono ?_); rintro e u ⟨rfl, kd, rfl⟩)
  have hNew := HS.out _ _ hHeld (below_drewN (Below.refl _ _) kd)
  first | (refine hK.out _ _ hNew (fun _ => ?_)) | (go_wp2_with fail; refine hK.out _ _ hNew (fun _ => ?_))
  clear hK KK hHeld
  have hHeld := hNew
  clear hNew
  refine Rg.take (i := 17) (v := ?_) rfl (by kernel_rfl) (by kernel_rfl) (by kernel_rfl) (fun _ _ _ h => h) (Or.inl ⟨by kernel_rfl, ?_⟩) (by assumption) ?_
  rotate_left
  · ((intro w hSw; (try dsimp only at hSw); go_simp) <;> with_reducible rfl)
  try simp only [Act.put, List.setIfInBounds_toArray, List.set_cons_zero, List.set_cons_succ]
  refine Rg.take (i := 18) (v := ?_) rfl (by kernel_rfl) (by kernel_rfl) (by kernel_rfl) (fun _ _ _ h => h) (Or.inl ⟨by kernel_rfl, ?_⟩) (by assumption) ?_
  rotate_left
  · ((intro w hSw; (try dsimp only at hSw); go_simp) <;> with_reducible rfl)
  try simp only [Act.put, List.setIfInBounds_toArray, List.set_cons_zero, List.set_cons_succ]
  refine Rg.one (i := 19) (by kernel_rfl) rfl (fun KK hK => ?_)
  rw [if_pos (by kernel_rfl)]
  go_simp
  ((with_reducible refine (EX.out _).mono ?_); rintro e u ⟨rfl, hb⟩)
  have hNew := HS.out _ _ hHeld hb
  first | (refine hK.out _ _ hNew (fun _ => ?_)) | (go_wp2_with fail; refine hK.out _ _ hNew (fun _ => ?_))
  clear hK KK hHeld hb
  have hHeld := hNew
  clear hNew
  refine Rg.take (i := 20) (v := ?_) rfl (by kernel_rfl) (by kernel_rfl) (by kernel_rfl) (fun _ _ _ h => h) (Or.inl ⟨by kernel_rfl, ?_⟩) (by assumption) ?_
  rotate_left
  · ((intro w hSw; (try dsimp only at hSw); go_simp) <;> with_reducible rfl)
  try simp only [Act.put, List.setIfInBounds_toArray, List.set_cons_zero, List.set_cons_succ]
  refine Rg.take (i := 21) (v := ?_) rfl (by kernel_rfl) (by kernel_rfl) (by kernel_rfl) (fun _ _ _ h => h) (Or.inl ⟨by kernel_rfl, ?_⟩) (by assumption) ?_
  rotate_left
  · ((intro w hSw; (try dsimp only at hSw); go_simp) <;> with_reducible rfl)
  try simp only [Act.put, List.setIfInBounds_toArray, List.set_cons_zero, List.set_cons_succ]
  refine wpAnyH_done (by kernel_rfl) ?_ _
  go_wp2
  go_ret
  exact ⟨rfl, KZ.trans (hHeld.2.2.mono KZ.size)⟩
theorem law10 (p : Option Addr) (zs : List Int) (c : Nat) (ax d : Int) (w : World) (hc : zs.length ≤ c) (hc' : c ≤ maxLen) (RA : Hid (SlI w p zs)) (ha : -9223372036854775808 ≤ ax ∧ ax ≤ 9223372036854775807) (hd : -9223372036854775808 ≤ d ∧ d ≤ 9223372036854775807) :
    Calls Try.prog 10 #[.agg #[.slice p zs.length c], .int .i64 ax, .int .i64 d] w (Ret (.bool true) w) := by
  by_cases h : 20 < zs.length
  · have EX := Lib.hid ex51
    have l1 : decide ((20 : Int) < zs.length) = true := decide_eq_true (by omega)
    have l2 : decide (20 < zs.length) = true := decide_eq_true (by omega)
    clear h
    go_enter Try.func10, Try.ntmps10
    go_wp2_with (go_at_call 32; refine (EX.out _).mono ?_; rintro e w1 ⟨rfl, hb⟩)
    go_ret
    exact ⟨rfl, ((Below.refl _ _).alloc (Nat.le_refl _) _).trans (hb.mono (by simp))⟩
  · exact law10_ok p zs c ax d w RA (by omega)
end Go.Proofs.Ytjpcpdaokgkaoaa.Sh
