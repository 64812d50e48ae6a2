/- The law on texts of numbers. -/
import Derived.Test.YtikcinkbkakkmaaGreatDoorV31
import Derived.Test.YtikcinkbkakkmaaGreatDoorV9

namespace Go.Proofs.YtikcinkbkakkmaaGreatDoor.Va
open Go.ChangeShapes Go.WideShapes Go.ChangeAt Go.RowKit
open Fr Fx
set_option maxRecDepth 8000
set_option linter.unusedVariables false
set_option linter.unusedSimpArgs false

set_option maxRecDepth 100000 in
set_option maxHeartbeats 8000000 in
theorem law_vf (K B F R O n d : Int) (s : ByteArray) (w : World) (bb0 : -9223372036854775808 ≤ B) (bb1 : B ≤ 9223372036854775807) (hs : s.size ≤ maxLen) (hL : Tx.LA w) : Calls Tryz.prog 5 #[T5 K B F R O, V2 n d, .string s] w (Ret (.bool true) w) := by
  have EX := Lib.hid fun w => examples_true w
  have LAh := Lib.hid hL
  clear hL
  by_cases h : 100 < s.size
  · have g1 : decide ((100 : Int) < s.size) = true := by simp; omega
    clear h bb0 bb1
    go_enter Tryz.func5, Tryz.ntmps5
    go_wp2_with fail
    refine (EX.out _).mono ?_
    rintro e w1 ⟨rfl, hb⟩
    have L : Below w.heap.size w w1 := (((Below.refl _ _).alloc (by simp <;> omega) _).alloc (by simp <;> omega) _).trans (hb.mono (by simp <;> omega))
    have K1 : Below w.heap.size w w1 := L
    have lt : w.heap.size < w1.heap.size := Nat.lt_of_lt_of_le (by simp <;> omega) hb.size
    have t0 : w1.cell? ⟨w.heap.size, 0, none⟩ = some (.int .i64 K) := Rg.keep hb (by simp <;> omega) (by go_cell)
    have t1 : w1.cell? ⟨w.heap.size, 1, none⟩ = some (.int .i64 B) := Rg.keep hb (by simp <;> omega) (by go_cell)
    have t2 : w1.cell? ⟨w.heap.size, 2, none⟩ = some (.int .i64 F) := Rg.keep hb (by simp <;> omega) (by go_cell)
    have t3 : w1.cell? ⟨w.heap.size, 3, none⟩ = some (.int .i64 R) := Rg.keep hb (by simp <;> omega) (by go_cell)
    have t4 : w1.cell? ⟨w.heap.size, 4, none⟩ = some (.int .i64 O) := Rg.keep hb (by simp <;> omega) (by go_cell)
    have la : w.heap.size + 1 < w1.heap.size := Nat.lt_of_lt_of_le (by simp <;> omega) hb.size
    have a0 : w1.cell? ⟨w.heap.size + 1, 0, none⟩ = some (.int .i64 n) := Rg.keep hb (by simp <;> omega) (by go_cell)
    have a1 : w1.cell? ⟨w.heap.size + 1, 1, none⟩ = some (.int .i64 d) := Rg.keep hb (by simp <;> omega) (by go_cell)
    clear hb L
    go_wp2
    go_ret
    exact ⟨rfl, K1⟩
  · have g1 : decide ((100 : Int) < s.size) = false := by simp; omega
    have CP := Lib.hid fun w h => c_vp K B F R O s w bb0 bb1 (by omega) h
    have RP := Lib.hid fun w => r_vp K B F R O s w hs
    have CF := Lib.hid fun w h => c_vfm K B F R O n d w bb0 bb1 h
    have RF := Lib.hid fun w => r_vfm K B F R O n d w
    obtain ⟨r, hr⟩ : ∃ r, vpv K B F R O s.data.toList = r := ⟨_, rfl⟩
    rw [hr] at CP RP
    generalize (⟨(vfm K B F R O n d).toArray⟩ : ByteArray) = G at *
    clear hr h bb0 bb1
    obtain ⟨x, y, z⟩ := r
    go_enter Tryz.func5, Tryz.ntmps5
    go_wp2_with fail
    refine (CP.out _ (LAh.out.below (by (repeat' (first | (with_reducible exact Below.refl _ _) | (with_reducible refine Below.alloc ?_ ?_ _) | (with_reducible refine Below.setCell ?_ ?_ _) | (with_reducible refine below_drewN ?_ _) | (simp; done) | omega | (simp; omega)))))).mono ?_
    rintro e w1 ⟨rfl, hb⟩
    have L : Below w.heap.size w w1 := (((Below.refl _ _).alloc (by simp <;> omega) _).alloc (by simp <;> omega) _).trans (hb.mono (by simp <;> omega))
    have K1 : Below w.heap.size w w1 := L
    have lt : w.heap.size < w1.heap.size := Nat.lt_of_lt_of_le (by simp <;> omega) hb.size
    have t0 : w1.cell? ⟨w.heap.size, 0, none⟩ = some (.int .i64 K) := Rg.keep hb (by simp <;> omega) (by go_cell)
    have t1 : w1.cell? ⟨w.heap.size, 1, none⟩ = some (.int .i64 B) := Rg.keep hb (by simp <;> omega) (by go_cell)
    have t2 : w1.cell? ⟨w.heap.size, 2, none⟩ = some (.int .i64 F) := Rg.keep hb (by simp <;> omega) (by go_cell)
    have t3 : w1.cell? ⟨w.heap.size, 3, none⟩ = some (.int .i64 R) := Rg.keep hb (by simp <;> omega) (by go_cell)
    have t4 : w1.cell? ⟨w.heap.size, 4, none⟩ = some (.int .i64 O) := Rg.keep hb (by simp <;> omega) (by go_cell)
    have la : w.heap.size + 1 < w1.heap.size := Nat.lt_of_lt_of_le (by simp <;> omega) hb.size
    have a0 : w1.cell? ⟨w.heap.size + 1, 0, none⟩ = some (.int .i64 n) := Rg.keep hb (by simp <;> omega) (by go_cell)
    have a1 : w1.cell? ⟨w.heap.size + 1, 1, none⟩ = some (.int .i64 d) := Rg.keep hb (by simp <;> omega) (by go_cell)
    clear hb L
    go_wp2_with fail
    refine (RP.out _).mono ?_
    rintro e w2 ⟨rfl, hb⟩
    have L : Below w1.heap.size w1 w2 := ((Below.refl _ _).alloc (by simp <;> omega) _).trans (hb.mono (by simp <;> omega))
    have K2 : Below w.heap.size w w2 := K1.trans (L.mono K1.size)
    have lb : w1.heap.size < w2.heap.size := Nat.lt_of_lt_of_le (by simp <;> omega) hb.size
    have b0 : w2.cell? ⟨w1.heap.size, 0, none⟩ = some (.int .i64 x) := Rg.keep hb (by simp <;> omega) (by go_cell)
    have b1 : w2.cell? ⟨w1.heap.size, 1, none⟩ = some (.int .i64 y) := Rg.keep hb (by simp <;> omega) (by go_cell)
    have t0 := Rg.keep L lt t0
    have t1 := Rg.keep L lt t1
    have t2 := Rg.keep L lt t2
    have t3 := Rg.keep L lt t3
    have t4 := Rg.keep L lt t4
    have a0 := Rg.keep L la a0
    have a1 := Rg.keep L la a1
    have lt := Nat.lt_of_lt_of_le lt L.size
    have la := Nat.lt_of_lt_of_le la L.size
    clear hb L
    go_wp2_with fail
    obtain ⟨zw3, hzw⟩ : ∃ zw3, zw3 = (w2.alloc (.cells #[.int .i64 x, .int .i64 y] 25)) := ⟨_, rfl⟩
    have hb : Below (w2.alloc (.cells #[.int .i64 x, .int .i64 y] 25)).heap.size (w2.alloc (.cells #[.int .i64 x, .int .i64 y] 25)) zw3 := by rw [hzw]; exact Below.refl _ _
    rw [← hzw]
    clear hzw
    have L : Below w2.heap.size w2 zw3 := ((Below.refl _ _).alloc (by simp <;> omega) _).trans (hb.mono (by simp <;> omega))
    have K3 : Below w.heap.size w zw3 := K2.trans (L.mono K2.size)
    have lc : w2.heap.size < zw3.heap.size := Nat.lt_of_lt_of_le (by simp <;> omega) hb.size
    have c0 : zw3.cell? ⟨w2.heap.size, 0, none⟩ = some (.int .i64 x) := Rg.keep hb (by simp <;> omega) (by go_cell)
    have c1 : zw3.cell? ⟨w2.heap.size, 1, none⟩ = some (.int .i64 y) := Rg.keep hb (by simp <;> omega) (by go_cell)
    have t0 := Rg.keep L lt t0
    have t1 := Rg.keep L lt t1
    have t2 := Rg.keep L lt t2
    have t3 := Rg.keep L lt t3
    have t4 := Rg.keep L lt t4
    have a0 := Rg.keep L la a0
    have a1 := Rg.keep L la a1
    have b0 := Rg.keep L lb b0
    have b1 := Rg.keep L lb b1
    have lt := Nat.lt_of_lt_of_le lt L.size
    have la := Nat.lt_of_lt_of_le la L.size
    have lb := Nat.lt_of_lt_of_le lb L.size
    clear hb L
    go_wp2_with fail
    have hz : zw3.cell? ⟨w.heap.size, 0, none⟩ = some (.int .i64 K) ∧ zw3.cell? ⟨w.heap.size, 1, none⟩ = some (.int .i64 B) ∧ zw3.cell? ⟨w.heap.size, 2, none⟩ = some (.int .i64 F) ∧ zw3.cell? ⟨w.heap.size, 3, none⟩ = some (.int .i64 R) ∧ zw3.cell? ⟨w.heap.size, 4, none⟩ = some (.int .i64 O) ∧ zw3.cell? ⟨w.heap.size + 1, 0, none⟩ = some (.int .i64 n) ∧ zw3.cell? ⟨w.heap.size + 1, 1, none⟩ = some (.int .i64 d) ∧ zw3.cell? ⟨w1.heap.size, 0, none⟩ = some (.int .i64 x) ∧ zw3.cell? ⟨w1.heap.size, 1, none⟩ = some (.int .i64 y) ∧ zw3.cell? ⟨w2.heap.size, 0, none⟩ = some (.int .i64 x) ∧ zw3.cell? ⟨w2.heap.size, 1, none⟩ = some (.int .i64 y) ∧ zw3.heap.size ≤ zw3.heap.size ∧ Below w.heap.size w zw3 := ⟨t0, t1, t2, t3, t4, a0, a1, b0, b1, c0, c1, Nat.le_refl _, K3⟩
    clear t0 t1 t2 t3 t4 a0 a1 b0 b1 c0 c1 K3
    have HS : Hid (∀ u u' : World, (u.cell? ⟨w.heap.size, 0, none⟩ = some (.int .i64 K) ∧ u.cell? ⟨w.heap.size, 1, none⟩ = some (.int .i64 B) ∧ u.cell? ⟨w.heap.size, 2, none⟩ = some (.int .i64 F) ∧ u.cell? ⟨w.heap.size, 3, none⟩ = some (.int .i64 R) ∧ u.cell? ⟨w.heap.size, 4, none⟩ = some (.int .i64 O) ∧ u.cell? ⟨w.heap.size + 1, 0, none⟩ = some (.int .i64 n) ∧ u.cell? ⟨w.heap.size + 1, 1, none⟩ = some (.int .i64 d) ∧ u.cell? ⟨w1.heap.size, 0, none⟩ = some (.int .i64 x) ∧ u.cell? ⟨w1.heap.size, 1, none⟩ = some (.int .i64 y) ∧ u.cell? ⟨w2.heap.size, 0, none⟩ = some (.int .i64 x) ∧ u.cell? ⟨w2.heap.size, 1, none⟩ = some (.int .i64 y) ∧ zw3.heap.size ≤ u.heap.size ∧ Below w.heap.size w u) → Below u.heap.size u u' → (u'.cell? ⟨w.heap.size, 0, none⟩ = some (.int .i64 K) ∧ u'.cell? ⟨w.heap.size, 1, none⟩ = some (.int .i64 B) ∧ u'.cell? ⟨w.heap.size, 2, none⟩ = some (.int .i64 F) ∧ u'.cell? ⟨w.heap.size, 3, none⟩ = some (.int .i64 R) ∧ u'.cell? ⟨w.heap.size, 4, none⟩ = some (.int .i64 O) ∧ u'.cell? ⟨w.heap.size + 1, 0, none⟩ = some (.int .i64 n) ∧ u'.cell? ⟨w.heap.size + 1, 1, none⟩ = some (.int .i64 d) ∧ u'.cell? ⟨w1.heap.size, 0, none⟩ = some (.int .i64 x) ∧ u'.cell? ⟨w1.heap.size, 1, none⟩ = some (.int .i64 y) ∧ u'.cell? ⟨w2.heap.size, 0, none⟩ = some (.int .i64 x) ∧ u'.cell? ⟨w2.heap.size, 1, none⟩ = some (.int .i64 y) ∧ zw3.heap.size ≤ u'.heap.size ∧ Below w.heap.size w u')) := Lib.hid (fun u u' h hb => ⟨Rg.keep hb (Nat.lt_of_lt_of_le lt h.2.2.2.2.2.2.2.2.2.2.2.1) h.1, Rg.keep hb (Nat.lt_of_lt_of_le lt h.2.2.2.2.2.2.2.2.2.2.2.1) h.2.1, Rg.keep hb (Nat.lt_of_lt_of_le lt h.2.2.2.2.2.2.2.2.2.2.2.1) h.2.2.1, Rg.keep hb (Nat.lt_of_lt_of_le lt h.2.2.2.2.2.2.2.2.2.2.2.1) h.2.2.2.1, Rg.keep hb (Nat.lt_of_lt_of_le lt h.2.2.2.2.2.2.2.2.2.2.2.1) h.2.2.2.2.1, Rg.keep hb (Nat.lt_of_lt_of_le la h.2.2.2.2.2.2.2.2.2.2.2.1) h.2.2.2.2.2.1, Rg.keep hb (Nat.lt_of_lt_of_le la h.2.2.2.2.2.2.2.2.2.2.2.1) h.2.2.2.2.2.2.1, Rg.keep hb (Nat.lt_of_lt_of_le lb h.2.2.2.2.2.2.2.2.2.2.2.1) h.2.2.2.2.2.2.2.1, Rg.keep hb (Nat.lt_of_lt_of_le lb h.2.2.2.2.2.2.2.2.2.2.2.1) h.2.2.2.2.2.2.2.2.1, Rg.keep hb (Nat.lt_of_lt_of_le lc h.2.2.2.2.2.2.2.2.2.2.2.1) h.2.2.2.2.2.2.2.2.2.1, Rg.keep hb (Nat.lt_of_lt_of_le lc h.2.2.2.2.2.2.2.2.2.2.2.1) h.2.2.2.2.2.2.2.2.2.2.1, Nat.le_trans h.2.2.2.2.2.2.2.2.2.2.2.1 hb.size, h.2.2.2.2.2.2.2.2.2.2.2.2.trans (hb.mono h.2.2.2.2.2.2.2.2.2.2.2.2.size)⟩)
    refine wp_region_held_drew (S := fun w' => w'.cell? ⟨w.heap.size, 0, none⟩ = some (.int .i64 K) ∧ w'.cell? ⟨w.heap.size, 1, none⟩ = some (.int .i64 B) ∧ w'.cell? ⟨w.heap.size, 2, none⟩ = some (.int .i64 F) ∧ w'.cell? ⟨w.heap.size, 3, none⟩ = some (.int .i64 R) ∧ w'.cell? ⟨w.heap.size, 4, none⟩ = some (.int .i64 O) ∧ w'.cell? ⟨w.heap.size + 1, 0, none⟩ = some (.int .i64 n) ∧ w'.cell? ⟨w.heap.size + 1, 1, none⟩ = some (.int .i64 d) ∧ w'.cell? ⟨w1.heap.size, 0, none⟩ = some (.int .i64 x) ∧ w'.cell? ⟨w1.heap.size, 1, none⟩ = some (.int .i64 y) ∧ w'.cell? ⟨w2.heap.size, 0, none⟩ = some (.int .i64 x) ∧ w'.cell? ⟨w2.heap.size, 1, none⟩ = some (.int .i64 y) ∧ zw3.heap.size ≤ w'.heap.size ∧ Below w.heap.size w w') (by kernel_rfl) (HS.out _ _ hz (Below.drew (Below.refl _ _))) (fun hHeld => ?_)
    refine Rg.take (i := 0) (v := ?_) rfl (by kernel_rfl) (by kernel_rfl) (by kernel_rfl) (fun _ _ _ h => h) (Or.inl ⟨by kernel_rfl, ?_⟩) (by assumption) ?_
    rotate_left
    · ((intro w hSw; (try dsimp only at hSw); go_simp) <;> with_reducible rfl)
    try simp only [Act.put, List.setIfInBounds_toArray, List.set_cons_zero, List.set_cons_succ]
    refine Rg.take (i := 1) (v := ?_) rfl (by kernel_rfl) (by kernel_rfl) (by kernel_rfl) (fun _ _ _ h => h) (Or.inl ⟨by kernel_rfl, ?_⟩) (by assumption) ?_
    rotate_left
    · ((intro w hSw; (try dsimp only at hSw); go_simp) <;> with_reducible rfl)
    try simp only [Act.put, List.setIfInBounds_toArray, List.set_cons_zero, List.set_cons_succ]
    refine Rg.take (i := 3) (v := ?_) rfl (by kernel_rfl) (by kernel_rfl) (by kernel_rfl) (fun _ _ _ h => h) (Or.inl ⟨by kernel_rfl, ?_⟩) (by assumption) ?_
    rotate_left
    · ((intro w hSw; (try dsimp only at hSw); go_simp) <;> with_reducible rfl)
    try simp only [Act.put, List.setIfInBounds_toArray, List.set_cons_zero, List.set_cons_succ]
    refine Rg.take (i := 4) (v := ?_) rfl (by kernel_rfl) (by kernel_rfl) (by kernel_rfl) (fun _ _ _ h => h) (Or.inl ⟨by kernel_rfl, ?_⟩) (by assumption) ?_
    rotate_left
    · ((intro w hSw; (try dsimp only at hSw); go_simp) <;> with_reducible rfl)
    try simp only [Act.put, List.setIfInBounds_toArray, List.set_cons_zero, List.set_cons_succ]
    refine Rg.one (i := 2) (by kernel_rfl) rfl (fun KK hK => ?_)
    rw [if_pos (by kernel_rfl)]
    go_simp
    ((with_reducible refine (CF.out _ (LAh.out.below hHeld.2.2.2.2.2.2.2.2.2.2.2.2)).mono ?_); rintro e u ⟨rfl, hb⟩)
    have hNew := HS.out _ _ hHeld hb
    first | (refine hK.out _ _ hNew (fun _ => ?_)) | (go_wp2_with fail; refine hK.out _ _ hNew (fun _ => ?_))
    clear hK KK hHeld hb
    have hHeld := hNew
    clear hNew
    refine Rg.one (i := 5) (by kernel_rfl) rfl (fun KK hK => ?_)
    rw [if_pos (by kernel_rfl)]
    go_simp
    ((with_reducible refine (RF.out _).mono ?_); rintro e u ⟨rfl, hb⟩)
    have hNew := HS.out _ _ hHeld hb
    first | (refine hK.out _ _ hNew (fun _ => ?_)) | (go_wp2_with fail; refine hK.out _ _ hNew (fun _ => ?_))
    clear hK KK hHeld hb
    have hHeld := hNew
    clear hNew
    refine Rg.take (i := 6) (v := ?_) rfl (by kernel_rfl) (by kernel_rfl) (by kernel_rfl) (fun _ _ _ h => h) (Or.inl ⟨by kernel_rfl, ?_⟩) (by assumption) ?_
    rotate_left
    · ((intro w hSw; (try dsimp only at hSw); go_simp) <;> with_reducible rfl)
    try simp only [Act.put, List.setIfInBounds_toArray, List.set_cons_zero, List.set_cons_succ]
    refine Rg.take (i := 7) (v := ?_) rfl (by kernel_rfl) (by kernel_rfl) (by kernel_rfl) (fun _ _ _ h => h) (Or.inl ⟨by kernel_rfl, ?_⟩) (by assumption) ?_
    rotate_left
    · ((intro w hSw; (try dsimp only at hSw); go_simp) <;> with_reducible rfl)
    try simp only [Act.put, List.setIfInBounds_toArray, List.set_cons_zero, List.set_cons_succ]
    refine Rg.take (i := 8) (v := ?_) rfl (by kernel_rfl) (by kernel_rfl) (by kernel_rfl) (fun _ _ _ h => h) (Or.inl ⟨by kernel_rfl, ?_⟩) (by assumption) ?_
    rotate_left
    · ((intro w hSw; (try dsimp only at hSw); go_simp) <;> with_reducible rfl)
    try simp only [Act.put, List.setIfInBounds_toArray, List.set_cons_zero, List.set_cons_succ]
    refine Rg.take (i := 9) (v := ?_) rfl (by kernel_rfl) (by kernel_rfl) (by kernel_rfl) (fun _ _ _ h => h) (Or.inl ⟨by kernel_rfl, ?_⟩) (by assumption) ?_
    rotate_left
    · ((intro w hSw; (try dsimp only at hSw); go_simp) <;> with_reducible rfl)
    try simp only [Act.put, List.setIfInBounds_toArray, List.set_cons_zero, List.set_cons_succ]
    refine Rg.take (i := 10) (v := ?_) rfl (by kernel_rfl) (by kernel_rfl) (by kernel_rfl) (fun _ _ _ h => h) (Or.inl ⟨by kernel_rfl, ?_⟩) (by assumption) ?_
    rotate_left
    · ((intro w hSw; (try dsimp only at hSw); go_simp) <;> with_reducible rfl)
    try simp only [Act.put, List.setIfInBounds_toArray, List.set_cons_zero, List.set_cons_succ]
    refine Rg.take (i := 11) (v := ?_) rfl (by kernel_rfl) (by kernel_rfl) (by kernel_rfl) (fun _ _ _ h => h) (Or.inl ⟨by kernel_rfl, ?_⟩) (by assumption) ?_
    rotate_left
    · ((intro w hSw; (try dsimp only at hSw); go_simp) <;> with_reducible rfl)
    try simp only [Act.put, List.setIfInBounds_toArray, List.set_cons_zero, List.set_cons_succ]
    refine Rg.take (i := 12) (v := ?_) rfl (by kernel_rfl) (by kernel_rfl) (by kernel_rfl) (fun _ _ _ h => h) (Or.inl ⟨by kernel_rfl, ?_⟩) (by assumption) ?_
    rotate_left
    · ((intro w hSw; (try dsimp only at hSw); go_simp) <;> with_reducible rfl)
    try simp only [Act.put, List.setIfInBounds_toArray, List.set_cons_zero, List.set_cons_succ]
    refine Rg.take (i := 13) (v := ?_) rfl (by kernel_rfl) (by kernel_rfl) (by kernel_rfl) (fun _ _ _ h => h) (Or.inl ⟨by kernel_rfl, ?_⟩) (by assumption) ?_
    rotate_left
    · ((intro w hSw; (try dsimp only at hSw); go_simp) <;> with_reducible rfl)
    try simp only [Act.put, List.setIfInBounds_toArray, List.set_cons_zero, List.set_cons_succ]
    refine Rg.take (i := 14) (v := ?_) rfl (by kernel_rfl) (by kernel_rfl) (by kernel_rfl) (fun _ _ _ h => h) (Or.inl ⟨by kernel_rfl, ?_⟩) (by assumption) ?_
    rotate_left
    · ((intro w hSw; (try dsimp only at hSw); go_simp) <;> with_reducible rfl)
    try simp only [Act.put, List.setIfInBounds_toArray, List.set_cons_zero, List.set_cons_succ]
    refine Rg.take (i := 15) (v := ?_) rfl (by kernel_rfl) (by kernel_rfl) (by kernel_rfl) (fun _ _ _ h => h) (Or.inl ⟨by kernel_rfl, ?_⟩) (by assumption) ?_
    rotate_left
    · ((intro w hSw; (try dsimp only at hSw); go_simp) <;> with_reducible rfl)
    try simp only [Act.put, List.setIfInBounds_toArray, List.set_cons_zero, List.set_cons_succ]
    refine Rg.take (i := 16) (v := ?_) rfl (by kernel_rfl) (by kernel_rfl) (by kernel_rfl) (fun _ _ _ h => h) (Or.inl ⟨by kernel_rfl, ?_⟩) (by assumption) ?_
    rotate_left
    · ((intro w hSw; (try dsimp only at hSw); go_simp) <;> with_reducible rfl)
    try simp only [Act.put, List.setIfInBounds_toArray, List.set_cons_zero, List.set_cons_succ]
    refine Rg.take (i := 17) (v := ?_) rfl (by kernel_rfl) (by kernel_rfl) (by kernel_rfl) (fun _ _ _ h => h) (Or.inl ⟨by kernel_rfl, ?_⟩) (by assumption) ?_
    rotate_left
    · ((intro w hSw; (try dsimp only at hSw); go_simp) <;> with_reducible rfl)
    try simp only [Act.put, List.setIfInBounds_toArray, List.set_cons_zero, List.set_cons_succ]
    refine Rg.one (i := 18) (by kernel_rfl) rfl (fun KK hK => ?_)
    rw [if_pos (by kernel_rfl)]
    go_simp
    ((with_reducible refine (EX.out _).mono ?_); rintro e u ⟨rfl, hb⟩)
    have hNew := HS.out _ _ hHeld hb
    first | (refine hK.out _ _ hNew (fun _ => ?_)) | (go_wp2_with fail; refine hK.out _ _ hNew (fun _ => ?_))
    clear hK KK hHeld hb
    have hHeld := hNew
    clear hNew
    refine Rg.take (i := 19) (v := ?_) rfl (by kernel_rfl) (by kernel_rfl) (by kernel_rfl) (fun _ _ _ h => h) (Or.inl ⟨by kernel_rfl, ?_⟩) (by assumption) ?_
    rotate_left
    · ((intro w hSw; (try dsimp only at hSw); go_simp) <;> with_reducible rfl)
    try simp only [Act.put, List.setIfInBounds_toArray, List.set_cons_zero, List.set_cons_succ]
    refine Rg.take (i := 20) (v := ?_) rfl (by kernel_rfl) (by kernel_rfl) (by kernel_rfl) (fun _ _ _ h => h) (Or.inl ⟨by kernel_rfl, ?_⟩) (by assumption) ?_
    rotate_left
    · ((intro w hSw; (try dsimp only at hSw); go_simp) <;> with_reducible rfl)
    try simp only [Act.put, List.setIfInBounds_toArray, List.set_cons_zero, List.set_cons_succ]
    refine wpAnyH_done (by kernel_rfl) ?_ _
    obtain ⟨t0, t1, t2, t3, t4, a0, a1, b0, b1, c0, c1, hsz, K4⟩ := hHeld
    have lt := Nat.lt_of_lt_of_le lt hsz
    have la := Nat.lt_of_lt_of_le la hsz
    have lb := Nat.lt_of_lt_of_le lb hsz
    have lc := Nat.lt_of_lt_of_le lc hsz
    clear hsz hz
    go_wp2
    go_ret
    exact ⟨rfl, K4⟩
end Go.Proofs.YtikcinkbkakkmaaGreatDoor.Va
