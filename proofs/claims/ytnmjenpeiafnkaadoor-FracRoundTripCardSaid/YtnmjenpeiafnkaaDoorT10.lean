/- The laws on texts. -/
import Derived.Test.YtnmjenpeiafnkaaDoorT9
import Derived.Test.YtnmjenpeiafnkaaDoorExam
import Derived.Test.YtnmjenpeiafnkaaDoorFracNew
namespace Go.Proofs.YtnmjenpeiafnkaaDoor.Tx
open Go.ChangeShapes Go.WideShapes Go.ChangeAt Go.RowKit
open Fr
set_option maxRecDepth 8000
set_option linter.unusedVariables false
set_option linter.unusedSimpArgs false

set_option maxHeartbeats 8000000 in
theorem law_fmt (n d : Int) (s : ByteArray) (w : World) (hs : s.size ≤ maxLen) (hL : LA w) : Calls Tryd.prog 7 #[.agg #[.int .i64 n, .int .i64 d], .string s] w (Ret (.bool true) w) := by
  have EX := Lib.hid fun w => examples_true w
  have LAh := Lib.hid hL
  clear hL
  by_cases h : 200 < s.size
  · have g1 : decide ((200 : Int) < s.size) = true := by simp; omega
    clear h
    go_enter Tryd.func7, Tryd.ntmps7
    go_wp2_with fail
    refine (EX.out _).mono ?_
    rintro e w1 ⟨rfl, hb⟩
    have L : Below w.heap.size w w1 := ((Below.refl _ _).alloc (by simp <;> omega) _).trans (hb.mono (by simp <;> omega))
    have K1 : Below w.heap.size w w1 := L
    have la : w.heap.size < w1.heap.size := Nat.lt_of_lt_of_le (by simp <;> omega) hb.size
    have a0 : w1.cell? ⟨w.heap.size, 0, none⟩ = some (.int .i64 n) := Rg.keep hb (by simp <;> omega) (by go_cell)
    have a1 : w1.cell? ⟨w.heap.size, 1, none⟩ = some (.int .i64 d) := Rg.keep hb (by simp <;> omega) (by go_cell)
    clear hb L
    go_wp2
    go_ret
    exact ⟨rfl, K1⟩
  · have g1 : decide ((200 : Int) < s.size) = false := by simp; omega
    have CP := Lib.hid fun w h => c_parse s w (by omega) h
    have RP := Lib.hid fun w => r_parse s w hs
    have CF := Lib.hid fun w h => c_fmt n d w h
    have RF := Lib.hid fun w => r_fmt n d w
    obtain ⟨r, hr⟩ : ∃ r, psv s.data.toList = r := ⟨_, rfl⟩
    rw [hr] at CP RP
    generalize (⟨(fmv n d).toArray⟩ : ByteArray) = F at *
    clear hr h
    obtain ⟨x, y, z⟩ := r
    go_enter Tryd.func7, Tryd.ntmps7
    go_wp2_with fail
    refine (CP.out _ (LAh.out.below (by (repeat' (first | (with_reducible exact Below.refl _ _) | (with_reducible refine Below.alloc ?_ ?_ _) | (with_reducible refine Below.setCell ?_ ?_ _) | (with_reducible refine below_drewN ?_ _) | (simp; done) | omega | (simp; omega)))))).mono ?_
    rintro e w1 ⟨rfl, hb⟩
    have L : Below w.heap.size w w1 := ((Below.refl _ _).alloc (by simp <;> omega) _).trans (hb.mono (by simp <;> omega))
    have K1 : Below w.heap.size w w1 := L
    have la : w.heap.size < w1.heap.size := Nat.lt_of_lt_of_le (by simp <;> omega) hb.size
    have a0 : w1.cell? ⟨w.heap.size, 0, none⟩ = some (.int .i64 n) := Rg.keep hb (by simp <;> omega) (by go_cell)
    have a1 : w1.cell? ⟨w.heap.size, 1, none⟩ = some (.int .i64 d) := Rg.keep hb (by simp <;> omega) (by go_cell)
    clear hb L
    go_wp2_with fail
    refine (RP.out _).mono ?_
    rintro e w2 ⟨rfl, hb⟩
    have L : Below w1.heap.size w1 w2 := ((Below.refl _ _).alloc (by simp <;> omega) _).trans (hb.mono (by simp <;> omega))
    have K2 : Below w.heap.size w w2 := K1.trans (L.mono K1.size)
    have lb : w1.heap.size < w2.heap.size := Nat.lt_of_lt_of_le (by simp <;> omega) hb.size
    have b0 : w2.cell? ⟨w1.heap.size, 0, none⟩ = some (.int .i64 x) := Rg.keep hb (by simp <;> omega) (by go_cell)
    have b1 : w2.cell? ⟨w1.heap.size, 1, none⟩ = some (.int .i64 y) := Rg.keep hb (by simp <;> omega) (by go_cell)
    have a0 := Rg.keep L la a0
    have a1 := Rg.keep L la a1
    have la := Nat.lt_of_lt_of_le la L.size
    clear hb L
    go_wp2_with fail
    obtain ⟨zw3, hzw⟩ : ∃ zw3, zw3 = (w2.alloc (.cells #[.int .i64 x, .int .i64 y] 23)) := ⟨_, rfl⟩
    have hb : Below (w2.alloc (.cells #[.int .i64 x, .int .i64 y] 23)).heap.size (w2.alloc (.cells #[.int .i64 x, .int .i64 y] 23)) zw3 := by rw [hzw]; exact Below.refl _ _
    rw [← hzw]
    clear hzw
    have L : Below w2.heap.size w2 zw3 := ((Below.refl _ _).alloc (by simp <;> omega) _).trans (hb.mono (by simp <;> omega))
    have K3 : Below w.heap.size w zw3 := K2.trans (L.mono K2.size)
    have lc : w2.heap.size < zw3.heap.size := Nat.lt_of_lt_of_le (by simp <;> omega) hb.size
    have c0 : zw3.cell? ⟨w2.heap.size, 0, none⟩ = some (.int .i64 x) := Rg.keep hb (by simp <;> omega) (by go_cell)
    have c1 : zw3.cell? ⟨w2.heap.size, 1, none⟩ = some (.int .i64 y) := Rg.keep hb (by simp <;> omega) (by go_cell)
    have a0 := Rg.keep L la a0
    have a1 := Rg.keep L la a1
    have b0 := Rg.keep L lb b0
    have b1 := Rg.keep L lb b1
    have la := Nat.lt_of_lt_of_le la L.size
    have lb := Nat.lt_of_lt_of_le lb L.size
    clear hb L
    go_wp2_with fail
    have hz : zw3.cell? ⟨w.heap.size, 0, none⟩ = some (.int .i64 n) ∧ zw3.cell? ⟨w.heap.size, 1, none⟩ = some (.int .i64 d) ∧ zw3.cell? ⟨w1.heap.size, 0, none⟩ = some (.int .i64 x) ∧ zw3.cell? ⟨w1.heap.size, 1, none⟩ = some (.int .i64 y) ∧ zw3.cell? ⟨w2.heap.size, 0, none⟩ = some (.int .i64 x) ∧ zw3.cell? ⟨w2.heap.size, 1, none⟩ = some (.int .i64 y) ∧ zw3.heap.size ≤ zw3.heap.size ∧ Below w.heap.size w zw3 := ⟨a0, a1, b0, b1, c0, c1, Nat.le_refl _, K3⟩
    clear a0 a1 b0 b1 c0 c1 K3
    have HS : Hid (∀ u u' : World, (u.cell? ⟨w.heap.size, 0, none⟩ = some (.int .i64 n) ∧ u.cell? ⟨w.heap.size, 1, none⟩ = some (.int .i64 d) ∧ u.cell? ⟨w1.heap.size, 0, none⟩ = some (.int .i64 x) ∧ u.cell? ⟨w1.heap.size, 1, none⟩ = some (.int .i64 y) ∧ u.cell? ⟨w2.heap.size, 0, none⟩ = some (.int .i64 x) ∧ u.cell? ⟨w2.heap.size, 1, none⟩ = some (.int .i64 y) ∧ zw3.heap.size ≤ u.heap.size ∧ Below w.heap.size w u) → Below u.heap.size u u' → (u'.cell? ⟨w.heap.size, 0, none⟩ = some (.int .i64 n) ∧ u'.cell? ⟨w.heap.size, 1, none⟩ = some (.int .i64 d) ∧ u'.cell? ⟨w1.heap.size, 0, none⟩ = some (.int .i64 x) ∧ u'.cell? ⟨w1.heap.size, 1, none⟩ = some (.int .i64 y) ∧ u'.cell? ⟨w2.heap.size, 0, none⟩ = some (.int .i64 x) ∧ u'.cell? ⟨w2.heap.size, 1, none⟩ = some (.int .i64 y) ∧ zw3.heap.size ≤ u'.heap.size ∧ Below w.heap.size w u')) := Lib.hid (fun u u' h hb => ⟨Rg.keep hb (Nat.lt_of_lt_of_le la h.2.2.2.2.2.2.1) h.1, Rg.keep hb (Nat.lt_of_lt_of_le la h.2.2.2.2.2.2.1) h.2.1, Rg.keep hb (Nat.lt_of_lt_of_le lb h.2.2.2.2.2.2.1) h.2.2.1, Rg.keep hb (Nat.lt_of_lt_of_le lb h.2.2.2.2.2.2.1) h.2.2.2.1, Rg.keep hb (Nat.lt_of_lt_of_le lc h.2.2.2.2.2.2.1) h.2.2.2.2.1, Rg.keep hb (Nat.lt_of_lt_of_le lc h.2.2.2.2.2.2.1) h.2.2.2.2.2.1, Nat.le_trans h.2.2.2.2.2.2.1 hb.size, h.2.2.2.2.2.2.2.trans (hb.mono h.2.2.2.2.2.2.2.size)⟩)
    refine wp_region_held_drew (S := fun w' => w'.cell? ⟨w.heap.size, 0, none⟩ = some (.int .i64 n) ∧ w'.cell? ⟨w.heap.size, 1, none⟩ = some (.int .i64 d) ∧ w'.cell? ⟨w1.heap.size, 0, none⟩ = some (.int .i64 x) ∧ w'.cell? ⟨w1.heap.size, 1, none⟩ = some (.int .i64 y) ∧ w'.cell? ⟨w2.heap.size, 0, none⟩ = some (.int .i64 x) ∧ w'.cell? ⟨w2.heap.size, 1, none⟩ = some (.int .i64 y) ∧ zw3.heap.size ≤ w'.heap.size ∧ Below w.heap.size w w') (by kernel_rfl) (HS.out _ _ hz (Below.drew (Below.refl _ _))) (fun hHeld => ?_)
    refine Rg.take (i := 0) (v := ?_) rfl (by kernel_rfl) (by kernel_rfl) (by kernel_rfl) (fun _ _ _ h => h) (Or.inl ⟨by kernel_rfl, ?_⟩) (by assumption) ?_
    rotate_left
    · ((intro w hSw; (try dsimp only at hSw); go_simp) <;> with_reducible rfl)
    try simp only [Act.put, List.setIfInBounds_toArray, List.set_cons_zero, List.set_cons_succ]
    refine Rg.take (i := 2) (v := ?_) rfl (by kernel_rfl) (by kernel_rfl) (by kernel_rfl) (fun _ _ _ h => h) (Or.inl ⟨by kernel_rfl, ?_⟩) (by assumption) ?_
    rotate_left
    · ((intro w hSw; (try dsimp only at hSw); go_simp) <;> with_reducible rfl)
    try simp only [Act.put, List.setIfInBounds_toArray, List.set_cons_zero, List.set_cons_succ]
    refine Rg.one (i := 1) (by kernel_rfl) rfl (fun KK hK => ?_)
    rw [if_pos (by kernel_rfl)]
    go_simp
    ((with_reducible refine (CF.out _ (LAh.out.below hHeld.2.2.2.2.2.2.2)).mono ?_); rintro e u ⟨rfl, hb⟩)
    have hNew := HS.out _ _ hHeld hb
    first | (refine hK.out _ _ hNew (fun _ => ?_)) | (go_wp2_with fail; refine hK.out _ _ hNew (fun _ => ?_))
    clear hK KK hHeld hb
    have hHeld := hNew
    clear hNew
    refine Rg.one (i := 3) (by kernel_rfl) rfl (fun KK hK => ?_)
    rw [if_pos (by kernel_rfl)]
    go_simp
    ((with_reducible refine (RF.out _).mono ?_); rintro e u ⟨rfl, hb⟩)
    have hNew := HS.out _ _ hHeld hb
    first | (refine hK.out _ _ hNew (fun _ => ?_)) | (go_wp2_with fail; refine hK.out _ _ hNew (fun _ => ?_))
    clear hK KK hHeld hb
    have hHeld := hNew
    clear hNew
    refine Rg.take (i := 4) (v := ?_) rfl (by kernel_rfl) (by kernel_rfl) (by kernel_rfl) (fun _ _ _ h => h) (Or.inl ⟨by kernel_rfl, ?_⟩) (by assumption) ?_
    rotate_left
    · ((intro w hSw; (try dsimp only at hSw); go_simp) <;> with_reducible rfl)
    try simp only [Act.put, List.setIfInBounds_toArray, List.set_cons_zero, List.set_cons_succ]
    refine Rg.take (i := 5) (v := ?_) rfl (by kernel_rfl) (by kernel_rfl) (by kernel_rfl) (fun _ _ _ h => h) (Or.inl ⟨by kernel_rfl, ?_⟩) (by assumption) ?_
    rotate_left
    · ((intro w hSw; (try dsimp only at hSw); go_simp) <;> with_reducible rfl)
    try simp only [Act.put, List.setIfInBounds_toArray, List.set_cons_zero, List.set_cons_succ]
    refine Rg.take (i := 6) (v := ?_) rfl (by kernel_rfl) (by kernel_rfl) (by kernel_rfl) (fun _ _ _ h => h) (Or.inl ⟨by kernel_rfl, ?_⟩) (by assumption) ?_
    rotate_left
    · ((intro w hSw; (try dsimp only at hSw); go_simp) <;> with_reducible rfl)
    try simp only [Act.put, List.setIfInBounds_toArray, List.set_cons_zero, List.set_cons_succ]
    refine Rg.take (i := 7) (v := ?_) rfl (by kernel_rfl) (by kernel_rfl) (by kernel_rfl) (fun _ _ _ h => h) (Or.inl ⟨by kernel_rfl, ?_⟩) (by assumption) ?_
    rotate_left
    · ((intro w hSw; (try dsimp only at hSw); go_simp) <;> with_reducible rfl)
    try simp only [Act.put, List.setIfInBounds_toArray, List.set_cons_zero, List.set_cons_succ]
    refine Rg.take (i := 8) (v := ?_) rfl (by kernel_rfl) (by kernel_rfl) (by kernel_rfl) (fun _ _ _ h => h) (Or.inl ⟨by kernel_rfl, ?_⟩) (by assumption) ?_
    rotate_left
    · ((intro w hSw; (try dsimp only at hSw); go_simp) <;> with_reducible rfl)
    try simp only [Act.put, List.setIfInBounds_toArray, List.set_cons_zero, List.set_cons_succ]
    refine Rg.take (i := 9) (v := ?_) rfl (by kernel_rfl) (by kernel_rfl) (by kernel_rfl) (fun _ _ _ h => h) (Or.inl ⟨by kernel_rfl, ?_⟩) (by assumption) ?_
    rotate_left
    · ((intro w hSw; (try dsimp only at hSw); go_simp) <;> with_reducible rfl)
    try simp only [Act.put, List.setIfInBounds_toArray, List.set_cons_zero, List.set_cons_succ]
    refine Rg.take (i := 10) (v := ?_) rfl (by kernel_rfl) (by kernel_rfl) (by kernel_rfl) (fun _ _ _ h => h) (Or.inl ⟨by kernel_rfl, ?_⟩) (by assumption) ?_
    rotate_left
    · ((intro w hSw; (try dsimp only at hSw); go_simp) <;> with_reducible rfl)
    try simp only [Act.put, List.setIfInBounds_toArray, List.set_cons_zero, List.set_cons_succ]
    refine Rg.take (i := 11) (v := ?_) rfl (by kernel_rfl) (by kernel_rfl) (by kernel_rfl) (fun _ _ _ h => h) (Or.inl ⟨by kernel_rfl, ?_⟩) (by assumption) ?_
    rotate_left
    · ((intro w hSw; (try dsimp only at hSw); go_simp) <;> with_reducible rfl)
    try simp only [Act.put, List.setIfInBounds_toArray, List.set_cons_zero, List.set_cons_succ]
    refine Rg.take (i := 12) (v := ?_) rfl (by kernel_rfl) (by kernel_rfl) (by kernel_rfl) (fun _ _ _ h => h) (Or.inl ⟨by kernel_rfl, ?_⟩) (by assumption) ?_
    rotate_left
    · ((intro w hSw; (try dsimp only at hSw); go_simp) <;> with_reducible rfl)
    try simp only [Act.put, List.setIfInBounds_toArray, List.set_cons_zero, List.set_cons_succ]
    refine Rg.take (i := 13) (v := ?_) rfl (by kernel_rfl) (by kernel_rfl) (by kernel_rfl) (fun _ _ _ h => h) (Or.inl ⟨by kernel_rfl, ?_⟩) (by assumption) ?_
    rotate_left
    · ((intro w hSw; (try dsimp only at hSw); go_simp) <;> with_reducible rfl)
    try simp only [Act.put, List.setIfInBounds_toArray, List.set_cons_zero, List.set_cons_succ]
    refine Rg.take (i := 14) (v := ?_) rfl (by kernel_rfl) (by kernel_rfl) (by kernel_rfl) (fun _ _ _ h => h) (Or.inl ⟨by kernel_rfl, ?_⟩) (by assumption) ?_
    rotate_left
    · ((intro w hSw; (try dsimp only at hSw); go_simp) <;> with_reducible rfl)
    try simp only [Act.put, List.setIfInBounds_toArray, List.set_cons_zero, List.set_cons_succ]
    refine Rg.take (i := 15) (v := ?_) rfl (by kernel_rfl) (by kernel_rfl) (by kernel_rfl) (fun _ _ _ h => h) (Or.inl ⟨by kernel_rfl, ?_⟩) (by assumption) ?_
    rotate_left
    · ((intro w hSw; (try dsimp only at hSw); go_simp) <;> with_reducible rfl)
    try simp only [Act.put, List.setIfInBounds_toArray, List.set_cons_zero, List.set_cons_succ]
    refine Rg.one (i := 16) (by kernel_rfl) rfl (fun KK hK => ?_)
    rw [if_pos (by kernel_rfl)]
    go_simp
    ((with_reducible refine (EX.out _).mono ?_); rintro e u ⟨rfl, hb⟩)
    have hNew := HS.out _ _ hHeld hb
    first | (refine hK.out _ _ hNew (fun _ => ?_)) | (go_wp2_with fail; refine hK.out _ _ hNew (fun _ => ?_))
    clear hK KK hHeld hb
    have hHeld := hNew
    clear hNew
    refine Rg.take (i := 17) (v := ?_) rfl (by kernel_rfl) (by kernel_rfl) (by kernel_rfl) (fun _ _ _ h => h) (Or.inl ⟨by kernel_rfl, ?_⟩) (by assumption) ?_
    rotate_left
    · ((intro w hSw; (try dsimp only at hSw); go_simp) <;> with_reducible rfl)
    try simp only [Act.put, List.setIfInBounds_toArray, List.set_cons_zero, List.set_cons_succ]
    refine Rg.take (i := 18) (v := ?_) rfl (by kernel_rfl) (by kernel_rfl) (by kernel_rfl) (fun _ _ _ h => h) (Or.inl ⟨by kernel_rfl, ?_⟩) (by assumption) ?_
    rotate_left
    · ((intro w hSw; (try dsimp only at hSw); go_simp) <;> with_reducible rfl)
    try simp only [Act.put, List.setIfInBounds_toArray, List.set_cons_zero, List.set_cons_succ]
    refine wpAnyH_done (by kernel_rfl) ?_ _
    obtain ⟨a0, a1, b0, b1, c0, c1, hsz, K4⟩ := hHeld
    have la := Nat.lt_of_lt_of_le la hsz
    have lb := Nat.lt_of_lt_of_le lb hsz
    have lc := Nat.lt_of_lt_of_le lc hsz
    clear hsz hz
    go_wp2
    go_ret
    exact ⟨rfl, K4⟩

set_option maxRecDepth 100000 in
set_option maxHeartbeats 8000000 in
theorem law_rt (n d : Int) (s : ByteArray) (w : World) (n0 : -9223372036854775808 ≤ n) (n1 : n ≤ 9223372036854775807) (d0 : -9223372036854775808 ≤ d) (d1 : d ≤ 9223372036854775807) (hL : LA w) : Calls Tryd.prog 8 #[.int .i64 n, .int .i64 d, .string s] w (Ret (.bool true) w) := by
  have EX := Lib.hid fun w => examples_true w
  have LAh := Lib.hid hL
  clear hL
  by_cases h : 200 < s.size
  · have g1 : decide ((200 : Int) < s.size) = true := by simp; omega
    clear h
    go_enter Tryd.func8, Tryd.ntmps8
    go_wp2_with fail
    refine (EX.out _).mono ?_
    rintro e w1 ⟨rfl, hb⟩
    have L : Below w.heap.size w w1 := (Below.refl _ _).trans (hb.mono (by simp <;> omega))
    have K1 : Below w.heap.size w w1 := L
    clear hb L
    go_wp2
    go_ret
    exact ⟨rfl, K1⟩
  have g1 : decide ((200 : Int) < s.size) = false := by simp; omega
  have NW := Lib.hid fun w => new_any n d w n0 n1 d0 d1
  have CP := Lib.hid fun w h => c_parse s w (by omega) h
  have hnv := new_valid n d
  have hfp := @format_parse s.data.toList (psv s.data.toList).1 (psv s.data.toList).2.1
  obtain ⟨r, hr⟩ : ∃ r, psv s.data.toList = r := ⟨_, rfl⟩
  rw [hr] at CP hfp
  obtain ⟨x, y, z⟩ := r
  dsimp only at hfp
  generalize newN n d = N at *
  generalize newD n d = D at *
  generalize newE n d = E at *
  have HCG : Hid (z = 0 → ∀ w, LA w → Calls Tryd.prog 37 #[.agg #[.int .i64 x, .int .i64 y]] w (Ret (.string s) w)) := Lib.hid fun hz w h => by
    have hl := (hfp (by rw [hz])).2
    have := c_fmt x y w h
    rw [hl, show (⟨s.data.toList.toArray⟩ : ByteArray) = s from by apply ByteArray.ext; simp] at this
    exact this
  by_cases hE : E = 0
  · have hv := hnv hE
    have CF := Lib.hid fun w h => c_fmt N D w h
    have CB := Lib.hid fun w h => c_parse ⟨(fmv N D).toArray⟩ w (by
      have : (fmv N D).length ≤ 23 := by
        obtain ⟨v0, v1, v2, v3, _⟩ := vld_parts hv
        unfold fmv
        rw [if_neg (by rw [hv]; decide)]
        have l1 := itoa_len v2 v3
        have l2 := itoa_len (n := D) (by omega) v1
        split
        · omega
        · rw [List.length_append, List.length_cons]; omega
      rw [arr_size]; omega) h
    rw [show psv (⟨(fmv N D).toArray⟩ : ByteArray).data.toList = (N, D, 0) from by have := parse_format hv; simpa using this] at CB
    generalize (⟨(fmv N D).toArray⟩ : ByteArray) = F at *
    have gE : (E == 0) = true := by simpa using hE
    clear hv hnv hfp hr hE h n0 n1 d0 d1
    by_cases hz : z = 0
    · have CG := Lib.hid (HCG.out hz)
      have gz : (z != 0) = false := by simpa using hz
      clear HCG hz
      go_enter Tryd.func8, Tryd.ntmps8
      go_wp2_with fail
      refine (NW.out _).mono ?_
      rintro e w1 ⟨rfl, hb⟩
      have L : Below w.heap.size w w1 := (Below.refl _ _).trans (hb.mono (by simp <;> omega))
      have K1 : Below w.heap.size w w1 := L
      clear hb L
      go_wp2_with fail
      refine (CF.out _ (LAh.out.below (by (repeat' (first | (with_reducible exact Below.refl _ _) | (with_reducible exact K1) | (with_reducible exact K1.size) | (with_reducible refine Below.alloc ?_ ?_ _) | (with_reducible refine Below.setCell ?_ ?_ _) | (with_reducible refine below_drewN ?_ _) | (simp; done) | omega | (simp; omega)))))).mono ?_
      rintro e w2 ⟨rfl, hb⟩
      have L : Below w1.heap.size w1 w2 := ((Below.refl _ _).alloc (by simp <;> omega) _).trans (hb.mono (by simp <;> omega))
      have K2 : Below w.heap.size w w2 := K1.trans (L.mono K1.size)
      have la : w1.heap.size < w2.heap.size := Nat.lt_of_lt_of_le (by simp <;> omega) hb.size
      have a0 : w2.cell? ⟨w1.heap.size, 0, none⟩ = some (.int .i64 N) := Rg.keep hb (by simp <;> omega) (by go_cell)
      have a1 : w2.cell? ⟨w1.heap.size, 1, none⟩ = some (.int .i64 D) := Rg.keep hb (by simp <;> omega) (by go_cell)
      clear hb L
      go_wp2_with fail
      refine (CB.out _ (LAh.out.below (by (repeat' (first | (with_reducible exact Below.refl _ _) | (with_reducible exact K2) | (with_reducible exact K2.size) | (with_reducible refine Below.alloc ?_ ?_ _) | (with_reducible refine Below.setCell ?_ ?_ _) | (with_reducible refine below_drewN ?_ _) | (simp; done) | omega | (simp; omega)))))).mono ?_
      rintro e w3 ⟨rfl, hb⟩
      have L : Below w2.heap.size w2 w3 := (Below.refl _ _).trans (hb.mono (by simp <;> omega))
      have K3 : Below w.heap.size w w3 := K2.trans (L.mono K2.size)
      have a0 := Rg.keep L la a0
      have a1 := Rg.keep L la a1
      have la := Nat.lt_of_lt_of_le la L.size
      clear hb L
      go_wp2_with fail
      refine (CP.out _ (LAh.out.below (by (repeat' (first | (with_reducible exact Below.refl _ _) | (with_reducible exact K3) | (with_reducible exact K3.size) | (with_reducible refine Below.alloc ?_ ?_ _) | (with_reducible refine Below.setCell ?_ ?_ _) | (with_reducible refine below_drewN ?_ _) | (simp; done) | omega | (simp; omega)))))).mono ?_
      rintro e w4 ⟨rfl, hb⟩
      have L : Below w3.heap.size w3 w4 := ((Below.refl _ _).alloc (by simp <;> omega) _).trans (hb.mono (by simp <;> omega))
      have K4 : Below w.heap.size w w4 := K3.trans (L.mono K3.size)
      have lb : w3.heap.size < w4.heap.size := Nat.lt_of_lt_of_le (by simp <;> omega) hb.size
      have b0 : w4.cell? ⟨w3.heap.size, 0, none⟩ = some (.int .i64 N) := Rg.keep hb (by simp <;> omega) (by go_cell)
      have b1 : w4.cell? ⟨w3.heap.size, 1, none⟩ = some (.int .i64 D) := Rg.keep hb (by simp <;> omega) (by go_cell)
      have a0 := Rg.keep L la a0
      have a1 := Rg.keep L la a1
      have la := Nat.lt_of_lt_of_le la L.size
      clear hb L
      go_wp2_with fail
      refine (CG.out _ (LAh.out.below (by (repeat' (first | (with_reducible exact Below.refl _ _) | (with_reducible exact K4) | (with_reducible exact K4.size) | (with_reducible refine Below.alloc ?_ ?_ _) | (with_reducible refine Below.setCell ?_ ?_ _) | (with_reducible refine below_drewN ?_ _) | (simp; done) | omega | (simp; omega)))))).mono ?_
      rintro e w5 ⟨rfl, hb⟩
      have L : Below w4.heap.size w4 w5 := ((Below.refl _ _).alloc (by simp <;> omega) _).trans (hb.mono (by simp <;> omega))
      have K5 : Below w.heap.size w w5 := K4.trans (L.mono K4.size)
      have lc : w4.heap.size < w5.heap.size := Nat.lt_of_lt_of_le (by simp <;> omega) hb.size
      have c0 : w5.cell? ⟨w4.heap.size, 0, none⟩ = some (.int .i64 x) := Rg.keep hb (by simp <;> omega) (by go_cell)
      have c1 : w5.cell? ⟨w4.heap.size, 1, none⟩ = some (.int .i64 y) := Rg.keep hb (by simp <;> omega) (by go_cell)
      have a0 := Rg.keep L la a0
      have a1 := Rg.keep L la a1
      have b0 := Rg.keep L lb b0
      have b1 := Rg.keep L lb b1
      have la := Nat.lt_of_lt_of_le la L.size
      have lb := Nat.lt_of_lt_of_le lb L.size
      clear hb L
      go_wp2_with fail
      refine (EX.out _).mono ?_
      rintro e w6 ⟨rfl, hb⟩
      have L : Below w5.heap.size w5 w6 := (Below.refl _ _).trans (hb.mono (by simp <;> omega))
      have K6 : Below w.heap.size w w6 := K5.trans (L.mono K5.size)
      have a0 := Rg.keep L la a0
      have a1 := Rg.keep L la a1
      have b0 := Rg.keep L lb b0
      have b1 := Rg.keep L lb b1
      have c0 := Rg.keep L lc c0
      have c1 := Rg.keep L lc c1
      have la := Nat.lt_of_lt_of_le la L.size
      have lb := Nat.lt_of_lt_of_le lb L.size
      have lc := Nat.lt_of_lt_of_le lc L.size
      clear hb L
      go_wp2
      go_ret
      exact ⟨rfl, K6⟩
    · have gz : (z != 0) = true := by simpa using hz
      clear HCG hz
      go_enter Tryd.func8, Tryd.ntmps8
      go_wp2_with fail
      refine (NW.out _).mono ?_
      rintro e w1 ⟨rfl, hb⟩
      have L : Below w.heap.size w w1 := (Below.refl _ _).trans (hb.mono (by simp <;> omega))
      have K1 : Below w.heap.size w w1 := L
      clear hb L
      go_wp2_with fail
      refine (CF.out _ (LAh.out.below (by (repeat' (first | (with_reducible exact Below.refl _ _) | (with_reducible exact K1) | (with_reducible exact K1.size) | (with_reducible refine Below.alloc ?_ ?_ _) | (with_reducible refine Below.setCell ?_ ?_ _) | (with_reducible refine below_drewN ?_ _) | (simp; done) | omega | (simp; omega)))))).mono ?_
      rintro e w2 ⟨rfl, hb⟩
      have L : Below w1.heap.size w1 w2 := ((Below.refl _ _).alloc (by simp <;> omega) _).trans (hb.mono (by simp <;> omega))
      have K2 : Below w.heap.size w w2 := K1.trans (L.mono K1.size)
      have la : w1.heap.size < w2.heap.size := Nat.lt_of_lt_of_le (by simp <;> omega) hb.size
      have a0 : w2.cell? ⟨w1.heap.size, 0, none⟩ = some (.int .i64 N) := Rg.keep hb (by simp <;> omega) (by go_cell)
      have a1 : w2.cell? ⟨w1.heap.size, 1, none⟩ = some (.int .i64 D) := Rg.keep hb (by simp <;> omega) (by go_cell)
      clear hb L
      go_wp2_with fail
      refine (CB.out _ (LAh.out.below (by (repeat' (first | (with_reducible exact Below.refl _ _) | (with_reducible exact K2) | (with_reducible exact K2.size) | (with_reducible refine Below.alloc ?_ ?_ _) | (with_reducible refine Below.setCell ?_ ?_ _) | (with_reducible refine below_drewN ?_ _) | (simp; done) | omega | (simp; omega)))))).mono ?_
      rintro e w3 ⟨rfl, hb⟩
      have L : Below w2.heap.size w2 w3 := (Below.refl _ _).trans (hb.mono (by simp <;> omega))
      have K3 : Below w.heap.size w w3 := K2.trans (L.mono K2.size)
      have a0 := Rg.keep L la a0
      have a1 := Rg.keep L la a1
      have la := Nat.lt_of_lt_of_le la L.size
      clear hb L
      go_wp2_with fail
      refine (CP.out _ (LAh.out.below (by (repeat' (first | (with_reducible exact Below.refl _ _) | (with_reducible exact K3) | (with_reducible exact K3.size) | (with_reducible refine Below.alloc ?_ ?_ _) | (with_reducible refine Below.setCell ?_ ?_ _) | (with_reducible refine below_drewN ?_ _) | (simp; done) | omega | (simp; omega)))))).mono ?_
      rintro e w4 ⟨rfl, hb⟩
      have L : Below w3.heap.size w3 w4 := ((Below.refl _ _).alloc (by simp <;> omega) _).trans (hb.mono (by simp <;> omega))
      have K4 : Below w.heap.size w w4 := K3.trans (L.mono K3.size)
      have lb : w3.heap.size < w4.heap.size := Nat.lt_of_lt_of_le (by simp <;> omega) hb.size
      have b0 : w4.cell? ⟨w3.heap.size, 0, none⟩ = some (.int .i64 N) := Rg.keep hb (by simp <;> omega) (by go_cell)
      have b1 : w4.cell? ⟨w3.heap.size, 1, none⟩ = some (.int .i64 D) := Rg.keep hb (by simp <;> omega) (by go_cell)
      have a0 := Rg.keep L la a0
      have a1 := Rg.keep L la a1
      have la := Nat.lt_of_lt_of_le la L.size
      clear hb L
      go_wp2_with fail
      refine (EX.out _).mono ?_
      rintro e w5 ⟨rfl, hb⟩
      have L : Below w4.heap.size w4 w5 := ((Below.refl _ _).alloc (by simp <;> omega) _).trans (hb.mono (by simp <;> omega))
      have K5 : Below w.heap.size w w5 := K4.trans (L.mono K4.size)
      have lc : w4.heap.size < w5.heap.size := Nat.lt_of_lt_of_le (by simp <;> omega) hb.size
      have c0 : w5.cell? ⟨w4.heap.size, 0, none⟩ = some (.int .i64 x) := Rg.keep hb (by simp <;> omega) (by go_cell)
      have c1 : w5.cell? ⟨w4.heap.size, 1, none⟩ = some (.int .i64 y) := Rg.keep hb (by simp <;> omega) (by go_cell)
      have a0 := Rg.keep L la a0
      have a1 := Rg.keep L la a1
      have b0 := Rg.keep L lb b0
      have b1 := Rg.keep L lb b1
      have la := Nat.lt_of_lt_of_le la L.size
      have lb := Nat.lt_of_lt_of_le lb L.size
      clear hb L
      go_wp2
      go_ret
      exact ⟨rfl, K5⟩
  · have gE : (E == 0) = false := by simpa using hE
    clear hnv hfp hr hE h n0 n1 d0 d1
    by_cases hz : z = 0
    · have CG := Lib.hid (HCG.out hz)
      have gz : (z != 0) = false := by simpa using hz
      clear HCG hz
      go_enter Tryd.func8, Tryd.ntmps8
      go_wp2_with fail
      refine (NW.out _).mono ?_
      rintro e w1 ⟨rfl, hb⟩
      have L : Below w.heap.size w w1 := (Below.refl _ _).trans (hb.mono (by simp <;> omega))
      have K1 : Below w.heap.size w w1 := L
      clear hb L
      go_wp2_with fail
      refine (CP.out _ (LAh.out.below (by (repeat' (first | (with_reducible exact Below.refl _ _) | (with_reducible exact K1) | (with_reducible exact K1.size) | (with_reducible refine Below.alloc ?_ ?_ _) | (with_reducible refine Below.setCell ?_ ?_ _) | (with_reducible refine below_drewN ?_ _) | (simp; done) | omega | (simp; omega)))))).mono ?_
      rintro e w2 ⟨rfl, hb⟩
      have L : Below w1.heap.size w1 w2 := ((Below.refl _ _).alloc (by simp <;> omega) _).trans (hb.mono (by simp <;> omega))
      have K2 : Below w.heap.size w w2 := K1.trans (L.mono K1.size)
      have la : w1.heap.size < w2.heap.size := Nat.lt_of_lt_of_le (by simp <;> omega) hb.size
      have a0 : w2.cell? ⟨w1.heap.size, 0, none⟩ = some (.int .i64 N) := Rg.keep hb (by simp <;> omega) (by go_cell)
      have a1 : w2.cell? ⟨w1.heap.size, 1, none⟩ = some (.int .i64 D) := Rg.keep hb (by simp <;> omega) (by go_cell)
      clear hb L
      go_wp2_with fail
      refine (CG.out _ (LAh.out.below (by (repeat' (first | (with_reducible exact Below.refl _ _) | (with_reducible exact K2) | (with_reducible exact K2.size) | (with_reducible refine Below.alloc ?_ ?_ _) | (with_reducible refine Below.setCell ?_ ?_ _) | (with_reducible refine below_drewN ?_ _) | (simp; done) | omega | (simp; omega)))))).mono ?_
      rintro e w3 ⟨rfl, hb⟩
      have L : Below w2.heap.size w2 w3 := ((Below.refl _ _).alloc (by simp <;> omega) _).trans (hb.mono (by simp <;> omega))
      have K3 : Below w.heap.size w w3 := K2.trans (L.mono K2.size)
      have lc : w2.heap.size < w3.heap.size := Nat.lt_of_lt_of_le (by simp <;> omega) hb.size
      have c0 : w3.cell? ⟨w2.heap.size, 0, none⟩ = some (.int .i64 x) := Rg.keep hb (by simp <;> omega) (by go_cell)
      have c1 : w3.cell? ⟨w2.heap.size, 1, none⟩ = some (.int .i64 y) := Rg.keep hb (by simp <;> omega) (by go_cell)
      have a0 := Rg.keep L la a0
      have a1 := Rg.keep L la a1
      have la := Nat.lt_of_lt_of_le la L.size
      clear hb L
      go_wp2_with fail
      refine (EX.out _).mono ?_
      rintro e w4 ⟨rfl, hb⟩
      have L : Below w3.heap.size w3 w4 := (Below.refl _ _).trans (hb.mono (by simp <;> omega))
      have K4 : Below w.heap.size w w4 := K3.trans (L.mono K3.size)
      have a0 := Rg.keep L la a0
      have a1 := Rg.keep L la a1
      have c0 := Rg.keep L lc c0
      have c1 := Rg.keep L lc c1
      have la := Nat.lt_of_lt_of_le la L.size
      have lc := Nat.lt_of_lt_of_le lc L.size
      clear hb L
      go_wp2
      go_ret
      exact ⟨rfl, K4⟩
    · have gz : (z != 0) = true := by simpa using hz
      clear HCG hz
      go_enter Tryd.func8, Tryd.ntmps8
      go_wp2_with fail
      refine (NW.out _).mono ?_
      rintro e w1 ⟨rfl, hb⟩
      have L : Below w.heap.size w w1 := (Below.refl _ _).trans (hb.mono (by simp <;> omega))
      have K1 : Below w.heap.size w w1 := L
      clear hb L
      go_wp2_with fail
      refine (CP.out _ (LAh.out.below (by (repeat' (first | (with_reducible exact Below.refl _ _) | (with_reducible exact K1) | (with_reducible exact K1.size) | (with_reducible refine Below.alloc ?_ ?_ _) | (with_reducible refine Below.setCell ?_ ?_ _) | (with_reducible refine below_drewN ?_ _) | (simp; done) | omega | (simp; omega)))))).mono ?_
      rintro e w2 ⟨rfl, hb⟩
      have L : Below w1.heap.size w1 w2 := ((Below.refl _ _).alloc (by simp <;> omega) _).trans (hb.mono (by simp <;> omega))
      have K2 : Below w.heap.size w w2 := K1.trans (L.mono K1.size)
      have la : w1.heap.size < w2.heap.size := Nat.lt_of_lt_of_le (by simp <;> omega) hb.size
      have a0 : w2.cell? ⟨w1.heap.size, 0, none⟩ = some (.int .i64 N) := Rg.keep hb (by simp <;> omega) (by go_cell)
      have a1 : w2.cell? ⟨w1.heap.size, 1, none⟩ = some (.int .i64 D) := Rg.keep hb (by simp <;> omega) (by go_cell)
      clear hb L
      go_wp2_with fail
      refine (EX.out _).mono ?_
      rintro e w3 ⟨rfl, hb⟩
      have L : Below w2.heap.size w2 w3 := ((Below.refl _ _).alloc (by simp <;> omega) _).trans (hb.mono (by simp <;> omega))
      have K3 : Below w.heap.size w w3 := K2.trans (L.mono K2.size)
      have lc : w2.heap.size < w3.heap.size := Nat.lt_of_lt_of_le (by simp <;> omega) hb.size
      have c0 : w3.cell? ⟨w2.heap.size, 0, none⟩ = some (.int .i64 x) := Rg.keep hb (by simp <;> omega) (by go_cell)
      have c1 : w3.cell? ⟨w2.heap.size, 1, none⟩ = some (.int .i64 y) := Rg.keep hb (by simp <;> omega) (by go_cell)
      have a0 := Rg.keep L la a0
      have a1 := Rg.keep L la a1
      have la := Nat.lt_of_lt_of_le la L.size
      clear hb L
      go_wp2
      go_ret
      exact ⟨rfl, K3⟩
end Go.Proofs.YtnmjenpeiafnkaaDoor.Tx
