/- The law on types. -/
import Derived.Test.YtikcinkbkakkmaaDoorV9
import Derived.Test.YtikcinkbkakkmaaDoorGN

namespace Go.Proofs.YtikcinkbkakkmaaDoor.Va
open Go.ChangeShapes Go.WideShapes Go.ChangeAt Go.RowKit
open Fr Fx

set_option linter.unusedVariables false
set_option linter.unusedSimpArgs false

set_option maxHeartbeats 8000000 in
theorem law_tq (K B F R O n d : Int) (w : World) (b0 : -9223372036854775808 ≤ B) (b1 : B ≤ 9223372036854775807) : Calls Tryd.prog 3 #[T5 K B F R O, Fx.V2 n d] w (Ret (.bool true) w) := by
  have O1 := Lib.hid fun w => c_one K B F R O w b0 b1
  have O2 := Lib.hid fun w => r_one K B F R O w
  have V1 := Lib.hid fun w => c_vt K B F R O w
  have V2 := Lib.hid fun w => r_vt K B F R O w
  have V3 := Lib.hid fun w => c_va K B F R O n d w b0 b1
  have V4 := Lib.hid fun w => r_va K B F R O n d w
  have Z1 := Lib.hid fun w => c_zero K B F R O w
  have Z2 := Lib.hid fun w => r_zero K B F R O w
  have EX := Lib.hid fun w => examples_true w
  clear b0 b1
  obtain ⟨r, hr⟩ : ∃ r, onv K B F R O = r := ⟨_, rfl⟩
  rw [hr] at O1 O2
  clear hr
  obtain ⟨x, y, e⟩ := r
  generalize (if ty K B F R O = true then (0 : Int) else 10) = r at *
  generalize (if ty K B F R O = true then (1 : Int) else 0) = z at *
  generalize vv K B F R O n d = b at *
  cases b
  all_goals
    go_enter Tryd.func3, Tryd.ntmps3
    go_wp2_with fail
    refine (O1.out _).mono ?_
    rintro e w1 ⟨rfl, hb⟩
    have L : Below w.heap.size w w1 := (((Below.refl _ _).alloc (by simp <;> omega) _).alloc (by simp <;> omega) _).trans (hb.mono (by simp <;> omega))
    have K1 : Below w.heap.size w w1 := L
    have lt : w.heap.size < w1.heap.size := Nat.lt_of_lt_of_le (by simp <;> omega) hb.size
    have t0 : w1.cell? ⟨w.heap.size, 0, none⟩ = some (.int .i64 K) := Rg.keep hb (by simp <;> omega) (by go_cell)
    have t1 : w1.cell? ⟨w.heap.size, 1, none⟩ = some (.int .i64 B) := Rg.keep hb (by simp <;> omega) (by go_cell)
    have t2 : w1.cell? ⟨w.heap.size, 2, none⟩ = some (.int .i64 F) := Rg.keep hb (by simp <;> omega) (by go_cell)
    have t3 : w1.cell? ⟨w.heap.size, 3, none⟩ = some (.int .i64 R) := Rg.keep hb (by simp <;> omega) (by go_cell)
    have t4 : w1.cell? ⟨w.heap.size, 4, none⟩ = some (.int .i64 O) := Rg.keep hb (by simp <;> omega) (by go_cell)
    have lv : w.heap.size + 1 < w1.heap.size := Nat.lt_of_lt_of_le (by simp <;> omega) hb.size
    have v0 : w1.cell? ⟨w.heap.size + 1, 0, none⟩ = some (.int .i64 n) := Rg.keep hb (by simp <;> omega) (by go_cell)
    have v1 : w1.cell? ⟨w.heap.size + 1, 1, none⟩ = some (.int .i64 d) := Rg.keep hb (by simp <;> omega) (by go_cell)
    clear hb L
    go_wp2_with fail
    refine (O2.out _).mono ?_
    rintro e w2 ⟨rfl, hb⟩
    have L : Below w1.heap.size w1 w2 := ((Below.refl _ _).alloc (by simp <;> omega) _).trans (hb.mono (by simp <;> omega))
    have K2 : Below w.heap.size w w2 := K1.trans (L.mono K1.size)
    have la : w1.heap.size < w2.heap.size := Nat.lt_of_lt_of_le (by simp <;> omega) hb.size
    have a0 : w2.cell? ⟨w1.heap.size, 0, none⟩ = some (.int .i64 x) := Rg.keep hb (by simp <;> omega) (by go_cell)
    have a1 : w2.cell? ⟨w1.heap.size, 1, none⟩ = some (.int .i64 y) := Rg.keep hb (by simp <;> omega) (by go_cell)
    have t0 := Rg.keep L lt t0
    have t1 := Rg.keep L lt t1
    have t2 := Rg.keep L lt t2
    have t3 := Rg.keep L lt t3
    have t4 := Rg.keep L lt t4
    have v0 := Rg.keep L lv v0
    have v1 := Rg.keep L lv v1
    have lt := Nat.lt_of_lt_of_le lt L.size
    have lv := Nat.lt_of_lt_of_le lv L.size
    clear hb L
    go_wp2_with fail
    obtain ⟨zw3, hzw⟩ : ∃ zw3, zw3 = (w2.alloc (.cells #[.int .i64 x, .int .i64 y] 25)) := ⟨_, rfl⟩
    have hb : Below (w2.alloc (.cells #[.int .i64 x, .int .i64 y] 25)).heap.size (w2.alloc (.cells #[.int .i64 x, .int .i64 y] 25)) zw3 := by rw [hzw]; exact Below.refl _ _
    rw [← hzw]
    clear hzw
    have L : Below w2.heap.size w2 zw3 := ((Below.refl _ _).alloc (by simp <;> omega) _).trans (hb.mono (by simp <;> omega))
    have K3 : Below w.heap.size w zw3 := K2.trans (L.mono K2.size)
    have lb : w2.heap.size < zw3.heap.size := Nat.lt_of_lt_of_le (by simp <;> omega) hb.size
    have b0 : zw3.cell? ⟨w2.heap.size, 0, none⟩ = some (.int .i64 x) := Rg.keep hb (by simp <;> omega) (by go_cell)
    have b1 : zw3.cell? ⟨w2.heap.size, 1, none⟩ = some (.int .i64 y) := Rg.keep hb (by simp <;> omega) (by go_cell)
    have t0 := Rg.keep L lt t0
    have t1 := Rg.keep L lt t1
    have t2 := Rg.keep L lt t2
    have t3 := Rg.keep L lt t3
    have t4 := Rg.keep L lt t4
    have v0 := Rg.keep L lv v0
    have v1 := Rg.keep L lv v1
    have a0 := Rg.keep L la a0
    have a1 := Rg.keep L la a1
    have lt := Nat.lt_of_lt_of_le lt L.size
    have lv := Nat.lt_of_lt_of_le lv L.size
    have la := Nat.lt_of_lt_of_le la L.size
    clear hb L
    have hz : zw3.cell? ⟨w.heap.size, 0, none⟩ = some (.int .i64 K) ∧ zw3.cell? ⟨w.heap.size, 1, none⟩ = some (.int .i64 B) ∧ zw3.cell? ⟨w.heap.size, 2, none⟩ = some (.int .i64 F) ∧ zw3.cell? ⟨w.heap.size, 3, none⟩ = some (.int .i64 R) ∧ zw3.cell? ⟨w.heap.size, 4, none⟩ = some (.int .i64 O) ∧ zw3.cell? ⟨w.heap.size + 1, 0, none⟩ = some (.int .i64 n) ∧ zw3.cell? ⟨w.heap.size + 1, 1, none⟩ = some (.int .i64 d) ∧ zw3.cell? ⟨w1.heap.size, 0, none⟩ = some (.int .i64 x) ∧ zw3.cell? ⟨w1.heap.size, 1, none⟩ = some (.int .i64 y) ∧ zw3.cell? ⟨w2.heap.size, 0, none⟩ = some (.int .i64 x) ∧ zw3.cell? ⟨w2.heap.size, 1, none⟩ = some (.int .i64 y) ∧ zw3.heap.size ≤ zw3.heap.size ∧ Below w.heap.size w zw3 := ⟨t0, t1, t2, t3, t4, v0, v1, a0, a1, b0, b1, Nat.le_refl _, K3⟩
    clear t0 t1 t2 t3 t4 v0 v1 a0 a1 b0 b1 K3
    have HS : Hid (∀ u u' : World, (u.cell? ⟨w.heap.size, 0, none⟩ = some (.int .i64 K) ∧ u.cell? ⟨w.heap.size, 1, none⟩ = some (.int .i64 B) ∧ u.cell? ⟨w.heap.size, 2, none⟩ = some (.int .i64 F) ∧ u.cell? ⟨w.heap.size, 3, none⟩ = some (.int .i64 R) ∧ u.cell? ⟨w.heap.size, 4, none⟩ = some (.int .i64 O) ∧ u.cell? ⟨w.heap.size + 1, 0, none⟩ = some (.int .i64 n) ∧ u.cell? ⟨w.heap.size + 1, 1, none⟩ = some (.int .i64 d) ∧ u.cell? ⟨w1.heap.size, 0, none⟩ = some (.int .i64 x) ∧ u.cell? ⟨w1.heap.size, 1, none⟩ = some (.int .i64 y) ∧ u.cell? ⟨w2.heap.size, 0, none⟩ = some (.int .i64 x) ∧ u.cell? ⟨w2.heap.size, 1, none⟩ = some (.int .i64 y) ∧ zw3.heap.size ≤ u.heap.size ∧ Below w.heap.size w u) → Below u.heap.size u u' → (u'.cell? ⟨w.heap.size, 0, none⟩ = some (.int .i64 K) ∧ u'.cell? ⟨w.heap.size, 1, none⟩ = some (.int .i64 B) ∧ u'.cell? ⟨w.heap.size, 2, none⟩ = some (.int .i64 F) ∧ u'.cell? ⟨w.heap.size, 3, none⟩ = some (.int .i64 R) ∧ u'.cell? ⟨w.heap.size, 4, none⟩ = some (.int .i64 O) ∧ u'.cell? ⟨w.heap.size + 1, 0, none⟩ = some (.int .i64 n) ∧ u'.cell? ⟨w.heap.size + 1, 1, none⟩ = some (.int .i64 d) ∧ u'.cell? ⟨w1.heap.size, 0, none⟩ = some (.int .i64 x) ∧ u'.cell? ⟨w1.heap.size, 1, none⟩ = some (.int .i64 y) ∧ u'.cell? ⟨w2.heap.size, 0, none⟩ = some (.int .i64 x) ∧ u'.cell? ⟨w2.heap.size, 1, none⟩ = some (.int .i64 y) ∧ zw3.heap.size ≤ u'.heap.size ∧ Below w.heap.size w u')) := Lib.hid (fun u u' h hb => ⟨Rg.keep hb (Nat.lt_of_lt_of_le lt h.2.2.2.2.2.2.2.2.2.2.2.1) h.1, Rg.keep hb (Nat.lt_of_lt_of_le lt h.2.2.2.2.2.2.2.2.2.2.2.1) h.2.1, Rg.keep hb (Nat.lt_of_lt_of_le lt h.2.2.2.2.2.2.2.2.2.2.2.1) h.2.2.1, Rg.keep hb (Nat.lt_of_lt_of_le lt h.2.2.2.2.2.2.2.2.2.2.2.1) h.2.2.2.1, Rg.keep hb (Nat.lt_of_lt_of_le lt h.2.2.2.2.2.2.2.2.2.2.2.1) h.2.2.2.2.1, Rg.keep hb (Nat.lt_of_lt_of_le lv h.2.2.2.2.2.2.2.2.2.2.2.1) h.2.2.2.2.2.1, Rg.keep hb (Nat.lt_of_lt_of_le lv h.2.2.2.2.2.2.2.2.2.2.2.1) h.2.2.2.2.2.2.1, Rg.keep hb (Nat.lt_of_lt_of_le la h.2.2.2.2.2.2.2.2.2.2.2.1) h.2.2.2.2.2.2.2.1, Rg.keep hb (Nat.lt_of_lt_of_le la h.2.2.2.2.2.2.2.2.2.2.2.1) h.2.2.2.2.2.2.2.2.1, Rg.keep hb (Nat.lt_of_lt_of_le lb h.2.2.2.2.2.2.2.2.2.2.2.1) h.2.2.2.2.2.2.2.2.2.1, Rg.keep hb (Nat.lt_of_lt_of_le lb h.2.2.2.2.2.2.2.2.2.2.2.1) h.2.2.2.2.2.2.2.2.2.2.1, Nat.le_trans h.2.2.2.2.2.2.2.2.2.2.2.1 hb.size, h.2.2.2.2.2.2.2.2.2.2.2.2.trans (hb.mono h.2.2.2.2.2.2.2.2.2.2.2.2.size)⟩)
    refine wp_region_held_drew (S := fun w' => w'.cell? ⟨w.heap.size, 0, none⟩ = some (.int .i64 K) ∧ w'.cell? ⟨w.heap.size, 1, none⟩ = some (.int .i64 B) ∧ w'.cell? ⟨w.heap.size, 2, none⟩ = some (.int .i64 F) ∧ w'.cell? ⟨w.heap.size, 3, none⟩ = some (.int .i64 R) ∧ w'.cell? ⟨w.heap.size, 4, none⟩ = some (.int .i64 O) ∧ w'.cell? ⟨w.heap.size + 1, 0, none⟩ = some (.int .i64 n) ∧ w'.cell? ⟨w.heap.size + 1, 1, none⟩ = some (.int .i64 d) ∧ w'.cell? ⟨w1.heap.size, 0, none⟩ = some (.int .i64 x) ∧ w'.cell? ⟨w1.heap.size, 1, none⟩ = some (.int .i64 y) ∧ w'.cell? ⟨w2.heap.size, 0, none⟩ = some (.int .i64 x) ∧ w'.cell? ⟨w2.heap.size, 1, none⟩ = some (.int .i64 y) ∧ zw3.heap.size ≤ w'.heap.size ∧ Below w.heap.size w w') (by kernel_rfl) (HS.out _ _ hz (Below.drew (Below.refl _ _))) (fun hHeld => ?_)
    refine Rg.take (i := 0) (v := ?_) rfl (by kernel_rfl) (by kernel_rfl) (by kernel_rfl) (fun _ _ _ h => h) (Or.inl ⟨by kernel_rfl, ?_⟩) (by assumption) ?_
    rotate_left
    · ((intro w hSw; (try dsimp only at hSw); go_simp) <;> with_reducible rfl)
    try simp only [Act.put, List.setIfInBounds_toArray, List.set_cons_zero, List.set_cons_succ]
    refine Rg.take (i := 2) (v := ?_) rfl (by kernel_rfl) (by kernel_rfl) (by kernel_rfl) (fun _ _ _ h => h) (Or.inl ⟨by kernel_rfl, ?_⟩) (by assumption) ?_
    rotate_left
    · ((intro w hSw; (try dsimp only at hSw); go_simp) <;> with_reducible rfl)
    try simp only [Act.put, List.setIfInBounds_toArray, List.set_cons_zero, List.set_cons_succ]
    refine Rg.one (i := 1) (by kernel_rfl) rfl (fun KK hK => ?_)
    rw [if_pos (by kernel_rfl)]
    go_simp
    ((with_reducible refine (V1.out _).mono ?_); rintro e u ⟨rfl, hb⟩)
    have hNew := HS.out _ _ hHeld hb
    first | (refine hK.out _ _ hNew (fun _ => ?_)) | (go_wp2_with fail; refine hK.out _ _ hNew (fun _ => ?_))
    clear hK KK hHeld hb
    have hHeld := hNew
    clear hNew
    refine Rg.one (i := 3) (by kernel_rfl) rfl (fun KK hK => ?_)
    rw [if_pos (by kernel_rfl)]
    go_simp
    ((with_reducible refine (V2.out _).mono ?_); rintro e u ⟨rfl, hb⟩)
    have hNew := HS.out _ _ hHeld hb
    first | (refine hK.out _ _ hNew (fun _ => ?_)) | (go_wp2_with fail; refine hK.out _ _ hNew (fun _ => ?_))
    clear hK KK hHeld hb
    have hHeld := hNew
    clear hNew
    refine Rg.take (i := 4) (v := ?_) rfl (by kernel_rfl) (by kernel_rfl) (by kernel_rfl) (fun _ _ _ h => h) (Or.inl ⟨by kernel_rfl, ?_⟩) (by assumption) ?_
    rotate_left
    · ((intro w hSw; (try dsimp only at hSw); go_simp) <;> with_reducible rfl)
    try simp only [Act.put, List.setIfInBounds_toArray, List.set_cons_zero, List.set_cons_succ]
    refine Rg.take (i := 5) (v := ?_) rfl (by kernel_rfl) (by kernel_rfl) (by kernel_rfl) (fun _ _ _ h => h) (Or.inl ⟨by kernel_rfl, ?_⟩) (by assumption) ?_
    rotate_left
    · ((intro w hSw; (try dsimp only at hSw); go_simp) <;> with_reducible rfl)
    try simp only [Act.put, List.setIfInBounds_toArray, List.set_cons_zero, List.set_cons_succ]
    refine Rg.take (i := 6) (v := ?_) rfl (by kernel_rfl) (by kernel_rfl) (by kernel_rfl) (fun _ _ _ h => h) (Or.inl ⟨by kernel_rfl, ?_⟩) (by assumption) ?_
    rotate_left
    · ((intro w hSw; (try dsimp only at hSw); go_simp) <;> with_reducible rfl)
    try simp only [Act.put, List.setIfInBounds_toArray, List.set_cons_zero, List.set_cons_succ]
    refine Rg.take (i := 7) (v := ?_) rfl (by kernel_rfl) (by kernel_rfl) (by kernel_rfl) (fun _ _ _ h => h) (Or.inl ⟨by kernel_rfl, ?_⟩) (by assumption) ?_
    rotate_left
    · ((intro w hSw; (try dsimp only at hSw); go_simp) <;> with_reducible rfl)
    try simp only [Act.put, List.setIfInBounds_toArray, List.set_cons_zero, List.set_cons_succ]
    refine Rg.take (i := 9) (v := ?_) rfl (by kernel_rfl) (by kernel_rfl) (by kernel_rfl) (fun _ _ _ h => h) (Or.inl ⟨by kernel_rfl, ?_⟩) (by assumption) ?_
    rotate_left
    · ((intro w hSw; (try dsimp only at hSw); go_simp) <;> with_reducible rfl)
    try simp only [Act.put, List.setIfInBounds_toArray, List.set_cons_zero, List.set_cons_succ]
    refine Rg.take (i := 10) (v := ?_) rfl (by kernel_rfl) (by kernel_rfl) (by kernel_rfl) (fun _ _ _ h => h) (Or.inl ⟨by kernel_rfl, ?_⟩) (by assumption) ?_
    rotate_left
    · ((intro w hSw; (try dsimp only at hSw); go_simp) <;> with_reducible rfl)
    try simp only [Act.put, List.setIfInBounds_toArray, List.set_cons_zero, List.set_cons_succ]
    refine Rg.one (i := 8) (by kernel_rfl) rfl (fun KK hK => ?_)
    rw [if_pos (by kernel_rfl)]
    go_simp
    ((with_reducible refine (V3.out _).mono ?_); rintro e u ⟨rfl, hb⟩)
    have hNew := HS.out _ _ hHeld hb
    first | (refine hK.out _ _ hNew (fun _ => ?_)) | (go_wp2_with fail; refine hK.out _ _ hNew (fun _ => ?_))
    clear hK KK hHeld hb
    have hHeld := hNew
    clear hNew
    refine Rg.one (i := 11) (by kernel_rfl) rfl (fun KK hK => ?_)
    rw [if_pos (by kernel_rfl)]
    go_simp
    ((with_reducible refine (V4.out _).mono ?_); rintro e u ⟨rfl, hb⟩)
    have hNew := HS.out _ _ hHeld hb
    first | (refine hK.out _ _ hNew (fun _ => ?_)) | (go_wp2_with fail; refine hK.out _ _ hNew (fun _ => ?_))
    clear hK KK hHeld hb
    have hHeld := hNew
    clear hNew
    refine Rg.take (i := 12) (v := ?_) rfl (by kernel_rfl) (by kernel_rfl) (by kernel_rfl) (fun _ _ _ h => h) (Or.inl ⟨by kernel_rfl, ?_⟩) (by assumption) ?_
    rotate_left
    · ((intro w hSw; (try dsimp only at hSw); go_simp) <;> with_reducible rfl)
    try simp only [Act.put, List.setIfInBounds_toArray, List.set_cons_zero, List.set_cons_succ]
    refine Rg.take (i := 13) (v := ?_) rfl (by kernel_rfl) (by kernel_rfl) (by kernel_rfl) (fun _ _ _ h => h) (Or.inl ⟨by kernel_rfl, ?_⟩) (by assumption) ?_
    rotate_left
    · ((intro w hSw; (try dsimp only at hSw); go_simp) <;> with_reducible rfl)
    try simp only [Act.put, List.setIfInBounds_toArray, List.set_cons_zero, List.set_cons_succ]
    refine Rg.take (i := 14) (v := ?_) rfl (by kernel_rfl) (by kernel_rfl) (by kernel_rfl) (fun _ _ _ h => h) (Or.inl ⟨by kernel_rfl, ?_⟩) (by assumption) ?_
    rotate_left
    · ((intro w hSw; (try dsimp only at hSw); go_simp) <;> with_reducible rfl)
    try simp only [Act.put, List.setIfInBounds_toArray, List.set_cons_zero, List.set_cons_succ]
    refine Rg.take (i := 15) (v := ?_) rfl (by kernel_rfl) (by kernel_rfl) (by kernel_rfl) (fun _ _ _ h => h) (Or.inl ⟨by kernel_rfl, ?_⟩) (by assumption) ?_
    rotate_left
    · ((intro w hSw; (try dsimp only at hSw); go_simp) <;> with_reducible rfl)
    try simp only [Act.put, List.setIfInBounds_toArray, List.set_cons_zero, List.set_cons_succ]
    refine Rg.take (i := 17) (v := ?_) rfl (by kernel_rfl) (by kernel_rfl) (by kernel_rfl) (fun _ _ _ h => h) (Or.inl ⟨by kernel_rfl, ?_⟩) (by assumption) ?_
    rotate_left
    · ((intro w hSw; (try dsimp only at hSw); go_simp) <;> with_reducible rfl)
    try simp only [Act.put, List.setIfInBounds_toArray, List.set_cons_zero, List.set_cons_succ]
    refine Rg.one (i := 16) (by kernel_rfl) rfl (fun KK hK => ?_)
    rw [if_pos (by kernel_rfl)]
    go_simp
    ((with_reducible refine (Z1.out _).mono ?_); rintro e u ⟨rfl, hb⟩)
    have hNew := HS.out _ _ hHeld hb
    first | (refine hK.out _ _ hNew (fun _ => ?_)) | (go_wp2_with fail; refine hK.out _ _ hNew (fun _ => ?_))
    clear hK KK hHeld hb
    have hHeld := hNew
    clear hNew
    refine Rg.one (i := 18) (by kernel_rfl) rfl (fun KK hK => ?_)
    rw [if_pos (by kernel_rfl)]
    go_simp
    ((with_reducible refine (Z2.out _).mono ?_); rintro e u ⟨rfl, hb⟩)
    have hNew := HS.out _ _ hHeld hb
    first | (refine hK.out _ _ hNew (fun _ => ?_)) | (go_wp2_with fail; refine hK.out _ _ hNew (fun _ => ?_))
    clear hK KK hHeld hb
    have hHeld := hNew
    clear hNew
    refine Rg.take (i := 19) (v := ?_) rfl (by kernel_rfl) (by kernel_rfl) (by kernel_rfl) (fun _ _ _ h => h) (Or.inl ⟨by kernel_rfl, ?_⟩) (by assumption) ?_
    rotate_left
    · ((intro w hSw; (try dsimp only at hSw); go_simp) <;> with_reducible rfl)
    try simp only [Act.put, List.setIfInBounds_toArray, List.set_cons_zero, List.set_cons_succ]
    refine Rg.take (i := 20) (v := ?_) rfl (by kernel_rfl) (by kernel_rfl) (by kernel_rfl) (fun _ _ _ h => h) (Or.inl ⟨by kernel_rfl, ?_⟩) (by assumption) ?_
    rotate_left
    · ((intro w hSw; (try dsimp only at hSw); go_simp) <;> with_reducible rfl)
    try simp only [Act.put, List.setIfInBounds_toArray, List.set_cons_zero, List.set_cons_succ]
    refine Rg.take (i := 21) (v := ?_) rfl (by kernel_rfl) (by kernel_rfl) (by kernel_rfl) (fun _ _ _ h => h) (Or.inl ⟨by kernel_rfl, ?_⟩) (by assumption) ?_
    rotate_left
    · ((intro w hSw; (try dsimp only at hSw); go_simp) <;> with_reducible rfl)
    try simp only [Act.put, List.setIfInBounds_toArray, List.set_cons_zero, List.set_cons_succ]
    refine Rg.take (i := 22) (v := ?_) rfl (by kernel_rfl) (by kernel_rfl) (by kernel_rfl) (fun _ _ _ h => h) (Or.inl ⟨by kernel_rfl, ?_⟩) (by assumption) ?_
    rotate_left
    · ((intro w hSw; (try dsimp only at hSw); go_simp) <;> with_reducible rfl)
    try simp only [Act.put, List.setIfInBounds_toArray, List.set_cons_zero, List.set_cons_succ]
    refine Rg.take (i := 23) (v := ?_) rfl (by kernel_rfl) (by kernel_rfl) (by kernel_rfl) (fun _ _ _ h => h) (Or.inl ⟨by kernel_rfl, ?_⟩) (by assumption) ?_
    rotate_left
    · ((intro w hSw; (try dsimp only at hSw); go_simp) <;> with_reducible rfl)
    try simp only [Act.put, List.setIfInBounds_toArray, List.set_cons_zero, List.set_cons_succ]
    refine Rg.take (i := 24) (v := ?_) rfl (by kernel_rfl) (by kernel_rfl) (by kernel_rfl) (fun _ _ _ h => h) (Or.inl ⟨by kernel_rfl, ?_⟩) (by assumption) ?_
    rotate_left
    · ((intro w hSw; (try dsimp only at hSw); go_simp) <;> with_reducible rfl)
    try simp only [Act.put, List.setIfInBounds_toArray, List.set_cons_zero, List.set_cons_succ]
    refine Rg.take (i := 25) (v := ?_) rfl (by kernel_rfl) (by kernel_rfl) (by kernel_rfl) (fun _ _ _ h => h) (Or.inl ⟨by kernel_rfl, ?_⟩) (by assumption) ?_
    rotate_left
    · ((intro w hSw; (try dsimp only at hSw); go_simp) <;> with_reducible rfl)
    try simp only [Act.put, List.setIfInBounds_toArray, List.set_cons_zero, List.set_cons_succ]
    refine Rg.take (i := 26) (v := ?_) rfl (by kernel_rfl) (by kernel_rfl) (by kernel_rfl) (fun _ _ _ h => h) (Or.inl ⟨by kernel_rfl, ?_⟩) (by assumption) ?_
    rotate_left
    · ((intro w hSw; (try dsimp only at hSw); go_simp) <;> with_reducible rfl)
    try simp only [Act.put, List.setIfInBounds_toArray, List.set_cons_zero, List.set_cons_succ]
    refine Rg.take (i := 27) (v := ?_) rfl (by kernel_rfl) (by kernel_rfl) (by kernel_rfl) (fun _ _ _ h => h) (Or.inl ⟨by kernel_rfl, ?_⟩) (by assumption) ?_
    rotate_left
    · ((intro w hSw; (try dsimp only at hSw); go_simp) <;> with_reducible rfl)
    try simp only [Act.put, List.setIfInBounds_toArray, List.set_cons_zero, List.set_cons_succ]
    refine Rg.take (i := 28) (v := ?_) rfl (by kernel_rfl) (by kernel_rfl) (by kernel_rfl) (fun _ _ _ h => h) (Or.inl ⟨by kernel_rfl, ?_⟩) (by assumption) ?_
    rotate_left
    · ((intro w hSw; (try dsimp only at hSw); go_simp) <;> with_reducible rfl)
    try simp only [Act.put, List.setIfInBounds_toArray, List.set_cons_zero, List.set_cons_succ]
    refine Rg.take (i := 29) (v := ?_) rfl (by kernel_rfl) (by kernel_rfl) (by kernel_rfl) (fun _ _ _ h => h) (Or.inl ⟨by kernel_rfl, ?_⟩) (by assumption) ?_
    rotate_left
    · ((intro w hSw; (try dsimp only at hSw); go_simp) <;> with_reducible rfl)
    try simp only [Act.put, List.setIfInBounds_toArray, List.set_cons_zero, List.set_cons_succ]
    refine Rg.take (i := 30) (v := ?_) rfl (by kernel_rfl) (by kernel_rfl) (by kernel_rfl) (fun _ _ _ h => h) (Or.inl ⟨by kernel_rfl, ?_⟩) (by assumption) ?_
    rotate_left
    · ((intro w hSw; (try dsimp only at hSw); go_simp) <;> with_reducible rfl)
    try simp only [Act.put, List.setIfInBounds_toArray, List.set_cons_zero, List.set_cons_succ]
    refine Rg.take (i := 31) (v := ?_) rfl (by kernel_rfl) (by kernel_rfl) (by kernel_rfl) (fun _ _ _ h => h) (Or.inl ⟨by kernel_rfl, ?_⟩) (by assumption) ?_
    rotate_left
    · ((intro w hSw; (try dsimp only at hSw); go_simp) <;> with_reducible rfl)
    try simp only [Act.put, List.setIfInBounds_toArray, List.set_cons_zero, List.set_cons_succ]
    refine Rg.one (i := 32) (by kernel_rfl) rfl (fun KK hK => ?_)
    rw [if_pos (by kernel_rfl)]
    go_simp
    ((with_reducible refine (EX.out _).mono ?_); rintro e u ⟨rfl, hb⟩)
    have hNew := HS.out _ _ hHeld hb
    first | (refine hK.out _ _ hNew (fun _ => ?_)) | (go_wp2_with fail; refine hK.out _ _ hNew (fun _ => ?_))
    clear hK KK hHeld hb
    have hHeld := hNew
    clear hNew
    refine Rg.take (i := 33) (v := ?_) rfl (by kernel_rfl) (by kernel_rfl) (by kernel_rfl) (fun _ _ _ h => h) (Or.inl ⟨by kernel_rfl, ?_⟩) (by assumption) ?_
    rotate_left
    · ((intro w hSw; (try dsimp only at hSw); go_simp) <;> with_reducible rfl)
    try simp only [Act.put, List.setIfInBounds_toArray, List.set_cons_zero, List.set_cons_succ]
    refine Rg.take (i := 34) (v := ?_) rfl (by kernel_rfl) (by kernel_rfl) (by kernel_rfl) (fun _ _ _ h => h) (Or.inl ⟨by kernel_rfl, ?_⟩) (by assumption) ?_
    rotate_left
    · ((intro w hSw; (try dsimp only at hSw); go_simp) <;> with_reducible rfl)
    try simp only [Act.put, List.setIfInBounds_toArray, List.set_cons_zero, List.set_cons_succ]
    refine wpAnyH_done (by kernel_rfl) ?_ _
    obtain ⟨t0, t1, t2, t3, t4, v0, v1, a0, a1, b0, b1, hsz, K4⟩ := hHeld
    have lt := Nat.lt_of_lt_of_le lt hsz
    have lv := Nat.lt_of_lt_of_le lv hsz
    have la := Nat.lt_of_lt_of_le la hsz
    have lb := Nat.lt_of_lt_of_le lb hsz
    clear hsz hz
    go_wp2
    go_ret
    exact ⟨rfl, K4⟩
end Go.Proofs.YtikcinkbkakkmaaDoor.Va
