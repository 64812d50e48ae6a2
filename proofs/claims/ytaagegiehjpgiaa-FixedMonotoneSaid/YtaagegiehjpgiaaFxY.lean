/- The statement on the rounding error: its walk. -/
import Derived.Test.YtaagegiehjpgiaaFxX
namespace Go.Proofs.Ytaagegiehjpgiaa.Fx
open Go.ChangeShapes Go.WideShapes Go.ChangeAt Go.RowKit
set_option linter.unusedVariables false

open Fr
theorem frac_any (n d : Int) (w : World) : Calls Try.prog 36 #[V2 n d] w (Ret (.bool (vld n d)) w) := by
  have BV := Lib.hid fun w => bval_any n d w
  go_enter Try.func36, Try.ntmps36
  go_wp2_with (go_at_call 50; refine (BV.out _).mono ?_; rintro e w1 ⟨rfl, hb⟩)
  go_ret
  exact ⟨rfl, ((Below.refl _ _).alloc (Nat.le_refl _) _).trans (hb.mono (by simp))⟩
set_option maxHeartbeats 16000000 in
theorem er_tv (K B F R O n0 d0 : Int) (w : World) (VT : Hid (∀ w, Calls Try.prog 18 #[.agg #[.int .i64 K, .int .i64 B, .int .i64 F, .int .i64 R, .int .i64 O]] w (Ret (.int .i64 10) w))) (EX : Hid (∀ w, Calls Try.prog 21 #[] w (Ret (.bool true) w))) : Calls Try.prog 7 #[.agg #[.int .i64 K, .int .i64 B, .int .i64 F, .int .i64 R, .int .i64 O], .agg #[.int .i64 n0, .int .i64 d0]] w (Ret (.bool true) w) := by
  go_enter Try.func7, Try.ntmps7
  go_wp2_with fail
  refine (VT.out _).mono ?_
  rintro e w1 ⟨rfl, hb⟩
  have L : Below w.heap.size w w1 := (((Below.refl _ _).alloc (by simp <;> omega) _).alloc (by simp <;> omega) _).trans (hb.mono (by simp <;> omega))
  have K1 : Below w.heap.size w w1 := L
  have lt : w.heap.size < w1.heap.size := Nat.lt_of_lt_of_le (by simp <;> omega) hb.size
  have t0 : w1.cell? ⟨w.heap.size, 0, none⟩ = some (.int .i64 K) := Rg.keep hb (by simp <;> omega) (by go_cell)
  have t1 : w1.cell? ⟨w.heap.size, 1, none⟩ = some (.int .i64 B) := Rg.keep hb (by simp <;> omega) (by go_cell)
  have t2 : w1.cell? ⟨w.heap.size, 2, none⟩ = some (.int .i64 F) := Rg.keep hb (by simp <;> omega) (by go_cell)
  have t3 : w1.cell? ⟨w.heap.size, 3, none⟩ = some (.int .i64 R) := Rg.keep hb (by simp <;> omega) (by go_cell)
  have t4 : w1.cell? ⟨w.heap.size, 4, none⟩ = some (.int .i64 O) := Rg.keep hb (by simp <;> omega) (by go_cell)
  have la : w.heap.size + 1 < w1.heap.size := Nat.lt_of_lt_of_le (by simp <;> omega) hb.size
  have a0 : w1.cell? ⟨w.heap.size + 1, 0, none⟩ = some (.int .i64 n0) := Rg.keep hb (by simp <;> omega) (by go_cell)
  have a1 : w1.cell? ⟨w.heap.size + 1, 1, none⟩ = some (.int .i64 d0) := Rg.keep hb (by simp <;> omega) (by go_cell)
  clear hb L
  go_wp2_with fail
  refine (EX.out _).mono ?_
  rintro e w2 ⟨rfl, hb⟩
  have L : Below w1.heap.size w1 w2 := (Below.refl _ _).trans (hb.mono (by simp <;> omega))
  have K2 : Below w.heap.size w w2 := K1.trans (L.mono K1.size)
  have t0 := Rg.keep L lt t0
  have t1 := Rg.keep L lt t1
  have t2 := Rg.keep L lt t2
  have t3 := Rg.keep L lt t3
  have t4 := Rg.keep L lt t4
  have a0 := Rg.keep L la a0
  have a1 := Rg.keep L la a1
  have lt := Nat.lt_of_lt_of_le lt L.size
  have la := Nat.lt_of_lt_of_le la L.size
  clear hb L
  go_wp2
  go_ret
  exact ⟨rfl, K2⟩
set_option maxHeartbeats 16000000 in
theorem er_fr (K B F R O n0 d0 : Int) (w : World) (VT : Hid (∀ w, Calls Try.prog 18 #[.agg #[.int .i64 K, .int .i64 B, .int .i64 F, .int .i64 R, .int .i64 O]] w (Ret (.int .i64 0) w))) (FR : Hid (∀ w, Calls Try.prog 36 #[.agg #[.int .i64 n0, .int .i64 d0]] w (Ret (.bool false) w))) (EX : Hid (∀ w, Calls Try.prog 21 #[] w (Ret (.bool true) w))) : Calls Try.prog 7 #[.agg #[.int .i64 K, .int .i64 B, .int .i64 F, .int .i64 R, .int .i64 O], .agg #[.int .i64 n0, .int .i64 d0]] w (Ret (.bool true) w) := by
  go_enter Try.func7, Try.ntmps7
  go_wp2_with fail
  refine (VT.out _).mono ?_
  rintro e w1 ⟨rfl, hb⟩
  have L : Below w.heap.size w w1 := (((Below.refl _ _).alloc (by simp <;> omega) _).alloc (by simp <;> omega) _).trans (hb.mono (by simp <;> omega))
  have K1 : Below w.heap.size w w1 := L
  have lt : w.heap.size < w1.heap.size := Nat.lt_of_lt_of_le (by simp <;> omega) hb.size
  have t0 : w1.cell? ⟨w.heap.size, 0, none⟩ = some (.int .i64 K) := Rg.keep hb (by simp <;> omega) (by go_cell)
  have t1 : w1.cell? ⟨w.heap.size, 1, none⟩ = some (.int .i64 B) := Rg.keep hb (by simp <;> omega) (by go_cell)
  have t2 : w1.cell? ⟨w.heap.size, 2, none⟩ = some (.int .i64 F) := Rg.keep hb (by simp <;> omega) (by go_cell)
  have t3 : w1.cell? ⟨w.heap.size, 3, none⟩ = some (.int .i64 R) := Rg.keep hb (by simp <;> omega) (by go_cell)
  have t4 : w1.cell? ⟨w.heap.size, 4, none⟩ = some (.int .i64 O) := Rg.keep hb (by simp <;> omega) (by go_cell)
  have la : w.heap.size + 1 < w1.heap.size := Nat.lt_of_lt_of_le (by simp <;> omega) hb.size
  have a0 : w1.cell? ⟨w.heap.size + 1, 0, none⟩ = some (.int .i64 n0) := Rg.keep hb (by simp <;> omega) (by go_cell)
  have a1 : w1.cell? ⟨w.heap.size + 1, 1, none⟩ = some (.int .i64 d0) := Rg.keep hb (by simp <;> omega) (by go_cell)
  clear hb L
  go_wp2_with fail
  refine (FR.out _).mono ?_
  rintro e w2 ⟨rfl, hb⟩
  have L : Below w1.heap.size w1 w2 := (Below.refl _ _).trans (hb.mono (by simp <;> omega))
  have K2 : Below w.heap.size w w2 := K1.trans (L.mono K1.size)
  have t0 := Rg.keep L lt t0
  have t1 := Rg.keep L lt t1
  have t2 := Rg.keep L lt t2
  have t3 := Rg.keep L lt t3
  have t4 := Rg.keep L lt t4
  have a0 := Rg.keep L la a0
  have a1 := Rg.keep L la a1
  have lt := Nat.lt_of_lt_of_le lt L.size
  have la := Nat.lt_of_lt_of_le la L.size
  clear hb L
  go_wp2_with fail
  refine (EX.out _).mono ?_
  rintro e w3 ⟨rfl, hb⟩
  have L : Below w2.heap.size w2 w3 := (Below.refl _ _).trans (hb.mono (by simp <;> omega))
  have K3 : Below w.heap.size w w3 := K2.trans (L.mono K2.size)
  have t0 := Rg.keep L lt t0
  have t1 := Rg.keep L lt t1
  have t2 := Rg.keep L lt t2
  have t3 := Rg.keep L lt t3
  have t4 := Rg.keep L lt t4
  have a0 := Rg.keep L la a0
  have a1 := Rg.keep L la a1
  have lt := Nat.lt_of_lt_of_le lt L.size
  have la := Nat.lt_of_lt_of_le la L.size
  clear hb L
  go_wp2
  go_ret
  exact ⟨rfl, K3⟩
set_option maxHeartbeats 16000000 in
theorem er_lo (K B F R O n0 d0 p t H lo hi : Int) (w : World) (hp : (2 : Int) ^ F.toNat = p) (p0 : 1 ≤ p) (p1 : p ≤ 1073741824) (f0 : 0 ≤ F) (f1 : F ≤ 30) (ht : n0 * p = t) (t0' : -2305843009213693952 ≤ t) (t1' : t ≤ 2305843009213693952) (hH : (2 : Int) ^ (B.toNat - 1) = H) (H0 : 2 ≤ H) (H1 : H ≤ 1073741824) (gb : 2 ≤ B) (gb' : B ≤ 31) (hl : decide (lo < -H) = true) (VT : Hid (∀ w, Calls Try.prog 18 #[.agg #[.int .i64 K, .int .i64 B, .int .i64 F, .int .i64 R, .int .i64 O]] w (Ret (.int .i64 0) w))) (FR : Hid (∀ w, Calls Try.prog 36 #[.agg #[.int .i64 n0, .int .i64 d0]] w (Ret (.bool true) w))) (RD1 : Hid (∀ w, Calls Try.prog 37 #[.int .i64 t, .int .i64 d0, .int .i64 1] w fun e w' => e = .returned (.int .i64 lo) ∧ w = w')) (RD2 : Hid (∀ w, Calls Try.prog 37 #[.int .i64 t, .int .i64 d0, .int .i64 2] w fun e w' => e = .returned (.int .i64 hi) ∧ w = w')) (EX : Hid (∀ w, Calls Try.prog 21 #[] w (Ret (.bool true) w))) : Calls Try.prog 7 #[.agg #[.int .i64 K, .int .i64 B, .int .i64 F, .int .i64 R, .int .i64 O], .agg #[.int .i64 n0, .int .i64 d0]] w (Ret (.bool true) w) := by
  go_enter Try.func7, Try.ntmps7
  go_wp2_with fail
  refine (VT.out _).mono ?_
  rintro e w1 ⟨rfl, hb⟩
  have L : Below w.heap.size w w1 := (((Below.refl _ _).alloc (by simp <;> omega) _).alloc (by simp <;> omega) _).trans (hb.mono (by simp <;> omega))
  have K1 : Below w.heap.size w w1 := L
  have lt : w.heap.size < w1.heap.size := Nat.lt_of_lt_of_le (by simp <;> omega) hb.size
  have t0 : w1.cell? ⟨w.heap.size, 0, none⟩ = some (.int .i64 K) := Rg.keep hb (by simp <;> omega) (by go_cell)
  have t1 : w1.cell? ⟨w.heap.size, 1, none⟩ = some (.int .i64 B) := Rg.keep hb (by simp <;> omega) (by go_cell)
  have t2 : w1.cell? ⟨w.heap.size, 2, none⟩ = some (.int .i64 F) := Rg.keep hb (by simp <;> omega) (by go_cell)
  have t3 : w1.cell? ⟨w.heap.size, 3, none⟩ = some (.int .i64 R) := Rg.keep hb (by simp <;> omega) (by go_cell)
  have t4 : w1.cell? ⟨w.heap.size, 4, none⟩ = some (.int .i64 O) := Rg.keep hb (by simp <;> omega) (by go_cell)
  have la : w.heap.size + 1 < w1.heap.size := Nat.lt_of_lt_of_le (by simp <;> omega) hb.size
  have a0 : w1.cell? ⟨w.heap.size + 1, 0, none⟩ = some (.int .i64 n0) := Rg.keep hb (by simp <;> omega) (by go_cell)
  have a1 : w1.cell? ⟨w.heap.size + 1, 1, none⟩ = some (.int .i64 d0) := Rg.keep hb (by simp <;> omega) (by go_cell)
  clear hb L
  go_wp2_with fail
  refine (FR.out _).mono ?_
  rintro e w2 ⟨rfl, hb⟩
  have L : Below w1.heap.size w1 w2 := (Below.refl _ _).trans (hb.mono (by simp <;> omega))
  have K2 : Below w.heap.size w w2 := K1.trans (L.mono K1.size)
  have t0 := Rg.keep L lt t0
  have t1 := Rg.keep L lt t1
  have t2 := Rg.keep L lt t2
  have t3 := Rg.keep L lt t3
  have t4 := Rg.keep L lt t4
  have a0 := Rg.keep L la a0
  have a1 := Rg.keep L la a1
  have lt := Nat.lt_of_lt_of_le lt L.size
  have la := Nat.lt_of_lt_of_le la L.size
  clear hb L
  go_wp2_with fail
  have hz : w2.cell? ⟨w.heap.size, 0, none⟩ = some (.int .i64 K) ∧ w2.cell? ⟨w.heap.size, 1, none⟩ = some (.int .i64 B) ∧ w2.cell? ⟨w.heap.size, 2, none⟩ = some (.int .i64 F) ∧ w2.cell? ⟨w.heap.size, 3, none⟩ = some (.int .i64 R) ∧ w2.cell? ⟨w.heap.size, 4, none⟩ = some (.int .i64 O) ∧ w2.cell? ⟨w.heap.size + 1, 0, none⟩ = some (.int .i64 n0) ∧ w2.cell? ⟨w.heap.size + 1, 1, none⟩ = some (.int .i64 d0) ∧ w2.heap.size ≤ w2.heap.size ∧ Below w.heap.size w w2 := ⟨t0, t1, t2, t3, t4, a0, a1, Nat.le_refl _, K2⟩
  clear t0 t1 t2 t3 t4 a0 a1 K2
  have HS : Hid (∀ u u' : World, (u.cell? ⟨w.heap.size, 0, none⟩ = some (.int .i64 K) ∧ u.cell? ⟨w.heap.size, 1, none⟩ = some (.int .i64 B) ∧ u.cell? ⟨w.heap.size, 2, none⟩ = some (.int .i64 F) ∧ u.cell? ⟨w.heap.size, 3, none⟩ = some (.int .i64 R) ∧ u.cell? ⟨w.heap.size, 4, none⟩ = some (.int .i64 O) ∧ u.cell? ⟨w.heap.size + 1, 0, none⟩ = some (.int .i64 n0) ∧ u.cell? ⟨w.heap.size + 1, 1, none⟩ = some (.int .i64 d0) ∧ w2.heap.size ≤ u.heap.size ∧ Below w.heap.size w u) → Below u.heap.size u u' → (u'.cell? ⟨w.heap.size, 0, none⟩ = some (.int .i64 K) ∧ u'.cell? ⟨w.heap.size, 1, none⟩ = some (.int .i64 B) ∧ u'.cell? ⟨w.heap.size, 2, none⟩ = some (.int .i64 F) ∧ u'.cell? ⟨w.heap.size, 3, none⟩ = some (.int .i64 R) ∧ u'.cell? ⟨w.heap.size, 4, none⟩ = some (.int .i64 O) ∧ u'.cell? ⟨w.heap.size + 1, 0, none⟩ = some (.int .i64 n0) ∧ u'.cell? ⟨w.heap.size + 1, 1, none⟩ = some (.int .i64 d0) ∧ w2.heap.size ≤ u'.heap.size ∧ Below w.heap.size w u')) := Lib.hid (fun u u' h hb => ⟨Rg.keep hb (Nat.lt_of_lt_of_le lt h.2.2.2.2.2.2.2.1) h.1, Rg.keep hb (Nat.lt_of_lt_of_le lt h.2.2.2.2.2.2.2.1) h.2.1, Rg.keep hb (Nat.lt_of_lt_of_le lt h.2.2.2.2.2.2.2.1) h.2.2.1, Rg.keep hb (Nat.lt_of_lt_of_le lt h.2.2.2.2.2.2.2.1) h.2.2.2.1, Rg.keep hb (Nat.lt_of_lt_of_le lt h.2.2.2.2.2.2.2.1) h.2.2.2.2.1, Rg.keep hb (Nat.lt_of_lt_of_le la h.2.2.2.2.2.2.2.1) h.2.2.2.2.2.1, Rg.keep hb (Nat.lt_of_lt_of_le la h.2.2.2.2.2.2.2.1) h.2.2.2.2.2.2.1, Nat.le_trans h.2.2.2.2.2.2.2.1 hb.size, h.2.2.2.2.2.2.2.2.trans (hb.mono h.2.2.2.2.2.2.2.2.size)⟩)
  refine wp_region_held_drew (S := fun w' => w'.cell? ⟨w.heap.size, 0, none⟩ = some (.int .i64 K) ∧ w'.cell? ⟨w.heap.size, 1, none⟩ = some (.int .i64 B) ∧ w'.cell? ⟨w.heap.size, 2, none⟩ = some (.int .i64 F) ∧ w'.cell? ⟨w.heap.size, 3, none⟩ = some (.int .i64 R) ∧ w'.cell? ⟨w.heap.size, 4, none⟩ = some (.int .i64 O) ∧ w'.cell? ⟨w.heap.size + 1, 0, none⟩ = some (.int .i64 n0) ∧ w'.cell? ⟨w.heap.size + 1, 1, none⟩ = some (.int .i64 d0) ∧ w2.heap.size ≤ w'.heap.size ∧ Below w.heap.size w w') (by kernel_rfl) (HS.out _ _ hz (Below.drew (Below.refl _ _))) (fun hHeld => ?_)
  refine Rg.take (i := 0) (v := ?_) rfl (by kernel_rfl) (by kernel_rfl) (by kernel_rfl) (fun _ _ _ h => h) (Or.inl ⟨by kernel_rfl, ?_⟩) (by assumption) ?_
  rotate_left
  · ((intro w hSw; (try dsimp only at hSw); go_simp) <;> with_reducible rfl)
  try simp only [Act.put, List.setIfInBounds_toArray, List.set_cons_zero, List.set_cons_succ]
  refine Rg.take (i := 1) (v := ?_) rfl (by kernel_rfl) (by kernel_rfl) (by kernel_rfl) (fun _ _ _ h => h) (Or.inl ⟨by kernel_rfl, ?_⟩) (by assumption) ?_
  rotate_left
  · ((intro w hSw; (try dsimp only at hSw); go_simp) <;> with_reducible rfl)
  try simp only [Act.put, List.setIfInBounds_toArray, List.set_cons_zero, List.set_cons_succ]
  refine Rg.take (i := 2) (v := ?_) rfl (by kernel_rfl) (by kernel_rfl) (by kernel_rfl) (fun _ _ _ h => h) (Or.inl ⟨by kernel_rfl, ?_⟩) (by assumption) ?_
  rotate_left
  · ((intro w hSw; (try dsimp only at hSw); go_simp) <;> with_reducible rfl)
  try simp only [Act.put, List.setIfInBounds_toArray, List.set_cons_zero, List.set_cons_succ]
  refine Rg.take (i := 4) (v := ?_) rfl (by kernel_rfl) (by kernel_rfl) (by kernel_rfl) (fun _ _ _ h => h) (Or.inl ⟨by kernel_rfl, ?_⟩) (by assumption) ?_
  rotate_left
  · ((intro w hSw; (try dsimp only at hSw); go_simp) <;> with_reducible rfl)
  try simp only [Act.put, List.setIfInBounds_toArray, List.set_cons_zero, List.set_cons_succ]
  refine Rg.take (i := 5) (v := ?_) rfl (by kernel_rfl) (by kernel_rfl) (by kernel_rfl) (fun _ _ _ h => h) (Or.inl ⟨by kernel_rfl, ?_⟩) (by assumption) ?_
  rotate_left
  · ((intro w hSw; (try dsimp only at hSw); go_simp) <;> with_reducible rfl)
  try simp only [Act.put, List.setIfInBounds_toArray, List.set_cons_zero, List.set_cons_succ]
  refine Rg.take (i := 6) (v := ?_) rfl (by kernel_rfl) (by kernel_rfl) (by kernel_rfl) (fun _ _ _ h => h) (Or.inl ⟨by kernel_rfl, ?_⟩) (by assumption) ?_
  rotate_left
  · ((intro w hSw; (try dsimp only at hSw); go_simp) <;> with_reducible rfl)
  try simp only [Act.put, List.setIfInBounds_toArray, List.set_cons_zero, List.set_cons_succ]
  refine Rg.one (i := 3) (by kernel_rfl) rfl (fun KK hK => ?_)
  rw [if_pos (by kernel_rfl)]
  go_simp
  ((with_reducible refine (RD1.out _).mono ?_); rintro e u ⟨rfl, rfl⟩)
  first | (refine hK.out _ _ hHeld (fun _ => ?_)) | (go_wp2_with fail; refine hK.out _ _ hHeld (fun _ => ?_))
  clear hK KK
  refine Rg.one (i := 7) (by kernel_rfl) rfl (fun KK hK => ?_)
  rw [if_pos (by kernel_rfl)]
  go_simp
  ((with_reducible refine (RD2.out _).mono ?_); rintro e u ⟨rfl, rfl⟩)
  first | (refine hK.out _ _ hHeld (fun _ => ?_)) | (go_wp2_with fail; refine hK.out _ _ hHeld (fun _ => ?_))
  clear hK KK
  refine Rg.take (i := 8) (v := ?_) rfl (by kernel_rfl) (by kernel_rfl) (by kernel_rfl) (fun _ _ _ h => h) (Or.inl ⟨by kernel_rfl, ?_⟩) (by assumption) ?_
  rotate_left
  · ((intro w hSw; (try dsimp only at hSw); go_simp) <;> with_reducible rfl)
  try simp only [Act.put, List.setIfInBounds_toArray, List.set_cons_zero, List.set_cons_succ]
  refine Rg.take (i := 9) (v := ?_) rfl (by kernel_rfl) (by kernel_rfl) (by kernel_rfl) (fun _ _ _ h => h) (Or.inl ⟨by kernel_rfl, ?_⟩) (by assumption) ?_
  rotate_left
  · ((intro w hSw; (try dsimp only at hSw); go_simp) <;> with_reducible rfl)
  try simp only [Act.put, List.setIfInBounds_toArray, List.set_cons_zero, List.set_cons_succ]
  refine wpAnyH_done (by kernel_rfl) ?_ _
  obtain ⟨t0, t1, t2, t3, t4, a0, a1, hsz, K3⟩ := hHeld
  have lt := Nat.lt_of_lt_of_le lt hsz
  have la := Nat.lt_of_lt_of_le la hsz
  clear hsz hz
  generalize w2.drew = yw4 at *
  go_wp2_with fail
  refine (EX.out _).mono ?_
  rintro e w5 ⟨rfl, hb⟩
  have L : Below yw4.heap.size yw4 w5 := (Below.refl _ _).trans (hb.mono (by simp <;> omega))
  have K5 : Below w.heap.size w w5 := K3.trans (L.mono K3.size)
  have t0 := Rg.keep L lt t0
  have t1 := Rg.keep L lt t1
  have t2 := Rg.keep L lt t2
  have t3 := Rg.keep L lt t3
  have t4 := Rg.keep L lt t4
  have a0 := Rg.keep L la a0
  have a1 := Rg.keep L la a1
  have lt := Nat.lt_of_lt_of_le lt L.size
  have la := Nat.lt_of_lt_of_le la L.size
  clear hb L
  go_wp2
  go_ret
  exact ⟨rfl, K5⟩
set_option maxHeartbeats 16000000 in
theorem er_hi (K B F R O n0 d0 p t H lo hi : Int) (w : World) (hp : (2 : Int) ^ F.toNat = p) (p0 : 1 ≤ p) (p1 : p ≤ 1073741824) (f0 : 0 ≤ F) (f1 : F ≤ 30) (ht : n0 * p = t) (t0' : -2305843009213693952 ≤ t) (t1' : t ≤ 2305843009213693952) (hH : (2 : Int) ^ (B.toNat - 1) = H) (H0 : 2 ≤ H) (H1 : H ≤ 1073741824) (gb : 2 ≤ B) (gb' : B ≤ 31) (hl : decide (lo < -H) = false) (hh : decide (H ≤ hi) = true) (VT : Hid (∀ w, Calls Try.prog 18 #[.agg #[.int .i64 K, .int .i64 B, .int .i64 F, .int .i64 R, .int .i64 O]] w (Ret (.int .i64 0) w))) (FR : Hid (∀ w, Calls Try.prog 36 #[.agg #[.int .i64 n0, .int .i64 d0]] w (Ret (.bool true) w))) (RD1 : Hid (∀ w, Calls Try.prog 37 #[.int .i64 t, .int .i64 d0, .int .i64 1] w fun e w' => e = .returned (.int .i64 lo) ∧ w = w')) (RD2 : Hid (∀ w, Calls Try.prog 37 #[.int .i64 t, .int .i64 d0, .int .i64 2] w fun e w' => e = .returned (.int .i64 hi) ∧ w = w')) (EX : Hid (∀ w, Calls Try.prog 21 #[] w (Ret (.bool true) w))) : Calls Try.prog 7 #[.agg #[.int .i64 K, .int .i64 B, .int .i64 F, .int .i64 R, .int .i64 O], .agg #[.int .i64 n0, .int .i64 d0]] w (Ret (.bool true) w) := by
  go_enter Try.func7, Try.ntmps7
  go_wp2_with fail
  refine (VT.out _).mono ?_
  rintro e w1 ⟨rfl, hb⟩
  have L : Below w.heap.size w w1 := (((Below.refl _ _).alloc (by simp <;> omega) _).alloc (by simp <;> omega) _).trans (hb.mono (by simp <;> omega))
  have K1 : Below w.heap.size w w1 := L
  have lt : w.heap.size < w1.heap.size := Nat.lt_of_lt_of_le (by simp <;> omega) hb.size
  have t0 : w1.cell? ⟨w.heap.size, 0, none⟩ = some (.int .i64 K) := Rg.keep hb (by simp <;> omega) (by go_cell)
  have t1 : w1.cell? ⟨w.heap.size, 1, none⟩ = some (.int .i64 B) := Rg.keep hb (by simp <;> omega) (by go_cell)
  have t2 : w1.cell? ⟨w.heap.size, 2, none⟩ = some (.int .i64 F) := Rg.keep hb (by simp <;> omega) (by go_cell)
  have t3 : w1.cell? ⟨w.heap.size, 3, none⟩ = some (.int .i64 R) := Rg.keep hb (by simp <;> omega) (by go_cell)
  have t4 : w1.cell? ⟨w.heap.size, 4, none⟩ = some (.int .i64 O) := Rg.keep hb (by simp <;> omega) (by go_cell)
  have la : w.heap.size + 1 < w1.heap.size := Nat.lt_of_lt_of_le (by simp <;> omega) hb.size
  have a0 : w1.cell? ⟨w.heap.size + 1, 0, none⟩ = some (.int .i64 n0) := Rg.keep hb (by simp <;> omega) (by go_cell)
  have a1 : w1.cell? ⟨w.heap.size + 1, 1, none⟩ = some (.int .i64 d0) := Rg.keep hb (by simp <;> omega) (by go_cell)
  clear hb L
  go_wp2_with fail
  refine (FR.out _).mono ?_
  rintro e w2 ⟨rfl, hb⟩
  have L : Below w1.heap.size w1 w2 := (Below.refl _ _).trans (hb.mono (by simp <;> omega))
  have K2 : Below w.heap.size w w2 := K1.trans (L.mono K1.size)
  have t0 := Rg.keep L lt t0
  have t1 := Rg.keep L lt t1
  have t2 := Rg.keep L lt t2
  have t3 := Rg.keep L lt t3
  have t4 := Rg.keep L lt t4
  have a0 := Rg.keep L la a0
  have a1 := Rg.keep L la a1
  have lt := Nat.lt_of_lt_of_le lt L.size
  have la := Nat.lt_of_lt_of_le la L.size
  clear hb L
  go_wp2_with fail
  have hz : w2.cell? ⟨w.heap.size, 0, none⟩ = some (.int .i64 K) ∧ w2.cell? ⟨w.heap.size, 1, none⟩ = some (.int .i64 B) ∧ w2.cell? ⟨w.heap.size, 2, none⟩ = some (.int .i64 F) ∧ w2.cell? ⟨w.heap.size, 3, none⟩ = some (.int .i64 R) ∧ w2.cell? ⟨w.heap.size, 4, none⟩ = some (.int .i64 O) ∧ w2.cell? ⟨w.heap.size + 1, 0, none⟩ = some (.int .i64 n0) ∧ w2.cell? ⟨w.heap.size + 1, 1, none⟩ = some (.int .i64 d0) ∧ w2.heap.size ≤ w2.heap.size ∧ Below w.heap.size w w2 := ⟨t0, t1, t2, t3, t4, a0, a1, Nat.le_refl _, K2⟩
  clear t0 t1 t2 t3 t4 a0 a1 K2
  have HS : Hid (∀ u u' : World, (u.cell? ⟨w.heap.size, 0, none⟩ = some (.int .i64 K) ∧ u.cell? ⟨w.heap.size, 1, none⟩ = some (.int .i64 B) ∧ u.cell? ⟨w.heap.size, 2, none⟩ = some (.int .i64 F) ∧ u.cell? ⟨w.heap.size, 3, none⟩ = some (.int .i64 R) ∧ u.cell? ⟨w.heap.size, 4, none⟩ = some (.int .i64 O) ∧ u.cell? ⟨w.heap.size + 1, 0, none⟩ = some (.int .i64 n0) ∧ u.cell? ⟨w.heap.size + 1, 1, none⟩ = some (.int .i64 d0) ∧ w2.heap.size ≤ u.heap.size ∧ Below w.heap.size w u) → Below u.heap.size u u' → (u'.cell? ⟨w.heap.size, 0, none⟩ = some (.int .i64 K) ∧ u'.cell? ⟨w.heap.size, 1, none⟩ = some (.int .i64 B) ∧ u'.cell? ⟨w.heap.size, 2, none⟩ = some (.int .i64 F) ∧ u'.cell? ⟨w.heap.size, 3, none⟩ = some (.int .i64 R) ∧ u'.cell? ⟨w.heap.size, 4, none⟩ = some (.int .i64 O) ∧ u'.cell? ⟨w.heap.size + 1, 0, none⟩ = some (.int .i64 n0) ∧ u'.cell? ⟨w.heap.size + 1, 1, none⟩ = some (.int .i64 d0) ∧ w2.heap.size ≤ u'.heap.size ∧ Below w.heap.size w u')) := Lib.hid (fun u u' h hb => ⟨Rg.keep hb (Nat.lt_of_lt_of_le lt h.2.2.2.2.2.2.2.1) h.1, Rg.keep hb (Nat.lt_of_lt_of_le lt h.2.2.2.2.2.2.2.1) h.2.1, Rg.keep hb (Nat.lt_of_lt_of_le lt h.2.2.2.2.2.2.2.1) h.2.2.1, Rg.keep hb (Nat.lt_of_lt_of_le lt h.2.2.2.2.2.2.2.1) h.2.2.2.1, Rg.keep hb (Nat.lt_of_lt_of_le lt h.2.2.2.2.2.2.2.1) h.2.2.2.2.1, Rg.keep hb (Nat.lt_of_lt_of_le la h.2.2.2.2.2.2.2.1) h.2.2.2.2.2.1, Rg.keep hb (Nat.lt_of_lt_of_le la h.2.2.2.2.2.2.2.1) h.2.2.2.2.2.2.1, Nat.le_trans h.2.2.2.2.2.2.2.1 hb.size, h.2.2.2.2.2.2.2.2.trans (hb.mono h.2.2.2.2.2.2.2.2.size)⟩)
  refine wp_region_held_drew (S := fun w' => w'.cell? ⟨w.heap.size, 0, none⟩ = some (.int .i64 K) ∧ w'.cell? ⟨w.heap.size, 1, none⟩ = some (.int .i64 B) ∧ w'.cell? ⟨w.heap.size, 2, none⟩ = some (.int .i64 F) ∧ w'.cell? ⟨w.heap.size, 3, none⟩ = some (.int .i64 R) ∧ w'.cell? ⟨w.heap.size, 4, none⟩ = some (.int .i64 O) ∧ w'.cell? ⟨w.heap.size + 1, 0, none⟩ = some (.int .i64 n0) ∧ w'.cell? ⟨w.heap.size + 1, 1, none⟩ = some (.int .i64 d0) ∧ w2.heap.size ≤ w'.heap.size ∧ Below w.heap.size w w') (by kernel_rfl) (HS.out _ _ hz (Below.drew (Below.refl _ _))) (fun hHeld => ?_)
  refine Rg.take (i := 0) (v := ?_) rfl (by kernel_rfl) (by kernel_rfl) (by kernel_rfl) (fun _ _ _ h => h) (Or.inl ⟨by kernel_rfl, ?_⟩) (by assumption) ?_
  rotate_left
  · ((intro w hSw; (try dsimp only at hSw); go_simp) <;> with_reducible rfl)
  try simp only [Act.put, List.setIfInBounds_toArray, List.set_cons_zero, List.set_cons_succ]
  refine Rg.take (i := 1) (v := ?_) rfl (by kernel_rfl) (by kernel_rfl) (by kernel_rfl) (fun _ _ _ h => h) (Or.inl ⟨by kernel_rfl, ?_⟩) (by assumption) ?_
  rotate_left
  · ((intro w hSw; (try dsimp only at hSw); go_simp) <;> with_reducible rfl)
  try simp only [Act.put, List.setIfInBounds_toArray, List.set_cons_zero, List.set_cons_succ]
  refine Rg.take (i := 2) (v := ?_) rfl (by kernel_rfl) (by kernel_rfl) (by kernel_rfl) (fun _ _ _ h => h) (Or.inl ⟨by kernel_rfl, ?_⟩) (by assumption) ?_
  rotate_left
  · ((intro w hSw; (try dsimp only at hSw); go_simp) <;> with_reducible rfl)
  try simp only [Act.put, List.setIfInBounds_toArray, List.set_cons_zero, List.set_cons_succ]
  refine Rg.take (i := 4) (v := ?_) rfl (by kernel_rfl) (by kernel_rfl) (by kernel_rfl) (fun _ _ _ h => h) (Or.inl ⟨by kernel_rfl, ?_⟩) (by assumption) ?_
  rotate_left
  · ((intro w hSw; (try dsimp only at hSw); go_simp) <;> with_reducible rfl)
  try simp only [Act.put, List.setIfInBounds_toArray, List.set_cons_zero, List.set_cons_succ]
  refine Rg.take (i := 5) (v := ?_) rfl (by kernel_rfl) (by kernel_rfl) (by kernel_rfl) (fun _ _ _ h => h) (Or.inl ⟨by kernel_rfl, ?_⟩) (by assumption) ?_
  rotate_left
  · ((intro w hSw; (try dsimp only at hSw); go_simp) <;> with_reducible rfl)
  try simp only [Act.put, List.setIfInBounds_toArray, List.set_cons_zero, List.set_cons_succ]
  refine Rg.take (i := 6) (v := ?_) rfl (by kernel_rfl) (by kernel_rfl) (by kernel_rfl) (fun _ _ _ h => h) (Or.inl ⟨by kernel_rfl, ?_⟩) (by assumption) ?_
  rotate_left
  · ((intro w hSw; (try dsimp only at hSw); go_simp) <;> with_reducible rfl)
  try simp only [Act.put, List.setIfInBounds_toArray, List.set_cons_zero, List.set_cons_succ]
  refine Rg.one (i := 3) (by kernel_rfl) rfl (fun KK hK => ?_)
  rw [if_pos (by kernel_rfl)]
  go_simp
  ((with_reducible refine (RD1.out _).mono ?_); rintro e u ⟨rfl, rfl⟩)
  first | (refine hK.out _ _ hHeld (fun _ => ?_)) | (go_wp2_with fail; refine hK.out _ _ hHeld (fun _ => ?_))
  clear hK KK
  refine Rg.one (i := 7) (by kernel_rfl) rfl (fun KK hK => ?_)
  rw [if_pos (by kernel_rfl)]
  go_simp
  ((with_reducible refine (RD2.out _).mono ?_); rintro e u ⟨rfl, rfl⟩)
  first | (refine hK.out _ _ hHeld (fun _ => ?_)) | (go_wp2_with fail; refine hK.out _ _ hHeld (fun _ => ?_))
  clear hK KK
  refine Rg.take (i := 8) (v := ?_) rfl (by kernel_rfl) (by kernel_rfl) (by kernel_rfl) (fun _ _ _ h => h) (Or.inl ⟨by kernel_rfl, ?_⟩) (by assumption) ?_
  rotate_left
  · ((intro w hSw; (try dsimp only at hSw); go_simp) <;> with_reducible rfl)
  try simp only [Act.put, List.setIfInBounds_toArray, List.set_cons_zero, List.set_cons_succ]
  refine Rg.take (i := 9) (v := ?_) rfl (by kernel_rfl) (by kernel_rfl) (by kernel_rfl) (fun _ _ _ h => h) (Or.inl ⟨by kernel_rfl, ?_⟩) (by assumption) ?_
  rotate_left
  · ((intro w hSw; (try dsimp only at hSw); go_simp) <;> with_reducible rfl)
  try simp only [Act.put, List.setIfInBounds_toArray, List.set_cons_zero, List.set_cons_succ]
  refine wpAnyH_done (by kernel_rfl) ?_ _
  obtain ⟨t0, t1, t2, t3, t4, a0, a1, hsz, K3⟩ := hHeld
  have lt := Nat.lt_of_lt_of_le lt hsz
  have la := Nat.lt_of_lt_of_le la hsz
  clear hsz hz
  generalize w2.drew = yw4 at *
  go_wp2_with fail
  refine (EX.out _).mono ?_
  rintro e w5 ⟨rfl, hb⟩
  have L : Below yw4.heap.size yw4 w5 := (Below.refl _ _).trans (hb.mono (by simp <;> omega))
  have K5 : Below w.heap.size w w5 := K3.trans (L.mono K3.size)
  have t0 := Rg.keep L lt t0
  have t1 := Rg.keep L lt t1
  have t2 := Rg.keep L lt t2
  have t3 := Rg.keep L lt t3
  have t4 := Rg.keep L lt t4
  have a0 := Rg.keep L la a0
  have a1 := Rg.keep L la a1
  have lt := Nat.lt_of_lt_of_le lt L.size
  have la := Nat.lt_of_lt_of_le la L.size
  clear hb L
  go_wp2
  go_ret
  exact ⟨rfl, K5⟩
set_option maxHeartbeats 16000000 in
theorem er_neg (K B F R O n0 d0 p t H lo hi v : Int) (w : World) (hp : (2 : Int) ^ F.toNat = p) (p0 : 1 ≤ p) (p1 : p ≤ 1073741824) (f0 : 0 ≤ F) (f1 : F ≤ 30) (ht : n0 * p = t) (t0' : -2305843009213693952 ≤ t) (t1' : t ≤ 2305843009213693952) (hH : (2 : Int) ^ (B.toNat - 1) = H) (H0 : 2 ≤ H) (H1 : H ≤ 1073741824) (gb : 2 ≤ B) (gb' : B ≤ 31) (hl : decide (lo < -H) = false) (hh : decide (H ≤ hi) = false) (s : Int) (hs : v * d0 = s) (s0 : -2305843011361177600 ≤ s) (s1 : s ≤ 2305843011361177600) (o0 : -2147483648 ≤ s - t) (o1 : s - t ≤ 2147483648) (d0' : 1 ≤ d0) (d1' : d0 ≤ 2147483647) (k1 : decide (v < lo) = false) (k2 : decide (hi < v) = false) (oneg : decide (s - t < 0) = true) (hoff : decide (-(s - t) < d0) = true) (hev : (R != 4) = true ∨ decide (2 * (-(s - t)) ≤ d0) = true) (VT : Hid (∀ w, Calls Try.prog 18 #[.agg #[.int .i64 K, .int .i64 B, .int .i64 F, .int .i64 R, .int .i64 O]] w (Ret (.int .i64 0) w))) (FR : Hid (∀ w, Calls Try.prog 36 #[.agg #[.int .i64 n0, .int .i64 d0]] w (Ret (.bool true) w))) (RD1 : Hid (∀ w, Calls Try.prog 37 #[.int .i64 t, .int .i64 d0, .int .i64 1] w fun e w' => e = .returned (.int .i64 lo) ∧ w = w')) (RD2 : Hid (∀ w, Calls Try.prog 37 #[.int .i64 t, .int .i64 d0, .int .i64 2] w fun e w' => e = .returned (.int .i64 hi) ∧ w = w')) (FF : Hid (∀ w, Calls Try.prog 22 #[.agg #[.int .i64 K, .int .i64 B, .int .i64 F, .int .i64 R, .int .i64 O], .agg #[.int .i64 n0, .int .i64 d0]] w (Ret (Frac3 v 1 0) w))) (EX : Hid (∀ w, Calls Try.prog 21 #[] w (Ret (.bool true) w))) : Calls Try.prog 7 #[.agg #[.int .i64 K, .int .i64 B, .int .i64 F, .int .i64 R, .int .i64 O], .agg #[.int .i64 n0, .int .i64 d0]] w (Ret (.bool true) w) := by
  obtain ⟨x, hx⟩ : ∃ x, (R != 4) = x := ⟨_, rfl⟩
  have hx2 : x = false → decide (2 * (-(s - t)) ≤ d0) = true := by
    intro h
    rcases hev with h' | h'
    · rw [hx, h] at h'; cases h'
    · exact h'
  clear hev
  cases x
  · have hx3 := hx2 rfl
    clear hx2
    go_enter Try.func7, Try.ntmps7
    go_wp2_with fail
    refine (VT.out _).mono ?_
    rintro e w1 ⟨rfl, hb⟩
    have L : Below w.heap.size w w1 := (((Below.refl _ _).alloc (by simp <;> omega) _).alloc (by simp <;> omega) _).trans (hb.mono (by simp <;> omega))
    have K1 : Below w.heap.size w w1 := L
    have lt : w.heap.size < w1.heap.size := Nat.lt_of_lt_of_le (by simp <;> omega) hb.size
    have t0 : w1.cell? ⟨w.heap.size, 0, none⟩ = some (.int .i64 K) := Rg.keep hb (by simp <;> omega) (by go_cell)
    have t1 : w1.cell? ⟨w.heap.size, 1, none⟩ = some (.int .i64 B) := Rg.keep hb (by simp <;> omega) (by go_cell)
    have t2 : w1.cell? ⟨w.heap.size, 2, none⟩ = some (.int .i64 F) := Rg.keep hb (by simp <;> omega) (by go_cell)
    have t3 : w1.cell? ⟨w.heap.size, 3, none⟩ = some (.int .i64 R) := Rg.keep hb (by simp <;> omega) (by go_cell)
    have t4 : w1.cell? ⟨w.heap.size, 4, none⟩ = some (.int .i64 O) := Rg.keep hb (by simp <;> omega) (by go_cell)
    have la : w.heap.size + 1 < w1.heap.size := Nat.lt_of_lt_of_le (by simp <;> omega) hb.size
    have a0 : w1.cell? ⟨w.heap.size + 1, 0, none⟩ = some (.int .i64 n0) := Rg.keep hb (by simp <;> omega) (by go_cell)
    have a1 : w1.cell? ⟨w.heap.size + 1, 1, none⟩ = some (.int .i64 d0) := Rg.keep hb (by simp <;> omega) (by go_cell)
    clear hb L
    go_wp2_with fail
    refine (FR.out _).mono ?_
    rintro e w2 ⟨rfl, hb⟩
    have L : Below w1.heap.size w1 w2 := (Below.refl _ _).trans (hb.mono (by simp <;> omega))
    have K2 : Below w.heap.size w w2 := K1.trans (L.mono K1.size)
    have t0 := Rg.keep L lt t0
    have t1 := Rg.keep L lt t1
    have t2 := Rg.keep L lt t2
    have t3 := Rg.keep L lt t3
    have t4 := Rg.keep L lt t4
    have a0 := Rg.keep L la a0
    have a1 := Rg.keep L la a1
    have lt := Nat.lt_of_lt_of_le lt L.size
    have la := Nat.lt_of_lt_of_le la L.size
    clear hb L
    go_wp2_with fail
    have hz : w2.cell? ⟨w.heap.size, 0, none⟩ = some (.int .i64 K) ∧ w2.cell? ⟨w.heap.size, 1, none⟩ = some (.int .i64 B) ∧ w2.cell? ⟨w.heap.size, 2, none⟩ = some (.int .i64 F) ∧ w2.cell? ⟨w.heap.size, 3, none⟩ = some (.int .i64 R) ∧ w2.cell? ⟨w.heap.size, 4, none⟩ = some (.int .i64 O) ∧ w2.cell? ⟨w.heap.size + 1, 0, none⟩ = some (.int .i64 n0) ∧ w2.cell? ⟨w.heap.size + 1, 1, none⟩ = some (.int .i64 d0) ∧ w2.heap.size ≤ w2.heap.size ∧ Below w.heap.size w w2 := ⟨t0, t1, t2, t3, t4, a0, a1, Nat.le_refl _, K2⟩
    clear t0 t1 t2 t3 t4 a0 a1 K2
    have HS : Hid (∀ u u' : World, (u.cell? ⟨w.heap.size, 0, none⟩ = some (.int .i64 K) ∧ u.cell? ⟨w.heap.size, 1, none⟩ = some (.int .i64 B) ∧ u.cell? ⟨w.heap.size, 2, none⟩ = some (.int .i64 F) ∧ u.cell? ⟨w.heap.size, 3, none⟩ = some (.int .i64 R) ∧ u.cell? ⟨w.heap.size, 4, none⟩ = some (.int .i64 O) ∧ u.cell? ⟨w.heap.size + 1, 0, none⟩ = some (.int .i64 n0) ∧ u.cell? ⟨w.heap.size + 1, 1, none⟩ = some (.int .i64 d0) ∧ w2.heap.size ≤ u.heap.size ∧ Below w.heap.size w u) → Below u.heap.size u u' → (u'.cell? ⟨w.heap.size, 0, none⟩ = some (.int .i64 K) ∧ u'.cell? ⟨w.heap.size, 1, none⟩ = some (.int .i64 B) ∧ u'.cell? ⟨w.heap.size, 2, none⟩ = some (.int .i64 F) ∧ u'.cell? ⟨w.heap.size, 3, none⟩ = some (.int .i64 R) ∧ u'.cell? ⟨w.heap.size, 4, none⟩ = some (.int .i64 O) ∧ u'.cell? ⟨w.heap.size + 1, 0, none⟩ = some (.int .i64 n0) ∧ u'.cell? ⟨w.heap.size + 1, 1, none⟩ = some (.int .i64 d0) ∧ w2.heap.size ≤ u'.heap.size ∧ Below w.heap.size w u')) := Lib.hid (fun u u' h hb => ⟨Rg.keep hb (Nat.lt_of_lt_of_le lt h.2.2.2.2.2.2.2.1) h.1, Rg.keep hb (Nat.lt_of_lt_of_le lt h.2.2.2.2.2.2.2.1) h.2.1, Rg.keep hb (Nat.lt_of_lt_of_le lt h.2.2.2.2.2.2.2.1) h.2.2.1, Rg.keep hb (Nat.lt_of_lt_of_le lt h.2.2.2.2.2.2.2.1) h.2.2.2.1, Rg.keep hb (Nat.lt_of_lt_of_le lt h.2.2.2.2.2.2.2.1) h.2.2.2.2.1, Rg.keep hb (Nat.lt_of_lt_of_le la h.2.2.2.2.2.2.2.1) h.2.2.2.2.2.1, Rg.keep hb (Nat.lt_of_lt_of_le la h.2.2.2.2.2.2.2.1) h.2.2.2.2.2.2.1, Nat.le_trans h.2.2.2.2.2.2.2.1 hb.size, h.2.2.2.2.2.2.2.2.trans (hb.mono h.2.2.2.2.2.2.2.2.size)⟩)
    refine wp_region_held_drew (S := fun w' => w'.cell? ⟨w.heap.size, 0, none⟩ = some (.int .i64 K) ∧ w'.cell? ⟨w.heap.size, 1, none⟩ = some (.int .i64 B) ∧ w'.cell? ⟨w.heap.size, 2, none⟩ = some (.int .i64 F) ∧ w'.cell? ⟨w.heap.size, 3, none⟩ = some (.int .i64 R) ∧ w'.cell? ⟨w.heap.size, 4, none⟩ = some (.int .i64 O) ∧ w'.cell? ⟨w.heap.size + 1, 0, none⟩ = some (.int .i64 n0) ∧ w'.cell? ⟨w.heap.size + 1, 1, none⟩ = some (.int .i64 d0) ∧ w2.heap.size ≤ w'.heap.size ∧ Below w.heap.size w w') (by kernel_rfl) (HS.out _ _ hz (Below.drew (Below.refl _ _))) (fun hHeld => ?_)
    refine Rg.take (i := 0) (v := ?_) rfl (by kernel_rfl) (by kernel_rfl) (by kernel_rfl) (fun _ _ _ h => h) (Or.inl ⟨by kernel_rfl, ?_⟩) (by assumption) ?_
    rotate_left
    · ((intro w hSw; (try dsimp only at hSw); go_simp) <;> with_reducible rfl)
    try simp only [Act.put, List.setIfInBounds_toArray, List.set_cons_zero, List.set_cons_succ]
    refine Rg.take (i := 1) (v := ?_) rfl (by kernel_rfl) (by kernel_rfl) (by kernel_rfl) (fun _ _ _ h => h) (Or.inl ⟨by kernel_rfl, ?_⟩) (by assumption) ?_
    rotate_left
    · ((intro w hSw; (try dsimp only at hSw); go_simp) <;> with_reducible rfl)
    try simp only [Act.put, List.setIfInBounds_toArray, List.set_cons_zero, List.set_cons_succ]
    refine Rg.take (i := 2) (v := ?_) rfl (by kernel_rfl) (by kernel_rfl) (by kernel_rfl) (fun _ _ _ h => h) (Or.inl ⟨by kernel_rfl, ?_⟩) (by assumption) ?_
    rotate_left
    · ((intro w hSw; (try dsimp only at hSw); go_simp) <;> with_reducible rfl)
    try simp only [Act.put, List.setIfInBounds_toArray, List.set_cons_zero, List.set_cons_succ]
    refine Rg.take (i := 4) (v := ?_) rfl (by kernel_rfl) (by kernel_rfl) (by kernel_rfl) (fun _ _ _ h => h) (Or.inl ⟨by kernel_rfl, ?_⟩) (by assumption) ?_
    rotate_left
    · ((intro w hSw; (try dsimp only at hSw); go_simp) <;> with_reducible rfl)
    try simp only [Act.put, List.setIfInBounds_toArray, List.set_cons_zero, List.set_cons_succ]
    refine Rg.take (i := 5) (v := ?_) rfl (by kernel_rfl) (by kernel_rfl) (by kernel_rfl) (fun _ _ _ h => h) (Or.inl ⟨by kernel_rfl, ?_⟩) (by assumption) ?_
    rotate_left
    · ((intro w hSw; (try dsimp only at hSw); go_simp) <;> with_reducible rfl)
    try simp only [Act.put, List.setIfInBounds_toArray, List.set_cons_zero, List.set_cons_succ]
    refine Rg.take (i := 6) (v := ?_) rfl (by kernel_rfl) (by kernel_rfl) (by kernel_rfl) (fun _ _ _ h => h) (Or.inl ⟨by kernel_rfl, ?_⟩) (by assumption) ?_
    rotate_left
    · ((intro w hSw; (try dsimp only at hSw); go_simp) <;> with_reducible rfl)
    try simp only [Act.put, List.setIfInBounds_toArray, List.set_cons_zero, List.set_cons_succ]
    refine Rg.one (i := 3) (by kernel_rfl) rfl (fun KK hK => ?_)
    rw [if_pos (by kernel_rfl)]
    go_simp
    ((with_reducible refine (RD1.out _).mono ?_); rintro e u ⟨rfl, rfl⟩)
    first | (refine hK.out _ _ hHeld (fun _ => ?_)) | (go_wp2_with fail; refine hK.out _ _ hHeld (fun _ => ?_))
    clear hK KK
    refine Rg.one (i := 7) (by kernel_rfl) rfl (fun KK hK => ?_)
    rw [if_pos (by kernel_rfl)]
    go_simp
    ((with_reducible refine (RD2.out _).mono ?_); rintro e u ⟨rfl, rfl⟩)
    first | (refine hK.out _ _ hHeld (fun _ => ?_)) | (go_wp2_with fail; refine hK.out _ _ hHeld (fun _ => ?_))
    clear hK KK
    refine Rg.take (i := 8) (v := ?_) rfl (by kernel_rfl) (by kernel_rfl) (by kernel_rfl) (fun _ _ _ h => h) (Or.inl ⟨by kernel_rfl, ?_⟩) (by assumption) ?_
    rotate_left
    · ((intro w hSw; (try dsimp only at hSw); go_simp) <;> with_reducible rfl)
    try simp only [Act.put, List.setIfInBounds_toArray, List.set_cons_zero, List.set_cons_succ]
    refine Rg.take (i := 9) (v := ?_) rfl (by kernel_rfl) (by kernel_rfl) (by kernel_rfl) (fun _ _ _ h => h) (Or.inl ⟨by kernel_rfl, ?_⟩) (by assumption) ?_
    rotate_left
    · ((intro w hSw; (try dsimp only at hSw); go_simp) <;> with_reducible rfl)
    try simp only [Act.put, List.setIfInBounds_toArray, List.set_cons_zero, List.set_cons_succ]
    refine wpAnyH_done (by kernel_rfl) ?_ _
    obtain ⟨t0, t1, t2, t3, t4, a0, a1, hsz, K3⟩ := hHeld
    have lt := Nat.lt_of_lt_of_le lt hsz
    have la := Nat.lt_of_lt_of_le la hsz
    clear hsz hz
    generalize w2.drew = yw4 at *
    go_wp2_with fail
    refine (FF.out _).mono ?_
    rintro e w5 ⟨rfl, hb⟩
    have L : Below yw4.heap.size yw4 w5 := (Below.refl _ _).trans (hb.mono (by simp <;> omega))
    have K5 : Below w.heap.size w w5 := K3.trans (L.mono K3.size)
    have t0 := Rg.keep L lt t0
    have t1 := Rg.keep L lt t1
    have t2 := Rg.keep L lt t2
    have t3 := Rg.keep L lt t3
    have t4 := Rg.keep L lt t4
    have a0 := Rg.keep L la a0
    have a1 := Rg.keep L la a1
    have lt := Nat.lt_of_lt_of_le lt L.size
    have la := Nat.lt_of_lt_of_le la L.size
    clear hb L
    go_wp2_with fail
    refine (EX.out _).mono ?_
    rintro e w6 ⟨rfl, hb⟩
    have L : Below w5.heap.size w5 w6 := ((Below.refl _ _).alloc (by simp <;> omega) _).trans (hb.mono (by simp <;> omega))
    have K6 : Below w.heap.size w w6 := K5.trans (L.mono K5.size)
    have lv : w5.heap.size < w6.heap.size := Nat.lt_of_lt_of_le (by simp <;> omega) hb.size
    have v0 : w6.cell? ⟨w5.heap.size, 0, none⟩ = some (.int .i64 v) := Rg.keep hb (by simp <;> omega) (by go_cell)
    have v1 : w6.cell? ⟨w5.heap.size, 1, none⟩ = some (.int .i64 1) := Rg.keep hb (by simp <;> omega) (by go_cell)
    have t0 := Rg.keep L lt t0
    have t1 := Rg.keep L lt t1
    have t2 := Rg.keep L lt t2
    have t3 := Rg.keep L lt t3
    have t4 := Rg.keep L lt t4
    have a0 := Rg.keep L la a0
    have a1 := Rg.keep L la a1
    have lt := Nat.lt_of_lt_of_le lt L.size
    have la := Nat.lt_of_lt_of_le la L.size
    clear hb L
    go_wp2
    go_ret
    exact ⟨rfl, K6⟩
  · clear hx2
    go_enter Try.func7, Try.ntmps7
    go_wp2_with fail
    refine (VT.out _).mono ?_
    rintro e w1 ⟨rfl, hb⟩
    have L : Below w.heap.size w w1 := (((Below.refl _ _).alloc (by simp <;> omega) _).alloc (by simp <;> omega) _).trans (hb.mono (by simp <;> omega))
    have K1 : Below w.heap.size w w1 := L
    have lt : w.heap.size < w1.heap.size := Nat.lt_of_lt_of_le (by simp <;> omega) hb.size
    have t0 : w1.cell? ⟨w.heap.size, 0, none⟩ = some (.int .i64 K) := Rg.keep hb (by simp <;> omega) (by go_cell)
    have t1 : w1.cell? ⟨w.heap.size, 1, none⟩ = some (.int .i64 B) := Rg.keep hb (by simp <;> omega) (by go_cell)
    have t2 : w1.cell? ⟨w.heap.size, 2, none⟩ = some (.int .i64 F) := Rg.keep hb (by simp <;> omega) (by go_cell)
    have t3 : w1.cell? ⟨w.heap.size, 3, none⟩ = some (.int .i64 R) := Rg.keep hb (by simp <;> omega) (by go_cell)
    have t4 : w1.cell? ⟨w.heap.size, 4, none⟩ = some (.int .i64 O) := Rg.keep hb (by simp <;> omega) (by go_cell)
    have la : w.heap.size + 1 < w1.heap.size := Nat.lt_of_lt_of_le (by simp <;> omega) hb.size
    have a0 : w1.cell? ⟨w.heap.size + 1, 0, none⟩ = some (.int .i64 n0) := Rg.keep hb (by simp <;> omega) (by go_cell)
    have a1 : w1.cell? ⟨w.heap.size + 1, 1, none⟩ = some (.int .i64 d0) := Rg.keep hb (by simp <;> omega) (by go_cell)
    clear hb L
    go_wp2_with fail
    refine (FR.out _).mono ?_
    rintro e w2 ⟨rfl, hb⟩
    have L : Below w1.heap.size w1 w2 := (Below.refl _ _).trans (hb.mono (by simp <;> omega))
    have K2 : Below w.heap.size w w2 := K1.trans (L.mono K1.size)
    have t0 := Rg.keep L lt t0
    have t1 := Rg.keep L lt t1
    have t2 := Rg.keep L lt t2
    have t3 := Rg.keep L lt t3
    have t4 := Rg.keep L lt t4
    have a0 := Rg.keep L la a0
    have a1 := Rg.keep L la a1
    have lt := Nat.lt_of_lt_of_le lt L.size
    have la := Nat.lt_of_lt_of_le la L.size
    clear hb L
    go_wp2_with fail
    have hz : w2.cell? ⟨w.heap.size, 0, none⟩ = some (.int .i64 K) ∧ w2.cell? ⟨w.heap.size, 1, none⟩ = some (.int .i64 B) ∧ w2.cell? ⟨w.heap.size, 2, none⟩ = some (.int .i64 F) ∧ w2.cell? ⟨w.heap.size, 3, none⟩ = some (.int .i64 R) ∧ w2.cell? ⟨w.heap.size, 4, none⟩ = some (.int .i64 O) ∧ w2.cell? ⟨w.heap.size + 1, 0, none⟩ = some (.int .i64 n0) ∧ w2.cell? ⟨w.heap.size + 1, 1, none⟩ = some (.int .i64 d0) ∧ w2.heap.size ≤ w2.heap.size ∧ Below w.heap.size w w2 := ⟨t0, t1, t2, t3, t4, a0, a1, Nat.le_refl _, K2⟩
    clear t0 t1 t2 t3 t4 a0 a1 K2
    have HS : Hid (∀ u u' : World, (u.cell? ⟨w.heap.size, 0, none⟩ = some (.int .i64 K) ∧ u.cell? ⟨w.heap.size, 1, none⟩ = some (.int .i64 B) ∧ u.cell? ⟨w.heap.size, 2, none⟩ = some (.int .i64 F) ∧ u.cell? ⟨w.heap.size, 3, none⟩ = some (.int .i64 R) ∧ u.cell? ⟨w.heap.size, 4, none⟩ = some (.int .i64 O) ∧ u.cell? ⟨w.heap.size + 1, 0, none⟩ = some (.int .i64 n0) ∧ u.cell? ⟨w.heap.size + 1, 1, none⟩ = some (.int .i64 d0) ∧ w2.heap.size ≤ u.heap.size ∧ Below w.heap.size w u) → Below u.heap.size u u' → (u'.cell? ⟨w.heap.size, 0, none⟩ = some (.int .i64 K) ∧ u'.cell? ⟨w.heap.size, 1, none⟩ = some (.int .i64 B) ∧ u'.cell? ⟨w.heap.size, 2, none⟩ = some (.int .i64 F) ∧ u'.cell? ⟨w.heap.size, 3, none⟩ = some (.int .i64 R) ∧ u'.cell? ⟨w.heap.size, 4, none⟩ = some (.int .i64 O) ∧ u'.cell? ⟨w.heap.size + 1, 0, none⟩ = some (.int .i64 n0) ∧ u'.cell? ⟨w.heap.size + 1, 1, none⟩ = some (.int .i64 d0) ∧ w2.heap.size ≤ u'.heap.size ∧ Below w.heap.size w u')) := Lib.hid (fun u u' h hb => ⟨Rg.keep hb (Nat.lt_of_lt_of_le lt h.2.2.2.2.2.2.2.1) h.1, Rg.keep hb (Nat.lt_of_lt_of_le lt h.2.2.2.2.2.2.2.1) h.2.1, Rg.keep hb (Nat.lt_of_lt_of_le lt h.2.2.2.2.2.2.2.1) h.2.2.1, Rg.keep hb (Nat.lt_of_lt_of_le lt h.2.2.2.2.2.2.2.1) h.2.2.2.1, Rg.keep hb (Nat.lt_of_lt_of_le lt h.2.2.2.2.2.2.2.1) h.2.2.2.2.1, Rg.keep hb (Nat.lt_of_lt_of_le la h.2.2.2.2.2.2.2.1) h.2.2.2.2.2.1, Rg.keep hb (Nat.lt_of_lt_of_le la h.2.2.2.2.2.2.2.1) h.2.2.2.2.2.2.1, Nat.le_trans h.2.2.2.2.2.2.2.1 hb.size, h.2.2.2.2.2.2.2.2.trans (hb.mono h.2.2.2.2.2.2.2.2.size)⟩)
    refine wp_region_held_drew (S := fun w' => w'.cell? ⟨w.heap.size, 0, none⟩ = some (.int .i64 K) ∧ w'.cell? ⟨w.heap.size, 1, none⟩ = some (.int .i64 B) ∧ w'.cell? ⟨w.heap.size, 2, none⟩ = some (.int .i64 F) ∧ w'.cell? ⟨w.heap.size, 3, none⟩ = some (.int .i64 R) ∧ w'.cell? ⟨w.heap.size, 4, none⟩ = some (.int .i64 O) ∧ w'.cell? ⟨w.heap.size + 1, 0, none⟩ = some (.int .i64 n0) ∧ w'.cell? ⟨w.heap.size + 1, 1, none⟩ = some (.int .i64 d0) ∧ w2.heap.size ≤ w'.heap.size ∧ Below w.heap.size w w') (by kernel_rfl) (HS.out _ _ hz (Below.drew (Below.refl _ _))) (fun hHeld => ?_)
    refine Rg.take (i := 0) (v := ?_) rfl (by kernel_rfl) (by kernel_rfl) (by kernel_rfl) (fun _ _ _ h => h) (Or.inl ⟨by kernel_rfl, ?_⟩) (by assumption) ?_
    rotate_left
    · ((intro w hSw; (try dsimp only at hSw); go_simp) <;> with_reducible rfl)
    try simp only [Act.put, List.setIfInBounds_toArray, List.set_cons_zero, List.set_cons_succ]
    refine Rg.take (i := 1) (v := ?_) rfl (by kernel_rfl) (by kernel_rfl) (by kernel_rfl) (fun _ _ _ h => h) (Or.inl ⟨by kernel_rfl, ?_⟩) (by assumption) ?_
    rotate_left
    · ((intro w hSw; (try dsimp only at hSw); go_simp) <;> with_reducible rfl)
    try simp only [Act.put, List.setIfInBounds_toArray, List.set_cons_zero, List.set_cons_succ]
    refine Rg.take (i := 2) (v := ?_) rfl (by kernel_rfl) (by kernel_rfl) (by kernel_rfl) (fun _ _ _ h => h) (Or.inl ⟨by kernel_rfl, ?_⟩) (by assumption) ?_
    rotate_left
    · ((intro w hSw; (try dsimp only at hSw); go_simp) <;> with_reducible rfl)
    try simp only [Act.put, List.setIfInBounds_toArray, List.set_cons_zero, List.set_cons_succ]
    refine Rg.take (i := 4) (v := ?_) rfl (by kernel_rfl) (by kernel_rfl) (by kernel_rfl) (fun _ _ _ h => h) (Or.inl ⟨by kernel_rfl, ?_⟩) (by assumption) ?_
    rotate_left
    · ((intro w hSw; (try dsimp only at hSw); go_simp) <;> with_reducible rfl)
    try simp only [Act.put, List.setIfInBounds_toArray, List.set_cons_zero, List.set_cons_succ]
    refine Rg.take (i := 5) (v := ?_) rfl (by kernel_rfl) (by kernel_rfl) (by kernel_rfl) (fun _ _ _ h => h) (Or.inl ⟨by kernel_rfl, ?_⟩) (by assumption) ?_
    rotate_left
    · ((intro w hSw; (try dsimp only at hSw); go_simp) <;> with_reducible rfl)
    try simp only [Act.put, List.setIfInBounds_toArray, List.set_cons_zero, List.set_cons_succ]
    refine Rg.take (i := 6) (v := ?_) rfl (by kernel_rfl) (by kernel_rfl) (by kernel_rfl) (fun _ _ _ h => h) (Or.inl ⟨by kernel_rfl, ?_⟩) (by assumption) ?_
    rotate_left
    · ((intro w hSw; (try dsimp only at hSw); go_simp) <;> with_reducible rfl)
    try simp only [Act.put, List.setIfInBounds_toArray, List.set_cons_zero, List.set_cons_succ]
    refine Rg.one (i := 3) (by kernel_rfl) rfl (fun KK hK => ?_)
    rw [if_pos (by kernel_rfl)]
    go_simp
    ((with_reducible refine (RD1.out _).mono ?_); rintro e u ⟨rfl, rfl⟩)
    first | (refine hK.out _ _ hHeld (fun _ => ?_)) | (go_wp2_with fail; refine hK.out _ _ hHeld (fun _ => ?_))
    clear hK KK
    refine Rg.one (i := 7) (by kernel_rfl) rfl (fun KK hK => ?_)
    rw [if_pos (by kernel_rfl)]
    go_simp
    ((with_reducible refine (RD2.out _).mono ?_); rintro e u ⟨rfl, rfl⟩)
    first | (refine hK.out _ _ hHeld (fun _ => ?_)) | (go_wp2_with fail; refine hK.out _ _ hHeld (fun _ => ?_))
    clear hK KK
    refine Rg.take (i := 8) (v := ?_) rfl (by kernel_rfl) (by kernel_rfl) (by kernel_rfl) (fun _ _ _ h => h) (Or.inl ⟨by kernel_rfl, ?_⟩) (by assumption) ?_
    rotate_left
    · ((intro w hSw; (try dsimp only at hSw); go_simp) <;> with_reducible rfl)
    try simp only [Act.put, List.setIfInBounds_toArray, List.set_cons_zero, List.set_cons_succ]
    refine Rg.take (i := 9) (v := ?_) rfl (by kernel_rfl) (by kernel_rfl) (by kernel_rfl) (fun _ _ _ h => h) (Or.inl ⟨by kernel_rfl, ?_⟩) (by assumption) ?_
    rotate_left
    · ((intro w hSw; (try dsimp only at hSw); go_simp) <;> with_reducible rfl)
    try simp only [Act.put, List.setIfInBounds_toArray, List.set_cons_zero, List.set_cons_succ]
    refine wpAnyH_done (by kernel_rfl) ?_ _
    obtain ⟨t0, t1, t2, t3, t4, a0, a1, hsz, K3⟩ := hHeld
    have lt := Nat.lt_of_lt_of_le lt hsz
    have la := Nat.lt_of_lt_of_le la hsz
    clear hsz hz
    generalize w2.drew = yw4 at *
    go_wp2_with fail
    refine (FF.out _).mono ?_
    rintro e w5 ⟨rfl, hb⟩
    have L : Below yw4.heap.size yw4 w5 := (Below.refl _ _).trans (hb.mono (by simp <;> omega))
    have K5 : Below w.heap.size w w5 := K3.trans (L.mono K3.size)
    have t0 := Rg.keep L lt t0
    have t1 := Rg.keep L lt t1
    have t2 := Rg.keep L lt t2
    have t3 := Rg.keep L lt t3
    have t4 := Rg.keep L lt t4
    have a0 := Rg.keep L la a0
    have a1 := Rg.keep L la a1
    have lt := Nat.lt_of_lt_of_le lt L.size
    have la := Nat.lt_of_lt_of_le la L.size
    clear hb L
    go_wp2_with fail
    refine (EX.out _).mono ?_
    rintro e w6 ⟨rfl, hb⟩
    have L : Below w5.heap.size w5 w6 := ((Below.refl _ _).alloc (by simp <;> omega) _).trans (hb.mono (by simp <;> omega))
    have K6 : Below w.heap.size w w6 := K5.trans (L.mono K5.size)
    have lv : w5.heap.size < w6.heap.size := Nat.lt_of_lt_of_le (by simp <;> omega) hb.size
    have v0 : w6.cell? ⟨w5.heap.size, 0, none⟩ = some (.int .i64 v) := Rg.keep hb (by simp <;> omega) (by go_cell)
    have v1 : w6.cell? ⟨w5.heap.size, 1, none⟩ = some (.int .i64 1) := Rg.keep hb (by simp <;> omega) (by go_cell)
    have t0 := Rg.keep L lt t0
    have t1 := Rg.keep L lt t1
    have t2 := Rg.keep L lt t2
    have t3 := Rg.keep L lt t3
    have t4 := Rg.keep L lt t4
    have a0 := Rg.keep L la a0
    have a1 := Rg.keep L la a1
    have lt := Nat.lt_of_lt_of_le lt L.size
    have la := Nat.lt_of_lt_of_le la L.size
    clear hb L
    go_wp2
    go_ret
    exact ⟨rfl, K6⟩
set_option maxHeartbeats 16000000 in
theorem er_pos (K B F R O n0 d0 p t H lo hi v : Int) (w : World) (hp : (2 : Int) ^ F.toNat = p) (p0 : 1 ≤ p) (p1 : p ≤ 1073741824) (f0 : 0 ≤ F) (f1 : F ≤ 30) (ht : n0 * p = t) (t0' : -2305843009213693952 ≤ t) (t1' : t ≤ 2305843009213693952) (hH : (2 : Int) ^ (B.toNat - 1) = H) (H0 : 2 ≤ H) (H1 : H ≤ 1073741824) (gb : 2 ≤ B) (gb' : B ≤ 31) (hl : decide (lo < -H) = false) (hh : decide (H ≤ hi) = false) (s : Int) (hs : v * d0 = s) (s0 : -2305843011361177600 ≤ s) (s1 : s ≤ 2305843011361177600) (o0 : -2147483648 ≤ s - t) (o1 : s - t ≤ 2147483648) (d0' : 1 ≤ d0) (d1' : d0 ≤ 2147483647) (k1 : decide (v < lo) = false) (k2 : decide (hi < v) = false) (oneg : decide (s - t < 0) = false) (hoff : decide (s - t < d0) = true) (hev : (R != 4) = true ∨ decide (2 * (s - t) ≤ d0) = true) (VT : Hid (∀ w, Calls Try.prog 18 #[.agg #[.int .i64 K, .int .i64 B, .int .i64 F, .int .i64 R, .int .i64 O]] w (Ret (.int .i64 0) w))) (FR : Hid (∀ w, Calls Try.prog 36 #[.agg #[.int .i64 n0, .int .i64 d0]] w (Ret (.bool true) w))) (RD1 : Hid (∀ w, Calls Try.prog 37 #[.int .i64 t, .int .i64 d0, .int .i64 1] w fun e w' => e = .returned (.int .i64 lo) ∧ w = w')) (RD2 : Hid (∀ w, Calls Try.prog 37 #[.int .i64 t, .int .i64 d0, .int .i64 2] w fun e w' => e = .returned (.int .i64 hi) ∧ w = w')) (FF : Hid (∀ w, Calls Try.prog 22 #[.agg #[.int .i64 K, .int .i64 B, .int .i64 F, .int .i64 R, .int .i64 O], .agg #[.int .i64 n0, .int .i64 d0]] w (Ret (Frac3 v 1 0) w))) (EX : Hid (∀ w, Calls Try.prog 21 #[] w (Ret (.bool true) w))) : Calls Try.prog 7 #[.agg #[.int .i64 K, .int .i64 B, .int .i64 F, .int .i64 R, .int .i64 O], .agg #[.int .i64 n0, .int .i64 d0]] w (Ret (.bool true) w) := by
  obtain ⟨x, hx⟩ : ∃ x, (R != 4) = x := ⟨_, rfl⟩
  have hx2 : x = false → decide (2 * (s - t) ≤ d0) = true := by
    intro h
    rcases hev with h' | h'
    · rw [hx, h] at h'; cases h'
    · exact h'
  clear hev
  cases x
  · have hx3 := hx2 rfl
    clear hx2
    go_enter Try.func7, Try.ntmps7
    go_wp2_with fail
    refine (VT.out _).mono ?_
    rintro e w1 ⟨rfl, hb⟩
    have L : Below w.heap.size w w1 := (((Below.refl _ _).alloc (by simp <;> omega) _).alloc (by simp <;> omega) _).trans (hb.mono (by simp <;> omega))
    have K1 : Below w.heap.size w w1 := L
    have lt : w.heap.size < w1.heap.size := Nat.lt_of_lt_of_le (by simp <;> omega) hb.size
    have t0 : w1.cell? ⟨w.heap.size, 0, none⟩ = some (.int .i64 K) := Rg.keep hb (by simp <;> omega) (by go_cell)
    have t1 : w1.cell? ⟨w.heap.size, 1, none⟩ = some (.int .i64 B) := Rg.keep hb (by simp <;> omega) (by go_cell)
    have t2 : w1.cell? ⟨w.heap.size, 2, none⟩ = some (.int .i64 F) := Rg.keep hb (by simp <;> omega) (by go_cell)
    have t3 : w1.cell? ⟨w.heap.size, 3, none⟩ = some (.int .i64 R) := Rg.keep hb (by simp <;> omega) (by go_cell)
    have t4 : w1.cell? ⟨w.heap.size, 4, none⟩ = some (.int .i64 O) := Rg.keep hb (by simp <;> omega) (by go_cell)
    have la : w.heap.size + 1 < w1.heap.size := Nat.lt_of_lt_of_le (by simp <;> omega) hb.size
    have a0 : w1.cell? ⟨w.heap.size + 1, 0, none⟩ = some (.int .i64 n0) := Rg.keep hb (by simp <;> omega) (by go_cell)
    have a1 : w1.cell? ⟨w.heap.size + 1, 1, none⟩ = some (.int .i64 d0) := Rg.keep hb (by simp <;> omega) (by go_cell)
    clear hb L
    go_wp2_with fail
    refine (FR.out _).mono ?_
    rintro e w2 ⟨rfl, hb⟩
    have L : Below w1.heap.size w1 w2 := (Below.refl _ _).trans (hb.mono (by simp <;> omega))
    have K2 : Below w.heap.size w w2 := K1.trans (L.mono K1.size)
    have t0 := Rg.keep L lt t0
    have t1 := Rg.keep L lt t1
    have t2 := Rg.keep L lt t2
    have t3 := Rg.keep L lt t3
    have t4 := Rg.keep L lt t4
    have a0 := Rg.keep L la a0
    have a1 := Rg.keep L la a1
    have lt := Nat.lt_of_lt_of_le lt L.size
    have la := Nat.lt_of_lt_of_le la L.size
    clear hb L
    go_wp2_with fail
    have hz : w2.cell? ⟨w.heap.size, 0, none⟩ = some (.int .i64 K) ∧ w2.cell? ⟨w.heap.size, 1, none⟩ = some (.int .i64 B) ∧ w2.cell? ⟨w.heap.size, 2, none⟩ = some (.int .i64 F) ∧ w2.cell? ⟨w.heap.size, 3, none⟩ = some (.int .i64 R) ∧ w2.cell? ⟨w.heap.size, 4, none⟩ = some (.int .i64 O) ∧ w2.cell? ⟨w.heap.size + 1, 0, none⟩ = some (.int .i64 n0) ∧ w2.cell? ⟨w.heap.size + 1, 1, none⟩ = some (.int .i64 d0) ∧ w2.heap.size ≤ w2.heap.size ∧ Below w.heap.size w w2 := ⟨t0, t1, t2, t3, t4, a0, a1, Nat.le_refl _, K2⟩
    clear t0 t1 t2 t3 t4 a0 a1 K2
    have HS : Hid (∀ u u' : World, (u.cell? ⟨w.heap.size, 0, none⟩ = some (.int .i64 K) ∧ u.cell? ⟨w.heap.size, 1, none⟩ = some (.int .i64 B) ∧ u.cell? ⟨w.heap.size, 2, none⟩ = some (.int .i64 F) ∧ u.cell? ⟨w.heap.size, 3, none⟩ = some (.int .i64 R) ∧ u.cell? ⟨w.heap.size, 4, none⟩ = some (.int .i64 O) ∧ u.cell? ⟨w.heap.size + 1, 0, none⟩ = some (.int .i64 n0) ∧ u.cell? ⟨w.heap.size + 1, 1, none⟩ = some (.int .i64 d0) ∧ w2.heap.size ≤ u.heap.size ∧ Below w.heap.size w u) → Below u.heap.size u u' → (u'.cell? ⟨w.heap.size, 0, none⟩ = some (.int .i64 K) ∧ u'.cell? ⟨w.heap.size, 1, none⟩ = some (.int .i64 B) ∧ u'.cell? ⟨w.heap.size, 2, none⟩ = some (.int .i64 F) ∧ u'.cell? ⟨w.heap.size, 3, none⟩ = some (.int .i64 R) ∧ u'.cell? ⟨w.heap.size, 4, none⟩ = some (.int .i64 O) ∧ u'.cell? ⟨w.heap.size + 1, 0, none⟩ = some (.int .i64 n0) ∧ u'.cell? ⟨w.heap.size + 1, 1, none⟩ = some (.int .i64 d0) ∧ w2.heap.size ≤ u'.heap.size ∧ Below w.heap.size w u')) := Lib.hid (fun u u' h hb => ⟨Rg.keep hb (Nat.lt_of_lt_of_le lt h.2.2.2.2.2.2.2.1) h.1, Rg.keep hb (Nat.lt_of_lt_of_le lt h.2.2.2.2.2.2.2.1) h.2.1, Rg.keep hb (Nat.lt_of_lt_of_le lt h.2.2.2.2.2.2.2.1) h.2.2.1, Rg.keep hb (Nat.lt_of_lt_of_le lt h.2.2.2.2.2.2.2.1) h.2.2.2.1, Rg.keep hb (Nat.lt_of_lt_of_le lt h.2.2.2.2.2.2.2.1) h.2.2.2.2.1, Rg.keep hb (Nat.lt_of_lt_of_le la h.2.2.2.2.2.2.2.1) h.2.2.2.2.2.1, Rg.keep hb (Nat.lt_of_lt_of_le la h.2.2.2.2.2.2.2.1) h.2.2.2.2.2.2.1, Nat.le_trans h.2.2.2.2.2.2.2.1 hb.size, h.2.2.2.2.2.2.2.2.trans (hb.mono h.2.2.2.2.2.2.2.2.size)⟩)
    refine wp_region_held_drew (S := fun w' => w'.cell? ⟨w.heap.size, 0, none⟩ = some (.int .i64 K) ∧ w'.cell? ⟨w.heap.size, 1, none⟩ = some (.int .i64 B) ∧ w'.cell? ⟨w.heap.size, 2, none⟩ = some (.int .i64 F) ∧ w'.cell? ⟨w.heap.size, 3, none⟩ = some (.int .i64 R) ∧ w'.cell? ⟨w.heap.size, 4, none⟩ = some (.int .i64 O) ∧ w'.cell? ⟨w.heap.size + 1, 0, none⟩ = some (.int .i64 n0) ∧ w'.cell? ⟨w.heap.size + 1, 1, none⟩ = some (.int .i64 d0) ∧ w2.heap.size ≤ w'.heap.size ∧ Below w.heap.size w w') (by kernel_rfl) (HS.out _ _ hz (Below.drew (Below.refl _ _))) (fun hHeld => ?_)
    refine Rg.take (i := 0) (v := ?_) rfl (by kernel_rfl) (by kernel_rfl) (by kernel_rfl) (fun _ _ _ h => h) (Or.inl ⟨by kernel_rfl, ?_⟩) (by assumption) ?_
    rotate_left
    · ((intro w hSw; (try dsimp only at hSw); go_simp) <;> with_reducible rfl)
    try simp only [Act.put, List.setIfInBounds_toArray, List.set_cons_zero, List.set_cons_succ]
    refine Rg.take (i := 1) (v := ?_) rfl (by kernel_rfl) (by kernel_rfl) (by kernel_rfl) (fun _ _ _ h => h) (Or.inl ⟨by kernel_rfl, ?_⟩) (by assumption) ?_
    rotate_left
    · ((intro w hSw; (try dsimp only at hSw); go_simp) <;> with_reducible rfl)
    try simp only [Act.put, List.setIfInBounds_toArray, List.set_cons_zero, List.set_cons_succ]
    refine Rg.take (i := 2) (v := ?_) rfl (by kernel_rfl) (by kernel_rfl) (by kernel_rfl) (fun _ _ _ h => h) (Or.inl ⟨by kernel_rfl, ?_⟩) (by assumption) ?_
    rotate_left
    · ((intro w hSw; (try dsimp only at hSw); go_simp) <;> with_reducible rfl)
    try simp only [Act.put, List.setIfInBounds_toArray, List.set_cons_zero, List.set_cons_succ]
    refine Rg.take (i := 4) (v := ?_) rfl (by kernel_rfl) (by kernel_rfl) (by kernel_rfl) (fun _ _ _ h => h) (Or.inl ⟨by kernel_rfl, ?_⟩) (by assumption) ?_
    rotate_left
    · ((intro w hSw; (try dsimp only at hSw); go_simp) <;> with_reducible rfl)
    try simp only [Act.put, List.setIfInBounds_toArray, List.set_cons_zero, List.set_cons_succ]
    refine Rg.take (i := 5) (v := ?_) rfl (by kernel_rfl) (by kernel_rfl) (by kernel_rfl) (fun _ _ _ h => h) (Or.inl ⟨by kernel_rfl, ?_⟩) (by assumption) ?_
    rotate_left
    · ((intro w hSw; (try dsimp only at hSw); go_simp) <;> with_reducible rfl)
    try simp only [Act.put, List.setIfInBounds_toArray, List.set_cons_zero, List.set_cons_succ]
    refine Rg.take (i := 6) (v := ?_) rfl (by kernel_rfl) (by kernel_rfl) (by kernel_rfl) (fun _ _ _ h => h) (Or.inl ⟨by kernel_rfl, ?_⟩) (by assumption) ?_
    rotate_left
    · ((intro w hSw; (try dsimp only at hSw); go_simp) <;> with_reducible rfl)
    try simp only [Act.put, List.setIfInBounds_toArray, List.set_cons_zero, List.set_cons_succ]
    refine Rg.one (i := 3) (by kernel_rfl) rfl (fun KK hK => ?_)
    rw [if_pos (by kernel_rfl)]
    go_simp
    ((with_reducible refine (RD1.out _).mono ?_); rintro e u ⟨rfl, rfl⟩)
    first | (refine hK.out _ _ hHeld (fun _ => ?_)) | (go_wp2_with fail; refine hK.out _ _ hHeld (fun _ => ?_))
    clear hK KK
    refine Rg.one (i := 7) (by kernel_rfl) rfl (fun KK hK => ?_)
    rw [if_pos (by kernel_rfl)]
    go_simp
    ((with_reducible refine (RD2.out _).mono ?_); rintro e u ⟨rfl, rfl⟩)
    first | (refine hK.out _ _ hHeld (fun _ => ?_)) | (go_wp2_with fail; refine hK.out _ _ hHeld (fun _ => ?_))
    clear hK KK
    refine Rg.take (i := 8) (v := ?_) rfl (by kernel_rfl) (by kernel_rfl) (by kernel_rfl) (fun _ _ _ h => h) (Or.inl ⟨by kernel_rfl, ?_⟩) (by assumption) ?_
    rotate_left
    · ((intro w hSw; (try dsimp only at hSw); go_simp) <;> with_reducible rfl)
    try simp only [Act.put, List.setIfInBounds_toArray, List.set_cons_zero, List.set_cons_succ]
    refine Rg.take (i := 9) (v := ?_) rfl (by kernel_rfl) (by kernel_rfl) (by kernel_rfl) (fun _ _ _ h => h) (Or.inl ⟨by kernel_rfl, ?_⟩) (by assumption) ?_
    rotate_left
    · ((intro w hSw; (try dsimp only at hSw); go_simp) <;> with_reducible rfl)
    try simp only [Act.put, List.setIfInBounds_toArray, List.set_cons_zero, List.set_cons_succ]
    refine wpAnyH_done (by kernel_rfl) ?_ _
    obtain ⟨t0, t1, t2, t3, t4, a0, a1, hsz, K3⟩ := hHeld
    have lt := Nat.lt_of_lt_of_le lt hsz
    have la := Nat.lt_of_lt_of_le la hsz
    clear hsz hz
    generalize w2.drew = yw4 at *
    go_wp2_with fail
    refine (FF.out _).mono ?_
    rintro e w5 ⟨rfl, hb⟩
    have L : Below yw4.heap.size yw4 w5 := (Below.refl _ _).trans (hb.mono (by simp <;> omega))
    have K5 : Below w.heap.size w w5 := K3.trans (L.mono K3.size)
    have t0 := Rg.keep L lt t0
    have t1 := Rg.keep L lt t1
    have t2 := Rg.keep L lt t2
    have t3 := Rg.keep L lt t3
    have t4 := Rg.keep L lt t4
    have a0 := Rg.keep L la a0
    have a1 := Rg.keep L la a1
    have lt := Nat.lt_of_lt_of_le lt L.size
    have la := Nat.lt_of_lt_of_le la L.size
    clear hb L
    go_wp2_with fail
    refine (EX.out _).mono ?_
    rintro e w6 ⟨rfl, hb⟩
    have L : Below w5.heap.size w5 w6 := ((Below.refl _ _).alloc (by simp <;> omega) _).trans (hb.mono (by simp <;> omega))
    have K6 : Below w.heap.size w w6 := K5.trans (L.mono K5.size)
    have lv : w5.heap.size < w6.heap.size := Nat.lt_of_lt_of_le (by simp <;> omega) hb.size
    have v0 : w6.cell? ⟨w5.heap.size, 0, none⟩ = some (.int .i64 v) := Rg.keep hb (by simp <;> omega) (by go_cell)
    have v1 : w6.cell? ⟨w5.heap.size, 1, none⟩ = some (.int .i64 1) := Rg.keep hb (by simp <;> omega) (by go_cell)
    have t0 := Rg.keep L lt t0
    have t1 := Rg.keep L lt t1
    have t2 := Rg.keep L lt t2
    have t3 := Rg.keep L lt t3
    have t4 := Rg.keep L lt t4
    have a0 := Rg.keep L la a0
    have a1 := Rg.keep L la a1
    have lt := Nat.lt_of_lt_of_le lt L.size
    have la := Nat.lt_of_lt_of_le la L.size
    clear hb L
    go_wp2
    go_ret
    exact ⟨rfl, K6⟩
  · clear hx2
    go_enter Try.func7, Try.ntmps7
    go_wp2_with fail
    refine (VT.out _).mono ?_
    rintro e w1 ⟨rfl, hb⟩
    have L : Below w.heap.size w w1 := (((Below.refl _ _).alloc (by simp <;> omega) _).alloc (by simp <;> omega) _).trans (hb.mono (by simp <;> omega))
    have K1 : Below w.heap.size w w1 := L
    have lt : w.heap.size < w1.heap.size := Nat.lt_of_lt_of_le (by simp <;> omega) hb.size
    have t0 : w1.cell? ⟨w.heap.size, 0, none⟩ = some (.int .i64 K) := Rg.keep hb (by simp <;> omega) (by go_cell)
    have t1 : w1.cell? ⟨w.heap.size, 1, none⟩ = some (.int .i64 B) := Rg.keep hb (by simp <;> omega) (by go_cell)
    have t2 : w1.cell? ⟨w.heap.size, 2, none⟩ = some (.int .i64 F) := Rg.keep hb (by simp <;> omega) (by go_cell)
    have t3 : w1.cell? ⟨w.heap.size, 3, none⟩ = some (.int .i64 R) := Rg.keep hb (by simp <;> omega) (by go_cell)
    have t4 : w1.cell? ⟨w.heap.size, 4, none⟩ = some (.int .i64 O) := Rg.keep hb (by simp <;> omega) (by go_cell)
    have la : w.heap.size + 1 < w1.heap.size := Nat.lt_of_lt_of_le (by simp <;> omega) hb.size
    have a0 : w1.cell? ⟨w.heap.size + 1, 0, none⟩ = some (.int .i64 n0) := Rg.keep hb (by simp <;> omega) (by go_cell)
    have a1 : w1.cell? ⟨w.heap.size + 1, 1, none⟩ = some (.int .i64 d0) := Rg.keep hb (by simp <;> omega) (by go_cell)
    clear hb L
    go_wp2_with fail
    refine (FR.out _).mono ?_
    rintro e w2 ⟨rfl, hb⟩
    have L : Below w1.heap.size w1 w2 := (Below.refl _ _).trans (hb.mono (by simp <;> omega))
    have K2 : Below w.heap.size w w2 := K1.trans (L.mono K1.size)
    have t0 := Rg.keep L lt t0
    have t1 := Rg.keep L lt t1
    have t2 := Rg.keep L lt t2
    have t3 := Rg.keep L lt t3
    have t4 := Rg.keep L lt t4
    have a0 := Rg.keep L la a0
    have a1 := Rg.keep L la a1
    have lt := Nat.lt_of_lt_of_le lt L.size
    have la := Nat.lt_of_lt_of_le la L.size
    clear hb L
    go_wp2_with fail
    have hz : w2.cell? ⟨w.heap.size, 0, none⟩ = some (.int .i64 K) ∧ w2.cell? ⟨w.heap.size, 1, none⟩ = some (.int .i64 B) ∧ w2.cell? ⟨w.heap.size, 2, none⟩ = some (.int .i64 F) ∧ w2.cell? ⟨w.heap.size, 3, none⟩ = some (.int .i64 R) ∧ w2.cell? ⟨w.heap.size, 4, none⟩ = some (.int .i64 O) ∧ w2.cell? ⟨w.heap.size + 1, 0, none⟩ = some (.int .i64 n0) ∧ w2.cell? ⟨w.heap.size + 1, 1, none⟩ = some (.int .i64 d0) ∧ w2.heap.size ≤ w2.heap.size ∧ Below w.heap.size w w2 := ⟨t0, t1, t2, t3, t4, a0, a1, Nat.le_refl _, K2⟩
    clear t0 t1 t2 t3 t4 a0 a1 K2
    have HS : Hid (∀ u u' : World, (u.cell? ⟨w.heap.size, 0, none⟩ = some (.int .i64 K) ∧ u.cell? ⟨w.heap.size, 1, none⟩ = some (.int .i64 B) ∧ u.cell? ⟨w.heap.size, 2, none⟩ = some (.int .i64 F) ∧ u.cell? ⟨w.heap.size, 3, none⟩ = some (.int .i64 R) ∧ u.cell? ⟨w.heap.size, 4, none⟩ = some (.int .i64 O) ∧ u.cell? ⟨w.heap.size + 1, 0, none⟩ = some (.int .i64 n0) ∧ u.cell? ⟨w.heap.size + 1, 1, none⟩ = some (.int .i64 d0) ∧ w2.heap.size ≤ u.heap.size ∧ Below w.heap.size w u) → Below u.heap.size u u' → (u'.cell? ⟨w.heap.size, 0, none⟩ = some (.int .i64 K) ∧ u'.cell? ⟨w.heap.size, 1, none⟩ = some (.int .i64 B) ∧ u'.cell? ⟨w.heap.size, 2, none⟩ = some (.int .i64 F) ∧ u'.cell? ⟨w.heap.size, 3, none⟩ = some (.int .i64 R) ∧ u'.cell? ⟨w.heap.size, 4, none⟩ = some (.int .i64 O) ∧ u'.cell? ⟨w.heap.size + 1, 0, none⟩ = some (.int .i64 n0) ∧ u'.cell? ⟨w.heap.size + 1, 1, none⟩ = some (.int .i64 d0) ∧ w2.heap.size ≤ u'.heap.size ∧ Below w.heap.size w u')) := Lib.hid (fun u u' h hb => ⟨Rg.keep hb (Nat.lt_of_lt_of_le lt h.2.2.2.2.2.2.2.1) h.1, Rg.keep hb (Nat.lt_of_lt_of_le lt h.2.2.2.2.2.2.2.1) h.2.1, Rg.keep hb (Nat.lt_of_lt_of_le lt h.2.2.2.2.2.2.2.1) h.2.2.1, Rg.keep hb (Nat.lt_of_lt_of_le lt h.2.2.2.2.2.2.2.1) h.2.2.2.1, Rg.keep hb (Nat.lt_of_lt_of_le lt h.2.2.2.2.2.2.2.1) h.2.2.2.2.1, Rg.keep hb (Nat.lt_of_lt_of_le la h.2.2.2.2.2.2.2.1) h.2.2.2.2.2.1, Rg.keep hb (Nat.lt_of_lt_of_le la h.2.2.2.2.2.2.2.1) h.2.2.2.2.2.2.1, Nat.le_trans h.2.2.2.2.2.2.2.1 hb.size, h.2.2.2.2.2.2.2.2.trans (hb.mono h.2.2.2.2.2.2.2.2.size)⟩)
    refine wp_region_held_drew (S := fun w' => w'.cell? ⟨w.heap.size, 0, none⟩ = some (.int .i64 K) ∧ w'.cell? ⟨w.heap.size, 1, none⟩ = some (.int .i64 B) ∧ w'.cell? ⟨w.heap.size, 2, none⟩ = some (.int .i64 F) ∧ w'.cell? ⟨w.heap.size, 3, none⟩ = some (.int .i64 R) ∧ w'.cell? ⟨w.heap.size, 4, none⟩ = some (.int .i64 O) ∧ w'.cell? ⟨w.heap.size + 1, 0, none⟩ = some (.int .i64 n0) ∧ w'.cell? ⟨w.heap.size + 1, 1, none⟩ = some (.int .i64 d0) ∧ w2.heap.size ≤ w'.heap.size ∧ Below w.heap.size w w') (by kernel_rfl) (HS.out _ _ hz (Below.drew (Below.refl _ _))) (fun hHeld => ?_)
    refine Rg.take (i := 0) (v := ?_) rfl (by kernel_rfl) (by kernel_rfl) (by kernel_rfl) (fun _ _ _ h => h) (Or.inl ⟨by kernel_rfl, ?_⟩) (by assumption) ?_
    rotate_left
    · ((intro w hSw; (try dsimp only at hSw); go_simp) <;> with_reducible rfl)
    try simp only [Act.put, List.setIfInBounds_toArray, List.set_cons_zero, List.set_cons_succ]
    refine Rg.take (i := 1) (v := ?_) rfl (by kernel_rfl) (by kernel_rfl) (by kernel_rfl) (fun _ _ _ h => h) (Or.inl ⟨by kernel_rfl, ?_⟩) (by assumption) ?_
    rotate_left
    · ((intro w hSw; (try dsimp only at hSw); go_simp) <;> with_reducible rfl)
    try simp only [Act.put, List.setIfInBounds_toArray, List.set_cons_zero, List.set_cons_succ]
    refine Rg.take (i := 2) (v := ?_) rfl (by kernel_rfl) (by kernel_rfl) (by kernel_rfl) (fun _ _ _ h => h) (Or.inl ⟨by kernel_rfl, ?_⟩) (by assumption) ?_
    rotate_left
    · ((intro w hSw; (try dsimp only at hSw); go_simp) <;> with_reducible rfl)
    try simp only [Act.put, List.setIfInBounds_toArray, List.set_cons_zero, List.set_cons_succ]
    refine Rg.take (i := 4) (v := ?_) rfl (by kernel_rfl) (by kernel_rfl) (by kernel_rfl) (fun _ _ _ h => h) (Or.inl ⟨by kernel_rfl, ?_⟩) (by assumption) ?_
    rotate_left
    · ((intro w hSw; (try dsimp only at hSw); go_simp) <;> with_reducible rfl)
    try simp only [Act.put, List.setIfInBounds_toArray, List.set_cons_zero, List.set_cons_succ]
    refine Rg.take (i := 5) (v := ?_) rfl (by kernel_rfl) (by kernel_rfl) (by kernel_rfl) (fun _ _ _ h => h) (Or.inl ⟨by kernel_rfl, ?_⟩) (by assumption) ?_
    rotate_left
    · ((intro w hSw; (try dsimp only at hSw); go_simp) <;> with_reducible rfl)
    try simp only [Act.put, List.setIfInBounds_toArray, List.set_cons_zero, List.set_cons_succ]
    refine Rg.take (i := 6) (v := ?_) rfl (by kernel_rfl) (by kernel_rfl) (by kernel_rfl) (fun _ _ _ h => h) (Or.inl ⟨by kernel_rfl, ?_⟩) (by assumption) ?_
    rotate_left
    · ((intro w hSw; (try dsimp only at hSw); go_simp) <;> with_reducible rfl)
    try simp only [Act.put, List.setIfInBounds_toArray, List.set_cons_zero, List.set_cons_succ]
    refine Rg.one (i := 3) (by kernel_rfl) rfl (fun KK hK => ?_)
    rw [if_pos (by kernel_rfl)]
    go_simp
    ((with_reducible refine (RD1.out _).mono ?_); rintro e u ⟨rfl, rfl⟩)
    first | (refine hK.out _ _ hHeld (fun _ => ?_)) | (go_wp2_with fail; refine hK.out _ _ hHeld (fun _ => ?_))
    clear hK KK
    refine Rg.one (i := 7) (by kernel_rfl) rfl (fun KK hK => ?_)
    rw [if_pos (by kernel_rfl)]
    go_simp
    ((with_reducible refine (RD2.out _).mono ?_); rintro e u ⟨rfl, rfl⟩)
    first | (refine hK.out _ _ hHeld (fun _ => ?_)) | (go_wp2_with fail; refine hK.out _ _ hHeld (fun _ => ?_))
    clear hK KK
    refine Rg.take (i := 8) (v := ?_) rfl (by kernel_rfl) (by kernel_rfl) (by kernel_rfl) (fun _ _ _ h => h) (Or.inl ⟨by kernel_rfl, ?_⟩) (by assumption) ?_
    rotate_left
    · ((intro w hSw; (try dsimp only at hSw); go_simp) <;> with_reducible rfl)
    try simp only [Act.put, List.setIfInBounds_toArray, List.set_cons_zero, List.set_cons_succ]
    refine Rg.take (i := 9) (v := ?_) rfl (by kernel_rfl) (by kernel_rfl) (by kernel_rfl) (fun _ _ _ h => h) (Or.inl ⟨by kernel_rfl, ?_⟩) (by assumption) ?_
    rotate_left
    · ((intro w hSw; (try dsimp only at hSw); go_simp) <;> with_reducible rfl)
    try simp only [Act.put, List.setIfInBounds_toArray, List.set_cons_zero, List.set_cons_succ]
    refine wpAnyH_done (by kernel_rfl) ?_ _
    obtain ⟨t0, t1, t2, t3, t4, a0, a1, hsz, K3⟩ := hHeld
    have lt := Nat.lt_of_lt_of_le lt hsz
    have la := Nat.lt_of_lt_of_le la hsz
    clear hsz hz
    generalize w2.drew = yw4 at *
    go_wp2_with fail
    refine (FF.out _).mono ?_
    rintro e w5 ⟨rfl, hb⟩
    have L : Below yw4.heap.size yw4 w5 := (Below.refl _ _).trans (hb.mono (by simp <;> omega))
    have K5 : Below w.heap.size w w5 := K3.trans (L.mono K3.size)
    have t0 := Rg.keep L lt t0
    have t1 := Rg.keep L lt t1
    have t2 := Rg.keep L lt t2
    have t3 := Rg.keep L lt t3
    have t4 := Rg.keep L lt t4
    have a0 := Rg.keep L la a0
    have a1 := Rg.keep L la a1
    have lt := Nat.lt_of_lt_of_le lt L.size
    have la := Nat.lt_of_lt_of_le la L.size
    clear hb L
    go_wp2_with fail
    refine (EX.out _).mono ?_
    rintro e w6 ⟨rfl, hb⟩
    have L : Below w5.heap.size w5 w6 := ((Below.refl _ _).alloc (by simp <;> omega) _).trans (hb.mono (by simp <;> omega))
    have K6 : Below w.heap.size w w6 := K5.trans (L.mono K5.size)
    have lv : w5.heap.size < w6.heap.size := Nat.lt_of_lt_of_le (by simp <;> omega) hb.size
    have v0 : w6.cell? ⟨w5.heap.size, 0, none⟩ = some (.int .i64 v) := Rg.keep hb (by simp <;> omega) (by go_cell)
    have v1 : w6.cell? ⟨w5.heap.size, 1, none⟩ = some (.int .i64 1) := Rg.keep hb (by simp <;> omega) (by go_cell)
    have t0 := Rg.keep L lt t0
    have t1 := Rg.keep L lt t1
    have t2 := Rg.keep L lt t2
    have t3 := Rg.keep L lt t3
    have t4 := Rg.keep L lt t4
    have a0 := Rg.keep L la a0
    have a1 := Rg.keep L la a1
    have lt := Nat.lt_of_lt_of_le lt L.size
    have la := Nat.lt_of_lt_of_le la L.size
    clear hb L
    go_wp2
    go_ret
    exact ⟨rfl, K6⟩
end Go.Proofs.Ytaagegiehjpgiaa.Fx
