/- ToFrac of package fixed and of the reference. -/
import Derived.Test.YtikcinkbkakkmaaGreatDoorGG
import Derived.Test.YtikcinkbkakkmaaGreatDoorGB
import Derived.Test.YtikcinkbkakkmaaGreatDoorMath

namespace Go.Proofs.YtikcinkbkakkmaaGreatDoor.Fx
open Go.ChangeShapes Go.WideShapes Go.ChangeAt Go.RowKit
open Fr
set_option maxRecDepth 8000
set_option linter.unusedVariables false
set_option linter.unusedSimpArgs false
/-- A number and a power of two, both halved as long as the number is even. -/
def red : Int → Nat → Int × Nat
  | n, 0 => (n, 0)
  | n, m + 1 => if n % 2 = 0 then red (n / 2) m else (n, m + 1)
set_option maxHeartbeats 8000000 in
theorem tf_bad (K B F R O n0 d0 c : Int) (w : World) (hc : (c != 0) = true) (CH : Hid (∀ (w : World) (x : Nat), x < w.heap.size → w.cell? ⟨x, 0, none⟩ = some (.int .i64 n0) → w.cell? ⟨x, 1, none⟩ = some (.int .i64 d0) →
      Calls Tryz.prog 102 #[.agg #[.int .i64 K, .int .i64 B, .int .i64 F, .int .i64 R, .int .i64 O], .slice (some ⟨x, 0, none⟩) 1 1] w (Ret (.int .i64 c) w))) : Calls Tryz.prog 90 #[.agg #[.int .i64 K, .int .i64 B, .int .i64 F, .int .i64 R, .int .i64 O], .agg #[.int .i64 n0, .int .i64 d0]] w (Ret (Frac3 0 0 c) w) := by
  go_enter Tryz.func90, Tryz.ntmps90
  go_wp2_with fail
  refine (CH.out _ _ (by simp <;> omega) (by go_cell) (by go_cell)).mono ?_
  rintro e w1 ⟨rfl, hb⟩
  have L : Below w.heap.size w w1 := (((((Below.refl _ _).alloc (by simp <;> omega) _).alloc (by simp <;> omega) _).alloc (by simp <;> omega) _).alloc (by simp <;> omega) _).trans (hb.mono (by simp <;> omega))
  have K1 : Below w.heap.size w w1 := L
  have RF0 : w1.frozen? ⟨w.heap.size + 1 + 1, 0, none⟩ = false := Rg.keepF hb (by simp <;> omega) (by simp only [frozen?_alloc_cells]; exact Rg.notFrozen (by omega))
  have RF1 : w1.frozen? ⟨w.heap.size + 1 + 1, 1, none⟩ = false := Rg.keepF hb (by simp <;> omega) (by simp only [frozen?_alloc_cells]; exact Rg.notFrozen (by omega))
  have lt : w.heap.size < w1.heap.size := Nat.lt_of_lt_of_le (by simp <;> omega) hb.size
  have t0 : w1.cell? ⟨w.heap.size, 0, none⟩ = some (.int .i64 K) := Rg.keep hb (by simp <;> omega) (by go_cell)
  have t1 : w1.cell? ⟨w.heap.size, 1, none⟩ = some (.int .i64 B) := Rg.keep hb (by simp <;> omega) (by go_cell)
  have t2 : w1.cell? ⟨w.heap.size, 2, none⟩ = some (.int .i64 F) := Rg.keep hb (by simp <;> omega) (by go_cell)
  have t3 : w1.cell? ⟨w.heap.size, 3, none⟩ = some (.int .i64 R) := Rg.keep hb (by simp <;> omega) (by go_cell)
  have t4 : w1.cell? ⟨w.heap.size, 4, none⟩ = some (.int .i64 O) := Rg.keep hb (by simp <;> omega) (by go_cell)
  have la : w.heap.size + 1 < w1.heap.size := Nat.lt_of_lt_of_le (by simp <;> omega) hb.size
  have a0 : w1.cell? ⟨w.heap.size + 1, 0, none⟩ = some (.int .i64 n0) := Rg.keep hb (by simp <;> omega) (by go_cell)
  have a1 : w1.cell? ⟨w.heap.size + 1, 1, none⟩ = some (.int .i64 d0) := Rg.keep hb (by simp <;> omega) (by go_cell)
  have lr : w.heap.size + 1 + 1 < w1.heap.size := Nat.lt_of_lt_of_le (by simp <;> omega) hb.size
  have r0 : w1.cell? ⟨w.heap.size + 1 + 1, 0, none⟩ = some (.int .i64 0) := Rg.keep hb (by simp <;> omega) (by go_cell)
  have r1 : w1.cell? ⟨w.heap.size + 1 + 1, 1, none⟩ = some (.int .i64 0) := Rg.keep hb (by simp <;> omega) (by go_cell)
  have ls : w.heap.size + 1 + 1 + 1 < w1.heap.size := Nat.lt_of_lt_of_le (by simp <;> omega) hb.size
  have s0 : w1.cell? ⟨w.heap.size + 1 + 1 + 1, 0, none⟩ = some (.int .i64 n0) := Rg.keep hb (by simp <;> omega) (by go_cell)
  have s1 : w1.cell? ⟨w.heap.size + 1 + 1 + 1, 1, none⟩ = some (.int .i64 d0) := Rg.keep hb (by simp <;> omega) (by go_cell)
  clear hb L
  clear s0 s1
  have hRC := (⟨⟨_, r0⟩, ⟨_, r1⟩, RF0, RF1⟩ : Rg.RC (w.heap.size + 1 + 1) w1)
  have z0 : w.heap.size ≤ w.heap.size + 1 + 1 := by omega
  go_wp2
  have f0 := Rg.RC.read00 (x := 0) hRC
  have f1 := Rg.RC.read1 (x := 0) (y := 0) hRC
  refine bodyPost_ret (v := Frac3 (0) (0) (c)) (by simp [results, Tryz.results90, go_sem, f0, f1]) rfl ⟨rfl, ?_⟩
  exact Below.setCell (Below.setCell K1 z0 _) z0 _
set_option maxHeartbeats 8000000 in
theorem tf_ok (K B F R O n0 d0 p x y e : Int) (w : World) (hp : (2 : Int) ^ F.toNat = p) (p0 : 1 ≤ p) (p1 : p ≤ 1073741824) (f0 : 0 ≤ F) (f1 : F ≤ 30) (CH : Hid (∀ (w : World) (x : Nat), x < w.heap.size → w.cell? ⟨x, 0, none⟩ = some (.int .i64 n0) → w.cell? ⟨x, 1, none⟩ = some (.int .i64 d0) →
      Calls Tryz.prog 102 #[.agg #[.int .i64 K, .int .i64 B, .int .i64 F, .int .i64 R, .int .i64 O], .slice (some ⟨x, 0, none⟩) 1 1] w (Ret (.int .i64 0) w))) (NW : Hid (∀ w, Calls Tryz.prog 97 #[.int .i64 n0, .int .i64 p] w (Ret (Frac3 x y e) w))) : Calls Tryz.prog 90 #[.agg #[.int .i64 K, .int .i64 B, .int .i64 F, .int .i64 R, .int .i64 O], .agg #[.int .i64 n0, .int .i64 d0]] w (Ret (Frac3 x y e) w) := by
  go_enter Tryz.func90, Tryz.ntmps90
  go_wp2_with fail
  refine (CH.out _ _ (by simp <;> omega) (by go_cell) (by go_cell)).mono ?_
  rintro e w1 ⟨rfl, hb⟩
  have L : Below w.heap.size w w1 := (((((Below.refl _ _).alloc (by simp <;> omega) _).alloc (by simp <;> omega) _).alloc (by simp <;> omega) _).alloc (by simp <;> omega) _).trans (hb.mono (by simp <;> omega))
  have K1 : Below w.heap.size w w1 := L
  have RF0 : w1.frozen? ⟨w.heap.size + 1 + 1, 0, none⟩ = false := Rg.keepF hb (by simp <;> omega) (by simp only [frozen?_alloc_cells]; exact Rg.notFrozen (by omega))
  have RF1 : w1.frozen? ⟨w.heap.size + 1 + 1, 1, none⟩ = false := Rg.keepF hb (by simp <;> omega) (by simp only [frozen?_alloc_cells]; exact Rg.notFrozen (by omega))
  have lt : w.heap.size < w1.heap.size := Nat.lt_of_lt_of_le (by simp <;> omega) hb.size
  have t0 : w1.cell? ⟨w.heap.size, 0, none⟩ = some (.int .i64 K) := Rg.keep hb (by simp <;> omega) (by go_cell)
  have t1 : w1.cell? ⟨w.heap.size, 1, none⟩ = some (.int .i64 B) := Rg.keep hb (by simp <;> omega) (by go_cell)
  have t2 : w1.cell? ⟨w.heap.size, 2, none⟩ = some (.int .i64 F) := Rg.keep hb (by simp <;> omega) (by go_cell)
  have t3 : w1.cell? ⟨w.heap.size, 3, none⟩ = some (.int .i64 R) := Rg.keep hb (by simp <;> omega) (by go_cell)
  have t4 : w1.cell? ⟨w.heap.size, 4, none⟩ = some (.int .i64 O) := Rg.keep hb (by simp <;> omega) (by go_cell)
  have la : w.heap.size + 1 < w1.heap.size := Nat.lt_of_lt_of_le (by simp <;> omega) hb.size
  have a0 : w1.cell? ⟨w.heap.size + 1, 0, none⟩ = some (.int .i64 n0) := Rg.keep hb (by simp <;> omega) (by go_cell)
  have a1 : w1.cell? ⟨w.heap.size + 1, 1, none⟩ = some (.int .i64 d0) := Rg.keep hb (by simp <;> omega) (by go_cell)
  have lr : w.heap.size + 1 + 1 < w1.heap.size := Nat.lt_of_lt_of_le (by simp <;> omega) hb.size
  have r0 : w1.cell? ⟨w.heap.size + 1 + 1, 0, none⟩ = some (.int .i64 0) := Rg.keep hb (by simp <;> omega) (by go_cell)
  have r1 : w1.cell? ⟨w.heap.size + 1 + 1, 1, none⟩ = some (.int .i64 0) := Rg.keep hb (by simp <;> omega) (by go_cell)
  have ls : w.heap.size + 1 + 1 + 1 < w1.heap.size := Nat.lt_of_lt_of_le (by simp <;> omega) hb.size
  have s0 : w1.cell? ⟨w.heap.size + 1 + 1 + 1, 0, none⟩ = some (.int .i64 n0) := Rg.keep hb (by simp <;> omega) (by go_cell)
  have s1 : w1.cell? ⟨w.heap.size + 1 + 1 + 1, 1, none⟩ = some (.int .i64 d0) := Rg.keep hb (by simp <;> omega) (by go_cell)
  clear hb L
  clear s0 s1
  go_wp2_with fail
  have hz : w1.cell? ⟨w.heap.size, 2, none⟩ = some (.int .i64 F) ∧ w1.cell? ⟨w.heap.size + 1, 0, none⟩ = some (.int .i64 n0) ∧ Rg.RC (w.heap.size + 1 + 1) w1 ∧ w1.heap.size ≤ w1.heap.size ∧ Below w.heap.size w w1 := ⟨t2, a0, (⟨⟨_, r0⟩, ⟨_, r1⟩, RF0, RF1⟩ : Rg.RC (w.heap.size + 1 + 1) w1), Nat.le_refl _, K1⟩
  have z0 : w.heap.size ≤ w.heap.size + 1 + 1 := by omega
  have ne0 : w.heap.size + 1 + 1 ≠ w.heap.size := by omega
  have ne1 : w.heap.size + 1 + 1 ≠ w.heap.size + 1 := by omega
  clear t0 t1 t2 t3 t4 a0 a1 r0 r1 RF0 RF1 K1
  have m2 : IntKind.i64.wrap p = p := IntWalk.i64_in _ ⟨by omega, by omega⟩
  have HS : Hid (∀ u u' : World, (u.cell? ⟨w.heap.size, 2, none⟩ = some (.int .i64 F) ∧ u.cell? ⟨w.heap.size + 1, 0, none⟩ = some (.int .i64 n0) ∧ Rg.RC (w.heap.size + 1 + 1) u ∧ w1.heap.size ≤ u.heap.size ∧ Below w.heap.size w u) → Below u.heap.size u u' → (u'.cell? ⟨w.heap.size, 2, none⟩ = some (.int .i64 F) ∧ u'.cell? ⟨w.heap.size + 1, 0, none⟩ = some (.int .i64 n0) ∧ Rg.RC (w.heap.size + 1 + 1) u' ∧ w1.heap.size ≤ u'.heap.size ∧ Below w.heap.size w u')) := Lib.hid (fun u u' h hb => ⟨Rg.keep hb (Nat.lt_of_lt_of_le lt h.2.2.2.1) h.1, Rg.keep hb (Nat.lt_of_lt_of_le la h.2.2.2.1) h.2.1, Rg.RC.keep hb (Nat.lt_of_lt_of_le lr h.2.2.2.1) h.2.2.1, Nat.le_trans h.2.2.2.1 hb.size, h.2.2.2.2.trans (hb.mono h.2.2.2.2.size)⟩)
  refine wp_region_held_drew (S := fun w' => w'.cell? ⟨w.heap.size, 2, none⟩ = some (.int .i64 F) ∧ w'.cell? ⟨w.heap.size + 1, 0, none⟩ = some (.int .i64 n0) ∧ Rg.RC (w.heap.size + 1 + 1) w' ∧ w1.heap.size ≤ w'.heap.size ∧ Below w.heap.size w w') (by kernel_rfl) (HS.out _ _ hz (Below.drew (Below.refl _ _))) (fun hHeld => ?_)
  refine Rg.take (i := 0) (v := ?_) rfl (by kernel_rfl) (by kernel_rfl) (by kernel_rfl) (fun _ _ _ h => h) (Or.inl ⟨by kernel_rfl, ?_⟩) (by assumption) ?_
  rotate_left
  · ((intro w hSw; (try dsimp only at hSw); go_simp) <;> with_reducible rfl)
  try simp only [Act.put, List.setIfInBounds_toArray, List.set_cons_zero, List.set_cons_succ]
  refine Rg.take (i := 1) (v := ?_) rfl (by kernel_rfl) (by kernel_rfl) (by kernel_rfl) (fun _ _ _ h => h) (Or.inl ⟨by kernel_rfl, ?_⟩) (by assumption) ?_
  rotate_left
  · ((intro w hSw; (try dsimp only at hSw); go_simp) <;> with_reducible rfl)
  try simp only [Act.put, List.setIfInBounds_toArray, List.set_cons_zero, List.set_cons_succ]
  refine Rg.take (i := 2) (v := ?_) rfl (by kernel_rfl) (by kernel_rfl) (by kernel_rfl) (fun _ _ _ h => h) (Or.inl ⟨by kernel_rfl, ?_⟩) (by assumption) ?_
  rotate_left
  · ((intro w hSw; (try dsimp only at hSw); go_simp) <;> with_reducible rfl)
  try simp only [Act.put, List.setIfInBounds_toArray, List.set_cons_zero, List.set_cons_succ]
  refine Rg.take (i := 3) (v := ?_) rfl (by kernel_rfl) (by kernel_rfl) (by kernel_rfl) (fun _ _ _ h => h) (Or.inl ⟨by kernel_rfl, ?_⟩) (by assumption) ?_
  rotate_left
  · ((intro w hSw; (try dsimp only at hSw); go_simp) <;> with_reducible rfl)
  try simp only [Act.put, List.setIfInBounds_toArray, List.set_cons_zero, List.set_cons_succ]
  refine Rg.take (i := 4) (v := ?_) rfl (by kernel_rfl) (by kernel_rfl) (by kernel_rfl) (fun _ _ _ h => h) (Or.inl ⟨by kernel_rfl, ?_⟩) (by assumption) ?_
  rotate_left
  · ((intro w hSw; (try dsimp only at hSw); go_simp) <;> with_reducible rfl)
  try simp only [Act.put, List.setIfInBounds_toArray, List.set_cons_zero, List.set_cons_succ]
  refine Rg.one (i := 5) (by kernel_rfl) rfl (fun KK hK => ?_)
  rw [if_pos (by kernel_rfl)]
  go_simp
  ((with_reducible refine (NW.out _).mono ?_); rintro e u ⟨rfl, hb⟩)
  have hNew := HS.out _ _ hHeld hb
  first | (refine hK.out _ _ hNew (fun _ => ?_)) | (go_wp2_with fail; refine hK.out _ _ hNew (fun _ => ?_))
  clear hK KK hHeld hb
  have hHeld := hNew
  clear hNew
  refine Rg.take (i := 6) (v := ?_) rfl (by kernel_rfl) (by kernel_rfl) (by kernel_rfl) (fun _ _ _ h => h) (Or.inl ⟨by kernel_rfl, ?_⟩) (by assumption) ?_
  rotate_left
  · ((intro w hSw; (try dsimp only at hSw); go_simp) <;> with_reducible rfl)
  try simp only [Act.put, List.setIfInBounds_toArray, List.set_cons_zero, List.set_cons_succ]
  refine Rg.take (i := 7) (v := ?_) rfl (by kernel_rfl) (by kernel_rfl) (by kernel_rfl) (fun _ _ _ h => h) (Or.inl ⟨by kernel_rfl, ?_⟩) (by assumption) ?_
  rotate_left
  · ((intro w hSw; (try dsimp only at hSw); go_simp) <;> with_reducible rfl)
  try simp only [Act.put, List.setIfInBounds_toArray, List.set_cons_zero, List.set_cons_succ]
  refine Rg.one (i := 8) (by kernel_rfl) rfl (fun KK hK => ?_)
  rw [if_pos (by kernel_rfl)]
  obtain ⟨⟨ra, rca⟩, ⟨rb, rcb⟩, rcf, rcg⟩ := hHeld.2.2.1
  go_simp
  have hRC : Rg.RC (w.heap.size + 1 + 1) _ := hHeld.2.2.1
  refine hK.out _ _ ⟨Rg.far ne0 hHeld.1, Rg.far ne1 hHeld.2.1, Rg.RC.store hHeld.2.2.1, by rw [Rg.size2]; exact hHeld.2.2.2.1, Below.setCell (Below.setCell hHeld.2.2.2.2 z0 _) z0 _⟩ (fun hNew => ?_)
  clear hK KK hHeld rca rcb rcf rcg
  have hHeld := hNew
  clear hNew
  refine Rg.take (i := 9) (v := ?_) rfl (by kernel_rfl) (by kernel_rfl) (by kernel_rfl) (fun _ _ _ h => h) (Or.inl ⟨by kernel_rfl, ?_⟩) (by assumption) ?_
  rotate_left
  · ((intro w hSw; (try dsimp only at hSw); go_simp) <;> with_reducible rfl)
  try simp only [Act.put, List.setIfInBounds_toArray, List.set_cons_zero, List.set_cons_succ]
  refine wpAnyH_done (by kernel_rfl) ?_ _
  clear m2
  have f0 := Rg.RC.read00 (x := x) hRC
  have f1 := Rg.RC.read1 (x := x) (y := y) hRC
  go_wp2
  refine bodyPost_ret (v := Frac3 (x) (y) (e)) (by simp [results, Tryz.results90, go_sem, f0, f1]) rfl ⟨rfl, hHeld.2.2.2.2⟩
theorem red_bound : ∀ (m : Nat) (n : Int), (red n m).1.natAbs ≤ n.natAbs
  | 0, n => Nat.le_refl _
  | m + 1, n => by
    unfold red
    split
    · have := red_bound m (n / 2); omega
    · exact Nat.le_refl _
theorem red_odd {n : Int} {m : Nat} (h : n % 2 ≠ 0) : red n m = (n, m) := by
  cases m with
  | zero => rfl
  | succ m => unfold red; rw [if_neg h]
theorem red_even {n : Int} {m : Nat} (h : n % 2 = 0) : red n (m + 1) = red (n / 2) m := by
  show (if n % 2 = 0 then red (n / 2) m else (n, m + 1)) = _
  rw [if_pos h]
theorem tdiv_even {M : Int} (h : M % 2 = 0) : M.tdiv 2 = M / 2 := by
  obtain ⟨q, hq⟩ : ∃ q, M / 2 = q := ⟨_, rfl⟩
  have e : M = 2 * q := by omega
  rw [hq, e, Int.mul_tdiv_cancel_left _ (by decide)]
theorem Frac3_eq {a b c a' b' c' : Int} (h : a = a') (h' : b = b') : Frac3 a b c = Frac3 a' b' c := by rw [h, h']
theorem bnd2 (m : Nat) (h : m ≤ 30) : 1 ≤ (2 : Int) ^ m ∧ (2 : Int) ^ m ≤ 1073741824 := by
  have h1 : 0 < (2 : Nat) ^ m := Nat.pow_pos (by decide)
  have h2 : (2 : Nat) ^ m ≤ 2 ^ 30 := Nat.pow_le_pow_right (by decide) h
  have h3 : ((2 : Nat) ^ m : Nat) = (2 : Int) ^ m := by push_cast; rfl
  have h4 : (2 : Nat) ^ 30 = 1073741824 := by decide
  omega
end Go.Proofs.YtikcinkbkakkmaaGreatDoor.Fx
