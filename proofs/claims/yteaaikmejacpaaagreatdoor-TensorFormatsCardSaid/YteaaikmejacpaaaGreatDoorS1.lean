/- ValidateType of the reference; Valid of package fixed. -/
import Derived.Test.YteaaikmejacpaaaGreatDoorS0

namespace Go.Proofs.YteaaikmejacpaaaGreatDoor.Fx
open Go.ChangeShapes Go.WideShapes Go.ChangeAt Go.RowKit
open Fr
set_option linter.unusedVariables false
set_option linter.unusedSimpArgs false
theorem below2 (w : World) (a b : Obj) : Below w.heap.size w ((w.alloc a).alloc b) := ((Below.refl _ _).alloc (Nat.le_refl _) _).alloc (by simp) _
set_option maxHeartbeats 4000000 in
theorem fval_tv (K B F R O n d lo hi : Int) (w : World) (VT : Hid (∀ w, Calls Tryz.prog 81 #[.agg #[.int .i64 K, .int .i64 B, .int .i64 F, .int .i64 R, .int .i64 O]] w (Ret (.int .i64 10) w)))
  (MN : Hid (∀ w, Calls Tryz.prog 111 #[.int .i64 B] w fun e w' => e = .returned (.int .i64 lo) /\ w = w')) (MX : Hid (∀ w, Calls Tryz.prog 112 #[.int .i64 B] w fun e w' => e = .returned (.int .i64 hi) /\ w = w'))  :
  Calls Tryz.prog 86 #[.agg #[.int .i64 K, .int .i64 B, .int .i64 F, .int .i64 R, .int .i64 O], .agg #[.int .i64 n, .int .i64 d]] w (Ret (.bool false) w) := by
 go_enter Tryz.func86, Tryz.ntmps86
 have K0 : Below w.heap.size w ((w.alloc (.cells #[.int .i64 K, .int .i64 B, .int .i64 F, .int .i64 R, .int .i64 O] 23)).alloc (.cells #[.int .i64 n, .int .i64 d] 29)) := below2 _ _ _
 have c0 : ((w.alloc (.cells #[.int .i64 K, .int .i64 B, .int .i64 F, .int .i64 R, .int .i64 O] 23)).alloc (.cells #[.int .i64 n, .int .i64 d] 29)).cell? ⟨w.heap.size, 0, none⟩ = some (.int .i64 K) := by go_cell
 have c1 : ((w.alloc (.cells #[.int .i64 K, .int .i64 B, .int .i64 F, .int .i64 R, .int .i64 O] 23)).alloc (.cells #[.int .i64 n, .int .i64 d] 29)).cell? ⟨w.heap.size, 1, none⟩ = some (.int .i64 B) := by go_cell
 have c2 : ((w.alloc (.cells #[.int .i64 K, .int .i64 B, .int .i64 F, .int .i64 R, .int .i64 O] 23)).alloc (.cells #[.int .i64 n, .int .i64 d] 29)).cell? ⟨w.heap.size, 2, none⟩ = some (.int .i64 F) := by go_cell
 have c3 : ((w.alloc (.cells #[.int .i64 K, .int .i64 B, .int .i64 F, .int .i64 R, .int .i64 O] 23)).alloc (.cells #[.int .i64 n, .int .i64 d] 29)).cell? ⟨w.heap.size, 3, none⟩ = some (.int .i64 R) := by go_cell
 have c4 : ((w.alloc (.cells #[.int .i64 K, .int .i64 B, .int .i64 F, .int .i64 R, .int .i64 O] 23)).alloc (.cells #[.int .i64 n, .int .i64 d] 29)).cell? ⟨w.heap.size, 4, none⟩ = some (.int .i64 O) := by go_cell
 have c5 : ((w.alloc (.cells #[.int .i64 K, .int .i64 B, .int .i64 F, .int .i64 R, .int .i64 O] 23)).alloc (.cells #[.int .i64 n, .int .i64 d] 29)).cell? ⟨w.heap.size + 1, 0, none⟩ = some (.int .i64 n) := by go_cell
 have c6 : ((w.alloc (.cells #[.int .i64 K, .int .i64 B, .int .i64 F, .int .i64 R, .int .i64 O] 23)).alloc (.cells #[.int .i64 n, .int .i64 d] 29)).cell? ⟨w.heap.size + 1, 1, none⟩ = some (.int .i64 d) := by go_cell
 have l0 : w.heap.size < ((w.alloc (.cells #[.int .i64 K, .int .i64 B, .int .i64 F, .int .i64 R, .int .i64 O] 23)).alloc (.cells #[.int .i64 n, .int .i64 d] 29)).heap.size := by simp <;> omega
 have l1 : w.heap.size + 1 < ((w.alloc (.cells #[.int .i64 K, .int .i64 B, .int .i64 F, .int .i64 R, .int .i64 O] 23)).alloc (.cells #[.int .i64 n, .int .i64 d] 29)).heap.size := by simp <;> omega
 go_wp2_with fail
 generalize ((w.alloc (.cells #[.int .i64 K, .int .i64 B, .int .i64 F, .int .i64 R, .int .i64 O] 23)).alloc (.cells #[.int .i64 n, .int .i64 d] 29)) = z at *
 have hz : z.cell? ⟨w.heap.size, 0, none⟩ = some (.int .i64 K) /\ z.cell? ⟨w.heap.size, 1, none⟩ = some (.int .i64 B) /\ z.cell? ⟨w.heap.size, 2, none⟩ = some (.int .i64 F) /\ z.cell? ⟨w.heap.size, 3, none⟩ = some (.int .i64 R) /\ z.cell? ⟨w.heap.size, 4, none⟩ = some (.int .i64 O) /\ z.cell? ⟨w.heap.size + 1, 0, none⟩ = some (.int .i64 n) /\ z.cell? ⟨w.heap.size + 1, 1, none⟩ = some (.int .i64 d) /\ z.heap.size <= z.heap.size /\ Below w.heap.size w z := ⟨c0, c1, c2, c3, c4, c5, c6, Nat.le_refl _, K0⟩
 clear c0 c1 c2 c3 c4 c5 c6
 have HS : Hid (∀ u u' : World, (u.cell? ⟨w.heap.size, 0, none⟩ = some (.int .i64 K) /\ u.cell? ⟨w.heap.size, 1, none⟩ = some (.int .i64 B) /\ u.cell? ⟨w.heap.size, 2, none⟩ = some (.int .i64 F) /\ u.cell? ⟨w.heap.size, 3, none⟩ = some (.int .i64 R) /\ u.cell? ⟨w.heap.size, 4, none⟩ = some (.int .i64 O) /\ u.cell? ⟨w.heap.size + 1, 0, none⟩ = some (.int .i64 n) /\ u.cell? ⟨w.heap.size + 1, 1, none⟩ = some (.int .i64 d) /\ z.heap.size <= u.heap.size /\ Below w.heap.size w u) -> Below u.heap.size u u' -> (u'.cell? ⟨w.heap.size, 0, none⟩ = some (.int .i64 K) /\ u'.cell? ⟨w.heap.size, 1, none⟩ = some (.int .i64 B) /\ u'.cell? ⟨w.heap.size, 2, none⟩ = some (.int .i64 F) /\ u'.cell? ⟨w.heap.size, 3, none⟩ = some (.int .i64 R) /\ u'.cell? ⟨w.heap.size, 4, none⟩ = some (.int .i64 O) /\ u'.cell? ⟨w.heap.size + 1, 0, none⟩ = some (.int .i64 n) /\ u'.cell? ⟨w.heap.size + 1, 1, none⟩ = some (.int .i64 d) /\ z.heap.size <= u'.heap.size /\ Below w.heap.size w u')) := Lib.hid (fun u u' h hb => ⟨Rg.keep hb (Nat.lt_of_lt_of_le l0 h.2.2.2.2.2.2.2.1) h.1, Rg.keep hb (Nat.lt_of_lt_of_le l0 h.2.2.2.2.2.2.2.1) h.2.1, Rg.keep hb (Nat.lt_of_lt_of_le l0 h.2.2.2.2.2.2.2.1) h.2.2.1, Rg.keep hb (Nat.lt_of_lt_of_le l0 h.2.2.2.2.2.2.2.1) h.2.2.2.1, Rg.keep hb (Nat.lt_of_lt_of_le l0 h.2.2.2.2.2.2.2.1) h.2.2.2.2.1, Rg.keep hb (Nat.lt_of_lt_of_le l1 h.2.2.2.2.2.2.2.1) h.2.2.2.2.2.1, Rg.keep hb (Nat.lt_of_lt_of_le l1 h.2.2.2.2.2.2.2.1) h.2.2.2.2.2.2.1, Nat.le_trans h.2.2.2.2.2.2.2.1 hb.size, h.2.2.2.2.2.2.2.2.trans (hb.mono h.2.2.2.2.2.2.2.2.size)⟩)
 refine wp_region_held_drew (S := fun w' => w'.cell? ⟨w.heap.size, 0, none⟩ = some (.int .i64 K) /\ w'.cell? ⟨w.heap.size, 1, none⟩ = some (.int .i64 B) /\ w'.cell? ⟨w.heap.size, 2, none⟩ = some (.int .i64 F) /\ w'.cell? ⟨w.heap.size, 3, none⟩ = some (.int .i64 R) /\ w'.cell? ⟨w.heap.size, 4, none⟩ = some (.int .i64 O) /\ w'.cell? ⟨w.heap.size + 1, 0, none⟩ = some (.int .i64 n) /\ w'.cell? ⟨w.heap.size + 1, 1, none⟩ = some (.int .i64 d) /\ z.heap.size <= w'.heap.size /\ Below w.heap.size w w') (by kernel_rfl) (HS.out _ _ hz (Below.drew (Below.refl _ _))) (fun hHeld => ?_)
 refine Rg.take (i := 0) (v := ?_) rfl (by kernel_rfl) (by kernel_rfl) (by kernel_rfl) (fun _ _ _ h => h) (Or.inl ⟨by kernel_rfl, ?_⟩) (by assumption) ?_
 rotate_left
 ·((intro w hSw; (try dsimp only at hSw); go_simp) <;> with_reducible rfl)
 try simp only [Act.put, List.setIfInBounds_toArray, List.set_cons_zero, List.set_cons_succ]
 refine Rg.one (i := 1) (by kernel_rfl) rfl (fun K hK => ?_)
 rw [if_pos (by kernel_rfl)]
 go_simp
 ((with_reducible refine (VT.out _).mono ?_); rintro e u ⟨rfl, hb⟩)
 have hNew := HS.out _ _ hHeld hb
 first | (refine hK.out _ _ hNew (fun _ => ?_)) | (go_wp2_with fail; refine hK.out _ _ hNew (fun _ => ?_))
 clear hK K hHeld hb
 have hHeld := hNew
 clear hNew
 refine Rg.take (i := 2) (v := ?_) rfl (by kernel_rfl) (by kernel_rfl) (by kernel_rfl) (fun _ _ _ h => h) (Or.inl ⟨by kernel_rfl, ?_⟩) (by assumption) ?_
 rotate_left
 ·((intro w hSw; (try dsimp only at hSw); go_simp) <;> with_reducible rfl)
 try simp only [Act.put, List.setIfInBounds_toArray, List.set_cons_zero, List.set_cons_succ]
 refine Rg.take (i := 3) (v := ?_) rfl (by kernel_rfl) (by kernel_rfl) (by kernel_rfl) (fun _ _ _ h => h) (Or.inl ⟨by kernel_rfl, ?_⟩) (by assumption) ?_
 rotate_left
 ·((intro w hSw; (try dsimp only at hSw); go_simp) <;> with_reducible rfl)
 try simp only [Act.put, List.setIfInBounds_toArray, List.set_cons_zero, List.set_cons_succ]
 refine Rg.take (i := 4) (v := undef) rfl (by kernel_rfl) (by kernel_rfl) (by kernel_rfl) (fun _ _ _ h => h) (Or.inr ⟨by kernel_rfl, rfl⟩) (by assumption) ?_
 try simp only [Act.put, List.setIfInBounds_toArray, List.set_cons_zero, List.set_cons_succ]
 refine Rg.take (i := 5) (v := undef) rfl (by kernel_rfl) (by kernel_rfl) (by kernel_rfl) (fun _ _ _ h => h) (Or.inr ⟨by kernel_rfl, rfl⟩) (by assumption) ?_
 try simp only [Act.put, List.setIfInBounds_toArray, List.set_cons_zero, List.set_cons_succ]
 refine Rg.take (i := 6) (v := undef) rfl (by kernel_rfl) (by kernel_rfl) (by kernel_rfl) (fun _ _ _ h => h) (Or.inr ⟨by kernel_rfl, rfl⟩) (by assumption) ?_
 try simp only [Act.put, List.setIfInBounds_toArray, List.set_cons_zero, List.set_cons_succ]
 refine Rg.take (i := 7) (v := ?_) rfl (by kernel_rfl) (by kernel_rfl) (by kernel_rfl) (fun _ _ _ h => h) (Or.inl ⟨by kernel_rfl, ?_⟩) (by assumption) ?_
 rotate_left
 ·((intro w hSw; (try dsimp only at hSw); go_simp) <;> with_reducible rfl)
 try simp only [Act.put, List.setIfInBounds_toArray, List.set_cons_zero, List.set_cons_succ]
 refine Rg.take (i := 8) (v := ?_) rfl (by kernel_rfl) (by kernel_rfl) (by kernel_rfl) (fun _ _ _ h => h) (Or.inl ⟨by kernel_rfl, ?_⟩) (by assumption) ?_
 rotate_left
 ·((intro w hSw; (try dsimp only at hSw); go_simp) <;> with_reducible rfl)
 try simp only [Act.put, List.setIfInBounds_toArray, List.set_cons_zero, List.set_cons_succ]
 refine Rg.take (i := 9) (v := undef) rfl (by kernel_rfl) (by kernel_rfl) (by kernel_rfl) (fun _ _ _ h => h) (Or.inr ⟨by kernel_rfl, rfl⟩) (by assumption) ?_
 try simp only [Act.put, List.setIfInBounds_toArray, List.set_cons_zero, List.set_cons_succ]
 refine Rg.take (i := 10) (v := undef) rfl (by kernel_rfl) (by kernel_rfl) (by kernel_rfl) (fun _ _ _ h => h) (Or.inr ⟨by kernel_rfl, rfl⟩) (by assumption) ?_
 try simp only [Act.put, List.setIfInBounds_toArray, List.set_cons_zero, List.set_cons_succ]
 refine Rg.take (i := 11) (v := undef) rfl (by kernel_rfl) (by kernel_rfl) (by kernel_rfl) (fun _ _ _ h => h) (Or.inr ⟨by kernel_rfl, rfl⟩) (by assumption) ?_
 try simp only [Act.put, List.setIfInBounds_toArray, List.set_cons_zero, List.set_cons_succ]
 refine Rg.take (i := 12) (v := undef) rfl (by kernel_rfl) (by kernel_rfl) (by kernel_rfl) (fun _ _ _ h => h) (Or.inr ⟨by kernel_rfl, rfl⟩) (by assumption) ?_
 try simp only [Act.put, List.setIfInBounds_toArray, List.set_cons_zero, List.set_cons_succ]
 refine Rg.take (i := 13) (v := undef) rfl (by kernel_rfl) (by kernel_rfl) (by kernel_rfl) (fun _ _ _ h => h) (Or.inr ⟨by kernel_rfl, rfl⟩) (by assumption) ?_
 try simp only [Act.put, List.setIfInBounds_toArray, List.set_cons_zero, List.set_cons_succ]
 refine Rg.take (i := 14) (v := undef) rfl (by kernel_rfl) (by kernel_rfl) (by kernel_rfl) (fun _ _ _ h => h) (Or.inr ⟨by kernel_rfl, rfl⟩) (by assumption) ?_
 try simp only [Act.put, List.setIfInBounds_toArray, List.set_cons_zero, List.set_cons_succ]
 refine Rg.take (i := 15) (v := ?_) rfl (by kernel_rfl) (by kernel_rfl) (by kernel_rfl) (fun _ _ _ h => h) (Or.inl ⟨by kernel_rfl, ?_⟩) (by assumption) ?_
 rotate_left
 ·((intro w hSw; (try dsimp only at hSw); go_simp) <;> with_reducible rfl)
 try simp only [Act.put, List.setIfInBounds_toArray, List.set_cons_zero, List.set_cons_succ]
 refine Rg.take (i := 16) (v := ?_) rfl (by kernel_rfl) (by kernel_rfl) (by kernel_rfl) (fun _ _ _ h => h) (Or.inl ⟨by kernel_rfl, ?_⟩) (by assumption) ?_
 rotate_left
 ·((intro w hSw; (try dsimp only at hSw); go_simp) <;> with_reducible rfl)
 try simp only [Act.put, List.setIfInBounds_toArray, List.set_cons_zero, List.set_cons_succ]
 refine Rg.take (i := 17) (v := undef) rfl (by kernel_rfl) (by kernel_rfl) (by kernel_rfl) (fun _ _ _ h => h) (Or.inr ⟨by kernel_rfl, rfl⟩) (by assumption) ?_
 try simp only [Act.put, List.setIfInBounds_toArray, List.set_cons_zero, List.set_cons_succ]
 refine Rg.take (i := 18) (v := undef) rfl (by kernel_rfl) (by kernel_rfl) (by kernel_rfl) (fun _ _ _ h => h) (Or.inr ⟨by kernel_rfl, rfl⟩) (by assumption) ?_
 try simp only [Act.put, List.setIfInBounds_toArray, List.set_cons_zero, List.set_cons_succ]
 refine Rg.take (i := 19) (v := undef) rfl (by kernel_rfl) (by kernel_rfl) (by kernel_rfl) (fun _ _ _ h => h) (Or.inr ⟨by kernel_rfl, rfl⟩) (by assumption) ?_
 try simp only [Act.put, List.setIfInBounds_toArray, List.set_cons_zero, List.set_cons_succ]
 refine Rg.take (i := 20) (v := undef) rfl (by kernel_rfl) (by kernel_rfl) (by kernel_rfl) (fun _ _ _ h => h) (Or.inr ⟨by kernel_rfl, rfl⟩) (by assumption) ?_
 try simp only [Act.put, List.setIfInBounds_toArray, List.set_cons_zero, List.set_cons_succ]
 refine Rg.take (i := 21) (v := undef) rfl (by kernel_rfl) (by kernel_rfl) (by kernel_rfl) (fun _ _ _ h => h) (Or.inr ⟨by kernel_rfl, rfl⟩) (by assumption) ?_
 try simp only [Act.put, List.setIfInBounds_toArray, List.set_cons_zero, List.set_cons_succ]
 refine Rg.take (i := 22) (v := undef) rfl (by kernel_rfl) (by kernel_rfl) (by kernel_rfl) (fun _ _ _ h => h) (Or.inr ⟨by kernel_rfl, rfl⟩) (by assumption) ?_
 try simp only [Act.put, List.setIfInBounds_toArray, List.set_cons_zero, List.set_cons_succ]
 refine Rg.take (i := 23) (v := ?_) rfl (by kernel_rfl) (by kernel_rfl) (by kernel_rfl) (fun _ _ _ h => h) (Or.inl ⟨by kernel_rfl, ?_⟩) (by assumption) ?_
 rotate_left
 ·((intro w hSw; (try dsimp only at hSw); go_simp) <;> with_reducible rfl)
 try simp only [Act.put, List.setIfInBounds_toArray, List.set_cons_zero, List.set_cons_succ]
 refine Rg.take (i := 24) (v := ?_) rfl (by kernel_rfl) (by kernel_rfl) (by kernel_rfl) (fun _ _ _ h => h) (Or.inl ⟨by kernel_rfl, ?_⟩) (by assumption) ?_
 rotate_left
 ·((intro w hSw; (try dsimp only at hSw); go_simp) <;> with_reducible rfl)
 try simp only [Act.put, List.setIfInBounds_toArray, List.set_cons_zero, List.set_cons_succ]
 refine wpAnyH_done (by kernel_rfl) ?_ _
 go_wp2
 go_ret
 exact ⟨rfl, hHeld.2.2.2.2.2.2.2.2⟩
set_option maxHeartbeats 4000000 in
theorem fval_d (K B F R O n d lo hi : Int) (w : World) (VT : Hid (∀ w, Calls Tryz.prog 81 #[.agg #[.int .i64 K, .int .i64 B, .int .i64 F, .int .i64 R, .int .i64 O]] w (Ret (.int .i64 0) w)))
  (MN : Hid (∀ w, Calls Tryz.prog 111 #[.int .i64 B] w fun e w' => e = .returned (.int .i64 lo) /\ w = w')) (MX : Hid (∀ w, Calls Tryz.prog 112 #[.int .i64 B] w fun e w' => e = .returned (.int .i64 hi) /\ w = w')) (h1 : (d == 1) = false) :
  Calls Tryz.prog 86 #[.agg #[.int .i64 K, .int .i64 B, .int .i64 F, .int .i64 R, .int .i64 O], .agg #[.int .i64 n, .int .i64 d]] w (Ret (.bool false) w) := by
 go_enter Tryz.func86, Tryz.ntmps86
 have K0 : Below w.heap.size w ((w.alloc (.cells #[.int .i64 K, .int .i64 B, .int .i64 F, .int .i64 R, .int .i64 O] 23)).alloc (.cells #[.int .i64 n, .int .i64 d] 29)) := below2 _ _ _
 have c0 : ((w.alloc (.cells #[.int .i64 K, .int .i64 B, .int .i64 F, .int .i64 R, .int .i64 O] 23)).alloc (.cells #[.int .i64 n, .int .i64 d] 29)).cell? ⟨w.heap.size, 0, none⟩ = some (.int .i64 K) := by go_cell
 have c1 : ((w.alloc (.cells #[.int .i64 K, .int .i64 B, .int .i64 F, .int .i64 R, .int .i64 O] 23)).alloc (.cells #[.int .i64 n, .int .i64 d] 29)).cell? ⟨w.heap.size, 1, none⟩ = some (.int .i64 B) := by go_cell
 have c2 : ((w.alloc (.cells #[.int .i64 K, .int .i64 B, .int .i64 F, .int .i64 R, .int .i64 O] 23)).alloc (.cells #[.int .i64 n, .int .i64 d] 29)).cell? ⟨w.heap.size, 2, none⟩ = some (.int .i64 F) := by go_cell
 have c3 : ((w.alloc (.cells #[.int .i64 K, .int .i64 B, .int .i64 F, .int .i64 R, .int .i64 O] 23)).alloc (.cells #[.int .i64 n, .int .i64 d] 29)).cell? ⟨w.heap.size, 3, none⟩ = some (.int .i64 R) := by go_cell
 have c4 : ((w.alloc (.cells #[.int .i64 K, .int .i64 B, .int .i64 F, .int .i64 R, .int .i64 O] 23)).alloc (.cells #[.int .i64 n, .int .i64 d] 29)).cell? ⟨w.heap.size, 4, none⟩ = some (.int .i64 O) := by go_cell
 have c5 : ((w.alloc (.cells #[.int .i64 K, .int .i64 B, .int .i64 F, .int .i64 R, .int .i64 O] 23)).alloc (.cells #[.int .i64 n, .int .i64 d] 29)).cell? ⟨w.heap.size + 1, 0, none⟩ = some (.int .i64 n) := by go_cell
 have c6 : ((w.alloc (.cells #[.int .i64 K, .int .i64 B, .int .i64 F, .int .i64 R, .int .i64 O] 23)).alloc (.cells #[.int .i64 n, .int .i64 d] 29)).cell? ⟨w.heap.size + 1, 1, none⟩ = some (.int .i64 d) := by go_cell
 have l0 : w.heap.size < ((w.alloc (.cells #[.int .i64 K, .int .i64 B, .int .i64 F, .int .i64 R, .int .i64 O] 23)).alloc (.cells #[.int .i64 n, .int .i64 d] 29)).heap.size := by simp <;> omega
 have l1 : w.heap.size + 1 < ((w.alloc (.cells #[.int .i64 K, .int .i64 B, .int .i64 F, .int .i64 R, .int .i64 O] 23)).alloc (.cells #[.int .i64 n, .int .i64 d] 29)).heap.size := by simp <;> omega
 go_wp2_with fail
 generalize ((w.alloc (.cells #[.int .i64 K, .int .i64 B, .int .i64 F, .int .i64 R, .int .i64 O] 23)).alloc (.cells #[.int .i64 n, .int .i64 d] 29)) = z at *
 have hz : z.cell? ⟨w.heap.size, 0, none⟩ = some (.int .i64 K) /\ z.cell? ⟨w.heap.size, 1, none⟩ = some (.int .i64 B) /\ z.cell? ⟨w.heap.size, 2, none⟩ = some (.int .i64 F) /\ z.cell? ⟨w.heap.size, 3, none⟩ = some (.int .i64 R) /\ z.cell? ⟨w.heap.size, 4, none⟩ = some (.int .i64 O) /\ z.cell? ⟨w.heap.size + 1, 0, none⟩ = some (.int .i64 n) /\ z.cell? ⟨w.heap.size + 1, 1, none⟩ = some (.int .i64 d) /\ z.heap.size <= z.heap.size /\ Below w.heap.size w z := ⟨c0, c1, c2, c3, c4, c5, c6, Nat.le_refl _, K0⟩
 clear c0 c1 c2 c3 c4 c5 c6
 have HS : Hid (∀ u u' : World, (u.cell? ⟨w.heap.size, 0, none⟩ = some (.int .i64 K) /\ u.cell? ⟨w.heap.size, 1, none⟩ = some (.int .i64 B) /\ u.cell? ⟨w.heap.size, 2, none⟩ = some (.int .i64 F) /\ u.cell? ⟨w.heap.size, 3, none⟩ = some (.int .i64 R) /\ u.cell? ⟨w.heap.size, 4, none⟩ = some (.int .i64 O) /\ u.cell? ⟨w.heap.size + 1, 0, none⟩ = some (.int .i64 n) /\ u.cell? ⟨w.heap.size + 1, 1, none⟩ = some (.int .i64 d) /\ z.heap.size <= u.heap.size /\ Below w.heap.size w u) -> Below u.heap.size u u' -> (u'.cell? ⟨w.heap.size, 0, none⟩ = some (.int .i64 K) /\ u'.cell? ⟨w.heap.size, 1, none⟩ = some (.int .i64 B) /\ u'.cell? ⟨w.heap.size, 2, none⟩ = some (.int .i64 F) /\ u'.cell? ⟨w.heap.size, 3, none⟩ = some (.int .i64 R) /\ u'.cell? ⟨w.heap.size, 4, none⟩ = some (.int .i64 O) /\ u'.cell? ⟨w.heap.size + 1, 0, none⟩ = some (.int .i64 n) /\ u'.cell? ⟨w.heap.size + 1, 1, none⟩ = some (.int .i64 d) /\ z.heap.size <= u'.heap.size /\ Below w.heap.size w u')) := Lib.hid (fun u u' h hb => ⟨Rg.keep hb (Nat.lt_of_lt_of_le l0 h.2.2.2.2.2.2.2.1) h.1, Rg.keep hb (Nat.lt_of_lt_of_le l0 h.2.2.2.2.2.2.2.1) h.2.1, Rg.keep hb (Nat.lt_of_lt_of_le l0 h.2.2.2.2.2.2.2.1) h.2.2.1, Rg.keep hb (Nat.lt_of_lt_of_le l0 h.2.2.2.2.2.2.2.1) h.2.2.2.1, Rg.keep hb (Nat.lt_of_lt_of_le l0 h.2.2.2.2.2.2.2.1) h.2.2.2.2.1, Rg.keep hb (Nat.lt_of_lt_of_le l1 h.2.2.2.2.2.2.2.1) h.2.2.2.2.2.1, Rg.keep hb (Nat.lt_of_lt_of_le l1 h.2.2.2.2.2.2.2.1) h.2.2.2.2.2.2.1, Nat.le_trans h.2.2.2.2.2.2.2.1 hb.size, h.2.2.2.2.2.2.2.2.trans (hb.mono h.2.2.2.2.2.2.2.2.size)⟩)
 refine wp_region_held_drew (S := fun w' => w'.cell? ⟨w.heap.size, 0, none⟩ = some (.int .i64 K) /\ w'.cell? ⟨w.heap.size, 1, none⟩ = some (.int .i64 B) /\ w'.cell? ⟨w.heap.size, 2, none⟩ = some (.int .i64 F) /\ w'.cell? ⟨w.heap.size, 3, none⟩ = some (.int .i64 R) /\ w'.cell? ⟨w.heap.size, 4, none⟩ = some (.int .i64 O) /\ w'.cell? ⟨w.heap.size + 1, 0, none⟩ = some (.int .i64 n) /\ w'.cell? ⟨w.heap.size + 1, 1, none⟩ = some (.int .i64 d) /\ z.heap.size <= w'.heap.size /\ Below w.heap.size w w') (by kernel_rfl) (HS.out _ _ hz (Below.drew (Below.refl _ _))) (fun hHeld => ?_)
 refine Rg.take (i := 0) (v := ?_) rfl (by kernel_rfl) (by kernel_rfl) (by kernel_rfl) (fun _ _ _ h => h) (Or.inl ⟨by kernel_rfl, ?_⟩) (by assumption) ?_
 rotate_left
 ·((intro w hSw; (try dsimp only at hSw); go_simp) <;> with_reducible rfl)
 try simp only [Act.put, List.setIfInBounds_toArray, List.set_cons_zero, List.set_cons_succ]
 refine Rg.one (i := 1) (by kernel_rfl) rfl (fun K hK => ?_)
 rw [if_pos (by kernel_rfl)]
 go_simp
 ((with_reducible refine (VT.out _).mono ?_); rintro e u ⟨rfl, hb⟩)
 have hNew := HS.out _ _ hHeld hb
 first | (refine hK.out _ _ hNew (fun _ => ?_)) | (go_wp2_with fail; refine hK.out _ _ hNew (fun _ => ?_))
 clear hK K hHeld hb
 have hHeld := hNew
 clear hNew
 refine Rg.take (i := 2) (v := ?_) rfl (by kernel_rfl) (by kernel_rfl) (by kernel_rfl) (fun _ _ _ h => h) (Or.inl ⟨by kernel_rfl, ?_⟩) (by assumption) ?_
 rotate_left
 ·((intro w hSw; (try dsimp only at hSw); go_simp) <;> with_reducible rfl)
 try simp only [Act.put, List.setIfInBounds_toArray, List.set_cons_zero, List.set_cons_succ]
 refine Rg.take (i := 3) (v := ?_) rfl (by kernel_rfl) (by kernel_rfl) (by kernel_rfl) (fun _ _ _ h => h) (Or.inl ⟨by kernel_rfl, ?_⟩) (by assumption) ?_
 rotate_left
 ·((intro w hSw; (try dsimp only at hSw); go_simp) <;> with_reducible rfl)
 try simp only [Act.put, List.setIfInBounds_toArray, List.set_cons_zero, List.set_cons_succ]
 refine Rg.take (i := 4) (v := ?_) rfl (by kernel_rfl) (by kernel_rfl) (by kernel_rfl) (fun _ _ _ h => h) (Or.inl ⟨by kernel_rfl, ?_⟩) (by assumption) ?_
 rotate_left
 ·((intro w hSw; (try dsimp only at hSw); go_simp) <;> with_reducible rfl)
 try simp only [Act.put, List.setIfInBounds_toArray, List.set_cons_zero, List.set_cons_succ]
 refine Rg.take (i := 5) (v := ?_) rfl (by kernel_rfl) (by kernel_rfl) (by kernel_rfl) (fun _ _ _ h => h) (Or.inl ⟨by kernel_rfl, ?_⟩) (by assumption) ?_
 rotate_left
 ·((intro w hSw; (try dsimp only at hSw); go_simp) <;> with_reducible rfl)
 try simp only [Act.put, List.setIfInBounds_toArray, List.set_cons_zero, List.set_cons_succ]
 refine Rg.take (i := 6) (v := ?_) rfl (by kernel_rfl) (by kernel_rfl) (by kernel_rfl) (fun _ _ _ h => h) (Or.inl ⟨by kernel_rfl, ?_⟩) (by assumption) ?_
 rotate_left
 ·((intro w hSw; (try dsimp only at hSw); go_simp) <;> with_reducible rfl)
 try simp only [Act.put, List.setIfInBounds_toArray, List.set_cons_zero, List.set_cons_succ]
 refine Rg.take (i := 7) (v := ?_) rfl (by kernel_rfl) (by kernel_rfl) (by kernel_rfl) (fun _ _ _ h => h) (Or.inl ⟨by kernel_rfl, ?_⟩) (by assumption) ?_
 rotate_left
 ·((intro w hSw; (try dsimp only at hSw); go_simp) <;> with_reducible rfl)
 try simp only [Act.put, List.setIfInBounds_toArray, List.set_cons_zero, List.set_cons_succ]
 refine Rg.take (i := 8) (v := ?_) rfl (by kernel_rfl) (by kernel_rfl) (by kernel_rfl) (fun _ _ _ h => h) (Or.inl ⟨by kernel_rfl, ?_⟩) (by assumption) ?_
 rotate_left
 ·((intro w hSw; (try dsimp only at hSw); go_simp) <;> with_reducible rfl)
 try simp only [Act.put, List.setIfInBounds_toArray, List.set_cons_zero, List.set_cons_succ]
 refine Rg.take (i := 9) (v := undef) rfl (by kernel_rfl) (by kernel_rfl) (by kernel_rfl) (fun _ _ _ h => h) (Or.inr ⟨by kernel_rfl, rfl⟩) (by assumption) ?_
 try simp only [Act.put, List.setIfInBounds_toArray, List.set_cons_zero, List.set_cons_succ]
 refine Rg.take (i := 10) (v := undef) rfl (by kernel_rfl) (by kernel_rfl) (by kernel_rfl) (fun _ _ _ h => h) (Or.inr ⟨by kernel_rfl, rfl⟩) (by assumption) ?_
 try simp only [Act.put, List.setIfInBounds_toArray, List.set_cons_zero, List.set_cons_succ]
 refine Rg.take (i := 11) (v := undef) rfl (by kernel_rfl) (by kernel_rfl) (by kernel_rfl) (fun _ _ _ h => h) (Or.inr ⟨by kernel_rfl, rfl⟩) (by assumption) ?_
 try simp only [Act.put, List.setIfInBounds_toArray, List.set_cons_zero, List.set_cons_succ]
 refine Rg.take (i := 12) (v := undef) rfl (by kernel_rfl) (by kernel_rfl) (by kernel_rfl) (fun _ _ _ h => h) (Or.inr ⟨by kernel_rfl, rfl⟩) (by assumption) ?_
 try simp only [Act.put, List.setIfInBounds_toArray, List.set_cons_zero, List.set_cons_succ]
 refine Rg.take (i := 13) (v := undef) rfl (by kernel_rfl) (by kernel_rfl) (by kernel_rfl) (fun _ _ _ h => h) (Or.inr ⟨by kernel_rfl, rfl⟩) (by assumption) ?_
 try simp only [Act.put, List.setIfInBounds_toArray, List.set_cons_zero, List.set_cons_succ]
 refine Rg.take (i := 14) (v := undef) rfl (by kernel_rfl) (by kernel_rfl) (by kernel_rfl) (fun _ _ _ h => h) (Or.inr ⟨by kernel_rfl, rfl⟩) (by assumption) ?_
 try simp only [Act.put, List.setIfInBounds_toArray, List.set_cons_zero, List.set_cons_succ]
 refine Rg.take (i := 15) (v := ?_) rfl (by kernel_rfl) (by kernel_rfl) (by kernel_rfl) (fun _ _ _ h => h) (Or.inl ⟨by kernel_rfl, ?_⟩) (by assumption) ?_
 rotate_left
 ·((intro w hSw; (try dsimp only at hSw); go_simp) <;> with_reducible rfl)
 try simp only [Act.put, List.setIfInBounds_toArray, List.set_cons_zero, List.set_cons_succ]
 refine Rg.take (i := 16) (v := ?_) rfl (by kernel_rfl) (by kernel_rfl) (by kernel_rfl) (fun _ _ _ h => h) (Or.inl ⟨by kernel_rfl, ?_⟩) (by assumption) ?_
 rotate_left
 ·((intro w hSw; (try dsimp only at hSw); go_simp) <;> with_reducible rfl)
 try simp only [Act.put, List.setIfInBounds_toArray, List.set_cons_zero, List.set_cons_succ]
 refine Rg.take (i := 17) (v := undef) rfl (by kernel_rfl) (by kernel_rfl) (by kernel_rfl) (fun _ _ _ h => h) (Or.inr ⟨by kernel_rfl, rfl⟩) (by assumption) ?_
 try simp only [Act.put, List.setIfInBounds_toArray, List.set_cons_zero, List.set_cons_succ]
 refine Rg.take (i := 18) (v := undef) rfl (by kernel_rfl) (by kernel_rfl) (by kernel_rfl) (fun _ _ _ h => h) (Or.inr ⟨by kernel_rfl, rfl⟩) (by assumption) ?_
 try simp only [Act.put, List.setIfInBounds_toArray, List.set_cons_zero, List.set_cons_succ]
 refine Rg.take (i := 19) (v := undef) rfl (by kernel_rfl) (by kernel_rfl) (by kernel_rfl) (fun _ _ _ h => h) (Or.inr ⟨by kernel_rfl, rfl⟩) (by assumption) ?_
 try simp only [Act.put, List.setIfInBounds_toArray, List.set_cons_zero, List.set_cons_succ]
 refine Rg.take (i := 20) (v := undef) rfl (by kernel_rfl) (by kernel_rfl) (by kernel_rfl) (fun _ _ _ h => h) (Or.inr ⟨by kernel_rfl, rfl⟩) (by assumption) ?_
 try simp only [Act.put, List.setIfInBounds_toArray, List.set_cons_zero, List.set_cons_succ]
 refine Rg.take (i := 21) (v := undef) rfl (by kernel_rfl) (by kernel_rfl) (by kernel_rfl) (fun _ _ _ h => h) (Or.inr ⟨by kernel_rfl, rfl⟩) (by assumption) ?_
 try simp only [Act.put, List.setIfInBounds_toArray, List.set_cons_zero, List.set_cons_succ]
 refine Rg.take (i := 22) (v := undef) rfl (by kernel_rfl) (by kernel_rfl) (by kernel_rfl) (fun _ _ _ h => h) (Or.inr ⟨by kernel_rfl, rfl⟩) (by assumption) ?_
 try simp only [Act.put, List.setIfInBounds_toArray, List.set_cons_zero, List.set_cons_succ]
 refine Rg.take (i := 23) (v := ?_) rfl (by kernel_rfl) (by kernel_rfl) (by kernel_rfl) (fun _ _ _ h => h) (Or.inl ⟨by kernel_rfl, ?_⟩) (by assumption) ?_
 rotate_left
 ·((intro w hSw; (try dsimp only at hSw); go_simp) <;> with_reducible rfl)
 try simp only [Act.put, List.setIfInBounds_toArray, List.set_cons_zero, List.set_cons_succ]
 refine Rg.take (i := 24) (v := ?_) rfl (by kernel_rfl) (by kernel_rfl) (by kernel_rfl) (fun _ _ _ h => h) (Or.inl ⟨by kernel_rfl, ?_⟩) (by assumption) ?_
 rotate_left
 ·((intro w hSw; (try dsimp only at hSw); go_simp) <;> with_reducible rfl)
 try simp only [Act.put, List.setIfInBounds_toArray, List.set_cons_zero, List.set_cons_succ]
 refine wpAnyH_done (by kernel_rfl) ?_ _
 go_wp2
 go_ret
 exact ⟨rfl, hHeld.2.2.2.2.2.2.2.2⟩
set_option maxHeartbeats 4000000 in
theorem fval_lo (K B F R O n d lo hi : Int) (w : World) (VT : Hid (∀ w, Calls Tryz.prog 81 #[.agg #[.int .i64 K, .int .i64 B, .int .i64 F, .int .i64 R, .int .i64 O]] w (Ret (.int .i64 0) w)))
  (MN : Hid (∀ w, Calls Tryz.prog 111 #[.int .i64 B] w fun e w' => e = .returned (.int .i64 lo) /\ w = w')) (MX : Hid (∀ w, Calls Tryz.prog 112 #[.int .i64 B] w fun e w' => e = .returned (.int .i64 hi) /\ w = w')) (h1 : (d == 1) = true) (h2 : decide (lo <= n) = false) :
  Calls Tryz.prog 86 #[.agg #[.int .i64 K, .int .i64 B, .int .i64 F, .int .i64 R, .int .i64 O], .agg #[.int .i64 n, .int .i64 d]] w (Ret (.bool false) w) := by
 go_enter Tryz.func86, Tryz.ntmps86
 have K0 : Below w.heap.size w ((w.alloc (.cells #[.int .i64 K, .int .i64 B, .int .i64 F, .int .i64 R, .int .i64 O] 23)).alloc (.cells #[.int .i64 n, .int .i64 d] 29)) := below2 _ _ _
 have c0 : ((w.alloc (.cells #[.int .i64 K, .int .i64 B, .int .i64 F, .int .i64 R, .int .i64 O] 23)).alloc (.cells #[.int .i64 n, .int .i64 d] 29)).cell? ⟨w.heap.size, 0, none⟩ = some (.int .i64 K) := by go_cell
 have c1 : ((w.alloc (.cells #[.int .i64 K, .int .i64 B, .int .i64 F, .int .i64 R, .int .i64 O] 23)).alloc (.cells #[.int .i64 n, .int .i64 d] 29)).cell? ⟨w.heap.size, 1, none⟩ = some (.int .i64 B) := by go_cell
 have c2 : ((w.alloc (.cells #[.int .i64 K, .int .i64 B, .int .i64 F, .int .i64 R, .int .i64 O] 23)).alloc (.cells #[.int .i64 n, .int .i64 d] 29)).cell? ⟨w.heap.size, 2, none⟩ = some (.int .i64 F) := by go_cell
 have c3 : ((w.alloc (.cells #[.int .i64 K, .int .i64 B, .int .i64 F, .int .i64 R, .int .i64 O] 23)).alloc (.cells #[.int .i64 n, .int .i64 d] 29)).cell? ⟨w.heap.size, 3, none⟩ = some (.int .i64 R) := by go_cell
 have c4 : ((w.alloc (.cells #[.int .i64 K, .int .i64 B, .int .i64 F, .int .i64 R, .int .i64 O] 23)).alloc (.cells #[.int .i64 n, .int .i64 d] 29)).cell? ⟨w.heap.size, 4, none⟩ = some (.int .i64 O) := by go_cell
 have c5 : ((w.alloc (.cells #[.int .i64 K, .int .i64 B, .int .i64 F, .int .i64 R, .int .i64 O] 23)).alloc (.cells #[.int .i64 n, .int .i64 d] 29)).cell? ⟨w.heap.size + 1, 0, none⟩ = some (.int .i64 n) := by go_cell
 have c6 : ((w.alloc (.cells #[.int .i64 K, .int .i64 B, .int .i64 F, .int .i64 R, .int .i64 O] 23)).alloc (.cells #[.int .i64 n, .int .i64 d] 29)).cell? ⟨w.heap.size + 1, 1, none⟩ = some (.int .i64 d) := by go_cell
 have l0 : w.heap.size < ((w.alloc (.cells #[.int .i64 K, .int .i64 B, .int .i64 F, .int .i64 R, .int .i64 O] 23)).alloc (.cells #[.int .i64 n, .int .i64 d] 29)).heap.size := by simp <;> omega
 have l1 : w.heap.size + 1 < ((w.alloc (.cells #[.int .i64 K, .int .i64 B, .int .i64 F, .int .i64 R, .int .i64 O] 23)).alloc (.cells #[.int .i64 n, .int .i64 d] 29)).heap.size := by simp <;> omega
 go_wp2_with fail
 generalize ((w.alloc (.cells #[.int .i64 K, .int .i64 B, .int .i64 F, .int .i64 R, .int .i64 O] 23)).alloc (.cells #[.int .i64 n, .int .i64 d] 29)) = z at *
 have hz : z.cell? ⟨w.heap.size, 0, none⟩ = some (.int .i64 K) /\ z.cell? ⟨w.heap.size, 1, none⟩ = some (.int .i64 B) /\ z.cell? ⟨w.heap.size, 2, none⟩ = some (.int .i64 F) /\ z.cell? ⟨w.heap.size, 3, none⟩ = some (.int .i64 R) /\ z.cell? ⟨w.heap.size, 4, none⟩ = some (.int .i64 O) /\ z.cell? ⟨w.heap.size + 1, 0, none⟩ = some (.int .i64 n) /\ z.cell? ⟨w.heap.size + 1, 1, none⟩ = some (.int .i64 d) /\ z.heap.size <= z.heap.size /\ Below w.heap.size w z := ⟨c0, c1, c2, c3, c4, c5, c6, Nat.le_refl _, K0⟩
 clear c0 c1 c2 c3 c4 c5 c6
 have HS : Hid (∀ u u' : World, (u.cell? ⟨w.heap.size, 0, none⟩ = some (.int .i64 K) /\ u.cell? ⟨w.heap.size, 1, none⟩ = some (.int .i64 B) /\ u.cell? ⟨w.heap.size, 2, none⟩ = some (.int .i64 F) /\ u.cell? ⟨w.heap.size, 3, none⟩ = some (.int .i64 R) /\ u.cell? ⟨w.heap.size, 4, none⟩ = some (.int .i64 O) /\ u.cell? ⟨w.heap.size + 1, 0, none⟩ = some (.int .i64 n) /\ u.cell? ⟨w.heap.size + 1, 1, none⟩ = some (.int .i64 d) /\ z.heap.size <= u.heap.size /\ Below w.heap.size w u) -> Below u.heap.size u u' -> (u'.cell? ⟨w.heap.size, 0, none⟩ = some (.int .i64 K) /\ u'.cell? ⟨w.heap.size, 1, none⟩ = some (.int .i64 B) /\ u'.cell? ⟨w.heap.size, 2, none⟩ = some (.int .i64 F) /\ u'.cell? ⟨w.heap.size, 3, none⟩ = some (.int .i64 R) /\ u'.cell? ⟨w.heap.size, 4, none⟩ = some (.int .i64 O) /\ u'.cell? ⟨w.heap.size + 1, 0, none⟩ = some (.int .i64 n) /\ u'.cell? ⟨w.heap.size + 1, 1, none⟩ = some (.int .i64 d) /\ z.heap.size <= u'.heap.size /\ Below w.heap.size w u')) := Lib.hid (fun u u' h hb => ⟨Rg.keep hb (Nat.lt_of_lt_of_le l0 h.2.2.2.2.2.2.2.1) h.1, Rg.keep hb (Nat.lt_of_lt_of_le l0 h.2.2.2.2.2.2.2.1) h.2.1, Rg.keep hb (Nat.lt_of_lt_of_le l0 h.2.2.2.2.2.2.2.1) h.2.2.1, Rg.keep hb (Nat.lt_of_lt_of_le l0 h.2.2.2.2.2.2.2.1) h.2.2.2.1, Rg.keep hb (Nat.lt_of_lt_of_le l0 h.2.2.2.2.2.2.2.1) h.2.2.2.2.1, Rg.keep hb (Nat.lt_of_lt_of_le l1 h.2.2.2.2.2.2.2.1) h.2.2.2.2.2.1, Rg.keep hb (Nat.lt_of_lt_of_le l1 h.2.2.2.2.2.2.2.1) h.2.2.2.2.2.2.1, Nat.le_trans h.2.2.2.2.2.2.2.1 hb.size, h.2.2.2.2.2.2.2.2.trans (hb.mono h.2.2.2.2.2.2.2.2.size)⟩)
 refine wp_region_held_drew (S := fun w' => w'.cell? ⟨w.heap.size, 0, none⟩ = some (.int .i64 K) /\ w'.cell? ⟨w.heap.size, 1, none⟩ = some (.int .i64 B) /\ w'.cell? ⟨w.heap.size, 2, none⟩ = some (.int .i64 F) /\ w'.cell? ⟨w.heap.size, 3, none⟩ = some (.int .i64 R) /\ w'.cell? ⟨w.heap.size, 4, none⟩ = some (.int .i64 O) /\ w'.cell? ⟨w.heap.size + 1, 0, none⟩ = some (.int .i64 n) /\ w'.cell? ⟨w.heap.size + 1, 1, none⟩ = some (.int .i64 d) /\ z.heap.size <= w'.heap.size /\ Below w.heap.size w w') (by kernel_rfl) (HS.out _ _ hz (Below.drew (Below.refl _ _))) (fun hHeld => ?_)
 refine Rg.take (i := 0) (v := ?_) rfl (by kernel_rfl) (by kernel_rfl) (by kernel_rfl) (fun _ _ _ h => h) (Or.inl ⟨by kernel_rfl, ?_⟩) (by assumption) ?_
 rotate_left
 ·((intro w hSw; (try dsimp only at hSw); go_simp) <;> with_reducible rfl)
 try simp only [Act.put, List.setIfInBounds_toArray, List.set_cons_zero, List.set_cons_succ]
 refine Rg.one (i := 1) (by kernel_rfl) rfl (fun K hK => ?_)
 rw [if_pos (by kernel_rfl)]
 go_simp
 ((with_reducible refine (VT.out _).mono ?_); rintro e u ⟨rfl, hb⟩)
 have hNew := HS.out _ _ hHeld hb
 first | (refine hK.out _ _ hNew (fun _ => ?_)) | (go_wp2_with fail; refine hK.out _ _ hNew (fun _ => ?_))
 clear hK K hHeld hb
 have hHeld := hNew
 clear hNew
 refine Rg.take (i := 2) (v := ?_) rfl (by kernel_rfl) (by kernel_rfl) (by kernel_rfl) (fun _ _ _ h => h) (Or.inl ⟨by kernel_rfl, ?_⟩) (by assumption) ?_
 rotate_left
 ·((intro w hSw; (try dsimp only at hSw); go_simp) <;> with_reducible rfl)
 try simp only [Act.put, List.setIfInBounds_toArray, List.set_cons_zero, List.set_cons_succ]
 refine Rg.take (i := 3) (v := ?_) rfl (by kernel_rfl) (by kernel_rfl) (by kernel_rfl) (fun _ _ _ h => h) (Or.inl ⟨by kernel_rfl, ?_⟩) (by assumption) ?_
 rotate_left
 ·((intro w hSw; (try dsimp only at hSw); go_simp) <;> with_reducible rfl)
 try simp only [Act.put, List.setIfInBounds_toArray, List.set_cons_zero, List.set_cons_succ]
 refine Rg.take (i := 4) (v := ?_) rfl (by kernel_rfl) (by kernel_rfl) (by kernel_rfl) (fun _ _ _ h => h) (Or.inl ⟨by kernel_rfl, ?_⟩) (by assumption) ?_
 rotate_left
 ·((intro w hSw; (try dsimp only at hSw); go_simp) <;> with_reducible rfl)
 try simp only [Act.put, List.setIfInBounds_toArray, List.set_cons_zero, List.set_cons_succ]
 refine Rg.take (i := 5) (v := ?_) rfl (by kernel_rfl) (by kernel_rfl) (by kernel_rfl) (fun _ _ _ h => h) (Or.inl ⟨by kernel_rfl, ?_⟩) (by assumption) ?_
 rotate_left
 ·((intro w hSw; (try dsimp only at hSw); go_simp) <;> with_reducible rfl)
 try simp only [Act.put, List.setIfInBounds_toArray, List.set_cons_zero, List.set_cons_succ]
 refine Rg.take (i := 6) (v := ?_) rfl (by kernel_rfl) (by kernel_rfl) (by kernel_rfl) (fun _ _ _ h => h) (Or.inl ⟨by kernel_rfl, ?_⟩) (by assumption) ?_
 rotate_left
 ·((intro w hSw; (try dsimp only at hSw); go_simp) <;> with_reducible rfl)
 try simp only [Act.put, List.setIfInBounds_toArray, List.set_cons_zero, List.set_cons_succ]
 refine Rg.take (i := 7) (v := ?_) rfl (by kernel_rfl) (by kernel_rfl) (by kernel_rfl) (fun _ _ _ h => h) (Or.inl ⟨by kernel_rfl, ?_⟩) (by assumption) ?_
 rotate_left
 ·((intro w hSw; (try dsimp only at hSw); go_simp) <;> with_reducible rfl)
 try simp only [Act.put, List.setIfInBounds_toArray, List.set_cons_zero, List.set_cons_succ]
 refine Rg.take (i := 8) (v := ?_) rfl (by kernel_rfl) (by kernel_rfl) (by kernel_rfl) (fun _ _ _ h => h) (Or.inl ⟨by kernel_rfl, ?_⟩) (by assumption) ?_
 rotate_left
 ·((intro w hSw; (try dsimp only at hSw); go_simp) <;> with_reducible rfl)
 try simp only [Act.put, List.setIfInBounds_toArray, List.set_cons_zero, List.set_cons_succ]
 refine Rg.take (i := 9) (v := ?_) rfl (by kernel_rfl) (by kernel_rfl) (by kernel_rfl) (fun _ _ _ h => h) (Or.inl ⟨by kernel_rfl, ?_⟩) (by assumption) ?_
 rotate_left
 ·((intro w hSw; (try dsimp only at hSw); go_simp) <;> with_reducible rfl)
 try simp only [Act.put, List.setIfInBounds_toArray, List.set_cons_zero, List.set_cons_succ]
 refine Rg.take (i := 10) (v := ?_) rfl (by kernel_rfl) (by kernel_rfl) (by kernel_rfl) (fun _ _ _ h => h) (Or.inl ⟨by kernel_rfl, ?_⟩) (by assumption) ?_
 rotate_left
 ·((intro w hSw; (try dsimp only at hSw); go_simp) <;> with_reducible rfl)
 try simp only [Act.put, List.setIfInBounds_toArray, List.set_cons_zero, List.set_cons_succ]
 refine Rg.take (i := 11) (v := ?_) rfl (by kernel_rfl) (by kernel_rfl) (by kernel_rfl) (fun _ _ _ h => h) (Or.inl ⟨by kernel_rfl, ?_⟩) (by assumption) ?_
 rotate_left
 ·((intro w hSw; (try dsimp only at hSw); go_simp) <;> with_reducible rfl)
 try simp only [Act.put, List.setIfInBounds_toArray, List.set_cons_zero, List.set_cons_succ]
 refine Rg.take (i := 12) (v := ?_) rfl (by kernel_rfl) (by kernel_rfl) (by kernel_rfl) (fun _ _ _ h => h) (Or.inl ⟨by kernel_rfl, ?_⟩) (by assumption) ?_
 rotate_left
 ·((intro w hSw; (try dsimp only at hSw); go_simp) <;> with_reducible rfl)
 try simp only [Act.put, List.setIfInBounds_toArray, List.set_cons_zero, List.set_cons_succ]
 refine Rg.one (i := 13) (by kernel_rfl) rfl (fun K hK => ?_)
 rw [if_pos (by kernel_rfl)]
 go_simp
 ((with_reducible refine (MN.out _).mono ?_); rintro e u ⟨rfl, rfl⟩)
 first | (refine hK.out _ _ hHeld (fun _ => ?_)) | (go_wp2_with fail; refine hK.out _ _ hHeld (fun _ => ?_))
 clear hK K
 refine Rg.take (i := 14) (v := ?_) rfl (by kernel_rfl) (by kernel_rfl) (by kernel_rfl) (fun _ _ _ h => h) (Or.inl ⟨by kernel_rfl, ?_⟩) (by assumption) ?_
 rotate_left
 ·((intro w hSw; (try dsimp only at hSw); go_simp) <;> with_reducible rfl)
 try simp only [Act.put, List.setIfInBounds_toArray, List.set_cons_zero, List.set_cons_succ]
 refine Rg.take (i := 15) (v := ?_) rfl (by kernel_rfl) (by kernel_rfl) (by kernel_rfl) (fun _ _ _ h => h) (Or.inl ⟨by kernel_rfl, ?_⟩) (by assumption) ?_
 rotate_left
 ·((intro w hSw; (try dsimp only at hSw); go_simp) <;> with_reducible rfl)
 try simp only [Act.put, List.setIfInBounds_toArray, List.set_cons_zero, List.set_cons_succ]
 refine Rg.take (i := 16) (v := ?_) rfl (by kernel_rfl) (by kernel_rfl) (by kernel_rfl) (fun _ _ _ h => h) (Or.inl ⟨by kernel_rfl, ?_⟩) (by assumption) ?_
 rotate_left
 ·((intro w hSw; (try dsimp only at hSw); go_simp) <;> with_reducible rfl)
 try simp only [Act.put, List.setIfInBounds_toArray, List.set_cons_zero, List.set_cons_succ]
 refine Rg.take (i := 17) (v := undef) rfl (by kernel_rfl) (by kernel_rfl) (by kernel_rfl) (fun _ _ _ h => h) (Or.inr ⟨by kernel_rfl, rfl⟩) (by assumption) ?_
 try simp only [Act.put, List.setIfInBounds_toArray, List.set_cons_zero, List.set_cons_succ]
 refine Rg.take (i := 18) (v := undef) rfl (by kernel_rfl) (by kernel_rfl) (by kernel_rfl) (fun _ _ _ h => h) (Or.inr ⟨by kernel_rfl, rfl⟩) (by assumption) ?_
 try simp only [Act.put, List.setIfInBounds_toArray, List.set_cons_zero, List.set_cons_succ]
 refine Rg.take (i := 19) (v := undef) rfl (by kernel_rfl) (by kernel_rfl) (by kernel_rfl) (fun _ _ _ h => h) (Or.inr ⟨by kernel_rfl, rfl⟩) (by assumption) ?_
 try simp only [Act.put, List.setIfInBounds_toArray, List.set_cons_zero, List.set_cons_succ]
 refine Rg.take (i := 20) (v := undef) rfl (by kernel_rfl) (by kernel_rfl) (by kernel_rfl) (fun _ _ _ h => h) (Or.inr ⟨by kernel_rfl, rfl⟩) (by assumption) ?_
 try simp only [Act.put, List.setIfInBounds_toArray, List.set_cons_zero, List.set_cons_succ]
 refine Rg.take (i := 21) (v := undef) rfl (by kernel_rfl) (by kernel_rfl) (by kernel_rfl) (fun _ _ _ h => h) (Or.inr ⟨by kernel_rfl, rfl⟩) (by assumption) ?_
 try simp only [Act.put, List.setIfInBounds_toArray, List.set_cons_zero, List.set_cons_succ]
 refine Rg.take (i := 22) (v := undef) rfl (by kernel_rfl) (by kernel_rfl) (by kernel_rfl) (fun _ _ _ h => h) (Or.inr ⟨by kernel_rfl, rfl⟩) (by assumption) ?_
 try simp only [Act.put, List.setIfInBounds_toArray, List.set_cons_zero, List.set_cons_succ]
 refine Rg.take (i := 23) (v := ?_) rfl (by kernel_rfl) (by kernel_rfl) (by kernel_rfl) (fun _ _ _ h => h) (Or.inl ⟨by kernel_rfl, ?_⟩) (by assumption) ?_
 rotate_left
 ·((intro w hSw; (try dsimp only at hSw); go_simp) <;> with_reducible rfl)
 try simp only [Act.put, List.setIfInBounds_toArray, List.set_cons_zero, List.set_cons_succ]
 refine Rg.take (i := 24) (v := ?_) rfl (by kernel_rfl) (by kernel_rfl) (by kernel_rfl) (fun _ _ _ h => h) (Or.inl ⟨by kernel_rfl, ?_⟩) (by assumption) ?_
 rotate_left
 ·((intro w hSw; (try dsimp only at hSw); go_simp) <;> with_reducible rfl)
 try simp only [Act.put, List.setIfInBounds_toArray, List.set_cons_zero, List.set_cons_succ]
 refine wpAnyH_done (by kernel_rfl) ?_ _
 go_wp2
 go_ret
 exact ⟨rfl, hHeld.2.2.2.2.2.2.2.2⟩
set_option maxHeartbeats 4000000 in
theorem fval_hi (K B F R O n d lo hi : Int) (w : World) (VT : Hid (∀ w, Calls Tryz.prog 81 #[.agg #[.int .i64 K, .int .i64 B, .int .i64 F, .int .i64 R, .int .i64 O]] w (Ret (.int .i64 0) w)))
  (MN : Hid (∀ w, Calls Tryz.prog 111 #[.int .i64 B] w fun e w' => e = .returned (.int .i64 lo) /\ w = w')) (MX : Hid (∀ w, Calls Tryz.prog 112 #[.int .i64 B] w fun e w' => e = .returned (.int .i64 hi) /\ w = w')) (x : Bool) (h1 : (d == 1) = true) (h2 : decide (lo <= n) = true) (h3 : decide (n <= hi) = x) :
  Calls Tryz.prog 86 #[.agg #[.int .i64 K, .int .i64 B, .int .i64 F, .int .i64 R, .int .i64 O], .agg #[.int .i64 n, .int .i64 d]] w (Ret (.bool x) w) := by
 cases x
 all_goals
  go_enter Tryz.func86, Tryz.ntmps86
  have K0 : Below w.heap.size w ((w.alloc (.cells #[.int .i64 K, .int .i64 B, .int .i64 F, .int .i64 R, .int .i64 O] 23)).alloc (.cells #[.int .i64 n, .int .i64 d] 29)) := below2 _ _ _
  have c0 : ((w.alloc (.cells #[.int .i64 K, .int .i64 B, .int .i64 F, .int .i64 R, .int .i64 O] 23)).alloc (.cells #[.int .i64 n, .int .i64 d] 29)).cell? ⟨w.heap.size, 0, none⟩ = some (.int .i64 K) := by go_cell
  have c1 : ((w.alloc (.cells #[.int .i64 K, .int .i64 B, .int .i64 F, .int .i64 R, .int .i64 O] 23)).alloc (.cells #[.int .i64 n, .int .i64 d] 29)).cell? ⟨w.heap.size, 1, none⟩ = some (.int .i64 B) := by go_cell
  have c2 : ((w.alloc (.cells #[.int .i64 K, .int .i64 B, .int .i64 F, .int .i64 R, .int .i64 O] 23)).alloc (.cells #[.int .i64 n, .int .i64 d] 29)).cell? ⟨w.heap.size, 2, none⟩ = some (.int .i64 F) := by go_cell
  have c3 : ((w.alloc (.cells #[.int .i64 K, .int .i64 B, .int .i64 F, .int .i64 R, .int .i64 O] 23)).alloc (.cells #[.int .i64 n, .int .i64 d] 29)).cell? ⟨w.heap.size, 3, none⟩ = some (.int .i64 R) := by go_cell
  have c4 : ((w.alloc (.cells #[.int .i64 K, .int .i64 B, .int .i64 F, .int .i64 R, .int .i64 O] 23)).alloc (.cells #[.int .i64 n, .int .i64 d] 29)).cell? ⟨w.heap.size, 4, none⟩ = some (.int .i64 O) := by go_cell
  have c5 : ((w.alloc (.cells #[.int .i64 K, .int .i64 B, .int .i64 F, .int .i64 R, .int .i64 O] 23)).alloc (.cells #[.int .i64 n, .int .i64 d] 29)).cell? ⟨w.heap.size + 1, 0, none⟩ = some (.int .i64 n) := by go_cell
  have c6 : ((w.alloc (.cells #[.int .i64 K, .int .i64 B, .int .i64 F, .int .i64 R, .int .i64 O] 23)).alloc (.cells #[.int .i64 n, .int .i64 d] 29)).cell? ⟨w.heap.size + 1, 1, none⟩ = some (.int .i64 d) := by go_cell
  have l0 : w.heap.size < ((w.alloc (.cells #[.int .i64 K, .int .i64 B, .int .i64 F, .int .i64 R, .int .i64 O] 23)).alloc (.cells #[.int .i64 n, .int .i64 d] 29)).heap.size := by simp <;> omega
  have l1 : w.heap.size + 1 < ((w.alloc (.cells #[.int .i64 K, .int .i64 B, .int .i64 F, .int .i64 R, .int .i64 O] 23)).alloc (.cells #[.int .i64 n, .int .i64 d] 29)).heap.size := by simp <;> omega
  go_wp2_with fail
  generalize ((w.alloc (.cells #[.int .i64 K, .int .i64 B, .int .i64 F, .int .i64 R, .int .i64 O] 23)).alloc (.cells #[.int .i64 n, .int .i64 d] 29)) = z at *
  have hz : z.cell? ⟨w.heap.size, 0, none⟩ = some (.int .i64 K) /\ z.cell? ⟨w.heap.size, 1, none⟩ = some (.int .i64 B) /\ z.cell? ⟨w.heap.size, 2, none⟩ = some (.int .i64 F) /\ z.cell? ⟨w.heap.size, 3, none⟩ = some (.int .i64 R) /\ z.cell? ⟨w.heap.size, 4, none⟩ = some (.int .i64 O) /\ z.cell? ⟨w.heap.size + 1, 0, none⟩ = some (.int .i64 n) /\ z.cell? ⟨w.heap.size + 1, 1, none⟩ = some (.int .i64 d) /\ z.heap.size <= z.heap.size /\ Below w.heap.size w z := ⟨c0, c1, c2, c3, c4, c5, c6, Nat.le_refl _, K0⟩
  clear c0 c1 c2 c3 c4 c5 c6
  have HS : Hid (∀ u u' : World, (u.cell? ⟨w.heap.size, 0, none⟩ = some (.int .i64 K) /\ u.cell? ⟨w.heap.size, 1, none⟩ = some (.int .i64 B) /\ u.cell? ⟨w.heap.size, 2, none⟩ = some (.int .i64 F) /\ u.cell? ⟨w.heap.size, 3, none⟩ = some (.int .i64 R) /\ u.cell? ⟨w.heap.size, 4, none⟩ = some (.int .i64 O) /\ u.cell? ⟨w.heap.size + 1, 0, none⟩ = some (.int .i64 n) /\ u.cell? ⟨w.heap.size + 1, 1, none⟩ = some (.int .i64 d) /\ z.heap.size <= u.heap.size /\ Below w.heap.size w u) -> Below u.heap.size u u' -> (u'.cell? ⟨w.heap.size, 0, none⟩ = some (.int .i64 K) /\ u'.cell? ⟨w.heap.size, 1, none⟩ = some (.int .i64 B) /\ u'.cell? ⟨w.heap.size, 2, none⟩ = some (.int .i64 F) /\ u'.cell? ⟨w.heap.size, 3, none⟩ = some (.int .i64 R) /\ u'.cell? ⟨w.heap.size, 4, none⟩ = some (.int .i64 O) /\ u'.cell? ⟨w.heap.size + 1, 0, none⟩ = some (.int .i64 n) /\ u'.cell? ⟨w.heap.size + 1, 1, none⟩ = some (.int .i64 d) /\ z.heap.size <= u'.heap.size /\ Below w.heap.size w u')) := Lib.hid (fun u u' h hb => ⟨Rg.keep hb (Nat.lt_of_lt_of_le l0 h.2.2.2.2.2.2.2.1) h.1, Rg.keep hb (Nat.lt_of_lt_of_le l0 h.2.2.2.2.2.2.2.1) h.2.1, Rg.keep hb (Nat.lt_of_lt_of_le l0 h.2.2.2.2.2.2.2.1) h.2.2.1, Rg.keep hb (Nat.lt_of_lt_of_le l0 h.2.2.2.2.2.2.2.1) h.2.2.2.1, Rg.keep hb (Nat.lt_of_lt_of_le l0 h.2.2.2.2.2.2.2.1) h.2.2.2.2.1, Rg.keep hb (Nat.lt_of_lt_of_le l1 h.2.2.2.2.2.2.2.1) h.2.2.2.2.2.1, Rg.keep hb (Nat.lt_of_lt_of_le l1 h.2.2.2.2.2.2.2.1) h.2.2.2.2.2.2.1, Nat.le_trans h.2.2.2.2.2.2.2.1 hb.size, h.2.2.2.2.2.2.2.2.trans (hb.mono h.2.2.2.2.2.2.2.2.size)⟩)
  refine wp_region_held_drew (S := fun w' => w'.cell? ⟨w.heap.size, 0, none⟩ = some (.int .i64 K) /\ w'.cell? ⟨w.heap.size, 1, none⟩ = some (.int .i64 B) /\ w'.cell? ⟨w.heap.size, 2, none⟩ = some (.int .i64 F) /\ w'.cell? ⟨w.heap.size, 3, none⟩ = some (.int .i64 R) /\ w'.cell? ⟨w.heap.size, 4, none⟩ = some (.int .i64 O) /\ w'.cell? ⟨w.heap.size + 1, 0, none⟩ = some (.int .i64 n) /\ w'.cell? ⟨w.heap.size + 1, 1, none⟩ = some (.int .i64 d) /\ z.heap.size <= w'.heap.size /\ Below w.heap.size w w') (by kernel_rfl) (HS.out _ _ hz (Below.drew (Below.refl _ _))) (fun hHeld => ?_)
  refine Rg.take (i := 0) (v := ?_) rfl (by kernel_rfl) (by kernel_rfl) (by kernel_rfl) (fun _ _ _ h => h) (Or.inl ⟨by kernel_rfl, ?_⟩) (by assumption) ?_
  rotate_left
  ·((intro w hSw; (try dsimp only at hSw); go_simp) <;> with_reducible rfl)
  try simp only [Act.put, List.setIfInBounds_toArray, List.set_cons_zero, List.set_cons_succ]
  refine Rg.one (i := 1) (by kernel_rfl) rfl (fun K hK => ?_)
  rw [if_pos (by kernel_rfl)]
  go_simp
  ((with_reducible refine (VT.out _).mono ?_); rintro e u ⟨rfl, hb⟩)
  have hNew := HS.out _ _ hHeld hb
  first | (refine hK.out _ _ hNew (fun _ => ?_)) | (go_wp2_with fail; refine hK.out _ _ hNew (fun _ => ?_))
  clear hK K hHeld hb
  have hHeld := hNew
  clear hNew
  refine Rg.take (i := 2) (v := ?_) rfl (by kernel_rfl) (by kernel_rfl) (by kernel_rfl) (fun _ _ _ h => h) (Or.inl ⟨by kernel_rfl, ?_⟩) (by assumption) ?_
  rotate_left
  ·((intro w hSw; (try dsimp only at hSw); go_simp) <;> with_reducible rfl)
  try simp only [Act.put, List.setIfInBounds_toArray, List.set_cons_zero, List.set_cons_succ]
  refine Rg.take (i := 3) (v := ?_) rfl (by kernel_rfl) (by kernel_rfl) (by kernel_rfl) (fun _ _ _ h => h) (Or.inl ⟨by kernel_rfl, ?_⟩) (by assumption) ?_
  rotate_left
  ·((intro w hSw; (try dsimp only at hSw); go_simp) <;> with_reducible rfl)
  try simp only [Act.put, List.setIfInBounds_toArray, List.set_cons_zero, List.set_cons_succ]
  refine Rg.take (i := 4) (v := ?_) rfl (by kernel_rfl) (by kernel_rfl) (by kernel_rfl) (fun _ _ _ h => h) (Or.inl ⟨by kernel_rfl, ?_⟩) (by assumption) ?_
  rotate_left
  ·((intro w hSw; (try dsimp only at hSw); go_simp) <;> with_reducible rfl)
  try simp only [Act.put, List.setIfInBounds_toArray, List.set_cons_zero, List.set_cons_succ]
  refine Rg.take (i := 5) (v := ?_) rfl (by kernel_rfl) (by kernel_rfl) (by kernel_rfl) (fun _ _ _ h => h) (Or.inl ⟨by kernel_rfl, ?_⟩) (by assumption) ?_
  rotate_left
  ·((intro w hSw; (try dsimp only at hSw); go_simp) <;> with_reducible rfl)
  try simp only [Act.put, List.setIfInBounds_toArray, List.set_cons_zero, List.set_cons_succ]
  refine Rg.take (i := 6) (v := ?_) rfl (by kernel_rfl) (by kernel_rfl) (by kernel_rfl) (fun _ _ _ h => h) (Or.inl ⟨by kernel_rfl, ?_⟩) (by assumption) ?_
  rotate_left
  ·((intro w hSw; (try dsimp only at hSw); go_simp) <;> with_reducible rfl)
  try simp only [Act.put, List.setIfInBounds_toArray, List.set_cons_zero, List.set_cons_succ]
  refine Rg.take (i := 7) (v := ?_) rfl (by kernel_rfl) (by kernel_rfl) (by kernel_rfl) (fun _ _ _ h => h) (Or.inl ⟨by kernel_rfl, ?_⟩) (by assumption) ?_
  rotate_left
  ·((intro w hSw; (try dsimp only at hSw); go_simp) <;> with_reducible rfl)
  try simp only [Act.put, List.setIfInBounds_toArray, List.set_cons_zero, List.set_cons_succ]
  refine Rg.take (i := 8) (v := ?_) rfl (by kernel_rfl) (by kernel_rfl) (by kernel_rfl) (fun _ _ _ h => h) (Or.inl ⟨by kernel_rfl, ?_⟩) (by assumption) ?_
  rotate_left
  ·((intro w hSw; (try dsimp only at hSw); go_simp) <;> with_reducible rfl)
  try simp only [Act.put, List.setIfInBounds_toArray, List.set_cons_zero, List.set_cons_succ]
  refine Rg.take (i := 9) (v := ?_) rfl (by kernel_rfl) (by kernel_rfl) (by kernel_rfl) (fun _ _ _ h => h) (Or.inl ⟨by kernel_rfl, ?_⟩) (by assumption) ?_
  rotate_left
  ·((intro w hSw; (try dsimp only at hSw); go_simp) <;> with_reducible rfl)
  try simp only [Act.put, List.setIfInBounds_toArray, List.set_cons_zero, List.set_cons_succ]
  refine Rg.take (i := 10) (v := ?_) rfl (by kernel_rfl) (by kernel_rfl) (by kernel_rfl) (fun _ _ _ h => h) (Or.inl ⟨by kernel_rfl, ?_⟩) (by assumption) ?_
  rotate_left
  ·((intro w hSw; (try dsimp only at hSw); go_simp) <;> with_reducible rfl)
  try simp only [Act.put, List.setIfInBounds_toArray, List.set_cons_zero, List.set_cons_succ]
  refine Rg.take (i := 11) (v := ?_) rfl (by kernel_rfl) (by kernel_rfl) (by kernel_rfl) (fun _ _ _ h => h) (Or.inl ⟨by kernel_rfl, ?_⟩) (by assumption) ?_
  rotate_left
  ·((intro w hSw; (try dsimp only at hSw); go_simp) <;> with_reducible rfl)
  try simp only [Act.put, List.setIfInBounds_toArray, List.set_cons_zero, List.set_cons_succ]
  refine Rg.take (i := 12) (v := ?_) rfl (by kernel_rfl) (by kernel_rfl) (by kernel_rfl) (fun _ _ _ h => h) (Or.inl ⟨by kernel_rfl, ?_⟩) (by assumption) ?_
  rotate_left
  ·((intro w hSw; (try dsimp only at hSw); go_simp) <;> with_reducible rfl)
  try simp only [Act.put, List.setIfInBounds_toArray, List.set_cons_zero, List.set_cons_succ]
  refine Rg.one (i := 13) (by kernel_rfl) rfl (fun K hK => ?_)
  rw [if_pos (by kernel_rfl)]
  go_simp
  ((with_reducible refine (MN.out _).mono ?_); rintro e u ⟨rfl, rfl⟩)
  first | (refine hK.out _ _ hHeld (fun _ => ?_)) | (go_wp2_with fail; refine hK.out _ _ hHeld (fun _ => ?_))
  clear hK K
  refine Rg.take (i := 14) (v := ?_) rfl (by kernel_rfl) (by kernel_rfl) (by kernel_rfl) (fun _ _ _ h => h) (Or.inl ⟨by kernel_rfl, ?_⟩) (by assumption) ?_
  rotate_left
  ·((intro w hSw; (try dsimp only at hSw); go_simp) <;> with_reducible rfl)
  try simp only [Act.put, List.setIfInBounds_toArray, List.set_cons_zero, List.set_cons_succ]
  refine Rg.take (i := 15) (v := ?_) rfl (by kernel_rfl) (by kernel_rfl) (by kernel_rfl) (fun _ _ _ h => h) (Or.inl ⟨by kernel_rfl, ?_⟩) (by assumption) ?_
  rotate_left
  ·((intro w hSw; (try dsimp only at hSw); go_simp) <;> with_reducible rfl)
  try simp only [Act.put, List.setIfInBounds_toArray, List.set_cons_zero, List.set_cons_succ]
  refine Rg.take (i := 16) (v := ?_) rfl (by kernel_rfl) (by kernel_rfl) (by kernel_rfl) (fun _ _ _ h => h) (Or.inl ⟨by kernel_rfl, ?_⟩) (by assumption) ?_
  rotate_left
  ·((intro w hSw; (try dsimp only at hSw); go_simp) <;> with_reducible rfl)
  try simp only [Act.put, List.setIfInBounds_toArray, List.set_cons_zero, List.set_cons_succ]
  refine Rg.take (i := 17) (v := ?_) rfl (by kernel_rfl) (by kernel_rfl) (by kernel_rfl) (fun _ _ _ h => h) (Or.inl ⟨by kernel_rfl, ?_⟩) (by assumption) ?_
  rotate_left
  ·((intro w hSw; (try dsimp only at hSw); go_simp) <;> with_reducible rfl)
  try simp only [Act.put, List.setIfInBounds_toArray, List.set_cons_zero, List.set_cons_succ]
  refine Rg.take (i := 18) (v := ?_) rfl (by kernel_rfl) (by kernel_rfl) (by kernel_rfl) (fun _ _ _ h => h) (Or.inl ⟨by kernel_rfl, ?_⟩) (by assumption) ?_
  rotate_left
  ·((intro w hSw; (try dsimp only at hSw); go_simp) <;> with_reducible rfl)
  try simp only [Act.put, List.setIfInBounds_toArray, List.set_cons_zero, List.set_cons_succ]
  refine Rg.take (i := 19) (v := ?_) rfl (by kernel_rfl) (by kernel_rfl) (by kernel_rfl) (fun _ _ _ h => h) (Or.inl ⟨by kernel_rfl, ?_⟩) (by assumption) ?_
  rotate_left
  ·((intro w hSw; (try dsimp only at hSw); go_simp) <;> with_reducible rfl)
  try simp only [Act.put, List.setIfInBounds_toArray, List.set_cons_zero, List.set_cons_succ]
  refine Rg.take (i := 20) (v := ?_) rfl (by kernel_rfl) (by kernel_rfl) (by kernel_rfl) (fun _ _ _ h => h) (Or.inl ⟨by kernel_rfl, ?_⟩) (by assumption) ?_
  rotate_left
  ·((intro w hSw; (try dsimp only at hSw); go_simp) <;> with_reducible rfl)
  try simp only [Act.put, List.setIfInBounds_toArray, List.set_cons_zero, List.set_cons_succ]
  refine Rg.one (i := 21) (by kernel_rfl) rfl (fun K hK => ?_)
  rw [if_pos (by kernel_rfl)]
  go_simp
  ((with_reducible refine (MX.out _).mono ?_); rintro e u ⟨rfl, rfl⟩)
  first | (refine hK.out _ _ hHeld (fun _ => ?_)) | (go_wp2_with fail; refine hK.out _ _ hHeld (fun _ => ?_))
  clear hK K
  refine Rg.take (i := 22) (v := ?_) rfl (by kernel_rfl) (by kernel_rfl) (by kernel_rfl) (fun _ _ _ h => h) (Or.inl ⟨by kernel_rfl, ?_⟩) (by assumption) ?_
  rotate_left
  ·((intro w hSw; (try dsimp only at hSw); go_simp) <;> with_reducible rfl)
  try simp only [Act.put, List.setIfInBounds_toArray, List.set_cons_zero, List.set_cons_succ]
  refine Rg.take (i := 23) (v := ?_) rfl (by kernel_rfl) (by kernel_rfl) (by kernel_rfl) (fun _ _ _ h => h) (Or.inl ⟨by kernel_rfl, ?_⟩) (by assumption) ?_
  rotate_left
  ·((intro w hSw; (try dsimp only at hSw); go_simp) <;> with_reducible rfl)
  try simp only [Act.put, List.setIfInBounds_toArray, List.set_cons_zero, List.set_cons_succ]
  refine Rg.take (i := 24) (v := ?_) rfl (by kernel_rfl) (by kernel_rfl) (by kernel_rfl) (fun _ _ _ h => h) (Or.inl ⟨by kernel_rfl, ?_⟩) (by assumption) ?_
  rotate_left
  ·((intro w hSw; (try dsimp only at hSw); go_simp) <;> with_reducible rfl)
  try simp only [Act.put, List.setIfInBounds_toArray, List.set_cons_zero, List.set_cons_succ]
  refine wpAnyH_done (by kernel_rfl) ?_ _
  go_wp2
  go_ret
  exact ⟨rfl, hHeld.2.2.2.2.2.2.2.2⟩
end Go.Proofs.YteaaikmejacpaaaGreatDoor.Fx


namespace Go.Proofs.YteaaikmejacpaaaGreatDoor.Fx
open Go.ChangeShapes Go.WideShapes Go.ChangeAt Go.RowKit
open Fr
set_option linter.unusedVariables false
set_option linter.unusedSimpArgs false
/-- The values of a fixed-point type. -/
def fv (K B F R O n d : Int) : Bool := tv K B F R O && decide (d = 1 /\ - Nx.half B <= n /\ n <= Nx.half B - 1)
theorem half_of {B : Int} (h : 2 <= B) (h' : B <= 31) : (2 : Int) ^ (B.toNat - 1) = Nx.half B /\ 2 <= Nx.half B /\ Nx.half B <= 1073741824 /\ Nx.full B = 2 * Nx.half B := by
 rcases Nx.widths B h h' with ⟨rfl, hh, hf⟩ | ⟨rfl, hh, hf⟩ | ⟨rfl, hh, hf⟩ | ⟨rfl, hh, hf⟩ | ⟨rfl, hh, hf⟩ | ⟨rfl, hh, hf⟩ | ⟨rfl, hh, hf⟩ | ⟨rfl, hh, hf⟩ | ⟨rfl, hh, hf⟩ | ⟨rfl, hh, hf⟩ | ⟨rfl, hh, hf⟩ | ⟨rfl, hh, hf⟩ | ⟨rfl, hh, hf⟩ | ⟨rfl, hh, hf⟩ | ⟨rfl, hh, hf⟩ | ⟨rfl, hh, hf⟩ | ⟨rfl, hh, hf⟩ | ⟨rfl, hh, hf⟩ | ⟨rfl, hh, hf⟩ | ⟨rfl, hh, hf⟩ | ⟨rfl, hh, hf⟩ | ⟨rfl, hh, hf⟩ | ⟨rfl, hh, hf⟩ | ⟨rfl, hh, hf⟩ | ⟨rfl, hh, hf⟩ | ⟨rfl, hh, hf⟩ | ⟨rfl, hh, hf⟩ | ⟨rfl, hh, hf⟩ | ⟨rfl, hh, hf⟩ | ⟨rfl, hh, hf⟩
 all_goals exact ⟨rfl, by omega, by omega, by omega⟩
theorem fval (K B F R O n d : Int) (w : World) (b0 : -9223372036854775808 <= B) (b1 : B <= 9223372036854775807) : Calls Tryz.prog 86 #[.agg #[.int .i64 K, .int .i64 B, .int .i64 F, .int .i64 R, .int .i64 O], .agg #[.int .i64 n, .int .i64 d]] w (Ret (.bool (fv K B F R O n d)) w) := by
 have MN := Lib.hid fun w => Nx.min_any B w b0 b1
 have MX := Lib.hid fun w => Nx.max_any B w b0 b1
 by_cases h : tv K B F R O = true
 ·obtain ⟨h1, h2, h3, h4, h5, h6, h7, h8⟩ := tv_parts h
  have VT := Lib.hid fun w => vt_ok K B F R O w h
  have e1 : Nx.mnv B = - Nx.half B := by unfold Nx.mnv; rw [if_neg (by omega)]
  have e2 : Nx.mxv B = Nx.half B - 1 := by unfold Nx.mxv; rw [if_neg (by omega)]
  rw [e1] at MN
  rw [e2] at MX
  unfold fv
  rw [h, Bool.true_and]
  by_cases hd : d = 1
  ·by_cases hl : - Nx.half B <= n
   ·exact fval_hi K B F R O n d _ _ w VT MN MX _ (by simpa using hd) (by simpa using hl) (by simp [hd, hl])
   ·rw [decide_eq_false (by omega)]
    exact fval_lo K B F R O n d _ _ w VT MN MX (by simpa using hd) (by simp; omega)
  ·rw [decide_eq_false (by omega)]
   exact fval_d K B F R O n d _ _ w VT MN MX (by simpa using hd)
 ·have h' : tv K B F R O = false := by simpa using h
  have VT := Lib.hid fun w => vt_bad K B F R O w h'
  unfold fv
  rw [h', Bool.false_and]
  exact fval_tv K B F R O n d _ _ w VT MN MX
set_option maxHeartbeats 4000000 in
theorem bvk (K B F R O n d : Int) (w : World) (h : tv K B F R O = true) : Calls Tryz.prog 54 #[.agg #[.int .i64 K, .int .i64 B, .int .i64 F, .int .i64 R, .int .i64 O], .agg #[.int .i64 n, .int .i64 d]] w (Ret (.bool (fv K B F R O n d)) w) := by
 obtain ⟨h1, h2, h3, h4, h5, h6, h7, h8⟩ := tv_parts h
 unfold fv
 rw [h, Bool.true_and]
 obtain ⟨H1, H2, H3, _⟩ := half_of h2 h3
 generalize Nx.half B = H at *
 have k1 : (K == 2) = true := by simpa using h1
 have g1 : 0 <= B - 1 := by omega
 clear h h1 h4 h5 h6 h7 h8
 by_cases hd : d = 1
 ·by_cases hl : - H <= n
  ·obtain ⟨x, hx⟩ : ∃ x, decide (n < H) = x := ⟨_, rfl⟩
   have e : decide (d = 1 /\ -H <= n /\ n <= H - 1) = x := by rw [<- hx]; simp [hd, hl]; omega
   rw [e]
   have k2 : (d == 1) = true := by simpa using hd
   have k3 : decide (-H <= n) = true := by simpa using hl
   clear e hd hl
   cases x
   all_goals
    go_enter Tryz.func54, Tryz.ntmps54
    go_wp2
    go_ret
    exact ⟨rfl, by go_grown⟩
  ·rw [decide_eq_false (by omega)]
   have k2 : (d == 1) = true := by simpa using hd
   have k3 : decide (-H <= n) = false := by simp; omega
   clear hd hl
   go_enter Tryz.func54, Tryz.ntmps54
   go_wp2
   go_ret
   exact ⟨rfl, by go_grown⟩
 ·rw [decide_eq_false (by omega)]
  have k2 : (d == 1) = false := by simpa using hd
  clear hd
  go_enter Tryz.func54, Tryz.ntmps54
  go_wp2
  go_ret
  exact ⟨rfl, by go_grown⟩
end Go.Proofs.YteaaikmejacpaaaGreatDoor.Fx
