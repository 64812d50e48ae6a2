/- ValidateType of the reference; Valid of package fixed. -/
import Derived.Test.YteaaikmejacpaaaGreatDoorR0
import Derived.Test.YteaaikmejacpaaaGreatDoorRows
import Derived.WalkKit
import Derived.ProofKit
import Derived.OpenShut
import Derived.WalkLawsBesides
import Derived.WalkSpells
import Derived.Outline
import Derived.Handy
import Derived.Deep.QuietTactic
import Derived.BigQuiet
import Derived.Lib.Hide

namespace Go.Proofs.YteaaikmejacpaaaGreatDoor.Fx
open Go.ChangeShapes Go.WideShapes Go.ChangeAt Go.RowKit
open Fr
set_option linter.unusedVariables false
set_option linter.unusedSimpArgs false
theorem below2 (w : World) (a b : Obj) : Below w.heap.size w ((w.alloc a).alloc b) := ((Below.refl _ _).alloc (Nat.le_refl _) _).alloc (by simp) _
set_option maxHeartbeats 4000000 in
theorem fval_tv (K B F R O n d lo hi : Int) (w : World) (VT : Hid (∀ w, Calls Tryz.prog 81 #[.agg #[.int .i64 K, .int .i64 B, .int .i64 F, .int .i64 R, .int .i64 O]] w (Ret (.int .i64 10) w)))
  (MN : Hid (∀ w, Calls Tryz.prog 111 #[.int .i64 B] w fun e w' => e = .returned (.int .i64 lo) /\ w = w')) (MX : Hid (∀ w, Calls Tryz.prog 112 #[.int .i64 B] w fun e w' => e = .returned (.int .i64 hi) /\ w = w'))  :
  Calls Tryz.prog 86 #[.agg #[.int .i64 K, .int .i64 B, .int .i64 F, .int .i64 R, .int .i64 O], .agg #[.int .i64 n, .int .i64 d]] w (Ret (.bool false) w) := by
 go_enter Tryz.func86, Tryz.ntmps86
 have K0 : Below w.heap.size w ((w.alloc (.cells #[.int .i64 K, .int .i64 B, .int .i64 F, .int .i64 R, .int .i64 O] 23)).alloc (.cells #[.int .i64 n, .int .i64 d] 29)) := below2 _ _ _
 have c0 : ((w.alloc (.cells #[.int .i64 K, .int .i64 B, .int .i64 F, .int .i64 R, .int .i64 O] 23)).alloc (.cells #[.int .i64 n, .int .i64 d] 29)).cell? ⟨w.heap.size, 0, none⟩ = some (.int .i64 K) := by go_cell
 have c1 : ((w.alloc (.cells #[.int .i64 K, .int .i64 B, .int .i64 F, .int .i64 R, .int .i64 O] 23)).alloc (.cells #[.int .i64 n, .int .i64 d] 29)).cell? ⟨w.heap.size, 1, none⟩ = some (.int .i64 B) := by go_cell
 have c2 : ((w.alloc (.cells #[.int .i64 K, .int .i64 B, .int .i64 F, .int .i64 R, .int .i64 O] 23)).alloc (.cells #[.int .i64 n, .int .i64 d] 29)).cell? ⟨w.heap.size, 2, none⟩ = some (.int .i64 F) := by go_cell
 have c3 : ((w.alloc (.cells #[.int .i64 K, .int .i64 B, .int .i64 F, .int .i64 R, .int .i64 O] 23)).alloc (.cells #[.int .i64 n, .int .i64 d] 29)).cell? ⟨w.heap.size, 3, none⟩ = some (.int .i64 R) := by go_cell
 have c4 : ((w.alloc (.cells #[.int .i64 K, .int .i64 B, .int .i64 F, .int .i64 R, .int .i64 O] 23)).alloc (.cells #[.int .i64 n, .int .i64 d] 29)).cell? ⟨w.heap.size, 4, none⟩ = some (.int .i64 O) := by go_cell
 have c5 : ((w.alloc (.cells #[.int .i64 K, .int .i64 B, .int .i64 F, .int .i64 R, .int .i64 O] 23)).alloc (.cells #[.int .i64 n, .int .i64 d] 29)).cell? ⟨w.heap.size + 1, 0, none⟩ = some (.int .i64 n) := by go_cell
 have c6 : ((w.alloc (.cells #[.int .i64 K, .int .i64 B, .int .i64 F, .int .i64 R, .int .i64 O] 23)).alloc (.cells #[.int .i64 n, .int .i64 d] 29)).cell? ⟨w.heap.size + 1, 1, none⟩ = some (.int .i64 d) := by go_cell
 have l0 : w.heap.size < ((w.alloc (.cells #[.int .i64 K, .int .i64 B, .int .i64 F, .int .i64 R, .int .i64 O] 23)).alloc (.cells #[.int .i64 n, .int .i64 d] 29)).heap.size := by simp <;> omega
 have l1 : w.heap.size + 1 < ((w.alloc (.cells #[.int .i64 K, .int .i64 B, .int .i64 F, .int .i64 R, .int .i64 O] 23)).alloc (.cells #[.int .i64 n, .int .i64 d] 29)).heap.size := by simp <;> omega
 go_wp2_with fail
 generalize ((w.alloc (.cells #[.int .i64 K, .int .i64 B, .int .i64 F, .int .i64 R, .int .i64 O] 23)).alloc (.cells #[.int .i64 n, .int .i64 d] 29)) = z at *
 have hz : z.cell? ⟨w.heap.size, 0, none⟩ = some (.int .i64 K) /\ z.cell? ⟨w.heap.size, 1, none⟩ = some (.int .i64 B) /\ z.cell? ⟨w.heap.size, 2, none⟩ = some (.int .i64 F) /\ z.cell? ⟨w.heap.size, 3, none⟩ = some (.int .i64 R) /\ z.cell? ⟨w.heap.size, 4, none⟩ = some (.int .i64 O) /\ z.cell? ⟨w.heap.size + 1, 0, none⟩ = some (.int .i64 n) /\ z.cell? ⟨w.heap.size + 1, 1, none⟩ = some (.int .i64 d) /\ z.heap.size <= z.heap.size /\ Below w.heap.size w z := ⟨c0, c1, c2, c3, c4, c5, c6, Nat.le_refl _, K0⟩
 clear c0 c1 c2 c3 c4 c5 c6
 have HS : Hid (∀ u u' : World, (u.cell? ⟨w.heap.size, 0, none⟩ = some (.int .i64 K) /\ u.cell? ⟨w.heap.size, 1, none⟩ = some (.int .i64 B) /\ u.cell? ⟨w.heap.size, 2, none⟩ = some (.int .i64 F) /\ u.cell? ⟨w.heap.size, 3, none⟩ = some (.int .i64 R) /\ u.cell? ⟨w.heap.size, 4, none⟩ = some (.int .i64 O) /\ u.cell? ⟨w.heap.size + 1, 0, none⟩ = some (.int .i64 n) /\ u.cell? ⟨w.heap.size + 1, 1, none⟩ = some (.int .i64 d) /\ z.heap.size <= u.heap.size /\ Below w.heap.size w u) -> Below u.heap.size u u' -> (u'.cell? ⟨w.heap.size, 0, none⟩ = some (.int .i64 K) /\ u'.cell? ⟨w.heap.size, 1, none⟩ = some (.int .i64 B) /\ u'.cell? ⟨w.heap.size, 2, none⟩ = some (.int .i64 F) /\ u'.cell? ⟨w.heap.size, 3, none⟩ = some (.int .i64 R) /\ u'.cell? ⟨w.heap.size, 4, none⟩ = some (.int .i64 O) /\ u'.cell? ⟨w.heap.size + 1, 0, none⟩ = some (.int .i64 n) /\ u'.cell? ⟨w.heap.size + 1, 1, none⟩ = some (.int .i64 d) /\ z.heap.size <= u'.heap.size /\ Below w.heap.size w u')) := Lib.hid (fun u u' h hb => ⟨Rg.keep hb (Nat.lt_of_lt_of_le l0 h.2.2.2.2.2.2.2.1) h.1, Rg.keep hb (Nat.lt_of_lt_of_le l0 h.2.2.2.2.2.2.2.1) h.2.1, Rg.keep hb (Nat.lt_of_lt_of_le l0 h.2.2.2.2.2.2.2.1) h.2.2.1, Rg.keep hb (Nat.lt_of_lt_of_le l0 h.2.2.2.2.2.2.2.1) h.2.2.2.1, Rg.keep hb (Nat.lt_of_lt_of_le l0 h.2.2.2.2.2.2.2.1) h.2.2.2.2.1, Rg.keep hb (Nat.lt_of_lt_of_le l1 h.2.2.2.2.2.2.2.1) h.2.2.2.2.2.1, Rg.keep hb (Nat.lt_of_lt_of_le l1 h.2.2.2.2.2.2.2.1) h.2.2.2.2.2.2.1, Nat.le_trans h.2.2.2.2.2.2.2.1 hb.size, h.2.2.2.2.2.2.2.2.trans (hb.mono h.2.2.2.2.2.2.2.2.size)⟩)
 refine wp_region_held_drew (S := fun w' => w'.cell? ⟨w.heap.size, 0, none⟩ = some (.int .i64 K) /\ w'.cell? ⟨w.heap.size, 1, none⟩ = some (.int .i64 B) /\ w'.cell? ⟨w.heap.size, 2, none⟩ = some (.int .i64 F) /\ w'.cell? ⟨w.heap.size, 3, none⟩ = some (.int .i64 R) /\ w'.cell? ⟨w.heap.size, 4, none⟩ = some (.int .i64 O) /\ w'.cell? ⟨w.heap.size + 1, 0, none⟩ = some (.int .i64 n) /\ w'.cell? ⟨w.heap.size + 1, 1, none⟩ = some (.int .i64 d) /\ z.heap.size <= w'.heap.size /\ Below w.heap.size w w') (by kernel_rfl) (HS.out _ _ hz (Below.drew (Below.refl _ _))) (fun hHeld => ?_)
 refine SqR.g 0 ?_
 refine Rg.one (i := 1) (by kernel_rfl) rfl (fun K hK => ?_)
 rw [if_pos (by kernel_rfl)]
 go_simp
 ((with_reducible refine (VT.out _).mono ?_); rintro e u ⟨rfl, hb⟩)
 have hNew := HS.out _ _ hHeld hb
 first | (refine hK.out _ _ hNew (fun _ => ?_)) | (go_wp2_with fail; refine hK.out _ _ hNew (fun _ => ?_))
 clear hK K hHeld hb
 have hHeld := hNew
 clear hNew
 refine SqR.g 2 ?_
 refine SqR.g 3 ?_
 refine Rg.take (i := 4) (v := undef) rfl (by kernel_rfl) (by kernel_rfl) (by kernel_rfl) (fun _ _ _ h => h) (Or.inr ⟨by kernel_rfl, rfl⟩) (by assumption) ?_
 try simp only [Act.put, List.setIfInBounds_toArray, List.set_cons_zero, List.set_cons_succ]
 refine Rg.take (i := 5) (v := undef) rfl (by kernel_rfl) (by kernel_rfl) (by kernel_rfl) (fun _ _ _ h => h) (Or.inr ⟨by kernel_rfl, rfl⟩) (by assumption) ?_
 try simp only [Act.put, List.setIfInBounds_toArray, List.set_cons_zero, List.set_cons_succ]
 refine Rg.take (i := 6) (v := undef) rfl (by kernel_rfl) (by kernel_rfl) (by kernel_rfl) (fun _ _ _ h => h) (Or.inr ⟨by kernel_rfl, rfl⟩) (by assumption) ?_
 try simp only [Act.put, List.setIfInBounds_toArray, List.set_cons_zero, List.set_cons_succ]
 refine SqR.g 7 ?_
 refine SqR.g 8 ?_
 refine Rg.take (i := 9) (v := undef) rfl (by kernel_rfl) (by kernel_rfl) (by kernel_rfl) (fun _ _ _ h => h) (Or.inr ⟨by kernel_rfl, rfl⟩) (by assumption) ?_
 try simp only [Act.put, List.setIfInBounds_toArray, List.set_cons_zero, List.set_cons_succ]
 refine Rg.take (i := 10) (v := undef) rfl (by kernel_rfl) (by kernel_rfl) (by kernel_rfl) (fun _ _ _ h => h) (Or.inr ⟨by kernel_rfl, rfl⟩) (by assumption) ?_
 try simp only [Act.put, List.setIfInBounds_toArray, List.set_cons_zero, List.set_cons_succ]
 refine Rg.take (i := 11) (v := undef) rfl (by kernel_rfl) (by kernel_rfl) (by kernel_rfl) (fun _ _ _ h => h) (Or.inr ⟨by kernel_rfl, rfl⟩) (by assumption) ?_
 try simp only [Act.put, List.setIfInBounds_toArray, List.set_cons_zero, List.set_cons_succ]
 refine Rg.take (i := 12) (v := undef) rfl (by kernel_rfl) (by kernel_rfl) (by kernel_rfl) (fun _ _ _ h => h) (Or.inr ⟨by kernel_rfl, rfl⟩) (by assumption) ?_
 try simp only [Act.put, List.setIfInBounds_toArray, List.set_cons_zero, List.set_cons_succ]
 refine Rg.take (i := 13) (v := undef) rfl (by kernel_rfl) (by kernel_rfl) (by kernel_rfl) (fun _ _ _ h => h) (Or.inr ⟨by kernel_rfl, rfl⟩) (by assumption) ?_
 try simp only [Act.put, List.setIfInBounds_toArray, List.set_cons_zero, List.set_cons_succ]
 refine Rg.take (i := 14) (v := undef) rfl (by kernel_rfl) (by kernel_rfl) (by kernel_rfl) (fun _ _ _ h => h) (Or.inr ⟨by kernel_rfl, rfl⟩) (by assumption) ?_
 try simp only [Act.put, List.setIfInBounds_toArray, List.set_cons_zero, List.set_cons_succ]
 refine SqR.g 15 ?_
 refine SqR.g 16 ?_
 refine Rg.take (i := 17) (v := undef) rfl (by kernel_rfl) (by kernel_rfl) (by kernel_rfl) (fun _ _ _ h => h) (Or.inr ⟨by kernel_rfl, rfl⟩) (by assumption) ?_
 try simp only [Act.put, List.setIfInBounds_toArray, List.set_cons_zero, List.set_cons_succ]
 refine Rg.take (i := 18) (v := undef) rfl (by kernel_rfl) (by kernel_rfl) (by kernel_rfl) (fun _ _ _ h => h) (Or.inr ⟨by kernel_rfl, rfl⟩) (by assumption) ?_
 try simp only [Act.put, List.setIfInBounds_toArray, List.set_cons_zero, List.set_cons_succ]
 refine Rg.take (i := 19) (v := undef) rfl (by kernel_rfl) (by kernel_rfl) (by kernel_rfl) (fun _ _ _ h => h) (Or.inr ⟨by kernel_rfl, rfl⟩) (by assumption) ?_
 try simp only [Act.put, List.setIfInBounds_toArray, List.set_cons_zero, List.set_cons_succ]
 refine Rg.take (i := 20) (v := undef) rfl (by kernel_rfl) (by kernel_rfl) (by kernel_rfl) (fun _ _ _ h => h) (Or.inr ⟨by kernel_rfl, rfl⟩) (by assumption) ?_
 try simp only [Act.put, List.setIfInBounds_toArray, List.set_cons_zero, List.set_cons_succ]
 refine Rg.take (i := 21) (v := undef) rfl (by kernel_rfl) (by kernel_rfl) (by kernel_rfl) (fun _ _ _ h => h) (Or.inr ⟨by kernel_rfl, rfl⟩) (by assumption) ?_
 try simp only [Act.put, List.setIfInBounds_toArray, List.set_cons_zero, List.set_cons_succ]
 refine Rg.take (i := 22) (v := undef) rfl (by kernel_rfl) (by kernel_rfl) (by kernel_rfl) (fun _ _ _ h => h) (Or.inr ⟨by kernel_rfl, rfl⟩) (by assumption) ?_
 try simp only [Act.put, List.setIfInBounds_toArray, List.set_cons_zero, List.set_cons_succ]
 refine SqR.g 23 ?_
 refine SqR.g 24 ?_
 refine wpAnyH_done (by kernel_rfl) ?_ _
 go_wp2
 go_ret
 exact ⟨rfl, hHeld.2.2.2.2.2.2.2.2⟩
set_option maxHeartbeats 4000000 in
theorem fval_d (K B F R O n d lo hi : Int) (w : World) (VT : Hid (∀ w, Calls Tryz.prog 81 #[.agg #[.int .i64 K, .int .i64 B, .int .i64 F, .int .i64 R, .int .i64 O]] w (Ret (.int .i64 0) w)))
  (MN : Hid (∀ w, Calls Tryz.prog 111 #[.int .i64 B] w fun e w' => e = .returned (.int .i64 lo) /\ w = w')) (MX : Hid (∀ w, Calls Tryz.prog 112 #[.int .i64 B] w fun e w' => e = .returned (.int .i64 hi) /\ w = w')) (h1 : (d == 1) = false) :
  Calls Tryz.prog 86 #[.agg #[.int .i64 K, .int .i64 B, .int .i64 F, .int .i64 R, .int .i64 O], .agg #[.int .i64 n, .int .i64 d]] w (Ret (.bool false) w) := by
 go_enter Tryz.func86, Tryz.ntmps86
 have K0 : Below w.heap.size w ((w.alloc (.cells #[.int .i64 K, .int .i64 B, .int .i64 F, .int .i64 R, .int .i64 O] 23)).alloc (.cells #[.int .i64 n, .int .i64 d] 29)) := below2 _ _ _
 have c0 : ((w.alloc (.cells #[.int .i64 K, .int .i64 B, .int .i64 F, .int .i64 R, .int .i64 O] 23)).alloc (.cells #[.int .i64 n, .int .i64 d] 29)).cell? ⟨w.heap.size, 0, none⟩ = some (.int .i64 K) := by go_cell
 have c1 : ((w.alloc (.cells #[.int .i64 K, .int .i64 B, .int .i64 F, .int .i64 R, .int .i64 O] 23)).alloc (.cells #[.int .i64 n, .int .i64 d] 29)).cell? ⟨w.heap.size, 1, none⟩ = some (.int .i64 B) := by go_cell
 have c2 : ((w.alloc (.cells #[.int .i64 K, .int .i64 B, .int .i64 F, .int .i64 R, .int .i64 O] 23)).alloc (.cells #[.int .i64 n, .int .i64 d] 29)).cell? ⟨w.heap.size, 2, none⟩ = some (.int .i64 F) := by go_cell
 have c3 : ((w.alloc (.cells #[.int .i64 K, .int .i64 B, .int .i64 F, .int .i64 R, .int .i64 O] 23)).alloc (.cells #[.int .i64 n, .int .i64 d] 29)).cell? ⟨w.heap.size, 3, none⟩ = some (.int .i64 R) := by go_cell
 have c4 : ((w.alloc (.cells #[.int .i64 K, .int .i64 B, .int .i64 F, .int .i64 R, .int .i64 O] 23)).alloc (.cells #[.int .i64 n, .int .i64 d] 29)).cell? ⟨w.heap.size, 4, none⟩ = some (.int .i64 O) := by go_cell
 have c5 : ((w.alloc (.cells #[.int .i64 K, .int .i64 B, .int .i64 F, .int .i64 R, .int .i64 O] 23)).alloc (.cells #[.int .i64 n, .int .i64 d] 29)).cell? ⟨w.heap.size + 1, 0, none⟩ = some (.int .i64 n) := by go_cell
 have c6 : ((w.alloc (.cells #[.int .i64 K, .int .i64 B, .int .i64 F, .int .i64 R, .int .i64 O] 23)).alloc (.cells #[.int .i64 n, .int .i64 d] 29)).cell? ⟨w.heap.size + 1, 1, none⟩ = some (.int .i64 d) := by go_cell
 have l0 : w.heap.size < ((w.alloc (.cells #[.int .i64 K, .int .i64 B, .int .i64 F, .int .i64 R, .int .i64 O] 23)).alloc (.cells #[.int .i64 n, .int .i64 d] 29)).heap.size := by simp <;> omega
 have l1 : w.heap.size + 1 < ((w.alloc (.cells #[.int .i64 K, .int .i64 B, .int .i64 F, .int .i64 R, .int .i64 O] 23)).alloc (.cells #[.int .i64 n, .int .i64 d] 29)).heap.size := by simp <;> omega
 go_wp2_with fail
 generalize ((w.alloc (.cells #[.int .i64 K, .int .i64 B, .int .i64 F, .int .i64 R, .int .i64 O] 23)).alloc (.cells #[.int .i64 n, .int .i64 d] 29)) = z at *
 have hz : z.cell? ⟨w.heap.size, 0, none⟩ = some (.int .i64 K) /\ z.cell? ⟨w.heap.size, 1, none⟩ = some (.int .i64 B) /\ z.cell? ⟨w.heap.size, 2, none⟩ = some (.int .i64 F) /\ z.cell? ⟨w.heap.size, 3, none⟩ = some (.int .i64 R) /\ z.cell? ⟨w.heap.size, 4, none⟩ = some (.int .i64 O) /\ z.cell? ⟨w.heap.size + 1, 0, none⟩ = some (.int .i64 n) /\ z.cell? ⟨w.heap.size + 1, 1, none⟩ = some (.int .i64 d) /\ z.heap.size <= z.heap.size /\ Below w.heap.size w z := ⟨c0, c1, c2, c3, c4, c5, c6, Nat.le_refl _, K0⟩
 clear c0 c1 c2 c3 c4 c5 c6
 have HS : Hid (∀ u u' : World, (u.cell? ⟨w.heap.size, 0, none⟩ = some (.int .i64 K) /\ u.cell? ⟨w.heap.size, 1, none⟩ = some (.int .i64 B) /\ u.cell? ⟨w.heap.size, 2, none⟩ = some (.int .i64 F) /\ u.cell? ⟨w.heap.size, 3, none⟩ = some (.int .i64 R) /\ u.cell? ⟨w.heap.size, 4, none⟩ = some (.int .i64 O) /\ u.cell? ⟨w.heap.size + 1, 0, none⟩ = some (.int .i64 n) /\ u.cell? ⟨w.heap.size + 1, 1, none⟩ = some (.int .i64 d) /\ z.heap.size <= u.heap.size /\ Below w.heap.size w u) -> Below u.heap.size u u' -> (u'.cell? ⟨w.heap.size, 0, none⟩ = some (.int .i64 K) /\ u'.cell? ⟨w.heap.size, 1, none⟩ = some (.int .i64 B) /\ u'.cell? ⟨w.heap.size, 2, none⟩ = some (.int .i64 F) /\ u'.cell? ⟨w.heap.size, 3, none⟩ = some (.int .i64 R) /\ u'.cell? ⟨w.heap.size, 4, none⟩ = some (.int .i64 O) /\ u'.cell? ⟨w.heap.size + 1, 0, none⟩ = some (.int .i64 n) /\ u'.cell? ⟨w.heap.size + 1, 1, none⟩ = some (.int .i64 d) /\ z.heap.size <= u'.heap.size /\ Below w.heap.size w u')) := Lib.hid (fun u u' h hb => ⟨Rg.keep hb (Nat.lt_of_lt_of_le l0 h.2.2.2.2.2.2.2.1) h.1, Rg.keep hb (Nat.lt_of_lt_of_le l0 h.2.2.2.2.2.2.2.1) h.2.1, Rg.keep hb (Nat.lt_of_lt_of_le l0 h.2.2.2.2.2.2.2.1) h.2.2.1, Rg.keep hb (Nat.lt_of_lt_of_le l0 h.2.2.2.2.2.2.2.1) h.2.2.2.1, Rg.keep hb (Nat.lt_of_lt_of_le l0 h.2.2.2.2.2.2.2.1) h.2.2.2.2.1, Rg.keep hb (Nat.lt_of_lt_of_le l1 h.2.2.2.2.2.2.2.1) h.2.2.2.2.2.1, Rg.keep hb (Nat.lt_of_lt_of_le l1 h.2.2.2.2.2.2.2.1) h.2.2.2.2.2.2.1, Nat.le_trans h.2.2.2.2.2.2.2.1 hb.size, h.2.2.2.2.2.2.2.2.trans (hb.mono h.2.2.2.2.2.2.2.2.size)⟩)
 refine wp_region_held_drew (S := fun w' => w'.cell? ⟨w.heap.size, 0, none⟩ = some (.int .i64 K) /\ w'.cell? ⟨w.heap.size, 1, none⟩ = some (.int .i64 B) /\ w'.cell? ⟨w.heap.size, 2, none⟩ = some (.int .i64 F) /\ w'.cell? ⟨w.heap.size, 3, none⟩ = some (.int .i64 R) /\ w'.cell? ⟨w.heap.size, 4, none⟩ = some (.int .i64 O) /\ w'.cell? ⟨w.heap.size + 1, 0, none⟩ = some (.int .i64 n) /\ w'.cell? ⟨w.heap.size + 1, 1, none⟩ = some (.int .i64 d) /\ z.heap.size <= w'.heap.size /\ Below w.heap.size w w') (by kernel_rfl) (HS.out _ _ hz (Below.drew (Below.refl _ _))) (fun hHeld => ?_)
 refine SqR.g 0 ?_
 refine Rg.one (i := 1) (by kernel_rfl) rfl (fun K hK => ?_)
 rw [if_pos (by kernel_rfl)]
 go_simp
 ((with_reducible refine (VT.out _).mono ?_); rintro e u ⟨rfl, hb⟩)
 have hNew := HS.out _ _ hHeld hb
 first | (refine hK.out _ _ hNew (fun _ => ?_)) | (go_wp2_with fail; refine hK.out _ _ hNew (fun _ => ?_))
 clear hK K hHeld hb
 have hHeld := hNew
 clear hNew
 refine SqR.g 2 ?_
 refine SqR.g 3 ?_
 refine SqR.g 4 ?_
 refine SqR.g 5 ?_
 refine SqR.g 6 ?_
 refine SqR.g 7 ?_
 refine SqR.g 8 ?_
 refine Rg.take (i := 9) (v := undef) rfl (by kernel_rfl) (by kernel_rfl) (by kernel_rfl) (fun _ _ _ h => h) (Or.inr ⟨by kernel_rfl, rfl⟩) (by assumption) ?_
 try simp only [Act.put, List.setIfInBounds_toArray, List.set_cons_zero, List.set_cons_succ]
 refine Rg.take (i := 10) (v := undef) rfl (by kernel_rfl) (by kernel_rfl) (by kernel_rfl) (fun _ _ _ h => h) (Or.inr ⟨by kernel_rfl, rfl⟩) (by assumption) ?_
 try simp only [Act.put, List.setIfInBounds_toArray, List.set_cons_zero, List.set_cons_succ]
 refine Rg.take (i := 11) (v := undef) rfl (by kernel_rfl) (by kernel_rfl) (by kernel_rfl) (fun _ _ _ h => h) (Or.inr ⟨by kernel_rfl, rfl⟩) (by assumption) ?_
 try simp only [Act.put, List.setIfInBounds_toArray, List.set_cons_zero, List.set_cons_succ]
 refine Rg.take (i := 12) (v := undef) rfl (by kernel_rfl) (by kernel_rfl) (by kernel_rfl) (fun _ _ _ h => h) (Or.inr ⟨by kernel_rfl, rfl⟩) (by assumption) ?_
 try simp only [Act.put, List.setIfInBounds_toArray, List.set_cons_zero, List.set_cons_succ]
 refine Rg.take (i := 13) (v := undef) rfl (by kernel_rfl) (by kernel_rfl) (by kernel_rfl) (fun _ _ _ h => h) (Or.inr ⟨by kernel_rfl, rfl⟩) (by assumption) ?_
 try simp only [Act.put, List.setIfInBounds_toArray, List.set_cons_zero, List.set_cons_succ]
 refine Rg.take (i := 14) (v := undef) rfl (by kernel_rfl) (by kernel_rfl) (by kernel_rfl) (fun _ _ _ h => h) (Or.inr ⟨by kernel_rfl, rfl⟩) (by assumption) ?_
 try simp only [Act.put, List.setIfInBounds_toArray, List.set_cons_zero, List.set_cons_succ]
 refine SqR.g 15 ?_
 refine SqR.g 16 ?_
 refine Rg.take (i := 17) (v := undef) rfl (by kernel_rfl) (by kernel_rfl) (by kernel_rfl) (fun _ _ _ h => h) (Or.inr ⟨by kernel_rfl, rfl⟩) (by assumption) ?_
 try simp only [Act.put, List.setIfInBounds_toArray, List.set_cons_zero, List.set_cons_succ]
 refine Rg.take (i := 18) (v := undef) rfl (by kernel_rfl) (by kernel_rfl) (by kernel_rfl) (fun _ _ _ h => h) (Or.inr ⟨by kernel_rfl, rfl⟩) (by assumption) ?_
 try simp only [Act.put, List.setIfInBounds_toArray, List.set_cons_zero, List.set_cons_succ]
 refine Rg.take (i := 19) (v := undef) rfl (by kernel_rfl) (by kernel_rfl) (by kernel_rfl) (fun _ _ _ h => h) (Or.inr ⟨by kernel_rfl, rfl⟩) (by assumption) ?_
 try simp only [Act.put, List.setIfInBounds_toArray, List.set_cons_zero, List.set_cons_succ]
 refine Rg.take (i := 20) (v := undef) rfl (by kernel_rfl) (by kernel_rfl) (by kernel_rfl) (fun _ _ _ h => h) (Or.inr ⟨by kernel_rfl, rfl⟩) (by assumption) ?_
 try simp only [Act.put, List.setIfInBounds_toArray, List.set_cons_zero, List.set_cons_succ]
 refine Rg.take (i := 21) (v := undef) rfl (by kernel_rfl) (by kernel_rfl) (by kernel_rfl) (fun _ _ _ h => h) (Or.inr ⟨by kernel_rfl, rfl⟩) (by assumption) ?_
 try simp only [Act.put, List.setIfInBounds_toArray, List.set_cons_zero, List.set_cons_succ]
 refine Rg.take (i := 22) (v := undef) rfl (by kernel_rfl) (by kernel_rfl) (by kernel_rfl) (fun _ _ _ h => h) (Or.inr ⟨by kernel_rfl, rfl⟩) (by assumption) ?_
 try simp only [Act.put, List.setIfInBounds_toArray, List.set_cons_zero, List.set_cons_succ]
 refine SqR.g 23 ?_
 refine SqR.g 24 ?_
 refine wpAnyH_done (by kernel_rfl) ?_ _
 go_wp2
 go_ret
 exact ⟨rfl, hHeld.2.2.2.2.2.2.2.2⟩
set_option maxHeartbeats 4000000 in
theorem fval_lo (K B F R O n d lo hi : Int) (w : World) (VT : Hid (∀ w, Calls Tryz.prog 81 #[.agg #[.int .i64 K, .int .i64 B, .int .i64 F, .int .i64 R, .int .i64 O]] w (Ret (.int .i64 0) w)))
  (MN : Hid (∀ w, Calls Tryz.prog 111 #[.int .i64 B] w fun e w' => e = .returned (.int .i64 lo) /\ w = w')) (MX : Hid (∀ w, Calls Tryz.prog 112 #[.int .i64 B] w fun e w' => e = .returned (.int .i64 hi) /\ w = w')) (h1 : (d == 1) = true) (h2 : decide (lo <= n) = false) :
  Calls Tryz.prog 86 #[.agg #[.int .i64 K, .int .i64 B, .int .i64 F, .int .i64 R, .int .i64 O], .agg #[.int .i64 n, .int .i64 d]] w (Ret (.bool false) w) := by
 go_enter Tryz.func86, Tryz.ntmps86
 have K0 : Below w.heap.size w ((w.alloc (.cells #[.int .i64 K, .int .i64 B, .int .i64 F, .int .i64 R, .int .i64 O] 23)).alloc (.cells #[.int .i64 n, .int .i64 d] 29)) := below2 _ _ _
 have c0 : ((w.alloc (.cells #[.int .i64 K, .int .i64 B, .int .i64 F, .int .i64 R, .int .i64 O] 23)).alloc (.cells #[.int .i64 n, .int .i64 d] 29)).cell? ⟨w.heap.size, 0, none⟩ = some (.int .i64 K) := by go_cell
 have c1 : ((w.alloc (.cells #[.int .i64 K, .int .i64 B, .int .i64 F, .int .i64 R, .int .i64 O] 23)).alloc (.cells #[.int .i64 n, .int .i64 d] 29)).cell? ⟨w.heap.size, 1, none⟩ = some (.int .i64 B) := by go_cell
 have c2 : ((w.alloc (.cells #[.int .i64 K, .int .i64 B, .int .i64 F, .int .i64 R, .int .i64 O] 23)).alloc (.cells #[.int .i64 n, .int .i64 d] 29)).cell? ⟨w.heap.size, 2, none⟩ = some (.int .i64 F) := by go_cell
 have c3 : ((w.alloc (.cells #[.int .i64 K, .int .i64 B, .int .i64 F, .int .i64 R, .int .i64 O] 23)).alloc (.cells #[.int .i64 n, .int .i64 d] 29)).cell? ⟨w.heap.size, 3, none⟩ = some (.int .i64 R) := by go_cell
 have c4 : ((w.alloc (.cells #[.int .i64 K, .int .i64 B, .int .i64 F, .int .i64 R, .int .i64 O] 23)).alloc (.cells #[.int .i64 n, .int .i64 d] 29)).cell? ⟨w.heap.size, 4, none⟩ = some (.int .i64 O) := by go_cell
 have c5 : ((w.alloc (.cells #[.int .i64 K, .int .i64 B, .int .i64 F, .int .i64 R, .int .i64 O] 23)).alloc (.cells #[.int .i64 n, .int .i64 d] 29)).cell? ⟨w.heap.size + 1, 0, none⟩ = some (.int .i64 n) := by go_cell
 have c6 : ((w.alloc (.cells #[.int .i64 K, .int .i64 B, .int .i64 F, .int .i64 R, .int .i64 O] 23)).alloc (.cells #[.int .i64 n, .int .i64 d] 29)).cell? ⟨w.heap.size + 1, 1, none⟩ = some (.int .i64 d) := by go_cell
 have l0 : w.heap.size < ((w.alloc (.cells #[.int .i64 K, .int .i64 B, .int .i64 F, .int .i64 R, .int .i64 O] 23)).alloc (.cells #[.int .i64 n, .int .i64 d] 29)).heap.size := by simp <;> omega
 have l1 : w.heap.size + 1 < ((w.alloc (.cells #[.int .i64 K, .int .i64 B, .int .i64 F, .int .i64 R, .int .i64 O] 23)).alloc (.cells #[.int .i64 n, .int .i64 d] 29)).heap.size := by simp <;> omega
 go_wp2_with fail
 generalize ((w.alloc (.cells #[.int .i64 K, .int .i64 B, .int .i64 F, .int .i64 R, .int .i64 O] 23)).alloc (.cells #[.int .i64 n, .int .i64 d] 29)) = z at *
 have hz : z.cell? ⟨w.heap.size, 0, none⟩ = some (.int .i64 K) /\ z.cell? ⟨w.heap.size, 1, none⟩ = some (.int .i64 B) /\ z.cell? ⟨w.heap.size, 2, none⟩ = some (.int .i64 F) /\ z.cell? ⟨w.heap.size, 3, none⟩ = some (.int .i64 R) /\ z.cell? ⟨w.heap.size, 4, none⟩ = some (.int .i64 O) /\ z.cell? ⟨w.heap.size + 1, 0, none⟩ = some (.int .i64 n) /\ z.cell? ⟨w.heap.size + 1, 1, none⟩ = some (.int .i64 d) /\ z.heap.size <= z.heap.size /\ Below w.heap.size w z := ⟨c0, c1, c2, c3, c4, c5, c6, Nat.le_refl _, K0⟩
 clear c0 c1 c2 c3 c4 c5 c6
 have HS : Hid (∀ u u' : World, (u.cell? ⟨w.heap.size, 0, none⟩ = some (.int .i64 K) /\ u.cell? ⟨w.heap.size, 1, none⟩ = some (.int .i64 B) /\ u.cell? ⟨w.heap.size, 2, none⟩ = some (.int .i64 F) /\ u.cell? ⟨w.heap.size, 3, none⟩ = some (.int .i64 R) /\ u.cell? ⟨w.heap.size, 4, none⟩ = some (.int .i64 O) /\ u.cell? ⟨w.heap.size + 1, 0, none⟩ = some (.int .i64 n) /\ u.cell? ⟨w.heap.size + 1, 1, none⟩ = some (.int .i64 d) /\ z.heap.size <= u.heap.size /\ Below w.heap.size w u) -> Below u.heap.size u u' -> (u'.cell? ⟨w.heap.size, 0, none⟩ = some (.int .i64 K) /\ u'.cell? ⟨w.heap.size, 1, none⟩ = some (.int .i64 B) /\ u'.cell? ⟨w.heap.size, 2, none⟩ = some (.int .i64 F) /\ u'.cell? ⟨w.heap.size, 3, none⟩ = some (.int .i64 R) /\ u'.cell? ⟨w.heap.size, 4, none⟩ = some (.int .i64 O) /\ u'.cell? ⟨w.heap.size + 1, 0, none⟩ = some (.int .i64 n) /\ u'.cell? ⟨w.heap.size + 1, 1, none⟩ = some (.int .i64 d) /\ z.heap.size <= u'.heap.size /\ Below w.heap.size w u')) := Lib.hid (fun u u' h hb => ⟨Rg.keep hb (Nat.lt_of_lt_of_le l0 h.2.2.2.2.2.2.2.1) h.1, Rg.keep hb (Nat.lt_of_lt_of_le l0 h.2.2.2.2.2.2.2.1) h.2.1, Rg.keep hb (Nat.lt_of_lt_of_le l0 h.2.2.2.2.2.2.2.1) h.2.2.1, Rg.keep hb (Nat.lt_of_lt_of_le l0 h.2.2.2.2.2.2.2.1) h.2.2.2.1, Rg.keep hb (Nat.lt_of_lt_of_le l0 h.2.2.2.2.2.2.2.1) h.2.2.2.2.1, Rg.keep hb (Nat.lt_of_lt_of_le l1 h.2.2.2.2.2.2.2.1) h.2.2.2.2.2.1, Rg.keep hb (Nat.lt_of_lt_of_le l1 h.2.2.2.2.2.2.2.1) h.2.2.2.2.2.2.1, Nat.le_trans h.2.2.2.2.2.2.2.1 hb.size, h.2.2.2.2.2.2.2.2.trans (hb.mono h.2.2.2.2.2.2.2.2.size)⟩)
 refine wp_region_held_drew (S := fun w' => w'.cell? ⟨w.heap.size, 0, none⟩ = some (.int .i64 K) /\ w'.cell? ⟨w.heap.size, 1, none⟩ = some (.int .i64 B) /\ w'.cell? ⟨w.heap.size, 2, none⟩ = some (.int .i64 F) /\ w'.cell? ⟨w.heap.size, 3, none⟩ = some (.int .i64 R) /\ w'.cell? ⟨w.heap.size, 4, none⟩ = some (.int .i64 O) /\ w'.cell? ⟨w.heap.size + 1, 0, none⟩ = some (.int .i64 n) /\ w'.cell? ⟨w.heap.size + 1, 1, none⟩ = some (.int .i64 d) /\ z.heap.size <= w'.heap.size /\ Below w.heap.size w w') (by kernel_rfl) (HS.out _ _ hz (Below.drew (Below.refl _ _))) (fun hHeld => ?_)
 refine SqR.g 0 ?_
 refine Rg.one (i := 1) (by kernel_rfl) rfl (fun K hK => ?_)
 rw [if_pos (by kernel_rfl)]
 go_simp
 ((with_reducible refine (VT.out _).mono ?_); rintro e u ⟨rfl, hb⟩)
 have hNew := HS.out _ _ hHeld hb
 first | (refine hK.out _ _ hNew (fun _ => ?_)) | (go_wp2_with fail; refine hK.out _ _ hNew (fun _ => ?_))
 clear hK K hHeld hb
 have hHeld := hNew
 clear hNew
 refine SqR.g 2 ?_
 refine SqR.g 3 ?_
 refine SqR.g 4 ?_
 refine SqR.g 5 ?_
 refine SqR.g 6 ?_
 refine SqR.g 7 ?_
 refine SqR.g 8 ?_
 refine SqR.g 9 ?_
 refine SqR.g 10 ?_
 refine SqR.g 11 ?_
 refine SqR.g 12 ?_
 refine Rg.one (i := 13) (by kernel_rfl) rfl (fun K hK => ?_)
 rw [if_pos (by kernel_rfl)]
 go_simp
 ((with_reducible refine (MN.out _).mono ?_); rintro e u ⟨rfl, rfl⟩)
 first | (refine hK.out _ _ hHeld (fun _ => ?_)) | (go_wp2_with fail; refine hK.out _ _ hHeld (fun _ => ?_))
 clear hK K
 refine SqR.g 14 ?_
 refine SqR.g 15 ?_
 refine SqR.g 16 ?_
 refine Rg.take (i := 17) (v := undef) rfl (by kernel_rfl) (by kernel_rfl) (by kernel_rfl) (fun _ _ _ h => h) (Or.inr ⟨by kernel_rfl, rfl⟩) (by assumption) ?_
 try simp only [Act.put, List.setIfInBounds_toArray, List.set_cons_zero, List.set_cons_succ]
 refine Rg.take (i := 18) (v := undef) rfl (by kernel_rfl) (by kernel_rfl) (by kernel_rfl) (fun _ _ _ h => h) (Or.inr ⟨by kernel_rfl, rfl⟩) (by assumption) ?_
 try simp only [Act.put, List.setIfInBounds_toArray, List.set_cons_zero, List.set_cons_succ]
 refine Rg.take (i := 19) (v := undef) rfl (by kernel_rfl) (by kernel_rfl) (by kernel_rfl) (fun _ _ _ h => h) (Or.inr ⟨by kernel_rfl, rfl⟩) (by assumption) ?_
 try simp only [Act.put, List.setIfInBounds_toArray, List.set_cons_zero, List.set_cons_succ]
 refine Rg.take (i := 20) (v := undef) rfl (by kernel_rfl) (by kernel_rfl) (by kernel_rfl) (fun _ _ _ h => h) (Or.inr ⟨by kernel_rfl, rfl⟩) (by assumption) ?_
 try simp only [Act.put, List.setIfInBounds_toArray, List.set_cons_zero, List.set_cons_succ]
 refine Rg.take (i := 21) (v := undef) rfl (by kernel_rfl) (by kernel_rfl) (by kernel_rfl) (fun _ _ _ h => h) (Or.inr ⟨by kernel_rfl, rfl⟩) (by assumption) ?_
 try simp only [Act.put, List.setIfInBounds_toArray, List.set_cons_zero, List.set_cons_succ]
 refine Rg.take (i := 22) (v := undef) rfl (by kernel_rfl) (by kernel_rfl) (by kernel_rfl) (fun _ _ _ h => h) (Or.inr ⟨by kernel_rfl, rfl⟩) (by assumption) ?_
 try simp only [Act.put, List.setIfInBounds_toArray, List.set_cons_zero, List.set_cons_succ]
 refine SqR.g 23 ?_
 refine SqR.g 24 ?_
 refine wpAnyH_done (by kernel_rfl) ?_ _
 go_wp2
 go_ret
 exact ⟨rfl, hHeld.2.2.2.2.2.2.2.2⟩
set_option maxHeartbeats 4000000 in
theorem fval_hi (K B F R O n d lo hi : Int) (w : World) (VT : Hid (∀ w, Calls Tryz.prog 81 #[.agg #[.int .i64 K, .int .i64 B, .int .i64 F, .int .i64 R, .int .i64 O]] w (Ret (.int .i64 0) w)))
  (MN : Hid (∀ w, Calls Tryz.prog 111 #[.int .i64 B] w fun e w' => e = .returned (.int .i64 lo) /\ w = w')) (MX : Hid (∀ w, Calls Tryz.prog 112 #[.int .i64 B] w fun e w' => e = .returned (.int .i64 hi) /\ w = w')) (x : Bool) (h1 : (d == 1) = true) (h2 : decide (lo <= n) = true) (h3 : decide (n <= hi) = x) :
  Calls Tryz.prog 86 #[.agg #[.int .i64 K, .int .i64 B, .int .i64 F, .int .i64 R, .int .i64 O], .agg #[.int .i64 n, .int .i64 d]] w (Ret (.bool x) w) := by
 cases x
 all_goals
  go_enter Tryz.func86, Tryz.ntmps86
  have K0 : Below w.heap.size w ((w.alloc (.cells #[.int .i64 K, .int .i64 B, .int .i64 F, .int .i64 R, .int .i64 O] 23)).alloc (.cells #[.int .i64 n, .int .i64 d] 29)) := below2 _ _ _
  have c0 : ((w.alloc (.cells #[.int .i64 K, .int .i64 B, .int .i64 F, .int .i64 R, .int .i64 O] 23)).alloc (.cells #[.int .i64 n, .int .i64 d] 29)).cell? ⟨w.heap.size, 0, none⟩ = some (.int .i64 K) := by go_cell
  have c1 : ((w.alloc (.cells #[.int .i64 K, .int .i64 B, .int .i64 F, .int .i64 R, .int .i64 O] 23)).alloc (.cells #[.int .i64 n, .int .i64 d] 29)).cell? ⟨w.heap.size, 1, none⟩ = some (.int .i64 B) := by go_cell
  have c2 : ((w.alloc (.cells #[.int .i64 K, .int .i64 B, .int .i64 F, .int .i64 R, .int .i64 O] 23)).alloc (.cells #[.int .i64 n, .int .i64 d] 29)).cell? ⟨w.heap.size, 2, none⟩ = some (.int .i64 F) := by go_cell
  have c3 : ((w.alloc (.cells #[.int .i64 K, .int .i64 B, .int .i64 F, .int .i64 R, .int .i64 O] 23)).alloc (.cells #[.int .i64 n, .int .i64 d] 29)).cell? ⟨w.heap.size, 3, none⟩ = some (.int .i64 R) := by go_cell
  have c4 : ((w.alloc (.cells #[.int .i64 K, .int .i64 B, .int .i64 F, .int .i64 R, .int .i64 O] 23)).alloc (.cells #[.int .i64 n, .int .i64 d] 29)).cell? ⟨w.heap.size, 4, none⟩ = some (.int .i64 O) := by go_cell
  have c5 : ((w.alloc (.cells #[.int .i64 K, .int .i64 B, .int .i64 F, .int .i64 R, .int .i64 O] 23)).alloc (.cells #[.int .i64 n, .int .i64 d] 29)).cell? ⟨w.heap.size + 1, 0, none⟩ = some (.int .i64 n) := by go_cell
  have c6 : ((w.alloc (.cells #[.int .i64 K, .int .i64 B, .int .i64 F, .int .i64 R, .int .i64 O] 23)).alloc (.cells #[.int .i64 n, .int .i64 d] 29)).cell? ⟨w.heap.size + 1, 1, none⟩ = some (.int .i64 d) := by go_cell
  have l0 : w.heap.size < ((w.alloc (.cells #[.int .i64 K, .int .i64 B, .int .i64 F, .int .i64 R, .int .i64 O] 23)).alloc (.cells #[.int .i64 n, .int .i64 d] 29)).heap.size := by simp <;> omega
  have l1 : w.heap.size + 1 < ((w.alloc (.cells #[.int .i64 K, .int .i64 B, .int .i64 F, .int .i64 R, .int .i64 O] 23)).alloc (.cells #[.int .i64 n, .int .i64 d] 29)).heap.size := by simp <;> omega
  go_wp2_with fail
  generalize ((w.alloc (.cells #[.int .i64 K, .int .i64 B, .int .i64 F, .int .i64 R, .int .i64 O] 23)).alloc (.cells #[.int .i64 n, .int .i64 d] 29)) = z at *
  have hz : z.cell? ⟨w.heap.size, 0, none⟩ = some (.int .i64 K) /\ z.cell? ⟨w.heap.size, 1, none⟩ = some (.int .i64 B) /\ z.cell? ⟨w.heap.size, 2, none⟩ = some (.int .i64 F) /\ z.cell? ⟨w.heap.size, 3, none⟩ = some (.int .i64 R) /\ z.cell? ⟨w.heap.size, 4, none⟩ = some (.int .i64 O) /\ z.cell? ⟨w.heap.size + 1, 0, none⟩ = some (.int .i64 n) /\ z.cell? ⟨w.heap.size + 1, 1, none⟩ = some (.int .i64 d) /\ z.heap.size <= z.heap.size /\ Below w.heap.size w z := ⟨c0, c1, c2, c3, c4, c5, c6, Nat.le_refl _, K0⟩
  clear c0 c1 c2 c3 c4 c5 c6
  have HS : Hid (∀ u u' : World, (u.cell? ⟨w.heap.size, 0, none⟩ = some (.int .i64 K) /\ u.cell? ⟨w.heap.size, 1, none⟩ = some (.int .i64 B) /\ u.cell? ⟨w.heap.size, 2, none⟩ = some (.int .i64 F) /\ u.cell? ⟨w.heap.size, 3, none⟩ = some (.int .i64 R) /\ u.cell? ⟨w.heap.size, 4, none⟩ = some (.int .i64 O) /\ u.cell? ⟨w.heap.size + 1, 0, none⟩ = some (.int .i64 n) /\ u.cell? ⟨w.heap.size + 1, 1, none⟩ = some (.int .i64 d) /\ z.heap.size <= u.heap.size /\ Below w.heap.size w u) -> Below u.heap.size u u' -> (u'.cell? ⟨w.heap.size, 0, none⟩ = some (.int .i64 K) /\ u'.cell? ⟨w.heap.size, 1, none⟩ = some (.int .i64 B) /\ u'.cell? ⟨w.heap.size, 2, none⟩ = some (.int .i64 F) /\ u'.cell? ⟨w.heap.size, 3, none⟩ = some (.int .i64 R) /\ u'.cell? ⟨w.heap.size, 4, none⟩ = some (.int .i64 O) /\ u'.cell? ⟨w.heap.size + 1, 0, none⟩ = some (.int .i64 n) /\ u'.cell? ⟨w.heap.size + 1, 1, none⟩ = some (.int .i64 d) /\ z.heap.size <= u'.heap.size /\ Below w.heap.size w u')) := Lib.hid (fun u u' h hb => ⟨Rg.keep hb (Nat.lt_of_lt_of_le l0 h.2.2.2.2.2.2.2.1) h.1, Rg.keep hb (Nat.lt_of_lt_of_le l0 h.2.2.2.2.2.2.2.1) h.2.1, Rg.keep hb (Nat.lt_of_lt_of_le l0 h.2.2.2.2.2.2.2.1) h.2.2.1, Rg.keep hb (Nat.lt_of_lt_of_le l0 h.2.2.2.2.2.2.2.1) h.2.2.2.1, Rg.keep hb (Nat.lt_of_lt_of_le l0 h.2.2.2.2.2.2.2.1) h.2.2.2.2.1, Rg.keep hb (Nat.lt_of_lt_of_le l1 h.2.2.2.2.2.2.2.1) h.2.2.2.2.2.1, Rg.keep hb (Nat.lt_of_lt_of_le l1 h.2.2.2.2.2.2.2.1) h.2.2.2.2.2.2.1, Nat.le_trans h.2.2.2.2.2.2.2.1 hb.size, h.2.2.2.2.2.2.2.2.trans (hb.mono h.2.2.2.2.2.2.2.2.size)⟩)
  refine wp_region_held_drew (S := fun w' => w'.cell? ⟨w.heap.size, 0, none⟩ = some (.int .i64 K) /\ w'.cell? ⟨w.heap.size, 1, none⟩ = some (.int .i64 B) /\ w'.cell? ⟨w.heap.size, 2, none⟩ = some (.int .i64 F) /\ w'.cell? ⟨w.heap.size, 3, none⟩ = some (.int .i64 R) /\ w'.cell? ⟨w.heap.size, 4, none⟩ = some (.int .i64 O) /\ w'.cell? ⟨w.heap.size + 1, 0, none⟩ = some (.int .i64 n) /\ w'.cell? ⟨w.heap.size + 1, 1, none⟩ = some (.int .i64 d) /\ z.heap.size <= w'.heap.size /\ Below w.heap.size w w') (by kernel_rfl) (HS.out _ _ hz (Below.drew (Below.refl _ _))) (fun hHeld => ?_)
  refine SqR.g 0 ?_
  refine Rg.one (i := 1) (by kernel_rfl) rfl (fun K hK => ?_)
  rw [if_pos (by kernel_rfl)]
  go_simp
  ((with_reducible refine (VT.out _).mono ?_); rintro e u ⟨rfl, hb⟩)
  have hNew := HS.out _ _ hHeld hb
  first | (refine hK.out _ _ hNew (fun _ => ?_)) | (go_wp2_with fail; refine hK.out _ _ hNew (fun _ => ?_))
  clear hK K hHeld hb
  have hHeld := hNew
  clear hNew
  refine SqR.g 2 ?_
  refine SqR.g 3 ?_
  refine SqR.g 4 ?_
  refine SqR.g 5 ?_
  refine SqR.g 6 ?_
  refine SqR.g 7 ?_
  refine SqR.g 8 ?_
  refine SqR.g 9 ?_
  refine SqR.g 10 ?_
  refine SqR.g 11 ?_
  refine SqR.g 12 ?_
  refine Rg.one (i := 13) (by kernel_rfl) rfl (fun K hK => ?_)
  rw [if_pos (by kernel_rfl)]
  go_simp
  ((with_reducible refine (MN.out _).mono ?_); rintro e u ⟨rfl, rfl⟩)
  first | (refine hK.out _ _ hHeld (fun _ => ?_)) | (go_wp2_with fail; refine hK.out _ _ hHeld (fun _ => ?_))
  clear hK K
  refine SqR.g 14 ?_
  refine SqR.g 15 ?_
  refine SqR.g 16 ?_
  refine SqR.g 17 ?_
  refine SqR.g 18 ?_
  refine SqR.g 19 ?_
  refine SqR.g 20 ?_
  refine Rg.one (i := 21) (by kernel_rfl) rfl (fun K hK => ?_)
  rw [if_pos (by kernel_rfl)]
  go_simp
  ((with_reducible refine (MX.out _).mono ?_); rintro e u ⟨rfl, rfl⟩)
  first | (refine hK.out _ _ hHeld (fun _ => ?_)) | (go_wp2_with fail; refine hK.out _ _ hHeld (fun _ => ?_))
  clear hK K
  refine SqR.g 22 ?_
  refine SqR.g 23 ?_
  refine SqR.g 24 ?_
  refine wpAnyH_done (by kernel_rfl) ?_ _
  go_wp2
  go_ret
  exact ⟨rfl, hHeld.2.2.2.2.2.2.2.2⟩
end Go.Proofs.YteaaikmejacpaaaGreatDoor.Fx


namespace Go.Proofs.YteaaikmejacpaaaGreatDoor.Fx
open Go.ChangeShapes Go.WideShapes Go.ChangeAt Go.RowKit
open Fr
set_option linter.unusedVariables false
set_option linter.unusedSimpArgs false
/-- The values of a fixed-point type. -/
def fv (K B F R O n d : Int) : Bool := tv K B F R O && decide (d = 1 /\ - Nx.half B <= n /\ n <= Nx.half B - 1)
theorem half_of {B : Int} (h : 2 <= B) (h' : B <= 31) : (2 : Int) ^ (B.toNat - 1) = Nx.half B /\ 2 <= Nx.half B /\ Nx.half B <= 1073741824 /\ Nx.full B = 2 * Nx.half B := by
 rcases Nx.widths B h h' with ⟨rfl, hh, hf⟩ | ⟨rfl, hh, hf⟩ | ⟨rfl, hh, hf⟩ | ⟨rfl, hh, hf⟩ | ⟨rfl, hh, hf⟩ | ⟨rfl, hh, hf⟩ | ⟨rfl, hh, hf⟩ | ⟨rfl, hh, hf⟩ | ⟨rfl, hh, hf⟩ | ⟨rfl, hh, hf⟩ | ⟨rfl, hh, hf⟩ | ⟨rfl, hh, hf⟩ | ⟨rfl, hh, hf⟩ | ⟨rfl, hh, hf⟩ | ⟨rfl, hh, hf⟩ | ⟨rfl, hh, hf⟩ | ⟨rfl, hh, hf⟩ | ⟨rfl, hh, hf⟩ | ⟨rfl, hh, hf⟩ | ⟨rfl, hh, hf⟩ | ⟨rfl, hh, hf⟩ | ⟨rfl, hh, hf⟩ | ⟨rfl, hh, hf⟩ | ⟨rfl, hh, hf⟩ | ⟨rfl, hh, hf⟩ | ⟨rfl, hh, hf⟩ | ⟨rfl, hh, hf⟩ | ⟨rfl, hh, hf⟩ | ⟨rfl, hh, hf⟩ | ⟨rfl, hh, hf⟩
 all_goals exact ⟨rfl, by omega, by omega, by omega⟩
theorem fval (K B F R O n d : Int) (w : World) (b0 : -9223372036854775808 <= B) (b1 : B <= 9223372036854775807) : Calls Tryz.prog 86 #[.agg #[.int .i64 K, .int .i64 B, .int .i64 F, .int .i64 R, .int .i64 O], .agg #[.int .i64 n, .int .i64 d]] w (Ret (.bool (fv K B F R O n d)) w) := by
 have MN := Lib.hid fun w => Nx.min_any B w b0 b1
 have MX := Lib.hid fun w => Nx.max_any B w b0 b1
 by_cases h : tv K B F R O = true
 ·obtain ⟨h1, h2, h3, h4, h5, h6, h7, h8⟩ := tv_parts h
  have VT := Lib.hid fun w => vt_ok K B F R O w h
  have e1 : Nx.mnv B = - Nx.half B := by unfold Nx.mnv; rw [if_neg (by omega)]
  have e2 : Nx.mxv B = Nx.half B - 1 := by unfold Nx.mxv; rw [if_neg (by omega)]
  rw [e1] at MN
  rw [e2] at MX
  unfold fv
  rw [h, Bool.true_and]
  by_cases hd : d = 1
  ·by_cases hl : - Nx.half B <= n
   ·exact fval_hi K B F R O n d _ _ w VT MN MX _ (by simpa using hd) (by simpa using hl) (by simp [hd, hl])
   ·rw [decide_eq_false (by omega)]
    exact fval_lo K B F R O n d _ _ w VT MN MX (by simpa using hd) (by simp; omega)
  ·rw [decide_eq_false (by omega)]
   exact fval_d K B F R O n d _ _ w VT MN MX (by simpa using hd)
 ·have h' : tv K B F R O = false := by simpa using h
  have VT := Lib.hid fun w => vt_bad K B F R O w h'
  unfold fv
  rw [h', Bool.false_and]
  exact fval_tv K B F R O n d _ _ w VT MN MX
set_option maxHeartbeats 4000000 in
theorem bvk (K B F R O n d : Int) (w : World) (h : tv K B F R O = true) : Calls Tryz.prog 54 #[.agg #[.int .i64 K, .int .i64 B, .int .i64 F, .int .i64 R, .int .i64 O], .agg #[.int .i64 n, .int .i64 d]] w (Ret (.bool (fv K B F R O n d)) w) := by
 obtain ⟨h1, h2, h3, h4, h5, h6, h7, h8⟩ := tv_parts h
 unfold fv
 rw [h, Bool.true_and]
 obtain ⟨H1, H2, H3, _⟩ := half_of h2 h3
 generalize Nx.half B = H at *
 have k1 : (K == 2) = true := by simpa using h1
 have g1 : 0 <= B - 1 := by omega
 clear h h1 h4 h5 h6 h7 h8
 by_cases hd : d = 1
 ·by_cases hl : - H <= n
  ·obtain ⟨x, hx⟩ : ∃ x, decide (n < H) = x := ⟨_, rfl⟩
   have e : decide (d = 1 /\ -H <= n /\ n <= H - 1) = x := by rw [<- hx]; simp [hd, hl]; omega
   rw [e]
   have k2 : (d == 1) = true := by simpa using hd
   have k3 : decide (-H <= n) = true := by simpa using hl
   clear e hd hl
   cases x
   all_goals
    go_enter Tryz.func54, Tryz.ntmps54
    go_wp2
    go_ret
    exact ⟨rfl, by go_grown⟩
  ·rw [decide_eq_false (by omega)]
   have k2 : (d == 1) = true := by simpa using hd
   have k3 : decide (-H <= n) = false := by simp; omega
   clear hd hl
   go_enter Tryz.func54, Tryz.ntmps54
   go_wp2
   go_ret
   exact ⟨rfl, by go_grown⟩
 ·rw [decide_eq_false (by omega)]
  have k2 : (d == 1) = false := by simpa using hd
  clear hd
  go_enter Tryz.func54, Tryz.ntmps54
  go_wp2
  go_ret
  exact ⟨rfl, by go_grown⟩
end Go.Proofs.YteaaikmejacpaaaGreatDoor.Fx


namespace Go.Proofs.YteaaikmejacpaaaGreatDoor.Plain

set_option linter.unusedVariables false
set_option linter.unusedSimpArgs false
theorem tfacts (n d : Int) (hd : d ≠ 0) :
  (n.tmod d).natAbs < d.natAbs /\ (n.tdiv d).natAbs <= n.natAbs /\ (n.tmod d ≠ 0 -> 2 * (n.tdiv d).natAbs <= n.natAbs) /\
  (0 < n.tmod d -> 0 < n) /\ (n.tmod d < 0 -> n < 0) := by
 have hr : (n.tmod d).natAbs = n.natAbs % d.natAbs := by simp
 have hq : (n.tdiv d).natAbs = n.natAbs / d.natAbs := by rw [Int.natAbs_tdiv]; rfl
 have hdp : 0 < d.natAbs := by omega
 have hlt := Nat.mod_lt n.natAbs hdp
 refine ⟨by omega, by rw [hq]; exact Nat.div_le_self _ _, ?_, ?_, ?_⟩
 ·intro h
  have h2 : 2 <= d.natAbs := by
   by_cases h1 : d.natAbs = 1
   ·rw [h1, Nat.mod_one] at hr; omega
   ·omega
  rw [hq]
  have h3 := Nat.div_mul_le_self n.natAbs d.natAbs
  have h4 := Nat.mul_le_mul_left (n.natAbs / d.natAbs) h2
  omega
 ·intro h
  by_cases hn : n <= 0
  ·have := Int.tmod_nonneg (-d) (a := -n) (by omega)
   rw [Int.neg_tmod, Int.tmod_neg] at this; omega
  ·omega
 ·intro h
  by_cases hn : 0 <= n
  ·have := Int.tmod_nonneg d hn; omega
  ·omega

theorem natAbs_div (n d : Int) : (n.tdiv d).natAbs = n.natAbs / d.natAbs := by rw [Int.natAbs_tdiv]; rfl

theorem tsign (n d : Int) :
  (0 < n -> 0 < d -> 0 <= n.tdiv d) /\ (n < 0 -> d < 0 -> 0 <= n.tdiv d) /\ (0 < n -> d < 0 -> n.tdiv d <= 0) /\ (n < 0 -> 0 < d -> n.tdiv d <= 0) := by
 refine ⟨fun a b => Int.tdiv_nonneg (by omega) (by omega), fun a b => ?_, fun a b => ?_, fun a b => ?_⟩
 ·have := Int.tdiv_nonneg (a := -n) (b := -d) (by omega) (by omega)
  rwa [Int.neg_tdiv, Int.tdiv_neg, Int.neg_neg] at this
 ·have := Int.tdiv_nonneg (a := n) (b := -d) (by omega) (by omega)
  rw [Int.tdiv_neg] at this; omega
 ·have := Int.tdiv_nonneg (a := -n) (b := d) (by omega) (by omega)
  rw [Int.neg_tdiv] at this; omega

theorem even_iff (q : Int) : q.tmod 2 = 0 ↔ q % 2 = 0 := by
 rw [<- Int.dvd_iff_tmod_eq_zero, Int.dvd_iff_emod_eq_zero]

/-- The rounded quotient where it is defined: 1 down, 2 up, 3 toward zero, 4 to nearest, ties to even; q and r are Go's quotient and remainder. -/
def rnd (how q r d : Int) : Int :=
 if r = 0 then q
 else if how = 3 then q
 else if how = 1 then (if (r < 0 ↔ d < 0) then q else q - 1)
 else if how = 2 then (if (r < 0 ↔ d < 0) then q + 1 else q)
 else if 2 * (if r < 0 then -r else r) < (if d < 0 then -d else d) then q
 else if 2 * (if r < 0 then -r else r) = (if d < 0 then -d else d) /\ q % 2 = 0 then q
 else (if (r < 0 ↔ d < 0) then q + 1 else q - 1)

theorem rnd1_pp (q r d : Int) (b3 : 0 < r) (b4 : r < d) : rnd 1 q r d = q := by
 unfold rnd; (repeat' split) <;> omega
theorem rnd2_pp (q r d : Int) (b3 : 0 < r) (b4 : r < d) : rnd 2 q r d = q + 1 := by
 unfold rnd; (repeat' split) <;> omega
theorem rnd3_pp (q r d : Int) (b3 : 0 < r) (b4 : r < d) : rnd 3 q r d = q := by
 unfold rnd; (repeat' split) <;> omega
theorem rnd4_pp_lt (q r d : Int) (b3 : 0 < r) (b4 : r < d) (t : r < d - r) : rnd 4 q r d = q := by
 unfold rnd; (repeat' split) <;> omega
theorem rnd4_pp_ev (q r d : Int) (b3 : 0 < r) (b4 : r < d) (t : r = d - r) (e : q % 2 = 0) : rnd 4 q r d = q := by
 unfold rnd; (repeat' split) <;> omega
theorem rnd4_pp_od (q r d : Int) (b3 : 0 < r) (b4 : r < d) (t : r = d - r) (e : q % 2 = 1) : rnd 4 q r d = q + 1 := by
 unfold rnd; (repeat' split) <;> omega
theorem rnd4_pp_gt (q r d : Int) (b3 : 0 < r) (b4 : r < d) (t : d - r < r) : rnd 4 q r d = q + 1 := by
 unfold rnd; (repeat' split) <;> omega
theorem rnd1_np (q r d : Int) (b3 : r < 0) (b4 : -r < d) : rnd 1 q r d = (q - 1) := by
 unfold rnd; (repeat' split) <;> omega
theorem rnd2_np (q r d : Int) (b3 : r < 0) (b4 : -r < d) : rnd 2 q r d = (q - 1) + 1 := by
 unfold rnd; (repeat' split) <;> omega
theorem rnd3_np (q r d : Int) (b3 : r < 0) (b4 : -r < d) : rnd 3 q r d = q := by
 unfold rnd; (repeat' split) <;> omega
theorem rnd4_np_lt (q r d : Int) (b3 : r < 0) (b4 : -r < d) (t : (r + d) < d - (r + d)) : rnd 4 q r d = (q - 1) := by
 unfold rnd; (repeat' split) <;> omega
theorem rnd4_np_ev (q r d : Int) (b3 : r < 0) (b4 : -r < d) (t : (r + d) = d - (r + d)) (e : (q - 1) % 2 = 0) : rnd 4 q r d = (q - 1) := by
 unfold rnd; (repeat' split) <;> omega
theorem rnd4_np_od (q r d : Int) (b3 : r < 0) (b4 : -r < d) (t : (r + d) = d - (r + d)) (e : (q - 1) % 2 = 1) : rnd 4 q r d = (q - 1) + 1 := by
 unfold rnd; (repeat' split) <;> omega
theorem rnd4_np_gt (q r d : Int) (b3 : r < 0) (b4 : -r < d) (t : d - (r + d) < (r + d)) : rnd 4 q r d = (q - 1) + 1 := by
 unfold rnd; (repeat' split) <;> omega
theorem rnd1_nn (q r d : Int) (b3 : r < 0) (b4 : d < r) : rnd 1 q r d = q := by
 unfold rnd; (repeat' split) <;> omega
theorem rnd2_nn (q r d : Int) (b3 : r < 0) (b4 : d < r) : rnd 2 q r d = q + 1 := by
 unfold rnd; (repeat' split) <;> omega
theorem rnd3_nn (q r d : Int) (b3 : r < 0) (b4 : d < r) : rnd 3 q r d = q := by
 unfold rnd; (repeat' split) <;> omega
theorem rnd4_nn_lt (q r d : Int) (b3 : r < 0) (b4 : d < r) (t : (-r) < (-d) - (-r)) : rnd 4 q r d = q := by
 unfold rnd; (repeat' split) <;> omega
theorem rnd4_nn_ev (q r d : Int) (b3 : r < 0) (b4 : d < r) (t : (-r) = (-d) - (-r)) (e : q % 2 = 0) : rnd 4 q r d = q := by
 unfold rnd; (repeat' split) <;> omega
theorem rnd4_nn_od (q r d : Int) (b3 : r < 0) (b4 : d < r) (t : (-r) = (-d) - (-r)) (e : q % 2 = 1) : rnd 4 q r d = q + 1 := by
 unfold rnd; (repeat' split) <;> omega
theorem rnd4_nn_gt (q r d : Int) (b3 : r < 0) (b4 : d < r) (t : (-d) - (-r) < (-r)) : rnd 4 q r d = q + 1 := by
 unfold rnd; (repeat' split) <;> omega
theorem rnd1_pn (q r d : Int) (b3 : 0 < r) (b4 : r < -d) : rnd 1 q r d = (q - 1) := by
 unfold rnd; (repeat' split) <;> omega
theorem rnd2_pn (q r d : Int) (b3 : 0 < r) (b4 : r < -d) : rnd 2 q r d = (q - 1) + 1 := by
 unfold rnd; (repeat' split) <;> omega
theorem rnd3_pn (q r d : Int) (b3 : 0 < r) (b4 : r < -d) : rnd 3 q r d = q := by
 unfold rnd; (repeat' split) <;> omega
theorem rnd4_pn_lt (q r d : Int) (b3 : 0 < r) (b4 : r < -d) (t : (-(r + d)) < (-d) - (-(r + d))) : rnd 4 q r d = (q - 1) := by
 unfold rnd; (repeat' split) <;> omega
theorem rnd4_pn_ev (q r d : Int) (b3 : 0 < r) (b4 : r < -d) (t : (-(r + d)) = (-d) - (-(r + d))) (e : (q - 1) % 2 = 0) : rnd 4 q r d = (q - 1) := by
 unfold rnd; (repeat' split) <;> omega
theorem rnd4_pn_od (q r d : Int) (b3 : 0 < r) (b4 : r < -d) (t : (-(r + d)) = (-d) - (-(r + d))) (e : (q - 1) % 2 = 1) : rnd 4 q r d = (q - 1) + 1 := by
 unfold rnd; (repeat' split) <;> omega
theorem rnd4_pn_gt (q r d : Int) (b3 : 0 < r) (b4 : r < -d) (t : (-d) - (-(r + d)) < (-(r + d))) : rnd 4 q r d = (q - 1) + 1 := by
 unfold rnd; (repeat' split) <;> omega
end Go.Proofs.YteaaikmejacpaaaGreatDoor.Plain


namespace Go.Proofs.YteaaikmejacpaaaGreatDoor.Dv
open Go.ChangeShapes Go.WideShapes Go.ChangeAt Go.RowKit
set_option linter.unusedVariables false
set_option linter.unusedSimpArgs false
theorem ret_int {k : IntKind} {a b : Int} (h : a = b) : Ending.returned (.int k a) = .returned (.int k b) := by rw [h]
theorem mag_neg (n : Int) (w : World) (h : n < 0) (h' : -9223372036854775808 <= n) :
  Calls Tryz.prog 169 #[.int .i64 n] w fun e w' => e = .returned (.int .u64 (-n)) /\ w = w' := by
 have e : IntKind.u64.wrap (-IntKind.u64.wrap n) = -n := by go_arith
 go_enter Tryz.func169, Tryz.ntmps169
 go_wp2
 go_ret
 exact ⟨rfl, rfl⟩
theorem mag_pos (n : Int) (w : World) (h : 0 <= n) (h' : n <= 9223372036854775807) :
  Calls Tryz.prog 169 #[.int .i64 n] w fun e w' => e = .returned (.int .u64 n) /\ w = w' := by
 go_enter Tryz.func169, Tryz.ntmps169
 go_wp2
 go_ret
 exact ⟨rfl, rfl⟩
theorem mode_ok (n : Int) (w : World) (h : 1 <= n) (h' : n <= 4) :
  Calls Tryz.prog 168 #[.int .i64 n] w fun e w' => e = .returned (.bool true) /\ w = w' := by
 have h2 : decide (n <= 4) = true := by simp; omega
 go_enter Tryz.func168, Tryz.ntmps168
 go_wp2
 go_ret
 exact ⟨rfl, rfl⟩
theorem ret2 {k : IntKind} {a b : Int} {x : Value} (h : a = b) : Ending.returned (.tuple #[.int k a, x]) = .returned (.tuple #[.int k b, x]) := by rw [h]
end Go.Proofs.YteaaikmejacpaaaGreatDoor.Dv


namespace Go.Proofs.YteaaikmejacpaaaGreatDoor.Dv
open Go.ChangeShapes Go.WideShapes Go.ChangeAt Go.RowKit
set_option linter.unusedVariables false
set_option linter.unusedSimpArgs false
theorem mode_bad (n : Int) (w : World) (h : n < 1 \/ 4 < n) :
  Calls Tryz.prog 168 #[.int .i64 n] w fun e w' => e = .returned (.bool false) /\ w = w' := by
 rcases h with h | h
 ·have h1 : decide (1 <= n) = false := by simp; omega
  go_enter Tryz.func168, Tryz.ntmps168
  go_wp2
  go_ret
  exact ⟨rfl, rfl⟩
 ·have h2 : decide (n <= 4) = false := by simp; omega
  go_enter Tryz.func168, Tryz.ntmps168
  go_wp2
  go_ret
  exact ⟨rfl, rfl⟩
theorem div_bad (n d how : Int) (w : World) (h : how < 1 \/ 4 < how) :
  Calls Tryz.prog 153 #[.int .i64 n, .int .i64 d, .int .i64 how] w fun e w' => e = .returned (.tuple #[.int .i64 0, .int .i64 1]) /\ ∃ k, w' = w.drewN k := by
 go_enter Tryz.func153, Tryz.ntmps153
 go_wp2
 go_step3
 go_wp2_with (first | (go_at_call 168; refine (mode_bad _ _ h).mono ?_; rintro e w' ⟨rfl, rfl⟩))
 rw [Exit.noGoto_ret]
 go_ret2
 exact ⟨rfl, 0, rfl⟩
theorem div_zero (n how : Int) (w : World) (h : 1 <= how) (h' : how <= 4) :
  Calls Tryz.prog 153 #[.int .i64 n, .int .i64 0, .int .i64 how] w fun e w' => e = .returned (.tuple #[.int .i64 0, .int .i64 4]) /\ ∃ k, w' = w.drewN k := by
 go_enter Tryz.func153, Tryz.ntmps153
 go_wp2_with (first | (go_at_call 168; refine (mode_ok _ _ (by omega) (by omega)).mono ?_; rintro e w' ⟨rfl, rfl⟩))
 go_step3
 go_wp2
 rw [Exit.noGoto_ret]
 go_ret2
 exact ⟨rfl, 0, rfl⟩
theorem div_min (how : Int) (w : World) (h : 1 <= how) (h' : how <= 4) :
  Calls Tryz.prog 153 #[.int .i64 (-9223372036854775808), .int .i64 (-1), .int .i64 how] w fun e w' => e = .returned (.tuple #[.int .i64 0, .int .i64 3]) /\ ∃ k, w' = w.drewN k := by
 go_enter Tryz.func153, Tryz.ntmps153
 go_wp2_with (first | (go_at_call 168; refine (mode_ok _ _ (by omega) (by omega)).mono ?_; rintro e w' ⟨rfl, rfl⟩))
 go_step3
 go_wp2
 rw [Exit.noGoto_ret]
 go_ret2
 exact ⟨rfl, 0, rfl⟩
end Go.Proofs.YteaaikmejacpaaaGreatDoor.Dv


namespace Go.Proofs.YteaaikmejacpaaaGreatDoor.Dv
open Go.ChangeShapes Go.WideShapes Go.ChangeAt Go.RowKit
set_option linter.unusedVariables false
set_option linter.unusedSimpArgs false
set_option maxHeartbeats 4000000 in
theorem div_pp1 (n d q r : Int) (b : Bool) (w : World) (n0 : -9223372036854775808 <= n) (n1 : n <= 9223372036854775807) (hq : n.tdiv d = q) (hr : n.tmod d = r)
   (b1 : -4611686018427387904 <= q) (b2 : q <= 4611686018427387904) (b6 : -9223372036854775808 <= d) (b7 : d <= 9223372036854775807) (g0 : (n == -9223372036854775808) = b) (g1 : (d == -1) = false) (b3 : 0 < r) (b4 : r < d) (b5 : 0 <= q) :
    Calls Tryz.prog 153 #[.int .i64 n, .int .i64 d, .int .i64 1] w fun e w' => e = .returned (.tuple #[.int .i64 (Plain.rnd 1 q r d), .int .i64 0]) /\ ∃ k, w' = w.drewN k := by
  have d0 : (d == 0) = false := by simp; omega
  have r0 : (r == 0) = false := by simp; omega
  have r1 : (r != 0) = true := by simp; omega
  have r2 : decide (r < 0) = false := by simp; omega
  have d2 : decide (d < 0) = false := by simp; omega
  have z0 : (r == 0) = false := by simp; omega
  have H := Lib.hid (Plain.rnd1_pp q r d b3 b4)
  cases b
  all_goals
    go_enter Tryz.func153, Tryz.ntmps153
    go_wp2_with (first | (go_at_call 168; refine (mode_ok _ _ (by omega) (by omega)).mono ?_; rintro e w' ⟨rfl, rfl⟩))
    go_step3
    go_wp2
    go_quiet (fail)
    go_wp2_with (first | (go_at_call 169; refine (mag_pos _ _ (by omega) (by omega)).mono ?_; rintro e w' ⟨rfl, rfl⟩) | (go_at_call 169; refine (mag_neg _ _ (by omega) (by omega)).mono ?_; rintro e w' ⟨rfl, rfl⟩))
    go_step3
    go_wp2
    refine wp_loop_rounds 2 ?_
    repeat any_goals (rw [rounds_succ]; go_wp2)
    try rw [Exit.noGoto_ret]
    go_ret2
    exact ⟨ret2 (by have h := H.out; omega), _, rfl⟩
set_option maxHeartbeats 4000000 in
theorem div_pp2 (n d q r : Int) (b : Bool) (w : World) (n0 : -9223372036854775808 <= n) (n1 : n <= 9223372036854775807) (hq : n.tdiv d = q) (hr : n.tmod d = r)
   (b1 : -4611686018427387904 <= q) (b2 : q <= 4611686018427387904) (b6 : -9223372036854775808 <= d) (b7 : d <= 9223372036854775807) (g0 : (n == -9223372036854775808) = b) (g1 : (d == -1) = false) (b3 : 0 < r) (b4 : r < d) (b5 : 0 <= q) :
    Calls Tryz.prog 153 #[.int .i64 n, .int .i64 d, .int .i64 2] w fun e w' => e = .returned (.tuple #[.int .i64 (Plain.rnd 2 q r d), .int .i64 0]) /\ ∃ k, w' = w.drewN k := by
  have d0 : (d == 0) = false := by simp; omega
  have r0 : (r == 0) = false := by simp; omega
  have r1 : (r != 0) = true := by simp; omega
  have r2 : decide (r < 0) = false := by simp; omega
  have d2 : decide (d < 0) = false := by simp; omega
  have z0 : (r == 0) = false := by simp; omega
  have H := Lib.hid (Plain.rnd2_pp q r d b3 b4)
  cases b
  all_goals
    go_enter Tryz.func153, Tryz.ntmps153
    go_wp2_with (first | (go_at_call 168; refine (mode_ok _ _ (by omega) (by omega)).mono ?_; rintro e w' ⟨rfl, rfl⟩))
    go_step3
    go_wp2
    go_quiet (fail)
    go_wp2_with (first | (go_at_call 169; refine (mag_pos _ _ (by omega) (by omega)).mono ?_; rintro e w' ⟨rfl, rfl⟩) | (go_at_call 169; refine (mag_neg _ _ (by omega) (by omega)).mono ?_; rintro e w' ⟨rfl, rfl⟩))
    go_step3
    go_wp2
    refine wp_loop_rounds 2 ?_
    repeat any_goals (rw [rounds_succ]; go_wp2)
    try rw [Exit.noGoto_ret]
    go_ret2
    exact ⟨ret2 (by have h := H.out; omega), _, rfl⟩
set_option maxHeartbeats 4000000 in
theorem div_pp3 (n d q r : Int) (b : Bool) (w : World) (n0 : -9223372036854775808 <= n) (n1 : n <= 9223372036854775807) (hq : n.tdiv d = q) (hr : n.tmod d = r)
   (b1 : -4611686018427387904 <= q) (b2 : q <= 4611686018427387904) (b6 : -9223372036854775808 <= d) (b7 : d <= 9223372036854775807) (g0 : (n == -9223372036854775808) = b) (g1 : (d == -1) = false) (b3 : 0 < r) (b4 : r < d) (b5 : 0 <= q) :
    Calls Tryz.prog 153 #[.int .i64 n, .int .i64 d, .int .i64 3] w fun e w' => e = .returned (.tuple #[.int .i64 (Plain.rnd 3 q r d), .int .i64 0]) /\ ∃ k, w' = w.drewN k := by
  have d0 : (d == 0) = false := by simp; omega
  have r0 : (r == 0) = false := by simp; omega
  have r1 : (r != 0) = true := by simp; omega
  have r2 : decide (r < 0) = false := by simp; omega
  have d2 : decide (d < 0) = false := by simp; omega
  have z0 : (r == 0) = false := by simp; omega
  have H := Lib.hid (Plain.rnd3_pp q r d b3 b4)
  cases b
  all_goals
    go_enter Tryz.func153, Tryz.ntmps153
    go_wp2_with (first | (go_at_call 168; refine (mode_ok _ _ (by omega) (by omega)).mono ?_; rintro e w' ⟨rfl, rfl⟩))
    go_step3
    go_wp2
    go_quiet (fail)
    go_wp2_with (first | (go_at_call 169; refine (mag_pos _ _ (by omega) (by omega)).mono ?_; rintro e w' ⟨rfl, rfl⟩) | (go_at_call 169; refine (mag_neg _ _ (by omega) (by omega)).mono ?_; rintro e w' ⟨rfl, rfl⟩))
    go_step3
    go_wp2
    refine wp_loop_rounds 2 ?_
    repeat any_goals (rw [rounds_succ]; go_wp2)
    try rw [Exit.noGoto_ret]
    go_ret2
    exact ⟨ret2 (by have h := H.out; omega), _, rfl⟩
set_option maxHeartbeats 4000000 in
theorem div_pp4 (n d q r : Int) (b : Bool) (w : World) (n0 : -9223372036854775808 <= n) (n1 : n <= 9223372036854775807) (hq : n.tdiv d = q) (hr : n.tmod d = r)
   (b1 : -4611686018427387904 <= q) (b2 : q <= 4611686018427387904) (b6 : -9223372036854775808 <= d) (b7 : d <= 9223372036854775807) (g0 : (n == -9223372036854775808) = b) (g1 : (d == -1) = false) (b3 : 0 < r) (b4 : r < d) (b5 : 0 <= q) :
    Calls Tryz.prog 153 #[.int .i64 n, .int .i64 d, .int .i64 4] w fun e w' => e = .returned (.tuple #[.int .i64 (Plain.rnd 4 q r d), .int .i64 0]) /\ ∃ k, w' = w.drewN k := by
  have d0 : (d == 0) = false := by simp; omega
  have r0 : (r == 0) = false := by simp; omega
  have r1 : (r != 0) = true := by simp; omega
  have r2 : decide (r < 0) = false := by simp; omega
  have d2 : decide (d < 0) = false := by simp; omega
  have z0 : (r == 0) = false := by simp; omega
  obtain ⟨t0, H⟩ | ⟨t0, t1, t2, H⟩ | ⟨t0, t1, t2, H⟩ | ⟨t0, t1, H⟩ : (decide (r < d - r) = true /\ Hid (Plain.rnd 4 q r d = q)) \/ (decide (r < d - r) = false /\ (r == d - r) = true /\ (q % 2 == 0) = true /\ Hid (Plain.rnd 4 q r d = q)) \/ (decide (r < d - r) = false /\ (r == d - r) = true /\ (q % 2 == 0) = false /\ Hid (Plain.rnd 4 q r d = q + 1)) \/ (decide (r < d - r) = false /\ (r == d - r) = false /\ Hid (Plain.rnd 4 q r d = q + 1)) := by
    have hev := Plain.even_iff q
    by_cases c1 : r < d - r
    · exact .inl ⟨by simpa using c1, Lib.hid (Plain.rnd4_pp_lt q r d b3 b4 (by omega))⟩
    · by_cases c2 : r = d - r
      · by_cases c3 : q % 2 = 0
        · exact .inr (.inl ⟨by simp; omega, by simpa using c2, by simp; omega, Lib.hid (Plain.rnd4_pp_ev q r d b3 b4 (by omega) c3)⟩)
        · exact .inr (.inr (.inl ⟨by simp; omega, by simpa using c2, by simp; omega, Lib.hid (Plain.rnd4_pp_od q r d b3 b4 (by omega) (by omega))⟩))
      · exact .inr (.inr (.inr ⟨by simp; omega, by simpa using c2, Lib.hid (Plain.rnd4_pp_gt q r d b3 b4 (by omega))⟩))
  all_goals
    cases b
  all_goals
    go_enter Tryz.func153, Tryz.ntmps153
    go_wp2_with (first | (go_at_call 168; refine (mode_ok _ _ (by omega) (by omega)).mono ?_; rintro e w' ⟨rfl, rfl⟩))
    go_step3
    go_wp2
    go_quiet (fail)
    go_wp2_with (first | (go_at_call 169; refine (mag_pos _ _ (by omega) (by omega)).mono ?_; rintro e w' ⟨rfl, rfl⟩) | (go_at_call 169; refine (mag_neg _ _ (by omega) (by omega)).mono ?_; rintro e w' ⟨rfl, rfl⟩))
    go_step3
    go_wp2
    refine wp_loop_rounds 2 ?_
    repeat any_goals (rw [rounds_succ]; go_wp2)
    try rw [Exit.noGoto_ret]
    go_ret2
    exact ⟨ret2 (by have h := H.out; omega), _, rfl⟩
end Go.Proofs.YteaaikmejacpaaaGreatDoor.Dv
