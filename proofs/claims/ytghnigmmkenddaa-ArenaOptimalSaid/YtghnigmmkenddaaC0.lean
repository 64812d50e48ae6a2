/- Keys, and the closures that compare by them. -/
import Derived.Test.YtghnigmmkenddaaL6
import Derived.Test.YtghnigmmkenddaaS0
import Derived.Test.YtghnigmmkenddaaRk
namespace Go.Proofs.Ytghnigmmkenddaa.Ar
open Go.ChangeShapes Go.WideShapes Go.ChangeAt Go.RowKit
open Go.Proofs.Ytghnigmmkenddaa.Lv Go.Proofs.Ytghnigmmkenddaa.Nm
set_option linter.unusedVariables false
set_option linter.unusedSimpArgs false

theorem nan (x : Int) (w : World) : Calls Try.prog 44 #[.int .i64 x] w fun e w' => e = .returned (.bool false) ∧ w = w' := by
  go_enter Try.func44, Try.ntmps44
  go_wp2
  go_ret
  exact ⟨rfl, rfl⟩
def ic (a b : Int) : Int := if a < b then -1 else if b < a then 1 else 0
set_option maxHeartbeats 4000000 in
theorem cmpI (a b : Int) (w : World) : Calls Try.prog 37 #[.int .i64 a, .int .i64 b] w fun e w' => e = .returned (.int .i64 (ic a b)) ∧ w = w' := by
  have C := Lib.hid nan
  unfold ic
  by_cases h1 : a < b
  · rw [if_pos h1]
    go_enter Try.func37, Try.ntmps37
    go_wp2_with (go_at_call 44; refine (C.out _ _).mono ?_; rintro e w' ⟨rfl, rfl⟩)
    go_ret
    exact ⟨rfl, rfl⟩
  · rw [if_neg h1]
    by_cases h2 : b < a
    · rw [if_pos h2]
      go_enter Try.func37, Try.ntmps37
      go_wp2_with (go_at_call 44; refine (C.out _ _).mono ?_; rintro e w' ⟨rfl, rfl⟩)
      go_ret
      exact ⟨rfl, rfl⟩
    · rw [if_neg h2]
      go_enter Try.func37, Try.ntmps37
      go_wp2_with (go_at_call 44; refine (C.out _ _).mono ?_; rintro e w' ⟨rfl, rfl⟩)
      go_ret
      exact ⟨rfl, rfl⟩
/-- A slot: name, offset, length. -/
abbrev St := ByteArray × Int × Int
def Sv3 (a : St) : Value := .agg #[.string a.1, .int .i64 a.2.1, .int .i64 a.2.2]
theorem k22 (a : Lf) (w : World) (h0 : -4096 ≤ a.2.2.2) (h1 : a.2.2.2 ≤ 4096) : Calls Try.prog 22 #[Lv4 a] w fun e w' => e = .returned (.int .i64 (-a.2.2.2)) ∧ Below w.heap.size w w' := by
  obtain ⟨s, f, t, z⟩ := a
  unfold Lv4
  simp only at h0 h1 ⊢
  go_enter Try.func22, Try.ntmps22
  go_wp2
  go_ret
  exact ⟨rfl, (Below.refl _ _).alloc (Nat.le_refl _) _⟩
theorem k27 (a : Lf) (w : World) : Calls Try.prog 27 #[Lv4 a] w fun e w' => e = .returned (.int .i64 a.2.1) ∧ Below w.heap.size w w' := by
  obtain ⟨s, f, t, z⟩ := a
  unfold Lv4
  go_enter Try.func27, Try.ntmps27
  go_wp2
  go_ret
  exact ⟨rfl, (Below.refl _ _).alloc (Nat.le_refl _) _⟩
theorem k28 (a : Lf) (w : World) : Calls Try.prog 28 #[Lv4 a] w fun e w' => e = .returned (.int .i64 a.2.2.1) ∧ Below w.heap.size w w' := by
  obtain ⟨s, f, t, z⟩ := a
  unfold Lv4
  go_enter Try.func28, Try.ntmps28
  go_wp2
  go_ret
  exact ⟨rfl, (Below.refl _ _).alloc (Nat.le_refl _) _⟩
theorem k29 (a : Lf) (w : World) : Calls Try.prog 29 #[Lv4 a] w fun e w' => e = .returned (.int .i64 0) ∧ Below w.heap.size w w' := by
  obtain ⟨s, f, t, z⟩ := a
  unfold Lv4
  go_enter Try.func29, Try.ntmps29
  go_wp2
  go_ret
  exact ⟨rfl, (Below.refl _ _).alloc (Nat.le_refl _) _⟩
theorem k34 (a : St) (w : World) : Calls Try.prog 34 #[Sv3 a] w fun e w' => e = .returned (.int .i64 a.2.1) ∧ Below w.heap.size w w' := by
  obtain ⟨s, f, z⟩ := a
  unfold Sv3
  go_enter Try.func34, Try.ntmps34
  go_wp2
  go_ret
  exact ⟨rfl, (Below.refl _ _).alloc (Nat.le_refl _) _⟩
theorem ent22 (args : Array Value) (w : World) : (Go.callFunc 22 args).run Try.prog w = .ok (.enter 22 args) w := by go_simp
theorem ent27 (args : Array Value) (w : World) : (Go.callFunc 27 args).run Try.prog w = .ok (.enter 27 args) w := by go_simp
theorem ent28 (args : Array Value) (w : World) : (Go.callFunc 28 args).run Try.prog w = .ok (.enter 28 args) w := by go_simp
theorem ent29 (args : Array Value) (w : World) : (Go.callFunc 29 args).run Try.prog w = .ok (.enter 29 args) w := by go_simp
theorem ent34 (args : Array Value) (w : World) : (Go.callFunc 34 args).run Try.prog w = .ok (.enter 34 args) w := by go_simp
theorem ent36 (args : Array Value) (w : World) : (Go.callFunc 36 args).run Try.prog w = .ok (.enter 36 args) w := by go_simp
theorem ent42 (args : Array Value) (w : World) : (Go.callFunc 42 args).run Try.prog w = .ok (.enter 42 args) w := by go_simp

set_option maxRecDepth 100000 in
set_option maxHeartbeats 8000000 in
theorem clo36 (kf : Nat) (ky : Lf → Int) (OK : Lf → Prop) (HKF : Hid (∀ args w, (Go.callFunc kf args).run Try.prog w = .ok (.enter kf args) w)) (KC : Hid (∀ a, OK a → ∀ w, Calls Try.prog kf #[Lv4 a] w fun e w' => e = .returned (.int .i64 (ky a)) ∧ Below w.heap.size w w'))
    (kb lb b o n c x y : Nat) (p q : Lf) (w : World) (HPK : Hid (OK p)) (HQK : Hid (OK q)) (hx : x < n) (hy : y < n) (hz1 : w.drew.cell? ⟨kb, 0, none⟩ = some (.func (.func kf) #[] #[]) ∧ w.drew.cell? ⟨lb, 0, none⟩ = some (.slice (some ⟨b, o, none⟩) n c) ∧ w.drew.cell? ⟨b, o + x * 4, none⟩ = some (.string p.1) ∧ w.drew.cell? ⟨b, o + x * 4 + 1, none⟩ = some (.int .i64 p.2.1) ∧ w.drew.cell? ⟨b, o + x * 4 + 2, none⟩ = some (.int .i64 p.2.2.1) ∧ w.drew.cell? ⟨b, o + x * 4 + 3, none⟩ = some (.int .i64 p.2.2.2) ∧ w.drew.cell? ⟨b, o + y * 4, none⟩ = some (.string q.1) ∧ w.drew.cell? ⟨b, o + y * 4 + 1, none⟩ = some (.int .i64 q.2.1) ∧ w.drew.cell? ⟨b, o + y * 4 + 2, none⟩ = some (.int .i64 q.2.2.1) ∧ w.drew.cell? ⟨b, o + y * 4 + 3, none⟩ = some (.int .i64 q.2.2.2) ∧ Below w.heap.size w w.drew) :
    Calls Try.prog 36 #[.int .i64 (x : Int), .int .i64 (y : Int), .pointer (some ⟨kb, 0, none⟩), .pointer (some ⟨lb, 0, none⟩)] w fun e w' => e = .returned (.int .i64 (ic (ky p) (ky q))) ∧ Below w.heap.size w w' := by
  have CM := Lib.hid cmpI
  have x0 : (0 : Int) ≤ x := by omega
  have y0 : (0 : Int) ≤ y := by omega
  have x1 : (x : Int) < n := by omega
  have y1 : (y : Int) < n := by omega
  unfold Lv4 at KC
  have HS : Hid (∀ u u' : World, (u.cell? ⟨kb, 0, none⟩ = some (.func (.func kf) #[] #[]) ∧ u.cell? ⟨lb, 0, none⟩ = some (.slice (some ⟨b, o, none⟩) n c) ∧ u.cell? ⟨b, o + x * 4, none⟩ = some (.string p.1) ∧ u.cell? ⟨b, o + x * 4 + 1, none⟩ = some (.int .i64 p.2.1) ∧ u.cell? ⟨b, o + x * 4 + 2, none⟩ = some (.int .i64 p.2.2.1) ∧ u.cell? ⟨b, o + x * 4 + 3, none⟩ = some (.int .i64 p.2.2.2) ∧ u.cell? ⟨b, o + y * 4, none⟩ = some (.string q.1) ∧ u.cell? ⟨b, o + y * 4 + 1, none⟩ = some (.int .i64 q.2.1) ∧ u.cell? ⟨b, o + y * 4 + 2, none⟩ = some (.int .i64 q.2.2.1) ∧ u.cell? ⟨b, o + y * 4 + 3, none⟩ = some (.int .i64 q.2.2.2) ∧ Below w.heap.size w u) → Below u.heap.size u u' → (u'.cell? ⟨kb, 0, none⟩ = some (.func (.func kf) #[] #[]) ∧ u'.cell? ⟨lb, 0, none⟩ = some (.slice (some ⟨b, o, none⟩) n c) ∧ u'.cell? ⟨b, o + x * 4, none⟩ = some (.string p.1) ∧ u'.cell? ⟨b, o + x * 4 + 1, none⟩ = some (.int .i64 p.2.1) ∧ u'.cell? ⟨b, o + x * 4 + 2, none⟩ = some (.int .i64 p.2.2.1) ∧ u'.cell? ⟨b, o + x * 4 + 3, none⟩ = some (.int .i64 p.2.2.2) ∧ u'.cell? ⟨b, o + y * 4, none⟩ = some (.string q.1) ∧ u'.cell? ⟨b, o + y * 4 + 1, none⟩ = some (.int .i64 q.2.1) ∧ u'.cell? ⟨b, o + y * 4 + 2, none⟩ = some (.int .i64 q.2.2.1) ∧ u'.cell? ⟨b, o + y * 4 + 3, none⟩ = some (.int .i64 q.2.2.2) ∧ Below w.heap.size w u')) := Lib.hid (fun u u' h hb => ⟨Rg.keep hb (World.block_lt_of_cell? _ _ h.1) h.1, Rg.keep hb (World.block_lt_of_cell? _ _ h.2.1) h.2.1, Rg.keep hb (World.block_lt_of_cell? _ _ h.2.2.1) h.2.2.1, Rg.keep hb (World.block_lt_of_cell? _ _ h.2.2.2.1) h.2.2.2.1, Rg.keep hb (World.block_lt_of_cell? _ _ h.2.2.2.2.1) h.2.2.2.2.1, Rg.keep hb (World.block_lt_of_cell? _ _ h.2.2.2.2.2.1) h.2.2.2.2.2.1, Rg.keep hb (World.block_lt_of_cell? _ _ h.2.2.2.2.2.2.1) h.2.2.2.2.2.2.1, Rg.keep hb (World.block_lt_of_cell? _ _ h.2.2.2.2.2.2.2.1) h.2.2.2.2.2.2.2.1, Rg.keep hb (World.block_lt_of_cell? _ _ h.2.2.2.2.2.2.2.2.1) h.2.2.2.2.2.2.2.2.1, Rg.keep hb (World.block_lt_of_cell? _ _ h.2.2.2.2.2.2.2.2.2.1) h.2.2.2.2.2.2.2.2.2.1, h.2.2.2.2.2.2.2.2.2.2.trans (hb.mono h.2.2.2.2.2.2.2.2.2.2.size)⟩)
  go_enter Try.func36, Try.ntmps36
  go_wp2_with fail
  refine Rk.begin (S := fun wS => wS.cell? ⟨kb, 0, none⟩ = some (.func (.func kf) #[] #[]) ∧ wS.cell? ⟨lb, 0, none⟩ = some (.slice (some ⟨b, o, none⟩) n c) ∧ wS.cell? ⟨b, o + x * 4, none⟩ = some (.string p.1) ∧ wS.cell? ⟨b, o + x * 4 + 1, none⟩ = some (.int .i64 p.2.1) ∧ wS.cell? ⟨b, o + x * 4 + 2, none⟩ = some (.int .i64 p.2.2.1) ∧ wS.cell? ⟨b, o + x * 4 + 3, none⟩ = some (.int .i64 p.2.2.2) ∧ wS.cell? ⟨b, o + y * 4, none⟩ = some (.string q.1) ∧ wS.cell? ⟨b, o + y * 4 + 1, none⟩ = some (.int .i64 q.2.1) ∧ wS.cell? ⟨b, o + y * 4 + 2, none⟩ = some (.int .i64 q.2.2.1) ∧ wS.cell? ⟨b, o + y * 4 + 3, none⟩ = some (.int .i64 q.2.2.2) ∧ Below w.heap.size w wS) 12 (by kernel_rfl) hz1 (fun hHeld => ?_)
  refine Rk.take [5, 12] (i := 0) (v := ?_) rfl (by kernel_rfl) (by kernel_rfl) (by kernel_rfl) (by kernel_rfl) (by kernel_rfl) (fun _ _ _ h => h) (Or.inl ⟨by kernel_rfl, ?_⟩) (by assumption) ?_
  rotate_left
  · ((intro w hSw; (try dsimp only at hSw); go_simp) <;> with_reducible rfl)
  try simp only [Act.put, List.setIfInBounds_toArray, List.set_cons_zero, List.set_cons_succ]
  refine Rk.take [3, 4, 5, 12] (i := 1) (v := ?_) rfl (by kernel_rfl) (by kernel_rfl) (by kernel_rfl) (by kernel_rfl) (by kernel_rfl) (fun _ _ _ h => h) (Or.inl ⟨by kernel_rfl, ?_⟩) (by assumption) ?_
  rotate_left
  · ((intro w hSw; (try dsimp only at hSw); go_simp) <;> with_reducible rfl)
  try simp only [Act.put, List.setIfInBounds_toArray, List.set_cons_zero, List.set_cons_succ]
  refine Rk.takeP (i := 2) (v := ?_) rfl (by kernel_rfl) (by kernel_rfl) (by kernel_rfl) (by kernel_rfl) (fun _ _ _ h => h) (Or.inl ⟨by kernel_rfl, ?_⟩) (by assumption) ?_
  rotate_left
  · ((intro w hSw; go_simp) <;> with_reducible rfl)
  try simp only [Act.put, List.setIfInBounds_toArray, List.set_cons_zero, List.set_cons_succ]
  refine Rk.takeP (i := 3) (v := ?_) rfl (by kernel_rfl) (by kernel_rfl) (by kernel_rfl) (by kernel_rfl) (fun _ _ _ h => h) (Or.inl ⟨by kernel_rfl, ?_⟩) (by assumption) ?_
  rotate_left
  · ((intro w hSw; go_simp) <;> with_reducible rfl)
  try simp only [Act.put, List.setIfInBounds_toArray, List.set_cons_zero, List.set_cons_succ]
  refine Rk.take [5, 12] (i := 4) (v := ?_) rfl (by kernel_rfl) (by kernel_rfl) (by kernel_rfl) (by kernel_rfl) (by kernel_rfl) (fun _ _ _ h => h) (Or.inl ⟨by kernel_rfl, ?_⟩) (by assumption) ?_
  rotate_left
  · ((intro w hSw; (try dsimp only at hSw); go_simp) <;> with_reducible rfl)
  try simp only [Act.put, List.setIfInBounds_toArray, List.set_cons_zero, List.set_cons_succ]
  refine Rk.take [11, 12] (i := 6) (v := ?_) rfl (by kernel_rfl) (by kernel_rfl) (by kernel_rfl) (by kernel_rfl) (by kernel_rfl) (fun _ _ _ h => h) (Or.inl ⟨by kernel_rfl, ?_⟩) (by assumption) ?_
  rotate_left
  · ((intro w hSw; (try dsimp only at hSw); go_simp) <;> with_reducible rfl)
  try simp only [Act.put, List.setIfInBounds_toArray, List.set_cons_zero, List.set_cons_succ]
  refine Rk.take [9, 10, 11, 12] (i := 7) (v := ?_) rfl (by kernel_rfl) (by kernel_rfl) (by kernel_rfl) (by kernel_rfl) (by kernel_rfl) (fun _ _ _ h => h) (Or.inl ⟨by kernel_rfl, ?_⟩) (by assumption) ?_
  rotate_left
  · ((intro w hSw; (try dsimp only at hSw); go_simp) <;> with_reducible rfl)
  try simp only [Act.put, List.setIfInBounds_toArray, List.set_cons_zero, List.set_cons_succ]
  refine Rk.takeP (i := 8) (v := ?_) rfl (by kernel_rfl) (by kernel_rfl) (by kernel_rfl) (by kernel_rfl) (fun _ _ _ h => h) (Or.inl ⟨by kernel_rfl, ?_⟩) (by assumption) ?_
  rotate_left
  · ((intro w hSw; go_simp) <;> with_reducible rfl)
  try simp only [Act.put, List.setIfInBounds_toArray, List.set_cons_zero, List.set_cons_succ]
  refine Rk.takeP (i := 9) (v := ?_) rfl (by kernel_rfl) (by kernel_rfl) (by kernel_rfl) (by kernel_rfl) (fun _ _ _ h => h) (Or.inl ⟨by kernel_rfl, ?_⟩) (by assumption) ?_
  rotate_left
  · ((intro w hSw; go_simp) <;> with_reducible rfl)
  try simp only [Act.put, List.setIfInBounds_toArray, List.set_cons_zero, List.set_cons_succ]
  refine Rk.take [11, 12] (i := 10) (v := ?_) rfl (by kernel_rfl) (by kernel_rfl) (by kernel_rfl) (by kernel_rfl) (by kernel_rfl) (fun _ _ _ h => h) (Or.inl ⟨by kernel_rfl, ?_⟩) (by assumption) ?_
  rotate_left
  · ((intro w hSw; (try dsimp only at hSw); go_simp) <;> with_reducible rfl)
  try simp only [Act.put, List.setIfInBounds_toArray, List.set_cons_zero, List.set_cons_succ]
  refine Rk.one (i := 5) (by kernel_rfl) rfl (fun KK hK => ?_)
  rw [if_pos (by kernel_rfl)]
  go_simp
  rw [HKF.out, Oper.upon_enter]
  ((with_reducible refine (KC.out p HPK.out _).mono ?_); rintro e u1_x ⟨rfl, hb⟩)
  have hNew := HS.out _ _ hHeld hb
  first | (refine hK.out _ _ (fun _ => hNew) (fun _ => ?_)) | (refine hK.out _ _ hNew (fun _ => ?_)) | (go_wp2_with fail; refine hK.out _ _ hNew (fun _ => ?_))
  replace hHeld := hNew
  clear hNew hb
  clear hK KK
  refine Rk.one (i := 11) (by kernel_rfl) rfl (fun KK hK => ?_)
  rw [if_pos (by kernel_rfl)]
  go_simp
  rw [HKF.out, Oper.upon_enter]
  ((with_reducible refine (KC.out q HQK.out _).mono ?_); rintro e u2_y ⟨rfl, hb⟩)
  have hNew := HS.out _ _ hHeld hb
  first | (refine hK.out _ _ (fun _ => hNew) (fun _ => ?_)) | (refine hK.out _ _ hNew (fun _ => ?_)) | (go_wp2_with fail; refine hK.out _ _ hNew (fun _ => ?_))
  replace hHeld := hNew
  clear hNew hb
  clear hK KK
  refine Rk.tail [12, 13] [_, _] (by kernel_rfl) (by kernel_rfl) rfl (by decide) ?_
  go_wp2_with (go_at_call 37; refine (CM.out _ _ _).mono ?_; rintro e w9 ⟨rfl, rfl⟩)
  go_ret
  exact ⟨rfl, below_drewN (hHeld.2.2.2.2.2.2.2.2.2.2) 0⟩

set_option maxRecDepth 100000 in
set_option maxHeartbeats 8000000 in
theorem clo42 (kf : Nat) (ky : St → Int) (OK : St → Prop) (HKF : Hid (∀ args w, (Go.callFunc kf args).run Try.prog w = .ok (.enter kf args) w)) (KC : Hid (∀ a, OK a → ∀ w, Calls Try.prog kf #[Sv3 a] w fun e w' => e = .returned (.int .i64 (ky a)) ∧ Below w.heap.size w w'))
    (kb lb b o n c x y : Nat) (p q : St) (w : World) (HPK : Hid (OK p)) (HQK : Hid (OK q)) (hx : x < n) (hy : y < n) (hz1 : w.drew.cell? ⟨kb, 0, none⟩ = some (.func (.func kf) #[] #[]) ∧ w.drew.cell? ⟨lb, 0, none⟩ = some (.slice (some ⟨b, o, none⟩) n c) ∧ w.drew.cell? ⟨b, o + x * 3, none⟩ = some (.string p.1) ∧ w.drew.cell? ⟨b, o + x * 3 + 1, none⟩ = some (.int .i64 p.2.1) ∧ w.drew.cell? ⟨b, o + x * 3 + 2, none⟩ = some (.int .i64 p.2.2) ∧ w.drew.cell? ⟨b, o + y * 3, none⟩ = some (.string q.1) ∧ w.drew.cell? ⟨b, o + y * 3 + 1, none⟩ = some (.int .i64 q.2.1) ∧ w.drew.cell? ⟨b, o + y * 3 + 2, none⟩ = some (.int .i64 q.2.2) ∧ Below w.heap.size w w.drew) :
    Calls Try.prog 42 #[.int .i64 (x : Int), .int .i64 (y : Int), .pointer (some ⟨kb, 0, none⟩), .pointer (some ⟨lb, 0, none⟩)] w fun e w' => e = .returned (.int .i64 (ic (ky p) (ky q))) ∧ Below w.heap.size w w' := by
  have CM := Lib.hid cmpI
  have x0 : (0 : Int) ≤ x := by omega
  have y0 : (0 : Int) ≤ y := by omega
  have x1 : (x : Int) < n := by omega
  have y1 : (y : Int) < n := by omega
  unfold Sv3 at KC
  have HS : Hid (∀ u u' : World, (u.cell? ⟨kb, 0, none⟩ = some (.func (.func kf) #[] #[]) ∧ u.cell? ⟨lb, 0, none⟩ = some (.slice (some ⟨b, o, none⟩) n c) ∧ u.cell? ⟨b, o + x * 3, none⟩ = some (.string p.1) ∧ u.cell? ⟨b, o + x * 3 + 1, none⟩ = some (.int .i64 p.2.1) ∧ u.cell? ⟨b, o + x * 3 + 2, none⟩ = some (.int .i64 p.2.2) ∧ u.cell? ⟨b, o + y * 3, none⟩ = some (.string q.1) ∧ u.cell? ⟨b, o + y * 3 + 1, none⟩ = some (.int .i64 q.2.1) ∧ u.cell? ⟨b, o + y * 3 + 2, none⟩ = some (.int .i64 q.2.2) ∧ Below w.heap.size w u) → Below u.heap.size u u' → (u'.cell? ⟨kb, 0, none⟩ = some (.func (.func kf) #[] #[]) ∧ u'.cell? ⟨lb, 0, none⟩ = some (.slice (some ⟨b, o, none⟩) n c) ∧ u'.cell? ⟨b, o + x * 3, none⟩ = some (.string p.1) ∧ u'.cell? ⟨b, o + x * 3 + 1, none⟩ = some (.int .i64 p.2.1) ∧ u'.cell? ⟨b, o + x * 3 + 2, none⟩ = some (.int .i64 p.2.2) ∧ u'.cell? ⟨b, o + y * 3, none⟩ = some (.string q.1) ∧ u'.cell? ⟨b, o + y * 3 + 1, none⟩ = some (.int .i64 q.2.1) ∧ u'.cell? ⟨b, o + y * 3 + 2, none⟩ = some (.int .i64 q.2.2) ∧ Below w.heap.size w u')) := Lib.hid (fun u u' h hb => ⟨Rg.keep hb (World.block_lt_of_cell? _ _ h.1) h.1, Rg.keep hb (World.block_lt_of_cell? _ _ h.2.1) h.2.1, Rg.keep hb (World.block_lt_of_cell? _ _ h.2.2.1) h.2.2.1, Rg.keep hb (World.block_lt_of_cell? _ _ h.2.2.2.1) h.2.2.2.1, Rg.keep hb (World.block_lt_of_cell? _ _ h.2.2.2.2.1) h.2.2.2.2.1, Rg.keep hb (World.block_lt_of_cell? _ _ h.2.2.2.2.2.1) h.2.2.2.2.2.1, Rg.keep hb (World.block_lt_of_cell? _ _ h.2.2.2.2.2.2.1) h.2.2.2.2.2.2.1, Rg.keep hb (World.block_lt_of_cell? _ _ h.2.2.2.2.2.2.2.1) h.2.2.2.2.2.2.2.1, h.2.2.2.2.2.2.2.2.trans (hb.mono h.2.2.2.2.2.2.2.2.size)⟩)
  go_enter Try.func42, Try.ntmps42
  go_wp2_with fail
  refine Rk.begin (S := fun wS => wS.cell? ⟨kb, 0, none⟩ = some (.func (.func kf) #[] #[]) ∧ wS.cell? ⟨lb, 0, none⟩ = some (.slice (some ⟨b, o, none⟩) n c) ∧ wS.cell? ⟨b, o + x * 3, none⟩ = some (.string p.1) ∧ wS.cell? ⟨b, o + x * 3 + 1, none⟩ = some (.int .i64 p.2.1) ∧ wS.cell? ⟨b, o + x * 3 + 2, none⟩ = some (.int .i64 p.2.2) ∧ wS.cell? ⟨b, o + y * 3, none⟩ = some (.string q.1) ∧ wS.cell? ⟨b, o + y * 3 + 1, none⟩ = some (.int .i64 q.2.1) ∧ wS.cell? ⟨b, o + y * 3 + 2, none⟩ = some (.int .i64 q.2.2) ∧ Below w.heap.size w wS) 12 (by kernel_rfl) hz1 (fun hHeld => ?_)
  refine Rk.take [5, 12] (i := 0) (v := ?_) rfl (by kernel_rfl) (by kernel_rfl) (by kernel_rfl) (by kernel_rfl) (by kernel_rfl) (fun _ _ _ h => h) (Or.inl ⟨by kernel_rfl, ?_⟩) (by assumption) ?_
  rotate_left
  · ((intro w hSw; (try dsimp only at hSw); go_simp) <;> with_reducible rfl)
  try simp only [Act.put, List.setIfInBounds_toArray, List.set_cons_zero, List.set_cons_succ]
  refine Rk.take [3, 4, 5, 12] (i := 1) (v := ?_) rfl (by kernel_rfl) (by kernel_rfl) (by kernel_rfl) (by kernel_rfl) (by kernel_rfl) (fun _ _ _ h => h) (Or.inl ⟨by kernel_rfl, ?_⟩) (by assumption) ?_
  rotate_left
  · ((intro w hSw; (try dsimp only at hSw); go_simp) <;> with_reducible rfl)
  try simp only [Act.put, List.setIfInBounds_toArray, List.set_cons_zero, List.set_cons_succ]
  refine Rk.takeP (i := 2) (v := ?_) rfl (by kernel_rfl) (by kernel_rfl) (by kernel_rfl) (by kernel_rfl) (fun _ _ _ h => h) (Or.inl ⟨by kernel_rfl, ?_⟩) (by assumption) ?_
  rotate_left
  · ((intro w hSw; go_simp) <;> with_reducible rfl)
  try simp only [Act.put, List.setIfInBounds_toArray, List.set_cons_zero, List.set_cons_succ]
  refine Rk.takeP (i := 3) (v := ?_) rfl (by kernel_rfl) (by kernel_rfl) (by kernel_rfl) (by kernel_rfl) (fun _ _ _ h => h) (Or.inl ⟨by kernel_rfl, ?_⟩) (by assumption) ?_
  rotate_left
  · ((intro w hSw; go_simp) <;> with_reducible rfl)
  try simp only [Act.put, List.setIfInBounds_toArray, List.set_cons_zero, List.set_cons_succ]
  refine Rk.take [5, 12] (i := 4) (v := ?_) rfl (by kernel_rfl) (by kernel_rfl) (by kernel_rfl) (by kernel_rfl) (by kernel_rfl) (fun _ _ _ h => h) (Or.inl ⟨by kernel_rfl, ?_⟩) (by assumption) ?_
  rotate_left
  · ((intro w hSw; (try dsimp only at hSw); go_simp) <;> with_reducible rfl)
  try simp only [Act.put, List.setIfInBounds_toArray, List.set_cons_zero, List.set_cons_succ]
  refine Rk.take [11, 12] (i := 6) (v := ?_) rfl (by kernel_rfl) (by kernel_rfl) (by kernel_rfl) (by kernel_rfl) (by kernel_rfl) (fun _ _ _ h => h) (Or.inl ⟨by kernel_rfl, ?_⟩) (by assumption) ?_
  rotate_left
  · ((intro w hSw; (try dsimp only at hSw); go_simp) <;> with_reducible rfl)
  try simp only [Act.put, List.setIfInBounds_toArray, List.set_cons_zero, List.set_cons_succ]
  refine Rk.take [9, 10, 11, 12] (i := 7) (v := ?_) rfl (by kernel_rfl) (by kernel_rfl) (by kernel_rfl) (by kernel_rfl) (by kernel_rfl) (fun _ _ _ h => h) (Or.inl ⟨by kernel_rfl, ?_⟩) (by assumption) ?_
  rotate_left
  · ((intro w hSw; (try dsimp only at hSw); go_simp) <;> with_reducible rfl)
  try simp only [Act.put, List.setIfInBounds_toArray, List.set_cons_zero, List.set_cons_succ]
  refine Rk.takeP (i := 8) (v := ?_) rfl (by kernel_rfl) (by kernel_rfl) (by kernel_rfl) (by kernel_rfl) (fun _ _ _ h => h) (Or.inl ⟨by kernel_rfl, ?_⟩) (by assumption) ?_
  rotate_left
  · ((intro w hSw; go_simp) <;> with_reducible rfl)
  try simp only [Act.put, List.setIfInBounds_toArray, List.set_cons_zero, List.set_cons_succ]
  refine Rk.takeP (i := 9) (v := ?_) rfl (by kernel_rfl) (by kernel_rfl) (by kernel_rfl) (by kernel_rfl) (fun _ _ _ h => h) (Or.inl ⟨by kernel_rfl, ?_⟩) (by assumption) ?_
  rotate_left
  · ((intro w hSw; go_simp) <;> with_reducible rfl)
  try simp only [Act.put, List.setIfInBounds_toArray, List.set_cons_zero, List.set_cons_succ]
  refine Rk.take [11, 12] (i := 10) (v := ?_) rfl (by kernel_rfl) (by kernel_rfl) (by kernel_rfl) (by kernel_rfl) (by kernel_rfl) (fun _ _ _ h => h) (Or.inl ⟨by kernel_rfl, ?_⟩) (by assumption) ?_
  rotate_left
  · ((intro w hSw; (try dsimp only at hSw); go_simp) <;> with_reducible rfl)
  try simp only [Act.put, List.setIfInBounds_toArray, List.set_cons_zero, List.set_cons_succ]
  refine Rk.one (i := 5) (by kernel_rfl) rfl (fun KK hK => ?_)
  rw [if_pos (by kernel_rfl)]
  go_simp
  rw [HKF.out, Oper.upon_enter]
  ((with_reducible refine (KC.out p HPK.out _).mono ?_); rintro e u1_x ⟨rfl, hb⟩)
  have hNew := HS.out _ _ hHeld hb
  first | (refine hK.out _ _ (fun _ => hNew) (fun _ => ?_)) | (refine hK.out _ _ hNew (fun _ => ?_)) | (go_wp2_with fail; refine hK.out _ _ hNew (fun _ => ?_))
  replace hHeld := hNew
  clear hNew hb
  clear hK KK
  refine Rk.one (i := 11) (by kernel_rfl) rfl (fun KK hK => ?_)
  rw [if_pos (by kernel_rfl)]
  go_simp
  rw [HKF.out, Oper.upon_enter]
  ((with_reducible refine (KC.out q HQK.out _).mono ?_); rintro e u2_y ⟨rfl, hb⟩)
  have hNew := HS.out _ _ hHeld hb
  first | (refine hK.out _ _ (fun _ => hNew) (fun _ => ?_)) | (refine hK.out _ _ hNew (fun _ => ?_)) | (go_wp2_with fail; refine hK.out _ _ hNew (fun _ => ?_))
  replace hHeld := hNew
  clear hNew hb
  clear hK KK
  refine Rk.tail [12, 13] [_, _] (by kernel_rfl) (by kernel_rfl) rfl (by decide) ?_
  go_wp2_with (go_at_call 37; refine (CM.out _ _ _).mono ?_; rintro e w9 ⟨rfl, rfl⟩)
  go_ret
  exact ⟨rfl, below_drewN (hHeld.2.2.2.2.2.2.2.2) 0⟩
end Go.Proofs.Ytghnigmmkenddaa.Ar
