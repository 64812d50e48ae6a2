/- The cache: the links of its entries. -/
import Derived.Test.YtlmbjipcdhenlaaC0
import Derived.Test.YtlmbjipcdhenlaaRk
import Derived.IntWalk
import Derived.Deep.Draws
namespace Go.Proofs.Ytlmbjipcdhenlaa.Ci
open Go.ChangeShapes Go.WideShapes Go.ChangeAt Go.RowKit
open Go.Proofs.Ytlmbjipcdhenlaa.Ca
set_option linter.unusedVariables false
set_option linter.unusedSimpArgs false
def pt : Option Nat → Value
  | none => .pointer none
  | some x => .pointer (some ⟨x, 0, none⟩)
/-- The links of a cache in memory: block b, the blocks of its entries. -/
structure HL (w : World) (b : Nat) (D : List Nat) (N O : Nat → Option Nat) (h t : Option Nat) : Prop where
  ch : w.cell? ⟨b, 2, none⟩ = some (pt h)
  ct : w.cell? ⟨b, 3, none⟩ = some (pt t)
  zh : w.frozen? ⟨b, 2, none⟩ = false
  zt : w.frozen? ⟨b, 3, none⟩ = false
  n : ∀ x ∈ D, w.cell? ⟨x, 2, none⟩ = some (pt (N x))
  o : ∀ x ∈ D, w.cell? ⟨x, 3, none⟩ = some (pt (O x))
  zn : ∀ x ∈ D, w.frozen? ⟨x, 2, none⟩ = false
  zo : ∀ x ∈ D, w.frozen? ⟨x, 3, none⟩ = false
  nb : b ∉ D
theorem HL.drew {w : World} {b : Nat} {D : List Nat} {N O : Nat → Option Nat} {h t : Option Nat} (H : HL w b D N O h t) : HL w.drew b D N O h t := ⟨H.ch, H.ct, H.zh, H.zt, H.n, H.o, H.zn, H.zo, H.nb⟩
theorem fz_set (w : World) (a c : Addr) (v : Value) : (w.setCell a v).frozen? c = w.frozen? c := by simp [World.frozen?_setCell]
theorem HL.setH {w : World} {b : Nat} {D : List Nat} {N O : Nat → Option Nat} {h t : Option Nat} (H : HL w b D N O h t) (p : Option Nat) : HL (w.setCell ⟨b, 2, none⟩ (pt p)) b D N O p t := by
  have hne : ∀ x ∈ D, b ≠ x := fun x hx e => H.nb (e ▸ hx)
  refine ⟨World.cell?_setCell_same _ _ _ H.ch, ?_, by rw [fz_set]; exact H.zh, by rw [fz_set]; exact H.zt, fun x hx => ?_, fun x hx => ?_, fun x hx => by rw [fz_set]; exact H.zn x hx, fun x hx => by rw [fz_set]; exact H.zo x hx, H.nb⟩
  · rw [World.cell?_setCell_other _ _ _ _ (by intro e; cases e)]; exact H.ct
  · rw [World.cell?_setCell_far _ _ _ _ (hne x hx)]; exact H.n x hx
  · rw [World.cell?_setCell_far _ _ _ _ (hne x hx)]; exact H.o x hx
theorem HL.setT {w : World} {b : Nat} {D : List Nat} {N O : Nat → Option Nat} {h t : Option Nat} (H : HL w b D N O h t) (p : Option Nat) : HL (w.setCell ⟨b, 3, none⟩ (pt p)) b D N O h p := by
  have hne : ∀ x ∈ D, b ≠ x := fun x hx e => H.nb (e ▸ hx)
  refine ⟨?_, World.cell?_setCell_same _ _ _ H.ct, by rw [fz_set]; exact H.zh, by rw [fz_set]; exact H.zt, fun x hx => ?_, fun x hx => ?_, fun x hx => by rw [fz_set]; exact H.zn x hx, fun x hx => by rw [fz_set]; exact H.zo x hx, H.nb⟩
  · rw [World.cell?_setCell_other _ _ _ _ (by intro e; cases e)]; exact H.ch
  · rw [World.cell?_setCell_far _ _ _ _ (hne x hx)]; exact H.n x hx
  · rw [World.cell?_setCell_far _ _ _ _ (hne x hx)]; exact H.o x hx
theorem HL.setN {w : World} {b : Nat} {D : List Nat} {N O : Nat → Option Nat} {h t : Option Nat} (H : HL w b D N O h t) {x : Nat} (hx : x ∈ D) (p : Option Nat) : HL (w.setCell ⟨x, 2, none⟩ (pt p)) b D (upd N x p) O h t := by
  have hne : x ≠ b := fun e => H.nb (e ▸ hx)
  refine ⟨?_, ?_, by rw [fz_set]; exact H.zh, by rw [fz_set]; exact H.zt, fun y hy => ?_, fun y hy => ?_, fun x hx => by rw [fz_set]; exact H.zn x hx, fun x hx => by rw [fz_set]; exact H.zo x hx, H.nb⟩
  · rw [World.cell?_setCell_far _ _ _ _ hne]; exact H.ch
  · rw [World.cell?_setCell_far _ _ _ _ hne]; exact H.ct
  · unfold upd
    by_cases e : y = x
    · subst e; rw [if_pos rfl]; exact World.cell?_setCell_same _ _ _ (H.n y hy)
    · rw [if_neg e, World.cell?_setCell_far _ _ _ _ (fun h => e h.symm)]; exact H.n y hy
  · rw [World.cell?_setCell_other _ _ _ _ (by intro e; injection e with _ e2; cases e2)]; exact H.o y hy
theorem HL.setO {w : World} {b : Nat} {D : List Nat} {N O : Nat → Option Nat} {h t : Option Nat} (H : HL w b D N O h t) {x : Nat} (hx : x ∈ D) (p : Option Nat) : HL (w.setCell ⟨x, 3, none⟩ (pt p)) b D N (upd O x p) h t := by
  have hne : x ≠ b := fun e => H.nb (e ▸ hx)
  refine ⟨?_, ?_, by rw [fz_set]; exact H.zh, by rw [fz_set]; exact H.zt, fun y hy => ?_, fun y hy => ?_, fun x hx => by rw [fz_set]; exact H.zn x hx, fun x hx => by rw [fz_set]; exact H.zo x hx, H.nb⟩
  · rw [World.cell?_setCell_far _ _ _ _ hne]; exact H.ch
  · rw [World.cell?_setCell_far _ _ _ _ hne]; exact H.ct
  · rw [World.cell?_setCell_other _ _ _ _ (by intro e; injection e with _ e2; cases e2)]; exact H.n y hy
  · unfold upd
    by_cases e : y = x
    · subst e; rw [if_pos rfl]; exact World.cell?_setCell_same _ _ _ (H.o y hy)
    · rw [if_neg e, World.cell?_setCell_far _ _ _ _ (fun h => e h.symm)]; exact H.o y hy
/-- Only links have turned. -/
structure Fr (b : Nat) (D : List Nat) (w w' : World) : Prop where
  os : w'.os = w.os
  tape : w'.tape = w.tape
  output : w'.output = w.output
  sz : w'.heap.size = w.heap.size
  far : ∀ k, k ≠ b → k ∉ D → w'.heap[k]? = w.heap[k]?
  val : ∀ x ∈ D, ∀ o, o ≠ 2 → o ≠ 3 → w'.cell? ⟨x, o, none⟩ = w.cell? ⟨x, o, none⟩
  own : ∀ o, o ≠ 2 → o ≠ 3 → w'.cell? ⟨b, o, none⟩ = w.cell? ⟨b, o, none⟩
  fz : ∀ a, w'.frozen? a = w.frozen? a
theorem Fr.refl (b : Nat) (D : List Nat) (w : World) : Fr b D w w := ⟨rfl, rfl, rfl, rfl, fun _ _ _ => rfl, fun _ _ _ _ _ => rfl, fun _ _ _ => rfl, fun _ => rfl⟩
theorem Fr.drew {b : Nat} {D : List Nat} {w w' : World} (h : Fr b D w w') : Fr b D w w'.drew := ⟨h.os, h.tape, h.output, h.sz, h.far, h.val, h.own, h.fz⟩
theorem Fr.setB {b : Nat} {D : List Nat} {w w' : World} (h : Fr b D w w') (hb : b ∉ D) {o : Nat} (ho : o = 2 ∨ o = 3) (v : Value) : Fr b D w (w'.setCell ⟨b, o, none⟩ v) :=
  ⟨h.os, h.tape, h.output, (World.size_setCell _ _ _).trans h.sz, fun k hk hd => (Below.heap_setCell _ _ _ _ hk).trans (h.far k hk hd), fun x hx o' h1 h2 => by
    rw [World.cell?_setCell_far _ _ _ _ (fun e => hb (by cases e; exact hx))]; exact h.val x hx o' h1 h2, fun o' h1 h2 => by
    rw [World.cell?_setCell_other _ _ _ _ (by intro e; injection e with _ e2; omega)]; exact h.own o' h1 h2, fun a => (fz_set _ _ _ _).trans (h.fz a)⟩
theorem Fr.setD {b : Nat} {D : List Nat} {w w' : World} (h : Fr b D w w') (hb : b ∉ D) {x o : Nat} (hx : x ∈ D) (ho : o = 2 ∨ o = 3) (v : Value) : Fr b D w (w'.setCell ⟨x, o, none⟩ v) :=
  ⟨h.os, h.tape, h.output, (World.size_setCell _ _ _).trans h.sz, fun k hk hd => (Below.heap_setCell _ _ _ _ (fun e => hd (by cases e; exact hx))).trans (h.far k hk hd), fun y hy o' h1 h2 => by
    rw [World.cell?_setCell_other _ _ _ _ (by intro e; injection e with _ e2; omega)]; exact h.val y hy o' h1 h2, fun o' h1 h2 => by
    rw [World.cell?_setCell_far _ _ _ _ (fun e => hb (by cases e; exact hx))]; exact h.own o' h1 h2, fun a => (fz_set _ _ _ _).trans (h.fz a)⟩
theorem Fr.trans {b : Nat} {D : List Nat} {w u v : World} (h : Fr b D w u) (h' : Fr b D u v) : Fr b D w v :=
  ⟨h'.os.trans h.os, h'.tape.trans h.tape, h'.output.trans h.output, h'.sz.trans h.sz, fun k h1 h2 => (h'.far k h1 h2).trans (h.far k h1 h2), fun x hx o h1 h2 => (h'.val x hx o h1 h2).trans (h.val x hx o h1 h2), fun o h1 h2 => (h'.own o h1 h2).trans (h.own o h1 h2), fun a => (h'.fz a).trans (h.fz a)⟩
theorem Fr.below {b base : Nat} {D : List Nat} {w w' : World} (h : Fr b D w w') (h1 : base ≤ b) (h2 : ∀ x ∈ D, base ≤ x) : Below base w w' :=
  ⟨h.os, h.tape, h.output, by rw [h.sz]; exact Nat.le_refl _, fun k hk => h.far k (by omega) (fun hd => by have := h2 k hd; omega)⟩
theorem usable_yes (b : Nat) (m : Int) (w : World) (hc : w.cell? ⟨b, 0, none⟩ = some (.int .i64 m)) (hm : 0 < m) : Calls Try.prog 49 #[.pointer (some ⟨b, 0, none⟩)] w fun e w' => e = .returned (.bool true) ∧ w = w' := by
  go_enter Try.func49, Try.ntmps49
  go_wp2
  go_ret
  exact ⟨rfl, rfl⟩
theorem usable_zero (b : Nat) (w : World) (hc : w.cell? ⟨b, 0, none⟩ = some (.int .i64 0)) : Calls Try.prog 49 #[.pointer (some ⟨b, 0, none⟩)] w fun e w' => e = .returned (.bool false) ∧ w = w' := by
  go_enter Try.func49, Try.ntmps49
  go_wp2
  go_ret
  exact ⟨rfl, rfl⟩
theorem usable_nil (w : World) : Calls Try.prog 49 #[.pointer none] w fun e w' => e = .returned (.bool false) ∧ w = w' := by
  go_enter Try.func49, Try.ntmps49
  go_wp2
  go_ret
  exact ⟨rfl, rfl⟩
def UW (b e : Nat) (D : List Nat) (N O : Nat → Option Nat) (h t : Option Nat) (w : World) (r : Ending) (w' : World) : Prop := r = .returned (.tuple #[]) ∧ ∃ N' O' h' t', HL w' b D N' O' h' t' ∧ Un e N O h t N' O' h' t' ∧ Fr b D w w'
def PW (b e : Nat) (D : List Nat) (N O : Nat → Option Nat) (h t : Option Nat) (w : World) (r : Ending) (w' : World) : Prop := r = .returned (.tuple #[]) ∧ ∃ N' O' h' t', HL w' b D N' O' h' t' ∧ Pu e N O h t N' O' h' t' ∧ Fr b D w w'
set_option maxRecDepth 100000 in
set_option maxHeartbeats 8000000 in
theorem unlink_nn (b e : Nat) (D : List Nat) (N O : Nat → Option Nat) (h t : Option Nat) (w : World) (H : HL w b D N O h t) (he : e ∈ D) (hn : N e ≠ some e) (ho : O e ≠ some e) (hN : ∀ n, N e = some n → n ∈ D) (hO : ∀ o, O e = some o → o ∈ D) (hNe : N e = none) (hOe : O e = none) :
    Calls Try.prog 50 #[.pointer (some ⟨b, 0, none⟩), .pointer (some ⟨e, 0, none⟩)] w (UW b e D N O h t w) := by
  have hme : e ≠ b := fun h => H.nb (h ▸ he)
  have hem : b ≠ e := fun h => hme h.symm
  have c2 := H.n e he
  have c3 := H.o e he
  rw [hNe] at c2
  rw [hOe] at c3
  simp only [pt] at c2 c3
  have z2 := H.zn e he
  have z3 := H.zo e he
  have b2 := H.ch
  have b3 := H.ct
  have y2 := H.zh
  have y3 := H.zt
  have HH := Lib.hid H
  have HN := Lib.hid hNe
  have HO := Lib.hid hOe
  clear H hNe hOe hn ho hN hO
  have HP := Lib.hid (show ∀ x, pt x = pt x from fun _ => rfl)
  generalize pt h = vh at b2
  generalize pt t = vt at b3
  go_enter Try.func50, Try.ntmps50
  go_wp2_with fail
  go_end0
  refine ⟨rfl, _, _, _, _, (((((HH.out).setH (none)).setT (none)).setN he none).setO he none), ⟨fun x => ?_, fun x => ?_, ?_, ?_⟩, (((((Fr.refl b D w).setB HH.out.nb (.inl rfl) _).setB HH.out.nb (.inr rfl) _).setD HH.out.nb he (.inl rfl) _).setD HH.out.nb he (.inr rfl) _)⟩
  · rw [HO.out, HN.out]; unfold upd; by_cases h1 : x = e <;> simp [h1]
  · rw [HO.out, HN.out]; unfold upd; by_cases h1 : x = e <;> simp [h1]
  · rw [HO.out, HN.out]; rfl
  · rw [HO.out, HN.out]; rfl
set_option maxRecDepth 100000 in
set_option maxHeartbeats 8000000 in
theorem unlink_ns (b e : Nat) (o : Nat) (D : List Nat) (N O : Nat → Option Nat) (h t : Option Nat) (w : World) (H : HL w b D N O h t) (he : e ∈ D) (hn : N e ≠ some e) (ho : O e ≠ some e) (hN : ∀ n, N e = some n → n ∈ D) (hO : ∀ o, O e = some o → o ∈ D) (hNe : N e = none) (hOe : O e = some o) :
    Calls Try.prog 50 #[.pointer (some ⟨b, 0, none⟩), .pointer (some ⟨e, 0, none⟩)] w (UW b e D N O h t w) := by
  have hme : e ≠ b := fun h => H.nb (h ▸ he)
  have hem : b ≠ e := fun h => hme h.symm
  have c2 := H.n e he
  have c3 := H.o e he
  rw [hNe] at c2
  rw [hOe] at c3
  simp only [pt] at c2 c3
  have z2 := H.zn e he
  have z3 := H.zo e he
  have b2 := H.ch
  have b3 := H.ct
  have y2 := H.zh
  have y3 := H.zt
  have hoD := hO o hOe
  have hoe : o ≠ e := fun h => ho (by rw [hOe, h])
  have heo : e ≠ o := fun h => hoe h.symm
  have hbo : b ≠ o := fun h => H.nb (h ▸ hoD)
  have hob : o ≠ b := fun h => hbo h.symm
  have o2 := H.n o hoD
  have zo2 := H.zn o hoD
  have HH := Lib.hid H
  have HN := Lib.hid hNe
  have HO := Lib.hid hOe
  clear H hNe hOe hn ho hN hO
  generalize pt (N o) = vo at *
  have HP := Lib.hid (show ∀ x, pt x = pt x from fun _ => rfl)
  generalize pt h = vh at b2
  generalize pt t = vt at b3
  go_enter Try.func50, Try.ntmps50
  go_wp2_with fail
  have hz8 : (w.setCell ⟨b, 2, none⟩ (Value.pointer (some ⟨o, 0, none⟩))).drew.cell? ⟨e, 2, none⟩ = some (Value.pointer none) ∧ (w.setCell ⟨b, 2, none⟩ (Value.pointer (some ⟨o, 0, none⟩))).drew.cell? ⟨e, 3, none⟩ = some (Value.pointer (some ⟨o, 0, none⟩)) := by constructor <;> go_cell
  refine Rk.begin (S := fun wS => wS.cell? ⟨e, 2, none⟩ = some (Value.pointer none) ∧ wS.cell? ⟨e, 3, none⟩ = some (Value.pointer (some ⟨o, 0, none⟩))) 10 (by kernel_rfl) hz8 (fun hHeld => ?_)
  refine Rk.takeP (i := 0) (v := ?_) rfl (by kernel_rfl) (by kernel_rfl) (by kernel_rfl) (by kernel_rfl) (fun _ _ _ h => h) (Or.inl ⟨by kernel_rfl, ?_⟩) (by assumption) ?_
  rotate_left
  · ((intro w hSw; go_simp) <;> with_reducible rfl)
  try simp only [Act.put, List.setIfInBounds_toArray, List.set_cons_zero, List.set_cons_succ]
  refine Rk.takeP (i := 1) (v := ?_) rfl (by kernel_rfl) (by kernel_rfl) (by kernel_rfl) (by kernel_rfl) (fun _ _ _ h => h) (Or.inl ⟨by kernel_rfl, ?_⟩) (by assumption) ?_
  rotate_left
  · ((intro w hSw; go_simp) <;> with_reducible rfl)
  try simp only [Act.put, List.setIfInBounds_toArray, List.set_cons_zero, List.set_cons_succ]
  refine Rk.takeP (i := 2) (v := ?_) rfl (by kernel_rfl) (by kernel_rfl) (by kernel_rfl) (by kernel_rfl) (fun _ _ _ h => h) (Or.inl ⟨by kernel_rfl, ?_⟩) (by assumption) ?_
  rotate_left
  · ((intro w hSw; go_simp) <;> with_reducible rfl)
  try simp only [Act.put, List.setIfInBounds_toArray, List.set_cons_zero, List.set_cons_succ]
  refine Rk.take [10] (i := 3) (v := ?_) rfl (by kernel_rfl) (by kernel_rfl) (by kernel_rfl) (by kernel_rfl) (by kernel_rfl) (fun _ _ _ h => h) (Or.inl ⟨by kernel_rfl, ?_⟩) (by assumption) ?_
  rotate_left
  · ((intro w hSw; (try dsimp only at hSw); go_simp) <;> with_reducible rfl)
  try simp only [Act.put, List.setIfInBounds_toArray, List.set_cons_zero, List.set_cons_succ]
  refine Rk.takeP (i := 4) (v := ?_) rfl (by kernel_rfl) (by kernel_rfl) (by kernel_rfl) (by kernel_rfl) (fun _ _ _ h => h) (Or.inl ⟨by kernel_rfl, ?_⟩) (by assumption) ?_
  rotate_left
  · ((intro w hSw; go_simp) <;> with_reducible rfl)
  try simp only [Act.put, List.setIfInBounds_toArray, List.set_cons_zero, List.set_cons_succ]
  refine Rk.takeP (i := 5) (v := ?_) rfl (by kernel_rfl) (by kernel_rfl) (by kernel_rfl) (by kernel_rfl) (fun _ _ _ h => h) (Or.inl ⟨by kernel_rfl, ?_⟩) (by assumption) ?_
  rotate_left
  · ((intro w hSw; go_simp) <;> with_reducible rfl)
  try simp only [Act.put, List.setIfInBounds_toArray, List.set_cons_zero, List.set_cons_succ]
  refine Rk.takeP (i := 6) (v := ?_) rfl (by kernel_rfl) (by kernel_rfl) (by kernel_rfl) (by kernel_rfl) (fun _ _ _ h => h) (Or.inl ⟨by kernel_rfl, ?_⟩) (by assumption) ?_
  rotate_left
  · ((intro w hSw; go_simp) <;> with_reducible rfl)
  try simp only [Act.put, List.setIfInBounds_toArray, List.set_cons_zero, List.set_cons_succ]
  refine Rk.take [10] (i := 7) (v := ?_) rfl (by kernel_rfl) (by kernel_rfl) (by kernel_rfl) (by kernel_rfl) (by kernel_rfl) (fun _ _ _ h => h) (Or.inl ⟨by kernel_rfl, ?_⟩) (by assumption) ?_
  rotate_left
  · ((intro w hSw; (try dsimp only at hSw); go_simp) <;> with_reducible rfl)
  try simp only [Act.put, List.setIfInBounds_toArray, List.set_cons_zero, List.set_cons_succ]
  refine Rk.takeP (i := 8) (v := ?_) rfl (by kernel_rfl) (by kernel_rfl) (by kernel_rfl) (by kernel_rfl) (fun _ _ _ h => h) (Or.inl ⟨by kernel_rfl, ?_⟩) (by assumption) ?_
  rotate_left
  · ((intro w hSw; go_simp) <;> with_reducible rfl)
  try simp only [Act.put, List.setIfInBounds_toArray, List.set_cons_zero, List.set_cons_succ]
  refine Rk.takeP (i := 9) (v := ?_) rfl (by kernel_rfl) (by kernel_rfl) (by kernel_rfl) (by kernel_rfl) (fun _ _ _ h => h) (Or.inl ⟨by kernel_rfl, ?_⟩) (by assumption) ?_
  rotate_left
  · ((intro w hSw; go_simp) <;> with_reducible rfl)
  try simp only [Act.put, List.setIfInBounds_toArray, List.set_cons_zero, List.set_cons_succ]
  refine Rk.tail [10] [_] (by kernel_rfl) (by kernel_rfl) rfl (by decide) ?_
  clear hHeld hz8
  go_wp2_with fail
  go_end0
  refine ⟨rfl, _, _, _, _, (((((HH.out).setH (some o)).drew.setN hoD (none)).setN he none).setO he none), ⟨fun x => ?_, fun x => ?_, ?_, ?_⟩, (((((Fr.refl b D w).setB HH.out.nb (.inl rfl) _).drew.setD HH.out.nb hoD (.inl rfl) _).setD HH.out.nb he (.inl rfl) _).setD HH.out.nb he (.inr rfl) _)⟩
  · rw [HO.out, HN.out]; unfold upd; by_cases h1 : x = e <;> simp [h1, eq_comm]
  · rw [HO.out, HN.out]; unfold upd; by_cases h1 : x = e <;> simp [h1]
  · rw [HO.out, HN.out]; rfl
  · rw [HO.out, HN.out]; rfl
set_option maxRecDepth 100000 in
set_option maxHeartbeats 8000000 in
theorem unlink_sn (b e : Nat) (n : Nat) (D : List Nat) (N O : Nat → Option Nat) (h t : Option Nat) (w : World) (H : HL w b D N O h t) (he : e ∈ D) (hn : N e ≠ some e) (ho : O e ≠ some e) (hN : ∀ n, N e = some n → n ∈ D) (hO : ∀ o, O e = some o → o ∈ D) (hNe : N e = some n) (hOe : O e = none) :
    Calls Try.prog 50 #[.pointer (some ⟨b, 0, none⟩), .pointer (some ⟨e, 0, none⟩)] w (UW b e D N O h t w) := by
  have hme : e ≠ b := fun h => H.nb (h ▸ he)
  have hem : b ≠ e := fun h => hme h.symm
  have c2 := H.n e he
  have c3 := H.o e he
  rw [hNe] at c2
  rw [hOe] at c3
  simp only [pt] at c2 c3
  have z2 := H.zn e he
  have z3 := H.zo e he
  have b2 := H.ch
  have b3 := H.ct
  have y2 := H.zh
  have y3 := H.zt
  have hnD := hN n hNe
  have hne : n ≠ e := fun h => hn (by rw [hNe, h])
  have hen : e ≠ n := fun h => hne h.symm
  have hbn : b ≠ n := fun h => H.nb (h ▸ hnD)
  have hnb : n ≠ b := fun h => hbn h.symm
  have n3 := H.o n hnD
  have zn3 := H.zo n hnD
  have HH := Lib.hid H
  have HN := Lib.hid hNe
  have HO := Lib.hid hOe
  clear H hNe hOe hn ho hN hO
  generalize pt (O n) = vn at *
  have HP := Lib.hid (show ∀ x, pt x = pt x from fun _ => rfl)
  generalize pt h = vh at b2
  generalize pt t = vt at b3
  go_enter Try.func50, Try.ntmps50
  go_wp2_with fail
  have hz9 : w.drew.cell? ⟨e, 2, none⟩ = some (Value.pointer (some ⟨n, 0, none⟩)) ∧ w.drew.cell? ⟨e, 3, none⟩ = some (Value.pointer none) := ⟨c2, c3⟩
  refine Rk.begin (S := fun wS => wS.cell? ⟨e, 2, none⟩ = some (Value.pointer (some ⟨n, 0, none⟩)) ∧ wS.cell? ⟨e, 3, none⟩ = some (Value.pointer none)) 10 (by kernel_rfl) hz9 (fun hHeld => ?_)
  refine Rk.takeP (i := 0) (v := ?_) rfl (by kernel_rfl) (by kernel_rfl) (by kernel_rfl) (by kernel_rfl) (fun _ _ _ h => h) (Or.inl ⟨by kernel_rfl, ?_⟩) (by assumption) ?_
  rotate_left
  · ((intro w hSw; go_simp) <;> with_reducible rfl)
  try simp only [Act.put, List.setIfInBounds_toArray, List.set_cons_zero, List.set_cons_succ]
  refine Rk.takeP (i := 1) (v := ?_) rfl (by kernel_rfl) (by kernel_rfl) (by kernel_rfl) (by kernel_rfl) (fun _ _ _ h => h) (Or.inl ⟨by kernel_rfl, ?_⟩) (by assumption) ?_
  rotate_left
  · ((intro w hSw; go_simp) <;> with_reducible rfl)
  try simp only [Act.put, List.setIfInBounds_toArray, List.set_cons_zero, List.set_cons_succ]
  refine Rk.takeP (i := 2) (v := ?_) rfl (by kernel_rfl) (by kernel_rfl) (by kernel_rfl) (by kernel_rfl) (fun _ _ _ h => h) (Or.inl ⟨by kernel_rfl, ?_⟩) (by assumption) ?_
  rotate_left
  · ((intro w hSw; go_simp) <;> with_reducible rfl)
  try simp only [Act.put, List.setIfInBounds_toArray, List.set_cons_zero, List.set_cons_succ]
  refine Rk.take [10] (i := 3) (v := ?_) rfl (by kernel_rfl) (by kernel_rfl) (by kernel_rfl) (by kernel_rfl) (by kernel_rfl) (fun _ _ _ h => h) (Or.inl ⟨by kernel_rfl, ?_⟩) (by assumption) ?_
  rotate_left
  · ((intro w hSw; (try dsimp only at hSw); go_simp) <;> with_reducible rfl)
  try simp only [Act.put, List.setIfInBounds_toArray, List.set_cons_zero, List.set_cons_succ]
  refine Rk.takeP (i := 4) (v := ?_) rfl (by kernel_rfl) (by kernel_rfl) (by kernel_rfl) (by kernel_rfl) (fun _ _ _ h => h) (Or.inl ⟨by kernel_rfl, ?_⟩) (by assumption) ?_
  rotate_left
  · ((intro w hSw; go_simp) <;> with_reducible rfl)
  try simp only [Act.put, List.setIfInBounds_toArray, List.set_cons_zero, List.set_cons_succ]
  refine Rk.takeP (i := 5) (v := ?_) rfl (by kernel_rfl) (by kernel_rfl) (by kernel_rfl) (by kernel_rfl) (fun _ _ _ h => h) (Or.inl ⟨by kernel_rfl, ?_⟩) (by assumption) ?_
  rotate_left
  · ((intro w hSw; go_simp) <;> with_reducible rfl)
  try simp only [Act.put, List.setIfInBounds_toArray, List.set_cons_zero, List.set_cons_succ]
  refine Rk.takeP (i := 6) (v := ?_) rfl (by kernel_rfl) (by kernel_rfl) (by kernel_rfl) (by kernel_rfl) (fun _ _ _ h => h) (Or.inl ⟨by kernel_rfl, ?_⟩) (by assumption) ?_
  rotate_left
  · ((intro w hSw; go_simp) <;> with_reducible rfl)
  try simp only [Act.put, List.setIfInBounds_toArray, List.set_cons_zero, List.set_cons_succ]
  refine Rk.take [10] (i := 7) (v := ?_) rfl (by kernel_rfl) (by kernel_rfl) (by kernel_rfl) (by kernel_rfl) (by kernel_rfl) (fun _ _ _ h => h) (Or.inl ⟨by kernel_rfl, ?_⟩) (by assumption) ?_
  rotate_left
  · ((intro w hSw; (try dsimp only at hSw); go_simp) <;> with_reducible rfl)
  try simp only [Act.put, List.setIfInBounds_toArray, List.set_cons_zero, List.set_cons_succ]
  refine Rk.takeP (i := 8) (v := ?_) rfl (by kernel_rfl) (by kernel_rfl) (by kernel_rfl) (by kernel_rfl) (fun _ _ _ h => h) (Or.inl ⟨by kernel_rfl, ?_⟩) (by assumption) ?_
  rotate_left
  · ((intro w hSw; go_simp) <;> with_reducible rfl)
  try simp only [Act.put, List.setIfInBounds_toArray, List.set_cons_zero, List.set_cons_succ]
  refine Rk.takeP (i := 9) (v := ?_) rfl (by kernel_rfl) (by kernel_rfl) (by kernel_rfl) (by kernel_rfl) (fun _ _ _ h => h) (Or.inl ⟨by kernel_rfl, ?_⟩) (by assumption) ?_
  rotate_left
  · ((intro w hSw; go_simp) <;> with_reducible rfl)
  try simp only [Act.put, List.setIfInBounds_toArray, List.set_cons_zero, List.set_cons_succ]
  refine Rk.tail [10] [_] (by kernel_rfl) (by kernel_rfl) rfl (by decide) ?_
  clear hHeld hz9
  go_wp2_with fail
  go_end0
  refine ⟨rfl, _, _, _, _, (((((HH.out).drew.setO hnD (none)).setT (some n)).setN he none).setO he none), ⟨fun x => ?_, fun x => ?_, ?_, ?_⟩, (((((Fr.refl b D w).drew.setD HH.out.nb hnD (.inr rfl) _).setB HH.out.nb (.inr rfl) _).setD HH.out.nb he (.inl rfl) _).setD HH.out.nb he (.inr rfl) _)⟩
  · rw [HO.out, HN.out]; unfold upd; by_cases h1 : x = e <;> simp [h1]
  · rw [HO.out, HN.out]; unfold upd; by_cases h1 : x = e <;> simp [h1, eq_comm]
  · rw [HO.out, HN.out]; rfl
  · rw [HO.out, HN.out]; rfl
set_option maxRecDepth 100000 in
set_option maxHeartbeats 8000000 in
theorem unlink_ss (b e : Nat) (n : Nat) (o : Nat) (D : List Nat) (N O : Nat → Option Nat) (h t : Option Nat) (w : World) (H : HL w b D N O h t) (he : e ∈ D) (hn : N e ≠ some e) (ho : O e ≠ some e) (hN : ∀ n, N e = some n → n ∈ D) (hO : ∀ o, O e = some o → o ∈ D) (hNe : N e = some n) (hOe : O e = some o) :
    Calls Try.prog 50 #[.pointer (some ⟨b, 0, none⟩), .pointer (some ⟨e, 0, none⟩)] w (UW b e D N O h t w) := by
  have hme : e ≠ b := fun h => H.nb (h ▸ he)
  have hem : b ≠ e := fun h => hme h.symm
  have c2 := H.n e he
  have c3 := H.o e he
  rw [hNe] at c2
  rw [hOe] at c3
  simp only [pt] at c2 c3
  have z2 := H.zn e he
  have z3 := H.zo e he
  have b2 := H.ch
  have b3 := H.ct
  have y2 := H.zh
  have y3 := H.zt
  have hnD := hN n hNe
  have hne : n ≠ e := fun h => hn (by rw [hNe, h])
  have hen : e ≠ n := fun h => hne h.symm
  have hbn : b ≠ n := fun h => H.nb (h ▸ hnD)
  have hnb : n ≠ b := fun h => hbn h.symm
  have n3 := H.o n hnD
  have zn3 := H.zo n hnD
  have hoD := hO o hOe
  have hoe : o ≠ e := fun h => ho (by rw [hOe, h])
  have heo : e ≠ o := fun h => hoe h.symm
  have hbo : b ≠ o := fun h => H.nb (h ▸ hoD)
  have hob : o ≠ b := fun h => hbo h.symm
  have o2 := H.n o hoD
  have zo2 := H.zn o hoD
  have HH := Lib.hid H
  have HN := Lib.hid hNe
  have HO := Lib.hid hOe
  clear H hNe hOe hn ho hN hO
  generalize pt (O n) = vn at *
  generalize pt (N o) = vo at *
  have HP := Lib.hid (show ∀ x, pt x = pt x from fun _ => rfl)
  generalize pt h = vh at b2
  generalize pt t = vt at b3
  go_enter Try.func50, Try.ntmps50
  go_wp2_with fail
  have hz9 : w.drew.cell? ⟨e, 2, none⟩ = some (Value.pointer (some ⟨n, 0, none⟩)) ∧ w.drew.cell? ⟨e, 3, none⟩ = some (Value.pointer (some ⟨o, 0, none⟩)) := ⟨c2, c3⟩
  refine Rk.begin (S := fun wS => wS.cell? ⟨e, 2, none⟩ = some (Value.pointer (some ⟨n, 0, none⟩)) ∧ wS.cell? ⟨e, 3, none⟩ = some (Value.pointer (some ⟨o, 0, none⟩))) 10 (by kernel_rfl) hz9 (fun hHeld => ?_)
  refine Rk.takeP (i := 0) (v := ?_) rfl (by kernel_rfl) (by kernel_rfl) (by kernel_rfl) (by kernel_rfl) (fun _ _ _ h => h) (Or.inl ⟨by kernel_rfl, ?_⟩) (by assumption) ?_
  rotate_left
  · ((intro w hSw; go_simp) <;> with_reducible rfl)
  try simp only [Act.put, List.setIfInBounds_toArray, List.set_cons_zero, List.set_cons_succ]
  refine Rk.takeP (i := 1) (v := ?_) rfl (by kernel_rfl) (by kernel_rfl) (by kernel_rfl) (by kernel_rfl) (fun _ _ _ h => h) (Or.inl ⟨by kernel_rfl, ?_⟩) (by assumption) ?_
  rotate_left
  · ((intro w hSw; go_simp) <;> with_reducible rfl)
  try simp only [Act.put, List.setIfInBounds_toArray, List.set_cons_zero, List.set_cons_succ]
  refine Rk.takeP (i := 2) (v := ?_) rfl (by kernel_rfl) (by kernel_rfl) (by kernel_rfl) (by kernel_rfl) (fun _ _ _ h => h) (Or.inl ⟨by kernel_rfl, ?_⟩) (by assumption) ?_
  rotate_left
  · ((intro w hSw; go_simp) <;> with_reducible rfl)
  try simp only [Act.put, List.setIfInBounds_toArray, List.set_cons_zero, List.set_cons_succ]
  refine Rk.take [10] (i := 3) (v := ?_) rfl (by kernel_rfl) (by kernel_rfl) (by kernel_rfl) (by kernel_rfl) (by kernel_rfl) (fun _ _ _ h => h) (Or.inl ⟨by kernel_rfl, ?_⟩) (by assumption) ?_
  rotate_left
  · ((intro w hSw; (try dsimp only at hSw); go_simp) <;> with_reducible rfl)
  try simp only [Act.put, List.setIfInBounds_toArray, List.set_cons_zero, List.set_cons_succ]
  refine Rk.takeP (i := 4) (v := ?_) rfl (by kernel_rfl) (by kernel_rfl) (by kernel_rfl) (by kernel_rfl) (fun _ _ _ h => h) (Or.inl ⟨by kernel_rfl, ?_⟩) (by assumption) ?_
  rotate_left
  · ((intro w hSw; go_simp) <;> with_reducible rfl)
  try simp only [Act.put, List.setIfInBounds_toArray, List.set_cons_zero, List.set_cons_succ]
  refine Rk.takeP (i := 5) (v := ?_) rfl (by kernel_rfl) (by kernel_rfl) (by kernel_rfl) (by kernel_rfl) (fun _ _ _ h => h) (Or.inl ⟨by kernel_rfl, ?_⟩) (by assumption) ?_
  rotate_left
  · ((intro w hSw; go_simp) <;> with_reducible rfl)
  try simp only [Act.put, List.setIfInBounds_toArray, List.set_cons_zero, List.set_cons_succ]
  refine Rk.takeP (i := 6) (v := ?_) rfl (by kernel_rfl) (by kernel_rfl) (by kernel_rfl) (by kernel_rfl) (fun _ _ _ h => h) (Or.inl ⟨by kernel_rfl, ?_⟩) (by assumption) ?_
  rotate_left
  · ((intro w hSw; go_simp) <;> with_reducible rfl)
  try simp only [Act.put, List.setIfInBounds_toArray, List.set_cons_zero, List.set_cons_succ]
  refine Rk.take [10] (i := 7) (v := ?_) rfl (by kernel_rfl) (by kernel_rfl) (by kernel_rfl) (by kernel_rfl) (by kernel_rfl) (fun _ _ _ h => h) (Or.inl ⟨by kernel_rfl, ?_⟩) (by assumption) ?_
  rotate_left
  · ((intro w hSw; (try dsimp only at hSw); go_simp) <;> with_reducible rfl)
  try simp only [Act.put, List.setIfInBounds_toArray, List.set_cons_zero, List.set_cons_succ]
  refine Rk.takeP (i := 8) (v := ?_) rfl (by kernel_rfl) (by kernel_rfl) (by kernel_rfl) (by kernel_rfl) (fun _ _ _ h => h) (Or.inl ⟨by kernel_rfl, ?_⟩) (by assumption) ?_
  rotate_left
  · ((intro w hSw; go_simp) <;> with_reducible rfl)
  try simp only [Act.put, List.setIfInBounds_toArray, List.set_cons_zero, List.set_cons_succ]
  refine Rk.takeP (i := 9) (v := ?_) rfl (by kernel_rfl) (by kernel_rfl) (by kernel_rfl) (by kernel_rfl) (fun _ _ _ h => h) (Or.inl ⟨by kernel_rfl, ?_⟩) (by assumption) ?_
  rotate_left
  · ((intro w hSw; go_simp) <;> with_reducible rfl)
  try simp only [Act.put, List.setIfInBounds_toArray, List.set_cons_zero, List.set_cons_succ]
  refine Rk.tail [10] [_] (by kernel_rfl) (by kernel_rfl) rfl (by decide) ?_
  clear hHeld hz9
  go_wp2_with fail
  have hz8 : (w.drew.setCell ⟨n, 3, none⟩ (Value.pointer (some ⟨o, 0, none⟩))).drew.cell? ⟨e, 2, none⟩ = some (Value.pointer (some ⟨n, 0, none⟩)) ∧ (w.drew.setCell ⟨n, 3, none⟩ (Value.pointer (some ⟨o, 0, none⟩))).drew.cell? ⟨e, 3, none⟩ = some (Value.pointer (some ⟨o, 0, none⟩)) := by constructor <;> go_cell
  refine Rk.begin (S := fun wS => wS.cell? ⟨e, 2, none⟩ = some (Value.pointer (some ⟨n, 0, none⟩)) ∧ wS.cell? ⟨e, 3, none⟩ = some (Value.pointer (some ⟨o, 0, none⟩))) 10 (by kernel_rfl) hz8 (fun hHeld => ?_)
  refine Rk.takeP (i := 0) (v := ?_) rfl (by kernel_rfl) (by kernel_rfl) (by kernel_rfl) (by kernel_rfl) (fun _ _ _ h => h) (Or.inl ⟨by kernel_rfl, ?_⟩) (by assumption) ?_
  rotate_left
  · ((intro w hSw; go_simp) <;> with_reducible rfl)
  try simp only [Act.put, List.setIfInBounds_toArray, List.set_cons_zero, List.set_cons_succ]
  refine Rk.takeP (i := 1) (v := ?_) rfl (by kernel_rfl) (by kernel_rfl) (by kernel_rfl) (by kernel_rfl) (fun _ _ _ h => h) (Or.inl ⟨by kernel_rfl, ?_⟩) (by assumption) ?_
  rotate_left
  · ((intro w hSw; go_simp) <;> with_reducible rfl)
  try simp only [Act.put, List.setIfInBounds_toArray, List.set_cons_zero, List.set_cons_succ]
  refine Rk.takeP (i := 2) (v := ?_) rfl (by kernel_rfl) (by kernel_rfl) (by kernel_rfl) (by kernel_rfl) (fun _ _ _ h => h) (Or.inl ⟨by kernel_rfl, ?_⟩) (by assumption) ?_
  rotate_left
  · ((intro w hSw; go_simp) <;> with_reducible rfl)
  try simp only [Act.put, List.setIfInBounds_toArray, List.set_cons_zero, List.set_cons_succ]
  refine Rk.take [10] (i := 3) (v := ?_) rfl (by kernel_rfl) (by kernel_rfl) (by kernel_rfl) (by kernel_rfl) (by kernel_rfl) (fun _ _ _ h => h) (Or.inl ⟨by kernel_rfl, ?_⟩) (by assumption) ?_
  rotate_left
  · ((intro w hSw; (try dsimp only at hSw); go_simp) <;> with_reducible rfl)
  try simp only [Act.put, List.setIfInBounds_toArray, List.set_cons_zero, List.set_cons_succ]
  refine Rk.takeP (i := 4) (v := ?_) rfl (by kernel_rfl) (by kernel_rfl) (by kernel_rfl) (by kernel_rfl) (fun _ _ _ h => h) (Or.inl ⟨by kernel_rfl, ?_⟩) (by assumption) ?_
  rotate_left
  · ((intro w hSw; go_simp) <;> with_reducible rfl)
  try simp only [Act.put, List.setIfInBounds_toArray, List.set_cons_zero, List.set_cons_succ]
  refine Rk.takeP (i := 5) (v := ?_) rfl (by kernel_rfl) (by kernel_rfl) (by kernel_rfl) (by kernel_rfl) (fun _ _ _ h => h) (Or.inl ⟨by kernel_rfl, ?_⟩) (by assumption) ?_
  rotate_left
  · ((intro w hSw; go_simp) <;> with_reducible rfl)
  try simp only [Act.put, List.setIfInBounds_toArray, List.set_cons_zero, List.set_cons_succ]
  refine Rk.takeP (i := 6) (v := ?_) rfl (by kernel_rfl) (by kernel_rfl) (by kernel_rfl) (by kernel_rfl) (fun _ _ _ h => h) (Or.inl ⟨by kernel_rfl, ?_⟩) (by assumption) ?_
  rotate_left
  · ((intro w hSw; go_simp) <;> with_reducible rfl)
  try simp only [Act.put, List.setIfInBounds_toArray, List.set_cons_zero, List.set_cons_succ]
  refine Rk.take [10] (i := 7) (v := ?_) rfl (by kernel_rfl) (by kernel_rfl) (by kernel_rfl) (by kernel_rfl) (by kernel_rfl) (fun _ _ _ h => h) (Or.inl ⟨by kernel_rfl, ?_⟩) (by assumption) ?_
  rotate_left
  · ((intro w hSw; (try dsimp only at hSw); go_simp) <;> with_reducible rfl)
  try simp only [Act.put, List.setIfInBounds_toArray, List.set_cons_zero, List.set_cons_succ]
  refine Rk.takeP (i := 8) (v := ?_) rfl (by kernel_rfl) (by kernel_rfl) (by kernel_rfl) (by kernel_rfl) (fun _ _ _ h => h) (Or.inl ⟨by kernel_rfl, ?_⟩) (by assumption) ?_
  rotate_left
  · ((intro w hSw; go_simp) <;> with_reducible rfl)
  try simp only [Act.put, List.setIfInBounds_toArray, List.set_cons_zero, List.set_cons_succ]
  refine Rk.takeP (i := 9) (v := ?_) rfl (by kernel_rfl) (by kernel_rfl) (by kernel_rfl) (by kernel_rfl) (fun _ _ _ h => h) (Or.inl ⟨by kernel_rfl, ?_⟩) (by assumption) ?_
  rotate_left
  · ((intro w hSw; go_simp) <;> with_reducible rfl)
  try simp only [Act.put, List.setIfInBounds_toArray, List.set_cons_zero, List.set_cons_succ]
  refine Rk.tail [10] [_] (by kernel_rfl) (by kernel_rfl) rfl (by decide) ?_
  clear hHeld hz8
  go_wp2_with fail
  go_end0
  refine ⟨rfl, _, _, _, _, (((((HH.out).drew.setO hnD (some o)).drew.setN hoD (some n)).setN he none).setO he none), ⟨fun x => ?_, fun x => ?_, ?_, ?_⟩, (((((Fr.refl b D w).drew.setD HH.out.nb hnD (.inr rfl) _).drew.setD HH.out.nb hoD (.inl rfl) _).setD HH.out.nb he (.inl rfl) _).setD HH.out.nb he (.inr rfl) _)⟩
  · rw [HO.out, HN.out]; unfold upd; by_cases h1 : x = e <;> simp [h1, eq_comm]
  · rw [HO.out, HN.out]; unfold upd; by_cases h1 : x = e <;> simp [h1, eq_comm]
  · rw [HO.out, HN.out]; rfl
  · rw [HO.out, HN.out]; rfl
theorem unlink1 (b e : Nat) (D : List Nat) (N O : Nat → Option Nat) (h t : Option Nat) (w : World) (H : HL w b D N O h t) (he : e ∈ D) (hn : N e ≠ some e) (ho : O e ≠ some e) (hN : ∀ n, N e = some n → n ∈ D) (hO : ∀ o, O e = some o → o ∈ D) :
    Calls Try.prog 50 #[.pointer (some ⟨b, 0, none⟩), .pointer (some ⟨e, 0, none⟩)] w (UW b e D N O h t w) := by
  cases hNe : N e with
  | none => cases hOe : O e with
    | none => exact unlink_nn b e D N O h t w H he hn ho hN hO hNe hOe
    | some o => exact unlink_ns b e o D N O h t w H he hn ho hN hO hNe hOe
  | some n => cases hOe : O e with
    | none => exact unlink_sn b e n D N O h t w H he hn ho hN hO hNe hOe
    | some o => exact unlink_ss b e n o D N O h t w H he hn ho hN hO hNe hOe
set_option maxRecDepth 100000 in
set_option maxHeartbeats 8000000 in
theorem push_nn (b e : Nat) (D : List Nat) (N O : Nat → Option Nat) (w : World) (H : HL w b D N O none none) (he : e ∈ D) (hne : none ≠ some e) (hh : ∀ z, none = some z → z ∈ D) :
    Calls Try.prog 51 #[.pointer (some ⟨b, 0, none⟩), .pointer (some ⟨e, 0, none⟩)] w (PW b e D N O none none w) := by
  have hme : e ≠ b := fun h => H.nb (h ▸ he)
  have hem : b ≠ e := fun h => hme h.symm
  have c2 := H.n e he
  have c3 := H.o e he
  have z2 := H.zn e he
  have z3 := H.zo e he
  have b2 := H.ch
  have b3 := H.ct
  have y2 := H.zh
  have y3 := H.zt
  simp only [pt] at b2 b3
  have HH := Lib.hid H
  clear H hh hne
  generalize pt (N e) = v1 at *
  generalize pt (O e) = v2 at *
  go_enter Try.func51, Try.ntmps51
  go_wp2
  go_end0
  refine ⟨rfl, _, _, _, _, (((HH.out.setO he (none)).setH (some e)).setT (some e)), ⟨fun x => ?_, fun x => ?_, rfl, rfl⟩, ((((Fr.refl b D w).setD HH.out.nb he (.inr rfl) _).setB HH.out.nb (.inl rfl) _).setB HH.out.nb (.inr rfl) _)⟩
  · simp
  · unfold upd; rfl
set_option maxRecDepth 100000 in
set_option maxHeartbeats 8000000 in
theorem push_ns (b e : Nat) (y : Nat) (D : List Nat) (N O : Nat → Option Nat) (w : World) (H : HL w b D N O none (some y)) (he : e ∈ D) (hne : none ≠ some e) (hh : ∀ z, none = some z → z ∈ D) :
    Calls Try.prog 51 #[.pointer (some ⟨b, 0, none⟩), .pointer (some ⟨e, 0, none⟩)] w (PW b e D N O none (some y) w) := by
  have hme : e ≠ b := fun h => H.nb (h ▸ he)
  have hem : b ≠ e := fun h => hme h.symm
  have c2 := H.n e he
  have c3 := H.o e he
  have z2 := H.zn e he
  have z3 := H.zo e he
  have b2 := H.ch
  have b3 := H.ct
  have y2 := H.zh
  have y3 := H.zt
  simp only [pt] at b2 b3
  have HH := Lib.hid H
  clear H hh hne
  generalize pt (N e) = v1 at *
  generalize pt (O e) = v2 at *
  go_enter Try.func51, Try.ntmps51
  go_wp2
  go_end0
  refine ⟨rfl, _, _, _, _, ((HH.out.setO he (none)).setH (some e)), ⟨fun x => ?_, fun x => ?_, rfl, rfl⟩, (((Fr.refl b D w).setD HH.out.nb he (.inr rfl) _).setB HH.out.nb (.inl rfl) _)⟩
  · simp
  · unfold upd; rfl
set_option maxRecDepth 100000 in
set_option maxHeartbeats 8000000 in
theorem push_sn (b e : Nat) (x : Nat) (D : List Nat) (N O : Nat → Option Nat) (w : World) (H : HL w b D N O (some x) none) (he : e ∈ D) (hne : (some x) ≠ some e) (hh : ∀ z, (some x) = some z → z ∈ D) :
    Calls Try.prog 51 #[.pointer (some ⟨b, 0, none⟩), .pointer (some ⟨e, 0, none⟩)] w (PW b e D N O (some x) none w) := by
  have hme : e ≠ b := fun h => H.nb (h ▸ he)
  have hem : b ≠ e := fun h => hme h.symm
  have c2 := H.n e he
  have c3 := H.o e he
  have z2 := H.zn e he
  have z3 := H.zo e he
  have b2 := H.ch
  have b3 := H.ct
  have y2 := H.zh
  have y3 := H.zt
  simp only [pt] at b2 b3
  have hxD := hh x rfl
  have hxe : x ≠ e := fun h => hne (by rw [h])
  have hex : e ≠ x := fun h => hxe h.symm
  have hbx : b ≠ x := fun h => H.nb (h ▸ hxD)
  have hxb : x ≠ b := fun h => hbx h.symm
  have x2 := H.n x hxD
  have zx2 := H.zn x hxD
  have HH := Lib.hid H
  clear H hh hne
  generalize pt (N e) = v1 at *
  generalize pt (O e) = v2 at *
  generalize pt (N x) = v3 at *
  go_enter Try.func51, Try.ntmps51
  go_wp2
  go_end0
  refine ⟨rfl, _, _, _, _, ((((HH.out.setO he (some x)).setN hxD (some e)).setH (some e)).setT (some e)), ⟨fun x => ?_, fun x => ?_, rfl, rfl⟩, (((((Fr.refl b D w).setD HH.out.nb he (.inr rfl) _).setD HH.out.nb hxD (.inl rfl) _).setB HH.out.nb (.inl rfl) _).setB HH.out.nb (.inr rfl) _)⟩
  · unfold upd; simp [eq_comm]
  · unfold upd; rfl
set_option maxRecDepth 100000 in
set_option maxHeartbeats 8000000 in
theorem push_ss (b e : Nat) (x : Nat) (y : Nat) (D : List Nat) (N O : Nat → Option Nat) (w : World) (H : HL w b D N O (some x) (some y)) (he : e ∈ D) (hne : (some x) ≠ some e) (hh : ∀ z, (some x) = some z → z ∈ D) :
    Calls Try.prog 51 #[.pointer (some ⟨b, 0, none⟩), .pointer (some ⟨e, 0, none⟩)] w (PW b e D N O (some x) (some y) w) := by
  have hme : e ≠ b := fun h => H.nb (h ▸ he)
  have hem : b ≠ e := fun h => hme h.symm
  have c2 := H.n e he
  have c3 := H.o e he
  have z2 := H.zn e he
  have z3 := H.zo e he
  have b2 := H.ch
  have b3 := H.ct
  have y2 := H.zh
  have y3 := H.zt
  simp only [pt] at b2 b3
  have hxD := hh x rfl
  have hxe : x ≠ e := fun h => hne (by rw [h])
  have hex : e ≠ x := fun h => hxe h.symm
  have hbx : b ≠ x := fun h => H.nb (h ▸ hxD)
  have hxb : x ≠ b := fun h => hbx h.symm
  have x2 := H.n x hxD
  have zx2 := H.zn x hxD
  have HH := Lib.hid H
  clear H hh hne
  generalize pt (N e) = v1 at *
  generalize pt (O e) = v2 at *
  generalize pt (N x) = v3 at *
  go_enter Try.func51, Try.ntmps51
  go_wp2
  go_end0
  refine ⟨rfl, _, _, _, _, (((HH.out.setO he (some x)).setN hxD (some e)).setH (some e)), ⟨fun x => ?_, fun x => ?_, rfl, rfl⟩, ((((Fr.refl b D w).setD HH.out.nb he (.inr rfl) _).setD HH.out.nb hxD (.inl rfl) _).setB HH.out.nb (.inl rfl) _)⟩
  · unfold upd; simp [eq_comm]
  · unfold upd; rfl
theorem push1 (b e : Nat) (D : List Nat) (N O : Nat → Option Nat) (h t : Option Nat) (w : World) (H : HL w b D N O h t) (he : e ∈ D) (hne : h ≠ some e) (hh : ∀ z, h = some z → z ∈ D) :
    Calls Try.prog 51 #[.pointer (some ⟨b, 0, none⟩), .pointer (some ⟨e, 0, none⟩)] w (PW b e D N O h t w) := by
  cases h with
  | none => cases t with
    | none => exact push_nn b e D N O w H he hne hh
    | some y => exact push_ns b e y D N O w H he hne hh
  | some x => cases t with
    | none => exact push_sn b e x D N O w H he hne hh
    | some y => exact push_ss b e x y D N O w H he hne hh
end Go.Proofs.Ytlmbjipcdhenlaa.Ci
