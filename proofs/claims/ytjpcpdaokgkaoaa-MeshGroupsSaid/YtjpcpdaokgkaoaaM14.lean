/- The statement on coordinates: its walk. -/
import Derived.Test.YtjpcpdaokgkaoaaM13
import Derived.Test.YtjpcpdaokgkaoaaReg
namespace Go.Proofs.Ytjpcpdaokgkaoaa.Sh
open Go.ChangeShapes Go.WideShapes Go.ChangeAt Go.RowKit
set_option linter.unusedVariables false

/-- What the law holds on to: the argument's own block. -/
def KW (v : Value) (w wr : World) : Prop := Below w.heap.size w wr ∧ w.heap.size < wr.heap.size ∧ wr.cell? ⟨w.heap.size, 0, none⟩ = some v
theorem KW.keep {v : Value} {w wr w' : World} (h : KW v w wr) (hb : Below wr.heap.size wr w') : KW v w w' :=
  ⟨h.1.trans (hb.mono h.1.size), Nat.lt_of_lt_of_le h.2.1 hb.size, Rg.keep' hb h.2.1 h.2.2⟩
theorem KW.mk (v : Value) (T : TypeId) (w : World) : KW v w (w.alloc (Obj.cells #[v] T)) := ⟨(Below.refl _ _).alloc (Nat.le_refl _) _, by simp, by go_cell⟩
theorem cL_len {zs : List Int} {a : Int} (h : zs.length ≤ maxLen) : (cL zs a).length ≤ maxLen := by
  unfold cL pL
  split
  · split
    · rw [pt_length]; exact h
    · simp
  · simp
set_option maxHeartbeats 4000000 in
theorem law9_long (p : Option Addr) (zs : List Int) (c : Nat) (a0 : Int) (q : Option Addr) (xs : List Int) (d : Nat) (w : World) (hn : zs.length ≤ maxLen) (hm : xs.length ≤ maxLen) (h : 20 < zs.length ∨ 20 < xs.length) :
    Calls Try.prog 9 #[.agg #[.slice p zs.length c], .int .i64 a0, .slice q xs.length d] w (Ret (.bool true) w) := by
  have EX := Lib.hid ex51
  unfold maxLen at hn hm
  by_cases h1 : 20 < zs.length
  · have l1 : decide ((20 : Int) < zs.length) = true := decide_eq_true (by omega)
    have l2 : decide (20 < zs.length) = true := decide_eq_true (by omega)
    clear h
    go_enter Try.func9, Try.ntmps9
    go_wp2_with (go_at_call 32; refine (EX.out _).mono ?_; rintro e w1 ⟨rfl, hb⟩)
    go_ret
    exact ⟨rfl, ((Below.refl _ _).alloc (Nat.le_refl _) _).trans (hb.mono (by simp))⟩
  · have l1 : decide ((20 : Int) < zs.length) = false := decide_eq_false (by omega)
    have l2 : decide (20 < zs.length) = false := decide_eq_false (by omega)
    have l3 : decide ((20 : Int) < xs.length) = true := decide_eq_true (by omega)
    have l4 : decide (20 < xs.length) = true := decide_eq_true (by omega)
    clear h
    go_enter Try.func9, Try.ntmps9
    go_wp2_with (go_at_call 32; refine (EX.out _).mono ?_; rintro e w1 ⟨rfl, hb⟩)
    go_ret
    exact ⟨rfl, ((Below.refl _ _).alloc (Nat.le_refl _) _).trans (hb.mono (by simp))⟩
set_option maxHeartbeats 16000000 in
theorem law9_ok (p : Option Addr) (zs : List Int) (c : Nat) (a0 : Int) (q : Option Addr) (xs : List Int) (d : Nat) (w : World) (RA : Hid (SlI w p zs)) (RB : Hid (SlI w q xs)) (h1 : zs.length ≤ 20) (h2 : xs.length ≤ 20) :
    Calls Try.prog 9 #[.agg #[.slice p zs.length c], .int .i64 a0, .slice q xs.length d] w (Ret (.bool true) w) := by
  have EX := Lib.hid ex51
  have hn : zs.length ≤ maxLen := by unfold maxLen; omega
  have hm : xs.length ≤ maxLen := by unfold maxLen; omega
  have l1 : decide ((20 : Int) < zs.length) = false := decide_eq_false (by omega)
  have l2 : decide (20 < zs.length) = false := decide_eq_false (by omega)
  have l3 : decide ((20 : Int) < xs.length) = false := decide_eq_false (by omega)
  have l4 : decide (20 < xs.length) = false := decide_eq_false (by omega)
  have C33 := Lib.hid fun (y : World) (h : Below w.heap.size w y) => c33 p zs c a0 y hn (Lib.hid (SlI.keep h RA.out))
  have C34 := Lib.hid fun (y : World) (h : Below w.heap.size w y) => c34 p zs c a0 y hn (Lib.hid (SlI.keep h RA.out))
  have C35 := Lib.hid fun (y : World) (h : Below w.heap.size w y) => c35 p q zs xs c d y hn hm (Lib.hid (SlI.keep h RA.out)) (Lib.hid (SlI.keep h RB.out))
  have C36 := Lib.hid fun (y : World) (h : Below w.heap.size w y) => c36 p q zs xs c d y hn hm (Lib.hid (SlI.keep h RA.out)) (Lib.hid (SlI.keep h RB.out))
  have D37 := Lib.hid fun (y : World) (h : Below w.heap.size w y) => c37 p zs c y hn (Lib.hid (SlI.keep h RA.out))
  have D38 := Lib.hid fun (y : World) (h : Below w.heap.size w y) => c38 p zs c y hn (Lib.hid (SlI.keep h RA.out))
  have D39 := Lib.hid fun (y : World) (h : Below w.heap.size w y) => c39 p zs c y hn (Lib.hid (SlI.keep h RA.out))
  have D40 := Lib.hid fun (y : World) (h : Below w.heap.size w y) => c40 p zs c y hn (Lib.hid (SlI.keep h RA.out))
  have HL := Lib.hid (cL_len (a := a0) hn)
  generalize cL zs a0 = L at C33 C34 HL
  generalize cB zs a0 = B at C33 C34
  generalize dA zs xs = A at C35 C36
  generalize mV zs = V at D37 D38
  generalize dv zs = D at D39 D40
  unfold DV oE at C35 C36
  generalize A.getD 0 = r at C35 C36
  generalize A.isSome = rb at C35 C36
  generalize zs.length = n at *
  generalize xs.length = m at *
  have E1 := fun (b : Bool) (w : World) => (by cases b <;> rfl : (binOp .eql 4 (.bool b) (.bool b)).run Try.prog w = .ok (.bool true) w)
  have K0 := KW.mk (.slice p n c) 41 w
  cases B
  all_goals
    cases rb
    all_goals
    go_enter Try.func9, Try.ntmps9
    go_wp2_with fail
    refine (C33.out _ K0.1).mono ?_
    rintro e w1 ⟨v1, rfl, hb, ho⟩
    obtain ⟨q1, d1, rfl, _, _, S1⟩ := own_SlI ho
    have K1 := K0.keep hb
    have hx1 := K1.2.2
    clear hb ho C33
    go_wp2_with fail
    refine (C34.out _ K1.1).mono ?_
    rintro e w2 ⟨v2, rfl, hb, ho⟩
    obtain ⟨q2, d2, rfl, _, _, S2⟩ := own_SlI ho
    have K2 := K1.keep hb
    have hx2 := K2.2.2
    have T1 := Lib.hid (SlI.keep hb S1.out)
    clear hb ho C34 hx1 K1 S1
    go_wp2_with fail
    refine (C35.out _ K2.1).mono ?_
    rintro e w3 ⟨rfl, hb⟩
    have K3 := K2.keep hb
    have hx3 := K3.2.2
    have U1 := Lib.hid (SlI.keep hb T1.out)
    have U2 := Lib.hid (SlI.keep hb S2.out)
    clear hb C35 hx2 K2 T1 S2
    go_wp2_with fail
    refine (C36.out _ K3.1).mono ?_
    rintro e z ⟨rfl, hb⟩
    have K4 := K3.keep hb
    have hx4 := K4.2.2
    have X1 := Lib.hid (SlI.keep hb U1.out)
    have X2 := Lib.hid (SlI.keep hb U2.out)
    clear hb C36 hx3 K3 U1 U2 K0
    have hlt := K4.2.1
    have KZ := K4.1
    clear K4
    have C37 := Lib.hid fun (y : World) (h : Below z.heap.size z y) => D37.out y (KZ.trans (h.mono KZ.size))
    have C38 := Lib.hid fun (y : World) (h : Below z.heap.size z y) => D38.out y (KZ.trans (h.mono KZ.size))
    have C39 := Lib.hid fun (y : World) (h : Below z.heap.size z y) => D39.out y (KZ.trans (h.mono KZ.size))
    have C40 := Lib.hid fun (y : World) (h : Below z.heap.size z y) => D40.out y (KZ.trans (h.mono KZ.size))
    have C18 := Lib.hid fun (y : World) (h : Below z.heap.size z y) => c18 q1 q2 L L d1 d2 y HL.out HL.out (Lib.hid (SlI.keep h X1.out)) (Lib.hid (SlI.keep h X2.out))
    rw [decide_eq_true rfl] at C18
    clear D37 D38 D39 D40 X1 X2 HL
    generalize L.length = ll at *
    have hz : z.cell? ⟨w.heap.size, 0, none⟩ = some (.slice p n c) ∧ z.heap.size ≤ z.heap.size ∧ Below z.heap.size z z := ⟨hx4, Nat.le_refl _, Below.refl _ _⟩
    clear hx4
    go_wp2_with fail
    have HS : Hid (∀ u u' : World, (u.cell? ⟨w.heap.size, 0, none⟩ = some (.slice p n c) ∧ z.heap.size ≤ u.heap.size ∧ Below z.heap.size z u) → Below u.heap.size u u' → (u'.cell? ⟨w.heap.size, 0, none⟩ = some (.slice p n c) ∧ z.heap.size ≤ u'.heap.size ∧ Below z.heap.size z u')) := Lib.hid (fun u u' h hb => ⟨Rg.keep hb (Nat.lt_of_lt_of_le hlt h.2.1) h.1, Nat.le_trans h.2.1 hb.size, h.2.2.trans (hb.mono h.2.2.size)⟩)
    refine wp_region_held_drew (S := fun w' => w'.cell? ⟨w.heap.size, 0, none⟩ = some (.slice p n c) ∧ z.heap.size ≤ w'.heap.size ∧ Below z.heap.size z w') (by kernel_rfl) (HS.out _ _ hz (Below.drew (Below.refl _ _))) (fun hHeld => ?_)
    refine Rg.take (i := 0) (v := ?_) rfl (by kernel_rfl) (by kernel_rfl) (by kernel_rfl) (fun _ _ _ h => h) (Or.inl ⟨by kernel_rfl, ?_⟩) (by assumption) ?_
    rotate_left
    · ((intro w hSw; (try dsimp only at hSw); go_simp) <;> with_reducible rfl)
    try simp only [Act.put, List.setIfInBounds_toArray, List.set_cons_zero, List.set_cons_succ]
    refine Rg.take (i := 2) (v := ?_) rfl (by kernel_rfl) (by kernel_rfl) (by kernel_rfl) (fun _ _ _ h => h) (Or.inl ⟨by kernel_rfl, ?_⟩) (by assumption) ?_
    rotate_left
    · ((intro w hSw; (try dsimp only at hSw); go_simp) <;> with_reducible rfl)
    try simp only [Act.put, List.setIfInBounds_toArray, List.set_cons_zero, List.set_cons_succ]
    refine Rg.one (i := 1) (by kernel_rfl) rfl (fun KK hK => ?_)
    rw [if_pos (by kernel_rfl)]
    go_simp
    ((with_reducible refine (C37.out _ hHeld.2.2).mono ?_); rintro e u ⟨rfl, hb⟩)
    have hNew := HS.out _ _ hHeld hb
    first | (refine hK.out _ _ hNew (fun _ => ?_)) | (go_wp2_with fail; refine hK.out _ _ hNew (fun _ => ?_))
    clear hK KK hHeld hb
    have hHeld := hNew
    clear hNew
    refine Rg.one (i := 3) (by kernel_rfl) rfl (fun KK hK => ?_)
    rw [if_pos (by kernel_rfl)]
    go_simp
    ((with_reducible refine (C38.out _ hHeld.2.2).mono ?_); rintro e u ⟨rfl, hb⟩)
    have hNew := HS.out _ _ hHeld hb
    first | (refine hK.out _ _ hNew (fun _ => ?_)) | (go_wp2_with fail; refine hK.out _ _ hNew (fun _ => ?_))
    clear hK KK hHeld hb
    have hHeld := hNew
    clear hNew
    refine Rg.take (i := 4) (v := ?_) rfl (by kernel_rfl) (by kernel_rfl) (by kernel_rfl) (fun _ _ _ h => h) (Or.inl ⟨by kernel_rfl, ?_⟩) (by assumption) ?_
    rotate_left
    · ((intro w hSw; (try dsimp only at hSw); go_simp) <;> with_reducible rfl)
    try simp only [Act.put, List.setIfInBounds_toArray, List.set_cons_zero, List.set_cons_succ]
    refine Rg.take (i := 5) (v := ?_) rfl (by kernel_rfl) (by kernel_rfl) (by kernel_rfl) (fun _ _ _ h => h) (Or.inl ⟨by kernel_rfl, ?_⟩) (by assumption) ?_
    rotate_left
    · ((intro w hSw; (try dsimp only at hSw); go_simp) <;> with_reducible rfl)
    try simp only [Act.put, List.setIfInBounds_toArray, List.set_cons_zero, List.set_cons_succ]
    refine Rg.take (i := 6) (v := ?_) rfl (by kernel_rfl) (by kernel_rfl) (by kernel_rfl) (fun _ _ _ h => h) (Or.inl ⟨by kernel_rfl, ?_⟩) (by assumption) ?_
    rotate_left
    · ((intro w hSw; (try dsimp only at hSw); go_simp) <;> with_reducible rfl)
    try simp only [Act.put, List.setIfInBounds_toArray, List.set_cons_zero, List.set_cons_succ]
    refine Rg.take (i := 8) (v := ?_) rfl (by kernel_rfl) (by kernel_rfl) (by kernel_rfl) (fun _ _ _ h => h) (Or.inl ⟨by kernel_rfl, ?_⟩) (by assumption) ?_
    rotate_left
    · ((intro w hSw; (try dsimp only at hSw); go_simp) <;> with_reducible rfl)
    try simp only [Act.put, List.setIfInBounds_toArray, List.set_cons_zero, List.set_cons_succ]
    refine Rg.one (i := 7) (by kernel_rfl) rfl (fun KK hK => ?_)
    rw [if_pos (by kernel_rfl)]
    go_simp
    ((with_reducible refine (C39.out _ hHeld.2.2).mono ?_); rintro e u ⟨rfl, hb⟩)
    have hNew := HS.out _ _ hHeld hb
    first | (refine hK.out _ _ hNew (fun _ => ?_)) | (go_wp2_with fail; refine hK.out _ _ hNew (fun _ => ?_))
    clear hK KK hHeld hb
    have hHeld := hNew
    clear hNew
    refine Rg.one (i := 9) (by kernel_rfl) rfl (fun KK hK => ?_)
    rw [if_pos (by kernel_rfl)]
    go_simp
    ((with_reducible refine (C40.out _ hHeld.2.2).mono ?_); rintro e u ⟨rfl, hb⟩)
    have hNew := HS.out _ _ hHeld hb
    first | (refine hK.out _ _ hNew (fun _ => ?_)) | (go_wp2_with fail; refine hK.out _ _ hNew (fun _ => ?_))
    clear hK KK hHeld hb
    have hHeld := hNew
    clear hNew
    refine Rg.take (i := 10) (v := ?_) rfl (by kernel_rfl) (by kernel_rfl) (by kernel_rfl) (fun _ _ _ h => h) (Or.inl ⟨by kernel_rfl, ?_⟩) (by assumption) ?_
    rotate_left
    · ((intro w hSw; (try dsimp only at hSw); go_simp) <;> with_reducible rfl)
    try simp only [Act.put, List.setIfInBounds_toArray, List.set_cons_zero, List.set_cons_succ]
    refine Rg.take (i := 11) (v := ?_) rfl (by kernel_rfl) (by kernel_rfl) (by kernel_rfl) (fun _ _ _ h => h) (Or.inl ⟨by kernel_rfl, ?_⟩) (by assumption) ?_
    rotate_left
    · ((intro w hSw; (try dsimp only at hSw); go_simp) <;> with_reducible rfl)
    try simp only [Act.put, List.setIfInBounds_toArray, List.set_cons_zero, List.set_cons_succ]
    refine Rg.take (i := 12) (v := ?_) rfl (by kernel_rfl) (by kernel_rfl) (by kernel_rfl) (fun _ _ _ h => h) (Or.inl ⟨by kernel_rfl, ?_⟩) (by assumption) ?_
    rotate_left
    · ((intro w hSw; (try dsimp only at hSw); go_simp) <;> with_reducible rfl)
    try simp only [Act.put, List.setIfInBounds_toArray, List.set_cons_zero, List.set_cons_succ]
    refine Rg.take (i := 13) (v := ?_) rfl (by kernel_rfl) (by kernel_rfl) (by kernel_rfl) (fun _ _ _ h => h) (Or.inl ⟨by kernel_rfl, ?_⟩) (by assumption) ?_
    rotate_left
    · ((intro w hSw; (try dsimp only at hSw); go_simp) <;> with_reducible rfl)
    try simp only [Act.put, List.setIfInBounds_toArray, List.set_cons_zero, List.set_cons_succ]
    refine Rg.take (i := 14) (v := ?_) rfl (by kernel_rfl) (by kernel_rfl) (by kernel_rfl) (fun _ _ _ h => h) (Or.inl ⟨by kernel_rfl, ?_⟩) (by assumption) ?_
    rotate_left
    · ((intro w hSw; (try dsimp only at hSw); go_simp) <;> with_reducible rfl)
    try simp only [Act.put, List.setIfInBounds_toArray, List.set_cons_zero, List.set_cons_succ]
    refine Rg.one (i := 15) (by kernel_rfl) rfl (fun KK hK => ?_)
    rw [if_pos (by kernel_rfl)]
    go_simp
    ((with_reducible refine (C18.out _ hHeld.2.2).mono ?_); rintro e u ⟨rfl, kd, rfl⟩)
    have hNew := HS.out _ _ hHeld (below_drewN (Below.refl _ _) kd)
    first | (refine hK.out _ _ hNew (fun _ => ?_)) | (go_wp2_with fail; refine hK.out _ _ hNew (fun _ => ?_))
    clear hK KK hHeld
    have hHeld := hNew
    clear hNew
    refine Rg.take (i := 16) (v := ?_) rfl (by kernel_rfl) (by kernel_rfl) (by kernel_rfl) (fun _ _ _ h => h) (Or.inl ⟨by kernel_rfl, ?_⟩) (by assumption) ?_
    rotate_left
    · ((intro w hSw; (try dsimp only at hSw); go_simp) <;> with_reducible rfl)
    try simp only [Act.put, List.setIfInBounds_toArray, List.set_cons_zero, List.set_cons_succ]
    refine Rg.take (i := 17) (v := ?_) rfl (by kernel_rfl) (by kernel_rfl) (by kernel_rfl) (fun _ _ _ h => h) (Or.inl ⟨by kernel_rfl, ?_⟩) (by assumption) ?_
    rotate_left
    · ((intro w hSw; (try dsimp only at hSw); go_simp) <;> with_reducible rfl)
    try simp only [Act.put, List.setIfInBounds_toArray, List.set_cons_zero, List.set_cons_succ]
    refine Rg.take (i := 18) (v := ?_) rfl (by kernel_rfl) (by kernel_rfl) (by kernel_rfl) (fun _ _ _ h => h) (Or.inl ⟨by kernel_rfl, ?_⟩) (by assumption) ?_
    rotate_left
    · ((intro w hSw; (try dsimp only at hSw); go_simp) <;> with_reducible rfl)
    try simp only [Act.put, List.setIfInBounds_toArray, List.set_cons_zero, List.set_cons_succ]
    refine Rg.take (i := 19) (v := ?_) rfl (by kernel_rfl) (by kernel_rfl) (by kernel_rfl) (fun _ _ _ h => h) (Or.inl ⟨by kernel_rfl, ?_⟩) (by assumption) ?_
    rotate_left
    · ((intro w hSw; (try dsimp only at hSw); go_simp) <;> with_reducible rfl)
    try simp only [Act.put, List.setIfInBounds_toArray, List.set_cons_zero, List.set_cons_succ]
    refine Rg.take (i := 20) (v := ?_) rfl (by kernel_rfl) (by kernel_rfl) (by kernel_rfl) (fun _ _ _ h => h) (Or.inl ⟨by kernel_rfl, ?_⟩) (by assumption) ?_
    rotate_left
    · ((intro w hSw; (try dsimp only at hSw); go_simp) <;> with_reducible rfl)
    try simp only [Act.put, List.setIfInBounds_toArray, List.set_cons_zero, List.set_cons_succ]
    refine Rg.take (i := 21) (v := ?_) rfl (by kernel_rfl) (by kernel_rfl) (by kernel_rfl) (fun _ _ _ h => h) (Or.inl ⟨by kernel_rfl, ?_⟩) (by assumption) ?_
    rotate_left
    · ((intro w hSw; (try dsimp only at hSw); go_simp) <;> with_reducible rfl)
    try simp only [Act.put, List.setIfInBounds_toArray, List.set_cons_zero, List.set_cons_succ]
    refine Rg.take (i := 22) (v := ?_) rfl (by kernel_rfl) (by kernel_rfl) (by kernel_rfl) (fun _ _ _ h => h) (Or.inl ⟨by kernel_rfl, ?_⟩) (by assumption) ?_
    rotate_left
    · ((intro w hSw; (try dsimp only at hSw); go_simp) <;> with_reducible rfl)
    try simp only [Act.put, List.setIfInBounds_toArray, List.set_cons_zero, List.set_cons_succ]
    refine Rg.take (i := 23) (v := ?_) rfl (by kernel_rfl) (by kernel_rfl) (by kernel_rfl) (fun _ _ _ h => h) (Or.inl ⟨by kernel_rfl, ?_⟩) (by assumption) ?_
    rotate_left
    · ((intro w hSw; (try dsimp only at hSw); go_simp) <;> with_reducible rfl)
    try simp only [Act.put, List.setIfInBounds_toArray, List.set_cons_zero, List.set_cons_succ]
    refine Rg.take (i := 24) (v := ?_) rfl (by kernel_rfl) (by kernel_rfl) (by kernel_rfl) (fun _ _ _ h => h) (Or.inl ⟨by kernel_rfl, ?_⟩) (by assumption) ?_
    rotate_left
    · ((intro w hSw; (try dsimp only at hSw); go_simp) <;> with_reducible rfl)
    try simp only [Act.put, List.setIfInBounds_toArray, List.set_cons_zero, List.set_cons_succ]
    refine Rg.take (i := 25) (v := ?_) rfl (by kernel_rfl) (by kernel_rfl) (by kernel_rfl) (fun _ _ _ h => h) (Or.inl ⟨by kernel_rfl, ?_⟩) (by assumption) ?_
    rotate_left
    · ((intro w hSw; (try dsimp only at hSw); go_simp) <;> with_reducible rfl)
    try simp only [Act.put, List.setIfInBounds_toArray, List.set_cons_zero, List.set_cons_succ]
    refine Rg.take (i := 26) (v := ?_) rfl (by kernel_rfl) (by kernel_rfl) (by kernel_rfl) (fun _ _ _ h => h) (Or.inl ⟨by kernel_rfl, ?_⟩) (by assumption) ?_
    rotate_left
    · ((intro w hSw; (try dsimp only at hSw); go_simp) <;> with_reducible rfl)
    try simp only [Act.put, List.setIfInBounds_toArray, List.set_cons_zero, List.set_cons_succ]
    refine Rg.take (i := 27) (v := ?_) rfl (by kernel_rfl) (by kernel_rfl) (by kernel_rfl) (fun _ _ _ h => h) (Or.inl ⟨by kernel_rfl, ?_⟩) (by assumption) ?_
    rotate_left
    · ((intro w hSw; (try dsimp only at hSw); go_simp) <;> with_reducible rfl)
    try simp only [Act.put, List.setIfInBounds_toArray, List.set_cons_zero, List.set_cons_succ]
    refine Rg.take (i := 28) (v := ?_) rfl (by kernel_rfl) (by kernel_rfl) (by kernel_rfl) (fun _ _ _ h => h) (Or.inl ⟨by kernel_rfl, ?_⟩) (by assumption) ?_
    rotate_left
    · ((intro w hSw; (try dsimp only at hSw); go_simp) <;> with_reducible rfl)
    try simp only [Act.put, List.setIfInBounds_toArray, List.set_cons_zero, List.set_cons_succ]
    refine Rg.take (i := 29) (v := ?_) rfl (by kernel_rfl) (by kernel_rfl) (by kernel_rfl) (fun _ _ _ h => h) (Or.inl ⟨by kernel_rfl, ?_⟩) (by assumption) ?_
    rotate_left
    · ((intro w hSw; (try dsimp only at hSw); go_simp) <;> with_reducible rfl)
    try simp only [Act.put, List.setIfInBounds_toArray, List.set_cons_zero, List.set_cons_succ]
    refine Rg.take (i := 30) (v := ?_) rfl (by kernel_rfl) (by kernel_rfl) (by kernel_rfl) (fun _ _ _ h => h) (Or.inl ⟨by kernel_rfl, ?_⟩) (by assumption) ?_
    rotate_left
    · ((intro w hSw; (try dsimp only at hSw); go_simp) <;> with_reducible rfl)
    try simp only [Act.put, List.setIfInBounds_toArray, List.set_cons_zero, List.set_cons_succ]
    refine Rg.take (i := 31) (v := ?_) rfl (by kernel_rfl) (by kernel_rfl) (by kernel_rfl) (fun _ _ _ h => h) (Or.inl ⟨by kernel_rfl, ?_⟩) (by assumption) ?_
    rotate_left
    · ((intro w hSw; (try dsimp only at hSw); go_simp) <;> with_reducible rfl)
    try simp only [Act.put, List.setIfInBounds_toArray, List.set_cons_zero, List.set_cons_succ]
    refine Rg.take (i := 32) (v := ?_) rfl (by kernel_rfl) (by kernel_rfl) (by kernel_rfl) (fun _ _ _ h => h) (Or.inl ⟨by kernel_rfl, ?_⟩) (by assumption) ?_
    rotate_left
    · ((intro w hSw; (try dsimp only at hSw); go_simp) <;> with_reducible rfl)
    try simp only [Act.put, List.setIfInBounds_toArray, List.set_cons_zero, List.set_cons_succ]
    refine Rg.one (i := 33) (by kernel_rfl) rfl (fun KK hK => ?_)
    rw [if_pos (by kernel_rfl)]
    go_simp
    ((with_reducible refine (EX.out _).mono ?_); rintro e u ⟨rfl, hb⟩)
    have hNew := HS.out _ _ hHeld hb
    first | (refine hK.out _ _ hNew (fun _ => ?_)) | (go_wp2_with fail; refine hK.out _ _ hNew (fun _ => ?_))
    clear hK KK hHeld hb
    have hHeld := hNew
    clear hNew
    refine Rg.take (i := 34) (v := ?_) rfl (by kernel_rfl) (by kernel_rfl) (by kernel_rfl) (fun _ _ _ h => h) (Or.inl ⟨by kernel_rfl, ?_⟩) (by assumption) ?_
    rotate_left
    · ((intro w hSw; (try dsimp only at hSw); go_simp) <;> with_reducible rfl)
    try simp only [Act.put, List.setIfInBounds_toArray, List.set_cons_zero, List.set_cons_succ]
    refine Rg.take (i := 35) (v := ?_) rfl (by kernel_rfl) (by kernel_rfl) (by kernel_rfl) (fun _ _ _ h => h) (Or.inl ⟨by kernel_rfl, ?_⟩) (by assumption) ?_
    rotate_left
    · ((intro w hSw; (try dsimp only at hSw); go_simp) <;> with_reducible rfl)
    try simp only [Act.put, List.setIfInBounds_toArray, List.set_cons_zero, List.set_cons_succ]
    refine wpAnyH_done (by kernel_rfl) ?_ _
    go_wp2
    go_ret
    exact ⟨rfl, KZ.trans (hHeld.2.2.mono KZ.size)⟩
theorem law9 (p : Option Addr) (zs : List Int) (c : Nat) (a0 : Int) (q : Option Addr) (xs : List Int) (d : Nat) (w : World) (hc : zs.length ≤ c) (hc' : c ≤ maxLen) (RA : Hid (SlI w p zs)) (ha : -9223372036854775808 ≤ a0 ∧ a0 ≤ 9223372036854775807) (hd : xs.length ≤ d) (hd' : d ≤ maxLen) (RB : Hid (SlI w q xs)) :
    Calls Try.prog 9 #[.agg #[.slice p zs.length c], .int .i64 a0, .slice q xs.length d] w (Ret (.bool true) w) := by
  by_cases h : 20 < zs.length ∨ 20 < xs.length
  · exact law9_long p zs c a0 q xs d w (Nat.le_trans hc hc') (Nat.le_trans hd hd') h
  · exact law9_ok p zs c a0 q xs d w RA RB (by omega) (by omega)
end Go.Proofs.Ytjpcpdaokgkaoaa.Sh
