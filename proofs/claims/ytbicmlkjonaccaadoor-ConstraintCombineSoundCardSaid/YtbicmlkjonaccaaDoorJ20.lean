/- Combine of both, in full. -/
import Derived.Test.YtbicmlkjonaccaaDoorE48
import Derived.Test.YtbicmlkjonaccaaDoorE49
import Derived.Test.YtbicmlkjonaccaaDoorJ3
import Derived.BigQuiet
import Derived.Deep.Cut
import Derived.Deep.CutRange
import Derived.Deep.QuietTactic
import Derived.Deep.RegionHeld
import Derived.Deep.RegionHeld3
import Derived.Deep.RegionWith
import Derived.Handy
import Derived.IntWalk
import Derived.Lib.Hide
import Derived.OpenShut
import Derived.Outline
import Derived.OwnWalk
import Derived.ProofKit
import Derived.WalkKit
import Derived.WalkLawsBesides
import Derived.WalkSmall
import Derived.WalkSpells
import Derived.Test.YtbicmlkjonaccaaDoorJ1

namespace Go.Proofs.YtbicmlkjonaccaaDoor.Ln
open Go.ChangeShapes Go.WideShapes Go.ChangeAt Go.RowKit
open Go.Proofs.YtbicmlkjonaccaaDoor.Nm
set_option linter.unusedVariables false
set_option linter.unusedSimpArgs false
set_option maxRecDepth 8000

theorem cbS_len {r : Cst} {x : Qm × Int} (h : (cbS r x).2 = 0) : (cbS r x).1.2.1.length ≤ r.2.1.length + x.1.2.1.length := by
  unfold cbS at h ⊢
  split at h
  · rename_i h1; exact absurd h h1
  · rename_i h1
    rw [if_neg h1]
    split at h
    · rename_i h2; exact absurd h h2
    · rename_i h2
      rw [if_neg h2]
      dsimp only
      have e1 : (adR r.1 r.2.1 (sclR x.2 x.1.1 x.1.2.1).1 (sclR x.2 x.1.1 x.1.2.1).2.1).2.1.length ≤ r.2.1.length + (sclR x.2 x.1.1 x.1.2.1).2.1.length := by
        unfold adR
        split
        · simp
        · split
          · exact Nat.le_trans (flt_len _) (mg_len _ _)
          · simp
      have e2 : (sclR x.2 x.1.1 x.1.2.1).2.1.length ≤ x.1.2.1.length := by
        unfold sclR
        split
        · simp
        · split
          · simp
          · split
            · simp [sclV]
            · simp
      omega
theorem cbF_len : ∀ (L : List (Qm × Int)) (r : Cst) (n : Nat), r.2.1.length ≤ n → (∀ x ∈ L, x.1.2.1.length ≤ 40) → (cbF L r).1.2.1.length ≤ n + 40 * L.length
  | [], r, n, hr, _ => by simpa [cbF] using hr
  | x :: t, r, n, hr, hx => by
    show (if (cbS r x).2 ≠ 0 then _ else _ : Cst × Int).1.2.1.length ≤ _
    split
    · simp
    · rename_i h
      have h1 := cbS_len (Classical.byContradiction h)
      have h2 := hx x (by simp)
      have ih := cbF_len t (cbS r x).1 (n + 40) (by omega) (fun y hy => hx y (List.mem_cons_of_mem _ hy))
      rw [List.length_cons]
      omega
theorem cbR_len {l : List Qm} {bs : List Int} (hl : l.length ≤ 60) (hx : ∀ f ∈ l, f.2.1.length ≤ 40) : (cbR l bs).1.2.1.length ≤ 2400 := by
  unfold cbR
  split
  · simp
  · split
    · simp
    · have h := cbF_len (l.zip bs) (0, [], true) 0 (Nat.le_refl _) (fun x hx2 => hx _ (List.of_mem_zip hx2).1)
      rw [List.length_zip] at h
      have : min l.length bs.length ≤ l.length := Nat.min_le_left _ _
      omega

theorem cmb1 (p : Option Addr) (l : List Qm) (c : Nat) (q : Option Addr) (bs : List Int) (d : Nat) (w : World) (hl : l.length ≤ 60) (hb' : bs.length ≤ maxLen) (RA : Hid (SlQ w p l)) (RB : Hid (SlJ w q bs)) (QK : Hid (∀ f ∈ l, f.2.1.length ≤ 40 ∧ (-9223372036854775808 ≤ f.1 ∧ f.1 ≤ 9223372036854775807) ∧ ∀ m ∈ f.2.1, m.1.size ≤ maxLen ∧ -9223372036854775808 ≤ m.2 ∧ m.2 ≤ 9223372036854775807)) (BK : Hid (∀ z ∈ bs, -9223372036854775808 ≤ z ∧ z ≤ 9223372036854775807)) : Calls Tryd.prog 34 #[.slice p l.length c, .slice q bs.length d] w (CbW (cbR l bs) w) := by
  by_cases he : l.length = bs.length
  · exact cmb_eq p l c q bs d w hl hb' RA RB QK BK he
  · rw [show cbR l bs = ((0, [], false), 1) by unfold cbR; rw [if_pos he]]
    exact cmb_len p l c q bs d w hl hb' RA RB QK BK he

theorem cmb2 (p : Option Addr) (l : List Qm) (c : Nat) (q : Option Addr) (bs : List Int) (d : Nat) (w : World) (hl : l.length ≤ 60) (hb' : bs.length ≤ maxLen) (RA : Hid (SlQ w p l)) (RB : Hid (SlJ w q bs)) (QK : Hid (∀ f ∈ l, f.2.1.length ≤ 40 ∧ (-9223372036854775808 ≤ f.1 ∧ f.1 ≤ 9223372036854775807) ∧ ∀ m ∈ f.2.1, m.1.size ≤ maxLen ∧ -9223372036854775808 ≤ m.2 ∧ m.2 ≤ 9223372036854775807)) (BK : Hid (∀ z ∈ bs, -9223372036854775808 ≤ z ∧ z ≤ 9223372036854775807)) : Calls Tryd.prog 35 #[.slice p l.length c, .slice q bs.length d] w (CbW (cbR l bs) w) := by
  by_cases he : l.length = bs.length
  · exact rcmb_eq p l c q bs d w hl hb' RA RB QK BK he
  · rw [show cbR l bs = ((0, [], false), 1) by unfold cbR; rw [if_pos he]]
    exact rcmb_len p l c q bs d w hl hb' RA RB QK BK he
end Go.Proofs.YtbicmlkjonaccaaDoor.Ln


namespace Go.Proofs.YtbicmlkjonaccaaDoor.Ln
open Go.ChangeShapes Go.WideShapes Go.ChangeAt Go.RowKit
open Go.Proofs.YtbicmlkjonaccaaDoor.Nm
set_option linter.unusedVariables false
set_option linter.unusedSimpArgs false
set_option maxRecDepth 8000

theorem conEq (k : Int) (p q : Option Addr) (xs : List Mo) (c d : Nat) (eq : Bool) (w : World) (hn : xs.length ≤ maxLen) (RA : Hid (SlM w p xs)) (RB : Hid (SlM w q xs)) : Calls Tryd.prog 30 #[Cv k p xs.length c eq, Cv k q xs.length d eq] w fun e w' => e = .returned (.bool true) ∧ Below w.heap.size w w' := by
  have LE := Lib.hid fun w h1 h2 => linEq k p xs c q d w hn h1 h2
  have B0 : Below w.heap.size w ((w.alloc (Obj.cells #[Value.int .i64 k, Value.slice p xs.length c, Value.bool eq] 36)).alloc (Obj.cells #[Value.int .i64 k, Value.slice q xs.length d, Value.bool eq] 36)) := ((Below.refl _ _).alloc (Nat.le_refl _) _).alloc (by simp) _
  have RA2 := Lib.hid (SlM.keep B0 RA.out)
  have RB2 := Lib.hid (SlM.keep B0 RB.out)
  unfold Cv
  unfold Lv at LE
  go_enter Tryd.func30, Tryd.ntmps30
  go_wp2_with (go_at_call 66; refine (LE.out _ RA2 RB2).mono ?_; rintro e w1 ⟨rfl, hb⟩)
  go_ret
  exact ⟨by simp, B0.trans (hb.mono B0.size)⟩
end Go.Proofs.YtbicmlkjonaccaaDoor.Ln


namespace Go.Proofs.YtbicmlkjonaccaaDoor.Ln
open Go.ChangeShapes Go.WideShapes Go.ChangeAt Go.RowKit
set_option linter.unusedVariables false
set_option linter.unusedSimpArgs false
theorem nan (x : Int) (w : World) : Calls Tryd.prog 123 #[.int .i64 x] w fun e w' => e = .returned (.bool false) ∧ w = w' := by
  go_enter Tryd.func123, Tryd.ntmps123
  go_wp2
  go_ret
  exact ⟨rfl, rfl⟩
set_option maxHeartbeats 4000000 in
theorem cmpI (a b : Int) (w : World) : Calls Tryd.prog 107 #[.int .i64 a, .int .i64 b] w fun e w' => e = .returned (.int .i64 (ic a b)) ∧ w = w' := by
  have C := Lib.hid nan
  unfold ic
  by_cases h1 : a < b
  · rw [if_pos h1]
    go_enter Tryd.func107, Tryd.ntmps107
    go_wp2_with (go_at_call 123; refine (C.out _ _).mono ?_; rintro e w' ⟨rfl, rfl⟩)
    go_ret
    exact ⟨rfl, rfl⟩
  · rw [if_neg h1]
    by_cases h2 : b < a
    · rw [if_pos h2]
      go_enter Tryd.func107, Tryd.ntmps107
      go_wp2_with (go_at_call 123; refine (C.out _ _).mono ?_; rintro e w' ⟨rfl, rfl⟩)
      go_ret
      exact ⟨rfl, rfl⟩
    · rw [if_neg h2]
      go_enter Tryd.func107, Tryd.ntmps107
      go_wp2_with (go_at_call 123; refine (C.out _ _).mono ?_; rintro e w' ⟨rfl, rfl⟩)
      go_ret
      exact ⟨rfl, rfl⟩
set_option maxHeartbeats 4000000 in
theorem orI (g : Nat) (x y : Int) (w : World) (h0 : w.cell? ⟨g, 0, none⟩ = some (.int .i64 x)) (h1 : w.cell? ⟨g, 1, none⟩ = some (.int .i64 y)) : Calls Tryd.prog 105 #[.slice (some ⟨g, 0, none⟩) 2 2] w fun e w' => e = .returned (.int .i64 (if x = 0 then y else x)) ∧ w = w' := by
  by_cases hx : x = 0
  · rw [if_pos hx]
    subst hx
    by_cases hy : y = 0
    · subst hy
      go_enter Tryd.func105, Tryd.ntmps105
      go_wp2
      refine wp_loop_rounds 3 ?_
      rw [rounds_succ]
      go_wp2
      rw [rounds_succ]
      go_wp2
      rw [rounds_succ]
      go_wp2
      go_ret
      exact ⟨rfl, rfl⟩
    · have hb : (y == 0) = false := beq_false_of_ne hy
      go_enter Tryd.func105, Tryd.ntmps105
      go_wp2
      refine wp_loop_rounds 3 ?_
      rw [rounds_succ]
      go_wp2
      rw [rounds_succ]
      go_wp2
      go_ret
      exact ⟨rfl, rfl⟩
  · rw [if_neg hx]
    have hb : (x == 0) = false := beq_false_of_ne hx
    go_enter Tryd.func105, Tryd.ntmps105
    go_wp2
    refine wp_loop_rounds 3 ?_
    rw [rounds_succ]
    go_wp2
    go_ret
    exact ⟨rfl, rfl⟩
theorem cmpS (a b : ByteArray) (w : World) : Calls Tryd.prog 106 #[.string a, .string b] w fun e w' => e = .returned (.int .i64 (cs a b)) ∧ w = w' := by
  refine (Tryd.strings_Compare a b w).mono ?_
  rintro e w' ⟨rfl, rfl⟩
  exact ⟨rfl, rfl⟩
def orV (x y : Int) : Int := if x = 0 then y else x
theorem orN (z : World) (x y : Int) : Calls Tryd.prog 105 #[.slice (some ⟨z.heap.size, 0, none⟩) 2 2] (z.alloc (Obj.cells #[Value.int .i64 x, Value.int .i64 y] 3)) fun e w' => e = .returned (.int .i64 (orV x y)) ∧ (z.alloc (Obj.cells #[Value.int .i64 x, Value.int .i64 y] 3)) = w' :=
  orI z.heap.size x y _ (by go_cell) (by go_cell)
theorem orD (z : World) (x y : Int) : Calls Tryd.prog 105 #[.slice (some ⟨z.heap.size, 0, none⟩) 2 2] (z.alloc (Obj.cells #[Value.int .i64 x, Value.int .i64 y] 3)).drew fun e w' => e = .returned (.int .i64 (orV x y)) ∧ (z.alloc (Obj.cells #[Value.int .i64 x, Value.int .i64 y] 3)).drew = w' :=
  orI z.heap.size x y _ (by show World.cell? (z.alloc _) _ = _; go_cell) (by show World.cell? (z.alloc _) _ = _; go_cell)
def Mv (x : Mo) : Value := .agg #[.string x.1, .int .i64 x.2]
set_option maxRecDepth 100000 in
set_option maxHeartbeats 8000000 in
theorem clos (x y : Mo) (w : World) : Calls Tryd.prog 104 #[Mv x, Mv y] w fun e w' => e = .returned (.int .i64 (mc x y)) ∧ Below w.heap.size w w' := by
  obtain ⟨s, a⟩ := x
  obtain ⟨t, b⟩ := y
  have C1 := Lib.hid cmpS
  have C2 := Lib.hid cmpI
  have C3 := Lib.hid orN
  have C4 := Lib.hid orD
  have B2 : Below w.heap.size w ((w.alloc (Obj.cells #[Value.string s, Value.int .i64 a] 59)).alloc (Obj.cells #[Value.string t, Value.int .i64 b] 59)) := ((Below.refl _ _).alloc (Nat.le_refl _) _).alloc (by simp) _
  have z2 : w.heap.size ≤ ((w.alloc (Obj.cells #[Value.string s, Value.int .i64 a] 59)).alloc (Obj.cells #[Value.string t, Value.int .i64 b] 59)).heap.size := by simp <;> omega
  have z3 : w.heap.size < ((w.alloc (Obj.cells #[Value.string s, Value.int .i64 a] 59)).alloc (Obj.cells #[Value.string t, Value.int .i64 b] 59)).heap.size := by simp <;> omega
  have z4 : w.heap.size + 1 < ((w.alloc (Obj.cells #[Value.string s, Value.int .i64 a] 59)).alloc (Obj.cells #[Value.string t, Value.int .i64 b] 59)).heap.size := by simp <;> omega
  have f0 : ((w.alloc (Obj.cells #[Value.string s, Value.int .i64 a] 59)).alloc (Obj.cells #[Value.string t, Value.int .i64 b] 59)).cell? ⟨w.heap.size, 0, none⟩ = some (.string s) := by go_cell
  have f1 : ((w.alloc (Obj.cells #[Value.string s, Value.int .i64 a] 59)).alloc (Obj.cells #[Value.string t, Value.int .i64 b] 59)).cell? ⟨w.heap.size, 1, none⟩ = some (.int .i64 a) := by go_cell
  have g0 : ((w.alloc (Obj.cells #[Value.string s, Value.int .i64 a] 59)).alloc (Obj.cells #[Value.string t, Value.int .i64 b] 59)).cell? ⟨w.heap.size + 1, 0, none⟩ = some (.string t) := by go_cell
  have g1 : ((w.alloc (Obj.cells #[Value.string s, Value.int .i64 a] 59)).alloc (Obj.cells #[Value.string t, Value.int .i64 b] 59)).cell? ⟨w.heap.size + 1, 1, none⟩ = some (.int .i64 b) := by go_cell
  have HM : mc (s, a) (t, b) = orV (cs s t) (ic a b) := rfl
  rw [HM]
  unfold Mv
  simp only
  clear HM
  go_enter Tryd.func104, Tryd.ntmps104
  go_wp2_with fail
  generalize (w.alloc (Obj.cells #[Value.string s, Value.int .i64 a] 59)).alloc (Obj.cells #[Value.string t, Value.int .i64 b] 59) = z at *
  have l1 : w.heap.size < z.heap.size := z3
  have l2 : w.heap.size + 1 < z.heap.size := z4
  have HS : Hid (∀ u : World, Below z.heap.size z u → (u.cell? ⟨w.heap.size, 0, none⟩ = some (.string s) ∧ u.cell? ⟨w.heap.size, 1, none⟩ = some (.int .i64 a) ∧ u.cell? ⟨w.heap.size + 1, 0, none⟩ = some (.string t) ∧ u.cell? ⟨w.heap.size + 1, 1, none⟩ = some (.int .i64 b) ∧ Below z.heap.size z u)) := Lib.hid (fun u hb => ⟨kp hb l1 f0, kp hb l1 f1, kp hb l2 g0, kp hb l2 g1, hb⟩)
  go_region_held3 (fun w' => w'.cell? ⟨w.heap.size, 0, none⟩ = some (.string s) ∧ w'.cell? ⟨w.heap.size, 1, none⟩ = some (.int .i64 a) ∧ w'.cell? ⟨w.heap.size + 1, 0, none⟩ = some (.string t) ∧ w'.cell? ⟨w.heap.size + 1, 1, none⟩ = some (.int .i64 b) ∧ Below z.heap.size z w') (first | exact HS.out _ (by assumption) | exact HS.out _ (Below.refl _ _) | exact HS.out _ (Below.drew (Below.refl _ _)) | exact HS.out _ (Below.drew (by assumption)) | exact HS.out _ (Below.drew (Below.alloc (Below.refl _ _) (Nat.le_refl _) _)) | exact HS.out _ (Below.alloc (Below.refl _ _) (Nat.le_refl _) _))
    (first | (with_reducible refine (C1.out _ _ _).mono ?_; rintro e w' ⟨rfl, rfl⟩) | (with_reducible refine (C2.out _ _ _).mono ?_; rintro e w' ⟨rfl, rfl⟩) | (with_reducible refine (C3.out _ _ _).mono ?_; rintro e w' ⟨rfl, rfl⟩) | (with_reducible refine (C4.out _ _ _).mono ?_; rintro e w' ⟨rfl, rfl⟩))
  all_goals
    go_wp2
    go_ret
    first | exact ⟨rfl, B2.alloc z2 _⟩ | exact ⟨rfl, (B2.alloc z2 _).drew⟩
set_option maxRecDepth 100000 in
set_option maxHeartbeats 8000000 in
theorem cmpF (p q : Option Addr) (xs ys : List Mo) (c d : Nat) (w : World) (hn : xs.length ≤ maxLen) (hm : ys.length ≤ maxLen) (RA : Hid (SlM w p xs)) (RB : Hid (SlM w q ys)) :
    Calls Tryd.prog 103 #[.slice p xs.length c, .slice q ys.length d, .func (.func 104) #[] #[]] w fun e w' => e = .returned (.int .i64 (lc xs ys)) ∧ Below w.heap.size w w' := by
  have C := Lib.hid fun (s : ByteArray) (a : Int) (t : ByteArray) (b : Int) w => clos (s, a) (t, b) w
  unfold Mv at C
  simp only at C
  unfold maxLen at hn hm
  go_enter Tryd.func103, Tryd.ntmps103
  go_wp2
  go_loopw [13] (fun i wr => ∃ k : Nat, i = .int .i64 (k : Int) ∧ k ≤ xs.length ∧ k ≤ ys.length ∧ Below w.heap.size w wr ∧ Hid (lc xs ys = lc (xs.drop k) (ys.drop k))) (fun i _ => xs.length - (intOf i).toNat)
  case atStart => exact ⟨0, rfl, by omega, by omega, Below.refl _ _, Lib.hid rfl⟩
  case round =>
    obtain ⟨k, rfl, hk, hk2, hB, HL⟩ := hrel
    have k0 : (0 : Int) ≤ k := by omega
    by_cases hlt : k < xs.length
    · obtain ⟨b, o, rfl, c0, c1⟩ := SlM.keep hB RA.out k hlt
      obtain ⟨x, hx⟩ : ∃ x, xs.getD k mo0 = x := ⟨_, rfl⟩
      have hb : b < wr.heap.size := by have := World.block_lt_of_cell? wr _ c0; simpa using this
      have k1 : (k : Int) < xs.length := by omega
      rw [hx] at c0 c1
      obtain ⟨s, a⟩ := x
      simp only at c0 c1
      by_cases hl2 : k < ys.length
      · have hst := Lib.hid (lc_step hlt hl2)
        obtain ⟨b', o', rfl, d0, d1⟩ := SlM.keep hB RB.out k hl2
        obtain ⟨y, hy⟩ : ∃ y, ys.getD k mo0 = y := ⟨_, rfl⟩
        have hb' : b' < wr.heap.size := by have := World.block_lt_of_cell? wr _ d0; simpa using this
        rw [hy] at d0 d1
        have hst := Lib.hid (by have h := hst.out; rw [hx, hy] at h; exact h)
        clear hx hy
        obtain ⟨t, e⟩ := y
        simp only at d0 d1
        have l1 : (k : Int) < ys.length := by omega
        have l2 : ¬ (ys.length : Int) ≤ k := by omega
        have D0 := kp ((Below.refl wr.heap.size wr).alloc (Nat.le_refl _) (Obj.cells #[Value.string s, Value.int .i64 a] 59)) hb' d0
        have D1 := kp ((Below.refl wr.heap.size wr).alloc (Nat.le_refl _) (Obj.cells #[Value.string s, Value.int .i64 a] 59)) hb' d1
        obtain ⟨m, hm2⟩ : ∃ m, mc (s, a) (t, e) = m := ⟨_, rfl⟩
        have CC := Lib.hid fun w => by have h := C.out s a t e w; rw [hm2] at h; exact h
        rw [hm2] at hst
        clear hm2 C
        go_wp2_with fail
        refine (CC.out _).mono ?_
        rintro e w' ⟨rfl, hb2⟩
        have hB2 : Below w.heap.size w ((wr.alloc (Obj.cells #[Value.string s, Value.int .i64 a] 59)).alloc (Obj.cells #[Value.string t, Value.int .i64 e] 59)) := (hB.alloc hB.size _).alloc (by have := hB.size; simp; omega) _
        have hB3 := hB2.trans (hb2.mono hB2.size)
        clear hB2 hb2
        by_cases hm0 : m = 0
        · subst hm0
          go_wp2
          go_roundw
          case rel => exact ⟨k + 1, by go_num, by omega, by omega, hB3, Lib.hid (by rw [HL.out, hst.out]; simp)⟩
          case measure => simp [intOf]; omega
        · have hmb : (m == 0) = false := beq_false_of_ne hm0
          go_wp2
          go_ret
          exact ⟨ret_int (by rw [HL.out, hst.out, if_neg hm0]), hB3⟩
      · have l2 : (ys.length : Int) ≤ k := by omega
        go_wp2
        go_ret
        exact ⟨ret_int (by rw [HL.out, lc_long hlt (by omega)]), hB.alloc hB.size _⟩
    · have k1 : ¬ (k : Int) < xs.length := by omega
      by_cases hl2 : k < ys.length
      · have l1 : (xs.length : Int) < ys.length := by omega
        go_wp2
        go_ret
        exact ⟨ret_int (by rw [HL.out, lc_short (by omega) hl2]), hB⟩
      · have l1 : ¬ (xs.length : Int) < ys.length := by omega
        go_wp2
        go_ret
        exact ⟨ret_int (by rw [HL.out, lc_same (by omega) (by omega)]), hB⟩
set_option maxRecDepth 100000 in
set_option maxHeartbeats 8000000 in
theorem cmp1 (k : Int) (p : Option Addr) (xs : List Mo) (c : Nat) (k' : Int) (q : Option Addr) (ys : List Mo) (d : Nat) (w : World) (hn : xs.length ≤ maxLen) (hm : ys.length ≤ maxLen) (RA : Hid (SlM w p xs)) (RB : Hid (SlM w q ys)) :
    Calls Tryd.prog 73 #[Lv k p xs.length c, Lv k' q ys.length d] w fun e w' => e = .returned (.int .i64 (cl k xs k' ys)) ∧ Below w.heap.size w w' := by
  have C1 := Lib.hid fun w R1 R2 => cmpF p q xs ys c d w hn hm R1 R2
  have C2 := Lib.hid cmpI
  have C3 := Lib.hid orN
  have B0 : Below w.heap.size w ((w.alloc (Obj.cells #[Value.int .i64 k, Value.slice p xs.length c] 24)).alloc (Obj.cells #[Value.int .i64 k', Value.slice q ys.length d] 24)) := two_below _ _
  have S0 := two_size (w := w) (Obj.cells #[Value.int .i64 k, Value.slice p xs.length c] 24) (Obj.cells #[Value.int .i64 k', Value.slice q ys.length d] 24)
  have f0 : (((w.alloc (Obj.cells #[Value.int .i64 k, Value.slice p xs.length c] 24)).alloc (Obj.cells #[Value.int .i64 k', Value.slice q ys.length d] 24))).cell? ⟨w.heap.size, 0, none⟩ = some (.int .i64 k) := by go_cell
  have f1 : (((w.alloc (Obj.cells #[Value.int .i64 k, Value.slice p xs.length c] 24)).alloc (Obj.cells #[Value.int .i64 k', Value.slice q ys.length d] 24))).cell? ⟨w.heap.size, 1, none⟩ = some (.slice p xs.length c) := by go_cell
  have g0 : (((w.alloc (Obj.cells #[Value.int .i64 k, Value.slice p xs.length c] 24)).alloc (Obj.cells #[Value.int .i64 k', Value.slice q ys.length d] 24))).cell? ⟨w.heap.size + 1, 0, none⟩ = some (.int .i64 k') := by go_cell
  have g1 : (((w.alloc (Obj.cells #[Value.int .i64 k, Value.slice p xs.length c] 24)).alloc (Obj.cells #[Value.int .i64 k', Value.slice q ys.length d] 24))).cell? ⟨w.heap.size + 1, 1, none⟩ = some (.slice q ys.length d) := by go_cell
  have HE : cl k xs k' ys = orV (lc xs ys) (ic k k') := rfl
  rw [HE]
  clear HE
  unfold Lv
  go_enter Tryd.func73, Tryd.ntmps73
  go_wp2_with fail
  generalize ((w.alloc (Obj.cells #[Value.int .i64 k, Value.slice p xs.length c] 24)).alloc (Obj.cells #[Value.int .i64 k', Value.slice q ys.length d] 24)) = z at *
  obtain ⟨s1, s2⟩ := S0
  refine (C1.out z (Lib.hid (SlM.keep B0 RA.out)) (Lib.hid (SlM.keep B0 RB.out))).mono ?_
  rintro e w1 ⟨rfl, hb⟩
  have h0 := kp hb s1 f0
  have h1 := kp hb s2 g0
  have K := B0.trans (hb.mono B0.size)
  clear f0 f1 g0 g1 hb B0 C1
  go_wp2_with fail
  refine (C2.out _ _ _).mono ?_
  rintro e w' ⟨rfl, rfl⟩
  go_wp2_with fail
  refine (C3.out _ _ _).mono ?_
  rintro e w' ⟨rfl, rfl⟩
  go_wp2
  go_ret
  exact ⟨rfl, K.alloc K.size _⟩
set_option maxRecDepth 100000 in
set_option maxHeartbeats 8000000 in
theorem eqF (p q : Option Addr) (xs ys : List Mo) (c d : Nat) (w : World) (hn : xs.length ≤ maxLen) (hm : ys.length ≤ maxLen) (RA : Hid (SlM w p xs)) (RB : Hid (SlM w q ys)) :
    Calls Tryd.prog 74 #[.slice p xs.length c, .slice q ys.length d] w fun e w' => e = .returned (.bool (decide (lc xs ys = 0))) ∧ Below w.heap.size w w' := by
  unfold maxLen at hn hm
  by_cases hl : xs.length = ys.length
  · have HL := Lib.hid hl
    rw [← hl]
    clear hl hm
    go_enter Tryd.func74, Tryd.ntmps74
    go_wp2
    go_loopw [13] (fun i wr => ∃ k r : Nat, i = .int .i64 (k : Int) ∧ k ≤ xs.length ∧ wr = w.drewN r ∧ Hid (lc xs ys = lc (xs.drop k) (ys.drop k))) (fun i _ => xs.length - (intOf i).toNat)
    case atStart => exact ⟨0, 0, rfl, by omega, rfl, Lib.hid rfl⟩
    case round =>
      obtain ⟨k, r, rfl, hk, rfl, HI⟩ := hrel
      have k0 : (0 : Int) ≤ k := by omega
      by_cases hlt : k < xs.length
      · have hst := Lib.hid (lc_step (xs := xs) (ys := ys) hlt (by rw [← HL.out]; exact hlt))
        obtain ⟨b, o, rfl, c0, c1⟩ := RA.out k hlt
        obtain ⟨b', o', rfl, d0, d1⟩ := RB.out k (by rw [← HL.out]; exact hlt)
        obtain ⟨x, hx⟩ : ∃ x, xs.getD k mo0 = x := ⟨_, rfl⟩
        obtain ⟨y, hy⟩ : ∃ y, ys.getD k mo0 = y := ⟨_, rfl⟩
        rw [hx] at c0 c1
        rw [hy] at d0 d1
        have hst := Lib.hid (by have h := hst.out; rw [hx, hy] at h; exact h)
        clear hx hy
        obtain ⟨s, a⟩ := x
        obtain ⟨t, e⟩ := y
        simp only at c0 c1 d0 d1
        have k1 : (k : Int) < xs.length := by omega
        have E1 := cs_eq s t
        by_cases hz : mc (s, a) (t, e) = 0
        · have he := mc_zero.1 hz
          injection he with he1 he2
          subst he1 he2
          have HI2 : Hid (lc xs ys = lc (xs.drop (k + 1)) (ys.drop (k + 1))) := Lib.hid (by rw [HI.out, hst.out, if_pos hz])
          clear hz E1 hst HI
          go_wp2
          go_quiet (fail)
          go_wp2
          go_roundw
          case rel => exact ⟨k + 1, _, by go_num, by omega, rfl, HI2⟩
          case measure => simp [intOf]; omega
        · have HR : Hid (decide (lc xs ys = 0) = false) := Lib.hid (decide_eq_false (by rw [HI.out, hst.out, if_neg hz]; exact hz))
          have hne : (s.toList == t.toList && a == e) = false := by
            rw [E1]
            by_cases h1 : cs s t = 0
            · have : a ≠ e := fun h => hz (mc_zero.2 (by rw [cs_zero.1 h1, h]))
              rw [beq_false_of_ne this, Bool.and_false]
            · rw [decide_eq_false h1, Bool.false_and]
          clear hz E1 hst HI
          obtain ⟨q1, h1⟩ : ∃ q1, (s.toList == t.toList) = q1 := ⟨_, rfl⟩
          obtain ⟨q2, h2⟩ : ∃ q2, (a == e) = q2 := ⟨_, rfl⟩
          rw [h1, h2] at hne
          cases q1 <;> cases q2 <;> first | (exfalso; exact Bool.noConfusion hne) | skip
          all_goals
            clear hne
            go_wp2
            go_quiet (fail)
            go_wp2
            go_ret
            exact ⟨ret_bool HR.out.symm, below_drewN (below_drewN (Below.refl _ _) _) _⟩
      · have k1 : ¬ (k : Int) < xs.length := by omega
        have HR := Lib.hid (decide_eq_true (show lc xs ys = 0 by rw [HI.out, lc_same (by omega) (by have := HL.out; omega)]))
        go_wp2
        go_ret
        exact ⟨ret_bool HR.out.symm, below_drewN (Below.refl _ _) _⟩
  · have HR : decide (lc xs ys = 0) = false := decide_eq_false (fun h => hl (by rw [(lc_zero _ _).1 h]))
    have hb : ((xs.length : Int) == (ys.length : Int)) = false := beq_false_of_ne (by omega)
    rw [HR]
    go_enter Tryd.func74, Tryd.ntmps74
    go_wp2
    go_ret
    exact ⟨rfl, Below.refl _ _⟩
set_option maxRecDepth 100000 in
set_option maxHeartbeats 8000000 in
theorem same1 (k : Int) (p : Option Addr) (xs : List Mo) (c : Nat) (k' : Int) (q : Option Addr) (ys : List Mo) (d : Nat) (w : World) (hn : xs.length ≤ maxLen) (hm : ys.length ≤ maxLen) (RA : Hid (SlM w p xs)) (RB : Hid (SlM w q ys)) :
    Calls Tryd.prog 79 #[Lv k p xs.length c, Lv k' q ys.length d] w fun e w' => e = .returned (.bool (decide (cl k xs k' ys = 0))) ∧ Below w.heap.size w w' := by
  have C1 := Lib.hid fun w R1 R2 => eqF p q xs ys c d w hn hm R1 R2
  have B0 : Below w.heap.size w ((w.alloc (Obj.cells #[Value.int .i64 k, Value.slice p xs.length c] 24)).alloc (Obj.cells #[Value.int .i64 k', Value.slice q ys.length d] 24)) := two_below _ _
  have HE : decide (cl k xs k' ys = 0) = ((k == k') && decide (lc xs ys = 0)) := by
    rw [Bool.eq_iff_iff, decide_eq_true_eq, Bool.and_eq_true, beq_iff_eq, decide_eq_true_eq, cl_zero, lc_zero]
  rw [HE]
  clear HE
  unfold Lv
  by_cases hk : k = k'
  · subst hk
    rw [beq_self_eq_true, Bool.true_and]
    generalize decide (lc xs ys = 0) = v at *
    go_enter Tryd.func79, Tryd.ntmps79
    go_wp2_with fail
    refine (C1.out _ (Lib.hid (SlM.keep B0 RA.out)) (Lib.hid (SlM.keep B0 RB.out))).mono ?_
    rintro e w1 ⟨rfl, hb⟩
    have K := B0.trans (hb.mono B0.size)
    go_wp2
    go_ret
    exact ⟨rfl, K⟩
  · have hb : (k == k') = false := beq_false_of_ne hk
    rw [hb, Bool.false_and]
    go_enter Tryd.func79, Tryd.ntmps79
    go_wp2
    go_ret
    exact ⟨rfl, B0⟩
end Go.Proofs.YtbicmlkjonaccaaDoor.Ln


namespace Go.Proofs.YtbicmlkjonaccaaDoor.Ln
open Go.ChangeShapes Go.WideShapes Go.ChangeAt Go.RowKit
open Go.Proofs.YtbicmlkjonaccaaDoor.Nm
set_option linter.unusedVariables false
set_option linter.unusedSimpArgs false
set_option maxRecDepth 8000

set_option maxHeartbeats 4000000 in
/-- The order of Normalize between two inequalities. -/
theorem ncmp (k : Int) (p : Option Addr) (xs : List Mo) (c : Nat) (k' : Int) (q : Option Addr) (ys : List Mo) (d : Nat) (w : World) (hn : xs.length ≤ maxLen) (hm : ys.length ≤ maxLen) (RA : Hid (SlM w p xs)) (RB : Hid (SlM w q ys)) :
    Calls Tryd.prog 72 #[Cv k p xs.length c false, Cv k' q ys.length d false] w fun e w' => e = .returned (.int .i64 (cl k xs k' ys)) ∧ Below w.heap.size w w' := by
  have CM := Lib.hid fun w h1 h2 => cmp1 k p xs c k' q ys d w hn hm h1 h2
  have B0 : Below w.heap.size w ((w.alloc (Obj.cells #[Value.int .i64 k, Value.slice p xs.length c, Value.bool false] 36)).alloc (Obj.cells #[Value.int .i64 k', Value.slice q ys.length d, Value.bool false] 36)) := ((Below.refl _ _).alloc (Nat.le_refl _) _).alloc (by simp) _
  unfold Cv
  unfold Lv at CM
  generalize cl k xs k' ys = r at *
  by_cases h0 : r = 0
  · subst h0
    go_enter Tryd.func72, Tryd.ntmps72
    go_wp2_with (go_at_call 73; (with_reducible refine (CM.out _ (Lib.hid (SlM.keep B0 RA.out)) (Lib.hid (SlM.keep B0 RB.out))).mono ?_); rintro e w1 ⟨rfl, hb⟩; have c0 : w1.cell? ⟨w.heap.size, 2, none⟩ = some (.bool false) := Rg.keep hb (by simp <;> omega) (by go_cell); have c1 : w1.cell? ⟨w.heap.size + 1, 2, none⟩ = some (.bool false) := Rg.keep hb (by simp <;> omega) (by go_cell); have K1 := B0.trans (hb.mono B0.size))
    go_ret
    exact ⟨rfl, K1⟩
  · have g1 : (r == 0) = false := by simpa using h0
    have g2 : (r != 0) = true := by simpa using h0
    clear h0
    go_enter Tryd.func72, Tryd.ntmps72
    go_wp2_with (go_at_call 73; (with_reducible refine (CM.out _ (Lib.hid (SlM.keep B0 RA.out)) (Lib.hid (SlM.keep B0 RB.out))).mono ?_); rintro e w1 ⟨rfl, hb⟩; have c0 : w1.cell? ⟨w.heap.size, 2, none⟩ = some (.bool false) := Rg.keep hb (by simp <;> omega) (by go_cell); have c1 : w1.cell? ⟨w.heap.size + 1, 2, none⟩ = some (.bool false) := Rg.keep hb (by simp <;> omega) (by go_cell); have K1 := B0.trans (hb.mono B0.size))
    go_ret
    exact ⟨rfl, K1⟩
end Go.Proofs.YtbicmlkjonaccaaDoor.Ln
