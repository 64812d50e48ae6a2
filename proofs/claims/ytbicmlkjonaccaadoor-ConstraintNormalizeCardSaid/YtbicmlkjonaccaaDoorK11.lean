/- Linear forms: the order. -/
import Derived.BigQuiet
import Derived.Deep.Cut
import Derived.Deep.CutRange
import Derived.Deep.QuietTactic
import Derived.Deep.RegionHeld
import Derived.Deep.RegionHeld3
import Derived.Deep.RegionWith
import Derived.Handy
import Derived.IntWalk
import Derived.Lib.Hide
import Derived.OpenShut
import Derived.Outline
import Derived.OwnWalk
import Derived.ProofKit
import Derived.WalkKit
import Derived.WalkLawsBesides
import Derived.WalkSmall
import Derived.WalkSpells
import Derived.Test.YtbicmlkjonaccaaDoorK0
import Derived.Test.YtbicmlkjonaccaaDoorK3
import Derived.Test.YtbicmlkjonaccaaDoorK10
import Derived.Test.YtbicmlkjonaccaaDoorK4

namespace Go.Proofs.YtbicmlkjonaccaaDoor.Ln
open Go.ChangeShapes Go.WideShapes Go.ChangeAt Go.RowKit
set_option linter.unusedVariables false
set_option linter.unusedSimpArgs false
theorem nan (x : Int) (w : World) : Calls Tryd.prog 123 #[.int .i64 x] w fun e w' => e = .returned (.bool false) /\ w = w' := by
 go_enter Tryd.func123, Tryd.ntmps123
 go_wp2
 go_ret
 exact ⟨rfl, rfl⟩
set_option maxHeartbeats 4000000 in
theorem cmpI (a b : Int) (w : World) : Calls Tryd.prog 107 #[.int .i64 a, .int .i64 b] w fun e w' => e = .returned (.int .i64 (ic a b)) /\ w = w' := by
 have C := Lib.hid nan
 unfold ic
 by_cases h1 : a < b
 ·rw [if_pos h1]
  go_enter Tryd.func107, Tryd.ntmps107
  go_wp2_with (go_at_call 123; refine (C.out _ _).mono ?_; rintro e w' ⟨rfl, rfl⟩)
  go_ret
  exact ⟨rfl, rfl⟩
 ·rw [if_neg h1]
  by_cases h2 : b < a
  ·rw [if_pos h2]
   go_enter Tryd.func107, Tryd.ntmps107
   go_wp2_with (go_at_call 123; refine (C.out _ _).mono ?_; rintro e w' ⟨rfl, rfl⟩)
   go_ret
   exact ⟨rfl, rfl⟩
  ·rw [if_neg h2]
   go_enter Tryd.func107, Tryd.ntmps107
   go_wp2_with (go_at_call 123; refine (C.out _ _).mono ?_; rintro e w' ⟨rfl, rfl⟩)
   go_ret
   exact ⟨rfl, rfl⟩
set_option maxHeartbeats 4000000 in
theorem orI (g : Nat) (x y : Int) (w : World) (h0 : w.cell? ⟨g, 0, none⟩ = some (.int .i64 x)) (h1 : w.cell? ⟨g, 1, none⟩ = some (.int .i64 y)) : Calls Tryd.prog 105 #[.slice (some ⟨g, 0, none⟩) 2 2] w fun e w' => e = .returned (.int .i64 (if x = 0 then y else x)) /\ w = w' := by
 by_cases hx : x = 0
 ·rw [if_pos hx]
  subst hx
  by_cases hy : y = 0
  ·subst hy
   go_enter Tryd.func105, Tryd.ntmps105
   go_wp2
   refine wp_loop_rounds 3 ?_
   rw [rounds_succ]
   go_wp2
   rw [rounds_succ]
   go_wp2
   rw [rounds_succ]
   go_wp2
   go_ret
   exact ⟨rfl, rfl⟩
  ·have hb : (y == 0) = false := beq_false_of_ne hy
   go_enter Tryd.func105, Tryd.ntmps105
   go_wp2
   refine wp_loop_rounds 3 ?_
   rw [rounds_succ]
   go_wp2
   rw [rounds_succ]
   go_wp2
   go_ret
   exact ⟨rfl, rfl⟩
 ·rw [if_neg hx]
  have hb : (x == 0) = false := beq_false_of_ne hx
  go_enter Tryd.func105, Tryd.ntmps105
  go_wp2
  refine wp_loop_rounds 3 ?_
  rw [rounds_succ]
  go_wp2
  go_ret
  exact ⟨rfl, rfl⟩
theorem cmpS (a b : ByteArray) (w : World) : Calls Tryd.prog 106 #[.string a, .string b] w fun e w' => e = .returned (.int .i64 (cs a b)) /\ w = w' := by
 refine (Tryd.strings_Compare a b w).mono ?_
 rintro e w' ⟨rfl, rfl⟩
 exact ⟨rfl, rfl⟩
def orV (x y : Int) : Int := if x = 0 then y else x
theorem orN (z : World) (x y : Int) : Calls Tryd.prog 105 #[.slice (some ⟨z.heap.size, 0, none⟩) 2 2] (z.alloc (Obj.cells #[Value.int .i64 x, Value.int .i64 y] 3)) fun e w' => e = .returned (.int .i64 (orV x y)) /\ (z.alloc (Obj.cells #[Value.int .i64 x, Value.int .i64 y] 3)) = w' :=
 orI z.heap.size x y _ (by go_cell) (by go_cell)
theorem orD (z : World) (x y : Int) : Calls Tryd.prog 105 #[.slice (some ⟨z.heap.size, 0, none⟩) 2 2] (z.alloc (Obj.cells #[Value.int .i64 x, Value.int .i64 y] 3)).drew fun e w' => e = .returned (.int .i64 (orV x y)) /\ (z.alloc (Obj.cells #[Value.int .i64 x, Value.int .i64 y] 3)).drew = w' :=
 orI z.heap.size x y _ (by show World.cell? (z.alloc _) _ = _; go_cell) (by show World.cell? (z.alloc _) _ = _; go_cell)
def Mv (x : Mo) : Value := .agg #[.string x.1, .int .i64 x.2]
set_option maxRecDepth 100000 in
set_option maxHeartbeats 8000000 in
theorem clos (x y : Mo) (w : World) : Calls Tryd.prog 104 #[Mv x, Mv y] w fun e w' => e = .returned (.int .i64 (mc x y)) /\ Below w.heap.size w w' := by
 obtain ⟨s, a⟩ := x
 obtain ⟨t, b⟩ := y
 have C1 := Lib.hid cmpS
 have C2 := Lib.hid cmpI
 have C3 := Lib.hid orN
 have C4 := Lib.hid orD
 have B2 : Below w.heap.size w ((w.alloc (Obj.cells #[Value.string s, Value.int .i64 a] 59)).alloc (Obj.cells #[Value.string t, Value.int .i64 b] 59)) := ((Below.refl _ _).alloc (Nat.le_refl _) _).alloc (by simp) _
 have z2 : w.heap.size <= ((w.alloc (Obj.cells #[Value.string s, Value.int .i64 a] 59)).alloc (Obj.cells #[Value.string t, Value.int .i64 b] 59)).heap.size := by simp <;> omega
 have z3 : w.heap.size < ((w.alloc (Obj.cells #[Value.string s, Value.int .i64 a] 59)).alloc (Obj.cells #[Value.string t, Value.int .i64 b] 59)).heap.size := by simp <;> omega
 have z4 : w.heap.size + 1 < ((w.alloc (Obj.cells #[Value.string s, Value.int .i64 a] 59)).alloc (Obj.cells #[Value.string t, Value.int .i64 b] 59)).heap.size := by simp <;> omega
 have f0 : ((w.alloc (Obj.cells #[Value.string s, Value.int .i64 a] 59)).alloc (Obj.cells #[Value.string t, Value.int .i64 b] 59)).cell? ⟨w.heap.size, 0, none⟩ = some (.string s) := by go_cell
 have f1 : ((w.alloc (Obj.cells #[Value.string s, Value.int .i64 a] 59)).alloc (Obj.cells #[Value.string t, Value.int .i64 b] 59)).cell? ⟨w.heap.size, 1, none⟩ = some (.int .i64 a) := by go_cell
 have g0 : ((w.alloc (Obj.cells #[Value.string s, Value.int .i64 a] 59)).alloc (Obj.cells #[Value.string t, Value.int .i64 b] 59)).cell? ⟨w.heap.size + 1, 0, none⟩ = some (.string t) := by go_cell
 have g1 : ((w.alloc (Obj.cells #[Value.string s, Value.int .i64 a] 59)).alloc (Obj.cells #[Value.string t, Value.int .i64 b] 59)).cell? ⟨w.heap.size + 1, 1, none⟩ = some (.int .i64 b) := by go_cell
 have HM : mc (s, a) (t, b) = orV (cs s t) (ic a b) := rfl
 rw [HM]
 unfold Mv
 simp only
 clear HM
 go_enter Tryd.func104, Tryd.ntmps104
 go_wp2_with fail
 generalize (w.alloc (Obj.cells #[Value.string s, Value.int .i64 a] 59)).alloc (Obj.cells #[Value.string t, Value.int .i64 b] 59) = z at *
 have l1 : w.heap.size < z.heap.size := z3
 have l2 : w.heap.size + 1 < z.heap.size := z4
 have HS : Hid (∀ u : World, Below z.heap.size z u -> (u.cell? ⟨w.heap.size, 0, none⟩ = some (.string s) /\ u.cell? ⟨w.heap.size, 1, none⟩ = some (.int .i64 a) /\ u.cell? ⟨w.heap.size + 1, 0, none⟩ = some (.string t) /\ u.cell? ⟨w.heap.size + 1, 1, none⟩ = some (.int .i64 b) /\ Below z.heap.size z u)) := Lib.hid (fun u hb => ⟨kp hb l1 f0, kp hb l1 f1, kp hb l2 g0, kp hb l2 g1, hb⟩)
 go_region_held3 (fun w' => w'.cell? ⟨w.heap.size, 0, none⟩ = some (.string s) /\ w'.cell? ⟨w.heap.size, 1, none⟩ = some (.int .i64 a) /\ w'.cell? ⟨w.heap.size + 1, 0, none⟩ = some (.string t) /\ w'.cell? ⟨w.heap.size + 1, 1, none⟩ = some (.int .i64 b) /\ Below z.heap.size z w') (first | exact HS.out _ (by assumption) | exact HS.out _ (Below.refl _ _) | exact HS.out _ (Below.drew (Below.refl _ _)) | exact HS.out _ (Below.drew (by assumption)) | exact HS.out _ (Below.drew (Below.alloc (Below.refl _ _) (Nat.le_refl _) _)) | exact HS.out _ (Below.alloc (Below.refl _ _) (Nat.le_refl _) _))
  (first | (with_reducible refine (C1.out _ _ _).mono ?_; rintro e w' ⟨rfl, rfl⟩) | (with_reducible refine (C2.out _ _ _).mono ?_; rintro e w' ⟨rfl, rfl⟩) | (with_reducible refine (C3.out _ _ _).mono ?_; rintro e w' ⟨rfl, rfl⟩) | (with_reducible refine (C4.out _ _ _).mono ?_; rintro e w' ⟨rfl, rfl⟩))
 all_goals
  go_wp2
  go_ret
  first | exact ⟨rfl, B2.alloc z2 _⟩ | exact ⟨rfl, (B2.alloc z2 _).drew⟩
set_option maxRecDepth 100000 in
set_option maxHeartbeats 8000000 in
theorem cmpF (p q : Option Addr) (xs ys : List Mo) (c d : Nat) (w : World) (hn : xs.length <= maxLen) (hm : ys.length <= maxLen) (RA : Hid (SlM w p xs)) (RB : Hid (SlM w q ys)) :
  Calls Tryd.prog 103 #[.slice p xs.length c, .slice q ys.length d, .func (.func 104) #[] #[]] w fun e w' => e = .returned (.int .i64 (lc xs ys)) /\ Below w.heap.size w w' := by
 have C := Lib.hid fun (s : ByteArray) (a : Int) (t : ByteArray) (b : Int) w => clos (s, a) (t, b) w
 unfold Mv at C
 simp only at C
 unfold maxLen at hn hm
 go_enter Tryd.func103, Tryd.ntmps103
 go_wp2
 go_loopw [13] (fun i wr => ∃ k : Nat, i = .int .i64 (k : Int) /\ k <= xs.length /\ k <= ys.length /\ Below w.heap.size w wr /\ Hid (lc xs ys = lc (xs.drop k) (ys.drop k))) (fun i _ => xs.length - (intOf i).toNat)
 case atStart => exact ⟨0, rfl, by omega, by omega, Below.refl _ _, Lib.hid rfl⟩
 case round =>
  obtain ⟨k, rfl, hk, hk2, hB, HL⟩ := hrel
  have k0 : (0 : Int) <= k := by omega
  by_cases hlt : k < xs.length
  ·obtain ⟨b, o, rfl, c0, c1⟩ := SlM.keep hB RA.out k hlt
   obtain ⟨x, hx⟩ : ∃ x, xs.getD k mo0 = x := ⟨_, rfl⟩
   have hb : b < wr.heap.size := by have := World.block_lt_of_cell? wr _ c0; simpa using this
   have k1 : (k : Int) < xs.length := by omega
   rw [hx] at c0 c1
   obtain ⟨s, a⟩ := x
   simp only at c0 c1
   by_cases hl2 : k < ys.length
   ·have hst := Lib.hid (lc_step hlt hl2)
    obtain ⟨b', o', rfl, d0, d1⟩ := SlM.keep hB RB.out k hl2
    obtain ⟨y, hy⟩ : ∃ y, ys.getD k mo0 = y := ⟨_, rfl⟩
    have hb' : b' < wr.heap.size := by have := World.block_lt_of_cell? wr _ d0; simpa using this
    rw [hy] at d0 d1
    have hst := Lib.hid (by have h := hst.out; rw [hx, hy] at h; exact h)
    clear hx hy
    obtain ⟨t, e⟩ := y
    simp only at d0 d1
    have l1 : (k : Int) < ys.length := by omega
    have l2 : ¬ (ys.length : Int) <= k := by omega
    have D0 := kp ((Below.refl wr.heap.size wr).alloc (Nat.le_refl _) (Obj.cells #[Value.string s, Value.int .i64 a] 59)) hb' d0
    have D1 := kp ((Below.refl wr.heap.size wr).alloc (Nat.le_refl _) (Obj.cells #[Value.string s, Value.int .i64 a] 59)) hb' d1
    obtain ⟨m, hm2⟩ : ∃ m, mc (s, a) (t, e) = m := ⟨_, rfl⟩
    have CC := Lib.hid fun w => by have h := C.out s a t e w; rw [hm2] at h; exact h
    rw [hm2] at hst
    clear hm2 C
    go_wp2_with fail
    refine (CC.out _).mono ?_
    rintro e w' ⟨rfl, hb2⟩
    have hB2 : Below w.heap.size w ((wr.alloc (Obj.cells #[Value.string s, Value.int .i64 a] 59)).alloc (Obj.cells #[Value.string t, Value.int .i64 e] 59)) := (hB.alloc hB.size _).alloc (by have := hB.size; simp; omega) _
    have hB3 := hB2.trans (hb2.mono hB2.size)
    clear hB2 hb2
    by_cases hm0 : m = 0
    ·subst hm0
     go_wp2
     go_roundw
     case rel => exact ⟨k + 1, by go_num, by omega, by omega, hB3, Lib.hid (by rw [HL.out, hst.out]; simp)⟩
     case measure => simp [intOf]; omega
    ·have hmb : (m == 0) = false := beq_false_of_ne hm0
     go_wp2
     go_ret
     exact ⟨ret_int (by rw [HL.out, hst.out, if_neg hm0]), hB3⟩
   ·have l2 : (ys.length : Int) <= k := by omega
    go_wp2
    go_ret
    exact ⟨ret_int (by rw [HL.out, lc_long hlt (by omega)]), hB.alloc hB.size _⟩
  ·have k1 : ¬ (k : Int) < xs.length := by omega
   by_cases hl2 : k < ys.length
   ·have l1 : (xs.length : Int) < ys.length := by omega
    go_wp2
    go_ret
    exact ⟨ret_int (by rw [HL.out, lc_short (by omega) hl2]), hB⟩
   ·have l1 : ¬ (xs.length : Int) < ys.length := by omega
    go_wp2
    go_ret
    exact ⟨ret_int (by rw [HL.out, lc_same (by omega) (by omega)]), hB⟩
set_option maxRecDepth 100000 in
set_option maxHeartbeats 8000000 in
theorem cmp1 (k : Int) (p : Option Addr) (xs : List Mo) (c : Nat) (k' : Int) (q : Option Addr) (ys : List Mo) (d : Nat) (w : World) (hn : xs.length <= maxLen) (hm : ys.length <= maxLen) (RA : Hid (SlM w p xs)) (RB : Hid (SlM w q ys)) :
  Calls Tryd.prog 73 #[Lv k p xs.length c, Lv k' q ys.length d] w fun e w' => e = .returned (.int .i64 (cl k xs k' ys)) /\ Below w.heap.size w w' := by
 have C1 := Lib.hid fun w R1 R2 => cmpF p q xs ys c d w hn hm R1 R2
 have C2 := Lib.hid cmpI
 have C3 := Lib.hid orN
 have B0 : Below w.heap.size w ((w.alloc (Obj.cells #[Value.int .i64 k, Value.slice p xs.length c] 24)).alloc (Obj.cells #[Value.int .i64 k', Value.slice q ys.length d] 24)) := two_below _ _
 have S0 := two_size (w := w) (Obj.cells #[Value.int .i64 k, Value.slice p xs.length c] 24) (Obj.cells #[Value.int .i64 k', Value.slice q ys.length d] 24)
 have f0 : (((w.alloc (Obj.cells #[Value.int .i64 k, Value.slice p xs.length c] 24)).alloc (Obj.cells #[Value.int .i64 k', Value.slice q ys.length d] 24))).cell? ⟨w.heap.size, 0, none⟩ = some (.int .i64 k) := by go_cell
 have f1 : (((w.alloc (Obj.cells #[Value.int .i64 k, Value.slice p xs.length c] 24)).alloc (Obj.cells #[Value.int .i64 k', Value.slice q ys.length d] 24))).cell? ⟨w.heap.size, 1, none⟩ = some (.slice p xs.length c) := by go_cell
 have g0 : (((w.alloc (Obj.cells #[Value.int .i64 k, Value.slice p xs.length c] 24)).alloc (Obj.cells #[Value.int .i64 k', Value.slice q ys.length d] 24))).cell? ⟨w.heap.size + 1, 0, none⟩ = some (.int .i64 k') := by go_cell
 have g1 : (((w.alloc (Obj.cells #[Value.int .i64 k, Value.slice p xs.length c] 24)).alloc (Obj.cells #[Value.int .i64 k', Value.slice q ys.length d] 24))).cell? ⟨w.heap.size + 1, 1, none⟩ = some (.slice q ys.length d) := by go_cell
 have HE : cl k xs k' ys = orV (lc xs ys) (ic k k') := rfl
 rw [HE]
 clear HE
 unfold Lv
 go_enter Tryd.func73, Tryd.ntmps73
 go_wp2_with fail
 generalize ((w.alloc (Obj.cells #[Value.int .i64 k, Value.slice p xs.length c] 24)).alloc (Obj.cells #[Value.int .i64 k', Value.slice q ys.length d] 24)) = z at *
 obtain ⟨s1, s2⟩ := S0
 refine (C1.out z (Lib.hid (SlM.keep B0 RA.out)) (Lib.hid (SlM.keep B0 RB.out))).mono ?_
 rintro e w1 ⟨rfl, hb⟩
 have h0 := kp hb s1 f0
 have h1 := kp hb s2 g0
 have K := B0.trans (hb.mono B0.size)
 clear f0 f1 g0 g1 hb B0 C1
 go_wp2_with fail
 refine (C2.out _ _ _).mono ?_
 rintro e w' ⟨rfl, rfl⟩
 go_wp2_with fail
 refine (C3.out _ _ _).mono ?_
 rintro e w' ⟨rfl, rfl⟩
 go_wp2
 go_ret
 exact ⟨rfl, K.alloc K.size _⟩
set_option maxRecDepth 100000 in
set_option maxHeartbeats 8000000 in
theorem eqF (p q : Option Addr) (xs ys : List Mo) (c d : Nat) (w : World) (hn : xs.length <= maxLen) (hm : ys.length <= maxLen) (RA : Hid (SlM w p xs)) (RB : Hid (SlM w q ys)) :
  Calls Tryd.prog 74 #[.slice p xs.length c, .slice q ys.length d] w fun e w' => e = .returned (.bool (decide (lc xs ys = 0))) /\ Below w.heap.size w w' := by
 unfold maxLen at hn hm
 by_cases hl : xs.length = ys.length
 ·have HL := Lib.hid hl
  rw [<- hl]
  clear hl hm
  go_enter Tryd.func74, Tryd.ntmps74
  go_wp2
  go_loopw [13] (fun i wr => ∃ k r : Nat, i = .int .i64 (k : Int) /\ k <= xs.length /\ wr = w.drewN r /\ Hid (lc xs ys = lc (xs.drop k) (ys.drop k))) (fun i _ => xs.length - (intOf i).toNat)
  case atStart => exact ⟨0, 0, rfl, by omega, rfl, Lib.hid rfl⟩
  case round =>
   obtain ⟨k, r, rfl, hk, rfl, HI⟩ := hrel
   have k0 : (0 : Int) <= k := by omega
   by_cases hlt : k < xs.length
   ·have hst := Lib.hid (lc_step (xs := xs) (ys := ys) hlt (by rw [<- HL.out]; exact hlt))
    obtain ⟨b, o, rfl, c0, c1⟩ := RA.out k hlt
    obtain ⟨b', o', rfl, d0, d1⟩ := RB.out k (by rw [<- HL.out]; exact hlt)
    obtain ⟨x, hx⟩ : ∃ x, xs.getD k mo0 = x := ⟨_, rfl⟩
    obtain ⟨y, hy⟩ : ∃ y, ys.getD k mo0 = y := ⟨_, rfl⟩
    rw [hx] at c0 c1
    rw [hy] at d0 d1
    have hst := Lib.hid (by have h := hst.out; rw [hx, hy] at h; exact h)
    clear hx hy
    obtain ⟨s, a⟩ := x
    obtain ⟨t, e⟩ := y
    simp only at c0 c1 d0 d1
    have k1 : (k : Int) < xs.length := by omega
    have E1 := cs_eq s t
    by_cases hz : mc (s, a) (t, e) = 0
    ·have he := mc_zero.1 hz
     injection he with he1 he2
     subst he1 he2
     have HI2 : Hid (lc xs ys = lc (xs.drop (k + 1)) (ys.drop (k + 1))) := Lib.hid (by rw [HI.out, hst.out, if_pos hz])
     clear hz E1 hst HI
     go_wp2
     go_quiet (fail)
     go_wp2
     go_roundw
     case rel => exact ⟨k + 1, _, by go_num, by omega, rfl, HI2⟩
     case measure => simp [intOf]; omega
    ·have HR : Hid (decide (lc xs ys = 0) = false) := Lib.hid (decide_eq_false (by rw [HI.out, hst.out, if_neg hz]; exact hz))
     have hne : (s.toList == t.toList && a == e) = false := by
      rw [E1]
      by_cases h1 : cs s t = 0
      ·have : a ≠ e := fun h => hz (mc_zero.2 (by rw [cs_zero.1 h1, h]))
       rw [beq_false_of_ne this, Bool.and_false]
      ·rw [decide_eq_false h1, Bool.false_and]
     clear hz E1 hst HI
     obtain ⟨q1, h1⟩ : ∃ q1, (s.toList == t.toList) = q1 := ⟨_, rfl⟩
     obtain ⟨q2, h2⟩ : ∃ q2, (a == e) = q2 := ⟨_, rfl⟩
     rw [h1, h2] at hne
     cases q1 <;> cases q2 <;> first | (exfalso; exact Bool.noConfusion hne) | skip
     all_goals
      clear hne
      go_wp2
      go_quiet (fail)
      go_wp2
      go_ret
      exact ⟨ret_bool HR.out.symm, below_drewN (below_drewN (Below.refl _ _) _) _⟩
   ·have k1 : ¬ (k : Int) < xs.length := by omega
    have HR := Lib.hid (decide_eq_true (show lc xs ys = 0 by rw [HI.out, lc_same (by omega) (by have := HL.out; omega)]))
    go_wp2
    go_ret
    exact ⟨ret_bool HR.out.symm, below_drewN (Below.refl _ _) _⟩
 ·have HR : decide (lc xs ys = 0) = false := decide_eq_false (fun h => hl (by rw [(lc_zero _ _).1 h]))
  have hb : ((xs.length : Int) == (ys.length : Int)) = false := beq_false_of_ne (by omega)
  rw [HR]
  go_enter Tryd.func74, Tryd.ntmps74
  go_wp2
  go_ret
  exact ⟨rfl, Below.refl _ _⟩

end Go.Proofs.YtbicmlkjonaccaaDoor.Ln


namespace Go.Proofs.YtbicmlkjonaccaaDoor.Ln
open Go.ChangeShapes Go.WideShapes Go.ChangeAt Go.RowKit
open Go.Proofs.YtbicmlkjonaccaaDoor.Nm
set_option linter.unusedVariables false
set_option linter.unusedSimpArgs false
set_option maxRecDepth 8000

set_option maxHeartbeats 4000000 in
/-- The order of Normalize between two inequalities. -/
theorem ncmp (k : Int) (p : Option Addr) (xs : List Mo) (c : Nat) (k' : Int) (q : Option Addr) (ys : List Mo) (d : Nat) (w : World) (hn : xs.length <= maxLen) (hm : ys.length <= maxLen) (RA : Hid (SlM w p xs)) (RB : Hid (SlM w q ys)) :
  Calls Tryd.prog 72 #[Cv k p xs.length c false, Cv k' q ys.length d false] w fun e w' => e = .returned (.int .i64 (cl k xs k' ys)) /\ Below w.heap.size w w' := by
 have CM := Lib.hid fun w h1 h2 => cmp1 k p xs c k' q ys d w hn hm h1 h2
 have B0 : Below w.heap.size w ((w.alloc (Obj.cells #[Value.int .i64 k, Value.slice p xs.length c, Value.bool false] 36)).alloc (Obj.cells #[Value.int .i64 k', Value.slice q ys.length d, Value.bool false] 36)) := ((Below.refl _ _).alloc (Nat.le_refl _) _).alloc (by simp) _
 unfold Cv
 unfold Lv at CM
 generalize cl k xs k' ys = r at *
 by_cases h0 : r = 0
 ·subst h0
  go_enter Tryd.func72, Tryd.ntmps72
  go_wp2_with (go_at_call 73; (with_reducible refine (CM.out _ (Lib.hid (SlM.keep B0 RA.out)) (Lib.hid (SlM.keep B0 RB.out))).mono ?_); rintro e w1 ⟨rfl, hb⟩; have c0 : w1.cell? ⟨w.heap.size, 2, none⟩ = some (.bool false) := Rg.keep hb (by simp <;> omega) (by go_cell); have c1 : w1.cell? ⟨w.heap.size + 1, 2, none⟩ = some (.bool false) := Rg.keep hb (by simp <;> omega) (by go_cell); have K1 := B0.trans (hb.mono B0.size))
  go_ret
  exact ⟨rfl, K1⟩
 ·have g1 : (r == 0) = false := by simpa using h0
  have g2 : (r != 0) = true := by simpa using h0
  clear h0
  go_enter Tryd.func72, Tryd.ntmps72
  go_wp2_with (go_at_call 73; (with_reducible refine (CM.out _ (Lib.hid (SlM.keep B0 RA.out)) (Lib.hid (SlM.keep B0 RB.out))).mono ?_); rintro e w1 ⟨rfl, hb⟩; have c0 : w1.cell? ⟨w.heap.size, 2, none⟩ = some (.bool false) := Rg.keep hb (by simp <;> omega) (by go_cell); have c1 : w1.cell? ⟨w.heap.size + 1, 2, none⟩ = some (.bool false) := Rg.keep hb (by simp <;> omega) (by go_cell); have K1 := B0.trans (hb.mono B0.size))
  go_ret
  exact ⟨rfl, K1⟩
end Go.Proofs.YtbicmlkjonaccaaDoor.Ln


namespace Go.Proofs.YtbicmlkjonaccaaDoor.Ln
open Go.ChangeShapes Go.WideShapes Go.ChangeAt Go.RowKit
open Go.Proofs.YtbicmlkjonaccaaDoor.Nm
set_option linter.unusedVariables false
set_option linter.unusedSimpArgs false
set_option maxRecDepth 8000

theorem ic_neg {a b : Int} : ic a b < 0 ↔ a < b := by unfold ic; split <;> (try split) <;> omega
theorem cs_trans {a b c : ByteArray} (h : cs a b < 0) (h2 : cs b c < 0) : cs a c < 0 := cb_trans _ _ _ h h2
theorem mc_lt {x y : Mo} : mc x y < 0 ↔ cs x.1 y.1 < 0 \/ (x.1 = y.1 /\ x.2 < y.2) := by
 unfold mc
 by_cases h : cs x.1 y.1 = 0
 ·rw [if_pos h, ic_neg]
  exact ⟨fun h2 => .inr ⟨cs_zero.1 h, h2⟩, fun h2 => h2.elim (fun h3 => by omega) (fun h3 => h3.2)⟩
 ·rw [if_neg h]
  exact ⟨.inl, fun h2 => h2.elim id (fun h3 => absurd (cs_zero.2 h3.1) h)⟩
theorem mc_trans {x y z : Mo} (h : mc x y < 0) (h2 : mc y z < 0) : mc x z < 0 := by
 rw [mc_lt] at *
 rcases h with h | ⟨h, k⟩
 ·rcases h2 with h2 | ⟨h2, k2⟩
  ·exact .inl (cs_trans h h2)
  ·rw [h2] at h; exact .inl h
 ·rcases h2 with h2 | ⟨h2, k2⟩
  ·rw [<- h] at h2; exact .inl h2
  ·exact .inr ⟨h.trans h2, by omega⟩
theorem lc_trans : ∀ xs ys zs : List Mo, lc xs ys < 0 -> lc ys zs < 0 -> lc xs zs < 0
 | [], [], _, h, _ => absurd h (by simp [lc])
 | [], _ :: _, [], _, h2 => absurd h2 (by simp [lc])
 | [], _ :: _, _ :: _, _, _ => by simp [lc]
 | _ :: _, [], _, h, _ => absurd h (by simp [lc])
 | _ :: _, _ :: _, [], _, h2 => absurd h2 (by simp [lc])
 | x :: r, y :: s, z :: t, h, h2 => by
  unfold lc at h h2 ⊢
  by_cases a : mc x y = 0
  ·rw [if_pos a] at h
   obtain rfl := mc_zero.1 a
   by_cases b : mc x z = 0
   ·rw [if_pos b] at h2 ⊢
    exact lc_trans r s t h h2
   ·rw [if_neg b] at h2 ⊢
    exact h2
  ·rw [if_neg a] at h
   by_cases b : mc y z = 0
   ·obtain rfl := mc_zero.1 b
    rw [if_neg a]
    exact h
   ·rw [if_neg b] at h2
    have h3 := mc_trans h h2
    rw [if_neg (by omega)]
    exact h3
theorem cl_lt {k : Int} {xs : List Mo} {k' : Int} {ys : List Mo} : cl k xs k' ys < 0 ↔ lc xs ys < 0 \/ (xs = ys /\ k < k') := by
 unfold cl
 by_cases h : lc xs ys = 0
 ·rw [if_pos h, ic_neg]
  exact ⟨fun h2 => .inr ⟨(lc_zero _ _).1 h, h2⟩, fun h2 => h2.elim (fun h3 => by omega) (fun h3 => h3.2)⟩
 ·rw [if_neg h]
  exact ⟨.inl, fun h2 => h2.elim id (fun h3 => absurd ((lc_zero _ _).2 h3.1) h)⟩
/-- The order of Normalize: by monomials, then by constants, an equation ahead of an equal inequality. -/
def qc (a b : Qm) : Int := if cl a.1 a.2.1 b.1 b.2.1 ≠ 0 \/ a.2.2 = b.2.2 then cl a.1 a.2.1 b.1 b.2.1 else if a.2.2 = true then -1 else 1
theorem qc_lt {a b : Qm} : qc a b < 0 ↔ lc a.2.1 b.2.1 < 0 \/ (a.2.1 = b.2.1 /\ (a.1 < b.1 \/ (a.1 = b.1 /\ a.2.2 = true /\ b.2.2 = false))) := by
 unfold qc
 by_cases h : cl a.1 a.2.1 b.1 b.2.1 = 0
 ·have h0 := cl_zero.1 h
  have hl : lc a.2.1 b.2.1 = 0 := (lc_zero _ _).2 h0.2
  by_cases e : a.2.2 = b.2.2
  ·rw [if_pos (.inr e), h]
   refine ⟨fun x => absurd x (by decide), fun x => ?_⟩
   rcases x with x | ⟨_, x | ⟨_, x1, x2⟩⟩
   ·omega
   ·omega
   ·rw [x1, x2] at e; cases e
  ·rw [if_neg (fun x => x.elim (fun y => y h) e)]
   cases ea : a.2.2 with
   | true =>
    rw [if_pos rfl]
    refine ⟨fun _ => .inr ⟨h0.2, .inr ⟨h0.1, rfl, ?_⟩⟩, fun _ => by decide⟩
    rw [ea] at e
    simpa using e
   | false =>
    rw [if_neg (by simp)]
    refine ⟨fun x => absurd x (by decide), fun x => ?_⟩
    rcases x with x | ⟨_, x | ⟨_, x1, x2⟩⟩
    ·omega
    ·omega
    ·cases x1
 ·rw [if_pos (.inl h), cl_lt]
  refine ⟨fun x => x.elim .inl (fun y => .inr ⟨y.1, .inl y.2⟩), fun x => ?_⟩
  rcases x with x | ⟨x0, x | ⟨x1, _, _⟩⟩
  ·exact .inl x
  ·exact .inr ⟨x0, x⟩
  ·exact absurd (cl_zero.2 ⟨x1, x0⟩) h
theorem lc_self (xs : List Mo) : lc xs xs = 0 := (lc_zero _ _).2 rfl
theorem qc_asym {a b : Qm} (h : qc a b < 0) : ¬ qc b a < 0 := by
 rw [qc_lt] at *
 intro h2
 have sw := lc_swap a.2.1 b.2.1
 rcases h with h | ⟨h, k⟩
 ·rcases h2 with h2 | ⟨h2, _⟩
  ·omega
  ·rw [h2, lc_self] at h; omega
 ·rcases h2 with h2 | ⟨_, k2⟩
  ·rw [h, lc_self] at h2; omega
  ·rcases k with k | ⟨k, k3, k4⟩ <;> rcases k2 with k2 | ⟨k2, k5, k6⟩
   ·omega
   ·omega
   ·omega
   ·rw [k3] at k6; cases k6
theorem qc_tr {a b c : Qm} (h : qc a b < 0) (h2 : qc b c < 0) : qc a c < 0 := by
 rw [qc_lt] at *
 rcases h with h | ⟨h, k⟩
 ·rcases h2 with h2 | ⟨h2, _⟩
  ·exact .inl (lc_trans _ _ _ h h2)
  ·rw [h2] at h; exact .inl h
 ·rcases h2 with h2 | ⟨h2, k2⟩
  ·rw [<- h] at h2; exact .inl h2
  ·refine .inr ⟨h.trans h2, ?_⟩
   rcases k with k | ⟨k, k3, k4⟩ <;> rcases k2 with k2 | ⟨k2, k5, k6⟩
   ·exact .inl (by omega)
   ·exact .inl (by omega)
   ·exact .inl (by omega)
   ·rw [k4] at k5; cases k5
theorem qc_tri (a b : Qm) : qc a b < 0 \/ a = b \/ qc b a < 0 := by
 simp only [qc_lt]
 have sw := lc_swap a.2.1 b.2.1
 by_cases h : lc a.2.1 b.2.1 = 0
 ·have e := (lc_zero _ _).1 h
  rcases Int.lt_trichotomy a.1 b.1 with k | k | k
  ·exact .inl (.inr ⟨e, .inl k⟩)
  ·cases ea : a.2.2 <;> cases eb : b.2.2
   ·exact .inr (.inl (Prod.ext k (Prod.ext e (by rw [ea, eb]))))
   ·exact .inr (.inr (.inr ⟨e.symm, .inr ⟨k.symm, rfl, rfl⟩⟩))
   ·exact .inl (.inr ⟨e, .inr ⟨k, rfl, rfl⟩⟩)
   ·exact .inr (.inl (Prod.ext k (Prod.ext e (by rw [ea, eb]))))
  ·exact .inr (.inr (.inr ⟨e.symm, .inl k⟩))
 ·rcases Int.lt_or_gt_of_ne h with k | k
  ·exact .inl (.inl k)
  ·exact .inr (.inr (.inl (by omega)))
/-- An order of elements by what they stand for. -/
theorem ord_by (f : E5 -> Qm) : OrdC (fun x y => qc (f x) (f y)) :=
 ⟨fun x y h => qc_asym h, fun x y z h h2 h3 => by
  rcases qc_tri (f x) (f y) with a | a | a
  ·exact h2 (qc_tr h3 a)
  ·have h3' : qc (f z) (f x) < 0 := h3
   rw [a] at h3'; exact h2 h3'
  ·exact h a⟩
theorem Std.uniq {w : World} {e : E5} {t t' : Qm} (h : Std w e t) (h' : Std w e t') : t = t' := by
 obtain ⟨a1, a2, a3, S, _⟩ := h
 obtain ⟨b1, b2, b3, S', _⟩ := h'
 refine Prod.ext (a1.symm.trans b1) (Prod.ext ?_ (a3.symm.trans b3))
 have hl : t.2.1.length = t'.2.1.length := a2.symm.trans b2
 refine List.ext_getElem hl fun i h1 h2 => ?_
 obtain ⟨b, o, hp, c0, c1⟩ := S i h1
 obtain ⟨b', o', hp', d0, d1⟩ := S' i h2
 rw [hp] at hp'
 cases hp'
 rw [c0] at d0
 rw [c1] at d1
 have e1 : t.2.1.getD i mo0 = t.2.1[i] := by unfold List.getD; rw [List.getElem?_eq_getElem h1]; rfl
 have e2 : t'.2.1.getD i mo0 = t'.2.1[i] := by unfold List.getD; rw [List.getElem?_eq_getElem h2]; rfl
 rw [e1, e2] at d0 d1
 injection d0 with d0
 injection d0 with d0
 injection d1 with d1
 injection d1 with _ d1
 exact Prod.ext d0 d1
open Classical in
/-- What an element stands for. -/
noncomputable def stQ (w : World) (e : E5) : Qm := if h : ∃ t, Std w e t then h.choose else q0m
theorem stQ_eq {w : World} {e : E5} {t : Qm} (h : Std w e t) : stQ w e = t := by
 have hx : ∃ t, Std w e t := ⟨t, h⟩
 unfold stQ
 rw [dif_pos hx]
 exact Std.uniq hx.choose_spec h
theorem StdL.map {w : World} {L : List E5} {ts : List Qm} (h : StdL w L ts) : L.map (stQ w) = ts := by
 refine List.ext_getElem (by rw [List.length_map]; exact h.1) fun i h1 h2 => ?_
 rw [List.getElem_map]
 have hL : i < L.length := by rw [h.1]; exact h2
 have hi := h.2 i h2
 have e1 : L.getD i e50 = L[i] := by unfold List.getD; rw [List.getElem?_eq_getElem hL]; rfl
 have e2 : ts.getD i q0m = ts[i] := by unfold List.getD; rw [List.getElem?_eq_getElem h2]; rfl
 rw [e1, e2] at hi
 exact stQ_eq hi
theorem StdL.mem {w : World} {L : List E5} {ts : List Qm} (h : StdL w L ts) {x : E5} (hx : x ∈ L) : Std w x (stQ w x) /\ stQ w x ∈ ts := by
 obtain ⟨i, hi, rfl⟩ := List.mem_iff_getElem.1 hx
 have h2 : i < ts.length := by rw [<- h.1]; exact hi
 have hs := h.2 i h2
 have e1 : L.getD i e50 = L[i] := by unfold List.getD; rw [List.getElem?_eq_getElem hi]; rfl
 have e2 : ts.getD i q0m = ts[i] := by unfold List.getD; rw [List.getElem?_eq_getElem h2]; rfl
 rw [e1, e2] at hs
 rw [stQ_eq hs]
 exact ⟨hs, List.getElem_mem h2⟩
/-- A row laid in another order stands for the same constraints in another order. -/
theorem StdL.perm {w : World} {L L' : List E5} {ts : List Qm} (h : StdL w L ts) (p : L'.Perm L) : StdL w L' (L'.map (stQ w)) /\ (L'.map (stQ w)).Perm ts := by
 refine ⟨⟨by rw [List.length_map], fun i hi => ?_⟩, ?_⟩
 ·rw [List.length_map] at hi
  have e1 : L'.getD i e50 = L'[i] := by unfold List.getD; rw [List.getElem?_eq_getElem hi]; rfl
  have e2 : (L'.map (stQ w)).getD i q0m = stQ w L'[i] := by unfold List.getD; rw [List.getElem?_map, List.getElem?_eq_getElem hi]; rfl
  rw [e1, e2]
  exact (h.mem (p.mem_iff.1 (List.getElem_mem hi))).1
 ·rw [<- h.map]
  exact p.map _
set_option maxHeartbeats 4000000 in
theorem ncmp_tt (k : Int) (p : Option Addr) (xs : List Mo) (c : Nat) (k' : Int) (q : Option Addr) (ys : List Mo) (d : Nat) (w : World) (hn : xs.length <= maxLen) (hm : ys.length <= maxLen) (RA : Hid (SlM w p xs)) (RB : Hid (SlM w q ys)) :
  Calls Tryd.prog 72 #[Cv k p xs.length c true, Cv k' q ys.length d true] w fun e w' => e = .returned (.int .i64 (qc (k, xs, true) (k', ys, true))) /\ Below w.heap.size w w' := by
 have CM := Lib.hid fun w h1 h2 => cmp1 k p xs c k' q ys d w hn hm h1 h2
 have B0 : Below w.heap.size w ((w.alloc (Obj.cells #[Value.int .i64 k, Value.slice p xs.length c, Value.bool true] 36)).alloc (Obj.cells #[Value.int .i64 k', Value.slice q ys.length d, Value.bool true] 36)) := ((Below.refl _ _).alloc (Nat.le_refl _) _).alloc (by simp) _
 have HQ : qc (k, xs, true) (k', ys, true) = (if cl k xs k' ys ≠ 0 \/ true = true then cl k xs k' ys else if true = true then -1 else 1) := rfl
 rw [HQ]
 clear HQ
 unfold Cv
 unfold Lv at CM
 generalize cl k xs k' ys = r at *
 by_cases h0 : r = 0
 ·subst h0
  rw [if_pos (.inr rfl)]
  go_enter Tryd.func72, Tryd.ntmps72
  go_wp2_with (go_at_call 73; (with_reducible refine (CM.out _ (Lib.hid (SlM.keep B0 RA.out)) (Lib.hid (SlM.keep B0 RB.out))).mono ?_); rintro e w1 ⟨rfl, hb⟩; have c0 : w1.cell? ⟨w.heap.size, 2, none⟩ = some (.bool true) := Rg.keep hb (by simp <;> omega) (by go_cell); have c1 : w1.cell? ⟨w.heap.size + 1, 2, none⟩ = some (.bool true) := Rg.keep hb (by simp <;> omega) (by go_cell); have K1 := B0.trans (hb.mono B0.size))
  go_ret
  exact ⟨rfl, K1⟩
 ·rw [if_pos (.inl h0)]
  have g1 : (r == 0) = false := by simpa using h0
  have g2 : (r != 0) = true := by simpa using h0
  clear h0
  go_enter Tryd.func72, Tryd.ntmps72
  go_wp2_with (go_at_call 73; (with_reducible refine (CM.out _ (Lib.hid (SlM.keep B0 RA.out)) (Lib.hid (SlM.keep B0 RB.out))).mono ?_); rintro e w1 ⟨rfl, hb⟩; have c0 : w1.cell? ⟨w.heap.size, 2, none⟩ = some (.bool true) := Rg.keep hb (by simp <;> omega) (by go_cell); have c1 : w1.cell? ⟨w.heap.size + 1, 2, none⟩ = some (.bool true) := Rg.keep hb (by simp <;> omega) (by go_cell); have K1 := B0.trans (hb.mono B0.size))
  go_ret
  exact ⟨rfl, K1⟩
set_option maxHeartbeats 4000000 in
theorem ncmp_tf (k : Int) (p : Option Addr) (xs : List Mo) (c : Nat) (k' : Int) (q : Option Addr) (ys : List Mo) (d : Nat) (w : World) (hn : xs.length <= maxLen) (hm : ys.length <= maxLen) (RA : Hid (SlM w p xs)) (RB : Hid (SlM w q ys)) :
  Calls Tryd.prog 72 #[Cv k p xs.length c true, Cv k' q ys.length d false] w fun e w' => e = .returned (.int .i64 (qc (k, xs, true) (k', ys, false))) /\ Below w.heap.size w w' := by
 have CM := Lib.hid fun w h1 h2 => cmp1 k p xs c k' q ys d w hn hm h1 h2
 have B0 : Below w.heap.size w ((w.alloc (Obj.cells #[Value.int .i64 k, Value.slice p xs.length c, Value.bool true] 36)).alloc (Obj.cells #[Value.int .i64 k', Value.slice q ys.length d, Value.bool false] 36)) := ((Below.refl _ _).alloc (Nat.le_refl _) _).alloc (by simp) _
 have HQ : qc (k, xs, true) (k', ys, false) = (if cl k xs k' ys ≠ 0 \/ true = false then cl k xs k' ys else if true = true then -1 else 1) := rfl
 rw [HQ]
 clear HQ
 unfold Cv
 unfold Lv at CM
 generalize cl k xs k' ys = r at *
 by_cases h0 : r = 0
 ·subst h0
  rw [if_neg (by simp), if_pos rfl]
  go_enter Tryd.func72, Tryd.ntmps72
  go_wp2_with (go_at_call 73; (with_reducible refine (CM.out _ (Lib.hid (SlM.keep B0 RA.out)) (Lib.hid (SlM.keep B0 RB.out))).mono ?_); rintro e w1 ⟨rfl, hb⟩; have c0 : w1.cell? ⟨w.heap.size, 2, none⟩ = some (.bool true) := Rg.keep hb (by simp <;> omega) (by go_cell); have c1 : w1.cell? ⟨w.heap.size + 1, 2, none⟩ = some (.bool false) := Rg.keep hb (by simp <;> omega) (by go_cell); have K1 := B0.trans (hb.mono B0.size))
  go_ret
  exact ⟨rfl, K1⟩
 ·rw [if_pos (.inl h0)]
  have g1 : (r == 0) = false := by simpa using h0
  have g2 : (r != 0) = true := by simpa using h0
  clear h0
  go_enter Tryd.func72, Tryd.ntmps72
  go_wp2_with (go_at_call 73; (with_reducible refine (CM.out _ (Lib.hid (SlM.keep B0 RA.out)) (Lib.hid (SlM.keep B0 RB.out))).mono ?_); rintro e w1 ⟨rfl, hb⟩; have c0 : w1.cell? ⟨w.heap.size, 2, none⟩ = some (.bool true) := Rg.keep hb (by simp <;> omega) (by go_cell); have c1 : w1.cell? ⟨w.heap.size + 1, 2, none⟩ = some (.bool false) := Rg.keep hb (by simp <;> omega) (by go_cell); have K1 := B0.trans (hb.mono B0.size))
  go_ret
  exact ⟨rfl, K1⟩
set_option maxHeartbeats 4000000 in
theorem ncmp_ft (k : Int) (p : Option Addr) (xs : List Mo) (c : Nat) (k' : Int) (q : Option Addr) (ys : List Mo) (d : Nat) (w : World) (hn : xs.length <= maxLen) (hm : ys.length <= maxLen) (RA : Hid (SlM w p xs)) (RB : Hid (SlM w q ys)) :
  Calls Tryd.prog 72 #[Cv k p xs.length c false, Cv k' q ys.length d true] w fun e w' => e = .returned (.int .i64 (qc (k, xs, false) (k', ys, true))) /\ Below w.heap.size w w' := by
 have CM := Lib.hid fun w h1 h2 => cmp1 k p xs c k' q ys d w hn hm h1 h2
 have B0 : Below w.heap.size w ((w.alloc (Obj.cells #[Value.int .i64 k, Value.slice p xs.length c, Value.bool false] 36)).alloc (Obj.cells #[Value.int .i64 k', Value.slice q ys.length d, Value.bool true] 36)) := ((Below.refl _ _).alloc (Nat.le_refl _) _).alloc (by simp) _
 have HQ : qc (k, xs, false) (k', ys, true) = (if cl k xs k' ys ≠ 0 \/ false = true then cl k xs k' ys else if false = true then -1 else 1) := rfl
 rw [HQ]
 clear HQ
 unfold Cv
 unfold Lv at CM
 generalize cl k xs k' ys = r at *
 by_cases h0 : r = 0
 ·subst h0
  rw [if_neg (by simp), if_neg (by simp)]
  go_enter Tryd.func72, Tryd.ntmps72
  go_wp2_with (go_at_call 73; (with_reducible refine (CM.out _ (Lib.hid (SlM.keep B0 RA.out)) (Lib.hid (SlM.keep B0 RB.out))).mono ?_); rintro e w1 ⟨rfl, hb⟩; have c0 : w1.cell? ⟨w.heap.size, 2, none⟩ = some (.bool false) := Rg.keep hb (by simp <;> omega) (by go_cell); have c1 : w1.cell? ⟨w.heap.size + 1, 2, none⟩ = some (.bool true) := Rg.keep hb (by simp <;> omega) (by go_cell); have K1 := B0.trans (hb.mono B0.size))
  go_ret
  exact ⟨rfl, K1⟩
 ·rw [if_pos (.inl h0)]
  have g1 : (r == 0) = false := by simpa using h0
  have g2 : (r != 0) = true := by simpa using h0
  clear h0
  go_enter Tryd.func72, Tryd.ntmps72
  go_wp2_with (go_at_call 73; (with_reducible refine (CM.out _ (Lib.hid (SlM.keep B0 RA.out)) (Lib.hid (SlM.keep B0 RB.out))).mono ?_); rintro e w1 ⟨rfl, hb⟩; have c0 : w1.cell? ⟨w.heap.size, 2, none⟩ = some (.bool false) := Rg.keep hb (by simp <;> omega) (by go_cell); have c1 : w1.cell? ⟨w.heap.size + 1, 2, none⟩ = some (.bool true) := Rg.keep hb (by simp <;> omega) (by go_cell); have K1 := B0.trans (hb.mono B0.size))
  go_ret
  exact ⟨rfl, K1⟩
set_option maxHeartbeats 4000000 in
theorem ncmp_ff (k : Int) (p : Option Addr) (xs : List Mo) (c : Nat) (k' : Int) (q : Option Addr) (ys : List Mo) (d : Nat) (w : World) (hn : xs.length <= maxLen) (hm : ys.length <= maxLen) (RA : Hid (SlM w p xs)) (RB : Hid (SlM w q ys)) :
  Calls Tryd.prog 72 #[Cv k p xs.length c false, Cv k' q ys.length d false] w fun e w' => e = .returned (.int .i64 (qc (k, xs, false) (k', ys, false))) /\ Below w.heap.size w w' := by
 have CM := Lib.hid fun w h1 h2 => cmp1 k p xs c k' q ys d w hn hm h1 h2
 have B0 : Below w.heap.size w ((w.alloc (Obj.cells #[Value.int .i64 k, Value.slice p xs.length c, Value.bool false] 36)).alloc (Obj.cells #[Value.int .i64 k', Value.slice q ys.length d, Value.bool false] 36)) := ((Below.refl _ _).alloc (Nat.le_refl _) _).alloc (by simp) _
 have HQ : qc (k, xs, false) (k', ys, false) = (if cl k xs k' ys ≠ 0 \/ false = false then cl k xs k' ys else if false = true then -1 else 1) := rfl
 rw [HQ]
 clear HQ
 unfold Cv
 unfold Lv at CM
 generalize cl k xs k' ys = r at *
 by_cases h0 : r = 0
 ·subst h0
  rw [if_pos (.inr rfl)]
  go_enter Tryd.func72, Tryd.ntmps72
  go_wp2_with (go_at_call 73; (with_reducible refine (CM.out _ (Lib.hid (SlM.keep B0 RA.out)) (Lib.hid (SlM.keep B0 RB.out))).mono ?_); rintro e w1 ⟨rfl, hb⟩; have c0 : w1.cell? ⟨w.heap.size, 2, none⟩ = some (.bool false) := Rg.keep hb (by simp <;> omega) (by go_cell); have c1 : w1.cell? ⟨w.heap.size + 1, 2, none⟩ = some (.bool false) := Rg.keep hb (by simp <;> omega) (by go_cell); have K1 := B0.trans (hb.mono B0.size))
  go_ret
  exact ⟨rfl, K1⟩
 ·rw [if_pos (.inl h0)]
  have g1 : (r == 0) = false := by simpa using h0
  have g2 : (r != 0) = true := by simpa using h0
  clear h0
  go_enter Tryd.func72, Tryd.ntmps72
  go_wp2_with (go_at_call 73; (with_reducible refine (CM.out _ (Lib.hid (SlM.keep B0 RA.out)) (Lib.hid (SlM.keep B0 RB.out))).mono ?_); rintro e w1 ⟨rfl, hb⟩; have c0 : w1.cell? ⟨w.heap.size, 2, none⟩ = some (.bool false) := Rg.keep hb (by simp <;> omega) (by go_cell); have c1 : w1.cell? ⟨w.heap.size + 1, 2, none⟩ = some (.bool false) := Rg.keep hb (by simp <;> omega) (by go_cell); have K1 := B0.trans (hb.mono B0.size))
  go_ret
  exact ⟨rfl, K1⟩

/-- The order of Normalize. -/
theorem ncmpG (k : Int) (p : Option Addr) (xs : List Mo) (c : Nat) (ea : Bool) (k' : Int) (q : Option Addr) (ys : List Mo) (d : Nat) (eb : Bool) (w : World) (hn : xs.length <= maxLen) (hm : ys.length <= maxLen) (RA : Hid (SlM w p xs)) (RB : Hid (SlM w q ys)) :
  Calls Tryd.prog 72 #[Cv k p xs.length c ea, Cv k' q ys.length d eb] w fun e w' => e = .returned (.int .i64 (qc (k, xs, ea) (k', ys, eb))) /\ Below w.heap.size w w' := by
 cases ea <;> cases eb
 ·exact ncmp_ff k p xs c k' q ys d w hn hm RA RB
 ·exact ncmp_ft k p xs c k' q ys d w hn hm RA RB
 ·exact ncmp_tf k p xs c k' q ys d w hn hm RA RB
 ·exact ncmp_tt k p xs c k' q ys d w hn hm RA RB
/-- The comparison of elements, wherever what they stand for is kept. -/
theorem ncmpL (w0 : World) (L : List E5) (ts : List Qm) (h : StdL w0 L ts) (hm : ∀ t ∈ ts, t.2.1.length <= maxLen) : ∀ x y, x ∈ L -> y ∈ L -> ∀ w', K59 w0 w' -> Calls Tryd.prog 72 #[agE x, agE y] w' fun e w2 => e = .returned (.int .i64 (qc (stQ w0 x) (stQ w0 y))) /\ Below w'.heap.size w' w2 := by
 intro x y hx hy w' hk
 obtain ⟨⟨a1, a2, a3, a4⟩, am⟩ := h.mem hx
 obtain ⟨⟨b1, b2, b3, b4⟩, bm⟩ := h.mem hy
 obtain ⟨k, p, n, c, ea⟩ := x
 obtain ⟨k', q, m, d, eb⟩ := y
 dsimp only at a1 a2 a3 a4 b1 b2 b3 b4
 generalize hX : stQ w0 (k, p, n, c, ea) = X at *
 generalize hY : stQ w0 (k', q, m, d, eb) = Y at *
 obtain ⟨K, xs, f⟩ := X
 obtain ⟨K', ys, f'⟩ := Y
 dsimp only at a1 a2 a3 a4 b1 b2 b3 b4
 subst a1 a2 a3 b1 b2 b3
 exact ncmpG k p xs c ea k' q ys d eb w' (hm _ am) (hm _ bm) (Lib.hid (a4.on hk).1) (Lib.hid (b4.on hk).1)
end Go.Proofs.YtbicmlkjonaccaaDoor.Ln
