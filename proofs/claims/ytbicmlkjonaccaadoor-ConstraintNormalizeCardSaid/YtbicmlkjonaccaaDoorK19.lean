/- Linear forms and constraints by the tests and by Same, whatever they are. -/
import Derived.Test.YtbicmlkjonaccaaDoorK3
import Derived.Test.YtbicmlkjonaccaaDoorK11
import Derived.Test.YtbicmlkjonaccaaDoorK12
import Derived.Deep.Cut
import Derived.Deep.CutRange

namespace Go.Proofs.YtbicmlkjonaccaaDoor.Ln
open Go.ChangeShapes Go.WideShapes Go.ChangeAt Go.RowKit
open Go.Proofs.YtbicmlkjonaccaaDoor.Nm
set_option linter.unusedVariables false
set_option linter.unusedSimpArgs false
set_option maxRecDepth 8000

set_option maxRecDepth 100000 in
set_option maxHeartbeats 8000000 in
/-- Linear forms by the tests, whatever they are. -/
theorem linB (k : Int) (p : Option Addr) (xs : List Mo) (c : Nat) (k' : Int) (q : Option Addr) (ys : List Mo) (d : Nat) (w : World) (hn : xs.length <= maxLen) (hm : ys.length <= maxLen) (RA : Hid (SlM w p xs)) (RB : Hid (SlM w q ys)) :
  Calls Tryd.prog 66 #[Lv k p xs.length c, Lv k' q ys.length d] w fun e w' => e = .returned (.bool (decide (cl k xs k' ys = 0))) /\ Below w.heap.size w w' := by
 have B0 : Below w.heap.size w ((w.alloc (Obj.cells #[Value.int .i64 k, Value.slice p xs.length c] 24)).alloc (Obj.cells #[Value.int .i64 k', Value.slice q ys.length d] 24)) := two_below _ _
 have HE : decide (cl k xs k' ys = 0) = ((k == k') && decide (lc xs ys = 0)) := by
  rw [Bool.eq_iff_iff, decide_eq_true_eq, Bool.and_eq_true, beq_iff_eq, decide_eq_true_eq, cl_zero, lc_zero]
 rw [HE]
 clear HE
 unfold maxLen at hn hm
 unfold Lv
 by_cases hk : k = k'
 ·subst hk
  rw [beq_self_eq_true, Bool.true_and]
  by_cases hl : xs.length = ys.length
  ·have HL := Lib.hid hl
   have f1 : ((w.alloc (Obj.cells #[Value.int .i64 k, Value.slice p xs.length c] 24)).alloc (Obj.cells #[Value.int .i64 k, Value.slice q ys.length d] 24)).cell? ⟨w.heap.size, 1, none⟩ = some (.slice p xs.length c) := by go_cell
   have g1 : ((w.alloc (Obj.cells #[Value.int .i64 k, Value.slice p xs.length c] 24)).alloc (Obj.cells #[Value.int .i64 k, Value.slice q ys.length d] 24)).cell? ⟨w.heap.size + 1, 1, none⟩ = some (.slice q ys.length d) := by go_cell
   rw [<- hl] at g1 B0 f1 ⊢
   clear hl hm
   go_enter Tryd.func66, Tryd.ntmps66
   go_wp2
   have RA1 := Lib.hid (SlM.keep B0 RA.out)
   have RB1 := Lib.hid (SlM.keep B0 RB.out)
   generalize ((w.alloc (Obj.cells #[Value.int .i64 k, Value.slice p xs.length c] 24)).alloc (Obj.cells #[Value.int .i64 k, Value.slice q xs.length d] 24)) = z at *
   go_loopw [5] (fun i wr => ∃ j r : Nat, i = .int .i64 (j : Int) /\ j <= xs.length /\ wr = z.drewN r /\ Hid (lc xs ys = lc (xs.drop j) (ys.drop j))) (fun i _ => xs.length - (intOf i).toNat)
   case atStart => exact ⟨0, 0, rfl, by omega, rfl, Lib.hid rfl⟩
   case round =>
    obtain ⟨j, r, rfl, hk, rfl, HI⟩ := hrel
    have k0 : (0 : Int) <= j := by omega
    by_cases hlt : j < xs.length
    ·have hst := Lib.hid (lc_step (xs := xs) (ys := ys) hlt (by rw [<- HL.out]; exact hlt))
     obtain ⟨b, o, rfl, c0, c1⟩ := RA1.out j hlt
     obtain ⟨b', o', rfl, d0, d1⟩ := RB1.out j (by rw [<- HL.out]; exact hlt)
     obtain ⟨x, hx⟩ : ∃ x, xs.getD j mo0 = x := ⟨_, rfl⟩
     obtain ⟨y, hy⟩ : ∃ y, ys.getD j mo0 = y := ⟨_, rfl⟩
     rw [hx] at c0 c1
     rw [hy] at d0 d1
     have hst := Lib.hid (by have h := hst.out; rw [hx, hy] at h; exact h)
     clear hx hy
     obtain ⟨s, a⟩ := x
     obtain ⟨t, e⟩ := y
     simp only at c0 c1 d0 d1
     have k1 : (j : Int) < xs.length := by omega
     have E1 := cs_eq s t
     by_cases hz : mc (s, a) (t, e) = 0
     ·have he := mc_zero.1 hz
      injection he with he1 he2
      subst he1 he2
      have HI2 : Hid (lc xs ys = lc (xs.drop (j + 1)) (ys.drop (j + 1))) := Lib.hid (by rw [HI.out, hst.out, if_pos hz])
      clear hz E1 hst HI
      go_wp2
      go_quiet (fail)
      go_wp2
      go_roundw
      case rel => exact ⟨j + 1, _, by go_num, by omega, rfl, HI2⟩
      case measure => simp [intOf]; omega
     ·have HR : Hid (decide (lc xs ys = 0) = false) := Lib.hid (decide_eq_false (by rw [HI.out, hst.out, if_neg hz]; exact hz))
      have hne : (s.toList == t.toList && a == e) = false := by
       rw [E1]
       by_cases h1 : cs s t = 0
       ·have : a ≠ e := fun h => hz (mc_zero.2 (by rw [cs_zero.1 h1, h]))
        rw [beq_false_of_ne this, Bool.and_false]
       ·rw [decide_eq_false h1, Bool.false_and]
      clear hz E1 hst HI
      obtain ⟨q1, h1⟩ : ∃ q1, (s.toList == t.toList) = q1 := ⟨_, rfl⟩
      obtain ⟨q2, h2⟩ : ∃ q2, (a == e) = q2 := ⟨_, rfl⟩
      rw [h1, h2] at hne
      cases q1 <;> cases q2 <;> first | (exfalso; exact Bool.noConfusion hne) | skip
      all_goals
       clear hne
       go_wp2
       go_quiet (fail)
       go_wp2
       go_ret
       exact ⟨ret_bool HR.out.symm, below_drewN (below_drewN B0 _) _⟩
    ·have k1 : ¬ (j : Int) < xs.length := by omega
     have HR := Lib.hid (decide_eq_true (show lc xs ys = 0 by rw [HI.out, lc_same (by omega) (by have := HL.out; omega)]))
     go_wp2
     go_ret
     exact ⟨ret_bool HR.out.symm, below_drewN B0 _⟩
  ·have HR : decide (lc xs ys = 0) = false := decide_eq_false (fun h => hl (by rw [(lc_zero _ _).1 h]))
   have hb : ((xs.length : Int) == (ys.length : Int)) = false := beq_false_of_ne (by omega)
   rw [HR]
   go_enter Tryd.func66, Tryd.ntmps66
   go_wp2
   go_ret
   exact ⟨rfl, B0⟩
 ·have hkb : (k == k') = false := beq_false_of_ne hk
  rw [hkb, Bool.false_and]
  go_enter Tryd.func66, Tryd.ntmps66
  go_wp2
  go_ret
  exact ⟨rfl, B0⟩

end Go.Proofs.YtbicmlkjonaccaaDoor.Ln


namespace Go.Proofs.YtbicmlkjonaccaaDoor.Ln
open Go.ChangeShapes Go.WideShapes Go.ChangeAt Go.RowKit
open Go.Proofs.YtbicmlkjonaccaaDoor.Nm
set_option linter.unusedVariables false
set_option linter.unusedSimpArgs false
set_option maxRecDepth 8000

set_option maxHeartbeats 4000000 in
theorem rmono (k : Int) (p : Option Addr) (xs : List Mo) (c : Nat) (k' : Int) (q : Option Addr) (ys : List Mo) (d : Nat) (w : World) (hn : xs.length <= maxLen) (hm : ys.length <= maxLen) (RA : Hid (SlM w p xs)) (RB : Hid (SlM w q ys)) :
  Calls Tryd.prog 76 #[Lv k p xs.length c, Lv k' q ys.length d] w fun e w' => e = .returned (.bool (decide (lc xs ys = 0))) /\ Below w.heap.size w w' := by
 have B0 : Below w.heap.size w ((w.alloc (Obj.cells #[Value.int .i64 k, Value.slice p xs.length c] 24)).alloc (Obj.cells #[Value.int .i64 k', Value.slice q ys.length d] 24)) := two_below _ _
 have LE0 := fun w h1 h2 => linB 0 p xs c 0 q ys d w hn hm h1 h2
 have hq : decide (cl 0 xs 0 ys = 0) = decide (lc xs ys = 0) := by rw [decide_eq_decide, cl_zero, lc_zero]; simp
 rw [hq] at LE0
 have LE := Lib.hid LE0
 generalize decide (lc xs ys = 0) = v at *
 unfold Lv at LE ⊢
 clear hq LE0
 go_enter Tryd.func76, Tryd.ntmps76
 go_wp2_with (go_at_call 66; (with_reducible refine (LE.out _ (Lib.hid (SlM.keep B0 RA.out)) (Lib.hid (SlM.keep B0 RB.out))).mono ?_); rintro e w1 ⟨rfl, hb⟩; have K := B0.trans (hb.mono B0.size))
 go_ret
 exact ⟨rfl, K⟩
/-- The stronger of two elements. -/
def strE (a b : E5) : E5 × Bool := if a.2.2.2.2 = true then (a, if b.2.2.2.2 = true then a.1 == b.1 else decide (a.1 <= b.1)) else if b.2.2.2.2 = true then (b, decide (b.1 <= a.1)) else if b.1 < a.1 then (b, true) else (a, true)
theorem strE_Q {w : World} {a b : E5} {x y : Qm} (h : Std w a x) (g : Std w b y) : Std w (strE a b).1 (strQ x y).1 /\ (strE a b).2 = (strQ x y).2 := by
 unfold strE strQ
 rw [h.1, h.2.2.1, g.1, g.2.2.1]
 split
 ·exact ⟨h, rfl⟩
 ·split
  ·exact ⟨g, rfl⟩
  ·split
   ·exact ⟨g, rfl⟩
   ·exact ⟨h, rfl⟩

set_option maxRecDepth 100000 in
set_option maxHeartbeats 8000000 in
theorem rstr_tt (ka : Int) (pa : Option Addr) (na ca : Nat) (kb : Int) (pb : Option Addr) (nb cb : Nat) (w : World)  :
  Calls Tryd.prog 77 #[.agg #[.int .i64 ka, .slice pa na ca, .bool true], .agg #[.int .i64 kb, .slice pb nb cb, .bool true]] w fun e w' => e = .returned (.tuple #[.agg #[.int .i64 ka, .slice pa na ca, .bool true], .bool (ka == kb)]) /\ Below w.heap.size w w' := by
 have BZ : Below w.heap.size w (((w.alloc (Obj.cells #[Value.int .i64 ka, Value.slice pa na ca, Value.bool true] 36)).alloc (Obj.cells #[Value.int .i64 kb, Value.slice pb nb cb, Value.bool true] 36)).alloc (Obj.cells #[Value.int .i64 0, Value.slice none 0 0, Value.bool false] 36)) := (((Below.refl _ _).alloc (Nat.le_refl _) _).alloc (by simp) _).alloc (by simp; omega) _
 have lz : w.heap.size + 1 + 1 < (((w.alloc (Obj.cells #[Value.int .i64 ka, Value.slice pa na ca, Value.bool true] 36)).alloc (Obj.cells #[Value.int .i64 kb, Value.slice pb nb cb, Value.bool true] 36)).alloc (Obj.cells #[Value.int .i64 0, Value.slice none 0 0, Value.bool false] 36)).heap.size := by simp
 have a0 : (((w.alloc (Obj.cells #[Value.int .i64 ka, Value.slice pa na ca, Value.bool true] 36)).alloc (Obj.cells #[Value.int .i64 kb, Value.slice pb nb cb, Value.bool true] 36)).alloc (Obj.cells #[Value.int .i64 0, Value.slice none 0 0, Value.bool false] 36)).cell? ⟨w.heap.size, 0, none⟩ = some (.int .i64 ka) := by go_cell
 have a1 : (((w.alloc (Obj.cells #[Value.int .i64 ka, Value.slice pa na ca, Value.bool true] 36)).alloc (Obj.cells #[Value.int .i64 kb, Value.slice pb nb cb, Value.bool true] 36)).alloc (Obj.cells #[Value.int .i64 0, Value.slice none 0 0, Value.bool false] 36)).cell? ⟨w.heap.size, 1, none⟩ = some (.slice pa na ca) := by go_cell
 have a2 : (((w.alloc (Obj.cells #[Value.int .i64 ka, Value.slice pa na ca, Value.bool true] 36)).alloc (Obj.cells #[Value.int .i64 kb, Value.slice pb nb cb, Value.bool true] 36)).alloc (Obj.cells #[Value.int .i64 0, Value.slice none 0 0, Value.bool false] 36)).cell? ⟨w.heap.size, 2, none⟩ = some (.bool true) := by go_cell
 have b0 : (((w.alloc (Obj.cells #[Value.int .i64 ka, Value.slice pa na ca, Value.bool true] 36)).alloc (Obj.cells #[Value.int .i64 kb, Value.slice pb nb cb, Value.bool true] 36)).alloc (Obj.cells #[Value.int .i64 0, Value.slice none 0 0, Value.bool false] 36)).cell? ⟨w.heap.size + 1, 0, none⟩ = some (.int .i64 kb) := by go_cell
 have b1 : (((w.alloc (Obj.cells #[Value.int .i64 ka, Value.slice pa na ca, Value.bool true] 36)).alloc (Obj.cells #[Value.int .i64 kb, Value.slice pb nb cb, Value.bool true] 36)).alloc (Obj.cells #[Value.int .i64 0, Value.slice none 0 0, Value.bool false] 36)).cell? ⟨w.heap.size + 1, 1, none⟩ = some (.slice pb nb cb) := by go_cell
 have b2 : (((w.alloc (Obj.cells #[Value.int .i64 ka, Value.slice pa na ca, Value.bool true] 36)).alloc (Obj.cells #[Value.int .i64 kb, Value.slice pb nb cb, Value.bool true] 36)).alloc (Obj.cells #[Value.int .i64 0, Value.slice none 0 0, Value.bool false] 36)).cell? ⟨w.heap.size + 1, 2, none⟩ = some (.bool true) := by go_cell
 have z0 : (((w.alloc (Obj.cells #[Value.int .i64 ka, Value.slice pa na ca, Value.bool true] 36)).alloc (Obj.cells #[Value.int .i64 kb, Value.slice pb nb cb, Value.bool true] 36)).alloc (Obj.cells #[Value.int .i64 0, Value.slice none 0 0, Value.bool false] 36)).cell? ⟨w.heap.size + 1 + 1, 0, none⟩ = some (.int .i64 0) := by go_cell
 have z1 : (((w.alloc (Obj.cells #[Value.int .i64 ka, Value.slice pa na ca, Value.bool true] 36)).alloc (Obj.cells #[Value.int .i64 kb, Value.slice pb nb cb, Value.bool true] 36)).alloc (Obj.cells #[Value.int .i64 0, Value.slice none 0 0, Value.bool false] 36)).cell? ⟨w.heap.size + 1 + 1, 1, none⟩ = some (.slice none 0 0) := by go_cell
 have z2 : (((w.alloc (Obj.cells #[Value.int .i64 ka, Value.slice pa na ca, Value.bool true] 36)).alloc (Obj.cells #[Value.int .i64 kb, Value.slice pb nb cb, Value.bool true] 36)).alloc (Obj.cells #[Value.int .i64 0, Value.slice none 0 0, Value.bool false] 36)).cell? ⟨w.heap.size + 1 + 1, 2, none⟩ = some (.bool false) := by go_cell
 have f0 : (((w.alloc (Obj.cells #[Value.int .i64 ka, Value.slice pa na ca, Value.bool true] 36)).alloc (Obj.cells #[Value.int .i64 kb, Value.slice pb nb cb, Value.bool true] 36)).alloc (Obj.cells #[Value.int .i64 0, Value.slice none 0 0, Value.bool false] 36)).frozen? ⟨w.heap.size + 1 + 1, 0, none⟩ = false := by go_cell
 have f1 : (((w.alloc (Obj.cells #[Value.int .i64 ka, Value.slice pa na ca, Value.bool true] 36)).alloc (Obj.cells #[Value.int .i64 kb, Value.slice pb nb cb, Value.bool true] 36)).alloc (Obj.cells #[Value.int .i64 0, Value.slice none 0 0, Value.bool false] 36)).frozen? ⟨w.heap.size + 1 + 1, 1, none⟩ = false := by go_cell
 have f2 : (((w.alloc (Obj.cells #[Value.int .i64 ka, Value.slice pa na ca, Value.bool true] 36)).alloc (Obj.cells #[Value.int .i64 kb, Value.slice pb nb cb, Value.bool true] 36)).alloc (Obj.cells #[Value.int .i64 0, Value.slice none 0 0, Value.bool false] 36)).frozen? ⟨w.heap.size + 1 + 1, 2, none⟩ = false := by go_cell
 go_enter Tryd.func77, Tryd.ntmps77
 go_wp2_with fail
 generalize (((w.alloc (Obj.cells #[Value.int .i64 ka, Value.slice pa na ca, Value.bool true] 36)).alloc (Obj.cells #[Value.int .i64 kb, Value.slice pb nb cb, Value.bool true] 36)).alloc (Obj.cells #[Value.int .i64 0, Value.slice none 0 0, Value.bool false] 36)) = z at *
 go_region
 all_goals
  go_wp2_with fail
  refine bodyPost_ret (v := .tuple #[.agg #[.int .i64 ka, .slice pa na ca, .bool true], .bool (ka == kb)]) (by simp [results, Tryd.results77, go_sem, a0, a1, a2, b0, b1, b2, z0, z1, z2, f0, f1, f2, lz]) rfl ⟨rfl, ?_⟩
  (repeat' (first | exact BZ | (apply Below.drew) | (refine Below.setCell ?_ (by dsimp only; omega) _)))

set_option maxRecDepth 100000 in
set_option maxHeartbeats 8000000 in
theorem rstr_tf (ka : Int) (pa : Option Addr) (na ca : Nat) (kb : Int) (pb : Option Addr) (nb cb : Nat) (w : World)  :
  Calls Tryd.prog 77 #[.agg #[.int .i64 ka, .slice pa na ca, .bool true], .agg #[.int .i64 kb, .slice pb nb cb, .bool false]] w fun e w' => e = .returned (.tuple #[.agg #[.int .i64 ka, .slice pa na ca, .bool true], .bool (decide (ka <= kb))]) /\ Below w.heap.size w w' := by
 have BZ : Below w.heap.size w (((w.alloc (Obj.cells #[Value.int .i64 ka, Value.slice pa na ca, Value.bool true] 36)).alloc (Obj.cells #[Value.int .i64 kb, Value.slice pb nb cb, Value.bool false] 36)).alloc (Obj.cells #[Value.int .i64 0, Value.slice none 0 0, Value.bool false] 36)) := (((Below.refl _ _).alloc (Nat.le_refl _) _).alloc (by simp) _).alloc (by simp; omega) _
 have lz : w.heap.size + 1 + 1 < (((w.alloc (Obj.cells #[Value.int .i64 ka, Value.slice pa na ca, Value.bool true] 36)).alloc (Obj.cells #[Value.int .i64 kb, Value.slice pb nb cb, Value.bool false] 36)).alloc (Obj.cells #[Value.int .i64 0, Value.slice none 0 0, Value.bool false] 36)).heap.size := by simp
 have a0 : (((w.alloc (Obj.cells #[Value.int .i64 ka, Value.slice pa na ca, Value.bool true] 36)).alloc (Obj.cells #[Value.int .i64 kb, Value.slice pb nb cb, Value.bool false] 36)).alloc (Obj.cells #[Value.int .i64 0, Value.slice none 0 0, Value.bool false] 36)).cell? ⟨w.heap.size, 0, none⟩ = some (.int .i64 ka) := by go_cell
 have a1 : (((w.alloc (Obj.cells #[Value.int .i64 ka, Value.slice pa na ca, Value.bool true] 36)).alloc (Obj.cells #[Value.int .i64 kb, Value.slice pb nb cb, Value.bool false] 36)).alloc (Obj.cells #[Value.int .i64 0, Value.slice none 0 0, Value.bool false] 36)).cell? ⟨w.heap.size, 1, none⟩ = some (.slice pa na ca) := by go_cell
 have a2 : (((w.alloc (Obj.cells #[Value.int .i64 ka, Value.slice pa na ca, Value.bool true] 36)).alloc (Obj.cells #[Value.int .i64 kb, Value.slice pb nb cb, Value.bool false] 36)).alloc (Obj.cells #[Value.int .i64 0, Value.slice none 0 0, Value.bool false] 36)).cell? ⟨w.heap.size, 2, none⟩ = some (.bool true) := by go_cell
 have b0 : (((w.alloc (Obj.cells #[Value.int .i64 ka, Value.slice pa na ca, Value.bool true] 36)).alloc (Obj.cells #[Value.int .i64 kb, Value.slice pb nb cb, Value.bool false] 36)).alloc (Obj.cells #[Value.int .i64 0, Value.slice none 0 0, Value.bool false] 36)).cell? ⟨w.heap.size + 1, 0, none⟩ = some (.int .i64 kb) := by go_cell
 have b1 : (((w.alloc (Obj.cells #[Value.int .i64 ka, Value.slice pa na ca, Value.bool true] 36)).alloc (Obj.cells #[Value.int .i64 kb, Value.slice pb nb cb, Value.bool false] 36)).alloc (Obj.cells #[Value.int .i64 0, Value.slice none 0 0, Value.bool false] 36)).cell? ⟨w.heap.size + 1, 1, none⟩ = some (.slice pb nb cb) := by go_cell
 have b2 : (((w.alloc (Obj.cells #[Value.int .i64 ka, Value.slice pa na ca, Value.bool true] 36)).alloc (Obj.cells #[Value.int .i64 kb, Value.slice pb nb cb, Value.bool false] 36)).alloc (Obj.cells #[Value.int .i64 0, Value.slice none 0 0, Value.bool false] 36)).cell? ⟨w.heap.size + 1, 2, none⟩ = some (.bool false) := by go_cell
 have z0 : (((w.alloc (Obj.cells #[Value.int .i64 ka, Value.slice pa na ca, Value.bool true] 36)).alloc (Obj.cells #[Value.int .i64 kb, Value.slice pb nb cb, Value.bool false] 36)).alloc (Obj.cells #[Value.int .i64 0, Value.slice none 0 0, Value.bool false] 36)).cell? ⟨w.heap.size + 1 + 1, 0, none⟩ = some (.int .i64 0) := by go_cell
 have z1 : (((w.alloc (Obj.cells #[Value.int .i64 ka, Value.slice pa na ca, Value.bool true] 36)).alloc (Obj.cells #[Value.int .i64 kb, Value.slice pb nb cb, Value.bool false] 36)).alloc (Obj.cells #[Value.int .i64 0, Value.slice none 0 0, Value.bool false] 36)).cell? ⟨w.heap.size + 1 + 1, 1, none⟩ = some (.slice none 0 0) := by go_cell
 have z2 : (((w.alloc (Obj.cells #[Value.int .i64 ka, Value.slice pa na ca, Value.bool true] 36)).alloc (Obj.cells #[Value.int .i64 kb, Value.slice pb nb cb, Value.bool false] 36)).alloc (Obj.cells #[Value.int .i64 0, Value.slice none 0 0, Value.bool false] 36)).cell? ⟨w.heap.size + 1 + 1, 2, none⟩ = some (.bool false) := by go_cell
 have f0 : (((w.alloc (Obj.cells #[Value.int .i64 ka, Value.slice pa na ca, Value.bool true] 36)).alloc (Obj.cells #[Value.int .i64 kb, Value.slice pb nb cb, Value.bool false] 36)).alloc (Obj.cells #[Value.int .i64 0, Value.slice none 0 0, Value.bool false] 36)).frozen? ⟨w.heap.size + 1 + 1, 0, none⟩ = false := by go_cell
 have f1 : (((w.alloc (Obj.cells #[Value.int .i64 ka, Value.slice pa na ca, Value.bool true] 36)).alloc (Obj.cells #[Value.int .i64 kb, Value.slice pb nb cb, Value.bool false] 36)).alloc (Obj.cells #[Value.int .i64 0, Value.slice none 0 0, Value.bool false] 36)).frozen? ⟨w.heap.size + 1 + 1, 1, none⟩ = false := by go_cell
 have f2 : (((w.alloc (Obj.cells #[Value.int .i64 ka, Value.slice pa na ca, Value.bool true] 36)).alloc (Obj.cells #[Value.int .i64 kb, Value.slice pb nb cb, Value.bool false] 36)).alloc (Obj.cells #[Value.int .i64 0, Value.slice none 0 0, Value.bool false] 36)).frozen? ⟨w.heap.size + 1 + 1, 2, none⟩ = false := by go_cell
 go_enter Tryd.func77, Tryd.ntmps77
 go_wp2_with fail
 generalize (((w.alloc (Obj.cells #[Value.int .i64 ka, Value.slice pa na ca, Value.bool true] 36)).alloc (Obj.cells #[Value.int .i64 kb, Value.slice pb nb cb, Value.bool false] 36)).alloc (Obj.cells #[Value.int .i64 0, Value.slice none 0 0, Value.bool false] 36)) = z at *
 go_region
 all_goals
  go_wp2_with fail
  refine bodyPost_ret (v := .tuple #[.agg #[.int .i64 ka, .slice pa na ca, .bool true], .bool (decide (ka <= kb))]) (by simp [results, Tryd.results77, go_sem, a0, a1, a2, b0, b1, b2, z0, z1, z2, f0, f1, f2, lz]) rfl ⟨rfl, ?_⟩
  (repeat' (first | exact BZ | (apply Below.drew) | (refine Below.setCell ?_ (by dsimp only; omega) _)))

set_option maxRecDepth 100000 in
set_option maxHeartbeats 8000000 in
theorem rstr_ft (ka : Int) (pa : Option Addr) (na ca : Nat) (kb : Int) (pb : Option Addr) (nb cb : Nat) (w : World)  :
  Calls Tryd.prog 77 #[.agg #[.int .i64 ka, .slice pa na ca, .bool false], .agg #[.int .i64 kb, .slice pb nb cb, .bool true]] w fun e w' => e = .returned (.tuple #[.agg #[.int .i64 kb, .slice pb nb cb, .bool true], .bool (decide (kb <= ka))]) /\ Below w.heap.size w w' := by
 have BZ : Below w.heap.size w (((w.alloc (Obj.cells #[Value.int .i64 ka, Value.slice pa na ca, Value.bool false] 36)).alloc (Obj.cells #[Value.int .i64 kb, Value.slice pb nb cb, Value.bool true] 36)).alloc (Obj.cells #[Value.int .i64 0, Value.slice none 0 0, Value.bool false] 36)) := (((Below.refl _ _).alloc (Nat.le_refl _) _).alloc (by simp) _).alloc (by simp; omega) _
 have lz : w.heap.size + 1 + 1 < (((w.alloc (Obj.cells #[Value.int .i64 ka, Value.slice pa na ca, Value.bool false] 36)).alloc (Obj.cells #[Value.int .i64 kb, Value.slice pb nb cb, Value.bool true] 36)).alloc (Obj.cells #[Value.int .i64 0, Value.slice none 0 0, Value.bool false] 36)).heap.size := by simp
 have a0 : (((w.alloc (Obj.cells #[Value.int .i64 ka, Value.slice pa na ca, Value.bool false] 36)).alloc (Obj.cells #[Value.int .i64 kb, Value.slice pb nb cb, Value.bool true] 36)).alloc (Obj.cells #[Value.int .i64 0, Value.slice none 0 0, Value.bool false] 36)).cell? ⟨w.heap.size, 0, none⟩ = some (.int .i64 ka) := by go_cell
 have a1 : (((w.alloc (Obj.cells #[Value.int .i64 ka, Value.slice pa na ca, Value.bool false] 36)).alloc (Obj.cells #[Value.int .i64 kb, Value.slice pb nb cb, Value.bool true] 36)).alloc (Obj.cells #[Value.int .i64 0, Value.slice none 0 0, Value.bool false] 36)).cell? ⟨w.heap.size, 1, none⟩ = some (.slice pa na ca) := by go_cell
 have a2 : (((w.alloc (Obj.cells #[Value.int .i64 ka, Value.slice pa na ca, Value.bool false] 36)).alloc (Obj.cells #[Value.int .i64 kb, Value.slice pb nb cb, Value.bool true] 36)).alloc (Obj.cells #[Value.int .i64 0, Value.slice none 0 0, Value.bool false] 36)).cell? ⟨w.heap.size, 2, none⟩ = some (.bool false) := by go_cell
 have b0 : (((w.alloc (Obj.cells #[Value.int .i64 ka, Value.slice pa na ca, Value.bool false] 36)).alloc (Obj.cells #[Value.int .i64 kb, Value.slice pb nb cb, Value.bool true] 36)).alloc (Obj.cells #[Value.int .i64 0, Value.slice none 0 0, Value.bool false] 36)).cell? ⟨w.heap.size + 1, 0, none⟩ = some (.int .i64 kb) := by go_cell
 have b1 : (((w.alloc (Obj.cells #[Value.int .i64 ka, Value.slice pa na ca, Value.bool false] 36)).alloc (Obj.cells #[Value.int .i64 kb, Value.slice pb nb cb, Value.bool true] 36)).alloc (Obj.cells #[Value.int .i64 0, Value.slice none 0 0, Value.bool false] 36)).cell? ⟨w.heap.size + 1, 1, none⟩ = some (.slice pb nb cb) := by go_cell
 have b2 : (((w.alloc (Obj.cells #[Value.int .i64 ka, Value.slice pa na ca, Value.bool false] 36)).alloc (Obj.cells #[Value.int .i64 kb, Value.slice pb nb cb, Value.bool true] 36)).alloc (Obj.cells #[Value.int .i64 0, Value.slice none 0 0, Value.bool false] 36)).cell? ⟨w.heap.size + 1, 2, none⟩ = some (.bool true) := by go_cell
 have z0 : (((w.alloc (Obj.cells #[Value.int .i64 ka, Value.slice pa na ca, Value.bool false] 36)).alloc (Obj.cells #[Value.int .i64 kb, Value.slice pb nb cb, Value.bool true] 36)).alloc (Obj.cells #[Value.int .i64 0, Value.slice none 0 0, Value.bool false] 36)).cell? ⟨w.heap.size + 1 + 1, 0, none⟩ = some (.int .i64 0) := by go_cell
 have z1 : (((w.alloc (Obj.cells #[Value.int .i64 ka, Value.slice pa na ca, Value.bool false] 36)).alloc (Obj.cells #[Value.int .i64 kb, Value.slice pb nb cb, Value.bool true] 36)).alloc (Obj.cells #[Value.int .i64 0, Value.slice none 0 0, Value.bool false] 36)).cell? ⟨w.heap.size + 1 + 1, 1, none⟩ = some (.slice none 0 0) := by go_cell
 have z2 : (((w.alloc (Obj.cells #[Value.int .i64 ka, Value.slice pa na ca, Value.bool false] 36)).alloc (Obj.cells #[Value.int .i64 kb, Value.slice pb nb cb, Value.bool true] 36)).alloc (Obj.cells #[Value.int .i64 0, Value.slice none 0 0, Value.bool false] 36)).cell? ⟨w.heap.size + 1 + 1, 2, none⟩ = some (.bool false) := by go_cell
 have f0 : (((w.alloc (Obj.cells #[Value.int .i64 ka, Value.slice pa na ca, Value.bool false] 36)).alloc (Obj.cells #[Value.int .i64 kb, Value.slice pb nb cb, Value.bool true] 36)).alloc (Obj.cells #[Value.int .i64 0, Value.slice none 0 0, Value.bool false] 36)).frozen? ⟨w.heap.size + 1 + 1, 0, none⟩ = false := by go_cell
 have f1 : (((w.alloc (Obj.cells #[Value.int .i64 ka, Value.slice pa na ca, Value.bool false] 36)).alloc (Obj.cells #[Value.int .i64 kb, Value.slice pb nb cb, Value.bool true] 36)).alloc (Obj.cells #[Value.int .i64 0, Value.slice none 0 0, Value.bool false] 36)).frozen? ⟨w.heap.size + 1 + 1, 1, none⟩ = false := by go_cell
 have f2 : (((w.alloc (Obj.cells #[Value.int .i64 ka, Value.slice pa na ca, Value.bool false] 36)).alloc (Obj.cells #[Value.int .i64 kb, Value.slice pb nb cb, Value.bool true] 36)).alloc (Obj.cells #[Value.int .i64 0, Value.slice none 0 0, Value.bool false] 36)).frozen? ⟨w.heap.size + 1 + 1, 2, none⟩ = false := by go_cell
 go_enter Tryd.func77, Tryd.ntmps77
 go_wp2_with fail
 generalize (((w.alloc (Obj.cells #[Value.int .i64 ka, Value.slice pa na ca, Value.bool false] 36)).alloc (Obj.cells #[Value.int .i64 kb, Value.slice pb nb cb, Value.bool true] 36)).alloc (Obj.cells #[Value.int .i64 0, Value.slice none 0 0, Value.bool false] 36)) = z at *
 go_region
 all_goals
  go_wp2_with fail
  refine bodyPost_ret (v := .tuple #[.agg #[.int .i64 kb, .slice pb nb cb, .bool true], .bool (decide (kb <= ka))]) (by simp [results, Tryd.results77, go_sem, a0, a1, a2, b0, b1, b2, z0, z1, z2, f0, f1, f2, lz]) rfl ⟨rfl, ?_⟩
  (repeat' (first | exact BZ | (apply Below.drew) | (refine Below.setCell ?_ (by dsimp only; omega) _)))

set_option maxRecDepth 100000 in
set_option maxHeartbeats 8000000 in
theorem rstr_l (ka : Int) (pa : Option Addr) (na ca : Nat) (kb : Int) (pb : Option Addr) (nb cb : Nat) (w : World) (h : kb < ka) :
  Calls Tryd.prog 77 #[.agg #[.int .i64 ka, .slice pa na ca, .bool false], .agg #[.int .i64 kb, .slice pb nb cb, .bool false]] w fun e w' => e = .returned (.tuple #[.agg #[.int .i64 kb, .slice pb nb cb, .bool false], .bool (true)]) /\ Below w.heap.size w w' := by
 have BZ : Below w.heap.size w (((w.alloc (Obj.cells #[Value.int .i64 ka, Value.slice pa na ca, Value.bool false] 36)).alloc (Obj.cells #[Value.int .i64 kb, Value.slice pb nb cb, Value.bool false] 36)).alloc (Obj.cells #[Value.int .i64 0, Value.slice none 0 0, Value.bool false] 36)) := (((Below.refl _ _).alloc (Nat.le_refl _) _).alloc (by simp) _).alloc (by simp; omega) _
 have lz : w.heap.size + 1 + 1 < (((w.alloc (Obj.cells #[Value.int .i64 ka, Value.slice pa na ca, Value.bool false] 36)).alloc (Obj.cells #[Value.int .i64 kb, Value.slice pb nb cb, Value.bool false] 36)).alloc (Obj.cells #[Value.int .i64 0, Value.slice none 0 0, Value.bool false] 36)).heap.size := by simp
 have a0 : (((w.alloc (Obj.cells #[Value.int .i64 ka, Value.slice pa na ca, Value.bool false] 36)).alloc (Obj.cells #[Value.int .i64 kb, Value.slice pb nb cb, Value.bool false] 36)).alloc (Obj.cells #[Value.int .i64 0, Value.slice none 0 0, Value.bool false] 36)).cell? ⟨w.heap.size, 0, none⟩ = some (.int .i64 ka) := by go_cell
 have a1 : (((w.alloc (Obj.cells #[Value.int .i64 ka, Value.slice pa na ca, Value.bool false] 36)).alloc (Obj.cells #[Value.int .i64 kb, Value.slice pb nb cb, Value.bool false] 36)).alloc (Obj.cells #[Value.int .i64 0, Value.slice none 0 0, Value.bool false] 36)).cell? ⟨w.heap.size, 1, none⟩ = some (.slice pa na ca) := by go_cell
 have a2 : (((w.alloc (Obj.cells #[Value.int .i64 ka, Value.slice pa na ca, Value.bool false] 36)).alloc (Obj.cells #[Value.int .i64 kb, Value.slice pb nb cb, Value.bool false] 36)).alloc (Obj.cells #[Value.int .i64 0, Value.slice none 0 0, Value.bool false] 36)).cell? ⟨w.heap.size, 2, none⟩ = some (.bool false) := by go_cell
 have b0 : (((w.alloc (Obj.cells #[Value.int .i64 ka, Value.slice pa na ca, Value.bool false] 36)).alloc (Obj.cells #[Value.int .i64 kb, Value.slice pb nb cb, Value.bool false] 36)).alloc (Obj.cells #[Value.int .i64 0, Value.slice none 0 0, Value.bool false] 36)).cell? ⟨w.heap.size + 1, 0, none⟩ = some (.int .i64 kb) := by go_cell
 have b1 : (((w.alloc (Obj.cells #[Value.int .i64 ka, Value.slice pa na ca, Value.bool false] 36)).alloc (Obj.cells #[Value.int .i64 kb, Value.slice pb nb cb, Value.bool false] 36)).alloc (Obj.cells #[Value.int .i64 0, Value.slice none 0 0, Value.bool false] 36)).cell? ⟨w.heap.size + 1, 1, none⟩ = some (.slice pb nb cb) := by go_cell
 have b2 : (((w.alloc (Obj.cells #[Value.int .i64 ka, Value.slice pa na ca, Value.bool false] 36)).alloc (Obj.cells #[Value.int .i64 kb, Value.slice pb nb cb, Value.bool false] 36)).alloc (Obj.cells #[Value.int .i64 0, Value.slice none 0 0, Value.bool false] 36)).cell? ⟨w.heap.size + 1, 2, none⟩ = some (.bool false) := by go_cell
 have z0 : (((w.alloc (Obj.cells #[Value.int .i64 ka, Value.slice pa na ca, Value.bool false] 36)).alloc (Obj.cells #[Value.int .i64 kb, Value.slice pb nb cb, Value.bool false] 36)).alloc (Obj.cells #[Value.int .i64 0, Value.slice none 0 0, Value.bool false] 36)).cell? ⟨w.heap.size + 1 + 1, 0, none⟩ = some (.int .i64 0) := by go_cell
 have z1 : (((w.alloc (Obj.cells #[Value.int .i64 ka, Value.slice pa na ca, Value.bool false] 36)).alloc (Obj.cells #[Value.int .i64 kb, Value.slice pb nb cb, Value.bool false] 36)).alloc (Obj.cells #[Value.int .i64 0, Value.slice none 0 0, Value.bool false] 36)).cell? ⟨w.heap.size + 1 + 1, 1, none⟩ = some (.slice none 0 0) := by go_cell
 have z2 : (((w.alloc (Obj.cells #[Value.int .i64 ka, Value.slice pa na ca, Value.bool false] 36)).alloc (Obj.cells #[Value.int .i64 kb, Value.slice pb nb cb, Value.bool false] 36)).alloc (Obj.cells #[Value.int .i64 0, Value.slice none 0 0, Value.bool false] 36)).cell? ⟨w.heap.size + 1 + 1, 2, none⟩ = some (.bool false) := by go_cell
 have f0 : (((w.alloc (Obj.cells #[Value.int .i64 ka, Value.slice pa na ca, Value.bool false] 36)).alloc (Obj.cells #[Value.int .i64 kb, Value.slice pb nb cb, Value.bool false] 36)).alloc (Obj.cells #[Value.int .i64 0, Value.slice none 0 0, Value.bool false] 36)).frozen? ⟨w.heap.size + 1 + 1, 0, none⟩ = false := by go_cell
 have f1 : (((w.alloc (Obj.cells #[Value.int .i64 ka, Value.slice pa na ca, Value.bool false] 36)).alloc (Obj.cells #[Value.int .i64 kb, Value.slice pb nb cb, Value.bool false] 36)).alloc (Obj.cells #[Value.int .i64 0, Value.slice none 0 0, Value.bool false] 36)).frozen? ⟨w.heap.size + 1 + 1, 1, none⟩ = false := by go_cell
 have f2 : (((w.alloc (Obj.cells #[Value.int .i64 ka, Value.slice pa na ca, Value.bool false] 36)).alloc (Obj.cells #[Value.int .i64 kb, Value.slice pb nb cb, Value.bool false] 36)).alloc (Obj.cells #[Value.int .i64 0, Value.slice none 0 0, Value.bool false] 36)).frozen? ⟨w.heap.size + 1 + 1, 2, none⟩ = false := by go_cell
 go_enter Tryd.func77, Tryd.ntmps77
 go_wp2_with fail
 generalize (((w.alloc (Obj.cells #[Value.int .i64 ka, Value.slice pa na ca, Value.bool false] 36)).alloc (Obj.cells #[Value.int .i64 kb, Value.slice pb nb cb, Value.bool false] 36)).alloc (Obj.cells #[Value.int .i64 0, Value.slice none 0 0, Value.bool false] 36)) = z at *
 go_wp2_with fail
 refine bodyPost_ret (v := .tuple #[.agg #[.int .i64 kb, .slice pb nb cb, .bool false], .bool (true)]) (by simp [results, Tryd.results77, go_sem, a0, a1, a2, b0, b1, b2, z0, z1, z2, f0, f1, f2, lz]) rfl ⟨rfl, ?_⟩
 exact (((Below.refl _ _).alloc (Nat.le_refl _) _).alloc (by simp) _).alloc (by simp; omega) _

set_option maxRecDepth 100000 in
set_option maxHeartbeats 8000000 in
theorem rstr_g (ka : Int) (pa : Option Addr) (na ca : Nat) (kb : Int) (pb : Option Addr) (nb cb : Nat) (w : World) (h : ¬ kb < ka) :
  Calls Tryd.prog 77 #[.agg #[.int .i64 ka, .slice pa na ca, .bool false], .agg #[.int .i64 kb, .slice pb nb cb, .bool false]] w fun e w' => e = .returned (.tuple #[.agg #[.int .i64 ka, .slice pa na ca, .bool false], .bool (true)]) /\ Below w.heap.size w w' := by
 have BZ : Below w.heap.size w (((w.alloc (Obj.cells #[Value.int .i64 ka, Value.slice pa na ca, Value.bool false] 36)).alloc (Obj.cells #[Value.int .i64 kb, Value.slice pb nb cb, Value.bool false] 36)).alloc (Obj.cells #[Value.int .i64 0, Value.slice none 0 0, Value.bool false] 36)) := (((Below.refl _ _).alloc (Nat.le_refl _) _).alloc (by simp) _).alloc (by simp; omega) _
 have lz : w.heap.size + 1 + 1 < (((w.alloc (Obj.cells #[Value.int .i64 ka, Value.slice pa na ca, Value.bool false] 36)).alloc (Obj.cells #[Value.int .i64 kb, Value.slice pb nb cb, Value.bool false] 36)).alloc (Obj.cells #[Value.int .i64 0, Value.slice none 0 0, Value.bool false] 36)).heap.size := by simp
 have a0 : (((w.alloc (Obj.cells #[Value.int .i64 ka, Value.slice pa na ca, Value.bool false] 36)).alloc (Obj.cells #[Value.int .i64 kb, Value.slice pb nb cb, Value.bool false] 36)).alloc (Obj.cells #[Value.int .i64 0, Value.slice none 0 0, Value.bool false] 36)).cell? ⟨w.heap.size, 0, none⟩ = some (.int .i64 ka) := by go_cell
 have a1 : (((w.alloc (Obj.cells #[Value.int .i64 ka, Value.slice pa na ca, Value.bool false] 36)).alloc (Obj.cells #[Value.int .i64 kb, Value.slice pb nb cb, Value.bool false] 36)).alloc (Obj.cells #[Value.int .i64 0, Value.slice none 0 0, Value.bool false] 36)).cell? ⟨w.heap.size, 1, none⟩ = some (.slice pa na ca) := by go_cell
 have a2 : (((w.alloc (Obj.cells #[Value.int .i64 ka, Value.slice pa na ca, Value.bool false] 36)).alloc (Obj.cells #[Value.int .i64 kb, Value.slice pb nb cb, Value.bool false] 36)).alloc (Obj.cells #[Value.int .i64 0, Value.slice none 0 0, Value.bool false] 36)).cell? ⟨w.heap.size, 2, none⟩ = some (.bool false) := by go_cell
 have b0 : (((w.alloc (Obj.cells #[Value.int .i64 ka, Value.slice pa na ca, Value.bool false] 36)).alloc (Obj.cells #[Value.int .i64 kb, Value.slice pb nb cb, Value.bool false] 36)).alloc (Obj.cells #[Value.int .i64 0, Value.slice none 0 0, Value.bool false] 36)).cell? ⟨w.heap.size + 1, 0, none⟩ = some (.int .i64 kb) := by go_cell
 have b1 : (((w.alloc (Obj.cells #[Value.int .i64 ka, Value.slice pa na ca, Value.bool false] 36)).alloc (Obj.cells #[Value.int .i64 kb, Value.slice pb nb cb, Value.bool false] 36)).alloc (Obj.cells #[Value.int .i64 0, Value.slice none 0 0, Value.bool false] 36)).cell? ⟨w.heap.size + 1, 1, none⟩ = some (.slice pb nb cb) := by go_cell
 have b2 : (((w.alloc (Obj.cells #[Value.int .i64 ka, Value.slice pa na ca, Value.bool false] 36)).alloc (Obj.cells #[Value.int .i64 kb, Value.slice pb nb cb, Value.bool false] 36)).alloc (Obj.cells #[Value.int .i64 0, Value.slice none 0 0, Value.bool false] 36)).cell? ⟨w.heap.size + 1, 2, none⟩ = some (.bool false) := by go_cell
 have z0 : (((w.alloc (Obj.cells #[Value.int .i64 ka, Value.slice pa na ca, Value.bool false] 36)).alloc (Obj.cells #[Value.int .i64 kb, Value.slice pb nb cb, Value.bool false] 36)).alloc (Obj.cells #[Value.int .i64 0, Value.slice none 0 0, Value.bool false] 36)).cell? ⟨w.heap.size + 1 + 1, 0, none⟩ = some (.int .i64 0) := by go_cell
 have z1 : (((w.alloc (Obj.cells #[Value.int .i64 ka, Value.slice pa na ca, Value.bool false] 36)).alloc (Obj.cells #[Value.int .i64 kb, Value.slice pb nb cb, Value.bool false] 36)).alloc (Obj.cells #[Value.int .i64 0, Value.slice none 0 0, Value.bool false] 36)).cell? ⟨w.heap.size + 1 + 1, 1, none⟩ = some (.slice none 0 0) := by go_cell
 have z2 : (((w.alloc (Obj.cells #[Value.int .i64 ka, Value.slice pa na ca, Value.bool false] 36)).alloc (Obj.cells #[Value.int .i64 kb, Value.slice pb nb cb, Value.bool false] 36)).alloc (Obj.cells #[Value.int .i64 0, Value.slice none 0 0, Value.bool false] 36)).cell? ⟨w.heap.size + 1 + 1, 2, none⟩ = some (.bool false) := by go_cell
 have f0 : (((w.alloc (Obj.cells #[Value.int .i64 ka, Value.slice pa na ca, Value.bool false] 36)).alloc (Obj.cells #[Value.int .i64 kb, Value.slice pb nb cb, Value.bool false] 36)).alloc (Obj.cells #[Value.int .i64 0, Value.slice none 0 0, Value.bool false] 36)).frozen? ⟨w.heap.size + 1 + 1, 0, none⟩ = false := by go_cell
 have f1 : (((w.alloc (Obj.cells #[Value.int .i64 ka, Value.slice pa na ca, Value.bool false] 36)).alloc (Obj.cells #[Value.int .i64 kb, Value.slice pb nb cb, Value.bool false] 36)).alloc (Obj.cells #[Value.int .i64 0, Value.slice none 0 0, Value.bool false] 36)).frozen? ⟨w.heap.size + 1 + 1, 1, none⟩ = false := by go_cell
 have f2 : (((w.alloc (Obj.cells #[Value.int .i64 ka, Value.slice pa na ca, Value.bool false] 36)).alloc (Obj.cells #[Value.int .i64 kb, Value.slice pb nb cb, Value.bool false] 36)).alloc (Obj.cells #[Value.int .i64 0, Value.slice none 0 0, Value.bool false] 36)).frozen? ⟨w.heap.size + 1 + 1, 2, none⟩ = false := by go_cell
 go_enter Tryd.func77, Tryd.ntmps77
 go_wp2_with fail
 generalize (((w.alloc (Obj.cells #[Value.int .i64 ka, Value.slice pa na ca, Value.bool false] 36)).alloc (Obj.cells #[Value.int .i64 kb, Value.slice pb nb cb, Value.bool false] 36)).alloc (Obj.cells #[Value.int .i64 0, Value.slice none 0 0, Value.bool false] 36)) = z at *
 go_wp2_with fail
 refine bodyPost_ret (v := .tuple #[.agg #[.int .i64 ka, .slice pa na ca, .bool false], .bool (true)]) (by simp [results, Tryd.results77, go_sem, a0, a1, a2, b0, b1, b2, z0, z1, z2, f0, f1, f2, lz]) rfl ⟨rfl, ?_⟩
 exact (((Below.refl _ _).alloc (Nat.le_refl _) _).alloc (by simp) _).alloc (by simp; omega) _

theorem rstr (a b : E5) (w : World) : Calls Tryd.prog 77 #[agE a, agE b] w fun e w' => e = .returned (.tuple #[agE (strE a b).1, .bool (strE a b).2]) /\ Below w.heap.size w w' := by
 obtain ⟨ka, pa, na, ca, ea⟩ := a
 obtain ⟨kb, pb, nb, cb, eb⟩ := b
 unfold agE strE
 dsimp only
 cases ea <;> cases eb
 ·by_cases h : kb < ka
  ·rw [if_neg (by simp), if_neg (by simp), if_pos h]
   exact rstr_l ka pa na ca kb pb nb cb w h
  ·rw [if_neg (by simp), if_neg (by simp), if_neg h]
   exact rstr_g ka pa na ca kb pb nb cb w h
 ·rw [if_neg (by simp), if_pos rfl]
  exact rstr_ft ka pa na ca kb pb nb cb w
 ·rw [if_pos rfl]
  exact rstr_tf ka pa na ca kb pb nb cb w
 ·rw [if_pos rfl]
  exact rstr_tt ka pa na ca kb pb nb cb w
end Go.Proofs.YtbicmlkjonaccaaDoor.Ln


namespace Go.Proofs.YtbicmlkjonaccaaDoor.Ln
open Go.ChangeShapes Go.WideShapes Go.ChangeAt Go.RowKit
set_option linter.unusedVariables false
set_option linter.unusedSimpArgs false
theorem below2c {a w : World} {o o' : Obj} (h : Below a.heap.size a w) : Below a.heap.size a ((w.alloc o).alloc o').drew := ((h.alloc h.size _).alloc (by have := h.size; simp; omega) _).drew
theorem mc_cases (s : ByteArray) (a : Int) (t : ByteArray) (e : Int) :
  (Op.bytesLess s.toList t.toList = true /\ mc (s, a) (t, e) = -1) \/ (Op.bytesLess s.toList t.toList = false /\ (s.toList == t.toList) = false /\ mc (s, a) (t, e) = 1)
  \/ (s = t /\ Op.bytesLess s.toList t.toList = false /\ a < e /\ mc (s, a) (t, e) = -1) \/ (s = t /\ Op.bytesLess s.toList t.toList = false /\ e < a /\ mc (s, a) (t, e) = 1) \/ (s = t /\ Op.bytesLess s.toList t.toList = false /\ a = e /\ mc (s, a) (t, e) = 0) := by
 have hb := cs_bd s t
 rw [cs_less, cs_eq]
 unfold mc
 simp only
 by_cases h0 : cs s t = 0
 ·rw [if_pos h0]
  have h1 : decide (cs s t < 0) = false := decide_eq_false (by omega)
  have h2 := cs_zero.1 h0
  unfold ic
  rcases Int.lt_trichotomy a e with h | h | h
  ·exact .inr (.inr (.inl ⟨h2, h1, h, by rw [if_pos h]⟩))
  ·exact .inr (.inr (.inr (.inr ⟨h2, h1, h, by rw [if_neg (by omega), if_neg (by omega)]⟩)))
  ·exact .inr (.inr (.inr (.inl ⟨h2, h1, h, by rw [if_neg (by omega), if_pos h]⟩)))
 ·rw [if_neg h0]
  by_cases h1 : cs s t < 0
  ·exact .inl ⟨decide_eq_true h1, by omega⟩
  ·exact .inr (.inl ⟨decide_eq_false h1, decide_eq_false h0, by omega⟩)
set_option maxRecDepth 100000 in
set_option maxHeartbeats 8000000 in
theorem cmp2 (k : Int) (p : Option Addr) (xs : List Mo) (c : Nat) (k' : Int) (q : Option Addr) (ys : List Mo) (d : Nat) (w : World) (hn : xs.length <= maxLen) (hm : ys.length <= maxLen) (RA : Hid (SlM w p xs)) (RB : Hid (SlM w q ys)) :
  Calls Tryd.prog 110 #[Lv k p xs.length c, Lv k' q ys.length d] w fun e w' => e = .returned (.int .i64 (cl k xs k' ys)) /\ Below w.heap.size w w' := by
 have B0 : Below w.heap.size w ((w.alloc (Obj.cells #[Value.int .i64 k, Value.slice p xs.length c] 24)).alloc (Obj.cells #[Value.int .i64 k', Value.slice q ys.length d] 24)) := two_below _ _
 have S0 := two_size (w := w) (Obj.cells #[Value.int .i64 k, Value.slice p xs.length c] 24) (Obj.cells #[Value.int .i64 k', Value.slice q ys.length d] 24)
 have f0 : (((w.alloc (Obj.cells #[Value.int .i64 k, Value.slice p xs.length c] 24)).alloc (Obj.cells #[Value.int .i64 k', Value.slice q ys.length d] 24))).cell? ⟨w.heap.size, 0, none⟩ = some (.int .i64 k) := by go_cell
 have f1 : (((w.alloc (Obj.cells #[Value.int .i64 k, Value.slice p xs.length c] 24)).alloc (Obj.cells #[Value.int .i64 k', Value.slice q ys.length d] 24))).cell? ⟨w.heap.size, 1, none⟩ = some (.slice p xs.length c) := by go_cell
 have g0 : (((w.alloc (Obj.cells #[Value.int .i64 k, Value.slice p xs.length c] 24)).alloc (Obj.cells #[Value.int .i64 k', Value.slice q ys.length d] 24))).cell? ⟨w.heap.size + 1, 0, none⟩ = some (.int .i64 k') := by go_cell
 have g1 : (((w.alloc (Obj.cells #[Value.int .i64 k, Value.slice p xs.length c] 24)).alloc (Obj.cells #[Value.int .i64 k', Value.slice q ys.length d] 24))).cell? ⟨w.heap.size + 1, 1, none⟩ = some (.slice q ys.length d) := by go_cell
 unfold maxLen at hn hm
 unfold Lv
 go_enter Tryd.func110, Tryd.ntmps110
 go_wp2
 generalize ((w.alloc (Obj.cells #[Value.int .i64 k, Value.slice p xs.length c] 24)).alloc (Obj.cells #[Value.int .i64 k', Value.slice q ys.length d] 24)) = z at *
 obtain ⟨s1, s2⟩ := S0
 have RA1 := Lib.hid (SlM.keep B0 RA.out)
 have RB1 := Lib.hid (SlM.keep B0 RB.out)
 go_loopw [5] (fun i wr => ∃ j : Nat, i = .int .i64 (j : Int) /\ j <= xs.length /\ j <= ys.length /\ Below z.heap.size z wr /\ Hid (lc xs ys = lc (xs.drop j) (ys.drop j))) (fun i _ => xs.length - (intOf i).toNat)
 case atStart => exact ⟨0, rfl, by omega, by omega, Below.refl _ _, Lib.hid rfl⟩
 case round =>
  obtain ⟨j, rfl, hk, hk2, hB, HL⟩ := hrel
  have k0 : (0 : Int) <= j := by omega
  have F0 := kp hB s1 f0
  have F1 := kp hB s1 f1
  have G0 := kp hB s2 g0
  have G1 := kp hB s2 g1
  have u1 : w.heap.size < wr.heap.size := Nat.lt_of_lt_of_le s1 hB.size
  have u2 : w.heap.size + 1 < wr.heap.size := Nat.lt_of_lt_of_le s2 hB.size
  clear f0 f1 g0 g1
  by_cases hlt : j < xs.length /\ j < ys.length
  ·obtain ⟨hlt, hl2⟩ := hlt
   have hst := Lib.hid (lc_step hlt hl2)
   obtain ⟨b, o, rfl, c0, c1⟩ := SlM.keep hB RA1.out j hlt
   obtain ⟨b', o', rfl, d0, d1⟩ := SlM.keep hB RB1.out j hl2
   obtain ⟨x, hx⟩ : ∃ x, xs.getD j mo0 = x := ⟨_, rfl⟩
   obtain ⟨y, hy⟩ : ∃ y, ys.getD j mo0 = y := ⟨_, rfl⟩
   have hb : b < wr.heap.size := by have := World.block_lt_of_cell? wr _ c0; simpa using this
   have hb' : b' < wr.heap.size := by have := World.block_lt_of_cell? wr _ d0; simpa using this
   rw [hx] at c0 c1
   rw [hy] at d0 d1
   have hst := Lib.hid (by have h := hst.out; rw [hx, hy] at h; exact h)
   clear hx hy
   obtain ⟨s, a⟩ := x
   obtain ⟨t, e⟩ := y
   simp only at c0 c1 d0 d1
   have k1 : (j : Int) < xs.length := by omega
   have l1 : (j : Int) < ys.length := by omega
   have HC := Lib.hid (mc_cases s a t e)
   go_wp2_with fail
   go_region
   all_goals
    rcases HC.out with ⟨h1, h2⟩ | ⟨h1, h2, h3⟩ | ⟨h1, h2, h3, h4⟩ | ⟨h1, h2, h3, h4⟩ | ⟨h1, h2, h3, h4⟩
    ·have HE := Lib.hid h2
     clear h2
     go_wp2
     go_ret
     exact ⟨ret_int (by unfold cl; rw [HL.out, hst.out, HE.out]; rfl), B0.trans ((below2c hB).mono B0.size)⟩
    ·have HE := Lib.hid h3
     clear h3
     go_wp2
     go_ret
     exact ⟨ret_int (by unfold cl; rw [HL.out, hst.out, HE.out]; rfl), B0.trans ((below2c hB).mono B0.size)⟩
    ·have HE := Lib.hid h4
     clear h4
     subst h1
     go_wp2
     go_ret
     exact ⟨ret_int (by unfold cl; rw [HL.out, hst.out, HE.out]; rfl), B0.trans ((below2c hB).mono B0.size)⟩
    ·have HE := Lib.hid h4
     have h5 : ¬ a < e := by omega
     have h6 : (a == e) = false := beq_false_of_ne (by omega)
     clear h4
     subst h1
     go_wp2
     go_ret
     exact ⟨ret_int (by unfold cl; rw [HL.out, hst.out, HE.out]; rfl), B0.trans ((below2c hB).mono B0.size)⟩
    ·have HE := Lib.hid h4
     clear h4
     subst h1 h3
     go_wp2
     go_roundw
     case rel => exact ⟨j + 1, by go_num, by omega, by omega, below2c hB, Lib.hid (by rw [HL.out, hst.out, HE.out]; rfl)⟩
     case measure => simp [intOf]; omega
  ·have BK : Below w.heap.size w wr := B0.trans (hB.mono B0.size)
   by_cases hlt : j < xs.length
   ·have k1 : (j : Int) < xs.length := by omega
    have l1 : ¬ (j : Int) < ys.length := by omega
    have m1 : ¬ (xs.length : Int) < ys.length := by omega
    have m2 : ((xs.length : Int) == ys.length) = false := beq_false_of_ne (by omega)
    have m3 : (ys.length : Int) < xs.length := by omega
    have HR := Lib.hid (lc_long hlt (show j = ys.length by omega))
    go_wp2
    go_ret
    exact ⟨ret_int (by unfold cl; rw [HL.out, HR.out]; rfl), BK⟩
   ·have k1 : ¬ (j : Int) < xs.length := by omega
    by_cases hl2 : j < ys.length
    ·have m1 : (xs.length : Int) < ys.length := by omega
     have HR := Lib.hid (lc_short (show j = xs.length by omega) hl2)
     go_wp2
     go_ret
     exact ⟨ret_int (by unfold cl; rw [HL.out, HR.out]; rfl), BK⟩
    ·have m0 : ys.length = xs.length := by omega
     have HR := Lib.hid (lc_same (show j = xs.length by omega) (show j = ys.length by omega))
     have HZ : Hid (cl k xs k' ys = ic k k') := Lib.hid (by unfold cl; rw [HL.out, HR.out]; rfl)
     have m1 : ¬ (xs.length : Int) < xs.length := by omega
     rw [m0] at G1
     clear RB RB1 HL HR
     rcases Int.lt_trichotomy k k' with h | h | h
     ·go_wp2
      go_ret
      exact ⟨ret_int (by rw [HZ.out]; unfold ic; rw [if_pos h]), BK⟩
     ·subst h
      have h2 : ¬ k < k := by omega
      go_wp2
      go_ret
      exact ⟨ret_int (by rw [HZ.out]; unfold ic; rw [if_neg (show ¬ k < k by omega), if_neg (show ¬ k < k by omega)]), BK⟩
     ·have h2 : ¬ k < k' := by omega
      go_wp2
      go_ret
      exact ⟨ret_int (by rw [HZ.out]; unfold ic; rw [if_neg (show ¬ k < k' by omega), if_pos h]), BK⟩
end Go.Proofs.YtbicmlkjonaccaaDoor.Ln
