/- What TensorPermutes needs beside the base. -/
import Derived.Test.YteaaikmejacpaaaGreatDoorE16
import Derived.Test.YteaaikmejacpaaaGreatDoorR0
import Derived.Test.YteaaikmejacpaaaGreatDoorR1
import Derived.Test.YteaaikmejacpaaaGreatDoorR10
import Derived.Test.YteaaikmejacpaaaGreatDoorR11
import Derived.Test.YteaaikmejacpaaaGreatDoorR12
import Derived.Test.YteaaikmejacpaaaGreatDoorR13
import Derived.Test.YteaaikmejacpaaaGreatDoorR14
import Derived.Test.YteaaikmejacpaaaGreatDoorR16
import Derived.Test.YteaaikmejacpaaaGreatDoorR17
import Derived.Test.YteaaikmejacpaaaGreatDoorR18
import Derived.Test.YteaaikmejacpaaaGreatDoorR19
import Derived.Test.YteaaikmejacpaaaGreatDoorR2
import Derived.Test.YteaaikmejacpaaaGreatDoorR20
import Derived.Test.YteaaikmejacpaaaGreatDoorR3
import Derived.Test.YteaaikmejacpaaaGreatDoorR4
import Derived.Test.YteaaikmejacpaaaGreatDoorR5
import Derived.Test.YteaaikmejacpaaaGreatDoorR6
import Derived.Test.YteaaikmejacpaaaGreatDoorR7
import Derived.Test.YteaaikmejacpaaaGreatDoorR8
import Derived.Test.YteaaikmejacpaaaGreatDoorR9
import Derived.Deep.Cut
import Derived.Deep.CutRange
namespace Go.Proofs.YteaaikmejacpaaaGreatDoor.Sh
open Go.ChangeShapes Go.WideShapes Go.ChangeAt Go.RowKit
set_option maxRecDepth 8000
set_option linter.unusedVariables false
set_option linter.unusedSimpArgs false

def slE (zs : List Int) (ax fr tt : Int) : Int := if (vE zs != 0) = true then vE zs else if ax < 0 \/ (zs.length : Int) <= ax then 11 else if fr < 0 \/ tt <= fr \/ zs.getD ax.toNat 0 < tt then 12 else 0
def slL (zs : List Int) (ax fr tt : Int) : List Int := if (vE zs != 0) = true then [] else if ax < 0 \/ (zs.length : Int) <= ax then [] else if fr < 0 \/ tt <= fr \/ zs.getD ax.toNat 0 < tt then [] else zs.set ax.toNat (tt - fr)
theorem el_le {zs : List Int} (h : vE zs = 0) {k : Nat} (hk : k < zs.length) : zs.getD k 0 <= 4096 := by
 obtain ⟨_, hl, _, hS, hD⟩ := valid_of h
 have h1 := (hD k).2
 rw [drop_cons hk] at h1
 change sp (zs.drop (k + 1)) * zs.getD k 0 <= 4096 at h1
 have h2 := (hD (k + 1)).1
 have h3 := pos_of hl hk
 have := Int.mul_le_mul_of_nonneg_right h2 (by omega : 0 <= zs.getD k 0)
 omega
set_option maxHeartbeats 4000000 in
theorem c29_v (p : Option Addr) (zs : List Int) (c : Nat) (ax fr tt : Int) (w : World) (hn : zs.length <= maxLen) (RA : Hid (SlI w p zs)) (hv : (vE zs != 0) = true) :
  Calls Tryz.prog 70 #[.slice p zs.length c, .int .i64 ax, .int .i64 fr, .int .i64 tt] w (QW [] (vE zs) w) := by
 have C := Lib.hid (c14 p zs c w hn RA)
 generalize vE zs = e at *
 go_enter Tryz.func70, Tryz.ntmps70
 go_wp2_with (go_at_call 47; refine (C.out).mono ?_; rintro e w' ⟨rfl, rfl⟩)
 refine bodyPost_ret (v := .tuple #[.slice none 0 0, .int .i64 e]) (by simp [results, Tryz.results70, go_sem]) rfl ⟨_, rfl, Below.refl _ _, World.ownsRow_nil _ _ _ _⟩
set_option maxHeartbeats 4000000 in
theorem c29_a (p : Option Addr) (zs : List Int) (c : Nat) (ax fr tt : Int) (w : World) (hn : zs.length <= maxLen) (RA : Hid (SlI w p zs)) (hv : vE zs = 0) (ha : ax < 0 \/ (zs.length : Int) <= ax) :
  Calls Tryz.prog 70 #[.slice p zs.length c, .int .i64 ax, .int .i64 fr, .int .i64 tt] w (QW [] 11 w) := by
 have C := Lib.hid (c14 p zs c w hn RA)
 rw [hv] at C
 clear hv
 generalize zs.length = n at *
 by_cases h : ax < 0
 ·have k1 : decide (ax < 0) = true := by simpa using h
  clear ha h
  go_enter Tryz.func70, Tryz.ntmps70
  go_wp2_with (go_at_call 47; refine (C.out).mono ?_; rintro e w' ⟨rfl, rfl⟩)
  refine bodyPost_ret (v := .tuple #[.slice none 0 0, .int .i64 11]) (by simp [results, Tryz.results70, go_sem]) rfl ⟨_, rfl, Below.refl _ _, World.ownsRow_nil _ _ _ _⟩
 ·have k1 : decide (ax < 0) = false := by simpa using h
  have k2 : decide ((n : Int) <= ax) = true := by simp <;> omega
  clear ha h
  go_enter Tryz.func70, Tryz.ntmps70
  go_wp2_with (go_at_call 47; refine (C.out).mono ?_; rintro e w' ⟨rfl, rfl⟩)
  refine bodyPost_ret (v := .tuple #[.slice none 0 0, .int .i64 11]) (by simp [results, Tryz.results70, go_sem]) rfl ⟨_, rfl, Below.refl _ _, World.ownsRow_nil _ _ _ _⟩
set_option maxHeartbeats 4000000 in
theorem c29_b (p : Option Addr) (zs : List Int) (c : Nat) (k : Nat) (fr tt : Int) (w : World) (hn : zs.length <= maxLen) (RA : Hid (SlI w p zs)) (hv : vE zs = 0) (hk : k < zs.length) (ha : fr < 0 \/ tt <= fr \/ zs.getD k 0 < tt) :
  Calls Tryz.prog 70 #[.slice p zs.length c, .int .i64 (k : Int), .int .i64 fr, .int .i64 tt] w (QW [] 12 w) := by
 have C := Lib.hid (c14 p zs c w hn RA)
 rw [hv] at C
 obtain ⟨h6, _⟩ := valid_of hv
 obtain ⟨b, o, rfl, hc⟩ := RA.out k hk
 generalize zs.getD k 0 = z at *
 clear hv
 have q0 : (0 : Int) <= k := by omega
 have q1 : (k : Int) < zs.length := by omega
 have k1 : decide ((k : Int) < 0) = false := by simp <;> omega
 have k2 : decide ((zs.length : Int) <= k) = false := by simp <;> omega
 have k3 : decide (zs.length <= k) = false := by simp <;> omega
 generalize zs.length = n at *
 by_cases h : fr < 0
 ·have m1 : decide (fr < 0) = true := by simpa using h
  clear ha h
  go_enter Tryz.func70, Tryz.ntmps70
  go_wp2_with (go_at_call 47; refine (C.out).mono ?_; rintro e w' ⟨rfl, rfl⟩)
  refine bodyPost_ret (v := .tuple #[.slice none 0 0, .int .i64 12]) (by simp [results, Tryz.results70, go_sem]) rfl ⟨_, rfl, Below.refl _ _, World.ownsRow_nil _ _ _ _⟩
 have m1 : decide (fr < 0) = false := by simpa using h
 by_cases h2 : tt <= fr
 ·have m2 : decide (tt <= fr) = true := by simpa using h2
  clear ha h
  go_enter Tryz.func70, Tryz.ntmps70
  go_wp2_with (go_at_call 47; refine (C.out).mono ?_; rintro e w' ⟨rfl, rfl⟩)
  refine bodyPost_ret (v := .tuple #[.slice none 0 0, .int .i64 12]) (by simp [results, Tryz.results70, go_sem]) rfl ⟨_, rfl, Below.refl _ _, World.ownsRow_nil _ _ _ _⟩
 have m2 : decide (tt <= fr) = false := by simpa using h2
 have m3 : decide (z < tt) = true := by simp <;> omega
 clear ha h h2
 go_enter Tryz.func70, Tryz.ntmps70
 go_wp2_with (go_at_call 47; refine (C.out).mono ?_; rintro e w' ⟨rfl, rfl⟩)
 refine bodyPost_ret (v := .tuple #[.slice none 0 0, .int .i64 12]) (by simp [results, Tryz.results70, go_sem]) rfl ⟨_, rfl, Below.refl _ _, World.ownsRow_nil _ _ _ _⟩
end Go.Proofs.YteaaikmejacpaaaGreatDoor.Sh

namespace Go.Proofs.YteaaikmejacpaaaGreatDoor.Sh
open Go.ChangeShapes Go.WideShapes Go.ChangeAt Go.RowKit
set_option maxRecDepth 8000
set_option linter.unusedVariables false
set_option linter.unusedSimpArgs false

set_option maxHeartbeats 1000000 in
theorem c29_ok (p : Option Addr) (zs : List Int) (c : Nat) (k : Nat) (fr tt : Int) (w : World) (hn : zs.length <= maxLen) (RA : Hid (SlI w p zs)) (hv : vE zs = 0) (hk : k < zs.length) (f0 : 0 <= fr) (f1 : fr < tt) (f2 : tt <= zs.getD k 0) :
  Calls Tryz.prog 70 #[.slice p zs.length c, .int .i64 (k : Int), .int .i64 fr, .int .i64 tt] w (QW (zs.set k (tt - fr)) 0 w) := by
 have C := Lib.hid (c14 p zs c w hn RA)
 rw [hv] at C
 obtain ⟨h6, _⟩ := valid_of hv
 have hle := el_le hv hk
 obtain ⟨b, o, rfl, hc⟩ := RA.out k hk
 have C48 := Lib.hid (c48 b o zs c w hn (by omega) RA)
 generalize zs.getD k 0 = z at *
 clear hv
 have q0 : (0 : Int) <= k := by omega
 have q1 : (k : Int) < zs.length := by omega
 have k1 : decide ((k : Int) < 0) = false := by simp <;> omega
 have k2 : decide ((zs.length : Int) <= k) = false := by simp <;> omega
 have k3 : decide (zs.length <= k) = false := by simp <;> omega
 have m1 : decide (fr < 0) = false := by simp <;> omega
 have m2 : decide (tt <= fr) = false := by simp <;> omega
 have m3 : decide (z < tt) = false := by simp <;> omega
 obtain ⟨n, hN⟩ : ∃ n, zs.length = n := ⟨_, rfl⟩
 have HN := Lib.hid hN
 rw [hN] at C C48 q1 k2 k3 hk h6 ⊢
 clear hN hn
 go_enter Tryz.func70, Tryz.ntmps70
 go_wp2_with (go_at_call 47; refine (C.out).mono ?_; rintro e w' ⟨rfl, rfl⟩)
 refine (C48.out).mono ?_
 rintro e w1 ⟨v, rfl, KB, O⟩
 rw [HN.out] at O
 obtain ⟨g, cap, rfl, gb, cle⟩ := own_form O (by omega)
 have oc := cells_of O (j := k) (by omega) HN.out
 have of := O.frozenAt k
 have oS := Lib.hid (O.stored k (.int .i64 (tt - fr))).1
 clear O C C48
 go_wp2
 refine bodyPost_ret (v := .tuple #[.slice (some ⟨g, 0, none⟩) n cap, .int .i64 0]) (by simp [results, Tryz.results70, go_sem]) rfl ⟨_, rfl, ?_, ?_⟩
 ·exact Below.setCell KB gb _
 ·rw [List.length_set, HN.out, List.map_set]
  exact oS.out
end Go.Proofs.YteaaikmejacpaaaGreatDoor.Sh

namespace Go.Proofs.YteaaikmejacpaaaGreatDoor.Sh
open Go.ChangeShapes Go.WideShapes Go.ChangeAt Go.RowKit
set_option maxRecDepth 8000
set_option linter.unusedVariables false
set_option linter.unusedSimpArgs false
theorem c29 (p : Option Addr) (zs : List Int) (c : Nat) (ax fr tt : Int) (w : World) (hn : zs.length <= maxLen) (RA : Hid (SlI w p zs)) :
  Calls Tryz.prog 70 #[.slice p zs.length c, .int .i64 ax, .int .i64 fr, .int .i64 tt] w (QW (slL zs ax fr tt) (slE zs ax fr tt) w) := by
 unfold slL slE
 by_cases h1 : (vE zs != 0) = true
 ·rw [if_pos h1, if_pos h1]; exact c29_v p zs c ax fr tt w hn RA h1
 rw [if_neg h1, if_neg h1]
 have hv : vE zs = 0 := by simpa using h1
 by_cases h2 : ax < 0 \/ (zs.length : Int) <= ax
 ·rw [if_pos h2, if_pos h2]; exact c29_a p zs c ax fr tt w hn RA hv h2
 rw [if_neg h2, if_neg h2]
 obtain ⟨k, rfl⟩ : ∃ k : Nat, ax = k := ⟨ax.toNat, by omega⟩
 rw [Int.toNat_natCast]
 by_cases h3 : fr < 0 \/ tt <= fr \/ zs.getD k 0 < tt
 ·rw [if_pos h3, if_pos h3]; exact c29_b p zs c k fr tt w hn RA hv (by omega) h3
 rw [if_neg h3, if_neg h3]
 exact c29_ok p zs c k fr tt w hn RA hv (by omega) (by omega) (by omega) (by omega)
end Go.Proofs.YteaaikmejacpaaaGreatDoor.Sh

namespace Go.Proofs.YteaaikmejacpaaaGreatDoor.Sh
open Go.ChangeShapes Go.WideShapes Go.ChangeAt Go.RowKit
set_option maxRecDepth 8000
set_option linter.unusedVariables false
set_option linter.unusedSimpArgs false

theorem onto {n : Nat} {os : List Int} (hl : os.length = n) (h : gd n os n) {y : Nat} (hy : y < n) : ∃ i, i < n /\ os.getD i 0 = (y : Int) := by
 have h1 := (order_perm hl h).mem_iff.2 (List.mem_range.2 hy)
 obtain ⟨i, hi, e⟩ := List.getElem_of_mem h1
 rw [List.length_map] at hi
 rw [List.getElem_map] at e
 have h2 := h i (by omega)
 rw [getD_at hi] at h2
 exact ⟨i, by omega, by rw [getD_at hi]; omega⟩

end Go.Proofs.YteaaikmejacpaaaGreatDoor.Sh

namespace Go.Proofs.YteaaikmejacpaaaGreatDoor.Te
open Go.ChangeShapes Go.WideShapes Go.ChangeAt Go.RowKit
open Fx Va Sh
set_option maxRecDepth 8000
set_option linter.unusedVariables false
set_option linter.unusedSimpArgs false

theorem B7.set5 {u : World} {b : Nat} {x0 x1 x2 x3 x4 x5 x6 v : Value} (h : B7 u b x0 x1 x2 x3 x4 x5 x6) : B7 (u.setCell ⟨b, 5, none⟩ v) b x0 x1 x2 x3 x4 v x6 := by
 obtain ⟨⟨c0, c1, c2, c3, c4, c5, c6⟩, ⟨f0, f1, f2, f3, f4, f5, f6⟩⟩ := h
 exact ⟨⟨(World.cell?_setCell_other _ _ _ _ (by simp)).trans c0, (World.cell?_setCell_other _ _ _ _ (by simp)).trans c1, (World.cell?_setCell_other _ _ _ _ (by simp)).trans c2, (World.cell?_setCell_other _ _ _ _ (by simp)).trans c3, (World.cell?_setCell_other _ _ _ _ (by simp)).trans c4, World.cell?_setCell_same _ _ _ c5, (World.cell?_setCell_other _ _ _ _ (by simp)).trans c6⟩, ⟨(World.frozen?_setCell _ _ _ _).trans f0, (World.frozen?_setCell _ _ _ _).trans f1, (World.frozen?_setCell _ _ _ _).trans f2, (World.frozen?_setCell _ _ _ _).trans f3, (World.frozen?_setCell _ _ _ _).trans f4, (World.frozen?_setCell _ _ _ _).trans f5, (World.frozen?_setCell _ _ _ _).trans f6⟩⟩

end Go.Proofs.YteaaikmejacpaaaGreatDoor.Te

namespace Go.Proofs.YteaaikmejacpaaaGreatDoor.Te
open Go.ChangeShapes Go.WideShapes Go.ChangeAt Go.RowKit
open Fx Va Sh
set_option maxRecDepth 8000
set_option linter.unusedVariables false
set_option linter.unusedSimpArgs false

set_option maxRecDepth 100000 in
set_option maxHeartbeats 2000000 in
theorem pm_a (K B F R O : Int) (p : Option Addr) (zs : List Int) (c : Nat) (q : Option Addr) (vs : List (Int × Int)) (d : Nat) (x : Option Addr) (os : List Int) (e : Nat) (w : World) (b0 : -9223372036854775808 <= B) (b1 : B <= 9223372036854775807) (hn : zs.length <= maxLen) (hm : vs.length <= maxLen) (RA : Hid (SlI w p zs)) (RB : Hid (SlV w q vs)) (hx : os.length <= maxLen) (RX : Hid (SlI w x os)) (ht : tE K B F R O zs vs ≠ 0) :
  Calls Tryz.prog 37 #[Tn K B F R O p zs.length c q vs.length d, .slice x os.length e] w (TRes 0 0 0 0 0 [] [] (tE K B F R O zs vs) w) := by
 have TV0 := fun w h1 h2 => tval K B F R O p zs c q vs d w b0 b1 hn hm h1 h2
 obtain ⟨E, hE⟩ : ∃ E, tE K B F R O zs vs = E := ⟨_, rfl⟩
 rw [hE] at TV0 ht ⊢
 have g1 : (E == 0) = false := by simpa using ht
 have g2 : (E != 0) = true := by simpa using ht
 obtain ⟨m, hmm⟩ : ∃ m, vs.length = m := ⟨_, rfl⟩
 have HM := Lib.hid hmm
 rw [hmm] at TV0 ⊢
 have TV := Lib.hid TV0
 have B0 : Hid (Below w.heap.size w ((w.alloc (Obj.cells #[Value.int .i64 K, Value.int .i64 B, Value.int .i64 F, Value.int .i64 R, Value.int .i64 O, Value.slice p zs.length c, Value.slice q m d] 27)).alloc (Obj.cells #[Value.int .i64 0, Value.int .i64 0, Value.int .i64 0, Value.int .i64 0, Value.int .i64 0, Value.slice none 0 0, Value.slice none 0 0] 27))) := Lib.hid (((Below.refl _ _).alloc (Nat.le_refl _) _).alloc (by simp) _)
 have T0 : Hid (B7 ((w.alloc (Obj.cells #[Value.int .i64 K, Value.int .i64 B, Value.int .i64 F, Value.int .i64 R, Value.int .i64 O, Value.slice p zs.length c, Value.slice q m d] 27)).alloc (Obj.cells #[Value.int .i64 0, Value.int .i64 0, Value.int .i64 0, Value.int .i64 0, Value.int .i64 0, Value.slice none 0 0, Value.slice none 0 0] 27)) (w.heap.size) (.int .i64 K) (.int .i64 B) (.int .i64 F) (.int .i64 R) (.int .i64 O) (.slice p zs.length c) (.slice q m d)) := Lib.hid ((B7.new w _ (.int .i64 K) (.int .i64 B) (.int .i64 F) (.int .i64 R) (.int .i64 O) (.slice p zs.length c) (.slice q m d)).alloc _)
 have R0 : Hid (B7 ((w.alloc (Obj.cells #[Value.int .i64 K, Value.int .i64 B, Value.int .i64 F, Value.int .i64 R, Value.int .i64 O, Value.slice p zs.length c, Value.slice q m d] 27)).alloc (Obj.cells #[Value.int .i64 0, Value.int .i64 0, Value.int .i64 0, Value.int .i64 0, Value.int .i64 0, Value.slice none 0 0, Value.slice none 0 0] 27)) (w.heap.size + 1) (.int .i64 0) (.int .i64 0) (.int .i64 0) (.int .i64 0) (.int .i64 0) (.slice none 0 0) (.slice none 0 0)) := Lib.hid (by have h := B7.new (w.alloc (Obj.cells #[Value.int .i64 K, Value.int .i64 B, Value.int .i64 F, Value.int .i64 R, Value.int .i64 O, Value.slice p zs.length c, Value.slice q m d] 27)) 27 (.int .i64 0) (.int .i64 0) (.int .i64 0) (.int .i64 0) (.int .i64 0) (.slice none 0 0) (.slice none 0 0); simpa using h)
 clear TV0
 clear hE ht hm hmm
 unfold Tn at *
 go_enter Tryz.func37, Tryz.ntmps37
 go_wp2_with (go_at_call 20; (with_reducible refine (TV.out _ (Lib.hid (SlI.keep B0.out RA.out)) (Lib.hid (SlV.below RB.out B0.out))).mono ?_); rintro e w1 ⟨rfl, hb⟩; have KB := Lib.hid (B0.out.trans (hb.mono B0.out.size)); have TB := Lib.hid (B7.keep hb (by simp <;> omega) T0.out); have RB9 := Lib.hid (B7.keep hb (by simp <;> omega) R0.out); obtain ⟨⟨c0, c1, c2, c3, c4, c5, c6⟩, -⟩ := TB.out; obtain ⟨⟨z0, z1, z2, z3, z4, z5, z6⟩, ⟨f0, f1, f2, f3, f4, f5, f6⟩⟩ := RB9.out; have lr : w.heap.size + 1 < w1.heap.size := RB9.out.lt; clear hb)
 have SBB := (((((((KB.out).setCell (p := ⟨w.heap.size + 1, 0, none⟩) (by dsimp only; omega) (.int .i64 0)).setCell (p := ⟨w.heap.size + 1, 1, none⟩) (by dsimp only; omega) (.int .i64 0)).setCell (p := ⟨w.heap.size + 1, 2, none⟩) (by dsimp only; omega) (.int .i64 0)).setCell (p := ⟨w.heap.size + 1, 3, none⟩) (by dsimp only; omega) (.int .i64 0)).setCell (p := ⟨w.heap.size + 1, 4, none⟩) (by dsimp only; omega) (.int .i64 0)).setCell (p := ⟨w.heap.size + 1, 5, none⟩) (by dsimp only; omega) (.slice none 0 0)).setCell (p := ⟨w.heap.size + 1, 6, none⟩) (by dsimp only; omega) (.slice none 0 0)
 refine bodyPost_ret (v := .tuple #[.agg #[.int .i64 0, .int .i64 0, .int .i64 0, .int .i64 0, .int .i64 0, .slice none 0 0, .slice none 0 0], .int .i64 E]) (by simp [results, Tryz.results37, go_sem, z0, f0, z1, f1, z2, f2, z3, f3, z4, f4, z5, f5, z6, f6, lr]) rfl (TRes.no SBB)

set_option maxRecDepth 100000 in
set_option maxHeartbeats 2000000 in
theorem pm_b (K B F R O : Int) (p : Option Addr) (zs : List Int) (c : Nat) (q : Option Addr) (vs : List (Int × Int)) (d : Nat) (x : Option Addr) (os : List Int) (e : Nat) (w : World) (b0 : -9223372036854775808 <= B) (b1 : B <= 9223372036854775807) (hn : zs.length <= maxLen) (hm : vs.length <= maxLen) (RA : Hid (SlI w p zs)) (RB : Hid (SlV w q vs)) (hx : os.length <= maxLen) (RX : Hid (SlI w x os)) (ht : tE K B F R O zs vs = 0) (he : pmE zs os ≠ 0) :
  Calls Tryz.prog 37 #[Tn K B F R O p zs.length c q vs.length d, .slice x os.length e] w (TRes 0 0 0 0 0 [] [] (pmE zs os) w) := by
 have TV0 := fun w h1 h2 => tval K B F R O p zs c q vs d w b0 b1 hn hm h1 h2
 rw [ht] at TV0
 have SP0 := fun w h1 h2 => c27 p x zs os c e w hn h1 h2
 unfold QW at SP0
 obtain ⟨E, hE⟩ : ∃ E, pmE zs os = E := ⟨_, rfl⟩
 obtain ⟨PL, hPL⟩ : ∃ L, pmL zs os = L := ⟨_, rfl⟩
 rw [hE] at SP0 he ⊢
 rw [hPL] at SP0
 have SP := Lib.hid SP0
 have g1 : (E == 0) = false := by simpa using he
 have g2 : (E != 0) = true := by simpa using he
 obtain ⟨m, hmm⟩ : ∃ m, vs.length = m := ⟨_, rfl⟩
 have HM := Lib.hid hmm
 rw [hmm] at TV0 ⊢
 have TV := Lib.hid TV0
 have B0 : Hid (Below w.heap.size w ((w.alloc (Obj.cells #[Value.int .i64 K, Value.int .i64 B, Value.int .i64 F, Value.int .i64 R, Value.int .i64 O, Value.slice p zs.length c, Value.slice q m d] 27)).alloc (Obj.cells #[Value.int .i64 0, Value.int .i64 0, Value.int .i64 0, Value.int .i64 0, Value.int .i64 0, Value.slice none 0 0, Value.slice none 0 0] 27))) := Lib.hid (((Below.refl _ _).alloc (Nat.le_refl _) _).alloc (by simp) _)
 have T0 : Hid (B7 ((w.alloc (Obj.cells #[Value.int .i64 K, Value.int .i64 B, Value.int .i64 F, Value.int .i64 R, Value.int .i64 O, Value.slice p zs.length c, Value.slice q m d] 27)).alloc (Obj.cells #[Value.int .i64 0, Value.int .i64 0, Value.int .i64 0, Value.int .i64 0, Value.int .i64 0, Value.slice none 0 0, Value.slice none 0 0] 27)) (w.heap.size) (.int .i64 K) (.int .i64 B) (.int .i64 F) (.int .i64 R) (.int .i64 O) (.slice p zs.length c) (.slice q m d)) := Lib.hid ((B7.new w _ (.int .i64 K) (.int .i64 B) (.int .i64 F) (.int .i64 R) (.int .i64 O) (.slice p zs.length c) (.slice q m d)).alloc _)
 have R0 : Hid (B7 ((w.alloc (Obj.cells #[Value.int .i64 K, Value.int .i64 B, Value.int .i64 F, Value.int .i64 R, Value.int .i64 O, Value.slice p zs.length c, Value.slice q m d] 27)).alloc (Obj.cells #[Value.int .i64 0, Value.int .i64 0, Value.int .i64 0, Value.int .i64 0, Value.int .i64 0, Value.slice none 0 0, Value.slice none 0 0] 27)) (w.heap.size + 1) (.int .i64 0) (.int .i64 0) (.int .i64 0) (.int .i64 0) (.int .i64 0) (.slice none 0 0) (.slice none 0 0)) := Lib.hid (by have h := B7.new (w.alloc (Obj.cells #[Value.int .i64 K, Value.int .i64 B, Value.int .i64 F, Value.int .i64 R, Value.int .i64 O, Value.slice p zs.length c, Value.slice q m d] 27)) 27 (.int .i64 0) (.int .i64 0) (.int .i64 0) (.int .i64 0) (.int .i64 0) (.slice none 0 0) (.slice none 0 0); simpa using h)
 clear TV0
 clear hE ht hm hmm he SP0 hPL
 unfold Tn at *
 go_enter Tryz.func37, Tryz.ntmps37
 go_upto_region 6 with (first | (go_at_call 20; (with_reducible refine (TV.out _ (Lib.hid (SlI.keep B0.out RA.out)) (Lib.hid (SlV.below RB.out B0.out))).mono ?_); rintro e w1 ⟨rfl, hb⟩; have KB := Lib.hid (B0.out.trans (hb.mono B0.out.size)); have TB := Lib.hid (B7.keep hb (by simp <;> omega) T0.out); have RB9 := Lib.hid (B7.keep hb (by simp <;> omega) R0.out); obtain ⟨⟨c0, c1, c2, c3, c4, c5, c6⟩, -⟩ := TB.out; obtain ⟨⟨z0, z1, z2, z3, z4, z5, z6⟩, ⟨f0, f1, f2, f3, f4, f5, f6⟩⟩ := RB9.out; have lr : w.heap.size + 1 < w1.heap.size := RB9.out.lt; clear hb) | (go_at_call 71; (with_reducible refine (SP.out _ (Lib.hid (SlI.keep KB.out RA.out)) (Lib.hid (SlI.keep KB.out RX.out))).mono ?_); rintro e w2 ⟨v2, rfl, hb2, O2⟩; have KB2 := Lib.hid (KB.out.trans (hb2.mono KB.out.size)); have TB2 := Lib.hid (B7.keep hb2 TB.out.lt TB.out); have RB2 := Lib.hid (B7.keep hb2 RB9.out.lt RB9.out); have lr : w.heap.size + 1 < w2.heap.size := RB2.out.lt; obtain ⟨⟨z0, z1, z2, z3, z4, z5, z6⟩, ⟨f0, f1, f2, f3, f4, f5, f6⟩⟩ := RB2.out; obtain ⟨⟨c0, c1, c2, c3, c4, c5, c6⟩, -⟩ := TB2.out; have hs2 := hb2.size; obtain ⟨pd, cd, rfl⟩ := own_slice O2; have HO2 := Lib.hid O2; clear hb2 O2))
 repeat go_step
 have SBB := (((((((KB2.out).setCell (p := ⟨w.heap.size + 1, 0, none⟩) (by dsimp only; omega) (.int .i64 0)).setCell (p := ⟨w.heap.size + 1, 1, none⟩) (by dsimp only; omega) (.int .i64 0)).setCell (p := ⟨w.heap.size + 1, 2, none⟩) (by dsimp only; omega) (.int .i64 0)).setCell (p := ⟨w.heap.size + 1, 3, none⟩) (by dsimp only; omega) (.int .i64 0)).setCell (p := ⟨w.heap.size + 1, 4, none⟩) (by dsimp only; omega) (.int .i64 0)).setCell (p := ⟨w.heap.size + 1, 5, none⟩) (by dsimp only; omega) (.slice none 0 0)).setCell (p := ⟨w.heap.size + 1, 6, none⟩) (by dsimp only; omega) (.slice none 0 0)
 refine bodyPost_ret (v := .tuple #[.agg #[.int .i64 0, .int .i64 0, .int .i64 0, .int .i64 0, .int .i64 0, .slice none 0 0, .slice none 0 0], .int .i64 E]) (by simp [results, Tryz.results37, go_sem, z0, f0, z1, f1, z2, f2, z3, f3, z4, f4, z5, f5, z6, f6, lr]) rfl (TRes.no SBB)
end Go.Proofs.YteaaikmejacpaaaGreatDoor.Te

namespace Go.Proofs.YteaaikmejacpaaaGreatDoor.Te
open Go.ChangeShapes Go.WideShapes Go.ChangeAt Go.RowKit
open Fx Va Sh
set_option maxRecDepth 8000
set_option linter.unusedVariables false
set_option linter.unusedSimpArgs false

theorem take_snoc {l : List (Int × Int)} {j : Nat} (h : j < l.length) : l.take (j + 1) = l.take j ++ [((l.getD j (0, 0)).1, (l.getD j (0, 0)).2)] := by
 rw [List.take_add_one, List.getElem?_eq_getElem h, List.getD_eq_getElem?_getD, List.getElem?_eq_getElem h]
 rfl

end Go.Proofs.YteaaikmejacpaaaGreatDoor.Te

namespace Go.Proofs.YteaaikmejacpaaaGreatDoor.Te
open Go.ChangeShapes Go.WideShapes Go.ChangeAt Go.RowKit
open Fx Va Sh
set_option maxRecDepth 8000
set_option linter.unusedVariables false
set_option linter.unusedSimpArgs false

/-- A block of a part along an axis. -/
def slB (vs : List (Int × Int)) (my af f t i : Nat) : List (Int × Int) := (vs.drop (i * my * af + f * af)).take (t * af - f * af)
/-- The elements of a part along an axis: the first blocks. -/
def slV (vs : List (Int × Int)) (my af f t n : Nat) : List (Int × Int) := (List.range n).flatMap (slB vs my af f t)
theorem slV_zero (vs : List (Int × Int)) (my af f t : Nat) : slV vs my af f t 0 = [] := rfl
theorem slV_succ (vs : List (Int × Int)) (my af f t n : Nat) : slV vs my af f t (n + 1) = slV vs my af f t n ++ slB vs my af f t n := by
 unfold slV
 rw [List.range_succ, List.flatMap_append]
 simp
theorem slB_hi {my af t i bf m : Nat} (ht : t <= my) (hi : i < bf) (hm : m = bf * my * af) : i * my * af + t * af <= m := by
 have h1 : i * my * af + t * af <= i * my * af + my * af := Nat.add_le_add_left (Nat.mul_le_mul_right _ ht) _
 have h2 : i * my * af + my * af = (i + 1) * my * af := by rw [Nat.add_mul, Nat.add_mul, Nat.one_mul]
 have h3 : (i + 1) * my * af <= bf * my * af := Nat.mul_le_mul_right _ (Nat.mul_le_mul_right _ hi)
 omega
theorem slB_len {vs : List (Int × Int)} {my af f t i bf : Nat} (hf : f <= t) (ht : t <= my) (hi : i < bf) (hm : vs.length = bf * my * af) : (slB vs my af f t i).length = t * af - f * af := by
 have h := slB_hi (t := t) ht hi hm
 have h2 : f * af <= t * af := Nat.mul_le_mul_right _ hf
 unfold slB
 rw [List.length_take, List.length_drop]; omega
theorem slV_len {vs : List (Int × Int)} {my af f t bf : Nat} (hf : f <= t) (ht : t <= my) (hm : vs.length = bf * my * af) : ∀ n, n <= bf -> (slV vs my af f t n).length = n * (t * af - f * af)
 | 0, _ => by rw [slV_zero, Nat.zero_mul]; rfl
 | n + 1, h => by rw [slV_succ, List.length_append, slV_len hf ht hm n (by omega), slB_len hf ht (by omega) hm, Nat.succ_mul]
/-- The numbers of one block of a part. -/
theorem sl_nums {my af f t i bf m : Nat} (hf : f < t) (ht : t <= my) (hi : i < bf) (ha : 1 <= af) (hm : m = bf * my * af) (m4 : m <= 4096) : ∃ e1 e2 g1 g2 x y : Nat, (i : Int) * (my : Int) = e1 /\ (e1 : Int) * (af : Int) = e2 /\ (f : Int) * (af : Int) = g1 /\ (t : Int) * (af : Int) = g2 /\ (e2 : Int) + g1 = x /\ (e2 : Int) + g2 = y /\ e1 <= e2 /\ e2 <= x /\ g1 <= x /\ g2 <= y /\ x < y /\ y <= m /\ x = i * my * af + f * af /\ y - x = t * af - f * af := by
 have h := slB_hi (t := t) ht hi hm
 have h2 : f * af < t * af := Nat.mul_lt_mul_of_pos_right hf (by omega)
 refine ⟨i * my, i * my * af, f * af, t * af, i * my * af + f * af, i * my * af + t * af, ?_, ?_, ?_, ?_, ?_, ?_, Nat.le_mul_of_pos_right _ (by omega), Nat.le_add_right _ _, Nat.le_add_left _ _, Nat.le_add_left _ _, by omega, h, rfl, by omega⟩ <;> push_cast <;> rfl
/-- The elements that lie in a part, among the first. -/
def seV (vs : List (Int × Int)) (my af f t : Nat) : Nat -> List (Int × Int)
 | 0 => []
 | n + 1 => seV vs my af f t n ++ if f <= n / af % my /\ n / af % my < t then [vs.getD n (0, 0)] else []
theorem take_one {l : List (Int × Int)} {k : Nat} (h : k < l.length) : l.take (k + 1) = l.take k ++ [l.getD k (0, 0)] := by
 rw [List.take_add_one, List.getElem?_eq_getElem h, List.getD_eq_getElem?_getD, List.getElem?_eq_getElem h]
 rfl
theorem seV_in {vs : List (Int × Int)} {my af f t i bf : Nat} (ha : 1 <= af) (hf : f <= t) (ht : t <= my) (hi : i < bf) (hm : vs.length = bf * my * af) : ∀ r, r <= my * af -> seV vs my af f t (i * my * af + r) = seV vs my af f t (i * my * af) ++ (vs.drop (i * my * af + f * af)).take (min r (t * af) - f * af)
 | 0, _ => by
  rw [Nat.add_zero, Nat.zero_min, Nat.zero_sub, List.take_zero, List.append_nil]
 | r + 1, h => by
  have hlt : r < my * af := h
  have e1 : (i * my * af + r) / af = i * my + r / af := by
   rw [Nat.add_comm, Nat.add_mul_div_right _ _ (by omega), Nat.add_comm]
  have hr : r / af < my := by rw [Nat.div_lt_iff_lt_mul (by omega)]; exact hlt
  have e2 : (i * my * af + r) / af % my = r / af := by
   rw [e1, Nat.add_comm, Nat.add_mul_mod_self_right, Nat.mod_eq_of_lt hr]
  have hub := slB_hi (t := my) (Nat.le_refl _) hi hm
  have c1 : f <= r / af ↔ f * af <= r := Nat.le_div_iff_mul_le (by omega)
  have c2 : r / af < t ↔ r < t * af := Nat.div_lt_iff_lt_mul (by omega)
  have e0 : i * my * af + (r + 1) = (i * my * af + r) + 1 := rfl
  rw [e0]
  show seV vs my af f t (i * my * af + r) ++ _ = _
  rw [e2, seV_in ha hf ht hi hm r (by omega), List.append_assoc]
  refine congrArg _ ?_
  by_cases h1 : f <= r / af /\ r / af < t
  ·rw [if_pos h1]
   have a1 := c1.1 h1.1
   have a2 := c2.1 h1.2
   rw [show min (r + 1) (t * af) - f * af = (r - f * af) + 1 by omega, show min r (t * af) - f * af = r - f * af by omega, take_one (by rw [List.length_drop]; omega)]
   refine congrArg _ ?_
   rw [List.getD_eq_getElem?_getD, List.getD_eq_getElem?_getD, List.getElem?_drop, show i * my * af + f * af + (r - f * af) = i * my * af + r by omega]
  ·rw [if_neg h1, List.append_nil]
   have : min (r + 1) (t * af) - f * af = min r (t * af) - f * af := by
    by_cases h2 : f * af <= r
    ·have : ¬ r < t * af := fun h3 => h1 ⟨c1.2 h2, c2.2 h3⟩
     omega
    ·omega
   rw [this]
/-- Both say the same. -/
theorem seV_all {vs : List (Int × Int)} {my af f t bf : Nat} (ha : 1 <= af) (hf : f <= t) (ht : t <= my) (hm : vs.length = bf * my * af) : ∀ n, n <= bf -> seV vs my af f t (n * my * af) = slV vs my af f t n
 | 0, _ => by rw [Nat.zero_mul, Nat.zero_mul]; rfl
 | n + 1, h => by
  have h2 : t * af <= my * af := Nat.mul_le_mul_right _ ht
  rw [slV_succ, show (n + 1) * my * af = n * my * af + my * af by rw [Nat.add_mul, Nat.add_mul, Nat.one_mul], seV_in ha hf ht (by omega) hm _ (Nat.le_refl _), seV_all ha hf ht hm n (by omega), Nat.min_eq_right h2]
  rfl
end Go.Proofs.YteaaikmejacpaaaGreatDoor.Te

namespace Go.Proofs.YteaaikmejacpaaaGreatDoor.Te
open Go.ChangeShapes Go.WideShapes Go.ChangeAt Go.RowKit
open Fx Va Sh
set_option maxRecDepth 8000
set_option linter.unusedVariables false
set_option linter.unusedSimpArgs false

set_option maxRecDepth 100000 in
set_option maxHeartbeats 2000000 in
theorem ts_a (K B F R O : Int) (p : Option Addr) (zs : List Int) (c : Nat) (q : Option Addr) (vs : List (Int × Int)) (d : Nat) (ax fr tt : Int) (w : World) (b0 : -9223372036854775808 <= B) (b1 : B <= 9223372036854775807) (hn : zs.length <= maxLen) (hm : vs.length <= maxLen) (RA : Hid (SlI w p zs)) (RB : Hid (SlV w q vs)) (ht : tE K B F R O zs vs ≠ 0) :
  Calls Tryz.prog 35 #[Tn K B F R O p zs.length c q vs.length d, .int .i64 ax, .int .i64 fr, .int .i64 tt] w (TRes 0 0 0 0 0 [] [] (tE K B F R O zs vs) w) := by
 have TV0 := fun w h1 h2 => tval K B F R O p zs c q vs d w b0 b1 hn hm h1 h2
 obtain ⟨E, hE⟩ : ∃ E, tE K B F R O zs vs = E := ⟨_, rfl⟩
 rw [hE] at TV0 ht ⊢
 have g1 : (E == 0) = false := by simpa using ht
 have g2 : (E != 0) = true := by simpa using ht
 obtain ⟨m, hmm⟩ : ∃ m, vs.length = m := ⟨_, rfl⟩
 have HM := Lib.hid hmm
 rw [hmm] at TV0 ⊢
 have TV := Lib.hid TV0
 have B0 : Hid (Below w.heap.size w ((w.alloc (Obj.cells #[Value.int .i64 K, Value.int .i64 B, Value.int .i64 F, Value.int .i64 R, Value.int .i64 O, Value.slice p zs.length c, Value.slice q m d] 27)).alloc (Obj.cells #[Value.int .i64 0, Value.int .i64 0, Value.int .i64 0, Value.int .i64 0, Value.int .i64 0, Value.slice none 0 0, Value.slice none 0 0] 27))) := Lib.hid (((Below.refl _ _).alloc (Nat.le_refl _) _).alloc (by simp) _)
 have T0 : Hid (B7 ((w.alloc (Obj.cells #[Value.int .i64 K, Value.int .i64 B, Value.int .i64 F, Value.int .i64 R, Value.int .i64 O, Value.slice p zs.length c, Value.slice q m d] 27)).alloc (Obj.cells #[Value.int .i64 0, Value.int .i64 0, Value.int .i64 0, Value.int .i64 0, Value.int .i64 0, Value.slice none 0 0, Value.slice none 0 0] 27)) (w.heap.size) (.int .i64 K) (.int .i64 B) (.int .i64 F) (.int .i64 R) (.int .i64 O) (.slice p zs.length c) (.slice q m d)) := Lib.hid ((B7.new w _ (.int .i64 K) (.int .i64 B) (.int .i64 F) (.int .i64 R) (.int .i64 O) (.slice p zs.length c) (.slice q m d)).alloc _)
 have R0 : Hid (B7 ((w.alloc (Obj.cells #[Value.int .i64 K, Value.int .i64 B, Value.int .i64 F, Value.int .i64 R, Value.int .i64 O, Value.slice p zs.length c, Value.slice q m d] 27)).alloc (Obj.cells #[Value.int .i64 0, Value.int .i64 0, Value.int .i64 0, Value.int .i64 0, Value.int .i64 0, Value.slice none 0 0, Value.slice none 0 0] 27)) (w.heap.size + 1) (.int .i64 0) (.int .i64 0) (.int .i64 0) (.int .i64 0) (.int .i64 0) (.slice none 0 0) (.slice none 0 0)) := Lib.hid (by have h := B7.new (w.alloc (Obj.cells #[Value.int .i64 K, Value.int .i64 B, Value.int .i64 F, Value.int .i64 R, Value.int .i64 O, Value.slice p zs.length c, Value.slice q m d] 27)) 27 (.int .i64 0) (.int .i64 0) (.int .i64 0) (.int .i64 0) (.int .i64 0) (.slice none 0 0) (.slice none 0 0); simpa using h)
 clear TV0
 clear hE ht hm hmm
 unfold Tn at *
 go_enter Tryz.func35, Tryz.ntmps35
 go_wp2_with (go_at_call 20; (with_reducible refine (TV.out _ (Lib.hid (SlI.keep B0.out RA.out)) (Lib.hid (SlV.below RB.out B0.out))).mono ?_); rintro e w1 ⟨rfl, hb⟩; have KB := Lib.hid (B0.out.trans (hb.mono B0.out.size)); have TB := Lib.hid (B7.keep hb (by simp <;> omega) T0.out); have RB9 := Lib.hid (B7.keep hb (by simp <;> omega) R0.out); obtain ⟨⟨c0, c1, c2, c3, c4, c5, c6⟩, -⟩ := TB.out; obtain ⟨⟨z0, z1, z2, z3, z4, z5, z6⟩, ⟨f0, f1, f2, f3, f4, f5, f6⟩⟩ := RB9.out; have lr : w.heap.size + 1 < w1.heap.size := RB9.out.lt; clear hb)
 have SBB := (((((((KB.out).setCell (p := ⟨w.heap.size + 1, 0, none⟩) (by dsimp only; omega) (.int .i64 0)).setCell (p := ⟨w.heap.size + 1, 1, none⟩) (by dsimp only; omega) (.int .i64 0)).setCell (p := ⟨w.heap.size + 1, 2, none⟩) (by dsimp only; omega) (.int .i64 0)).setCell (p := ⟨w.heap.size + 1, 3, none⟩) (by dsimp only; omega) (.int .i64 0)).setCell (p := ⟨w.heap.size + 1, 4, none⟩) (by dsimp only; omega) (.int .i64 0)).setCell (p := ⟨w.heap.size + 1, 5, none⟩) (by dsimp only; omega) (.slice none 0 0)).setCell (p := ⟨w.heap.size + 1, 6, none⟩) (by dsimp only; omega) (.slice none 0 0)
 refine bodyPost_ret (v := .tuple #[.agg #[.int .i64 0, .int .i64 0, .int .i64 0, .int .i64 0, .int .i64 0, .slice none 0 0, .slice none 0 0], .int .i64 E]) (by simp [results, Tryz.results35, go_sem, z0, f0, z1, f1, z2, f2, z3, f3, z4, f4, z5, f5, z6, f6, lr]) rfl (TRes.no SBB)

set_option maxRecDepth 100000 in
set_option maxHeartbeats 2000000 in
theorem ts_b (K B F R O : Int) (p : Option Addr) (zs : List Int) (c : Nat) (q : Option Addr) (vs : List (Int × Int)) (d : Nat) (ax fr tt : Int) (w : World) (b0 : -9223372036854775808 <= B) (b1 : B <= 9223372036854775807) (hn : zs.length <= maxLen) (hm : vs.length <= maxLen) (RA : Hid (SlI w p zs)) (RB : Hid (SlV w q vs)) (ht : tE K B F R O zs vs = 0) (he : slE zs ax fr tt ≠ 0) :
  Calls Tryz.prog 35 #[Tn K B F R O p zs.length c q vs.length d, .int .i64 ax, .int .i64 fr, .int .i64 tt] w (TRes 0 0 0 0 0 [] [] (slE zs ax fr tt) w) := by
 have TV0 := fun w h1 h2 => tval K B F R O p zs c q vs d w b0 b1 hn hm h1 h2
 rw [ht] at TV0
 have SP0 := fun w h1 => c29 p zs c ax fr tt w hn h1
 unfold QW at SP0
 obtain ⟨E, hE⟩ : ∃ E, slE zs ax fr tt = E := ⟨_, rfl⟩
 obtain ⟨PL, hPL⟩ : ∃ L, slL zs ax fr tt = L := ⟨_, rfl⟩
 rw [hE] at SP0 he ⊢
 rw [hPL] at SP0
 have SP := Lib.hid SP0
 have g1 : (E == 0) = false := by simpa using he
 have g2 : (E != 0) = true := by simpa using he
 obtain ⟨m, hmm⟩ : ∃ m, vs.length = m := ⟨_, rfl⟩
 have HM := Lib.hid hmm
 rw [hmm] at TV0 ⊢
 have TV := Lib.hid TV0
 have B0 : Hid (Below w.heap.size w ((w.alloc (Obj.cells #[Value.int .i64 K, Value.int .i64 B, Value.int .i64 F, Value.int .i64 R, Value.int .i64 O, Value.slice p zs.length c, Value.slice q m d] 27)).alloc (Obj.cells #[Value.int .i64 0, Value.int .i64 0, Value.int .i64 0, Value.int .i64 0, Value.int .i64 0, Value.slice none 0 0, Value.slice none 0 0] 27))) := Lib.hid (((Below.refl _ _).alloc (Nat.le_refl _) _).alloc (by simp) _)
 have T0 : Hid (B7 ((w.alloc (Obj.cells #[Value.int .i64 K, Value.int .i64 B, Value.int .i64 F, Value.int .i64 R, Value.int .i64 O, Value.slice p zs.length c, Value.slice q m d] 27)).alloc (Obj.cells #[Value.int .i64 0, Value.int .i64 0, Value.int .i64 0, Value.int .i64 0, Value.int .i64 0, Value.slice none 0 0, Value.slice none 0 0] 27)) (w.heap.size) (.int .i64 K) (.int .i64 B) (.int .i64 F) (.int .i64 R) (.int .i64 O) (.slice p zs.length c) (.slice q m d)) := Lib.hid ((B7.new w _ (.int .i64 K) (.int .i64 B) (.int .i64 F) (.int .i64 R) (.int .i64 O) (.slice p zs.length c) (.slice q m d)).alloc _)
 have R0 : Hid (B7 ((w.alloc (Obj.cells #[Value.int .i64 K, Value.int .i64 B, Value.int .i64 F, Value.int .i64 R, Value.int .i64 O, Value.slice p zs.length c, Value.slice q m d] 27)).alloc (Obj.cells #[Value.int .i64 0, Value.int .i64 0, Value.int .i64 0, Value.int .i64 0, Value.int .i64 0, Value.slice none 0 0, Value.slice none 0 0] 27)) (w.heap.size + 1) (.int .i64 0) (.int .i64 0) (.int .i64 0) (.int .i64 0) (.int .i64 0) (.slice none 0 0) (.slice none 0 0)) := Lib.hid (by have h := B7.new (w.alloc (Obj.cells #[Value.int .i64 K, Value.int .i64 B, Value.int .i64 F, Value.int .i64 R, Value.int .i64 O, Value.slice p zs.length c, Value.slice q m d] 27)) 27 (.int .i64 0) (.int .i64 0) (.int .i64 0) (.int .i64 0) (.int .i64 0) (.slice none 0 0) (.slice none 0 0); simpa using h)
 clear TV0
 clear hE ht hm hmm he SP0 hPL
 unfold Tn at *
 go_enter Tryz.func35, Tryz.ntmps35
 go_upto_region 6 with (first | (go_at_call 20; (with_reducible refine (TV.out _ (Lib.hid (SlI.keep B0.out RA.out)) (Lib.hid (SlV.below RB.out B0.out))).mono ?_); rintro e w1 ⟨rfl, hb⟩; have KB := Lib.hid (B0.out.trans (hb.mono B0.out.size)); have TB := Lib.hid (B7.keep hb (by simp <;> omega) T0.out); have RB9 := Lib.hid (B7.keep hb (by simp <;> omega) R0.out); obtain ⟨⟨c0, c1, c2, c3, c4, c5, c6⟩, -⟩ := TB.out; obtain ⟨⟨z0, z1, z2, z3, z4, z5, z6⟩, ⟨f0, f1, f2, f3, f4, f5, f6⟩⟩ := RB9.out; have lr : w.heap.size + 1 < w1.heap.size := RB9.out.lt; clear hb) | (go_at_call 70; (with_reducible refine (SP.out _ (Lib.hid (SlI.keep KB.out RA.out))).mono ?_); rintro e w2 ⟨v2, rfl, hb2, O2⟩; have KB2 := Lib.hid (KB.out.trans (hb2.mono KB.out.size)); have TB2 := Lib.hid (B7.keep hb2 TB.out.lt TB.out); have RB2 := Lib.hid (B7.keep hb2 RB9.out.lt RB9.out); have lr : w.heap.size + 1 < w2.heap.size := RB2.out.lt; obtain ⟨⟨z0, z1, z2, z3, z4, z5, z6⟩, ⟨f0, f1, f2, f3, f4, f5, f6⟩⟩ := RB2.out; obtain ⟨⟨c0, c1, c2, c3, c4, c5, c6⟩, -⟩ := TB2.out; have hs2 := hb2.size; have lt2 : w.heap.size < w2.heap.size := TB2.out.lt; obtain ⟨pd, cd, rfl⟩ := own_slice O2; have HO2 := Lib.hid O2; clear hb2 O2))
 repeat go_step
 have SBB := (((((((KB2.out).setCell (p := ⟨w.heap.size + 1, 0, none⟩) (by dsimp only; omega) (.int .i64 0)).setCell (p := ⟨w.heap.size + 1, 1, none⟩) (by dsimp only; omega) (.int .i64 0)).setCell (p := ⟨w.heap.size + 1, 2, none⟩) (by dsimp only; omega) (.int .i64 0)).setCell (p := ⟨w.heap.size + 1, 3, none⟩) (by dsimp only; omega) (.int .i64 0)).setCell (p := ⟨w.heap.size + 1, 4, none⟩) (by dsimp only; omega) (.int .i64 0)).setCell (p := ⟨w.heap.size + 1, 5, none⟩) (by dsimp only; omega) (.slice none 0 0)).setCell (p := ⟨w.heap.size + 1, 6, none⟩) (by dsimp only; omega) (.slice none 0 0)
 refine bodyPost_ret (v := .tuple #[.agg #[.int .i64 0, .int .i64 0, .int .i64 0, .int .i64 0, .int .i64 0, .slice none 0 0, .slice none 0 0], .int .i64 E]) (by simp [results, Tryz.results35, go_sem, z0, f0, z1, f1, z2, f2, z3, f3, z4, f4, z5, f5, z6, f6, lr]) rfl (TRes.no SBB)
end Go.Proofs.YteaaikmejacpaaaGreatDoor.Te

namespace Go.Proofs.YteaaikmejacpaaaGreatDoor.Te
open Go.ChangeShapes Go.WideShapes Go.ChangeAt Go.RowKit
open Fx Va Sh
set_option maxRecDepth 8000
set_option linter.unusedVariables false
set_option linter.unusedSimpArgs false

theorem flV_app (a b : List (Int × Int)) : flV (a ++ b) = flV a ++ flV b := by unfold flV; exact List.flatMap_append
theorem one_V (l : List (Int × Int)) : ∀ u ∈ flV l, u.oneCell' = true := fun u hu => by
 obtain ⟨z, rfl⟩ := flV_in hu
 rfl
theorem sl_cellsV {w : World} {b o x n : Nat} {vs : List (Int × Int)} (h : SlV w (some ⟨b, o, none⟩) vs) (hx : x + n <= vs.length) : ∀ (j : Nat) (u : Value), (flV ((vs.drop x).take n))[j]? = some u -> w.cell? ((⟨b, o + x * 2, none⟩ : Addr).add j) = some u := by
 intro j u hj
 have hl := (List.getElem?_eq_some_iff.1 hj).1
 rw [flV_len, List.length_take, List.length_drop] at hl
 have hk : j / 2 < ((vs.drop x).take n).length := by rw [List.length_take, List.length_drop]; omega
 obtain ⟨g0, g1⟩ := flV_get _ _ hk
 have e : ((vs.drop x).take n).getD (j / 2) (0, 0) = vs.getD (x + j / 2) (0, 0) := by
  rw [List.getD_eq_getElem?_getD, List.getD_eq_getElem?_getD, List.getElem?_take_of_lt (by omega), List.getElem?_drop]
 rw [e] at g0 g1
 obtain ⟨b', o', ee, c0, c1⟩ := h (x + j / 2) (by omega)
 cases ee
 rw [add_at]
 by_cases hp : j % 2 = 0
 ·rw [show j / 2 * 2 = j by omega] at g0
  rw [g0] at hj
  rw [show o + x * 2 + j = o + (x + j / 2) * 2 by omega, c0]
  exact hj
 ·rw [show j / 2 * 2 + 1 = j by omega] at g1
  rw [g1] at hj
  rw [show o + x * 2 + j = o + (x + j / 2) * 2 + 1 by omega, c1]
  exact hj
theorem sl_ok {zs : List Int} {a f t : Nat} (hv : vE zs = 0) (ha : a < zs.length) (hf : f < t) (ht : (t : Int) <= zs.getD a 0) : slE zs a f t = 0 /\ slL zs a f t = zs.set a ((t : Int) - f) := by
 unfold slE slL
 have h1 : ¬ (vE zs != 0) = true := by rw [hv]; decide
 have h2 : ¬ ((a : Int) < 0 \/ (zs.length : Int) <= a) := by omega
 have h3 : ¬ ((f : Int) < 0 \/ (t : Int) <= f \/ zs.getD (a : Int).toNat 0 < t) := by rw [Int.toNat_natCast]; omega
 rw [if_neg h1, if_neg h2, if_neg h3, if_neg h1, if_neg h2, if_neg h3, Int.toNat_natCast]
 exact ⟨rfl, rfl⟩

set_option maxRecDepth 100000 in
set_option maxHeartbeats 2000000 in
theorem ts_c (K B F R O : Int) (p : Option Addr) (zs : List Int) (c : Nat) (q : Option Addr) (vs : List (Int × Int)) (d : Nat) (a f t : Nat) (w : World) (b0 : -9223372036854775808 <= B) (b1 : B <= 9223372036854775807) (hn : zs.length <= maxLen) (hm : vs.length <= maxLen) (RA : Hid (SlI w p zs)) (RB : Hid (SlV w q vs)) (ht : tE K B F R O zs vs = 0) (ha : a < zs.length) (hc : zs.length <= c) (hc2 : c <= 9223372036854775807) (hd : vs.length <= d) (hd2 : d <= 9223372036854775807) (hf : f < t) (htt : (t : Int) <= zs.getD a 0) (bf my af : Nat) (hbf : sp (zs.take a) = bf) (hmy : zs.getD a 0 = my) (haf : sp (zs.drop (a + 1)) = af) (q1 : 1 <= bf) (q2 : 1 <= my) (q3 : 1 <= af) (hmm3 : vs.length = bf * my * af) (q5 : bf * af <= vs.length) (q6 : my <= vs.length) (q7 : bf <= vs.length) (q8 : af <= vs.length) :
  Calls Tryz.prog 35 #[Tn K B F R O p zs.length c q vs.length d, .int .i64 a, .int .i64 f, .int .i64 t] w (TRes K B F R O (zs.set a ((t : Int) - f)) (slV vs my af f t bf) 0 w) := by
 have TV0 := fun w h1 h2 => tval K B F R O p zs c q vs d w b0 b1 hn hm h1 h2
 rw [ht] at TV0
 obtain ⟨-, hv, tl, -⟩ := tE_ok ht
 obtain ⟨h6, -, -, hsp, -⟩ := valid_of hv
 obtain ⟨se, sl⟩ := sl_ok hv ha hf htt
 have SP0 := fun w h1 => c29 p zs c a f t w hn h1
 unfold QW at SP0
 rw [se, sl, List.length_set] at SP0
 have SP := Lib.hid SP0
 have AR0 := fun w h => tar p zs c a w ha hc hc2 hv h
 rw [hbf, haf] at AR0
 have AR := Lib.hid AR0
 have m4 : vs.length <= 4096 := by omega
 have htm : t <= my := by omega
 have NM := Lib.hid fun (j : Nat) (hj : j < bf) => sl_nums hf htm hj q3 hmm3 m4
 have LN := Lib.hid (slV_len (vs := vs) (Nat.le_of_lt hf) htm hmm3)
 have LB := Lib.hid fun (j : Nat) (hj : j < bf) => slB_len (vs := vs) (Nat.le_of_lt hf) htm hj hmm3
 obtain ⟨bb, oo, hpp, hcell⟩ := RA.out a ha
 rw [hmy] at hcell
 have HCELL := Lib.hid hcell
 have hbb : bb < w.heap.size := World.block_lt_of_cell? _ _ hcell
 subst hpp
 obtain ⟨vb, vo, hqq, -⟩ := RB.out 0 (by omega)
 subst hqq
 have HLE : Hid (∀ j, j <= bf -> (slV vs my af f t j).length <= vs.length) := Lib.hid fun j hj => by
  rw [LN.out j hj, hmm3]
  have h1 : t * af - f * af <= my * af := Nat.le_trans (Nat.sub_le _ _) (Nat.mul_le_mul_right _ htm)
  have h2 : j * (t * af - f * af) <= bf * (my * af) := Nat.mul_le_mul hj h1
  rwa [<- Nat.mul_assoc] at h2
 obtain ⟨m, hmm⟩ : ∃ m, vs.length = m := ⟨_, rfl⟩
 have HM := Lib.hid hmm
 rw [hmm] at TV0 NM HLE hm tl hmm3 q5 q6 q7 q8 m4 hd ⊢
 have TV := Lib.hid TV0
 have B0 : Hid (Below w.heap.size w ((w.alloc (Obj.cells #[Value.int .i64 K, Value.int .i64 B, Value.int .i64 F, Value.int .i64 R, Value.int .i64 O, Value.slice (some ⟨bb, oo, none⟩) zs.length c, Value.slice (some ⟨vb, vo, none⟩) m d] 27)).alloc (Obj.cells #[Value.int .i64 0, Value.int .i64 0, Value.int .i64 0, Value.int .i64 0, Value.int .i64 0, Value.slice none 0 0, Value.slice none 0 0] 27))) := Lib.hid (((Below.refl _ _).alloc (Nat.le_refl _) _).alloc (by simp) _)
 have T0 : Hid (B7 ((w.alloc (Obj.cells #[Value.int .i64 K, Value.int .i64 B, Value.int .i64 F, Value.int .i64 R, Value.int .i64 O, Value.slice (some ⟨bb, oo, none⟩) zs.length c, Value.slice (some ⟨vb, vo, none⟩) m d] 27)).alloc (Obj.cells #[Value.int .i64 0, Value.int .i64 0, Value.int .i64 0, Value.int .i64 0, Value.int .i64 0, Value.slice none 0 0, Value.slice none 0 0] 27)) (w.heap.size) (.int .i64 K) (.int .i64 B) (.int .i64 F) (.int .i64 R) (.int .i64 O) (.slice (some ⟨bb, oo, none⟩) zs.length c) (.slice (some ⟨vb, vo, none⟩) m d)) := Lib.hid ((B7.new w _ (.int .i64 K) (.int .i64 B) (.int .i64 F) (.int .i64 R) (.int .i64 O) (.slice (some ⟨bb, oo, none⟩) zs.length c) (.slice (some ⟨vb, vo, none⟩) m d)).alloc _)
 have R0 : Hid (B7 ((w.alloc (Obj.cells #[Value.int .i64 K, Value.int .i64 B, Value.int .i64 F, Value.int .i64 R, Value.int .i64 O, Value.slice (some ⟨bb, oo, none⟩) zs.length c, Value.slice (some ⟨vb, vo, none⟩) m d] 27)).alloc (Obj.cells #[Value.int .i64 0, Value.int .i64 0, Value.int .i64 0, Value.int .i64 0, Value.int .i64 0, Value.slice none 0 0, Value.slice none 0 0] 27)) (w.heap.size + 1) (.int .i64 0) (.int .i64 0) (.int .i64 0) (.int .i64 0) (.int .i64 0) (.slice none 0 0) (.slice none 0 0)) := Lib.hid (by have h := B7.new (w.alloc (Obj.cells #[Value.int .i64 K, Value.int .i64 B, Value.int .i64 F, Value.int .i64 R, Value.int .i64 O, Value.slice (some ⟨bb, oo, none⟩) zs.length c, Value.slice (some ⟨vb, vo, none⟩) m d] 27)) 27 (.int .i64 0) (.int .i64 0) (.int .i64 0) (.int .i64 0) (.int .i64 0) (.slice none 0 0) (.slice none 0 0); simpa using h)
 clear TV0
 have HM3 := Lib.hid hmm3
 have a0 : (0 : Int) <= a := by omega
 have a1 : (a : Int) < zs.length := by omega
 have a2 : (a : Int) <= c := by omega
 have h6' := h6
 clear ht hm hmm hmm3 tl SP0 AR0 hv hbf hmy haf hsp hcell se sl htt LN
 unfold Tn at *
 go_enter Tryz.func35, Tryz.ntmps35
 go_upto_region 4 with (go_at_call 20; (with_reducible refine (TV.out _ (Lib.hid (SlI.keep B0.out RA.out)) (Lib.hid (SlV.below RB.out B0.out))).mono ?_); rintro e w1 ⟨rfl, hb⟩; have KB := Lib.hid (B0.out.trans (hb.mono B0.out.size)); have TB := Lib.hid (B7.keep hb (by simp <;> omega) T0.out); have RB9 := Lib.hid (B7.keep hb (by simp <;> omega) R0.out); obtain ⟨⟨c0, c1, c2, c3, c4, c5, c6⟩, -⟩ := TB.out; obtain ⟨⟨z0, z1, z2, z3, z4, z5, z6⟩, ⟨f0, f1, f2, f3, f4, f5, f6⟩⟩ := RB9.out; have lr : w.heap.size + 1 < w1.heap.size := RB9.out.lt; clear hb)
 have HLR := Lib.hid lr
 go_upto_region 10 with (first | (go_at_call 20; (with_reducible refine (TV.out _ (Lib.hid (SlI.keep B0.out RA.out)) (Lib.hid (SlV.below RB.out B0.out))).mono ?_); rintro e w1 ⟨rfl, hb⟩; have KB := Lib.hid (B0.out.trans (hb.mono B0.out.size)); have TB := Lib.hid (B7.keep hb (by simp <;> omega) T0.out); have RB9 := Lib.hid (B7.keep hb (by simp <;> omega) R0.out); obtain ⟨⟨c0, c1, c2, c3, c4, c5, c6⟩, -⟩ := TB.out; obtain ⟨⟨z0, z1, z2, z3, z4, z5, z6⟩, ⟨f0, f1, f2, f3, f4, f5, f6⟩⟩ := RB9.out; have lr : w.heap.size + 1 < w1.heap.size := RB9.out.lt; clear hb) | (go_at_call 70; (with_reducible refine (SP.out _ (Lib.hid (SlI.keep KB.out RA.out))).mono ?_); rintro e w2 ⟨v2, rfl, hb2, O2⟩; have KB2 := Lib.hid (KB.out.trans (hb2.mono KB.out.size)); have TB2 := Lib.hid (B7.keep hb2 TB.out.lt TB.out); have RB2 := Lib.hid (B7.keep hb2 RB9.out.lt RB9.out); have lr : w.heap.size + 1 < w2.heap.size := RB2.out.lt; obtain ⟨⟨z0, z1, z2, z3, z4, z5, z6⟩, ⟨f0, f1, f2, f3, f4, f5, f6⟩⟩ := RB2.out; obtain ⟨⟨c0, c1, c2, c3, c4, c5, c6⟩, -⟩ := TB2.out; have hs2 := hb2.size; have lt2 : w.heap.size < w2.heap.size := TB2.out.lt; obtain ⟨pd, cd, rfl⟩ := own_slice O2; have HO2 := Lib.hid O2; clear hb2 O2) | (go_at_call 64; (with_reducible refine (AR.out _ (Lib.hid (SlI.keep (KB2.out.alloc KB2.out.size (Obj.cells #[Value.int .i64 K, Value.int .i64 B, Value.int .i64 F, Value.int .i64 R, Value.int .i64 O, Value.slice pd zs.length cd, Value.slice none 0 0] 27)) RA.out))).mono ?_); rintro e w5 ⟨rfl, hb5⟩; have hW : Below w2.heap.size w2 (w2.alloc (Obj.cells #[Value.int .i64 K, Value.int .i64 B, Value.int .i64 F, Value.int .i64 R, Value.int .i64 O, Value.slice pd zs.length cd, Value.slice none 0 0] 27)) := (Below.refl _ _).alloc (Nat.le_refl _) (Obj.cells #[Value.int .i64 K, Value.int .i64 B, Value.int .i64 F, Value.int .i64 R, Value.int .i64 O, Value.slice pd zs.length cd, Value.slice none 0 0] 27); have hX := hW.trans (hb5.mono hW.size); have T5 := Lib.hid (B7.keep hX TB2.out.lt TB2.out); have R5 := Lib.hid (B7.keep hX RB2.out.lt RB2.out); have D5 := Lib.hid (B7.keep hb5 (by simp) (B7.new w2 27 (.int .i64 K) (.int .i64 B) (.int .i64 F) (.int .i64 R) (.int .i64 O) (.slice pd zs.length cd) (.slice none 0 0))); have P5 := Lib.hid (own_belowE HO2.out hX); have K5 := Lib.hid (KB2.out.trans (hX.mono KB2.out.size)); have X5 := Lib.hid hX; have s5 : w2.heap.size + 1 <= w5.heap.size := (by have h := hb5.size; simp at h; omega); clear hb5 hW hX))
 have hpn : ∀ g : Nat, w2.heap.size <= g -> ((Value.slice pd zs.length cd).ownBlock = none \/ (Value.slice pd zs.length cd).ownBlock ≠ some g) := fun g hg => by
  cases hb : (Value.slice pd zs.length cd).ownBlock with
  | none => exact .inl rfl
  | some q => exact .inr (fun e => by have e' : q = g := Option.some.inj e; have := (HO2.out.lt _ hb).2; omega)
 have HPN := Lib.hid hpn
 clear hpn
 have HB0 : Hid ((B7 w5 (w.heap.size) (.int .i64 K) (.int .i64 B) (.int .i64 F) (.int .i64 R) (.int .i64 O) (.slice (some ⟨bb, oo, none⟩) zs.length c) (.slice (some ⟨vb, vo, none⟩) m d)) /\ (B7 w5 (w.heap.size + 1) (.int .i64 0) (.int .i64 0) (.int .i64 0) (.int .i64 0) (.int .i64 0) (.slice none 0 0) (.slice none 0 0)) /\ (B7 w5 (w2.heap.size) (.int .i64 K) (.int .i64 B) (.int .i64 F) (.int .i64 R) (.int .i64 O) (.slice pd zs.length cd) (.slice none 0 0)) /\ w5.ownsRow w1.heap.size 3 1 (.slice pd zs.length cd) zs.length ((zs.set a ((t : Int) - f)).map (Value.int .i64)) /\ w5.ownsRow (w2.heap.size + 1) 29 2 (.slice none 0 0) 0 (flV (slV vs my af f t 0)) /\ Below w.heap.size w w5 /\ w2.heap.size + 1 <= w5.heap.size) := Lib.hid ⟨T5.out, R5.out, D5.out, P5.out, World.ownsRow_nil _ _ _ _, K5.out, s5⟩
 clear T5 R5 D5 P5 K5 X5 s5 TB2 RB2 KB2 HO2 TB RB9 KB z0 f0 z1 f1 z2 f2 z3 f3 z4 f4 z5 f5 z6 f6 c0 c1 c2 c3 c4 c5 c6 lr
 have lw1 : w.heap.size + 1 < w1.heap.size := HLR.out
 go_loopw [49] (fun iv wr => ∃ (j : Nat) (qv : Option Addr) (n9 dv : Nat), iv = .int .i64 (j : Int) /\ j <= bf /\ Hid ((slV vs my af f t j).length = n9) /\ Hid ((B7 wr (w.heap.size) (.int .i64 K) (.int .i64 B) (.int .i64 F) (.int .i64 R) (.int .i64 O) (.slice (some ⟨bb, oo, none⟩) zs.length c) (.slice (some ⟨vb, vo, none⟩) m d)) /\ (B7 wr (w.heap.size + 1) (.int .i64 0) (.int .i64 0) (.int .i64 0) (.int .i64 0) (.int .i64 0) (.slice none 0 0) (.slice none 0 0)) /\ (B7 wr (w2.heap.size) (.int .i64 K) (.int .i64 B) (.int .i64 F) (.int .i64 R) (.int .i64 O) (.slice pd zs.length cd) (.slice qv n9 dv)) /\ wr.ownsRow w1.heap.size 3 1 (.slice pd zs.length cd) zs.length ((zs.set a ((t : Int) - f)).map (Value.int .i64)) /\ wr.ownsRow (w2.heap.size + 1) 29 2 (.slice qv n9 dv) n9 (flV (slV vs my af f t j)) /\ Below w.heap.size w wr /\ w2.heap.size + 1 <= wr.heap.size)) (fun iv _ => bf - (intOf iv).toNat)
 case atStart => exact ⟨0, none, 0, 0, rfl, Nat.zero_le _, Lib.hid rfl, HB0⟩
 case round =>
  obtain ⟨j, qv, n9, dv, rfl, hj, HN, HJ⟩ := hrel
  clear HB0
  obtain ⟨TJ, RJ, DJ, PJ, VJ, KJ, hszr⟩ := HJ.out
  have lDJ := DJ.lt
  by_cases hjb : j < bf
  ·have hj2 : (j : Int) < bf := by omega
   have hj0 : (0 : Int) <= j := by omega
   have hcr := Rg.keep KJ hbb HCELL.out
   obtain ⟨⟨c0, c1, c2, c3, c4, c5, c6⟩, -⟩ := TJ
   obtain ⟨⟨m0, m1, m2, m3, m4, m5, m6⟩, ⟨g0, g1, g2, g3, g4, g5, g6⟩⟩ := DJ
   have TJ := HJ.out.1
   have DJ := HJ.out.2.2.1
   obtain ⟨e1, e2, g1, g2, x, y, p1, p2, p3, p4, p5, p6, o1, o2, o3, o4, o5, o6, o7, o8⟩ := NM.out j hjb
   have be1 : e1 <= 4096 := by omega
   have be2 : e2 <= 4096 := by omega
   have bg1 : g1 <= 4096 := by omega
   have bg2 : g2 <= 4096 := by omega
   have bx : x <= 4096 := by omega
   have bY : y <= 4096 := by omega
   have x0 : (0 : Int) <= x := by omega
   have xy : (x : Int) <= y := by omega
   have yd : (y : Int) <= d := by omega
   have xm : (y : Int) <= m := by omega
   have hne : ¬ d = x := by omega
   have hlb := LB.out j hjb
   have HFL := Lib.hid (show (flV (slB vs my af f t j)).length = (y - x) * 2 by rw [flV_len, hlb, o8])
   have HX := Lib.hid o7
   have hvb : vb < w.heap.size := by
    obtain ⟨b', o', ee, v0, -⟩ := RB.out x (by rw [HM.out]; omega)
    cases ee
    exact World.block_lt_of_cell? _ _ v0
   have HNW : Hid (∀ (k : Nat) (u : Value), (flV (slB vs my af f t j))[k]? = some u -> wr.cell? ((⟨vb, vo + x * 2, none⟩ : Addr).add k) = some u) := Lib.hid (by
    have h := sl_cellsV (x := x) (n := y - x) (SlV.below RB.out KJ) (by rw [HM.out]; omega)
    have e : (vs.drop x).take (y - x) = slB vs my af f t j := by unfold slB; rw [o7, <- o8, o7]
    rw [e] at h
    exact h)
   have HN9 : Hid (n9 + (y - x) <= 4096) := Lib.hid (by
    have h := HLE.out (j + 1) hjb
    rw [slV_succ, List.length_append, hlb, HN.out] at h
    omega)
   obtain ⟨i0, hi, hz0, hz1, hz2⟩ := info_parts infoV
   have HSC := Lib.hid (slV_succ vs my af f t j)
   have HLB := Lib.hid (hlb.trans o8.symm)
   clear o7 o8 hlb o1 o2 o3 o4
   have HP := Lib.hid (And.intro p3 (And.intro p4 (And.intro p5 p6)))
   have hbe1 : (e1 : Int) <= 4096 := by omega
   have hbe2 : (e2 : Int) <= 4096 := by omega
   clear p3 p4 p5 p6
   go_upto_region 13 with fail
   clear p1 p2 hcr
   obtain ⟨p3, p4, p5, p6⟩ := HP.out
   skip
   have w5' : IntKind.i64.wrap (g1 : Int) = g1 := wnI bg1
   have w6' : IntKind.i64.wrap (g2 : Int) = g2 := wnI bg2
   have w7' : IntKind.i64.wrap (x : Int) = x := wnI bx
   have w8' : IntKind.i64.wrap (y : Int) = y := wnI bY
   refine Rk.begin (S := fun wS => wS.cell? ⟨w2.heap.size, 6, none⟩ = some (.slice qv n9 dv) /\ wS.cell? ⟨w.heap.size, 6, none⟩ = some (.slice (some ⟨vb, vo, none⟩) m d) /\ Below wr.heap.size wr wS) 15 (by kernel_rfl) ⟨m6, c6, Below.drew (Below.refl _ _)⟩ (fun hHeld => ?_)
   refine SqR.p 0 ?_
   refine SqR.l [15] 1 ?_
   refine SqR.p 2 ?_
   refine SqR.l [14, 15] 3 ?_
   refine SqR.p 4 ?_
   refine SqR.p 5 ?_
   refine SqR.p 6 ?_
   refine SqR.p 7 ?_
   refine SqR.p 8 ?_
   refine SqR.p 9 ?_
   refine SqR.p 10 ?_
   refine SqR.p 11 ?_
   refine SqR.p 12 ?_
   refine SqR.p 13 ?_
   refine SqR.p 14 ?_
   refine Rk.tail [15, 16, 17] [_, _, _] (by kernel_rfl) (by kernel_rfl) rfl (by decide) ?_
   clear w5' w6' w7' w8' p3 p4 p5 p6
   clear hHeld
   go_wp2_with (at_builtin; refine wpList_append_own _ rfl _ _ 25 rfl (w2.heap.size + 1) 29 i0 (.agg #[.int .i64 0, .int .i64 0]) 2 16 Tryz.underlying25 hi hz0 hz1 hz2 rfl (by decide) _ _ _ rfl VJ.drew ⟨vb, vo + x * 2, none⟩ (y - x) _ (flV (slB vs my af f t j)) rfl HFL.out HNW.out (one_V _) (by unfold maxLen; have := HN9.out; omega) (by have := HN9.out; omega) (by exact hszr) ?_; intro v8 w8 hown8 hgrow _; obtain ⟨qn, dn, rfl⟩ := own_slice hown8; have hrow := row_base VJ; have D8 := Lib.hid ((DJ.drew).grown hgrow (fun e => by have := hrow _ e.symm; omega)); have T8 := Lib.hid ((TJ.drew).grown hgrow (fun e => by have := hrow _ e.symm; omega)); have R8 := Lib.hid ((RJ.drew).grown hgrow (fun e => by have := hrow _ e.symm; omega)); have P8 := Lib.hid ((PJ.drew).kept hgrow (own_apart PJ VJ)); have V8 := Lib.hid hown8; have K8 := Lib.hid ((KJ.drew).grown hgrow (by have := KJ.size; exact this) (fun k e => by have := hrow _ e; omega)); have hs8 := hgrow.size; obtain ⟨⟨m0, m1, m2, m3, m4, m5, m6⟩, ⟨g0, g1, g2, g3, g4, g5, g6⟩⟩ := D8.out; have lD8 := D8.out.lt; clear hown8 hgrow)
   go_roundw
   case rel =>
    have e1 : n9 + (y - x) = (slV vs my af f t (j + 1)).length := by rw [HSC.out, List.length_append, HN.out, HLB.out]
    exact ⟨j + 1, qn, n9 + (y - x), dn, by simp, by omega, Lib.hid e1.symm, Lib.hid ⟨T8.out.far (by omega), R8.out.far (by omega), D8.out.set6, P8.out.kept grown_set (HPN.out _ (Nat.le_refl _)), own_set (by rw [HSC.out, flV_app]; exact V8.out) (by dsimp only; omega), K8.out.setCell (p := ⟨w2.heap.size, 6, none⟩) (by dsimp only; omega) _, by rw [World.size_setCell]; omega⟩⟩
   case measure => simp [intOf]; omega
  ·obtain rfl : j = bf := by omega
   have gN : decide ((j : Int) < j) = false := by simp
   have lr : w.heap.size + 1 < wr.heap.size := RJ.lt
   obtain ⟨⟨z0, z1, z2, z3, z4, z5, z6⟩, ⟨f0, f1, f2, f3, f4, f5, f6⟩⟩ := RJ
   obtain ⟨⟨m0, m1, m2, m3, m4, m5, m6⟩, -⟩ := DJ
   go_upto_region 15 with fail
   repeat go_step
   have SBB := (((((((KJ).setCell (p := ⟨w.heap.size + 1, 0, none⟩) (by dsimp only; omega) (.int .i64 K)).setCell (p := ⟨w.heap.size + 1, 1, none⟩) (by dsimp only; omega) (.int .i64 B)).setCell (p := ⟨w.heap.size + 1, 2, none⟩) (by dsimp only; omega) (.int .i64 F)).setCell (p := ⟨w.heap.size + 1, 3, none⟩) (by dsimp only; omega) (.int .i64 R)).setCell (p := ⟨w.heap.size + 1, 4, none⟩) (by dsimp only; omega) (.int .i64 O)).setCell (p := ⟨w.heap.size + 1, 5, none⟩) (by dsimp only; omega) (.slice pd zs.length cd)).setCell (p := ⟨w.heap.size + 1, 6, none⟩) (by dsimp only; omega) (.slice qv n9 dv)
   have hlz : (zs.set a ((t : Int) - f)).length = zs.length := List.length_set
   refine bodyPost_ret (v := .tuple #[Tn K B F R O pd zs.length cd qv n9 dv, .int .i64 0]) (by simp [results, Tryz.results35, go_sem, z0, f0, z1, f1, z2, f2, z3, f3, z4, f4, z5, f5, z6, f6, lr, Tn]) rfl ?_
   refine ⟨pd, cd, qv, dv, by rw [hlz, HN.out], ?_, ?_, SBB⟩
   ·rw [hlz]; exact own_base (own_set (own_set (own_set (own_set (own_set (own_set (own_set PJ (by dsimp only; omega)) (by dsimp only; omega)) (by dsimp only; omega)) (by dsimp only; omega)) (by dsimp only; omega)) (by dsimp only; omega)) (by dsimp only; omega)) (by omega)
   ·rw [HN.out]; exact own_base (own_set (own_set (own_set (own_set (own_set (own_set (own_set VJ (by dsimp only; omega)) (by dsimp only; omega)) (by dsimp only; omega)) (by dsimp only; omega)) (by dsimp only; omega)) (by dsimp only; omega)) (by dsimp only; omega)) (by omega)
end Go.Proofs.YteaaikmejacpaaaGreatDoor.Te

namespace Go.Proofs.YteaaikmejacpaaaGreatDoor.Te
open Go.ChangeShapes Go.WideShapes Go.ChangeAt Go.RowKit
open Fx Va Sh
set_option maxRecDepth 8000
set_option linter.unusedVariables false
set_option linter.unusedSimpArgs false

set_option maxRecDepth 100000 in
set_option maxHeartbeats 2000000 in
theorem rs_a (K B F R O : Int) (p : Option Addr) (zs : List Int) (c : Nat) (q : Option Addr) (vs : List (Int × Int)) (d : Nat) (ax fr tt : Int) (w : World) (b0 : -9223372036854775808 <= B) (b1 : B <= 9223372036854775807) (hn : zs.length <= maxLen) (hm : vs.length <= maxLen) (RA : Hid (SlI w p zs)) (RB : Hid (SlV w q vs)) (ht : tE K B F R O zs vs ≠ 0) :
  Calls Tryz.prog 39 #[Tn K B F R O p zs.length c q vs.length d, .int .i64 ax, .int .i64 fr, .int .i64 tt] w (TRes 0 0 0 0 0 [] [] (tE K B F R O zs vs) w) := by
 have TV0 := fun w h1 h2 => rval K B F R O p zs c q vs d w hn hm h1 h2
 obtain ⟨E, hE⟩ : ∃ E, tE K B F R O zs vs = E := ⟨_, rfl⟩
 rw [hE] at TV0 ht ⊢
 have g1 : (E == 0) = false := by simpa using ht
 have g2 : (E != 0) = true := by simpa using ht
 obtain ⟨m, hmm⟩ : ∃ m, vs.length = m := ⟨_, rfl⟩
 have HM := Lib.hid hmm
 rw [hmm] at TV0 ⊢
 have TV := Lib.hid TV0
 have B0 : Hid (Below w.heap.size w ((w.alloc (Obj.cells #[Value.int .i64 K, Value.int .i64 B, Value.int .i64 F, Value.int .i64 R, Value.int .i64 O, Value.slice p zs.length c, Value.slice q m d] 27)).alloc (Obj.cells #[Value.int .i64 0, Value.int .i64 0, Value.int .i64 0, Value.int .i64 0, Value.int .i64 0, Value.slice none 0 0, Value.slice none 0 0] 27))) := Lib.hid (((Below.refl _ _).alloc (Nat.le_refl _) _).alloc (by simp) _)
 have T0 : Hid (B7 ((w.alloc (Obj.cells #[Value.int .i64 K, Value.int .i64 B, Value.int .i64 F, Value.int .i64 R, Value.int .i64 O, Value.slice p zs.length c, Value.slice q m d] 27)).alloc (Obj.cells #[Value.int .i64 0, Value.int .i64 0, Value.int .i64 0, Value.int .i64 0, Value.int .i64 0, Value.slice none 0 0, Value.slice none 0 0] 27)) (w.heap.size) (.int .i64 K) (.int .i64 B) (.int .i64 F) (.int .i64 R) (.int .i64 O) (.slice p zs.length c) (.slice q m d)) := Lib.hid ((B7.new w _ (.int .i64 K) (.int .i64 B) (.int .i64 F) (.int .i64 R) (.int .i64 O) (.slice p zs.length c) (.slice q m d)).alloc _)
 have R0 : Hid (B7 ((w.alloc (Obj.cells #[Value.int .i64 K, Value.int .i64 B, Value.int .i64 F, Value.int .i64 R, Value.int .i64 O, Value.slice p zs.length c, Value.slice q m d] 27)).alloc (Obj.cells #[Value.int .i64 0, Value.int .i64 0, Value.int .i64 0, Value.int .i64 0, Value.int .i64 0, Value.slice none 0 0, Value.slice none 0 0] 27)) (w.heap.size + 1) (.int .i64 0) (.int .i64 0) (.int .i64 0) (.int .i64 0) (.int .i64 0) (.slice none 0 0) (.slice none 0 0)) := Lib.hid (by have h := B7.new (w.alloc (Obj.cells #[Value.int .i64 K, Value.int .i64 B, Value.int .i64 F, Value.int .i64 R, Value.int .i64 O, Value.slice p zs.length c, Value.slice q m d] 27)) 27 (.int .i64 0) (.int .i64 0) (.int .i64 0) (.int .i64 0) (.int .i64 0) (.slice none 0 0) (.slice none 0 0); simpa using h)
 clear TV0
 clear hE ht hm hmm
 unfold Tn at *
 go_enter Tryz.func39, Tryz.ntmps39
 go_wp2_with (go_at_call 21; (with_reducible refine (TV.out _ (Lib.hid (SlI.keep B0.out RA.out)) (Lib.hid (SlV.below RB.out B0.out))).mono ?_); rintro e w1 ⟨rfl, hb⟩; have KB := Lib.hid (B0.out.trans (hb.mono B0.out.size)); have TB := Lib.hid (B7.keep hb (by simp <;> omega) T0.out); have RB9 := Lib.hid (B7.keep hb (by simp <;> omega) R0.out); obtain ⟨⟨c0, c1, c2, c3, c4, c5, c6⟩, -⟩ := TB.out; obtain ⟨⟨z0, z1, z2, z3, z4, z5, z6⟩, ⟨f0, f1, f2, f3, f4, f5, f6⟩⟩ := RB9.out; have lr : w.heap.size + 1 < w1.heap.size := RB9.out.lt; clear hb)
 have SBB := (((((((KB.out).setCell (p := ⟨w.heap.size + 1, 0, none⟩) (by dsimp only; omega) (.int .i64 0)).setCell (p := ⟨w.heap.size + 1, 1, none⟩) (by dsimp only; omega) (.int .i64 0)).setCell (p := ⟨w.heap.size + 1, 2, none⟩) (by dsimp only; omega) (.int .i64 0)).setCell (p := ⟨w.heap.size + 1, 3, none⟩) (by dsimp only; omega) (.int .i64 0)).setCell (p := ⟨w.heap.size + 1, 4, none⟩) (by dsimp only; omega) (.int .i64 0)).setCell (p := ⟨w.heap.size + 1, 5, none⟩) (by dsimp only; omega) (.slice none 0 0)).setCell (p := ⟨w.heap.size + 1, 6, none⟩) (by dsimp only; omega) (.slice none 0 0)
 refine bodyPost_ret (v := .tuple #[.agg #[.int .i64 0, .int .i64 0, .int .i64 0, .int .i64 0, .int .i64 0, .slice none 0 0, .slice none 0 0], .int .i64 E]) (by simp [results, Tryz.results39, go_sem, z0, f0, z1, f1, z2, f2, z3, f3, z4, f4, z5, f5, z6, f6, lr]) rfl (TRes.no SBB)

set_option maxRecDepth 100000 in
set_option maxHeartbeats 2000000 in
theorem rs_b0 (K B F R O : Int) (p : Option Addr) (zs : List Int) (c : Nat) (q : Option Addr) (vs : List (Int × Int)) (d : Nat) (ax fr tt : Int) (w : World) (b0 : -9223372036854775808 <= B) (b1 : B <= 9223372036854775807) (hn : zs.length <= maxLen) (hm : vs.length <= maxLen) (RA : Hid (SlI w p zs)) (RB : Hid (SlV w q vs)) (ht : tE K B F R O zs vs = 0) (ha : ax < 0) :
  Calls Tryz.prog 39 #[Tn K B F R O p zs.length c q vs.length d, .int .i64 ax, .int .i64 fr, .int .i64 tt] w (TRes 0 0 0 0 0 [] [] 11 w) := by
 have TV0 := fun w h1 h2 => rval K B F R O p zs c q vs d w hn hm h1 h2
 rw [ht] at TV0
 obtain ⟨m, hmm⟩ : ∃ m, vs.length = m := ⟨_, rfl⟩
 have HM := Lib.hid hmm
 rw [hmm] at TV0 ⊢
 have TV := Lib.hid TV0
 have B0 : Hid (Below w.heap.size w ((w.alloc (Obj.cells #[Value.int .i64 K, Value.int .i64 B, Value.int .i64 F, Value.int .i64 R, Value.int .i64 O, Value.slice p zs.length c, Value.slice q m d] 27)).alloc (Obj.cells #[Value.int .i64 0, Value.int .i64 0, Value.int .i64 0, Value.int .i64 0, Value.int .i64 0, Value.slice none 0 0, Value.slice none 0 0] 27))) := Lib.hid (((Below.refl _ _).alloc (Nat.le_refl _) _).alloc (by simp) _)
 have T0 : Hid (B7 ((w.alloc (Obj.cells #[Value.int .i64 K, Value.int .i64 B, Value.int .i64 F, Value.int .i64 R, Value.int .i64 O, Value.slice p zs.length c, Value.slice q m d] 27)).alloc (Obj.cells #[Value.int .i64 0, Value.int .i64 0, Value.int .i64 0, Value.int .i64 0, Value.int .i64 0, Value.slice none 0 0, Value.slice none 0 0] 27)) (w.heap.size) (.int .i64 K) (.int .i64 B) (.int .i64 F) (.int .i64 R) (.int .i64 O) (.slice p zs.length c) (.slice q m d)) := Lib.hid ((B7.new w _ (.int .i64 K) (.int .i64 B) (.int .i64 F) (.int .i64 R) (.int .i64 O) (.slice p zs.length c) (.slice q m d)).alloc _)
 have R0 : Hid (B7 ((w.alloc (Obj.cells #[Value.int .i64 K, Value.int .i64 B, Value.int .i64 F, Value.int .i64 R, Value.int .i64 O, Value.slice p zs.length c, Value.slice q m d] 27)).alloc (Obj.cells #[Value.int .i64 0, Value.int .i64 0, Value.int .i64 0, Value.int .i64 0, Value.int .i64 0, Value.slice none 0 0, Value.slice none 0 0] 27)) (w.heap.size + 1) (.int .i64 0) (.int .i64 0) (.int .i64 0) (.int .i64 0) (.int .i64 0) (.slice none 0 0) (.slice none 0 0)) := Lib.hid (by have h := B7.new (w.alloc (Obj.cells #[Value.int .i64 K, Value.int .i64 B, Value.int .i64 F, Value.int .i64 R, Value.int .i64 O, Value.slice p zs.length c, Value.slice q m d] 27)) 27 (.int .i64 0) (.int .i64 0) (.int .i64 0) (.int .i64 0) (.int .i64 0) (.slice none 0 0) (.slice none 0 0); simpa using h)
 clear TV0
 have g1 : decide (ax < 0) = true := by simpa using ha
 clear ha
 clear ht hm hmm
 unfold Tn at *
 go_enter Tryz.func39, Tryz.ntmps39
 go_wp2_with (go_at_call 21; (with_reducible refine (TV.out _ (Lib.hid (SlI.keep B0.out RA.out)) (Lib.hid (SlV.below RB.out B0.out))).mono ?_); rintro e w1 ⟨rfl, hb⟩; have KB := Lib.hid (B0.out.trans (hb.mono B0.out.size)); have TB := Lib.hid (B7.keep hb (by simp <;> omega) T0.out); have RB9 := Lib.hid (B7.keep hb (by simp <;> omega) R0.out); obtain ⟨⟨c0, c1, c2, c3, c4, c5, c6⟩, -⟩ := TB.out; obtain ⟨⟨z0, z1, z2, z3, z4, z5, z6⟩, ⟨f0, f1, f2, f3, f4, f5, f6⟩⟩ := RB9.out; have lr : w.heap.size + 1 < w1.heap.size := RB9.out.lt; clear hb)
 have SBB := (((((((KB.out).setCell (p := ⟨w.heap.size + 1, 0, none⟩) (by dsimp only; omega) (.int .i64 0)).setCell (p := ⟨w.heap.size + 1, 1, none⟩) (by dsimp only; omega) (.int .i64 0)).setCell (p := ⟨w.heap.size + 1, 2, none⟩) (by dsimp only; omega) (.int .i64 0)).setCell (p := ⟨w.heap.size + 1, 3, none⟩) (by dsimp only; omega) (.int .i64 0)).setCell (p := ⟨w.heap.size + 1, 4, none⟩) (by dsimp only; omega) (.int .i64 0)).setCell (p := ⟨w.heap.size + 1, 5, none⟩) (by dsimp only; omega) (.slice none 0 0)).setCell (p := ⟨w.heap.size + 1, 6, none⟩) (by dsimp only; omega) (.slice none 0 0)
 refine bodyPost_ret (v := .tuple #[.agg #[.int .i64 0, .int .i64 0, .int .i64 0, .int .i64 0, .int .i64 0, .slice none 0 0, .slice none 0 0], .int .i64 11]) (by simp [results, Tryz.results39, go_sem, z0, f0, z1, f1, z2, f2, z3, f3, z4, f4, z5, f5, z6, f6, lr]) rfl (TRes.no SBB)

set_option maxRecDepth 100000 in
set_option maxHeartbeats 2000000 in
theorem rs_b1 (K B F R O : Int) (p : Option Addr) (zs : List Int) (c : Nat) (q : Option Addr) (vs : List (Int × Int)) (d : Nat) (ax fr tt : Int) (w : World) (b0 : -9223372036854775808 <= B) (b1 : B <= 9223372036854775807) (hn : zs.length <= maxLen) (hm : vs.length <= maxLen) (RA : Hid (SlI w p zs)) (RB : Hid (SlV w q vs)) (ht : tE K B F R O zs vs = 0) (ha : ¬ ax < 0) (ha2 : (zs.length : Int) <= ax) :
  Calls Tryz.prog 39 #[Tn K B F R O p zs.length c q vs.length d, .int .i64 ax, .int .i64 fr, .int .i64 tt] w (TRes 0 0 0 0 0 [] [] 11 w) := by
 have TV0 := fun w h1 h2 => rval K B F R O p zs c q vs d w hn hm h1 h2
 rw [ht] at TV0
 obtain ⟨m, hmm⟩ : ∃ m, vs.length = m := ⟨_, rfl⟩
 have HM := Lib.hid hmm
 rw [hmm] at TV0 ⊢
 have TV := Lib.hid TV0
 have B0 : Hid (Below w.heap.size w ((w.alloc (Obj.cells #[Value.int .i64 K, Value.int .i64 B, Value.int .i64 F, Value.int .i64 R, Value.int .i64 O, Value.slice p zs.length c, Value.slice q m d] 27)).alloc (Obj.cells #[Value.int .i64 0, Value.int .i64 0, Value.int .i64 0, Value.int .i64 0, Value.int .i64 0, Value.slice none 0 0, Value.slice none 0 0] 27))) := Lib.hid (((Below.refl _ _).alloc (Nat.le_refl _) _).alloc (by simp) _)
 have T0 : Hid (B7 ((w.alloc (Obj.cells #[Value.int .i64 K, Value.int .i64 B, Value.int .i64 F, Value.int .i64 R, Value.int .i64 O, Value.slice p zs.length c, Value.slice q m d] 27)).alloc (Obj.cells #[Value.int .i64 0, Value.int .i64 0, Value.int .i64 0, Value.int .i64 0, Value.int .i64 0, Value.slice none 0 0, Value.slice none 0 0] 27)) (w.heap.size) (.int .i64 K) (.int .i64 B) (.int .i64 F) (.int .i64 R) (.int .i64 O) (.slice p zs.length c) (.slice q m d)) := Lib.hid ((B7.new w _ (.int .i64 K) (.int .i64 B) (.int .i64 F) (.int .i64 R) (.int .i64 O) (.slice p zs.length c) (.slice q m d)).alloc _)
 have R0 : Hid (B7 ((w.alloc (Obj.cells #[Value.int .i64 K, Value.int .i64 B, Value.int .i64 F, Value.int .i64 R, Value.int .i64 O, Value.slice p zs.length c, Value.slice q m d] 27)).alloc (Obj.cells #[Value.int .i64 0, Value.int .i64 0, Value.int .i64 0, Value.int .i64 0, Value.int .i64 0, Value.slice none 0 0, Value.slice none 0 0] 27)) (w.heap.size + 1) (.int .i64 0) (.int .i64 0) (.int .i64 0) (.int .i64 0) (.int .i64 0) (.slice none 0 0) (.slice none 0 0)) := Lib.hid (by have h := B7.new (w.alloc (Obj.cells #[Value.int .i64 K, Value.int .i64 B, Value.int .i64 F, Value.int .i64 R, Value.int .i64 O, Value.slice p zs.length c, Value.slice q m d] 27)) 27 (.int .i64 0) (.int .i64 0) (.int .i64 0) (.int .i64 0) (.int .i64 0) (.slice none 0 0) (.slice none 0 0); simpa using h)
 clear TV0
 have g1 : decide (ax < 0) = false := by simpa using ha
 have g2 : decide ((zs.length : Int) <= ax) = true := by simpa using ha2
 have g3 : decide (ax < (zs.length : Int)) = false := by simpa using ha2
 clear ha ha2
 clear ht hm hmm
 unfold Tn at *
 go_enter Tryz.func39, Tryz.ntmps39
 go_wp2_with (go_at_call 21; (with_reducible refine (TV.out _ (Lib.hid (SlI.keep B0.out RA.out)) (Lib.hid (SlV.below RB.out B0.out))).mono ?_); rintro e w1 ⟨rfl, hb⟩; have KB := Lib.hid (B0.out.trans (hb.mono B0.out.size)); have TB := Lib.hid (B7.keep hb (by simp <;> omega) T0.out); have RB9 := Lib.hid (B7.keep hb (by simp <;> omega) R0.out); obtain ⟨⟨c0, c1, c2, c3, c4, c5, c6⟩, -⟩ := TB.out; obtain ⟨⟨z0, z1, z2, z3, z4, z5, z6⟩, ⟨f0, f1, f2, f3, f4, f5, f6⟩⟩ := RB9.out; have lr : w.heap.size + 1 < w1.heap.size := RB9.out.lt; clear hb)
 have SBB := (((((((KB.out).setCell (p := ⟨w.heap.size + 1, 0, none⟩) (by dsimp only; omega) (.int .i64 0)).setCell (p := ⟨w.heap.size + 1, 1, none⟩) (by dsimp only; omega) (.int .i64 0)).setCell (p := ⟨w.heap.size + 1, 2, none⟩) (by dsimp only; omega) (.int .i64 0)).setCell (p := ⟨w.heap.size + 1, 3, none⟩) (by dsimp only; omega) (.int .i64 0)).setCell (p := ⟨w.heap.size + 1, 4, none⟩) (by dsimp only; omega) (.int .i64 0)).setCell (p := ⟨w.heap.size + 1, 5, none⟩) (by dsimp only; omega) (.slice none 0 0)).setCell (p := ⟨w.heap.size + 1, 6, none⟩) (by dsimp only; omega) (.slice none 0 0)
 refine bodyPost_ret (v := .tuple #[.agg #[.int .i64 0, .int .i64 0, .int .i64 0, .int .i64 0, .int .i64 0, .slice none 0 0, .slice none 0 0], .int .i64 11]) (by simp [results, Tryz.results39, go_sem, z0, f0, z1, f1, z2, f2, z3, f3, z4, f4, z5, f5, z6, f6, lr]) rfl (TRes.no SBB)

set_option maxRecDepth 100000 in
set_option maxHeartbeats 2000000 in
theorem rs_c0 (K B F R O : Int) (p : Option Addr) (zs : List Int) (c : Nat) (q : Option Addr) (vs : List (Int × Int)) (d : Nat) (ax fr tt : Int) (w : World) (b0 : -9223372036854775808 <= B) (b1 : B <= 9223372036854775807) (hn : zs.length <= maxLen) (hm : vs.length <= maxLen) (RA : Hid (SlI w p zs)) (RB : Hid (SlV w q vs)) (ht : tE K B F R O zs vs = 0) (ha : ¬ ax < 0) (ha2 : ax < (zs.length : Int)) (hf : fr < 0) :
  Calls Tryz.prog 39 #[Tn K B F R O p zs.length c q vs.length d, .int .i64 ax, .int .i64 fr, .int .i64 tt] w (TRes 0 0 0 0 0 [] [] 12 w) := by
 have TV0 := fun w h1 h2 => rval K B F R O p zs c q vs d w hn hm h1 h2
 rw [ht] at TV0
 obtain ⟨m, hmm⟩ : ∃ m, vs.length = m := ⟨_, rfl⟩
 have HM := Lib.hid hmm
 rw [hmm] at TV0 ⊢
 have TV := Lib.hid TV0
 have B0 : Hid (Below w.heap.size w ((w.alloc (Obj.cells #[Value.int .i64 K, Value.int .i64 B, Value.int .i64 F, Value.int .i64 R, Value.int .i64 O, Value.slice p zs.length c, Value.slice q m d] 27)).alloc (Obj.cells #[Value.int .i64 0, Value.int .i64 0, Value.int .i64 0, Value.int .i64 0, Value.int .i64 0, Value.slice none 0 0, Value.slice none 0 0] 27))) := Lib.hid (((Below.refl _ _).alloc (Nat.le_refl _) _).alloc (by simp) _)
 have T0 : Hid (B7 ((w.alloc (Obj.cells #[Value.int .i64 K, Value.int .i64 B, Value.int .i64 F, Value.int .i64 R, Value.int .i64 O, Value.slice p zs.length c, Value.slice q m d] 27)).alloc (Obj.cells #[Value.int .i64 0, Value.int .i64 0, Value.int .i64 0, Value.int .i64 0, Value.int .i64 0, Value.slice none 0 0, Value.slice none 0 0] 27)) (w.heap.size) (.int .i64 K) (.int .i64 B) (.int .i64 F) (.int .i64 R) (.int .i64 O) (.slice p zs.length c) (.slice q m d)) := Lib.hid ((B7.new w _ (.int .i64 K) (.int .i64 B) (.int .i64 F) (.int .i64 R) (.int .i64 O) (.slice p zs.length c) (.slice q m d)).alloc _)
 have R0 : Hid (B7 ((w.alloc (Obj.cells #[Value.int .i64 K, Value.int .i64 B, Value.int .i64 F, Value.int .i64 R, Value.int .i64 O, Value.slice p zs.length c, Value.slice q m d] 27)).alloc (Obj.cells #[Value.int .i64 0, Value.int .i64 0, Value.int .i64 0, Value.int .i64 0, Value.int .i64 0, Value.slice none 0 0, Value.slice none 0 0] 27)) (w.heap.size + 1) (.int .i64 0) (.int .i64 0) (.int .i64 0) (.int .i64 0) (.int .i64 0) (.slice none 0 0) (.slice none 0 0)) := Lib.hid (by have h := B7.new (w.alloc (Obj.cells #[Value.int .i64 K, Value.int .i64 B, Value.int .i64 F, Value.int .i64 R, Value.int .i64 O, Value.slice p zs.length c, Value.slice q m d] 27)) 27 (.int .i64 0) (.int .i64 0) (.int .i64 0) (.int .i64 0) (.int .i64 0) (.slice none 0 0) (.slice none 0 0); simpa using h)
 clear TV0
 have g1 : decide (ax < 0) = false := by simpa using ha
 have g2 : decide ((zs.length : Int) <= ax) = false := by simpa using ha2
 have g3 : decide (fr < 0) = true := by simpa using hf
 clear ha ha2 hf
 clear ht hm hmm
 unfold Tn at *
 go_enter Tryz.func39, Tryz.ntmps39
 go_wp2_with (go_at_call 21; (with_reducible refine (TV.out _ (Lib.hid (SlI.keep B0.out RA.out)) (Lib.hid (SlV.below RB.out B0.out))).mono ?_); rintro e w1 ⟨rfl, hb⟩; have KB := Lib.hid (B0.out.trans (hb.mono B0.out.size)); have TB := Lib.hid (B7.keep hb (by simp <;> omega) T0.out); have RB9 := Lib.hid (B7.keep hb (by simp <;> omega) R0.out); obtain ⟨⟨c0, c1, c2, c3, c4, c5, c6⟩, -⟩ := TB.out; obtain ⟨⟨z0, z1, z2, z3, z4, z5, z6⟩, ⟨f0, f1, f2, f3, f4, f5, f6⟩⟩ := RB9.out; have lr : w.heap.size + 1 < w1.heap.size := RB9.out.lt; clear hb)
 have SBB := (((((((KB.out).setCell (p := ⟨w.heap.size + 1, 0, none⟩) (by dsimp only; omega) (.int .i64 0)).setCell (p := ⟨w.heap.size + 1, 1, none⟩) (by dsimp only; omega) (.int .i64 0)).setCell (p := ⟨w.heap.size + 1, 2, none⟩) (by dsimp only; omega) (.int .i64 0)).setCell (p := ⟨w.heap.size + 1, 3, none⟩) (by dsimp only; omega) (.int .i64 0)).setCell (p := ⟨w.heap.size + 1, 4, none⟩) (by dsimp only; omega) (.int .i64 0)).setCell (p := ⟨w.heap.size + 1, 5, none⟩) (by dsimp only; omega) (.slice none 0 0)).setCell (p := ⟨w.heap.size + 1, 6, none⟩) (by dsimp only; omega) (.slice none 0 0)
 refine bodyPost_ret (v := .tuple #[.agg #[.int .i64 0, .int .i64 0, .int .i64 0, .int .i64 0, .int .i64 0, .slice none 0 0, .slice none 0 0], .int .i64 12]) (by simp [results, Tryz.results39, go_sem, z0, f0, z1, f1, z2, f2, z3, f3, z4, f4, z5, f5, z6, f6, lr]) rfl (TRes.no SBB)

set_option maxRecDepth 100000 in
set_option maxHeartbeats 2000000 in
theorem rs_c1 (K B F R O : Int) (p : Option Addr) (zs : List Int) (c : Nat) (q : Option Addr) (vs : List (Int × Int)) (d : Nat) (ax fr tt : Int) (w : World) (b0 : -9223372036854775808 <= B) (b1 : B <= 9223372036854775807) (hn : zs.length <= maxLen) (hm : vs.length <= maxLen) (RA : Hid (SlI w p zs)) (RB : Hid (SlV w q vs)) (ht : tE K B F R O zs vs = 0) (ha : ¬ ax < 0) (ha2 : ax < (zs.length : Int)) (hf : ¬ fr < 0) (hf2 : tt <= fr) :
  Calls Tryz.prog 39 #[Tn K B F R O p zs.length c q vs.length d, .int .i64 ax, .int .i64 fr, .int .i64 tt] w (TRes 0 0 0 0 0 [] [] 12 w) := by
 have TV0 := fun w h1 h2 => rval K B F R O p zs c q vs d w hn hm h1 h2
 rw [ht] at TV0
 obtain ⟨m, hmm⟩ : ∃ m, vs.length = m := ⟨_, rfl⟩
 have HM := Lib.hid hmm
 rw [hmm] at TV0 ⊢
 have TV := Lib.hid TV0
 have B0 : Hid (Below w.heap.size w ((w.alloc (Obj.cells #[Value.int .i64 K, Value.int .i64 B, Value.int .i64 F, Value.int .i64 R, Value.int .i64 O, Value.slice p zs.length c, Value.slice q m d] 27)).alloc (Obj.cells #[Value.int .i64 0, Value.int .i64 0, Value.int .i64 0, Value.int .i64 0, Value.int .i64 0, Value.slice none 0 0, Value.slice none 0 0] 27))) := Lib.hid (((Below.refl _ _).alloc (Nat.le_refl _) _).alloc (by simp) _)
 have T0 : Hid (B7 ((w.alloc (Obj.cells #[Value.int .i64 K, Value.int .i64 B, Value.int .i64 F, Value.int .i64 R, Value.int .i64 O, Value.slice p zs.length c, Value.slice q m d] 27)).alloc (Obj.cells #[Value.int .i64 0, Value.int .i64 0, Value.int .i64 0, Value.int .i64 0, Value.int .i64 0, Value.slice none 0 0, Value.slice none 0 0] 27)) (w.heap.size) (.int .i64 K) (.int .i64 B) (.int .i64 F) (.int .i64 R) (.int .i64 O) (.slice p zs.length c) (.slice q m d)) := Lib.hid ((B7.new w _ (.int .i64 K) (.int .i64 B) (.int .i64 F) (.int .i64 R) (.int .i64 O) (.slice p zs.length c) (.slice q m d)).alloc _)
 have R0 : Hid (B7 ((w.alloc (Obj.cells #[Value.int .i64 K, Value.int .i64 B, Value.int .i64 F, Value.int .i64 R, Value.int .i64 O, Value.slice p zs.length c, Value.slice q m d] 27)).alloc (Obj.cells #[Value.int .i64 0, Value.int .i64 0, Value.int .i64 0, Value.int .i64 0, Value.int .i64 0, Value.slice none 0 0, Value.slice none 0 0] 27)) (w.heap.size + 1) (.int .i64 0) (.int .i64 0) (.int .i64 0) (.int .i64 0) (.int .i64 0) (.slice none 0 0) (.slice none 0 0)) := Lib.hid (by have h := B7.new (w.alloc (Obj.cells #[Value.int .i64 K, Value.int .i64 B, Value.int .i64 F, Value.int .i64 R, Value.int .i64 O, Value.slice p zs.length c, Value.slice q m d] 27)) 27 (.int .i64 0) (.int .i64 0) (.int .i64 0) (.int .i64 0) (.int .i64 0) (.slice none 0 0) (.slice none 0 0); simpa using h)
 clear TV0
 have g1 : decide (ax < 0) = false := by simpa using ha
 have g2 : decide ((zs.length : Int) <= ax) = false := by simpa using ha2
 have g3 : decide (fr < 0) = false := by simpa using hf
 have g4 : decide (tt <= fr) = true := by simpa using hf2
 have g5 : decide (fr < tt) = false := by simpa using hf2
 clear ha ha2 hf hf2
 clear ht hm hmm
 unfold Tn at *
 go_enter Tryz.func39, Tryz.ntmps39
 go_wp2_with (go_at_call 21; (with_reducible refine (TV.out _ (Lib.hid (SlI.keep B0.out RA.out)) (Lib.hid (SlV.below RB.out B0.out))).mono ?_); rintro e w1 ⟨rfl, hb⟩; have KB := Lib.hid (B0.out.trans (hb.mono B0.out.size)); have TB := Lib.hid (B7.keep hb (by simp <;> omega) T0.out); have RB9 := Lib.hid (B7.keep hb (by simp <;> omega) R0.out); obtain ⟨⟨c0, c1, c2, c3, c4, c5, c6⟩, -⟩ := TB.out; obtain ⟨⟨z0, z1, z2, z3, z4, z5, z6⟩, ⟨f0, f1, f2, f3, f4, f5, f6⟩⟩ := RB9.out; have lr : w.heap.size + 1 < w1.heap.size := RB9.out.lt; clear hb)
 have SBB := (((((((KB.out).setCell (p := ⟨w.heap.size + 1, 0, none⟩) (by dsimp only; omega) (.int .i64 0)).setCell (p := ⟨w.heap.size + 1, 1, none⟩) (by dsimp only; omega) (.int .i64 0)).setCell (p := ⟨w.heap.size + 1, 2, none⟩) (by dsimp only; omega) (.int .i64 0)).setCell (p := ⟨w.heap.size + 1, 3, none⟩) (by dsimp only; omega) (.int .i64 0)).setCell (p := ⟨w.heap.size + 1, 4, none⟩) (by dsimp only; omega) (.int .i64 0)).setCell (p := ⟨w.heap.size + 1, 5, none⟩) (by dsimp only; omega) (.slice none 0 0)).setCell (p := ⟨w.heap.size + 1, 6, none⟩) (by dsimp only; omega) (.slice none 0 0)
 refine bodyPost_ret (v := .tuple #[.agg #[.int .i64 0, .int .i64 0, .int .i64 0, .int .i64 0, .int .i64 0, .slice none 0 0, .slice none 0 0], .int .i64 12]) (by simp [results, Tryz.results39, go_sem, z0, f0, z1, f1, z2, f2, z3, f3, z4, f4, z5, f5, z6, f6, lr]) rfl (TRes.no SBB)

set_option maxRecDepth 100000 in
set_option maxHeartbeats 2000000 in
theorem rs_c2 (K B F R O : Int) (p : Option Addr) (zs : List Int) (c : Nat) (q : Option Addr) (vs : List (Int × Int)) (d : Nat) (a : Nat) (fr tt : Int) (w : World) (b0 : -9223372036854775808 <= B) (b1 : B <= 9223372036854775807) (hn : zs.length <= maxLen) (hm : vs.length <= maxLen) (RA : Hid (SlI w p zs)) (RB : Hid (SlV w q vs)) (ht : tE K B F R O zs vs = 0) (ha : a < zs.length) (hf : ¬ fr < 0) (hf2 : fr < tt) (hf3 : zs.getD a 0 < tt) :
  Calls Tryz.prog 39 #[Tn K B F R O p zs.length c q vs.length d, .int .i64 a, .int .i64 fr, .int .i64 tt] w (TRes 0 0 0 0 0 [] [] 12 w) := by
 have TV0 := fun w h1 h2 => rval K B F R O p zs c q vs d w hn hm h1 h2
 rw [ht] at TV0
 obtain ⟨bb, oo, hpp, hcell⟩ := RA.out a ha
 obtain ⟨z, hz⟩ : ∃ z, zs.getD a 0 = z := ⟨_, rfl⟩
 rw [hz] at hcell hf3
 have hbb : bb < w.heap.size := World.block_lt_of_cell? _ _ hcell
 have HCELL := Lib.hid hcell
 subst hpp
 obtain ⟨m, hmm⟩ : ∃ m, vs.length = m := ⟨_, rfl⟩
 have HM := Lib.hid hmm
 rw [hmm] at TV0 ⊢
 have TV := Lib.hid TV0
 have B0 : Hid (Below w.heap.size w ((w.alloc (Obj.cells #[Value.int .i64 K, Value.int .i64 B, Value.int .i64 F, Value.int .i64 R, Value.int .i64 O, Value.slice (some ⟨bb, oo, none⟩) zs.length c, Value.slice q m d] 27)).alloc (Obj.cells #[Value.int .i64 0, Value.int .i64 0, Value.int .i64 0, Value.int .i64 0, Value.int .i64 0, Value.slice none 0 0, Value.slice none 0 0] 27))) := Lib.hid (((Below.refl _ _).alloc (Nat.le_refl _) _).alloc (by simp) _)
 have T0 : Hid (B7 ((w.alloc (Obj.cells #[Value.int .i64 K, Value.int .i64 B, Value.int .i64 F, Value.int .i64 R, Value.int .i64 O, Value.slice (some ⟨bb, oo, none⟩) zs.length c, Value.slice q m d] 27)).alloc (Obj.cells #[Value.int .i64 0, Value.int .i64 0, Value.int .i64 0, Value.int .i64 0, Value.int .i64 0, Value.slice none 0 0, Value.slice none 0 0] 27)) (w.heap.size) (.int .i64 K) (.int .i64 B) (.int .i64 F) (.int .i64 R) (.int .i64 O) (.slice (some ⟨bb, oo, none⟩) zs.length c) (.slice q m d)) := Lib.hid ((B7.new w _ (.int .i64 K) (.int .i64 B) (.int .i64 F) (.int .i64 R) (.int .i64 O) (.slice (some ⟨bb, oo, none⟩) zs.length c) (.slice q m d)).alloc _)
 have R0 : Hid (B7 ((w.alloc (Obj.cells #[Value.int .i64 K, Value.int .i64 B, Value.int .i64 F, Value.int .i64 R, Value.int .i64 O, Value.slice (some ⟨bb, oo, none⟩) zs.length c, Value.slice q m d] 27)).alloc (Obj.cells #[Value.int .i64 0, Value.int .i64 0, Value.int .i64 0, Value.int .i64 0, Value.int .i64 0, Value.slice none 0 0, Value.slice none 0 0] 27)) (w.heap.size + 1) (.int .i64 0) (.int .i64 0) (.int .i64 0) (.int .i64 0) (.int .i64 0) (.slice none 0 0) (.slice none 0 0)) := Lib.hid (by have h := B7.new (w.alloc (Obj.cells #[Value.int .i64 K, Value.int .i64 B, Value.int .i64 F, Value.int .i64 R, Value.int .i64 O, Value.slice (some ⟨bb, oo, none⟩) zs.length c, Value.slice q m d] 27)) 27 (.int .i64 0) (.int .i64 0) (.int .i64 0) (.int .i64 0) (.int .i64 0) (.slice none 0 0) (.slice none 0 0); simpa using h)
 clear TV0
 have g1 : decide ((a : Int) < 0) = false := by simp
 have g2 : decide ((zs.length : Int) <= a) = false := by simp; omega
 have g2' : decide (zs.length <= a) = false := by simp; omega
 have g3 : decide (fr < 0) = false := by simpa using hf
 have g4 : decide (tt <= fr) = false := by simpa using hf2
 have g5 : decide (z < tt) = true := by simpa using hf3
 have a0 : (0 : Int) <= a := by omega
 have a1 : (a : Int) < zs.length := by omega
 clear ht hm hmm hf hf2 hf3 hcell hz ha
 unfold Tn at *
 go_enter Tryz.func39, Tryz.ntmps39
 go_upto_region 4 with (go_at_call 21; (with_reducible refine (TV.out _ (Lib.hid (SlI.keep B0.out RA.out)) (Lib.hid (SlV.below RB.out B0.out))).mono ?_); rintro e w1 ⟨rfl, hb⟩; have KB := Lib.hid (B0.out.trans (hb.mono B0.out.size)); have TB := Lib.hid (B7.keep hb (by simp <;> omega) T0.out); have RB9 := Lib.hid (B7.keep hb (by simp <;> omega) R0.out); obtain ⟨⟨c0, c1, c2, c3, c4, c5, c6⟩, -⟩ := TB.out; obtain ⟨⟨z0, z1, z2, z3, z4, z5, z6⟩, ⟨f0, f1, f2, f3, f4, f5, f6⟩⟩ := RB9.out; have lr : w.heap.size + 1 < w1.heap.size := RB9.out.lt; clear hb)
 have hcell := Rg.keep KB.out hbb HCELL.out
 go_wp2_with fail
 have SBB := (((((((KB.out).setCell (p := ⟨w.heap.size + 1, 0, none⟩) (by dsimp only; omega) (.int .i64 0)).setCell (p := ⟨w.heap.size + 1, 1, none⟩) (by dsimp only; omega) (.int .i64 0)).setCell (p := ⟨w.heap.size + 1, 2, none⟩) (by dsimp only; omega) (.int .i64 0)).setCell (p := ⟨w.heap.size + 1, 3, none⟩) (by dsimp only; omega) (.int .i64 0)).setCell (p := ⟨w.heap.size + 1, 4, none⟩) (by dsimp only; omega) (.int .i64 0)).setCell (p := ⟨w.heap.size + 1, 5, none⟩) (by dsimp only; omega) (.slice none 0 0)).setCell (p := ⟨w.heap.size + 1, 6, none⟩) (by dsimp only; omega) (.slice none 0 0)
 refine bodyPost_ret (v := .tuple #[.agg #[.int .i64 0, .int .i64 0, .int .i64 0, .int .i64 0, .int .i64 0, .slice none 0 0, .slice none 0 0], .int .i64 12]) (by simp [results, Tryz.results39, go_sem, z0, f0, z1, f1, z2, f2, z3, f3, z4, f4, z5, f5, z6, f6, lr]) rfl (TRes.no SBB)
end Go.Proofs.YteaaikmejacpaaaGreatDoor.Te

namespace Go.Proofs.YteaaikmejacpaaaGreatDoor.Te
open Go.ChangeShapes Go.WideShapes Go.ChangeAt Go.RowKit
open Fx Va Sh
set_option maxRecDepth 8000
set_option linter.unusedVariables false
set_option linter.unusedSimpArgs false

theorem take_snocI {l : List Int} {j : Nat} (h : j < l.length) : l.take (j + 1) = l.take j ++ [l.getD j 0] := by
 rw [List.take_add_one, List.getElem?_eq_getElem h, List.getD_eq_getElem?_getD, List.getElem?_eq_getElem h]
 rfl
theorem set_getI {l : List Int} {a j : Nat} {v : Int} (h : j < l.length) : (l.set a v).getD j 0 = if a = j then v else l.getD j 0 := by
 rw [List.getD_eq_getElem?_getD, List.getElem?_set]
 by_cases e : a = j
 ·rw [if_pos e, if_pos e, if_pos (by omega)]; rfl
 ·rw [if_neg e, if_neg e, List.getD_eq_getElem?_getD]
theorem row_baseI {u : World} {B n : Nat} {v : Value} {xs : List Value} (h : u.ownsRow B 3 1 v n xs) : ∀ k, v.ownBlock = some k -> B <= k := fun k e => (h.lt k e).1
theorem newsI (u : World) (x : Int) {b : Nat} (hb : u.heap.size = b) : ∀ (j : Nat) (v : Value), ([Value.int .i64 x] : List Value)[j]? = some v -> (u.alloc (Obj.cells #[Value.int .i64 x] 3)).cell? ((⟨b, 0, none⟩ : Addr).add j) = some v := by
 subst hb
 intro j v hj
 rw [add_at, Nat.zero_add]
 rcases j with _ | j
 ·cases hj; go_cell
 ·cases hj
theorem one1 (x : Int) : ∀ v ∈ ([Value.int .i64 x] : List Value), v.oneCell' = true := by
 intro v hv
 rw [List.mem_singleton] at hv
 subst hv
 rfl

theorem pt_axis {zs : List Int} {a i my af : Nat} (ha : a < zs.length) (hmy : zs.getD a 0 = my) (haf : sp (zs.drop (a + 1)) = af) : (pt zs (i : Int)).getD a 0 = ((i / af % my : Nat) : Int) := by
 rw [pt_get ha, hmy, haf]
 push_cast
 rfl

set_option maxRecDepth 100000 in
set_option maxHeartbeats 2000000 in
theorem rs_ok (K B F R O : Int) (p : Option Addr) (zs : List Int) (c : Nat) (q : Option Addr) (vs : List (Int × Int)) (d : Nat) (a f t : Nat) (w : World) (b0 : -9223372036854775808 <= B) (b1 : B <= 9223372036854775807) (hn : zs.length <= maxLen) (hm : vs.length <= maxLen) (RA : Hid (SlI w p zs)) (RB : Hid (SlV w q vs)) (ht : tE K B F R O zs vs = 0) (ha : a < zs.length) (hf : f < t) (htt : (t : Int) <= zs.getD a 0) (bf my af : Nat) (hbf : sp (zs.take a) = bf) (hmy : zs.getD a 0 = my) (haf : sp (zs.drop (a + 1)) = af) (q1 : 1 <= bf) (q2 : 1 <= my) (q3 : 1 <= af) (hmm3 : vs.length = bf * my * af) (q5 : bf * af <= vs.length) (q6 : my <= vs.length) (q7 : bf <= vs.length) (q8 : af <= vs.length) :
  Calls Tryz.prog 39 #[Tn K B F R O p zs.length c q vs.length d, .int .i64 a, .int .i64 f, .int .i64 t] w (TRes K B F R O (zs.set a ((t : Int) - f)) (slV vs my af f t bf) 0 w) := by
 have TV0 := fun w h1 h2 => rval K B F R O p zs c q vs d w hn hm h1 h2
 rw [ht] at TV0
 obtain ⟨-, hv, tl, -⟩ := tE_ok ht
 obtain ⟨h6, -, -, hsp, -⟩ := valid_of hv
 have m4 : vs.length <= 4096 := by omega
 have htm : t <= my := by omega
 rw [<- seV_all q3 (Nat.le_of_lt hf) htm hmm3 bf (Nat.le_refl _), <- hmm3]
 have PT0 := fun (i : Nat) (hi : (i : Int) < sp zs) (u : World) h => trpo (some ⟨0, 0, none⟩) zs c i u hv hi h
 have PTG := fun (p : Option Addr) (i : Nat) (hi : i < vs.length) (u : World) h => trpo p zs c i u hv (by rw [<- tl]; exact_mod_cast hi) h
 have PA := Lib.hid fun (i : Nat) => pt_axis (i := i) ha hmy haf
 have SE := Lib.hid fun (i : Nat) => (show seV vs my af f t (i + 1) = seV vs my af f t i ++ if f <= i / af % my /\ i / af % my < t then [vs.getD i (0, 0)] else [] from rfl)
 have SG := Lib.hid fun (i : Nat) (hi : i < zs.length) => set_getI (a := a) (v := (t : Int) - f) hi
 have ST0 := Lib.hid fun (i : Nat) (hi : i < zs.length) => take_snocI (l := (zs.set a ((t : Int) - f))) (j := i) (by rw [List.length_set]; exact hi)
 have HSL := Lib.hid (show (zs.set a ((t : Int) - f)).length = zs.length from List.length_set)
 obtain ⟨bb, oo, hpp, hcell⟩ := RA.out a ha
 rw [hmy] at hcell
 have HCELL := Lib.hid hcell
 have hbb : bb < w.heap.size := World.block_lt_of_cell? _ _ hcell
 subst hpp
 obtain ⟨vb, vo, hqq, -⟩ := RB.out 0 (by omega)
 subst hqq
 have hvb : vb < w.heap.size := by
  obtain ⟨b', o', ee, v0, -⟩ := RB.out 0 (by omega)
  cases ee
  exact World.block_lt_of_cell? _ _ v0
 have hLE : ∀ i, (seV vs my af f t i).length <= i := fun i => by
  induction i with
  | zero => exact Nat.le_refl _
  | succ i ih =>
   rw [SE.out i, List.length_append]
   split
   ·simp; omega
   ·simp; omega
 have HLE := Lib.hid hLE
 obtain ⟨m, hmm⟩ : ∃ m, vs.length = m := ⟨_, rfl⟩
 have HM := Lib.hid hmm
 rw [hmm] at TV0 PTG hm tl hmm3 q5 q6 q7 q8 m4 ⊢
 have TV := Lib.hid TV0
 have B0 : Hid (Below w.heap.size w ((w.alloc (Obj.cells #[Value.int .i64 K, Value.int .i64 B, Value.int .i64 F, Value.int .i64 R, Value.int .i64 O, Value.slice (some ⟨bb, oo, none⟩) zs.length c, Value.slice (some ⟨vb, vo, none⟩) m d] 27)).alloc (Obj.cells #[Value.int .i64 0, Value.int .i64 0, Value.int .i64 0, Value.int .i64 0, Value.int .i64 0, Value.slice none 0 0, Value.slice none 0 0] 27))) := Lib.hid (((Below.refl _ _).alloc (Nat.le_refl _) _).alloc (by simp) _)
 have T0 : Hid (B7 ((w.alloc (Obj.cells #[Value.int .i64 K, Value.int .i64 B, Value.int .i64 F, Value.int .i64 R, Value.int .i64 O, Value.slice (some ⟨bb, oo, none⟩) zs.length c, Value.slice (some ⟨vb, vo, none⟩) m d] 27)).alloc (Obj.cells #[Value.int .i64 0, Value.int .i64 0, Value.int .i64 0, Value.int .i64 0, Value.int .i64 0, Value.slice none 0 0, Value.slice none 0 0] 27)) (w.heap.size) (.int .i64 K) (.int .i64 B) (.int .i64 F) (.int .i64 R) (.int .i64 O) (.slice (some ⟨bb, oo, none⟩) zs.length c) (.slice (some ⟨vb, vo, none⟩) m d)) := Lib.hid ((B7.new w _ (.int .i64 K) (.int .i64 B) (.int .i64 F) (.int .i64 R) (.int .i64 O) (.slice (some ⟨bb, oo, none⟩) zs.length c) (.slice (some ⟨vb, vo, none⟩) m d)).alloc _)
 have R0 : Hid (B7 ((w.alloc (Obj.cells #[Value.int .i64 K, Value.int .i64 B, Value.int .i64 F, Value.int .i64 R, Value.int .i64 O, Value.slice (some ⟨bb, oo, none⟩) zs.length c, Value.slice (some ⟨vb, vo, none⟩) m d] 27)).alloc (Obj.cells #[Value.int .i64 0, Value.int .i64 0, Value.int .i64 0, Value.int .i64 0, Value.int .i64 0, Value.slice none 0 0, Value.slice none 0 0] 27)) (w.heap.size + 1) (.int .i64 0) (.int .i64 0) (.int .i64 0) (.int .i64 0) (.int .i64 0) (.slice none 0 0) (.slice none 0 0)) := Lib.hid (by have h := B7.new (w.alloc (Obj.cells #[Value.int .i64 K, Value.int .i64 B, Value.int .i64 F, Value.int .i64 R, Value.int .i64 O, Value.slice (some ⟨bb, oo, none⟩) zs.length c, Value.slice (some ⟨vb, vo, none⟩) m d] 27)) 27 (.int .i64 0) (.int .i64 0) (.int .i64 0) (.int .i64 0) (.int .i64 0) (.slice none 0 0) (.slice none 0 0); simpa using h)
 clear TV0
 have PT := Lib.hid PTG
 have g1 : decide ((a : Int) < 0) = false := by simp
 have g2 : decide ((zs.length : Int) <= a) = false := by simp; omega
 have g2' : decide (zs.length <= a) = false := by simp; omega
 have g3 : decide ((f : Int) < 0) = false := by simp
 have g4 : decide ((t : Int) <= f) = false := by simp; omega
 have g4' : decide (t <= f) = false := by simp; omega
 have g5 : decide ((my : Int) < t) = false := by simp; omega
 have g5' : decide (my < t) = false := by simp; omega
 have a0 : (0 : Int) <= a := by omega
 have a1 : (a : Int) < zs.length := by omega
 have t4 : t <= 4096 := by omega
 clear ht hm hmm hmm3 tl hv hbf hmy haf hsp hcell htt PT0 PTG hLE
 unfold Tn at *
 go_enter Tryz.func39, Tryz.ntmps39
 go_upto_region 4 with (go_at_call 21; (with_reducible refine (TV.out _ (Lib.hid (SlI.keep B0.out RA.out)) (Lib.hid (SlV.below RB.out B0.out))).mono ?_); rintro e w1 ⟨rfl, hb⟩; have KB := Lib.hid (B0.out.trans (hb.mono B0.out.size)); have TB := Lib.hid (B7.keep hb (by simp <;> omega) T0.out); have RB9 := Lib.hid (B7.keep hb (by simp <;> omega) R0.out); obtain ⟨⟨c0, c1, c2, c3, c4, c5, c6⟩, -⟩ := TB.out; obtain ⟨⟨z0, z1, z2, z3, z4, z5, z6⟩, ⟨f0, f1, f2, f3, f4, f5, f6⟩⟩ := RB9.out; have lr : w.heap.size + 1 < w1.heap.size := RB9.out.lt; clear hb)
 have lt1 : w.heap.size < w1.heap.size := TB.out.lt
 have hcell := Rg.keep KB.out hbb HCELL.out
 go_upto_region 9 with fail
 have hW : Below w1.heap.size w1 (w1.alloc (Obj.cells #[Value.int .i64 K, Value.int .i64 B, Value.int .i64 F, Value.int .i64 R, Value.int .i64 O, Value.slice none 0 0, Value.slice none 0 0] 27)) := (Below.refl _ _).alloc (Nat.le_refl _) _
 have HB0 : Hid ((B7 (w1.alloc (Obj.cells #[Value.int .i64 K, Value.int .i64 B, Value.int .i64 F, Value.int .i64 R, Value.int .i64 O, Value.slice none 0 0, Value.slice none 0 0] 27)) (w.heap.size) (.int .i64 K) (.int .i64 B) (.int .i64 F) (.int .i64 R) (.int .i64 O) (.slice (some ⟨bb, oo, none⟩) zs.length c) (.slice (some ⟨vb, vo, none⟩) m d)) /\ (B7 (w1.alloc (Obj.cells #[Value.int .i64 K, Value.int .i64 B, Value.int .i64 F, Value.int .i64 R, Value.int .i64 O, Value.slice none 0 0, Value.slice none 0 0] 27)) (w.heap.size + 1) (.int .i64 0) (.int .i64 0) (.int .i64 0) (.int .i64 0) (.int .i64 0) (.slice none 0 0) (.slice none 0 0)) /\ (B7 (w1.alloc (Obj.cells #[Value.int .i64 K, Value.int .i64 B, Value.int .i64 F, Value.int .i64 R, Value.int .i64 O, Value.slice none 0 0, Value.slice none 0 0] 27)) (w1.heap.size) (.int .i64 K) (.int .i64 B) (.int .i64 F) (.int .i64 R) (.int .i64 O) (.slice none 0 0) (.slice none 0 0)) /\ (w1.alloc (Obj.cells #[Value.int .i64 K, Value.int .i64 B, Value.int .i64 F, Value.int .i64 R, Value.int .i64 O, Value.slice none 0 0, Value.slice none 0 0] 27)).ownsRow (w1.heap.size + 1) 3 1 (.slice none 0 0) 0 (((zs.set a ((t : Int) - f)).take 0).map (Value.int .i64)) /\ Below w.heap.size w (w1.alloc (Obj.cells #[Value.int .i64 K, Value.int .i64 B, Value.int .i64 F, Value.int .i64 R, Value.int .i64 O, Value.slice none 0 0, Value.slice none 0 0] 27)) /\ w1.heap.size + 1 <= (w1.alloc (Obj.cells #[Value.int .i64 K, Value.int .i64 B, Value.int .i64 F, Value.int .i64 R, Value.int .i64 O, Value.slice none 0 0, Value.slice none 0 0] 27)).heap.size) := Lib.hid ⟨B7.keep hW lt1 TB.out, B7.keep hW lr RB9.out, B7.new w1 _ (.int .i64 K) (.int .i64 B) (.int .i64 F) (.int .i64 R) (.int .i64 O) (.slice none 0 0) (.slice none 0 0), World.ownsRow_nil _ _ _ _, KB.out.trans (hW.mono KB.out.size), by simp⟩
 have LR1 := Lib.hid lr
 clear hcell z0 f0 c0 z1 f1 c1 z2 f2 c2 z3 f3 c3 z4 f4 c4 z5 f5 c5 z6 f6 c6 TB RB9 KB hW lr
 go_wp2_with fail
 go_loopw [12] (fun iv wr => ∃ (i : Nat) (qv : Option Addr) (dv : Nat), iv = .int .i64 (i : Int) /\ i <= zs.length /\ Hid ((B7 wr (w.heap.size) (.int .i64 K) (.int .i64 B) (.int .i64 F) (.int .i64 R) (.int .i64 O) (.slice (some ⟨bb, oo, none⟩) zs.length c) (.slice (some ⟨vb, vo, none⟩) m d)) /\ (B7 wr (w.heap.size + 1) (.int .i64 0) (.int .i64 0) (.int .i64 0) (.int .i64 0) (.int .i64 0) (.slice none 0 0) (.slice none 0 0)) /\ (B7 wr (w1.heap.size) (.int .i64 K) (.int .i64 B) (.int .i64 F) (.int .i64 R) (.int .i64 O) (.slice qv i dv) (.slice none 0 0)) /\ wr.ownsRow (w1.heap.size + 1) 3 1 (.slice qv i dv) i (((zs.set a ((t : Int) - f)).take i).map (Value.int .i64)) /\ Below w.heap.size w wr /\ w1.heap.size + 1 <= wr.heap.size)) (fun iv _ => zs.length - (intOf iv).toNat)
 case atStart => exact ⟨0, none, 0, rfl, Nat.zero_le _, HB0⟩
 case round =>
  obtain ⟨i, qv, dv, rfl, hi0, HJ⟩ := hrel
  clear HB0
  obtain ⟨TJ, RJ, DJ, VJ, KJ, hszr⟩ := HJ.out
  obtain ⟨⟨c0, c1, c2, c3, c4, c5, c6⟩, -⟩ := TJ
  obtain ⟨⟨m0, m1, m2, m3, m4, m5, m6⟩, ⟨g0, g1, g2, g3, g4, g5, g6⟩⟩ := DJ
  have TJ := HJ.out.1
  have DJ := HJ.out.2.2.1
  have lDJ := DJ.lt
  have lr1 := LR1.out
  by_cases hin : i < zs.length
  ·have i2 : (i : Int) < zs.length := by omega
   have i0' : (0 : Int) <= i := by omega
   have htk := ST0.out i hin
   rw [SG.out i hin] at htk
   obtain ⟨i0, hi, hz0, hz1, hz2⟩ := info_parts info3
   by_cases hia : a = i
   ·rw [if_pos hia] at htk
    have HTK := Lib.hid htk
    have gk : ((i : Int) == (a : Int)) = true := by simp; omega
    have HIA := Lib.hid hia
    clear htk hia
    go_wp2_with (at_builtin; refine wpList_append_own _ rfl _ _ 24 rfl (w1.heap.size + 1) 3 i0 (.int .i64 0) 1 8 Tryz.underlying24 hi hz0 hz1 hz2 rfl (by decide) _ _ _ rfl (VJ.alloc (Obj.cells #[Value.int .i64 ((t : Int) - (f : Int))] 3)) ⟨wr.heap.size, 0, none⟩ 1 1 [.int .i64 ((t : Int) - (f : Int))] rfl rfl (newsI wr ((t : Int) - (f : Int)) rfl) (one1 _) (by unfold maxLen; omega) (by omega) (by simp; omega) ?_; intro v8 w8 hown8 hgrow _; obtain ⟨qn, dn, rfl⟩ := own_slice hown8; have hrow := row_baseI VJ; have D8 := Lib.hid ((DJ.alloc (Obj.cells #[Value.int .i64 ((t : Int) - (f : Int))] 3)).grown hgrow (fun e => by have := hrow _ e.symm; omega)); have T8 := Lib.hid ((TJ.alloc (Obj.cells #[Value.int .i64 ((t : Int) - (f : Int))] 3)).grown hgrow (fun e => by have := hrow _ e.symm; omega)); have R8 := Lib.hid ((RJ.alloc (Obj.cells #[Value.int .i64 ((t : Int) - (f : Int))] 3)).grown hgrow (fun e => by have := hrow _ e.symm; omega)); have V8 := Lib.hid hown8; have K8 := Lib.hid ((KJ.alloc (by have := KJ.size; omega) (Obj.cells #[Value.int .i64 ((t : Int) - (f : Int))] 3)).grown hgrow (by have := KJ.size; simp; omega) (fun k e => by have := hrow _ e; omega)); have hs8 := hgrow.size; obtain ⟨⟨m0, m1, m2, m3, m4, m5, m6⟩, ⟨g0, g1, g2, g3, g4, g5, g6⟩⟩ := D8.out; have lD8 := D8.out.lt; simp at hs8; clear hown8 hgrow)
    go_roundw
    case rel =>
     exact ⟨i + 1, qn, dn, by simp, by omega, Lib.hid ⟨T8.out.far (by omega), R8.out.far (by omega), D8.out.set5, own_set (by rw [HTK.out, List.map_append]; exact V8.out) (by dsimp only; omega), K8.out.setCell (p := ⟨w1.heap.size, 5, none⟩) (by dsimp only; omega) _, by rw [World.size_setCell]; omega⟩⟩
    case measure => simp [intOf]; omega
   ·rw [if_neg hia] at htk
    have HTK := Lib.hid htk
    have gk : ((i : Int) == (a : Int)) = false := by rw [beq_eq_false_iff_ne]; omega
    obtain ⟨b', o', ee, hz⟩ := RA.out i hin
    cases ee
    have hbb2 : bb < w.heap.size := hbb
    replace hz := Rg.keep KJ hbb hz
    obtain ⟨z, hze⟩ : ∃ z, zs.getD i 0 = z := ⟨_, rfl⟩
    rw [hze] at hz HTK
    clear htk hia hze
    go_upto_region 14 with fail
    have HS : Hid (∀ u u' : World, (u.cell? ⟨w1.heap.size, 5, none⟩ = some (.slice qv i dv) /\ u.cell? ⟨w.heap.size, 5, none⟩ = some (.slice (some ⟨bb, oo, none⟩) zs.length c) /\ u.cell? ⟨bb, oo + i, none⟩ = some (.int .i64 z) /\ Below wr.heap.size wr u) -> Below u.heap.size u u' -> (u'.cell? ⟨w1.heap.size, 5, none⟩ = some (.slice qv i dv) /\ u'.cell? ⟨w.heap.size, 5, none⟩ = some (.slice (some ⟨bb, oo, none⟩) zs.length c) /\ u'.cell? ⟨bb, oo + i, none⟩ = some (.int .i64 z) /\ Below wr.heap.size wr u')) := Lib.hid (fun u u' h hb => ⟨Rg.keep hb (World.block_lt_of_cell? _ _ h.1) h.1, Rg.keep hb (World.block_lt_of_cell? _ _ h.2.1) h.2.1, Rg.keep hb (World.block_lt_of_cell? _ _ h.2.2.1) h.2.2.1, h.2.2.2.trans (hb.mono h.2.2.2.size)⟩)
    refine Rk.begin (S := fun wS => wS.cell? ⟨w1.heap.size, 5, none⟩ = some (.slice qv i dv) /\ wS.cell? ⟨w.heap.size, 5, none⟩ = some (.slice (some ⟨bb, oo, none⟩) zs.length c) /\ wS.cell? ⟨bb, oo + i, none⟩ = some (.int .i64 z) /\ Below wr.heap.size wr wS) 8 (by kernel_rfl) ⟨m5, c5, hz, Below.drew (Below.refl _ _)⟩ (fun hHeld => ?_)
    refine SqR.p 0 ?_
    refine SqR.l [8] 1 ?_
    refine SqR.p 2 ?_
    refine SqR.l [5, 6, 7, 8] 3 ?_
    refine SqR.p 4 ?_
    refine SqR.p 5 ?_
    refine SqR.l [7, 8] 6 ?_
    refine Rk.one (i := 7) (by kernel_rfl) rfl (fun KK hK => ?_)
    rw [if_pos (by kernel_rfl)]
    go_simp
    have hNew := HS.out wr (wr.alloc (Obj.cells #[Value.int .i64 z] 3)) ⟨m5, c5, hz, Below.refl _ _⟩ ((Below.refl _ _).alloc (Nat.le_refl _) (Obj.cells #[Value.int .i64 z] 3))
    first | (refine hK.out _ _ (fun _ => hNew) (fun hHeld => ?_)) | (refine hK.out _ _ hNew (fun hHeld => ?_)) | (refine hK.out _ _ ⟨hNew.1, hNew.2.1, hNew.2.2.1, hNew.2.2.2.drew⟩ (fun hHeld => ?_))
    clear hK KK
    refine Rk.tail [8, 9, 10] [_, _, _] (by kernel_rfl) (by kernel_rfl) rfl (by decide) ?_
    have VZ := (VJ.alloc (Obj.cells #[Value.int .i64 z] 3)).drew
    have DZ := (DJ.alloc (Obj.cells #[Value.int .i64 z] 3)).drew
    have TZ := (TJ.alloc (Obj.cells #[Value.int .i64 z] 3)).drew
    have RZ := (RJ.alloc (Obj.cells #[Value.int .i64 z] 3)).drew
    have KZ := (KJ.alloc (by have := KJ.size; omega) (Obj.cells #[Value.int .i64 z] 3)).drew
    have NZ := newsI wr z rfl
    have hwzs : (wr.alloc (Obj.cells #[Value.int .i64 z] 3)).drew.heap.size = wr.heap.size + 1 := by simp
    obtain ⟨wz, hwz⟩ : ∃ x, (wr.alloc (Obj.cells #[Value.int .i64 z] 3)).drew = x := ⟨_, rfl⟩
    replace NZ : ∀ (j : Nat) (v : Value), ([Value.int .i64 z] : List Value)[j]? = some v -> (wr.alloc (Obj.cells #[Value.int .i64 z] 3)).drew.cell? ((⟨wr.heap.size, 0, none⟩ : Addr).add j) = some v := NZ
    rw [hwz] at VZ DZ TZ RZ KZ NZ hwzs hHeld ⊢
    obtain ⟨m5, c5, hz, -⟩ := hHeld
    clear HS hwz m0 m1 m2 m3 m4 m6 c0 c1 c2 c3 c4 c6
    go_wp2_with (at_builtin; refine wpList_append_own _ rfl _ _ 24 rfl (w1.heap.size + 1) 3 i0 (.int .i64 0) 1 8 Tryz.underlying24 hi hz0 hz1 hz2 rfl (by decide) _ _ _ rfl VZ ⟨wr.heap.size, 0, none⟩ 1 1 [.int .i64 z] rfl rfl NZ (one1 _) (by unfold maxLen; omega) (by omega) (by rw [hwzs]; omega) ?_; intro v8 w8 hown8 hgrow _; obtain ⟨qn, dn, rfl⟩ := own_slice hown8; have hrow := row_baseI VZ; have D8 := Lib.hid (DZ.grown hgrow (fun e => by have := hrow _ e.symm; omega)); have T8 := Lib.hid (TZ.grown hgrow (fun e => by have := hrow _ e.symm; omega)); have R8 := Lib.hid (RZ.grown hgrow (fun e => by have := hrow _ e.symm; omega)); have V8 := Lib.hid hown8; have K8 := Lib.hid (KZ.grown hgrow (by rw [hwzs]; have := KJ.size; omega) (fun k e => by have := hrow _ e; omega)); have hs8 := hgrow.size; obtain ⟨⟨m0, m1, m2, m3, m4, m5, m6⟩, ⟨g0, g1, g2, g3, g4, g5, g6⟩⟩ := D8.out; have lD8 := D8.out.lt; rw [hwzs] at hs8; clear hown8 hgrow)
    go_roundw
    case rel =>
     exact ⟨i + 1, qn, dn, by simp, by omega, Lib.hid ⟨T8.out.far (by omega), R8.out.far (by omega), D8.out.set5, own_set (by rw [HTK.out, List.map_append]; exact V8.out) (by dsimp only; omega), K8.out.setCell (p := ⟨w1.heap.size, 5, none⟩) (by dsimp only; omega) _, by rw [World.size_setCell]; omega⟩⟩
    case measure => simp [intOf]; omega
  ·obtain rfl : i = zs.length := by omega
   obtain ⟨pd, rfl⟩ : ∃ x, x = qv := ⟨qv, rfl⟩
   obtain ⟨cd, rfl⟩ : ∃ x, x = dv := ⟨dv, rfl⟩
   have VD : wr.ownsRow (w1.heap.size + 1) 3 1 (.slice pd zs.length cd) zs.length ((zs.set a ((t : Int) - f)).map (Value.int .i64)) := by
    have h := VJ
    rw [List.take_of_length_le (by rw [HSL.out]; exact Nat.le_refl _)] at h
    exact h
   have gN : decide ((zs.length : Int) < zs.length) = false := by simp
   have HB1 : Hid ((B7 wr (w.heap.size) (.int .i64 K) (.int .i64 B) (.int .i64 F) (.int .i64 R) (.int .i64 O) (.slice (some ⟨bb, oo, none⟩) zs.length c) (.slice (some ⟨vb, vo, none⟩) m d)) /\ (B7 wr (w.heap.size + 1) (.int .i64 0) (.int .i64 0) (.int .i64 0) (.int .i64 0) (.int .i64 0) (.slice none 0 0) (.slice none 0 0)) /\ (B7 wr (w1.heap.size) (.int .i64 K) (.int .i64 B) (.int .i64 F) (.int .i64 R) (.int .i64 O) (.slice pd zs.length cd) (.slice none 0 0)) /\ wr.ownsRow (w1.heap.size + 1) 3 1 (.slice pd zs.length cd) zs.length ((zs.set a ((t : Int) - f)).map (Value.int .i64)) /\ wr.ownsRow (w1.heap.size + 1) 29 2 (.slice none 0 0) 0 (flV (seV vs my af f t 0)) /\ Below w.heap.size w wr /\ w1.heap.size + 1 <= wr.heap.size) := Lib.hid ⟨TJ, RJ, DJ, VD, World.ownsRow_nil _ _ _ _, KJ, hszr⟩
   clear VD VJ HJ
   go_wp2_with fail
   clear TJ RJ DJ KJ m0 g0 c0 m1 g1 c1 m2 g2 c2 m3 g3 c3 m4 g4 c4 m5 g5 c5 m6 g6 c6 lDJ hszr
   go_loopw [13] (fun iv wr => ∃ (i n9 : Nat) (qv : Option Addr) (dv : Nat), iv = .int .i64 (i : Int) /\ i <= m /\ Hid ((seV vs my af f t i).length = n9) /\ Hid ((B7 wr (w.heap.size) (.int .i64 K) (.int .i64 B) (.int .i64 F) (.int .i64 R) (.int .i64 O) (.slice (some ⟨bb, oo, none⟩) zs.length c) (.slice (some ⟨vb, vo, none⟩) m d)) /\ (B7 wr (w.heap.size + 1) (.int .i64 0) (.int .i64 0) (.int .i64 0) (.int .i64 0) (.int .i64 0) (.slice none 0 0) (.slice none 0 0)) /\ (B7 wr (w1.heap.size) (.int .i64 K) (.int .i64 B) (.int .i64 F) (.int .i64 R) (.int .i64 O) (.slice pd zs.length cd) (.slice qv n9 dv)) /\ wr.ownsRow (w1.heap.size + 1) 3 1 (.slice pd zs.length cd) zs.length ((zs.set a ((t : Int) - f)).map (Value.int .i64)) /\ wr.ownsRow (w1.heap.size + 1) 29 2 (.slice qv n9 dv) n9 (flV (seV vs my af f t i)) /\ Below w.heap.size w wr /\ w1.heap.size + 1 <= wr.heap.size)) (fun iv _ => m - (intOf iv).toNat)
   case atStart => exact ⟨0, 0, none, 0, rfl, Nat.zero_le _, Lib.hid rfl, HB1⟩
   case round =>
    obtain ⟨i, n9, qv, dv, rfl, him0, HN, HJ⟩ := hrel
    clear HB1
    obtain ⟨TJ, RJ, DJ, PJ, VJ, KJ, hszr⟩ := HJ.out
    obtain ⟨⟨c0, c1, c2, c3, c4, c5, c6⟩, -⟩ := TJ
    obtain ⟨⟨m0, m1, m2, m3, m4, m5, m6⟩, ⟨g0, g1, g2, g3, g4, g5, g6⟩⟩ := DJ
    have TJ := HJ.out.1
    have DJ := HJ.out.2.2.1
    have lDJ := DJ.lt
    have lTJ := TJ.lt
    have hn9 : n9 <= i := by rw [<- HN.out]; exact HLE.out i
    by_cases him : i < m
    ·have i2 : (i : Int) < m := by omega
     have i0' : (0 : Int) <= i := by omega
     have hse := SE.out i
     have hpa := PA.out i
     obtain ⟨e, he⟩ : ∃ e, i / af % my = e := ⟨_, rfl⟩
     rw [he] at hse hpa
     have HPA := Lib.hid hpa
     clear he hpa
     go_upto_region 19 with (go_at_call 27; (with_reducible refine (PT.out _ i him _ (Lib.hid (SlI.keep KJ RA.out))).mono ?_); rintro e w5 ⟨rfl, hp5, hb5⟩; obtain ⟨bp, op, epp, hpc⟩ := SlI_of hp5 (pt_length _ _) a (by rw [pt_length]; exact ha); cases epp; rw [Nat.zero_add, HPA.out] at hpc; replace TJ := B7.keep hb5 TJ.lt TJ; replace RJ := B7.keep hb5 RJ.lt RJ; replace DJ := B7.keep hb5 DJ.lt DJ; replace PJ := own_belowE PJ hb5; replace VJ := own_belowE VJ hb5; replace KJ := KJ.trans (hb5.mono KJ.size); replace hszr := Nat.le_trans hszr hb5.size; have HH := hb5.size; clear c0 c1 c2 c3 c4 c5 c6 m0 g0 m1 g1 m2 g2 m3 g3 m4 g4 m5 g5 m6 g6 lDJ lTJ; obtain ⟨⟨c0, c1, c2, c3, c4, c5, c6⟩, -⟩ := id TJ; obtain ⟨⟨m0, m1, m2, m3, m4, m5, m6⟩, ⟨g0, g1, g2, g3, g4, g5, g6⟩⟩ := id DJ; have lDJ := DJ.lt; have lTJ := TJ.lt; clear hb5 hp5)
     by_cases h1 : f <= e
     ·have b1' : decide (f <= e) = true := by simpa using h1
      have b2' : decide ((f : Int) <= e) = true := by simp; omega
      by_cases h2 : e < t
      ·have b3' : decide (e < t) = true := by simpa using h2
       have b4' : decide ((e : Int) < t) = true := by simp; omega
       rw [if_pos ⟨h1, h2⟩] at hse
       obtain ⟨b', o', ee, v0, v1⟩ := RB.out i (by rw [HM.out]; exact him)
       cases ee
       replace v0 := Rg.keep KJ hvb v0
       replace v1 := Rg.keep KJ hvb v1
       obtain ⟨⟨y1, y2⟩, hy⟩ : ∃ y, vs.getD i (0, 0) = y := ⟨_, rfl⟩
       rw [hy] at v0 v1 hse
       dsimp only at v0 v1
       have HSE := Lib.hid hse
       clear hse hy
       go_upto_region 20 with fail
       have HS : Hid (∀ u u' : World, (u.cell? ⟨w1.heap.size, 6, none⟩ = some (.slice qv n9 dv) /\ u.cell? ⟨w.heap.size, 6, none⟩ = some (.slice (some ⟨vb, vo, none⟩) m d) /\ u.cell? ⟨vb, vo + i * 2, none⟩ = some (.int .i64 y1) /\ u.cell? ⟨vb, vo + i * 2 + 1, none⟩ = some (.int .i64 y2) /\ Below w5.heap.size w5 u) -> Below u.heap.size u u' -> (u'.cell? ⟨w1.heap.size, 6, none⟩ = some (.slice qv n9 dv) /\ u'.cell? ⟨w.heap.size, 6, none⟩ = some (.slice (some ⟨vb, vo, none⟩) m d) /\ u'.cell? ⟨vb, vo + i * 2, none⟩ = some (.int .i64 y1) /\ u'.cell? ⟨vb, vo + i * 2 + 1, none⟩ = some (.int .i64 y2) /\ Below w5.heap.size w5 u')) := Lib.hid (fun u u' h hb => ⟨Rg.keep hb (World.block_lt_of_cell? _ _ h.1) h.1, Rg.keep hb (World.block_lt_of_cell? _ _ h.2.1) h.2.1, Rg.keep hb (World.block_lt_of_cell? _ _ h.2.2.1) h.2.2.1, Rg.keep hb (World.block_lt_of_cell? _ _ h.2.2.2.1) h.2.2.2.1, h.2.2.2.2.trans (hb.mono h.2.2.2.2.size)⟩)
       refine Rk.begin (S := fun wS => wS.cell? ⟨w1.heap.size, 6, none⟩ = some (.slice qv n9 dv) /\ wS.cell? ⟨w.heap.size, 6, none⟩ = some (.slice (some ⟨vb, vo, none⟩) m d) /\ wS.cell? ⟨vb, vo + i * 2, none⟩ = some (.int .i64 y1) /\ wS.cell? ⟨vb, vo + i * 2 + 1, none⟩ = some (.int .i64 y2) /\ Below w5.heap.size w5 wS) 8 (by kernel_rfl) ⟨m6, c6, v0, v1, Below.drew (Below.refl _ _)⟩ (fun hHeld => ?_)
       refine SqR.p 0 ?_
       refine SqR.l [8] 1 ?_
       refine SqR.p 2 ?_
       refine SqR.l [5, 6, 7, 8] 3 ?_
       refine SqR.p 4 ?_
       refine SqR.p 5 ?_
       refine SqR.l [7, 8] 6 ?_
       refine Rk.one (i := 7) (by kernel_rfl) rfl (fun KK hK => ?_)
       rw [if_pos (by kernel_rfl)]
       go_simp
       have hNew := HS.out w5 (w5.alloc (Obj.cells #[Value.int .i64 y1, Value.int .i64 y2] 29)) ⟨m6, c6, v0, v1, Below.refl _ _⟩ ((Below.refl _ _).alloc (Nat.le_refl _) (Obj.cells #[Value.int .i64 y1, Value.int .i64 y2] 29))
       first | (refine hK.out _ _ (fun _ => hNew) (fun hHeld => ?_)) | (refine hK.out _ _ hNew (fun hHeld => ?_)) | (refine hK.out _ _ ⟨hNew.1, hNew.2.1, hNew.2.2.1, hNew.2.2.2.1, hNew.2.2.2.2.drew⟩ (fun hHeld => ?_))
       clear hK KK
       refine Rk.tail [8, 9, 10] [_, _, _] (by kernel_rfl) (by kernel_rfl) rfl (by decide) ?_
       have VZ := (VJ.alloc (Obj.cells #[Value.int .i64 y1, Value.int .i64 y2] 29)).drew
       have DZ := (DJ.alloc (Obj.cells #[Value.int .i64 y1, Value.int .i64 y2] 29)).drew
       have TZ := (TJ.alloc (Obj.cells #[Value.int .i64 y1, Value.int .i64 y2] 29)).drew
       have RZ := (RJ.alloc (Obj.cells #[Value.int .i64 y1, Value.int .i64 y2] 29)).drew
       have KZ := (KJ.alloc (by have := KJ.size; omega) (Obj.cells #[Value.int .i64 y1, Value.int .i64 y2] 29)).drew
       have PZ := (PJ.alloc (Obj.cells #[Value.int .i64 y1, Value.int .i64 y2] 29)).drew
       have NZ := news2 w5 y1 y2 rfl
       have hwzs : (w5.alloc (Obj.cells #[Value.int .i64 y1, Value.int .i64 y2] 29)).drew.heap.size = w5.heap.size + 1 := by simp
       obtain ⟨wz, hwz⟩ : ∃ x, (w5.alloc (Obj.cells #[Value.int .i64 y1, Value.int .i64 y2] 29)).drew = x := ⟨_, rfl⟩
       replace NZ : ∀ (j : Nat) (v : Value), ([Value.int .i64 y1, Value.int .i64 y2] : List Value)[j]? = some v -> (w5.alloc (Obj.cells #[Value.int .i64 y1, Value.int .i64 y2] 29)).drew.cell? ((⟨w5.heap.size, 0, none⟩ : Addr).add j) = some v := NZ
       rw [hwz] at PZ VZ DZ TZ RZ KZ NZ hwzs hHeld ⊢
       obtain ⟨m6, c6, v0, v1, -⟩ := hHeld
       clear HS hwz m0 m1 m2 m3 m4 m5 c0 c1 c2 c3 c4 c5
       obtain ⟨i0, hi, hz0, hz1, hz2⟩ := info_parts infoV
       go_wp2_with (at_builtin; refine wpList_append_own _ rfl _ _ 25 rfl (w1.heap.size + 1) 29 i0 (.agg #[.int .i64 0, .int .i64 0]) 2 16 Tryz.underlying25 hi hz0 hz1 hz2 rfl (by decide) _ _ _ rfl VZ ⟨w5.heap.size, 0, none⟩ 1 1 [.int .i64 y1, .int .i64 y2] rfl rfl NZ (news1 y1 y2) (by unfold maxLen; omega) (by omega) (by rw [hwzs]; omega) ?_; intro v8 w8 hown8 hgrow _; obtain ⟨qn, dn, rfl⟩ := own_slice hown8; have hrow := row_base VZ; have D8 := Lib.hid (DZ.grown hgrow (fun e => by have := hrow _ e.symm; omega)); have T8 := Lib.hid (TZ.grown hgrow (fun e => by have := hrow _ e.symm; omega)); have R8 := Lib.hid (RZ.grown hgrow (fun e => by have := hrow _ e.symm; omega)); have V8 := Lib.hid hown8; have K8 := Lib.hid (KZ.grown hgrow (by rw [hwzs]; have := KJ.size; omega) (fun k e => by have := hrow _ e; omega)); have hs8 := hgrow.size; have P8 := Lib.hid (PZ.kept hgrow (own_apart PZ VZ)); obtain ⟨⟨m0, m1, m2, m3, m4, m5, m6⟩, ⟨g0, g1, g2, g3, g4, g5, g6⟩⟩ := D8.out; have lD8 := D8.out.lt; rw [hwzs] at hs8; clear hown8 hgrow)
       go_roundw
       case rel => exact ⟨i + 1, n9 + 1, qn, dn, by simp, by omega, Lib.hid (by rw [HSE.out, List.length_append, HN.out]; rfl), Lib.hid ⟨T8.out.far (by omega), R8.out.far (by omega), D8.out.set6, own_set P8.out (by dsimp only; omega), own_set (by rw [HSE.out, flV_snoc]; exact V8.out) (by dsimp only; omega), K8.out.setCell (p := ⟨w1.heap.size, 6, none⟩) (by dsimp only; omega) _, by rw [World.size_setCell]; omega⟩⟩
       case measure => simp [intOf]; omega
      ·have b3' : decide (e < t) = false := by simpa using h2
       have b4' : decide ((e : Int) < t) = false := by simp; omega
       rw [if_neg (fun h => h2 h.2), List.append_nil] at hse
       have HSE := Lib.hid hse
       clear hse
       go_wp2_with fail
       go_roundw
       case rel => exact ⟨i + 1, n9, qv, dv, by simp, by omega, Lib.hid (by rw [HSE.out]; exact HN.out), Lib.hid ⟨TJ, RJ, DJ, PJ, by rw [HSE.out]; exact VJ, KJ, hszr⟩⟩
       case measure => simp [intOf]; omega
     ·have b1' : decide (f <= e) = false := by simpa using h1
      have b2' : decide ((f : Int) <= e) = false := by simp; omega
      rw [if_neg (fun h => h1 h.1), List.append_nil] at hse
      have HSE := Lib.hid hse
      clear hse
      go_wp2_with fail
      go_roundw
      case rel => exact ⟨i + 1, n9, qv, dv, by simp, by omega, Lib.hid (by rw [HSE.out]; exact HN.out), Lib.hid ⟨TJ, RJ, DJ, PJ, by rw [HSE.out]; exact VJ, KJ, hszr⟩⟩
      case measure => simp [intOf]; omega
    ·obtain rfl : i = m := by omega
     have gN2 : decide ((i : Int) < i) = false := by simp
     have lr1 := LR1.out
     have lr : w.heap.size + 1 < wr.heap.size := RJ.lt
     obtain ⟨⟨z0, z1, z2, z3, z4, z5, z6⟩, ⟨f0, f1, f2, f3, f4, f5, f6⟩⟩ := RJ
     go_upto_region 21 with fail
     repeat go_step
     have SBB := (((((((KJ).setCell (p := ⟨w.heap.size + 1, 0, none⟩) (by dsimp only; omega) (.int .i64 K)).setCell (p := ⟨w.heap.size + 1, 1, none⟩) (by dsimp only; omega) (.int .i64 B)).setCell (p := ⟨w.heap.size + 1, 2, none⟩) (by dsimp only; omega) (.int .i64 F)).setCell (p := ⟨w.heap.size + 1, 3, none⟩) (by dsimp only; omega) (.int .i64 R)).setCell (p := ⟨w.heap.size + 1, 4, none⟩) (by dsimp only; omega) (.int .i64 O)).setCell (p := ⟨w.heap.size + 1, 5, none⟩) (by dsimp only; omega) (.slice pd zs.length cd)).setCell (p := ⟨w.heap.size + 1, 6, none⟩) (by dsimp only; omega) (.slice qv n9 dv)
     refine bodyPost_ret (v := .tuple #[Tn K B F R O pd zs.length cd qv n9 dv, .int .i64 0]) (by simp [results, Tryz.results39, go_sem, z0, f0, z1, f1, z2, f2, z3, f3, z4, f4, z5, f5, z6, f6, lr, Tn]) rfl ?_
     refine ⟨pd, cd, qv, dv, by rw [HSL.out, HN.out], ?_, ?_, SBB⟩
     ·rw [HSL.out]; exact own_base (own_set (own_set (own_set (own_set (own_set (own_set (own_set PJ (by dsimp only; omega)) (by dsimp only; omega)) (by dsimp only; omega)) (by dsimp only; omega)) (by dsimp only; omega)) (by dsimp only; omega)) (by dsimp only; omega)) (by omega)
     ·rw [HN.out]; exact own_base (own_set (own_set (own_set (own_set (own_set (own_set (own_set VJ (by dsimp only; omega)) (by dsimp only; omega)) (by dsimp only; omega)) (by dsimp only; omega)) (by dsimp only; omega)) (by dsimp only; omega)) (by dsimp only; omega)) (by omega)
end Go.Proofs.YteaaikmejacpaaaGreatDoor.Te

namespace Go.Proofs.YteaaikmejacpaaaGreatDoor.Te
open Go.ChangeShapes Go.WideShapes Go.ChangeAt Go.RowKit
open Fx Va Sh
set_option maxRecDepth 8000
set_option linter.unusedVariables false
set_option linter.unusedSimpArgs false

/-- The offset as a sum over the strides. -/
theorem of_sum : ∀ (zs xs : List Int) (S : Int), xs.length = zs.length -> (∀ j, j < zs.length -> 0 <= xs.getD j 0 /\ xs.getD j 0 < zs.getD j 0) -> of S zs xs = some (S * sp zs + sI ((List.range zs.length).map fun j => xs.getD j 0 * (st zs).getD j 0))
 | [], [], S, _, _ => by
  have e3 : sp ([] : List Int) = 1 := rfl
  show some S = some (S * sp [] + 0)
  rw [e3]
  exact congrArg some (by omega)
 | [], _ :: _, _, h, _ => absurd h (by simp)
 | _ :: _, [], _, h, _ => absurd h (by simp)
 | z :: zs, x :: xs, S, hl, hh => by
  rw [of_go (show 0 <= x /\ x < z from hh 0 (by simp)), of_sum zs xs _ (by simpa using hl) (fun j hj => hh (j + 1) (by simpa using hj)), sp_cons]
  refine congrArg some ?_
  have e : sI ((List.range (z :: zs).length).map fun j => (x :: xs).getD j 0 * (st (z :: zs)).getD j 0) = x * sp zs + sI ((List.range zs.length).map fun j => xs.getD j 0 * (st zs).getD j 0) := by
   rw [List.length_cons, List.range_succ_eq_map, List.map_cons, List.map_map]
   show x * (st (z :: zs)).getD 0 0 + sI _ = _
   rw [st_get (by simp)]
   refine congrArg (x * sp zs + ·) (congrArg sI (List.map_congr_left fun j hj => ?_))
   have hj' : j < zs.length := List.mem_range.1 hj
   show xs.getD j 0 * (st (z :: zs)).getD (j + 1) 0 = _
   rw [st_get (by simpa using hj'), st_get hj']
   rfl
  rw [e, Int.add_mul, Int.mul_assoc]
  omega
/-- The place that the reference takes an element from. -/
theorem pm_off {zs os ys : List Int} {a : Int} (hv : vE zs = 0) (hl : os.length = zs.length) (h : gd zs.length os zs.length) (hy : ys.length = zs.length) (ha : 0 <= a) (ha2 : a < sp zs) (hq : ∀ j, j < zs.length -> ys.getD (os.getD j 0).toNat 0 = (pt (pm zs os) a).getD j 0) : of 0 zs ys = some (frS zs os a zs.length) := by
 obtain ⟨hv2, hs2⟩ := pm_valid hv hl h
 have hin : ∀ j, j < zs.length -> 0 <= ys.getD j 0 /\ ys.getD j 0 < zs.getD j 0 := fun j hj => by
  obtain ⟨i, hi, e⟩ := onto hl h hj
  have := hq i hi
  rw [e, Int.toNat_natCast] at this
  rw [this]
  have hpl := pm_length zs os
  have hp := pos_of (valid_of hv2).2.1 (k := i) (by omega)
  rw [pt_get (by omega), pm_get (by omega), e, Int.toNat_natCast]
  rw [pm_get (by omega), e, Int.toNat_natCast] at hp
  exact ⟨Int.emod_nonneg _ (by omega), Int.emod_lt_of_pos _ (by omega)⟩
 rw [of_sum zs ys 0 hy hin, Int.zero_mul, Int.zero_add, <- by_order hl h (fun j => ys.getD j 0 * (st zs).getD j 0)]
 unfold frS
 refine congrArg some (congrArg sI (List.map_congr_left fun j hj => ?_))
 have hj' : j < zs.length := List.mem_range.1 hj
 show ys.getD (os.getD j 0).toNat 0 * _ = _
 rw [hq j hj']
theorem own_setP {u : World} {base : Nat} {E : TypeId} {sz n : Nat} {v : Value} {xs : List Value} (h : u.ownsRow base E sz v n xs) {A g o : Nat} {y : Value} (hA : ∀ k, v.ownBlock = some k -> k < A) (hg : A <= g) : (u.setCell ⟨g, o, none⟩ y).ownsRow base E sz v n xs := h.kept grown_set (by
 cases hb : v.ownBlock with
 | none => exact .inl rfl
 | some q => exact .inr (fun e => by have e' : q = g := Option.some.inj e; have := hA _ hb; omega))
theorem gd_next {n k : Nat} {os : List Int} {x : Nat} (h : gd n os k) (hx : os.getD k 0 = x) (h1 : x < n) (h2 : ∀ i, i < k -> os.getD i 0 ≠ x) : gd n os (k + 1) := gd_step h hx h1 h2
theorem pm_snoc {zs os : List Int} {k X : Nat} (hk : k < os.length) (hx : os.getD k 0 = X) {z : Int} (hz : zs.getD X 0 = z) : (pm zs os).take (k + 1) = (pm zs os).take k ++ [z] := by
 rw [take_snocI (by rw [pm_length]; exact hk), pm_get hk, hx, Int.toNat_natCast, hz]
end Go.Proofs.YteaaikmejacpaaaGreatDoor.Te

namespace Go.Proofs.YteaaikmejacpaaaGreatDoor.Te
open Go.ChangeShapes Go.WideShapes Go.ChangeAt Go.RowKit
open Fx Va Sh
set_option maxRecDepth 8000
set_option linter.unusedVariables false
set_option linter.unusedSimpArgs false

set_option maxRecDepth 100000 in
set_option maxHeartbeats 2000000 in
theorem rp_a (K B F R O : Int) (p : Option Addr) (zs : List Int) (c : Nat) (q : Option Addr) (vs : List (Int × Int)) (d : Nat) (x : Option Addr) (os : List Int) (e : Nat) (w : World) (b0 : -9223372036854775808 <= B) (b1 : B <= 9223372036854775807) (hn : zs.length <= maxLen) (hm : vs.length <= maxLen) (RA : Hid (SlI w p zs)) (RB : Hid (SlV w q vs)) (hx : os.length <= maxLen) (RX : Hid (SlI w x os)) (ht : tE K B F R O zs vs ≠ 0) :
  Calls Tryz.prog 38 #[Tn K B F R O p zs.length c q vs.length d, .slice x os.length e] w (TRes 0 0 0 0 0 [] [] (tE K B F R O zs vs) w) := by
 have TV0 := fun w h1 h2 => rval K B F R O p zs c q vs d w hn hm h1 h2
 obtain ⟨E, hE⟩ : ∃ E, tE K B F R O zs vs = E := ⟨_, rfl⟩
 rw [hE] at TV0 ht ⊢
 have g1 : (E == 0) = false := by simpa using ht
 have g2 : (E != 0) = true := by simpa using ht
 obtain ⟨m, hmm⟩ : ∃ m, vs.length = m := ⟨_, rfl⟩
 have HM := Lib.hid hmm
 rw [hmm] at TV0 ⊢
 have TV := Lib.hid TV0
 have B0 : Hid (Below w.heap.size w ((w.alloc (Obj.cells #[Value.int .i64 K, Value.int .i64 B, Value.int .i64 F, Value.int .i64 R, Value.int .i64 O, Value.slice p zs.length c, Value.slice q m d] 27)).alloc (Obj.cells #[Value.int .i64 0, Value.int .i64 0, Value.int .i64 0, Value.int .i64 0, Value.int .i64 0, Value.slice none 0 0, Value.slice none 0 0] 27))) := Lib.hid (((Below.refl _ _).alloc (Nat.le_refl _) _).alloc (by simp) _)
 have T0 : Hid (B7 ((w.alloc (Obj.cells #[Value.int .i64 K, Value.int .i64 B, Value.int .i64 F, Value.int .i64 R, Value.int .i64 O, Value.slice p zs.length c, Value.slice q m d] 27)).alloc (Obj.cells #[Value.int .i64 0, Value.int .i64 0, Value.int .i64 0, Value.int .i64 0, Value.int .i64 0, Value.slice none 0 0, Value.slice none 0 0] 27)) (w.heap.size) (.int .i64 K) (.int .i64 B) (.int .i64 F) (.int .i64 R) (.int .i64 O) (.slice p zs.length c) (.slice q m d)) := Lib.hid ((B7.new w _ (.int .i64 K) (.int .i64 B) (.int .i64 F) (.int .i64 R) (.int .i64 O) (.slice p zs.length c) (.slice q m d)).alloc _)
 have R0 : Hid (B7 ((w.alloc (Obj.cells #[Value.int .i64 K, Value.int .i64 B, Value.int .i64 F, Value.int .i64 R, Value.int .i64 O, Value.slice p zs.length c, Value.slice q m d] 27)).alloc (Obj.cells #[Value.int .i64 0, Value.int .i64 0, Value.int .i64 0, Value.int .i64 0, Value.int .i64 0, Value.slice none 0 0, Value.slice none 0 0] 27)) (w.heap.size + 1) (.int .i64 0) (.int .i64 0) (.int .i64 0) (.int .i64 0) (.int .i64 0) (.slice none 0 0) (.slice none 0 0)) := Lib.hid (by have h := B7.new (w.alloc (Obj.cells #[Value.int .i64 K, Value.int .i64 B, Value.int .i64 F, Value.int .i64 R, Value.int .i64 O, Value.slice p zs.length c, Value.slice q m d] 27)) 27 (.int .i64 0) (.int .i64 0) (.int .i64 0) (.int .i64 0) (.int .i64 0) (.slice none 0 0) (.slice none 0 0); simpa using h)
 clear TV0
 clear hE ht hm hmm
 unfold Tn at *
 go_enter Tryz.func38, Tryz.ntmps38
 go_wp2_with (go_at_call 21; (with_reducible refine (TV.out _ (Lib.hid (SlI.keep B0.out RA.out)) (Lib.hid (SlV.below RB.out B0.out))).mono ?_); rintro e w1 ⟨rfl, hb⟩; have KB := Lib.hid (B0.out.trans (hb.mono B0.out.size)); have TB := Lib.hid (B7.keep hb (by simp <;> omega) T0.out); have RB9 := Lib.hid (B7.keep hb (by simp <;> omega) R0.out); obtain ⟨⟨c0, c1, c2, c3, c4, c5, c6⟩, -⟩ := TB.out; obtain ⟨⟨z0, z1, z2, z3, z4, z5, z6⟩, ⟨f0, f1, f2, f3, f4, f5, f6⟩⟩ := RB9.out; have lr : w.heap.size + 1 < w1.heap.size := RB9.out.lt; clear hb)
 have SBB := (((((((KB.out).setCell (p := ⟨w.heap.size + 1, 0, none⟩) (by dsimp only; omega) (.int .i64 0)).setCell (p := ⟨w.heap.size + 1, 1, none⟩) (by dsimp only; omega) (.int .i64 0)).setCell (p := ⟨w.heap.size + 1, 2, none⟩) (by dsimp only; omega) (.int .i64 0)).setCell (p := ⟨w.heap.size + 1, 3, none⟩) (by dsimp only; omega) (.int .i64 0)).setCell (p := ⟨w.heap.size + 1, 4, none⟩) (by dsimp only; omega) (.int .i64 0)).setCell (p := ⟨w.heap.size + 1, 5, none⟩) (by dsimp only; omega) (.slice none 0 0)).setCell (p := ⟨w.heap.size + 1, 6, none⟩) (by dsimp only; omega) (.slice none 0 0)
 refine bodyPost_ret (v := .tuple #[.agg #[.int .i64 0, .int .i64 0, .int .i64 0, .int .i64 0, .int .i64 0, .slice none 0 0, .slice none 0 0], .int .i64 E]) (by simp [results, Tryz.results38, go_sem, z0, f0, z1, f1, z2, f2, z3, f3, z4, f4, z5, f5, z6, f6, lr]) rfl (TRes.no SBB)

set_option maxRecDepth 100000 in
set_option maxHeartbeats 2000000 in
theorem rp_b (K B F R O : Int) (p : Option Addr) (zs : List Int) (c : Nat) (q : Option Addr) (vs : List (Int × Int)) (d : Nat) (x : Option Addr) (os : List Int) (e : Nat) (w : World) (b0 : -9223372036854775808 <= B) (b1 : B <= 9223372036854775807) (hn : zs.length <= maxLen) (hm : vs.length <= maxLen) (RA : Hid (SlI w p zs)) (RB : Hid (SlV w q vs)) (hx : os.length <= maxLen) (RX : Hid (SlI w x os)) (ht : tE K B F R O zs vs = 0) (hl : os.length ≠ zs.length) :
  Calls Tryz.prog 38 #[Tn K B F R O p zs.length c q vs.length d, .slice x os.length e] w (TRes 0 0 0 0 0 [] [] 1 w) := by
 have TV0 := fun w h1 h2 => rval K B F R O p zs c q vs d w hn hm h1 h2
 rw [ht] at TV0
 obtain ⟨m, hmm⟩ : ∃ m, vs.length = m := ⟨_, rfl⟩
 have HM := Lib.hid hmm
 rw [hmm] at TV0 ⊢
 have TV := Lib.hid TV0
 have B0 : Hid (Below w.heap.size w ((w.alloc (Obj.cells #[Value.int .i64 K, Value.int .i64 B, Value.int .i64 F, Value.int .i64 R, Value.int .i64 O, Value.slice p zs.length c, Value.slice q m d] 27)).alloc (Obj.cells #[Value.int .i64 0, Value.int .i64 0, Value.int .i64 0, Value.int .i64 0, Value.int .i64 0, Value.slice none 0 0, Value.slice none 0 0] 27))) := Lib.hid (((Below.refl _ _).alloc (Nat.le_refl _) _).alloc (by simp) _)
 have T0 : Hid (B7 ((w.alloc (Obj.cells #[Value.int .i64 K, Value.int .i64 B, Value.int .i64 F, Value.int .i64 R, Value.int .i64 O, Value.slice p zs.length c, Value.slice q m d] 27)).alloc (Obj.cells #[Value.int .i64 0, Value.int .i64 0, Value.int .i64 0, Value.int .i64 0, Value.int .i64 0, Value.slice none 0 0, Value.slice none 0 0] 27)) (w.heap.size) (.int .i64 K) (.int .i64 B) (.int .i64 F) (.int .i64 R) (.int .i64 O) (.slice p zs.length c) (.slice q m d)) := Lib.hid ((B7.new w _ (.int .i64 K) (.int .i64 B) (.int .i64 F) (.int .i64 R) (.int .i64 O) (.slice p zs.length c) (.slice q m d)).alloc _)
 have R0 : Hid (B7 ((w.alloc (Obj.cells #[Value.int .i64 K, Value.int .i64 B, Value.int .i64 F, Value.int .i64 R, Value.int .i64 O, Value.slice p zs.length c, Value.slice q m d] 27)).alloc (Obj.cells #[Value.int .i64 0, Value.int .i64 0, Value.int .i64 0, Value.int .i64 0, Value.int .i64 0, Value.slice none 0 0, Value.slice none 0 0] 27)) (w.heap.size + 1) (.int .i64 0) (.int .i64 0) (.int .i64 0) (.int .i64 0) (.int .i64 0) (.slice none 0 0) (.slice none 0 0)) := Lib.hid (by have h := B7.new (w.alloc (Obj.cells #[Value.int .i64 K, Value.int .i64 B, Value.int .i64 F, Value.int .i64 R, Value.int .i64 O, Value.slice p zs.length c, Value.slice q m d] 27)) 27 (.int .i64 0) (.int .i64 0) (.int .i64 0) (.int .i64 0) (.int .i64 0) (.slice none 0 0) (.slice none 0 0); simpa using h)
 clear TV0
 have g1 : (os.length == zs.length) = false := by simpa using hl
 have g2 : (os.length != zs.length) = true := by simpa using hl
 have g3 : ((os.length : Int) == zs.length) = false := by rw [beq_eq_false_iff_ne]; omega
 have g4 : ((os.length : Int) != zs.length) = true := by simp; omega
 clear ht hm hmm hl
 unfold Tn at *
 go_enter Tryz.func38, Tryz.ntmps38
 go_wp2_with (go_at_call 21; (with_reducible refine (TV.out _ (Lib.hid (SlI.keep B0.out RA.out)) (Lib.hid (SlV.below RB.out B0.out))).mono ?_); rintro e w1 ⟨rfl, hb⟩; have KB := Lib.hid (B0.out.trans (hb.mono B0.out.size)); have TB := Lib.hid (B7.keep hb (by simp <;> omega) T0.out); have RB9 := Lib.hid (B7.keep hb (by simp <;> omega) R0.out); obtain ⟨⟨c0, c1, c2, c3, c4, c5, c6⟩, -⟩ := TB.out; obtain ⟨⟨z0, z1, z2, z3, z4, z5, z6⟩, ⟨f0, f1, f2, f3, f4, f5, f6⟩⟩ := RB9.out; have lr : w.heap.size + 1 < w1.heap.size := RB9.out.lt; clear hb)
 have SBB := (((((((KB.out).setCell (p := ⟨w.heap.size + 1, 0, none⟩) (by dsimp only; omega) (.int .i64 0)).setCell (p := ⟨w.heap.size + 1, 1, none⟩) (by dsimp only; omega) (.int .i64 0)).setCell (p := ⟨w.heap.size + 1, 2, none⟩) (by dsimp only; omega) (.int .i64 0)).setCell (p := ⟨w.heap.size + 1, 3, none⟩) (by dsimp only; omega) (.int .i64 0)).setCell (p := ⟨w.heap.size + 1, 4, none⟩) (by dsimp only; omega) (.int .i64 0)).setCell (p := ⟨w.heap.size + 1, 5, none⟩) (by dsimp only; omega) (.slice none 0 0)).setCell (p := ⟨w.heap.size + 1, 6, none⟩) (by dsimp only; omega) (.slice none 0 0)
 refine bodyPost_ret (v := .tuple #[.agg #[.int .i64 0, .int .i64 0, .int .i64 0, .int .i64 0, .int .i64 0, .slice none 0 0, .slice none 0 0], .int .i64 1]) (by simp [results, Tryz.results38, go_sem, z0, f0, z1, f1, z2, f2, z3, f3, z4, f4, z5, f5, z6, f6, lr]) rfl (TRes.no SBB)

/-- Permute of a valid tensor, by an order of as many axes. -/
def MP (K B F R O : Int) (zs os : List Int) (vs : List (Int × Int)) (w : World) (en : Ending) (w' : World) : Prop := (gd zs.length os zs.length /\ TRes K B F R O (pm zs os) (pmV zs os vs) 0 w en w') \/ (¬ gd zs.length os zs.length /\ TRes 0 0 0 0 0 [] [] 1 w en w')

set_option maxRecDepth 100000 in
set_option maxHeartbeats 2000000 in
theorem rp_c (K B F R O : Int) (p : Option Addr) (zs : List Int) (c : Nat) (q : Option Addr) (vs : List (Int × Int)) (d : Nat) (x : Option Addr) (os : List Int) (e : Nat) (w : World) (b0 : -9223372036854775808 <= B) (b1 : B <= 9223372036854775807) (hn : zs.length <= maxLen) (hm : vs.length <= maxLen) (RA : Hid (SlI w p zs)) (RB : Hid (SlV w q vs)) (hx : os.length <= maxLen) (RX : Hid (SlI w x os)) (ht : tE K B F R O zs vs = 0) (hl : os.length = zs.length) :
  Calls Tryz.prog 38 #[Tn K B F R O p zs.length c q vs.length d, .slice x os.length e] w (MP K B F R O zs os vs w) := by
 have TV0 := fun w h1 h2 => rval K B F R O p zs c q vs d w hn hm h1 h2
 rw [ht] at TV0
 obtain ⟨-, hv, tl, -⟩ := tE_ok ht
 obtain ⟨h6, -, -, hsp, hd⟩ := valid_of hv
 have h1v : 1 <= sp zs := (hd 0).1
 have PT0 := fun (hg : gd zs.length os zs.length) (pd : Option Addr) (cd i : Nat) (hi : i < vs.length) (u : World) h => trpo pd (pm zs os) cd i u (pm_valid hv hl hg).1 (by rw [(pm_valid hv hl hg).2, <- tl]; exact_mod_cast hi) h
 have OF0 := fun (hg : gd zs.length os zs.length) (i : Nat) (hi : i < vs.length) (y : Option Addr) (ys : List Int) (e : Nat) (hy : ys.length = zs.length) (hq : ∀ j, j < zs.length -> ys.getD (os.getD j 0).toNat 0 = (pt (pm zs os) (i : Int)).getD j 0) (u : World) h1 h2 => troff p y zs ys c e _ u hv hy (pm_off (a := (i : Int)) hv hl hg hy (Int.natCast_nonneg i) (by rw [<- tl]; exact_mod_cast hi) hq) h1 h2
 have FB := Lib.hid fun (hg : gd zs.length os zs.length) (i : Nat) => frS_bd (a := (i : Int)) hv hl hg zs.length (Nat.le_refl _)
 have PL := Lib.hid fun (i : Nat) (X : Nat) (z : Int) (h1 : i < os.length) (h2 : os.getD i 0 = (X : Int)) (h3 : zs.getD X 0 = z) => pm_snoc h1 h2 h3
 obtain ⟨vb, vo, hqq, -⟩ := RB.out 0 (by omega)
 subst hqq
 have hvb : vb < w.heap.size := by
  obtain ⟨b', o', ee, v0, -⟩ := RB.out 0 (by omega)
  cases ee
  exact World.block_lt_of_cell? _ _ v0
 obtain ⟨m, hmm⟩ : ∃ m, vs.length = m := ⟨_, rfl⟩
 have HM := Lib.hid hmm
 rw [hmm] at TV0 PT0 OF0 hm tl ⊢
 have TV := Lib.hid TV0
 have B0 : Hid (Below w.heap.size w ((w.alloc (Obj.cells #[Value.int .i64 K, Value.int .i64 B, Value.int .i64 F, Value.int .i64 R, Value.int .i64 O, Value.slice p zs.length c, Value.slice (some ⟨vb, vo, none⟩) m d] 27)).alloc (Obj.cells #[Value.int .i64 0, Value.int .i64 0, Value.int .i64 0, Value.int .i64 0, Value.int .i64 0, Value.slice none 0 0, Value.slice none 0 0] 27))) := Lib.hid (((Below.refl _ _).alloc (Nat.le_refl _) _).alloc (by simp) _)
 have T0 : Hid (B7 ((w.alloc (Obj.cells #[Value.int .i64 K, Value.int .i64 B, Value.int .i64 F, Value.int .i64 R, Value.int .i64 O, Value.slice p zs.length c, Value.slice (some ⟨vb, vo, none⟩) m d] 27)).alloc (Obj.cells #[Value.int .i64 0, Value.int .i64 0, Value.int .i64 0, Value.int .i64 0, Value.int .i64 0, Value.slice none 0 0, Value.slice none 0 0] 27)) (w.heap.size) (.int .i64 K) (.int .i64 B) (.int .i64 F) (.int .i64 R) (.int .i64 O) (.slice p zs.length c) (.slice (some ⟨vb, vo, none⟩) m d)) := Lib.hid ((B7.new w _ (.int .i64 K) (.int .i64 B) (.int .i64 F) (.int .i64 R) (.int .i64 O) (.slice p zs.length c) (.slice (some ⟨vb, vo, none⟩) m d)).alloc _)
 have R0 : Hid (B7 ((w.alloc (Obj.cells #[Value.int .i64 K, Value.int .i64 B, Value.int .i64 F, Value.int .i64 R, Value.int .i64 O, Value.slice p zs.length c, Value.slice (some ⟨vb, vo, none⟩) m d] 27)).alloc (Obj.cells #[Value.int .i64 0, Value.int .i64 0, Value.int .i64 0, Value.int .i64 0, Value.int .i64 0, Value.slice none 0 0, Value.slice none 0 0] 27)) (w.heap.size + 1) (.int .i64 0) (.int .i64 0) (.int .i64 0) (.int .i64 0) (.int .i64 0) (.slice none 0 0) (.slice none 0 0)) := Lib.hid (by have h := B7.new (w.alloc (Obj.cells #[Value.int .i64 K, Value.int .i64 B, Value.int .i64 F, Value.int .i64 R, Value.int .i64 O, Value.slice p zs.length c, Value.slice (some ⟨vb, vo, none⟩) m d] 27)) 27 (.int .i64 0) (.int .i64 0) (.int .i64 0) (.int .i64 0) (.int .i64 0) (.slice none 0 0) (.slice none 0 0); simpa using h)
 clear TV0
 have m4 : m <= 4096 := by omega
 have TL := Lib.hid tl
 have HPVL := Lib.hid ((pmV_length zs os vs).trans hmm)
 obtain ⟨n, hn'⟩ : ∃ n, zs.length = n := ⟨_, rfl⟩
 have HN := Lib.hid hn'
 have HOL := Lib.hid (hl.trans hn')
 have HPML := Lib.hid ((pm_length zs os).trans (hl.trans hn'))
 have hlo : os.length = n := hl.trans hn'
 have hpl9 := (pm_length zs os).trans hlo
 rw [hlo] at PL
 rw [hn'] at TV T0 R0 B0 PT0 OF0 FB h6 ⊢
 rw [hlo]
 rw [hpl9] at PT0
 have PT := Lib.hid PT0
 have OF := Lib.hid OF0
 have g1 : (n == n) = true := by simp
 have g2 : (n != n) = false := by simp
 have g3 : ((n : Int) != n) = false := by simp
 clear ht hm hmm hl hlo hpl9 hn' tl hv hd hsp h1v PT0 OF0 hn
 unfold Tn at *
 go_enter Tryz.func38, Tryz.ntmps38
 go_upto_region 7 with (go_at_call 21; (with_reducible refine (TV.out _ (Lib.hid (SlI.keep B0.out RA.out)) (Lib.hid (SlV.below RB.out B0.out))).mono ?_); rintro e w1 ⟨rfl, hb⟩; have KB := Lib.hid (B0.out.trans (hb.mono B0.out.size)); have TB := Lib.hid (B7.keep hb (by simp <;> omega) T0.out); have RB9 := Lib.hid (B7.keep hb (by simp <;> omega) R0.out); obtain ⟨⟨c0, c1, c2, c3, c4, c5, c6⟩, -⟩ := TB.out; obtain ⟨⟨z0, z1, z2, z3, z4, z5, z6⟩, ⟨f0, f1, f2, f3, f4, f5, f6⟩⟩ := RB9.out; have lr : w.heap.size + 1 < w1.heap.size := RB9.out.lt; clear hb)
 have HB0 : Hid ((B7 w1 (w.heap.size) (.int .i64 K) (.int .i64 B) (.int .i64 F) (.int .i64 R) (.int .i64 O) (.slice p n c) (.slice (some ⟨vb, vo, none⟩) m d)) /\ (B7 w1 (w.heap.size + 1) (.int .i64 0) (.int .i64 0) (.int .i64 0) (.int .i64 0) (.int .i64 0) (.slice none 0 0) (.slice none 0 0)) /\ w1.ownsRow w1.heap.size 3 1 (.slice none 0 0) 0 (((pm zs os).take 0).map (Value.int .i64)) /\ Below w.heap.size w w1 /\ w1.heap.size <= w1.heap.size) := Lib.hid ⟨TB.out, RB9.out, World.ownsRow_nil _ _ _ _, KB.out, Nat.le_refl _⟩
 have LR1 := Lib.hid lr
 have lt1 : w.heap.size < w1.heap.size := TB.out.lt
 clear z0 f0 c0 z1 f1 c1 z2 f2 c2 z3 f3 c3 z4 f4 c4 z5 f5 c5 z6 f6 c6 TB RB9 KB lr
 go_wp2_with fail
 go_loopw [7, 8] (fun vv_ iv wr => ∃ (i : Nat) (qv : Option Addr) (dv : Nat), vv_ = .slice qv i dv /\ iv = .int .i64 (i : Int) /\ i <= n /\ Hid (gd n os i) /\ Hid ((B7 wr (w.heap.size) (.int .i64 K) (.int .i64 B) (.int .i64 F) (.int .i64 R) (.int .i64 O) (.slice p n c) (.slice (some ⟨vb, vo, none⟩) m d)) /\ (B7 wr (w.heap.size + 1) (.int .i64 0) (.int .i64 0) (.int .i64 0) (.int .i64 0) (.int .i64 0) (.slice none 0 0) (.slice none 0 0)) /\ wr.ownsRow w1.heap.size 3 1 (.slice qv i dv) i (((pm zs os).take i).map (Value.int .i64)) /\ Below w.heap.size w wr /\ w1.heap.size <= wr.heap.size)) (fun _ iv _ => n - (intOf iv).toNat)
 case atStart => exact ⟨0, none, 0, rfl, rfl, Nat.zero_le _, Lib.hid (fun i hi => by omega), HB0⟩
 case round =>
  obtain ⟨i, qv, dv, rfl, rfl, hi0, HG, HJ⟩ := hrel
  clear HB0
  obtain ⟨TJ, RJ, VJ, KJ, hszr⟩ := HJ.out
  have lTJ := TJ.lt
  by_cases hin : i < n
  ·have i2 : (i : Int) < n := by omega
   have i0' : (0 : Int) <= i := by omega
   obtain ⟨xb, xo, hxx, hx⟩ := RX.out i (by rw [HOL.out]; exact hin)
   subst hxx
   have hxb : xb < w.heap.size := World.block_lt_of_cell? _ _ hx
   replace hx := Rg.keep KJ hxb hx
   obtain ⟨x, hX⟩ : ∃ x, os.getD i 0 = x := ⟨_, rfl⟩
   rw [hX] at hx
   have HX := Lib.hid hX
   obtain ⟨⟨c0, c1, c2, c3, c4, c5, c6⟩, -⟩ := id TJ
   clear hX
   by_cases x0 : x < 0
   ·have k1 : decide (x < 0) = true := by simpa using x0
    have NG : Hid (¬ gd zs.length os zs.length) := Lib.hid fun h => by have := (h i (by rw [HN.out]; exact hin)).1; rw [HX.out] at this; omega
    clear x0
    have lr : w.heap.size + 1 < wr.heap.size := RJ.lt
    obtain ⟨⟨z0, z1, z2, z3, z4, z5, z6⟩, ⟨f0, f1, f2, f3, f4, f5, f6⟩⟩ := id RJ
    go_wp2_with fail
    have SBB := (((((((KJ).setCell (p := ⟨w.heap.size + 1, 0, none⟩) (by dsimp only; omega) (.int .i64 0)).setCell (p := ⟨w.heap.size + 1, 1, none⟩) (by dsimp only; omega) (.int .i64 0)).setCell (p := ⟨w.heap.size + 1, 2, none⟩) (by dsimp only; omega) (.int .i64 0)).setCell (p := ⟨w.heap.size + 1, 3, none⟩) (by dsimp only; omega) (.int .i64 0)).setCell (p := ⟨w.heap.size + 1, 4, none⟩) (by dsimp only; omega) (.int .i64 0)).setCell (p := ⟨w.heap.size + 1, 5, none⟩) (by dsimp only; omega) (.slice none 0 0)).setCell (p := ⟨w.heap.size + 1, 6, none⟩) (by dsimp only; omega) (.slice none 0 0)
    refine bodyPost_ret (v := .tuple #[.agg #[.int .i64 0, .int .i64 0, .int .i64 0, .int .i64 0, .int .i64 0, .slice none 0 0, .slice none 0 0], .int .i64 1]) (by simp [results, Tryz.results38, go_sem, z0, f0, z1, f1, z2, f2, z3, f3, z4, f4, z5, f5, z6, f6, lr]) rfl (Or.inr ⟨NG.out, TRes.no SBB⟩)
   have k1 : decide (x < 0) = false := by simpa using x0
   by_cases x1 : (n : Int) <= x
   ·have k2 : decide ((n : Int) <= x) = true := by simpa using x1
    have NG : Hid (¬ gd zs.length os zs.length) := Lib.hid fun h => by have := (h i (by rw [HN.out]; exact hin)).2.1; rw [HX.out, HN.out] at this; omega
    clear x0 x1
    have lr : w.heap.size + 1 < wr.heap.size := RJ.lt
    obtain ⟨⟨z0, z1, z2, z3, z4, z5, z6⟩, ⟨f0, f1, f2, f3, f4, f5, f6⟩⟩ := id RJ
    go_wp2_with fail
    have SBB := (((((((KJ).setCell (p := ⟨w.heap.size + 1, 0, none⟩) (by dsimp only; omega) (.int .i64 0)).setCell (p := ⟨w.heap.size + 1, 1, none⟩) (by dsimp only; omega) (.int .i64 0)).setCell (p := ⟨w.heap.size + 1, 2, none⟩) (by dsimp only; omega) (.int .i64 0)).setCell (p := ⟨w.heap.size + 1, 3, none⟩) (by dsimp only; omega) (.int .i64 0)).setCell (p := ⟨w.heap.size + 1, 4, none⟩) (by dsimp only; omega) (.int .i64 0)).setCell (p := ⟨w.heap.size + 1, 5, none⟩) (by dsimp only; omega) (.slice none 0 0)).setCell (p := ⟨w.heap.size + 1, 6, none⟩) (by dsimp only; omega) (.slice none 0 0)
    refine bodyPost_ret (v := .tuple #[.agg #[.int .i64 0, .int .i64 0, .int .i64 0, .int .i64 0, .int .i64 0, .slice none 0 0, .slice none 0 0], .int .i64 1]) (by simp [results, Tryz.results38, go_sem, z0, f0, z1, f1, z2, f2, z3, f3, z4, f4, z5, f5, z6, f6, lr]) rfl (Or.inr ⟨NG.out, TRes.no SBB⟩)
   obtain ⟨X, rfl⟩ : ∃ X : Nat, x = X := ⟨x.toNat, by omega⟩
   have k2 : decide ((n : Int) <= (X : Int)) = false := by simp <;> omega
   have k2' : decide (n <= X) = false := by simp <;> omega
   have hXn : X < n := by omega
   have j0 : (0 : Int) <= X := by omega
   have j1 : (X : Int) < n := by omega
   clear x0 x1
   have HI0 : Hid (∀ j, j < 0 -> os.getD j 0 ≠ (X : Int)) := Lib.hid fun j hj => absurd hj (by omega)
   go_upto_region 12 with fail
   go_wp2_with fail
   clear hx c0 c1 c2 c3 c4 c5 c6 TJ RJ VJ KJ
   go_loopw [9] (fun kv wr => ∃ k : Nat, kv = .int .i64 (k : Int) /\ k <= i /\ Hid (∀ j, j < k -> os.getD j 0 ≠ (X : Int)) /\ Hid ((B7 wr (w.heap.size) (.int .i64 K) (.int .i64 B) (.int .i64 F) (.int .i64 R) (.int .i64 O) (.slice p n c) (.slice (some ⟨vb, vo, none⟩) m d)) /\ (B7 wr (w.heap.size + 1) (.int .i64 0) (.int .i64 0) (.int .i64 0) (.int .i64 0) (.int .i64 0) (.slice none 0 0) (.slice none 0 0)) /\ wr.ownsRow w1.heap.size 3 1 (.slice qv i dv) i (((pm zs os).take i).map (Value.int .i64)) /\ Below w.heap.size w wr /\ w1.heap.size <= wr.heap.size)) (fun kv _ => i - (intOf kv).toNat)
   case atStart => exact ⟨0, rfl, Nat.zero_le _, HI0, HJ⟩
   case round =>
    obtain ⟨k, rfl, hk0, HK, HJ2⟩ := hrel
    clear HI0 HJ lTJ hszr
    obtain ⟨TJ, RJ, VJ, KJ, hszr⟩ := HJ2.out
    have lTJ := TJ.lt
    obtain ⟨xb', xo', hxx, hx⟩ := RX.out i (by rw [HOL.out]; exact hin)
    cases hxx
    replace hx := Rg.keep KJ hxb hx
    rw [HX.out] at hx
    by_cases hki : k < i
    ·have ki2 : (k : Int) < i := by omega
     have k0' : (0 : Int) <= k := by omega
     have kn2 : (k : Int) < n := by omega
     obtain ⟨xb', xo', hxx, hy⟩ := RX.out k (by rw [HOL.out]; omega)
     cases hxx
     replace hy := Rg.keep KJ hxb hy
     obtain ⟨y, hY⟩ : ∃ y, os.getD k 0 = y := ⟨_, rfl⟩
     rw [hY] at hy
     have HY := Lib.hid hY
     clear hY
     by_cases hyx : y = (X : Int)
     ·subst hyx
      have gk : ((X : Int) == (X : Int)) = true := by simp
      have NG : Hid (¬ gd zs.length os zs.length) := Lib.hid fun h => (h i (by rw [HN.out]; exact hin)).2.2 k hki (by rw [HY.out, HX.out])
      go_upto_region 15 with fail
      go_quiet (fail)
      have RJ' : B7 (wr.drewN nq) (w.heap.size + 1) (.int .i64 0) (.int .i64 0) (.int .i64 0) (.int .i64 0) (.int .i64 0) (.slice none 0 0) (.slice none 0 0) := RJ
      have KJ' := below_drewN KJ nq
      have lr : w.heap.size + 1 < (wr.drewN nq).heap.size := RJ'.lt
      obtain ⟨⟨z0, z1, z2, z3, z4, z5, z6⟩, ⟨f0, f1, f2, f3, f4, f5, f6⟩⟩ := RJ'
      go_upto_region 16 with fail
      repeat go_step
      have SBB := (((((((KJ').setCell (p := ⟨w.heap.size + 1, 0, none⟩) (by dsimp only; omega) (.int .i64 0)).setCell (p := ⟨w.heap.size + 1, 1, none⟩) (by dsimp only; omega) (.int .i64 0)).setCell (p := ⟨w.heap.size + 1, 2, none⟩) (by dsimp only; omega) (.int .i64 0)).setCell (p := ⟨w.heap.size + 1, 3, none⟩) (by dsimp only; omega) (.int .i64 0)).setCell (p := ⟨w.heap.size + 1, 4, none⟩) (by dsimp only; omega) (.int .i64 0)).setCell (p := ⟨w.heap.size + 1, 5, none⟩) (by dsimp only; omega) (.slice none 0 0)).setCell (p := ⟨w.heap.size + 1, 6, none⟩) (by dsimp only; omega) (.slice none 0 0)
      refine bodyPost_ret (v := .tuple #[.agg #[.int .i64 0, .int .i64 0, .int .i64 0, .int .i64 0, .int .i64 0, .slice none 0 0, .slice none 0 0], .int .i64 1]) (by simp [results, Tryz.results38, go_sem, z0, f0, z1, f1, z2, f2, z3, f3, z4, f4, z5, f5, z6, f6, lr]) rfl (Or.inr ⟨NG.out, TRes.no SBB⟩)
     ·have gk : (y == (X : Int)) = false := by rw [beq_eq_false_iff_ne]; exact hyx
      have HK2 : Hid (∀ j, j < k + 1 -> os.getD j 0 ≠ (X : Int)) := Lib.hid fun j hj => by
       by_cases e : j = k
       ·rw [e, HY.out]; exact hyx
       ·exact HK.out j (by omega)
      clear hyx
      go_upto_region 15 with fail
      go_quiet (fail)
      have HD2 : Hid ((B7 (wr.drewN nq) (w.heap.size) (.int .i64 K) (.int .i64 B) (.int .i64 F) (.int .i64 R) (.int .i64 O) (.slice p n c) (.slice (some ⟨vb, vo, none⟩) m d)) /\ (B7 (wr.drewN nq) (w.heap.size + 1) (.int .i64 0) (.int .i64 0) (.int .i64 0) (.int .i64 0) (.int .i64 0) (.slice none 0 0) (.slice none 0 0)) /\ (wr.drewN nq).ownsRow w1.heap.size 3 1 (.slice qv i dv) i (((pm zs os).take i).map (Value.int .i64)) /\ Below w.heap.size w (wr.drewN nq) /\ w1.heap.size <= (wr.drewN nq).heap.size) := Lib.hid ⟨TJ, RJ, VJ, below_drewN KJ _, hszr⟩
      go_wp2_with fail
      go_roundw
      case rel => exact ⟨k + 1, by simp, by omega, HK2, HD2⟩
      case measure => simp [intOf]; omega
    ·obtain rfl : k = i := by omega
     have gN : decide ((k : Int) < k) = false := by simp
     have HG2 : Hid (gd n os (k + 1)) := Lib.hid (gd_next HG.out HX.out hXn HK.out)
     obtain ⟨bb, oo, ee, hz⟩ := RA.out X (by rw [HN.out]; exact hXn)
     subst ee
     have hbz : bb < w.heap.size := World.block_lt_of_cell? _ _ hz
     replace hz := Rg.keep KJ hbz hz
     obtain ⟨z, hze⟩ : ∃ z, zs.getD X 0 = z := ⟨_, rfl⟩
     rw [hze] at hz
     have HTK := Lib.hid (PL.out k X z hin HX.out hze)
     obtain ⟨⟨c0, c1, c2, c3, c4, c5, c6⟩, -⟩ := id TJ
     clear hze
     go_upto_region 17 with fail
     have HS : Hid (∀ u u' : World, (u.cell? ⟨w.heap.size, 5, none⟩ = some (.slice (some ⟨bb, oo, none⟩) n c) /\ u.cell? ⟨xb, xo + k, none⟩ = some (.int .i64 (X : Int)) /\ u.cell? ⟨bb, oo + X, none⟩ = some (.int .i64 z) /\ Below wr.heap.size wr u) -> Below u.heap.size u u' -> (u'.cell? ⟨w.heap.size, 5, none⟩ = some (.slice (some ⟨bb, oo, none⟩) n c) /\ u'.cell? ⟨xb, xo + k, none⟩ = some (.int .i64 (X : Int)) /\ u'.cell? ⟨bb, oo + X, none⟩ = some (.int .i64 z) /\ Below wr.heap.size wr u')) := Lib.hid (fun u u' h hb => ⟨Rg.keep hb (World.block_lt_of_cell? _ _ h.1) h.1, Rg.keep hb (World.block_lt_of_cell? _ _ h.2.1) h.2.1, Rg.keep hb (World.block_lt_of_cell? _ _ h.2.2.1) h.2.2.1, h.2.2.2.trans (hb.mono h.2.2.2.size)⟩)
     refine Rk.begin (S := fun wS => wS.cell? ⟨w.heap.size, 5, none⟩ = some (.slice (some ⟨bb, oo, none⟩) n c) /\ wS.cell? ⟨xb, xo + k, none⟩ = some (.int .i64 (X : Int)) /\ wS.cell? ⟨bb, oo + X, none⟩ = some (.int .i64 z) /\ Below wr.heap.size wr wS) 9 (by kernel_rfl) ⟨c5, hx, hz, Below.drew (Below.refl _ _)⟩ (fun hHeld => ?_)
     refine SqR.p 0 ?_
     refine SqR.p 1 ?_
     refine SqR.l [7, 8, 9] 2 ?_
     refine SqR.p 3 ?_
     refine SqR.p 4 ?_
     refine SqR.p 5 ?_
     refine SqR.l [7, 8, 9] 6 ?_
     refine SqR.p 7 ?_
     refine SqR.l [9] 8 ?_
     refine Rk.tail [9, 10, 11] [_, _, _] (by kernel_rfl) (by kernel_rfl) rfl (by decide) ?_
     obtain ⟨c5, hx, hz, -⟩ := hHeld
     have VZ := VJ.drew
     have TZ : B7 wr.drew (w.heap.size) (.int .i64 K) (.int .i64 B) (.int .i64 F) (.int .i64 R) (.int .i64 O) (.slice (some ⟨bb, oo, none⟩) n c) (.slice (some ⟨vb, vo, none⟩) m d) := TJ.drew
     have RZ : B7 wr.drew (w.heap.size + 1) (.int .i64 0) (.int .i64 0) (.int .i64 0) (.int .i64 0) (.int .i64 0) (.slice none 0 0) (.slice none 0 0) := RJ.drew
     have KZ := KJ.drew
     have hzs : w1.heap.size <= wr.drew.heap.size := hszr
     obtain ⟨wz, hwz⟩ : ∃ x, wr.drew = x := ⟨_, rfl⟩
     rw [hwz] at VZ TZ RZ KZ hzs c5 hx hz ⊢
     clear HS hwz
     obtain ⟨i0, hi, hz0, hz1, hz2⟩ := info_parts info3
     have lr1 := LR1.out
     go_wp2_with (at_builtin; refine wpList_append_own _ rfl _ _ 24 rfl w1.heap.size 3 i0 (.int .i64 0) 1 8 Tryz.underlying24 hi hz0 hz1 hz2 rfl (by decide) _ _ _ rfl (VZ.alloc (Obj.cells #[Value.int .i64 z] 3)) ⟨wz.heap.size, 0, none⟩ 1 1 [.int .i64 z] rfl rfl (newsI wz z rfl) (one1 _) (by unfold maxLen; omega) (by omega) (by simp; omega) ?_; intro v8 w8 hown8 hgrow _; obtain ⟨qn, dn, rfl⟩ := own_slice hown8; have hrow := row_baseI VZ; have T8 := (TZ.alloc (Obj.cells #[Value.int .i64 z] 3)).grown hgrow (fun e => by have := hrow _ e.symm; omega); have R8 := (RZ.alloc (Obj.cells #[Value.int .i64 z] 3)).grown hgrow (fun e => by have := hrow _ e.symm; omega); have V8 := Lib.hid hown8; have K8 := (KZ.alloc (by have := KZ.size; omega) (Obj.cells #[Value.int .i64 z] 3)).grown hgrow (by have := KZ.size; simp; omega) (fun k e => by have := hrow _ e; omega); have hs8 := hgrow.size; simp at hs8; clear hown8 hgrow)
     go_roundw
     case rel => exact ⟨k + 1, qn, dn, rfl, by simp, by omega, HG2, Lib.hid ⟨T8, R8, by rw [HTK.out, List.map_append]; exact V8.out, K8, by omega⟩⟩
     case measure => simp [intOf]; omega
  ·obtain rfl : i = n := by omega
   obtain ⟨pd, rfl⟩ : ∃ x, x = qv := ⟨qv, rfl⟩
   obtain ⟨cd, rfl⟩ : ∃ x, x = dv := ⟨dv, rfl⟩
   have HGD : Hid (gd zs.length os zs.length) := Lib.hid (by rw [HN.out]; exact HG.out)
   have VD : wr.ownsRow w1.heap.size 3 1 (.slice pd i cd) i ((pm zs os).map (Value.int .i64)) := by
    have h := VJ
    rw [List.take_of_length_le (by rw [HPML.out]; exact Nat.le_refl _)] at h
    exact h
   obtain ⟨wo, hwo⟩ : ∃ wo : World, wo = wr := ⟨wr, rfl⟩
   rw [<- hwo] at TJ RJ VD KJ hszr lTJ ⊢
   clear hwo VJ HJ
   obtain ⟨⟨c0, c1, c2, c3, c4, c5, c6⟩, -⟩ := id TJ
   have gN : decide ((i : Int) < i) = false := by simp
   have hW : Below wo.heap.size wo (wo.alloc (Obj.cells #[Value.int .i64 K, Value.int .i64 B, Value.int .i64 F, Value.int .i64 R, Value.int .i64 O, Value.slice pd i cd, Value.slice none 0 0] 27)) := (Below.refl _ _).alloc (Nat.le_refl _) _
   have HB1 : Hid ((B7 (wo.alloc (Obj.cells #[Value.int .i64 K, Value.int .i64 B, Value.int .i64 F, Value.int .i64 R, Value.int .i64 O, Value.slice pd i cd, Value.slice none 0 0] 27)) (w.heap.size) (.int .i64 K) (.int .i64 B) (.int .i64 F) (.int .i64 R) (.int .i64 O) (.slice p i c) (.slice (some ⟨vb, vo, none⟩) m d)) /\ (B7 (wo.alloc (Obj.cells #[Value.int .i64 K, Value.int .i64 B, Value.int .i64 F, Value.int .i64 R, Value.int .i64 O, Value.slice pd i cd, Value.slice none 0 0] 27)) (w.heap.size + 1) (.int .i64 0) (.int .i64 0) (.int .i64 0) (.int .i64 0) (.int .i64 0) (.slice none 0 0) (.slice none 0 0)) /\ (B7 (wo.alloc (Obj.cells #[Value.int .i64 K, Value.int .i64 B, Value.int .i64 F, Value.int .i64 R, Value.int .i64 O, Value.slice pd i cd, Value.slice none 0 0] 27)) (wo.heap.size) (.int .i64 K) (.int .i64 B) (.int .i64 F) (.int .i64 R) (.int .i64 O) (.slice pd i cd) (.slice none 0 0)) /\ (wo.alloc (Obj.cells #[Value.int .i64 K, Value.int .i64 B, Value.int .i64 F, Value.int .i64 R, Value.int .i64 O, Value.slice pd i cd, Value.slice none 0 0] 27)).ownsRow w1.heap.size 3 1 (.slice pd i cd) i ((pm zs os).map (Value.int .i64)) /\ (wo.alloc (Obj.cells #[Value.int .i64 K, Value.int .i64 B, Value.int .i64 F, Value.int .i64 R, Value.int .i64 O, Value.slice pd i cd, Value.slice none 0 0] 27)).ownsRow (wo.heap.size + 1) 29 2 (.slice none 0 0) 0 (flV ((pmV zs os vs).take 0)) /\ Below w.heap.size w (wo.alloc (Obj.cells #[Value.int .i64 K, Value.int .i64 B, Value.int .i64 F, Value.int .i64 R, Value.int .i64 O, Value.slice pd i cd, Value.slice none 0 0] 27)) /\ wo.heap.size + 1 <= (wo.alloc (Obj.cells #[Value.int .i64 K, Value.int .i64 B, Value.int .i64 F, Value.int .i64 R, Value.int .i64 O, Value.slice pd i cd, Value.slice none 0 0] 27)).heap.size) := Lib.hid ⟨TJ.alloc _, RJ.alloc _, B7.new wo _ (.int .i64 K) (.int .i64 B) (.int .i64 F) (.int .i64 R) (.int .i64 O) (.slice pd i cd) (.slice none 0 0), VD.alloc _, World.ownsRow_nil _ _ _ _, KJ.alloc KJ.size _, by simp⟩
   have HLP := Lib.hid fun k e => (VD.lt k e).2
   have HWO : Hid (w1.heap.size <= wo.heap.size) := Lib.hid hszr
   go_wp2_with fail
   clear TJ RJ VD KJ hW c0 c1 c2 c3 c4 c5 c6
   go_loopw [11] (fun iv wr => ∃ (j : Nat) (qv : Option Addr) (dv : Nat), iv = .int .i64 (j : Int) /\ j <= m /\ Hid ((B7 wr (w.heap.size) (.int .i64 K) (.int .i64 B) (.int .i64 F) (.int .i64 R) (.int .i64 O) (.slice p i c) (.slice (some ⟨vb, vo, none⟩) m d)) /\ (B7 wr (w.heap.size + 1) (.int .i64 0) (.int .i64 0) (.int .i64 0) (.int .i64 0) (.int .i64 0) (.slice none 0 0) (.slice none 0 0)) /\ (B7 wr (wo.heap.size) (.int .i64 K) (.int .i64 B) (.int .i64 F) (.int .i64 R) (.int .i64 O) (.slice pd i cd) (.slice qv j dv)) /\ wr.ownsRow w1.heap.size 3 1 (.slice pd i cd) i ((pm zs os).map (Value.int .i64)) /\ wr.ownsRow (wo.heap.size + 1) 29 2 (.slice qv j dv) j (flV ((pmV zs os vs).take j)) /\ Below w.heap.size w wr /\ wo.heap.size + 1 <= wr.heap.size)) (fun iv _ => m - (intOf iv).toNat)
   case atStart => exact ⟨0, none, 0, rfl, Nat.zero_le _, HB1⟩
   case round =>
    obtain ⟨j, qv, dv, rfl, hj0, HJ⟩ := hrel
    clear HB1
    obtain ⟨TJ, RJ, DJ, PJ, VJ, KJ, hsw⟩ := HJ.out
    obtain ⟨wh, hwh⟩ : ∃ wh : World, wh = wr := ⟨wr, rfl⟩
    rw [<- hwh] at TJ RJ DJ PJ VJ KJ hsw ⊢
    clear hwh HJ
    obtain ⟨⟨c0, c1, c2, c3, c4, c5, c6⟩, -⟩ := id TJ
    have lDJ := DJ.lt
    by_cases hjm : j < m
    ·have j2 : (j : Int) < m := by omega
     have j0 : (0 : Int) <= j := by omega
     obtain ⟨i0, hi, hz0, hz1, hz2⟩ := info_parts info3
     go_upto_region 24 with (first | (go_at_call 27; (with_reducible refine (PT.out HG.out pd cd j hjm _ (Lib.hid (SlI_of PJ HPML.out))).mono ?_); rintro e w5 ⟨rfl, hp5, hb5⟩; have HB5 := Lib.hid hb5; have HP5 := Lib.hid hp5; have hs5 := hb5.size; clear hb5 hp5) | (refine wpList_make_full _ rfl _ _ 24 rfl w5.heap.size 3 i0 (.int .i64 0) 1 Tryz.underlying24 hi hz0 hz1 .i64 .i64 _ _ i rfl rfl rfl rfl (by rw [hz2]; omega) (by unfold maxLen; omega) (Nat.le_refl _) ?_; intro w6 hown hg; have HB6 := Lib.hid (below_own (Nat.le_refl _) hg); have HO6 := Lib.hid hown; rw [show (Value.int IntKind.i64 0).cells = #[.int .i64 0] from rfl, toList_madeCells_one, Nat.mul_one] at HO6; clear hown hg))
     have hbW := HB5.out.trans (HB6.out.mono HB5.out.size)
     obtain ⟨P9, hP9⟩ : ∃ P, pt (pm zs os) (j : Int) = P := ⟨_, rfl⟩
     have hPl : P9.length = i := by rw [<- hP9, pt_length]; exact HPML.out
     have HP9 := Lib.hid hP9
     have HPl := Lib.hid hPl
     have PR6 := own_belowE HP5.out HB6.out
     rw [hP9] at PR6
     have HLV := Lib.hid fun k e => (VJ.lt k e).2
     have HL5 : Hid (wh.heap.size < w5.heap.size) := Lib.hid (HP5.out.lt wh.heap.size rfl).2
     have h56 : w5.heap.size < w6.heap.size := (HO6.out.lt w5.heap.size rfl).2
     have HBI : Hid (((B7 w6 (w.heap.size) (.int .i64 K) (.int .i64 B) (.int .i64 F) (.int .i64 R) (.int .i64 O) (.slice p i c) (.slice (some ⟨vb, vo, none⟩) m d)) /\ (B7 w6 (w.heap.size + 1) (.int .i64 0) (.int .i64 0) (.int .i64 0) (.int .i64 0) (.int .i64 0) (.slice none 0 0) (.slice none 0 0)) /\ (B7 w6 (wo.heap.size) (.int .i64 K) (.int .i64 B) (.int .i64 F) (.int .i64 R) (.int .i64 O) (.slice pd i cd) (.slice qv j dv)) /\ w6.ownsRow w1.heap.size 3 1 (.slice pd i cd) i ((pm zs os).map (Value.int .i64)) /\ w6.ownsRow (wo.heap.size + 1) 29 2 (.slice qv j dv) j (flV ((pmV zs os vs).take j)) /\ Below w.heap.size w w6 /\ wo.heap.size + 1 <= w6.heap.size) /\ w6.ownsRow wh.heap.size 3 1 (.slice (some ⟨wh.heap.size, 0, none⟩) i i) i (P9.map (Value.int .i64)) /\ w6.ownsRow w5.heap.size 3 1 (.slice (some ⟨w5.heap.size, 0, none⟩) i i) i ((List.replicate i 0).map (Value.int .i64)) /\ w5.heap.size < w6.heap.size) := Lib.hid ⟨⟨B7.keep hbW TJ.lt TJ, B7.keep hbW RJ.lt RJ, B7.keep hbW DJ.lt DJ, own_belowE PJ hbW, own_belowE VJ hbW, KJ.trans (hbW.mono KJ.size), Nat.le_trans hsw hbW.size⟩, PR6, by rw [List.map_replicate]; exact HO6.out, h56⟩
     have HQ0 : Hid (∀ l, l < 0 -> (List.replicate i (0 : Int)).getD (os.getD l 0).toNat 0 = P9.getD l 0) := Lib.hid fun l hl => absurd hl (by omega)
     have sw5 : wh.heap.size <= w5.heap.size := HB5.out.size
     clear hP9 hPl PR6 TJ RJ DJ PJ VJ KJ hbW HB6 HO6 HP5 hi hz0 hz1 hz2 c0 c1 c2 c3 c4 c5 c6
     go_wp2_with fail
     go_loopw [14] (fun kv wr => ∃ (k : Nat) (ys : List Int), kv = .int .i64 (k : Int) /\ k <= i /\ ys.length = i /\ Hid (∀ l, l < k -> ys.getD (os.getD l 0).toNat 0 = P9.getD l 0) /\ Hid (((B7 wr (w.heap.size) (.int .i64 K) (.int .i64 B) (.int .i64 F) (.int .i64 R) (.int .i64 O) (.slice p i c) (.slice (some ⟨vb, vo, none⟩) m d)) /\ (B7 wr (w.heap.size + 1) (.int .i64 0) (.int .i64 0) (.int .i64 0) (.int .i64 0) (.int .i64 0) (.slice none 0 0) (.slice none 0 0)) /\ (B7 wr (wo.heap.size) (.int .i64 K) (.int .i64 B) (.int .i64 F) (.int .i64 R) (.int .i64 O) (.slice pd i cd) (.slice qv j dv)) /\ wr.ownsRow w1.heap.size 3 1 (.slice pd i cd) i ((pm zs os).map (Value.int .i64)) /\ wr.ownsRow (wo.heap.size + 1) 29 2 (.slice qv j dv) j (flV ((pmV zs os vs).take j)) /\ Below w.heap.size w wr /\ wo.heap.size + 1 <= wr.heap.size) /\ wr.ownsRow wh.heap.size 3 1 (.slice (some ⟨wh.heap.size, 0, none⟩) i i) i (P9.map (Value.int .i64)) /\ wr.ownsRow w5.heap.size 3 1 (.slice (some ⟨w5.heap.size, 0, none⟩) i i) i (ys.map (Value.int .i64)) /\ w5.heap.size < wr.heap.size)) (fun kv _ => i - (intOf kv).toNat)
     case atStart => exact ⟨0, List.replicate i 0, rfl, Nat.zero_le _, List.length_replicate, HQ0, HBI⟩
     case round =>
      obtain ⟨k, ys, rfl, hk0, hyl, HQ, HI⟩ := hrel
      clear HQ0 HBI h56
      obtain ⟨⟨TJ, RJ, DJ, PJ, VJ, KJ, hszr⟩, PR, QR, h5w⟩ := HI.out
      by_cases hki : k < i
      ·have ki2 : (k : Int) < i := by omega
       have k0' : (0 : Int) <= k := by omega
       obtain ⟨g0, g1', g2'⟩ := HG.out k hki
       obtain ⟨xb, xo, hxx, hx⟩ := RX.out k (by rw [HOL.out]; exact hki)
       subst hxx
       have hxb : xb < w.heap.size := World.block_lt_of_cell? _ _ hx
       replace hx := Rg.keep KJ hxb hx
       obtain ⟨X, hX⟩ : ∃ X : Nat, os.getD k 0 = X := ⟨(os.getD k 0).toNat, by omega⟩
       rw [hX] at hx g1'
       have HX := Lib.hid hX
       have X0 : (0 : Int) <= X := by omega
       have XI : (X : Int) < i := g1'
       have Xi : X < i := by omega
       obtain ⟨b', o', ee, hy⟩ := SlI_of PR HPl.out k (by rw [HPl.out]; exact hki)
       cases ee
       rw [Nat.zero_add] at hy
       obtain ⟨y, hyy⟩ : ∃ y, P9.getD k 0 = y := ⟨_, rfl⟩
       rw [hyy] at hy
       obtain ⟨b', o', ee, hs⟩ := SlI_of QR hyl X (by rw [hyl]; exact Xi)
       cases ee
       rw [Nat.zero_add] at hs
       obtain ⟨s, hss⟩ : ∃ y, ys.getD X 0 = y := ⟨_, rfl⟩
       rw [hss] at hs
       have ht := QR.frozenAt X
       have HQ2 : Hid (∀ l, l < k + 1 -> (ys.set X y).getD (os.getD l 0).toNat 0 = P9.getD l 0) := Lib.hid fun l hl => by
        by_cases e : l = k
        ·rw [e, HX.out, Int.toNat_natCast, hyy, List.getD_eq_getElem?_getD, List.getElem?_set_self (by omega)]; rfl
        ·have h1 := HQ.out l (by omega)
         have hne : ¬ X = (os.getD l 0).toNat := fun e2 => by
          have h3 := g2' l (by omega)
          have h4 := (HG.out l (by omega)).1
          rw [HX.out] at h3
          omega
         rw [List.getD_eq_getElem?_getD, List.getElem?_set_ne hne, <- List.getD_eq_getElem?_getD]
         exact h1
       clear hX hyy hss g0 g1' g2'
       go_upto_region 27 with fail
       have HS : Hid (∀ u u' : World, (u.cell? ⟨xb, xo + k, none⟩ = some (.int .i64 (X : Int)) /\ u.cell? ⟨wh.heap.size, k, none⟩ = some (.int .i64 y) /\ u.cell? ⟨w5.heap.size, X, none⟩ = some (.int .i64 s) /\ u.frozen? ⟨w5.heap.size, X, none⟩ = false /\ Below wr.heap.size wr u) -> Below u.heap.size u u' -> (u'.cell? ⟨xb, xo + k, none⟩ = some (.int .i64 (X : Int)) /\ u'.cell? ⟨wh.heap.size, k, none⟩ = some (.int .i64 y) /\ u'.cell? ⟨w5.heap.size, X, none⟩ = some (.int .i64 s) /\ u'.frozen? ⟨w5.heap.size, X, none⟩ = false /\ Below wr.heap.size wr u')) := Lib.hid (fun u u' h hb => ⟨Rg.keep hb (World.block_lt_of_cell? _ _ h.1) h.1, Rg.keep hb (World.block_lt_of_cell? _ _ h.2.1) h.2.1, Rg.keep hb (World.block_lt_of_cell? _ _ h.2.2.1) h.2.2.1, Rg.keepF hb (World.block_lt_of_cell? _ _ h.2.2.1) h.2.2.2.1, h.2.2.2.2.trans (hb.mono h.2.2.2.2.size)⟩)
       refine Rk.begin (S := fun wS => wS.cell? ⟨xb, xo + k, none⟩ = some (.int .i64 (X : Int)) /\ wS.cell? ⟨wh.heap.size, k, none⟩ = some (.int .i64 y) /\ wS.cell? ⟨w5.heap.size, X, none⟩ = some (.int .i64 s) /\ wS.frozen? ⟨w5.heap.size, X, none⟩ = false /\ Below wr.heap.size wr wS) 10 (by kernel_rfl) ⟨hx, hy, hs, ht, Below.drew (Below.refl _ _)⟩ (fun hHeld => ?_)
       refine SqR.p 0 ?_
       refine SqR.p 1 ?_
       refine SqR.p 2 ?_
       refine SqR.p 3 ?_
       refine SqR.l [10] 4 ?_
       refine SqR.p 5 ?_
       refine SqR.p 6 ?_
       refine SqR.p 7 ?_
       refine SqR.l [10] 8 ?_
       refine SqR.p 9 ?_
       refine Rk.tail [10] [_] (by kernel_rfl) (by kernel_rfl) rfl (by decide) ?_
       obtain ⟨hx, hy, hs, ht, -⟩ := hHeld
       have sQ := QR.stored X (.int .i64 y)
       have sQ2 := sQ.1
       rw [<- List.map_set] at sQ2
       have HSQ := Lib.hid sQ2
       clear HS sQ sQ2
       go_wp2_with fail
       go_roundw
       case rel =>
        have d1 : w5.heap.size ≠ w.heap.size := by have := TJ.lt; omega
        have d2 : w5.heap.size ≠ w.heap.size + 1 := by have := RJ.lt; have := LR1.out; omega
        have d3 : w5.heap.size ≠ wo.heap.size := by omega
        have d4 : w.heap.size <= w5.heap.size := by omega
        have d5 : ∀ k, (Value.slice (some ⟨wh.heap.size, 0, none⟩) i i).ownBlock = some k -> k < w5.heap.size := fun k e => by have e' : wh.heap.size = k := Option.some.inj e; have := HL5.out; omega
        exact ⟨k + 1, ys.set X y, by simp, by omega, by rw [List.length_set]; exact hyl, HQ2, Lib.hid ⟨⟨(TJ.far d1).drew, (RJ.far d2).drew, (DJ.far d3).drew, (own_setP PJ HLP.out (by omega)).drew, (own_setP VJ HLV.out sw5).drew, (KJ.setCell (p := ⟨w5.heap.size, X, none⟩) d4 _).drew, by simp; omega⟩, (own_setP PR d5 (Nat.le_refl _)).drew, HSQ.out.drew, by simp; exact h5w⟩⟩
       case measure => simp [intOf]; omega
      ·obtain rfl : k = i := by omega
       have hq9 : ∀ l, l < k -> ys.getD (os.getD l 0).toNat 0 = (pt (pm zs os) (j : Int)).getD l 0 := by rw [HP9.out]; exact HQ.out
       have OFj := OF.out HG.out j hjm
       have hfb := FB.out HG.out j
       rw [<- TL.out] at hfb
       obtain ⟨f, hf⟩ : ∃ f : Nat, frS zs os (j : Int) k = f := ⟨(frS zs os (j : Int) k).toNat, by omega⟩
       have hget := pmV_get (zs := zs) (os := os) (vs := vs) (a := j) (by rw [HM.out]; exact hjm)
       rw [HN.out, hf, Int.toNat_natCast] at hget
       rw [hf] at OFj hfb
       have hfm : f < m := by omega
       obtain ⟨b', o', ee, v0, v1⟩ := RB.out f (by rw [HM.out]; exact hfm)
       cases ee
       replace v0 := Rg.keep KJ hvb v0
       replace v1 := Rg.keep KJ hvb v1
       obtain ⟨⟨y1, y2⟩, hy⟩ : ∃ y, vs.getD f (0, 0) = y := ⟨_, rfl⟩
       rw [hy] at v0 v1 hget
       dsimp only at v0 v1
       have htk := take_snoc (l := pmV zs os vs) (j := j) (by rw [HPVL.out]; exact hjm)
       rw [hget] at htk
       dsimp only at htk
       have HTK := Lib.hid htk
       have f2 : (f : Int) < m := by omega
       have f0 : (0 : Int) <= f := by omega
       have gN2 : decide ((k : Int) < k) = false := by simp
       have C3 : Hid (∀ u, Below wr.heap.size wr u -> Calls Tryz.prog 69 #[.slice p k c, .slice (some ⟨w5.heap.size, 0, none⟩) k k] u fun e u' => e = .returned (.int .i64 (f : Int)) /\ Below u.heap.size u u') := Lib.hid fun u h => by
        have g := OFj (some ⟨w5.heap.size, 0, none⟩) ys k hyl hq9 u (Lib.hid (SlI.keep (KJ.trans (h.mono KJ.size)) RA.out)) (Lib.hid (SlI.keep h (SlI_of QR hyl)))
        rw [hyl] at g
        exact g.mono fun _ _ g => ⟨g.1, by obtain ⟨k, rfl⟩ := g.2; exact below_drewN (Below.refl _ _) k⟩
       obtain ⟨⟨c0, c1, c2, c3, c4, c5, c6⟩, -⟩ := id TJ
       obtain ⟨⟨m0, m1, m2, m3, m4, m5, m6⟩, -⟩ := id DJ
       obtain ⟨i0, hi, hz0, hz1, hz2⟩ := info_parts infoV
       clear hq9 OFj hfb hf hget hy htk
       go_upto_region 28 with fail
       have HS : Hid (∀ u u' : World, (u.cell? ⟨wo.heap.size, 6, none⟩ = some (.slice qv j dv) /\ u.cell? ⟨w.heap.size, 6, none⟩ = some (.slice (some ⟨vb, vo, none⟩) m d) /\ u.cell? ⟨w.heap.size, 5, none⟩ = some (.slice p k c) /\ u.cell? ⟨vb, vo + f * 2, none⟩ = some (.int .i64 y1) /\ u.cell? ⟨vb, vo + f * 2 + 1, none⟩ = some (.int .i64 y2) /\ Below wr.heap.size wr u) -> Below u.heap.size u u' -> (u'.cell? ⟨wo.heap.size, 6, none⟩ = some (.slice qv j dv) /\ u'.cell? ⟨w.heap.size, 6, none⟩ = some (.slice (some ⟨vb, vo, none⟩) m d) /\ u'.cell? ⟨w.heap.size, 5, none⟩ = some (.slice p k c) /\ u'.cell? ⟨vb, vo + f * 2, none⟩ = some (.int .i64 y1) /\ u'.cell? ⟨vb, vo + f * 2 + 1, none⟩ = some (.int .i64 y2) /\ Below wr.heap.size wr u')) := Lib.hid (fun u u' h hb => ⟨Rg.keep hb (World.block_lt_of_cell? _ _ h.1) h.1, Rg.keep hb (World.block_lt_of_cell? _ _ h.2.1) h.2.1, Rg.keep hb (World.block_lt_of_cell? _ _ h.2.2.1) h.2.2.1, Rg.keep hb (World.block_lt_of_cell? _ _ h.2.2.2.1) h.2.2.2.1, Rg.keep hb (World.block_lt_of_cell? _ _ h.2.2.2.2.1) h.2.2.2.2.1, h.2.2.2.2.2.trans (hb.mono h.2.2.2.2.2.size)⟩)
       refine Rk.begin (S := fun wS => wS.cell? ⟨wo.heap.size, 6, none⟩ = some (.slice qv j dv) /\ wS.cell? ⟨w.heap.size, 6, none⟩ = some (.slice (some ⟨vb, vo, none⟩) m d) /\ wS.cell? ⟨w.heap.size, 5, none⟩ = some (.slice p k c) /\ wS.cell? ⟨vb, vo + f * 2, none⟩ = some (.int .i64 y1) /\ wS.cell? ⟨vb, vo + f * 2 + 1, none⟩ = some (.int .i64 y2) /\ Below wr.heap.size wr wS) 11 (by kernel_rfl) ⟨m6, c6, c5, v0, v1, Below.drew (Below.refl _ _)⟩ (fun hHeld => ?_)
       refine SqR.p 0 ?_
       refine SqR.l [11] 1 ?_
       refine SqR.p 2 ?_
       refine SqR.l [8, 9, 10, 11] 3 ?_
       refine SqR.p 4 ?_
       refine SqR.l [7, 11] 5 ?_
       refine SqR.p 6 ?_
       refine Rk.one (i := 7) (by kernel_rfl) rfl (fun KK hK => ?_)
       rw [if_pos (by kernel_rfl)]
       go_simp
       ((with_reducible refine (C3.out _ (hHeld.2.2.2.2.2)).mono ?_); rintro e u ⟨rfl, hb⟩)
       first | (refine hK.out _ _ (fun _ => HS.out _ _ hHeld hb) (fun hHeld => ?_)) | (refine hK.out _ _ (HS.out _ _ hHeld hb) (fun hHeld => ?_)) | (go_wp2_with fail; refine hK.out _ _ (HS.out _ _ hHeld hb) (fun hHeld => ?_))
       clear hK KK
       refine SqR.p 8 ?_
       refine SqR.l [10, 11] 9 ?_
       refine Rk.one (i := 10) (by kernel_rfl) rfl (fun KK hK => ?_)
       rw [if_pos (by kernel_rfl)]
       go_simp
       have hNew := HS.out _ _ hHeld ((Below.refl _ _).alloc (Nat.le_refl _) (Obj.cells #[Value.int .i64 y1, Value.int .i64 y2] 29))
       first | (refine hK.out _ _ (fun _ => hNew) (fun hHeld => ?_)) | (refine hK.out _ _ hNew (fun hHeld => ?_)) | (go_wp2_with fail; refine hK.out _ _ hNew (fun hHeld => ?_))
       clear hK KK
       refine Rk.tail [11, 12, 13] [_, _, _] (by kernel_rfl) (by kernel_rfl) rfl (by decide) ?_
       have KZ0 := hHeld.2.2.2.2.2
       have NZ : ∀ (l : Nat) (v : Value), ([Value.int .i64 y1, Value.int .i64 y2] : List Value)[l]? = some v -> (u.alloc (Obj.cells #[Value.int .i64 y1, Value.int .i64 y2] 29)).cell? ((⟨u.heap.size, 0, none⟩ : Addr).add l) = some v := news2 u y1 y2 rfl
       obtain ⟨m6, c6, c5, v0, v1, -⟩ := hHeld
       clear HS C3 m0 m1 m2 m3 m4 m5 c0 c1 c2 c3 c4
       obtain ⟨wz, hwz⟩ : ∃ x, (u.alloc (Obj.cells #[Value.int .i64 y1, Value.int .i64 y2] 29)) = x := ⟨_, rfl⟩
       rw [hwz] at KZ0 NZ m6 c6 c5 v0 v1 ⊢
       clear hwz
       have VZ := own_belowE VJ KZ0
       have PZ := own_belowE PJ KZ0
       have TZ := B7.keep KZ0 TJ.lt TJ
       have RZ := B7.keep KZ0 RJ.lt RJ
       have DZ := B7.keep KZ0 DJ.lt DJ
       have KZ := KJ.trans (KZ0.mono KJ.size)
       have hzz := KZ0.size
       have lr1 := LR1.out
       have hwo1 := HWO.out
       go_wp2_with (at_builtin; refine wpList_append_own _ rfl _ _ 25 rfl (wo.heap.size + 1) 29 i0 (.agg #[.int .i64 0, .int .i64 0]) 2 16 Tryz.underlying25 hi hz0 hz1 hz2 rfl (by decide) _ _ _ rfl VZ ⟨u.heap.size, 0, none⟩ 1 1 [.int .i64 y1, .int .i64 y2] rfl rfl NZ (news1 y1 y2) (by unfold maxLen; omega) (by omega) (by omega) ?_; intro v8 w8 hown8 hgrow _; obtain ⟨qn, dn, rfl⟩ := own_slice hown8; have hrow := row_base VZ; have D8 := DZ.grown hgrow (fun e => by have := hrow _ e.symm; omega); have T8 := TZ.grown hgrow (fun e => by have := hrow _ e.symm; omega); have R8 := RZ.grown hgrow (fun e => by have := hrow _ e.symm; omega); have P8 := PZ.kept hgrow (own_apart PZ VZ); have V8 := Lib.hid hown8; have K8 := KZ.grown hgrow KZ.size (fun k e => by have := hrow _ e; omega); have hs8 := hgrow.size; obtain ⟨⟨m0, m1, m2, m3, m4, m5, m6⟩, ⟨g0, g1, g2, g3, g4, g5, g6⟩⟩ := id D8; have lD8 := D8.lt; clear hown8 hgrow)
       go_roundw
       case rel => exact ⟨j + 1, qn, dn, by simp, by omega, Lib.hid ⟨T8.far (by omega), R8.far (by omega), D8.set6, own_setP P8 HLP.out (Nat.le_refl _), own_set (by rw [HTK.out, flV_snoc]; exact V8.out) (by dsimp only; omega), K8.setCell (p := ⟨wo.heap.size, 6, none⟩) (by dsimp only; omega) _, by rw [World.size_setCell]; omega⟩⟩
       case measure => simp [intOf]; omega
    ·obtain rfl : j = m := by omega
     have gN3 : decide ((j : Int) < j) = false := by simp
     have lr1 := LR1.out
     have lr : w.heap.size + 1 < wh.heap.size := RJ.lt
     obtain ⟨⟨z0, z1, z2, z3, z4, z5, z6⟩, ⟨f0, f1, f2, f3, f4, f5, f6⟩⟩ := id RJ
     obtain ⟨⟨m0, m1, m2, m3, m4, m5, m6⟩, -⟩ := id DJ
     have hwo1 := HWO.out
     go_upto_region 29 with fail
     repeat go_step
     have SBB := (((((((KJ).setCell (p := ⟨w.heap.size + 1, 0, none⟩) (by dsimp only; omega) (.int .i64 K)).setCell (p := ⟨w.heap.size + 1, 1, none⟩) (by dsimp only; omega) (.int .i64 B)).setCell (p := ⟨w.heap.size + 1, 2, none⟩) (by dsimp only; omega) (.int .i64 F)).setCell (p := ⟨w.heap.size + 1, 3, none⟩) (by dsimp only; omega) (.int .i64 R)).setCell (p := ⟨w.heap.size + 1, 4, none⟩) (by dsimp only; omega) (.int .i64 O)).setCell (p := ⟨w.heap.size + 1, 5, none⟩) (by dsimp only; omega) (.slice pd i cd)).setCell (p := ⟨w.heap.size + 1, 6, none⟩) (by dsimp only; omega) (.slice qv j dv)
     have HV9 := VJ
     rw [List.take_of_length_le (by rw [HPVL.out]; exact Nat.le_refl _)] at HV9
     refine bodyPost_ret (v := .tuple #[Tn K B F R O pd i cd qv j dv, .int .i64 0]) (by simp [results, Tryz.results38, go_sem, z0, f0, z1, f1, z2, f2, z3, f3, z4, f4, z5, f5, z6, f6, lr, Tn]) rfl ?_
     refine Or.inl ⟨HGD.out, pd, cd, qv, dv, by rw [HPML.out, HPVL.out], ?_, ?_, SBB⟩
     ·rw [HPML.out]; exact own_base (own_set (own_set (own_set (own_set (own_set (own_set (own_set PJ (by dsimp only; omega)) (by dsimp only; omega)) (by dsimp only; omega)) (by dsimp only; omega)) (by dsimp only; omega)) (by dsimp only; omega)) (by dsimp only; omega)) (by omega)
     ·rw [HPVL.out]; exact own_base (own_set (own_set (own_set (own_set (own_set (own_set (own_set HV9 (by dsimp only; omega)) (by dsimp only; omega)) (by dsimp only; omega)) (by dsimp only; omega)) (by dsimp only; omega)) (by dsimp only; omega)) (by dsimp only; omega)) (by omega)
end Go.Proofs.YteaaikmejacpaaaGreatDoor.Te

namespace Go.Proofs.YteaaikmejacpaaaGreatDoor.Te
open Go.ChangeShapes Go.WideShapes Go.ChangeAt Go.RowKit
open Fx Va Sh
set_option maxRecDepth 8000
set_option linter.unusedVariables false
set_option linter.unusedSimpArgs false

set_option maxRecDepth 100000 in
set_option maxHeartbeats 4000000 in
theorem lp_a (K B F R O : Int) (p : Option Addr) (zs : List Int) (c : Nat) (q : Option Addr) (vs : List (Int × Int)) (d : Nat) (x : Option Addr) (os : List Int) (e : Nat) (ax fr tt : Int) (w : World) (b0 : -9223372036854775808 <= B) (b1 : B <= 9223372036854775807) (hn : zs.length <= maxLen) (hm : vs.length <= maxLen) (RA : Hid (SlI w p zs)) (RB : Hid (SlV w q vs)) (hx : os.length <= maxLen) (RX : Hid (SlI w x os)) (hc : zs.length <= c) (hc2 : c <= 9223372036854775807) (hd : vs.length <= d) (hd2 : d <= 9223372036854775807) (hLA : Tx.LA w) (hs : (decide ((vs.length : Int) <= 1000) && decide (zs.length <= 20)) = false) :
  Calls Tryz.prog 10 #[Tn K B F R O p zs.length c q vs.length d, .slice x os.length e, .int .i64 ax, .int .i64 fr, .int .i64 tt] w fun en w' => en = .returned (.bool true) /\ Below w.heap.size w w' := by
 have HLA := Lib.hid hLA
 have EX := Lib.hid fun u h => exam12 u h
 have SM0 := fun u => tsmall K B F R O p zs.length c q vs.length d 1000 u
 rw [hs] at SM0
 have SM := Lib.hid SM0
 obtain ⟨m, hmm⟩ : ∃ m, vs.length = m := ⟨_, rfl⟩
 rw [hmm] at SM ⊢
 clear hs SM0 hm hmm hd
 unfold Tn at *
 go_enter Tryz.func10, Tryz.ntmps10
 go_wp2_with (first | (go_at_call 14; (with_reducible refine (SM.out _).mono ?_); rintro e w1 ⟨rfl, hb⟩; have hW : Below w.heap.size w (w.alloc (Obj.cells #[Value.int .i64 K, Value.int .i64 B, Value.int .i64 F, Value.int .i64 R, Value.int .i64 O, Value.slice p zs.length c, Value.slice q m d] 27)) := (Below.refl _ _).alloc (Nat.le_refl _) (Obj.cells #[Value.int .i64 K, Value.int .i64 B, Value.int .i64 F, Value.int .i64 R, Value.int .i64 O, Value.slice p zs.length c, Value.slice q m d] 27); have hX := hW.trans (hb.mono hW.size); have c0 : w1.cell? ⟨w.heap.size, 0, none⟩ = some (.int .i64 K) := Rg.keep hb (by first | omega | (simp; omega) | (simp; done)) (by go_cell); have c1 : w1.cell? ⟨w.heap.size, 1, none⟩ = some (.int .i64 B) := Rg.keep hb (by first | omega | (simp; omega) | (simp; done)) (by go_cell); have c2 : w1.cell? ⟨w.heap.size, 2, none⟩ = some (.int .i64 F) := Rg.keep hb (by first | omega | (simp; omega) | (simp; done)) (by go_cell); have c3 : w1.cell? ⟨w.heap.size, 3, none⟩ = some (.int .i64 R) := Rg.keep hb (by first | omega | (simp; omega) | (simp; done)) (by go_cell); have c4 : w1.cell? ⟨w.heap.size, 4, none⟩ = some (.int .i64 O) := Rg.keep hb (by first | omega | (simp; omega) | (simp; done)) (by go_cell); have c5 : w1.cell? ⟨w.heap.size, 5, none⟩ = some (.slice p zs.length c) := Rg.keep hb (by first | omega | (simp; omega) | (simp; done)) (by go_cell); have c6 : w1.cell? ⟨w.heap.size, 6, none⟩ = some (.slice q m d) := Rg.keep hb (by first | omega | (simp; omega) | (simp; done)) (by go_cell); have lc : w.heap.size < w1.heap.size := World.block_lt_of_cell? _ _ c0; have KB := Lib.hid hX; clear hb hW hX) | (go_at_call 15; (with_reducible refine (EX.out _ (HLA.out.below KB.out)).mono ?_); rintro e wX ⟨rfl, hb⟩; have KX := Lib.hid (KB.out.trans (hb.mono KB.out.size)); clear hb))
 go_ret
 exact ⟨rfl, KX.out⟩

set_option maxRecDepth 100000 in
set_option maxHeartbeats 4000000 in
theorem lp_b (K B F R O : Int) (p : Option Addr) (zs : List Int) (c : Nat) (q : Option Addr) (vs : List (Int × Int)) (d : Nat) (x : Option Addr) (os : List Int) (e : Nat) (ax fr tt : Int) (w : World) (b0 : -9223372036854775808 <= B) (b1 : B <= 9223372036854775807) (hn : zs.length <= maxLen) (hm : vs.length <= maxLen) (RA : Hid (SlI w p zs)) (RB : Hid (SlV w q vs)) (hx : os.length <= maxLen) (RX : Hid (SlI w x os)) (hc : zs.length <= c) (hc2 : c <= 9223372036854775807) (hd : vs.length <= d) (hd2 : d <= 9223372036854775807) (hLA : Tx.LA w) (hs : (decide ((vs.length : Int) <= 1000) && decide (zs.length <= 20)) = true) (hl : 20 < os.length) :
  Calls Tryz.prog 10 #[Tn K B F R O p zs.length c q vs.length d, .slice x os.length e, .int .i64 ax, .int .i64 fr, .int .i64 tt] w fun en w' => en = .returned (.bool true) /\ Below w.heap.size w w' := by
 have HLA := Lib.hid hLA
 have EX := Lib.hid fun u h => exam12 u h
 have SM0 := fun u => tsmall K B F R O p zs.length c q vs.length d 1000 u
 rw [hs] at SM0
 have SM := Lib.hid SM0
 have g1 : decide ((20 : Int) < os.length) = true := by simp; omega
 have g2 : decide (20 < os.length) = true := by simpa using hl
 obtain ⟨m, hmm⟩ : ∃ m, vs.length = m := ⟨_, rfl⟩
 rw [hmm] at SM ⊢
 clear hs SM0 hm hmm hd hl
 unfold Tn at *
 go_enter Tryz.func10, Tryz.ntmps10
 go_wp2_with (first | (go_at_call 14; (with_reducible refine (SM.out _).mono ?_); rintro e w1 ⟨rfl, hb⟩; have hW : Below w.heap.size w (w.alloc (Obj.cells #[Value.int .i64 K, Value.int .i64 B, Value.int .i64 F, Value.int .i64 R, Value.int .i64 O, Value.slice p zs.length c, Value.slice q m d] 27)) := (Below.refl _ _).alloc (Nat.le_refl _) (Obj.cells #[Value.int .i64 K, Value.int .i64 B, Value.int .i64 F, Value.int .i64 R, Value.int .i64 O, Value.slice p zs.length c, Value.slice q m d] 27); have hX := hW.trans (hb.mono hW.size); have c0 : w1.cell? ⟨w.heap.size, 0, none⟩ = some (.int .i64 K) := Rg.keep hb (by first | omega | (simp; omega) | (simp; done)) (by go_cell); have c1 : w1.cell? ⟨w.heap.size, 1, none⟩ = some (.int .i64 B) := Rg.keep hb (by first | omega | (simp; omega) | (simp; done)) (by go_cell); have c2 : w1.cell? ⟨w.heap.size, 2, none⟩ = some (.int .i64 F) := Rg.keep hb (by first | omega | (simp; omega) | (simp; done)) (by go_cell); have c3 : w1.cell? ⟨w.heap.size, 3, none⟩ = some (.int .i64 R) := Rg.keep hb (by first | omega | (simp; omega) | (simp; done)) (by go_cell); have c4 : w1.cell? ⟨w.heap.size, 4, none⟩ = some (.int .i64 O) := Rg.keep hb (by first | omega | (simp; omega) | (simp; done)) (by go_cell); have c5 : w1.cell? ⟨w.heap.size, 5, none⟩ = some (.slice p zs.length c) := Rg.keep hb (by first | omega | (simp; omega) | (simp; done)) (by go_cell); have c6 : w1.cell? ⟨w.heap.size, 6, none⟩ = some (.slice q m d) := Rg.keep hb (by first | omega | (simp; omega) | (simp; done)) (by go_cell); have lc : w.heap.size < w1.heap.size := World.block_lt_of_cell? _ _ c0; have KB := Lib.hid hX; clear hb hW hX) | (go_at_call 15; (with_reducible refine (EX.out _ (HLA.out.below KB.out)).mono ?_); rintro e wX ⟨rfl, hb⟩; have KX := Lib.hid (KB.out.trans (hb.mono KB.out.size)); clear hb))
 go_ret
 exact ⟨rfl, KX.out⟩

set_option maxRecDepth 100000 in
set_option maxHeartbeats 4000000 in
theorem lp_go (K B F R O : Int) (p : Option Addr) (zs : List Int) (c : Nat) (q : Option Addr) (vs : List (Int × Int)) (d : Nat) (x : Option Addr) (os : List Int) (e : Nat) (ax fr tt : Int) (w : World) (b0 : -9223372036854775808 <= B) (b1 : B <= 9223372036854775807) (hn : zs.length <= maxLen) (hm : vs.length <= maxLen) (RA : Hid (SlI w p zs)) (RB : Hid (SlV w q vs)) (hx : os.length <= maxLen) (RX : Hid (SlI w x os)) (hc : zs.length <= c) (hc2 : c <= 9223372036854775807) (hd : vs.length <= d) (hd2 : d <= 9223372036854775807) (hLA : Tx.LA w) (hs : (decide ((vs.length : Int) <= 1000) && decide (zs.length <= 20)) = true) (hl : ¬ 20 < os.length) (Ka Ba Fa Ra Oa : Int) (zsa : List Int) (vsa : List (Int × Int)) (Ea : Int) (Kb Bb Fb Rb Ob : Int) (zsb : List Int) (vsb : List (Int × Int)) (Eb : Int) (hza : zsa.length <= maxLen) (hva : vsa.length <= maxLen) (hzb : zsb.length <= maxLen) (hvb : vsb.length <= maxLen) (CP0 : ∀ u, Hid (SlI u p zs) -> Hid (SlV u q vs) -> Hid (SlI u x os) -> Calls Tryz.prog 37 #[Tn K B F R O p zs.length c q vs.length d, .slice x os.length e] u (TS Ka Ba Fa Ra Oa zsa vsa Ea u)) (CQ0 : ∀ u, Hid (SlI u p zs) -> Hid (SlV u q vs) -> Hid (SlI u x os) -> Calls Tryz.prog 38 #[Tn K B F R O p zs.length c q vs.length d, .slice x os.length e] u (TS Ka Ba Fa Ra Oa zsa vsa Ea u)) (CS0 : ∀ u, Hid (SlI u p zs) -> Hid (SlV u q vs) -> Calls Tryz.prog 35 #[Tn K B F R O p zs.length c q vs.length d, .int .i64 ax, .int .i64 fr, .int .i64 tt] u (TS Kb Bb Fb Rb Ob zsb vsb Eb u)) (CR0 : ∀ u, Hid (SlI u p zs) -> Hid (SlV u q vs) -> Calls Tryz.prog 39 #[Tn K B F R O p zs.length c q vs.length d, .int .i64 ax, .int .i64 fr, .int .i64 tt] u (TS Kb Bb Fb Rb Ob zsb vsb Eb u)) :
  Calls Tryz.prog 10 #[Tn K B F R O p zs.length c q vs.length d, .slice x os.length e, .int .i64 ax, .int .i64 fr, .int .i64 tt] w fun en w' => en = .returned (.bool true) /\ Below w.heap.size w w' := by
 have HLA := Lib.hid hLA
 have EX := Lib.hid fun u h => exam12 u h
 have SM0 := fun u => tsmall K B F R O p zs.length c q vs.length d 1000 u
 rw [hs] at SM0
 have SM := Lib.hid SM0
 have g1 : decide ((20 : Int) < os.length) = false := by simp; omega
 have g2 : decide (20 < os.length) = false := by simpa using hl
 have BA0 := fun p4 p5 kc4 kc5 q4 q5 d4 d5 u h1 h2 h3 h4 => bten Ka Ba Fa Ra Oa p4 p5 zsa kc4 kc5 q4 q5 vsa d4 d5 u hza hva h1 h2 h3 h4
 have BB0 := fun p4 p5 kc4 kc5 q4 q5 d4 d5 u h1 h2 h3 h4 => bten Kb Bb Fb Rb Ob p4 p5 zsb kc4 kc5 q4 q5 vsb d4 d5 u hzb hvb h1 h2 h3 h4
 unfold TS at CP0 CQ0 CS0 CR0
 obtain ⟨na, hna⟩ : ∃ n, zsa.length = n := ⟨_, rfl⟩
 obtain ⟨ma, hma⟩ : ∃ n, vsa.length = n := ⟨_, rfl⟩
 obtain ⟨nb, hnb⟩ : ∃ n, zsb.length = n := ⟨_, rfl⟩
 obtain ⟨mb, hmb⟩ : ∃ n, vsb.length = n := ⟨_, rfl⟩
 obtain ⟨m, hmm⟩ : ∃ m, vs.length = m := ⟨_, rfl⟩
 rw [hmm] at SM CP0 CQ0 CS0 CR0 ⊢
 rw [hna, hma] at CP0 CQ0 BA0
 rw [hnb, hmb] at CS0 CR0 BB0
 unfold Tn at *
 have CP := Lib.hid CP0
 have CQ := Lib.hid CQ0
 have CS := Lib.hid CS0
 have CR := Lib.hid CR0
 have BA := Lib.hid BA0
 have BB := Lib.hid BB0
 clear hs SM0 hm hmm CP0 CQ0 CS0 CR0 BA0 BB0 hna hma hnb hmb hza hva hzb hvb hc hc2 hd hd2 hl
 go_enter Tryz.func10, Tryz.ntmps10
 go_wp2_with (first | (go_at_call 14; (with_reducible refine (SM.out _).mono ?_); rintro e w1 ⟨rfl, hb⟩; have hW : Below w.heap.size w (w.alloc (Obj.cells #[Value.int .i64 K, Value.int .i64 B, Value.int .i64 F, Value.int .i64 R, Value.int .i64 O, Value.slice p zs.length c, Value.slice q m d] 27)) := (Below.refl _ _).alloc (Nat.le_refl _) (Obj.cells #[Value.int .i64 K, Value.int .i64 B, Value.int .i64 F, Value.int .i64 R, Value.int .i64 O, Value.slice p zs.length c, Value.slice q m d] 27); have hX := hW.trans (hb.mono hW.size); have c0 : w1.cell? ⟨w.heap.size, 0, none⟩ = some (.int .i64 K) := Rg.keep hb (by first | omega | (simp; omega) | (simp; done)) (by go_cell); have c1 : w1.cell? ⟨w.heap.size, 1, none⟩ = some (.int .i64 B) := Rg.keep hb (by first | omega | (simp; omega) | (simp; done)) (by go_cell); have c2 : w1.cell? ⟨w.heap.size, 2, none⟩ = some (.int .i64 F) := Rg.keep hb (by first | omega | (simp; omega) | (simp; done)) (by go_cell); have c3 : w1.cell? ⟨w.heap.size, 3, none⟩ = some (.int .i64 R) := Rg.keep hb (by first | omega | (simp; omega) | (simp; done)) (by go_cell); have c4 : w1.cell? ⟨w.heap.size, 4, none⟩ = some (.int .i64 O) := Rg.keep hb (by first | omega | (simp; omega) | (simp; done)) (by go_cell); have c5 : w1.cell? ⟨w.heap.size, 5, none⟩ = some (.slice p zs.length c) := Rg.keep hb (by first | omega | (simp; omega) | (simp; done)) (by go_cell); have c6 : w1.cell? ⟨w.heap.size, 6, none⟩ = some (.slice q m d) := Rg.keep hb (by first | omega | (simp; omega) | (simp; done)) (by go_cell); have lc : w.heap.size < w1.heap.size := World.block_lt_of_cell? _ _ c0; have KB := Lib.hid hX; clear hb hW hX) | (go_at_call 37; (with_reducible refine (CP.out _ (Lib.hid (SlI.keep KB.out RA.out)) (Lib.hid (SlV.below RB.out KB.out)) (Lib.hid (SlI.keep KB.out RX.out))).mono ?_); rintro e w4 ⟨p4, kc4, q4, d4, rfl, hsi, hsv, hb⟩; have hW : Below w1.heap.size w1 w1 := Below.refl _ _; have hX := hW.trans (hb.mono hW.size); have c0 : w4.cell? ⟨w.heap.size, 0, none⟩ = some (.int .i64 K) := Rg.keep hb (by first | omega | (simp; omega) | (simp; done)) (by go_cell); have c1 : w4.cell? ⟨w.heap.size, 1, none⟩ = some (.int .i64 B) := Rg.keep hb (by first | omega | (simp; omega) | (simp; done)) (by go_cell); have c2 : w4.cell? ⟨w.heap.size, 2, none⟩ = some (.int .i64 F) := Rg.keep hb (by first | omega | (simp; omega) | (simp; done)) (by go_cell); have c3 : w4.cell? ⟨w.heap.size, 3, none⟩ = some (.int .i64 R) := Rg.keep hb (by first | omega | (simp; omega) | (simp; done)) (by go_cell); have c4 : w4.cell? ⟨w.heap.size, 4, none⟩ = some (.int .i64 O) := Rg.keep hb (by first | omega | (simp; omega) | (simp; done)) (by go_cell); have c5 : w4.cell? ⟨w.heap.size, 5, none⟩ = some (.slice p zs.length c) := Rg.keep hb (by first | omega | (simp; omega) | (simp; done)) (by go_cell); have c6 : w4.cell? ⟨w.heap.size, 6, none⟩ = some (.slice q m d) := Rg.keep hb (by first | omega | (simp; omega) | (simp; done)) (by go_cell); have lc : w.heap.size < w4.heap.size := World.block_lt_of_cell? _ _ c0; replace KB := Lib.hid (KB.out.trans (hX.mono KB.out.size)); have SI4 := Lib.hid hsi; have SV4 := Lib.hid hsv; have K4 := Lib.hid (Below.refl w4.heap.size w4); clear hb hW hX hsi hsv) | (go_at_call 38; (with_reducible refine (CQ.out _ (Lib.hid (SlI.keep (KB.out.alloc KB.out.size (Obj.cells #[Value.int .i64 Ka, Value.int .i64 Ba, Value.int .i64 Fa, Value.int .i64 Ra, Value.int .i64 Oa, Value.slice p4 na kc4, Value.slice q4 ma d4] 27)) RA.out)) (Lib.hid (SlV.below RB.out (KB.out.alloc KB.out.size (Obj.cells #[Value.int .i64 Ka, Value.int .i64 Ba, Value.int .i64 Fa, Value.int .i64 Ra, Value.int .i64 Oa, Value.slice p4 na kc4, Value.slice q4 ma d4] 27)))) (Lib.hid (SlI.keep (KB.out.alloc KB.out.size (Obj.cells #[Value.int .i64 Ka, Value.int .i64 Ba, Value.int .i64 Fa, Value.int .i64 Ra, Value.int .i64 Oa, Value.slice p4 na kc4, Value.slice q4 ma d4] 27)) RX.out))).mono ?_); rintro e w5 ⟨p5, kc5, q5, d5, rfl, hsi, hsv, hb⟩; have hW : Below w4.heap.size w4 (w4.alloc (Obj.cells #[Value.int .i64 Ka, Value.int .i64 Ba, Value.int .i64 Fa, Value.int .i64 Ra, Value.int .i64 Oa, Value.slice p4 na kc4, Value.slice q4 ma d4] 27)) := (Below.refl _ _).alloc (Nat.le_refl _) (Obj.cells #[Value.int .i64 Ka, Value.int .i64 Ba, Value.int .i64 Fa, Value.int .i64 Ra, Value.int .i64 Oa, Value.slice p4 na kc4, Value.slice q4 ma d4] 27); have hX := hW.trans (hb.mono hW.size); have c0 : w5.cell? ⟨w.heap.size, 0, none⟩ = some (.int .i64 K) := Rg.keep hb (by first | omega | (simp; omega) | (simp; done)) (by go_cell); have c1 : w5.cell? ⟨w.heap.size, 1, none⟩ = some (.int .i64 B) := Rg.keep hb (by first | omega | (simp; omega) | (simp; done)) (by go_cell); have c2 : w5.cell? ⟨w.heap.size, 2, none⟩ = some (.int .i64 F) := Rg.keep hb (by first | omega | (simp; omega) | (simp; done)) (by go_cell); have c3 : w5.cell? ⟨w.heap.size, 3, none⟩ = some (.int .i64 R) := Rg.keep hb (by first | omega | (simp; omega) | (simp; done)) (by go_cell); have c4 : w5.cell? ⟨w.heap.size, 4, none⟩ = some (.int .i64 O) := Rg.keep hb (by first | omega | (simp; omega) | (simp; done)) (by go_cell); have c5 : w5.cell? ⟨w.heap.size, 5, none⟩ = some (.slice p zs.length c) := Rg.keep hb (by first | omega | (simp; omega) | (simp; done)) (by go_cell); have c6 : w5.cell? ⟨w.heap.size, 6, none⟩ = some (.slice q m d) := Rg.keep hb (by first | omega | (simp; omega) | (simp; done)) (by go_cell); have lc : w.heap.size < w5.heap.size := World.block_lt_of_cell? _ _ c0; have e0 : w5.cell? ⟨w4.heap.size, 0, none⟩ = some (.int .i64 Ka) := Rg.keep hb (by first | omega | (simp; omega) | (simp; done)) (by go_cell); have e1 : w5.cell? ⟨w4.heap.size, 1, none⟩ = some (.int .i64 Ba) := Rg.keep hb (by first | omega | (simp; omega) | (simp; done)) (by go_cell); have e2 : w5.cell? ⟨w4.heap.size, 2, none⟩ = some (.int .i64 Fa) := Rg.keep hb (by first | omega | (simp; omega) | (simp; done)) (by go_cell); have e3 : w5.cell? ⟨w4.heap.size, 3, none⟩ = some (.int .i64 Ra) := Rg.keep hb (by first | omega | (simp; omega) | (simp; done)) (by go_cell); have e4 : w5.cell? ⟨w4.heap.size, 4, none⟩ = some (.int .i64 Oa) := Rg.keep hb (by first | omega | (simp; omega) | (simp; done)) (by go_cell); have e5 : w5.cell? ⟨w4.heap.size, 5, none⟩ = some (.slice p4 na kc4) := Rg.keep hb (by first | omega | (simp; omega) | (simp; done)) (by go_cell); have e6 : w5.cell? ⟨w4.heap.size, 6, none⟩ = some (.slice q4 ma d4) := Rg.keep hb (by first | omega | (simp; omega) | (simp; done)) (by go_cell); have le : w4.heap.size < w5.heap.size := World.block_lt_of_cell? _ _ e0; replace KB := Lib.hid (KB.out.trans (hX.mono KB.out.size)); replace K4 := Lib.hid (K4.out.trans (hX.mono K4.out.size)); have SI5 := Lib.hid hsi; have SV5 := Lib.hid hsv; have K5 := Lib.hid (Below.refl w5.heap.size w5); clear hb hW hX hsi hsv) | (go_at_call 35; (with_reducible refine (CS.out _ (Lib.hid (SlI.keep (KB.out.alloc KB.out.size (Obj.cells #[Value.int .i64 Ka, Value.int .i64 Ba, Value.int .i64 Fa, Value.int .i64 Ra, Value.int .i64 Oa, Value.slice p5 na kc5, Value.slice q5 ma d5] 27)) RA.out)) (Lib.hid (SlV.below RB.out (KB.out.alloc KB.out.size (Obj.cells #[Value.int .i64 Ka, Value.int .i64 Ba, Value.int .i64 Fa, Value.int .i64 Ra, Value.int .i64 Oa, Value.slice p5 na kc5, Value.slice q5 ma d5] 27))))).mono ?_); rintro e w6 ⟨p6, kc6, q6, d6, rfl, hsi, hsv, hb⟩; have hW : Below w5.heap.size w5 (w5.alloc (Obj.cells #[Value.int .i64 Ka, Value.int .i64 Ba, Value.int .i64 Fa, Value.int .i64 Ra, Value.int .i64 Oa, Value.slice p5 na kc5, Value.slice q5 ma d5] 27)) := (Below.refl _ _).alloc (Nat.le_refl _) (Obj.cells #[Value.int .i64 Ka, Value.int .i64 Ba, Value.int .i64 Fa, Value.int .i64 Ra, Value.int .i64 Oa, Value.slice p5 na kc5, Value.slice q5 ma d5] 27); have hX := hW.trans (hb.mono hW.size); have c0 : w6.cell? ⟨w.heap.size, 0, none⟩ = some (.int .i64 K) := Rg.keep hb (by first | omega | (simp; omega) | (simp; done)) (by go_cell); have c1 : w6.cell? ⟨w.heap.size, 1, none⟩ = some (.int .i64 B) := Rg.keep hb (by first | omega | (simp; omega) | (simp; done)) (by go_cell); have c2 : w6.cell? ⟨w.heap.size, 2, none⟩ = some (.int .i64 F) := Rg.keep hb (by first | omega | (simp; omega) | (simp; done)) (by go_cell); have c3 : w6.cell? ⟨w.heap.size, 3, none⟩ = some (.int .i64 R) := Rg.keep hb (by first | omega | (simp; omega) | (simp; done)) (by go_cell); have c4 : w6.cell? ⟨w.heap.size, 4, none⟩ = some (.int .i64 O) := Rg.keep hb (by first | omega | (simp; omega) | (simp; done)) (by go_cell); have c5 : w6.cell? ⟨w.heap.size, 5, none⟩ = some (.slice p zs.length c) := Rg.keep hb (by first | omega | (simp; omega) | (simp; done)) (by go_cell); have c6 : w6.cell? ⟨w.heap.size, 6, none⟩ = some (.slice q m d) := Rg.keep hb (by first | omega | (simp; omega) | (simp; done)) (by go_cell); have lc : w.heap.size < w6.heap.size := World.block_lt_of_cell? _ _ c0; have e0 : w6.cell? ⟨w4.heap.size, 0, none⟩ = some (.int .i64 Ka) := Rg.keep hb (by first | omega | (simp; omega) | (simp; done)) (by go_cell); have e1 : w6.cell? ⟨w4.heap.size, 1, none⟩ = some (.int .i64 Ba) := Rg.keep hb (by first | omega | (simp; omega) | (simp; done)) (by go_cell); have e2 : w6.cell? ⟨w4.heap.size, 2, none⟩ = some (.int .i64 Fa) := Rg.keep hb (by first | omega | (simp; omega) | (simp; done)) (by go_cell); have e3 : w6.cell? ⟨w4.heap.size, 3, none⟩ = some (.int .i64 Ra) := Rg.keep hb (by first | omega | (simp; omega) | (simp; done)) (by go_cell); have e4 : w6.cell? ⟨w4.heap.size, 4, none⟩ = some (.int .i64 Oa) := Rg.keep hb (by first | omega | (simp; omega) | (simp; done)) (by go_cell); have e5 : w6.cell? ⟨w4.heap.size, 5, none⟩ = some (.slice p4 na kc4) := Rg.keep hb (by first | omega | (simp; omega) | (simp; done)) (by go_cell); have e6 : w6.cell? ⟨w4.heap.size, 6, none⟩ = some (.slice q4 ma d4) := Rg.keep hb (by first | omega | (simp; omega) | (simp; done)) (by go_cell); have le : w4.heap.size < w6.heap.size := World.block_lt_of_cell? _ _ e0; have g0 : w6.cell? ⟨w5.heap.size, 0, none⟩ = some (.int .i64 Ka) := Rg.keep hb (by first | omega | (simp; omega) | (simp; done)) (by go_cell); have g1 : w6.cell? ⟨w5.heap.size, 1, none⟩ = some (.int .i64 Ba) := Rg.keep hb (by first | omega | (simp; omega) | (simp; done)) (by go_cell); have g2 : w6.cell? ⟨w5.heap.size, 2, none⟩ = some (.int .i64 Fa) := Rg.keep hb (by first | omega | (simp; omega) | (simp; done)) (by go_cell); have g3 : w6.cell? ⟨w5.heap.size, 3, none⟩ = some (.int .i64 Ra) := Rg.keep hb (by first | omega | (simp; omega) | (simp; done)) (by go_cell); have g4 : w6.cell? ⟨w5.heap.size, 4, none⟩ = some (.int .i64 Oa) := Rg.keep hb (by first | omega | (simp; omega) | (simp; done)) (by go_cell); have g5 : w6.cell? ⟨w5.heap.size, 5, none⟩ = some (.slice p5 na kc5) := Rg.keep hb (by first | omega | (simp; omega) | (simp; done)) (by go_cell); have g6 : w6.cell? ⟨w5.heap.size, 6, none⟩ = some (.slice q5 ma d5) := Rg.keep hb (by first | omega | (simp; omega) | (simp; done)) (by go_cell); have lg : w5.heap.size < w6.heap.size := World.block_lt_of_cell? _ _ g0; replace KB := Lib.hid (KB.out.trans (hX.mono KB.out.size)); replace K4 := Lib.hid (K4.out.trans (hX.mono K4.out.size)); replace K5 := Lib.hid (K5.out.trans (hX.mono K5.out.size)); have SI6 := Lib.hid hsi; have SV6 := Lib.hid hsv; have K6 := Lib.hid (Below.refl w6.heap.size w6); clear hb hW hX hsi hsv) | (go_at_call 39; (with_reducible refine (CR.out _ (Lib.hid (SlI.keep (KB.out.alloc KB.out.size (Obj.cells #[Value.int .i64 Kb, Value.int .i64 Bb, Value.int .i64 Fb, Value.int .i64 Rb, Value.int .i64 Ob, Value.slice p6 nb kc6, Value.slice q6 mb d6] 27)) RA.out)) (Lib.hid (SlV.below RB.out (KB.out.alloc KB.out.size (Obj.cells #[Value.int .i64 Kb, Value.int .i64 Bb, Value.int .i64 Fb, Value.int .i64 Rb, Value.int .i64 Ob, Value.slice p6 nb kc6, Value.slice q6 mb d6] 27))))).mono ?_); rintro e w7 ⟨p7, kc7, q7, d7, rfl, hsi, hsv, hb⟩; have hW : Below w6.heap.size w6 (w6.alloc (Obj.cells #[Value.int .i64 Kb, Value.int .i64 Bb, Value.int .i64 Fb, Value.int .i64 Rb, Value.int .i64 Ob, Value.slice p6 nb kc6, Value.slice q6 mb d6] 27)) := (Below.refl _ _).alloc (Nat.le_refl _) (Obj.cells #[Value.int .i64 Kb, Value.int .i64 Bb, Value.int .i64 Fb, Value.int .i64 Rb, Value.int .i64 Ob, Value.slice p6 nb kc6, Value.slice q6 mb d6] 27); have hX := hW.trans (hb.mono hW.size); have c0 : w7.cell? ⟨w.heap.size, 0, none⟩ = some (.int .i64 K) := Rg.keep hb (by first | omega | (simp; omega) | (simp; done)) (by go_cell); have c1 : w7.cell? ⟨w.heap.size, 1, none⟩ = some (.int .i64 B) := Rg.keep hb (by first | omega | (simp; omega) | (simp; done)) (by go_cell); have c2 : w7.cell? ⟨w.heap.size, 2, none⟩ = some (.int .i64 F) := Rg.keep hb (by first | omega | (simp; omega) | (simp; done)) (by go_cell); have c3 : w7.cell? ⟨w.heap.size, 3, none⟩ = some (.int .i64 R) := Rg.keep hb (by first | omega | (simp; omega) | (simp; done)) (by go_cell); have c4 : w7.cell? ⟨w.heap.size, 4, none⟩ = some (.int .i64 O) := Rg.keep hb (by first | omega | (simp; omega) | (simp; done)) (by go_cell); have c5 : w7.cell? ⟨w.heap.size, 5, none⟩ = some (.slice p zs.length c) := Rg.keep hb (by first | omega | (simp; omega) | (simp; done)) (by go_cell); have c6 : w7.cell? ⟨w.heap.size, 6, none⟩ = some (.slice q m d) := Rg.keep hb (by first | omega | (simp; omega) | (simp; done)) (by go_cell); have lc : w.heap.size < w7.heap.size := World.block_lt_of_cell? _ _ c0; have e0 : w7.cell? ⟨w4.heap.size, 0, none⟩ = some (.int .i64 Ka) := Rg.keep hb (by first | omega | (simp; omega) | (simp; done)) (by go_cell); have e1 : w7.cell? ⟨w4.heap.size, 1, none⟩ = some (.int .i64 Ba) := Rg.keep hb (by first | omega | (simp; omega) | (simp; done)) (by go_cell); have e2 : w7.cell? ⟨w4.heap.size, 2, none⟩ = some (.int .i64 Fa) := Rg.keep hb (by first | omega | (simp; omega) | (simp; done)) (by go_cell); have e3 : w7.cell? ⟨w4.heap.size, 3, none⟩ = some (.int .i64 Ra) := Rg.keep hb (by first | omega | (simp; omega) | (simp; done)) (by go_cell); have e4 : w7.cell? ⟨w4.heap.size, 4, none⟩ = some (.int .i64 Oa) := Rg.keep hb (by first | omega | (simp; omega) | (simp; done)) (by go_cell); have e5 : w7.cell? ⟨w4.heap.size, 5, none⟩ = some (.slice p4 na kc4) := Rg.keep hb (by first | omega | (simp; omega) | (simp; done)) (by go_cell); have e6 : w7.cell? ⟨w4.heap.size, 6, none⟩ = some (.slice q4 ma d4) := Rg.keep hb (by first | omega | (simp; omega) | (simp; done)) (by go_cell); have le : w4.heap.size < w7.heap.size := World.block_lt_of_cell? _ _ e0; have g0 : w7.cell? ⟨w5.heap.size, 0, none⟩ = some (.int .i64 Ka) := Rg.keep hb (by first | omega | (simp; omega) | (simp; done)) (by go_cell); have g1 : w7.cell? ⟨w5.heap.size, 1, none⟩ = some (.int .i64 Ba) := Rg.keep hb (by first | omega | (simp; omega) | (simp; done)) (by go_cell); have g2 : w7.cell? ⟨w5.heap.size, 2, none⟩ = some (.int .i64 Fa) := Rg.keep hb (by first | omega | (simp; omega) | (simp; done)) (by go_cell); have g3 : w7.cell? ⟨w5.heap.size, 3, none⟩ = some (.int .i64 Ra) := Rg.keep hb (by first | omega | (simp; omega) | (simp; done)) (by go_cell); have g4 : w7.cell? ⟨w5.heap.size, 4, none⟩ = some (.int .i64 Oa) := Rg.keep hb (by first | omega | (simp; omega) | (simp; done)) (by go_cell); have g5 : w7.cell? ⟨w5.heap.size, 5, none⟩ = some (.slice p5 na kc5) := Rg.keep hb (by first | omega | (simp; omega) | (simp; done)) (by go_cell); have g6 : w7.cell? ⟨w5.heap.size, 6, none⟩ = some (.slice q5 ma d5) := Rg.keep hb (by first | omega | (simp; omega) | (simp; done)) (by go_cell); have lg : w5.heap.size < w7.heap.size := World.block_lt_of_cell? _ _ g0; have h0 : w7.cell? ⟨w6.heap.size, 0, none⟩ = some (.int .i64 Kb) := Rg.keep hb (by first | omega | (simp; omega) | (simp; done)) (by go_cell); have h1 : w7.cell? ⟨w6.heap.size, 1, none⟩ = some (.int .i64 Bb) := Rg.keep hb (by first | omega | (simp; omega) | (simp; done)) (by go_cell); have h2 : w7.cell? ⟨w6.heap.size, 2, none⟩ = some (.int .i64 Fb) := Rg.keep hb (by first | omega | (simp; omega) | (simp; done)) (by go_cell); have h3 : w7.cell? ⟨w6.heap.size, 3, none⟩ = some (.int .i64 Rb) := Rg.keep hb (by first | omega | (simp; omega) | (simp; done)) (by go_cell); have h4 : w7.cell? ⟨w6.heap.size, 4, none⟩ = some (.int .i64 Ob) := Rg.keep hb (by first | omega | (simp; omega) | (simp; done)) (by go_cell); have h5 : w7.cell? ⟨w6.heap.size, 5, none⟩ = some (.slice p6 nb kc6) := Rg.keep hb (by first | omega | (simp; omega) | (simp; done)) (by go_cell); have h6 : w7.cell? ⟨w6.heap.size, 6, none⟩ = some (.slice q6 mb d6) := Rg.keep hb (by first | omega | (simp; omega) | (simp; done)) (by go_cell); have lh : w6.heap.size < w7.heap.size := World.block_lt_of_cell? _ _ h0; replace KB := Lib.hid (KB.out.trans (hX.mono KB.out.size)); replace K4 := Lib.hid (K4.out.trans (hX.mono K4.out.size)); replace K5 := Lib.hid (K5.out.trans (hX.mono K5.out.size)); replace K6 := Lib.hid (K6.out.trans (hX.mono K6.out.size)); have SI7 := Lib.hid hsi; have SV7 := Lib.hid hsv; have K7 := Lib.hid (Below.refl w7.heap.size w7); clear hb hW hX hsi hsv) | (go_at_call 22; (with_reducible refine (BA.out p4 p5 kc4 kc5 q4 q5 d4 d5 _ (Lib.hid (SlI.keep (K4.out.alloc K4.out.size (Obj.cells #[Value.int .i64 Kb, Value.int .i64 Bb, Value.int .i64 Fb, Value.int .i64 Rb, Value.int .i64 Ob, Value.slice p7 nb kc7, Value.slice q7 mb d7] 27)) SI4.out)) (Lib.hid (SlV.below SV4.out (K4.out.alloc K4.out.size (Obj.cells #[Value.int .i64 Kb, Value.int .i64 Bb, Value.int .i64 Fb, Value.int .i64 Rb, Value.int .i64 Ob, Value.slice p7 nb kc7, Value.slice q7 mb d7] 27)))) (Lib.hid (SlI.keep (K5.out.alloc K5.out.size (Obj.cells #[Value.int .i64 Kb, Value.int .i64 Bb, Value.int .i64 Fb, Value.int .i64 Rb, Value.int .i64 Ob, Value.slice p7 nb kc7, Value.slice q7 mb d7] 27)) SI5.out)) (Lib.hid (SlV.below SV5.out (K5.out.alloc K5.out.size (Obj.cells #[Value.int .i64 Kb, Value.int .i64 Bb, Value.int .i64 Fb, Value.int .i64 Rb, Value.int .i64 Ob, Value.slice p7 nb kc7, Value.slice q7 mb d7] 27))))).mono ?_); rintro e w8 ⟨rfl, hb⟩; have hW : Below w7.heap.size w7 (w7.alloc (Obj.cells #[Value.int .i64 Kb, Value.int .i64 Bb, Value.int .i64 Fb, Value.int .i64 Rb, Value.int .i64 Ob, Value.slice p7 nb kc7, Value.slice q7 mb d7] 27)) := (Below.refl _ _).alloc (Nat.le_refl _) (Obj.cells #[Value.int .i64 Kb, Value.int .i64 Bb, Value.int .i64 Fb, Value.int .i64 Rb, Value.int .i64 Ob, Value.slice p7 nb kc7, Value.slice q7 mb d7] 27); have hX := hW.trans (hb.mono hW.size); have c0 : w8.cell? ⟨w.heap.size, 0, none⟩ = some (.int .i64 K) := Rg.keep hb (by first | omega | (simp; omega) | (simp; done)) (by go_cell); have c1 : w8.cell? ⟨w.heap.size, 1, none⟩ = some (.int .i64 B) := Rg.keep hb (by first | omega | (simp; omega) | (simp; done)) (by go_cell); have c2 : w8.cell? ⟨w.heap.size, 2, none⟩ = some (.int .i64 F) := Rg.keep hb (by first | omega | (simp; omega) | (simp; done)) (by go_cell); have c3 : w8.cell? ⟨w.heap.size, 3, none⟩ = some (.int .i64 R) := Rg.keep hb (by first | omega | (simp; omega) | (simp; done)) (by go_cell); have c4 : w8.cell? ⟨w.heap.size, 4, none⟩ = some (.int .i64 O) := Rg.keep hb (by first | omega | (simp; omega) | (simp; done)) (by go_cell); have c5 : w8.cell? ⟨w.heap.size, 5, none⟩ = some (.slice p zs.length c) := Rg.keep hb (by first | omega | (simp; omega) | (simp; done)) (by go_cell); have c6 : w8.cell? ⟨w.heap.size, 6, none⟩ = some (.slice q m d) := Rg.keep hb (by first | omega | (simp; omega) | (simp; done)) (by go_cell); have lc : w.heap.size < w8.heap.size := World.block_lt_of_cell? _ _ c0; have h0 : w8.cell? ⟨w6.heap.size, 0, none⟩ = some (.int .i64 Kb) := Rg.keep hb (by first | omega | (simp; omega) | (simp; done)) (by go_cell); have h1 : w8.cell? ⟨w6.heap.size, 1, none⟩ = some (.int .i64 Bb) := Rg.keep hb (by first | omega | (simp; omega) | (simp; done)) (by go_cell); have h2 : w8.cell? ⟨w6.heap.size, 2, none⟩ = some (.int .i64 Fb) := Rg.keep hb (by first | omega | (simp; omega) | (simp; done)) (by go_cell); have h3 : w8.cell? ⟨w6.heap.size, 3, none⟩ = some (.int .i64 Rb) := Rg.keep hb (by first | omega | (simp; omega) | (simp; done)) (by go_cell); have h4 : w8.cell? ⟨w6.heap.size, 4, none⟩ = some (.int .i64 Ob) := Rg.keep hb (by first | omega | (simp; omega) | (simp; done)) (by go_cell); have h5 : w8.cell? ⟨w6.heap.size, 5, none⟩ = some (.slice p6 nb kc6) := Rg.keep hb (by first | omega | (simp; omega) | (simp; done)) (by go_cell); have h6 : w8.cell? ⟨w6.heap.size, 6, none⟩ = some (.slice q6 mb d6) := Rg.keep hb (by first | omega | (simp; omega) | (simp; done)) (by go_cell); have lh : w6.heap.size < w8.heap.size := World.block_lt_of_cell? _ _ h0; have j0 : w8.cell? ⟨w7.heap.size, 0, none⟩ = some (.int .i64 Kb) := Rg.keep hb (by first | omega | (simp; omega) | (simp; done)) (by go_cell); have j1 : w8.cell? ⟨w7.heap.size, 1, none⟩ = some (.int .i64 Bb) := Rg.keep hb (by first | omega | (simp; omega) | (simp; done)) (by go_cell); have j2 : w8.cell? ⟨w7.heap.size, 2, none⟩ = some (.int .i64 Fb) := Rg.keep hb (by first | omega | (simp; omega) | (simp; done)) (by go_cell); have j3 : w8.cell? ⟨w7.heap.size, 3, none⟩ = some (.int .i64 Rb) := Rg.keep hb (by first | omega | (simp; omega) | (simp; done)) (by go_cell); have j4 : w8.cell? ⟨w7.heap.size, 4, none⟩ = some (.int .i64 Ob) := Rg.keep hb (by first | omega | (simp; omega) | (simp; done)) (by go_cell); have j5 : w8.cell? ⟨w7.heap.size, 5, none⟩ = some (.slice p7 nb kc7) := Rg.keep hb (by first | omega | (simp; omega) | (simp; done)) (by go_cell); have j6 : w8.cell? ⟨w7.heap.size, 6, none⟩ = some (.slice q7 mb d7) := Rg.keep hb (by first | omega | (simp; omega) | (simp; done)) (by go_cell); have lj : w7.heap.size < w8.heap.size := World.block_lt_of_cell? _ _ j0; replace KB := Lib.hid (KB.out.trans (hX.mono KB.out.size)); replace K6 := Lib.hid (K6.out.trans (hX.mono K6.out.size)); replace K7 := Lib.hid (K7.out.trans (hX.mono K7.out.size)); clear hb hW hX) | (go_at_call 22; (with_reducible refine (BB.out p6 p7 kc6 kc7 q6 q7 d6 d7 _ (Lib.hid (SlI.keep K6.out SI6.out)) (Lib.hid (SlV.below SV6.out K6.out)) (Lib.hid (SlI.keep K7.out SI7.out)) (Lib.hid (SlV.below SV7.out K7.out))).mono ?_); rintro e w9 ⟨rfl, hb⟩; have hW : Below w8.heap.size w8 w8 := Below.refl _ _; have hX := hW.trans (hb.mono hW.size); have c0 : w9.cell? ⟨w.heap.size, 0, none⟩ = some (.int .i64 K) := Rg.keep hb (by first | omega | (simp; omega) | (simp; done)) (by go_cell); have c1 : w9.cell? ⟨w.heap.size, 1, none⟩ = some (.int .i64 B) := Rg.keep hb (by first | omega | (simp; omega) | (simp; done)) (by go_cell); have c2 : w9.cell? ⟨w.heap.size, 2, none⟩ = some (.int .i64 F) := Rg.keep hb (by first | omega | (simp; omega) | (simp; done)) (by go_cell); have c3 : w9.cell? ⟨w.heap.size, 3, none⟩ = some (.int .i64 R) := Rg.keep hb (by first | omega | (simp; omega) | (simp; done)) (by go_cell); have c4 : w9.cell? ⟨w.heap.size, 4, none⟩ = some (.int .i64 O) := Rg.keep hb (by first | omega | (simp; omega) | (simp; done)) (by go_cell); have c5 : w9.cell? ⟨w.heap.size, 5, none⟩ = some (.slice p zs.length c) := Rg.keep hb (by first | omega | (simp; omega) | (simp; done)) (by go_cell); have c6 : w9.cell? ⟨w.heap.size, 6, none⟩ = some (.slice q m d) := Rg.keep hb (by first | omega | (simp; omega) | (simp; done)) (by go_cell); have lc : w.heap.size < w9.heap.size := World.block_lt_of_cell? _ _ c0; replace KB := Lib.hid (KB.out.trans (hX.mono KB.out.size)); clear hb hW hX) | (go_at_call 15; (with_reducible refine (EX.out _ (HLA.out.below KB.out)).mono ?_); rintro e wX ⟨rfl, hb⟩; have KX := Lib.hid (KB.out.trans (hb.mono KB.out.size)); clear hb))
 go_ret
 exact ⟨rfl, KX.out⟩

/-- Both Permutes give the same answer. -/
theorem both_pm (K B F R O : Int) (p : Option Addr) (zs : List Int) (c : Nat) (q : Option Addr) (vs : List (Int × Int)) (d : Nat) (x : Option Addr) (os : List Int) (e : Nat) (b0 : -9223372036854775808 <= B) (b1 : B <= 9223372036854775807) (hn : zs.length <= maxLen) (hm : vs.length <= maxLen) (hx : os.length <= maxLen) : ∃ (Ka Ba Fa Ra Oa : Int) (zsa : List Int) (vsa : List (Int × Int)) (Ea : Int), zsa.length <= maxLen /\ vsa.length <= maxLen /\ (∀ u, Hid (SlI u p zs) -> Hid (SlV u q vs) -> Hid (SlI u x os) -> Calls Tryz.prog 37 #[Tn K B F R O p zs.length c q vs.length d, .slice x os.length e] u (TS Ka Ba Fa Ra Oa zsa vsa Ea u)) /\ (∀ u, Hid (SlI u p zs) -> Hid (SlV u q vs) -> Hid (SlI u x os) -> Calls Tryz.prog 38 #[Tn K B F R O p zs.length c q vs.length d, .slice x os.length e] u (TS Ka Ba Fa Ra Oa zsa vsa Ea u)) := by
 by_cases ht : tE K B F R O zs vs = 0
 ·obtain ⟨-, hv, -, -⟩ := tE_ok ht
  by_cases hl : os.length = zs.length
  ·by_cases hg : gd zs.length os zs.length
   ·have he : pmE zs os = 0 := by unfold pmE; rw [if_neg (by rw [hv]; decide), if_pos ⟨hl, hg⟩]
    refine ⟨K, B, F, R, O, pm zs os, pmV zs os vs, 0, by rw [pm_length]; exact hx, by rw [pmV_length]; exact hm, fun u h1 h2 h3 => (pm_c K B F R O p zs c q vs d x os e u b0 b1 hn hm h1 h2 hx h3 ht he).mono fun _ _ h => h.ts, fun u h1 h2 h3 => (rp_c K B F R O p zs c q vs d x os e u b0 b1 hn hm h1 h2 hx h3 ht hl).mono fun _ _ h => ?_⟩
    rcases h with ⟨_, h⟩ | ⟨h, _⟩
    ·exact h.ts
    ·exact absurd hg h
   ·have he : pmE zs os = 1 := by unfold pmE; rw [if_neg (by rw [hv]; decide), if_neg (fun h => hg h.2)]
    refine ⟨0, 0, 0, 0, 0, [], [], 1, Nat.zero_le _, Nat.zero_le _, fun u h1 h2 h3 => ?_, fun u h1 h2 h3 => (rp_c K B F R O p zs c q vs d x os e u b0 b1 hn hm h1 h2 hx h3 ht hl).mono fun _ _ h => ?_⟩
    ·have h := pm_b K B F R O p zs c q vs d x os e u b0 b1 hn hm h1 h2 hx h3 ht (by rw [he]; decide)
     rw [he] at h
     exact h.mono fun _ _ h => h.ts
    ·rcases h with ⟨h, _⟩ | ⟨_, h⟩
     ·exact absurd h hg
     ·exact h.ts
  ·have he : pmE zs os = 1 := by unfold pmE; rw [if_neg (by rw [hv]; decide), if_neg (fun h => hl h.1)]
   refine ⟨0, 0, 0, 0, 0, [], [], 1, Nat.zero_le _, Nat.zero_le _, fun u h1 h2 h3 => ?_, fun u h1 h2 h3 => (rp_b K B F R O p zs c q vs d x os e u b0 b1 hn hm h1 h2 hx h3 ht hl).mono fun _ _ h => h.ts⟩
   have h := pm_b K B F R O p zs c q vs d x os e u b0 b1 hn hm h1 h2 hx h3 ht (by rw [he]; decide)
   rw [he] at h
   exact h.mono fun _ _ h => h.ts
 ·exact ⟨0, 0, 0, 0, 0, [], [], tE K B F R O zs vs, Nat.zero_le _, Nat.zero_le _, fun u h1 h2 h3 => (pm_a K B F R O p zs c q vs d x os e u b0 b1 hn hm h1 h2 hx h3 ht).mono fun _ _ h => h.ts, fun u h1 h2 h3 => (rp_a K B F R O p zs c q vs d x os e u b0 b1 hn hm h1 h2 hx h3 ht).mono fun _ _ h => h.ts⟩
/-- Both Slices give the same answer. -/
theorem both_sl (K B F R O : Int) (p : Option Addr) (zs : List Int) (c : Nat) (q : Option Addr) (vs : List (Int × Int)) (d : Nat) (ax fr tt : Int) (b0 : -9223372036854775808 <= B) (b1 : B <= 9223372036854775807) (hn : zs.length <= maxLen) (hm : vs.length <= maxLen) (hc : zs.length <= c) (hc2 : c <= 9223372036854775807) (hd : vs.length <= d) (hd2 : d <= 9223372036854775807) : ∃ (Ka Ba Fa Ra Oa : Int) (zsa : List Int) (vsa : List (Int × Int)) (Ea : Int), zsa.length <= maxLen /\ vsa.length <= maxLen /\ (∀ u, Hid (SlI u p zs) -> Hid (SlV u q vs) -> Calls Tryz.prog 35 #[Tn K B F R O p zs.length c q vs.length d, .int .i64 ax, .int .i64 fr, .int .i64 tt] u (TS Ka Ba Fa Ra Oa zsa vsa Ea u)) /\ (∀ u, Hid (SlI u p zs) -> Hid (SlV u q vs) -> Calls Tryz.prog 39 #[Tn K B F R O p zs.length c q vs.length d, .int .i64 ax, .int .i64 fr, .int .i64 tt] u (TS Ka Ba Fa Ra Oa zsa vsa Ea u)) := by
 by_cases ht : tE K B F R O zs vs = 0
 ·obtain ⟨-, hv, tl, -⟩ := tE_ok ht
  have no : ∀ (er : Int), er ≠ 0 -> slE zs ax fr tt = er -> (∀ u, Hid (SlI u p zs) -> Hid (SlV u q vs) -> Calls Tryz.prog 39 #[Tn K B F R O p zs.length c q vs.length d, .int .i64 ax, .int .i64 fr, .int .i64 tt] u (TRes 0 0 0 0 0 [] [] er u)) -> ∃ (Ka Ba Fa Ra Oa : Int) (zsa : List Int) (vsa : List (Int × Int)) (Ea : Int), zsa.length <= maxLen /\ vsa.length <= maxLen /\ (∀ u, Hid (SlI u p zs) -> Hid (SlV u q vs) -> Calls Tryz.prog 35 #[Tn K B F R O p zs.length c q vs.length d, .int .i64 ax, .int .i64 fr, .int .i64 tt] u (TS Ka Ba Fa Ra Oa zsa vsa Ea u)) /\ (∀ u, Hid (SlI u p zs) -> Hid (SlV u q vs) -> Calls Tryz.prog 39 #[Tn K B F R O p zs.length c q vs.length d, .int .i64 ax, .int .i64 fr, .int .i64 tt] u (TS Ka Ba Fa Ra Oa zsa vsa Ea u)) := fun er h0 he hr => ⟨0, 0, 0, 0, 0, [], [], er, Nat.zero_le _, Nat.zero_le _, fun u h1 h2 => by
   have h := ts_b K B F R O p zs c q vs d ax fr tt u b0 b1 hn hm h1 h2 ht (by rw [he]; exact h0)
   rw [he] at h
   exact h.mono fun _ _ h => h.ts, fun u h1 h2 => (hr u h1 h2).mono fun _ _ h => h.ts⟩
  have hv0 : ¬ (vE zs != 0) = true := by rw [hv]; decide
  by_cases ha : ax < 0
  ·exact no 11 (by decide) (by unfold slE; rw [if_neg hv0, if_pos (.inl ha)]) fun u h1 h2 => rs_b0 K B F R O p zs c q vs d ax fr tt u b0 b1 hn hm h1 h2 ht ha
  ·by_cases ha2 : (zs.length : Int) <= ax
   ·exact no 11 (by decide) (by unfold slE; rw [if_neg hv0, if_pos (.inr ha2)]) fun u h1 h2 => rs_b1 K B F R O p zs c q vs d ax fr tt u b0 b1 hn hm h1 h2 ht ha ha2
   ·have ha3 : ax < (zs.length : Int) := by omega
    have hax : ¬ (ax < 0 \/ (zs.length : Int) <= ax) := by omega
    by_cases hf : fr < 0
    ·exact no 12 (by decide) (by unfold slE; rw [if_neg hv0, if_neg hax, if_pos (.inl hf)]) fun u h1 h2 => rs_c0 K B F R O p zs c q vs d ax fr tt u b0 b1 hn hm h1 h2 ht ha ha3 hf
    ·by_cases hf2 : tt <= fr
     ·exact no 12 (by decide) (by unfold slE; rw [if_neg hv0, if_neg hax, if_pos (.inr (.inl hf2))]) fun u h1 h2 => rs_c1 K B F R O p zs c q vs d ax fr tt u b0 b1 hn hm h1 h2 ht ha ha3 hf hf2
     ·obtain ⟨a, rfl⟩ : ∃ a : Nat, ax = (a : Int) := ⟨ax.toNat, by omega⟩
      have haz : a < zs.length := by omega
      by_cases hf3 : zs.getD a 0 < tt
      ·exact no 12 (by decide) (by unfold slE; rw [if_neg hv0, if_neg hax, if_pos (.inr (.inr (by rw [Int.toNat_natCast]; exact hf3)))]) fun u h1 h2 => rs_c2 K B F R O p zs c q vs d a fr tt u b0 b1 hn hm h1 h2 ht haz hf (by omega) hf3
      ·obtain ⟨f, rfl⟩ : ∃ f : Nat, fr = (f : Int) := ⟨fr.toNat, by omega⟩
       obtain ⟨t, rfl⟩ : ∃ t : Nat, tt = (t : Int) := ⟨tt.toNat, by omega⟩
       obtain ⟨bf, my, af, k1, k2, k3, k4, k5, k6, k7, k8, k9, ka, kb⟩ := parts hv haz tl
       have hft : f < t := by omega
       have htm : t <= my := by omega
       refine ⟨K, B, F, R, O, zs.set a ((t : Int) - f), slV vs my af f t bf, 0, by rw [List.length_set]; exact hn, ?_, fun u h1 h2 => (ts_c K B F R O p zs c q vs d a f t u b0 b1 hn hm h1 h2 ht haz hc hc2 hd hd2 hft (by omega) bf my af k1 k2 k3 k4 k5 k6 k7 k8 k9 ka kb).mono fun _ _ h => h.ts, fun u h1 h2 => (rs_ok K B F R O p zs c q vs d a f t u b0 b1 hn hm h1 h2 ht haz hft (by omega) bf my af k1 k2 k3 k4 k5 k6 k7 k8 k9 ka kb).mono fun _ _ h => h.ts⟩
       rw [slV_len (Nat.le_of_lt hft) htm k7 bf (Nat.le_refl _)]
       have h1 : t * af - f * af <= my * af := Nat.le_trans (Nat.sub_le _ _) (Nat.mul_le_mul_right _ htm)
       have h2 : bf * (t * af - f * af) <= bf * (my * af) := Nat.mul_le_mul_left _ h1
       rw [<- Nat.mul_assoc, <- k7] at h2
       omega
 ·exact ⟨0, 0, 0, 0, 0, [], [], tE K B F R O zs vs, Nat.zero_le _, Nat.zero_le _, fun u h1 h2 => (ts_a K B F R O p zs c q vs d ax fr tt u b0 b1 hn hm h1 h2 ht).mono fun _ _ h => h.ts, fun u h1 h2 => (rs_a K B F R O p zs c q vs d ax fr tt u b0 b1 hn hm h1 h2 ht).mono fun _ _ h => h.ts⟩

set_option maxRecDepth 100000 in
set_option maxHeartbeats 4000000 in
theorem law_pm (K B F R O : Int) (p : Option Addr) (zs : List Int) (c : Nat) (q : Option Addr) (vs : List (Int × Int)) (d : Nat) (x : Option Addr) (os : List Int) (e : Nat) (ax fr tt : Int) (w : World) (b0 : -9223372036854775808 <= B) (b1 : B <= 9223372036854775807) (hn : zs.length <= maxLen) (hm : vs.length <= maxLen) (RA : Hid (SlI w p zs)) (RB : Hid (SlV w q vs)) (hx : os.length <= maxLen) (RX : Hid (SlI w x os)) (hc : zs.length <= c) (hc2 : c <= 9223372036854775807) (hd : vs.length <= d) (hd2 : d <= 9223372036854775807) (hLA : Tx.LA w)  :
  Calls Tryz.prog 10 #[Tn K B F R O p zs.length c q vs.length d, .slice x os.length e, .int .i64 ax, .int .i64 fr, .int .i64 tt] w fun en w' => en = .returned (.bool true) /\ Below w.heap.size w w' := by
 cases hs : (decide ((vs.length : Int) <= 1000) && decide (zs.length <= 20))
 ·exact lp_a K B F R O p zs c q vs d x os e ax fr tt w b0 b1 hn hm RA RB hx RX hc hc2 hd hd2 hLA hs
 ·by_cases hl : 20 < os.length
  ·exact lp_b K B F R O p zs c q vs d x os e ax fr tt w b0 b1 hn hm RA RB hx RX hc hc2 hd hd2 hLA hs hl
  ·obtain ⟨Ka, Ba, Fa, Ra, Oa, zsa, vsa, Ea, a1, a2, a3, a4⟩ := both_pm K B F R O p zs c q vs d x os e b0 b1 hn hm hx
   obtain ⟨Kb, Bb, Fb, Rb, Ob, zsb, vsb, Eb, e1, e2, e3, e4⟩ := both_sl K B F R O p zs c q vs d ax fr tt b0 b1 hn hm hc hc2 hd hd2
   exact lp_go K B F R O p zs c q vs d x os e ax fr tt w b0 b1 hn hm RA RB hx RX hc hc2 hd hd2 hLA hs hl Ka Ba Fa Ra Oa zsa vsa Ea Kb Bb Fb Rb Ob zsb vsb Eb a1 a2 e1 e2 a3 a4 e3 e4
end Go.Proofs.YteaaikmejacpaaaGreatDoor.Te
