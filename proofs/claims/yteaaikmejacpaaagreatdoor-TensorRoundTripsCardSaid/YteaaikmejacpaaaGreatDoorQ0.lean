/- What TensorRoundTrips needs beside the base. -/
import Derived.Test.YteaaikmejacpaaaGreatDoorE16
import Derived.Test.YteaaikmejacpaaaGreatDoorR0
import Derived.Test.YteaaikmejacpaaaGreatDoorR1
import Derived.Test.YteaaikmejacpaaaGreatDoorR10
import Derived.Test.YteaaikmejacpaaaGreatDoorR11
import Derived.Test.YteaaikmejacpaaaGreatDoorR12
import Derived.Test.YteaaikmejacpaaaGreatDoorR13
import Derived.Test.YteaaikmejacpaaaGreatDoorR14
import Derived.Test.YteaaikmejacpaaaGreatDoorR16
import Derived.Test.YteaaikmejacpaaaGreatDoorR17
import Derived.Test.YteaaikmejacpaaaGreatDoorR18
import Derived.Test.YteaaikmejacpaaaGreatDoorR19
import Derived.Test.YteaaikmejacpaaaGreatDoorR2
import Derived.Test.YteaaikmejacpaaaGreatDoorR20
import Derived.Test.YteaaikmejacpaaaGreatDoorR3
import Derived.Test.YteaaikmejacpaaaGreatDoorR4
import Derived.Test.YteaaikmejacpaaaGreatDoorR5
import Derived.Test.YteaaikmejacpaaaGreatDoorR6
import Derived.Test.YteaaikmejacpaaaGreatDoorR7
import Derived.Test.YteaaikmejacpaaaGreatDoorR8
import Derived.Test.YteaaikmejacpaaaGreatDoorR9
import Derived.Lib.ParseIntB
import Derived.Lib.ItoaNum
import Derived.Lib.Bytealg
import Derived.Lib.Strings
import Derived.Lib.AppendIntMem
import Derived.Deep.CutRange
namespace Go.Proofs.YteaaikmejacpaaaGreatDoor.Sh
open Go.ChangeShapes Go.WideShapes Go.ChangeAt Go.RowKit
set_option maxRecDepth 8000
set_option linter.unusedVariables false
set_option linter.unusedSimpArgs false

def slE (zs : List Int) (ax fr tt : Int) : Int := if (vE zs != 0) = true then vE zs else if ax < 0 \/ (zs.length : Int) <= ax then 11 else if fr < 0 \/ tt <= fr \/ zs.getD ax.toNat 0 < tt then 12 else 0
def slL (zs : List Int) (ax fr tt : Int) : List Int := if (vE zs != 0) = true then [] else if ax < 0 \/ (zs.length : Int) <= ax then [] else if fr < 0 \/ tt <= fr \/ zs.getD ax.toNat 0 < tt then [] else zs.set ax.toNat (tt - fr)
theorem el_le {zs : List Int} (h : vE zs = 0) {k : Nat} (hk : k < zs.length) : zs.getD k 0 <= 4096 := by
 obtain ⟨_, hl, _, hS, hD⟩ := valid_of h
 have h1 := (hD k).2
 rw [drop_cons hk] at h1
 change sp (zs.drop (k + 1)) * zs.getD k 0 <= 4096 at h1
 have h2 := (hD (k + 1)).1
 have h3 := pos_of hl hk
 have := Int.mul_le_mul_of_nonneg_right h2 (by omega : 0 <= zs.getD k 0)
 omega
set_option maxHeartbeats 4000000 in
theorem c29_v (p : Option Addr) (zs : List Int) (c : Nat) (ax fr tt : Int) (w : World) (hn : zs.length <= maxLen) (RA : Hid (SlI w p zs)) (hv : (vE zs != 0) = true) :
  Calls Tryz.prog 70 #[.slice p zs.length c, .int .i64 ax, .int .i64 fr, .int .i64 tt] w (QW [] (vE zs) w) := by
 have C := Lib.hid (c14 p zs c w hn RA)
 generalize vE zs = e at *
 go_enter Tryz.func70, Tryz.ntmps70
 go_wp2_with (go_at_call 47; refine (C.out).mono ?_; rintro e w' ⟨rfl, rfl⟩)
 refine bodyPost_ret (v := .tuple #[.slice none 0 0, .int .i64 e]) (by simp [results, Tryz.results70, go_sem]) rfl ⟨_, rfl, Below.refl _ _, World.ownsRow_nil _ _ _ _⟩
set_option maxHeartbeats 4000000 in
theorem c29_a (p : Option Addr) (zs : List Int) (c : Nat) (ax fr tt : Int) (w : World) (hn : zs.length <= maxLen) (RA : Hid (SlI w p zs)) (hv : vE zs = 0) (ha : ax < 0 \/ (zs.length : Int) <= ax) :
  Calls Tryz.prog 70 #[.slice p zs.length c, .int .i64 ax, .int .i64 fr, .int .i64 tt] w (QW [] 11 w) := by
 have C := Lib.hid (c14 p zs c w hn RA)
 rw [hv] at C
 clear hv
 generalize zs.length = n at *
 by_cases h : ax < 0
 ·have k1 : decide (ax < 0) = true := by simpa using h
  clear ha h
  go_enter Tryz.func70, Tryz.ntmps70
  go_wp2_with (go_at_call 47; refine (C.out).mono ?_; rintro e w' ⟨rfl, rfl⟩)
  refine bodyPost_ret (v := .tuple #[.slice none 0 0, .int .i64 11]) (by simp [results, Tryz.results70, go_sem]) rfl ⟨_, rfl, Below.refl _ _, World.ownsRow_nil _ _ _ _⟩
 ·have k1 : decide (ax < 0) = false := by simpa using h
  have k2 : decide ((n : Int) <= ax) = true := by simp <;> omega
  clear ha h
  go_enter Tryz.func70, Tryz.ntmps70
  go_wp2_with (go_at_call 47; refine (C.out).mono ?_; rintro e w' ⟨rfl, rfl⟩)
  refine bodyPost_ret (v := .tuple #[.slice none 0 0, .int .i64 11]) (by simp [results, Tryz.results70, go_sem]) rfl ⟨_, rfl, Below.refl _ _, World.ownsRow_nil _ _ _ _⟩
set_option maxHeartbeats 4000000 in
theorem c29_b (p : Option Addr) (zs : List Int) (c : Nat) (k : Nat) (fr tt : Int) (w : World) (hn : zs.length <= maxLen) (RA : Hid (SlI w p zs)) (hv : vE zs = 0) (hk : k < zs.length) (ha : fr < 0 \/ tt <= fr \/ zs.getD k 0 < tt) :
  Calls Tryz.prog 70 #[.slice p zs.length c, .int .i64 (k : Int), .int .i64 fr, .int .i64 tt] w (QW [] 12 w) := by
 have C := Lib.hid (c14 p zs c w hn RA)
 rw [hv] at C
 obtain ⟨h6, _⟩ := valid_of hv
 obtain ⟨b, o, rfl, hc⟩ := RA.out k hk
 generalize zs.getD k 0 = z at *
 clear hv
 have q0 : (0 : Int) <= k := by omega
 have q1 : (k : Int) < zs.length := by omega
 have k1 : decide ((k : Int) < 0) = false := by simp <;> omega
 have k2 : decide ((zs.length : Int) <= k) = false := by simp <;> omega
 have k3 : decide (zs.length <= k) = false := by simp <;> omega
 generalize zs.length = n at *
 by_cases h : fr < 0
 ·have m1 : decide (fr < 0) = true := by simpa using h
  clear ha h
  go_enter Tryz.func70, Tryz.ntmps70
  go_wp2_with (go_at_call 47; refine (C.out).mono ?_; rintro e w' ⟨rfl, rfl⟩)
  refine bodyPost_ret (v := .tuple #[.slice none 0 0, .int .i64 12]) (by simp [results, Tryz.results70, go_sem]) rfl ⟨_, rfl, Below.refl _ _, World.ownsRow_nil _ _ _ _⟩
 have m1 : decide (fr < 0) = false := by simpa using h
 by_cases h2 : tt <= fr
 ·have m2 : decide (tt <= fr) = true := by simpa using h2
  clear ha h
  go_enter Tryz.func70, Tryz.ntmps70
  go_wp2_with (go_at_call 47; refine (C.out).mono ?_; rintro e w' ⟨rfl, rfl⟩)
  refine bodyPost_ret (v := .tuple #[.slice none 0 0, .int .i64 12]) (by simp [results, Tryz.results70, go_sem]) rfl ⟨_, rfl, Below.refl _ _, World.ownsRow_nil _ _ _ _⟩
 have m2 : decide (tt <= fr) = false := by simpa using h2
 have m3 : decide (z < tt) = true := by simp <;> omega
 clear ha h h2
 go_enter Tryz.func70, Tryz.ntmps70
 go_wp2_with (go_at_call 47; refine (C.out).mono ?_; rintro e w' ⟨rfl, rfl⟩)
 refine bodyPost_ret (v := .tuple #[.slice none 0 0, .int .i64 12]) (by simp [results, Tryz.results70, go_sem]) rfl ⟨_, rfl, Below.refl _ _, World.ownsRow_nil _ _ _ _⟩
end Go.Proofs.YteaaikmejacpaaaGreatDoor.Sh

namespace Go.Proofs.YteaaikmejacpaaaGreatDoor.Sh
open Go.ChangeShapes Go.WideShapes Go.ChangeAt Go.RowKit
set_option maxRecDepth 8000
set_option linter.unusedVariables false
set_option linter.unusedSimpArgs false

set_option maxHeartbeats 1000000 in
theorem c29_ok (p : Option Addr) (zs : List Int) (c : Nat) (k : Nat) (fr tt : Int) (w : World) (hn : zs.length <= maxLen) (RA : Hid (SlI w p zs)) (hv : vE zs = 0) (hk : k < zs.length) (f0 : 0 <= fr) (f1 : fr < tt) (f2 : tt <= zs.getD k 0) :
  Calls Tryz.prog 70 #[.slice p zs.length c, .int .i64 (k : Int), .int .i64 fr, .int .i64 tt] w (QW (zs.set k (tt - fr)) 0 w) := by
 have C := Lib.hid (c14 p zs c w hn RA)
 rw [hv] at C
 obtain ⟨h6, _⟩ := valid_of hv
 have hle := el_le hv hk
 obtain ⟨b, o, rfl, hc⟩ := RA.out k hk
 have C48 := Lib.hid (c48 b o zs c w hn (by omega) RA)
 generalize zs.getD k 0 = z at *
 clear hv
 have q0 : (0 : Int) <= k := by omega
 have q1 : (k : Int) < zs.length := by omega
 have k1 : decide ((k : Int) < 0) = false := by simp <;> omega
 have k2 : decide ((zs.length : Int) <= k) = false := by simp <;> omega
 have k3 : decide (zs.length <= k) = false := by simp <;> omega
 have m1 : decide (fr < 0) = false := by simp <;> omega
 have m2 : decide (tt <= fr) = false := by simp <;> omega
 have m3 : decide (z < tt) = false := by simp <;> omega
 obtain ⟨n, hN⟩ : ∃ n, zs.length = n := ⟨_, rfl⟩
 have HN := Lib.hid hN
 rw [hN] at C C48 q1 k2 k3 hk h6 ⊢
 clear hN hn
 go_enter Tryz.func70, Tryz.ntmps70
 go_wp2_with (go_at_call 47; refine (C.out).mono ?_; rintro e w' ⟨rfl, rfl⟩)
 refine (C48.out).mono ?_
 rintro e w1 ⟨v, rfl, KB, O⟩
 rw [HN.out] at O
 obtain ⟨g, cap, rfl, gb, cle⟩ := own_form O (by omega)
 have oc := cells_of O (j := k) (by omega) HN.out
 have of := O.frozenAt k
 have oS := Lib.hid (O.stored k (.int .i64 (tt - fr))).1
 clear O C C48
 go_wp2
 refine bodyPost_ret (v := .tuple #[.slice (some ⟨g, 0, none⟩) n cap, .int .i64 0]) (by simp [results, Tryz.results70, go_sem]) rfl ⟨_, rfl, ?_, ?_⟩
 ·exact Below.setCell KB gb _
 ·rw [List.length_set, HN.out, List.map_set]
  exact oS.out
end Go.Proofs.YteaaikmejacpaaaGreatDoor.Sh

namespace Go.Proofs.YteaaikmejacpaaaGreatDoor.Sh
open Go.ChangeShapes Go.WideShapes Go.ChangeAt Go.RowKit
set_option maxRecDepth 8000
set_option linter.unusedVariables false
set_option linter.unusedSimpArgs false
theorem c29 (p : Option Addr) (zs : List Int) (c : Nat) (ax fr tt : Int) (w : World) (hn : zs.length <= maxLen) (RA : Hid (SlI w p zs)) :
  Calls Tryz.prog 70 #[.slice p zs.length c, .int .i64 ax, .int .i64 fr, .int .i64 tt] w (QW (slL zs ax fr tt) (slE zs ax fr tt) w) := by
 unfold slL slE
 by_cases h1 : (vE zs != 0) = true
 ·rw [if_pos h1, if_pos h1]; exact c29_v p zs c ax fr tt w hn RA h1
 rw [if_neg h1, if_neg h1]
 have hv : vE zs = 0 := by simpa using h1
 by_cases h2 : ax < 0 \/ (zs.length : Int) <= ax
 ·rw [if_pos h2, if_pos h2]; exact c29_a p zs c ax fr tt w hn RA hv h2
 rw [if_neg h2, if_neg h2]
 obtain ⟨k, rfl⟩ : ∃ k : Nat, ax = k := ⟨ax.toNat, by omega⟩
 rw [Int.toNat_natCast]
 by_cases h3 : fr < 0 \/ tt <= fr \/ zs.getD k 0 < tt
 ·rw [if_pos h3, if_pos h3]; exact c29_b p zs c k fr tt w hn RA hv (by omega) h3
 rw [if_neg h3, if_neg h3]
 exact c29_ok p zs c k fr tt w hn RA hv (by omega) (by omega) (by omega) (by omega)
end Go.Proofs.YteaaikmejacpaaaGreatDoor.Sh

namespace Go.Proofs.YteaaikmejacpaaaGreatDoor.Sh
open Go.ChangeShapes Go.WideShapes Go.ChangeAt Go.RowKit
set_option maxRecDepth 8000
set_option linter.unusedVariables false
set_option linter.unusedSimpArgs false

theorem onto {n : Nat} {os : List Int} (hl : os.length = n) (h : gd n os n) {y : Nat} (hy : y < n) : ∃ i, i < n /\ os.getD i 0 = (y : Int) := by
 have h1 := (order_perm hl h).mem_iff.2 (List.mem_range.2 hy)
 obtain ⟨i, hi, e⟩ := List.getElem_of_mem h1
 rw [List.length_map] at hi
 rw [List.getElem_map] at e
 have h2 := h i (by omega)
 rw [getD_at hi] at h2
 exact ⟨i, by omega, by rw [getD_at hi]; omega⟩

end Go.Proofs.YteaaikmejacpaaaGreatDoor.Sh

namespace Go.Proofs.YteaaikmejacpaaaGreatDoor.Sh
open Go.ChangeShapes Go.WideShapes Go.ChangeAt Go.RowKit
set_option maxRecDepth 8000
set_option linter.unusedVariables false
set_option linter.unusedSimpArgs false

def bc (a b : List Int) : List Int := (List.range (bn a b)).map fun j => max (ga a (bn a b) j) (ga b (bn a b) j)

end Go.Proofs.YteaaikmejacpaaaGreatDoor.Sh

namespace Go.Proofs.YteaaikmejacpaaaGreatDoor.Te
open Go.ChangeShapes Go.WideShapes Go.ChangeAt Go.RowKit
open Fx Va Sh
set_option maxRecDepth 8000
set_option linter.unusedVariables false
set_option linter.unusedSimpArgs false

set_option maxRecDepth 100000 in
set_option maxHeartbeats 2000000 in
theorem pm_b (K B F R O : Int) (p : Option Addr) (zs : List Int) (c : Nat) (q : Option Addr) (vs : List (Int × Int)) (d : Nat) (x : Option Addr) (os : List Int) (e : Nat) (w : World) (b0 : -9223372036854775808 <= B) (b1 : B <= 9223372036854775807) (hn : zs.length <= maxLen) (hm : vs.length <= maxLen) (RA : Hid (SlI w p zs)) (RB : Hid (SlV w q vs)) (hx : os.length <= maxLen) (RX : Hid (SlI w x os)) (ht : tE K B F R O zs vs = 0) (he : pmE zs os ≠ 0) :
  Calls Tryz.prog 37 #[Tn K B F R O p zs.length c q vs.length d, .slice x os.length e] w (TRes 0 0 0 0 0 [] [] (pmE zs os) w) := by
 have TV0 := fun w h1 h2 => tval K B F R O p zs c q vs d w b0 b1 hn hm h1 h2
 rw [ht] at TV0
 have SP0 := fun w h1 h2 => c27 p x zs os c e w hn h1 h2
 unfold QW at SP0
 obtain ⟨E, hE⟩ : ∃ E, pmE zs os = E := ⟨_, rfl⟩
 obtain ⟨PL, hPL⟩ : ∃ L, pmL zs os = L := ⟨_, rfl⟩
 rw [hE] at SP0 he ⊢
 rw [hPL] at SP0
 have SP := Lib.hid SP0
 have g1 : (E == 0) = false := by simpa using he
 have g2 : (E != 0) = true := by simpa using he
 obtain ⟨m, hmm⟩ : ∃ m, vs.length = m := ⟨_, rfl⟩
 have HM := Lib.hid hmm
 rw [hmm] at TV0 ⊢
 have TV := Lib.hid TV0
 have B0 : Hid (Below w.heap.size w ((w.alloc (Obj.cells #[Value.int .i64 K, Value.int .i64 B, Value.int .i64 F, Value.int .i64 R, Value.int .i64 O, Value.slice p zs.length c, Value.slice q m d] 27)).alloc (Obj.cells #[Value.int .i64 0, Value.int .i64 0, Value.int .i64 0, Value.int .i64 0, Value.int .i64 0, Value.slice none 0 0, Value.slice none 0 0] 27))) := Lib.hid (((Below.refl _ _).alloc (Nat.le_refl _) _).alloc (by simp) _)
 have T0 : Hid (B7 ((w.alloc (Obj.cells #[Value.int .i64 K, Value.int .i64 B, Value.int .i64 F, Value.int .i64 R, Value.int .i64 O, Value.slice p zs.length c, Value.slice q m d] 27)).alloc (Obj.cells #[Value.int .i64 0, Value.int .i64 0, Value.int .i64 0, Value.int .i64 0, Value.int .i64 0, Value.slice none 0 0, Value.slice none 0 0] 27)) (w.heap.size) (.int .i64 K) (.int .i64 B) (.int .i64 F) (.int .i64 R) (.int .i64 O) (.slice p zs.length c) (.slice q m d)) := Lib.hid ((B7.new w _ (.int .i64 K) (.int .i64 B) (.int .i64 F) (.int .i64 R) (.int .i64 O) (.slice p zs.length c) (.slice q m d)).alloc _)
 have R0 : Hid (B7 ((w.alloc (Obj.cells #[Value.int .i64 K, Value.int .i64 B, Value.int .i64 F, Value.int .i64 R, Value.int .i64 O, Value.slice p zs.length c, Value.slice q m d] 27)).alloc (Obj.cells #[Value.int .i64 0, Value.int .i64 0, Value.int .i64 0, Value.int .i64 0, Value.int .i64 0, Value.slice none 0 0, Value.slice none 0 0] 27)) (w.heap.size + 1) (.int .i64 0) (.int .i64 0) (.int .i64 0) (.int .i64 0) (.int .i64 0) (.slice none 0 0) (.slice none 0 0)) := Lib.hid (by have h := B7.new (w.alloc (Obj.cells #[Value.int .i64 K, Value.int .i64 B, Value.int .i64 F, Value.int .i64 R, Value.int .i64 O, Value.slice p zs.length c, Value.slice q m d] 27)) 27 (.int .i64 0) (.int .i64 0) (.int .i64 0) (.int .i64 0) (.int .i64 0) (.slice none 0 0) (.slice none 0 0); simpa using h)
 clear TV0
 clear hE ht hm hmm he SP0 hPL
 unfold Tn at *
 go_enter Tryz.func37, Tryz.ntmps37
 go_upto_region 6 with (first | (go_at_call 20; (with_reducible refine (TV.out _ (Lib.hid (SlI.keep B0.out RA.out)) (Lib.hid (SlV.below RB.out B0.out))).mono ?_); rintro e w1 ⟨rfl, hb⟩; have KB := Lib.hid (B0.out.trans (hb.mono B0.out.size)); have TB := Lib.hid (B7.keep hb (by simp <;> omega) T0.out); have RB9 := Lib.hid (B7.keep hb (by simp <;> omega) R0.out); obtain ⟨⟨c0, c1, c2, c3, c4, c5, c6⟩, -⟩ := TB.out; obtain ⟨⟨z0, z1, z2, z3, z4, z5, z6⟩, ⟨f0, f1, f2, f3, f4, f5, f6⟩⟩ := RB9.out; have lr : w.heap.size + 1 < w1.heap.size := RB9.out.lt; clear hb) | (go_at_call 71; (with_reducible refine (SP.out _ (Lib.hid (SlI.keep KB.out RA.out)) (Lib.hid (SlI.keep KB.out RX.out))).mono ?_); rintro e w2 ⟨v2, rfl, hb2, O2⟩; have KB2 := Lib.hid (KB.out.trans (hb2.mono KB.out.size)); have TB2 := Lib.hid (B7.keep hb2 TB.out.lt TB.out); have RB2 := Lib.hid (B7.keep hb2 RB9.out.lt RB9.out); have lr : w.heap.size + 1 < w2.heap.size := RB2.out.lt; obtain ⟨⟨z0, z1, z2, z3, z4, z5, z6⟩, ⟨f0, f1, f2, f3, f4, f5, f6⟩⟩ := RB2.out; obtain ⟨⟨c0, c1, c2, c3, c4, c5, c6⟩, -⟩ := TB2.out; have hs2 := hb2.size; obtain ⟨pd, cd, rfl⟩ := own_slice O2; have HO2 := Lib.hid O2; clear hb2 O2))
 repeat go_step
 have SBB := (((((((KB2.out).setCell (p := ⟨w.heap.size + 1, 0, none⟩) (by dsimp only; omega) (.int .i64 0)).setCell (p := ⟨w.heap.size + 1, 1, none⟩) (by dsimp only; omega) (.int .i64 0)).setCell (p := ⟨w.heap.size + 1, 2, none⟩) (by dsimp only; omega) (.int .i64 0)).setCell (p := ⟨w.heap.size + 1, 3, none⟩) (by dsimp only; omega) (.int .i64 0)).setCell (p := ⟨w.heap.size + 1, 4, none⟩) (by dsimp only; omega) (.int .i64 0)).setCell (p := ⟨w.heap.size + 1, 5, none⟩) (by dsimp only; omega) (.slice none 0 0)).setCell (p := ⟨w.heap.size + 1, 6, none⟩) (by dsimp only; omega) (.slice none 0 0)
 refine bodyPost_ret (v := .tuple #[.agg #[.int .i64 0, .int .i64 0, .int .i64 0, .int .i64 0, .int .i64 0, .slice none 0 0, .slice none 0 0], .int .i64 E]) (by simp [results, Tryz.results37, go_sem, z0, f0, z1, f1, z2, f2, z3, f3, z4, f4, z5, f5, z6, f6, lr]) rfl (TRes.no SBB)
end Go.Proofs.YteaaikmejacpaaaGreatDoor.Te

namespace Go.Proofs.YteaaikmejacpaaaGreatDoor.Tx
open Go.ChangeShapes Go.WideShapes Go.ChangeAt Go.RowKit
open Fr Fx
set_option maxRecDepth 8000
set_option linter.unusedVariables false
set_option linter.unusedSimpArgs false
set_option maxRecDepth 8000

def fit (l : List UInt8) : Bool := decide (av l <= 2147483647)

end Go.Proofs.YteaaikmejacpaaaGreatDoor.Tx

namespace Go.Proofs.YteaaikmejacpaaaGreatDoor.Tx
open Go.ChangeShapes Go.WideShapes Go.ChangeAt Go.RowKit
open Fr Fx
set_option maxRecDepth 8000
set_option linter.unusedVariables false
set_option linter.unusedSimpArgs false
set_option maxRecDepth 8000
abbrev R3 (r : Int × Int × Int) : Value := Frac3 r.1 r.2.1 r.2.2

end Go.Proofs.YteaaikmejacpaaaGreatDoor.Tx

namespace Go.Proofs.YteaaikmejacpaaaGreatDoor.Te
open Go.ChangeShapes Go.WideShapes Go.ChangeAt Go.RowKit
open Fx Va Sh
set_option maxRecDepth 8000
set_option linter.unusedVariables false
set_option linter.unusedSimpArgs false

theorem of_inj : ∀ (zs xs ys : List Int) (S n : Int), zs.any low = false -> xs.length = zs.length -> ys.length = zs.length -> of S zs xs = some n -> of S zs ys = some n -> 0 <= S -> xs = ys
 | [], [], [], _, _, _, _, _, _, _, _ => rfl
 | [], [], y :: ys, _, _, _, _, h, _, _, _ => absurd h (by simp)
 | [], x :: xs, _, _, _, _, h, _, _, _, _ => absurd h (by simp)
 | z :: zs, [], _, _, _, _, h, _, _, _, _ => absurd h (by simp)
 | z :: zs, x :: xs, [], _, _, _, _, h, _, _, _ => absurd h (by simp)
 | z :: zs, x :: xs, y :: ys, S, n, hl, h1, h2, h3, h4, hS => by
  rw [List.any_cons, Bool.or_eq_false_iff] at hl
  by_cases c1 : 0 <= x /\ x < z
  ·by_cases c2 : 0 <= y /\ y < z
   ·rw [of_go c1] at h3
    rw [of_go c2] at h4
    have hz : 0 <= S * z := Int.mul_nonneg hS (by omega)
    obtain ⟨a1, a2, a3⟩ := of_bd zs xs (S * z + x) n hl.2 (by simpa using h1) h3 (by omega)
    obtain ⟨b1, b2, b3⟩ := of_bd zs ys (S * z + y) n hl.2 (by simpa using h2) h4 (by omega)
    have hxy : x = y := by
     rcases Int.lt_trichotomy x y with h | h | h
     ·have := Int.mul_le_mul_of_nonneg_right (show S * z + x + 1 <= S * z + y by omega) (show 0 <= sp zs by omega)
      omega
     ·exact h
     ·have := Int.mul_le_mul_of_nonneg_right (show S * z + y + 1 <= S * z + x by omega) (show 0 <= sp zs by omega)
      omega
    subst hxy
    rw [of_inj zs xs ys (S * z + x) n hl.2 (by simpa using h1) (by simpa using h2) h3 h4 (by omega)]
   ·rw [of_none c2] at h4; cases h4
  ·rw [of_none c1] at h3; cases h3

end Go.Proofs.YteaaikmejacpaaaGreatDoor.Te

namespace Go.Proofs.YteaaikmejacpaaaGreatDoor.Te
open Go.ChangeShapes Go.WideShapes Go.ChangeAt Go.RowKit
open Fx Va Sh
set_option maxRecDepth 8000
set_option linter.unusedVariables false
set_option linter.unusedSimpArgs false

/-- A block of a part along an axis. -/
def slB (vs : List (Int × Int)) (my af f t i : Nat) : List (Int × Int) := (vs.drop (i * my * af + f * af)).take (t * af - f * af)
/-- The elements of a part along an axis: the first blocks. -/
def slV (vs : List (Int × Int)) (my af f t n : Nat) : List (Int × Int) := (List.range n).flatMap (slB vs my af f t)
theorem slV_zero (vs : List (Int × Int)) (my af f t : Nat) : slV vs my af f t 0 = [] := rfl
theorem slV_succ (vs : List (Int × Int)) (my af f t n : Nat) : slV vs my af f t (n + 1) = slV vs my af f t n ++ slB vs my af f t n := by
 unfold slV
 rw [List.range_succ, List.flatMap_append]
 simp
theorem slB_hi {my af t i bf m : Nat} (ht : t <= my) (hi : i < bf) (hm : m = bf * my * af) : i * my * af + t * af <= m := by
 have h1 : i * my * af + t * af <= i * my * af + my * af := Nat.add_le_add_left (Nat.mul_le_mul_right _ ht) _
 have h2 : i * my * af + my * af = (i + 1) * my * af := by rw [Nat.add_mul, Nat.add_mul, Nat.one_mul]
 have h3 : (i + 1) * my * af <= bf * my * af := Nat.mul_le_mul_right _ (Nat.mul_le_mul_right _ hi)
 omega
theorem slB_len {vs : List (Int × Int)} {my af f t i bf : Nat} (hf : f <= t) (ht : t <= my) (hi : i < bf) (hm : vs.length = bf * my * af) : (slB vs my af f t i).length = t * af - f * af := by
 have h := slB_hi (t := t) ht hi hm
 have h2 : f * af <= t * af := Nat.mul_le_mul_right _ hf
 unfold slB
 rw [List.length_take, List.length_drop]; omega
theorem slV_len {vs : List (Int × Int)} {my af f t bf : Nat} (hf : f <= t) (ht : t <= my) (hm : vs.length = bf * my * af) : ∀ n, n <= bf -> (slV vs my af f t n).length = n * (t * af - f * af)
 | 0, _ => by rw [slV_zero, Nat.zero_mul]; rfl
 | n + 1, h => by rw [slV_succ, List.length_append, slV_len hf ht hm n (by omega), slB_len hf ht (by omega) hm, Nat.succ_mul]
/-- The numbers of one block of a part. -/
theorem sl_nums {my af f t i bf m : Nat} (hf : f < t) (ht : t <= my) (hi : i < bf) (ha : 1 <= af) (hm : m = bf * my * af) (m4 : m <= 4096) : ∃ e1 e2 g1 g2 x y : Nat, (i : Int) * (my : Int) = e1 /\ (e1 : Int) * (af : Int) = e2 /\ (f : Int) * (af : Int) = g1 /\ (t : Int) * (af : Int) = g2 /\ (e2 : Int) + g1 = x /\ (e2 : Int) + g2 = y /\ e1 <= e2 /\ e2 <= x /\ g1 <= x /\ g2 <= y /\ x < y /\ y <= m /\ x = i * my * af + f * af /\ y - x = t * af - f * af := by
 have h := slB_hi (t := t) ht hi hm
 have h2 : f * af < t * af := Nat.mul_lt_mul_of_pos_right hf (by omega)
 refine ⟨i * my, i * my * af, f * af, t * af, i * my * af + f * af, i * my * af + t * af, ?_, ?_, ?_, ?_, ?_, ?_, Nat.le_mul_of_pos_right _ (by omega), Nat.le_add_right _ _, Nat.le_add_left _ _, Nat.le_add_left _ _, by omega, h, rfl, by omega⟩ <;> push_cast <;> rfl

end Go.Proofs.YteaaikmejacpaaaGreatDoor.Te

namespace Go.Proofs.YteaaikmejacpaaaGreatDoor.Te
open Go.ChangeShapes Go.WideShapes Go.ChangeAt Go.RowKit
open Fx Va Sh
set_option maxRecDepth 8000
set_option linter.unusedVariables false
set_option linter.unusedSimpArgs false

theorem flV_app (a b : List (Int × Int)) : flV (a ++ b) = flV a ++ flV b := by unfold flV; exact List.flatMap_append
theorem one_V (l : List (Int × Int)) : ∀ u ∈ flV l, u.oneCell' = true := fun u hu => by
 obtain ⟨z, rfl⟩ := flV_in hu
 rfl
theorem sl_cellsV {w : World} {b o x n : Nat} {vs : List (Int × Int)} (h : SlV w (some ⟨b, o, none⟩) vs) (hx : x + n <= vs.length) : ∀ (j : Nat) (u : Value), (flV ((vs.drop x).take n))[j]? = some u -> w.cell? ((⟨b, o + x * 2, none⟩ : Addr).add j) = some u := by
 intro j u hj
 have hl := (List.getElem?_eq_some_iff.1 hj).1
 rw [flV_len, List.length_take, List.length_drop] at hl
 have hk : j / 2 < ((vs.drop x).take n).length := by rw [List.length_take, List.length_drop]; omega
 obtain ⟨g0, g1⟩ := flV_get _ _ hk
 have e : ((vs.drop x).take n).getD (j / 2) (0, 0) = vs.getD (x + j / 2) (0, 0) := by
  rw [List.getD_eq_getElem?_getD, List.getD_eq_getElem?_getD, List.getElem?_take_of_lt (by omega), List.getElem?_drop]
 rw [e] at g0 g1
 obtain ⟨b', o', ee, c0, c1⟩ := h (x + j / 2) (by omega)
 cases ee
 rw [add_at]
 by_cases hp : j % 2 = 0
 ·rw [show j / 2 * 2 = j by omega] at g0
  rw [g0] at hj
  rw [show o + x * 2 + j = o + (x + j / 2) * 2 by omega, c0]
  exact hj
 ·rw [show j / 2 * 2 + 1 = j by omega] at g1
  rw [g1] at hj
  rw [show o + x * 2 + j = o + (x + j / 2) * 2 + 1 by omega, c1]
  exact hj
theorem sl_ok {zs : List Int} {a f t : Nat} (hv : vE zs = 0) (ha : a < zs.length) (hf : f < t) (ht : (t : Int) <= zs.getD a 0) : slE zs a f t = 0 /\ slL zs a f t = zs.set a ((t : Int) - f) := by
 unfold slE slL
 have h1 : ¬ (vE zs != 0) = true := by rw [hv]; decide
 have h2 : ¬ ((a : Int) < 0 \/ (zs.length : Int) <= a) := by omega
 have h3 : ¬ ((f : Int) < 0 \/ (t : Int) <= f \/ zs.getD (a : Int).toNat 0 < t) := by rw [Int.toNat_natCast]; omega
 rw [if_neg h1, if_neg h2, if_neg h3, if_neg h1, if_neg h2, if_neg h3, Int.toNat_natCast]
 exact ⟨rfl, rfl⟩

set_option maxRecDepth 100000 in
set_option maxHeartbeats 2000000 in
theorem ts_c (K B F R O : Int) (p : Option Addr) (zs : List Int) (c : Nat) (q : Option Addr) (vs : List (Int × Int)) (d : Nat) (a f t : Nat) (w : World) (b0 : -9223372036854775808 <= B) (b1 : B <= 9223372036854775807) (hn : zs.length <= maxLen) (hm : vs.length <= maxLen) (RA : Hid (SlI w p zs)) (RB : Hid (SlV w q vs)) (ht : tE K B F R O zs vs = 0) (ha : a < zs.length) (hc : zs.length <= c) (hc2 : c <= 9223372036854775807) (hd : vs.length <= d) (hd2 : d <= 9223372036854775807) (hf : f < t) (htt : (t : Int) <= zs.getD a 0) (bf my af : Nat) (hbf : sp (zs.take a) = bf) (hmy : zs.getD a 0 = my) (haf : sp (zs.drop (a + 1)) = af) (q1 : 1 <= bf) (q2 : 1 <= my) (q3 : 1 <= af) (hmm3 : vs.length = bf * my * af) (q5 : bf * af <= vs.length) (q6 : my <= vs.length) (q7 : bf <= vs.length) (q8 : af <= vs.length) :
  Calls Tryz.prog 35 #[Tn K B F R O p zs.length c q vs.length d, .int .i64 a, .int .i64 f, .int .i64 t] w (TRes K B F R O (zs.set a ((t : Int) - f)) (slV vs my af f t bf) 0 w) := by
 have TV0 := fun w h1 h2 => tval K B F R O p zs c q vs d w b0 b1 hn hm h1 h2
 rw [ht] at TV0
 obtain ⟨-, hv, tl, -⟩ := tE_ok ht
 obtain ⟨h6, -, -, hsp, -⟩ := valid_of hv
 obtain ⟨se, sl⟩ := sl_ok hv ha hf htt
 have SP0 := fun w h1 => c29 p zs c a f t w hn h1
 unfold QW at SP0
 rw [se, sl, List.length_set] at SP0
 have SP := Lib.hid SP0
 have AR0 := fun w h => tar p zs c a w ha hc hc2 hv h
 rw [hbf, haf] at AR0
 have AR := Lib.hid AR0
 have m4 : vs.length <= 4096 := by omega
 have htm : t <= my := by omega
 have NM := Lib.hid fun (j : Nat) (hj : j < bf) => sl_nums hf htm hj q3 hmm3 m4
 have LN := Lib.hid (slV_len (vs := vs) (Nat.le_of_lt hf) htm hmm3)
 have LB := Lib.hid fun (j : Nat) (hj : j < bf) => slB_len (vs := vs) (Nat.le_of_lt hf) htm hj hmm3
 obtain ⟨bb, oo, hpp, hcell⟩ := RA.out a ha
 rw [hmy] at hcell
 have HCELL := Lib.hid hcell
 have hbb : bb < w.heap.size := World.block_lt_of_cell? _ _ hcell
 subst hpp
 obtain ⟨vb, vo, hqq, -⟩ := RB.out 0 (by omega)
 subst hqq
 have HLE : Hid (∀ j, j <= bf -> (slV vs my af f t j).length <= vs.length) := Lib.hid fun j hj => by
  rw [LN.out j hj, hmm3]
  have h1 : t * af - f * af <= my * af := Nat.le_trans (Nat.sub_le _ _) (Nat.mul_le_mul_right _ htm)
  have h2 : j * (t * af - f * af) <= bf * (my * af) := Nat.mul_le_mul hj h1
  rwa [<- Nat.mul_assoc] at h2
 obtain ⟨m, hmm⟩ : ∃ m, vs.length = m := ⟨_, rfl⟩
 have HM := Lib.hid hmm
 rw [hmm] at TV0 NM HLE hm tl hmm3 q5 q6 q7 q8 m4 hd ⊢
 have TV := Lib.hid TV0
 have B0 : Hid (Below w.heap.size w ((w.alloc (Obj.cells #[Value.int .i64 K, Value.int .i64 B, Value.int .i64 F, Value.int .i64 R, Value.int .i64 O, Value.slice (some ⟨bb, oo, none⟩) zs.length c, Value.slice (some ⟨vb, vo, none⟩) m d] 27)).alloc (Obj.cells #[Value.int .i64 0, Value.int .i64 0, Value.int .i64 0, Value.int .i64 0, Value.int .i64 0, Value.slice none 0 0, Value.slice none 0 0] 27))) := Lib.hid (((Below.refl _ _).alloc (Nat.le_refl _) _).alloc (by simp) _)
 have T0 : Hid (B7 ((w.alloc (Obj.cells #[Value.int .i64 K, Value.int .i64 B, Value.int .i64 F, Value.int .i64 R, Value.int .i64 O, Value.slice (some ⟨bb, oo, none⟩) zs.length c, Value.slice (some ⟨vb, vo, none⟩) m d] 27)).alloc (Obj.cells #[Value.int .i64 0, Value.int .i64 0, Value.int .i64 0, Value.int .i64 0, Value.int .i64 0, Value.slice none 0 0, Value.slice none 0 0] 27)) (w.heap.size) (.int .i64 K) (.int .i64 B) (.int .i64 F) (.int .i64 R) (.int .i64 O) (.slice (some ⟨bb, oo, none⟩) zs.length c) (.slice (some ⟨vb, vo, none⟩) m d)) := Lib.hid ((B7.new w _ (.int .i64 K) (.int .i64 B) (.int .i64 F) (.int .i64 R) (.int .i64 O) (.slice (some ⟨bb, oo, none⟩) zs.length c) (.slice (some ⟨vb, vo, none⟩) m d)).alloc _)
 have R0 : Hid (B7 ((w.alloc (Obj.cells #[Value.int .i64 K, Value.int .i64 B, Value.int .i64 F, Value.int .i64 R, Value.int .i64 O, Value.slice (some ⟨bb, oo, none⟩) zs.length c, Value.slice (some ⟨vb, vo, none⟩) m d] 27)).alloc (Obj.cells #[Value.int .i64 0, Value.int .i64 0, Value.int .i64 0, Value.int .i64 0, Value.int .i64 0, Value.slice none 0 0, Value.slice none 0 0] 27)) (w.heap.size + 1) (.int .i64 0) (.int .i64 0) (.int .i64 0) (.int .i64 0) (.int .i64 0) (.slice none 0 0) (.slice none 0 0)) := Lib.hid (by have h := B7.new (w.alloc (Obj.cells #[Value.int .i64 K, Value.int .i64 B, Value.int .i64 F, Value.int .i64 R, Value.int .i64 O, Value.slice (some ⟨bb, oo, none⟩) zs.length c, Value.slice (some ⟨vb, vo, none⟩) m d] 27)) 27 (.int .i64 0) (.int .i64 0) (.int .i64 0) (.int .i64 0) (.int .i64 0) (.slice none 0 0) (.slice none 0 0); simpa using h)
 clear TV0
 have HM3 := Lib.hid hmm3
 have a0 : (0 : Int) <= a := by omega
 have a1 : (a : Int) < zs.length := by omega
 have a2 : (a : Int) <= c := by omega
 have h6' := h6
 clear ht hm hmm hmm3 tl SP0 AR0 hv hbf hmy haf hsp hcell se sl htt LN
 unfold Tn at *
 go_enter Tryz.func35, Tryz.ntmps35
 go_upto_region 4 with (go_at_call 20; (with_reducible refine (TV.out _ (Lib.hid (SlI.keep B0.out RA.out)) (Lib.hid (SlV.below RB.out B0.out))).mono ?_); rintro e w1 ⟨rfl, hb⟩; have KB := Lib.hid (B0.out.trans (hb.mono B0.out.size)); have TB := Lib.hid (B7.keep hb (by simp <;> omega) T0.out); have RB9 := Lib.hid (B7.keep hb (by simp <;> omega) R0.out); obtain ⟨⟨c0, c1, c2, c3, c4, c5, c6⟩, -⟩ := TB.out; obtain ⟨⟨z0, z1, z2, z3, z4, z5, z6⟩, ⟨f0, f1, f2, f3, f4, f5, f6⟩⟩ := RB9.out; have lr : w.heap.size + 1 < w1.heap.size := RB9.out.lt; clear hb)
 have HLR := Lib.hid lr
 go_upto_region 10 with (first | (go_at_call 20; (with_reducible refine (TV.out _ (Lib.hid (SlI.keep B0.out RA.out)) (Lib.hid (SlV.below RB.out B0.out))).mono ?_); rintro e w1 ⟨rfl, hb⟩; have KB := Lib.hid (B0.out.trans (hb.mono B0.out.size)); have TB := Lib.hid (B7.keep hb (by simp <;> omega) T0.out); have RB9 := Lib.hid (B7.keep hb (by simp <;> omega) R0.out); obtain ⟨⟨c0, c1, c2, c3, c4, c5, c6⟩, -⟩ := TB.out; obtain ⟨⟨z0, z1, z2, z3, z4, z5, z6⟩, ⟨f0, f1, f2, f3, f4, f5, f6⟩⟩ := RB9.out; have lr : w.heap.size + 1 < w1.heap.size := RB9.out.lt; clear hb) | (go_at_call 70; (with_reducible refine (SP.out _ (Lib.hid (SlI.keep KB.out RA.out))).mono ?_); rintro e w2 ⟨v2, rfl, hb2, O2⟩; have KB2 := Lib.hid (KB.out.trans (hb2.mono KB.out.size)); have TB2 := Lib.hid (B7.keep hb2 TB.out.lt TB.out); have RB2 := Lib.hid (B7.keep hb2 RB9.out.lt RB9.out); have lr : w.heap.size + 1 < w2.heap.size := RB2.out.lt; obtain ⟨⟨z0, z1, z2, z3, z4, z5, z6⟩, ⟨f0, f1, f2, f3, f4, f5, f6⟩⟩ := RB2.out; obtain ⟨⟨c0, c1, c2, c3, c4, c5, c6⟩, -⟩ := TB2.out; have hs2 := hb2.size; have lt2 : w.heap.size < w2.heap.size := TB2.out.lt; obtain ⟨pd, cd, rfl⟩ := own_slice O2; have HO2 := Lib.hid O2; clear hb2 O2) | (go_at_call 64; (with_reducible refine (AR.out _ (Lib.hid (SlI.keep (KB2.out.alloc KB2.out.size (Obj.cells #[Value.int .i64 K, Value.int .i64 B, Value.int .i64 F, Value.int .i64 R, Value.int .i64 O, Value.slice pd zs.length cd, Value.slice none 0 0] 27)) RA.out))).mono ?_); rintro e w5 ⟨rfl, hb5⟩; have hW : Below w2.heap.size w2 (w2.alloc (Obj.cells #[Value.int .i64 K, Value.int .i64 B, Value.int .i64 F, Value.int .i64 R, Value.int .i64 O, Value.slice pd zs.length cd, Value.slice none 0 0] 27)) := (Below.refl _ _).alloc (Nat.le_refl _) (Obj.cells #[Value.int .i64 K, Value.int .i64 B, Value.int .i64 F, Value.int .i64 R, Value.int .i64 O, Value.slice pd zs.length cd, Value.slice none 0 0] 27); have hX := hW.trans (hb5.mono hW.size); have T5 := Lib.hid (B7.keep hX TB2.out.lt TB2.out); have R5 := Lib.hid (B7.keep hX RB2.out.lt RB2.out); have D5 := Lib.hid (B7.keep hb5 (by simp) (B7.new w2 27 (.int .i64 K) (.int .i64 B) (.int .i64 F) (.int .i64 R) (.int .i64 O) (.slice pd zs.length cd) (.slice none 0 0))); have P5 := Lib.hid (own_belowE HO2.out hX); have K5 := Lib.hid (KB2.out.trans (hX.mono KB2.out.size)); have X5 := Lib.hid hX; have s5 : w2.heap.size + 1 <= w5.heap.size := (by have h := hb5.size; simp at h; omega); clear hb5 hW hX))
 have hpn : ∀ g : Nat, w2.heap.size <= g -> ((Value.slice pd zs.length cd).ownBlock = none \/ (Value.slice pd zs.length cd).ownBlock ≠ some g) := fun g hg => by
  cases hb : (Value.slice pd zs.length cd).ownBlock with
  | none => exact .inl rfl
  | some q => exact .inr (fun e => by have e' : q = g := Option.some.inj e; have := (HO2.out.lt _ hb).2; omega)
 have HPN := Lib.hid hpn
 clear hpn
 have HB0 : Hid ((B7 w5 (w.heap.size) (.int .i64 K) (.int .i64 B) (.int .i64 F) (.int .i64 R) (.int .i64 O) (.slice (some ⟨bb, oo, none⟩) zs.length c) (.slice (some ⟨vb, vo, none⟩) m d)) /\ (B7 w5 (w.heap.size + 1) (.int .i64 0) (.int .i64 0) (.int .i64 0) (.int .i64 0) (.int .i64 0) (.slice none 0 0) (.slice none 0 0)) /\ (B7 w5 (w2.heap.size) (.int .i64 K) (.int .i64 B) (.int .i64 F) (.int .i64 R) (.int .i64 O) (.slice pd zs.length cd) (.slice none 0 0)) /\ w5.ownsRow w1.heap.size 3 1 (.slice pd zs.length cd) zs.length ((zs.set a ((t : Int) - f)).map (Value.int .i64)) /\ w5.ownsRow (w2.heap.size + 1) 29 2 (.slice none 0 0) 0 (flV (slV vs my af f t 0)) /\ Below w.heap.size w w5 /\ w2.heap.size + 1 <= w5.heap.size) := Lib.hid ⟨T5.out, R5.out, D5.out, P5.out, World.ownsRow_nil _ _ _ _, K5.out, s5⟩
 clear T5 R5 D5 P5 K5 X5 s5 TB2 RB2 KB2 HO2 TB RB9 KB z0 f0 z1 f1 z2 f2 z3 f3 z4 f4 z5 f5 z6 f6 c0 c1 c2 c3 c4 c5 c6 lr
 have lw1 : w.heap.size + 1 < w1.heap.size := HLR.out
 go_loopw [49] (fun iv wr => ∃ (j : Nat) (qv : Option Addr) (n9 dv : Nat), iv = .int .i64 (j : Int) /\ j <= bf /\ Hid ((slV vs my af f t j).length = n9) /\ Hid ((B7 wr (w.heap.size) (.int .i64 K) (.int .i64 B) (.int .i64 F) (.int .i64 R) (.int .i64 O) (.slice (some ⟨bb, oo, none⟩) zs.length c) (.slice (some ⟨vb, vo, none⟩) m d)) /\ (B7 wr (w.heap.size + 1) (.int .i64 0) (.int .i64 0) (.int .i64 0) (.int .i64 0) (.int .i64 0) (.slice none 0 0) (.slice none 0 0)) /\ (B7 wr (w2.heap.size) (.int .i64 K) (.int .i64 B) (.int .i64 F) (.int .i64 R) (.int .i64 O) (.slice pd zs.length cd) (.slice qv n9 dv)) /\ wr.ownsRow w1.heap.size 3 1 (.slice pd zs.length cd) zs.length ((zs.set a ((t : Int) - f)).map (Value.int .i64)) /\ wr.ownsRow (w2.heap.size + 1) 29 2 (.slice qv n9 dv) n9 (flV (slV vs my af f t j)) /\ Below w.heap.size w wr /\ w2.heap.size + 1 <= wr.heap.size)) (fun iv _ => bf - (intOf iv).toNat)
 case atStart => exact ⟨0, none, 0, 0, rfl, Nat.zero_le _, Lib.hid rfl, HB0⟩
 case round =>
  obtain ⟨j, qv, n9, dv, rfl, hj, HN, HJ⟩ := hrel
  clear HB0
  obtain ⟨TJ, RJ, DJ, PJ, VJ, KJ, hszr⟩ := HJ.out
  have lDJ := DJ.lt
  by_cases hjb : j < bf
  ·have hj2 : (j : Int) < bf := by omega
   have hj0 : (0 : Int) <= j := by omega
   have hcr := Rg.keep KJ hbb HCELL.out
   obtain ⟨⟨c0, c1, c2, c3, c4, c5, c6⟩, -⟩ := TJ
   obtain ⟨⟨m0, m1, m2, m3, m4, m5, m6⟩, ⟨g0, g1, g2, g3, g4, g5, g6⟩⟩ := DJ
   have TJ := HJ.out.1
   have DJ := HJ.out.2.2.1
   obtain ⟨e1, e2, g1, g2, x, y, p1, p2, p3, p4, p5, p6, o1, o2, o3, o4, o5, o6, o7, o8⟩ := NM.out j hjb
   have be1 : e1 <= 4096 := by omega
   have be2 : e2 <= 4096 := by omega
   have bg1 : g1 <= 4096 := by omega
   have bg2 : g2 <= 4096 := by omega
   have bx : x <= 4096 := by omega
   have bY : y <= 4096 := by omega
   have x0 : (0 : Int) <= x := by omega
   have xy : (x : Int) <= y := by omega
   have yd : (y : Int) <= d := by omega
   have xm : (y : Int) <= m := by omega
   have hne : ¬ d = x := by omega
   have hlb := LB.out j hjb
   have HFL := Lib.hid (show (flV (slB vs my af f t j)).length = (y - x) * 2 by rw [flV_len, hlb, o8])
   have HX := Lib.hid o7
   have hvb : vb < w.heap.size := by
    obtain ⟨b', o', ee, v0, -⟩ := RB.out x (by rw [HM.out]; omega)
    cases ee
    exact World.block_lt_of_cell? _ _ v0
   have HNW : Hid (∀ (k : Nat) (u : Value), (flV (slB vs my af f t j))[k]? = some u -> wr.cell? ((⟨vb, vo + x * 2, none⟩ : Addr).add k) = some u) := Lib.hid (by
    have h := sl_cellsV (x := x) (n := y - x) (SlV.below RB.out KJ) (by rw [HM.out]; omega)
    have e : (vs.drop x).take (y - x) = slB vs my af f t j := by unfold slB; rw [o7, <- o8, o7]
    rw [e] at h
    exact h)
   have HN9 : Hid (n9 + (y - x) <= 4096) := Lib.hid (by
    have h := HLE.out (j + 1) hjb
    rw [slV_succ, List.length_append, hlb, HN.out] at h
    omega)
   obtain ⟨i0, hi, hz0, hz1, hz2⟩ := info_parts infoV
   have HSC := Lib.hid (slV_succ vs my af f t j)
   have HLB := Lib.hid (hlb.trans o8.symm)
   clear o7 o8 hlb o1 o2 o3 o4
   have HP := Lib.hid (And.intro p3 (And.intro p4 (And.intro p5 p6)))
   have hbe1 : (e1 : Int) <= 4096 := by omega
   have hbe2 : (e2 : Int) <= 4096 := by omega
   clear p3 p4 p5 p6
   go_upto_region 13 with fail
   clear p1 p2 hcr
   obtain ⟨p3, p4, p5, p6⟩ := HP.out
   skip
   have w5' : IntKind.i64.wrap (g1 : Int) = g1 := wnI bg1
   have w6' : IntKind.i64.wrap (g2 : Int) = g2 := wnI bg2
   have w7' : IntKind.i64.wrap (x : Int) = x := wnI bx
   have w8' : IntKind.i64.wrap (y : Int) = y := wnI bY
   refine Rk.begin (S := fun wS => wS.cell? ⟨w2.heap.size, 6, none⟩ = some (.slice qv n9 dv) /\ wS.cell? ⟨w.heap.size, 6, none⟩ = some (.slice (some ⟨vb, vo, none⟩) m d) /\ Below wr.heap.size wr wS) 15 (by kernel_rfl) ⟨m6, c6, Below.drew (Below.refl _ _)⟩ (fun hHeld => ?_)
   refine SqR.p 0 ?_
   refine SqR.l [15] 1 ?_
   refine SqR.p 2 ?_
   refine SqR.l [14, 15] 3 ?_
   refine SqR.p 4 ?_
   refine SqR.p 5 ?_
   refine SqR.p 6 ?_
   refine SqR.p 7 ?_
   refine SqR.p 8 ?_
   refine SqR.p 9 ?_
   refine SqR.p 10 ?_
   refine SqR.p 11 ?_
   refine SqR.p 12 ?_
   refine SqR.p 13 ?_
   refine SqR.p 14 ?_
   refine Rk.tail [15, 16, 17] [_, _, _] (by kernel_rfl) (by kernel_rfl) rfl (by decide) ?_
   clear w5' w6' w7' w8' p3 p4 p5 p6
   clear hHeld
   go_wp2_with (at_builtin; refine wpList_append_own _ rfl _ _ 25 rfl (w2.heap.size + 1) 29 i0 (.agg #[.int .i64 0, .int .i64 0]) 2 16 Tryz.underlying25 hi hz0 hz1 hz2 rfl (by decide) _ _ _ rfl VJ.drew ⟨vb, vo + x * 2, none⟩ (y - x) _ (flV (slB vs my af f t j)) rfl HFL.out HNW.out (one_V _) (by unfold maxLen; have := HN9.out; omega) (by have := HN9.out; omega) (by exact hszr) ?_; intro v8 w8 hown8 hgrow _; obtain ⟨qn, dn, rfl⟩ := own_slice hown8; have hrow := row_base VJ; have D8 := Lib.hid ((DJ.drew).grown hgrow (fun e => by have := hrow _ e.symm; omega)); have T8 := Lib.hid ((TJ.drew).grown hgrow (fun e => by have := hrow _ e.symm; omega)); have R8 := Lib.hid ((RJ.drew).grown hgrow (fun e => by have := hrow _ e.symm; omega)); have P8 := Lib.hid ((PJ.drew).kept hgrow (own_apart PJ VJ)); have V8 := Lib.hid hown8; have K8 := Lib.hid ((KJ.drew).grown hgrow (by have := KJ.size; exact this) (fun k e => by have := hrow _ e; omega)); have hs8 := hgrow.size; obtain ⟨⟨m0, m1, m2, m3, m4, m5, m6⟩, ⟨g0, g1, g2, g3, g4, g5, g6⟩⟩ := D8.out; have lD8 := D8.out.lt; clear hown8 hgrow)
   go_roundw
   case rel =>
    have e1 : n9 + (y - x) = (slV vs my af f t (j + 1)).length := by rw [HSC.out, List.length_append, HN.out, HLB.out]
    exact ⟨j + 1, qn, n9 + (y - x), dn, by simp, by omega, Lib.hid e1.symm, Lib.hid ⟨T8.out.far (by omega), R8.out.far (by omega), D8.out.set6, P8.out.kept grown_set (HPN.out _ (Nat.le_refl _)), own_set (by rw [HSC.out, flV_app]; exact V8.out) (by dsimp only; omega), K8.out.setCell (p := ⟨w2.heap.size, 6, none⟩) (by dsimp only; omega) _, by rw [World.size_setCell]; omega⟩⟩
   case measure => simp [intOf]; omega
  ·obtain rfl : j = bf := by omega
   have gN : decide ((j : Int) < j) = false := by simp
   have lr : w.heap.size + 1 < wr.heap.size := RJ.lt
   obtain ⟨⟨z0, z1, z2, z3, z4, z5, z6⟩, ⟨f0, f1, f2, f3, f4, f5, f6⟩⟩ := RJ
   obtain ⟨⟨m0, m1, m2, m3, m4, m5, m6⟩, -⟩ := DJ
   go_upto_region 15 with fail
   repeat go_step
   have SBB := (((((((KJ).setCell (p := ⟨w.heap.size + 1, 0, none⟩) (by dsimp only; omega) (.int .i64 K)).setCell (p := ⟨w.heap.size + 1, 1, none⟩) (by dsimp only; omega) (.int .i64 B)).setCell (p := ⟨w.heap.size + 1, 2, none⟩) (by dsimp only; omega) (.int .i64 F)).setCell (p := ⟨w.heap.size + 1, 3, none⟩) (by dsimp only; omega) (.int .i64 R)).setCell (p := ⟨w.heap.size + 1, 4, none⟩) (by dsimp only; omega) (.int .i64 O)).setCell (p := ⟨w.heap.size + 1, 5, none⟩) (by dsimp only; omega) (.slice pd zs.length cd)).setCell (p := ⟨w.heap.size + 1, 6, none⟩) (by dsimp only; omega) (.slice qv n9 dv)
   have hlz : (zs.set a ((t : Int) - f)).length = zs.length := List.length_set
   refine bodyPost_ret (v := .tuple #[Tn K B F R O pd zs.length cd qv n9 dv, .int .i64 0]) (by simp [results, Tryz.results35, go_sem, z0, f0, z1, f1, z2, f2, z3, f3, z4, f4, z5, f5, z6, f6, lr, Tn]) rfl ?_
   refine ⟨pd, cd, qv, dv, by rw [hlz, HN.out], ?_, ?_, SBB⟩
   ·rw [hlz]; exact own_base (own_set (own_set (own_set (own_set (own_set (own_set (own_set PJ (by dsimp only; omega)) (by dsimp only; omega)) (by dsimp only; omega)) (by dsimp only; omega)) (by dsimp only; omega)) (by dsimp only; omega)) (by dsimp only; omega)) (by omega)
   ·rw [HN.out]; exact own_base (own_set (own_set (own_set (own_set (own_set (own_set (own_set VJ (by dsimp only; omega)) (by dsimp only; omega)) (by dsimp only; omega)) (by dsimp only; omega)) (by dsimp only; omega)) (by dsimp only; omega)) (by dsimp only; omega)) (by omega)
end Go.Proofs.YteaaikmejacpaaaGreatDoor.Te

namespace Go.Proofs.YteaaikmejacpaaaGreatDoor.Te
open Go.ChangeShapes Go.WideShapes Go.ChangeAt Go.RowKit
open Fx Va Sh
set_option maxRecDepth 8000
set_option linter.unusedVariables false
set_option linter.unusedSimpArgs false

/-- The offset as a sum over the strides. -/
theorem of_sum : ∀ (zs xs : List Int) (S : Int), xs.length = zs.length -> (∀ j, j < zs.length -> 0 <= xs.getD j 0 /\ xs.getD j 0 < zs.getD j 0) -> of S zs xs = some (S * sp zs + sI ((List.range zs.length).map fun j => xs.getD j 0 * (st zs).getD j 0))
 | [], [], S, _, _ => by
  have e3 : sp ([] : List Int) = 1 := rfl
  show some S = some (S * sp [] + 0)
  rw [e3]
  exact congrArg some (by omega)
 | [], _ :: _, _, h, _ => absurd h (by simp)
 | _ :: _, [], _, h, _ => absurd h (by simp)
 | z :: zs, x :: xs, S, hl, hh => by
  rw [of_go (show 0 <= x /\ x < z from hh 0 (by simp)), of_sum zs xs _ (by simpa using hl) (fun j hj => hh (j + 1) (by simpa using hj)), sp_cons]
  refine congrArg some ?_
  have e : sI ((List.range (z :: zs).length).map fun j => (x :: xs).getD j 0 * (st (z :: zs)).getD j 0) = x * sp zs + sI ((List.range zs.length).map fun j => xs.getD j 0 * (st zs).getD j 0) := by
   rw [List.length_cons, List.range_succ_eq_map, List.map_cons, List.map_map]
   show x * (st (z :: zs)).getD 0 0 + sI _ = _
   rw [st_get (by simp)]
   refine congrArg (x * sp zs + ·) (congrArg sI (List.map_congr_left fun j hj => ?_))
   have hj' : j < zs.length := List.mem_range.1 hj
   show xs.getD j 0 * (st (z :: zs)).getD (j + 1) 0 = _
   rw [st_get (by simpa using hj'), st_get hj']
   rfl
  rw [e, Int.add_mul, Int.mul_assoc]
  omega
/-- The place that the reference takes an element from. -/
theorem pm_off {zs os ys : List Int} {a : Int} (hv : vE zs = 0) (hl : os.length = zs.length) (h : gd zs.length os zs.length) (hy : ys.length = zs.length) (ha : 0 <= a) (ha2 : a < sp zs) (hq : ∀ j, j < zs.length -> ys.getD (os.getD j 0).toNat 0 = (pt (pm zs os) a).getD j 0) : of 0 zs ys = some (frS zs os a zs.length) := by
 obtain ⟨hv2, hs2⟩ := pm_valid hv hl h
 have hin : ∀ j, j < zs.length -> 0 <= ys.getD j 0 /\ ys.getD j 0 < zs.getD j 0 := fun j hj => by
  obtain ⟨i, hi, e⟩ := onto hl h hj
  have := hq i hi
  rw [e, Int.toNat_natCast] at this
  rw [this]
  have hpl := pm_length zs os
  have hp := pos_of (valid_of hv2).2.1 (k := i) (by omega)
  rw [pt_get (by omega), pm_get (by omega), e, Int.toNat_natCast]
  rw [pm_get (by omega), e, Int.toNat_natCast] at hp
  exact ⟨Int.emod_nonneg _ (by omega), Int.emod_lt_of_pos _ (by omega)⟩
 rw [of_sum zs ys 0 hy hin, Int.zero_mul, Int.zero_add, <- by_order hl h (fun j => ys.getD j 0 * (st zs).getD j 0)]
 unfold frS
 refine congrArg some (congrArg sI (List.map_congr_left fun j hj => ?_))
 have hj' : j < zs.length := List.mem_range.1 hj
 show ys.getD (os.getD j 0).toNat 0 * _ = _
 rw [hq j hj']
theorem own_setP {u : World} {base : Nat} {E : TypeId} {sz n : Nat} {v : Value} {xs : List Value} (h : u.ownsRow base E sz v n xs) {A g o : Nat} {y : Value} (hA : ∀ k, v.ownBlock = some k -> k < A) (hg : A <= g) : (u.setCell ⟨g, o, none⟩ y).ownsRow base E sz v n xs := h.kept grown_set (by
 cases hb : v.ownBlock with
 | none => exact .inl rfl
 | some q => exact .inr (fun e => by have e' : q = g := Option.some.inj e; have := hA _ hb; omega))

end Go.Proofs.YteaaikmejacpaaaGreatDoor.Te

namespace Go.Proofs.YteaaikmejacpaaaGreatDoor.Te
open Go.ChangeShapes Go.WideShapes Go.ChangeAt Go.RowKit
open Fx Va Sh
set_option maxRecDepth 8000
set_option linter.unusedVariables false
set_option linter.unusedSimpArgs false

theorem TS.no {er : Int} {w w' : World} (hb : Below w.heap.size w w') : TS 0 0 0 0 0 [] [] er w (.returned (.tuple #[.agg #[.int .i64 0, .int .i64 0, .int .i64 0, .int .i64 0, .int .i64 0, .slice none 0 0, .slice none 0 0], .int .i64 er])) w' := (TRes.no hb).ts

end Go.Proofs.YteaaikmejacpaaaGreatDoor.Te

namespace Go.Proofs.YteaaikmejacpaaaGreatDoor.Te
open Go.ChangeShapes Go.WideShapes Go.ChangeAt Go.RowKit
open Fx Va Sh
set_option maxRecDepth 8000
set_option linter.unusedVariables false
set_option linter.unusedSimpArgs false

/-- A block of two cells that may be stored to. -/
def B2 (u : World) (b : Nat) (x y : Value) : Prop := (u.cell? ⟨b, 0, none⟩ = some x /\ u.cell? ⟨b, 1, none⟩ = some y) /\ u.frozen? ⟨b, 0, none⟩ = false /\ u.frozen? ⟨b, 1, none⟩ = false
section
variable {u u' : World} {b r o Bd : Nat} {x y x' y' v : Value}
theorem B2.lt (h : B2 u b x y) : b < u.heap.size := World.block_lt_of_cell? _ _ h.1.1
theorem B2.same (hc : ∀ o, u'.cell? ⟨b, o, none⟩ = u.cell? ⟨b, o, none⟩) (hf : ∀ o, u'.frozen? ⟨b, o, none⟩ = u.frozen? ⟨b, o, none⟩) (h : B2 u b x y) : B2 u' b x y := by
 obtain ⟨⟨c0, c1⟩, f0, f1⟩ := h
 exact ⟨⟨(hc 0).trans c0, (hc 1).trans c1⟩, (hf 0).trans f0, (hf 1).trans f1⟩
theorem B2.keep (hb : Below Bd u u') (hlt : b < Bd) (h : B2 u b x y) : B2 u' b x y :=
 h.same (fun o' => World.cell?_of_block (hb.block b hlt)) (fun o' => World.frozen?_of_block (hb.block b hlt))
theorem B2.far (hr : r ≠ b) (h : B2 u b x y) : B2 (u.setCell ⟨r, o, none⟩ v) b x y := h.same (fun o' => World.cell?_setCell_far _ _ _ _ hr) (fun o' => World.frozen?_setCell _ _ _ _)
theorem B2.st (h : B2 u b x y) : B2 ((u.setCell ⟨b, 0, none⟩ x').setCell ⟨b, 1, none⟩ y') b x' y' := by
 obtain ⟨⟨c0, c1⟩, f0, f1⟩ := h
 refine ⟨⟨?_, ?_⟩, by simpa [World.frozen?_setCell] using f0, by simpa [World.frozen?_setCell] using f1⟩
 ·rw [World.cell?_setCell_other _ _ _ _ (by simp)]
  exact World.cell?_setCell_same _ _ _ c0
 ·exact World.cell?_setCell_same _ _ _ ((World.cell?_setCell_other _ _ _ _ (by simp)).trans c1)
theorem B2.new (u : World) (T : TypeId) (x y : Value) : B2 (u.alloc (Obj.cells #[x, y] T)) u.heap.size x y := by
 refine ⟨⟨?_, ?_⟩, ?_, ?_⟩ <;> go_cell
end

end Go.Proofs.YteaaikmejacpaaaGreatDoor.Te

namespace Go.Proofs.YteaaikmejacpaaaGreatDoor.Te
open Go.ChangeShapes Go.WideShapes Go.ChangeAt Go.RowKit
open Fx Va Sh
set_option maxRecDepth 8000
set_option linter.unusedVariables false
set_option linter.unusedSimpArgs false

/-- A row of numbers whose block lies between two bounds; what it holds is not said. -/
def AnyI (u : World) (lo hi : Nat) (v : Value) (n : Nat) : Prop := (∃ zs : List Int, u.ownsRow lo 3 1 v n (zs.map (Value.int .i64)) /\ zs.length = n) /\ ∀ k, v.ownBlock = some k -> k < hi
/-- The same for a row of elements. -/
def AnyV (u : World) (lo hi : Nat) (v : Value) (n : Nat) : Prop := (∃ vs : List (Int × Int), u.ownsRow lo 29 2 v n (flV vs) /\ vs.length = n) /\ ∀ k, v.ownBlock = some k -> k < hi
theorem AnyI.below {u u' : World} {lo hi n : Nat} {v : Value} (h : AnyI u lo hi v n) (hb : Below u.heap.size u u') : AnyI u' lo hi v n := by
 obtain ⟨⟨zs, o, l⟩, hk⟩ := h
 exact ⟨⟨zs, own_belowE o hb, l⟩, hk⟩
theorem AnyV.below {u u' : World} {lo hi n : Nat} {v : Value} (h : AnyV u lo hi v n) (hb : Below u.heap.size u u') : AnyV u' lo hi v n := by
 obtain ⟨⟨zs, o, l⟩, hk⟩ := h
 exact ⟨⟨zs, own_belowE o hb, l⟩, hk⟩
/-- A store elsewhere leaves it. -/
theorem AnyI.far {u : World} {lo hi n g o : Nat} {v y : Value} (h : AnyI u lo hi v n) (hg : g < lo \/ hi <= g) : AnyI (u.setCell ⟨g, o, none⟩ y) lo hi v n := by
 obtain ⟨⟨zs, ow, l⟩, hk⟩ := h
 refine ⟨⟨zs, ?_, l⟩, hk⟩
 rcases hg with hg | hg
 ·exact own_set ow hg
 ·exact own_setP ow hk hg
theorem AnyV.far {u : World} {lo hi n g o : Nat} {v y : Value} (h : AnyV u lo hi v n) (hg : g < lo \/ hi <= g) : AnyV (u.setCell ⟨g, o, none⟩ y) lo hi v n := by
 obtain ⟨⟨zs, ow, l⟩, hk⟩ := h
 refine ⟨⟨zs, ?_, l⟩, hk⟩
 rcases hg with hg | hg
 ·exact own_set ow hg
 ·exact own_setP ow hk hg
/-- A store into the row itself. -/
theorem AnyI.put {u : World} {lo hi n c g j : Nat} {y : Int} (h : AnyI u lo hi (.slice (some ⟨g, 0, none⟩) n c) n) : AnyI (u.setCell ⟨g, j, none⟩ (.int .i64 y)) lo hi (.slice (some ⟨g, 0, none⟩) n c) n := by
 obtain ⟨⟨zs, ow, l⟩, hk⟩ := h
 refine ⟨⟨zs.set j y, ?_, by rw [List.length_set]; exact l⟩, hk⟩
 rw [List.map_set]
 exact (ow.stored j _).1
/-- What lies at a place of it. -/
theorem AnyI.at {u : World} {lo hi n c g j : Nat} (h : AnyI u lo hi (.slice (some ⟨g, 0, none⟩) n c) n) (hj : j < n) : (∃ z : Int, u.cell? ⟨g, j, none⟩ = some (.int .i64 z)) /\ u.frozen? ⟨g, j, none⟩ = false := by
 obtain ⟨⟨zs, ow, l⟩, hk⟩ := h
 refine ⟨⟨zs.getD j 0, ?_⟩, ow.frozenAt j⟩
 rw [ow.cellAt j (by omega), List.getElem?_map, List.getElem?_eq_getElem (by omega), getD_at (by omega)]
 rfl
theorem AnyV.at {u : World} {lo hi n c g j : Nat} (h : AnyV u lo hi (.slice (some ⟨g, 0, none⟩) n c) n) (hj : j < n) : (∃ z : Int, u.cell? ⟨g, j * 2, none⟩ = some (.int .i64 z)) /\ u.frozen? ⟨g, j * 2, none⟩ = false := by
 obtain ⟨⟨vs, ow, l⟩, hk⟩ := h
 obtain ⟨v0, -⟩ := flV_get vs j (by omega)
 exact ⟨⟨_, (ow.cellAt (j * 2) (by omega)).trans v0⟩, ow.frozenAt (j * 2)⟩
theorem flV_set0 : ∀ (vs : List (Int × Int)) (j : Nat) (y : Int), j < vs.length -> (flV vs).set (j * 2) (.int .i64 y) = flV (vs.set j (y, (vs.getD j (0, 0)).2))
 | [], j, y, h => absurd h (by simp)
 | v :: r, 0, y, _ => rfl
 | v :: r, j + 1, y, h => by
  have e : flV (v :: r) = .int .i64 v.1 :: .int .i64 v.2 :: flV r := rfl
  rw [e, show (j + 1) * 2 = j * 2 + 2 by omega, List.set_cons_succ, List.set_cons_succ, flV_set0 r j y (by simpa using h)]
  rfl
theorem AnyV.put {u : World} {lo hi n c g j : Nat} {y : Int} (h : AnyV u lo hi (.slice (some ⟨g, 0, none⟩) n c) n) (hj : j < n) : AnyV (u.setCell ⟨g, j * 2, none⟩ (.int .i64 y)) lo hi (.slice (some ⟨g, 0, none⟩) n c) n := by
 obtain ⟨⟨vs, ow, l⟩, hk⟩ := h
 refine ⟨⟨vs.set j (y, (vs.getD j (0, 0)).2), ?_, by rw [List.length_set]; exact l⟩, hk⟩
 rw [<- flV_set0 vs j y (by omega)]
 exact (ow.stored (j * 2) _).1
end Go.Proofs.YteaaikmejacpaaaGreatDoor.Te

namespace Go.Proofs.YteaaikmejacpaaaGreatDoor.Te
open Go.ChangeShapes Go.WideShapes Go.ChangeAt Go.RowKit
open Fx Va Sh
set_option maxRecDepth 8000
set_option linter.unusedVariables false
set_option linter.unusedSimpArgs false

/-- A row of numbers of the call's own; what it holds is not said. -/
def RI (u : World) (v : Value) (n : Nat) : Prop := ∃ (lo : Nat) (zs : List Int), zs.length = n /\ u.ownsRow lo 3 1 v n (zs.map (Value.int .i64))
/-- The same for a row of elements. -/
def RV (u : World) (v : Value) (n : Nat) : Prop := ∃ (lo : Nat) (vs : List (Int × Int)), vs.length = n /\ u.ownsRow lo 29 2 v n (flV vs)
theorem own_setN {u : World} {base : Nat} {E : TypeId} {sz n : Nat} {v : Value} {xs : List Value} (h : u.ownsRow base E sz v n xs) {g o : Nat} {y : Value} (hg : v.ownBlock ≠ some g) : (u.setCell ⟨g, o, none⟩ y).ownsRow base E sz v n xs := h.kept grown_set (.inr hg)
theorem RI.far {u : World} {v : Value} {n g o : Nat} {y : Value} (h : RI u v n) (hg : v.ownBlock ≠ some g) : RI (u.setCell ⟨g, o, none⟩ y) v n := by
 obtain ⟨lo, zs, l, ow⟩ := h
 exact ⟨lo, zs, l, own_setN ow hg⟩
theorem RV.far {u : World} {v : Value} {n g o : Nat} {y : Value} (h : RV u v n) (hg : v.ownBlock ≠ some g) : RV (u.setCell ⟨g, o, none⟩ y) v n := by
 obtain ⟨lo, zs, l, ow⟩ := h
 exact ⟨lo, zs, l, own_setN ow hg⟩
theorem RI.put {u : World} {n c g j : Nat} {y : Int} (h : RI u (.slice (some ⟨g, 0, none⟩) n c) n) : RI (u.setCell ⟨g, j, none⟩ (.int .i64 y)) (.slice (some ⟨g, 0, none⟩) n c) n := by
 obtain ⟨lo, zs, l, ow⟩ := h
 refine ⟨lo, zs.set j y, by rw [List.length_set]; exact l, ?_⟩
 rw [List.map_set]
 exact (ow.stored j _).1
theorem RV.put {u : World} {n c g j : Nat} {y : Int} (hj : j < n) (h : RV u (.slice (some ⟨g, 0, none⟩) n c) n) : RV (u.setCell ⟨g, j * 2, none⟩ (.int .i64 y)) (.slice (some ⟨g, 0, none⟩) n c) n := by
 obtain ⟨lo, vs, l, ow⟩ := h
 refine ⟨lo, vs.set j (y, (vs.getD j (0, 0)).2), by rw [List.length_set]; exact l, ?_⟩
 rw [<- flV_set0 vs j y (by omega)]
 exact (ow.stored (j * 2) _).1
theorem RI.at {u : World} {n c j : Nat} {p : Option Addr} (h : RI u (.slice p n c) n) (hj : j < n) : ∃ g, p = some ⟨g, 0, none⟩ /\ g < u.heap.size /\ (∃ z : Int, u.cell? ⟨g, j, none⟩ = some (.int .i64 z)) /\ u.frozen? ⟨g, j, none⟩ = false := by
 obtain ⟨lo, zs, l, ow⟩ := h
 rcases ow.2 with ⟨h0, hn⟩ | ⟨g, cap, cur, h0, -⟩
 ·omega
 ·cases h0
  refine ⟨g, rfl, (ow.lt g rfl).2, ⟨zs.getD j 0, ?_⟩, ow.frozenAt j⟩
  rw [ow.cellAt j (by omega), List.getElem?_map, List.getElem?_eq_getElem (by omega), getD_at (by omega)]
  rfl
theorem RV.at {u : World} {n c j : Nat} {p : Option Addr} (h : RV u (.slice p n c) n) (hj : j < n) : ∃ g, p = some ⟨g, 0, none⟩ /\ g < u.heap.size /\ (∃ z : Int, u.cell? ⟨g, j * 2, none⟩ = some (.int .i64 z)) /\ u.frozen? ⟨g, j * 2, none⟩ = false := by
 obtain ⟨lo, vs, l, ow⟩ := h
 rcases ow.2 with ⟨h0, hn⟩ | ⟨g, cap, cur, h0, -⟩
 ·omega
 ·cases h0
  obtain ⟨v0, -⟩ := flV_get vs j (by omega)
  exact ⟨g, rfl, (ow.lt g rfl).2, ⟨_, (ow.cellAt (j * 2) (by omega)).trans v0⟩, ow.frozenAt (j * 2)⟩

/-- A block apart from all that must stay. -/
def SP (w : World) (gt ga gb gc : Nat) (others : List Value) (v : Value) : Prop := ∀ g, v.ownBlock = some g -> w.heap.size <= g /\ g ≠ gt /\ g ≠ ga /\ g ≠ gb /\ g ≠ gc /\ ∀ r ∈ others, r.ownBlock ≠ some g

end Go.Proofs.YteaaikmejacpaaaGreatDoor.Te

namespace Go.Proofs.YteaaikmejacpaaaGreatDoor.Te
open Go.ChangeShapes Go.WideShapes Go.ChangeAt Go.RowKit
open Fx Va Sh
set_option maxRecDepth 8000
set_option linter.unusedVariables false
set_option linter.unusedSimpArgs false

/-- A tensor as an answer, whatever it is: two rows of the call's own. -/
def TAny (w : World) (e : Ending) (w' : World) : Prop := ∃ (k0 k1 k2 k3 k4 : Int) (p : Option Addr) (c : Nat) (q : Option Addr) (d n m : Nat) (er : Int) (zs : List Int) (vs : List (Int × Int)), e = .returned (.tuple #[.agg #[.int .i64 k0, .int .i64 k1, .int .i64 k2, .int .i64 k3, .int .i64 k4, .slice p n c, .slice q m d], .int .i64 er]) /\ (zs.length = n /\ vs.length = m /\ n <= 500 /\ m <= 500) /\ w'.ownsRow w.heap.size 3 1 (.slice p n c) n (zs.map (Value.int .i64)) /\ w'.ownsRow w.heap.size 29 2 (.slice q m d) m (flV vs) /\ Below w.heap.size w w'
theorem TRes.any {K B F R O : Int} {zs : List Int} {vs : List (Int × Int)} {er : Int} {w w' : World} {e : Ending} (h : TRes K B F R O zs vs er w e w') (hn : zs.length <= 500) (hm : vs.length <= 500) : TAny w e w' := by
 obtain ⟨p, c, q, d, rfl, h1, h2, hb⟩ := h
 exact ⟨K, B, F, R, O, p, c, q, d, _, _, er, zs, vs, rfl, ⟨rfl, rfl, hn, hm⟩, h1, h2, hb⟩
/-- The tensor as it was given, in rows of the call's own. -/
def TSame (K B F R O : Int) (n m : Nat) (zs : List Int) (vs : List (Int × Int)) (w : World) (e : Ending) (w' : World) : Prop := ∃ p c q d, e = .returned (.tuple #[.agg #[.int .i64 K, .int .i64 B, .int .i64 F, .int .i64 R, .int .i64 O, .slice p n c, .slice q m d], .int .i64 0]) /\ w'.ownsRow w.heap.size 3 1 (.slice p n c) n (zs.map (Value.int .i64)) /\ w'.ownsRow w.heap.size 29 2 (.slice q m d) m (flV vs) /\ Below w.heap.size w w'
theorem TRes.same {K B F R O : Int} {n m : Nat} {zs : List Int} {vs : List (Int × Int)} {w w' : World} {e : Ending} (h : TRes K B F R O zs vs 0 w e w') (hn : zs.length = n) (hm : vs.length = m) : TSame K B F R O n m zs vs w e w' := by
 subst hn hm
 exact h
theorem own_set7N {u : World} {base : Nat} {E : TypeId} {sz n r : Nat} {v : Value} {xs : List Value} {x0 x1 x2 x3 x4 x5 x6 : Value} (h : u.ownsRow base E sz v n xs) (hr : v.ownBlock ≠ some r) : (((((((u.setCell ⟨r, 0, none⟩ x0).setCell ⟨r, 1, none⟩ x1).setCell ⟨r, 2, none⟩ x2).setCell ⟨r, 3, none⟩ x3).setCell ⟨r, 4, none⟩ x4).setCell ⟨r, 5, none⟩ x5).setCell ⟨r, 6, none⟩ x6).ownsRow base E sz v n xs :=
 own_setN (own_setN (own_setN (own_setN (own_setN (own_setN (own_setN h hr) hr) hr) hr) hr) hr) hr
theorem own_lo {u : World} {B : Nat} {E : TypeId} {sz n : Nat} {v : Value} {xs : List Value} (h : u.ownsRow B E sz v n xs) : ∀ k, v.ownBlock = some k -> B <= k /\ k < u.heap.size := fun k e => h.lt k e
theorem blk_ne {v : Value} {A Z g : Nat} (h : ∀ k, v.ownBlock = some k -> A <= k /\ k < Z) (hg : g < A \/ Z <= g) : v.ownBlock ≠ some g := fun e => by have := h g e; omega

end Go.Proofs.YteaaikmejacpaaaGreatDoor.Te

namespace Go.Proofs.YteaaikmejacpaaaGreatDoor.Te
open Go.ChangeShapes Go.WideShapes Go.ChangeAt Go.RowKit
open Fx Va Sh
set_option maxRecDepth 8000
set_option linter.unusedVariables false
set_option linter.unusedSimpArgs false

/-- A tensor, with the slices that hold it. -/
structure Tr where
 K : Int
 B : Int
 F : Int
 R : Int
 O : Int
 p : Option Addr
 zs : List Int
 c : Nat
 q : Option Addr
 vs : List (Int × Int)
 d : Nat
/-- What a tensor handed in is. -/
def okT (t : Tr) : Prop := -9223372036854775808 <= t.B /\ t.B <= 9223372036854775807 /\ t.zs.length <= t.c /\ t.c <= maxLen /\ t.vs.length <= t.d /\ t.d <= maxLen

def tEt (t : Tr) : Int := tE t.K t.B t.F t.R t.O t.zs t.vs
/-- Seven cells that hold a tensor. -/
def C7 (w : World) (b o : Nat) (t : Tr) : Prop := w.cell? ⟨b, o, none⟩ = some (.int .i64 t.K) /\ w.cell? ⟨b, o + 1, none⟩ = some (.int .i64 t.B) /\ w.cell? ⟨b, o + 2, none⟩ = some (.int .i64 t.F) /\ w.cell? ⟨b, o + 3, none⟩ = some (.int .i64 t.R) /\ w.cell? ⟨b, o + 4, none⟩ = some (.int .i64 t.O) /\ w.cell? ⟨b, o + 5, none⟩ = some (.slice t.p t.zs.length t.c) /\ w.cell? ⟨b, o + 6, none⟩ = some (.slice t.q t.vs.length t.d)
theorem C7.keep {w w' : World} {b o : Nat} {t : Tr} (hb : Below w.heap.size w w') (h : C7 w b o t) : C7 w' b o t := by
 obtain ⟨h0, h1, h2, h3, h4, h5, h6⟩ := h
 have l := World.block_lt_of_cell? _ _ h0
 exact ⟨Rg.keep hb l h0, Rg.keep hb l h1, Rg.keep hb l h2, Rg.keep hb l h3, Rg.keep hb l h4, Rg.keep hb l h5, Rg.keep hb l h6⟩
/-- A slice that reads as a list of tensors. -/
def SlX (w : World) (p : Option Addr) (L : List Tr) : Prop := ∀ i t, L[i]? = some t -> (∃ b o, p = some ⟨b, o, none⟩ /\ C7 w b (o + i * 7) t) /\ SlI w t.p t.zs /\ SlV w t.q t.vs
theorem SlX.keep {w w' : World} {p : Option Addr} {L : List Tr} (hb : Below w.heap.size w w') (h : SlX w p L) : SlX w' p L := fun i t e => by
 obtain ⟨⟨b, o, hp, hc⟩, hi, hv⟩ := h i t e
 exact ⟨⟨b, o, hp, hc.keep hb⟩, hi.keep hb, hv.below hb⟩
/-- The first error of the tensors themselves. -/
def ccV : List Tr -> Int
 | [] => 0
 | t :: r => if tEt t ≠ 0 then tEt t else ccV r
def tyq (h t : Tr) : Bool := decide (t.K = h.K) && (decide (t.B = h.B) && (decide (t.F = h.F) && (decide (t.R = h.R) && decide (t.O = h.O))))
/-- The first error of types and ranks. -/
def ccT (h : Tr) : List Tr -> Int
 | [] => 0
 | t :: r => if tyq h t = false then 10 else if t.zs.length ≠ h.zs.length then 11 else ccT h r
/-- Whether two shapes differ elsewhere than at an axis, from a place on. -/
def dfF (ax : Int) (a b : List Int) : Nat -> Nat -> Bool
 | 0, _ => false
 | f + 1, k => if (k : Int) ≠ ax /\ a.getD k 0 ≠ b.getD k 0 then true else dfF ax a b f (k + 1)
/-- The first error of lengths. -/
def ccD (ax : Int) (h : Tr) : List Tr -> Int
 | [] => 0
 | t :: r => if dfF ax t.zs h.zs h.zs.length 0 = true then 15 else ccD ax h r
/-- What checkConcat answers. -/
def ccE (ax : Int) : List Tr -> Int
 | [] => 1
 | h :: r => if ccV (h :: r) ≠ 0 then ccV (h :: r) else if ccT h r ≠ 0 then ccT h r else if ax < 0 \/ (h.zs.length : Int) <= ax then 11 else ccD ax h r
theorem drop_one {α : Type} {L : List α} {i : Nat} (h : i < L.length) : ∃ t, L[i]? = some t /\ L.drop i = t :: L.drop (i + 1) := ⟨L[i], List.getElem?_eq_getElem h, List.drop_eq_getElem_cons h⟩

end Go.Proofs.YteaaikmejacpaaaGreatDoor.Te

namespace Go.Proofs.YteaaikmejacpaaaGreatDoor.Te
open Go.ChangeShapes Go.WideShapes Go.ChangeAt Go.RowKit
open Fx Va Sh
set_option maxRecDepth 8000
set_option linter.unusedVariables false
set_option linter.unusedSimpArgs false

theorem ccE_v {ax E : Int} {L : List Tr} (h : ccV L = E) (hz : E ≠ 0) : ccE ax L = E := by
 cases L with
 | nil => exact absurd (by unfold ccV at h; exact h.symm) hz
 | cons x r =>
  show (if ccV (x :: r) ≠ 0 then ccV (x :: r) else _) = E
  rw [h, if_pos hz]
theorem ccE_eq {ax : Int} {L : List Tr} {h : Tr} {r : List Tr} (e : L = h :: r) (h0 : ccV L = 0) : ccE ax L = if ccT h r ≠ 0 then ccT h r else if ax < 0 \/ (h.zs.length : Int) <= ax then 11 else ccD ax h r := by
 subst e
 show (if ccV (h :: r) ≠ 0 then _ else _) = _
 rw [h0, if_neg (by simp)]
theorem drop_all {α : Type} {L : List α} {n : Nat} (h : L.length = n) : L.drop n = [] := List.drop_eq_nil_of_le (by omega)

theorem tyq_cases (h t : Tr) : (tyq h t = true /\ t.K = h.K /\ t.B = h.B /\ t.F = h.F /\ t.R = h.R /\ t.O = h.O) \/ (tyq h t = false /\ ((t.K == h.K) = false \/ (t.K = h.K /\ ((t.B == h.B) = false \/ (t.B = h.B /\ ((t.F == h.F) = false \/ (t.F = h.F /\ ((t.R == h.R) = false \/ (t.R = h.R /\ (t.O == h.O) = false))))))))) := by
 unfold tyq
 by_cases h0 : t.K = h.K <;> by_cases h1 : t.B = h.B <;> by_cases h2 : t.F = h.F <;> by_cases h3 : t.R = h.R <;> by_cases h4 : t.O = h.O <;> simp [h0, h1, h2, h3, h4]

theorem ccT_ok {h : Tr} : ∀ {r : List Tr}, ccT h r = 0 -> ∀ {t : Tr}, t ∈ r -> t.zs.length = h.zs.length
 | [], _, _, ht => absurd ht (by simp)
 | x :: r, e, t, ht => by
  unfold ccT at e
  by_cases h1 : tyq h x = false
  ·rw [if_pos h1] at e; exact absurd e (by decide)
  ·rw [if_neg h1] at e
   by_cases h2 : x.zs.length ≠ h.zs.length
   ·rw [if_pos h2] at e; exact absurd e (by decide)
   ·rw [if_neg h2] at e
    rcases List.mem_cons.1 ht with rfl | h3
    ·exact Classical.not_not.1 h2
    ·exact ccT_ok e h3

set_option maxRecDepth 100000 in
set_option maxHeartbeats 2000000 in
theorem ck_2 (ax : Int) (pb po : Nat) (L : List Tr) (cL : Nat) (w : World) (hn : L.length <= maxLen) (hc : L.length <= cL) (hcm : cL <= maxLen) (OK : ∀ t ∈ L, okT t) (RX : Hid (SlX w (some ⟨pb, po, none⟩) L)) (h1 : 2 <= L.length) :
  Calls Tryz.prog 74 #[.int .i64 ax, .slice (some ⟨pb, po, none⟩) L.length cL] w fun e w' => e = .returned (.int .i64 (ccE ax L)) /\ Below w.heap.size w w' := by
 have TVx := Lib.hid fun t (h : t ∈ L) u h1 h2 => tval t.K t.B t.F t.R t.O t.p t.zs t.c t.q t.vs t.d u (OK t h).1 (OK t h).2.1 (by have := OK t h; unfold okT at this; omega) (by have := OK t h; unfold okT at this; omega) h1 h2
 unfold Tn at TVx
 obtain ⟨h, heq, hdr0⟩ := drop_one (L := L) (i := 0) (by omega)
 rw [List.drop_zero] at hdr0
 obtain ⟨n, hnn⟩ : ∃ n, L.length = n := ⟨_, rfl⟩
 rw [hnn] at hn hc h1 ⊢
 have HN := Lib.hid hnn
 have HOK := Lib.hid OK
 have HEQ := Lib.hid heq
 have HD0 := Lib.hid hdr0
 obtain ⟨E, hE⟩ : ∃ E, ccV L = E := ⟨_, rfl⟩
 obtain ⟨AN, hAN⟩ : ∃ E, ccE ax L = E := ⟨_, rfl⟩
 rw [hAN]
 have HAN := Lib.hid hAN
 have HE := Lib.hid hE
 have gn : decide (n = 0) = false := by simp; omega
 have gn2 : decide ((n : Int) = 0) = false := by simp; omega
 have gn3 : ((n : Int) == 0) = false := by simp; omega
 unfold maxLen at hn hcm
 clear hnn OK hE hAN heq hdr0
 go_enter Tryz.func74, Tryz.ntmps74
 go_upto_region 4 with fail
 go_loopw [19] (fun iv wr => ∃ i : Nat, iv = .int .i64 (i : Int) /\ i <= n /\ Hid (ccV (L.drop i) = E) /\ Hid (Below w.heap.size w wr)) (fun iv _ => n - (intOf iv).toNat)
 case atStart => exact ⟨0, rfl, Nat.zero_le _, Lib.hid (by rw [List.drop_zero]; exact HE.out), Lib.hid (Below.refl _ _)⟩
 case round =>
  obtain ⟨i, rfl, hi, HI, KB⟩ := hrel
  by_cases him : i < n
  ·have hi2 : (i : Int) < n := by omega
   have hi0 : (0 : Int) <= i := by omega
   obtain ⟨t, het, hdr⟩ := drop_one (L := L) (i := i) (by rw [HN.out]; exact him)
   obtain ⟨⟨b, o, hp, hc7⟩, RI9, RV9⟩ := (SlX.keep KB.out RX.out) i t het
   cases hp
   obtain ⟨c0, c1, c2, c3, c4, c5, c6⟩ := hc7
   have TV := Lib.hid (TVx.out t (List.mem_of_getElem? het))
   have HI2 := HI.out
   rw [hdr] at HI2
   unfold ccV at HI2
   obtain ⟨e0, he0⟩ : ∃ e, tEt t = e := ⟨_, rfl⟩
   rw [he0] at HI2
   unfold tEt at he0
   rw [he0] at TV
   by_cases hz : e0 = 0
   ·rw [if_neg (by simpa using hz)] at HI2
    have HI3 := Lib.hid HI2
    subst hz
    clear he0 hdr het HI2
    go_wp2_with (first | (go_at_call 20; have W9 : Below wr.heap.size wr (wr.alloc (Obj.cells #[Value.int .i64 t.K, Value.int .i64 t.B, Value.int .i64 t.F, Value.int .i64 t.R, Value.int .i64 t.O, Value.slice t.p t.zs.length t.c, Value.slice t.q t.vs.length t.d] 27)) := (Below.refl _ _).alloc (Nat.le_refl _) _; (with_reducible refine (TV.out _ (Lib.hid (RI9.keep W9)) (Lib.hid (RV9.below W9))).mono ?_); rintro e w3 ⟨rfl, hb⟩; have K3 := Lib.hid (KB.out.trans ((W9.trans (hb.mono W9.size)).mono KB.out.size)); clear hb W9))
    go_roundw
    case rel => exact ⟨i + 1, by simp, by omega, HI3, K3⟩
    case measure => simp [intOf]; omega
   ·have hze : (e0 == 0) = false := by simpa using hz
    have hzn : (e0 != 0) = true := by simpa using hz
    rw [if_pos hz] at HI2
    have hAE : e0 = AN := by rw [<- HAN.out, ccE_v (HI2 ▸ HE.out) hz]
    subst hAE
    clear he0 hdr het HI2
    go_wp2_with (first | (go_at_call 20; have W9 : Below wr.heap.size wr (wr.alloc (Obj.cells #[Value.int .i64 t.K, Value.int .i64 t.B, Value.int .i64 t.F, Value.int .i64 t.R, Value.int .i64 t.O, Value.slice t.p t.zs.length t.c, Value.slice t.q t.vs.length t.d] 27)) := (Below.refl _ _).alloc (Nat.le_refl _) _; (with_reducible refine (TV.out _ (Lib.hid (RI9.keep W9)) (Lib.hid (RV9.below W9))).mono ?_); rintro e w3 ⟨rfl, hb⟩; have K3 := Lib.hid (KB.out.trans ((W9.trans (hb.mono W9.size)).mono KB.out.size)); clear hb W9))
    go_ret
    exact ⟨rfl, K3.out⟩
  ·obtain rfl : i = n := by omega
   have gN : decide ((i : Int) < i) = false := by simp
   have hE0 : E = 0 := by rw [<- HI.out, drop_all HN.out]; rfl
   have hAE := (ccE_eq (ax := ax) HD0.out (HE.out.trans hE0)).symm.trans HAN.out
   clear HI TVx HE HAN hi him
   subst hE0
   have hcl : ¬ cL = 1 := by omega
   have hil : (i : Int) <= 9223372036854775807 := by omega
   obtain ⟨ET, hET⟩ : ∃ e, ccT h (L.drop 1) = e := ⟨_, rfl⟩
   rw [hET] at hAE
   have HET := Lib.hid hET
   obtain ⟨hl, hhl⟩ : ∃ x, h.zs.length = x := ⟨_, rfl⟩
   rw [hhl] at hAE
   have HHL := Lib.hid hhl
   have HAE := Lib.hid hAE
   clear hET hAE hhl
   obtain ⟨r, hr⟩ : ∃ r, i - 1 = r := ⟨_, rfl⟩
   have HR := Lib.hid hr
   have hir : r + 1 = i := by omega
   go_upto_region 11 with fail
   have HIR := Lib.hid hir
   have hrl : (r : Int) < 9223372036854775807 := by omega
   clear hr hir gn gn2 gn3
   have KB1 := KB
   go_loopw [32] (fun iv wr => ∃ j : Nat, iv = .int .i64 (j : Int) /\ j <= r /\ Hid (ccT h (L.drop (1 + j)) = ET) /\ Hid (Below w.heap.size w wr)) (fun iv _ => r - (intOf iv).toNat)
   case atStart => exact ⟨0, rfl, Nat.zero_le _, Lib.hid HET.out, KB1⟩
   case round =>
    obtain ⟨j, rfl, hj, HJ, KB⟩ := hrel
    clear KB1
    by_cases hjr : j < r
    ·have hj2 : (j : Int) < r := by omega
     have hj0 : (0 : Int) <= j := by omega
     obtain ⟨⟨tK, tB, tF, tR, tO, tp, tz, tc, tq, tv, td⟩, het, hdr⟩ := drop_one (L := L) (i := 1 + j) (by have := HN.out; have := HIR.out; omega)
     have hj7 : po + (1 + j) * 7 = po + 7 + j * 7 := by omega
     obtain ⟨⟨b, o, hp, hc7⟩, -, -⟩ := (SlX.keep KB.out RX.out) (1 + j) _ het
     cases hp
     rw [hj7] at hc7
     obtain ⟨c0, c1, c2, c3, c4, c5, c6⟩ := hc7
     dsimp only at c0 c1 c2 c3 c4 c5 c6
     obtain ⟨⟨hb9, ho9, hhp, hh7⟩, -, -⟩ := (SlX.keep KB.out RX.out) 0 h HEQ.out
     cases hhp
     rw [Nat.zero_mul, Nat.add_zero] at hh7
     obtain ⟨h0, h1, h2, h3, h4, h5, h6⟩ := hh7
     have HJ2 := HJ.out
     rw [hdr, Nat.add_assoc] at HJ2
     unfold ccT at HJ2
     clear het hdr hj7
     go_upto_region 13 with fail
     have W9 : Below wr.heap.size wr (wr.alloc (Obj.cells #[Value.int .i64 tK, Value.int .i64 tB, Value.int .i64 tF, Value.int .i64 tR, Value.int .i64 tO, Value.slice tp tz.length tc, Value.slice tq tv.length td] 27)) := (Below.refl _ _).alloc (Nat.le_refl _) _
     have K4 := KB.out.trans (W9.mono KB.out.size)
     have M7 := B7.new wr 27 (.int .i64 tK) (.int .i64 tB) (.int .i64 tF) (.int .i64 tR) (.int .i64 tO) (.slice tp tz.length tc) (.slice tq tv.length td)
     replace h0 := Rg.keep W9 (World.block_lt_of_cell? _ _ h0) h0; replace h1 := Rg.keep W9 (World.block_lt_of_cell? _ _ h1) h1; replace h2 := Rg.keep W9 (World.block_lt_of_cell? _ _ h2) h2; replace h3 := Rg.keep W9 (World.block_lt_of_cell? _ _ h3) h3; replace h4 := Rg.keep W9 (World.block_lt_of_cell? _ _ h4) h4; replace h5 := Rg.keep W9 (World.block_lt_of_cell? _ _ h5) h5; replace h6 := Rg.keep W9 (World.block_lt_of_cell? _ _ h6) h6
     generalize (wr.alloc (Obj.cells #[Value.int .i64 tK, Value.int .i64 tB, Value.int .i64 tF, Value.int .i64 tR, Value.int .i64 tO, Value.slice tp tz.length tc, Value.slice tq tv.length td] 27)) = w4 at *
     have M7b := Lib.hid M7
     have H7b : Hid (C7 w4 pb po h) := Lib.hid ⟨h0, h1, h2, h3, h4, h5, h6⟩
     obtain ⟨⟨m0, m1, m2, m3, m4, m5, m6⟩, -⟩ := M7
     clear W9 c0 c1 c2 c3 c4 c5 c6
     have HJ3 := Lib.hid HJ2
     clear HJ2
     rcases tyq_cases h ⟨tK, tB, tF, tR, tO, tp, tz, tc, tq, tv, td⟩ with ⟨ht, rfl, rfl, rfl, rfl, rfl⟩ | ⟨ht, g | ⟨rfl, g | ⟨rfl, g | ⟨rfl, g | ⟨rfl, g⟩⟩⟩⟩⟩
     ·have HJ4 := HJ3.out
      rw [if_neg (by rw [ht]; decide)] at HJ4
      have HJ5 := Lib.hid HJ4
      clear ht HJ3 HJ4
      go_quiet (fail)
      obtain ⟨wo, hwo⟩ : ∃ wo : World, wo = w4.drewN nq := ⟨_, rfl⟩
      rw [<- hwo]
      have KO : Hid (Below w.heap.size w wo) := Lib.hid (by rw [hwo]; exact below_drewN K4 _)
      have MO : B7 wo (wr.heap.size) (.int .i64 h.K) (.int .i64 h.B) (.int .i64 h.F) (.int .i64 h.R) (.int .i64 h.O) (.slice tp tz.length tc) (.slice tq tv.length td) := by rw [hwo]; exact M7b.out
      have HO : C7 wo pb po h := by rw [hwo]; exact H7b.out
      clear hwo M7b H7b m0 m1 m2 m3 m4 m5 m6 h0 h1 h2 h3 h4 h5 h6 K4
      obtain ⟨⟨m0, m1, m2, m3, m4, m5, m6⟩, -⟩ := MO
      obtain ⟨h0, h1, h2, h3, h4, h5, h6⟩ := HO
      rw [HHL.out] at h5
      have HJ6 := HJ5.out
      rw [HHL.out] at HJ6
      obtain ⟨tl, htl⟩ : ∃ x, tz.length = x := ⟨_, rfl⟩
      dsimp only at HJ6
      rw [htl] at m5 HJ6 ⊢
      clear HJ5 htl
      go_upto_region 15 with fail
      by_cases hll : tl = hl
      ·rw [if_neg (by simpa using hll)] at HJ6
       subst hll
       have HJ7 := Lib.hid HJ6
       clear HJ6
       go_quiet (fail)
       go_wp2_with fail
       go_roundw
       case rel => exact ⟨j + 1, by simp, by omega, HJ7, Lib.hid (below_drewN KO.out _)⟩
       case measure => simp [intOf]; omega
      ·have gl : ((tl : Int) != (hl : Int)) = true := by simp; omega
       have gl2 : (tl != hl) = true := by simp; omega
       have hA : (11 : Int) = AN := by
        rw [if_pos hll] at HJ6
        rw [<- HAE.out, <- HJ6, if_pos (by decide)]
       subst hA
       clear HJ6 hll
       go_quiet (fail)
       go_wp2_with fail
       go_ret
       exact ⟨rfl, below_drewN KO.out _⟩
     all_goals
      have hA : (10 : Int) = AN := by
       have h2 := HJ3.out
       rw [if_pos ht] at h2
       rw [<- HAE.out, <- h2, if_pos (by decide)]
      subst hA
      clear ht HJ3
      go_quiet (fail)
      go_wp2_with fail
      go_ret
      exact ⟨rfl, below_drewN K4 _⟩
    ·obtain rfl : j = r := by omega
     have gN2 : decide ((j : Int) < j) = false := by simp
     have hET0 : ET = 0 := by rw [<- HJ.out, drop_all (by have := HN.out; have := HIR.out; omega)]; rfl
     have HTT := Lib.hid fun t (ht : t ∈ L.drop 1) => ccT_ok (HET.out.trans hET0) ht
     have hAE := HAE.out
     rw [hET0, if_neg (by decide)] at hAE
     obtain ⟨⟨hb9, ho9, hhp, hh7⟩, -, -⟩ := (SlX.keep KB.out RX.out) 0 h HEQ.out
     cases hhp
     rw [Nat.zero_mul, Nat.add_zero] at hh7
     obtain ⟨h0, h1, h2, h3, h4, h5, h6⟩ := hh7
     rw [HHL.out] at h5
     clear HJ HET HAE hj hjr
     subst hET0
     by_cases ha : ax < 0
     ·rw [if_pos (.inl ha)] at hAE
      subst hAE
      have ga : decide (ax < 0) = true := by simpa using ha
      go_wp2_with fail
      go_ret
      exact ⟨rfl, KB.out⟩
     have ga : decide (ax < 0) = false := by simpa using ha
     by_cases hb : (hl : Int) <= ax
     ·rw [if_pos (.inr hb)] at hAE
      subst hAE
      have gb : decide ((hl : Int) <= ax) = true := by simpa using hb
      go_wp2_with fail
      go_ret
      exact ⟨rfl, KB.out⟩
     have gb : decide ((hl : Int) <= ax) = false := by simpa using hb
     rw [if_neg (by omega)] at hAE
     have HAE := Lib.hid hAE
     have KB1 := KB
     have hr9 := HR.out
     go_upto_region 21 with fail
     clear hr9 gN2
     go_loopw [67] (fun iv wr => ∃ k : Nat, iv = .int .i64 (k : Int) /\ k <= j /\ Hid (ccD ax h (L.drop (1 + k)) = AN) /\ Hid (Below w.heap.size w wr)) (fun iv _ => j - (intOf iv).toNat)
     case atStart => exact ⟨0, rfl, Nat.zero_le _, HAE, KB1⟩
     case round =>
      obtain ⟨k, rfl, hk, HK, KB⟩ := hrel
      clear KB1 h0 h1 h2 h3 h4 h5 h6
      by_cases hkj : k < j
      ·have hk2 : (k : Int) < j := by omega
       have hk0 : (0 : Int) <= k := by omega
       obtain ⟨t, het, hdr⟩ := drop_one (L := L) (i := 1 + k) (by have := HN.out; have := HIR.out; omega)
       have htl : t.zs.length = hl := (HTT.out t (by rw [List.mem_iff_getElem?]; exact ⟨k, by rw [List.getElem?_drop]; exact het⟩)).trans HHL.out
       have hj7 : po + (1 + k) * 7 = po + 7 + k * 7 := by omega
       obtain ⟨⟨b, o, hp, hc7⟩, RI9, -⟩ := (SlX.keep KB.out RX.out) (1 + k) _ het
       cases hp
       rw [hj7] at hc7
       obtain ⟨c0, c1, c2, c3, c4, c5, c6⟩ := hc7
       rw [htl] at c5
       obtain ⟨⟨hb9, ho9, hhp, hh7⟩, RH9, -⟩ := (SlX.keep KB.out RX.out) 0 h HEQ.out
       cases hhp
       rw [Nat.zero_mul, Nat.add_zero] at hh7
       have HK2 := HK.out
       rw [hdr, Nat.add_assoc] at HK2
       unfold ccD at HK2
       rw [HHL.out] at HK2
       clear hdr hj7 het
       go_upto_region 23 with fail
       have W9 : Below wr.heap.size wr (wr.alloc (Obj.cells #[Value.int .i64 t.K, Value.int .i64 t.B, Value.int .i64 t.F, Value.int .i64 t.R, Value.int .i64 t.O, Value.slice t.p hl t.c, Value.slice t.q t.vs.length t.d] 27)) := (Below.refl _ _).alloc (Nat.le_refl _) _
       have K4 := Lib.hid (KB.out.trans (W9.mono KB.out.size))
       have M7 := B7.new wr 27 (.int .i64 t.K) (.int .i64 t.B) (.int .i64 t.F) (.int .i64 t.R) (.int .i64 t.O) (.slice t.p hl t.c) (.slice t.q t.vs.length t.d)
       have H7 := hh7.keep W9
       have RI4 := Lib.hid (RI9.keep W9)
       have RH4 := Lib.hid (RH9.keep W9)
       clear W9 c0 c1 c2 c3 c4 c5 c6 hh7 RI9 RH9
       generalize (wr.alloc (Obj.cells #[Value.int .i64 t.K, Value.int .i64 t.B, Value.int .i64 t.F, Value.int .i64 t.R, Value.int .i64 t.O, Value.slice t.p hl t.c, Value.slice t.q t.vs.length t.d] 27)) = w4 at *
       obtain ⟨⟨m0, m1, m2, m3, m4, m5, m6⟩, -⟩ := M7
       obtain ⟨h0, h1, h2, h3, h4, h5, h6⟩ := H7
       rw [HHL.out] at h5
       obtain ⟨D, hD⟩ : ∃ D, dfF ax t.zs h.zs hl 0 = D := ⟨_, rfl⟩
       rw [hD] at HK2
       have HDD := Lib.hid hD
       have HK3 := Lib.hid HK2
       have HTL := Lib.hid htl
       clear hD HK2 HK htl
       go_upto_region 24 with fail
       go_loopw [74] (fun iv wr => ∃ x : Nat, iv = .int .i64 (x : Int) /\ x <= hl /\ Hid (dfF ax t.zs h.zs (hl - x) x = D) /\ wr = w4) (fun iv _ => hl - (intOf iv).toNat)
       case atStart => exact ⟨0, rfl, Nat.zero_le _, HDD, rfl⟩
       case round =>
        obtain ⟨x, rfl, hx, HX, rfl⟩ := hrel
        by_cases hxl : x < hl
        ·have hx2 : (x : Int) < hl := by omega
         have hx0 : (0 : Int) <= x := by omega
         have hxm : (x : Int) < 9223372036854775807 := by have h := HOK.out h (List.mem_of_getElem? HEQ.out); unfold okT maxLen at h; have := HHL.out; omega
         obtain ⟨b1, o1, hp1, v1⟩ := RI4.out x (by rw [HTL.out]; exact hxl)
         obtain ⟨b2, o2, hp2, v2⟩ := RH4.out x (by rw [HHL.out]; exact hxl)
         have HX2 := HX.out
         rw [show hl - x = (hl - (x + 1)) + 1 by omega] at HX2
         unfold dfF at HX2
         obtain ⟨y1, hy1⟩ : ∃ y, t.zs.getD x 0 = y := ⟨_, rfl⟩
         obtain ⟨y2, hy2⟩ : ∃ y, h.zs.getD x 0 = y := ⟨_, rfl⟩
         rw [hy1] at v1 HX2
         rw [hy2] at v2 HX2
         clear hy1 hy2
         rw [hp1] at m5
         rw [hp2] at h5
         by_cases hxa : (x : Int) = ax
         ·rw [if_neg (fun h => h.1 hxa)] at HX2
          have HX3 := Lib.hid HX2
          have gx : ((x : Int) != ax) = false := by simpa using hxa
          clear HX2 hxa HX
          go_wp2_with fail
          go_roundw
          case rel => exact ⟨x + 1, by simp, by omega, HX3, trivial⟩
          case measure => simp [intOf]; omega
         ·have gx : ((x : Int) != ax) = true := by simpa using hxa
          by_cases hyy : y1 = y2
          ·rw [if_neg (fun h => h.2 hyy)] at HX2
           have HX3 := Lib.hid HX2
           subst hyy
           clear HX2 hxa HX
           go_wp2_with fail
           go_roundw
           case rel => exact ⟨x + 1, by simp, by omega, HX3, trivial⟩
           case measure => simp [intOf]; omega
          ·rw [if_pos ⟨hxa, hyy⟩] at HX2
           have gy : (y1 != y2) = true := by simpa using hyy
           have hA : (15 : Int) = AN := by
            have h2 := HK3.out
            rw [<- HX2, if_pos rfl] at h2
            exact h2
           subst hA
           clear HX2 hxa hyy HX
           go_wp2_with fail
           go_ret
           exact ⟨rfl, K4.out⟩
        ·obtain rfl : x = hl := by omega
         have gN5 : decide ((x : Int) < x) = false := by simp
         have HX2 := HX.out
         rw [Nat.sub_self] at HX2
         have hk3 : ccD ax h (L.drop (1 + (k + 1))) = AN := by
          have h2 := HK3.out
          rw [<- HX2] at h2
          unfold dfF at h2
          rw [if_neg (by decide)] at h2
          exact h2
         have HK4 := Lib.hid hk3
         clear HX2 hk3 HX hx hxl
         go_wp2_with fail
         go_roundw
         case rel => exact ⟨k + 1, by simp, by omega, HK4, K4⟩
         case measure => simp [intOf]; omega
      ·obtain rfl : k = j := by omega
       have gN6 : decide ((k : Int) < k) = false := by simp
       have hA : AN = 0 := by rw [<- HK.out, drop_all (by have := HN.out; have := HIR.out; omega)]; rfl
       subst hA
       clear HK hk hkj
       go_wp2_with fail
       go_ret
       exact ⟨rfl, KB.out⟩
end Go.Proofs.YteaaikmejacpaaaGreatDoor.Te

namespace Go.Proofs.YteaaikmejacpaaaGreatDoor.Te
open Go.ChangeShapes Go.WideShapes Go.ChangeAt Go.RowKit
open Fx Va Sh
set_option maxRecDepth 8000
set_option linter.unusedVariables false
set_option linter.unusedSimpArgs false

set_option maxRecDepth 100000 in
set_option maxHeartbeats 2000000 in
theorem ck_1 (ax : Int) (pb po : Nat) (L : List Tr) (cL : Nat) (w : World) (hn : L.length <= maxLen) (hc : L.length <= cL) (hcm : cL <= maxLen) (OK : ∀ t ∈ L, okT t) (RX : Hid (SlX w (some ⟨pb, po, none⟩) L)) (h1 : L.length = 1) (hcl : ¬ cL = 1) :
  Calls Tryz.prog 74 #[.int .i64 ax, .slice (some ⟨pb, po, none⟩) L.length cL] w fun e w' => e = .returned (.int .i64 (ccE ax L)) /\ Below w.heap.size w w' := by
 have TVx := Lib.hid fun t (h : t ∈ L) u h1 h2 => tval t.K t.B t.F t.R t.O t.p t.zs t.c t.q t.vs t.d u (OK t h).1 (OK t h).2.1 (by have := OK t h; unfold okT at this; omega) (by have := OK t h; unfold okT at this; omega) h1 h2
 unfold Tn at TVx
 obtain ⟨h, heq, hdr0⟩ := drop_one (L := L) (i := 0) (by omega)
 rw [List.drop_zero] at hdr0
 obtain ⟨n, hnn⟩ : ∃ n, L.length = n := ⟨_, rfl⟩
 rw [hnn] at hn hc h1 ⊢
 have HN1 := Lib.hid h1
 have HCL := Lib.hid hcl
 clear hcl
 replace h1 : 1 <= n := by omega
 have HN := Lib.hid hnn
 have HOK := Lib.hid OK
 have HEQ := Lib.hid heq
 have HD0 := Lib.hid hdr0
 obtain ⟨E, hE⟩ : ∃ E, ccV L = E := ⟨_, rfl⟩
 obtain ⟨AN, hAN⟩ : ∃ E, ccE ax L = E := ⟨_, rfl⟩
 rw [hAN]
 have HAN := Lib.hid hAN
 have HE := Lib.hid hE
 have gn : decide (n = 0) = false := by simp; omega
 have gn2 : decide ((n : Int) = 0) = false := by simp; omega
 have gn3 : ((n : Int) == 0) = false := by simp; omega
 unfold maxLen at hn hcm
 clear hnn OK hE hAN heq hdr0
 go_enter Tryz.func74, Tryz.ntmps74
 go_upto_region 4 with fail
 go_loopw [19] (fun iv wr => ∃ i : Nat, iv = .int .i64 (i : Int) /\ i <= n /\ Hid (ccV (L.drop i) = E) /\ Hid (Below w.heap.size w wr)) (fun iv _ => n - (intOf iv).toNat)
 case atStart => exact ⟨0, rfl, Nat.zero_le _, Lib.hid (by rw [List.drop_zero]; exact HE.out), Lib.hid (Below.refl _ _)⟩
 case round =>
  obtain ⟨i, rfl, hi, HI, KB⟩ := hrel
  by_cases him : i < n
  ·have hi2 : (i : Int) < n := by omega
   have hi0 : (0 : Int) <= i := by omega
   obtain ⟨t, het, hdr⟩ := drop_one (L := L) (i := i) (by rw [HN.out]; exact him)
   obtain ⟨⟨b, o, hp, hc7⟩, RI9, RV9⟩ := (SlX.keep KB.out RX.out) i t het
   cases hp
   obtain ⟨c0, c1, c2, c3, c4, c5, c6⟩ := hc7
   have TV := Lib.hid (TVx.out t (List.mem_of_getElem? het))
   have HI2 := HI.out
   rw [hdr] at HI2
   unfold ccV at HI2
   obtain ⟨e0, he0⟩ : ∃ e, tEt t = e := ⟨_, rfl⟩
   rw [he0] at HI2
   unfold tEt at he0
   rw [he0] at TV
   by_cases hz : e0 = 0
   ·rw [if_neg (by simpa using hz)] at HI2
    have HI3 := Lib.hid HI2
    subst hz
    clear he0 hdr het HI2
    go_wp2_with (first | (go_at_call 20; have W9 : Below wr.heap.size wr (wr.alloc (Obj.cells #[Value.int .i64 t.K, Value.int .i64 t.B, Value.int .i64 t.F, Value.int .i64 t.R, Value.int .i64 t.O, Value.slice t.p t.zs.length t.c, Value.slice t.q t.vs.length t.d] 27)) := (Below.refl _ _).alloc (Nat.le_refl _) _; (with_reducible refine (TV.out _ (Lib.hid (RI9.keep W9)) (Lib.hid (RV9.below W9))).mono ?_); rintro e w3 ⟨rfl, hb⟩; have K3 := Lib.hid (KB.out.trans ((W9.trans (hb.mono W9.size)).mono KB.out.size)); clear hb W9))
    go_roundw
    case rel => exact ⟨i + 1, by simp, by omega, HI3, K3⟩
    case measure => simp [intOf]; omega
   ·have hze : (e0 == 0) = false := by simpa using hz
    have hzn : (e0 != 0) = true := by simpa using hz
    rw [if_pos hz] at HI2
    have hAE : e0 = AN := by rw [<- HAN.out, ccE_v (HI2 ▸ HE.out) hz]
    subst hAE
    clear he0 hdr het HI2
    go_wp2_with (first | (go_at_call 20; have W9 : Below wr.heap.size wr (wr.alloc (Obj.cells #[Value.int .i64 t.K, Value.int .i64 t.B, Value.int .i64 t.F, Value.int .i64 t.R, Value.int .i64 t.O, Value.slice t.p t.zs.length t.c, Value.slice t.q t.vs.length t.d] 27)) := (Below.refl _ _).alloc (Nat.le_refl _) _; (with_reducible refine (TV.out _ (Lib.hid (RI9.keep W9)) (Lib.hid (RV9.below W9))).mono ?_); rintro e w3 ⟨rfl, hb⟩; have K3 := Lib.hid (KB.out.trans ((W9.trans (hb.mono W9.size)).mono KB.out.size)); clear hb W9))
    go_ret
    exact ⟨rfl, K3.out⟩
  ·obtain rfl : i = n := by omega
   have gN : decide ((i : Int) < i) = false := by simp
   have hE0 : E = 0 := by rw [<- HI.out, drop_all HN.out]; rfl
   have hAE := (ccE_eq (ax := ax) HD0.out (HE.out.trans hE0)).symm.trans HAN.out
   clear HI TVx HE HAN hi him
   subst hE0
   have hil : (i : Int) <= 9223372036854775807 := by omega
   obtain ⟨r, hr⟩ : ∃ r, i - 1 = r := ⟨_, rfl⟩
   have HR := Lib.hid hr
   have HR0 : Hid (r = 0) := Lib.hid (by have := HN1.out; omega)
   have hLD : L.drop 1 = [] := drop_all (by have := HN.out; have := HN1.out; omega)
   rw [show L.drop (0 + 1) = [] from hLD] at hAE
   obtain ⟨hl, hhl⟩ : ∃ x, h.zs.length = x := ⟨_, rfl⟩
   rw [hhl] at hAE
   have HHL := Lib.hid hhl
   unfold ccT at hAE
   rw [if_neg (by decide)] at hAE
   have hi1 : 1 <= i := by omega
   clear hLD hhl h1
   have hcl := HCL.out
   go_upto_region 11 with fail
   clear gn gn2 gn3 hr hcl
   go_loopw [32] (fun iv wr => iv = .int .i64 0 /\ Hid (Below w.heap.size w wr)) (fun iv _ => 0)
   case atStart => exact ⟨rfl, KB⟩
   case round =>
    obtain ⟨rfl, KB⟩ := hrel
    have gz : decide ((0 : Int) < r) = false := by have := HR0.out; simp; omega
    have gz2 : decide (0 < r) = false := by have := HR0.out; simp; omega
    obtain ⟨⟨hb9, ho9, hhp, hh7⟩, -, -⟩ := (SlX.keep KB.out RX.out) 0 h HEQ.out
    cases hhp
    rw [Nat.zero_mul, Nat.add_zero] at hh7
    obtain ⟨h0, h1, h2, h3, h4, h5, h6⟩ := hh7
    rw [HHL.out] at h5
    by_cases ha : ax < 0
    ·rw [if_pos (.inl ha)] at hAE
     subst hAE
     have ga : decide (ax < 0) = true := by simpa using ha
     go_wp2_with fail
     go_ret
     exact ⟨rfl, KB.out⟩
    have ga : decide (ax < 0) = false := by simpa using ha
    by_cases hb : (hl : Int) <= ax
    ·rw [if_pos (.inr hb)] at hAE
     subst hAE
     have gb : decide ((hl : Int) <= ax) = true := by simpa using hb
     go_wp2_with fail
     go_ret
     exact ⟨rfl, KB.out⟩
    have gb : decide ((hl : Int) <= ax) = false := by simpa using hb
    rw [if_neg (by omega)] at hAE
    unfold ccD at hAE
    subst hAE
    have hr9 := HR.out
    have hcl := HCL.out
    go_upto_region 21 with fail
    clear hr9 hcl
    go_loopw [67] (fun iv wr => iv = .int .i64 0 /\ Hid (Below w.heap.size w wr)) (fun iv _ => 0)
    case atStart => exact ⟨rfl, KB⟩
    case round =>
     obtain ⟨rfl, KB⟩ := hrel
     clear h0 h1 h2 h3 h4 h5 h6
     go_wp2_with fail
     go_ret
     exact ⟨rfl, KB.out⟩

set_option maxRecDepth 100000 in
set_option maxHeartbeats 2000000 in
theorem ck_0 (ax : Int) (pb po : Nat) (L : List Tr) (cL : Nat) (w : World) (hn : L.length <= maxLen) (hc : L.length <= cL) (hcm : cL <= maxLen) (OK : ∀ t ∈ L, okT t) (RX : Hid (SlX w (some ⟨pb, po, none⟩) L)) (h1 : L.length = 1) (hcl : cL = 1) :
  Calls Tryz.prog 74 #[.int .i64 ax, .slice (some ⟨pb, po, none⟩) L.length cL] w fun e w' => e = .returned (.int .i64 (ccE ax L)) /\ Below w.heap.size w w' := by
 have TVx := Lib.hid fun t (h : t ∈ L) u h1 h2 => tval t.K t.B t.F t.R t.O t.p t.zs t.c t.q t.vs t.d u (OK t h).1 (OK t h).2.1 (by have := OK t h; unfold okT at this; omega) (by have := OK t h; unfold okT at this; omega) h1 h2
 unfold Tn at TVx
 obtain ⟨h, heq, hdr0⟩ := drop_one (L := L) (i := 0) (by omega)
 rw [List.drop_zero] at hdr0
 obtain ⟨n, hnn⟩ : ∃ n, L.length = n := ⟨_, rfl⟩
 rw [hnn] at hn hc h1 ⊢
 have HN1 := Lib.hid h1
 have HCL := Lib.hid hcl
 clear hcl
 replace h1 : 1 <= n := by omega
 have HN := Lib.hid hnn
 have HOK := Lib.hid OK
 have HEQ := Lib.hid heq
 have HD0 := Lib.hid hdr0
 obtain ⟨E, hE⟩ : ∃ E, ccV L = E := ⟨_, rfl⟩
 obtain ⟨AN, hAN⟩ : ∃ E, ccE ax L = E := ⟨_, rfl⟩
 rw [hAN]
 have HAN := Lib.hid hAN
 have HE := Lib.hid hE
 have gn : decide (n = 0) = false := by simp; omega
 have gn2 : decide ((n : Int) = 0) = false := by simp; omega
 have gn3 : ((n : Int) == 0) = false := by simp; omega
 unfold maxLen at hn hcm
 clear hnn OK hE hAN heq hdr0
 go_enter Tryz.func74, Tryz.ntmps74
 go_upto_region 4 with fail
 go_loopw [19] (fun iv wr => ∃ i : Nat, iv = .int .i64 (i : Int) /\ i <= n /\ Hid (ccV (L.drop i) = E) /\ Hid (Below w.heap.size w wr)) (fun iv _ => n - (intOf iv).toNat)
 case atStart => exact ⟨0, rfl, Nat.zero_le _, Lib.hid (by rw [List.drop_zero]; exact HE.out), Lib.hid (Below.refl _ _)⟩
 case round =>
  obtain ⟨i, rfl, hi, HI, KB⟩ := hrel
  by_cases him : i < n
  ·have hi2 : (i : Int) < n := by omega
   have hi0 : (0 : Int) <= i := by omega
   obtain ⟨t, het, hdr⟩ := drop_one (L := L) (i := i) (by rw [HN.out]; exact him)
   obtain ⟨⟨b, o, hp, hc7⟩, RI9, RV9⟩ := (SlX.keep KB.out RX.out) i t het
   cases hp
   obtain ⟨c0, c1, c2, c3, c4, c5, c6⟩ := hc7
   have TV := Lib.hid (TVx.out t (List.mem_of_getElem? het))
   have HI2 := HI.out
   rw [hdr] at HI2
   unfold ccV at HI2
   obtain ⟨e0, he0⟩ : ∃ e, tEt t = e := ⟨_, rfl⟩
   rw [he0] at HI2
   unfold tEt at he0
   rw [he0] at TV
   by_cases hz : e0 = 0
   ·rw [if_neg (by simpa using hz)] at HI2
    have HI3 := Lib.hid HI2
    subst hz
    clear he0 hdr het HI2
    go_wp2_with (first | (go_at_call 20; have W9 : Below wr.heap.size wr (wr.alloc (Obj.cells #[Value.int .i64 t.K, Value.int .i64 t.B, Value.int .i64 t.F, Value.int .i64 t.R, Value.int .i64 t.O, Value.slice t.p t.zs.length t.c, Value.slice t.q t.vs.length t.d] 27)) := (Below.refl _ _).alloc (Nat.le_refl _) _; (with_reducible refine (TV.out _ (Lib.hid (RI9.keep W9)) (Lib.hid (RV9.below W9))).mono ?_); rintro e w3 ⟨rfl, hb⟩; have K3 := Lib.hid (KB.out.trans ((W9.trans (hb.mono W9.size)).mono KB.out.size)); clear hb W9))
    go_roundw
    case rel => exact ⟨i + 1, by simp, by omega, HI3, K3⟩
    case measure => simp [intOf]; omega
   ·have hze : (e0 == 0) = false := by simpa using hz
    have hzn : (e0 != 0) = true := by simpa using hz
    rw [if_pos hz] at HI2
    have hAE : e0 = AN := by rw [<- HAN.out, ccE_v (HI2 ▸ HE.out) hz]
    subst hAE
    clear he0 hdr het HI2
    go_wp2_with (first | (go_at_call 20; have W9 : Below wr.heap.size wr (wr.alloc (Obj.cells #[Value.int .i64 t.K, Value.int .i64 t.B, Value.int .i64 t.F, Value.int .i64 t.R, Value.int .i64 t.O, Value.slice t.p t.zs.length t.c, Value.slice t.q t.vs.length t.d] 27)) := (Below.refl _ _).alloc (Nat.le_refl _) _; (with_reducible refine (TV.out _ (Lib.hid (RI9.keep W9)) (Lib.hid (RV9.below W9))).mono ?_); rintro e w3 ⟨rfl, hb⟩; have K3 := Lib.hid (KB.out.trans ((W9.trans (hb.mono W9.size)).mono KB.out.size)); clear hb W9))
    go_ret
    exact ⟨rfl, K3.out⟩
  ·obtain rfl : i = n := by omega
   have gN : decide ((i : Int) < i) = false := by simp
   have hE0 : E = 0 := by rw [<- HI.out, drop_all HN.out]; rfl
   have hAE := (ccE_eq (ax := ax) HD0.out (HE.out.trans hE0)).symm.trans HAN.out
   clear HI TVx HE HAN hi him
   subst hE0
   have hil : (i : Int) <= 9223372036854775807 := by omega
   obtain ⟨r, hr⟩ : ∃ r, i - 1 = r := ⟨_, rfl⟩
   have HR := Lib.hid hr
   have HR0 : Hid (r = 0) := Lib.hid (by have := HN1.out; omega)
   have hLD : L.drop 1 = [] := drop_all (by have := HN.out; have := HN1.out; omega)
   rw [show L.drop (0 + 1) = [] from hLD] at hAE
   obtain ⟨hl, hhl⟩ : ∃ x, h.zs.length = x := ⟨_, rfl⟩
   rw [hhl] at hAE
   have HHL := Lib.hid hhl
   unfold ccT at hAE
   rw [if_neg (by decide)] at hAE
   have hi1 : 1 <= i := by omega
   clear hLD hhl h1
   have hcl := HCL.out
   go_upto_region 11 with fail
   clear gn gn2 gn3 hr hcl
   go_loopw [32] (fun iv wr => iv = .int .i64 0 /\ Hid (Below w.heap.size w wr)) (fun iv _ => 0)
   case atStart => exact ⟨rfl, KB⟩
   case round =>
    obtain ⟨rfl, KB⟩ := hrel
    have gz : decide ((0 : Int) < r) = false := by have := HR0.out; simp; omega
    have gz2 : decide (0 < r) = false := by have := HR0.out; simp; omega
    obtain ⟨⟨hb9, ho9, hhp, hh7⟩, -, -⟩ := (SlX.keep KB.out RX.out) 0 h HEQ.out
    cases hhp
    rw [Nat.zero_mul, Nat.add_zero] at hh7
    obtain ⟨h0, h1, h2, h3, h4, h5, h6⟩ := hh7
    rw [HHL.out] at h5
    by_cases ha : ax < 0
    ·rw [if_pos (.inl ha)] at hAE
     subst hAE
     have ga : decide (ax < 0) = true := by simpa using ha
     go_wp2_with fail
     go_ret
     exact ⟨rfl, KB.out⟩
    have ga : decide (ax < 0) = false := by simpa using ha
    by_cases hb : (hl : Int) <= ax
    ·rw [if_pos (.inr hb)] at hAE
     subst hAE
     have gb : decide ((hl : Int) <= ax) = true := by simpa using hb
     go_wp2_with fail
     go_ret
     exact ⟨rfl, KB.out⟩
    have gb : decide ((hl : Int) <= ax) = false := by simpa using hb
    rw [if_neg (by omega)] at hAE
    unfold ccD at hAE
    subst hAE
    have hr9 := HR.out
    have hcl := HCL.out
    go_upto_region 21 with fail
    clear hr9 hcl
    go_loopw [67] (fun iv wr => iv = .int .i64 0 /\ Hid (Below w.heap.size w wr)) (fun iv _ => 0)
    case atStart => exact ⟨rfl, KB⟩
    case round =>
     obtain ⟨rfl, KB⟩ := hrel
     clear h0 h1 h2 h3 h4 h5 h6
     go_wp2_with fail
     go_ret
     exact ⟨rfl, KB.out⟩

theorem ck (ax : Int) (p : Option Addr) (L : List Tr) (cL : Nat) (w : World) (hn : L.length <= maxLen) (hc : L.length <= cL) (hcm : cL <= maxLen) (OK : ∀ t ∈ L, okT t) (RX : Hid (SlX w p L)) :
  Calls Tryz.prog 74 #[.int .i64 ax, .slice p L.length cL] w fun e w' => e = .returned (.int .i64 (ccE ax L)) /\ Below w.heap.size w w' := by
 match L with
 | [] =>
  go_enter Tryz.func74, Tryz.ntmps74
  go_wp2_with fail
  go_ret
  exact ⟨rfl, Below.refl _ _⟩
 | x :: r =>
  obtain ⟨⟨b, o, rfl, _⟩, _⟩ := RX.out 0 x rfl
  by_cases h2 : 2 <= (x :: r).length
  ·exact ck_2 ax b o (x :: r) cL w hn hc hcm OK RX h2
  ·have h1 : (x :: r).length = 1 := by
    have h3 : (x :: r).length = r.length + 1 := rfl
    omega
   by_cases hcl : cL = 1
   ·exact ck_0 ax b o (x :: r) cL w hn hc hcm OK RX h1 hcl
   ·exact ck_1 ax b o (x :: r) cL w hn hc hcm OK RX h1 hcl
end Go.Proofs.YteaaikmejacpaaaGreatDoor.Te

namespace Go.Proofs.YteaaikmejacpaaaGreatDoor.Te
open Go.ChangeShapes Go.WideShapes Go.ChangeAt Go.RowKit
open Fx Va Sh
set_option maxRecDepth 8000
set_option linter.unusedVariables false
set_option linter.unusedSimpArgs false

/-- The length of a tensor along an axis. -/
def axN (a : Nat) (t : Tr) : Nat := (t.zs.getD a 0).toNat
/-- The sum of the lengths. -/
def smA (a : Nat) : List Tr -> Nat
 | [] => 0
 | t :: r => axN a t + smA a r
/-- The part of a tensor in a block of the joined one. -/
def ctB (a af i : Nat) (t : Tr) : List (Int × Int) := (t.vs.drop (i * (axN a t * af))).take (axN a t * af)
/-- A block of the joined tensor. -/
def ctR (a af i : Nat) (L : List Tr) : List (Int × Int) := L.flatMap (ctB a af i)
/-- The first blocks. -/
def ctV (a af : Nat) (L : List Tr) (n : Nat) : List (Int × Int) := (List.range n).flatMap fun i => ctR a af i L
theorem ctV_succ (a af : Nat) (L : List Tr) (n : Nat) : ctV a af L (n + 1) = ctV a af L n ++ ctR a af n L := by
 unfold ctV
 rw [List.range_succ, List.flatMap_append]
 simp
theorem take_snocT {L : List Tr} {k : Nat} {t : Tr} (h : L[k]? = some t) : L.take (k + 1) = L.take k ++ [t] := by
 rw [List.take_add_one, h]
 rfl
theorem ctR_snoc (a af i : Nat) {L : List Tr} {k : Nat} {t : Tr} (h : L[k]? = some t) : ctR a af i (L.take (k + 1)) = ctR a af i (L.take k) ++ ctB a af i t := by
 unfold ctR
 rw [take_snocT h, List.flatMap_append]
 simp
theorem smA_app (a : Nat) : ∀ x y : List Tr, smA a (x ++ y) = smA a x + smA a y
 | [], y => by simp [smA]
 | t :: r, y => by
  show axN a t + smA a (r ++ y) = axN a t + smA a r + smA a y
  rw [smA_app a r y]; omega
theorem smA_snoc (a : Nat) {L : List Tr} {k : Nat} {t : Tr} (h : L[k]? = some t) : smA a (L.take (k + 1)) = smA a (L.take k) + axN a t := by
 rw [take_snocT h, smA_app]
 rfl
theorem smA_le (a : Nat) (L : List Tr) (k : Nat) : smA a (L.take k) <= smA a L := by
 have h := smA_app a (L.take k) (L.drop k)
 rw [List.take_append_drop] at h
 omega
theorem ccV_ok : ∀ {L : List Tr}, ccV L = 0 -> ∀ {t : Tr}, t ∈ L -> tEt t = 0
 | [], _, _, ht => absurd ht (by simp)
 | x :: r, e, t, ht => by
  unfold ccV at e
  by_cases h1 : tEt x ≠ 0
  ·rw [if_pos h1] at e; exact absurd e h1
  ·rw [if_neg h1] at e
   rcases List.mem_cons.1 ht with rfl | h3
   ·exact Classical.not_not.1 h1
   ·exact ccV_ok e h3
theorem ccT_ty {h : Tr} : ∀ {r : List Tr}, ccT h r = 0 -> ∀ {t : Tr}, t ∈ r -> tyq h t = true
 | [], _, _, ht => absurd ht (by simp)
 | x :: r, e, t, ht => by
  unfold ccT at e
  by_cases h1 : tyq h x = false
  ·rw [if_pos h1] at e; exact absurd e (by decide)
  ·rw [if_neg h1] at e
   by_cases h2 : x.zs.length ≠ h.zs.length
   ·rw [if_pos h2] at e; exact absurd e (by decide)
   ·rw [if_neg h2] at e
    rcases List.mem_cons.1 ht with rfl | h3
    ·simpa using h1
    ·exact ccT_ty e h3
theorem ccD_ok {ax : Int} {h : Tr} : ∀ {r : List Tr}, ccD ax h r = 0 -> ∀ {t : Tr}, t ∈ r -> dfF ax t.zs h.zs h.zs.length 0 = false
 | [], _, _, ht => absurd ht (by simp)
 | x :: r, e, t, ht => by
  unfold ccD at e
  by_cases h1 : dfF ax x.zs h.zs h.zs.length 0 = true
  ·rw [if_pos h1] at e; exact absurd e (by decide)
  ·rw [if_neg h1] at e
   rcases List.mem_cons.1 ht with rfl | h3
   ·simpa using h1
   ·exact ccD_ok e h3
theorem dfF_false {ax : Int} {a b : List Int} : ∀ {f k : Nat}, dfF ax a b f k = false -> ∀ i, k <= i -> i < k + f -> (i : Int) ≠ ax -> a.getD i 0 = b.getD i 0
 | 0, k, _, i, h1, h2, _ => by omega
 | f + 1, k, e, i, h1, h2, h3 => by
  unfold dfF at e
  by_cases hc : (k : Int) ≠ ax /\ a.getD k 0 ≠ b.getD k 0
  ·rw [if_pos hc] at e; cases e
  ·rw [if_neg hc] at e
   by_cases hk : i = k
   ·subst hk
    exact Classical.byContradiction fun h4 => hc ⟨h3, h4⟩
   ·exact dfF_false e i (by omega) (by omega) h3
theorem getD_eqI {a b : List Int} (hl : a.length = b.length) (h : ∀ i, i < a.length -> a.getD i 0 = b.getD i 0) : a = b := by
 apply List.ext_getElem hl
 intro i h1 h2
 have := h i h1
 rwa [getD_at h1, getD_at h2] at this
theorem set_of {a b : List Int} {k : Nat} (hl : a.length = b.length) (hk : k < b.length) (h : ∀ i, i < b.length -> i ≠ k -> a.getD i 0 = b.getD i 0) : a = b.set k (a.getD k 0) := by
 refine getD_eqI (by rw [List.length_set]; exact hl) fun i hi => ?_
 rw [List.getD_eq_getElem?_getD (l := b.set k (a.getD k 0)), List.getElem?_set]
 by_cases e : k = i
 ·subst e
  rw [if_pos rfl, if_pos hk]; rfl
 ·rw [if_neg e, <- List.getD_eq_getElem?_getD]
  exact h i (by omega) (fun h => e h.symm)
theorem tyq_same (h : Tr) : tyq h h = true := by unfold tyq; simp
/-- What a list of tensors is that may be joined. -/
structure Gd (a bf af : Nat) (h : Tr) (L : List Tr) : Prop where
 ha : a < h.zs.length
 h6 : h.zs.length <= 6
 hbf : sp (h.zs.take a) = bf
 haf : sp (h.zs.drop (a + 1)) = af
 b1 : 1 <= bf
 a1 : 1 <= af
 ba : bf * af <= 4096
 all : ∀ t ∈ L, tEt t = 0 /\ tyq h t = true /\ t.zs.length = h.zs.length /\ t.zs.getD a 0 = (axN a t : Int) /\ 1 <= axN a t /\ t.vs.length = bf * axN a t * af /\ t.vs.length <= 4096 /\ t.zs = h.zs.set a (axN a t : Int)
theorem cc_good {ax : Int} {h : Tr} {r : List Tr} (h0 : ccE ax (h :: r) = 0) : ∃ a bf af : Nat, ax = (a : Int) /\ Gd a bf af h (h :: r) := by
 have hv : ccV (h :: r) = 0 := Classical.byContradiction fun hz => hz (by rw [<- ccE_v rfl hz]; exact h0)
 rw [ccE_eq rfl hv] at h0
 have hT : ccT h r = 0 := Classical.byContradiction fun hz => hz (by rw [if_pos hz] at h0; exact h0)
 rw [if_neg (by simpa using hT)] at h0
 by_cases hx : ax < 0 \/ (h.zs.length : Int) <= ax
 ·rw [if_pos hx] at h0; exact absurd h0 (by decide)
 rw [if_neg hx] at h0
 obtain ⟨a, rfl⟩ : ∃ a : Nat, ax = a := ⟨ax.toNat, by omega⟩
 have ha : a < h.zs.length := by omega
 have hth := ccV_ok hv (List.mem_cons_self (a := h) (l := r))
 unfold tEt at hth
 obtain ⟨-, hvh, hlh, -⟩ := tE_ok hth
 obtain ⟨hp, hq1, hq2, hq3⟩ := sp_parts hvh ha
 obtain ⟨h6, hlow, -, hs4, -⟩ := valid_of hvh
 obtain ⟨bf, hbf⟩ : ∃ bf : Nat, sp (h.zs.take a) = bf := ⟨(sp (h.zs.take a)).toNat, by omega⟩
 obtain ⟨af, haf⟩ : ∃ af : Nat, sp (h.zs.drop (a + 1)) = af := ⟨(sp (h.zs.drop (a + 1))).toNat, by omega⟩
 have key : ∀ t ∈ h :: r, tEt t = 0 /\ tyq h t = true /\ t.zs.length = h.zs.length /\ t.zs.getD a 0 = (axN a t : Int) /\ 1 <= axN a t /\ t.vs.length = bf * axN a t * af /\ t.vs.length <= 4096 /\ t.zs = h.zs.set a (axN a t : Int) := by
  intro t ht
  have h1 := ccV_ok hv ht
  have h2 : tyq h t = true /\ t.zs.length = h.zs.length /\ ∀ i, i < h.zs.length -> i ≠ a -> t.zs.getD i 0 = h.zs.getD i 0 := by
   rcases List.mem_cons.1 ht with rfl | h3
   ·exact ⟨tyq_same _, rfl, fun _ _ _ => rfl⟩
   ·exact ⟨ccT_ty hT h3, ccT_ok hT h3, fun i hi hia => dfF_false (ccD_ok h0 h3) i (Nat.zero_le _) (by omega) (by omega)⟩
  obtain ⟨h3, h4, h5⟩ := h2
  have h1' := h1
  unfold tEt at h1'
  obtain ⟨-, tv, tl, -⟩ := tE_ok h1'
  have e := set_of h4 ha h5
  obtain ⟨p1, p2, p3, p4⟩ := sp_parts tv (a := a) (by omega)
  have hn : t.zs.getD a 0 = (axN a t : Int) := by unfold axN; omega
  have et : t.zs.take a = h.zs.take a := by rw [e, List.take_set_of_le (Nat.le_refl _)]
  have ed : t.zs.drop (a + 1) = h.zs.drop (a + 1) := by rw [e, List.drop_set_of_lt (by omega)]
  rw [et, ed, hbf, haf, hn] at p1
  have hvl : t.vs.length = bf * axN a t * af := by
   have : ((t.vs.length : Nat) : Int) = ((bf * axN a t * af : Nat) : Int) := by rw [tl, p1]; push_cast; rfl
   exact Int.ofNat.inj this
  obtain ⟨-, -, -, hs, -⟩ := valid_of tv
  exact ⟨h1, h3, h4, hn, by omega, hvl, by omega, by rw [<- hn]; exact e⟩
 refine ⟨a, bf, af, rfl, ha, h6, hbf, haf, by omega, by omega, ?_, key⟩
 obtain ⟨-, -, -, -, k1, k2, k3, -⟩ := key h List.mem_cons_self
 have : bf * 1 * af <= bf * axN a h * af := Nat.mul_le_mul_right _ (Nat.mul_le_mul_left _ k1)
 rw [Nat.mul_one] at this
 omega
theorem ctB_hi {a af i bf : Nat} {t : Tr} (hi : i < bf) (hm : t.vs.length = bf * axN a t * af) : (i + 1) * (axN a t * af) <= t.vs.length := by
 rw [hm, Nat.mul_assoc]
 exact Nat.mul_le_mul_right _ hi
theorem ctB_len {a af i bf : Nat} {t : Tr} (hi : i < bf) (hm : t.vs.length = bf * axN a t * af) : (ctB a af i t).length = axN a t * af := by
 have h := ctB_hi hi hm
 rw [Nat.add_mul, Nat.one_mul] at h
 unfold ctB
 rw [List.length_take, List.length_drop]; omega
theorem ctR_len {a af i bf : Nat} (hi : i < bf) : ∀ {L : List Tr}, (∀ t ∈ L, t.vs.length = bf * axN a t * af) -> (ctR a af i L).length = smA a L * af
 | [], _ => by simp [ctR, smA]
 | t :: r, h => by
  have e : ctR a af i (t :: r) = ctB a af i t ++ ctR a af i r := rfl
  rw [e, List.length_append, ctB_len hi (h t List.mem_cons_self), ctR_len hi (fun x hx => h x (List.mem_cons_of_mem _ hx))]
  show _ = (axN a t + smA a r) * af
  rw [Nat.add_mul]
theorem ctV_len {a af bf : Nat} {L : List Tr} (h : ∀ t ∈ L, t.vs.length = bf * axN a t * af) : ∀ n, n <= bf -> (ctV a af L n).length = n * (smA a L * af)
 | 0, _ => by simp [ctV]
 | n + 1, hn => by rw [ctV_succ, List.length_append, ctV_len h n (by omega), ctR_len (by omega) h, Nat.succ_mul]

end Go.Proofs.YteaaikmejacpaaaGreatDoor.Te

namespace Go.Proofs.YteaaikmejacpaaaGreatDoor.Te
open Go.ChangeShapes Go.WideShapes Go.ChangeAt Go.RowKit
open Fx Va Sh
set_option maxRecDepth 8000
set_option linter.unusedVariables false
set_option linter.unusedSimpArgs false

theorem cat_nums {j bf my af m : Nat} (hj : j < bf) (hm : m = bf * my * af) (m4 : m <= 4096) (h1 : 1 <= my) (h2 : 1 <= af) : ∃ row x y : Nat, (my : Int) * (af : Int) = row /\ (j : Int) * (row : Int) = x /\ ((j : Int) + 1) * (row : Int) = y /\ x < y /\ y <= m /\ y - x = row /\ row = my * af /\ x = j * (my * af) /\ row <= 4096 /\ x <= 4096 /\ y <= 4096 := by
 have h3 : (j + 1) * (my * af) <= bf * (my * af) := Nat.mul_le_mul_right _ hj
 rw [<- Nat.mul_assoc bf, <- hm] at h3
 have h4 : (j + 1) * (my * af) = j * (my * af) + my * af := by rw [Nat.add_mul, Nat.one_mul]
 have h5 : 1 <= my * af := Nat.mul_pos h1 h2
 refine ⟨my * af, j * (my * af), (j + 1) * (my * af), by push_cast; rfl, by push_cast; rfl, by push_cast; rfl, by omega, h3, by omega, rfl, rfl, by omega, by omega, by omega⟩
theorem lim_nums {s my bf af : Nat} (hs : s * (bf * af) <= 4096) (h1 : 1 <= bf) (h2 : 1 <= af) (hb : bf * af <= 4096) (hm : my <= 4096) : ∃ sn x1 x2 : Nat, sn = s + my /\ (sn : Int) * (bf : Int) = x1 /\ (x1 : Int) * (af : Int) = x2 /\ x2 = sn * (bf * af) /\ s <= 4096 /\ sn <= 8192 /\ x1 <= 33554432 /\ x2 <= 33554432 := by
 have h3 : 1 <= bf * af := Nat.mul_pos h1 h2
 have h4 : s * 1 <= s * (bf * af) := Nat.mul_le_mul_left _ h3
 have h5 : bf <= 4096 := Nat.le_trans (Nat.le_mul_of_pos_right _ h2) hb
 have h6 : (s + my) * bf <= 8192 * 4096 := Nat.mul_le_mul (by omega) h5
 have h7 : (s + my) * (bf * af) <= 8192 * 4096 := Nat.mul_le_mul (by omega) hb
 exact ⟨s + my, (s + my) * bf, (s + my) * bf * af, rfl, by push_cast; rfl, by push_cast; rfl, by rw [Nat.mul_assoc], by omega, by omega, h6, by rw [Nat.mul_assoc]; exact h7⟩
theorem wnI2 {n : Nat} (h : n <= 33554432) : IntKind.i64.wrap (n : Int) = n := by
 rw [IntKind.wrap_i64]; omega
theorem cell_ex {x : Option Value} {l : List Value} {k : Nat} (h : x = l[k]?) (hk : k < l.length) : ∃ z, x = some z := ⟨l[k], by rw [h, List.getElem?_eq_getElem hk]⟩
/-- What is joined behind i blocks and k tensors. -/
def LST (a af : Nat) (L : List Tr) (i k : Nat) : List (Int × Int) := ctV a af L i ++ ctR a af i (L.take k)
theorem lst_0 (a af : Nat) (L : List Tr) : LST a af L 0 0 = [] := rfl
theorem lst_snoc (a af i : Nat) {L : List Tr} {k : Nat} {t : Tr} (h : L[k]? = some t) : LST a af L i (k + 1) = LST a af L i k ++ ctB a af i t := by
 unfold LST
 rw [ctR_snoc a af i h, List.append_assoc]
theorem lst_end (a af i : Nat) {L : List Tr} {n : Nat} (h : L.length = n) : LST a af L i n = LST a af L (i + 1) 0 := by
 unfold LST
 rw [List.take_of_length_le (by omega), ctV_succ, List.take_zero]
 show _ = (ctV a af L i ++ ctR a af i L) ++ []
 rw [List.append_nil]
theorem lst_len {a bf af S i k : Nat} {h : Tr} {L : List Tr} (G : Gd a bf af h L) (hS : S * (bf * af) <= 4096) (hs : smA a L = S) (hi : i < bf) : (LST a af L i k).length <= 4096 := by
 have h0 : ∀ t ∈ L, t.vs.length = bf * axN a t * af := fun t ht => (G.all t ht).2.2.2.2.2.1
 have h1 := smA_le a L k
 have h2 : smA a (L.take k) * af <= S * af := Nat.mul_le_mul_right _ (by omega)
 have h3 : (i + 1) * (S * af) <= bf * (S * af) := Nat.mul_le_mul_right _ hi
 have h4 : bf * (S * af) = S * (bf * af) := by rw [<- Nat.mul_assoc, Nat.mul_comm bf S, Nat.mul_assoc]
 have h5 : (i + 1) * (S * af) = i * (S * af) + S * af := by rw [Nat.add_mul, Nat.one_mul]
 unfold LST
 rw [List.length_append, ctV_len h0 i (by omega), ctR_len hi (fun t ht => h0 t (List.mem_of_mem_take ht)), hs]
 omega
/-- What Concat of tensors that fit answers. -/
def TCat (a bf af S : Nat) (h : Tr) (L : List Tr) (w : World) (en : Ending) (w' : World) : Prop := (4096 < S * (bf * af) /\ TRes 0 0 0 0 0 [] [] 2 w en w') \/ (S * (bf * af) <= 4096 /\ TRes h.K h.B h.F h.R h.O (h.zs.set a (S : Int)) (ctV a af L bf) 0 w en w')
theorem own_some {u : World} {B n c : Nat} {E : TypeId} {sz : Nat} {p : Option Addr} {xs : List Value} (h : u.ownsRow B E sz (.slice p n c) n xs) (hn : 0 < n) : ∃ g, p = some ⟨g, 0, none⟩ /\ B <= g /\ g < u.heap.size /\ n <= c /\ c <= maxLen := by
 rcases h.2 with ⟨h0, h1⟩ | ⟨g, cap, cur, h0, h1, h2, h3, h4, -⟩
 ·omega
 ·cases h0
  exact ⟨g, rfl, h1, (h.lt g rfl).2, h3, h4⟩

end Go.Proofs.YteaaikmejacpaaaGreatDoor.Te

namespace Go.Proofs.YteaaikmejacpaaaGreatDoor.Te
open Go.ChangeShapes Go.WideShapes Go.ChangeAt Go.RowKit
open Fx Va Sh
set_option maxRecDepth 8000
set_option linter.unusedVariables false
set_option linter.unusedSimpArgs false

set_option maxRecDepth 100000 in
set_option maxHeartbeats 2000000 in
theorem ca_g (ax : Int) (p : Option Addr) (L : List Tr) (cL : Nat) (w : World) (hn : L.length <= maxLen) (hc : L.length <= cL) (hcm : cL <= maxLen) (OK : ∀ t ∈ L, okT t) (RX : Hid (SlX w p L)) (a bf af : Nat) (h : Tr) (r : List Tr) (hL : L = h :: r) (hax : ax = (a : Int)) (G : Gd a bf af h L) (h0 : ccE ax L = 0) :
  Calls Tryz.prog 40 #[.int .i64 ax, .slice p L.length cL] w (TCat a bf af (smA a L) h L w) := by
 have CK0 := fun u h => ck ax p L cL u hn hc hcm OK h
 rw [h0] at CK0
 subst hax
 have heq : L[0]? = some h := by rw [hL]; rfl
 have hv : vE h.zs = 0 := by
  have h1 := (G.all h (by rw [hL]; exact List.mem_cons_self)).1
  unfold tEt at h1
  exact (tE_ok h1).2.1
 obtain ⟨⟨pb, po, hpp, hc7⟩, -, -⟩ := RX.out 0 h heq
 subst hpp
 obtain ⟨S, hS⟩ : ∃ S, smA a L = S := ⟨_, rfl⟩
 obtain ⟨hl, hhl⟩ : ∃ x, h.zs.length = x := ⟨_, rfl⟩
 have ha := G.ha
 have h6 := G.h6
 have CLO0 := fun u hh => c48g h.p h.zs h.c u (by unfold maxLen; omega) (by omega) hh
 have TAR0 := fun p c u h1 h2 hh => tar p h.zs c a u ha h1 h2 hv hh
 rw [G.hbf, G.haf] at TAR0
 unfold OW at CLO0
 rw [hhl] at CLO0 TAR0 ha h6
 rw [hS]
 obtain ⟨n, hnn⟩ : ∃ n, L.length = n := ⟨_, rfl⟩
 rw [hnn] at CK0 hn hc ⊢
 have CK := Lib.hid CK0
 have CLO := Lib.hid CLO0
 have TAR := Lib.hid TAR0
 have HG := Lib.hid G
 have HN := Lib.hid hnn
 have HHL := Lib.hid hhl
 have HS9 := Lib.hid hS
 have HEQ := Lib.hid heq
 have HOK := Lib.hid OK
 have hn0 : 0 < n := by rw [<- hnn, hL]; simp
 have hb1 := G.b1
 have ha1 := G.a1
 have hba := G.ba
 unfold maxLen at hn hcm
 have B0 : Hid (Below w.heap.size w (w.alloc (Obj.cells #[Value.int .i64 0, Value.int .i64 0, Value.int .i64 0, Value.int .i64 0, Value.int .i64 0, Value.slice none 0 0, Value.slice none 0 0] 27))) := Lib.hid ((Below.refl _ _).alloc (Nat.le_refl _) _)
 have R0 : Hid (B7 (w.alloc (Obj.cells #[Value.int .i64 0, Value.int .i64 0, Value.int .i64 0, Value.int .i64 0, Value.int .i64 0, Value.slice none 0 0, Value.slice none 0 0] 27)) (w.heap.size) (.int .i64 0) (.int .i64 0) (.int .i64 0) (.int .i64 0) (.int .i64 0) (.slice none 0 0) (.slice none 0 0)) := Lib.hid (B7.new w 27 (.int .i64 0) (.int .i64 0) (.int .i64 0) (.int .i64 0) (.int .i64 0) (.slice none 0 0) (.slice none 0 0))
 clear h0 CK0 CLO0 TAR0 hnn hhl hS heq OK hv hc7 hL G
 go_enter Tryz.func40, Tryz.ntmps40
 go_upto_region 4 with (go_at_call 74; (with_reducible refine (CK.out _ (Lib.hid (RX.out.keep B0.out))).mono ?_); rintro e w1 ⟨rfl, hb⟩; have KB := Lib.hid (B0.out.trans (hb.mono B0.out.size)); have RB9 := Lib.hid (B7.keep hb (by simp) R0.out); obtain ⟨⟨z0, z1, z2, z3, z4, z5, z6⟩, ⟨f0, f1, f2, f3, f4, f5, f6⟩⟩ := RB9.out; have lr : w.heap.size < w1.heap.size := RB9.out.lt; have RX1 := Lib.hid (RX.out.keep KB.out); clear hb)
 obtain ⟨⟨b9, o9, hpp, hc7⟩, RH1, -⟩ := RX1.out 0 h HEQ.out
 cases hpp
 rw [Nat.zero_mul, Nat.add_zero] at hc7
 obtain ⟨c0, c1, c2, c3, c4, c5, c6⟩ := hc7
 rw [HHL.out] at c5
 replace RH1 := Lib.hid RH1
 clear z0 f0 z1 f1 z2 f2 z3 f3 z4 f4 z5 f5 z6 f6 c6
 have HS : Hid (∀ u u' : World, (u.cell? ⟨pb, po, none⟩ = some (.int .i64 h.K) /\ u.cell? ⟨pb, po + 1, none⟩ = some (.int .i64 h.B) /\ u.cell? ⟨pb, po + 2, none⟩ = some (.int .i64 h.F) /\ u.cell? ⟨pb, po + 3, none⟩ = some (.int .i64 h.R) /\ u.cell? ⟨pb, po + 4, none⟩ = some (.int .i64 h.O) /\ u.cell? ⟨pb, po + 5, none⟩ = some (.slice h.p hl h.c) /\ Below w1.heap.size w1 u) -> Below u.heap.size u u' -> (u'.cell? ⟨pb, po, none⟩ = some (.int .i64 h.K) /\ u'.cell? ⟨pb, po + 1, none⟩ = some (.int .i64 h.B) /\ u'.cell? ⟨pb, po + 2, none⟩ = some (.int .i64 h.F) /\ u'.cell? ⟨pb, po + 3, none⟩ = some (.int .i64 h.R) /\ u'.cell? ⟨pb, po + 4, none⟩ = some (.int .i64 h.O) /\ u'.cell? ⟨pb, po + 5, none⟩ = some (.slice h.p hl h.c) /\ Below w1.heap.size w1 u')) := Lib.hid (fun u u' h hb => ⟨Rg.keep hb (World.block_lt_of_cell? _ _ h.1) h.1, Rg.keep hb (World.block_lt_of_cell? _ _ h.2.1) h.2.1, Rg.keep hb (World.block_lt_of_cell? _ _ h.2.2.1) h.2.2.1, Rg.keep hb (World.block_lt_of_cell? _ _ h.2.2.2.1) h.2.2.2.1, Rg.keep hb (World.block_lt_of_cell? _ _ h.2.2.2.2.1) h.2.2.2.2.1, Rg.keep hb (World.block_lt_of_cell? _ _ h.2.2.2.2.2.1) h.2.2.2.2.2.1, h.2.2.2.2.2.2.trans (hb.mono h.2.2.2.2.2.2.size)⟩)
 go_cut [7] from 23 to 33 (fun p7 wx => ∃ (g7 : Nat) (pc : Option Addr) (cc : Nat), p7 = .pointer (some ⟨g7, 0, none⟩) /\ Hid (B7 wx (g7) (.int .i64 h.K) (.int .i64 h.B) (.int .i64 h.F) (.int .i64 h.R) (.int .i64 h.O) (.slice pc hl cc) (.slice none 0 0)) /\ Hid (wx.ownsRow w1.heap.size 3 1 (.slice pc hl cc) hl (h.zs.map (Value.int .i64))) /\ Hid ((Value.slice pc hl cc).ownBlock ≠ some g7) /\ Hid (Below w1.heap.size w1 wx) /\ w1.heap.size <= g7)
 case first =>
  refine Rk.begin (S := fun wS => wS.cell? ⟨pb, po, none⟩ = some (.int .i64 h.K) /\ wS.cell? ⟨pb, po + 1, none⟩ = some (.int .i64 h.B) /\ wS.cell? ⟨pb, po + 2, none⟩ = some (.int .i64 h.F) /\ wS.cell? ⟨pb, po + 3, none⟩ = some (.int .i64 h.R) /\ wS.cell? ⟨pb, po + 4, none⟩ = some (.int .i64 h.O) /\ wS.cell? ⟨pb, po + 5, none⟩ = some (.slice h.p hl h.c) /\ Below w1.heap.size w1 wS) 11 (by kernel_rfl) ⟨c0, c1, c2, c3, c4, c5, Below.drew (Below.refl _ _)⟩ (fun hHeld => ?_)
  refine SqR.p 0 ?_
  refine SqR.p 1 ?_
  refine SqR.p 2 ?_
  refine SqR.l [11] 3 ?_
  refine SqR.p 4 ?_
  refine SqR.p 5 ?_
  refine SqR.p 6 ?_
  refine SqR.l [11] 7 ?_
  refine Rk.two (i := 8) (j := 10) (by kernel_rfl) rfl rfl (fun KK hK => ?_) (fun KK hK => ?_)
  ·rw [if_pos (by kernel_rfl)]
   go_simp
   ((with_reducible refine (CLO.out _ (Lib.hid (SlI.keep (hHeld.2.2.2.2.2.2) RH1.out))).mono ?_); rintro e u7 ⟨v7, rfl, hb, hP⟩)
   have hNew := HS.out _ _ hHeld hb
   have hsu := hb.size
   try simp at hsu
   obtain ⟨pc, cc, rfl⟩ := own_slice hP
   replace hP := own_base (B' := w1.heap.size) hP (Nat.le_refl _)
   first | (refine hK.out _ _ (fun _ => hNew) (fun _ => ?_)) | (refine hK.out _ _ hNew (fun _ => ?_)) | (go_wp2_with fail; refine hK.out _ _ hNew (fun _ => ?_))
   replace hHeld := hNew
   clear hNew hb
   clear hK KK
   refine SqR.p 9 ?_
   refine Rk.one (i := 10) (by kernel_rfl) rfl (fun KK hK => ?_)
   rw [if_pos (by kernel_rfl)]
   go_simp
   have hNew := HS.out _ _ hHeld ((Below.refl _ _).alloc (Nat.le_refl _) (Obj.cells #[Value.int .i64 0, Value.int .i64 0, Value.int .i64 0, Value.int .i64 0, Value.int .i64 0, Value.slice none 0 0, Value.slice none 0 0] 27))
   have M7 := B7.new u7 27 (.int .i64 0) (.int .i64 0) (.int .i64 0) (.int .i64 0) (.int .i64 0) (.slice none 0 0) (.slice none 0 0)
   have hn1 := blk_ne (g := u7.heap.size) (own_lo hP) (Or.inr (Nat.le_refl _))
   replace hP := own_belowE hP ((Below.refl _ _).alloc (Nat.le_refl _) (Obj.cells #[Value.int .i64 0, Value.int .i64 0, Value.int .i64 0, Value.int .i64 0, Value.int .i64 0, Value.slice none 0 0, Value.slice none 0 0] 27))
   refine hK.out _ _ hNew (fun _ => ?_)
   replace hHeld := hNew
   clear hNew
   clear hK KK
   refine Rk.tail [11] [_] (by kernel_rfl) (by kernel_rfl) rfl (by decide) ?_
   obtain ⟨-, -, -, -, -, -, K8⟩ := hHeld
   have M9 := M7
   obtain ⟨⟨m0, m1, m2, m3, m4, m5, m6⟩, ⟨k0, k1, k2, k3, k4, k5, k6⟩⟩ := M7
   have lm := M9.lt
   have hnb : w1.heap.size <= u7.heap.size := by first | exact Nat.le_refl _ | omega
   generalize (u7.alloc (Obj.cells #[Value.int .i64 0, Value.int .i64 0, Value.int .i64 0, Value.int .i64 0, Value.int .i64 0, Value.slice none 0 0, Value.slice none 0 0] 27)) = gz at *
   go_wp2_with fail
   go_meet
   exact ⟨u7.heap.size, pc, cc, rfl, Lib.hid (B7.st (y0 := .int .i64 h.K) (y1 := .int .i64 h.B) (y2 := .int .i64 h.F) (y3 := .int .i64 h.R) (y4 := .int .i64 h.O) (y5 := .slice pc hl cc) (y6 := .slice none 0 0) M9), Lib.hid (own_set7N (x0 := .int .i64 h.K) (x1 := .int .i64 h.B) (x2 := .int .i64 h.F) (x3 := .int .i64 h.R) (x4 := .int .i64 h.O) (x5 := .slice pc hl cc) (x6 := .slice none 0 0) hP hn1), Lib.hid hn1, Lib.hid (below_set7 (x0 := .int .i64 h.K) (x1 := .int .i64 h.B) (x2 := .int .i64 h.F) (x3 := .int .i64 h.R) (x4 := .int .i64 h.O) (x5 := .slice pc hl cc) (x6 := .slice none 0 0) K8 hnb), hnb⟩
  ·rw [if_pos (by kernel_rfl)]
   go_simp
   have hNew := HS.out _ _ hHeld ((Below.refl _ _).alloc (Nat.le_refl _) (Obj.cells #[Value.int .i64 0, Value.int .i64 0, Value.int .i64 0, Value.int .i64 0, Value.int .i64 0, Value.slice none 0 0, Value.slice none 0 0] 27))
   have M7 : B7 ((w1.alloc (Obj.cells #[Value.int .i64 0, Value.int .i64 0, Value.int .i64 0, Value.int .i64 0, Value.int .i64 0, Value.slice none 0 0, Value.slice none 0 0] 27)).drew) w1.heap.size (.int .i64 0) (.int .i64 0) (.int .i64 0) (.int .i64 0) (.int .i64 0) (.slice none 0 0) (.slice none 0 0) := B7.new w1 _ (.int .i64 0) (.int .i64 0) (.int .i64 0) (.int .i64 0) (.int .i64 0) (.slice none 0 0) (.slice none 0 0)
   refine hK.out _ _ hNew (fun _ => ?_)
   replace hHeld := hNew
   clear hNew
   replace hHeld : (w1.alloc (Obj.cells #[Value.int .i64 0, Value.int .i64 0, Value.int .i64 0, Value.int .i64 0, Value.int .i64 0, Value.slice none 0 0, Value.slice none 0 0] 27)).drew.cell? ⟨pb, po, none⟩ = some (.int .i64 h.K) /\ (w1.alloc (Obj.cells #[Value.int .i64 0, Value.int .i64 0, Value.int .i64 0, Value.int .i64 0, Value.int .i64 0, Value.slice none 0 0, Value.slice none 0 0] 27)).drew.cell? ⟨pb, po + 1, none⟩ = some (.int .i64 h.B) /\ (w1.alloc (Obj.cells #[Value.int .i64 0, Value.int .i64 0, Value.int .i64 0, Value.int .i64 0, Value.int .i64 0, Value.slice none 0 0, Value.slice none 0 0] 27)).drew.cell? ⟨pb, po + 2, none⟩ = some (.int .i64 h.F) /\ (w1.alloc (Obj.cells #[Value.int .i64 0, Value.int .i64 0, Value.int .i64 0, Value.int .i64 0, Value.int .i64 0, Value.slice none 0 0, Value.slice none 0 0] 27)).drew.cell? ⟨pb, po + 3, none⟩ = some (.int .i64 h.R) /\ (w1.alloc (Obj.cells #[Value.int .i64 0, Value.int .i64 0, Value.int .i64 0, Value.int .i64 0, Value.int .i64 0, Value.slice none 0 0, Value.slice none 0 0] 27)).drew.cell? ⟨pb, po + 4, none⟩ = some (.int .i64 h.O) /\ (w1.alloc (Obj.cells #[Value.int .i64 0, Value.int .i64 0, Value.int .i64 0, Value.int .i64 0, Value.int .i64 0, Value.slice none 0 0, Value.slice none 0 0] 27)).drew.cell? ⟨pb, po + 5, none⟩ = some (.slice h.p hl h.c) /\ Below w1.heap.size w1 (w1.alloc (Obj.cells #[Value.int .i64 0, Value.int .i64 0, Value.int .i64 0, Value.int .i64 0, Value.int .i64 0, Value.slice none 0 0, Value.slice none 0 0] 27)).drew := hHeld
   clear hK KK
   refine Rk.one (i := 8) (by kernel_rfl) rfl (fun KK hK => ?_)
   rw [if_pos (by kernel_rfl)]
   go_simp
   ((with_reducible refine (CLO.out _ (Lib.hid (SlI.keep (hHeld.2.2.2.2.2.2) RH1.out))).mono ?_); rintro e u7 ⟨v7, rfl, hb, hP⟩)
   have hNew := HS.out _ _ hHeld hb
   have hsu := hb.size
   try simp at hsu
   obtain ⟨pc, cc, rfl⟩ := own_slice hP
   replace M7 := B7.keep hb M7.lt M7
   have hn1 := blk_ne (g := w1.heap.size) (own_lo hP) (Or.inl (by simp))
   replace hP := own_base (B' := w1.heap.size) hP (by simp)
   first | (refine hK.out _ _ (fun _ => hNew) (fun _ => ?_)) | (refine hK.out _ _ hNew (fun _ => ?_)) | (go_wp2_with fail; refine hK.out _ _ hNew (fun _ => ?_))
   replace hHeld := hNew
   clear hNew hb
   clear hK KK
   refine SqR.p 9 ?_
   refine Rk.tail [11] [_] (by kernel_rfl) (by kernel_rfl) rfl (by decide) ?_
   obtain ⟨-, -, -, -, -, -, K8⟩ := hHeld
   have M9 := M7
   obtain ⟨⟨m0, m1, m2, m3, m4, m5, m6⟩, ⟨k0, k1, k2, k3, k4, k5, k6⟩⟩ := M7
   have lm := M9.lt
   have hnb : w1.heap.size <= w1.heap.size := by first | exact Nat.le_refl _ | omega
   go_wp2_with fail
   go_meet
   exact ⟨w1.heap.size, pc, cc, rfl, Lib.hid (B7.st (y0 := .int .i64 h.K) (y1 := .int .i64 h.B) (y2 := .int .i64 h.F) (y3 := .int .i64 h.R) (y4 := .int .i64 h.O) (y5 := .slice pc hl cc) (y6 := .slice none 0 0) M9), Lib.hid (own_set7N (x0 := .int .i64 h.K) (x1 := .int .i64 h.B) (x2 := .int .i64 h.F) (x3 := .int .i64 h.R) (x4 := .int .i64 h.O) (x5 := .slice pc hl cc) (x6 := .slice none 0 0) hP hn1), Lib.hid hn1, Lib.hid (below_set7 (x0 := .int .i64 h.K) (x1 := .int .i64 h.B) (x2 := .int .i64 h.F) (x3 := .int .i64 h.R) (x4 := .int .i64 h.O) (x5 := .slice pc hl cc) (x6 := .slice none 0 0) K8 hnb), hnb⟩

 case rest =>
  obtain ⟨g7, pc, cc, rfl, MG, HP, HPN, KX, hg7⟩ := hcut
  obtain ⟨gp, rfl, hgp1, hgp2, hcc1, hcc2⟩ := own_some HP.out (by omega)
  unfold maxLen at hcc2
  have hgg : gp ≠ g7 := fun e => HPN.out (by rw [e]; rfl)
  have hlw : w.heap.size < w1.heap.size := RB9.out.lt
  have KBc := Lib.hid (KB.out.trans (KX.out.mono KB.out.size))
  have RZc := Lib.hid (B7.keep KX.out RB9.out.lt RB9.out)
  have MGc := MG
  have lgc := MG.out.lt
  obtain ⟨⟨m0, m1, m2, m3, m4, m5, m6⟩, -⟩ := MG.out
  have hal : (a : Int) < hl := by omega
  have ha0 : (0 : Int) <= a := by omega
  clear c0 c1 c2 c3 c4 c5 KB RB9 KX HS lr RH1 CK CLO
  have HCC := Lib.hid (And.intro hcc1 hcc2)
  go_upto_region 6 with (go_at_call 64; (with_reducible refine (TAR.out (some ⟨gp, 0, none⟩) cc _ HCC.out.1 HCC.out.2 (Lib.hid (SlI_of HP.out HHL.out))).mono ?_); rintro e w3 ⟨rfl, hb⟩; have K3 := Lib.hid (KBc.out.trans (hb.mono KBc.out.size)); have RZ3 := Lib.hid (B7.keep hb RZc.out.lt RZc.out); have MG3 := Lib.hid (B7.keep hb MGc.out.lt MGc.out); have HP3 := Lib.hid (own_belowE HP.out hb); have hs3 := hb.size; clear hb; have lg3 := MG3.out.lt; replace m5 := MG3.out.1.2.2.2.2.2.1; have fz := HP3.out.frozenAt a; obtain ⟨zz, pv3⟩ := cell_ex (HP3.out.cellAt a (by omega)) (by rw [List.length_map]; exact HG.out.ha); clear m0 m1 m2 m3 m4 m6 MGc RZc KBc HP MG)
  go_upto_region 8 with fail
  have HB1 : Hid ((B7 (w3.setCell ⟨gp, a, none⟩ (.int .i64 0)) (w.heap.size) (.int .i64 0) (.int .i64 0) (.int .i64 0) (.int .i64 0) (.int .i64 0) (.slice none 0 0) (.slice none 0 0)) /\ (B7 (w3.setCell ⟨gp, a, none⟩ (.int .i64 0)) (g7) (.int .i64 h.K) (.int .i64 h.B) (.int .i64 h.F) (.int .i64 h.R) (.int .i64 h.O) (.slice (some ⟨gp, 0, none⟩) hl cc) (.slice none 0 0)) /\ (w3.setCell ⟨gp, a, none⟩ (.int .i64 0)).ownsRow w1.heap.size 3 1 (.slice (some ⟨gp, 0, none⟩) hl cc) hl ((h.zs.set a (smA a (L.take 0) : Int)).map (Value.int .i64)) /\ Below w.heap.size w (w3.setCell ⟨gp, a, none⟩ (.int .i64 0)) /\ g7 < (w3.setCell ⟨gp, a, none⟩ (.int .i64 0)).heap.size) := Lib.hid ⟨RZ3.out.far (by omega), MG3.out.far hgg, by
    have h9 := (HP3.out.stored a (.int .i64 0)).1
    rw [<- List.map_set] at h9
    exact h9, K3.out.setCell (p := ⟨gp, a, none⟩) (by dsimp only; omega) _, by rw [World.size_setCell]; exact MG3.out.lt⟩
  have HM0 : Hid (smA a (L.take 0) * (bf * af) <= 4096) := Lib.hid (by simp [smA])
  clear m5 RZ3 MG3 HP3 K3 fz pv3
  generalize (w3.setCell ⟨gp, a, none⟩ (.int .i64 0)) = w4 at *
  go_loopw [46] (fun iv wr => ∃ j : Nat, iv = .int .i64 (j : Int) /\ j <= n /\ Hid (smA a (L.take j) * (bf * af) <= 4096) /\ Hid ((B7 wr (w.heap.size) (.int .i64 0) (.int .i64 0) (.int .i64 0) (.int .i64 0) (.int .i64 0) (.slice none 0 0) (.slice none 0 0)) /\ (B7 wr (g7) (.int .i64 h.K) (.int .i64 h.B) (.int .i64 h.F) (.int .i64 h.R) (.int .i64 h.O) (.slice (some ⟨gp, 0, none⟩) hl cc) (.slice none 0 0)) /\ wr.ownsRow w1.heap.size 3 1 (.slice (some ⟨gp, 0, none⟩) hl cc) hl ((h.zs.set a (smA a (L.take j) : Int)).map (Value.int .i64)) /\ Below w.heap.size w wr /\ g7 < wr.heap.size)) (fun iv _ => n - (intOf iv).toNat)
  case atStart => exact ⟨0, rfl, Nat.zero_le _, HM0, HB1⟩
  case round =>
   obtain ⟨j, rfl, hj, HSM, HI⟩ := hrel
   clear HB1 HM0
   obtain ⟨ZJ, MJ, PJ, KJ, lJ⟩ := HI.out
   by_cases hjn : j < n
   ·have hj2 : (j : Int) < n := by omega
    have hj0 : (0 : Int) <= j := by omega
    obtain ⟨t, het, -⟩ := drop_one (L := L) (i := j) (by rw [HN.out]; exact hjn)
    obtain ⟨⟨b, o, hp, hc7⟩, RI9, -⟩ := (RX.out.keep KJ) j t het
    cases hp
    obtain ⟨c0, c1, c2, c3, c4, c5, c6⟩ := hc7
    obtain ⟨-, -, htl, hmy, hm1, hvl, hv4, -⟩ := HG.out.all t (List.mem_of_getElem? het)
    obtain ⟨my, hmyy⟩ : ∃ x, axN a t = x := ⟨_, rfl⟩
    rw [hmyy] at hmy hm1 hvl
    have hmle : my <= 4096 := by
     have h1 : 1 * my * 1 <= bf * my * af := Nat.mul_le_mul (Nat.mul_le_mul_right _ hb1) ha1
     rw [Nat.one_mul, Nat.mul_one, <- hvl] at h1
     omega
    obtain ⟨ub, uo, htp, tv9⟩ := RI9 a (by rw [htl]; exact HG.out.ha)
    rw [hmy] at tv9
    have htl2 : t.zs.length = hl := htl.trans HHL.out
    rw [htl2, htp] at c5
    obtain ⟨s, hs⟩ : ∃ x, smA a (L.take j) = x := ⟨_, rfl⟩
    have hsn := smA_snoc a het
    rw [hs, hmyy] at hsn
    have HS0 := HSM.out
    rw [hs] at HS0 PJ
    obtain ⟨sn, x1, x2, e0, e1, e2, e3, q1, q2, q3, q4⟩ := lim_nums (my := my) HS0 hb1 ha1 hba hmle
    rw [<- e0] at hsn
    have HE3 := Lib.hid e3
    have HSN := Lib.hid hsn
    have HE0 := Lib.hid e0
    clear het htl hmy hm1 hvl hv4 hmyy htl2 htp hs hsn e0 e3 HS0
    go_upto_region 10 with fail
    have W9 : Below wr.heap.size wr (wr.alloc (Obj.cells #[Value.int .i64 t.K, Value.int .i64 t.B, Value.int .i64 t.F, Value.int .i64 t.R, Value.int .i64 t.O, Value.slice (some ⟨ub, uo, none⟩) hl t.c, Value.slice t.q t.vs.length t.d] 27)) := (Below.refl _ _).alloc (Nat.le_refl _) _
    have M7 := B7.new wr 27 (.int .i64 t.K) (.int .i64 t.B) (.int .i64 t.F) (.int .i64 t.R) (.int .i64 t.O) (.slice (some ⟨ub, uo, none⟩) hl t.c) (.slice t.q t.vs.length t.d)
    have ZK := B7.keep W9 ZJ.lt ZJ
    have MK := B7.keep W9 MJ.lt MJ
    have PK := own_belowE PJ W9
    have KK9 := KJ.trans (W9.mono KJ.size)
    have tv8 := Rg.keep W9 (World.block_lt_of_cell? _ _ tv9) tv9
    have hwr : wr.heap.size < (wr.alloc (Obj.cells #[Value.int .i64 t.K, Value.int .i64 t.B, Value.int .i64 t.F, Value.int .i64 t.R, Value.int .i64 t.O, Value.slice (some ⟨ub, uo, none⟩) hl t.c, Value.slice t.q t.vs.length t.d] 27)).heap.size := by simp
    clear W9 c0 c1 c2 c3 c4 c5 c6 ZJ MJ PJ KJ tv9
    generalize (wr.alloc (Obj.cells #[Value.int .i64 t.K, Value.int .i64 t.B, Value.int .i64 t.F, Value.int .i64 t.R, Value.int .i64 t.O, Value.slice (some ⟨ub, uo, none⟩) hl t.c, Value.slice t.q t.vs.length t.d] 27)) = w5 at *
    have MKb := Lib.hid MK
    have M7b := Lib.hid M7
    have PKb := Lib.hid PK
    obtain ⟨⟨m0, m1, m2, m3, m4, m5, m6⟩, -⟩ := MK
    obtain ⟨⟨k0, k1, k2, k3, k4, k5, k6⟩, -⟩ := M7
    have pv : w5.cell? ⟨gp, a, none⟩ = some (.int .i64 s) := by
     rw [PK.cellAt a (by have := HG.out.ha; have := HHL.out; omega), List.getElem?_map, List.getElem?_set, if_pos rfl, if_pos HG.out.ha]
     rfl
    have pf := PK.frozenAt a
    have wq1 : IntKind.i64.wrap ((s : Int) + (my : Int)) = (sn : Int) := by
     have h9 : (s : Int) + (my : Int) = (sn : Nat) := by rw [HE0.out]; push_cast; rfl
     rw [h9]; exact wnI2 (by omega)
    refine Rk.begin (S := fun wS => wS.cell? ⟨g7, 5, none⟩ = some (.slice (some ⟨gp, 0, none⟩) hl cc) /\ wS.cell? ⟨gp, a, none⟩ = some (.int .i64 s) /\ wS.cell? ⟨wr.heap.size, 5, none⟩ = some (.slice (some ⟨ub, uo, none⟩) hl t.c) /\ wS.cell? ⟨ub, uo + a, none⟩ = some (.int .i64 my) /\ wS.frozen? ⟨gp, a, none⟩ = false /\ Below w5.heap.size w5 wS) 12 (by kernel_rfl) ⟨m5, pv, k5, tv8, pf, Below.drew (Below.refl _ _)⟩ (fun hHeld => ?_)
    refine SqR.p 0 ?_
    refine SqR.l [12] 1 ?_
    refine SqR.p 2 ?_
    refine SqR.p 3 ?_
    refine SqR.l [12] 4 ?_
    refine SqR.p 5 ?_
    refine SqR.l [12] 6 ?_
    refine SqR.p 7 ?_
    refine SqR.p 8 ?_
    refine SqR.l [12] 9 ?_
    refine SqR.p 10 ?_
    refine SqR.p 11 ?_
    refine Rk.tail [12] [_] (by kernel_rfl) (by kernel_rfl) rfl (by decide) ?_
    clear wq1 hHeld
    go_upto_region 11 with fail
    have ZV : Hid (B7 ((w5.setCell ⟨gp, a, none⟩ (.int .i64 (sn : Int))).drew) (w.heap.size) (.int .i64 0) (.int .i64 0) (.int .i64 0) (.int .i64 0) (.int .i64 0) (.slice none 0 0) (.slice none 0 0)) := Lib.hid (ZK.far (by omega)).drew
    have MV : Hid (B7 ((w5.setCell ⟨gp, a, none⟩ (.int .i64 (sn : Int))).drew) (g7) (.int .i64 h.K) (.int .i64 h.B) (.int .i64 h.F) (.int .i64 h.R) (.int .i64 h.O) (.slice (some ⟨gp, 0, none⟩) hl cc) (.slice none 0 0)) := Lib.hid (MKb.out.far hgg).drew
    have PV : Hid (((w5.setCell ⟨gp, a, none⟩ (.int .i64 (sn : Int))).drew).ownsRow w1.heap.size 3 1 (.slice (some ⟨gp, 0, none⟩) hl cc) hl ((h.zs.set a (sn : Int)).map (Value.int .i64))) := Lib.hid (by
     have h9 := (PKb.out.stored a (.int .i64 (sn : Int))).1
     rw [<- List.map_set, List.set_set] at h9
     exact h9.drew)
    have KV : Hid (Below w.heap.size w ((w5.setCell ⟨gp, a, none⟩ (.int .i64 (sn : Int))).drew)) := Lib.hid ((KK9.setCell (p := ⟨gp, a, none⟩) (by dsimp only; omega) _).drew)
    have lV : g7 < ((w5.setCell ⟨gp, a, none⟩ (.int .i64 (sn : Int))).drew).heap.size := MV.out.lt
    clear m0 m1 m2 m3 m4 m5 m6 k0 k1 k2 k3 k4 k5 k6 pv pf tv8 ZK MKb M7b PKb KK9 RI9
    generalize ((w5.setCell ⟨gp, a, none⟩ (.int .i64 (sn : Int))).drew) = wv at *
    have pv : wv.cell? ⟨gp, a, none⟩ = some (.int .i64 sn) := by
     rw [PV.out.cellAt a (by omega), List.getElem?_map, List.getElem?_set, if_pos rfl, if_pos HG.out.ha]
     rfl
    obtain ⟨⟨m0, m1, m2, m3, m4, m5, m6⟩, -⟩ := MV.out
    by_cases hlim : 4096 < x2
    ·have gl : decide ((4096 : Int) < x2) = true := by simp; omega
     obtain ⟨⟨z0, z1, z2, z3, z4, z5, z6⟩, ⟨f0, f1, f2, f3, f4, f5, f6⟩⟩ := ZV.out
     have lr := ZV.out.lt
     have hlt : Hid (4096 < S * (bf * af)) := Lib.hid (by
      have h1 := smA_le a L (j + 1)
      rw [HSN.out, HS9.out] at h1
      have h2 : sn * (bf * af) <= S * (bf * af) := Nat.mul_le_mul_right _ h1
      have h3 := HE3.out
      omega)
     go_wp2_with fail
     have SBB := (((((((KV.out).setCell (p := ⟨w.heap.size, 0, none⟩) (by dsimp only; omega) (.int .i64 0)).setCell (p := ⟨w.heap.size, 1, none⟩) (by dsimp only; omega) (.int .i64 0)).setCell (p := ⟨w.heap.size, 2, none⟩) (by dsimp only; omega) (.int .i64 0)).setCell (p := ⟨w.heap.size, 3, none⟩) (by dsimp only; omega) (.int .i64 0)).setCell (p := ⟨w.heap.size, 4, none⟩) (by dsimp only; omega) (.int .i64 0)).setCell (p := ⟨w.heap.size, 5, none⟩) (by dsimp only; omega) (.slice none 0 0)).setCell (p := ⟨w.heap.size, 6, none⟩) (by dsimp only; omega) (.slice none 0 0)
     refine bodyPost_ret (v := .tuple #[.agg #[.int .i64 0, .int .i64 0, .int .i64 0, .int .i64 0, .int .i64 0, .slice none 0 0, .slice none 0 0], .int .i64 2]) (by simp [results, Tryz.results40, go_sem, z0, f0, z1, f1, z2, f2, z3, f3, z4, f4, z5, f5, z6, f6, lr]) rfl (.inl ⟨hlt.out, TRes.no SBB⟩)
    ·have gl : decide ((4096 : Int) < x2) = false := by simp; omega
     go_wp2_with fail
     go_roundw
     case rel => exact ⟨j + 1, by simp, by omega, Lib.hid (by rw [HSN.out, <- HE3.out]; omega), Lib.hid ⟨ZV.out, MV.out, by rw [HSN.out]; exact PV.out, KV.out, lV⟩⟩
     case measure => simp [intOf]; omega
   ·obtain rfl : j = n := by omega
    have gN : decide ((j : Int) < j) = false := by simp
    have hSn : smA a (L.take j) = S := by rw [List.take_of_length_le (by rw [HN.out]; exact Nat.le_refl _)]; exact HS9.out
    have hSM := HSM.out
    rw [hSn] at hSM PJ
    have HSL := Lib.hid hSM
    have HB2 : Hid ((B7 wr (w.heap.size) (.int .i64 0) (.int .i64 0) (.int .i64 0) (.int .i64 0) (.int .i64 0) (.slice none 0 0) (.slice none 0 0)) /\ (B7 wr (g7) (.int .i64 h.K) (.int .i64 h.B) (.int .i64 h.F) (.int .i64 h.R) (.int .i64 h.O) (.slice (some ⟨gp, 0, none⟩) hl cc) (.slice none 0 0)) /\ wr.ownsRow w1.heap.size 3 1 (.slice (some ⟨gp, 0, none⟩) hl cc) hl ((h.zs.set a (S : Int)).map (Value.int .i64)) /\ wr.ownsRow wr.heap.size 29 2 (.slice none 0 0) 0 (flV (LST a af L 0 0)) /\ Below w.heap.size w wr /\ g7 < wr.heap.size /\ wr.heap.size <= wr.heap.size) := Lib.hid ⟨ZJ, MJ, PJ, by rw [lst_0]; exact World.ownsRow_nil _ _ _ _, KJ, lJ, Nat.le_refl _⟩
    obtain ⟨wb, hwb⟩ : ∃ u : World, u = wr := ⟨_, rfl⟩
    rw [<- hwb] at HB2 lJ ⊢
    have hlb : g7 < wb.heap.size := lJ
    have hgb : w.heap.size <= wb.heap.size := by rw [hwb]; exact KJ.size
    clear hj hjn hSn hSM HSM HI ZJ MJ PJ KJ lJ hwb
    go_upto_region 15 with fail
    go_loopw [75] (fun iv wr => ∃ (i : Nat) (qv : Option Addr) (n9 dv : Nat), iv = .int .i64 (i : Int) /\ i <= bf /\ Hid ((B7 wr (w.heap.size) (.int .i64 0) (.int .i64 0) (.int .i64 0) (.int .i64 0) (.int .i64 0) (.slice none 0 0) (.slice none 0 0)) /\ (B7 wr (g7) (.int .i64 h.K) (.int .i64 h.B) (.int .i64 h.F) (.int .i64 h.R) (.int .i64 h.O) (.slice (some ⟨gp, 0, none⟩) hl cc) (.slice qv n9 dv)) /\ wr.ownsRow w1.heap.size 3 1 (.slice (some ⟨gp, 0, none⟩) hl cc) hl ((h.zs.set a (S : Int)).map (Value.int .i64)) /\ wr.ownsRow wb.heap.size 29 2 (.slice qv n9 dv) n9 (flV (LST a af L i 0)) /\ Below w.heap.size w wr /\ g7 < wr.heap.size /\ wb.heap.size <= wr.heap.size)) (fun iv _ => bf - (intOf iv).toNat)
    case atStart => exact ⟨0, none, 0, 0, rfl, Nat.zero_le _, HB2⟩
    case round =>
     obtain ⟨i, qv, n9, dv, rfl, hi, HI⟩ := hrel
     clear HB2
     by_cases hib : i < bf
     ·have hi2 : (i : Int) < bf := by omega
      have hi0 : (0 : Int) <= i := by omega
      have hbm : bf <= 4096 := Nat.le_trans (Nat.le_mul_of_pos_right _ ha1) hba
      have HI1 := HI
      go_upto_region 18 with fail
      go_loopw [80] (fun iv wr => ∃ (k : Nat) (qv : Option Addr) (n9 dv : Nat), iv = .int .i64 (k : Int) /\ k <= j /\ Hid ((B7 wr (w.heap.size) (.int .i64 0) (.int .i64 0) (.int .i64 0) (.int .i64 0) (.int .i64 0) (.slice none 0 0) (.slice none 0 0)) /\ (B7 wr (g7) (.int .i64 h.K) (.int .i64 h.B) (.int .i64 h.F) (.int .i64 h.R) (.int .i64 h.O) (.slice (some ⟨gp, 0, none⟩) hl cc) (.slice qv n9 dv)) /\ wr.ownsRow w1.heap.size 3 1 (.slice (some ⟨gp, 0, none⟩) hl cc) hl ((h.zs.set a (S : Int)).map (Value.int .i64)) /\ wr.ownsRow wb.heap.size 29 2 (.slice qv n9 dv) n9 (flV (LST a af L i k)) /\ Below w.heap.size w wr /\ g7 < wr.heap.size /\ wb.heap.size <= wr.heap.size)) (fun iv _ => j - (intOf iv).toNat)
      case atStart => exact ⟨0, qv, n9, dv, rfl, Nat.zero_le _, HI1⟩
      case round =>
       obtain ⟨k, qv, n9, dv, rfl, hk, HK⟩ := hrel
       clear HI1 HI
       obtain ⟨ZJ, MJ, PJ, VJ, KJ, lJ, hszr⟩ := HK.out
       by_cases hkn : k < j
       ·have hk2 : (k : Int) < j := by omega
        have hk0 : (0 : Int) <= k := by omega
        obtain ⟨t, het, -⟩ := drop_one (L := L) (i := k) (by rw [HN.out]; exact hkn)
        obtain ⟨⟨b, o, hp, hc7⟩, RI9, RV9⟩ := (RX.out.keep KJ) k t het
        cases hp
        obtain ⟨c0, c1, c2, c3, c4, c5, c6⟩ := hc7
        obtain ⟨-, -, htl, hmy, hm1, hvl, hv4, -⟩ := HG.out.all t (List.mem_of_getElem? het)
        obtain ⟨my, hmyy⟩ : ∃ x, axN a t = x := ⟨_, rfl⟩
        have hfl := ctB_len (a := a) (af := af) hib hvl
        rw [hmyy] at hmy hm1 hvl hfl
        obtain ⟨row, x, y, p1, p2, p3, q1, q2, q3, q4, q5, q6, q7, q8⟩ := cat_nums hib hvl hv4 hm1 ha1
        obtain ⟨ub, uo, htp, tv9⟩ := RI9 a (by rw [htl]; exact HG.out.ha)
        rw [hmy] at tv9
        have htl2 : t.zs.length = hl := htl.trans HHL.out
        rw [htl2, htp] at c5
        obtain ⟨vb, vo, htq, -⟩ := RV9 0 (by omega)
        rw [htq] at c6 RV9
        have hok := HOK.out t (List.mem_of_getElem? het)
        unfold okT maxLen at hok
        obtain ⟨m, hmm⟩ : ∃ x, t.vs.length = x := ⟨_, rfl⟩
        rw [hmm] at c6 q2
        have hdm : m <= t.d := by omega
        have hdm2 : t.d <= 9223372036854775807 := by omega
        have HSNO := Lib.hid (lst_snoc a af i het)
        have HFL := Lib.hid (show (flV (ctB a af i t)).length = (y - x) * 2 by rw [flV_len, hfl, <- q4, q3])
        have HLB := Lib.hid (show (ctB a af i t).length = y - x by rw [hfl, <- q4, q3])
        have HCB := Lib.hid (show (t.vs.drop x).take (y - x) = ctB a af i t by unfold ctB; rw [hmyy, <- q5, q3, <- q4])
        have HN9 : Hid (n9 + (y - x) <= 4096) := Lib.hid (by
         have h1 := lst_len HG.out HSL.out HS9.out hib (k := k + 1)
         have h2 := VJ.1
         rw [flV_len] at h2
         rw [HSNO.out, List.length_append, HLB.out] at h1
         omega)
        have HVS := Lib.hid (And.intro hmm hv4)
        obtain ⟨i1, hi1⟩ : ∃ z : Nat, z = i + 1 := ⟨_, rfl⟩
        have p3' : (i1 : Int) * (row : Int) = y := by rw [hi1]; push_cast; exact p3
        have HI1 := Lib.hid hi1
        have hi1b : i1 <= 4096 := by omega
        have HP := Lib.hid (And.intro p2 p3')
        have x0 : (0 : Int) <= x := by omega
        have xy : (x : Int) <= y := by omega
        have yd : (y : Int) <= t.d := by omega
        have xm : (y : Int) <= m := by omega
        have hne : ¬ t.d = x := by omega
        have hrw : (row : Int) <= 4096 := by omega
        clear het htl hmy hm1 hvl hv4 hmyy htl2 htp htq hmm hfl p2 p3 p3' q3 q4 q5 hi1 hok
        go_upto_region 20 with fail
        have W9 : Below wr.heap.size wr (wr.alloc (Obj.cells #[Value.int .i64 t.K, Value.int .i64 t.B, Value.int .i64 t.F, Value.int .i64 t.R, Value.int .i64 t.O, Value.slice (some ⟨ub, uo, none⟩) hl t.c, Value.slice (some ⟨vb, vo, none⟩) m t.d] 27)) := (Below.refl _ _).alloc (Nat.le_refl _) _
        have M7 := B7.new wr 27 (.int .i64 t.K) (.int .i64 t.B) (.int .i64 t.F) (.int .i64 t.R) (.int .i64 t.O) (.slice (some ⟨ub, uo, none⟩) hl t.c) (.slice (some ⟨vb, vo, none⟩) m t.d)
        have ZK := Lib.hid (B7.keep W9 ZJ.lt ZJ)
        have MK := Lib.hid (B7.keep W9 MJ.lt MJ)
        have PK := Lib.hid (own_belowE PJ W9)
        have VK := own_belowE VJ W9
        have KK9 := Lib.hid (KJ.trans (W9.mono KJ.size))
        have tv8 := Rg.keep W9 (World.block_lt_of_cell? _ _ tv9) tv9
        have RV8 := Lib.hid (RV9.below W9)
        have hwr : wr.heap.size < (wr.alloc (Obj.cells #[Value.int .i64 t.K, Value.int .i64 t.B, Value.int .i64 t.F, Value.int .i64 t.R, Value.int .i64 t.O, Value.slice (some ⟨ub, uo, none⟩) hl t.c, Value.slice (some ⟨vb, vo, none⟩) m t.d] 27)).heap.size := by simp
        have hszk : wb.heap.size <= (wr.alloc (Obj.cells #[Value.int .i64 t.K, Value.int .i64 t.B, Value.int .i64 t.F, Value.int .i64 t.R, Value.int .i64 t.O, Value.slice (some ⟨ub, uo, none⟩) hl t.c, Value.slice (some ⟨vb, vo, none⟩) m t.d] 27)).heap.size := Nat.le_trans hszr (Nat.le_of_lt hwr)
        clear W9 c0 c1 c2 c3 c4 c5 c6 ZJ MJ PJ KJ VJ tv9 RV9 RI9
        generalize (wr.alloc (Obj.cells #[Value.int .i64 t.K, Value.int .i64 t.B, Value.int .i64 t.F, Value.int .i64 t.R, Value.int .i64 t.O, Value.slice (some ⟨ub, uo, none⟩) hl t.c, Value.slice (some ⟨vb, vo, none⟩) m t.d] 27)) = w5 at *
        obtain ⟨⟨k0, k1, k2, k3, k4, k5, k6⟩, -⟩ := M7
        go_upto_region 21 with fail
        obtain ⟨⟨m0, m1, m2, m3, m4, m5, m6⟩, ⟨g0, g1, g2, g3, g4, g5, g6⟩⟩ := MK.out
        have lmk : g7 < w5.heap.size := MK.out.lt
        obtain ⟨p2, p3⟩ := HP.out
        have wq1 : IntKind.i64.wrap (x : Int) = x := wnI2 (by omega)
        have wq2 : IntKind.i64.wrap (y : Int) = y := wnI2 (by omega)
        have wq3 : IntKind.i64.wrap ((i : Int) + 1) = (i1 : Int) := by
         have h9 : (i : Int) + 1 = (i1 : Nat) := by rw [HI1.out]; push_cast; rfl
         rw [h9]; exact wnI2 (by omega)
        have HNW : Hid (∀ (z : Nat) (u : Value), (flV (ctB a af i t))[z]? = some u -> w5.cell? ((⟨vb, vo + x * 2, none⟩ : Addr).add z) = some u) := Lib.hid (by
         have h := sl_cellsV (x := x) (n := y - x) RV8.out (by rw [HVS.out.1]; omega)
         rw [HCB.out] at h
         exact h)
        refine Rk.begin (S := fun wS => wS.cell? ⟨g7, 6, none⟩ = some (.slice qv n9 dv) /\ wS.cell? ⟨wr.heap.size, 6, none⟩ = some (.slice (some ⟨vb, vo, none⟩) m t.d) /\ Below w5.heap.size w5 wS) 12 (by kernel_rfl) ⟨m6, k6, Below.drew (Below.refl _ _)⟩ (fun hHeld => ?_)
        refine SqR.p 0 ?_
        refine SqR.l [12] 1 ?_
        refine SqR.p 2 ?_
        refine SqR.l [11, 12] 3 ?_
        refine SqR.p 4 ?_
        refine SqR.p 5 ?_
        refine SqR.p 6 ?_
        refine SqR.p 7 ?_
        refine SqR.p 8 ?_
        refine SqR.p 9 ?_
        refine SqR.p 10 ?_
        refine SqR.p 11 ?_
        refine Rk.tail [12, 13, 14] [_, _, _] (by kernel_rfl) (by kernel_rfl) rfl (by decide) ?_
        clear wq1 wq2 wq3 p2 p3 hHeld
        obtain ⟨i0, hinf, hz0, hz1, hz2⟩ := info_parts infoV
        go_wp2_with (at_builtin; refine wpList_append_own _ rfl _ _ 25 rfl wb.heap.size 29 i0 (.agg #[.int .i64 0, .int .i64 0]) 2 16 Tryz.underlying25 hinf hz0 hz1 hz2 rfl (by decide) _ _ _ rfl VK.drew ⟨vb, vo + x * 2, none⟩ (y - x) _ (flV (ctB a af i t)) rfl HFL.out HNW.out (one_V _) (by unfold maxLen; have := HN9.out; omega) (by have := HN9.out; omega) (by exact hszk) ?_; intro v8 w8 hown8 hgrow _; obtain ⟨qn, dn, rfl⟩ := own_slice hown8; have hrow := row_base VK; have D8 := Lib.hid ((MK.out.drew).grown hgrow (fun e => by have := hrow _ e.symm; omega)); have T8 := Lib.hid ((ZK.out.drew).grown hgrow (fun e => by have := hrow _ e.symm; omega)); have P8 := Lib.hid ((PK.out.drew).kept hgrow (own_apart PK.out VK)); have V8 := Lib.hid hown8; have K8 := Lib.hid ((KK9.out.drew).grown hgrow (by have := KK9.out.size; exact this) (fun k e => by have := hrow _ e; omega)); have hs8 := hgrow.size; obtain ⟨⟨m0, m1, m2, m3, m4, m5, m6⟩, ⟨g0, g1, g2, g3, g4, g5, g6⟩⟩ := D8.out; have lD8 := D8.out.lt; clear hown8 hgrow)
        go_roundw
        case rel =>
         refine ⟨k + 1, qn, n9 + (y - x), dn, by simp, by omega, Lib.hid ⟨T8.out.far (by omega), D8.out.set6, P8.out.kept grown_set (.inr (by intro e; cases e; exact hgg rfl)), ?_, K8.out.setCell (p := ⟨g7, 6, none⟩) (by dsimp only; omega) _, by rw [World.size_setCell]; omega, by rw [World.size_setCell]; exact Nat.le_trans hszk hs8⟩⟩
         exact own_set (by rw [HSNO.out, flV_app]; exact V8.out) (by dsimp only; omega)
        case measure => simp [intOf]; omega
       ·obtain rfl : k = j := by omega
        have gN3 : decide ((k : Int) < k) = false := by simp
        rw [lst_end a af i HN.out] at VJ
        have HI9 := Lib.hid (show (B7 wr (w.heap.size) (.int .i64 0) (.int .i64 0) (.int .i64 0) (.int .i64 0) (.int .i64 0) (.slice none 0 0) (.slice none 0 0)) /\ (B7 wr (g7) (.int .i64 h.K) (.int .i64 h.B) (.int .i64 h.F) (.int .i64 h.R) (.int .i64 h.O) (.slice (some ⟨gp, 0, none⟩) hl cc) (.slice qv n9 dv)) /\ wr.ownsRow w1.heap.size 3 1 (.slice (some ⟨gp, 0, none⟩) hl cc) hl ((h.zs.set a (S : Int)).map (Value.int .i64)) /\ wr.ownsRow wb.heap.size 29 2 (.slice qv n9 dv) n9 (flV (LST a af L (i + 1) 0)) /\ Below w.heap.size w wr /\ g7 < wr.heap.size /\ wb.heap.size <= wr.heap.size from ⟨ZJ, MJ, PJ, VJ, KJ, lJ, hszr⟩)
        clear hk hkn ZJ MJ PJ VJ KJ lJ HK
        go_wp2_with fail
        go_roundw
        case rel => exact ⟨i + 1, qv, n9, dv, by simp, by omega, HI9⟩
        case measure => simp [intOf]; omega
     ·obtain rfl : i = bf := by omega
      have gN4 : decide ((i : Int) < i) = false := by simp
      obtain ⟨ZJ, MJ, PJ, VJ, KJ, lJ, hszr⟩ := HI.out
      obtain ⟨⟨z0, z1, z2, z3, z4, z5, z6⟩, ⟨f0, f1, f2, f3, f4, f5, f6⟩⟩ := ZJ
      have lr : w.heap.size < wr.heap.size := by omega
      obtain ⟨⟨m0, m1, m2, m3, m4, m5, m6⟩, -⟩ := MJ
      have hln := VJ.1
      rw [flV_len] at hln
      have hlst : LST a af L i 0 = ctV a af L i := by unfold LST; rw [List.take_zero]; exact List.append_nil _
      have HVL := Lib.hid (show (ctV a af L i).length = n9 by rw [<- hlst]; omega)
      have HVV := Lib.hid (hlst ▸ VJ)
      have HPP := Lib.hid PJ
      clear hln hlst VJ PJ HI
      go_upto_region 24 with fail
      repeat go_step
      have SBB := (((((((KJ).setCell (p := ⟨w.heap.size, 0, none⟩) (by dsimp only; omega) (.int .i64 h.K)).setCell (p := ⟨w.heap.size, 1, none⟩) (by dsimp only; omega) (.int .i64 h.B)).setCell (p := ⟨w.heap.size, 2, none⟩) (by dsimp only; omega) (.int .i64 h.F)).setCell (p := ⟨w.heap.size, 3, none⟩) (by dsimp only; omega) (.int .i64 h.R)).setCell (p := ⟨w.heap.size, 4, none⟩) (by dsimp only; omega) (.int .i64 h.O)).setCell (p := ⟨w.heap.size, 5, none⟩) (by dsimp only; omega) (.slice (some ⟨gp, 0, none⟩) hl cc)).setCell (p := ⟨w.heap.size, 6, none⟩) (by dsimp only; omega) (.slice qv n9 dv)
      have hlz : (h.zs.set a (S : Int)).length = hl := by rw [List.length_set]; exact HHL.out
      refine bodyPost_ret (v := .tuple #[Tn h.K h.B h.F h.R h.O (some ⟨gp, 0, none⟩) hl cc qv n9 dv, .int .i64 0]) (by simp [results, Tryz.results40, go_sem, z0, f0, z1, f1, z2, f2, z3, f3, z4, f4, z5, f5, z6, f6, lr, Tn]) rfl (.inr ⟨HSL.out, ?_⟩)
      refine ⟨some ⟨gp, 0, none⟩, cc, qv, dv, by rw [hlz, HVL.out], ?_, ?_, SBB⟩
      ·rw [hlz]; exact own_base (own_set7 (r := w.heap.size) (x0 := .int .i64 h.K) (x1 := .int .i64 h.B) (x2 := .int .i64 h.F) (x3 := .int .i64 h.R) (x4 := .int .i64 h.O) (x5 := .slice (some ⟨gp, 0, none⟩) hl cc) (x6 := .slice qv n9 dv) HPP.out (by omega)) (by omega)
      ·rw [HVL.out]; exact own_base (own_set7 (r := w.heap.size) (x0 := .int .i64 h.K) (x1 := .int .i64 h.B) (x2 := .int .i64 h.F) (x3 := .int .i64 h.R) (x4 := .int .i64 h.O) (x5 := .slice (some ⟨gp, 0, none⟩) hl cc) (x6 := .slice qv n9 dv) HVV.out (by omega)) (by omega)
end Go.Proofs.YteaaikmejacpaaaGreatDoor.Te

namespace Go.Proofs.YteaaikmejacpaaaGreatDoor.Te
open Go.ChangeShapes Go.WideShapes Go.ChangeAt Go.RowKit
open Fx Va Sh
set_option maxRecDepth 8000
set_option linter.unusedVariables false
set_option linter.unusedSimpArgs false

/-- The order that undoes an order. -/
def Bk (n : Nat) (os bk : List Int) : Prop := bk.length = n /\ ∀ k, k < n -> bk.getD (os.getD k 0).toNat 0 = (k : Int)
theorem bk_gd {n : Nat} {os bk : List Int} (hl : os.length = n) (h : gd n os n) (hb : Bk n os bk) : gd n bk n /\ ∀ l, l < n -> ∃ i, i < n /\ os.getD i 0 = (l : Int) /\ bk.getD l 0 = (i : Int) := by
 have key : ∀ l, l < n -> ∃ i, i < n /\ os.getD i 0 = (l : Int) /\ bk.getD l 0 = (i : Int) := fun l hl2 => by
  obtain ⟨i, hi, e⟩ := onto hl h hl2
  have h2 := hb.2 i hi
  rw [e, Int.toNat_natCast] at h2
  exact ⟨i, hi, e, h2⟩
 refine ⟨fun l hl2 => ?_, key⟩
 obtain ⟨i, hi, e1, e2⟩ := key l hl2
 refine ⟨by omega, by omega, fun j hj => ?_⟩
 obtain ⟨i', hi', e3, e4⟩ := key j (by omega)
 intro e
 have : i = i' := by omega
 subst this
 omega
theorem pm_back {zs os bk : List Int} (hl : os.length = zs.length) (h : gd zs.length os zs.length) (hb : Bk zs.length os bk) : pm (pm zs os) bk = zs := by
 obtain ⟨hg, key⟩ := bk_gd hl h hb
 have h1 : (pm (pm zs os) bk).length = bk.length := by unfold pm; rw [List.length_map]
 refine getD_eqI (h1.trans hb.1) fun l hl2 => ?_
 rw [h1, hb.1] at hl2
 obtain ⟨i, hi, e1, e2⟩ := key l hl2
 rw [pm_get (by rw [hb.1]; exact hl2), e2, Int.toNat_natCast, pm_get (by omega), e1, Int.toNat_natCast]
theorem pm_len (zs os : List Int) : (pm zs os).length = os.length := by unfold pm; rw [List.length_map]
theorem pmE_ok {zs os : List Int} (hv : vE zs = 0) (h : pmE zs os = 0) : os.length = zs.length /\ gd zs.length os zs.length := by
 unfold pmE at h
 rw [if_neg (by rw [hv]; decide)] at h
 by_cases hc : os.length = zs.length /\ gd zs.length os zs.length
 ·exact hc
 ·rw [if_neg hc] at h; exact absurd h (by decide)
theorem pmE_of {zs os : List Int} (hv : vE zs = 0) (h : os.length = zs.length /\ gd zs.length os zs.length) : pmE zs os = 0 := by
 unfold pmE
 rw [if_neg (by rw [hv]; decide), if_pos h]
/-- A permutation of the axes and the one that undoes it give the elements back. -/
theorem frS_back {zs os bk : List Int} (hv : vE zs = 0) (hl : os.length = zs.length) (h : gd zs.length os zs.length) (hb : Bk zs.length os bk) {i : Int} (i0 : 0 <= i) (i1 : i < sp zs) : 0 <= frS (pm zs os) bk i (pm zs os).length /\ frS (pm zs os) bk i (pm zs os).length < sp zs /\ frS zs os (frS (pm zs os) bk i (pm zs os).length) zs.length = i := by
 obtain ⟨hg, key⟩ := bk_gd hl h hb
 obtain ⟨pv, ps⟩ := pm_valid hv hl h
 have pl : (pm zs os).length = zs.length := (pm_len zs os).trans hl
 have hb2 := pm_back hl h hb
 -- the point in the permuted tensor
 obtain ⟨y, hyd⟩ : ∃ y : List Int, y = (List.range zs.length).map fun l => (pt zs i).getD (os.getD l 0).toNat 0 := ⟨_, rfl⟩
 have hy : y.length = zs.length := by rw [hyd]; simp
 have hyg : ∀ l, l < zs.length -> y.getD l 0 = (pt zs i).getD (os.getD l 0).toNat 0 := fun l hl2 => by
  rw [getD_at (by omega)]
  subst hyd
  rw [List.getElem_map, List.getElem_range]
 have o1 : of 0 (pm zs os) y = some (frS (pm zs os) bk i (pm zs os).length) := by
  refine pm_off pv (by rw [pl]; exact hb.1) (by rw [pl]; exact hg) (by rw [pl]; exact hy) i0 (by rw [ps]; exact i1) fun j hj => ?_
  rw [pl] at hj
  rw [hb2]
  obtain ⟨l, hl2, e1, e2⟩ := key j hj
  rw [e2, Int.toNat_natCast, hyg l hl2, e1, Int.toNat_natCast]
 obtain ⟨j, hj⟩ : ∃ j, frS (pm zs os) bk i (pm zs os).length = j := ⟨_, rfl⟩
 rw [hj] at o1 ⊢
 have b1 := of_bd _ _ _ _ (valid_of pv).2.1 (by rw [pl]; exact hy) o1 (Int.le_refl _)
 rw [ps] at b1
 have j0 : 0 <= j := by omega
 have j1 : j < sp zs := by omega
 have o2 := of_pt pv j0 (by rw [ps]; exact j1)
 rw [oA_ok pv (pt_length _ _)] at o2
 have ey : y = pt (pm zs os) j := of_inj _ _ _ _ _ (valid_of pv).2.1 (by rw [pl]; exact hy) (pt_length _ _) o1 o2 (Int.le_refl _)
 have o3 : of 0 zs (pt zs i) = some (frS zs os j zs.length) := by
  refine pm_off hv hl h (pt_length _ _) j0 j1 fun l hl2 => ?_
  rw [<- ey, hyg l hl2]
 have o4 := of_pt hv i0 i1
 rw [oA_ok hv (pt_length _ _), o3] at o4
 exact ⟨j0, j1, Option.some.inj o4⟩
theorem pmV_back {zs os bk : List Int} {vs : List (Int × Int)} (hv : vE zs = 0) (hs : (vs.length : Int) = sp zs) (hl : os.length = zs.length) (h : gd zs.length os zs.length) (hb : Bk zs.length os bk) : pmV (pm zs os) bk (pmV zs os vs) = vs := by
 apply List.ext_getElem (by rw [pmV_length, pmV_length])
 intro i h1 h2
 obtain ⟨k0, k1, k2⟩ := frS_back hv hl h hb (i := (i : Int)) (by omega) (by omega)
 have e := pmV_get (zs := pm zs os) (os := bk) (vs := pmV zs os vs) (a := i) (by rw [pmV_length]; exact h2)
 obtain ⟨j, hj⟩ : ∃ j : Nat, frS (pm zs os) bk (i : Int) (pm zs os).length = j := ⟨(frS (pm zs os) bk (i : Int) (pm zs os).length).toNat, by omega⟩
 rw [hj] at e k1 k2
 rw [Int.toNat_natCast, pmV_get (zs := zs) (os := os) (vs := vs) (a := j) (by omega), k2, Int.toNat_natCast] at e
 have g1 : (pmV (pm zs os) bk (pmV zs os vs)).getD i (0, 0) = (pmV (pm zs os) bk (pmV zs os vs))[i] := by rw [List.getD_eq_getElem?_getD, List.getElem?_eq_getElem h1]; rfl
 have g2 : vs.getD i (0, 0) = vs[i] := by rw [List.getD_eq_getElem?_getD, List.getElem?_eq_getElem h2]; rfl
 rw [<- g1, <- g2]
 exact e
theorem pmV_any {zs os : List Int} {vs : List (Int × Int)} {f : Int × Int -> Bool} (hv : vE zs = 0) (hs : (vs.length : Int) = sp zs) (hl : os.length = zs.length) (h : gd zs.length os zs.length) (hf : vs.any f = false) : (pmV zs os vs).any f = false := by
 rw [List.any_eq_false] at hf ⊢
 intro x hx
 unfold pmV at hx
 obtain ⟨a, ha, rfl⟩ := List.mem_map.1 hx
 rw [List.mem_range] at ha
 obtain ⟨pv, ps⟩ := pm_valid hv hl h
 obtain ⟨m1, m2⟩ := frS_bd (a := (a : Int)) hv hl h zs.length (Nat.le_refl _)
 refine hf _ ?_
 obtain ⟨k, hk⟩ : ∃ k : Nat, frS zs os (a : Int) zs.length = k := ⟨(frS zs os (a : Int) zs.length).toNat, by omega⟩
 rw [hk, Int.toNat_natCast, List.getD_eq_getElem?_getD, List.getElem?_eq_getElem (by omega)]
 exact List.getElem_mem _
end Go.Proofs.YteaaikmejacpaaaGreatDoor.Te

namespace Go.Proofs.YteaaikmejacpaaaGreatDoor.Te
open Go.ChangeShapes Go.WideShapes Go.ChangeAt Go.RowKit
open Fx Va Sh
set_option maxRecDepth 8000
set_option linter.unusedVariables false
set_option linter.unusedSimpArgs false

theorem tE_of {K B F R O : Int} {zs : List Int} {vs : List (Int × Int)} (h1 : ty K B F R O = true) (h2 : vE zs = 0) (h3 : (vs.length : Int) = sp zs) (h4 : vs.any (badV K B F R O) = false) : tE K B F R O zs vs = 0 := by
 unfold tE
 rw [if_pos h1, if_neg (by rw [h2]; decide), if_neg (by rw [h4, h3]; simp)]

end Go.Proofs.YteaaikmejacpaaaGreatDoor.Te

namespace Go.Proofs.YteaaikmejacpaaaGreatDoor.Te
open Go.ChangeShapes Go.WideShapes Go.ChangeAt Go.RowKit
open Fx Va Sh
set_option maxRecDepth 8000
set_option linter.unusedVariables false
set_option linter.unusedSimpArgs false

theorem any_sub {f : Int × Int -> Bool} {l m : List (Int × Int)} (h : ∀ x ∈ l, x ∈ m) (hm : m.any f = false) : l.any f = false := by
 rw [List.any_eq_false] at hm ⊢
 exact fun x hx => hm x (h x hx)
theorem slV_mem {vs : List (Int × Int)} {my af f t n : Nat} : ∀ x ∈ slV vs my af f t n, x ∈ vs := fun x hx => by
 unfold slV at hx
 obtain ⟨i, -, hi⟩ := List.mem_flatMap.1 hx
 unfold slB at hi
 exact List.mem_of_mem_drop (List.mem_of_mem_take hi)
theorem sp_set {zs : List Int} {a : Nat} (ha : a < zs.length) (k : Int) : sp (zs.set a k) = sp (zs.take a) * k * sp (zs.drop (a + 1)) := by
 have e : zs.set a k = zs.take a ++ k :: zs.drop (a + 1) := by rw [List.set_eq_take_append_cons_drop, if_pos ha]
 rw [e, sp_append, sp_cons, Int.mul_assoc]
theorem vE_set {zs : List Int} {a : Nat} {k : Int} (hv : vE zs = 0) (ha : a < zs.length) (h1 : 1 <= k) (h2 : k <= zs.getD a 0) : vE (zs.set a k) = 0 := by
 obtain ⟨h6, hlow, -, hsp, -⟩ := valid_of hv
 obtain ⟨e, p1, p2, p3⟩ := sp_parts hv ha
 have hl : (zs.set a k).any low = false := by
  rw [List.any_eq_false] at hlow ⊢
  intro x hx
  rcases List.mem_or_eq_of_mem_set hx with h | h
  ·exact hlow x h
  ·subst h; unfold low; simp; omega
 have hs : sp (zs.set a k) <= 4096 := by
  rw [sp_set ha]
  have h3 : sp (zs.take a) * k <= sp (zs.take a) * zs.getD a 0 := Int.mul_le_mul_of_nonneg_left h2 (by omega)
  have h4 := Int.mul_le_mul_of_nonneg_right h3 (by omega : 0 <= sp (zs.drop (a + 1)))
  omega
 exact vE_some (s := 1 * sp (zs.set a k)) (by rw [List.length_set]; omega) hl (pr_ok _ 1 (by decide) hl (by omega))
/-- A part of a valid tensor is one. -/
theorem sl_valid {K B F R O : Int} {zs : List Int} {vs : List (Int × Int)} {a f t bf my af : Nat} (ht : tE K B F R O zs vs = 0) (ha : a < zs.length) (hf : f < t) (htm : t <= my) (hbf : sp (zs.take a) = bf) (hmy : zs.getD a 0 = my) (haf : sp (zs.drop (a + 1)) = af) (hm : vs.length = bf * my * af) : tE K B F R O (zs.set a ((t : Int) - f)) (slV vs my af f t bf) = 0 := by
 obtain ⟨h1, hv, hl, hb⟩ := tE_ok ht
 refine tE_of h1 (vE_set hv ha (by omega) (by omega)) ?_ (any_sub slV_mem hb)
 rw [slV_len (Nat.le_of_lt hf) htm hm bf (Nat.le_refl _), sp_set ha, hbf, haf]
 have e : t * af - f * af = (t - f) * af := by rw [Nat.sub_mul]
 rw [e]
 have e2 : ((t : Int) - f) = ((t - f : Nat) : Int) := by omega
 rw [e2]
 push_cast
 rw [Int.mul_assoc]
theorem dfF_set (a : Nat) (zs : List Int) (x y : Int) : ∀ f k, dfF (a : Int) (zs.set a x) (zs.set a y) f k = false
 | 0, _ => rfl
 | f + 1, k => by
  unfold dfF
  rw [if_neg (fun h => h.2 (by
   have hk : ¬ a = k := fun e => h.1 (by rw [e])
   rw [List.getD_eq_getElem?_getD, List.getD_eq_getElem?_getD, List.getElem?_set_ne hk, List.getElem?_set_ne hk]))]
  exact dfF_set a zs x y f (k + 1)
theorem blk_of {c : Nat} {f : Nat -> List (Int × Int)} : ∀ (n : Nat), (∀ i, i < n -> (f i).length = c) -> ∀ i, i < n -> (((List.range n).flatMap f).drop (i * c)).take c = f i
 | 0, _, i, hi => by omega
 | n + 1, h, i, hi => by
  have hl : ((List.range n).flatMap f).length = n * c := by
   have : ∀ k, k <= n -> ((List.range k).flatMap f).length = k * c := by
    intro k
    induction k with
    | zero => intro _; simp
    | succ k ih =>
     intro hk
     rw [List.range_succ, List.flatMap_append, List.length_append, ih (by omega), Nat.succ_mul]
     simp [h k (by omega)]
   exact this n (Nat.le_refl _)
  have e : (List.range (n + 1)).flatMap f = (List.range n).flatMap f ++ f n := by
   rw [List.range_succ, List.flatMap_append]; simp
  rw [e]
  by_cases hin : i < n
  ·have h2 : (i + 1) * c <= n * c := Nat.mul_le_mul_right _ hin
   rw [Nat.add_mul, Nat.one_mul] at h2
   rw [List.drop_append_of_le_length (by omega), List.take_append_of_le_length (by rw [List.length_drop]; omega)]
   exact blk_of n (fun j hj => h j (by omega)) i hin
  ·obtain rfl : i = n := by omega
   rw [<- hl, List.drop_left]
   exact List.take_of_length_le (by rw [h i (by omega)]; exact Nat.le_refl _)
theorem slV_all {vs : List (Int × Int)} {my af : Nat} : ∀ n, slV vs my af 0 my n = vs.take (n * my * af)
 | 0 => by simp [slV]
 | n + 1 => by
  rw [slV_succ, slV_all n]
  unfold slB
  rw [Nat.zero_mul, Nat.add_zero, Nat.sub_zero, <- List.take_add]
  congr 1
  rw [Nat.add_mul, Nat.add_mul, Nat.one_mul]
theorem slB_two (vs : List (Int × Int)) {my af x i : Nat} (hx : x <= my) : slB vs my af 0 x i ++ slB vs my af x my i = slB vs my af 0 my i := by
 unfold slB
 have h : x * af <= my * af := Nat.mul_le_mul_right _ hx
 rw [Nat.zero_mul, Nat.add_zero, Nat.sub_zero, Nat.sub_zero, <- List.drop_drop, <- List.take_add]
 congr 1
 omega
/-- Two parts, joined. -/
theorem two_joined {vs : List (Int × Int)} {bf my af x a : Nat} (hx0 : 0 < x) (hx : x < my) (hm : vs.length = bf * my * af) {t1 t2 : Tr} (e1 : t1.vs = slV vs my af 0 x bf) (e2 : t2.vs = slV vs my af x my bf) (n1 : axN a t1 = x) (n2 : axN a t2 = my - x) : ctV a af [t1, t2] bf = vs := by
 have k1 : ∀ i, i < bf -> ctB a af i t1 = slB vs my af 0 x i := fun i hi => by
  unfold ctB
  rw [n1, e1]
  unfold slV
  exact blk_of (c := x * af) bf (fun j hj => by rw [slB_len (Nat.zero_le _) (Nat.le_of_lt hx) hj hm]; omega) i hi
 have k2 : ∀ i, i < bf -> ctB a af i t2 = slB vs my af x my i := fun i hi => by
  unfold ctB
  rw [n2, e2]
  unfold slV
  exact blk_of (c := (my - x) * af) bf (fun j hj => by rw [slB_len (Nat.le_of_lt hx) (Nat.le_refl _) hj hm, Nat.sub_mul]) i hi
 have k3 : ∀ n, n <= bf -> ctV a af [t1, t2] n = slV vs my af 0 my n := by
  intro n
  induction n with
  | zero => intro _; rfl
  | succ n ih =>
   intro hn
   rw [ctV_succ, slV_succ, ih (by omega)]
   congr 1
   show ctB a af n t1 ++ (ctB a af n t2 ++ []) = _
   rw [List.append_nil, k1 n (by omega), k2 n (by omega), slB_two vs (Nat.le_of_lt hx)]
 rw [k3 bf (Nat.le_refl _), slV_all, List.take_of_length_le (by omega)]
theorem ccE_two {K B F R O : Int} {zs : List Int} {a : Nat} {x y : Int} {v1 v2 : List (Int × Int)} {p1 p2 q1 q2 : Option Addr} {c1 c2 d1 d2 : Nat} (ha : a < zs.length) (h1 : tE K B F R O (zs.set a x) v1 = 0) (h2 : tE K B F R O (zs.set a y) v2 = 0) : ccE (a : Int) [⟨K, B, F, R, O, p1, zs.set a x, c1, q1, v1, d1⟩, ⟨K, B, F, R, O, p2, zs.set a y, c2, q2, v2, d2⟩] = 0 := by
 have hv : ccV [⟨K, B, F, R, O, p1, zs.set a x, c1, q1, v1, d1⟩, ⟨K, B, F, R, O, p2, zs.set a y, c2, q2, v2, d2⟩] = 0 := by
  unfold ccV tEt
  rw [if_neg (by simpa using h1)]
  unfold ccV tEt
  rw [if_neg (by simpa using h2)]
  rfl
 rw [ccE_eq rfl hv]
 have hT : ccT ⟨K, B, F, R, O, p1, zs.set a x, c1, q1, v1, d1⟩ [⟨K, B, F, R, O, p2, zs.set a y, c2, q2, v2, d2⟩] = 0 := by
  unfold ccT
  rw [if_neg (by unfold tyq; simp), if_neg (by simp)]
  rfl
 rw [hT, if_neg (by decide), if_neg (by rw [List.length_set]; omega)]
 unfold ccD
 rw [dfF_set, if_neg (by decide)]
 rfl
theorem axN_set {zs : List Int} {a x : Nat} (ha : a < zs.length) {K B F R O : Int} {p q : Option Addr} {c d : Nat} {vs : List (Int × Int)} : axN a ⟨K, B, F, R, O, p, zs.set a (x : Int), c, q, vs, d⟩ = x := by
 unfold axN
 dsimp only
 rw [List.getD_eq_getElem?_getD, List.getElem?_set, if_pos rfl, if_pos ha]
 rfl
theorem set_back {zs : List Int} {a : Nat} {k : Int} (ha : a < zs.length) (h : zs.getD a 0 = k) : zs.set a k = zs := by
 refine getD_eqI List.length_set fun i hi => ?_
 rw [List.getD_eq_getElem?_getD, List.getElem?_set]
 by_cases e : a = i
 ·subst e
  rw [if_pos rfl, if_pos ha, <- h]; rfl
 ·rw [if_neg e, List.getD_eq_getElem?_getD]
end Go.Proofs.YteaaikmejacpaaaGreatDoor.Te

namespace Go.Proofs.YteaaikmejacpaaaGreatDoor.Te
open Go.ChangeShapes Go.WideShapes Go.ChangeAt Go.RowKit
open Fx Va Sh
set_option maxRecDepth 8000
set_option linter.unusedVariables false
set_option linter.unusedSimpArgs false

set_option maxRecDepth 100000 in
set_option maxHeartbeats 2000000 in
theorem rt_a (K B F R O : Int) (p : Option Addr) (zs : List Int) (c : Nat) (q : Option Addr) (vs : List (Int × Int)) (d : Nat) (x : Option Addr) (xs : List Int) (e : Nat) (ax tt : Int) (w : World) (b0 : -9223372036854775808 <= B) (b1 : B <= 9223372036854775807) (hn : zs.length <= maxLen) (hm : vs.length <= maxLen) (hx : xs.length <= maxLen) (RA : Hid (SlI w p zs)) (RB : Hid (SlV w q vs)) (RX : Hid (SlI w x xs)) (hc : zs.length <= c) (hc2 : c <= 9223372036854775807) (hd : vs.length <= d) (hd2 : d <= 9223372036854775807) (hLA : Tx.LA w) (hs : (decide ((vs.length : Int) <= 500) && decide (zs.length <= 20)) = false) :
  Calls Tryz.prog 12 #[Tn K B F R O p zs.length c q vs.length d, .slice x xs.length e, .int .i64 ax, .int .i64 tt] w fun en w' => en = .returned (.bool true) /\ Below w.heap.size w w' := by
 have HLA := Lib.hid hLA
 have EX := Lib.hid fun u h => exam12 u h
 have SM0 := fun u => tsmall K B F R O p zs.length c q vs.length d 500 u
 rw [hs] at SM0
 have SM := Lib.hid SM0
 obtain ⟨m, hmm⟩ : ∃ m, vs.length = m := ⟨_, rfl⟩
 rw [hmm] at SM ⊢
 have KB : Hid (Below w.heap.size w (w.alloc (Obj.cells #[Value.int .i64 K, Value.int .i64 B, Value.int .i64 F, Value.int .i64 R, Value.int .i64 O, Value.slice p zs.length c, Value.slice q m d] 27))) := Lib.hid ((Below.refl _ _).alloc (Nat.le_refl _) _)
 have TB : Hid (B7 (w.alloc (Obj.cells #[Value.int .i64 K, Value.int .i64 B, Value.int .i64 F, Value.int .i64 R, Value.int .i64 O, Value.slice p zs.length c, Value.slice q m d] 27)) (w.heap.size) (.int .i64 K) (.int .i64 B) (.int .i64 F) (.int .i64 R) (.int .i64 O) (.slice p zs.length c) (.slice q m d)) := Lib.hid (B7.new w _ (.int .i64 K) (.int .i64 B) (.int .i64 F) (.int .i64 R) (.int .i64 O) (.slice p zs.length c) (.slice q m d))
 clear hs SM0 hm hmm hd
 unfold Tn at *
 go_enter Tryz.func12, Tryz.ntmps12
 go_wp2_with (first | (go_at_call 14; (with_reducible refine (SM.out _).mono ?_); rintro e w1 ⟨rfl, hb⟩; have KN := KB.out.trans (hb.mono KB.out.size); have TN9 := B7.keep hb TB.out.lt TB.out; have KB := Lib.hid KN; have TB := Lib.hid TN9; obtain ⟨⟨c0, c1, c2, c3, c4, c5, c6⟩, -⟩ := TB.out; have lt9 : w.heap.size < w1.heap.size := TB.out.lt; clear KN TN9 hb) | (go_at_call 15; (with_reducible refine (EX.out _ (HLA.out.below KB.out)).mono ?_); rintro e wX ⟨rfl, hb⟩; have KX := Lib.hid (KB.out.trans (hb.mono KB.out.size)); clear hb))
 go_ret
 exact ⟨rfl, KX.out⟩

set_option maxRecDepth 100000 in
set_option maxHeartbeats 2000000 in
theorem rt_b (K B F R O : Int) (p : Option Addr) (zs : List Int) (c : Nat) (q : Option Addr) (vs : List (Int × Int)) (d : Nat) (x : Option Addr) (xs : List Int) (e : Nat) (ax tt : Int) (w : World) (b0 : -9223372036854775808 <= B) (b1 : B <= 9223372036854775807) (hn : zs.length <= maxLen) (hm : vs.length <= maxLen) (hx : xs.length <= maxLen) (RA : Hid (SlI w p zs)) (RB : Hid (SlV w q vs)) (RX : Hid (SlI w x xs)) (hc : zs.length <= c) (hc2 : c <= 9223372036854775807) (hd : vs.length <= d) (hd2 : d <= 9223372036854775807) (hLA : Tx.LA w) (hs : (decide ((vs.length : Int) <= 500) && decide (zs.length <= 20)) = true) (hl : 20 < xs.length) :
  Calls Tryz.prog 12 #[Tn K B F R O p zs.length c q vs.length d, .slice x xs.length e, .int .i64 ax, .int .i64 tt] w fun en w' => en = .returned (.bool true) /\ Below w.heap.size w w' := by
 have HLA := Lib.hid hLA
 have EX := Lib.hid fun u h => exam12 u h
 have SM0 := fun u => tsmall K B F R O p zs.length c q vs.length d 500 u
 rw [hs] at SM0
 have SM := Lib.hid SM0
 have g1 : decide ((20 : Int) < xs.length) = true := by simp; omega
 have g2 : decide (20 < xs.length) = true := by simpa using hl
 obtain ⟨m, hmm⟩ : ∃ m, vs.length = m := ⟨_, rfl⟩
 rw [hmm] at SM ⊢
 have KB : Hid (Below w.heap.size w (w.alloc (Obj.cells #[Value.int .i64 K, Value.int .i64 B, Value.int .i64 F, Value.int .i64 R, Value.int .i64 O, Value.slice p zs.length c, Value.slice q m d] 27))) := Lib.hid ((Below.refl _ _).alloc (Nat.le_refl _) _)
 have TB : Hid (B7 (w.alloc (Obj.cells #[Value.int .i64 K, Value.int .i64 B, Value.int .i64 F, Value.int .i64 R, Value.int .i64 O, Value.slice p zs.length c, Value.slice q m d] 27)) (w.heap.size) (.int .i64 K) (.int .i64 B) (.int .i64 F) (.int .i64 R) (.int .i64 O) (.slice p zs.length c) (.slice q m d)) := Lib.hid (B7.new w _ (.int .i64 K) (.int .i64 B) (.int .i64 F) (.int .i64 R) (.int .i64 O) (.slice p zs.length c) (.slice q m d))
 clear hs SM0 hm hmm hd
 unfold Tn at *
 go_enter Tryz.func12, Tryz.ntmps12
 go_wp2_with (first | (go_at_call 14; (with_reducible refine (SM.out _).mono ?_); rintro e w1 ⟨rfl, hb⟩; have KN := KB.out.trans (hb.mono KB.out.size); have TN9 := B7.keep hb TB.out.lt TB.out; have KB := Lib.hid KN; have TB := Lib.hid TN9; obtain ⟨⟨c0, c1, c2, c3, c4, c5, c6⟩, -⟩ := TB.out; have lt9 : w.heap.size < w1.heap.size := TB.out.lt; clear KN TN9 hb) | (go_at_call 15; (with_reducible refine (EX.out _ (HLA.out.below KB.out)).mono ?_); rintro e wX ⟨rfl, hb⟩; have KX := Lib.hid (KB.out.trans (hb.mono KB.out.size)); clear hb))
 go_ret
 exact ⟨rfl, KX.out⟩

set_option maxRecDepth 100000 in
set_option maxHeartbeats 2000000 in
theorem rt_c (K B F R O : Int) (p : Option Addr) (zs : List Int) (c : Nat) (q : Option Addr) (vs : List (Int × Int)) (d : Nat) (x : Option Addr) (xs : List Int) (e : Nat) (ax tt : Int) (w : World) (b0 : -9223372036854775808 <= B) (b1 : B <= 9223372036854775807) (hn : zs.length <= maxLen) (hm : vs.length <= maxLen) (hx : xs.length <= maxLen) (RA : Hid (SlI w p zs)) (RB : Hid (SlV w q vs)) (RX : Hid (SlI w x xs)) (hc : zs.length <= c) (hc2 : c <= 9223372036854775807) (hd : vs.length <= d) (hd2 : d <= 9223372036854775807) (hLA : Tx.LA w) (hs : (decide ((vs.length : Int) <= 500) && decide (zs.length <= 20)) = true) (hl : ¬ 20 < xs.length) (ht : tE K B F R O zs vs ≠ 0) :
  Calls Tryz.prog 12 #[Tn K B F R O p zs.length c q vs.length d, .slice x xs.length e, .int .i64 ax, .int .i64 tt] w fun en w' => en = .returned (.bool true) /\ Below w.heap.size w w' := by
 have HLA := Lib.hid hLA
 have EX := Lib.hid fun u h => exam12 u h
 have SM0 := fun u => tsmall K B F R O p zs.length c q vs.length d 500 u
 rw [hs] at SM0
 have SM := Lib.hid SM0
 have RV0 := fun u h1 h2 => rval K B F R O p zs c q vs d u hn hm h1 h2
 obtain ⟨E, hE⟩ : ∃ E, tE K B F R O zs vs = E := ⟨_, rfl⟩
 rw [hE] at RV0 ht
 have g1 : decide ((20 : Int) < xs.length) = false := by simp; omega
 have g2 : decide (20 < xs.length) = false := by simpa using hl
 have g3 : (E == 0) = false := by simpa using ht
 have g4 : (E != 0) = true := by simpa using ht
 obtain ⟨m, hmm⟩ : ∃ m, vs.length = m := ⟨_, rfl⟩
 rw [hmm] at SM RV0 ⊢
 have RVV := Lib.hid RV0
 have KB : Hid (Below w.heap.size w (w.alloc (Obj.cells #[Value.int .i64 K, Value.int .i64 B, Value.int .i64 F, Value.int .i64 R, Value.int .i64 O, Value.slice p zs.length c, Value.slice q m d] 27))) := Lib.hid ((Below.refl _ _).alloc (Nat.le_refl _) _)
 have TB : Hid (B7 (w.alloc (Obj.cells #[Value.int .i64 K, Value.int .i64 B, Value.int .i64 F, Value.int .i64 R, Value.int .i64 O, Value.slice p zs.length c, Value.slice q m d] 27)) (w.heap.size) (.int .i64 K) (.int .i64 B) (.int .i64 F) (.int .i64 R) (.int .i64 O) (.slice p zs.length c) (.slice q m d)) := Lib.hid (B7.new w _ (.int .i64 K) (.int .i64 B) (.int .i64 F) (.int .i64 R) (.int .i64 O) (.slice p zs.length c) (.slice q m d))
 clear hs SM0 hm hmm hd RV0 hE ht
 unfold Tn at *
 go_enter Tryz.func12, Tryz.ntmps12
 go_wp2_with (first | (go_at_call 14; (with_reducible refine (SM.out _).mono ?_); rintro e w1 ⟨rfl, hb⟩; have KN := KB.out.trans (hb.mono KB.out.size); have TN9 := B7.keep hb TB.out.lt TB.out; have KB := Lib.hid KN; have TB := Lib.hid TN9; obtain ⟨⟨c0, c1, c2, c3, c4, c5, c6⟩, -⟩ := TB.out; have lt9 : w.heap.size < w1.heap.size := TB.out.lt; clear KN TN9 hb) | (go_at_call 21; (with_reducible refine (RVV.out _ (Lib.hid (SlI.keep KB.out RA.out)) (Lib.hid (SlV.below RB.out KB.out))).mono ?_); rintro e w2 ⟨rfl, hb⟩; have KN := KB.out.trans (hb.mono KB.out.size); have TN9 := B7.keep hb TB.out.lt TB.out; have KB := Lib.hid KN; have TB := Lib.hid TN9; obtain ⟨⟨c0, c1, c2, c3, c4, c5, c6⟩, -⟩ := TB.out; have lt9 : w.heap.size < w2.heap.size := TB.out.lt; clear KN TN9 hb) | (go_at_call 15; (with_reducible refine (EX.out _ (HLA.out.below KB.out)).mono ?_); rintro e wX ⟨rfl, hb⟩; have KX := Lib.hid (KB.out.trans (hb.mono KB.out.size)); clear hb))
 go_ret
 exact ⟨rfl, KX.out⟩
end Go.Proofs.YteaaikmejacpaaaGreatDoor.Te

namespace Go.Proofs.YteaaikmejacpaaaGreatDoor.Te
open Go.ChangeShapes Go.WideShapes Go.ChangeAt Go.RowKit
open Fx Va Sh
set_option maxRecDepth 8000
set_option linter.unusedVariables false
set_option linter.unusedSimpArgs false

/-- What the walk asks of two parts. -/
theorem rt_parts (K B F R O : Int) (p : Option Addr) (zs : List Int) (c : Nat) (q : Option Addr) (vs : List (Int × Int)) (d : Nat) (b0 : -9223372036854775808 <= B) (b1 : B <= 9223372036854775807) (hn : zs.length <= maxLen) (hm : vs.length <= maxLen) (hc : zs.length <= c) (hc2 : c <= 9223372036854775807) (hd : vs.length <= d) (hd2 : d <= 9223372036854775807) (ht : tE K B F R O zs vs = 0) (a x my : Nat) (ha : a < zs.length) (hmy : zs.getD a 0 = my) (hx0 : 0 < x) (hx : x < my) :
  ∃ (m1 m2 : Nat) (z1 z2 : List Int) (v1 v2 : List (Int × Int)), (z1.length = zs.length /\ z2.length = zs.length /\ v1.length = m1 /\ v2.length = m2 /\ 1 <= m1 /\ 1 <= m2 /\ m1 <= 4096 /\ m2 <= 4096) /\
   (∀ u, Hid (SlI u p zs) -> Hid (SlV u q vs) -> Calls Tryz.prog 35 #[Tn K B F R O p zs.length c q vs.length d, .int .i64 a, .int .i64 0, .int .i64 x] u (TSame K B F R O zs.length m1 z1 v1 u)) /\
   (∀ u, Hid (SlI u p zs) -> Hid (SlV u q vs) -> Calls Tryz.prog 35 #[Tn K B F R O p zs.length c q vs.length d, .int .i64 a, .int .i64 x, .int .i64 my] u (TSame K B F R O zs.length m2 z2 v2 u)) /\
   (∀ pa ca qa da pb cb qb db g u, (zs.length <= ca /\ ca <= maxLen /\ m1 <= da /\ da <= maxLen) -> (zs.length <= cb /\ cb <= maxLen /\ m2 <= db /\ db <= maxLen) -> SlI u pa z1 -> SlV u qa v1 -> SlI u pb z2 -> SlV u qb v2 -> C7 u g 0 ⟨K, B, F, R, O, pa, z1, ca, qa, v1, da⟩ -> C7 u g 7 ⟨K, B, F, R, O, pb, z2, cb, qb, v2, db⟩ ->
    Calls Tryz.prog 40 #[.int .i64 a, .slice (some ⟨g, 0, none⟩) 2 2] u (TSame K B F R O zs.length vs.length zs vs u)) := by
 obtain ⟨-, hv, hl, -⟩ := tE_ok ht
 obtain ⟨hp, p1, p2, p3⟩ := sp_parts hv ha
 obtain ⟨h6, -, -, hsp, -⟩ := valid_of hv
 obtain ⟨bf, hbf⟩ : ∃ bf : Nat, sp (zs.take a) = bf := ⟨(sp (zs.take a)).toNat, by omega⟩
 obtain ⟨af, haf⟩ : ∃ af : Nat, sp (zs.drop (a + 1)) = af := ⟨(sp (zs.drop (a + 1))).toNat, by omega⟩
 have q1 : 1 <= bf := by omega
 have q3 : 1 <= af := by omega
 have hmm3 : vs.length = bf * my * af := by
  have h1 : ((vs.length : Nat) : Int) = ((bf * my * af : Nat) : Int) := by rw [hl, hp, hbf, hmy, haf]; push_cast; rfl
  exact Int.ofNat.inj h1
 have k1 : bf * 1 * af <= bf * my * af := Nat.mul_le_mul_right _ (Nat.mul_le_mul_left _ (by omega))
 rw [Nat.mul_one, <- hmm3] at k1
 have k2 : 1 * my * 1 <= bf * my * af := Nat.mul_le_mul (Nat.mul_le_mul_right _ q1) q3
 rw [Nat.one_mul, Nat.mul_one, <- hmm3] at k2
 have k3 : bf <= bf * af := Nat.le_mul_of_pos_right _ q3
 have k4 : af <= bf * af := Nat.le_mul_of_pos_left _ q1
 have l1 := slV_len (vs := vs) (f := 0) (t := x) (Nat.zero_le _) (Nat.le_of_lt hx) hmm3 bf (Nat.le_refl _)
 have l2 := slV_len (vs := vs) (f := x) (t := my) (Nat.le_of_lt hx) (Nat.le_refl _) hmm3 bf (Nat.le_refl _)
 have e1 : ((x : Int) - ((0 : Nat) : Int)) = (x : Int) := by simp
 have e2 : ((my : Int) - (x : Int)) = ((my - x : Nat) : Int) := by omega
 have w1 := sl_valid (f := 0) (t := x) ht ha hx0 (Nat.le_of_lt hx) hbf hmy haf hmm3
 have w2 := sl_valid (f := x) (t := my) ht ha hx (Nat.le_refl _) hbf hmy haf hmm3
 rw [e1] at w1
 rw [e2] at w2
 have s1 : 1 <= bf * (x * af - 0 * af) := Nat.mul_pos q1 (by rw [Nat.zero_mul, Nat.sub_zero]; exact Nat.mul_pos hx0 q3)
 have s2 : 1 <= bf * (my * af - x * af) := Nat.mul_pos q1 (by rw [<- Nat.sub_mul]; exact Nat.mul_pos (by omega) q3)
 have t1 : bf * (x * af - 0 * af) <= 4096 := by
  have h1 : bf * (x * af) <= bf * (my * af) := Nat.mul_le_mul_left _ (Nat.mul_le_mul_right _ (Nat.le_of_lt hx))
  rw [<- Nat.mul_assoc bf my, <- hmm3] at h1
  rw [Nat.zero_mul, Nat.sub_zero]; omega
 have t2 : bf * (my * af - x * af) <= 4096 := by
  have h1 : bf * (my * af - x * af) <= bf * (my * af) := Nat.mul_le_mul_left _ (Nat.sub_le _ _)
  rw [<- Nat.mul_assoc bf my, <- hmm3] at h1
  omega
 refine ⟨(slV vs my af 0 x bf).length, (slV vs my af x my bf).length, zs.set a (x : Int), zs.set a ((my - x : Nat) : Int), slV vs my af 0 x bf, slV vs my af x my bf, ⟨List.length_set, List.length_set, rfl, rfl, by omega, by omega, by omega, by omega⟩, fun u h1 h2 => ?_, fun u h1 h2 => ?_, ?_⟩
 ·have h := ts_c K B F R O p zs c q vs d a 0 x u b0 b1 hn hm h1 h2 ht ha hc hc2 hd hd2 hx0 (by omega) bf my af hbf hmy haf q1 (by omega) q3 hmm3 (by omega) (by omega) (by omega) (by omega)
  rw [e1] at h
  exact h.mono fun _ _ h => h.same List.length_set rfl
 ·have h := ts_c K B F R O p zs c q vs d a x my u b0 b1 hn hm h1 h2 ht ha hc hc2 hd hd2 hx (by omega) bf my af hbf hmy haf q1 (by omega) q3 hmm3 (by omega) (by omega) (by omega) (by omega)
  rw [e2] at h
  exact h.mono fun _ _ h => h.same List.length_set rfl
 ·intro pa ca qa da pb cb qb db g u ka kb ia va ib vb ca7 cb7
  obtain ⟨L, hL⟩ : ∃ L : List Tr, L = [⟨K, B, F, R, O, pa, zs.set a (x : Int), ca, qa, slV vs my af 0 x bf, da⟩, ⟨K, B, F, R, O, pb, zs.set a ((my - x : Nat) : Int), cb, qb, slV vs my af x my bf, db⟩] := ⟨_, rfl⟩
  have hcc : ccE (a : Int) L = 0 := by rw [hL]; exact ccE_two ha w1 w2
  have hll : L.length = 2 := by rw [hL]; rfl
  have OK : ∀ t ∈ L, okT t := by
   rw [hL]
   intro t ht
   simp only [List.mem_cons, List.not_mem_nil, or_false] at ht
   rcases ht with rfl | rfl
   ·exact ⟨b0, b1, by rw [List.length_set]; exact ka.1, ka.2.1, ka.2.2.1, ka.2.2.2⟩
   ·exact ⟨b0, b1, by rw [List.length_set]; exact kb.1, kb.2.1, kb.2.2.1, kb.2.2.2⟩
  have RX : Hid (SlX u (some ⟨g, 0, none⟩) L) := Lib.hid (by
   rw [hL]
   intro i t e
   match i, e with
   | 0, e => cases e; exact ⟨⟨g, 0, rfl, ca7⟩, ia, va⟩
   | 1, e => cases e; exact ⟨⟨g, 0, rfl, cb7⟩, ib, vb⟩
   | i + 2, e => simp at e)
  obtain ⟨a', bf', af', ea, G⟩ := cc_good (hL ▸ hcc)
  obtain rfl : a = a' := by omega
  have eb : bf' = bf := by
   have h := G.hbf
   rw [List.take_set_of_le (Nat.le_refl _), hbf] at h
   omega
  have ef : af' = af := by
   have h := G.haf
   rw [List.drop_set_of_lt (by omega), haf] at h
   omega
  subst eb ef
  have hS : smA a L = my := by
   rw [hL]
   show axN a _ + (axN a _ + 0) = my
   rw [axN_set ha, axN_set ha]; omega
  have hV : ctV a af' L bf' = vs := by
   rw [hL]
   exact two_joined hx0 hx hmm3 rfl rfl (axN_set ha) (axN_set ha)
  have h := ca_g (a : Int) (some ⟨g, 0, none⟩) L 2 u (by rw [hll]; decide) (by rw [hll]; exact Nat.le_refl _) (by decide) OK RX a bf' af' _ _ hL rfl (hL ▸ G) hcc
  rw [hll, hS] at h
  refine h.mono fun _ _ h => ?_
  rcases h with ⟨h, -⟩ | ⟨-, h⟩
  ·exfalso
   have h1 : my * (bf' * af') = bf' * my * af' := by rw [<- Nat.mul_assoc, Nat.mul_comm my]
   omega
  ·rw [hV] at h
   dsimp only at h
   rw [List.set_set, set_back ha hmy] at h
   exact h.same rfl rfl
end Go.Proofs.YteaaikmejacpaaaGreatDoor.Te

namespace Go.Proofs.YteaaikmejacpaaaGreatDoor.Te
open Go.ChangeShapes Go.WideShapes Go.ChangeAt Go.RowKit
open Fx Va Sh
set_option maxRecDepth 8000
set_option linter.unusedVariables false
set_option linter.unusedSimpArgs false

set_option maxRecDepth 100000 in
set_option maxHeartbeats 2000000 in
theorem rt_d (K B F R O : Int) (p : Option Addr) (zs : List Int) (c : Nat) (q : Option Addr) (vs : List (Int × Int)) (d : Nat) (x : Option Addr) (xs : List Int) (e : Nat) (ax tt : Int) (w : World) (b0 : -9223372036854775808 <= B) (b1 : B <= 9223372036854775807) (hn : zs.length <= maxLen) (hm : vs.length <= maxLen) (hx : xs.length <= maxLen) (RA : Hid (SlI w p zs)) (RB : Hid (SlV w q vs)) (RX : Hid (SlI w x xs)) (hc : zs.length <= c) (hc2 : c <= 9223372036854775807) (hd : vs.length <= d) (hd2 : d <= 9223372036854775807) (hLA : Tx.LA w) (hs : (decide ((vs.length : Int) <= 500) && decide (zs.length <= 20)) = true) (hl : ¬ 20 < xs.length) (ht : tE K B F R O zs vs = 0) :
  Calls Tryz.prog 12 #[Tn K B F R O p zs.length c q vs.length d, .slice x xs.length e, .int .i64 ax, .int .i64 tt] w fun en w' => en = .returned (.bool true) /\ Below w.heap.size w w' := by
 have HLA := Lib.hid hLA
 have EX := Lib.hid fun u h => exam12 u h
 have SM0 := fun u => tsmall K B F R O p zs.length c q vs.length d 500 u
 rw [hs] at SM0
 have SM := Lib.hid SM0
 have RV0 := fun u h1 h2 => rval K B F R O p zs c q vs d u hn hm h1 h2
 rw [ht] at RV0
 obtain ⟨-, hv, hsl, -⟩ := tE_ok ht
 obtain ⟨h6, -, -, hsp, -⟩ := valid_of hv
 have BTT0 := fun p4 p5 kc4 kc5 q4 q5 d4 d5 u h1 h2 h3 h4 => bten K B F R O p4 p5 zs kc4 kc5 q4 q5 vs d4 d5 u hn hm h1 h2 h3 h4
 have PRT := fun a x my h1 h2 h3 h4 => rt_parts K B F R O p zs c q vs d b0 b1 hn hm hc hc2 hd hd2 ht a x my h1 h2 h3 h4
 have PMA := fun u h1 h2 h3 => pm_b K B F R O p zs c q vs d x xs e u b0 b1 hn hm h1 h2 hx h3 ht
 have PMB := fun u h1 h2 h3 => pm_c K B F R O p zs c q vs d x xs e u b0 b1 hn hm h1 h2 hx h3 ht
 have HV := Lib.hid hv
 have HT := Lib.hid ht
 unfold Tn TSame at *
 have g1 : decide ((20 : Int) < xs.length) = false := by simp; omega
 have g2 : decide (20 < xs.length) = false := by simpa using hl
 obtain ⟨m, hmm⟩ : ∃ m, vs.length = m := ⟨_, rfl⟩
 have HM := Lib.hid hmm
 have HSL := Lib.hid hsl
 rw [hmm] at SM RV0 BTT0 PRT hm hd hsl ⊢
 have RVV := Lib.hid RV0
 have BTT := Lib.hid BTT0
 have HPRT := Lib.hid PRT
 have HPMA := Lib.hid PMA
 have HPMB := Lib.hid PMB
 have hm4 : m <= 4096 := by omega
 have KB : Hid (Below w.heap.size w (w.alloc (Obj.cells #[Value.int .i64 K, Value.int .i64 B, Value.int .i64 F, Value.int .i64 R, Value.int .i64 O, Value.slice p zs.length c, Value.slice q m d] 27))) := Lib.hid ((Below.refl _ _).alloc (Nat.le_refl _) _)
 have TB : Hid (B7 (w.alloc (Obj.cells #[Value.int .i64 K, Value.int .i64 B, Value.int .i64 F, Value.int .i64 R, Value.int .i64 O, Value.slice p zs.length c, Value.slice q m d] 27)) (w.heap.size) (.int .i64 K) (.int .i64 B) (.int .i64 F) (.int .i64 R) (.int .i64 O) (.slice p zs.length c) (.slice q m d)) := Lib.hid (B7.new w _ (.int .i64 K) (.int .i64 B) (.int .i64 F) (.int .i64 R) (.int .i64 O) (.slice p zs.length c) (.slice q m d))
 clear hs SM0 RV0 BTT0 hmm ht hv PRT PMA PMB hsl hsp
 go_enter Tryz.func12, Tryz.ntmps12
 go_upto_region 3 with (first | (go_at_call 14; (with_reducible refine (SM.out _).mono ?_); rintro e w1 ⟨rfl, hb⟩; have KN := KB.out.trans (hb.mono KB.out.size); have TN9 := B7.keep hb TB.out.lt TB.out; have KB := Lib.hid KN; have TB := Lib.hid TN9; obtain ⟨⟨c0, c1, c2, c3, c4, c5, c6⟩, -⟩ := TB.out; have lt9 : w.heap.size < w1.heap.size := TB.out.lt; clear KN TN9 hb) | (go_at_call 21; (with_reducible refine (RVV.out _ (Lib.hid (SlI.keep KB.out RA.out)) (Lib.hid (SlV.below RB.out KB.out))).mono ?_); rintro e w2 ⟨rfl, hb⟩; have KN := KB.out.trans (hb.mono KB.out.size); have TN9 := B7.keep hb TB.out.lt TB.out; have KB := Lib.hid KN; have TB := Lib.hid TN9; obtain ⟨⟨c0, c1, c2, c3, c4, c5, c6⟩, -⟩ := TB.out; have lt9 : w.heap.size < w2.heap.size := TB.out.lt; clear KN TN9 hb))
 obtain ⟨tk, htk⟩ : ∃ t : Bool, t = decide (0 <= ax /\ ax < zs.length /\ 0 < tt /\ tt < zs.getD ax.toNat 0) := ⟨_, rfl⟩
 have HTK := Lib.hid htk
 clear htk
 go_cut [56] from 35 to 56 (fun p56 wx => p56 = .bool tk /\ wx = w2)
 case first =>
  by_cases h1 : 0 <= ax
  ·obtain ⟨a, rfl⟩ : ∃ a : Nat, ax = a := ⟨ax.toNat, by omega⟩
   by_cases h2 : a < zs.length
   ·have h2' : (a : Int) < zs.length := by omega
    by_cases h3 : 0 < tt
    ·have h3' : decide ((0 : Int) < tt) = true := by simpa using h3
     obtain ⟨ub, uo, hpp, v0⟩ := (SlI.keep KB.out RA.out) a h2
     obtain ⟨z, hz⟩ : ∃ z, zs.getD a 0 = z := ⟨_, rfl⟩
     rw [hz] at v0
     by_cases h4 : tt < z
     ·have hk : tk = true := by rw [HTK.out]; exact decide_eq_true ⟨h1, h2', h3, by rw [Int.toNat_natCast, hz]; exact h4⟩
      have h4' : decide (tt < z) = true := by simpa using h4
      subst hk hpp
      clear hz
      go_wp2_with fail
      go_meet
      exact ⟨rfl, rfl⟩
     ·have hk : tk = false := by rw [HTK.out]; exact decide_eq_false (fun h => h4 (by have h5 := h.2.2.2; rw [Int.toNat_natCast, hz] at h5; exact h5))
      have h4' : decide (tt < z) = false := by simpa using h4
      subst hk hpp
      clear hz h4
      go_wp2_with fail
      go_meet
      exact ⟨rfl, rfl⟩
    ·have hk : tk = false := by rw [HTK.out]; simp; omega
     have h3' : decide ((0 : Int) < tt) = false := by simpa using h3
     subst hk
     go_wp2_with fail
     go_meet
     exact ⟨rfl, rfl⟩
   ·have hk : tk = false := by rw [HTK.out]; simp; omega
    have h2' : decide ((a : Int) < zs.length) = false := by simp; omega
    subst hk
    go_wp2_with fail
    go_meet
    exact ⟨rfl, rfl⟩
  ·have hk : tk = false := by rw [HTK.out]; simp; omega
   have h1' : decide (0 <= ax) = false := by simpa using h1
   subst hk
   go_wp2_with fail
   go_meet
   exact ⟨rfl, rfl⟩
 case rest =>
  obtain ⟨rfl, hw9⟩ := hcut
  rw [hw9]
  clear hw9
  have KBq := KB
  have TBq := TB
  repeat clear KB
  repeat clear TB
  have KB := KBq
  have TB := TBq
  clear KBq TBq
  go_upto_if 56 with fail
  go_cut [9, 10, 11, 12, 13, 14] from 57 to 100 (fun p9 p10 p11 p12 p13 p14 wx => Hid (Below w.heap.size w wx) /\ Hid (B7 wx (w.heap.size) (.int .i64 K) (.int .i64 B) (.int .i64 F) (.int .i64 R) (.int .i64 O) (.slice p zs.length c) (.slice q m d)))
  case first =>
   cases tk
   ·go_wp2_with fail
    go_meet
    exact ⟨KB, TB⟩
   ·obtain ⟨h1, h2, h3, h4⟩ := of_decide_eq_true HTK.out.symm
    obtain ⟨a, rfl⟩ : ∃ a : Nat, ax = a := ⟨ax.toNat, by omega⟩
    obtain ⟨x9, rfl⟩ : ∃ x : Nat, tt = x := ⟨tt.toNat, by omega⟩
    rw [Int.toNat_natCast] at h4
    obtain ⟨my, hmy⟩ : ∃ my : Nat, zs.getD a 0 = my := ⟨(zs.getD a 0).toNat, by omega⟩
    obtain ⟨m1, m2, z1, z2, v1, v2, ⟨l1, l2, l3, l4, o1, o2, o3, o4⟩, SA0, SB0, CT0⟩ := HPRT.out a x9 my (by omega) hmy (by omega) (by omega)
    have SA := Lib.hid SA0
    have SB := Lib.hid SB0
    have CT := Lib.hid CT0
    have HL := Lib.hid (And.intro l1 (And.intro l2 (And.intro l3 l4)))
    have h2' : (a : Int) < zs.length := h2
    have h20 : (0 : Int) <= a := h1
    clear l1 l2 l3 l4 SA0 SB0 CT0 h1 h3 h4
    obtain ⟨ub, uo, hpp, v0⟩ := RA.out a (by omega)
    rw [hmy] at v0
    subst hpp
    have V0 := Lib.hid v0
    clear v0 hmy
    go_upto_region 5 with (go_at_call 35; (with_reducible refine (SA.out _ (Lib.hid (SlI.keep KB.out RA.out)) (Lib.hid (SlV.below RB.out KB.out))).mono ?_); rintro e w3 ⟨pa, ca, qa, da, rfl, hA1, hA2, hb⟩; have A1 := Lib.hid hA1; have A2 := Lib.hid hA2; have K3 := Lib.hid hb; clear hb hA1 hA2)
    have W3 : Below w3.heap.size w3 (w3.alloc (Obj.cells #[Value.int .i64 K, Value.int .i64 B, Value.int .i64 F, Value.int .i64 R, Value.int .i64 O, Value.slice pa zs.length ca, Value.slice qa m1 da] 27)) := (Below.refl _ _).alloc (Nat.le_refl _) _
    have hs3 := K3.out.size
    have K4 : Below w2.heap.size w2 (w3.alloc (Obj.cells #[Value.int .i64 K, Value.int .i64 B, Value.int .i64 F, Value.int .i64 R, Value.int .i64 O, Value.slice pa zs.length ca, Value.slice qa m1 da] 27)) := K3.out.trans (W3.mono hs3)
    have KBz := KB.out.trans (K4.mono KB.out.size)
    have TBz := Lib.hid (B7.keep K4 TB.out.lt TB.out)
    have ABz := Lib.hid (B7.new w3 27 (.int .i64 K) (.int .i64 B) (.int .i64 F) (.int .i64 R) (.int .i64 O) (.slice pa zs.length ca) (.slice qa m1 da))
    have A1z := Lib.hid (own_belowE A1.out W3)
    have A2z := Lib.hid (own_belowE A2.out W3)
    clear c0 c1 c2 c3 c4 c5 c6 W3 A1 A2 K4 KB TB K3
    generalize (w3.alloc (Obj.cells #[Value.int .i64 K, Value.int .i64 B, Value.int .i64 F, Value.int .i64 R, Value.int .i64 O, Value.slice pa zs.length ca, Value.slice qa m1 da] 27)) = wz at *
    have v0 := Rg.keep KBz (World.block_lt_of_cell? _ _ V0.out) V0.out
    have DZ := Lib.hid (RA.out.keep KBz)
    have EZ := Lib.hid (RB.out.below KBz)
    obtain ⟨⟨c0, c1, c2, c3, c4, c5, c6⟩, -⟩ := TBz.out
    have HS : Hid (∀ u u' : World, (u.cell? ⟨w.heap.size, 0, none⟩ = some (.int .i64 K) /\ u.cell? ⟨w.heap.size, 1, none⟩ = some (.int .i64 B) /\ u.cell? ⟨w.heap.size, 2, none⟩ = some (.int .i64 F) /\ u.cell? ⟨w.heap.size, 3, none⟩ = some (.int .i64 R) /\ u.cell? ⟨w.heap.size, 4, none⟩ = some (.int .i64 O) /\ u.cell? ⟨w.heap.size, 5, none⟩ = some (.slice (some ⟨ub, uo, none⟩) zs.length c) /\ u.cell? ⟨w.heap.size, 6, none⟩ = some (.slice q m d) /\ u.cell? ⟨ub, uo + a, none⟩ = some (.int .i64 my) /\ Below wz.heap.size wz u) -> Below u.heap.size u u' -> (u'.cell? ⟨w.heap.size, 0, none⟩ = some (.int .i64 K) /\ u'.cell? ⟨w.heap.size, 1, none⟩ = some (.int .i64 B) /\ u'.cell? ⟨w.heap.size, 2, none⟩ = some (.int .i64 F) /\ u'.cell? ⟨w.heap.size, 3, none⟩ = some (.int .i64 R) /\ u'.cell? ⟨w.heap.size, 4, none⟩ = some (.int .i64 O) /\ u'.cell? ⟨w.heap.size, 5, none⟩ = some (.slice (some ⟨ub, uo, none⟩) zs.length c) /\ u'.cell? ⟨w.heap.size, 6, none⟩ = some (.slice q m d) /\ u'.cell? ⟨ub, uo + a, none⟩ = some (.int .i64 my) /\ Below wz.heap.size wz u')) := Lib.hid (fun u u' h hb => ⟨Rg.keep hb (World.block_lt_of_cell? _ _ h.1) h.1, Rg.keep hb (World.block_lt_of_cell? _ _ h.2.1) h.2.1, Rg.keep hb (World.block_lt_of_cell? _ _ h.2.2.1) h.2.2.1, Rg.keep hb (World.block_lt_of_cell? _ _ h.2.2.2.1) h.2.2.2.1, Rg.keep hb (World.block_lt_of_cell? _ _ h.2.2.2.2.1) h.2.2.2.2.1, Rg.keep hb (World.block_lt_of_cell? _ _ h.2.2.2.2.2.1) h.2.2.2.2.2.1, Rg.keep hb (World.block_lt_of_cell? _ _ h.2.2.2.2.2.2.1) h.2.2.2.2.2.2.1, Rg.keep hb (World.block_lt_of_cell? _ _ h.2.2.2.2.2.2.2.1) h.2.2.2.2.2.2.2.1, h.2.2.2.2.2.2.2.2.trans (hb.mono h.2.2.2.2.2.2.2.2.size)⟩)
    go_cut [11, 12] from 64 to 76 (fun p11 p12 wx => ∃ (gb : Nat) (pb : Option Addr) (cb : Nat) (qb : Option Addr) (db : Nat), p11 = .pointer (some ⟨gb, 0, none⟩) /\ p12 = .int .i64 0 /\ Hid (B7 wx (gb) (.int .i64 K) (.int .i64 B) (.int .i64 F) (.int .i64 R) (.int .i64 O) (.slice pb zs.length cb) (.slice qb m2 db)) /\ Hid (wx.ownsRow wz.heap.size 3 1 (.slice pb zs.length cb) zs.length (z2.map (Value.int .i64))) /\ Hid (wx.ownsRow wz.heap.size 29 2 (.slice qb m2 db) m2 (flV v2)) /\ Hid (Below wz.heap.size wz wx) /\ wz.heap.size <= gb)
    case first =>
     refine Rk.begin (S := fun wS => wS.cell? ⟨w.heap.size, 0, none⟩ = some (.int .i64 K) /\ wS.cell? ⟨w.heap.size, 1, none⟩ = some (.int .i64 B) /\ wS.cell? ⟨w.heap.size, 2, none⟩ = some (.int .i64 F) /\ wS.cell? ⟨w.heap.size, 3, none⟩ = some (.int .i64 R) /\ wS.cell? ⟨w.heap.size, 4, none⟩ = some (.int .i64 O) /\ wS.cell? ⟨w.heap.size, 5, none⟩ = some (.slice (some ⟨ub, uo, none⟩) zs.length c) /\ wS.cell? ⟨w.heap.size, 6, none⟩ = some (.slice q m d) /\ wS.cell? ⟨ub, uo + a, none⟩ = some (.int .i64 my) /\ Below wz.heap.size wz wS) 13 (by kernel_rfl) ⟨c0, c1, c2, c3, c4, c5, c6, v0, Below.drew (Below.refl _ _)⟩ (fun hHeld => ?_)
     refine SqR.l [13] 0 ?_
     refine SqR.p 1 ?_
     refine SqR.p 2 ?_
     refine SqR.p 3 ?_
     refine SqR.l [13] 4 ?_
     refine SqR.p 5 ?_
     refine SqR.p 6 ?_
     refine SqR.l [13] 7 ?_
     refine Rk.two (i := 8) (j := 12) (by kernel_rfl) rfl rfl (fun KK hK => ?_) (fun KK hK => ?_)
     ·rw [if_pos (by kernel_rfl)]
      go_simp
      ((with_reducible refine (SB.out _ (Lib.hid (SlI.keep (hHeld.2.2.2.2.2.2.2.2) DZ.out)) (Lib.hid (SlV.below EZ.out (hHeld.2.2.2.2.2.2.2.2)))).mono ?_); rintro e u7 ⟨pb, cb, qb, db, rfl, hB1, hB2, hb⟩)
      have hNew := HS.out _ _ hHeld hb
      have hsu := hb.size
      try simp at hsu
      replace hB1 := own_base (B' := wz.heap.size) hB1 (Nat.le_refl _)
      replace hB2 := own_base (B' := wz.heap.size) hB2 (Nat.le_refl _)
      first | (refine hK.out _ _ (fun _ => hNew) (fun _ => ?_)) | (refine hK.out _ _ hNew (fun _ => ?_)) | (go_wp2_with fail; refine hK.out _ _ hNew (fun _ => ?_))
      replace hHeld := hNew
      clear hNew hb
      clear hK KK
      refine SqR.p 9 ?_
      refine SqR.p 10 ?_
      refine SqR.p 11 ?_
      refine Rk.one (i := 12) (by kernel_rfl) rfl (fun KK hK => ?_)
      rw [if_pos (by kernel_rfl)]
      go_simp
      have hNew := HS.out _ _ hHeld ((Below.refl _ _).alloc (Nat.le_refl _) (Obj.cells #[Value.int .i64 0, Value.int .i64 0, Value.int .i64 0, Value.int .i64 0, Value.int .i64 0, Value.slice none 0 0, Value.slice none 0 0] 27))
      have M7 := B7.new u7 27 (.int .i64 0) (.int .i64 0) (.int .i64 0) (.int .i64 0) (.int .i64 0) (.slice none 0 0) (.slice none 0 0)
      have hn1 := blk_ne (g := u7.heap.size) (own_lo hB1) (Or.inr (Nat.le_refl _))
      have hn2 := blk_ne (g := u7.heap.size) (own_lo hB2) (Or.inr (Nat.le_refl _))
      replace hB1 := own_belowE hB1 ((Below.refl _ _).alloc (Nat.le_refl _) (Obj.cells #[Value.int .i64 0, Value.int .i64 0, Value.int .i64 0, Value.int .i64 0, Value.int .i64 0, Value.slice none 0 0, Value.slice none 0 0] 27))
      replace hB2 := own_belowE hB2 ((Below.refl _ _).alloc (Nat.le_refl _) (Obj.cells #[Value.int .i64 0, Value.int .i64 0, Value.int .i64 0, Value.int .i64 0, Value.int .i64 0, Value.slice none 0 0, Value.slice none 0 0] 27))
      refine hK.out _ _ hNew (fun _ => ?_)
      replace hHeld := hNew
      clear hNew
      clear hK KK
      refine Rk.tail [13, 14] [_, _] (by kernel_rfl) (by kernel_rfl) rfl (by decide) ?_
      obtain ⟨-, -, -, -, -, -, -, -, K8⟩ := hHeld
      have M9 := M7
      obtain ⟨⟨n0, n1, n2, n3, n4, n5, n6⟩, ⟨f0, f1, f2, f3, f4, f5, f6⟩⟩ := M7
      have lm := M9.lt
      have hnb : wz.heap.size <= u7.heap.size := by first | exact Nat.le_refl _ | omega
      generalize (u7.alloc (Obj.cells #[Value.int .i64 0, Value.int .i64 0, Value.int .i64 0, Value.int .i64 0, Value.int .i64 0, Value.slice none 0 0, Value.slice none 0 0] 27)) = gz at *
      go_wp2_with fail
      go_meet
      exact ⟨u7.heap.size, pb, cb, qb, db, rfl, rfl, Lib.hid (B7.st (y0 := .int .i64 K) (y1 := .int .i64 B) (y2 := .int .i64 F) (y3 := .int .i64 R) (y4 := .int .i64 O) (y5 := .slice pb zs.length cb) (y6 := .slice qb m2 db) M9), Lib.hid (own_set7N (x0 := .int .i64 K) (x1 := .int .i64 B) (x2 := .int .i64 F) (x3 := .int .i64 R) (x4 := .int .i64 O) (x5 := .slice pb zs.length cb) (x6 := .slice qb m2 db) hB1 hn1), Lib.hid (own_set7N (x0 := .int .i64 K) (x1 := .int .i64 B) (x2 := .int .i64 F) (x3 := .int .i64 R) (x4 := .int .i64 O) (x5 := .slice pb zs.length cb) (x6 := .slice qb m2 db) hB2 hn2), Lib.hid (below_set7 (x0 := .int .i64 K) (x1 := .int .i64 B) (x2 := .int .i64 F) (x3 := .int .i64 R) (x4 := .int .i64 O) (x5 := .slice pb zs.length cb) (x6 := .slice qb m2 db) K8 hnb), hnb⟩
     ·rw [if_pos (by kernel_rfl)]
      go_simp
      have hNew := HS.out _ _ hHeld ((Below.refl _ _).alloc (Nat.le_refl _) (Obj.cells #[Value.int .i64 0, Value.int .i64 0, Value.int .i64 0, Value.int .i64 0, Value.int .i64 0, Value.slice none 0 0, Value.slice none 0 0] 27))
      have M7 : B7 ((wz.alloc (Obj.cells #[Value.int .i64 0, Value.int .i64 0, Value.int .i64 0, Value.int .i64 0, Value.int .i64 0, Value.slice none 0 0, Value.slice none 0 0] 27)).drew) wz.heap.size (.int .i64 0) (.int .i64 0) (.int .i64 0) (.int .i64 0) (.int .i64 0) (.slice none 0 0) (.slice none 0 0) := B7.new wz _ (.int .i64 0) (.int .i64 0) (.int .i64 0) (.int .i64 0) (.int .i64 0) (.slice none 0 0) (.slice none 0 0)
      refine hK.out _ _ hNew (fun _ => ?_)
      replace hHeld := hNew
      clear hNew
      replace hHeld : (wz.alloc (Obj.cells #[Value.int .i64 0, Value.int .i64 0, Value.int .i64 0, Value.int .i64 0, Value.int .i64 0, Value.slice none 0 0, Value.slice none 0 0] 27)).drew.cell? ⟨w.heap.size, 0, none⟩ = some (.int .i64 K) /\ (wz.alloc (Obj.cells #[Value.int .i64 0, Value.int .i64 0, Value.int .i64 0, Value.int .i64 0, Value.int .i64 0, Value.slice none 0 0, Value.slice none 0 0] 27)).drew.cell? ⟨w.heap.size, 1, none⟩ = some (.int .i64 B) /\ (wz.alloc (Obj.cells #[Value.int .i64 0, Value.int .i64 0, Value.int .i64 0, Value.int .i64 0, Value.int .i64 0, Value.slice none 0 0, Value.slice none 0 0] 27)).drew.cell? ⟨w.heap.size, 2, none⟩ = some (.int .i64 F) /\ (wz.alloc (Obj.cells #[Value.int .i64 0, Value.int .i64 0, Value.int .i64 0, Value.int .i64 0, Value.int .i64 0, Value.slice none 0 0, Value.slice none 0 0] 27)).drew.cell? ⟨w.heap.size, 3, none⟩ = some (.int .i64 R) /\ (wz.alloc (Obj.cells #[Value.int .i64 0, Value.int .i64 0, Value.int .i64 0, Value.int .i64 0, Value.int .i64 0, Value.slice none 0 0, Value.slice none 0 0] 27)).drew.cell? ⟨w.heap.size, 4, none⟩ = some (.int .i64 O) /\ (wz.alloc (Obj.cells #[Value.int .i64 0, Value.int .i64 0, Value.int .i64 0, Value.int .i64 0, Value.int .i64 0, Value.slice none 0 0, Value.slice none 0 0] 27)).drew.cell? ⟨w.heap.size, 5, none⟩ = some (.slice (some ⟨ub, uo, none⟩) zs.length c) /\ (wz.alloc (Obj.cells #[Value.int .i64 0, Value.int .i64 0, Value.int .i64 0, Value.int .i64 0, Value.int .i64 0, Value.slice none 0 0, Value.slice none 0 0] 27)).drew.cell? ⟨w.heap.size, 6, none⟩ = some (.slice q m d) /\ (wz.alloc (Obj.cells #[Value.int .i64 0, Value.int .i64 0, Value.int .i64 0, Value.int .i64 0, Value.int .i64 0, Value.slice none 0 0, Value.slice none 0 0] 27)).drew.cell? ⟨ub, uo + a, none⟩ = some (.int .i64 my) /\ Below wz.heap.size wz (wz.alloc (Obj.cells #[Value.int .i64 0, Value.int .i64 0, Value.int .i64 0, Value.int .i64 0, Value.int .i64 0, Value.slice none 0 0, Value.slice none 0 0] 27)).drew := hHeld
      clear hK KK
      refine Rk.one (i := 8) (by kernel_rfl) rfl (fun KK hK => ?_)
      rw [if_pos (by kernel_rfl)]
      go_simp
      ((with_reducible refine (SB.out _ (Lib.hid (SlI.keep (hHeld.2.2.2.2.2.2.2.2) DZ.out)) (Lib.hid (SlV.below EZ.out (hHeld.2.2.2.2.2.2.2.2)))).mono ?_); rintro e u7 ⟨pb, cb, qb, db, rfl, hB1, hB2, hb⟩)
      have hNew := HS.out _ _ hHeld hb
      have hsu := hb.size
      try simp at hsu
      replace M7 := B7.keep hb M7.lt M7
      have hn1 := blk_ne (g := wz.heap.size) (own_lo hB1) (Or.inl (by simp))
      have hn2 := blk_ne (g := wz.heap.size) (own_lo hB2) (Or.inl (by simp))
      replace hB1 := own_base (B' := wz.heap.size) hB1 (by simp)
      replace hB2 := own_base (B' := wz.heap.size) hB2 (by simp)
      first | (refine hK.out _ _ (fun _ => hNew) (fun _ => ?_)) | (refine hK.out _ _ hNew (fun _ => ?_)) | (go_wp2_with fail; refine hK.out _ _ hNew (fun _ => ?_))
      replace hHeld := hNew
      clear hNew hb
      clear hK KK
      refine SqR.p 9 ?_
      refine SqR.p 10 ?_
      refine SqR.p 11 ?_
      refine Rk.tail [13, 14] [_, _] (by kernel_rfl) (by kernel_rfl) rfl (by decide) ?_
      obtain ⟨-, -, -, -, -, -, -, -, K8⟩ := hHeld
      have M9 := M7
      obtain ⟨⟨n0, n1, n2, n3, n4, n5, n6⟩, ⟨f0, f1, f2, f3, f4, f5, f6⟩⟩ := M7
      have lm := M9.lt
      have hnb : wz.heap.size <= wz.heap.size := by first | exact Nat.le_refl _ | omega
      go_wp2_with fail
      go_meet
      exact ⟨wz.heap.size, pb, cb, qb, db, rfl, rfl, Lib.hid (B7.st (y0 := .int .i64 K) (y1 := .int .i64 B) (y2 := .int .i64 F) (y3 := .int .i64 R) (y4 := .int .i64 O) (y5 := .slice pb zs.length cb) (y6 := .slice qb m2 db) M9), Lib.hid (own_set7N (x0 := .int .i64 K) (x1 := .int .i64 B) (x2 := .int .i64 F) (x3 := .int .i64 R) (x4 := .int .i64 O) (x5 := .slice pb zs.length cb) (x6 := .slice qb m2 db) hB1 hn1), Lib.hid (own_set7N (x0 := .int .i64 K) (x1 := .int .i64 B) (x2 := .int .i64 F) (x3 := .int .i64 R) (x4 := .int .i64 O) (x5 := .slice pb zs.length cb) (x6 := .slice qb m2 db) hB2 hn2), Lib.hid (below_set7 (x0 := .int .i64 K) (x1 := .int .i64 B) (x2 := .int .i64 F) (x3 := .int .i64 R) (x4 := .int .i64 O) (x5 := .slice pb zs.length cb) (x6 := .slice qb m2 db) K8 hnb), hnb⟩

    case rest =>
     obtain ⟨gb, pb, cb, qb, db, rfl, rfl, HBB, HB1, HB2, KX, hgb⟩ := hcut
     have KBc := Lib.hid (KBz.trans (KX.out.mono KBz.size))
     have TBc := Lib.hid (B7.keep KX.out TBz.out.lt TBz.out)
     have ABc := B7.keep KX.out ABz.out.lt ABz.out
     have A1 := Lib.hid (own_belowE A1z.out KX.out)
     have A2 := Lib.hid (own_belowE A2z.out KX.out)
     obtain ⟨-, -, -, -, s1, s2⟩ := own_some A1.out (by omega)
     obtain ⟨-, -, -, -, s3, s4⟩ := own_some A2.out (by omega)
     obtain ⟨-, -, -, -, s5, s6⟩ := own_some HB1.out (by omega)
     obtain ⟨-, -, -, -, s7, s8⟩ := own_some HB2.out (by omega)
     have CAP := Lib.hid (And.intro (And.intro s1 (And.intro s2 (And.intro s3 s4))) (And.intro s5 (And.intro s6 (And.intro s7 s8))))
     have W9 : Below wc.heap.size wc (wc.alloc (Obj.cells #[Value.int .i64 K, Value.int .i64 B, Value.int .i64 F, Value.int .i64 R, Value.int .i64 O, Value.slice pa zs.length ca, Value.slice qa m1 da, Value.int .i64 K, Value.int .i64 B, Value.int .i64 F, Value.int .i64 R, Value.int .i64 O, Value.slice pb zs.length cb, Value.slice qb m2 db] 27)) := (Below.refl _ _).alloc (Nat.le_refl _) _
     have C71 : Hid (C7 (wc.alloc (Obj.cells #[Value.int .i64 K, Value.int .i64 B, Value.int .i64 F, Value.int .i64 R, Value.int .i64 O, Value.slice pa zs.length ca, Value.slice qa m1 da, Value.int .i64 K, Value.int .i64 B, Value.int .i64 F, Value.int .i64 R, Value.int .i64 O, Value.slice pb zs.length cb, Value.slice qb m2 db] 27)) wc.heap.size 0 ⟨K, B, F, R, O, pa, z1, ca, qa, v1, da⟩) := Lib.hid (by unfold C7; dsimp only; rw [HL.out.1, HL.out.2.2.1]; refine ⟨?_, ?_, ?_, ?_, ?_, ?_, ?_⟩ <;> go_cell)
     have C72 : Hid (C7 (wc.alloc (Obj.cells #[Value.int .i64 K, Value.int .i64 B, Value.int .i64 F, Value.int .i64 R, Value.int .i64 O, Value.slice pa zs.length ca, Value.slice qa m1 da, Value.int .i64 K, Value.int .i64 B, Value.int .i64 F, Value.int .i64 R, Value.int .i64 O, Value.slice pb zs.length cb, Value.slice qb m2 db] 27)) wc.heap.size 7 ⟨K, B, F, R, O, pb, z2, cb, qb, v2, db⟩) := Lib.hid (by unfold C7; dsimp only; rw [HL.out.2.1, HL.out.2.2.2]; refine ⟨?_, ?_, ?_, ?_, ?_, ?_, ?_⟩ <;> go_cell)
     have R1 := Lib.hid (SlI_of (own_belowE A1.out W9) HL.out.1)
     have R2 := Lib.hid (SlV_of (own_belowE A2.out W9) HL.out.2.2.1)
     have R3 := Lib.hid (SlI_of (own_belowE HB1.out W9) HL.out.2.1)
     have R4 := Lib.hid (SlV_of (own_belowE HB2.out W9) HL.out.2.2.2)
     have KW := Lib.hid W9
     clear s1 s2 s3 s4 s5 s6 s7 s8 W9 c0 c1 c2 c3 c4 c5 c6 v0 HS DZ EZ KBz A1z A2z ABz TBz
     obtain ⟨⟨d0, d1, d2, d3, d4, d5, d6⟩, -⟩ := ABc
     obtain ⟨⟨r0, r1, r2, r3, r4, r5, r6⟩, -⟩ := HBB.out
     go_upto_region 7 with (go_at_call 40; (with_reducible refine (CT.out pa ca qa da pb cb qb db wc.heap.size _ CAP.out.1 CAP.out.2 R1.out R2.out R3.out R4.out C71.out C72.out).mono ?_); rintro e w8 ⟨pc, cc, qc, dc, rfl, hC1, hC2, hb⟩; have Q1 := Lib.hid hC1; have Q2 := Lib.hid hC2; have K8 := Lib.hid (KW.out.trans (hb.mono KW.out.size)); clear hC1 hC2 hb)
     have W9 : Below w8.heap.size w8 (w8.alloc (Obj.cells #[Value.int .i64 K, Value.int .i64 B, Value.int .i64 F, Value.int .i64 R, Value.int .i64 O, Value.slice pc zs.length cc, Value.slice qc m dc] 27)) := (Below.refl _ _).alloc (Nat.le_refl _) _
     have KA := K8.out.trans (W9.mono K8.out.size)
     have K9 := Lib.hid (KBc.out.trans (KA.mono KBc.out.size))
     have TB9 := Lib.hid (B7.keep KA TBc.out.lt TBc.out)
     have CB9 := B7.new w8 27 (.int .i64 K) (.int .i64 B) (.int .i64 F) (.int .i64 R) (.int .i64 O) (.slice pc zs.length cc) (.slice qc m dc)
     have Q3 := Lib.hid (SlI_of (own_belowE Q1.out W9) rfl)
     have Q4 := Lib.hid (SlV_of (own_belowE Q2.out W9) HM.out)
     clear d0 d1 d2 d3 d4 d5 d6 r0 r1 r2 r3 r4 r5 r6 W9 KA Q1 Q2 K8 C71 C72 R1 R2 R3 R4
     generalize (w8.alloc (Obj.cells #[Value.int .i64 K, Value.int .i64 B, Value.int .i64 F, Value.int .i64 R, Value.int .i64 O, Value.slice pc zs.length cc, Value.slice qc m dc] 27)) = w9 at *
     obtain ⟨⟨c0, c1, c2, c3, c4, c5, c6⟩, -⟩ := TB9.out
     obtain ⟨⟨d0, d1, d2, d3, d4, d5, d6⟩, -⟩ := CB9
     go_wp2_with (go_at_call 22; (with_reducible refine (BTT.out pc (some ⟨ub, uo, none⟩) cc c qc q dc d _ Q3 Q4 (Lib.hid (SlI.keep K9.out RA.out)) (Lib.hid (SlV.below RB.out K9.out))).mono ?_); rintro e wy ⟨rfl, hb⟩; have KY := Lib.hid (K9.out.trans (hb.mono K9.out.size)); have TY := Lib.hid (B7.keep hb TB9.out.lt TB9.out); clear hb)
     go_meet
     exact ⟨KY, TY⟩
  case rest =>
   obtain ⟨KBq, TBq⟩ := hcut
   repeat clear KB
   repeat clear TB
   have KB := KBq
   have TB := TBq
   clear KBq TBq c0 c1 c2 c3 c4 c5 c6
   have hwc : w.heap.size < wc.heap.size := TB.out.lt
   obtain ⟨⟨c0, c1, c2, c3, c4, c5, c6⟩, -⟩ := TB.out
   by_cases he : pmE zs xs = 0
   ·obtain ⟨hol, hog⟩ := pmE_ok HV.out he
    obtain ⟨pv, ps⟩ := pm_valid HV.out hol hog
    have PM0 := fun u h1 h2 h3 => (HPMB.out u h1 h2 h3 he).mono (fun _ _ h => h.same (n := zs.length) (m := m) ((pm_len _ _).trans hol) ((pmV_length _ _ _).trans HM.out))
    unfold TSame at PM0
    have PM := Lib.hid PM0
    have HBK := Lib.hid fun bl (hb : Bk zs.length xs bl) => And.intro (pmE_of (os := bl) pv ⟨by rw [pm_len, hol]; exact hb.1, by rw [pm_len, hol]; exact (bk_gd hol hog hb).1⟩) (And.intro (pm_back hol hog hb) (pmV_back HV.out HSL.out hol hog hb))
    have ptE : tE K B F R O (pm zs xs) (pmV zs xs vs) = 0 := by
     obtain ⟨y1, -, y3, y4⟩ := tE_ok HT.out
     exact tE_of y1 pv (by rw [pmV_length, ps]; exact y3) (pmV_any HV.out HSL.out hol hog y4)
    have PQ0 : ∀ P C Q D bp bl bc u, bl.length = zs.length -> Bk zs.length xs bl -> Hid (SlI u P (pm zs xs)) -> Hid (SlV u Q (pmV zs xs vs)) -> Hid (SlI u bp bl) -> Calls Tryz.prog 37 #[Tn K B F R O P zs.length C Q m D, .slice bp zs.length bc] u (TSame K B F R O zs.length m zs vs u) := fun P C Q D bp bl bc u hbl hb h1 h2 h3 => by
     obtain ⟨x1, x2, x3⟩ := HBK.out bl hb
     have e1 : (pm zs xs).length = zs.length := (pm_len _ _).trans hol
     have e2 : (pmV zs xs vs).length = m := (pmV_length _ _ _).trans HM.out
     have h := pm_c K B F R O P (pm zs xs) C Q (pmV zs xs vs) D bp bl bc u b0 b1 (by rw [e1]; exact hn) (by rw [e2]; exact hm) h1 h2 (by rw [hbl]; exact hn) h3 ptE x1
     rw [e1, e2, hbl, x2, x3] at h
     exact h.mono (fun _ _ h => h.same rfl HM.out)
    unfold TSame Tn at PQ0
    have PQ := Lib.hid PQ0
    have HOG := Lib.hid hog
    have HOL := Lib.hid hol
    have HPL := Lib.hid (show (pm zs xs).length = zs.length from (pm_len _ _).trans hol)
    have HPV := Lib.hid (show (pmV zs xs vs).length = m from (pmV_length _ _ _).trans HM.out)
    obtain ⟨l, hll⟩ : ∃ l, xs.length = l := ⟨_, rfl⟩
    have HLL := Lib.hid hll
    rw [hll] at hx g1 g2 ⊢
    have hl20 : l <= 20 := by omega
    rw [hll] at PM0
    simp only [HM.out] at PM0
    have PM := Lib.hid PM0
    clear he hol hog pv ps PM0 PQ0 ptE HBK hll HPRT HPMA HPMB hl
    go_upto_region 12 with (go_at_call 37; (with_reducible refine (PM.out _ (Lib.hid (SlI.keep KB.out RA.out)) (Lib.hid (SlV.below RB.out KB.out)) (Lib.hid (SlI.keep KB.out RX.out))).mono ?_); rintro e w3 ⟨pp, pcc, pq, pd, rfl, hA1, hA2, hb⟩; have A1 := Lib.hid hA1; have A2 := Lib.hid hA2; have K3 := Lib.hid hb; clear hb hA1 hA2)
    have W3 : Below w3.heap.size w3 (w3.alloc (Obj.cells #[Value.int .i64 K, Value.int .i64 B, Value.int .i64 F, Value.int .i64 R, Value.int .i64 O, Value.slice pp zs.length pcc, Value.slice pq m pd] 27)) := (Below.refl _ _).alloc (Nat.le_refl _) _
    have hs3 := K3.out.size
    have K4 := K3.out.trans (W3.mono hs3)
    have KB4 := Lib.hid (KB.out.trans (K4.mono KB.out.size))
    have TB4 := Lib.hid (B7.keep K4 TB.out.lt TB.out)
    have PB4 := Lib.hid (B7.new w3 27 (.int .i64 K) (.int .i64 B) (.int .i64 F) (.int .i64 R) (.int .i64 O) (.slice pp zs.length pcc) (.slice pq m pd))
    have A14 := Lib.hid (own_belowE A1.out W3)
    have A24 := Lib.hid (own_belowE A2.out W3)
    clear c0 c1 c2 c3 c4 c5 c6 W3 K4 KB TB K3 A1 A2
    generalize (w3.alloc (Obj.cells #[Value.int .i64 K, Value.int .i64 B, Value.int .i64 F, Value.int .i64 R, Value.int .i64 O, Value.slice pp zs.length pcc, Value.slice pq m pd] 27)) = w4 at *
    obtain ⟨j0, hj, hj0, hj1, hj2⟩ := info_parts info3
    go_upto_region 14 with (refine wpList_make_full _ rfl _ _ 24 rfl w4.heap.size 3 j0 (.int .i64 0) 1 Tryz.underlying24 hj hj0 hj1 .i64 .i64 _ _ l rfl rfl rfl rfl (by rw [hj2]; omega) (by unfold maxLen; omega) (Nat.le_refl _) ?_; intro w5 hown hg; have hB := below_own (Nat.le_refl _) hg; have HOW0 := Lib.hid hown; clear hg hj hj0 hj1 hj2 j0 hown)
    have HOW : Hid (w5.ownsRow w4.heap.size 3 1 (.slice (some ⟨w4.heap.size, 0, none⟩) l l) l ((List.replicate l (0 : Int)).map (Value.int .i64))) := Lib.hid (by
     have h9 := HOW0.out
     rw [show (Value.int IntKind.i64 0).cells = #[.int .i64 0] from rfl, toList_madeCells_one, Nat.mul_one] at h9
     rw [List.map_replicate]
     exact h9)
    clear HOW0
    have HB0 : Hid (Below w.heap.size w w5 /\ (B7 w5 (w.heap.size) (.int .i64 K) (.int .i64 B) (.int .i64 F) (.int .i64 R) (.int .i64 O) (.slice p zs.length c) (.slice q m d)) /\ (B7 w5 (w3.heap.size) (.int .i64 K) (.int .i64 B) (.int .i64 F) (.int .i64 R) (.int .i64 O) (.slice pp zs.length pcc) (.slice pq m pd)) /\ (w5.ownsRow wc.heap.size 3 1 (.slice pp zs.length pcc) zs.length ((pm zs xs).map (Value.int .i64))) /\ (w5.ownsRow wc.heap.size 29 2 (.slice pq m pd) m (flV (pmV zs xs vs))) /\ (List.replicate l (0 : Int)).length = l /\ (∀ k, k < 0 -> (List.replicate l (0 : Int)).getD (xs.getD k 0).toNat 0 = (k : Int)) /\ (w5.ownsRow w4.heap.size 3 1 (.slice (some ⟨w4.heap.size, 0, none⟩) l l) l ((List.replicate l (0 : Int)).map (Value.int .i64)))) := Lib.hid ⟨KB4.out.trans (hB.mono KB4.out.size), B7.keep hB TB4.out.lt TB4.out, B7.keep hB PB4.out.lt PB4.out, own_belowE A14.out hB, own_belowE A24.out hB, by rw [List.length_replicate], fun k hk => by omega, HOW.out⟩
    have hw4 := PB4.out.lt
    have HA1 := Lib.hid (own_lo A14.out)
    have HA2 := Lib.hid (own_lo A24.out)
    clear KB4 TB4 PB4 A14 A24 hB HOW
    go_loopw [18] (fun iv wr => ∃ (i : Nat) (bl : List Int), iv = .int .i64 (i : Int) /\ i <= l /\ Hid (Below w.heap.size w wr /\ (B7 wr (w.heap.size) (.int .i64 K) (.int .i64 B) (.int .i64 F) (.int .i64 R) (.int .i64 O) (.slice p zs.length c) (.slice q m d)) /\ (B7 wr (w3.heap.size) (.int .i64 K) (.int .i64 B) (.int .i64 F) (.int .i64 R) (.int .i64 O) (.slice pp zs.length pcc) (.slice pq m pd)) /\ (wr.ownsRow wc.heap.size 3 1 (.slice pp zs.length pcc) zs.length ((pm zs xs).map (Value.int .i64))) /\ (wr.ownsRow wc.heap.size 29 2 (.slice pq m pd) m (flV (pmV zs xs vs))) /\ bl.length = l /\ (∀ k, k < i -> bl.getD (xs.getD k 0).toNat 0 = (k : Int)) /\ (wr.ownsRow w4.heap.size 3 1 (.slice (some ⟨w4.heap.size, 0, none⟩) l l) l (bl.map (Value.int .i64))))) (fun iv _ => l - (intOf iv).toNat)
    case atStart => exact ⟨0, List.replicate l (0 : Int), rfl, Nat.zero_le _, HB0⟩
    case round =>
     obtain ⟨i, bl, rfl, hi, HI⟩ := hrel
     clear HB0
     obtain ⟨KJ, TJ, PJ, AJ, VJ, hbl, hbk, OJ⟩ := HI.out
     by_cases hil : i < l
     ·have hi2 : (i : Int) < l := by omega
      have hi0 : (0 : Int) <= i := by omega
      obtain ⟨xb, xo, hxx, xv⟩ := (RX.out.keep KJ) i (by rw [HLL.out]; exact hil)
      obtain ⟨g1a, g1b, g1c⟩ := HOG.out i (by have := HLL.out; have := HOL.out; omega)
      obtain ⟨X, hX⟩ : ∃ X : Nat, xs.getD i 0 = X := ⟨(xs.getD i 0).toNat, by omega⟩
      rw [hX] at xv g1a g1b g1c
      have hXl : X < l := by have := HLL.out; have := HOL.out; omega
      have hX2 : (X : Int) < l := by omega
      have hX0 : (0 : Int) <= X := by omega
      have hX3 : decide ((X : Int) < 0) = false := by simp
      have hX4 : decide ((l : Int) <= X) = false := by simp; omega
      subst hxx
      obtain ⟨zz, hzz⟩ := cell_ex (OJ.cellAt X (by omega)) (by rw [List.length_map, hbl]; exact hXl)
      have hfz := OJ.frozenAt X
      have HX := Lib.hid hX
      have HC := Lib.hid g1c
      have HBK := Lib.hid hbk
      have HBL := Lib.hid hbl
      clear g1a g1b g1c hX hbk hbl
      go_wp2_with fail
      go_roundw
      case rel =>
       refine ⟨i + 1, bl.set X (i : Int), by simp, by omega, Lib.hid ⟨KJ.setCell (p := ⟨w4.heap.size, X, none⟩) (by dsimp only; omega) _, TJ.far (by omega), PJ.far (by omega), own_setN AJ (blk_ne HA1.out (.inr (Nat.le_refl _))), own_setN VJ (blk_ne HA2.out (.inr (Nat.le_refl _))), by rw [List.length_set]; exact HBL.out, fun k hk => ?_, ?_⟩⟩
       ·rw [List.getD_eq_getElem?_getD, List.getElem?_set]
        by_cases hki : k = i
        ·subst hki
         rw [HX.out, Int.toNat_natCast, if_pos rfl, if_pos (by rw [HBL.out]; exact hXl)]; rfl
        ·have h9 := HC.out k (by omega)
         have h8 := (HOG.out k (by have := HLL.out; have := HOL.out; omega)).1
         rw [if_neg (by omega), <- List.getD_eq_getElem?_getD]
         exact HBK.out k (by omega)
       ·have h9 := (OJ.stored X (.int .i64 (i : Int))).1
        rw [<- List.map_set] at h9
        exact h9
      case measure => simp [intOf]; omega
     ·obtain rfl : i = l := by omega
      have gN : decide ((i : Int) < i) = false := by simp
      have HBQ := Lib.hid (show bl.length = zs.length by have := HLL.out; have := HOL.out; omega)
      have HBK := Lib.hid (show Bk zs.length xs bl from ⟨HBQ.out, fun k hk => hbk k (by have := HLL.out; have := HOL.out; omega)⟩)
      have hlz : i = zs.length := by have := HLL.out; have := HOL.out; omega
      obtain ⟨⟨m0, m1, m2, m3, m4, m5, m6⟩, -⟩ := PJ
      have R1 := Lib.hid (SlI_of AJ HPL.out)
      have R2 := Lib.hid (SlV_of VJ HPV.out)
      have R3 := Lib.hid (SlI_of OJ hbl)
      have KJ9 := Lib.hid KJ
      have TJ9 := Lib.hid TJ
      clear hi hil hbl hbk AJ VJ OJ KJ HI
      subst hlz
      go_upto_region 20 with (go_at_call 37; (with_reducible refine (PQ.out pp pcc pq pd _ bl _ _ HBQ.out HBK.out R1 R2 R3).mono ?_); rintro e w6 ⟨qp, qc, qq, qd, rfl, hC1, hC2, hb⟩; have Q1 := Lib.hid hC1; have Q2 := Lib.hid hC2; have K6 := Lib.hid hb; clear hC1 hC2 hb)
      have W6 : Below w6.heap.size w6 (w6.alloc (Obj.cells #[Value.int .i64 K, Value.int .i64 B, Value.int .i64 F, Value.int .i64 R, Value.int .i64 O, Value.slice qp zs.length qc, Value.slice qq m qd] 27)) := (Below.refl _ _).alloc (Nat.le_refl _) _
      have K7 := K6.out.trans (W6.mono K6.out.size)
      have K9 := Lib.hid (KJ9.out.trans (K7.mono KJ9.out.size))
      have TB9 := Lib.hid (B7.keep K7 TJ9.out.lt TJ9.out)
      have QB9 := B7.new w6 27 (.int .i64 K) (.int .i64 B) (.int .i64 F) (.int .i64 R) (.int .i64 O) (.slice qp zs.length qc) (.slice qq m qd)
      have Q3 := Lib.hid (SlI_of (own_belowE Q1.out W6) rfl)
      have Q4 := Lib.hid (SlV_of (own_belowE Q2.out W6) HM.out)
      clear m0 m1 m2 m3 m4 m5 m6 W6 K7 Q1 Q2 K6 TJ9 R1 R2 R3
      generalize (w6.alloc (Obj.cells #[Value.int .i64 K, Value.int .i64 B, Value.int .i64 F, Value.int .i64 R, Value.int .i64 O, Value.slice qp zs.length qc, Value.slice qq m qd] 27)) = w9 at *
      obtain ⟨⟨c0, c1, c2, c3, c4, c5, c6⟩, -⟩ := TB9.out
      obtain ⟨⟨d0, d1, d2, d3, d4, d5, d6⟩, -⟩ := QB9
      go_wp2_with (first | (go_at_call 22; (with_reducible refine (BTT.out qp p qc c qq q qd d _ Q3 Q4 (Lib.hid (SlI.keep K9.out RA.out)) (Lib.hid (SlV.below RB.out K9.out))).mono ?_); rintro e wy ⟨rfl, hb⟩; have KB := Lib.hid (K9.out.trans (hb.mono K9.out.size)); clear hb) | (go_at_call 15; (with_reducible refine (EX.out _ (HLA.out.below KB.out)).mono ?_); rintro e wX ⟨rfl, hb⟩; have KX := Lib.hid (KB.out.trans (hb.mono KB.out.size)); clear hb))
      go_ret
      exact ⟨rfl, KX.out⟩
   ·have PE0 := fun u h1 h2 h3 => (HPMA.out u h1 h2 h3 he).mono (fun _ _ h => h.tu (n := 0) (m := 0) rfl rfl)
    unfold TU at PE0
    obtain ⟨E, hE⟩ : ∃ E, pmE zs xs = E := ⟨_, rfl⟩
    rw [hE] at PE0 he
    simp only [HM.out] at PE0
    have PE := Lib.hid PE0
    have g3 : (E == 0) = false := by simpa using he
    have g4 : (E != 0) = true := by simpa using he
    clear he hE PE0 HPRT HPMA HPMB
    go_wp2_with (first | (go_at_call 37; (with_reducible refine (PE.out _ (Lib.hid (SlI.keep KB.out RA.out)) (Lib.hid (SlV.below RB.out KB.out)) (Lib.hid (SlI.keep KB.out RX.out))).mono ?_); rintro e w3 ⟨pp, pcc, pq, pd, rfl, -, -, -, -, -, -, hb⟩; have KN := Lib.hid ((KB.out.trans (hb.mono KB.out.size)).alloc (Nat.le_trans KB.out.size hb.size) (Obj.cells #[Value.int .i64 0, Value.int .i64 0, Value.int .i64 0, Value.int .i64 0, Value.int .i64 0, Value.slice pp 0 pcc, Value.slice pq 0 pd] 27)); have KB := KN; clear KN hb) | (go_at_call 15; (with_reducible refine (EX.out _ (HLA.out.below KB.out)).mono ?_); rintro e wX ⟨rfl, hb⟩; have KX := Lib.hid (KB.out.trans (hb.mono KB.out.size)); clear hb))
    go_ret
    exact ⟨rfl, KX.out⟩
end Go.Proofs.YteaaikmejacpaaaGreatDoor.Te

namespace Go.Proofs.YteaaikmejacpaaaGreatDoor.Te
open Go.ChangeShapes Go.WideShapes Go.ChangeAt Go.RowKit
open Fx Va Sh
set_option maxRecDepth 8000
set_option linter.unusedVariables false
set_option linter.unusedSimpArgs false

set_option maxRecDepth 100000 in
set_option maxHeartbeats 2000000 in
theorem law_rt (K B F R O : Int) (p : Option Addr) (zs : List Int) (c : Nat) (q : Option Addr) (vs : List (Int × Int)) (d : Nat) (x : Option Addr) (xs : List Int) (e : Nat) (ax tt : Int) (w : World) (b0 : -9223372036854775808 <= B) (b1 : B <= 9223372036854775807) (hn : zs.length <= maxLen) (hm : vs.length <= maxLen) (hx : xs.length <= maxLen) (RA : Hid (SlI w p zs)) (RB : Hid (SlV w q vs)) (RX : Hid (SlI w x xs)) (hc : zs.length <= c) (hc2 : c <= 9223372036854775807) (hd : vs.length <= d) (hd2 : d <= 9223372036854775807) (hLA : Tx.LA w)  :
  Calls Tryz.prog 12 #[Tn K B F R O p zs.length c q vs.length d, .slice x xs.length e, .int .i64 ax, .int .i64 tt] w fun en w' => en = .returned (.bool true) /\ Below w.heap.size w w' := by
 cases hs : (decide ((vs.length : Int) <= 500) && decide (zs.length <= 20))
 ·exact rt_a K B F R O p zs c q vs d x xs e ax tt w b0 b1 hn hm hx RA RB RX hc hc2 hd hd2 hLA hs
 ·by_cases hl : 20 < xs.length
  ·exact rt_b K B F R O p zs c q vs d x xs e ax tt w b0 b1 hn hm hx RA RB RX hc hc2 hd hd2 hLA hs hl
  ·by_cases ht : tE K B F R O zs vs = 0
   ·exact rt_d K B F R O p zs c q vs d x xs e ax tt w b0 b1 hn hm hx RA RB RX hc hc2 hd hd2 hLA hs hl ht
   ·exact rt_c K B F R O p zs c q vs d x xs e ax tt w b0 b1 hn hm hx RA RB RX hc hc2 hd hd2 hLA hs hl ht
end Go.Proofs.YteaaikmejacpaaaGreatDoor.Te
