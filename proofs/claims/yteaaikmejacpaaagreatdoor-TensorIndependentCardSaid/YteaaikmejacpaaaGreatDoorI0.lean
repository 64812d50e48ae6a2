/- What TensorIndependent needs beside the base. -/
import Derived.Test.YteaaikmejacpaaaGreatDoorE16
import Derived.Test.YteaaikmejacpaaaGreatDoorR0
import Derived.Test.YteaaikmejacpaaaGreatDoorR1
import Derived.Test.YteaaikmejacpaaaGreatDoorR10
import Derived.Test.YteaaikmejacpaaaGreatDoorR11
import Derived.Test.YteaaikmejacpaaaGreatDoorR12
import Derived.Test.YteaaikmejacpaaaGreatDoorR13
import Derived.Test.YteaaikmejacpaaaGreatDoorR14
import Derived.Test.YteaaikmejacpaaaGreatDoorR16
import Derived.Test.YteaaikmejacpaaaGreatDoorR17
import Derived.Test.YteaaikmejacpaaaGreatDoorR18
import Derived.Test.YteaaikmejacpaaaGreatDoorR19
import Derived.Test.YteaaikmejacpaaaGreatDoorR2
import Derived.Test.YteaaikmejacpaaaGreatDoorR20
import Derived.Test.YteaaikmejacpaaaGreatDoorR3
import Derived.Test.YteaaikmejacpaaaGreatDoorR4
import Derived.Test.YteaaikmejacpaaaGreatDoorR5
import Derived.Test.YteaaikmejacpaaaGreatDoorR6
import Derived.Test.YteaaikmejacpaaaGreatDoorR7
import Derived.Test.YteaaikmejacpaaaGreatDoorR8
import Derived.Test.YteaaikmejacpaaaGreatDoorR9
import Derived.Deep.Cut
import Derived.Lib.ParseIntB
import Derived.Lib.ItoaNum
import Derived.Lib.Bytealg
import Derived.Lib.Strings
import Derived.Deep.CutRange
import Derived.Shelf.LaysM
import Derived.Ground.Names2Prog
import Derived.Shelf.Bits.Mul64
import Derived.Test.YteaaikmejacpaaaGreatDoorProg
import Derived.Lib.SlBuf
namespace Go.Proofs.YteaaikmejacpaaaGreatDoor.Sh
open Go.ChangeShapes Go.WideShapes Go.ChangeAt Go.RowKit
set_option maxRecDepth 8000
set_option linter.unusedVariables false
set_option linter.unusedSimpArgs false

def bc (a b : List Int) : List Int := (List.range (bn a b)).map fun j => max (ga a (bn a b) j) (ga b (bn a b) j)

end Go.Proofs.YteaaikmejacpaaaGreatDoor.Sh

namespace Go.Proofs.YteaaikmejacpaaaGreatDoor.Te
open Go.ChangeShapes Go.WideShapes Go.ChangeAt Go.RowKit
open Fx Va Sh
set_option maxRecDepth 8000
set_option linter.unusedVariables false
set_option linter.unusedSimpArgs false

set_option maxRecDepth 100000 in
set_option maxHeartbeats 8000000 in
theorem set_a (K B F R O : Int) (p : Option Addr) (zs : List Int) (c : Nat) (q : Option Addr) (vs : List (Int × Int)) (d : Nat) (a a' : Int) (w : World) (b0 : -9223372036854775808 <= B) (b1 : B <= 9223372036854775807) (hn : zs.length <= maxLen) (hm : vs.length <= maxLen) (RA : Hid (SlI w p zs)) (RB : Hid (SlV w q vs)) (x : Option Addr) (xs : List Int) (e : Nat) (hx : xs.length <= maxLen) (RX : Hid (SlI w x xs)) (ht : (loc K B F R O zs vs xs).2 ≠ 0) :
  Calls Tryz.prog 23 #[Tn K B F R O p zs.length c q vs.length d, .agg #[.int .i64 a, .int .i64 a'], .slice x xs.length e] w (TRes 0 0 0 0 0 [] [] (loc K B F R O zs vs xs).2 w) := by
 have LO0 := fun w h1 h2 h3 => tloc K B F R O p zs c q vs d w b0 b1 hn hm h1 h2 x xs e hx h3
 obtain ⟨⟨i, E⟩, hE⟩ : ∃ r, loc K B F R O zs vs xs = r := ⟨_, rfl⟩
 rw [hE] at LO0 ht ⊢
 dsimp only at LO0 ht ⊢
 have g1 : (E == 0) = false := by simpa using ht
 have g2 : (E != 0) = true := by simpa using ht
 obtain ⟨m, hmm⟩ : ∃ m, vs.length = m := ⟨_, rfl⟩
 have HM := Lib.hid hmm
 rw [hmm] at LO0 ⊢
 have LO := Lib.hid LO0
 have B0 : Hid (Below w.heap.size w (((w.alloc (Obj.cells #[Value.int .i64 K, Value.int .i64 B, Value.int .i64 F, Value.int .i64 R, Value.int .i64 O, Value.slice p zs.length c, Value.slice q m d] 27)).alloc (Obj.cells #[Value.int .i64 a, Value.int .i64 a'] 29)).alloc (Obj.cells #[Value.int .i64 0, Value.int .i64 0, Value.int .i64 0, Value.int .i64 0, Value.int .i64 0, Value.slice none 0 0, Value.slice none 0 0] 27))) := Lib.hid ((((Below.refl _ _).alloc (Nat.le_refl _) _).alloc (by simp) _).alloc (by simp; omega) _)
 clear LO0
 clear hE ht hmm hm
 go_enter Tryz.func23, Tryz.ntmps23
 go_wp2_with (go_at_call 58; (with_reducible refine (LO.out _ (Lib.hid (SlI.keep B0.out RA.out)) (Lib.hid (SlV.below RB.out B0.out)) (Lib.hid (SlI.keep B0.out RX.out))).mono ?_); rintro e w1 ⟨rfl, hb⟩; have KB := Lib.hid (B0.out.trans (hb.mono B0.out.size)); have c0 : w1.cell? ⟨w.heap.size, 0, none⟩ = some (.int .i64 K) := Rg.keep hb (by simp <;> omega) (by go_cell); have c1 : w1.cell? ⟨w.heap.size, 1, none⟩ = some (.int .i64 B) := Rg.keep hb (by simp <;> omega) (by go_cell); have c2 : w1.cell? ⟨w.heap.size, 2, none⟩ = some (.int .i64 F) := Rg.keep hb (by simp <;> omega) (by go_cell); have c3 : w1.cell? ⟨w.heap.size, 3, none⟩ = some (.int .i64 R) := Rg.keep hb (by simp <;> omega) (by go_cell); have c4 : w1.cell? ⟨w.heap.size, 4, none⟩ = some (.int .i64 O) := Rg.keep hb (by simp <;> omega) (by go_cell); have c5 : w1.cell? ⟨w.heap.size, 5, none⟩ = some (.slice p zs.length c) := Rg.keep hb (by simp <;> omega) (by go_cell); have c6 : w1.cell? ⟨w.heap.size, 6, none⟩ = some (.slice q m d) := Rg.keep hb (by simp <;> omega) (by go_cell); have y0 : w1.cell? ⟨w.heap.size + 1, 0, none⟩ = some (.int .i64 a) := Rg.keep hb (by simp <;> omega) (by go_cell); have y1 : w1.cell? ⟨w.heap.size + 1, 1, none⟩ = some (.int .i64 a') := Rg.keep hb (by simp <;> omega) (by go_cell); have z0 : w1.cell? ⟨w.heap.size + 1 + 1, 0, none⟩ = some (.int .i64 0) := Rg.keep hb (by simp <;> omega) (by go_cell); have f0 : w1.frozen? ⟨w.heap.size + 1 + 1, 0, none⟩ = false := Rg.keepF hb (by simp <;> omega) (by go_cell); have z1 : w1.cell? ⟨w.heap.size + 1 + 1, 1, none⟩ = some (.int .i64 0) := Rg.keep hb (by simp <;> omega) (by go_cell); have f1 : w1.frozen? ⟨w.heap.size + 1 + 1, 1, none⟩ = false := Rg.keepF hb (by simp <;> omega) (by go_cell); have z2 : w1.cell? ⟨w.heap.size + 1 + 1, 2, none⟩ = some (.int .i64 0) := Rg.keep hb (by simp <;> omega) (by go_cell); have f2 : w1.frozen? ⟨w.heap.size + 1 + 1, 2, none⟩ = false := Rg.keepF hb (by simp <;> omega) (by go_cell); have z3 : w1.cell? ⟨w.heap.size + 1 + 1, 3, none⟩ = some (.int .i64 0) := Rg.keep hb (by simp <;> omega) (by go_cell); have f3 : w1.frozen? ⟨w.heap.size + 1 + 1, 3, none⟩ = false := Rg.keepF hb (by simp <;> omega) (by go_cell); have z4 : w1.cell? ⟨w.heap.size + 1 + 1, 4, none⟩ = some (.int .i64 0) := Rg.keep hb (by simp <;> omega) (by go_cell); have f4 : w1.frozen? ⟨w.heap.size + 1 + 1, 4, none⟩ = false := Rg.keepF hb (by simp <;> omega) (by go_cell); have z5 : w1.cell? ⟨w.heap.size + 1 + 1, 5, none⟩ = some (.slice none 0 0) := Rg.keep hb (by simp <;> omega) (by go_cell); have f5 : w1.frozen? ⟨w.heap.size + 1 + 1, 5, none⟩ = false := Rg.keepF hb (by simp <;> omega) (by go_cell); have z6 : w1.cell? ⟨w.heap.size + 1 + 1, 6, none⟩ = some (.slice none 0 0) := Rg.keep hb (by simp <;> omega) (by go_cell); have f6 : w1.frozen? ⟨w.heap.size + 1 + 1, 6, none⟩ = false := Rg.keepF hb (by simp <;> omega) (by go_cell); have lr : w.heap.size + 1 + 1 < w1.heap.size := World.block_lt_of_cell? _ _ z0; clear hb)
 have SBB := (((((((KB.out).setCell (p := ⟨w.heap.size + 1 + 1, 0, none⟩) (by dsimp only; omega) (.int .i64 0)).setCell (p := ⟨w.heap.size + 1 + 1, 1, none⟩) (by dsimp only; omega) (.int .i64 0)).setCell (p := ⟨w.heap.size + 1 + 1, 2, none⟩) (by dsimp only; omega) (.int .i64 0)).setCell (p := ⟨w.heap.size + 1 + 1, 3, none⟩) (by dsimp only; omega) (.int .i64 0)).setCell (p := ⟨w.heap.size + 1 + 1, 4, none⟩) (by dsimp only; omega) (.int .i64 0)).setCell (p := ⟨w.heap.size + 1 + 1, 5, none⟩) (by dsimp only; omega) (.slice none 0 0)).setCell (p := ⟨w.heap.size + 1 + 1, 6, none⟩) (by dsimp only; omega) (.slice none 0 0)
 refine bodyPost_ret (v := .tuple #[.agg #[.int .i64 0, .int .i64 0, .int .i64 0, .int .i64 0, .int .i64 0, .slice none 0 0, .slice none 0 0], .int .i64 E]) (by simp [results, Tryz.results23, go_sem, z0, f0, z1, f1, z2, f2, z3, f3, z4, f4, z5, f5, z6, f6, lr]) rfl (TRes.no SBB)

set_option maxRecDepth 100000 in
set_option maxHeartbeats 8000000 in
theorem set_b (K B F R O : Int) (p : Option Addr) (zs : List Int) (c : Nat) (q : Option Addr) (vs : List (Int × Int)) (d : Nat) (a a' : Int) (w : World) (b0 : -9223372036854775808 <= B) (b1 : B <= 9223372036854775807) (hn : zs.length <= maxLen) (hm : vs.length <= maxLen) (RA : Hid (SlI w p zs)) (RB : Hid (SlV w q vs)) (x : Option Addr) (xs : List Int) (e : Nat) (hx : xs.length <= maxLen) (RX : Hid (SlI w x xs)) (ht : (loc K B F R O zs vs xs).2 = 0) (hv : vv K B F R O a a' = false) :
  Calls Tryz.prog 23 #[Tn K B F R O p zs.length c q vs.length d, .agg #[.int .i64 a, .int .i64 a'], .slice x xs.length e] w (TRes 0 0 0 0 0 [] [] 1 w) := by
 have LO0 := fun w h1 h2 h3 => tloc K B F R O p zs c q vs d w b0 b1 hn hm h1 h2 x xs e hx h3
 obtain ⟨⟨i, E⟩, hE⟩ : ∃ r, loc K B F R O zs vs xs = r := ⟨_, rfl⟩
 rw [hE] at LO0 ht
 dsimp only at LO0 ht
 subst ht
 have VC0 := fun w => c_va K B F R O a a' w b0 b1
 rw [hv] at VC0
 have VC := Lib.hid VC0
 obtain ⟨m, hmm⟩ : ∃ m, vs.length = m := ⟨_, rfl⟩
 have HM := Lib.hid hmm
 rw [hmm] at LO0 ⊢
 have LO := Lib.hid LO0
 have B0 : Hid (Below w.heap.size w (((w.alloc (Obj.cells #[Value.int .i64 K, Value.int .i64 B, Value.int .i64 F, Value.int .i64 R, Value.int .i64 O, Value.slice p zs.length c, Value.slice q m d] 27)).alloc (Obj.cells #[Value.int .i64 a, Value.int .i64 a'] 29)).alloc (Obj.cells #[Value.int .i64 0, Value.int .i64 0, Value.int .i64 0, Value.int .i64 0, Value.int .i64 0, Value.slice none 0 0, Value.slice none 0 0] 27))) := Lib.hid ((((Below.refl _ _).alloc (Nat.le_refl _) _).alloc (by simp) _).alloc (by simp; omega) _)
 clear LO0
 clear hE hmm hm VC0 hv
 go_enter Tryz.func23, Tryz.ntmps23
 go_wp2_with (first | (go_at_call 58; (with_reducible refine (LO.out _ (Lib.hid (SlI.keep B0.out RA.out)) (Lib.hid (SlV.below RB.out B0.out)) (Lib.hid (SlI.keep B0.out RX.out))).mono ?_); rintro e w1 ⟨rfl, hb⟩; have KB := Lib.hid (B0.out.trans (hb.mono B0.out.size)); have c0 : w1.cell? ⟨w.heap.size, 0, none⟩ = some (.int .i64 K) := Rg.keep hb (by simp <;> omega) (by go_cell); have c1 : w1.cell? ⟨w.heap.size, 1, none⟩ = some (.int .i64 B) := Rg.keep hb (by simp <;> omega) (by go_cell); have c2 : w1.cell? ⟨w.heap.size, 2, none⟩ = some (.int .i64 F) := Rg.keep hb (by simp <;> omega) (by go_cell); have c3 : w1.cell? ⟨w.heap.size, 3, none⟩ = some (.int .i64 R) := Rg.keep hb (by simp <;> omega) (by go_cell); have c4 : w1.cell? ⟨w.heap.size, 4, none⟩ = some (.int .i64 O) := Rg.keep hb (by simp <;> omega) (by go_cell); have c5 : w1.cell? ⟨w.heap.size, 5, none⟩ = some (.slice p zs.length c) := Rg.keep hb (by simp <;> omega) (by go_cell); have c6 : w1.cell? ⟨w.heap.size, 6, none⟩ = some (.slice q m d) := Rg.keep hb (by simp <;> omega) (by go_cell); have y0 : w1.cell? ⟨w.heap.size + 1, 0, none⟩ = some (.int .i64 a) := Rg.keep hb (by simp <;> omega) (by go_cell); have y1 : w1.cell? ⟨w.heap.size + 1, 1, none⟩ = some (.int .i64 a') := Rg.keep hb (by simp <;> omega) (by go_cell); have z0 : w1.cell? ⟨w.heap.size + 1 + 1, 0, none⟩ = some (.int .i64 0) := Rg.keep hb (by simp <;> omega) (by go_cell); have f0 : w1.frozen? ⟨w.heap.size + 1 + 1, 0, none⟩ = false := Rg.keepF hb (by simp <;> omega) (by go_cell); have z1 : w1.cell? ⟨w.heap.size + 1 + 1, 1, none⟩ = some (.int .i64 0) := Rg.keep hb (by simp <;> omega) (by go_cell); have f1 : w1.frozen? ⟨w.heap.size + 1 + 1, 1, none⟩ = false := Rg.keepF hb (by simp <;> omega) (by go_cell); have z2 : w1.cell? ⟨w.heap.size + 1 + 1, 2, none⟩ = some (.int .i64 0) := Rg.keep hb (by simp <;> omega) (by go_cell); have f2 : w1.frozen? ⟨w.heap.size + 1 + 1, 2, none⟩ = false := Rg.keepF hb (by simp <;> omega) (by go_cell); have z3 : w1.cell? ⟨w.heap.size + 1 + 1, 3, none⟩ = some (.int .i64 0) := Rg.keep hb (by simp <;> omega) (by go_cell); have f3 : w1.frozen? ⟨w.heap.size + 1 + 1, 3, none⟩ = false := Rg.keepF hb (by simp <;> omega) (by go_cell); have z4 : w1.cell? ⟨w.heap.size + 1 + 1, 4, none⟩ = some (.int .i64 0) := Rg.keep hb (by simp <;> omega) (by go_cell); have f4 : w1.frozen? ⟨w.heap.size + 1 + 1, 4, none⟩ = false := Rg.keepF hb (by simp <;> omega) (by go_cell); have z5 : w1.cell? ⟨w.heap.size + 1 + 1, 5, none⟩ = some (.slice none 0 0) := Rg.keep hb (by simp <;> omega) (by go_cell); have f5 : w1.frozen? ⟨w.heap.size + 1 + 1, 5, none⟩ = false := Rg.keepF hb (by simp <;> omega) (by go_cell); have z6 : w1.cell? ⟨w.heap.size + 1 + 1, 6, none⟩ = some (.slice none 0 0) := Rg.keep hb (by simp <;> omega) (by go_cell); have f6 : w1.frozen? ⟨w.heap.size + 1 + 1, 6, none⟩ = false := Rg.keepF hb (by simp <;> omega) (by go_cell); have lr : w.heap.size + 1 + 1 < w1.heap.size := World.block_lt_of_cell? _ _ z0; clear hb) | (go_at_call 48; (with_reducible refine (VC.out _).mono ?_); rintro e w2 ⟨rfl, hb2⟩; have lrb : w.heap.size + 1 + 1 < w2.heap.size := Nat.lt_of_lt_of_le lr hb2.size; replace c0 := Rg.keep hb2 (by omega) c0; replace c1 := Rg.keep hb2 (by omega) c1; replace c2 := Rg.keep hb2 (by omega) c2; replace c3 := Rg.keep hb2 (by omega) c3; replace c4 := Rg.keep hb2 (by omega) c4; replace c5 := Rg.keep hb2 (by omega) c5; replace c6 := Rg.keep hb2 (by omega) c6; replace y0 := Rg.keep hb2 (by omega) y0; replace y1 := Rg.keep hb2 (by omega) y1; replace z0 := Rg.keep hb2 lr z0; replace f0 := Rg.keepF hb2 lr f0; replace z1 := Rg.keep hb2 lr z1; replace f1 := Rg.keepF hb2 lr f1; replace z2 := Rg.keep hb2 lr z2; replace f2 := Rg.keepF hb2 lr f2; replace z3 := Rg.keep hb2 lr z3; replace f3 := Rg.keepF hb2 lr f3; replace z4 := Rg.keep hb2 lr z4; replace f4 := Rg.keepF hb2 lr f4; replace z5 := Rg.keep hb2 lr z5; replace f5 := Rg.keepF hb2 lr f5; replace z6 := Rg.keep hb2 lr z6; replace f6 := Rg.keepF hb2 lr f6; have KB2 := Lib.hid (KB.out.trans (hb2.mono KB.out.size)); clear hb2 lr))
 have lr := lrb
 have SBB := (((((((KB2.out).setCell (p := ⟨w.heap.size + 1 + 1, 0, none⟩) (by dsimp only; omega) (.int .i64 0)).setCell (p := ⟨w.heap.size + 1 + 1, 1, none⟩) (by dsimp only; omega) (.int .i64 0)).setCell (p := ⟨w.heap.size + 1 + 1, 2, none⟩) (by dsimp only; omega) (.int .i64 0)).setCell (p := ⟨w.heap.size + 1 + 1, 3, none⟩) (by dsimp only; omega) (.int .i64 0)).setCell (p := ⟨w.heap.size + 1 + 1, 4, none⟩) (by dsimp only; omega) (.int .i64 0)).setCell (p := ⟨w.heap.size + 1 + 1, 5, none⟩) (by dsimp only; omega) (.slice none 0 0)).setCell (p := ⟨w.heap.size + 1 + 1, 6, none⟩) (by dsimp only; omega) (.slice none 0 0)
 refine bodyPost_ret (v := .tuple #[.agg #[.int .i64 0, .int .i64 0, .int .i64 0, .int .i64 0, .int .i64 0, .slice none 0 0, .slice none 0 0], .int .i64 1]) (by simp [results, Tryz.results23, go_sem, z0, f0, z1, f1, z2, f2, z3, f3, z4, f4, z5, f5, z6, f6, lr]) rfl (TRes.no SBB)
end Go.Proofs.YteaaikmejacpaaaGreatDoor.Te

namespace Go.Proofs.YteaaikmejacpaaaGreatDoor.Te
open Go.ChangeShapes Go.WideShapes Go.ChangeAt Go.RowKit
open Fx Va Sh
set_option maxRecDepth 8000
set_option linter.unusedVariables false
set_option linter.unusedSimpArgs false

theorem two_store {u w0 : World} {A B1 B2 n1 n g c : Nat} {v1 : Value} {xs1 xs2 : List Value} (h1 : u.ownsRow B1 3 1 v1 n1 xs1) (h2 : u.ownsRow B2 29 2 (.slice (some ⟨g, 0, none⟩) n c) n xs2) (hb : Below A w0 u) (hg : A <= g) (i j : Nat) (x y : Value) :
  ∃ u4, (u.setCell ⟨g, i, none⟩ x).setCell ⟨g, j, none⟩ y = u4 /\ u4.heap.size = u.heap.size /\ u4.ownsRow B1 3 1 v1 n1 xs1 /\ u4.ownsRow B2 29 2 (.slice (some ⟨g, 0, none⟩) n c) n ((xs2.set i x).set j y) /\ Below A w0 u4 /\ (∀ b o, b ≠ g -> u4.cell? ⟨b, o, none⟩ = u.cell? ⟨b, o, none⟩) /\ (∀ b o, u4.frozen? ⟨b, o, none⟩ = u.frozen? ⟨b, o, none⟩) := by
 refine ⟨_, rfl, by rw [World.size_setCell, World.size_setCell], ?_, ?_, ?_, ?_, ?_⟩
 ·have k1 := h1.kept (h2.stored i x).2 (own_two h1 h2)
  have k2 := (h2.stored i x).1
  exact k1.kept (k2.stored j y).2 (own_two k1 k2)
 ·exact ((h2.stored i x).1.stored j y).1
 ·exact (hb.setCell (p := ⟨g, i, none⟩) hg x).setCell (p := ⟨g, j, none⟩) hg y
 ·intro b o hne
  rw [World.cell?_setCell_far _ _ _ _ (Ne.symm hne), World.cell?_setCell_far _ _ _ _ (Ne.symm hne)]
 ·intro b o
  rw [World.frozen?_setCell, World.frozen?_setCell]

set_option maxRecDepth 100000 in
set_option maxHeartbeats 1000000 in
theorem set_c (K B F R O : Int) (p : Option Addr) (zs : List Int) (c : Nat) (q : Option Addr) (vs : List (Int × Int)) (d : Nat) (a a' : Int) (w : World) (b0 : -9223372036854775808 <= B) (b1 : B <= 9223372036854775807) (hn : zs.length <= maxLen) (hm : vs.length <= maxLen) (RA : Hid (SlI w p zs)) (RB : Hid (SlV w q vs)) (x : Option Addr) (xs : List Int) (e : Nat) (hx : xs.length <= maxLen) (RX : Hid (SlI w x xs)) (ht : (loc K B F R O zs vs xs).2 = 0) (hv : vv K B F R O a a' = true) :
  Calls Tryz.prog 23 #[Tn K B F R O p zs.length c q vs.length d, .agg #[.int .i64 a, .int .i64 a'], .slice x xs.length e] w (TRes K B F R O zs (vs.set (loc K B F R O zs vs xs).1.toNat (a, a')) 0 w) := by
 have LO0 := fun w h1 h2 h3 => tloc K B F R O p zs c q vs d w b0 b1 hn hm h1 h2 x xs e hx h3
 obtain ⟨te, l0, l1⟩ := loc_bd ht
 obtain ⟨-, tv0, tl, -⟩ := tE_ok te
 obtain ⟨h6, -, -, hsp, -⟩ := valid_of tv0
 obtain ⟨⟨i, E⟩, hE⟩ : ∃ r, loc K B F R O zs vs xs = r := ⟨_, rfl⟩
 rw [hE] at LO0 ht l0 l1 ⊢
 dsimp only at LO0 ht l0 l1 ⊢
 subst ht
 have VC0 := fun w => c_va K B F R O a a' w b0 b1
 rw [hv] at VC0
 have VC := Lib.hid VC0
 obtain ⟨k, rfl⟩ : ∃ k : Nat, i = (k : Int) := ⟨i.toNat, by omega⟩
 rw [Int.toNat_natCast]
 have hk : k < vs.length := by omega
 have hm4 : vs.length <= 4096 := by omega
 have DT0 := fun w h1 h2 => dtens K B F R O p zs c q vs d w h6 hm4 (by omega) h1 h2
 unfold TW at DT0
 obtain ⟨gv0, gv1⟩ := flV_get vs k hk
 have HV0 := Lib.hid gv0
 have HV1 := Lib.hid gv1
 have HS := Lib.hid (flV_set vs k a a' hk)
 obtain ⟨m, hmm⟩ : ∃ m, vs.length = m := ⟨_, rfl⟩
 have HM := Lib.hid hmm
 rw [hmm] at LO0 DT0 hk hm4
 have LO := Lib.hid LO0
 have B0 : Hid (Below w.heap.size w (((w.alloc (Obj.cells #[Value.int .i64 K, Value.int .i64 B, Value.int .i64 F, Value.int .i64 R, Value.int .i64 O, Value.slice p zs.length c, Value.slice q m d] 27)).alloc (Obj.cells #[Value.int .i64 a, Value.int .i64 a'] 29)).alloc (Obj.cells #[Value.int .i64 0, Value.int .i64 0, Value.int .i64 0, Value.int .i64 0, Value.int .i64 0, Value.slice none 0 0, Value.slice none 0 0] 27))) := Lib.hid ((((Below.refl _ _).alloc (Nat.le_refl _) _).alloc (by simp) _).alloc (by simp; omega) _)
 clear LO0
 rw [hmm]
 have DT := Lib.hid DT0
 have HM1 : Hid (1 <= m) := Lib.hid (by omega)
 have k2 : (k : Int) < m := by omega
 have k0 : (0 : Int) <= k := by omega
 clear hE hmm hm VC0 hv te tv0 tl h6 hsp l0 l1 DT0 gv0 gv1 hm4
 go_enter Tryz.func23, Tryz.ntmps23
 go_upto_region 7 with (first | (go_at_call 58; (with_reducible refine (LO.out _ (Lib.hid (SlI.keep B0.out RA.out)) (Lib.hid (SlV.below RB.out B0.out)) (Lib.hid (SlI.keep B0.out RX.out))).mono ?_); rintro e w1 ⟨rfl, hb⟩; have KB := Lib.hid (B0.out.trans (hb.mono B0.out.size)); have c0 : w1.cell? ⟨w.heap.size, 0, none⟩ = some (.int .i64 K) := Rg.keep hb (by simp <;> omega) (by go_cell); have c1 : w1.cell? ⟨w.heap.size, 1, none⟩ = some (.int .i64 B) := Rg.keep hb (by simp <;> omega) (by go_cell); have c2 : w1.cell? ⟨w.heap.size, 2, none⟩ = some (.int .i64 F) := Rg.keep hb (by simp <;> omega) (by go_cell); have c3 : w1.cell? ⟨w.heap.size, 3, none⟩ = some (.int .i64 R) := Rg.keep hb (by simp <;> omega) (by go_cell); have c4 : w1.cell? ⟨w.heap.size, 4, none⟩ = some (.int .i64 O) := Rg.keep hb (by simp <;> omega) (by go_cell); have c5 : w1.cell? ⟨w.heap.size, 5, none⟩ = some (.slice p zs.length c) := Rg.keep hb (by simp <;> omega) (by go_cell); have c6 : w1.cell? ⟨w.heap.size, 6, none⟩ = some (.slice q m d) := Rg.keep hb (by simp <;> omega) (by go_cell); have y0 : w1.cell? ⟨w.heap.size + 1, 0, none⟩ = some (.int .i64 a) := Rg.keep hb (by simp <;> omega) (by go_cell); have y1 : w1.cell? ⟨w.heap.size + 1, 1, none⟩ = some (.int .i64 a') := Rg.keep hb (by simp <;> omega) (by go_cell); have z0 : w1.cell? ⟨w.heap.size + 1 + 1, 0, none⟩ = some (.int .i64 0) := Rg.keep hb (by simp <;> omega) (by go_cell); have f0 : w1.frozen? ⟨w.heap.size + 1 + 1, 0, none⟩ = false := Rg.keepF hb (by simp <;> omega) (by go_cell); have z1 : w1.cell? ⟨w.heap.size + 1 + 1, 1, none⟩ = some (.int .i64 0) := Rg.keep hb (by simp <;> omega) (by go_cell); have f1 : w1.frozen? ⟨w.heap.size + 1 + 1, 1, none⟩ = false := Rg.keepF hb (by simp <;> omega) (by go_cell); have z2 : w1.cell? ⟨w.heap.size + 1 + 1, 2, none⟩ = some (.int .i64 0) := Rg.keep hb (by simp <;> omega) (by go_cell); have f2 : w1.frozen? ⟨w.heap.size + 1 + 1, 2, none⟩ = false := Rg.keepF hb (by simp <;> omega) (by go_cell); have z3 : w1.cell? ⟨w.heap.size + 1 + 1, 3, none⟩ = some (.int .i64 0) := Rg.keep hb (by simp <;> omega) (by go_cell); have f3 : w1.frozen? ⟨w.heap.size + 1 + 1, 3, none⟩ = false := Rg.keepF hb (by simp <;> omega) (by go_cell); have z4 : w1.cell? ⟨w.heap.size + 1 + 1, 4, none⟩ = some (.int .i64 0) := Rg.keep hb (by simp <;> omega) (by go_cell); have f4 : w1.frozen? ⟨w.heap.size + 1 + 1, 4, none⟩ = false := Rg.keepF hb (by simp <;> omega) (by go_cell); have z5 : w1.cell? ⟨w.heap.size + 1 + 1, 5, none⟩ = some (.slice none 0 0) := Rg.keep hb (by simp <;> omega) (by go_cell); have f5 : w1.frozen? ⟨w.heap.size + 1 + 1, 5, none⟩ = false := Rg.keepF hb (by simp <;> omega) (by go_cell); have z6 : w1.cell? ⟨w.heap.size + 1 + 1, 6, none⟩ = some (.slice none 0 0) := Rg.keep hb (by simp <;> omega) (by go_cell); have f6 : w1.frozen? ⟨w.heap.size + 1 + 1, 6, none⟩ = false := Rg.keepF hb (by simp <;> omega) (by go_cell); have lr : w.heap.size + 1 + 1 < w1.heap.size := World.block_lt_of_cell? _ _ z0; clear hb) | (go_at_call 48; (with_reducible refine (VC.out _).mono ?_); rintro e w2 ⟨rfl, hb2⟩; have lrb : w.heap.size + 1 + 1 < w2.heap.size := Nat.lt_of_lt_of_le lr hb2.size; replace c0 := Rg.keep hb2 (by omega) c0; replace c1 := Rg.keep hb2 (by omega) c1; replace c2 := Rg.keep hb2 (by omega) c2; replace c3 := Rg.keep hb2 (by omega) c3; replace c4 := Rg.keep hb2 (by omega) c4; replace c5 := Rg.keep hb2 (by omega) c5; replace c6 := Rg.keep hb2 (by omega) c6; replace y0 := Rg.keep hb2 (by omega) y0; replace y1 := Rg.keep hb2 (by omega) y1; replace z0 := Rg.keep hb2 lr z0; replace f0 := Rg.keepF hb2 lr f0; replace z1 := Rg.keep hb2 lr z1; replace f1 := Rg.keepF hb2 lr f1; replace z2 := Rg.keep hb2 lr z2; replace f2 := Rg.keepF hb2 lr f2; replace z3 := Rg.keep hb2 lr z3; replace f3 := Rg.keepF hb2 lr f3; replace z4 := Rg.keep hb2 lr z4; replace f4 := Rg.keepF hb2 lr f4; replace z5 := Rg.keep hb2 lr z5; replace f5 := Rg.keepF hb2 lr f5; replace z6 := Rg.keep hb2 lr z6; replace f6 := Rg.keepF hb2 lr f6; have KB2 := Lib.hid (KB.out.trans (hb2.mono KB.out.size)); clear hb2 lr) | (go_at_call 45; (with_reducible refine (DT.out _ (Lib.hid (SlI.keep KB2.out RA.out)) (Lib.hid (SlV.below RB.out KB2.out))).mono ?_); rintro e w3 ⟨v, rfl, p1, ce, q1, d1, rfl, O1, O2, hb3⟩; have lrc : w.heap.size + 1 + 1 < w3.heap.size := Nat.lt_of_lt_of_le lrb hb3.size; replace y0 := Rg.keep hb3 (by omega) y0; replace y1 := Rg.keep hb3 (by omega) y1; replace z0 := Rg.keep hb3 lrb z0; replace f0 := Rg.keepF hb3 lrb f0; replace z1 := Rg.keep hb3 lrb z1; replace f1 := Rg.keepF hb3 lrb f1; replace z2 := Rg.keep hb3 lrb z2; replace f2 := Rg.keepF hb3 lrb f2; replace z3 := Rg.keep hb3 lrb z3; replace f3 := Rg.keepF hb3 lrb f3; replace z4 := Rg.keep hb3 lrb z4; replace f4 := Rg.keepF hb3 lrb f4; replace z5 := Rg.keep hb3 lrb z5; replace f5 := Rg.keepF hb3 lrb f5; replace z6 := Rg.keep hb3 lrb z6; replace f6 := Rg.keepF hb3 lrb f6; have KB3 := Lib.hid (KB2.out.trans (hb3.mono KB2.out.size)); have HO1 := Lib.hid O1; have HO2 := Lib.hid O2; have hb23 := hb3.size; obtain ⟨gq, rfl, hgq, hgl⟩ := own_at O2 HM1.out; have lw1 : w.heap.size + 1 < w3.heap.size := (by omega); have lw0 : w.heap.size < w3.heap.size := (by omega); have lw2 : w.heap.size + 1 + 1 < w3.heap.size := lrc; have hne1 : gq ≠ w.heap.size + 1 + 1 := (by omega); have hne2 : gq < w3.heap.size := hgl; have u0 := (O2.cellAt (k * 2) (by omega)).trans HV0.out; have u1 := (O2.cellAt (k * 2 + 1) (by omega)).trans HV1.out; have h0 := O2.frozenAt (k * 2); have h1 := O2.frozenAt (k * 2 + 1); clear O1 O2 hb3; have lw3 := lrb; have lw4 := hb23; clear lrb))
 go_upto_region 8 with fail
 obtain ⟨w4, hw4, s4, P4, O4, B4, cc, ff⟩ := two_store HO1.out HO2.out KB3.out (show w.heap.size <= gq by omega) (k * 2) (k * 2 + 1) (.int .i64 a) (.int .i64 a')
 rw [hw4]
 rw [HS.out] at O4
 replace z0 := (cc _ 0 (Ne.symm hne1)).trans z0; replace f0 := (ff _ 0).trans f0; replace z1 := (cc _ 1 (Ne.symm hne1)).trans z1; replace f1 := (ff _ 1).trans f1; replace z2 := (cc _ 2 (Ne.symm hne1)).trans z2; replace f2 := (ff _ 2).trans f2; replace z3 := (cc _ 3 (Ne.symm hne1)).trans z3; replace f3 := (ff _ 3).trans f3; replace z4 := (cc _ 4 (Ne.symm hne1)).trans z4; replace f4 := (ff _ 4).trans f4; replace z5 := (cc _ 5 (Ne.symm hne1)).trans z5; replace f5 := (ff _ 5).trans f5; replace z6 := (cc _ 6 (Ne.symm hne1)).trans z6; replace f6 := (ff _ 6).trans f6
 rw [<- s4]
 rw [<- s4] at lw0 lw1 lw2 hgl
 have g4 := Lib.hid (And.intro P4 (And.intro O4 B4))
 have HG := Lib.hid (And.intro hgq (And.intro hgl (And.intro lw3 lw4)))
 clear s4 hb23 hne1 hne2 lw3 lw4 hgq lrc hw4 u0 u1 h0 h1 HO1 HO2 cc ff P4 O4 B4 KB3 KB2 KB y0 y1 c0 c1 c2 c3 c4 c5 c6
 iterate 6 go_step
 rename_i KK hKK
 refine hKK _ _ ?_
 repeat go_step
 obtain ⟨P4, O4, B4⟩ := g4.out
 have lr := lw2
 have SBB := (((((((B4.setCell (p := ⟨w.heap.size + 1 + 1, 0, none⟩) (by dsimp only; omega) (.int .i64 K)).setCell (p := ⟨w.heap.size + 1 + 1, 1, none⟩) (by dsimp only; omega) (.int .i64 B)).setCell (p := ⟨w.heap.size + 1 + 1, 2, none⟩) (by dsimp only; omega) (.int .i64 F)).setCell (p := ⟨w.heap.size + 1 + 1, 3, none⟩) (by dsimp only; omega) (.int .i64 R)).setCell (p := ⟨w.heap.size + 1 + 1, 4, none⟩) (by dsimp only; omega) (.int .i64 O)).setCell (p := ⟨w.heap.size + 1 + 1, 5, none⟩) (by dsimp only; omega) (.slice p1 zs.length ce)).setCell (p := ⟨w.heap.size + 1 + 1, 6, none⟩) (by dsimp only; omega) (.slice (some ⟨gq, 0, none⟩) m d1)).alloc (by simp; omega) (Obj.cells #[Value.int .i64 K, Value.int .i64 B, Value.int .i64 F, Value.int .i64 R, Value.int .i64 O, Value.slice p1 zs.length ce, Value.slice (some ⟨gq, 0, none⟩) m d1] 27)
 obtain ⟨hgq, hgl, lw3, lw4⟩ := HG.out
 have hl3 : (vs.set k (a, a')).length = m := by rw [List.length_set]; exact HM.out
 refine bodyPost_ret (v := .tuple #[Tn K B F R O p1 zs.length ce (some ⟨gq, 0, none⟩) m d1, .int .i64 0]) (by simp [results, Tryz.results23, go_sem, z0, f0, z1, f1, z2, f2, z3, f3, z4, f4, z5, f5, z6, f6, lr, Tn]) rfl ⟨p1, ce, some ⟨gq, 0, none⟩, d1, by rw [hl3], ?_, ?_, SBB⟩
 ·exact (own_base (own_set (own_set (own_set (own_set (own_set (own_set (own_set P4 (by dsimp only; omega)) (by dsimp only; omega)) (by dsimp only; omega)) (by dsimp only; omega)) (by dsimp only; omega)) (by dsimp only; omega)) (by dsimp only; omega)) (by omega)).alloc _
 ·rw [hl3]; exact (own_base (own_set (own_set (own_set (own_set (own_set (own_set (own_set O4 (by dsimp only; omega)) (by dsimp only; omega)) (by dsimp only; omega)) (by dsimp only; omega)) (by dsimp only; omega)) (by dsimp only; omega)) (by dsimp only; omega)) (by omega)).alloc _
end Go.Proofs.YteaaikmejacpaaaGreatDoor.Te

namespace Go.Proofs.YteaaikmejacpaaaGreatDoor.Te
open Go.ChangeShapes Go.WideShapes Go.ChangeAt Go.RowKit
open Fx Va Sh
set_option maxRecDepth 8000
set_option linter.unusedVariables false
set_option linter.unusedSimpArgs false

/-- The error of Set. -/
def setE (K B F R O : Int) (zs : List Int) (vs : List (Int × Int)) (xs : List Int) (a a' : Int) : Int := if (loc K B F R O zs vs xs).2 ≠ 0 then (loc K B F R O zs vs xs).2 else if vv K B F R O a a' = false then 1 else 0
theorem tset (K B F R O : Int) (p : Option Addr) (zs : List Int) (c : Nat) (q : Option Addr) (vs : List (Int × Int)) (d : Nat) (a a' : Int) (w : World) (b0 : -9223372036854775808 <= B) (b1 : B <= 9223372036854775807) (hn : zs.length <= maxLen) (hm : vs.length <= maxLen) (RA : Hid (SlI w p zs)) (RB : Hid (SlV w q vs)) (x : Option Addr) (xs : List Int) (e : Nat) (hx : xs.length <= maxLen) (RX : Hid (SlI w x xs)) :
  Calls Tryz.prog 23 #[Tn K B F R O p zs.length c q vs.length d, .agg #[.int .i64 a, .int .i64 a'], .slice x xs.length e] w fun en w' => (setE K B F R O zs vs xs a a' ≠ 0 /\ TRes 0 0 0 0 0 [] [] (setE K B F R O zs vs xs a a') w en w') \/ (setE K B F R O zs vs xs a a' = 0 /\ TRes K B F R O zs (vs.set (loc K B F R O zs vs xs).1.toNat (a, a')) 0 w en w') := by
 unfold setE
 by_cases ht : (loc K B F R O zs vs xs).2 = 0
 ·rw [if_neg (by simpa using ht)]
  cases hv : vv K B F R O a a'
  ·rw [if_pos rfl]
   exact (set_b K B F R O p zs c q vs d a a' w b0 b1 hn hm RA RB x xs e hx RX ht hv).mono (fun _ _ h => .inl ⟨by decide, h⟩)
  ·rw [if_neg (by decide)]
   exact (set_c K B F R O p zs c q vs d a a' w b0 b1 hn hm RA RB x xs e hx RX ht hv).mono (fun _ _ h => .inr ⟨rfl, h⟩)
 ·rw [if_pos ht]
  exact (set_a K B F R O p zs c q vs d a a' w b0 b1 hn hm RA RB x xs e hx RX ht).mono (fun _ _ h => .inl ⟨ht, h⟩)

end Go.Proofs.YteaaikmejacpaaaGreatDoor.Te

namespace Go.Proofs.YteaaikmejacpaaaGreatDoor.Tx
open Go.ChangeShapes Go.WideShapes Go.ChangeAt Go.RowKit
open Fr Fx
set_option maxRecDepth 8000
set_option linter.unusedVariables false
set_option linter.unusedSimpArgs false
set_option maxRecDepth 8000
def isD (c : UInt8) : Bool := decide (48 <= c.toNat /\ c.toNat <= 57)

/-- A decimal integer without leading zeros. -/
def whole (l : List UInt8) : Bool := decide (bd l ≠ []) && (bd l).all isD && !(decide ((bd l).headD 0 = 48) && decide (1 < l.length))

end Go.Proofs.YteaaikmejacpaaaGreatDoor.Tx

namespace Go.Proofs.YteaaikmejacpaaaGreatDoor.Te
open Go.ChangeShapes Go.WideShapes Go.ChangeAt Go.RowKit
open Fx Va Sh
set_option maxRecDepth 8000
set_option linter.unusedVariables false
set_option linter.unusedSimpArgs false

theorem flV_app (a b : List (Int × Int)) : flV (a ++ b) = flV a ++ flV b := by unfold flV; exact List.flatMap_append
theorem one_V (l : List (Int × Int)) : ∀ u ∈ flV l, u.oneCell' = true := fun u hu => by
 obtain ⟨z, rfl⟩ := flV_in hu
 rfl
theorem sl_cellsV {w : World} {b o x n : Nat} {vs : List (Int × Int)} (h : SlV w (some ⟨b, o, none⟩) vs) (hx : x + n <= vs.length) : ∀ (j : Nat) (u : Value), (flV ((vs.drop x).take n))[j]? = some u -> w.cell? ((⟨b, o + x * 2, none⟩ : Addr).add j) = some u := by
 intro j u hj
 have hl := (List.getElem?_eq_some_iff.1 hj).1
 rw [flV_len, List.length_take, List.length_drop] at hl
 have hk : j / 2 < ((vs.drop x).take n).length := by rw [List.length_take, List.length_drop]; omega
 obtain ⟨g0, g1⟩ := flV_get _ _ hk
 have e : ((vs.drop x).take n).getD (j / 2) (0, 0) = vs.getD (x + j / 2) (0, 0) := by
  rw [List.getD_eq_getElem?_getD, List.getD_eq_getElem?_getD, List.getElem?_take_of_lt (by omega), List.getElem?_drop]
 rw [e] at g0 g1
 obtain ⟨b', o', ee, c0, c1⟩ := h (x + j / 2) (by omega)
 cases ee
 rw [add_at]
 by_cases hp : j % 2 = 0
 ·rw [show j / 2 * 2 = j by omega] at g0
  rw [g0] at hj
  rw [show o + x * 2 + j = o + (x + j / 2) * 2 by omega, c0]
  exact hj
 ·rw [show j / 2 * 2 + 1 = j by omega] at g1
  rw [g1] at hj
  rw [show o + x * 2 + j = o + (x + j / 2) * 2 + 1 by omega, c1]
  exact hj

end Go.Proofs.YteaaikmejacpaaaGreatDoor.Te

namespace Go.Proofs.YteaaikmejacpaaaGreatDoor.Te
open Go.ChangeShapes Go.WideShapes Go.ChangeAt Go.RowKit
open Fx Va Sh
set_option maxRecDepth 8000
set_option linter.unusedVariables false
set_option linter.unusedSimpArgs false

theorem own_setP {u : World} {base : Nat} {E : TypeId} {sz n : Nat} {v : Value} {xs : List Value} (h : u.ownsRow base E sz v n xs) {A g o : Nat} {y : Value} (hA : ∀ k, v.ownBlock = some k -> k < A) (hg : A <= g) : (u.setCell ⟨g, o, none⟩ y).ownsRow base E sz v n xs := h.kept grown_set (by
 cases hb : v.ownBlock with
 | none => exact .inl rfl
 | some q => exact .inr (fun e => by have e' : q = g := Option.some.inj e; have := hA _ hb; omega))

end Go.Proofs.YteaaikmejacpaaaGreatDoor.Te

namespace Go.Proofs.YteaaikmejacpaaaGreatDoor.Te
open Go.ChangeShapes Go.WideShapes Go.ChangeAt Go.RowKit
open Fx Va Sh
set_option maxRecDepth 8000
set_option linter.unusedVariables false
set_option linter.unusedSimpArgs false

theorem flV_take : ∀ (l : List (Int × Int)) (k : Nat), (flV l).take (k * 2) = flV (l.take k)
 | l, 0 => by simp [flV]
 | [], k + 1 => by simp [flV]
 | v :: r, k + 1 => by
  have e : flV (v :: r) = .int .i64 v.1 :: .int .i64 v.2 :: flV r := rfl
  have e2 : flV ((v :: r).take (k + 1)) = .int .i64 v.1 :: .int .i64 v.2 :: flV (r.take k) := rfl
  rw [e, e2, show (k + 1) * 2 = k * 2 + 2 by omega, List.take_succ_cons, List.take_succ_cons, flV_take r k]
theorem flV_drop : ∀ (l : List (Int × Int)) (k : Nat), (flV l).drop (k * 2) = flV (l.drop k)
 | l, 0 => by simp
 | [], k + 1 => by simp [flV]
 | v :: r, k + 1 => by
  have e : flV (v :: r) = .int .i64 v.1 :: .int .i64 v.2 :: flV r := rfl
  rw [e, show (k + 1) * 2 = k * 2 + 2 by omega, List.drop_succ_cons, List.drop_succ_cons, flV_drop r k]
  rfl
/-- copy of elements of two cells into a row that is known whole. -/
theorem own_copy2 {P : Program} {u : World} {B g N o m dc : Nat} {E : TypeId} {L X : List (Int × Int)} {sa : Addr} {sl sc : Nat}
  (h : u.ownsRow B E 2 (.slice (some ⟨g, 0, none⟩) N N) N (flV L)) (hX : X.length = Nat.min sl m) (hfit : o + X.length <= N)
  (hsrc : ∀ j v, (flV X)[j]? = some v -> u.cell? (sa.add j) = some v)
  (dT sT ty elem : TypeId) (i : TypeInfo) (hu : P.underlying dT = some (.slice elem)) (hi : P.info? elem = some i) (hs : i.size = 2) :
  ∃ u', (Builtin.copy_ #[dT, sT] ty #[.slice (some ⟨g, o * 2, none⟩) m dc, .slice (some sa) sl sc]).run P u = .ok (goInt X.length) u' /\
   u'.ownsRow B E 2 (.slice (some ⟨g, 0, none⟩) N N) N (flV (L.take o ++ X ++ L.drop (o + X.length))) /\ u.grownBy u' (some g) := by
 rcases h.2 with ⟨h', _⟩ | ⟨g', cap', cur, h', hb, hg, hnc, hcm, hcs, htake⟩
 ·simp at h'
 ·simp only [Value.slice.injEq, Option.some.injEq, Addr.mk.injEq, and_true, true_and] at h'
  obtain ⟨rfl, rfl⟩ := h'
  have hcur : cur.toList = flV L := by rw [<- htake, List.take_of_length_le (by rw [Array.length_toList, hcs]; exact Nat.le_refl _)]
  have hL : L.length = N := by
   have h1 := congrArg List.length hcur
   rw [Array.length_toList, hcs, flV_len] at h1
   omega
  have hl := run_loadCells_list (P := P) u sa (flV X) hsrc
  have hst := run_storeCells_at P g (o * 2) E (flV X) 0 cur u hg (by rw [flV_len, hcs]; omega) (fun v hv => by obtain ⟨z, rfl⟩ := flV_in hv; rfl)
  refine ⟨_, ?_, ⟨?_, .inr ⟨g, N, (cur.toList.take (o * 2 + 0) ++ flV X ++ cur.toList.drop (o * 2 + 0 + (flV X).length)).toArray, rfl, hb, setRow_heap u g cur _ E (0, 0) hg, hnc, hcm, ?_, ?_⟩⟩, ?_⟩
  ·rw [flV_len] at hl
   simp [Builtin.copy_, run_underlying hu, Builtin.lenOf, Builtin.firstCells, sizeOf, typeInfo, hi, hs, <- hX, hl, hst]
  ·rw [flV_len]; simp; omega
  ·rw [List.size_toArray, List.length_append, List.length_append, List.length_take, List.length_drop, Array.length_toList, flV_len, hcs]; omega
  ·have e : cur.toList.take (o * 2 + 0) ++ flV X ++ cur.toList.drop (o * 2 + 0 + (flV X).length) = flV (L.take o ++ X ++ L.drop (o + X.length)) := by
    rw [hcur, flV_app, flV_app, Nat.add_zero, flV_take, flV_len, <- Nat.add_mul, flV_drop]
   show List.take (N * 2) (cur.toList.take (o * 2 + 0) ++ flV X ++ cur.toList.drop (o * 2 + 0 + (flV X).length)) = _
   rw [e]
   refine List.take_of_length_le ?_
   rw [flV_len]; simp; omega
  ·exact ⟨rfl, rfl, rfl, by simp [World.setRow], fun k _ hk => setRow_other u g k _ (fun e => hk (by rw [e]))⟩
/-- A row that is being filled with one element. -/
def rowF (v : Int × Int) (N k : Nat) : List (Int × Int) := List.replicate k v ++ List.replicate (N - k) (0, 0)

theorem rowF_full {v : Int × Int} {N : Nat} : rowF v N N = List.replicate N v := by unfold rowF; simp
theorem rowF_zero {v : Int × Int} {N : Nat} : rowF v N 0 = List.replicate N (0, 0) := by unfold rowF; simp
theorem rowF_put {v : Int × Int} {N k c : Nat} (h : k + c <= N) : (rowF v N k).take k ++ List.replicate c v ++ (rowF v N k).drop (k + c) = rowF v N (k + c) := by
 unfold rowF
 have h1 : (List.replicate k v).length = k := List.length_replicate
 rw [List.take_append_of_le_length (by omega), List.take_of_length_le (by omega), List.drop_append, List.drop_eq_nil_of_le (by omega), h1, List.nil_append, List.drop_replicate, List.replicate_append_replicate, show N - k - (k + c - k) = N - (k + c) by omega]
/-- The first copy: one element at the head. -/
theorem copy_one {P : Program} {u : World} {B g N : Nat} {E : TypeId} {v : Int × Int} {b o : Nat}
  (h : u.ownsRow B E 2 (.slice (some ⟨g, 0, none⟩) N N) N (flV (List.replicate N (0, 0)))) (hN : 1 <= N)
  (c0 : u.cell? ⟨b, o, none⟩ = some (.int .i64 v.1)) (c1 : u.cell? ⟨b, o + 1, none⟩ = some (.int .i64 v.2))
  (dT sT ty elem : TypeId) (i : TypeInfo) (hu : P.underlying dT = some (.slice elem)) (hi : P.info? elem = some i) (hs : i.size = 2) :
  ∃ u', (Builtin.copy_ #[dT, sT] ty #[.slice (some ⟨g, 0, none⟩) N N, .slice (some ⟨b, o, none⟩) 1 1]).run P u = .ok (.int .i64 1) u' /\
   u'.ownsRow B E 2 (.slice (some ⟨g, 0, none⟩) N N) N (flV (rowF v N 1)) /\ u.grownBy u' (some g) := by
 have hm : ([v] : List (Int × Int)).length = Nat.min 1 N := by simp; exact (Nat.min_eq_left hN).symm
 obtain ⟨u', r, ow, gr⟩ := own_copy2 (P := P) (o := 0) (m := N) (dc := N) (X := [v]) (sl := 1) (sc := 1) (sa := ⟨b, o, none⟩) h hm (by simpa using hN) (fun j x hj => by
  rw [add_at]
  have e : flV [v] = [.int .i64 v.1, .int .i64 v.2] := rfl
  rw [e] at hj
  rcases j with _ | _ | j
  ·cases hj; exact c0
  ·cases hj; exact c1
  ·cases hj) dT sT ty elem i hu hi hs
 refine ⟨u', ?_, ?_, gr⟩
 ·rw [Nat.zero_mul] at r
  exact r
 ·have e := rowF_put (v := v) (N := N) (k := 0) (c := 1) (by omega)
  rw [rowF_zero, Nat.zero_add] at e
  rw [<- e]
  exact ow
/-- The later copies: what is filled goes behind itself. -/
theorem copy_more {P : Program} {u : World} {B g N k : Nat} {E : TypeId} {v : Int × Int}
  (h : u.ownsRow B E 2 (.slice (some ⟨g, 0, none⟩) N N) N (flV (rowF v N k))) (hk : k < N)
  (dT sT ty elem : TypeId) (i : TypeInfo) (hu : P.underlying dT = some (.slice elem)) (hi : P.info? elem = some i) (hs : i.size = 2) :
  ∃ u' c, (Builtin.copy_ #[dT, sT] ty #[.slice (some ⟨g, k * 2, none⟩) (N - k) (N - k), .slice (some ⟨g, 0, none⟩) k N]).run P u = .ok (.int .i64 (c : Nat)) u' /\ c = Nat.min k (N - k) /\
   u'.ownsRow B E 2 (.slice (some ⟨g, 0, none⟩) N N) N (flV (rowF v N (k + c))) /\ u.grownBy u' (some g) := by
 obtain ⟨c, hc⟩ : ∃ c, Nat.min k (N - k) = c := ⟨_, rfl⟩
 have c1 : c <= k := by rw [<- hc]; exact Nat.min_le_left _ _
 have c2 : c <= N - k := by rw [<- hc]; exact Nat.min_le_right _ _
 have hl : (List.replicate c v).length = c := List.length_replicate
 obtain ⟨u', r, ow, gr⟩ := own_copy2 (P := P) (o := k) (m := N - k) (dc := N - k) (X := List.replicate c v) (sl := k) (sc := N) (sa := ⟨g, 0, none⟩) h (by rw [hl, hc]) (by rw [hl]; omega) (fun j x hj => by
  refine h.cells rfl j x ?_
  have hj2 := (List.getElem?_eq_some_iff.1 hj).1
  rw [flV_len, hl] at hj2
  have e : flV (List.replicate c v) = (flV (rowF v N k)).take (c * 2) := by
   rw [flV_take]
   unfold rowF
   rw [List.take_append_of_le_length (by rw [List.length_replicate]; exact c1), List.take_replicate, Nat.min_eq_left c1]
  rw [e, List.getElem?_take_of_lt hj2] at hj
  exact hj) dT sT ty elem i hu hi hs
 refine ⟨u', c, ?_, hc.symm, ?_, gr⟩
 ·rw [hl] at r
  exact r
 ·rw [hl, rowF_put (by omega)] at ow
  exact ow
end Go.Proofs.YteaaikmejacpaaaGreatDoor.Te

namespace Go.Proofs
open Go.Shelf

def Tryz.lays212_ren : Go.Shelf.Ren := ⟨fun | 212 => 87 | 263 => 113 | 264 => 114 | n => n, fun | 46 => 106 | 51 => 134 | 53 => 130 | 146 => 135 | 148 => 137 | n => n, fun | n => n⟩

theorem Tryz.lays212 : Go.Proofs.Lays.n212 Tryz.prog Tryz.lays212_ren := {
 mixed := by kernel_rfl
 f212 := Tryz.func87.trans (congrArg some (by kernel_rfl))
 f263 := Tryz.func113.trans (congrArg some (by kernel_rfl))
 f264 := Tryz.func114.trans (congrArg some (by kernel_rfl))
 t46 := Tryz.underlying106
 a46 := Tryz.isAgg106
 z46 := Tryz.sizeOf106
 v46 := Tryz.zeroValue106
 t51 := Tryz.underlying134
 a51 := Tryz.isAgg134
 z51 := Tryz.sizeOf134
 v51 := Tryz.zeroValue134
 t53 := Tryz.underlying130
 a53 := Tryz.isAgg130
 z53 := Tryz.sizeOf130
 v53 := Tryz.zeroValue130
 t146 := Tryz.underlying135
 a146 := Tryz.isAgg135
 z146 := Tryz.sizeOf135
 v146 := Tryz.zeroValue135
 t148 := Tryz.underlying137
 a148 := Tryz.isAgg137
 z148 := Tryz.sizeOf137
 v148 := Tryz.zeroValue137 }

open Go.RowKit Go.Lib in
theorem Tryz.bits_Mul (x y : Nat) (hx : x < 18446744073709551616) (hy : y < 18446744073709551616) (w : World) :
  Calls Tryz.prog 87 #[.int .u64 x, .int .u64 y] w fun e w' => e = .returned (.tuple #[.int .u64 ((x * y / 18446744073709551616 : Nat) : Int), .int .u64 ((x * y % 18446744073709551616 : Nat) : Int)]) /\ w' = w := Any.bits_Mul Tryz.lays212 x y hx hy w

end Go.Proofs

namespace Go.Proofs.YteaaikmejacpaaaGreatDoor.Te
open Go.ChangeShapes Go.WideShapes Go.ChangeAt Go.RowKit
open Fx Va Sh
set_option maxRecDepth 8000
set_option linter.unusedVariables false
set_option linter.unusedSimpArgs false

set_option maxRecDepth 100000 in
set_option maxHeartbeats 4000000 in
/-- slices.Repeat of one element. -/
theorem repT (v : Int × Int) (b o N : Nat) (w : World) (hN : 1 <= N) (hN2 : N <= 4096) (c0 : w.cell? ⟨b, o, none⟩ = some (.int .i64 v.1)) (c1 : w.cell? ⟨b, o + 1, none⟩ = some (.int .i64 v.2)) :
  Calls Tryz.prog 50 #[.slice (some ⟨b, o, none⟩) 1 1, .int .i64 (N : Int)] w fun e w' => e = .returned (.slice (some ⟨w.heap.size, 0, none⟩) N N) /\ Below w.heap.size w w' /\ w'.ownsRow w.heap.size 29 2 (.slice (some ⟨w.heap.size, 0, none⟩) N N) N (flV (List.replicate N v)) := by
 have hbb : b < w.heap.size := World.block_lt_of_cell? _ _ c0
 have C0 := Lib.hid c0
 have C1 := Lib.hid c1
 have BM0 : ∀ u, Calls Tryz.prog 87 #[.int .u64 1, .int .u64 (N : Int)] u fun e w' => e = .returned (.tuple #[.int .u64 0, .int .u64 (N : Int)]) /\ w' = u := fun u => by
  have h := Tryz.bits_Mul 1 N (by omega) (by omega) u
  rw [show 1 * N / 18446744073709551616 = 0 by omega, show 1 * N % 18446744073709551616 = N by omega] at h
  exact h
 have BM := Lib.hid BM0
 have wu : IntKind.u64.wrap (N : Int) = N := by rw [IntKind.wrap_u64]; omega
 have wi : IntKind.i64.wrap (N : Int) = N := by rw [IntKind.wrap_i64]; omega
 have n0 : (0 : Int) <= N := by omega
 have g1 : decide ((N : Int) < 0) = false := by simp
 have g2 : decide ((9223372036854775807 : Int) < N) = false := by simp; omega
 obtain ⟨i0, hi, hz0, hz1, hz2⟩ := info_parts infoV
 clear c0 c1 BM0
 go_enter Tryz.func50, Tryz.ntmps50
 go_upto_region 6 with (go_at_call 87; (with_reducible refine (BM.out _).mono ?_); rintro e w5 ⟨rfl, hw5⟩; rw [hw5]; clear hw5)
 go_upto_region 7 with (refine wpList_make_full _ rfl _ _ 25 rfl w.heap.size 29 i0 (.agg #[.int .i64 0, .int .i64 0]) 2 Tryz.underlying25 hi hz0 hz1 .i64 .i64 _ _ N rfl rfl rfl rfl (by rw [hz2]; omega) (by unfold maxLen; omega) (Nat.le_refl _) ?_; intro w6 hown6 hg6; have HB6 := Lib.hid (below_own (Nat.le_refl _) hg6); rw [madeV] at hown6; have HL6 := Lib.hid hown6; clear hown6 hg6)
 obtain ⟨w7, hr7, ow7, gr7⟩ := copy_one (P := Tryz.prog) HL6.out hN (Rg.keep HB6.out hbb C0.out) (Rg.keep HB6.out hbb C1.out) 25 25 3 29 i0 Tryz.underlying25 hi hz1
 have OW7 := Lib.hid ow7
 have BW7 := Lib.hid (HB6.out.grown gr7 HB6.out.size (fun j hj => by cases hj; exact Nat.le_refl _))
 clear ow7 gr7
 go_upto_region 8 with (refine Lib.wpList_copy_run _ rfl _ _ 25 25 rfl _ _ rfl rfl hr7 ?_)
 clear hr7
 go_loopw [8] (fun iv wr => ∃ k : Nat, iv = .int .i64 (k : Int) /\ 1 <= k /\ k <= N /\ Hid (wr.ownsRow w.heap.size 29 2 (.slice (some ⟨w.heap.size, 0, none⟩) N N) N (flV (rowF v N k)) /\ Below w.heap.size w wr)) (fun iv _ => N - (intOf iv).toNat)
 case atStart => exact ⟨1, rfl, Nat.le_refl _, hN, Lib.hid ⟨OW7.out, BW7.out⟩⟩
 case round =>
  obtain ⟨k, rfl, k1, k2, HJ⟩ := hrel
  by_cases hkN : k < N
  ·obtain ⟨VJ, KJ⟩ := HJ.out
   have q1 : (k : Int) < N := by omega
   have q2 : (0 : Int) <= k := by omega
   have q3 : (k : Int) <= N := by omega
   have q4 : ¬ N = k := by omega
   go_upto_region 9 with fail
   refine Rk.begin (S := fun wS => (Below wr.heap.size wr wS)) 7 (by kernel_rfl) (Below.drew (Below.refl _ _)) (fun hHeld => ?_)
   refine SqR.p 0 ?_
   refine SqR.p 1 ?_
   refine SqR.p 2 ?_
   refine SqR.p 3 ?_
   refine SqR.p 4 ?_
   refine SqR.p 5 ?_
   refine SqR.p 6 ?_
   refine Rk.tail [7, 8, 9] [_, _, _] (by kernel_rfl) (by kernel_rfl) rfl (by decide) ?_
   clear hHeld
   obtain ⟨w8, cc, hr8, hc8, ow8, gr8⟩ := copy_more (P := Tryz.prog) VJ.drew hkN 25 25 3 29 i0 Tryz.underlying25 hi hz1
   have e1 : cc <= k := by rw [hc8]; exact Nat.min_le_left _ _
   have e2 : cc <= N - k := by rw [hc8]; exact Nat.min_le_right _ _
   have e3 : 1 <= cc := by rw [hc8]; exact Nat.le_min.2 ⟨k1, by omega⟩
   have EW := Lib.hid (show wrap64 ((k : Int) + cc) = ((k + cc : Nat) : Int) by rw [w64 (by omega) (by omega)]; push_cast; rfl)
   have OW8 := Lib.hid ow8
   have BW8 := Lib.hid (KJ.drew.grown gr8 KJ.size (fun j hj => by cases hj; exact Nat.le_refl _))
   have E1 := Lib.hid (And.intro e1 e3)
   have E2 := Lib.hid e2
   clear hc8 ow8 gr8 e1 e2 e3
   go_wp2_with (refine Lib.wpList_copy_run _ rfl _ _ 25 25 rfl _ _ rfl rfl hr8 ?_)
   go_roundw
   case rel =>
    obtain ⟨e1, e3⟩ := E1.out
    have e2 := E2.out
    exact ⟨k + cc, by rw [EW.out], by omega, by omega, Lib.hid ⟨OW8.out, BW8.out⟩⟩
   case measure =>
    obtain ⟨e1, e3⟩ := E1.out
    have e2 := E2.out
    rw [EW.out]
    simp [intOf]; omega
  ·obtain rfl : k = N := by omega
   have gN : decide ((k : Int) < k) = false := by simp
   obtain ⟨VJ, KJ⟩ := HJ.out
   rw [rowF_full] at VJ
   have VJ' := Lib.hid VJ
   clear VJ
   go_wp2
   go_ret
   exact ⟨rfl, KJ, VJ'.out⟩
end Go.Proofs.YteaaikmejacpaaaGreatDoor.Te

namespace Go.Proofs.YteaaikmejacpaaaGreatDoor.Te
open Go.ChangeShapes Go.WideShapes Go.ChangeAt Go.RowKit
open Fx Va Sh
set_option maxRecDepth 8000
set_option linter.unusedVariables false
set_option linter.unusedSimpArgs false

/-- The error of Full. -/
def fuE (K B F R O : Int) (zs : List Int) (x y : Int) : Int := if ty K B F R O = true then (if (vE zs != 0) = true then vE zs else if vv K B F R O x y = true then 0 else 1) else 10

set_option maxRecDepth 100000 in
set_option maxHeartbeats 8000000 in
theorem fu_a (K B F R O : Int) (p : Option Addr) (zs : List Int) (c : Nat) (x y : Int) (w : World) (b0 : -9223372036854775808 <= B) (b1 : B <= 9223372036854775807) (hn : zs.length <= maxLen) (RA : Hid (SlI w p zs)) (ht : ty K B F R O = false) :
  Calls Tryz.prog 18 #[T5 K B F R O, .slice p zs.length c, V2 x y] w (TRes 0 0 0 0 0 [] [] 10 w) := by
 have VT0 := fun w => c_vt K B F R O w
 rw [ht] at VT0
 have VT := Lib.hid VT0
 have B0 : Hid (Below w.heap.size w (((w.alloc (Obj.cells #[Value.int .i64 K, Value.int .i64 B, Value.int .i64 F, Value.int .i64 R, Value.int .i64 O] 23)).alloc (Obj.cells #[Value.int .i64 x, Value.int .i64 y] 29)).alloc (Obj.cells #[Value.int .i64 0, Value.int .i64 0, Value.int .i64 0, Value.int .i64 0, Value.int .i64 0, Value.slice none 0 0, Value.slice none 0 0] 27))) := Lib.hid ((((Below.refl _ _).alloc (Nat.le_refl _) _).alloc (by simp) _).alloc (by simp; omega) _)
 clear VT0 ht
 go_enter Tryz.func18, Tryz.ntmps18
 go_wp2_with (go_at_call 46; (with_reducible refine (VT.out _).mono ?_); rintro e w1 ⟨rfl, hb⟩; have KB := Lib.hid (B0.out.trans (hb.mono B0.out.size)); have c0 : w1.cell? ⟨w.heap.size, 0, none⟩ = some (.int .i64 K) := Rg.keep hb (by simp <;> omega) (by go_cell); have c1 : w1.cell? ⟨w.heap.size, 1, none⟩ = some (.int .i64 B) := Rg.keep hb (by simp <;> omega) (by go_cell); have c2 : w1.cell? ⟨w.heap.size, 2, none⟩ = some (.int .i64 F) := Rg.keep hb (by simp <;> omega) (by go_cell); have c3 : w1.cell? ⟨w.heap.size, 3, none⟩ = some (.int .i64 R) := Rg.keep hb (by simp <;> omega) (by go_cell); have c4 : w1.cell? ⟨w.heap.size, 4, none⟩ = some (.int .i64 O) := Rg.keep hb (by simp <;> omega) (by go_cell); have v0 : w1.cell? ⟨w.heap.size + 1, 0, none⟩ = some (.int .i64 x) := Rg.keep hb (by simp <;> omega) (by go_cell); have v1 : w1.cell? ⟨w.heap.size + 1, 1, none⟩ = some (.int .i64 y) := Rg.keep hb (by simp <;> omega) (by go_cell); have z0 : w1.cell? ⟨w.heap.size + 1 + 1, 0, none⟩ = some (.int .i64 0) := Rg.keep hb (by simp <;> omega) (by go_cell); have f0 : w1.frozen? ⟨w.heap.size + 1 + 1, 0, none⟩ = false := Rg.keepF hb (by simp <;> omega) (by go_cell); have z1 : w1.cell? ⟨w.heap.size + 1 + 1, 1, none⟩ = some (.int .i64 0) := Rg.keep hb (by simp <;> omega) (by go_cell); have f1 : w1.frozen? ⟨w.heap.size + 1 + 1, 1, none⟩ = false := Rg.keepF hb (by simp <;> omega) (by go_cell); have z2 : w1.cell? ⟨w.heap.size + 1 + 1, 2, none⟩ = some (.int .i64 0) := Rg.keep hb (by simp <;> omega) (by go_cell); have f2 : w1.frozen? ⟨w.heap.size + 1 + 1, 2, none⟩ = false := Rg.keepF hb (by simp <;> omega) (by go_cell); have z3 : w1.cell? ⟨w.heap.size + 1 + 1, 3, none⟩ = some (.int .i64 0) := Rg.keep hb (by simp <;> omega) (by go_cell); have f3 : w1.frozen? ⟨w.heap.size + 1 + 1, 3, none⟩ = false := Rg.keepF hb (by simp <;> omega) (by go_cell); have z4 : w1.cell? ⟨w.heap.size + 1 + 1, 4, none⟩ = some (.int .i64 0) := Rg.keep hb (by simp <;> omega) (by go_cell); have f4 : w1.frozen? ⟨w.heap.size + 1 + 1, 4, none⟩ = false := Rg.keepF hb (by simp <;> omega) (by go_cell); have z5 : w1.cell? ⟨w.heap.size + 1 + 1, 5, none⟩ = some (.slice none 0 0) := Rg.keep hb (by simp <;> omega) (by go_cell); have f5 : w1.frozen? ⟨w.heap.size + 1 + 1, 5, none⟩ = false := Rg.keepF hb (by simp <;> omega) (by go_cell); have z6 : w1.cell? ⟨w.heap.size + 1 + 1, 6, none⟩ = some (.slice none 0 0) := Rg.keep hb (by simp <;> omega) (by go_cell); have f6 : w1.frozen? ⟨w.heap.size + 1 + 1, 6, none⟩ = false := Rg.keepF hb (by simp <;> omega) (by go_cell); have lr : w.heap.size + 1 + 1 < w1.heap.size := World.block_lt_of_cell? _ _ z0; clear hb)
 have SBB := (((((((KB.out).setCell (p := ⟨(w.heap.size + 1 + 1), 0, none⟩) (by dsimp only; omega) (.int .i64 0)).setCell (p := ⟨(w.heap.size + 1 + 1), 1, none⟩) (by dsimp only; omega) (.int .i64 0)).setCell (p := ⟨(w.heap.size + 1 + 1), 2, none⟩) (by dsimp only; omega) (.int .i64 0)).setCell (p := ⟨(w.heap.size + 1 + 1), 3, none⟩) (by dsimp only; omega) (.int .i64 0)).setCell (p := ⟨(w.heap.size + 1 + 1), 4, none⟩) (by dsimp only; omega) (.int .i64 0)).setCell (p := ⟨(w.heap.size + 1 + 1), 5, none⟩) (by dsimp only; omega) (.slice none 0 0)).setCell (p := ⟨(w.heap.size + 1 + 1), 6, none⟩) (by dsimp only; omega) (.slice none 0 0)
 refine bodyPost_ret (v := .tuple #[.agg #[.int .i64 0, .int .i64 0, .int .i64 0, .int .i64 0, .int .i64 0, .slice none 0 0, .slice none 0 0], .int .i64 10]) (by simp [results, Tryz.results18, go_sem, z0, f0, z1, f1, z2, f2, z3, f3, z4, f4, z5, f5, z6, f6, lr]) rfl (TRes.no SBB)

set_option maxRecDepth 100000 in
set_option maxHeartbeats 8000000 in
theorem fu_b (K B F R O : Int) (p : Option Addr) (zs : List Int) (c : Nat) (x y : Int) (w : World) (b0 : -9223372036854775808 <= B) (b1 : B <= 9223372036854775807) (hn : zs.length <= maxLen) (RA : Hid (SlI w p zs)) (ht : ty K B F R O = true) (hv : (vE zs != 0) = true) :
  Calls Tryz.prog 18 #[T5 K B F R O, .slice p zs.length c, V2 x y] w (TRes 0 0 0 0 0 [] [] (vE zs) w) := by
 have VT0 := fun w => c_vt K B F R O w
 rw [ht] at VT0
 have VT := Lib.hid VT0
 have SV0 := fun w h => c14 p zs c w hn h
 obtain ⟨V, hV⟩ : ∃ V, vE zs = V := ⟨_, rfl⟩
 rw [hV] at SV0 hv ⊢
 have SV := Lib.hid SV0
 have hv2 : (V == 0) = false := by simpa using hv
 have B0 : Hid (Below w.heap.size w (((w.alloc (Obj.cells #[Value.int .i64 K, Value.int .i64 B, Value.int .i64 F, Value.int .i64 R, Value.int .i64 O] 23)).alloc (Obj.cells #[Value.int .i64 x, Value.int .i64 y] 29)).alloc (Obj.cells #[Value.int .i64 0, Value.int .i64 0, Value.int .i64 0, Value.int .i64 0, Value.int .i64 0, Value.slice none 0 0, Value.slice none 0 0] 27))) := Lib.hid ((((Below.refl _ _).alloc (Nat.le_refl _) _).alloc (by simp) _).alloc (by simp; omega) _)
 clear VT0 ht SV0 hV
 go_enter Tryz.func18, Tryz.ntmps18
 go_wp2_with (first | (go_at_call 46; (with_reducible refine (VT.out _).mono ?_); rintro e w1 ⟨rfl, hb⟩; have KB := Lib.hid (B0.out.trans (hb.mono B0.out.size)); have c0 : w1.cell? ⟨w.heap.size, 0, none⟩ = some (.int .i64 K) := Rg.keep hb (by simp <;> omega) (by go_cell); have c1 : w1.cell? ⟨w.heap.size, 1, none⟩ = some (.int .i64 B) := Rg.keep hb (by simp <;> omega) (by go_cell); have c2 : w1.cell? ⟨w.heap.size, 2, none⟩ = some (.int .i64 F) := Rg.keep hb (by simp <;> omega) (by go_cell); have c3 : w1.cell? ⟨w.heap.size, 3, none⟩ = some (.int .i64 R) := Rg.keep hb (by simp <;> omega) (by go_cell); have c4 : w1.cell? ⟨w.heap.size, 4, none⟩ = some (.int .i64 O) := Rg.keep hb (by simp <;> omega) (by go_cell); have v0 : w1.cell? ⟨w.heap.size + 1, 0, none⟩ = some (.int .i64 x) := Rg.keep hb (by simp <;> omega) (by go_cell); have v1 : w1.cell? ⟨w.heap.size + 1, 1, none⟩ = some (.int .i64 y) := Rg.keep hb (by simp <;> omega) (by go_cell); have z0 : w1.cell? ⟨w.heap.size + 1 + 1, 0, none⟩ = some (.int .i64 0) := Rg.keep hb (by simp <;> omega) (by go_cell); have f0 : w1.frozen? ⟨w.heap.size + 1 + 1, 0, none⟩ = false := Rg.keepF hb (by simp <;> omega) (by go_cell); have z1 : w1.cell? ⟨w.heap.size + 1 + 1, 1, none⟩ = some (.int .i64 0) := Rg.keep hb (by simp <;> omega) (by go_cell); have f1 : w1.frozen? ⟨w.heap.size + 1 + 1, 1, none⟩ = false := Rg.keepF hb (by simp <;> omega) (by go_cell); have z2 : w1.cell? ⟨w.heap.size + 1 + 1, 2, none⟩ = some (.int .i64 0) := Rg.keep hb (by simp <;> omega) (by go_cell); have f2 : w1.frozen? ⟨w.heap.size + 1 + 1, 2, none⟩ = false := Rg.keepF hb (by simp <;> omega) (by go_cell); have z3 : w1.cell? ⟨w.heap.size + 1 + 1, 3, none⟩ = some (.int .i64 0) := Rg.keep hb (by simp <;> omega) (by go_cell); have f3 : w1.frozen? ⟨w.heap.size + 1 + 1, 3, none⟩ = false := Rg.keepF hb (by simp <;> omega) (by go_cell); have z4 : w1.cell? ⟨w.heap.size + 1 + 1, 4, none⟩ = some (.int .i64 0) := Rg.keep hb (by simp <;> omega) (by go_cell); have f4 : w1.frozen? ⟨w.heap.size + 1 + 1, 4, none⟩ = false := Rg.keepF hb (by simp <;> omega) (by go_cell); have z5 : w1.cell? ⟨w.heap.size + 1 + 1, 5, none⟩ = some (.slice none 0 0) := Rg.keep hb (by simp <;> omega) (by go_cell); have f5 : w1.frozen? ⟨w.heap.size + 1 + 1, 5, none⟩ = false := Rg.keepF hb (by simp <;> omega) (by go_cell); have z6 : w1.cell? ⟨w.heap.size + 1 + 1, 6, none⟩ = some (.slice none 0 0) := Rg.keep hb (by simp <;> omega) (by go_cell); have f6 : w1.frozen? ⟨w.heap.size + 1 + 1, 6, none⟩ = false := Rg.keepF hb (by simp <;> omega) (by go_cell); have lr : w.heap.size + 1 + 1 < w1.heap.size := World.block_lt_of_cell? _ _ z0; clear hb) | (go_at_call 47; (with_reducible refine (SV.out _ (Lib.hid (SlI.keep KB.out RA.out))).mono ?_); rintro e w9 ⟨rfl, rfl⟩))
 have SBB := (((((((KB.out).setCell (p := ⟨(w.heap.size + 1 + 1), 0, none⟩) (by dsimp only; omega) (.int .i64 0)).setCell (p := ⟨(w.heap.size + 1 + 1), 1, none⟩) (by dsimp only; omega) (.int .i64 0)).setCell (p := ⟨(w.heap.size + 1 + 1), 2, none⟩) (by dsimp only; omega) (.int .i64 0)).setCell (p := ⟨(w.heap.size + 1 + 1), 3, none⟩) (by dsimp only; omega) (.int .i64 0)).setCell (p := ⟨(w.heap.size + 1 + 1), 4, none⟩) (by dsimp only; omega) (.int .i64 0)).setCell (p := ⟨(w.heap.size + 1 + 1), 5, none⟩) (by dsimp only; omega) (.slice none 0 0)).setCell (p := ⟨(w.heap.size + 1 + 1), 6, none⟩) (by dsimp only; omega) (.slice none 0 0)
 refine bodyPost_ret (v := .tuple #[.agg #[.int .i64 0, .int .i64 0, .int .i64 0, .int .i64 0, .int .i64 0, .slice none 0 0, .slice none 0 0], .int .i64 V]) (by simp [results, Tryz.results18, go_sem, z0, f0, z1, f1, z2, f2, z3, f3, z4, f4, z5, f5, z6, f6, lr]) rfl (TRes.no SBB)

set_option maxRecDepth 100000 in
set_option maxHeartbeats 8000000 in
theorem fu_c (K B F R O : Int) (p : Option Addr) (zs : List Int) (c : Nat) (x y : Int) (w : World) (b0 : -9223372036854775808 <= B) (b1 : B <= 9223372036854775807) (hn : zs.length <= maxLen) (RA : Hid (SlI w p zs)) (ht : ty K B F R O = true) (hv : vE zs = 0) (hx : vv K B F R O x y = false) :
  Calls Tryz.prog 18 #[T5 K B F R O, .slice p zs.length c, V2 x y] w (TRes 0 0 0 0 0 [] [] 1 w) := by
 have VT0 := fun w => c_vt K B F R O w
 rw [ht] at VT0
 have VT := Lib.hid VT0
 have SV0 := fun w h => c14 p zs c w hn h
 rw [hv] at SV0
 have SV := Lib.hid SV0
 have VA0 := fun w => c_va K B F R O x y w b0 b1
 rw [hx] at VA0
 have VA := Lib.hid VA0
 have B0 : Hid (Below w.heap.size w (((w.alloc (Obj.cells #[Value.int .i64 K, Value.int .i64 B, Value.int .i64 F, Value.int .i64 R, Value.int .i64 O] 23)).alloc (Obj.cells #[Value.int .i64 x, Value.int .i64 y] 29)).alloc (Obj.cells #[Value.int .i64 0, Value.int .i64 0, Value.int .i64 0, Value.int .i64 0, Value.int .i64 0, Value.slice none 0 0, Value.slice none 0 0] 27))) := Lib.hid ((((Below.refl _ _).alloc (Nat.le_refl _) _).alloc (by simp) _).alloc (by simp; omega) _)
 clear VT0 ht SV0 hv VA0 hx
 go_enter Tryz.func18, Tryz.ntmps18
 go_wp2_with (first | (go_at_call 46; (with_reducible refine (VT.out _).mono ?_); rintro e w1 ⟨rfl, hb⟩; have KB := Lib.hid (B0.out.trans (hb.mono B0.out.size)); have c0 : w1.cell? ⟨w.heap.size, 0, none⟩ = some (.int .i64 K) := Rg.keep hb (by simp <;> omega) (by go_cell); have c1 : w1.cell? ⟨w.heap.size, 1, none⟩ = some (.int .i64 B) := Rg.keep hb (by simp <;> omega) (by go_cell); have c2 : w1.cell? ⟨w.heap.size, 2, none⟩ = some (.int .i64 F) := Rg.keep hb (by simp <;> omega) (by go_cell); have c3 : w1.cell? ⟨w.heap.size, 3, none⟩ = some (.int .i64 R) := Rg.keep hb (by simp <;> omega) (by go_cell); have c4 : w1.cell? ⟨w.heap.size, 4, none⟩ = some (.int .i64 O) := Rg.keep hb (by simp <;> omega) (by go_cell); have v0 : w1.cell? ⟨w.heap.size + 1, 0, none⟩ = some (.int .i64 x) := Rg.keep hb (by simp <;> omega) (by go_cell); have v1 : w1.cell? ⟨w.heap.size + 1, 1, none⟩ = some (.int .i64 y) := Rg.keep hb (by simp <;> omega) (by go_cell); have z0 : w1.cell? ⟨w.heap.size + 1 + 1, 0, none⟩ = some (.int .i64 0) := Rg.keep hb (by simp <;> omega) (by go_cell); have f0 : w1.frozen? ⟨w.heap.size + 1 + 1, 0, none⟩ = false := Rg.keepF hb (by simp <;> omega) (by go_cell); have z1 : w1.cell? ⟨w.heap.size + 1 + 1, 1, none⟩ = some (.int .i64 0) := Rg.keep hb (by simp <;> omega) (by go_cell); have f1 : w1.frozen? ⟨w.heap.size + 1 + 1, 1, none⟩ = false := Rg.keepF hb (by simp <;> omega) (by go_cell); have z2 : w1.cell? ⟨w.heap.size + 1 + 1, 2, none⟩ = some (.int .i64 0) := Rg.keep hb (by simp <;> omega) (by go_cell); have f2 : w1.frozen? ⟨w.heap.size + 1 + 1, 2, none⟩ = false := Rg.keepF hb (by simp <;> omega) (by go_cell); have z3 : w1.cell? ⟨w.heap.size + 1 + 1, 3, none⟩ = some (.int .i64 0) := Rg.keep hb (by simp <;> omega) (by go_cell); have f3 : w1.frozen? ⟨w.heap.size + 1 + 1, 3, none⟩ = false := Rg.keepF hb (by simp <;> omega) (by go_cell); have z4 : w1.cell? ⟨w.heap.size + 1 + 1, 4, none⟩ = some (.int .i64 0) := Rg.keep hb (by simp <;> omega) (by go_cell); have f4 : w1.frozen? ⟨w.heap.size + 1 + 1, 4, none⟩ = false := Rg.keepF hb (by simp <;> omega) (by go_cell); have z5 : w1.cell? ⟨w.heap.size + 1 + 1, 5, none⟩ = some (.slice none 0 0) := Rg.keep hb (by simp <;> omega) (by go_cell); have f5 : w1.frozen? ⟨w.heap.size + 1 + 1, 5, none⟩ = false := Rg.keepF hb (by simp <;> omega) (by go_cell); have z6 : w1.cell? ⟨w.heap.size + 1 + 1, 6, none⟩ = some (.slice none 0 0) := Rg.keep hb (by simp <;> omega) (by go_cell); have f6 : w1.frozen? ⟨w.heap.size + 1 + 1, 6, none⟩ = false := Rg.keepF hb (by simp <;> omega) (by go_cell); have lr : w.heap.size + 1 + 1 < w1.heap.size := World.block_lt_of_cell? _ _ z0; clear hb) | (go_at_call 47; (with_reducible refine (SV.out _ (Lib.hid (SlI.keep KB.out RA.out))).mono ?_); rintro e w9 ⟨rfl, rfl⟩) | (go_at_call 48; (with_reducible refine (VA.out _).mono ?_); rintro e w2 ⟨rfl, hb⟩; have KB2 := Lib.hid (KB.out.trans (hb.mono KB.out.size)); replace c0 := Rg.keep hb (Nat.lt_trans (by omega) lr) c0; replace c1 := Rg.keep hb (Nat.lt_trans (by omega) lr) c1; replace c2 := Rg.keep hb (Nat.lt_trans (by omega) lr) c2; replace c3 := Rg.keep hb (Nat.lt_trans (by omega) lr) c3; replace c4 := Rg.keep hb (Nat.lt_trans (by omega) lr) c4; replace v0 := Rg.keep hb (Nat.lt_trans (by omega) lr) v0; replace v1 := Rg.keep hb (Nat.lt_trans (by omega) lr) v1; replace z0 := Rg.keep hb lr z0; replace f0 := Rg.keepF hb lr f0; replace z1 := Rg.keep hb lr z1; replace f1 := Rg.keepF hb lr f1; replace z2 := Rg.keep hb lr z2; replace f2 := Rg.keepF hb lr f2; replace z3 := Rg.keep hb lr z3; replace f3 := Rg.keepF hb lr f3; replace z4 := Rg.keep hb lr z4; replace f4 := Rg.keepF hb lr f4; replace z5 := Rg.keep hb lr z5; replace f5 := Rg.keepF hb lr f5; replace z6 := Rg.keep hb lr z6; replace f6 := Rg.keepF hb lr f6; have lr2 : w.heap.size + 1 + 1 < w2.heap.size := World.block_lt_of_cell? _ _ z0; clear hb))
 have SBB := (((((((KB2.out).setCell (p := ⟨(w.heap.size + 1 + 1), 0, none⟩) (by dsimp only; omega) (.int .i64 0)).setCell (p := ⟨(w.heap.size + 1 + 1), 1, none⟩) (by dsimp only; omega) (.int .i64 0)).setCell (p := ⟨(w.heap.size + 1 + 1), 2, none⟩) (by dsimp only; omega) (.int .i64 0)).setCell (p := ⟨(w.heap.size + 1 + 1), 3, none⟩) (by dsimp only; omega) (.int .i64 0)).setCell (p := ⟨(w.heap.size + 1 + 1), 4, none⟩) (by dsimp only; omega) (.int .i64 0)).setCell (p := ⟨(w.heap.size + 1 + 1), 5, none⟩) (by dsimp only; omega) (.slice none 0 0)).setCell (p := ⟨(w.heap.size + 1 + 1), 6, none⟩) (by dsimp only; omega) (.slice none 0 0)
 refine bodyPost_ret (v := .tuple #[.agg #[.int .i64 0, .int .i64 0, .int .i64 0, .int .i64 0, .int .i64 0, .slice none 0 0, .slice none 0 0], .int .i64 1]) (by simp [results, Tryz.results18, go_sem, z0, f0, z1, f1, z2, f2, z3, f3, z4, f4, z5, f5, z6, f6, lr2]) rfl (TRes.no SBB)
end Go.Proofs.YteaaikmejacpaaaGreatDoor.Te

namespace Go.Proofs.YteaaikmejacpaaaGreatDoor.Te
open Go.ChangeShapes Go.WideShapes Go.ChangeAt Go.RowKit
open Fx Va Sh
set_option maxRecDepth 8000
set_option linter.unusedVariables false
set_option linter.unusedSimpArgs false

theorem TS.no {er : Int} {w w' : World} (hb : Below w.heap.size w w') : TS 0 0 0 0 0 [] [] er w (.returned (.tuple #[.agg #[.int .i64 0, .int .i64 0, .int .i64 0, .int .i64 0, .int .i64 0, .slice none 0 0, .slice none 0 0], .int .i64 er])) w' := (TRes.no hb).ts

end Go.Proofs.YteaaikmejacpaaaGreatDoor.Te

namespace Go.Proofs.YteaaikmejacpaaaGreatDoor.Te
open Go.ChangeShapes Go.WideShapes Go.ChangeAt Go.RowKit
open Fx Va Sh
set_option maxRecDepth 8000
set_option linter.unusedVariables false
set_option linter.unusedSimpArgs false

/-- A block of two cells that may be stored to. -/
def B2 (u : World) (b : Nat) (x y : Value) : Prop := (u.cell? ⟨b, 0, none⟩ = some x /\ u.cell? ⟨b, 1, none⟩ = some y) /\ u.frozen? ⟨b, 0, none⟩ = false /\ u.frozen? ⟨b, 1, none⟩ = false
section
variable {u u' : World} {b r o Bd : Nat} {x y x' y' v : Value}
theorem B2.lt (h : B2 u b x y) : b < u.heap.size := World.block_lt_of_cell? _ _ h.1.1
theorem B2.same (hc : ∀ o, u'.cell? ⟨b, o, none⟩ = u.cell? ⟨b, o, none⟩) (hf : ∀ o, u'.frozen? ⟨b, o, none⟩ = u.frozen? ⟨b, o, none⟩) (h : B2 u b x y) : B2 u' b x y := by
 obtain ⟨⟨c0, c1⟩, f0, f1⟩ := h
 exact ⟨⟨(hc 0).trans c0, (hc 1).trans c1⟩, (hf 0).trans f0, (hf 1).trans f1⟩
theorem B2.keep (hb : Below Bd u u') (hlt : b < Bd) (h : B2 u b x y) : B2 u' b x y :=
 h.same (fun o' => World.cell?_of_block (hb.block b hlt)) (fun o' => World.frozen?_of_block (hb.block b hlt))
theorem B2.far (hr : r ≠ b) (h : B2 u b x y) : B2 (u.setCell ⟨r, o, none⟩ v) b x y := h.same (fun o' => World.cell?_setCell_far _ _ _ _ hr) (fun o' => World.frozen?_setCell _ _ _ _)
theorem B2.st (h : B2 u b x y) : B2 ((u.setCell ⟨b, 0, none⟩ x').setCell ⟨b, 1, none⟩ y') b x' y' := by
 obtain ⟨⟨c0, c1⟩, f0, f1⟩ := h
 refine ⟨⟨?_, ?_⟩, by simpa [World.frozen?_setCell] using f0, by simpa [World.frozen?_setCell] using f1⟩
 ·rw [World.cell?_setCell_other _ _ _ _ (by simp)]
  exact World.cell?_setCell_same _ _ _ c0
 ·exact World.cell?_setCell_same _ _ _ ((World.cell?_setCell_other _ _ _ _ (by simp)).trans c1)
theorem B2.new (u : World) (T : TypeId) (x y : Value) : B2 (u.alloc (Obj.cells #[x, y] T)) u.heap.size x y := by
 refine ⟨⟨?_, ?_⟩, ?_, ?_⟩ <;> go_cell
end

end Go.Proofs.YteaaikmejacpaaaGreatDoor.Te

namespace Go.Proofs.YteaaikmejacpaaaGreatDoor.Te
open Go.ChangeShapes Go.WideShapes Go.ChangeAt Go.RowKit
open Fx Va Sh
set_option maxRecDepth 8000
set_option linter.unusedVariables false
set_option linter.unusedSimpArgs false

set_option maxRecDepth 100000 in
set_option maxHeartbeats 8000000 in
theorem fu_d (K B F R O : Int) (p : Option Addr) (zs : List Int) (c : Nat) (x y : Int) (w : World) (b0 : -9223372036854775808 <= B) (b1 : B <= 9223372036854775807) (hn : zs.length <= maxLen) (RA : Hid (SlI w p zs)) (ht : ty K B F R O = true) (hv : vE zs = 0) (hx : vv K B F R O x y = true) (N : Nat) (hN : sp zs = N) :
  Calls Tryz.prog 18 #[T5 K B F R O, .slice p zs.length c, V2 x y] w (TRes K B F R O zs (List.replicate N (x, y)) 0 w) := by
 obtain ⟨h6, -, -, hsp, h1s⟩ := valid_of hv
 have h1 := h1s 0
 rw [List.drop_zero] at h1
 have hN1 : 1 <= N := by omega
 have hN2 : N <= 4096 := by omega
 have VT0 := fun w => c_vt K B F R O w
 rw [ht] at VT0
 have VT := Lib.hid VT0
 have SV0 := fun w h => c14 p zs c w hn h
 rw [hv] at SV0
 have SV := Lib.hid SV0
 have SZ0 := fun w h => c16 p zs c w hn h
 rw [sz_sp hv, hN] at SZ0
 have SZ := Lib.hid SZ0
 have CD := Lib.hid fun u h => c48g p zs c u hn (by omega) h
 have RP := Lib.hid fun (b : Nat) (u : World) h0 h1 => repT (x, y) b 0 N u hN1 hN2 h0 h1
 have VA0 := fun w => c_va K B F R O x y w b0 b1
 rw [hx] at VA0
 have VA := Lib.hid VA0
 have B0 : Hid (Below w.heap.size w (((w.alloc (Obj.cells #[Value.int .i64 K, Value.int .i64 B, Value.int .i64 F, Value.int .i64 R, Value.int .i64 O] 23)).alloc (Obj.cells #[Value.int .i64 x, Value.int .i64 y] 29)).alloc (Obj.cells #[Value.int .i64 0, Value.int .i64 0, Value.int .i64 0, Value.int .i64 0, Value.int .i64 0, Value.slice none 0 0, Value.slice none 0 0] 27))) := Lib.hid ((((Below.refl _ _).alloc (Nat.le_refl _) _).alloc (by simp) _).alloc (by simp; omega) _)
 clear VT0 ht SV0 hv VA0 hx SZ0 h1s h1 hN h6 hsp
 go_enter Tryz.func18, Tryz.ntmps18
 go_upto_region 9 with (first | (go_at_call 46; (with_reducible refine (VT.out _).mono ?_); rintro e w1 ⟨rfl, hb⟩; have KB := Lib.hid (B0.out.trans (hb.mono B0.out.size)); have c0 : w1.cell? ⟨w.heap.size, 0, none⟩ = some (.int .i64 K) := Rg.keep hb (by simp <;> omega) (by go_cell); have c1 : w1.cell? ⟨w.heap.size, 1, none⟩ = some (.int .i64 B) := Rg.keep hb (by simp <;> omega) (by go_cell); have c2 : w1.cell? ⟨w.heap.size, 2, none⟩ = some (.int .i64 F) := Rg.keep hb (by simp <;> omega) (by go_cell); have c3 : w1.cell? ⟨w.heap.size, 3, none⟩ = some (.int .i64 R) := Rg.keep hb (by simp <;> omega) (by go_cell); have c4 : w1.cell? ⟨w.heap.size, 4, none⟩ = some (.int .i64 O) := Rg.keep hb (by simp <;> omega) (by go_cell); have v0 : w1.cell? ⟨w.heap.size + 1, 0, none⟩ = some (.int .i64 x) := Rg.keep hb (by simp <;> omega) (by go_cell); have v1 : w1.cell? ⟨w.heap.size + 1, 1, none⟩ = some (.int .i64 y) := Rg.keep hb (by simp <;> omega) (by go_cell); have z0 : w1.cell? ⟨w.heap.size + 1 + 1, 0, none⟩ = some (.int .i64 0) := Rg.keep hb (by simp <;> omega) (by go_cell); have f0 : w1.frozen? ⟨w.heap.size + 1 + 1, 0, none⟩ = false := Rg.keepF hb (by simp <;> omega) (by go_cell); have z1 : w1.cell? ⟨w.heap.size + 1 + 1, 1, none⟩ = some (.int .i64 0) := Rg.keep hb (by simp <;> omega) (by go_cell); have f1 : w1.frozen? ⟨w.heap.size + 1 + 1, 1, none⟩ = false := Rg.keepF hb (by simp <;> omega) (by go_cell); have z2 : w1.cell? ⟨w.heap.size + 1 + 1, 2, none⟩ = some (.int .i64 0) := Rg.keep hb (by simp <;> omega) (by go_cell); have f2 : w1.frozen? ⟨w.heap.size + 1 + 1, 2, none⟩ = false := Rg.keepF hb (by simp <;> omega) (by go_cell); have z3 : w1.cell? ⟨w.heap.size + 1 + 1, 3, none⟩ = some (.int .i64 0) := Rg.keep hb (by simp <;> omega) (by go_cell); have f3 : w1.frozen? ⟨w.heap.size + 1 + 1, 3, none⟩ = false := Rg.keepF hb (by simp <;> omega) (by go_cell); have z4 : w1.cell? ⟨w.heap.size + 1 + 1, 4, none⟩ = some (.int .i64 0) := Rg.keep hb (by simp <;> omega) (by go_cell); have f4 : w1.frozen? ⟨w.heap.size + 1 + 1, 4, none⟩ = false := Rg.keepF hb (by simp <;> omega) (by go_cell); have z5 : w1.cell? ⟨w.heap.size + 1 + 1, 5, none⟩ = some (.slice none 0 0) := Rg.keep hb (by simp <;> omega) (by go_cell); have f5 : w1.frozen? ⟨w.heap.size + 1 + 1, 5, none⟩ = false := Rg.keepF hb (by simp <;> omega) (by go_cell); have z6 : w1.cell? ⟨w.heap.size + 1 + 1, 6, none⟩ = some (.slice none 0 0) := Rg.keep hb (by simp <;> omega) (by go_cell); have f6 : w1.frozen? ⟨w.heap.size + 1 + 1, 6, none⟩ = false := Rg.keepF hb (by simp <;> omega) (by go_cell); have lr : w.heap.size + 1 + 1 < w1.heap.size := World.block_lt_of_cell? _ _ z0; clear hb) | (go_at_call 47; (with_reducible refine (SV.out _ (Lib.hid (SlI.keep KB.out RA.out))).mono ?_); rintro e w9 ⟨rfl, rfl⟩) | (go_at_call 48; (with_reducible refine (VA.out _).mono ?_); rintro e w2 ⟨rfl, hb⟩; have KB2 := Lib.hid (KB.out.trans (hb.mono KB.out.size)); replace c0 := Rg.keep hb (Nat.lt_trans (by omega) lr) c0; replace c1 := Rg.keep hb (Nat.lt_trans (by omega) lr) c1; replace c2 := Rg.keep hb (Nat.lt_trans (by omega) lr) c2; replace c3 := Rg.keep hb (Nat.lt_trans (by omega) lr) c3; replace c4 := Rg.keep hb (Nat.lt_trans (by omega) lr) c4; replace v0 := Rg.keep hb (Nat.lt_trans (by omega) lr) v0; replace v1 := Rg.keep hb (Nat.lt_trans (by omega) lr) v1; replace z0 := Rg.keep hb lr z0; replace f0 := Rg.keepF hb lr f0; replace z1 := Rg.keep hb lr z1; replace f1 := Rg.keepF hb lr f1; replace z2 := Rg.keep hb lr z2; replace f2 := Rg.keepF hb lr f2; replace z3 := Rg.keep hb lr z3; replace f3 := Rg.keepF hb lr f3; replace z4 := Rg.keep hb lr z4; replace f4 := Rg.keepF hb lr f4; replace z5 := Rg.keep hb lr z5; replace f5 := Rg.keepF hb lr f5; replace z6 := Rg.keep hb lr z6; replace f6 := Rg.keepF hb lr f6; have lr2 : w.heap.size + 1 + 1 < w2.heap.size := World.block_lt_of_cell? _ _ z0; clear hb))
 have HS : Hid (∀ u u' : World, (u.cell? ⟨w.heap.size, 0, none⟩ = some (.int .i64 K) /\ u.cell? ⟨w.heap.size, 1, none⟩ = some (.int .i64 B) /\ u.cell? ⟨w.heap.size, 2, none⟩ = some (.int .i64 F) /\ u.cell? ⟨w.heap.size, 3, none⟩ = some (.int .i64 R) /\ u.cell? ⟨w.heap.size, 4, none⟩ = some (.int .i64 O) /\ u.cell? ⟨w.heap.size + 1, 0, none⟩ = some (.int .i64 x) /\ u.cell? ⟨w.heap.size + 1, 1, none⟩ = some (.int .i64 y) /\ Below w2.heap.size w2 u) -> Below u.heap.size u u' -> (u'.cell? ⟨w.heap.size, 0, none⟩ = some (.int .i64 K) /\ u'.cell? ⟨w.heap.size, 1, none⟩ = some (.int .i64 B) /\ u'.cell? ⟨w.heap.size, 2, none⟩ = some (.int .i64 F) /\ u'.cell? ⟨w.heap.size, 3, none⟩ = some (.int .i64 R) /\ u'.cell? ⟨w.heap.size, 4, none⟩ = some (.int .i64 O) /\ u'.cell? ⟨w.heap.size + 1, 0, none⟩ = some (.int .i64 x) /\ u'.cell? ⟨w.heap.size + 1, 1, none⟩ = some (.int .i64 y) /\ Below w2.heap.size w2 u')) := Lib.hid (fun u u' h hb => ⟨Rg.keep hb (World.block_lt_of_cell? _ _ h.1) h.1, Rg.keep hb (World.block_lt_of_cell? _ _ h.2.1) h.2.1, Rg.keep hb (World.block_lt_of_cell? _ _ h.2.2.1) h.2.2.1, Rg.keep hb (World.block_lt_of_cell? _ _ h.2.2.2.1) h.2.2.2.1, Rg.keep hb (World.block_lt_of_cell? _ _ h.2.2.2.2.1) h.2.2.2.2.1, Rg.keep hb (World.block_lt_of_cell? _ _ h.2.2.2.2.2.1) h.2.2.2.2.2.1, Rg.keep hb (World.block_lt_of_cell? _ _ h.2.2.2.2.2.2.1) h.2.2.2.2.2.2.1, h.2.2.2.2.2.2.2.trans (hb.mono h.2.2.2.2.2.2.2.size)⟩)
 refine Rk.begin (S := fun wS => wS.cell? ⟨w.heap.size, 0, none⟩ = some (.int .i64 K) /\ wS.cell? ⟨w.heap.size, 1, none⟩ = some (.int .i64 B) /\ wS.cell? ⟨w.heap.size, 2, none⟩ = some (.int .i64 F) /\ wS.cell? ⟨w.heap.size, 3, none⟩ = some (.int .i64 R) /\ wS.cell? ⟨w.heap.size, 4, none⟩ = some (.int .i64 O) /\ wS.cell? ⟨w.heap.size + 1, 0, none⟩ = some (.int .i64 x) /\ wS.cell? ⟨w.heap.size + 1, 1, none⟩ = some (.int .i64 y) /\ Below w2.heap.size w2 wS) 9 (by kernel_rfl) ⟨c0, c1, c2, c3, c4, v0, v1, Below.drew (Below.refl _ _)⟩ (fun hHeld => ?_)
 refine SqR.l [9] 0 ?_
 refine SqR.p 1 ?_
 refine SqR.l [9] 3 ?_
 refine SqR.p 5 ?_
 refine Rk.two (i := 2) (j := 4) (by kernel_rfl) rfl rfl (fun KK hK => ?_) (fun KK hK => ?_)
 ·rw [if_pos (by kernel_rfl)]
  go_simp
  ((with_reducible refine (CD.out _ (Lib.hid (SlI.keep (KB2.out.trans ((hHeld.2.2.2.2.2.2.2).mono KB2.out.size)) RA.out))).mono ?_); rintro e u2 ⟨v2, rfl, hb2, O2⟩)
  obtain ⟨pd, cd, rfl⟩ := own_slice O2
  have hNew := HS.out _ _ hHeld hb2
  have hO := own_base O2 (hHeld.2.2.2.2.2.2.2).size
  first | (refine hK.out _ _ (fun _ => hNew) (fun _ => ?_)) | (refine hK.out _ _ hNew (fun _ => ?_)) | (go_wp2_with fail; refine hK.out _ _ hNew (fun _ => ?_))
  replace hHeld := hNew
  clear hNew hb2 O2
  clear hK KK
  refine Rk.two (i := 4) (j := 6) (by kernel_rfl) rfl rfl (fun KK hK => ?_) (fun KK hK => ?_)
  ·rw [if_pos (by kernel_rfl)]
   go_simp
   have hNew := HS.out _ _ hHeld ((Below.refl _ _).alloc (Nat.le_refl _) (Obj.cells #[Value.int .i64 x, Value.int .i64 y] 29))
   have hB := B2.new u2 29 (.int .i64 x) (.int .i64 y)
   replace hO := own_belowE hO ((Below.refl _ _).alloc (Nat.le_refl _) (Obj.cells #[Value.int .i64 x, Value.int .i64 y] 29))
   refine hK.out _ _ hNew (fun _ => ?_)
   replace hHeld := hNew
   clear hNew
   clear hK KK
   refine Rk.one (i := 6) (by kernel_rfl) rfl (fun KK hK => ?_)
   rw [if_pos (by kernel_rfl)]
   go_simp
   ((with_reducible refine (SZ.out _ (Lib.hid (SlI.keep (KB2.out.trans ((hHeld.2.2.2.2.2.2.2).mono KB2.out.size)) RA.out))).mono ?_); rintro e u9 ⟨rfl, rfl⟩)
   first | (refine hK.out _ _ (fun _ => hHeld) (fun hHeld => ?_)) | (refine hK.out _ _ hHeld (fun hHeld => ?_)) | (go_wp2_with fail; refine hK.out _ _ hHeld (fun hHeld => ?_))
   clear hK KK
   refine Rk.one (i := 7) (by kernel_rfl) rfl (fun KK hK => ?_)
   rw [if_pos (by kernel_rfl)]
   go_simp
   obtain ⟨⟨hb0, hb1⟩, -⟩ := hB
   ((with_reducible refine (RP.out _ _ hb0 hb1).mono ?_); rintro e u7 ⟨rfl, hb7, O7⟩)
   generalize hgq : (u2.alloc (Obj.cells #[Value.int .i64 x, Value.int .i64 y] 29)).heap.size = gq at O7 ⊢
   have hNew := HS.out _ _ hHeld hb7
   replace hO := own_belowE hO hb7
   have hV := own_base O7 (show w2.heap.size <= gq from hgq ▸ (hHeld.2.2.2.2.2.2.2).size)
   first | (refine hK.out _ _ (fun _ => hNew) (fun _ => ?_)) | (refine hK.out _ _ hNew (fun _ => ?_)) | (go_wp2_with fail; refine hK.out _ _ hNew (fun _ => ?_))
   replace hHeld := hNew
   clear hNew hb7 O7 hb0 hb1
   clear hK KK
   refine SqR.p 8 ?_
   refine Rk.tail [9, 10] [_, _] (by kernel_rfl) (by kernel_rfl) rfl (by decide) ?_
   obtain ⟨c0, c1, c2, c3, c4, v0, v1, K8⟩ := hHeld
   replace z0 := Rg.keep K8 lr2 z0
   replace z1 := Rg.keep K8 lr2 z1
   replace z2 := Rg.keep K8 lr2 z2
   replace z3 := Rg.keep K8 lr2 z3
   replace z4 := Rg.keep K8 lr2 z4
   replace z5 := Rg.keep K8 lr2 z5
   replace z6 := Rg.keep K8 lr2 z6
   replace f0 := Rg.keepF K8 lr2 f0
   replace f1 := Rg.keepF K8 lr2 f1
   replace f2 := Rg.keepF K8 lr2 f2
   replace f3 := Rg.keepF K8 lr2 f3
   replace f4 := Rg.keepF K8 lr2 f4
   replace f5 := Rg.keepF K8 lr2 f5
   replace f6 := Rg.keepF K8 lr2 f6
   have lr7 := Nat.lt_of_lt_of_le lr2 K8.size
   have KF := KB2.out.trans (K8.mono KB2.out.size)
   clear hgq
   go_wp2_with fail
   have SBB := (((((((KF).setCell (p := ⟨(w.heap.size + 1 + 1), 0, none⟩) (by dsimp only; omega) (.int .i64 K)).setCell (p := ⟨(w.heap.size + 1 + 1), 1, none⟩) (by dsimp only; omega) (.int .i64 B)).setCell (p := ⟨(w.heap.size + 1 + 1), 2, none⟩) (by dsimp only; omega) (.int .i64 F)).setCell (p := ⟨(w.heap.size + 1 + 1), 3, none⟩) (by dsimp only; omega) (.int .i64 R)).setCell (p := ⟨(w.heap.size + 1 + 1), 4, none⟩) (by dsimp only; omega) (.int .i64 O)).setCell (p := ⟨(w.heap.size + 1 + 1), 5, none⟩) (by dsimp only; omega) (.slice pd zs.length cd)).setCell (p := ⟨(w.heap.size + 1 + 1), 6, none⟩) (by dsimp only; omega) (.slice (some ⟨gq, 0, none⟩) N N)
   refine bodyPost_ret (v := .tuple #[Tn K B F R O pd zs.length cd (some ⟨gq, 0, none⟩) N N, .int .i64 0]) (by simp [results, Tryz.results18, go_sem, z0, f0, z1, f1, z2, f2, z3, f3, z4, f4, z5, f5, z6, f6, lr7, Tn]) rfl ⟨pd, cd, some ⟨gq, 0, none⟩, N, by rw [List.length_replicate], ?_, ?_, SBB⟩
   ·exact own_base (own_set (own_set (own_set (own_set (own_set (own_set (own_set hO (by dsimp only; omega)) (by dsimp only; omega)) (by dsimp only; omega)) (by dsimp only; omega)) (by dsimp only; omega)) (by dsimp only; omega)) (by dsimp only; omega)) (by omega)
   ·rw [List.length_replicate]; exact own_base (own_set (own_set (own_set (own_set (own_set (own_set (own_set hV (by dsimp only; omega)) (by dsimp only; omega)) (by dsimp only; omega)) (by dsimp only; omega)) (by dsimp only; omega)) (by dsimp only; omega)) (by dsimp only; omega)) (by omega)
  ·rw [if_pos (by kernel_rfl)]
   go_simp
   ((with_reducible refine (SZ.out _ (Lib.hid (SlI.keep (KB2.out.trans ((hHeld.2.2.2.2.2.2.2).mono KB2.out.size)) RA.out))).mono ?_); rintro e u9 ⟨rfl, rfl⟩)
   first | (refine hK.out _ _ (fun _ => hHeld) (fun hHeld => ?_)) | (refine hK.out _ _ hHeld (fun hHeld => ?_)) | (go_wp2_with fail; refine hK.out _ _ hHeld (fun hHeld => ?_))
   clear hK KK
   refine Rk.one (i := 4) (by kernel_rfl) rfl (fun KK hK => ?_)
   rw [if_pos (by kernel_rfl)]
   go_simp
   have hNew := HS.out _ _ hHeld ((Below.refl _ _).alloc (Nat.le_refl _) (Obj.cells #[Value.int .i64 x, Value.int .i64 y] 29))
   have hB := B2.new u2 29 (.int .i64 x) (.int .i64 y)
   replace hO := own_belowE hO ((Below.refl _ _).alloc (Nat.le_refl _) (Obj.cells #[Value.int .i64 x, Value.int .i64 y] 29))
   refine hK.out _ _ hNew (fun _ => ?_)
   replace hHeld := hNew
   clear hNew
   clear hK KK
   refine Rk.one (i := 7) (by kernel_rfl) rfl (fun KK hK => ?_)
   rw [if_pos (by kernel_rfl)]
   go_simp
   obtain ⟨⟨hb0, hb1⟩, -⟩ := hB
   ((with_reducible refine (RP.out _ _ hb0 hb1).mono ?_); rintro e u7 ⟨rfl, hb7, O7⟩)
   generalize hgq : (u2.alloc (Obj.cells #[Value.int .i64 x, Value.int .i64 y] 29)).heap.size = gq at O7 ⊢
   have hNew := HS.out _ _ hHeld hb7
   replace hO := own_belowE hO hb7
   have hV := own_base O7 (show w2.heap.size <= gq from hgq ▸ (hHeld.2.2.2.2.2.2.2).size)
   first | (refine hK.out _ _ (fun _ => hNew) (fun _ => ?_)) | (refine hK.out _ _ hNew (fun _ => ?_)) | (go_wp2_with fail; refine hK.out _ _ hNew (fun _ => ?_))
   replace hHeld := hNew
   clear hNew hb7 O7 hb0 hb1
   clear hK KK
   refine SqR.p 8 ?_
   refine Rk.tail [9, 10] [_, _] (by kernel_rfl) (by kernel_rfl) rfl (by decide) ?_
   obtain ⟨c0, c1, c2, c3, c4, v0, v1, K8⟩ := hHeld
   replace z0 := Rg.keep K8 lr2 z0
   replace z1 := Rg.keep K8 lr2 z1
   replace z2 := Rg.keep K8 lr2 z2
   replace z3 := Rg.keep K8 lr2 z3
   replace z4 := Rg.keep K8 lr2 z4
   replace z5 := Rg.keep K8 lr2 z5
   replace z6 := Rg.keep K8 lr2 z6
   replace f0 := Rg.keepF K8 lr2 f0
   replace f1 := Rg.keepF K8 lr2 f1
   replace f2 := Rg.keepF K8 lr2 f2
   replace f3 := Rg.keepF K8 lr2 f3
   replace f4 := Rg.keepF K8 lr2 f4
   replace f5 := Rg.keepF K8 lr2 f5
   replace f6 := Rg.keepF K8 lr2 f6
   have lr7 := Nat.lt_of_lt_of_le lr2 K8.size
   have KF := KB2.out.trans (K8.mono KB2.out.size)
   clear hgq
   go_wp2_with fail
   have SBB := (((((((KF).setCell (p := ⟨(w.heap.size + 1 + 1), 0, none⟩) (by dsimp only; omega) (.int .i64 K)).setCell (p := ⟨(w.heap.size + 1 + 1), 1, none⟩) (by dsimp only; omega) (.int .i64 B)).setCell (p := ⟨(w.heap.size + 1 + 1), 2, none⟩) (by dsimp only; omega) (.int .i64 F)).setCell (p := ⟨(w.heap.size + 1 + 1), 3, none⟩) (by dsimp only; omega) (.int .i64 R)).setCell (p := ⟨(w.heap.size + 1 + 1), 4, none⟩) (by dsimp only; omega) (.int .i64 O)).setCell (p := ⟨(w.heap.size + 1 + 1), 5, none⟩) (by dsimp only; omega) (.slice pd zs.length cd)).setCell (p := ⟨(w.heap.size + 1 + 1), 6, none⟩) (by dsimp only; omega) (.slice (some ⟨gq, 0, none⟩) N N)
   refine bodyPost_ret (v := .tuple #[Tn K B F R O pd zs.length cd (some ⟨gq, 0, none⟩) N N, .int .i64 0]) (by simp [results, Tryz.results18, go_sem, z0, f0, z1, f1, z2, f2, z3, f3, z4, f4, z5, f5, z6, f6, lr7, Tn]) rfl ⟨pd, cd, some ⟨gq, 0, none⟩, N, by rw [List.length_replicate], ?_, ?_, SBB⟩
   ·exact own_base (own_set (own_set (own_set (own_set (own_set (own_set (own_set hO (by dsimp only; omega)) (by dsimp only; omega)) (by dsimp only; omega)) (by dsimp only; omega)) (by dsimp only; omega)) (by dsimp only; omega)) (by dsimp only; omega)) (by omega)
   ·rw [List.length_replicate]; exact own_base (own_set (own_set (own_set (own_set (own_set (own_set (own_set hV (by dsimp only; omega)) (by dsimp only; omega)) (by dsimp only; omega)) (by dsimp only; omega)) (by dsimp only; omega)) (by dsimp only; omega)) (by dsimp only; omega)) (by omega)
 ·rw [if_pos (by kernel_rfl)]
  go_simp
  have hNew := HS.out _ _ hHeld ((Below.refl _ _).alloc (Nat.le_refl _) (Obj.cells #[Value.int .i64 x, Value.int .i64 y] 29))
  have hB : B2 (w2.alloc (Obj.cells #[Value.int .i64 x, Value.int .i64 y] 29)).drew w2.heap.size (.int .i64 x) (.int .i64 y) := B2.new w2 29 _ _
  refine hK.out _ _ hNew (fun _ => ?_)
  replace hHeld := hNew
  clear hNew
  replace hHeld : (w2.alloc (Obj.cells #[Value.int .i64 x, Value.int .i64 y] 29)).drew.cell? ⟨w.heap.size, 0, none⟩ = some (.int .i64 K) /\ (w2.alloc (Obj.cells #[Value.int .i64 x, Value.int .i64 y] 29)).drew.cell? ⟨w.heap.size, 1, none⟩ = some (.int .i64 B) /\ (w2.alloc (Obj.cells #[Value.int .i64 x, Value.int .i64 y] 29)).drew.cell? ⟨w.heap.size, 2, none⟩ = some (.int .i64 F) /\ (w2.alloc (Obj.cells #[Value.int .i64 x, Value.int .i64 y] 29)).drew.cell? ⟨w.heap.size, 3, none⟩ = some (.int .i64 R) /\ (w2.alloc (Obj.cells #[Value.int .i64 x, Value.int .i64 y] 29)).drew.cell? ⟨w.heap.size, 4, none⟩ = some (.int .i64 O) /\ (w2.alloc (Obj.cells #[Value.int .i64 x, Value.int .i64 y] 29)).drew.cell? ⟨w.heap.size + 1, 0, none⟩ = some (.int .i64 x) /\ (w2.alloc (Obj.cells #[Value.int .i64 x, Value.int .i64 y] 29)).drew.cell? ⟨w.heap.size + 1, 1, none⟩ = some (.int .i64 y) /\ Below w2.heap.size w2 (w2.alloc (Obj.cells #[Value.int .i64 x, Value.int .i64 y] 29)).drew := hHeld
  clear hK KK
  refine Rk.one (i := 2) (by kernel_rfl) rfl (fun KK hK => ?_)
  rw [if_pos (by kernel_rfl)]
  go_simp
  ((with_reducible refine (CD.out _ (Lib.hid (SlI.keep (KB2.out.trans ((hHeld.2.2.2.2.2.2.2).mono KB2.out.size)) RA.out))).mono ?_); rintro e u2 ⟨v2, rfl, hb2, O2⟩)
  obtain ⟨pd, cd, rfl⟩ := own_slice O2
  have hNew := HS.out _ _ hHeld hb2
  have hO := own_base O2 (hHeld.2.2.2.2.2.2.2).size
  replace hB := B2.keep hb2 hB.lt hB
  first | (refine hK.out _ _ (fun _ => hNew) (fun _ => ?_)) | (refine hK.out _ _ hNew (fun _ => ?_)) | (go_wp2_with fail; refine hK.out _ _ hNew (fun _ => ?_))
  replace hHeld := hNew
  clear hNew hb2 O2
  clear hK KK
  refine Rk.one (i := 6) (by kernel_rfl) rfl (fun KK hK => ?_)
  rw [if_pos (by kernel_rfl)]
  go_simp
  ((with_reducible refine (SZ.out _ (Lib.hid (SlI.keep (KB2.out.trans ((hHeld.2.2.2.2.2.2.2).mono KB2.out.size)) RA.out))).mono ?_); rintro e u9 ⟨rfl, rfl⟩)
  first | (refine hK.out _ _ (fun _ => hHeld) (fun hHeld => ?_)) | (refine hK.out _ _ hHeld (fun hHeld => ?_)) | (go_wp2_with fail; refine hK.out _ _ hHeld (fun hHeld => ?_))
  clear hK KK
  refine Rk.one (i := 7) (by kernel_rfl) rfl (fun KK hK => ?_)
  rw [if_pos (by kernel_rfl)]
  go_simp
  obtain ⟨⟨hb0, hb1⟩, -⟩ := hB
  ((with_reducible refine (RP.out _ _ hb0 hb1).mono ?_); rintro e u7 ⟨rfl, hb7, O7⟩)
  generalize hgq : u2.heap.size = gq at O7 ⊢
  have hNew := HS.out _ _ hHeld hb7
  replace hO := own_belowE hO hb7
  have hV := own_base O7 (show w2.heap.size <= gq from hgq ▸ (hHeld.2.2.2.2.2.2.2).size)
  first | (refine hK.out _ _ (fun _ => hNew) (fun _ => ?_)) | (refine hK.out _ _ hNew (fun _ => ?_)) | (go_wp2_with fail; refine hK.out _ _ hNew (fun _ => ?_))
  replace hHeld := hNew
  clear hNew hb7 O7 hb0 hb1
  clear hK KK
  refine SqR.p 8 ?_
  refine Rk.tail [9, 10] [_, _] (by kernel_rfl) (by kernel_rfl) rfl (by decide) ?_
  obtain ⟨c0, c1, c2, c3, c4, v0, v1, K8⟩ := hHeld
  replace z0 := Rg.keep K8 lr2 z0
  replace z1 := Rg.keep K8 lr2 z1
  replace z2 := Rg.keep K8 lr2 z2
  replace z3 := Rg.keep K8 lr2 z3
  replace z4 := Rg.keep K8 lr2 z4
  replace z5 := Rg.keep K8 lr2 z5
  replace z6 := Rg.keep K8 lr2 z6
  replace f0 := Rg.keepF K8 lr2 f0
  replace f1 := Rg.keepF K8 lr2 f1
  replace f2 := Rg.keepF K8 lr2 f2
  replace f3 := Rg.keepF K8 lr2 f3
  replace f4 := Rg.keepF K8 lr2 f4
  replace f5 := Rg.keepF K8 lr2 f5
  replace f6 := Rg.keepF K8 lr2 f6
  have lr7 := Nat.lt_of_lt_of_le lr2 K8.size
  have KF := KB2.out.trans (K8.mono KB2.out.size)
  clear hgq
  go_wp2_with fail
  have SBB := (((((((KF).setCell (p := ⟨(w.heap.size + 1 + 1), 0, none⟩) (by dsimp only; omega) (.int .i64 K)).setCell (p := ⟨(w.heap.size + 1 + 1), 1, none⟩) (by dsimp only; omega) (.int .i64 B)).setCell (p := ⟨(w.heap.size + 1 + 1), 2, none⟩) (by dsimp only; omega) (.int .i64 F)).setCell (p := ⟨(w.heap.size + 1 + 1), 3, none⟩) (by dsimp only; omega) (.int .i64 R)).setCell (p := ⟨(w.heap.size + 1 + 1), 4, none⟩) (by dsimp only; omega) (.int .i64 O)).setCell (p := ⟨(w.heap.size + 1 + 1), 5, none⟩) (by dsimp only; omega) (.slice pd zs.length cd)).setCell (p := ⟨(w.heap.size + 1 + 1), 6, none⟩) (by dsimp only; omega) (.slice (some ⟨gq, 0, none⟩) N N)
  refine bodyPost_ret (v := .tuple #[Tn K B F R O pd zs.length cd (some ⟨gq, 0, none⟩) N N, .int .i64 0]) (by simp [results, Tryz.results18, go_sem, z0, f0, z1, f1, z2, f2, z3, f3, z4, f4, z5, f5, z6, f6, lr7, Tn]) rfl ⟨pd, cd, some ⟨gq, 0, none⟩, N, by rw [List.length_replicate], ?_, ?_, SBB⟩
  ·exact own_base (own_set (own_set (own_set (own_set (own_set (own_set (own_set hO (by dsimp only; omega)) (by dsimp only; omega)) (by dsimp only; omega)) (by dsimp only; omega)) (by dsimp only; omega)) (by dsimp only; omega)) (by dsimp only; omega)) (by omega)
  ·rw [List.length_replicate]; exact own_base (own_set (own_set (own_set (own_set (own_set (own_set (own_set hV (by dsimp only; omega)) (by dsimp only; omega)) (by dsimp only; omega)) (by dsimp only; omega)) (by dsimp only; omega)) (by dsimp only; omega)) (by dsimp only; omega)) (by omega)
end Go.Proofs.YteaaikmejacpaaaGreatDoor.Te

namespace Go.Proofs.YteaaikmejacpaaaGreatDoor.Te
open Go.ChangeShapes Go.WideShapes Go.ChangeAt Go.RowKit
open Fx Va Sh
set_option maxRecDepth 8000
set_option linter.unusedVariables false
set_option linter.unusedSimpArgs false

/-- Full. -/
theorem tfull (K B F R O : Int) (p : Option Addr) (zs : List Int) (c : Nat) (x y : Int) (w : World) (b0 : -9223372036854775808 <= B) (b1 : B <= 9223372036854775807) (hn : zs.length <= maxLen) (RA : Hid (SlI w p zs)) :
  Calls Tryz.prog 18 #[T5 K B F R O, .slice p zs.length c, V2 x y] w (TOr (fuE K B F R O zs x y) K B F R O zs (List.replicate (sp zs).toNat (x, y)) w) := by
 unfold fuE
 cases ht : ty K B F R O
 ·rw [if_neg (by decide)]
  exact (fu_a K B F R O p zs c x y w b0 b1 hn RA ht).mono (fun _ _ h => .inl ⟨by decide, h⟩)
 ·rw [if_pos rfl]
  by_cases hv : vE zs = 0
  ·rw [if_neg (by simpa using hv)]
   cases hx : vv K B F R O x y
   ·rw [if_neg (by decide)]
    exact (fu_c K B F R O p zs c x y w b0 b1 hn RA ht hv hx).mono (fun _ _ h => .inl ⟨by decide, h⟩)
   ·rw [if_pos rfl]
    obtain ⟨-, -, -, hsp, h1s⟩ := valid_of hv
    have h1 := h1s 0
    rw [List.drop_zero] at h1
    exact (fu_d K B F R O p zs c x y w b0 b1 hn RA ht hv hx (sp zs).toNat (by omega)).mono (fun _ _ h => .inr ⟨rfl, h⟩)
  ·have hb : (vE zs != 0) = true := by simpa using hv
   rw [if_pos hb]
   exact (fu_b K B F R O p zs c x y w b0 b1 hn RA ht hb).mono (fun _ _ h => .inl ⟨hv, h⟩)

end Go.Proofs.YteaaikmejacpaaaGreatDoor.Te

namespace Go.Proofs.YteaaikmejacpaaaGreatDoor.Te
open Go.ChangeShapes Go.WideShapes Go.ChangeAt Go.RowKit
open Fx Va Sh
set_option maxRecDepth 8000
set_option linter.unusedVariables false
set_option linter.unusedSimpArgs false

set_option maxRecDepth 100000 in
set_option maxHeartbeats 2000000 in
theorem in_a (K B F R O : Int) (p : Option Addr) (zs : List Int) (c : Nat) (q : Option Addr) (vs : List (Int × Int)) (d : Nat) (a a' : Int) (x : Option Addr) (xs : List Int) (e : Nat) (w : World) (b0 : -9223372036854775808 <= B) (b1 : B <= 9223372036854775807) (hn : zs.length <= maxLen) (hm : vs.length <= maxLen) (hx : xs.length <= maxLen) (RA : Hid (SlI w p zs)) (RB : Hid (SlV w q vs)) (RX : Hid (SlI w x xs)) (hLA : Tx.LA w) (hs : (decide ((vs.length : Int) <= 500) && decide (zs.length <= 20)) = false) :
  Calls Tryz.prog 4 #[Tn K B F R O p zs.length c q vs.length d, .agg #[.int .i64 a, .int .i64 a'], .slice x xs.length e] w fun en w' => en = .returned (.bool true) /\ Below w.heap.size w w' := by
 have HLA := Lib.hid hLA
 have EX := Lib.hid fun u h => exam12 u h
 have SM0 := fun u => tsmall K B F R O p zs.length c q vs.length d 500 u
 rw [hs] at SM0
 have SM := Lib.hid SM0
 obtain ⟨m, hmm⟩ : ∃ m, vs.length = m := ⟨_, rfl⟩
 rw [hmm] at SM ⊢
 have KB : Hid (Below w.heap.size w ((w.alloc (Obj.cells #[Value.int .i64 K, Value.int .i64 B, Value.int .i64 F, Value.int .i64 R, Value.int .i64 O, Value.slice p zs.length c, Value.slice q m d] 27)).alloc (Obj.cells #[Value.int .i64 a, Value.int .i64 a'] 29))) := Lib.hid (((Below.refl _ _).alloc (Nat.le_refl _) _).alloc (by simp) _)
 have TB : Hid (B7 ((w.alloc (Obj.cells #[Value.int .i64 K, Value.int .i64 B, Value.int .i64 F, Value.int .i64 R, Value.int .i64 O, Value.slice p zs.length c, Value.slice q m d] 27)).alloc (Obj.cells #[Value.int .i64 a, Value.int .i64 a'] 29)) (w.heap.size) (.int .i64 K) (.int .i64 B) (.int .i64 F) (.int .i64 R) (.int .i64 O) (.slice p zs.length c) (.slice q m d)) := Lib.hid ((B7.new w _ (.int .i64 K) (.int .i64 B) (.int .i64 F) (.int .i64 R) (.int .i64 O) (.slice p zs.length c) (.slice q m d)).alloc _)
 have y0 : ((w.alloc (Obj.cells #[Value.int .i64 K, Value.int .i64 B, Value.int .i64 F, Value.int .i64 R, Value.int .i64 O, Value.slice p zs.length c, Value.slice q m d] 27)).alloc (Obj.cells #[Value.int .i64 a, Value.int .i64 a'] 29)).cell? ⟨w.heap.size + 1, 0, none⟩ = some (.int .i64 a) := by go_cell
 have y1 : ((w.alloc (Obj.cells #[Value.int .i64 K, Value.int .i64 B, Value.int .i64 F, Value.int .i64 R, Value.int .i64 O, Value.slice p zs.length c, Value.slice q m d] 27)).alloc (Obj.cells #[Value.int .i64 a, Value.int .i64 a'] 29)).cell? ⟨w.heap.size + 1, 1, none⟩ = some (.int .i64 a') := by go_cell
 clear hs SM0 hm hmm
 unfold Tn at *
 go_enter Tryz.func4, Tryz.ntmps4
 go_wp2_with (first | (go_at_call 14; (with_reducible refine (SM.out _).mono ?_); rintro e w1 ⟨rfl, hb⟩; have KN := KB.out.trans (hb.mono KB.out.size); have TN9 := B7.keep hb TB.out.lt TB.out; have yl := World.block_lt_of_cell? _ _ y0; have y0 := Rg.keep hb yl y0; have y1 := Rg.keep hb yl y1; have KB := Lib.hid KN; have TB := Lib.hid TN9; obtain ⟨⟨c0, c1, c2, c3, c4, c5, c6⟩, -⟩ := TB.out; have lt9 : w.heap.size < w1.heap.size := TB.out.lt; have ly9 : w.heap.size + 1 < w1.heap.size := World.block_lt_of_cell? _ _ y0; clear KN TN9 yl; clear hb) | (go_at_call 15; (with_reducible refine (EX.out _ (HLA.out.below KB.out)).mono ?_); rintro e wX ⟨rfl, hb⟩; have KX := Lib.hid (KB.out.trans (hb.mono KB.out.size)); clear hb))
 go_ret
 exact ⟨rfl, KX.out⟩

set_option maxRecDepth 100000 in
set_option maxHeartbeats 2000000 in
theorem in_b (K B F R O : Int) (p : Option Addr) (zs : List Int) (c : Nat) (q : Option Addr) (vs : List (Int × Int)) (d : Nat) (a a' : Int) (x : Option Addr) (xs : List Int) (e : Nat) (w : World) (b0 : -9223372036854775808 <= B) (b1 : B <= 9223372036854775807) (hn : zs.length <= maxLen) (hm : vs.length <= maxLen) (hx : xs.length <= maxLen) (RA : Hid (SlI w p zs)) (RB : Hid (SlV w q vs)) (RX : Hid (SlI w x xs)) (hLA : Tx.LA w) (hs : (decide ((vs.length : Int) <= 500) && decide (zs.length <= 20)) = true) (hl : 20 < xs.length) :
  Calls Tryz.prog 4 #[Tn K B F R O p zs.length c q vs.length d, .agg #[.int .i64 a, .int .i64 a'], .slice x xs.length e] w fun en w' => en = .returned (.bool true) /\ Below w.heap.size w w' := by
 have HLA := Lib.hid hLA
 have EX := Lib.hid fun u h => exam12 u h
 have SM0 := fun u => tsmall K B F R O p zs.length c q vs.length d 500 u
 rw [hs] at SM0
 have SM := Lib.hid SM0
 have g1 : decide ((20 : Int) < xs.length) = true := by simp; omega
 have g2 : decide (20 < xs.length) = true := by simpa using hl
 obtain ⟨m, hmm⟩ : ∃ m, vs.length = m := ⟨_, rfl⟩
 rw [hmm] at SM ⊢
 have KB : Hid (Below w.heap.size w ((w.alloc (Obj.cells #[Value.int .i64 K, Value.int .i64 B, Value.int .i64 F, Value.int .i64 R, Value.int .i64 O, Value.slice p zs.length c, Value.slice q m d] 27)).alloc (Obj.cells #[Value.int .i64 a, Value.int .i64 a'] 29))) := Lib.hid (((Below.refl _ _).alloc (Nat.le_refl _) _).alloc (by simp) _)
 have TB : Hid (B7 ((w.alloc (Obj.cells #[Value.int .i64 K, Value.int .i64 B, Value.int .i64 F, Value.int .i64 R, Value.int .i64 O, Value.slice p zs.length c, Value.slice q m d] 27)).alloc (Obj.cells #[Value.int .i64 a, Value.int .i64 a'] 29)) (w.heap.size) (.int .i64 K) (.int .i64 B) (.int .i64 F) (.int .i64 R) (.int .i64 O) (.slice p zs.length c) (.slice q m d)) := Lib.hid ((B7.new w _ (.int .i64 K) (.int .i64 B) (.int .i64 F) (.int .i64 R) (.int .i64 O) (.slice p zs.length c) (.slice q m d)).alloc _)
 have y0 : ((w.alloc (Obj.cells #[Value.int .i64 K, Value.int .i64 B, Value.int .i64 F, Value.int .i64 R, Value.int .i64 O, Value.slice p zs.length c, Value.slice q m d] 27)).alloc (Obj.cells #[Value.int .i64 a, Value.int .i64 a'] 29)).cell? ⟨w.heap.size + 1, 0, none⟩ = some (.int .i64 a) := by go_cell
 have y1 : ((w.alloc (Obj.cells #[Value.int .i64 K, Value.int .i64 B, Value.int .i64 F, Value.int .i64 R, Value.int .i64 O, Value.slice p zs.length c, Value.slice q m d] 27)).alloc (Obj.cells #[Value.int .i64 a, Value.int .i64 a'] 29)).cell? ⟨w.heap.size + 1, 1, none⟩ = some (.int .i64 a') := by go_cell
 clear hs SM0 hm hmm
 unfold Tn at *
 go_enter Tryz.func4, Tryz.ntmps4
 go_wp2_with (first | (go_at_call 14; (with_reducible refine (SM.out _).mono ?_); rintro e w1 ⟨rfl, hb⟩; have KN := KB.out.trans (hb.mono KB.out.size); have TN9 := B7.keep hb TB.out.lt TB.out; have yl := World.block_lt_of_cell? _ _ y0; have y0 := Rg.keep hb yl y0; have y1 := Rg.keep hb yl y1; have KB := Lib.hid KN; have TB := Lib.hid TN9; obtain ⟨⟨c0, c1, c2, c3, c4, c5, c6⟩, -⟩ := TB.out; have lt9 : w.heap.size < w1.heap.size := TB.out.lt; have ly9 : w.heap.size + 1 < w1.heap.size := World.block_lt_of_cell? _ _ y0; clear KN TN9 yl; clear hb) | (go_at_call 15; (with_reducible refine (EX.out _ (HLA.out.below KB.out)).mono ?_); rintro e wX ⟨rfl, hb⟩; have KX := Lib.hid (KB.out.trans (hb.mono KB.out.size)); clear hb))
 go_ret
 exact ⟨rfl, KX.out⟩

set_option maxRecDepth 100000 in
set_option maxHeartbeats 2000000 in
theorem in_c (K B F R O : Int) (p : Option Addr) (zs : List Int) (c : Nat) (q : Option Addr) (vs : List (Int × Int)) (d : Nat) (a a' : Int) (x : Option Addr) (xs : List Int) (e : Nat) (w : World) (b0 : -9223372036854775808 <= B) (b1 : B <= 9223372036854775807) (hn : zs.length <= maxLen) (hm : vs.length <= maxLen) (hx : xs.length <= maxLen) (RA : Hid (SlI w p zs)) (RB : Hid (SlV w q vs)) (RX : Hid (SlI w x xs)) (hLA : Tx.LA w) (hs : (decide ((vs.length : Int) <= 500) && decide (zs.length <= 20)) = true) (hl : ¬ 20 < xs.length) (ht : tE K B F R O zs vs ≠ 0) :
  Calls Tryz.prog 4 #[Tn K B F R O p zs.length c q vs.length d, .agg #[.int .i64 a, .int .i64 a'], .slice x xs.length e] w fun en w' => en = .returned (.bool true) /\ Below w.heap.size w w' := by
 have HLA := Lib.hid hLA
 have EX := Lib.hid fun u h => exam12 u h
 have SM0 := fun u => tsmall K B F R O p zs.length c q vs.length d 500 u
 rw [hs] at SM0
 have SM := Lib.hid SM0
 have RV0 := fun u h1 h2 => rval K B F R O p zs c q vs d u hn hm h1 h2
 obtain ⟨E, hE⟩ : ∃ E, tE K B F R O zs vs = E := ⟨_, rfl⟩
 rw [hE] at RV0 ht
 have g1 : decide ((20 : Int) < xs.length) = false := by simp; omega
 have g2 : decide (20 < xs.length) = false := by simpa using hl
 have g3 : (E == 0) = false := by simpa using ht
 have g4 : (E != 0) = true := by simpa using ht
 obtain ⟨m, hmm⟩ : ∃ m, vs.length = m := ⟨_, rfl⟩
 rw [hmm] at SM RV0 ⊢
 have RVV := Lib.hid RV0
 have KB : Hid (Below w.heap.size w ((w.alloc (Obj.cells #[Value.int .i64 K, Value.int .i64 B, Value.int .i64 F, Value.int .i64 R, Value.int .i64 O, Value.slice p zs.length c, Value.slice q m d] 27)).alloc (Obj.cells #[Value.int .i64 a, Value.int .i64 a'] 29))) := Lib.hid (((Below.refl _ _).alloc (Nat.le_refl _) _).alloc (by simp) _)
 have TB : Hid (B7 ((w.alloc (Obj.cells #[Value.int .i64 K, Value.int .i64 B, Value.int .i64 F, Value.int .i64 R, Value.int .i64 O, Value.slice p zs.length c, Value.slice q m d] 27)).alloc (Obj.cells #[Value.int .i64 a, Value.int .i64 a'] 29)) (w.heap.size) (.int .i64 K) (.int .i64 B) (.int .i64 F) (.int .i64 R) (.int .i64 O) (.slice p zs.length c) (.slice q m d)) := Lib.hid ((B7.new w _ (.int .i64 K) (.int .i64 B) (.int .i64 F) (.int .i64 R) (.int .i64 O) (.slice p zs.length c) (.slice q m d)).alloc _)
 have y0 : ((w.alloc (Obj.cells #[Value.int .i64 K, Value.int .i64 B, Value.int .i64 F, Value.int .i64 R, Value.int .i64 O, Value.slice p zs.length c, Value.slice q m d] 27)).alloc (Obj.cells #[Value.int .i64 a, Value.int .i64 a'] 29)).cell? ⟨w.heap.size + 1, 0, none⟩ = some (.int .i64 a) := by go_cell
 have y1 : ((w.alloc (Obj.cells #[Value.int .i64 K, Value.int .i64 B, Value.int .i64 F, Value.int .i64 R, Value.int .i64 O, Value.slice p zs.length c, Value.slice q m d] 27)).alloc (Obj.cells #[Value.int .i64 a, Value.int .i64 a'] 29)).cell? ⟨w.heap.size + 1, 1, none⟩ = some (.int .i64 a') := by go_cell
 clear hs SM0 hm hmm RV0 hE ht
 unfold Tn at *
 go_enter Tryz.func4, Tryz.ntmps4
 go_wp2_with (first | (go_at_call 14; (with_reducible refine (SM.out _).mono ?_); rintro e w1 ⟨rfl, hb⟩; have KN := KB.out.trans (hb.mono KB.out.size); have TN9 := B7.keep hb TB.out.lt TB.out; have yl := World.block_lt_of_cell? _ _ y0; have y0 := Rg.keep hb yl y0; have y1 := Rg.keep hb yl y1; have KB := Lib.hid KN; have TB := Lib.hid TN9; obtain ⟨⟨c0, c1, c2, c3, c4, c5, c6⟩, -⟩ := TB.out; have lt9 : w.heap.size < w1.heap.size := TB.out.lt; have ly9 : w.heap.size + 1 < w1.heap.size := World.block_lt_of_cell? _ _ y0; clear KN TN9 yl; clear hb) | (go_at_call 21; (with_reducible refine (RVV.out _ (Lib.hid (SlI.keep KB.out RA.out)) (Lib.hid (SlV.below RB.out KB.out))).mono ?_); rintro e w2 ⟨rfl, hb⟩; have KN := KB.out.trans (hb.mono KB.out.size); have TN9 := B7.keep hb TB.out.lt TB.out; have yl := World.block_lt_of_cell? _ _ y0; have y0 := Rg.keep hb yl y0; have y1 := Rg.keep hb yl y1; have KB := Lib.hid KN; have TB := Lib.hid TN9; obtain ⟨⟨c0, c1, c2, c3, c4, c5, c6⟩, -⟩ := TB.out; have lt9 : w.heap.size < w2.heap.size := TB.out.lt; have ly9 : w.heap.size + 1 < w2.heap.size := World.block_lt_of_cell? _ _ y0; clear KN TN9 yl; clear hb) | (go_at_call 15; (with_reducible refine (EX.out _ (HLA.out.below KB.out)).mono ?_); rintro e wX ⟨rfl, hb⟩; have KX := Lib.hid (KB.out.trans (hb.mono KB.out.size)); clear hb))
 go_ret
 exact ⟨rfl, KX.out⟩

end Go.Proofs.YteaaikmejacpaaaGreatDoor.Te

namespace Go.Proofs.YteaaikmejacpaaaGreatDoor.Te
open Go.ChangeShapes Go.WideShapes Go.ChangeAt Go.RowKit
open Fx Va Sh
set_option maxRecDepth 8000
set_option linter.unusedVariables false
set_option linter.unusedSimpArgs false

/-- A row of numbers whose block lies between two bounds; what it holds is not said. -/
def AnyI (u : World) (lo hi : Nat) (v : Value) (n : Nat) : Prop := (∃ zs : List Int, u.ownsRow lo 3 1 v n (zs.map (Value.int .i64)) /\ zs.length = n) /\ ∀ k, v.ownBlock = some k -> k < hi
/-- The same for a row of elements. -/
def AnyV (u : World) (lo hi : Nat) (v : Value) (n : Nat) : Prop := (∃ vs : List (Int × Int), u.ownsRow lo 29 2 v n (flV vs) /\ vs.length = n) /\ ∀ k, v.ownBlock = some k -> k < hi
theorem AnyI.below {u u' : World} {lo hi n : Nat} {v : Value} (h : AnyI u lo hi v n) (hb : Below u.heap.size u u') : AnyI u' lo hi v n := by
 obtain ⟨⟨zs, o, l⟩, hk⟩ := h
 exact ⟨⟨zs, own_belowE o hb, l⟩, hk⟩
theorem AnyV.below {u u' : World} {lo hi n : Nat} {v : Value} (h : AnyV u lo hi v n) (hb : Below u.heap.size u u') : AnyV u' lo hi v n := by
 obtain ⟨⟨zs, o, l⟩, hk⟩ := h
 exact ⟨⟨zs, own_belowE o hb, l⟩, hk⟩
/-- A store elsewhere leaves it. -/
theorem AnyI.far {u : World} {lo hi n g o : Nat} {v y : Value} (h : AnyI u lo hi v n) (hg : g < lo \/ hi <= g) : AnyI (u.setCell ⟨g, o, none⟩ y) lo hi v n := by
 obtain ⟨⟨zs, ow, l⟩, hk⟩ := h
 refine ⟨⟨zs, ?_, l⟩, hk⟩
 rcases hg with hg | hg
 ·exact own_set ow hg
 ·exact own_setP ow hk hg
theorem AnyV.far {u : World} {lo hi n g o : Nat} {v y : Value} (h : AnyV u lo hi v n) (hg : g < lo \/ hi <= g) : AnyV (u.setCell ⟨g, o, none⟩ y) lo hi v n := by
 obtain ⟨⟨zs, ow, l⟩, hk⟩ := h
 refine ⟨⟨zs, ?_, l⟩, hk⟩
 rcases hg with hg | hg
 ·exact own_set ow hg
 ·exact own_setP ow hk hg
/-- A store into the row itself. -/
theorem AnyI.put {u : World} {lo hi n c g j : Nat} {y : Int} (h : AnyI u lo hi (.slice (some ⟨g, 0, none⟩) n c) n) : AnyI (u.setCell ⟨g, j, none⟩ (.int .i64 y)) lo hi (.slice (some ⟨g, 0, none⟩) n c) n := by
 obtain ⟨⟨zs, ow, l⟩, hk⟩ := h
 refine ⟨⟨zs.set j y, ?_, by rw [List.length_set]; exact l⟩, hk⟩
 rw [List.map_set]
 exact (ow.stored j _).1
/-- What lies at a place of it. -/
theorem AnyI.at {u : World} {lo hi n c g j : Nat} (h : AnyI u lo hi (.slice (some ⟨g, 0, none⟩) n c) n) (hj : j < n) : (∃ z : Int, u.cell? ⟨g, j, none⟩ = some (.int .i64 z)) /\ u.frozen? ⟨g, j, none⟩ = false := by
 obtain ⟨⟨zs, ow, l⟩, hk⟩ := h
 refine ⟨⟨zs.getD j 0, ?_⟩, ow.frozenAt j⟩
 rw [ow.cellAt j (by omega), List.getElem?_map, List.getElem?_eq_getElem (by omega), getD_at (by omega)]
 rfl
theorem AnyV.at {u : World} {lo hi n c g j : Nat} (h : AnyV u lo hi (.slice (some ⟨g, 0, none⟩) n c) n) (hj : j < n) : (∃ z : Int, u.cell? ⟨g, j * 2, none⟩ = some (.int .i64 z)) /\ u.frozen? ⟨g, j * 2, none⟩ = false := by
 obtain ⟨⟨vs, ow, l⟩, hk⟩ := h
 obtain ⟨v0, -⟩ := flV_get vs j (by omega)
 exact ⟨⟨_, (ow.cellAt (j * 2) (by omega)).trans v0⟩, ow.frozenAt (j * 2)⟩
theorem flV_set0 : ∀ (vs : List (Int × Int)) (j : Nat) (y : Int), j < vs.length -> (flV vs).set (j * 2) (.int .i64 y) = flV (vs.set j (y, (vs.getD j (0, 0)).2))
 | [], j, y, h => absurd h (by simp)
 | v :: r, 0, y, _ => rfl
 | v :: r, j + 1, y, h => by
  have e : flV (v :: r) = .int .i64 v.1 :: .int .i64 v.2 :: flV r := rfl
  rw [e, show (j + 1) * 2 = j * 2 + 2 by omega, List.set_cons_succ, List.set_cons_succ, flV_set0 r j y (by simpa using h)]
  rfl
theorem AnyV.put {u : World} {lo hi n c g j : Nat} {y : Int} (h : AnyV u lo hi (.slice (some ⟨g, 0, none⟩) n c) n) (hj : j < n) : AnyV (u.setCell ⟨g, j * 2, none⟩ (.int .i64 y)) lo hi (.slice (some ⟨g, 0, none⟩) n c) n := by
 obtain ⟨⟨vs, ow, l⟩, hk⟩ := h
 refine ⟨⟨vs.set j (y, (vs.getD j (0, 0)).2), ?_, by rw [List.length_set]; exact l⟩, hk⟩
 rw [<- flV_set0 vs j y (by omega)]
 exact (ow.stored (j * 2) _).1
end Go.Proofs.YteaaikmejacpaaaGreatDoor.Te

namespace Go.Proofs.YteaaikmejacpaaaGreatDoor.Te
open Go.ChangeShapes Go.WideShapes Go.ChangeAt Go.RowKit
open Fx Va Sh
set_option maxRecDepth 8000
set_option linter.unusedVariables false
set_option linter.unusedSimpArgs false

/-- A row of numbers of the call's own; what it holds is not said. -/
def RI (u : World) (v : Value) (n : Nat) : Prop := ∃ (lo : Nat) (zs : List Int), zs.length = n /\ u.ownsRow lo 3 1 v n (zs.map (Value.int .i64))
/-- The same for a row of elements. -/
def RV (u : World) (v : Value) (n : Nat) : Prop := ∃ (lo : Nat) (vs : List (Int × Int)), vs.length = n /\ u.ownsRow lo 29 2 v n (flV vs)
theorem own_setN {u : World} {base : Nat} {E : TypeId} {sz n : Nat} {v : Value} {xs : List Value} (h : u.ownsRow base E sz v n xs) {g o : Nat} {y : Value} (hg : v.ownBlock ≠ some g) : (u.setCell ⟨g, o, none⟩ y).ownsRow base E sz v n xs := h.kept grown_set (.inr hg)
theorem RI.far {u : World} {v : Value} {n g o : Nat} {y : Value} (h : RI u v n) (hg : v.ownBlock ≠ some g) : RI (u.setCell ⟨g, o, none⟩ y) v n := by
 obtain ⟨lo, zs, l, ow⟩ := h
 exact ⟨lo, zs, l, own_setN ow hg⟩
theorem RV.far {u : World} {v : Value} {n g o : Nat} {y : Value} (h : RV u v n) (hg : v.ownBlock ≠ some g) : RV (u.setCell ⟨g, o, none⟩ y) v n := by
 obtain ⟨lo, zs, l, ow⟩ := h
 exact ⟨lo, zs, l, own_setN ow hg⟩
theorem RI.put {u : World} {n c g j : Nat} {y : Int} (h : RI u (.slice (some ⟨g, 0, none⟩) n c) n) : RI (u.setCell ⟨g, j, none⟩ (.int .i64 y)) (.slice (some ⟨g, 0, none⟩) n c) n := by
 obtain ⟨lo, zs, l, ow⟩ := h
 refine ⟨lo, zs.set j y, by rw [List.length_set]; exact l, ?_⟩
 rw [List.map_set]
 exact (ow.stored j _).1
theorem RV.put {u : World} {n c g j : Nat} {y : Int} (hj : j < n) (h : RV u (.slice (some ⟨g, 0, none⟩) n c) n) : RV (u.setCell ⟨g, j * 2, none⟩ (.int .i64 y)) (.slice (some ⟨g, 0, none⟩) n c) n := by
 obtain ⟨lo, vs, l, ow⟩ := h
 refine ⟨lo, vs.set j (y, (vs.getD j (0, 0)).2), by rw [List.length_set]; exact l, ?_⟩
 rw [<- flV_set0 vs j y (by omega)]
 exact (ow.stored (j * 2) _).1
theorem RI.at {u : World} {n c j : Nat} {p : Option Addr} (h : RI u (.slice p n c) n) (hj : j < n) : ∃ g, p = some ⟨g, 0, none⟩ /\ g < u.heap.size /\ (∃ z : Int, u.cell? ⟨g, j, none⟩ = some (.int .i64 z)) /\ u.frozen? ⟨g, j, none⟩ = false := by
 obtain ⟨lo, zs, l, ow⟩ := h
 rcases ow.2 with ⟨h0, hn⟩ | ⟨g, cap, cur, h0, -⟩
 ·omega
 ·cases h0
  refine ⟨g, rfl, (ow.lt g rfl).2, ⟨zs.getD j 0, ?_⟩, ow.frozenAt j⟩
  rw [ow.cellAt j (by omega), List.getElem?_map, List.getElem?_eq_getElem (by omega), getD_at (by omega)]
  rfl
theorem RV.at {u : World} {n c j : Nat} {p : Option Addr} (h : RV u (.slice p n c) n) (hj : j < n) : ∃ g, p = some ⟨g, 0, none⟩ /\ g < u.heap.size /\ (∃ z : Int, u.cell? ⟨g, j * 2, none⟩ = some (.int .i64 z)) /\ u.frozen? ⟨g, j * 2, none⟩ = false := by
 obtain ⟨lo, vs, l, ow⟩ := h
 rcases ow.2 with ⟨h0, hn⟩ | ⟨g, cap, cur, h0, -⟩
 ·omega
 ·cases h0
  obtain ⟨v0, -⟩ := flV_get vs j (by omega)
  exact ⟨g, rfl, (ow.lt g rfl).2, ⟨_, (ow.cellAt (j * 2) (by omega)).trans v0⟩, ow.frozenAt (j * 2)⟩
/-- All that the statement on Independence keeps while it changes rows. -/
def BN (w : World) (gt ga gb gc : Nat) (t0 t1 t2 t3 t4 t5 t6 a0 a1 a2 a3 a4 a5 a6 b0 b1 b2 b3 b4 b5 b6 c0 c1 c2 c3 c4 c5 c6 : Value) (la n m : Nat) (Z F : List Value) (d v : Value) (nd mv nb mc nc : Nat) (u : World) : Prop := Below w.heap.size w u /\ B7 u gt t0 t1 t2 t3 t4 t5 t6 /\ B7 u ga a0 a1 a2 a3 a4 a5 a6 /\ B7 u gb b0 b1 b2 b3 b4 b5 b6 /\ B7 u gc c0 c1 c2 c3 c4 c5 c6 /\ u.ownsRow la 3 1 a5 n Z /\ u.ownsRow la 29 2 a6 m F /\ RI u d nd /\ RV u v mv /\ RI u b5 nb /\ RV u c6 mc /\ RI u c5 nc
/-- A block apart from all that must stay. -/
def SP (w : World) (gt ga gb gc : Nat) (others : List Value) (v : Value) : Prop := ∀ g, v.ownBlock = some g -> w.heap.size <= g /\ g ≠ gt /\ g ≠ ga /\ g ≠ gb /\ g ≠ gc /\ ∀ r ∈ others, r.ownBlock ≠ some g
theorem BN.sto {w : World} {gt ga gb gc : Nat} {t0 t1 t2 t3 t4 t5 t6 a0 a1 a2 a3 a4 a5 a6 b0 b1 b2 b3 b4 b5 b6 c0 c1 c2 c3 c4 c5 c6 : Value} {la n m : Nat} {Z F : List Value} {d v : Value} {nd mv nb mc nc : Nat} {u : World} (h : BN w gt ga gb gc t0 t1 t2 t3 t4 t5 t6 a0 a1 a2 a3 a4 a5 a6 b0 b1 b2 b3 b4 b5 b6 c0 c1 c2 c3 c4 c5 c6 la n m Z F d v nd mv nb mc nc u) {g o : Nat} {y : Value} (h1 : w.heap.size <= g) (h2 : g ≠ gt) (h3 : g ≠ ga) (h4 : g ≠ gb) (h5 : g ≠ gc) (h6 : a5.ownBlock ≠ some g) (h7 : a6.ownBlock ≠ some g)
  (k1 : RI u d nd -> RI (u.setCell ⟨g, o, none⟩ y) d nd) (k2 : RV u v mv -> RV (u.setCell ⟨g, o, none⟩ y) v mv) (k3 : RI u b5 nb -> RI (u.setCell ⟨g, o, none⟩ y) b5 nb) (k4 : RV u c6 mc -> RV (u.setCell ⟨g, o, none⟩ y) c6 mc) (k5 : RI u c5 nc -> RI (u.setCell ⟨g, o, none⟩ y) c5 nc) : BN w gt ga gb gc t0 t1 t2 t3 t4 t5 t6 a0 a1 a2 a3 a4 a5 a6 b0 b1 b2 b3 b4 b5 b6 c0 c1 c2 c3 c4 c5 c6 la n m Z F d v nd mv nb mc nc (u.setCell ⟨g, o, none⟩ y) := by
 obtain ⟨q1, q2, q3, q4, q5, q6, q7, r1, r2, r3, r4, r5⟩ := h
 exact ⟨q1.setCell h1 _, B7.far h2 q2, B7.far h3 q3, B7.far h4 q4, B7.far h5 q5, own_setN q6 h6, own_setN q7 h7, k1 r1, k2 r2, k3 r3, k4 r4, k5 r5⟩
theorem BN.putD {w : World} {gt ga gb gc : Nat} {t0 t1 t2 t3 t4 t5 t6 a0 a1 a2 a3 a4 a5 a6 b0 b1 b2 b3 b4 b5 b6 c0 c1 c2 c3 c4 c5 c6 : Value} {la n m : Nat} {Z F : List Value} {d v : Value} {nd mv nb mc nc : Nat} {u : World} (h : BN w gt ga gb gc t0 t1 t2 t3 t4 t5 t6 a0 a1 a2 a3 a4 a5 a6 b0 b1 b2 b3 b4 b5 b6 c0 c1 c2 c3 c4 c5 c6 la n m Z F d v nd mv nb mc nc u) (hsp : SP w gt ga gb gc [a5, a6, v, b5, c6, c5] d) {g j k : Nat} {y : Int} (hv : d = .slice (some ⟨g, 0, none⟩) nd k) (hj : j < nd) : BN w gt ga gb gc t0 t1 t2 t3 t4 t5 t6 a0 a1 a2 a3 a4 a5 a6 b0 b1 b2 b3 b4 b5 b6 c0 c1 c2 c3 c4 c5 c6 la n m Z F d v nd mv nb mc nc (u.setCell ⟨g, j, none⟩ (.int .i64 y)) := by
 obtain ⟨h1, h2, h3, h4, h5, hs⟩ := hsp g (by rw [hv]; rfl)
 exact h.sto h1 h2 h3 h4 h5 (hs a5 (by simp)) (hs a6 (by simp)) (fun h => by subst hv; exact h.put) (fun h => h.far (hs v (by simp))) (fun h => h.far (hs b5 (by simp))) (fun h => h.far (hs c6 (by simp))) (fun h => h.far (hs c5 (by simp)))
theorem BN.putV {w : World} {gt ga gb gc : Nat} {t0 t1 t2 t3 t4 t5 t6 a0 a1 a2 a3 a4 a5 a6 b0 b1 b2 b3 b4 b5 b6 c0 c1 c2 c3 c4 c5 c6 : Value} {la n m : Nat} {Z F : List Value} {d v : Value} {nd mv nb mc nc : Nat} {u : World} (h : BN w gt ga gb gc t0 t1 t2 t3 t4 t5 t6 a0 a1 a2 a3 a4 a5 a6 b0 b1 b2 b3 b4 b5 b6 c0 c1 c2 c3 c4 c5 c6 la n m Z F d v nd mv nb mc nc u) (hsp : SP w gt ga gb gc [a5, a6, d, b5, c6, c5] v) {g j k : Nat} {y : Int} (hv : v = .slice (some ⟨g, 0, none⟩) mv k) (hj : j < mv) : BN w gt ga gb gc t0 t1 t2 t3 t4 t5 t6 a0 a1 a2 a3 a4 a5 a6 b0 b1 b2 b3 b4 b5 b6 c0 c1 c2 c3 c4 c5 c6 la n m Z F d v nd mv nb mc nc (u.setCell ⟨g, j * 2, none⟩ (.int .i64 y)) := by
 obtain ⟨h1, h2, h3, h4, h5, hs⟩ := hsp g (by rw [hv]; rfl)
 exact h.sto h1 h2 h3 h4 h5 (hs a5 (by simp)) (hs a6 (by simp)) (fun h => h.far (hs d (by simp))) (fun h => by subst hv; exact h.put hj) (fun h => h.far (hs b5 (by simp))) (fun h => h.far (hs c6 (by simp))) (fun h => h.far (hs c5 (by simp)))
theorem BN.putB {w : World} {gt ga gb gc : Nat} {t0 t1 t2 t3 t4 t5 t6 a0 a1 a2 a3 a4 a5 a6 b0 b1 b2 b3 b4 b5 b6 c0 c1 c2 c3 c4 c5 c6 : Value} {la n m : Nat} {Z F : List Value} {d v : Value} {nd mv nb mc nc : Nat} {u : World} (h : BN w gt ga gb gc t0 t1 t2 t3 t4 t5 t6 a0 a1 a2 a3 a4 a5 a6 b0 b1 b2 b3 b4 b5 b6 c0 c1 c2 c3 c4 c5 c6 la n m Z F d v nd mv nb mc nc u) (hsp : SP w gt ga gb gc [a5, a6, d, v, c6, c5] b5) {g j k : Nat} {y : Int} (hv : b5 = .slice (some ⟨g, 0, none⟩) nb k) (hj : j < nb) : BN w gt ga gb gc t0 t1 t2 t3 t4 t5 t6 a0 a1 a2 a3 a4 a5 a6 b0 b1 b2 b3 b4 b5 b6 c0 c1 c2 c3 c4 c5 c6 la n m Z F d v nd mv nb mc nc (u.setCell ⟨g, j, none⟩ (.int .i64 y)) := by
 obtain ⟨h1, h2, h3, h4, h5, hs⟩ := hsp g (by rw [hv]; rfl)
 exact h.sto h1 h2 h3 h4 h5 (hs a5 (by simp)) (hs a6 (by simp)) (fun h => h.far (hs d (by simp))) (fun h => h.far (hs v (by simp))) (fun h => by subst hv; exact h.put) (fun h => h.far (hs c6 (by simp))) (fun h => h.far (hs c5 (by simp)))
theorem BN.putE {w : World} {gt ga gb gc : Nat} {t0 t1 t2 t3 t4 t5 t6 a0 a1 a2 a3 a4 a5 a6 b0 b1 b2 b3 b4 b5 b6 c0 c1 c2 c3 c4 c5 c6 : Value} {la n m : Nat} {Z F : List Value} {d v : Value} {nd mv nb mc nc : Nat} {u : World} (h : BN w gt ga gb gc t0 t1 t2 t3 t4 t5 t6 a0 a1 a2 a3 a4 a5 a6 b0 b1 b2 b3 b4 b5 b6 c0 c1 c2 c3 c4 c5 c6 la n m Z F d v nd mv nb mc nc u) (hsp : SP w gt ga gb gc [a5, a6, d, v, b5, c5] c6) {g j k : Nat} {y : Int} (hv : c6 = .slice (some ⟨g, 0, none⟩) mc k) (hj : j < mc) : BN w gt ga gb gc t0 t1 t2 t3 t4 t5 t6 a0 a1 a2 a3 a4 a5 a6 b0 b1 b2 b3 b4 b5 b6 c0 c1 c2 c3 c4 c5 c6 la n m Z F d v nd mv nb mc nc (u.setCell ⟨g, j * 2, none⟩ (.int .i64 y)) := by
 obtain ⟨h1, h2, h3, h4, h5, hs⟩ := hsp g (by rw [hv]; rfl)
 exact h.sto h1 h2 h3 h4 h5 (hs a5 (by simp)) (hs a6 (by simp)) (fun h => h.far (hs d (by simp))) (fun h => h.far (hs v (by simp))) (fun h => h.far (hs b5 (by simp))) (fun h => by subst hv; exact h.put hj) (fun h => h.far (hs c5 (by simp)))
theorem BN.putC {w : World} {gt ga gb gc : Nat} {t0 t1 t2 t3 t4 t5 t6 a0 a1 a2 a3 a4 a5 a6 b0 b1 b2 b3 b4 b5 b6 c0 c1 c2 c3 c4 c5 c6 : Value} {la n m : Nat} {Z F : List Value} {d v : Value} {nd mv nb mc nc : Nat} {u : World} (h : BN w gt ga gb gc t0 t1 t2 t3 t4 t5 t6 a0 a1 a2 a3 a4 a5 a6 b0 b1 b2 b3 b4 b5 b6 c0 c1 c2 c3 c4 c5 c6 la n m Z F d v nd mv nb mc nc u) (hsp : SP w gt ga gb gc [a5, a6, d, v, b5, c6] c5) {g j k : Nat} {y : Int} (hv : c5 = .slice (some ⟨g, 0, none⟩) nc k) (hj : j < nc) : BN w gt ga gb gc t0 t1 t2 t3 t4 t5 t6 a0 a1 a2 a3 a4 a5 a6 b0 b1 b2 b3 b4 b5 b6 c0 c1 c2 c3 c4 c5 c6 la n m Z F d v nd mv nb mc nc (u.setCell ⟨g, j, none⟩ (.int .i64 y)) := by
 obtain ⟨h1, h2, h3, h4, h5, hs⟩ := hsp g (by rw [hv]; rfl)
 exact h.sto h1 h2 h3 h4 h5 (hs a5 (by simp)) (hs a6 (by simp)) (fun h => h.far (hs d (by simp))) (fun h => h.far (hs v (by simp))) (fun h => h.far (hs b5 (by simp))) (fun h => h.far (hs c6 (by simp))) (fun h => by subst hv; exact h.put)
end Go.Proofs.YteaaikmejacpaaaGreatDoor.Te

namespace Go.Proofs.YteaaikmejacpaaaGreatDoor.Te
open Go.ChangeShapes Go.WideShapes Go.ChangeAt Go.RowKit
open Fx Va Sh
set_option maxRecDepth 8000
set_option linter.unusedVariables false
set_option linter.unusedSimpArgs false

/-- A tensor as an answer, whatever it is: two rows of the call's own. -/
def TAny (w : World) (e : Ending) (w' : World) : Prop := ∃ (k0 k1 k2 k3 k4 : Int) (p : Option Addr) (c : Nat) (q : Option Addr) (d n m : Nat) (er : Int) (zs : List Int) (vs : List (Int × Int)), e = .returned (.tuple #[.agg #[.int .i64 k0, .int .i64 k1, .int .i64 k2, .int .i64 k3, .int .i64 k4, .slice p n c, .slice q m d], .int .i64 er]) /\ (zs.length = n /\ vs.length = m /\ n <= 500 /\ m <= 500) /\ w'.ownsRow w.heap.size 3 1 (.slice p n c) n (zs.map (Value.int .i64)) /\ w'.ownsRow w.heap.size 29 2 (.slice q m d) m (flV vs) /\ Below w.heap.size w w'
theorem TRes.any {K B F R O : Int} {zs : List Int} {vs : List (Int × Int)} {er : Int} {w w' : World} {e : Ending} (h : TRes K B F R O zs vs er w e w') (hn : zs.length <= 500) (hm : vs.length <= 500) : TAny w e w' := by
 obtain ⟨p, c, q, d, rfl, h1, h2, hb⟩ := h
 exact ⟨K, B, F, R, O, p, c, q, d, _, _, er, zs, vs, rfl, ⟨rfl, rfl, hn, hm⟩, h1, h2, hb⟩
/-- The tensor as it was given, in rows of the call's own. -/
def TSame (K B F R O : Int) (n m : Nat) (zs : List Int) (vs : List (Int × Int)) (w : World) (e : Ending) (w' : World) : Prop := ∃ p c q d, e = .returned (.tuple #[.agg #[.int .i64 K, .int .i64 B, .int .i64 F, .int .i64 R, .int .i64 O, .slice p n c, .slice q m d], .int .i64 0]) /\ w'.ownsRow w.heap.size 3 1 (.slice p n c) n (zs.map (Value.int .i64)) /\ w'.ownsRow w.heap.size 29 2 (.slice q m d) m (flV vs) /\ Below w.heap.size w w'
theorem TRes.same {K B F R O : Int} {n m : Nat} {zs : List Int} {vs : List (Int × Int)} {w w' : World} {e : Ending} (h : TRes K B F R O zs vs 0 w e w') (hn : zs.length = n) (hm : vs.length = m) : TSame K B F R O n m zs vs w e w' := by
 subst hn hm
 exact h
theorem own_set7N {u : World} {base : Nat} {E : TypeId} {sz n r : Nat} {v : Value} {xs : List Value} {x0 x1 x2 x3 x4 x5 x6 : Value} (h : u.ownsRow base E sz v n xs) (hr : v.ownBlock ≠ some r) : (((((((u.setCell ⟨r, 0, none⟩ x0).setCell ⟨r, 1, none⟩ x1).setCell ⟨r, 2, none⟩ x2).setCell ⟨r, 3, none⟩ x3).setCell ⟨r, 4, none⟩ x4).setCell ⟨r, 5, none⟩ x5).setCell ⟨r, 6, none⟩ x6).ownsRow base E sz v n xs :=
 own_setN (own_setN (own_setN (own_setN (own_setN (own_setN (own_setN h hr) hr) hr) hr) hr) hr) hr
theorem own_lo {u : World} {B : Nat} {E : TypeId} {sz n : Nat} {v : Value} {xs : List Value} (h : u.ownsRow B E sz v n xs) : ∀ k, v.ownBlock = some k -> B <= k /\ k < u.heap.size := fun k e => h.lt k e
theorem blk_ne {v : Value} {A Z g : Nat} (h : ∀ k, v.ownBlock = some k -> A <= k /\ k < Z) (hg : g < A \/ Z <= g) : v.ownBlock ≠ some g := fun e => by have := h g e; omega

theorem sp_all {w : World} {n2 n3 n4 n5 nx n7 gt gb : Nat} {D V A1 A2 B1 E1 C1 : Value} (hD : ∀ k, D.ownBlock = some k -> n2 <= k /\ k < n3) (hV : ∀ k, V.ownBlock = some k -> n3 <= k /\ k < n4) (hA1 : ∀ k, A1.ownBlock = some k -> n4 <= k /\ k < n5) (hA2 : ∀ k, A2.ownBlock = some k -> n4 <= k /\ k < n5) (hB : ∀ k, B1.ownBlock = some k -> n5 < k /\ k < nx) (hBg : B1.ownBlock ≠ some gb) (hE : ∀ k, E1.ownBlock = some k -> nx <= k /\ k < n7) (hC : ∀ k, C1.ownBlock = some k -> nx <= k /\ k < n7) (hCE : C1.ownBlock = none \/ C1.ownBlock ≠ E1.ownBlock)
  (l0 : w.heap.size <= gt) (l1 : gt < n2) (l2 : n2 <= n3) (l3 : n3 <= n4) (l4 : n4 <= n5) (l5 : n5 < gb) (l6 : gb < nx) (l7 : nx <= n7) :
  SP w gt n5 gb n7 [A1, A2, V, B1, E1, C1] D /\ SP w gt n5 gb n7 [A1, A2, D, B1, E1, C1] V /\ SP w gt n5 gb n7 [A1, A2, D, V, E1, C1] B1 /\ SP w gt n5 gb n7 [A1, A2, D, V, B1, C1] E1 /\ SP w gt n5 gb n7 [A1, A2, D, V, B1, E1] C1 := by
 have nD : ∀ g, (g < n2 \/ n3 <= g) -> D.ownBlock ≠ some g := fun g h => blk_ne hD h
 have nV : ∀ g, (g < n3 \/ n4 <= g) -> V.ownBlock ≠ some g := fun g h => blk_ne hV h
 have n1 : ∀ g, (g < n4 \/ n5 <= g) -> A1.ownBlock ≠ some g := fun g h => blk_ne hA1 h
 have n2' : ∀ g, (g < n4 \/ n5 <= g) -> A2.ownBlock ≠ some g := fun g h => blk_ne hA2 h
 have nB : ∀ g, (g < n5 + 1 \/ nx <= g) -> B1.ownBlock ≠ some g := fun g h => blk_ne (A := n5 + 1) (Z := nx) (fun k e => by have := hB k e; omega) h
 have nE : ∀ g, (g < nx \/ n7 <= g) -> E1.ownBlock ≠ some g := fun g h => blk_ne hE h
 have nC : ∀ g, (g < nx \/ n7 <= g) -> C1.ownBlock ≠ some g := fun g h => blk_ne hC h
 refine ⟨fun g e => ?_, fun g e => ?_, fun g e => ?_, fun g e => ?_, fun g e => ?_⟩
 ·have h := hD g e
  refine ⟨by omega, by omega, by omega, by omega, by omega, fun r hr => ?_⟩
  simp only [List.mem_cons, List.not_mem_nil, or_false] at hr
  rcases hr with rfl | rfl | rfl | rfl | rfl | rfl
  ·exact n1 g (by omega)
  ·exact n2' g (by omega)
  ·exact nV g (by omega)
  ·exact nB g (by omega)
  ·exact nE g (by omega)
  ·exact nC g (by omega)
 ·have h := hV g e
  refine ⟨by omega, by omega, by omega, by omega, by omega, fun r hr => ?_⟩
  simp only [List.mem_cons, List.not_mem_nil, or_false] at hr
  rcases hr with rfl | rfl | rfl | rfl | rfl | rfl
  ·exact n1 g (by omega)
  ·exact n2' g (by omega)
  ·exact nD g (by omega)
  ·exact nB g (by omega)
  ·exact nE g (by omega)
  ·exact nC g (by omega)
 ·have h := hB g e
  have hg : g ≠ gb := fun e2 => hBg (by rw [e, e2])
  refine ⟨by omega, by omega, by omega, by omega, by omega, fun r hr => ?_⟩
  simp only [List.mem_cons, List.not_mem_nil, or_false] at hr
  rcases hr with rfl | rfl | rfl | rfl | rfl | rfl
  ·exact n1 g (by omega)
  ·exact n2' g (by omega)
  ·exact nD g (by omega)
  ·exact nV g (by omega)
  ·exact nE g (by omega)
  ·exact nC g (by omega)
 ·have h := hE g e
  refine ⟨by omega, by omega, by omega, by omega, by omega, fun r hr => ?_⟩
  simp only [List.mem_cons, List.not_mem_nil, or_false] at hr
  rcases hr with rfl | rfl | rfl | rfl | rfl | rfl
  ·exact n1 g (by omega)
  ·exact n2' g (by omega)
  ·exact nD g (by omega)
  ·exact nV g (by omega)
  ·exact nB g (by omega)
  ·rcases hCE with hc | hc
   ·rw [hc]; exact fun x => by cases x
   ·rw [<- e]; exact hc
 ·have h := hC g e
  refine ⟨by omega, by omega, by omega, by omega, by omega, fun r hr => ?_⟩
  simp only [List.mem_cons, List.not_mem_nil, or_false] at hr
  rcases hr with rfl | rfl | rfl | rfl | rfl | rfl
  ·exact n1 g (by omega)
  ·exact n2' g (by omega)
  ·exact nD g (by omega)
  ·exact nV g (by omega)
  ·exact nB g (by omega)
  ·rcases hCE with hc | hc
   ·rw [hc] at e; cases e
   ·rw [<- e]; exact fun x => hc x.symm
end Go.Proofs.YteaaikmejacpaaaGreatDoor.Te

namespace Go.Proofs.YteaaikmejacpaaaGreatDoor.Te
open Go.ChangeShapes Go.WideShapes Go.ChangeAt Go.RowKit
open Fx Va Sh
set_option maxRecDepth 8000
set_option linter.unusedVariables false
set_option linter.unusedSimpArgs false

set_option maxRecDepth 100000 in
set_option maxHeartbeats 2000000 in
theorem in_d (K B F R O : Int) (p : Option Addr) (zs : List Int) (c : Nat) (q : Option Addr) (vs : List (Int × Int)) (d : Nat) (a a' : Int) (x : Option Addr) (xs : List Int) (e : Nat) (w : World) (b0 : -9223372036854775808 <= B) (b1 : B <= 9223372036854775807) (hn : zs.length <= maxLen) (hm : vs.length <= maxLen) (hx : xs.length <= maxLen) (RA : Hid (SlI w p zs)) (RB : Hid (SlV w q vs)) (RX : Hid (SlI w x xs)) (hLA : Tx.LA w) (hs : (decide ((vs.length : Int) <= 500) && decide (zs.length <= 20)) = true) (hl : ¬ 20 < xs.length) (ht : tE K B F R O zs vs = 0) :
  Calls Tryz.prog 4 #[Tn K B F R O p zs.length c q vs.length d, .agg #[.int .i64 a, .int .i64 a'], .slice x xs.length e] w fun en w' => en = .returned (.bool true) /\ Below w.heap.size w w' := by
 have HLA := Lib.hid hLA
 have EX := Lib.hid fun u h => exam12 u h
 have SM0 := fun u => tsmall K B F R O p zs.length c q vs.length d 500 u
 rw [hs] at SM0
 have SM := Lib.hid SM0
 have RV0 := fun u h1 h2 => rval K B F R O p zs c q vs d u hn hm h1 h2
 rw [ht] at RV0
 obtain ⟨-, tv0, tl, -⟩ := tE_ok ht
 obtain ⟨h6, -, -, hsp, h1s⟩ := valid_of tv0
 have h1 := h1s 0
 rw [List.drop_zero] at h1
 have hz20 : zs.length <= 20 := by have h := hs; simp at h; omega
 have hm5 : vs.length <= 500 := by have h := hs; simp at h; omega
 have NEW0 : ∀ pd cd qd dd u, Hid (SlI u pd zs) -> Hid (SlV u qd vs) -> Calls Tryz.prog 16 #[T5 K B F R O, .slice pd zs.length cd, .slice qd vs.length dd] u (TSame K B F R O zs.length vs.length zs vs u) := fun pd cd qd dd u h1 h2 => (new_b K B F R O pd zs cd qd vs dd u b0 b1 hn hm h1 h2 ht).mono (fun _ _ h => h.same rfl rfl)
 have FUL0 : ∀ pd cd x0 x1 u, Hid (SlI u pd zs) -> Calls Tryz.prog 18 #[T5 K B F R O, .slice pd zs.length cd, V2 x0 x1] u (TAny u) := fun pd cd x0 x1 u h1 => (tfull K B F R O pd zs cd x0 x1 u b0 b1 hn h1).mono (fun _ _ h => by
  rcases h with ⟨_, h⟩ | ⟨_, h⟩
  ·exact h.any (by simp) (by simp)
  ·exact h.any (by omega) (by rw [List.length_replicate]; omega))
 have SET0 : ∀ pa ca qa da u, Hid (SlI u pa zs) -> Hid (SlV u qa vs) -> Hid (SlI u x xs) -> Calls Tryz.prog 23 #[Tn K B F R O pa zs.length ca qa vs.length da, .agg #[.int .i64 a, .int .i64 a'], .slice x xs.length e] u (TAny u) := fun pa ca qa da u h1 h2 h3 => (tset K B F R O pa zs ca qa vs da a a' u b0 b1 hn hm h1 h2 x xs e hx h3).mono (fun _ _ h => by
  rcases h with ⟨_, h⟩ | ⟨_, h⟩
  ·exact h.any (by simp) (by simp)
  ·exact h.any (by omega) (by rw [List.length_set]; omega))
 have BTT0 := fun p4 p5 kc4 kc5 q4 q5 d4 d5 u h1 h2 h3 h4 => bten K B F R O p4 p5 zs kc4 kc5 q4 q5 vs d4 d5 u hn hm h1 h2 h3 h4
 unfold Tn T5 V2 TSame TAny at *
 have g1 : decide ((20 : Int) < xs.length) = false := by simp; omega
 have g2 : decide (20 < xs.length) = false := by simpa using hl
 obtain ⟨m, hmm⟩ : ∃ m, vs.length = m := ⟨_, rfl⟩
 have HM := Lib.hid hmm
 have hm0 : 0 < vs.length := by omega
 have hm0' : 0 < m := by omega
 rw [hmm] at SM RV0 hm5 NEW0 SET0 BTT0 ⊢
 have RVV := Lib.hid RV0
 have NEW := Lib.hid NEW0
 have FUL := Lib.hid FUL0
 have SET := Lib.hid SET0
 have BTT := Lib.hid BTT0
 obtain ⟨j0, hj, hj0, hj1, hj2⟩ := info_parts info3
 obtain ⟨i0, hi, hz0, hz1, hz2⟩ := info_parts infoV
 have HFL := Lib.hid (show (flV vs).length = m * 2 by rw [flV_len, hmm])
 obtain ⟨vb, vo, hqq, ve0, ve1⟩ := RB.out 0 hm0
 subst hqq
 simp only [Nat.zero_mul, Nat.add_zero] at ve0 ve1
 obtain ⟨e0, he0⟩ : ∃ z, (vs.getD 0 (0, 0)).1 = z := ⟨_, rfl⟩
 obtain ⟨e1, he1⟩ : ∃ z, (vs.getD 0 (0, 0)).2 = z := ⟨_, rfl⟩
 rw [he0] at ve0
 rw [he1] at ve1
 have VE := Lib.hid (And.intro ve0 ve1)
 have HSRC : Hid (∀ u, Below w.heap.size w u -> ∀ (k : Nat) (z : Value), (flV vs)[k]? = some z -> u.cell? ((⟨vb, vo, none⟩ : Addr).add k) = some z) := Lib.hid fun u h => by
  have h2 := sl_cellsV (x := 0) (n := vs.length) (SlV.below RB.out h) (by omega)
  simpa using h2
 clear hs SM0 hm hmm RV0 ht tl tv0 h6 hsp h1s h1 hm0 NEW0 FUL0 SET0 BTT0 ve0 ve1 he0 he1
 have KB : Hid (Below w.heap.size w ((w.alloc (Obj.cells #[Value.int .i64 K, Value.int .i64 B, Value.int .i64 F, Value.int .i64 R, Value.int .i64 O, Value.slice p zs.length c, Value.slice (some ⟨vb, vo, none⟩) m d] 27)).alloc (Obj.cells #[Value.int .i64 a, Value.int .i64 a'] 29))) := Lib.hid (((Below.refl _ _).alloc (Nat.le_refl _) _).alloc (by simp) _)
 have TB : Hid (B7 ((w.alloc (Obj.cells #[Value.int .i64 K, Value.int .i64 B, Value.int .i64 F, Value.int .i64 R, Value.int .i64 O, Value.slice p zs.length c, Value.slice (some ⟨vb, vo, none⟩) m d] 27)).alloc (Obj.cells #[Value.int .i64 a, Value.int .i64 a'] 29)) (w.heap.size) (.int .i64 K) (.int .i64 B) (.int .i64 F) (.int .i64 R) (.int .i64 O) (.slice p zs.length c) (.slice (some ⟨vb, vo, none⟩) m d)) := Lib.hid ((B7.new w _ (.int .i64 K) (.int .i64 B) (.int .i64 F) (.int .i64 R) (.int .i64 O) (.slice p zs.length c) (.slice (some ⟨vb, vo, none⟩) m d)).alloc _)
 have y0 : ((w.alloc (Obj.cells #[Value.int .i64 K, Value.int .i64 B, Value.int .i64 F, Value.int .i64 R, Value.int .i64 O, Value.slice p zs.length c, Value.slice (some ⟨vb, vo, none⟩) m d] 27)).alloc (Obj.cells #[Value.int .i64 a, Value.int .i64 a'] 29)).cell? ⟨w.heap.size + 1, 0, none⟩ = some (.int .i64 a) := by go_cell
 have y1 : ((w.alloc (Obj.cells #[Value.int .i64 K, Value.int .i64 B, Value.int .i64 F, Value.int .i64 R, Value.int .i64 O, Value.slice p zs.length c, Value.slice (some ⟨vb, vo, none⟩) m d] 27)).alloc (Obj.cells #[Value.int .i64 a, Value.int .i64 a'] 29)).cell? ⟨w.heap.size + 1, 1, none⟩ = some (.int .i64 a') := by go_cell
 go_enter Tryz.func4, Tryz.ntmps4
 go_upto_region 6 with (first | (go_at_call 14; (with_reducible refine (SM.out _).mono ?_); rintro e w1 ⟨rfl, hb⟩; have KN := KB.out.trans (hb.mono KB.out.size); have TN9 := B7.keep hb TB.out.lt TB.out; have yl := World.block_lt_of_cell? _ _ y0; have y0 := Rg.keep hb yl y0; have y1 := Rg.keep hb yl y1; have KB := Lib.hid KN; have TB := Lib.hid TN9; obtain ⟨⟨c0, c1, c2, c3, c4, c5, c6⟩, -⟩ := TB.out; have lt9 : w.heap.size < w1.heap.size := TB.out.lt; have ly9 : w.heap.size + 1 < w1.heap.size := World.block_lt_of_cell? _ _ y0; clear KN TN9 yl; clear hb) | (go_at_call 21; (with_reducible refine (RVV.out _ (Lib.hid (SlI.keep KB.out RA.out)) (Lib.hid (SlV.below RB.out KB.out))).mono ?_); rintro e w2 ⟨rfl, hb⟩; have KN := KB.out.trans (hb.mono KB.out.size); have TN9 := B7.keep hb TB.out.lt TB.out; have yl := World.block_lt_of_cell? _ _ y0; have y0 := Rg.keep hb yl y0; have y1 := Rg.keep hb yl y1; have KB := Lib.hid KN; have TB := Lib.hid TN9; obtain ⟨⟨c0, c1, c2, c3, c4, c5, c6⟩, -⟩ := TB.out; have lt9 : w.heap.size < w2.heap.size := TB.out.lt; have ly9 : w.heap.size + 1 < w2.heap.size := World.block_lt_of_cell? _ _ y0; clear KN TN9 yl; clear hb) | (at_builtin; refine wpList_append_slI _ rfl _ _ 24 rfl w2.heap.size 3 j0 (.int .i64 0) 8 Tryz.underlying24 hj hj0 hj1 hj2 rfl _ _ _ rfl (World.ownsRow_lit w2 #[] 0 (Nat.le_refl _) (by decide) rfl) _ zs _ _ rfl rfl ?_ ?_ ?_ ?_ ?_; exact SlI.keep (KB.out.alloc KB.out.size _) RA.out; (unfold maxLen; omega); omega; (simp); intro v3 w3 hown3 hgrow3; have hb3 : Below w2.heap.size w2 w3 := ((Below.refl _ _).alloc (Nat.le_refl _) _).grown hgrow3 (by simp) (fun j hj => by cases hj; exact Nat.le_refl _); replace hown3 : w3.ownsRow w2.heap.size 3 1 v3 zs.length (zs.map (Value.int .i64)) := (by simpa using hown3); obtain ⟨pd, cd, rfl⟩ := own_slice hown3; have O3 := Lib.hid hown3; have KN := KB.out.trans (hb3.mono KB.out.size); have TN9 := B7.keep hb3 TB.out.lt TB.out; have yl := World.block_lt_of_cell? _ _ y0; have y0 := Rg.keep hb3 yl y0; have y1 := Rg.keep hb3 yl y1; have KB := Lib.hid KN; have TB := Lib.hid TN9; obtain ⟨⟨c0, c1, c2, c3, c4, c5, c6⟩, -⟩ := TB.out; have lt9 : w.heap.size < w3.heap.size := TB.out.lt; have ly9 : w.heap.size + 1 < w3.heap.size := World.block_lt_of_cell? _ _ y0; clear KN TN9 yl; have hs3 := hb3.size; clear hown3 hgrow3 hb3) | (at_builtin; refine wpList_append_own _ rfl _ _ 25 rfl w3.heap.size 29 i0 (.agg #[.int .i64 0, .int .i64 0]) 2 16 Tryz.underlying25 hi hz0 hz1 hz2 rfl (by decide) _ _ _ rfl (World.ownsRow_lit w3 #[] 0 (Nat.le_refl _) (by decide) rfl) ⟨vb, vo, none⟩ m d (flV vs) rfl HFL.out ?_ (one_V _) ?_ ?_ ?_ ?_; exact HSRC.out _ (KB.out.alloc KB.out.size _); (unfold maxLen; omega); omega; (simp); intro v4 w4 hown4 hgrow4 _; have hb4 : Below w3.heap.size w3 w4 := ((Below.refl _ _).alloc (Nat.le_refl _) _).grown hgrow4 (by simp) (fun j hj => by cases hj; exact Nat.le_refl _); replace hown4 : w4.ownsRow w3.heap.size 29 2 v4 m (flV vs) := (by simpa using hown4); obtain ⟨qd, dd, rfl⟩ := own_slice hown4; have O4 := Lib.hid hown4; have O3b := Lib.hid (own_belowE O3.out hb4); have KN := KB.out.trans (hb4.mono KB.out.size); have TN9 := B7.keep hb4 TB.out.lt TB.out; have yl := World.block_lt_of_cell? _ _ y0; have y0 := Rg.keep hb4 yl y0; have y1 := Rg.keep hb4 yl y1; have KB := Lib.hid KN; have TB := Lib.hid TN9; obtain ⟨⟨c0, c1, c2, c3, c4, c5, c6⟩, -⟩ := TB.out; have lt9 : w.heap.size < w4.heap.size := TB.out.lt; have ly9 : w.heap.size + 1 < w4.heap.size := World.block_lt_of_cell? _ _ y0; clear KN TN9 yl; have hs4 := hb4.size; clear hown4 hgrow4 hb4) | (go_at_call 16; (with_reducible refine (NEW.out pd cd qd dd _ (Lib.hid (SlI_of O3b.out rfl)) (Lib.hid (SlV_of O4.out HM.out))).mono ?_); rintro e w5 ⟨pa, ca, qa, da, rfl, hA1, hA2, hb⟩; have KN := KB.out.trans (hb.mono KB.out.size); have TN9 := B7.keep hb TB.out.lt TB.out; have yl := World.block_lt_of_cell? _ _ y0; have y0 := Rg.keep hb yl y0; have y1 := Rg.keep hb yl y1; have KB := Lib.hid KN; have TB := Lib.hid TN9; obtain ⟨⟨c0, c1, c2, c3, c4, c5, c6⟩, -⟩ := TB.out; have lt9 : w.heap.size < w5.heap.size := TB.out.lt; have ly9 : w.heap.size + 1 < w5.heap.size := World.block_lt_of_cell? _ _ y0; clear KN TN9 yl; have A1 := Lib.hid hA1; have A2 := Lib.hid hA2; have O3c := Lib.hid (own_belowE O3b.out hb); have O4c := Lib.hid (own_belowE O4.out hb); have hs5 := hb.size; clear hb hA1 hA2))
 have KBz := KB.out.alloc KB.out.size (Obj.cells #[Value.int .i64 K, Value.int .i64 B, Value.int .i64 F, Value.int .i64 R, Value.int .i64 O, Value.slice pa zs.length ca, Value.slice qa m da] 27)
 have TBz := TB.out.alloc (Obj.cells #[Value.int .i64 K, Value.int .i64 B, Value.int .i64 F, Value.int .i64 R, Value.int .i64 O, Value.slice pa zs.length ca, Value.slice qa m da] 27)
 have ABz := B7.new w5 27 (.int .i64 K) (.int .i64 B) (.int .i64 F) (.int .i64 R) (.int .i64 O) (.slice pa zs.length ca) (.slice qa m da)
 have W5 : Below w5.heap.size w5 (w5.alloc (Obj.cells #[Value.int .i64 K, Value.int .i64 B, Value.int .i64 F, Value.int .i64 R, Value.int .i64 O, Value.slice pa zs.length ca, Value.slice qa m da] 27)) := (Below.refl _ _).alloc (Nat.le_refl _) _
 have O3z := own_belowE O3c.out W5
 have O4z := own_belowE O4c.out W5
 have A1z := own_belowE A1.out W5
 have A2z := own_belowE A2.out W5
 have yz0 := Rg.keep W5 (World.block_lt_of_cell? _ _ y0) y0
 have yz1 := Rg.keep W5 (World.block_lt_of_cell? _ _ y1) y1
 have HSZ : Hid ((w5.alloc (Obj.cells #[Value.int .i64 K, Value.int .i64 B, Value.int .i64 F, Value.int .i64 R, Value.int .i64 O, Value.slice pa zs.length ca, Value.slice qa m da] 27)).heap.size = w5.heap.size + 1) := Lib.hid (by simp)
 have ID := Lib.hid (own_lo O3.out)
 have IV := Lib.hid (own_lo O4.out)
 have IA1 := Lib.hid (own_lo A1.out)
 have IA2 := Lib.hid (own_lo A2.out)
 clear c0 c1 c2 c3 c4 c5 c6 O3c O4c W5 A1 A2 y0 y1
 generalize (w5.alloc (Obj.cells #[Value.int .i64 K, Value.int .i64 B, Value.int .i64 F, Value.int .i64 R, Value.int .i64 O, Value.slice pa zs.length ca, Value.slice qa m da] 27)) = wz at *
 have DZ := Lib.hid (SlI_of O3z rfl)
 have TBk := Lib.hid TBz
 obtain ⟨⟨c0, c1, c2, c3, c4, c5, c6⟩, -⟩ := TBz
 have ve0 := Rg.keep KBz (World.block_lt_of_cell? _ _ VE.out.1) VE.out.1
 have ve1 := Rg.keep KBz (World.block_lt_of_cell? _ _ VE.out.2) VE.out.2
 have HS : Hid (∀ u u' : World, (u.cell? ⟨w.heap.size, 0, none⟩ = some (.int .i64 K) /\ u.cell? ⟨w.heap.size, 1, none⟩ = some (.int .i64 B) /\ u.cell? ⟨w.heap.size, 2, none⟩ = some (.int .i64 F) /\ u.cell? ⟨w.heap.size, 3, none⟩ = some (.int .i64 R) /\ u.cell? ⟨w.heap.size, 4, none⟩ = some (.int .i64 O) /\ u.cell? ⟨w.heap.size, 5, none⟩ = some (.slice p zs.length c) /\ u.cell? ⟨w.heap.size, 6, none⟩ = some (.slice (some ⟨vb, vo, none⟩) m d) /\ u.cell? ⟨vb, vo, none⟩ = some (.int .i64 e0) /\ u.cell? ⟨vb, vo + 1, none⟩ = some (.int .i64 e1) /\ Below wz.heap.size wz u) -> Below u.heap.size u u' -> (u'.cell? ⟨w.heap.size, 0, none⟩ = some (.int .i64 K) /\ u'.cell? ⟨w.heap.size, 1, none⟩ = some (.int .i64 B) /\ u'.cell? ⟨w.heap.size, 2, none⟩ = some (.int .i64 F) /\ u'.cell? ⟨w.heap.size, 3, none⟩ = some (.int .i64 R) /\ u'.cell? ⟨w.heap.size, 4, none⟩ = some (.int .i64 O) /\ u'.cell? ⟨w.heap.size, 5, none⟩ = some (.slice p zs.length c) /\ u'.cell? ⟨w.heap.size, 6, none⟩ = some (.slice (some ⟨vb, vo, none⟩) m d) /\ u'.cell? ⟨vb, vo, none⟩ = some (.int .i64 e0) /\ u'.cell? ⟨vb, vo + 1, none⟩ = some (.int .i64 e1) /\ Below wz.heap.size wz u')) := Lib.hid (fun u u' h hb => ⟨Rg.keep hb (World.block_lt_of_cell? _ _ h.1) h.1, Rg.keep hb (World.block_lt_of_cell? _ _ h.2.1) h.2.1, Rg.keep hb (World.block_lt_of_cell? _ _ h.2.2.1) h.2.2.1, Rg.keep hb (World.block_lt_of_cell? _ _ h.2.2.2.1) h.2.2.2.1, Rg.keep hb (World.block_lt_of_cell? _ _ h.2.2.2.2.1) h.2.2.2.2.1, Rg.keep hb (World.block_lt_of_cell? _ _ h.2.2.2.2.2.1) h.2.2.2.2.2.1, Rg.keep hb (World.block_lt_of_cell? _ _ h.2.2.2.2.2.2.1) h.2.2.2.2.2.2.1, Rg.keep hb (World.block_lt_of_cell? _ _ h.2.2.2.2.2.2.2.1) h.2.2.2.2.2.2.2.1, Rg.keep hb (World.block_lt_of_cell? _ _ h.2.2.2.2.2.2.2.2.1) h.2.2.2.2.2.2.2.2.1, h.2.2.2.2.2.2.2.2.2.trans (hb.mono h.2.2.2.2.2.2.2.2.2.size)⟩)
 go_cut [11, 12] from 50 to 61 (fun p11 p12 wx => ∃ (gb : Nat) (k0 k1 k2 k3 k4 : Int) (bp : Option Addr) (bc : Nat) (bq : Option Addr) (bd bn bm : Nat) (er : Int) (bz : List Int) (bvs : List (Int × Int)), p11 = .pointer (some ⟨gb, 0, none⟩) /\ p12 = .int .i64 er /\ Hid (B7 wx (gb) (.int .i64 k0) (.int .i64 k1) (.int .i64 k2) (.int .i64 k3) (.int .i64 k4) (.slice bp bn bc) (.slice bq bm bd)) /\ Hid (bz.length = bn /\ bvs.length = bm /\ bn <= 500 /\ bm <= 500) /\ Hid (wx.ownsRow wz.heap.size 3 1 (.slice bp bn bc) bn (bz.map (Value.int .i64))) /\ Hid ((Value.slice bp bn bc).ownBlock ≠ some gb) /\ Hid (Below wz.heap.size wz wx) /\ Hid (wz.heap.size <= gb /\ gb < wx.heap.size))
 case first =>
  refine Rk.begin (S := fun wS => wS.cell? ⟨w.heap.size, 0, none⟩ = some (.int .i64 K) /\ wS.cell? ⟨w.heap.size, 1, none⟩ = some (.int .i64 B) /\ wS.cell? ⟨w.heap.size, 2, none⟩ = some (.int .i64 F) /\ wS.cell? ⟨w.heap.size, 3, none⟩ = some (.int .i64 R) /\ wS.cell? ⟨w.heap.size, 4, none⟩ = some (.int .i64 O) /\ wS.cell? ⟨w.heap.size, 5, none⟩ = some (.slice p zs.length c) /\ wS.cell? ⟨w.heap.size, 6, none⟩ = some (.slice (some ⟨vb, vo, none⟩) m d) /\ wS.cell? ⟨vb, vo, none⟩ = some (.int .i64 e0) /\ wS.cell? ⟨vb, vo + 1, none⟩ = some (.int .i64 e1) /\ Below wz.heap.size wz wS) 12 (by kernel_rfl) ⟨c0, c1, c2, c3, c4, c5, c6, ve0, ve1, Below.drew (Below.refl _ _)⟩ (fun hHeld => ?_)
  refine SqR.p 0 ?_
  refine SqR.l [12] 1 ?_
  refine SqR.p 2 ?_
  refine SqR.p 3 ?_
  refine SqR.l [12] 4 ?_
  refine SqR.p 5 ?_
  refine SqR.l [12] 6 ?_
  refine Rk.two (i := 7) (j := 11) (by kernel_rfl) rfl rfl (fun KK hK => ?_) (fun KK hK => ?_)
  ·rw [if_pos (by kernel_rfl)]
   go_simp
   ((with_reducible refine (FUL.out pd cd e0 e1 _ (Lib.hid (SlI.keep (hHeld.2.2.2.2.2.2.2.2.2) DZ.out))).mono ?_); rintro e u7 ⟨k0, k1, k2, k3, k4, bp, bc, bq, bd, bn, bm, er, bz, bvs, rfl, hlen, hB1, hB2, hb⟩)
   have hNew := HS.out _ _ hHeld hb
   have hsu := hb.size
   try simp at hsu
   replace hB1 := own_base (B' := wz.heap.size) hB1 (Nat.le_refl _)
   first | (refine hK.out _ _ (fun _ => hNew) (fun _ => ?_)) | (refine hK.out _ _ hNew (fun _ => ?_)) | (go_wp2_with fail; refine hK.out _ _ hNew (fun _ => ?_))
   replace hHeld := hNew
   clear hNew hb hB2
   clear hK KK
   refine SqR.p 8 ?_
   refine SqR.p 9 ?_
   refine SqR.p 10 ?_
   refine Rk.one (i := 11) (by kernel_rfl) rfl (fun KK hK => ?_)
   rw [if_pos (by kernel_rfl)]
   go_simp
   have hNew := HS.out _ _ hHeld ((Below.refl _ _).alloc (Nat.le_refl _) (Obj.cells #[Value.int .i64 0, Value.int .i64 0, Value.int .i64 0, Value.int .i64 0, Value.int .i64 0, Value.slice none 0 0, Value.slice none 0 0] 27))
   have M7 := B7.new u7 27 (.int .i64 0) (.int .i64 0) (.int .i64 0) (.int .i64 0) (.int .i64 0) (.slice none 0 0) (.slice none 0 0)
   have hn1 := blk_ne (g := u7.heap.size) (own_lo hB1) (Or.inr (Nat.le_refl _))
   replace hB1 := own_belowE hB1 ((Below.refl _ _).alloc (Nat.le_refl _) (Obj.cells #[Value.int .i64 0, Value.int .i64 0, Value.int .i64 0, Value.int .i64 0, Value.int .i64 0, Value.slice none 0 0, Value.slice none 0 0] 27))
   refine hK.out _ _ hNew (fun _ => ?_)
   replace hHeld := hNew
   clear hNew
   clear hK KK
   refine Rk.tail [12, 13] [_, _] (by kernel_rfl) (by kernel_rfl) rfl (by decide) ?_
   obtain ⟨-, -, -, -, -, -, -, -, -, K8⟩ := hHeld
   have M9 := M7
   obtain ⟨⟨m0, m1, m2, m3, m4, m5, m6⟩, ⟨f0, f1, f2, f3, f4, f5, f6⟩⟩ := M7
   have lm := M9.lt
   have hnb : wz.heap.size <= u7.heap.size := by first | exact Nat.le_refl _ | omega
   generalize (u7.alloc (Obj.cells #[Value.int .i64 0, Value.int .i64 0, Value.int .i64 0, Value.int .i64 0, Value.int .i64 0, Value.slice none 0 0, Value.slice none 0 0] 27)) = gz at *
   go_wp2_with fail
   go_meet
   exact ⟨u7.heap.size, k0, k1, k2, k3, k4, bp, bc, bq, bd, bn, bm, er, bz, bvs, rfl, rfl, Lib.hid (B7.st (y0 := .int .i64 k0) (y1 := .int .i64 k1) (y2 := .int .i64 k2) (y3 := .int .i64 k3) (y4 := .int .i64 k4) (y5 := .slice bp bn bc) (y6 := .slice bq bm bd) M9), Lib.hid hlen, Lib.hid (own_set7N (x0 := .int .i64 k0) (x1 := .int .i64 k1) (x2 := .int .i64 k2) (x3 := .int .i64 k3) (x4 := .int .i64 k4) (x5 := .slice bp bn bc) (x6 := .slice bq bm bd) hB1 hn1), Lib.hid hn1, Lib.hid (below_set7 (x0 := .int .i64 k0) (x1 := .int .i64 k1) (x2 := .int .i64 k2) (x3 := .int .i64 k3) (x4 := .int .i64 k4) (x5 := .slice bp bn bc) (x6 := .slice bq bm bd) K8 hnb), Lib.hid ⟨hnb, by simp; exact lm⟩⟩
  ·rw [if_pos (by kernel_rfl)]
   go_simp
   have hNew := HS.out _ _ hHeld ((Below.refl _ _).alloc (Nat.le_refl _) (Obj.cells #[Value.int .i64 0, Value.int .i64 0, Value.int .i64 0, Value.int .i64 0, Value.int .i64 0, Value.slice none 0 0, Value.slice none 0 0] 27))
   have M7 : B7 ((wz.alloc (Obj.cells #[Value.int .i64 0, Value.int .i64 0, Value.int .i64 0, Value.int .i64 0, Value.int .i64 0, Value.slice none 0 0, Value.slice none 0 0] 27)).drew) wz.heap.size (.int .i64 0) (.int .i64 0) (.int .i64 0) (.int .i64 0) (.int .i64 0) (.slice none 0 0) (.slice none 0 0) := B7.new wz _ (.int .i64 0) (.int .i64 0) (.int .i64 0) (.int .i64 0) (.int .i64 0) (.slice none 0 0) (.slice none 0 0)
   refine hK.out _ _ hNew (fun _ => ?_)
   replace hHeld := hNew
   clear hNew
   replace hHeld : (wz.alloc (Obj.cells #[Value.int .i64 0, Value.int .i64 0, Value.int .i64 0, Value.int .i64 0, Value.int .i64 0, Value.slice none 0 0, Value.slice none 0 0] 27)).drew.cell? ⟨w.heap.size, 0, none⟩ = some (.int .i64 K) /\ (wz.alloc (Obj.cells #[Value.int .i64 0, Value.int .i64 0, Value.int .i64 0, Value.int .i64 0, Value.int .i64 0, Value.slice none 0 0, Value.slice none 0 0] 27)).drew.cell? ⟨w.heap.size, 1, none⟩ = some (.int .i64 B) /\ (wz.alloc (Obj.cells #[Value.int .i64 0, Value.int .i64 0, Value.int .i64 0, Value.int .i64 0, Value.int .i64 0, Value.slice none 0 0, Value.slice none 0 0] 27)).drew.cell? ⟨w.heap.size, 2, none⟩ = some (.int .i64 F) /\ (wz.alloc (Obj.cells #[Value.int .i64 0, Value.int .i64 0, Value.int .i64 0, Value.int .i64 0, Value.int .i64 0, Value.slice none 0 0, Value.slice none 0 0] 27)).drew.cell? ⟨w.heap.size, 3, none⟩ = some (.int .i64 R) /\ (wz.alloc (Obj.cells #[Value.int .i64 0, Value.int .i64 0, Value.int .i64 0, Value.int .i64 0, Value.int .i64 0, Value.slice none 0 0, Value.slice none 0 0] 27)).drew.cell? ⟨w.heap.size, 4, none⟩ = some (.int .i64 O) /\ (wz.alloc (Obj.cells #[Value.int .i64 0, Value.int .i64 0, Value.int .i64 0, Value.int .i64 0, Value.int .i64 0, Value.slice none 0 0, Value.slice none 0 0] 27)).drew.cell? ⟨w.heap.size, 5, none⟩ = some (.slice p zs.length c) /\ (wz.alloc (Obj.cells #[Value.int .i64 0, Value.int .i64 0, Value.int .i64 0, Value.int .i64 0, Value.int .i64 0, Value.slice none 0 0, Value.slice none 0 0] 27)).drew.cell? ⟨w.heap.size, 6, none⟩ = some (.slice (some ⟨vb, vo, none⟩) m d) /\ (wz.alloc (Obj.cells #[Value.int .i64 0, Value.int .i64 0, Value.int .i64 0, Value.int .i64 0, Value.int .i64 0, Value.slice none 0 0, Value.slice none 0 0] 27)).drew.cell? ⟨vb, vo, none⟩ = some (.int .i64 e0) /\ (wz.alloc (Obj.cells #[Value.int .i64 0, Value.int .i64 0, Value.int .i64 0, Value.int .i64 0, Value.int .i64 0, Value.slice none 0 0, Value.slice none 0 0] 27)).drew.cell? ⟨vb, vo + 1, none⟩ = some (.int .i64 e1) /\ Below wz.heap.size wz (wz.alloc (Obj.cells #[Value.int .i64 0, Value.int .i64 0, Value.int .i64 0, Value.int .i64 0, Value.int .i64 0, Value.slice none 0 0, Value.slice none 0 0] 27)).drew := hHeld
   clear hK KK
   refine Rk.one (i := 7) (by kernel_rfl) rfl (fun KK hK => ?_)
   rw [if_pos (by kernel_rfl)]
   go_simp
   ((with_reducible refine (FUL.out pd cd e0 e1 _ (Lib.hid (SlI.keep (hHeld.2.2.2.2.2.2.2.2.2) DZ.out))).mono ?_); rintro e u7 ⟨k0, k1, k2, k3, k4, bp, bc, bq, bd, bn, bm, er, bz, bvs, rfl, hlen, hB1, hB2, hb⟩)
   have hNew := HS.out _ _ hHeld hb
   have hsu := hb.size
   try simp at hsu
   replace M7 := B7.keep hb M7.lt M7
   have hn1 := blk_ne (g := wz.heap.size) (own_lo hB1) (Or.inl (by simp))
   replace hB1 := own_base (B' := wz.heap.size) hB1 (by simp)
   first | (refine hK.out _ _ (fun _ => hNew) (fun _ => ?_)) | (refine hK.out _ _ hNew (fun _ => ?_)) | (go_wp2_with fail; refine hK.out _ _ hNew (fun _ => ?_))
   replace hHeld := hNew
   clear hNew hb hB2
   clear hK KK
   refine SqR.p 8 ?_
   refine SqR.p 9 ?_
   refine SqR.p 10 ?_
   refine Rk.tail [12, 13] [_, _] (by kernel_rfl) (by kernel_rfl) rfl (by decide) ?_
   obtain ⟨-, -, -, -, -, -, -, -, -, K8⟩ := hHeld
   have M9 := M7
   obtain ⟨⟨m0, m1, m2, m3, m4, m5, m6⟩, ⟨f0, f1, f2, f3, f4, f5, f6⟩⟩ := M7
   have lm := M9.lt
   have hnb : wz.heap.size <= wz.heap.size := by first | exact Nat.le_refl _ | omega
   go_wp2_with fail
   go_meet
   exact ⟨wz.heap.size, k0, k1, k2, k3, k4, bp, bc, bq, bd, bn, bm, er, bz, bvs, rfl, rfl, Lib.hid (B7.st (y0 := .int .i64 k0) (y1 := .int .i64 k1) (y2 := .int .i64 k2) (y3 := .int .i64 k3) (y4 := .int .i64 k4) (y5 := .slice bp bn bc) (y6 := .slice bq bm bd) M9), Lib.hid hlen, Lib.hid (own_set7N (x0 := .int .i64 k0) (x1 := .int .i64 k1) (x2 := .int .i64 k2) (x3 := .int .i64 k3) (x4 := .int .i64 k4) (x5 := .slice bp bn bc) (x6 := .slice bq bm bd) hB1 hn1), Lib.hid hn1, Lib.hid (below_set7 (x0 := .int .i64 k0) (x1 := .int .i64 k1) (x2 := .int .i64 k2) (x3 := .int .i64 k3) (x4 := .int .i64 k4) (x5 := .slice bp bn bc) (x6 := .slice bq bm bd) K8 hnb), Lib.hid ⟨hnb, by simp; exact lm⟩⟩

 case rest =>
  obtain ⟨gb, k0, k1, k2, k3, k4, bp, bc, bq, bd, bn, bm, er, bz, bvs, rfl, rfl, HBB, HBL, HB1, HBN, KX, HGB⟩ := hcut
  clear c0 c1 c2 c3 c4 c5 c6 ve0 ve1 DZ HS NEW FUL RVV SM O3 O4 O3b HSRC HFL hi hz0 hz1 hz2 hj hj0 hj1 hj2
  have KB := Lib.hid (KBz.trans (KX.out.mono KBz.size))
  have TBc := Lib.hid (B7.keep KX.out TBk.out.lt TBk.out)
  have ABc := Lib.hid (B7.keep KX.out ABz.lt ABz)
  have O3 := Lib.hid (own_belowE O3z KX.out)
  have O4 := Lib.hid (own_belowE O4z KX.out)
  have A1 := Lib.hid (own_belowE A1z KX.out)
  have A2 := Lib.hid (own_belowE A2z KX.out)
  have y0 := Rg.keep KX.out (World.block_lt_of_cell? _ _ yz0) yz0
  have y1 := Rg.keep KX.out (World.block_lt_of_cell? _ _ yz1) yz1
  have hxz := KX.out.size
  have SZ := Lib.hid HSZ.out
  clear KBz TBk ABz O3z O4z A1z A2z yz0 yz1
  obtain ⟨⟨d0, d1, d2, d3, d4, d5, d6⟩, -⟩ := ABc.out
  go_upto_region 8 with ((go_at_call 23; (with_reducible refine (SET.out pa ca qa da _ (Lib.hid (SlI_of A1.out rfl)) (Lib.hid (SlV_of A2.out HM.out)) (Lib.hid (SlI.keep KB.out RX.out))).mono ?_); rintro e w7 ⟨l0, l1, l2, l3, l4, cp, cc, cq, cd2, cn, cm, er2, cz, cvs, rfl, hlc, hC1, hC2, hb⟩; have HLC := Lib.hid hlc; have C1 := Lib.hid hC1; have C2 := Lib.hid hC2; have K7 := Lib.hid hb; clear hlc hC1 hC2 hb))
  have hs7 := K7.out.size
  have W8 : Below w7.heap.size w7 (w7.alloc (Obj.cells #[Value.int .i64 l0, Value.int .i64 l1, Value.int .i64 l2, Value.int .i64 l3, Value.int .i64 l4, Value.slice cp cn cc, Value.slice cq cm cd2] 27)) := (Below.refl _ _).alloc (Nat.le_refl _) _
  have K78 : Below wc.heap.size wc (w7.alloc (Obj.cells #[Value.int .i64 l0, Value.int .i64 l1, Value.int .i64 l2, Value.int .i64 l3, Value.int .i64 l4, Value.slice cp cn cc, Value.slice cq cm cd2] 27)) := K7.out.trans (W8.mono hs7)
  have BN8 : Hid (BN w w.heap.size w5.heap.size gb w7.heap.size (.int .i64 K) (.int .i64 B) (.int .i64 F) (.int .i64 R) (.int .i64 O) (.slice p zs.length c) (.slice (some ⟨vb, vo, none⟩) m d) (.int .i64 K) (.int .i64 B) (.int .i64 F) (.int .i64 R) (.int .i64 O) (.slice pa zs.length ca) (.slice qa m da) (.int .i64 k0) (.int .i64 k1) (.int .i64 k2) (.int .i64 k3) (.int .i64 k4) (.slice bp bn bc) (.slice bq bm bd) (.int .i64 l0) (.int .i64 l1) (.int .i64 l2) (.int .i64 l3) (.int .i64 l4) (.slice cp cn cc) (.slice cq cm cd2) w4.heap.size zs.length m (zs.map (Value.int .i64)) (flV vs) (.slice pd zs.length cd) (.slice qd m dd) zs.length m bn cm cn (w7.alloc (Obj.cells #[Value.int .i64 l0, Value.int .i64 l1, Value.int .i64 l2, Value.int .i64 l3, Value.int .i64 l4, Value.slice cp cn cc, Value.slice cq cm cd2] 27))) := Lib.hid ⟨KB.out.trans (K78.mono KB.out.size), B7.keep K78 TBc.out.lt TBc.out, B7.keep K78 ABc.out.lt ABc.out, B7.keep K78 HBB.out.lt HBB.out, B7.new w7 27 (.int .i64 l0) (.int .i64 l1) (.int .i64 l2) (.int .i64 l3) (.int .i64 l4) (.slice cp cn cc) (.slice cq cm cd2), own_belowE A1.out K78, own_belowE A2.out K78, ⟨_, zs, rfl, own_belowE O3.out K78⟩, ⟨_, vs, HM.out, own_belowE O4.out K78⟩, ⟨_, bz, HBL.out.1, own_belowE HB1.out K78⟩, ⟨_, cvs, HLC.out.2.1, own_belowE C2.out W8⟩, ⟨_, cz, HLC.out.1, own_belowE C1.out W8⟩⟩
  have hgb := HGB.out
  have hszz := SZ.out
  obtain ⟨spd, spv, spb, spe, spc⟩ := sp_all (w := w) (gt := w.heap.size) (gb := gb) ID.out IV.out IA1.out IA2.out (B1 := .slice bp bn bc) (nx := wc.heap.size) (fun k e => by have h := own_lo HB1.out k e; omega) HBN.out (own_lo C2.out) (own_lo C1.out) (own_apart C1.out C2.out) (Nat.le_refl _) (by omega) (by omega) (by omega) (by omega) (by omega) (by omega) hs7
  have SPD := Lib.hid spd
  have SPV := Lib.hid spv
  have SPB := Lib.hid spb
  have SPE := Lib.hid spe
  have SPC := Lib.hid spc
  have hbn : bn <= 500 := HBL.out.2.2.1
  have hcn : cn <= 500 := HLC.out.2.2.1
  have hcm : cm <= 500 := HLC.out.2.2.2
  clear spd spv spb spe spc KB TBc ABc O3 O4 A1 A2 HBB HB1 HBL HBN KX HGB hgb hszz W8 K78 K7 C1 C2 HLC y0 y1 d0 d1 d2 d3 d4 d5 d6 SET hs7 hxz SZ HSZ
  generalize (w7.alloc (Obj.cells #[Value.int .i64 l0, Value.int .i64 l1, Value.int .i64 l2, Value.int .i64 l3, Value.int .i64 l4, Value.slice cp cn cc, Value.slice cq cm cd2] 27)) = w8 at *
  go_wp2_with fail
  go_loopw [15] (fun iv wr => ∃ i : Nat, iv = .int .i64 (i : Int) /\ i <= zs.length /\ Hid (BN w w.heap.size w5.heap.size gb w7.heap.size (.int .i64 K) (.int .i64 B) (.int .i64 F) (.int .i64 R) (.int .i64 O) (.slice p zs.length c) (.slice (some ⟨vb, vo, none⟩) m d) (.int .i64 K) (.int .i64 B) (.int .i64 F) (.int .i64 R) (.int .i64 O) (.slice pa zs.length ca) (.slice qa m da) (.int .i64 k0) (.int .i64 k1) (.int .i64 k2) (.int .i64 k3) (.int .i64 k4) (.slice bp bn bc) (.slice bq bm bd) (.int .i64 l0) (.int .i64 l1) (.int .i64 l2) (.int .i64 l3) (.int .i64 l4) (.slice cp cn cc) (.slice cq cm cd2) w4.heap.size zs.length m (zs.map (Value.int .i64)) (flV vs) (.slice pd zs.length cd) (.slice qd m dd) zs.length m bn cm cn wr)) (fun iv _ => zs.length - (intOf iv).toNat)
  case atStart => exact ⟨0, rfl, Nat.zero_le _, BN8⟩
  case round =>
   obtain ⟨i, rfl, hi, BR⟩ := hrel
   obtain ⟨-, -, -, qb, qc, -, -, r1, r2, r3, r4, r5⟩ := BR.out
   clear qb qc
   by_cases him : i < zs.length
   ·have hi2 : (i : Int) < zs.length := by omega
    have hi0 : (0 : Int) <= i := by omega
    have hib : (i : Int) < 1000 := by omega
    obtain ⟨g, hp, hlt, ⟨z, hz⟩, hf⟩ := r1.at him
    clear r1 r2 r3 r4 r5
    subst hp
    go_wp2_with fail
    go_roundw
    case rel => exact ⟨i + 1, by simp, by omega, Lib.hid (BR.out.putD SPD.out rfl him)⟩
    case measure => simp [intOf]; omega
   ·have gN : decide ((i : Int) < zs.length) = false := by simp; omega
    clear r1 r2 r3 r4 r5
    go_wp2_with fail
    go_loopw [16] (fun iv wr => ∃ i : Nat, iv = .int .i64 (i : Int) /\ i <= m /\ Hid (BN w w.heap.size w5.heap.size gb w7.heap.size (.int .i64 K) (.int .i64 B) (.int .i64 F) (.int .i64 R) (.int .i64 O) (.slice p zs.length c) (.slice (some ⟨vb, vo, none⟩) m d) (.int .i64 K) (.int .i64 B) (.int .i64 F) (.int .i64 R) (.int .i64 O) (.slice pa zs.length ca) (.slice qa m da) (.int .i64 k0) (.int .i64 k1) (.int .i64 k2) (.int .i64 k3) (.int .i64 k4) (.slice bp bn bc) (.slice bq bm bd) (.int .i64 l0) (.int .i64 l1) (.int .i64 l2) (.int .i64 l3) (.int .i64 l4) (.slice cp cn cc) (.slice cq cm cd2) w4.heap.size zs.length m (zs.map (Value.int .i64)) (flV vs) (.slice pd zs.length cd) (.slice qd m dd) zs.length m bn cm cn wr)) (fun iv _ => m - (intOf iv).toNat)
    case atStart => exact ⟨0, rfl, Nat.zero_le _, BR⟩
    case round =>
     obtain ⟨i, rfl, hi, BR⟩ := hrel
     obtain ⟨-, -, -, qb, qc, -, -, r1, r2, r3, r4, r5⟩ := BR.out
     clear qb qc
     by_cases him : i < m
     ·have hi2 : (i : Int) < m := by omega
      have hi0 : (0 : Int) <= i := by omega
      have hib : (i : Int) < 1000 := by omega
      obtain ⟨g, hp, hlt, ⟨z, hz⟩, hf⟩ := r2.at him
      clear r1 r2 r3 r4 r5
      subst hp
      go_wp2_with fail
      go_roundw
      case rel => exact ⟨i + 1, by simp, by omega, Lib.hid (BR.out.putV SPV.out rfl him)⟩
      case measure => simp [intOf]; omega
     ·have gN : decide ((i : Int) < m) = false := by simp; omega
      clear r1 r2 r3 r4 r5
      go_wp2_with fail
      go_loopw [17] (fun iv wr => ∃ i : Nat, iv = .int .i64 (i : Int) /\ i <= bn /\ Hid (BN w w.heap.size w5.heap.size gb w7.heap.size (.int .i64 K) (.int .i64 B) (.int .i64 F) (.int .i64 R) (.int .i64 O) (.slice p zs.length c) (.slice (some ⟨vb, vo, none⟩) m d) (.int .i64 K) (.int .i64 B) (.int .i64 F) (.int .i64 R) (.int .i64 O) (.slice pa zs.length ca) (.slice qa m da) (.int .i64 k0) (.int .i64 k1) (.int .i64 k2) (.int .i64 k3) (.int .i64 k4) (.slice bp bn bc) (.slice bq bm bd) (.int .i64 l0) (.int .i64 l1) (.int .i64 l2) (.int .i64 l3) (.int .i64 l4) (.slice cp cn cc) (.slice cq cm cd2) w4.heap.size zs.length m (zs.map (Value.int .i64)) (flV vs) (.slice pd zs.length cd) (.slice qd m dd) zs.length m bn cm cn wr)) (fun iv _ => bn - (intOf iv).toNat)
      case atStart => exact ⟨0, rfl, Nat.zero_le _, BR⟩
      case round =>
       obtain ⟨i, rfl, hi, BR⟩ := hrel
       obtain ⟨-, -, -, qb, qc, -, -, r1, r2, r3, r4, r5⟩ := BR.out
       have cx := qb.1.2.2.2.2.2.1
       clear qb qc
       by_cases him : i < bn
       ·have hi2 : (i : Int) < bn := by omega
        have hi0 : (0 : Int) <= i := by omega
        have hib : (i : Int) < 1000 := by omega
        obtain ⟨g, hp, hlt, ⟨z, hz⟩, hf⟩ := r3.at him
        clear r1 r2 r3 r4 r5
        subst hp
        go_wp2_with fail
        go_roundw
        case rel => exact ⟨i + 1, by simp, by omega, Lib.hid (BR.out.putB SPB.out rfl him)⟩
        case measure => simp [intOf]; omega
       ·have gN : decide ((i : Int) < bn) = false := by simp; omega
        clear r1 r2 r3 r4 r5
        go_wp2_with fail
        go_loopw [18] (fun iv wr => ∃ i : Nat, iv = .int .i64 (i : Int) /\ i <= cm /\ Hid (BN w w.heap.size w5.heap.size gb w7.heap.size (.int .i64 K) (.int .i64 B) (.int .i64 F) (.int .i64 R) (.int .i64 O) (.slice p zs.length c) (.slice (some ⟨vb, vo, none⟩) m d) (.int .i64 K) (.int .i64 B) (.int .i64 F) (.int .i64 R) (.int .i64 O) (.slice pa zs.length ca) (.slice qa m da) (.int .i64 k0) (.int .i64 k1) (.int .i64 k2) (.int .i64 k3) (.int .i64 k4) (.slice bp bn bc) (.slice bq bm bd) (.int .i64 l0) (.int .i64 l1) (.int .i64 l2) (.int .i64 l3) (.int .i64 l4) (.slice cp cn cc) (.slice cq cm cd2) w4.heap.size zs.length m (zs.map (Value.int .i64)) (flV vs) (.slice pd zs.length cd) (.slice qd m dd) zs.length m bn cm cn wr)) (fun iv _ => cm - (intOf iv).toNat)
        case atStart => exact ⟨0, rfl, Nat.zero_le _, BR⟩
        case round =>
         obtain ⟨i, rfl, hi, BR⟩ := hrel
         obtain ⟨-, -, -, qb, qc, -, -, r1, r2, r3, r4, r5⟩ := BR.out
         have cx := qc.1.2.2.2.2.2.2
         clear qb qc
         by_cases him : i < cm
         ·have hi2 : (i : Int) < cm := by omega
          have hi0 : (0 : Int) <= i := by omega
          have hib : (i : Int) < 1000 := by omega
          obtain ⟨g, hp, hlt, ⟨z, hz⟩, hf⟩ := r4.at him
          clear r1 r2 r3 r4 r5
          subst hp
          go_wp2_with fail
          go_roundw
          case rel => exact ⟨i + 1, by simp, by omega, Lib.hid (BR.out.putE SPE.out rfl him)⟩
          case measure => simp [intOf]; omega
         ·have gN : decide ((i : Int) < cm) = false := by simp; omega
          clear r1 r2 r3 r4 r5
          go_upto_region 26 with fail
          go_wp2_with fail
          go_loopw [19] (fun iv wr => ∃ i : Nat, iv = .int .i64 (i : Int) /\ i <= cn /\ Hid (BN w w.heap.size w5.heap.size gb w7.heap.size (.int .i64 K) (.int .i64 B) (.int .i64 F) (.int .i64 R) (.int .i64 O) (.slice p zs.length c) (.slice (some ⟨vb, vo, none⟩) m d) (.int .i64 K) (.int .i64 B) (.int .i64 F) (.int .i64 R) (.int .i64 O) (.slice pa zs.length ca) (.slice qa m da) (.int .i64 k0) (.int .i64 k1) (.int .i64 k2) (.int .i64 k3) (.int .i64 k4) (.slice bp bn bc) (.slice bq bm bd) (.int .i64 l0) (.int .i64 l1) (.int .i64 l2) (.int .i64 l3) (.int .i64 l4) (.slice cp cn cc) (.slice cq cm cd2) w4.heap.size zs.length m (zs.map (Value.int .i64)) (flV vs) (.slice pd zs.length cd) (.slice qd m dd) zs.length m bn cm cn wr)) (fun iv _ => cn - (intOf iv).toNat)
          case atStart => exact ⟨0, rfl, Nat.zero_le _, BR⟩
          case round =>
           obtain ⟨i, rfl, hi, BR⟩ := hrel
           obtain ⟨-, -, -, qb, qc, -, -, r1, r2, r3, r4, r5⟩ := BR.out
           have cx := qc.1.2.2.2.2.2.1
           clear qb qc
           by_cases him : i < cn
           ·have hi2 : (i : Int) < cn := by omega
            have hi0 : (0 : Int) <= i := by omega
            have hib : (i : Int) < 1000 := by omega
            obtain ⟨g, hp, hlt, ⟨z, hz⟩, hf⟩ := r5.at him
            clear r1 r2 r3 r4 r5
            subst hp
            go_wp2_with fail
            go_roundw
            case rel => exact ⟨i + 1, by simp, by omega, Lib.hid (BR.out.putC SPC.out rfl him)⟩
            case measure => simp [intOf]; omega
           ·have gN : decide ((i : Int) < cn) = false := by simp; omega
            clear r1 r2 r3 r4 r5
            obtain ⟨q1, ⟨⟨t0, t1, t2, t3, t4, t5, t6⟩, -⟩, ⟨⟨a0, a1, a2, a3, a4, a5, a6⟩, -⟩, -, -, qA, qB, -⟩ := BR.out
            clear hi
            go_wp2_with (first | (go_at_call 22; (with_reducible refine (BTT.out pa p ca c qa (some ⟨vb, vo, none⟩) da d _ (Lib.hid (SlI_of qA rfl)) (Lib.hid (SlV_of qB HM.out)) (Lib.hid (SlI.keep q1 RA.out)) (Lib.hid (SlV.below RB.out q1))).mono ?_); rintro e w9 ⟨rfl, hb⟩; have KB := Lib.hid (q1.trans (hb.mono q1.size)); clear hb) | (go_at_call 15; (with_reducible refine (EX.out _ (HLA.out.below KB.out)).mono ?_); rintro e wX ⟨rfl, hb⟩; have KX := Lib.hid (KB.out.trans (hb.mono KB.out.size)); clear hb))
            go_ret
            exact ⟨rfl, KX.out⟩
end Go.Proofs.YteaaikmejacpaaaGreatDoor.Te

namespace Go.Proofs.YteaaikmejacpaaaGreatDoor.Te
open Go.ChangeShapes Go.WideShapes Go.ChangeAt Go.RowKit
open Fx Va Sh
set_option maxRecDepth 8000
set_option linter.unusedVariables false
set_option linter.unusedSimpArgs false

set_option maxRecDepth 100000 in
set_option maxHeartbeats 2000000 in
theorem law_in (K B F R O : Int) (p : Option Addr) (zs : List Int) (c : Nat) (q : Option Addr) (vs : List (Int × Int)) (d : Nat) (a a' : Int) (x : Option Addr) (xs : List Int) (e : Nat) (w : World) (b0 : -9223372036854775808 <= B) (b1 : B <= 9223372036854775807) (hn : zs.length <= maxLen) (hm : vs.length <= maxLen) (hx : xs.length <= maxLen) (RA : Hid (SlI w p zs)) (RB : Hid (SlV w q vs)) (RX : Hid (SlI w x xs)) (hLA : Tx.LA w)  :
  Calls Tryz.prog 4 #[Tn K B F R O p zs.length c q vs.length d, .agg #[.int .i64 a, .int .i64 a'], .slice x xs.length e] w fun en w' => en = .returned (.bool true) /\ Below w.heap.size w w' := by
 cases hs : (decide ((vs.length : Int) <= 500) && decide (zs.length <= 20))
 ·exact in_a K B F R O p zs c q vs d a a' x xs e w b0 b1 hn hm hx RA RB RX hLA hs
 ·by_cases hl : 20 < xs.length
  ·exact in_b K B F R O p zs c q vs d a a' x xs e w b0 b1 hn hm hx RA RB RX hLA hs hl
  ·by_cases ht : tE K B F R O zs vs = 0
   ·exact in_d K B F R O p zs c q vs d a a' x xs e w b0 b1 hn hm hx RA RB RX hLA hs hl ht
   ·exact in_c K B F R O p zs c q vs d a a' x xs e w b0 b1 hn hm hx RA RB RX hLA hs hl ht
end Go.Proofs.YteaaikmejacpaaaGreatDoor.Te
