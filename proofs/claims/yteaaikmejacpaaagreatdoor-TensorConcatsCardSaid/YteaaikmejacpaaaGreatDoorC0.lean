/- What TensorConcats needs beside the base. -/
import Derived.Test.YteaaikmejacpaaaGreatDoorE16
import Derived.Test.YteaaikmejacpaaaGreatDoorR0
import Derived.Test.YteaaikmejacpaaaGreatDoorR1
import Derived.Test.YteaaikmejacpaaaGreatDoorR10
import Derived.Test.YteaaikmejacpaaaGreatDoorR11
import Derived.Test.YteaaikmejacpaaaGreatDoorR12
import Derived.Test.YteaaikmejacpaaaGreatDoorR13
import Derived.Test.YteaaikmejacpaaaGreatDoorR14
import Derived.Test.YteaaikmejacpaaaGreatDoorR16
import Derived.Test.YteaaikmejacpaaaGreatDoorR17
import Derived.Test.YteaaikmejacpaaaGreatDoorR18
import Derived.Test.YteaaikmejacpaaaGreatDoorR19
import Derived.Test.YteaaikmejacpaaaGreatDoorR2
import Derived.Test.YteaaikmejacpaaaGreatDoorR20
import Derived.Test.YteaaikmejacpaaaGreatDoorR3
import Derived.Test.YteaaikmejacpaaaGreatDoorR4
import Derived.Test.YteaaikmejacpaaaGreatDoorR5
import Derived.Test.YteaaikmejacpaaaGreatDoorR6
import Derived.Test.YteaaikmejacpaaaGreatDoorR7
import Derived.Test.YteaaikmejacpaaaGreatDoorR8
import Derived.Test.YteaaikmejacpaaaGreatDoorR9
import Derived.Lib.ParseIntB
import Derived.Lib.ItoaNum
import Derived.Lib.Bytealg
import Derived.Lib.Strings
import Derived.Deep.Cut
import Derived.Deep.CutRange
namespace Go.Proofs.YteaaikmejacpaaaGreatDoor.Te
open Go.ChangeShapes Go.WideShapes Go.ChangeAt Go.RowKit
open Fx Va Sh
set_option maxRecDepth 8000
set_option linter.unusedVariables false
set_option linter.unusedSimpArgs false

theorem B7.set5 {u : World} {b : Nat} {x0 x1 x2 x3 x4 x5 x6 v : Value} (h : B7 u b x0 x1 x2 x3 x4 x5 x6) : B7 (u.setCell ⟨b, 5, none⟩ v) b x0 x1 x2 x3 x4 v x6 := by
 obtain ⟨⟨c0, c1, c2, c3, c4, c5, c6⟩, ⟨f0, f1, f2, f3, f4, f5, f6⟩⟩ := h
 exact ⟨⟨(World.cell?_setCell_other _ _ _ _ (by simp)).trans c0, (World.cell?_setCell_other _ _ _ _ (by simp)).trans c1, (World.cell?_setCell_other _ _ _ _ (by simp)).trans c2, (World.cell?_setCell_other _ _ _ _ (by simp)).trans c3, (World.cell?_setCell_other _ _ _ _ (by simp)).trans c4, World.cell?_setCell_same _ _ _ c5, (World.cell?_setCell_other _ _ _ _ (by simp)).trans c6⟩, ⟨(World.frozen?_setCell _ _ _ _).trans f0, (World.frozen?_setCell _ _ _ _).trans f1, (World.frozen?_setCell _ _ _ _).trans f2, (World.frozen?_setCell _ _ _ _).trans f3, (World.frozen?_setCell _ _ _ _).trans f4, (World.frozen?_setCell _ _ _ _).trans f5, (World.frozen?_setCell _ _ _ _).trans f6⟩⟩

end Go.Proofs.YteaaikmejacpaaaGreatDoor.Te

namespace Go.Proofs.YteaaikmejacpaaaGreatDoor.Tx
open Go.ChangeShapes Go.WideShapes Go.ChangeAt Go.RowKit
open Fr Fx
set_option maxRecDepth 8000
set_option linter.unusedVariables false
set_option linter.unusedSimpArgs false
set_option maxRecDepth 8000

def fit (l : List UInt8) : Bool := decide (av l <= 2147483647)

end Go.Proofs.YteaaikmejacpaaaGreatDoor.Tx

namespace Go.Proofs.YteaaikmejacpaaaGreatDoor.Te
open Go.ChangeShapes Go.WideShapes Go.ChangeAt Go.RowKit
open Fx Va Sh
set_option maxRecDepth 8000
set_option linter.unusedVariables false
set_option linter.unusedSimpArgs false

theorem of_inj : ∀ (zs xs ys : List Int) (S n : Int), zs.any low = false -> xs.length = zs.length -> ys.length = zs.length -> of S zs xs = some n -> of S zs ys = some n -> 0 <= S -> xs = ys
 | [], [], [], _, _, _, _, _, _, _, _ => rfl
 | [], [], y :: ys, _, _, _, _, h, _, _, _ => absurd h (by simp)
 | [], x :: xs, _, _, _, _, h, _, _, _, _ => absurd h (by simp)
 | z :: zs, [], _, _, _, _, h, _, _, _, _ => absurd h (by simp)
 | z :: zs, x :: xs, [], _, _, _, _, h, _, _, _ => absurd h (by simp)
 | z :: zs, x :: xs, y :: ys, S, n, hl, h1, h2, h3, h4, hS => by
  rw [List.any_cons, Bool.or_eq_false_iff] at hl
  by_cases c1 : 0 <= x /\ x < z
  ·by_cases c2 : 0 <= y /\ y < z
   ·rw [of_go c1] at h3
    rw [of_go c2] at h4
    have hz : 0 <= S * z := Int.mul_nonneg hS (by omega)
    obtain ⟨a1, a2, a3⟩ := of_bd zs xs (S * z + x) n hl.2 (by simpa using h1) h3 (by omega)
    obtain ⟨b1, b2, b3⟩ := of_bd zs ys (S * z + y) n hl.2 (by simpa using h2) h4 (by omega)
    have hxy : x = y := by
     rcases Int.lt_trichotomy x y with h | h | h
     ·have := Int.mul_le_mul_of_nonneg_right (show S * z + x + 1 <= S * z + y by omega) (show 0 <= sp zs by omega)
      omega
     ·exact h
     ·have := Int.mul_le_mul_of_nonneg_right (show S * z + y + 1 <= S * z + x by omega) (show 0 <= sp zs by omega)
      omega
    subst hxy
    rw [of_inj zs xs ys (S * z + x) n hl.2 (by simpa using h1) (by simpa using h2) h3 h4 (by omega)]
   ·rw [of_none c2] at h4; cases h4
  ·rw [of_none c1] at h3; cases h3

end Go.Proofs.YteaaikmejacpaaaGreatDoor.Te

namespace Go.Proofs.YteaaikmejacpaaaGreatDoor.Te
open Go.ChangeShapes Go.WideShapes Go.ChangeAt Go.RowKit
open Fx Va Sh
set_option maxRecDepth 8000
set_option linter.unusedVariables false
set_option linter.unusedSimpArgs false

theorem take_snoc {l : List (Int × Int)} {j : Nat} (h : j < l.length) : l.take (j + 1) = l.take j ++ [((l.getD j (0, 0)).1, (l.getD j (0, 0)).2)] := by
 rw [List.take_add_one, List.getElem?_eq_getElem h, List.getD_eq_getElem?_getD, List.getElem?_eq_getElem h]
 rfl

end Go.Proofs.YteaaikmejacpaaaGreatDoor.Te

namespace Go.Proofs.YteaaikmejacpaaaGreatDoor.Te
open Go.ChangeShapes Go.WideShapes Go.ChangeAt Go.RowKit
open Fx Va Sh
set_option maxRecDepth 8000
set_option linter.unusedVariables false
set_option linter.unusedSimpArgs false

theorem flV_app (a b : List (Int × Int)) : flV (a ++ b) = flV a ++ flV b := by unfold flV; exact List.flatMap_append
theorem one_V (l : List (Int × Int)) : ∀ u ∈ flV l, u.oneCell' = true := fun u hu => by
 obtain ⟨z, rfl⟩ := flV_in hu
 rfl
theorem sl_cellsV {w : World} {b o x n : Nat} {vs : List (Int × Int)} (h : SlV w (some ⟨b, o, none⟩) vs) (hx : x + n <= vs.length) : ∀ (j : Nat) (u : Value), (flV ((vs.drop x).take n))[j]? = some u -> w.cell? ((⟨b, o + x * 2, none⟩ : Addr).add j) = some u := by
 intro j u hj
 have hl := (List.getElem?_eq_some_iff.1 hj).1
 rw [flV_len, List.length_take, List.length_drop] at hl
 have hk : j / 2 < ((vs.drop x).take n).length := by rw [List.length_take, List.length_drop]; omega
 obtain ⟨g0, g1⟩ := flV_get _ _ hk
 have e : ((vs.drop x).take n).getD (j / 2) (0, 0) = vs.getD (x + j / 2) (0, 0) := by
  rw [List.getD_eq_getElem?_getD, List.getD_eq_getElem?_getD, List.getElem?_take_of_lt (by omega), List.getElem?_drop]
 rw [e] at g0 g1
 obtain ⟨b', o', ee, c0, c1⟩ := h (x + j / 2) (by omega)
 cases ee
 rw [add_at]
 by_cases hp : j % 2 = 0
 ·rw [show j / 2 * 2 = j by omega] at g0
  rw [g0] at hj
  rw [show o + x * 2 + j = o + (x + j / 2) * 2 by omega, c0]
  exact hj
 ·rw [show j / 2 * 2 + 1 = j by omega] at g1
  rw [g1] at hj
  rw [show o + x * 2 + j = o + (x + j / 2) * 2 + 1 by omega, c1]
  exact hj

end Go.Proofs.YteaaikmejacpaaaGreatDoor.Te

namespace Go.Proofs.YteaaikmejacpaaaGreatDoor.Te
open Go.ChangeShapes Go.WideShapes Go.ChangeAt Go.RowKit
open Fx Va Sh
set_option maxRecDepth 8000
set_option linter.unusedVariables false
set_option linter.unusedSimpArgs false

theorem take_snocI {l : List Int} {j : Nat} (h : j < l.length) : l.take (j + 1) = l.take j ++ [l.getD j 0] := by
 rw [List.take_add_one, List.getElem?_eq_getElem h, List.getD_eq_getElem?_getD, List.getElem?_eq_getElem h]
 rfl
theorem set_getI {l : List Int} {a j : Nat} {v : Int} (h : j < l.length) : (l.set a v).getD j 0 = if a = j then v else l.getD j 0 := by
 rw [List.getD_eq_getElem?_getD, List.getElem?_set]
 by_cases e : a = j
 ·rw [if_pos e, if_pos e, if_pos (by omega)]; rfl
 ·rw [if_neg e, if_neg e, List.getD_eq_getElem?_getD]
theorem row_baseI {u : World} {B n : Nat} {v : Value} {xs : List Value} (h : u.ownsRow B 3 1 v n xs) : ∀ k, v.ownBlock = some k -> B <= k := fun k e => (h.lt k e).1
theorem newsI (u : World) (x : Int) {b : Nat} (hb : u.heap.size = b) : ∀ (j : Nat) (v : Value), ([Value.int .i64 x] : List Value)[j]? = some v -> (u.alloc (Obj.cells #[Value.int .i64 x] 3)).cell? ((⟨b, 0, none⟩ : Addr).add j) = some v := by
 subst hb
 intro j v hj
 rw [add_at, Nat.zero_add]
 rcases j with _ | j
 ·cases hj; go_cell
 ·cases hj
theorem one1 (x : Int) : ∀ v ∈ ([Value.int .i64 x] : List Value), v.oneCell' = true := by
 intro v hv
 rw [List.mem_singleton] at hv
 subst hv
 rfl

end Go.Proofs.YteaaikmejacpaaaGreatDoor.Te

namespace Go.Proofs.YteaaikmejacpaaaGreatDoor.Te
open Go.ChangeShapes Go.WideShapes Go.ChangeAt Go.RowKit
open Fx Va Sh
set_option maxRecDepth 8000
set_option linter.unusedVariables false
set_option linter.unusedSimpArgs false

theorem own_setP {u : World} {base : Nat} {E : TypeId} {sz n : Nat} {v : Value} {xs : List Value} (h : u.ownsRow base E sz v n xs) {A g o : Nat} {y : Value} (hA : ∀ k, v.ownBlock = some k -> k < A) (hg : A <= g) : (u.setCell ⟨g, o, none⟩ y).ownsRow base E sz v n xs := h.kept grown_set (by
 cases hb : v.ownBlock with
 | none => exact .inl rfl
 | some q => exact .inr (fun e => by have e' : q = g := Option.some.inj e; have := hA _ hb; omega))

end Go.Proofs.YteaaikmejacpaaaGreatDoor.Te

namespace Go.Proofs.YteaaikmejacpaaaGreatDoor.Te
open Go.ChangeShapes Go.WideShapes Go.ChangeAt Go.RowKit
open Fx Va Sh
set_option maxRecDepth 8000
set_option linter.unusedVariables false
set_option linter.unusedSimpArgs false

theorem TS.no {er : Int} {w w' : World} (hb : Below w.heap.size w w') : TS 0 0 0 0 0 [] [] er w (.returned (.tuple #[.agg #[.int .i64 0, .int .i64 0, .int .i64 0, .int .i64 0, .int .i64 0, .slice none 0 0, .slice none 0 0], .int .i64 er])) w' := (TRes.no hb).ts

end Go.Proofs.YteaaikmejacpaaaGreatDoor.Te

namespace Go.Proofs.YteaaikmejacpaaaGreatDoor.Te
open Go.ChangeShapes Go.WideShapes Go.ChangeAt Go.RowKit
open Fx Va Sh
set_option maxRecDepth 8000
set_option linter.unusedVariables false
set_option linter.unusedSimpArgs false

/-- A block of two cells that may be stored to. -/
def B2 (u : World) (b : Nat) (x y : Value) : Prop := (u.cell? ⟨b, 0, none⟩ = some x /\ u.cell? ⟨b, 1, none⟩ = some y) /\ u.frozen? ⟨b, 0, none⟩ = false /\ u.frozen? ⟨b, 1, none⟩ = false
section
variable {u u' : World} {b r o Bd : Nat} {x y x' y' v : Value}
theorem B2.lt (h : B2 u b x y) : b < u.heap.size := World.block_lt_of_cell? _ _ h.1.1
theorem B2.same (hc : ∀ o, u'.cell? ⟨b, o, none⟩ = u.cell? ⟨b, o, none⟩) (hf : ∀ o, u'.frozen? ⟨b, o, none⟩ = u.frozen? ⟨b, o, none⟩) (h : B2 u b x y) : B2 u' b x y := by
 obtain ⟨⟨c0, c1⟩, f0, f1⟩ := h
 exact ⟨⟨(hc 0).trans c0, (hc 1).trans c1⟩, (hf 0).trans f0, (hf 1).trans f1⟩
theorem B2.keep (hb : Below Bd u u') (hlt : b < Bd) (h : B2 u b x y) : B2 u' b x y :=
 h.same (fun o' => World.cell?_of_block (hb.block b hlt)) (fun o' => World.frozen?_of_block (hb.block b hlt))
theorem B2.far (hr : r ≠ b) (h : B2 u b x y) : B2 (u.setCell ⟨r, o, none⟩ v) b x y := h.same (fun o' => World.cell?_setCell_far _ _ _ _ hr) (fun o' => World.frozen?_setCell _ _ _ _)
theorem B2.st (h : B2 u b x y) : B2 ((u.setCell ⟨b, 0, none⟩ x').setCell ⟨b, 1, none⟩ y') b x' y' := by
 obtain ⟨⟨c0, c1⟩, f0, f1⟩ := h
 refine ⟨⟨?_, ?_⟩, by simpa [World.frozen?_setCell] using f0, by simpa [World.frozen?_setCell] using f1⟩
 ·rw [World.cell?_setCell_other _ _ _ _ (by simp)]
  exact World.cell?_setCell_same _ _ _ c0
 ·exact World.cell?_setCell_same _ _ _ ((World.cell?_setCell_other _ _ _ _ (by simp)).trans c1)
theorem B2.new (u : World) (T : TypeId) (x y : Value) : B2 (u.alloc (Obj.cells #[x, y] T)) u.heap.size x y := by
 refine ⟨⟨?_, ?_⟩, ?_, ?_⟩ <;> go_cell
end

end Go.Proofs.YteaaikmejacpaaaGreatDoor.Te

namespace Go.Proofs.YteaaikmejacpaaaGreatDoor.Te
open Go.ChangeShapes Go.WideShapes Go.ChangeAt Go.RowKit
open Fx Va Sh
set_option maxRecDepth 8000
set_option linter.unusedVariables false
set_option linter.unusedSimpArgs false

/-- A row of numbers whose block lies between two bounds; what it holds is not said. -/
def AnyI (u : World) (lo hi : Nat) (v : Value) (n : Nat) : Prop := (∃ zs : List Int, u.ownsRow lo 3 1 v n (zs.map (Value.int .i64)) /\ zs.length = n) /\ ∀ k, v.ownBlock = some k -> k < hi
/-- The same for a row of elements. -/
def AnyV (u : World) (lo hi : Nat) (v : Value) (n : Nat) : Prop := (∃ vs : List (Int × Int), u.ownsRow lo 29 2 v n (flV vs) /\ vs.length = n) /\ ∀ k, v.ownBlock = some k -> k < hi
theorem AnyI.below {u u' : World} {lo hi n : Nat} {v : Value} (h : AnyI u lo hi v n) (hb : Below u.heap.size u u') : AnyI u' lo hi v n := by
 obtain ⟨⟨zs, o, l⟩, hk⟩ := h
 exact ⟨⟨zs, own_belowE o hb, l⟩, hk⟩
theorem AnyV.below {u u' : World} {lo hi n : Nat} {v : Value} (h : AnyV u lo hi v n) (hb : Below u.heap.size u u') : AnyV u' lo hi v n := by
 obtain ⟨⟨zs, o, l⟩, hk⟩ := h
 exact ⟨⟨zs, own_belowE o hb, l⟩, hk⟩
/-- A store elsewhere leaves it. -/
theorem AnyI.far {u : World} {lo hi n g o : Nat} {v y : Value} (h : AnyI u lo hi v n) (hg : g < lo \/ hi <= g) : AnyI (u.setCell ⟨g, o, none⟩ y) lo hi v n := by
 obtain ⟨⟨zs, ow, l⟩, hk⟩ := h
 refine ⟨⟨zs, ?_, l⟩, hk⟩
 rcases hg with hg | hg
 ·exact own_set ow hg
 ·exact own_setP ow hk hg
theorem AnyV.far {u : World} {lo hi n g o : Nat} {v y : Value} (h : AnyV u lo hi v n) (hg : g < lo \/ hi <= g) : AnyV (u.setCell ⟨g, o, none⟩ y) lo hi v n := by
 obtain ⟨⟨zs, ow, l⟩, hk⟩ := h
 refine ⟨⟨zs, ?_, l⟩, hk⟩
 rcases hg with hg | hg
 ·exact own_set ow hg
 ·exact own_setP ow hk hg
/-- A store into the row itself. -/
theorem AnyI.put {u : World} {lo hi n c g j : Nat} {y : Int} (h : AnyI u lo hi (.slice (some ⟨g, 0, none⟩) n c) n) : AnyI (u.setCell ⟨g, j, none⟩ (.int .i64 y)) lo hi (.slice (some ⟨g, 0, none⟩) n c) n := by
 obtain ⟨⟨zs, ow, l⟩, hk⟩ := h
 refine ⟨⟨zs.set j y, ?_, by rw [List.length_set]; exact l⟩, hk⟩
 rw [List.map_set]
 exact (ow.stored j _).1
/-- What lies at a place of it. -/
theorem AnyI.at {u : World} {lo hi n c g j : Nat} (h : AnyI u lo hi (.slice (some ⟨g, 0, none⟩) n c) n) (hj : j < n) : (∃ z : Int, u.cell? ⟨g, j, none⟩ = some (.int .i64 z)) /\ u.frozen? ⟨g, j, none⟩ = false := by
 obtain ⟨⟨zs, ow, l⟩, hk⟩ := h
 refine ⟨⟨zs.getD j 0, ?_⟩, ow.frozenAt j⟩
 rw [ow.cellAt j (by omega), List.getElem?_map, List.getElem?_eq_getElem (by omega), getD_at (by omega)]
 rfl
theorem AnyV.at {u : World} {lo hi n c g j : Nat} (h : AnyV u lo hi (.slice (some ⟨g, 0, none⟩) n c) n) (hj : j < n) : (∃ z : Int, u.cell? ⟨g, j * 2, none⟩ = some (.int .i64 z)) /\ u.frozen? ⟨g, j * 2, none⟩ = false := by
 obtain ⟨⟨vs, ow, l⟩, hk⟩ := h
 obtain ⟨v0, -⟩ := flV_get vs j (by omega)
 exact ⟨⟨_, (ow.cellAt (j * 2) (by omega)).trans v0⟩, ow.frozenAt (j * 2)⟩
theorem flV_set0 : ∀ (vs : List (Int × Int)) (j : Nat) (y : Int), j < vs.length -> (flV vs).set (j * 2) (.int .i64 y) = flV (vs.set j (y, (vs.getD j (0, 0)).2))
 | [], j, y, h => absurd h (by simp)
 | v :: r, 0, y, _ => rfl
 | v :: r, j + 1, y, h => by
  have e : flV (v :: r) = .int .i64 v.1 :: .int .i64 v.2 :: flV r := rfl
  rw [e, show (j + 1) * 2 = j * 2 + 2 by omega, List.set_cons_succ, List.set_cons_succ, flV_set0 r j y (by simpa using h)]
  rfl
theorem AnyV.put {u : World} {lo hi n c g j : Nat} {y : Int} (h : AnyV u lo hi (.slice (some ⟨g, 0, none⟩) n c) n) (hj : j < n) : AnyV (u.setCell ⟨g, j * 2, none⟩ (.int .i64 y)) lo hi (.slice (some ⟨g, 0, none⟩) n c) n := by
 obtain ⟨⟨vs, ow, l⟩, hk⟩ := h
 refine ⟨⟨vs.set j (y, (vs.getD j (0, 0)).2), ?_, by rw [List.length_set]; exact l⟩, hk⟩
 rw [<- flV_set0 vs j y (by omega)]
 exact (ow.stored (j * 2) _).1
end Go.Proofs.YteaaikmejacpaaaGreatDoor.Te

namespace Go.Proofs.YteaaikmejacpaaaGreatDoor.Te
open Go.ChangeShapes Go.WideShapes Go.ChangeAt Go.RowKit
open Fx Va Sh
set_option maxRecDepth 8000
set_option linter.unusedVariables false
set_option linter.unusedSimpArgs false

/-- A row of numbers of the call's own; what it holds is not said. -/
def RI (u : World) (v : Value) (n : Nat) : Prop := ∃ (lo : Nat) (zs : List Int), zs.length = n /\ u.ownsRow lo 3 1 v n (zs.map (Value.int .i64))
/-- The same for a row of elements. -/
def RV (u : World) (v : Value) (n : Nat) : Prop := ∃ (lo : Nat) (vs : List (Int × Int)), vs.length = n /\ u.ownsRow lo 29 2 v n (flV vs)
theorem own_setN {u : World} {base : Nat} {E : TypeId} {sz n : Nat} {v : Value} {xs : List Value} (h : u.ownsRow base E sz v n xs) {g o : Nat} {y : Value} (hg : v.ownBlock ≠ some g) : (u.setCell ⟨g, o, none⟩ y).ownsRow base E sz v n xs := h.kept grown_set (.inr hg)
theorem RI.far {u : World} {v : Value} {n g o : Nat} {y : Value} (h : RI u v n) (hg : v.ownBlock ≠ some g) : RI (u.setCell ⟨g, o, none⟩ y) v n := by
 obtain ⟨lo, zs, l, ow⟩ := h
 exact ⟨lo, zs, l, own_setN ow hg⟩
theorem RV.far {u : World} {v : Value} {n g o : Nat} {y : Value} (h : RV u v n) (hg : v.ownBlock ≠ some g) : RV (u.setCell ⟨g, o, none⟩ y) v n := by
 obtain ⟨lo, zs, l, ow⟩ := h
 exact ⟨lo, zs, l, own_setN ow hg⟩
theorem RI.put {u : World} {n c g j : Nat} {y : Int} (h : RI u (.slice (some ⟨g, 0, none⟩) n c) n) : RI (u.setCell ⟨g, j, none⟩ (.int .i64 y)) (.slice (some ⟨g, 0, none⟩) n c) n := by
 obtain ⟨lo, zs, l, ow⟩ := h
 refine ⟨lo, zs.set j y, by rw [List.length_set]; exact l, ?_⟩
 rw [List.map_set]
 exact (ow.stored j _).1
theorem RV.put {u : World} {n c g j : Nat} {y : Int} (hj : j < n) (h : RV u (.slice (some ⟨g, 0, none⟩) n c) n) : RV (u.setCell ⟨g, j * 2, none⟩ (.int .i64 y)) (.slice (some ⟨g, 0, none⟩) n c) n := by
 obtain ⟨lo, vs, l, ow⟩ := h
 refine ⟨lo, vs.set j (y, (vs.getD j (0, 0)).2), by rw [List.length_set]; exact l, ?_⟩
 rw [<- flV_set0 vs j y (by omega)]
 exact (ow.stored (j * 2) _).1
theorem RI.at {u : World} {n c j : Nat} {p : Option Addr} (h : RI u (.slice p n c) n) (hj : j < n) : ∃ g, p = some ⟨g, 0, none⟩ /\ g < u.heap.size /\ (∃ z : Int, u.cell? ⟨g, j, none⟩ = some (.int .i64 z)) /\ u.frozen? ⟨g, j, none⟩ = false := by
 obtain ⟨lo, zs, l, ow⟩ := h
 rcases ow.2 with ⟨h0, hn⟩ | ⟨g, cap, cur, h0, -⟩
 ·omega
 ·cases h0
  refine ⟨g, rfl, (ow.lt g rfl).2, ⟨zs.getD j 0, ?_⟩, ow.frozenAt j⟩
  rw [ow.cellAt j (by omega), List.getElem?_map, List.getElem?_eq_getElem (by omega), getD_at (by omega)]
  rfl
theorem RV.at {u : World} {n c j : Nat} {p : Option Addr} (h : RV u (.slice p n c) n) (hj : j < n) : ∃ g, p = some ⟨g, 0, none⟩ /\ g < u.heap.size /\ (∃ z : Int, u.cell? ⟨g, j * 2, none⟩ = some (.int .i64 z)) /\ u.frozen? ⟨g, j * 2, none⟩ = false := by
 obtain ⟨lo, vs, l, ow⟩ := h
 rcases ow.2 with ⟨h0, hn⟩ | ⟨g, cap, cur, h0, -⟩
 ·omega
 ·cases h0
  obtain ⟨v0, -⟩ := flV_get vs j (by omega)
  exact ⟨g, rfl, (ow.lt g rfl).2, ⟨_, (ow.cellAt (j * 2) (by omega)).trans v0⟩, ow.frozenAt (j * 2)⟩

/-- A block apart from all that must stay. -/
def SP (w : World) (gt ga gb gc : Nat) (others : List Value) (v : Value) : Prop := ∀ g, v.ownBlock = some g -> w.heap.size <= g /\ g ≠ gt /\ g ≠ ga /\ g ≠ gb /\ g ≠ gc /\ ∀ r ∈ others, r.ownBlock ≠ some g

end Go.Proofs.YteaaikmejacpaaaGreatDoor.Te

namespace Go.Proofs.YteaaikmejacpaaaGreatDoor.Te
open Go.ChangeShapes Go.WideShapes Go.ChangeAt Go.RowKit
open Fx Va Sh
set_option maxRecDepth 8000
set_option linter.unusedVariables false
set_option linter.unusedSimpArgs false

/-- A tensor as an answer, whatever it is: two rows of the call's own. -/
def TAny (w : World) (e : Ending) (w' : World) : Prop := ∃ (k0 k1 k2 k3 k4 : Int) (p : Option Addr) (c : Nat) (q : Option Addr) (d n m : Nat) (er : Int) (zs : List Int) (vs : List (Int × Int)), e = .returned (.tuple #[.agg #[.int .i64 k0, .int .i64 k1, .int .i64 k2, .int .i64 k3, .int .i64 k4, .slice p n c, .slice q m d], .int .i64 er]) /\ (zs.length = n /\ vs.length = m /\ n <= 500 /\ m <= 500) /\ w'.ownsRow w.heap.size 3 1 (.slice p n c) n (zs.map (Value.int .i64)) /\ w'.ownsRow w.heap.size 29 2 (.slice q m d) m (flV vs) /\ Below w.heap.size w w'
theorem TRes.any {K B F R O : Int} {zs : List Int} {vs : List (Int × Int)} {er : Int} {w w' : World} {e : Ending} (h : TRes K B F R O zs vs er w e w') (hn : zs.length <= 500) (hm : vs.length <= 500) : TAny w e w' := by
 obtain ⟨p, c, q, d, rfl, h1, h2, hb⟩ := h
 exact ⟨K, B, F, R, O, p, c, q, d, _, _, er, zs, vs, rfl, ⟨rfl, rfl, hn, hm⟩, h1, h2, hb⟩
/-- The tensor as it was given, in rows of the call's own. -/
def TSame (K B F R O : Int) (n m : Nat) (zs : List Int) (vs : List (Int × Int)) (w : World) (e : Ending) (w' : World) : Prop := ∃ p c q d, e = .returned (.tuple #[.agg #[.int .i64 K, .int .i64 B, .int .i64 F, .int .i64 R, .int .i64 O, .slice p n c, .slice q m d], .int .i64 0]) /\ w'.ownsRow w.heap.size 3 1 (.slice p n c) n (zs.map (Value.int .i64)) /\ w'.ownsRow w.heap.size 29 2 (.slice q m d) m (flV vs) /\ Below w.heap.size w w'
theorem TRes.same {K B F R O : Int} {n m : Nat} {zs : List Int} {vs : List (Int × Int)} {w w' : World} {e : Ending} (h : TRes K B F R O zs vs 0 w e w') (hn : zs.length = n) (hm : vs.length = m) : TSame K B F R O n m zs vs w e w' := by
 subst hn hm
 exact h
theorem own_set7N {u : World} {base : Nat} {E : TypeId} {sz n r : Nat} {v : Value} {xs : List Value} {x0 x1 x2 x3 x4 x5 x6 : Value} (h : u.ownsRow base E sz v n xs) (hr : v.ownBlock ≠ some r) : (((((((u.setCell ⟨r, 0, none⟩ x0).setCell ⟨r, 1, none⟩ x1).setCell ⟨r, 2, none⟩ x2).setCell ⟨r, 3, none⟩ x3).setCell ⟨r, 4, none⟩ x4).setCell ⟨r, 5, none⟩ x5).setCell ⟨r, 6, none⟩ x6).ownsRow base E sz v n xs :=
 own_setN (own_setN (own_setN (own_setN (own_setN (own_setN (own_setN h hr) hr) hr) hr) hr) hr) hr
theorem own_lo {u : World} {B : Nat} {E : TypeId} {sz n : Nat} {v : Value} {xs : List Value} (h : u.ownsRow B E sz v n xs) : ∀ k, v.ownBlock = some k -> B <= k /\ k < u.heap.size := fun k e => h.lt k e
theorem blk_ne {v : Value} {A Z g : Nat} (h : ∀ k, v.ownBlock = some k -> A <= k /\ k < Z) (hg : g < A \/ Z <= g) : v.ownBlock ≠ some g := fun e => by have := h g e; omega

end Go.Proofs.YteaaikmejacpaaaGreatDoor.Te

namespace Go.Proofs.YteaaikmejacpaaaGreatDoor.Te
open Go.ChangeShapes Go.WideShapes Go.ChangeAt Go.RowKit
open Fx Va Sh
set_option maxRecDepth 8000
set_option linter.unusedVariables false
set_option linter.unusedSimpArgs false

/-- A tensor, with the slices that hold it. -/
structure Tr where
 K : Int
 B : Int
 F : Int
 R : Int
 O : Int
 p : Option Addr
 zs : List Int
 c : Nat
 q : Option Addr
 vs : List (Int × Int)
 d : Nat
/-- What a tensor handed in is. -/
def okT (t : Tr) : Prop := -9223372036854775808 <= t.B /\ t.B <= 9223372036854775807 /\ t.zs.length <= t.c /\ t.c <= maxLen /\ t.vs.length <= t.d /\ t.d <= maxLen

def tEt (t : Tr) : Int := tE t.K t.B t.F t.R t.O t.zs t.vs
/-- Seven cells that hold a tensor. -/
def C7 (w : World) (b o : Nat) (t : Tr) : Prop := w.cell? ⟨b, o, none⟩ = some (.int .i64 t.K) /\ w.cell? ⟨b, o + 1, none⟩ = some (.int .i64 t.B) /\ w.cell? ⟨b, o + 2, none⟩ = some (.int .i64 t.F) /\ w.cell? ⟨b, o + 3, none⟩ = some (.int .i64 t.R) /\ w.cell? ⟨b, o + 4, none⟩ = some (.int .i64 t.O) /\ w.cell? ⟨b, o + 5, none⟩ = some (.slice t.p t.zs.length t.c) /\ w.cell? ⟨b, o + 6, none⟩ = some (.slice t.q t.vs.length t.d)
theorem C7.keep {w w' : World} {b o : Nat} {t : Tr} (hb : Below w.heap.size w w') (h : C7 w b o t) : C7 w' b o t := by
 obtain ⟨h0, h1, h2, h3, h4, h5, h6⟩ := h
 have l := World.block_lt_of_cell? _ _ h0
 exact ⟨Rg.keep hb l h0, Rg.keep hb l h1, Rg.keep hb l h2, Rg.keep hb l h3, Rg.keep hb l h4, Rg.keep hb l h5, Rg.keep hb l h6⟩
/-- A slice that reads as a list of tensors. -/
def SlX (w : World) (p : Option Addr) (L : List Tr) : Prop := ∀ i t, L[i]? = some t -> (∃ b o, p = some ⟨b, o, none⟩ /\ C7 w b (o + i * 7) t) /\ SlI w t.p t.zs /\ SlV w t.q t.vs
theorem SlX.keep {w w' : World} {p : Option Addr} {L : List Tr} (hb : Below w.heap.size w w') (h : SlX w p L) : SlX w' p L := fun i t e => by
 obtain ⟨⟨b, o, hp, hc⟩, hi, hv⟩ := h i t e
 exact ⟨⟨b, o, hp, hc.keep hb⟩, hi.keep hb, hv.below hb⟩
/-- The first error of the tensors themselves. -/
def ccV : List Tr -> Int
 | [] => 0
 | t :: r => if tEt t ≠ 0 then tEt t else ccV r
def tyq (h t : Tr) : Bool := decide (t.K = h.K) && (decide (t.B = h.B) && (decide (t.F = h.F) && (decide (t.R = h.R) && decide (t.O = h.O))))
/-- The first error of types and ranks. -/
def ccT (h : Tr) : List Tr -> Int
 | [] => 0
 | t :: r => if tyq h t = false then 10 else if t.zs.length ≠ h.zs.length then 11 else ccT h r
/-- Whether two shapes differ elsewhere than at an axis, from a place on. -/
def dfF (ax : Int) (a b : List Int) : Nat -> Nat -> Bool
 | 0, _ => false
 | f + 1, k => if (k : Int) ≠ ax /\ a.getD k 0 ≠ b.getD k 0 then true else dfF ax a b f (k + 1)
/-- The first error of lengths. -/
def ccD (ax : Int) (h : Tr) : List Tr -> Int
 | [] => 0
 | t :: r => if dfF ax t.zs h.zs h.zs.length 0 = true then 15 else ccD ax h r
/-- What checkConcat answers. -/
def ccE (ax : Int) : List Tr -> Int
 | [] => 1
 | h :: r => if ccV (h :: r) ≠ 0 then ccV (h :: r) else if ccT h r ≠ 0 then ccT h r else if ax < 0 \/ (h.zs.length : Int) <= ax then 11 else ccD ax h r
theorem drop_one {α : Type} {L : List α} {i : Nat} (h : i < L.length) : ∃ t, L[i]? = some t /\ L.drop i = t :: L.drop (i + 1) := ⟨L[i], List.getElem?_eq_getElem h, List.drop_eq_getElem_cons h⟩

end Go.Proofs.YteaaikmejacpaaaGreatDoor.Te

namespace Go.Proofs.YteaaikmejacpaaaGreatDoor.Te
open Go.ChangeShapes Go.WideShapes Go.ChangeAt Go.RowKit
open Fx Va Sh
set_option maxRecDepth 8000
set_option linter.unusedVariables false
set_option linter.unusedSimpArgs false

theorem ccE_v {ax E : Int} {L : List Tr} (h : ccV L = E) (hz : E ≠ 0) : ccE ax L = E := by
 cases L with
 | nil => exact absurd (by unfold ccV at h; exact h.symm) hz
 | cons x r =>
  show (if ccV (x :: r) ≠ 0 then ccV (x :: r) else _) = E
  rw [h, if_pos hz]
theorem ccE_eq {ax : Int} {L : List Tr} {h : Tr} {r : List Tr} (e : L = h :: r) (h0 : ccV L = 0) : ccE ax L = if ccT h r ≠ 0 then ccT h r else if ax < 0 \/ (h.zs.length : Int) <= ax then 11 else ccD ax h r := by
 subst e
 show (if ccV (h :: r) ≠ 0 then _ else _) = _
 rw [h0, if_neg (by simp)]
theorem drop_all {α : Type} {L : List α} {n : Nat} (h : L.length = n) : L.drop n = [] := List.drop_eq_nil_of_le (by omega)

theorem tyq_cases (h t : Tr) : (tyq h t = true /\ t.K = h.K /\ t.B = h.B /\ t.F = h.F /\ t.R = h.R /\ t.O = h.O) \/ (tyq h t = false /\ ((t.K == h.K) = false \/ (t.K = h.K /\ ((t.B == h.B) = false \/ (t.B = h.B /\ ((t.F == h.F) = false \/ (t.F = h.F /\ ((t.R == h.R) = false \/ (t.R = h.R /\ (t.O == h.O) = false))))))))) := by
 unfold tyq
 by_cases h0 : t.K = h.K <;> by_cases h1 : t.B = h.B <;> by_cases h2 : t.F = h.F <;> by_cases h3 : t.R = h.R <;> by_cases h4 : t.O = h.O <;> simp [h0, h1, h2, h3, h4]

theorem ccT_ok {h : Tr} : ∀ {r : List Tr}, ccT h r = 0 -> ∀ {t : Tr}, t ∈ r -> t.zs.length = h.zs.length
 | [], _, _, ht => absurd ht (by simp)
 | x :: r, e, t, ht => by
  unfold ccT at e
  by_cases h1 : tyq h x = false
  ·rw [if_pos h1] at e; exact absurd e (by decide)
  ·rw [if_neg h1] at e
   by_cases h2 : x.zs.length ≠ h.zs.length
   ·rw [if_pos h2] at e; exact absurd e (by decide)
   ·rw [if_neg h2] at e
    rcases List.mem_cons.1 ht with rfl | h3
    ·exact Classical.not_not.1 h2
    ·exact ccT_ok e h3

set_option maxRecDepth 100000 in
set_option maxHeartbeats 2000000 in
theorem ck_2 (ax : Int) (pb po : Nat) (L : List Tr) (cL : Nat) (w : World) (hn : L.length <= maxLen) (hc : L.length <= cL) (hcm : cL <= maxLen) (OK : ∀ t ∈ L, okT t) (RX : Hid (SlX w (some ⟨pb, po, none⟩) L)) (h1 : 2 <= L.length) :
  Calls Tryz.prog 74 #[.int .i64 ax, .slice (some ⟨pb, po, none⟩) L.length cL] w fun e w' => e = .returned (.int .i64 (ccE ax L)) /\ Below w.heap.size w w' := by
 have TVx := Lib.hid fun t (h : t ∈ L) u h1 h2 => tval t.K t.B t.F t.R t.O t.p t.zs t.c t.q t.vs t.d u (OK t h).1 (OK t h).2.1 (by have := OK t h; unfold okT at this; omega) (by have := OK t h; unfold okT at this; omega) h1 h2
 unfold Tn at TVx
 obtain ⟨h, heq, hdr0⟩ := drop_one (L := L) (i := 0) (by omega)
 rw [List.drop_zero] at hdr0
 obtain ⟨n, hnn⟩ : ∃ n, L.length = n := ⟨_, rfl⟩
 rw [hnn] at hn hc h1 ⊢
 have HN := Lib.hid hnn
 have HOK := Lib.hid OK
 have HEQ := Lib.hid heq
 have HD0 := Lib.hid hdr0
 obtain ⟨E, hE⟩ : ∃ E, ccV L = E := ⟨_, rfl⟩
 obtain ⟨AN, hAN⟩ : ∃ E, ccE ax L = E := ⟨_, rfl⟩
 rw [hAN]
 have HAN := Lib.hid hAN
 have HE := Lib.hid hE
 have gn : decide (n = 0) = false := by simp; omega
 have gn2 : decide ((n : Int) = 0) = false := by simp; omega
 have gn3 : ((n : Int) == 0) = false := by simp; omega
 unfold maxLen at hn hcm
 clear hnn OK hE hAN heq hdr0
 go_enter Tryz.func74, Tryz.ntmps74
 go_upto_region 4 with fail
 go_loopw [19] (fun iv wr => ∃ i : Nat, iv = .int .i64 (i : Int) /\ i <= n /\ Hid (ccV (L.drop i) = E) /\ Hid (Below w.heap.size w wr)) (fun iv _ => n - (intOf iv).toNat)
 case atStart => exact ⟨0, rfl, Nat.zero_le _, Lib.hid (by rw [List.drop_zero]; exact HE.out), Lib.hid (Below.refl _ _)⟩
 case round =>
  obtain ⟨i, rfl, hi, HI, KB⟩ := hrel
  by_cases him : i < n
  ·have hi2 : (i : Int) < n := by omega
   have hi0 : (0 : Int) <= i := by omega
   obtain ⟨t, het, hdr⟩ := drop_one (L := L) (i := i) (by rw [HN.out]; exact him)
   obtain ⟨⟨b, o, hp, hc7⟩, RI9, RV9⟩ := (SlX.keep KB.out RX.out) i t het
   cases hp
   obtain ⟨c0, c1, c2, c3, c4, c5, c6⟩ := hc7
   have TV := Lib.hid (TVx.out t (List.mem_of_getElem? het))
   have HI2 := HI.out
   rw [hdr] at HI2
   unfold ccV at HI2
   obtain ⟨e0, he0⟩ : ∃ e, tEt t = e := ⟨_, rfl⟩
   rw [he0] at HI2
   unfold tEt at he0
   rw [he0] at TV
   by_cases hz : e0 = 0
   ·rw [if_neg (by simpa using hz)] at HI2
    have HI3 := Lib.hid HI2
    subst hz
    clear he0 hdr het HI2
    go_wp2_with (first | (go_at_call 20; have W9 : Below wr.heap.size wr (wr.alloc (Obj.cells #[Value.int .i64 t.K, Value.int .i64 t.B, Value.int .i64 t.F, Value.int .i64 t.R, Value.int .i64 t.O, Value.slice t.p t.zs.length t.c, Value.slice t.q t.vs.length t.d] 27)) := (Below.refl _ _).alloc (Nat.le_refl _) _; (with_reducible refine (TV.out _ (Lib.hid (RI9.keep W9)) (Lib.hid (RV9.below W9))).mono ?_); rintro e w3 ⟨rfl, hb⟩; have K3 := Lib.hid (KB.out.trans ((W9.trans (hb.mono W9.size)).mono KB.out.size)); clear hb W9))
    go_roundw
    case rel => exact ⟨i + 1, by simp, by omega, HI3, K3⟩
    case measure => simp [intOf]; omega
   ·have hze : (e0 == 0) = false := by simpa using hz
    have hzn : (e0 != 0) = true := by simpa using hz
    rw [if_pos hz] at HI2
    have hAE : e0 = AN := by rw [<- HAN.out, ccE_v (HI2 ▸ HE.out) hz]
    subst hAE
    clear he0 hdr het HI2
    go_wp2_with (first | (go_at_call 20; have W9 : Below wr.heap.size wr (wr.alloc (Obj.cells #[Value.int .i64 t.K, Value.int .i64 t.B, Value.int .i64 t.F, Value.int .i64 t.R, Value.int .i64 t.O, Value.slice t.p t.zs.length t.c, Value.slice t.q t.vs.length t.d] 27)) := (Below.refl _ _).alloc (Nat.le_refl _) _; (with_reducible refine (TV.out _ (Lib.hid (RI9.keep W9)) (Lib.hid (RV9.below W9))).mono ?_); rintro e w3 ⟨rfl, hb⟩; have K3 := Lib.hid (KB.out.trans ((W9.trans (hb.mono W9.size)).mono KB.out.size)); clear hb W9))
    go_ret
    exact ⟨rfl, K3.out⟩
  ·obtain rfl : i = n := by omega
   have gN : decide ((i : Int) < i) = false := by simp
   have hE0 : E = 0 := by rw [<- HI.out, drop_all HN.out]; rfl
   have hAE := (ccE_eq (ax := ax) HD0.out (HE.out.trans hE0)).symm.trans HAN.out
   clear HI TVx HE HAN hi him
   subst hE0
   have hcl : ¬ cL = 1 := by omega
   have hil : (i : Int) <= 9223372036854775807 := by omega
   obtain ⟨ET, hET⟩ : ∃ e, ccT h (L.drop 1) = e := ⟨_, rfl⟩
   rw [hET] at hAE
   have HET := Lib.hid hET
   obtain ⟨hl, hhl⟩ : ∃ x, h.zs.length = x := ⟨_, rfl⟩
   rw [hhl] at hAE
   have HHL := Lib.hid hhl
   have HAE := Lib.hid hAE
   clear hET hAE hhl
   obtain ⟨r, hr⟩ : ∃ r, i - 1 = r := ⟨_, rfl⟩
   have HR := Lib.hid hr
   have hir : r + 1 = i := by omega
   go_upto_region 11 with fail
   have HIR := Lib.hid hir
   have hrl : (r : Int) < 9223372036854775807 := by omega
   clear hr hir gn gn2 gn3
   have KB1 := KB
   go_loopw [32] (fun iv wr => ∃ j : Nat, iv = .int .i64 (j : Int) /\ j <= r /\ Hid (ccT h (L.drop (1 + j)) = ET) /\ Hid (Below w.heap.size w wr)) (fun iv _ => r - (intOf iv).toNat)
   case atStart => exact ⟨0, rfl, Nat.zero_le _, Lib.hid HET.out, KB1⟩
   case round =>
    obtain ⟨j, rfl, hj, HJ, KB⟩ := hrel
    clear KB1
    by_cases hjr : j < r
    ·have hj2 : (j : Int) < r := by omega
     have hj0 : (0 : Int) <= j := by omega
     obtain ⟨⟨tK, tB, tF, tR, tO, tp, tz, tc, tq, tv, td⟩, het, hdr⟩ := drop_one (L := L) (i := 1 + j) (by have := HN.out; have := HIR.out; omega)
     have hj7 : po + (1 + j) * 7 = po + 7 + j * 7 := by omega
     obtain ⟨⟨b, o, hp, hc7⟩, -, -⟩ := (SlX.keep KB.out RX.out) (1 + j) _ het
     cases hp
     rw [hj7] at hc7
     obtain ⟨c0, c1, c2, c3, c4, c5, c6⟩ := hc7
     dsimp only at c0 c1 c2 c3 c4 c5 c6
     obtain ⟨⟨hb9, ho9, hhp, hh7⟩, -, -⟩ := (SlX.keep KB.out RX.out) 0 h HEQ.out
     cases hhp
     rw [Nat.zero_mul, Nat.add_zero] at hh7
     obtain ⟨h0, h1, h2, h3, h4, h5, h6⟩ := hh7
     have HJ2 := HJ.out
     rw [hdr, Nat.add_assoc] at HJ2
     unfold ccT at HJ2
     clear het hdr hj7
     go_upto_region 13 with fail
     have W9 : Below wr.heap.size wr (wr.alloc (Obj.cells #[Value.int .i64 tK, Value.int .i64 tB, Value.int .i64 tF, Value.int .i64 tR, Value.int .i64 tO, Value.slice tp tz.length tc, Value.slice tq tv.length td] 27)) := (Below.refl _ _).alloc (Nat.le_refl _) _
     have K4 := KB.out.trans (W9.mono KB.out.size)
     have M7 := B7.new wr 27 (.int .i64 tK) (.int .i64 tB) (.int .i64 tF) (.int .i64 tR) (.int .i64 tO) (.slice tp tz.length tc) (.slice tq tv.length td)
     replace h0 := Rg.keep W9 (World.block_lt_of_cell? _ _ h0) h0; replace h1 := Rg.keep W9 (World.block_lt_of_cell? _ _ h1) h1; replace h2 := Rg.keep W9 (World.block_lt_of_cell? _ _ h2) h2; replace h3 := Rg.keep W9 (World.block_lt_of_cell? _ _ h3) h3; replace h4 := Rg.keep W9 (World.block_lt_of_cell? _ _ h4) h4; replace h5 := Rg.keep W9 (World.block_lt_of_cell? _ _ h5) h5; replace h6 := Rg.keep W9 (World.block_lt_of_cell? _ _ h6) h6
     generalize (wr.alloc (Obj.cells #[Value.int .i64 tK, Value.int .i64 tB, Value.int .i64 tF, Value.int .i64 tR, Value.int .i64 tO, Value.slice tp tz.length tc, Value.slice tq tv.length td] 27)) = w4 at *
     have M7b := Lib.hid M7
     have H7b : Hid (C7 w4 pb po h) := Lib.hid ⟨h0, h1, h2, h3, h4, h5, h6⟩
     obtain ⟨⟨m0, m1, m2, m3, m4, m5, m6⟩, -⟩ := M7
     clear W9 c0 c1 c2 c3 c4 c5 c6
     have HJ3 := Lib.hid HJ2
     clear HJ2
     rcases tyq_cases h ⟨tK, tB, tF, tR, tO, tp, tz, tc, tq, tv, td⟩ with ⟨ht, rfl, rfl, rfl, rfl, rfl⟩ | ⟨ht, g | ⟨rfl, g | ⟨rfl, g | ⟨rfl, g | ⟨rfl, g⟩⟩⟩⟩⟩
     ·have HJ4 := HJ3.out
      rw [if_neg (by rw [ht]; decide)] at HJ4
      have HJ5 := Lib.hid HJ4
      clear ht HJ3 HJ4
      go_quiet (fail)
      obtain ⟨wo, hwo⟩ : ∃ wo : World, wo = w4.drewN nq := ⟨_, rfl⟩
      rw [<- hwo]
      have KO : Hid (Below w.heap.size w wo) := Lib.hid (by rw [hwo]; exact below_drewN K4 _)
      have MO : B7 wo (wr.heap.size) (.int .i64 h.K) (.int .i64 h.B) (.int .i64 h.F) (.int .i64 h.R) (.int .i64 h.O) (.slice tp tz.length tc) (.slice tq tv.length td) := by rw [hwo]; exact M7b.out
      have HO : C7 wo pb po h := by rw [hwo]; exact H7b.out
      clear hwo M7b H7b m0 m1 m2 m3 m4 m5 m6 h0 h1 h2 h3 h4 h5 h6 K4
      obtain ⟨⟨m0, m1, m2, m3, m4, m5, m6⟩, -⟩ := MO
      obtain ⟨h0, h1, h2, h3, h4, h5, h6⟩ := HO
      rw [HHL.out] at h5
      have HJ6 := HJ5.out
      rw [HHL.out] at HJ6
      obtain ⟨tl, htl⟩ : ∃ x, tz.length = x := ⟨_, rfl⟩
      dsimp only at HJ6
      rw [htl] at m5 HJ6 ⊢
      clear HJ5 htl
      go_upto_region 15 with fail
      by_cases hll : tl = hl
      ·rw [if_neg (by simpa using hll)] at HJ6
       subst hll
       have HJ7 := Lib.hid HJ6
       clear HJ6
       go_quiet (fail)
       go_wp2_with fail
       go_roundw
       case rel => exact ⟨j + 1, by simp, by omega, HJ7, Lib.hid (below_drewN KO.out _)⟩
       case measure => simp [intOf]; omega
      ·have gl : ((tl : Int) != (hl : Int)) = true := by simp; omega
       have gl2 : (tl != hl) = true := by simp; omega
       have hA : (11 : Int) = AN := by
        rw [if_pos hll] at HJ6
        rw [<- HAE.out, <- HJ6, if_pos (by decide)]
       subst hA
       clear HJ6 hll
       go_quiet (fail)
       go_wp2_with fail
       go_ret
       exact ⟨rfl, below_drewN KO.out _⟩
     all_goals
      have hA : (10 : Int) = AN := by
       have h2 := HJ3.out
       rw [if_pos ht] at h2
       rw [<- HAE.out, <- h2, if_pos (by decide)]
      subst hA
      clear ht HJ3
      go_quiet (fail)
      go_wp2_with fail
      go_ret
      exact ⟨rfl, below_drewN K4 _⟩
    ·obtain rfl : j = r := by omega
     have gN2 : decide ((j : Int) < j) = false := by simp
     have hET0 : ET = 0 := by rw [<- HJ.out, drop_all (by have := HN.out; have := HIR.out; omega)]; rfl
     have HTT := Lib.hid fun t (ht : t ∈ L.drop 1) => ccT_ok (HET.out.trans hET0) ht
     have hAE := HAE.out
     rw [hET0, if_neg (by decide)] at hAE
     obtain ⟨⟨hb9, ho9, hhp, hh7⟩, -, -⟩ := (SlX.keep KB.out RX.out) 0 h HEQ.out
     cases hhp
     rw [Nat.zero_mul, Nat.add_zero] at hh7
     obtain ⟨h0, h1, h2, h3, h4, h5, h6⟩ := hh7
     rw [HHL.out] at h5
     clear HJ HET HAE hj hjr
     subst hET0
     by_cases ha : ax < 0
     ·rw [if_pos (.inl ha)] at hAE
      subst hAE
      have ga : decide (ax < 0) = true := by simpa using ha
      go_wp2_with fail
      go_ret
      exact ⟨rfl, KB.out⟩
     have ga : decide (ax < 0) = false := by simpa using ha
     by_cases hb : (hl : Int) <= ax
     ·rw [if_pos (.inr hb)] at hAE
      subst hAE
      have gb : decide ((hl : Int) <= ax) = true := by simpa using hb
      go_wp2_with fail
      go_ret
      exact ⟨rfl, KB.out⟩
     have gb : decide ((hl : Int) <= ax) = false := by simpa using hb
     rw [if_neg (by omega)] at hAE
     have HAE := Lib.hid hAE
     have KB1 := KB
     have hr9 := HR.out
     go_upto_region 21 with fail
     clear hr9 gN2
     go_loopw [67] (fun iv wr => ∃ k : Nat, iv = .int .i64 (k : Int) /\ k <= j /\ Hid (ccD ax h (L.drop (1 + k)) = AN) /\ Hid (Below w.heap.size w wr)) (fun iv _ => j - (intOf iv).toNat)
     case atStart => exact ⟨0, rfl, Nat.zero_le _, HAE, KB1⟩
     case round =>
      obtain ⟨k, rfl, hk, HK, KB⟩ := hrel
      clear KB1 h0 h1 h2 h3 h4 h5 h6
      by_cases hkj : k < j
      ·have hk2 : (k : Int) < j := by omega
       have hk0 : (0 : Int) <= k := by omega
       obtain ⟨t, het, hdr⟩ := drop_one (L := L) (i := 1 + k) (by have := HN.out; have := HIR.out; omega)
       have htl : t.zs.length = hl := (HTT.out t (by rw [List.mem_iff_getElem?]; exact ⟨k, by rw [List.getElem?_drop]; exact het⟩)).trans HHL.out
       have hj7 : po + (1 + k) * 7 = po + 7 + k * 7 := by omega
       obtain ⟨⟨b, o, hp, hc7⟩, RI9, -⟩ := (SlX.keep KB.out RX.out) (1 + k) _ het
       cases hp
       rw [hj7] at hc7
       obtain ⟨c0, c1, c2, c3, c4, c5, c6⟩ := hc7
       rw [htl] at c5
       obtain ⟨⟨hb9, ho9, hhp, hh7⟩, RH9, -⟩ := (SlX.keep KB.out RX.out) 0 h HEQ.out
       cases hhp
       rw [Nat.zero_mul, Nat.add_zero] at hh7
       have HK2 := HK.out
       rw [hdr, Nat.add_assoc] at HK2
       unfold ccD at HK2
       rw [HHL.out] at HK2
       clear hdr hj7 het
       go_upto_region 23 with fail
       have W9 : Below wr.heap.size wr (wr.alloc (Obj.cells #[Value.int .i64 t.K, Value.int .i64 t.B, Value.int .i64 t.F, Value.int .i64 t.R, Value.int .i64 t.O, Value.slice t.p hl t.c, Value.slice t.q t.vs.length t.d] 27)) := (Below.refl _ _).alloc (Nat.le_refl _) _
       have K4 := Lib.hid (KB.out.trans (W9.mono KB.out.size))
       have M7 := B7.new wr 27 (.int .i64 t.K) (.int .i64 t.B) (.int .i64 t.F) (.int .i64 t.R) (.int .i64 t.O) (.slice t.p hl t.c) (.slice t.q t.vs.length t.d)
       have H7 := hh7.keep W9
       have RI4 := Lib.hid (RI9.keep W9)
       have RH4 := Lib.hid (RH9.keep W9)
       clear W9 c0 c1 c2 c3 c4 c5 c6 hh7 RI9 RH9
       generalize (wr.alloc (Obj.cells #[Value.int .i64 t.K, Value.int .i64 t.B, Value.int .i64 t.F, Value.int .i64 t.R, Value.int .i64 t.O, Value.slice t.p hl t.c, Value.slice t.q t.vs.length t.d] 27)) = w4 at *
       obtain ⟨⟨m0, m1, m2, m3, m4, m5, m6⟩, -⟩ := M7
       obtain ⟨h0, h1, h2, h3, h4, h5, h6⟩ := H7
       rw [HHL.out] at h5
       obtain ⟨D, hD⟩ : ∃ D, dfF ax t.zs h.zs hl 0 = D := ⟨_, rfl⟩
       rw [hD] at HK2
       have HDD := Lib.hid hD
       have HK3 := Lib.hid HK2
       have HTL := Lib.hid htl
       clear hD HK2 HK htl
       go_upto_region 24 with fail
       go_loopw [74] (fun iv wr => ∃ x : Nat, iv = .int .i64 (x : Int) /\ x <= hl /\ Hid (dfF ax t.zs h.zs (hl - x) x = D) /\ wr = w4) (fun iv _ => hl - (intOf iv).toNat)
       case atStart => exact ⟨0, rfl, Nat.zero_le _, HDD, rfl⟩
       case round =>
        obtain ⟨x, rfl, hx, HX, rfl⟩ := hrel
        by_cases hxl : x < hl
        ·have hx2 : (x : Int) < hl := by omega
         have hx0 : (0 : Int) <= x := by omega
         have hxm : (x : Int) < 9223372036854775807 := by have h := HOK.out h (List.mem_of_getElem? HEQ.out); unfold okT maxLen at h; have := HHL.out; omega
         obtain ⟨b1, o1, hp1, v1⟩ := RI4.out x (by rw [HTL.out]; exact hxl)
         obtain ⟨b2, o2, hp2, v2⟩ := RH4.out x (by rw [HHL.out]; exact hxl)
         have HX2 := HX.out
         rw [show hl - x = (hl - (x + 1)) + 1 by omega] at HX2
         unfold dfF at HX2
         obtain ⟨y1, hy1⟩ : ∃ y, t.zs.getD x 0 = y := ⟨_, rfl⟩
         obtain ⟨y2, hy2⟩ : ∃ y, h.zs.getD x 0 = y := ⟨_, rfl⟩
         rw [hy1] at v1 HX2
         rw [hy2] at v2 HX2
         clear hy1 hy2
         rw [hp1] at m5
         rw [hp2] at h5
         by_cases hxa : (x : Int) = ax
         ·rw [if_neg (fun h => h.1 hxa)] at HX2
          have HX3 := Lib.hid HX2
          have gx : ((x : Int) != ax) = false := by simpa using hxa
          clear HX2 hxa HX
          go_wp2_with fail
          go_roundw
          case rel => exact ⟨x + 1, by simp, by omega, HX3, trivial⟩
          case measure => simp [intOf]; omega
         ·have gx : ((x : Int) != ax) = true := by simpa using hxa
          by_cases hyy : y1 = y2
          ·rw [if_neg (fun h => h.2 hyy)] at HX2
           have HX3 := Lib.hid HX2
           subst hyy
           clear HX2 hxa HX
           go_wp2_with fail
           go_roundw
           case rel => exact ⟨x + 1, by simp, by omega, HX3, trivial⟩
           case measure => simp [intOf]; omega
          ·rw [if_pos ⟨hxa, hyy⟩] at HX2
           have gy : (y1 != y2) = true := by simpa using hyy
           have hA : (15 : Int) = AN := by
            have h2 := HK3.out
            rw [<- HX2, if_pos rfl] at h2
            exact h2
           subst hA
           clear HX2 hxa hyy HX
           go_wp2_with fail
           go_ret
           exact ⟨rfl, K4.out⟩
        ·obtain rfl : x = hl := by omega
         have gN5 : decide ((x : Int) < x) = false := by simp
         have HX2 := HX.out
         rw [Nat.sub_self] at HX2
         have hk3 : ccD ax h (L.drop (1 + (k + 1))) = AN := by
          have h2 := HK3.out
          rw [<- HX2] at h2
          unfold dfF at h2
          rw [if_neg (by decide)] at h2
          exact h2
         have HK4 := Lib.hid hk3
         clear HX2 hk3 HX hx hxl
         go_wp2_with fail
         go_roundw
         case rel => exact ⟨k + 1, by simp, by omega, HK4, K4⟩
         case measure => simp [intOf]; omega
      ·obtain rfl : k = j := by omega
       have gN6 : decide ((k : Int) < k) = false := by simp
       have hA : AN = 0 := by rw [<- HK.out, drop_all (by have := HN.out; have := HIR.out; omega)]; rfl
       subst hA
       clear HK hk hkj
       go_wp2_with fail
       go_ret
       exact ⟨rfl, KB.out⟩
end Go.Proofs.YteaaikmejacpaaaGreatDoor.Te

namespace Go.Proofs.YteaaikmejacpaaaGreatDoor.Te
open Go.ChangeShapes Go.WideShapes Go.ChangeAt Go.RowKit
open Fx Va Sh
set_option maxRecDepth 8000
set_option linter.unusedVariables false
set_option linter.unusedSimpArgs false

set_option maxRecDepth 100000 in
set_option maxHeartbeats 2000000 in
theorem ck_1 (ax : Int) (pb po : Nat) (L : List Tr) (cL : Nat) (w : World) (hn : L.length <= maxLen) (hc : L.length <= cL) (hcm : cL <= maxLen) (OK : ∀ t ∈ L, okT t) (RX : Hid (SlX w (some ⟨pb, po, none⟩) L)) (h1 : L.length = 1) (hcl : ¬ cL = 1) :
  Calls Tryz.prog 74 #[.int .i64 ax, .slice (some ⟨pb, po, none⟩) L.length cL] w fun e w' => e = .returned (.int .i64 (ccE ax L)) /\ Below w.heap.size w w' := by
 have TVx := Lib.hid fun t (h : t ∈ L) u h1 h2 => tval t.K t.B t.F t.R t.O t.p t.zs t.c t.q t.vs t.d u (OK t h).1 (OK t h).2.1 (by have := OK t h; unfold okT at this; omega) (by have := OK t h; unfold okT at this; omega) h1 h2
 unfold Tn at TVx
 obtain ⟨h, heq, hdr0⟩ := drop_one (L := L) (i := 0) (by omega)
 rw [List.drop_zero] at hdr0
 obtain ⟨n, hnn⟩ : ∃ n, L.length = n := ⟨_, rfl⟩
 rw [hnn] at hn hc h1 ⊢
 have HN1 := Lib.hid h1
 have HCL := Lib.hid hcl
 clear hcl
 replace h1 : 1 <= n := by omega
 have HN := Lib.hid hnn
 have HOK := Lib.hid OK
 have HEQ := Lib.hid heq
 have HD0 := Lib.hid hdr0
 obtain ⟨E, hE⟩ : ∃ E, ccV L = E := ⟨_, rfl⟩
 obtain ⟨AN, hAN⟩ : ∃ E, ccE ax L = E := ⟨_, rfl⟩
 rw [hAN]
 have HAN := Lib.hid hAN
 have HE := Lib.hid hE
 have gn : decide (n = 0) = false := by simp; omega
 have gn2 : decide ((n : Int) = 0) = false := by simp; omega
 have gn3 : ((n : Int) == 0) = false := by simp; omega
 unfold maxLen at hn hcm
 clear hnn OK hE hAN heq hdr0
 go_enter Tryz.func74, Tryz.ntmps74
 go_upto_region 4 with fail
 go_loopw [19] (fun iv wr => ∃ i : Nat, iv = .int .i64 (i : Int) /\ i <= n /\ Hid (ccV (L.drop i) = E) /\ Hid (Below w.heap.size w wr)) (fun iv _ => n - (intOf iv).toNat)
 case atStart => exact ⟨0, rfl, Nat.zero_le _, Lib.hid (by rw [List.drop_zero]; exact HE.out), Lib.hid (Below.refl _ _)⟩
 case round =>
  obtain ⟨i, rfl, hi, HI, KB⟩ := hrel
  by_cases him : i < n
  ·have hi2 : (i : Int) < n := by omega
   have hi0 : (0 : Int) <= i := by omega
   obtain ⟨t, het, hdr⟩ := drop_one (L := L) (i := i) (by rw [HN.out]; exact him)
   obtain ⟨⟨b, o, hp, hc7⟩, RI9, RV9⟩ := (SlX.keep KB.out RX.out) i t het
   cases hp
   obtain ⟨c0, c1, c2, c3, c4, c5, c6⟩ := hc7
   have TV := Lib.hid (TVx.out t (List.mem_of_getElem? het))
   have HI2 := HI.out
   rw [hdr] at HI2
   unfold ccV at HI2
   obtain ⟨e0, he0⟩ : ∃ e, tEt t = e := ⟨_, rfl⟩
   rw [he0] at HI2
   unfold tEt at he0
   rw [he0] at TV
   by_cases hz : e0 = 0
   ·rw [if_neg (by simpa using hz)] at HI2
    have HI3 := Lib.hid HI2
    subst hz
    clear he0 hdr het HI2
    go_wp2_with (first | (go_at_call 20; have W9 : Below wr.heap.size wr (wr.alloc (Obj.cells #[Value.int .i64 t.K, Value.int .i64 t.B, Value.int .i64 t.F, Value.int .i64 t.R, Value.int .i64 t.O, Value.slice t.p t.zs.length t.c, Value.slice t.q t.vs.length t.d] 27)) := (Below.refl _ _).alloc (Nat.le_refl _) _; (with_reducible refine (TV.out _ (Lib.hid (RI9.keep W9)) (Lib.hid (RV9.below W9))).mono ?_); rintro e w3 ⟨rfl, hb⟩; have K3 := Lib.hid (KB.out.trans ((W9.trans (hb.mono W9.size)).mono KB.out.size)); clear hb W9))
    go_roundw
    case rel => exact ⟨i + 1, by simp, by omega, HI3, K3⟩
    case measure => simp [intOf]; omega
   ·have hze : (e0 == 0) = false := by simpa using hz
    have hzn : (e0 != 0) = true := by simpa using hz
    rw [if_pos hz] at HI2
    have hAE : e0 = AN := by rw [<- HAN.out, ccE_v (HI2 ▸ HE.out) hz]
    subst hAE
    clear he0 hdr het HI2
    go_wp2_with (first | (go_at_call 20; have W9 : Below wr.heap.size wr (wr.alloc (Obj.cells #[Value.int .i64 t.K, Value.int .i64 t.B, Value.int .i64 t.F, Value.int .i64 t.R, Value.int .i64 t.O, Value.slice t.p t.zs.length t.c, Value.slice t.q t.vs.length t.d] 27)) := (Below.refl _ _).alloc (Nat.le_refl _) _; (with_reducible refine (TV.out _ (Lib.hid (RI9.keep W9)) (Lib.hid (RV9.below W9))).mono ?_); rintro e w3 ⟨rfl, hb⟩; have K3 := Lib.hid (KB.out.trans ((W9.trans (hb.mono W9.size)).mono KB.out.size)); clear hb W9))
    go_ret
    exact ⟨rfl, K3.out⟩
  ·obtain rfl : i = n := by omega
   have gN : decide ((i : Int) < i) = false := by simp
   have hE0 : E = 0 := by rw [<- HI.out, drop_all HN.out]; rfl
   have hAE := (ccE_eq (ax := ax) HD0.out (HE.out.trans hE0)).symm.trans HAN.out
   clear HI TVx HE HAN hi him
   subst hE0
   have hil : (i : Int) <= 9223372036854775807 := by omega
   obtain ⟨r, hr⟩ : ∃ r, i - 1 = r := ⟨_, rfl⟩
   have HR := Lib.hid hr
   have HR0 : Hid (r = 0) := Lib.hid (by have := HN1.out; omega)
   have hLD : L.drop 1 = [] := drop_all (by have := HN.out; have := HN1.out; omega)
   rw [show L.drop (0 + 1) = [] from hLD] at hAE
   obtain ⟨hl, hhl⟩ : ∃ x, h.zs.length = x := ⟨_, rfl⟩
   rw [hhl] at hAE
   have HHL := Lib.hid hhl
   unfold ccT at hAE
   rw [if_neg (by decide)] at hAE
   have hi1 : 1 <= i := by omega
   clear hLD hhl h1
   have hcl := HCL.out
   go_upto_region 11 with fail
   clear gn gn2 gn3 hr hcl
   go_loopw [32] (fun iv wr => iv = .int .i64 0 /\ Hid (Below w.heap.size w wr)) (fun iv _ => 0)
   case atStart => exact ⟨rfl, KB⟩
   case round =>
    obtain ⟨rfl, KB⟩ := hrel
    have gz : decide ((0 : Int) < r) = false := by have := HR0.out; simp; omega
    have gz2 : decide (0 < r) = false := by have := HR0.out; simp; omega
    obtain ⟨⟨hb9, ho9, hhp, hh7⟩, -, -⟩ := (SlX.keep KB.out RX.out) 0 h HEQ.out
    cases hhp
    rw [Nat.zero_mul, Nat.add_zero] at hh7
    obtain ⟨h0, h1, h2, h3, h4, h5, h6⟩ := hh7
    rw [HHL.out] at h5
    by_cases ha : ax < 0
    ·rw [if_pos (.inl ha)] at hAE
     subst hAE
     have ga : decide (ax < 0) = true := by simpa using ha
     go_wp2_with fail
     go_ret
     exact ⟨rfl, KB.out⟩
    have ga : decide (ax < 0) = false := by simpa using ha
    by_cases hb : (hl : Int) <= ax
    ·rw [if_pos (.inr hb)] at hAE
     subst hAE
     have gb : decide ((hl : Int) <= ax) = true := by simpa using hb
     go_wp2_with fail
     go_ret
     exact ⟨rfl, KB.out⟩
    have gb : decide ((hl : Int) <= ax) = false := by simpa using hb
    rw [if_neg (by omega)] at hAE
    unfold ccD at hAE
    subst hAE
    have hr9 := HR.out
    have hcl := HCL.out
    go_upto_region 21 with fail
    clear hr9 hcl
    go_loopw [67] (fun iv wr => iv = .int .i64 0 /\ Hid (Below w.heap.size w wr)) (fun iv _ => 0)
    case atStart => exact ⟨rfl, KB⟩
    case round =>
     obtain ⟨rfl, KB⟩ := hrel
     clear h0 h1 h2 h3 h4 h5 h6
     go_wp2_with fail
     go_ret
     exact ⟨rfl, KB.out⟩

set_option maxRecDepth 100000 in
set_option maxHeartbeats 2000000 in
theorem ck_0 (ax : Int) (pb po : Nat) (L : List Tr) (cL : Nat) (w : World) (hn : L.length <= maxLen) (hc : L.length <= cL) (hcm : cL <= maxLen) (OK : ∀ t ∈ L, okT t) (RX : Hid (SlX w (some ⟨pb, po, none⟩) L)) (h1 : L.length = 1) (hcl : cL = 1) :
  Calls Tryz.prog 74 #[.int .i64 ax, .slice (some ⟨pb, po, none⟩) L.length cL] w fun e w' => e = .returned (.int .i64 (ccE ax L)) /\ Below w.heap.size w w' := by
 have TVx := Lib.hid fun t (h : t ∈ L) u h1 h2 => tval t.K t.B t.F t.R t.O t.p t.zs t.c t.q t.vs t.d u (OK t h).1 (OK t h).2.1 (by have := OK t h; unfold okT at this; omega) (by have := OK t h; unfold okT at this; omega) h1 h2
 unfold Tn at TVx
 obtain ⟨h, heq, hdr0⟩ := drop_one (L := L) (i := 0) (by omega)
 rw [List.drop_zero] at hdr0
 obtain ⟨n, hnn⟩ : ∃ n, L.length = n := ⟨_, rfl⟩
 rw [hnn] at hn hc h1 ⊢
 have HN1 := Lib.hid h1
 have HCL := Lib.hid hcl
 clear hcl
 replace h1 : 1 <= n := by omega
 have HN := Lib.hid hnn
 have HOK := Lib.hid OK
 have HEQ := Lib.hid heq
 have HD0 := Lib.hid hdr0
 obtain ⟨E, hE⟩ : ∃ E, ccV L = E := ⟨_, rfl⟩
 obtain ⟨AN, hAN⟩ : ∃ E, ccE ax L = E := ⟨_, rfl⟩
 rw [hAN]
 have HAN := Lib.hid hAN
 have HE := Lib.hid hE
 have gn : decide (n = 0) = false := by simp; omega
 have gn2 : decide ((n : Int) = 0) = false := by simp; omega
 have gn3 : ((n : Int) == 0) = false := by simp; omega
 unfold maxLen at hn hcm
 clear hnn OK hE hAN heq hdr0
 go_enter Tryz.func74, Tryz.ntmps74
 go_upto_region 4 with fail
 go_loopw [19] (fun iv wr => ∃ i : Nat, iv = .int .i64 (i : Int) /\ i <= n /\ Hid (ccV (L.drop i) = E) /\ Hid (Below w.heap.size w wr)) (fun iv _ => n - (intOf iv).toNat)
 case atStart => exact ⟨0, rfl, Nat.zero_le _, Lib.hid (by rw [List.drop_zero]; exact HE.out), Lib.hid (Below.refl _ _)⟩
 case round =>
  obtain ⟨i, rfl, hi, HI, KB⟩ := hrel
  by_cases him : i < n
  ·have hi2 : (i : Int) < n := by omega
   have hi0 : (0 : Int) <= i := by omega
   obtain ⟨t, het, hdr⟩ := drop_one (L := L) (i := i) (by rw [HN.out]; exact him)
   obtain ⟨⟨b, o, hp, hc7⟩, RI9, RV9⟩ := (SlX.keep KB.out RX.out) i t het
   cases hp
   obtain ⟨c0, c1, c2, c3, c4, c5, c6⟩ := hc7
   have TV := Lib.hid (TVx.out t (List.mem_of_getElem? het))
   have HI2 := HI.out
   rw [hdr] at HI2
   unfold ccV at HI2
   obtain ⟨e0, he0⟩ : ∃ e, tEt t = e := ⟨_, rfl⟩
   rw [he0] at HI2
   unfold tEt at he0
   rw [he0] at TV
   by_cases hz : e0 = 0
   ·rw [if_neg (by simpa using hz)] at HI2
    have HI3 := Lib.hid HI2
    subst hz
    clear he0 hdr het HI2
    go_wp2_with (first | (go_at_call 20; have W9 : Below wr.heap.size wr (wr.alloc (Obj.cells #[Value.int .i64 t.K, Value.int .i64 t.B, Value.int .i64 t.F, Value.int .i64 t.R, Value.int .i64 t.O, Value.slice t.p t.zs.length t.c, Value.slice t.q t.vs.length t.d] 27)) := (Below.refl _ _).alloc (Nat.le_refl _) _; (with_reducible refine (TV.out _ (Lib.hid (RI9.keep W9)) (Lib.hid (RV9.below W9))).mono ?_); rintro e w3 ⟨rfl, hb⟩; have K3 := Lib.hid (KB.out.trans ((W9.trans (hb.mono W9.size)).mono KB.out.size)); clear hb W9))
    go_roundw
    case rel => exact ⟨i + 1, by simp, by omega, HI3, K3⟩
    case measure => simp [intOf]; omega
   ·have hze : (e0 == 0) = false := by simpa using hz
    have hzn : (e0 != 0) = true := by simpa using hz
    rw [if_pos hz] at HI2
    have hAE : e0 = AN := by rw [<- HAN.out, ccE_v (HI2 ▸ HE.out) hz]
    subst hAE
    clear he0 hdr het HI2
    go_wp2_with (first | (go_at_call 20; have W9 : Below wr.heap.size wr (wr.alloc (Obj.cells #[Value.int .i64 t.K, Value.int .i64 t.B, Value.int .i64 t.F, Value.int .i64 t.R, Value.int .i64 t.O, Value.slice t.p t.zs.length t.c, Value.slice t.q t.vs.length t.d] 27)) := (Below.refl _ _).alloc (Nat.le_refl _) _; (with_reducible refine (TV.out _ (Lib.hid (RI9.keep W9)) (Lib.hid (RV9.below W9))).mono ?_); rintro e w3 ⟨rfl, hb⟩; have K3 := Lib.hid (KB.out.trans ((W9.trans (hb.mono W9.size)).mono KB.out.size)); clear hb W9))
    go_ret
    exact ⟨rfl, K3.out⟩
  ·obtain rfl : i = n := by omega
   have gN : decide ((i : Int) < i) = false := by simp
   have hE0 : E = 0 := by rw [<- HI.out, drop_all HN.out]; rfl
   have hAE := (ccE_eq (ax := ax) HD0.out (HE.out.trans hE0)).symm.trans HAN.out
   clear HI TVx HE HAN hi him
   subst hE0
   have hil : (i : Int) <= 9223372036854775807 := by omega
   obtain ⟨r, hr⟩ : ∃ r, i - 1 = r := ⟨_, rfl⟩
   have HR := Lib.hid hr
   have HR0 : Hid (r = 0) := Lib.hid (by have := HN1.out; omega)
   have hLD : L.drop 1 = [] := drop_all (by have := HN.out; have := HN1.out; omega)
   rw [show L.drop (0 + 1) = [] from hLD] at hAE
   obtain ⟨hl, hhl⟩ : ∃ x, h.zs.length = x := ⟨_, rfl⟩
   rw [hhl] at hAE
   have HHL := Lib.hid hhl
   unfold ccT at hAE
   rw [if_neg (by decide)] at hAE
   have hi1 : 1 <= i := by omega
   clear hLD hhl h1
   have hcl := HCL.out
   go_upto_region 11 with fail
   clear gn gn2 gn3 hr hcl
   go_loopw [32] (fun iv wr => iv = .int .i64 0 /\ Hid (Below w.heap.size w wr)) (fun iv _ => 0)
   case atStart => exact ⟨rfl, KB⟩
   case round =>
    obtain ⟨rfl, KB⟩ := hrel
    have gz : decide ((0 : Int) < r) = false := by have := HR0.out; simp; omega
    have gz2 : decide (0 < r) = false := by have := HR0.out; simp; omega
    obtain ⟨⟨hb9, ho9, hhp, hh7⟩, -, -⟩ := (SlX.keep KB.out RX.out) 0 h HEQ.out
    cases hhp
    rw [Nat.zero_mul, Nat.add_zero] at hh7
    obtain ⟨h0, h1, h2, h3, h4, h5, h6⟩ := hh7
    rw [HHL.out] at h5
    by_cases ha : ax < 0
    ·rw [if_pos (.inl ha)] at hAE
     subst hAE
     have ga : decide (ax < 0) = true := by simpa using ha
     go_wp2_with fail
     go_ret
     exact ⟨rfl, KB.out⟩
    have ga : decide (ax < 0) = false := by simpa using ha
    by_cases hb : (hl : Int) <= ax
    ·rw [if_pos (.inr hb)] at hAE
     subst hAE
     have gb : decide ((hl : Int) <= ax) = true := by simpa using hb
     go_wp2_with fail
     go_ret
     exact ⟨rfl, KB.out⟩
    have gb : decide ((hl : Int) <= ax) = false := by simpa using hb
    rw [if_neg (by omega)] at hAE
    unfold ccD at hAE
    subst hAE
    have hr9 := HR.out
    have hcl := HCL.out
    go_upto_region 21 with fail
    clear hr9 hcl
    go_loopw [67] (fun iv wr => iv = .int .i64 0 /\ Hid (Below w.heap.size w wr)) (fun iv _ => 0)
    case atStart => exact ⟨rfl, KB⟩
    case round =>
     obtain ⟨rfl, KB⟩ := hrel
     clear h0 h1 h2 h3 h4 h5 h6
     go_wp2_with fail
     go_ret
     exact ⟨rfl, KB.out⟩

theorem ck (ax : Int) (p : Option Addr) (L : List Tr) (cL : Nat) (w : World) (hn : L.length <= maxLen) (hc : L.length <= cL) (hcm : cL <= maxLen) (OK : ∀ t ∈ L, okT t) (RX : Hid (SlX w p L)) :
  Calls Tryz.prog 74 #[.int .i64 ax, .slice p L.length cL] w fun e w' => e = .returned (.int .i64 (ccE ax L)) /\ Below w.heap.size w w' := by
 match L with
 | [] =>
  go_enter Tryz.func74, Tryz.ntmps74
  go_wp2_with fail
  go_ret
  exact ⟨rfl, Below.refl _ _⟩
 | x :: r =>
  obtain ⟨⟨b, o, rfl, _⟩, _⟩ := RX.out 0 x rfl
  by_cases h2 : 2 <= (x :: r).length
  ·exact ck_2 ax b o (x :: r) cL w hn hc hcm OK RX h2
  ·have h1 : (x :: r).length = 1 := by
    have h3 : (x :: r).length = r.length + 1 := rfl
    omega
   by_cases hcl : cL = 1
   ·exact ck_0 ax b o (x :: r) cL w hn hc hcm OK RX h1 hcl
   ·exact ck_1 ax b o (x :: r) cL w hn hc hcm OK RX h1 hcl
end Go.Proofs.YteaaikmejacpaaaGreatDoor.Te

namespace Go.Proofs.YteaaikmejacpaaaGreatDoor.Te
open Go.ChangeShapes Go.WideShapes Go.ChangeAt Go.RowKit
open Fx Va Sh
set_option maxRecDepth 8000
set_option linter.unusedVariables false
set_option linter.unusedSimpArgs false

/-- The length of a tensor along an axis. -/
def axN (a : Nat) (t : Tr) : Nat := (t.zs.getD a 0).toNat
/-- The sum of the lengths. -/
def smA (a : Nat) : List Tr -> Nat
 | [] => 0
 | t :: r => axN a t + smA a r
/-- The part of a tensor in a block of the joined one. -/
def ctB (a af i : Nat) (t : Tr) : List (Int × Int) := (t.vs.drop (i * (axN a t * af))).take (axN a t * af)
/-- A block of the joined tensor. -/
def ctR (a af i : Nat) (L : List Tr) : List (Int × Int) := L.flatMap (ctB a af i)
/-- The first blocks. -/
def ctV (a af : Nat) (L : List Tr) (n : Nat) : List (Int × Int) := (List.range n).flatMap fun i => ctR a af i L
theorem ctV_succ (a af : Nat) (L : List Tr) (n : Nat) : ctV a af L (n + 1) = ctV a af L n ++ ctR a af n L := by
 unfold ctV
 rw [List.range_succ, List.flatMap_append]
 simp
theorem take_snocT {L : List Tr} {k : Nat} {t : Tr} (h : L[k]? = some t) : L.take (k + 1) = L.take k ++ [t] := by
 rw [List.take_add_one, h]
 rfl
theorem ctR_snoc (a af i : Nat) {L : List Tr} {k : Nat} {t : Tr} (h : L[k]? = some t) : ctR a af i (L.take (k + 1)) = ctR a af i (L.take k) ++ ctB a af i t := by
 unfold ctR
 rw [take_snocT h, List.flatMap_append]
 simp
theorem smA_app (a : Nat) : ∀ x y : List Tr, smA a (x ++ y) = smA a x + smA a y
 | [], y => by simp [smA]
 | t :: r, y => by
  show axN a t + smA a (r ++ y) = axN a t + smA a r + smA a y
  rw [smA_app a r y]; omega
theorem smA_snoc (a : Nat) {L : List Tr} {k : Nat} {t : Tr} (h : L[k]? = some t) : smA a (L.take (k + 1)) = smA a (L.take k) + axN a t := by
 rw [take_snocT h, smA_app]
 rfl
theorem smA_le (a : Nat) (L : List Tr) (k : Nat) : smA a (L.take k) <= smA a L := by
 have h := smA_app a (L.take k) (L.drop k)
 rw [List.take_append_drop] at h
 omega
theorem ccV_ok : ∀ {L : List Tr}, ccV L = 0 -> ∀ {t : Tr}, t ∈ L -> tEt t = 0
 | [], _, _, ht => absurd ht (by simp)
 | x :: r, e, t, ht => by
  unfold ccV at e
  by_cases h1 : tEt x ≠ 0
  ·rw [if_pos h1] at e; exact absurd e h1
  ·rw [if_neg h1] at e
   rcases List.mem_cons.1 ht with rfl | h3
   ·exact Classical.not_not.1 h1
   ·exact ccV_ok e h3
theorem ccT_ty {h : Tr} : ∀ {r : List Tr}, ccT h r = 0 -> ∀ {t : Tr}, t ∈ r -> tyq h t = true
 | [], _, _, ht => absurd ht (by simp)
 | x :: r, e, t, ht => by
  unfold ccT at e
  by_cases h1 : tyq h x = false
  ·rw [if_pos h1] at e; exact absurd e (by decide)
  ·rw [if_neg h1] at e
   by_cases h2 : x.zs.length ≠ h.zs.length
   ·rw [if_pos h2] at e; exact absurd e (by decide)
   ·rw [if_neg h2] at e
    rcases List.mem_cons.1 ht with rfl | h3
    ·simpa using h1
    ·exact ccT_ty e h3
theorem ccD_ok {ax : Int} {h : Tr} : ∀ {r : List Tr}, ccD ax h r = 0 -> ∀ {t : Tr}, t ∈ r -> dfF ax t.zs h.zs h.zs.length 0 = false
 | [], _, _, ht => absurd ht (by simp)
 | x :: r, e, t, ht => by
  unfold ccD at e
  by_cases h1 : dfF ax x.zs h.zs h.zs.length 0 = true
  ·rw [if_pos h1] at e; exact absurd e (by decide)
  ·rw [if_neg h1] at e
   rcases List.mem_cons.1 ht with rfl | h3
   ·simpa using h1
   ·exact ccD_ok e h3
theorem dfF_false {ax : Int} {a b : List Int} : ∀ {f k : Nat}, dfF ax a b f k = false -> ∀ i, k <= i -> i < k + f -> (i : Int) ≠ ax -> a.getD i 0 = b.getD i 0
 | 0, k, _, i, h1, h2, _ => by omega
 | f + 1, k, e, i, h1, h2, h3 => by
  unfold dfF at e
  by_cases hc : (k : Int) ≠ ax /\ a.getD k 0 ≠ b.getD k 0
  ·rw [if_pos hc] at e; cases e
  ·rw [if_neg hc] at e
   by_cases hk : i = k
   ·subst hk
    exact Classical.byContradiction fun h4 => hc ⟨h3, h4⟩
   ·exact dfF_false e i (by omega) (by omega) h3
theorem getD_eqI {a b : List Int} (hl : a.length = b.length) (h : ∀ i, i < a.length -> a.getD i 0 = b.getD i 0) : a = b := by
 apply List.ext_getElem hl
 intro i h1 h2
 have := h i h1
 rwa [getD_at h1, getD_at h2] at this
theorem set_of {a b : List Int} {k : Nat} (hl : a.length = b.length) (hk : k < b.length) (h : ∀ i, i < b.length -> i ≠ k -> a.getD i 0 = b.getD i 0) : a = b.set k (a.getD k 0) := by
 refine getD_eqI (by rw [List.length_set]; exact hl) fun i hi => ?_
 rw [List.getD_eq_getElem?_getD (l := b.set k (a.getD k 0)), List.getElem?_set]
 by_cases e : k = i
 ·subst e
  rw [if_pos rfl, if_pos hk]; rfl
 ·rw [if_neg e, <- List.getD_eq_getElem?_getD]
  exact h i (by omega) (fun h => e h.symm)
theorem tyq_same (h : Tr) : tyq h h = true := by unfold tyq; simp
/-- What a list of tensors is that may be joined. -/
structure Gd (a bf af : Nat) (h : Tr) (L : List Tr) : Prop where
 ha : a < h.zs.length
 h6 : h.zs.length <= 6
 hbf : sp (h.zs.take a) = bf
 haf : sp (h.zs.drop (a + 1)) = af
 b1 : 1 <= bf
 a1 : 1 <= af
 ba : bf * af <= 4096
 all : ∀ t ∈ L, tEt t = 0 /\ tyq h t = true /\ t.zs.length = h.zs.length /\ t.zs.getD a 0 = (axN a t : Int) /\ 1 <= axN a t /\ t.vs.length = bf * axN a t * af /\ t.vs.length <= 4096 /\ t.zs = h.zs.set a (axN a t : Int)
theorem cc_good {ax : Int} {h : Tr} {r : List Tr} (h0 : ccE ax (h :: r) = 0) : ∃ a bf af : Nat, ax = (a : Int) /\ Gd a bf af h (h :: r) := by
 have hv : ccV (h :: r) = 0 := Classical.byContradiction fun hz => hz (by rw [<- ccE_v rfl hz]; exact h0)
 rw [ccE_eq rfl hv] at h0
 have hT : ccT h r = 0 := Classical.byContradiction fun hz => hz (by rw [if_pos hz] at h0; exact h0)
 rw [if_neg (by simpa using hT)] at h0
 by_cases hx : ax < 0 \/ (h.zs.length : Int) <= ax
 ·rw [if_pos hx] at h0; exact absurd h0 (by decide)
 rw [if_neg hx] at h0
 obtain ⟨a, rfl⟩ : ∃ a : Nat, ax = a := ⟨ax.toNat, by omega⟩
 have ha : a < h.zs.length := by omega
 have hth := ccV_ok hv (List.mem_cons_self (a := h) (l := r))
 unfold tEt at hth
 obtain ⟨-, hvh, hlh, -⟩ := tE_ok hth
 obtain ⟨hp, hq1, hq2, hq3⟩ := sp_parts hvh ha
 obtain ⟨h6, hlow, -, hs4, -⟩ := valid_of hvh
 obtain ⟨bf, hbf⟩ : ∃ bf : Nat, sp (h.zs.take a) = bf := ⟨(sp (h.zs.take a)).toNat, by omega⟩
 obtain ⟨af, haf⟩ : ∃ af : Nat, sp (h.zs.drop (a + 1)) = af := ⟨(sp (h.zs.drop (a + 1))).toNat, by omega⟩
 have key : ∀ t ∈ h :: r, tEt t = 0 /\ tyq h t = true /\ t.zs.length = h.zs.length /\ t.zs.getD a 0 = (axN a t : Int) /\ 1 <= axN a t /\ t.vs.length = bf * axN a t * af /\ t.vs.length <= 4096 /\ t.zs = h.zs.set a (axN a t : Int) := by
  intro t ht
  have h1 := ccV_ok hv ht
  have h2 : tyq h t = true /\ t.zs.length = h.zs.length /\ ∀ i, i < h.zs.length -> i ≠ a -> t.zs.getD i 0 = h.zs.getD i 0 := by
   rcases List.mem_cons.1 ht with rfl | h3
   ·exact ⟨tyq_same _, rfl, fun _ _ _ => rfl⟩
   ·exact ⟨ccT_ty hT h3, ccT_ok hT h3, fun i hi hia => dfF_false (ccD_ok h0 h3) i (Nat.zero_le _) (by omega) (by omega)⟩
  obtain ⟨h3, h4, h5⟩ := h2
  have h1' := h1
  unfold tEt at h1'
  obtain ⟨-, tv, tl, -⟩ := tE_ok h1'
  have e := set_of h4 ha h5
  obtain ⟨p1, p2, p3, p4⟩ := sp_parts tv (a := a) (by omega)
  have hn : t.zs.getD a 0 = (axN a t : Int) := by unfold axN; omega
  have et : t.zs.take a = h.zs.take a := by rw [e, List.take_set_of_le (Nat.le_refl _)]
  have ed : t.zs.drop (a + 1) = h.zs.drop (a + 1) := by rw [e, List.drop_set_of_lt (by omega)]
  rw [et, ed, hbf, haf, hn] at p1
  have hvl : t.vs.length = bf * axN a t * af := by
   have : ((t.vs.length : Nat) : Int) = ((bf * axN a t * af : Nat) : Int) := by rw [tl, p1]; push_cast; rfl
   exact Int.ofNat.inj this
  obtain ⟨-, -, -, hs, -⟩ := valid_of tv
  exact ⟨h1, h3, h4, hn, by omega, hvl, by omega, by rw [<- hn]; exact e⟩
 refine ⟨a, bf, af, rfl, ha, h6, hbf, haf, by omega, by omega, ?_, key⟩
 obtain ⟨-, -, -, -, k1, k2, k3, -⟩ := key h List.mem_cons_self
 have : bf * 1 * af <= bf * axN a h * af := Nat.mul_le_mul_right _ (Nat.mul_le_mul_left _ k1)
 rw [Nat.mul_one] at this
 omega
theorem ctB_hi {a af i bf : Nat} {t : Tr} (hi : i < bf) (hm : t.vs.length = bf * axN a t * af) : (i + 1) * (axN a t * af) <= t.vs.length := by
 rw [hm, Nat.mul_assoc]
 exact Nat.mul_le_mul_right _ hi
theorem ctB_len {a af i bf : Nat} {t : Tr} (hi : i < bf) (hm : t.vs.length = bf * axN a t * af) : (ctB a af i t).length = axN a t * af := by
 have h := ctB_hi hi hm
 rw [Nat.add_mul, Nat.one_mul] at h
 unfold ctB
 rw [List.length_take, List.length_drop]; omega
theorem ctR_len {a af i bf : Nat} (hi : i < bf) : ∀ {L : List Tr}, (∀ t ∈ L, t.vs.length = bf * axN a t * af) -> (ctR a af i L).length = smA a L * af
 | [], _ => by simp [ctR, smA]
 | t :: r, h => by
  have e : ctR a af i (t :: r) = ctB a af i t ++ ctR a af i r := rfl
  rw [e, List.length_append, ctB_len hi (h t List.mem_cons_self), ctR_len hi (fun x hx => h x (List.mem_cons_of_mem _ hx))]
  show _ = (axN a t + smA a r) * af
  rw [Nat.add_mul]
theorem ctV_len {a af bf : Nat} {L : List Tr} (h : ∀ t ∈ L, t.vs.length = bf * axN a t * af) : ∀ n, n <= bf -> (ctV a af L n).length = n * (smA a L * af)
 | 0, _ => by simp [ctV]
 | n + 1, hn => by rw [ctV_succ, List.length_append, ctV_len h n (by omega), ctR_len (by omega) h, Nat.succ_mul]

end Go.Proofs.YteaaikmejacpaaaGreatDoor.Te

namespace Go.Proofs.YteaaikmejacpaaaGreatDoor.Te
open Go.ChangeShapes Go.WideShapes Go.ChangeAt Go.RowKit
open Fx Va Sh
set_option maxRecDepth 8000
set_option linter.unusedVariables false
set_option linter.unusedSimpArgs false

theorem cat_nums {j bf my af m : Nat} (hj : j < bf) (hm : m = bf * my * af) (m4 : m <= 4096) (h1 : 1 <= my) (h2 : 1 <= af) : ∃ row x y : Nat, (my : Int) * (af : Int) = row /\ (j : Int) * (row : Int) = x /\ ((j : Int) + 1) * (row : Int) = y /\ x < y /\ y <= m /\ y - x = row /\ row = my * af /\ x = j * (my * af) /\ row <= 4096 /\ x <= 4096 /\ y <= 4096 := by
 have h3 : (j + 1) * (my * af) <= bf * (my * af) := Nat.mul_le_mul_right _ hj
 rw [<- Nat.mul_assoc bf, <- hm] at h3
 have h4 : (j + 1) * (my * af) = j * (my * af) + my * af := by rw [Nat.add_mul, Nat.one_mul]
 have h5 : 1 <= my * af := Nat.mul_pos h1 h2
 refine ⟨my * af, j * (my * af), (j + 1) * (my * af), by push_cast; rfl, by push_cast; rfl, by push_cast; rfl, by omega, h3, by omega, rfl, rfl, by omega, by omega, by omega⟩
theorem lim_nums {s my bf af : Nat} (hs : s * (bf * af) <= 4096) (h1 : 1 <= bf) (h2 : 1 <= af) (hb : bf * af <= 4096) (hm : my <= 4096) : ∃ sn x1 x2 : Nat, sn = s + my /\ (sn : Int) * (bf : Int) = x1 /\ (x1 : Int) * (af : Int) = x2 /\ x2 = sn * (bf * af) /\ s <= 4096 /\ sn <= 8192 /\ x1 <= 33554432 /\ x2 <= 33554432 := by
 have h3 : 1 <= bf * af := Nat.mul_pos h1 h2
 have h4 : s * 1 <= s * (bf * af) := Nat.mul_le_mul_left _ h3
 have h5 : bf <= 4096 := Nat.le_trans (Nat.le_mul_of_pos_right _ h2) hb
 have h6 : (s + my) * bf <= 8192 * 4096 := Nat.mul_le_mul (by omega) h5
 have h7 : (s + my) * (bf * af) <= 8192 * 4096 := Nat.mul_le_mul (by omega) hb
 exact ⟨s + my, (s + my) * bf, (s + my) * bf * af, rfl, by push_cast; rfl, by push_cast; rfl, by rw [Nat.mul_assoc], by omega, by omega, h6, by rw [Nat.mul_assoc]; exact h7⟩
theorem wnI2 {n : Nat} (h : n <= 33554432) : IntKind.i64.wrap (n : Int) = n := by
 rw [IntKind.wrap_i64]; omega
theorem cell_ex {x : Option Value} {l : List Value} {k : Nat} (h : x = l[k]?) (hk : k < l.length) : ∃ z, x = some z := ⟨l[k], by rw [h, List.getElem?_eq_getElem hk]⟩
/-- What is joined behind i blocks and k tensors. -/
def LST (a af : Nat) (L : List Tr) (i k : Nat) : List (Int × Int) := ctV a af L i ++ ctR a af i (L.take k)
theorem lst_0 (a af : Nat) (L : List Tr) : LST a af L 0 0 = [] := rfl
theorem lst_snoc (a af i : Nat) {L : List Tr} {k : Nat} {t : Tr} (h : L[k]? = some t) : LST a af L i (k + 1) = LST a af L i k ++ ctB a af i t := by
 unfold LST
 rw [ctR_snoc a af i h, List.append_assoc]
theorem lst_end (a af i : Nat) {L : List Tr} {n : Nat} (h : L.length = n) : LST a af L i n = LST a af L (i + 1) 0 := by
 unfold LST
 rw [List.take_of_length_le (by omega), ctV_succ, List.take_zero]
 show _ = (ctV a af L i ++ ctR a af i L) ++ []
 rw [List.append_nil]
theorem lst_len {a bf af S i k : Nat} {h : Tr} {L : List Tr} (G : Gd a bf af h L) (hS : S * (bf * af) <= 4096) (hs : smA a L = S) (hi : i < bf) : (LST a af L i k).length <= 4096 := by
 have h0 : ∀ t ∈ L, t.vs.length = bf * axN a t * af := fun t ht => (G.all t ht).2.2.2.2.2.1
 have h1 := smA_le a L k
 have h2 : smA a (L.take k) * af <= S * af := Nat.mul_le_mul_right _ (by omega)
 have h3 : (i + 1) * (S * af) <= bf * (S * af) := Nat.mul_le_mul_right _ hi
 have h4 : bf * (S * af) = S * (bf * af) := by rw [<- Nat.mul_assoc, Nat.mul_comm bf S, Nat.mul_assoc]
 have h5 : (i + 1) * (S * af) = i * (S * af) + S * af := by rw [Nat.add_mul, Nat.one_mul]
 unfold LST
 rw [List.length_append, ctV_len h0 i (by omega), ctR_len hi (fun t ht => h0 t (List.mem_of_mem_take ht)), hs]
 omega
/-- What Concat of tensors that fit answers. -/
def TCat (a bf af S : Nat) (h : Tr) (L : List Tr) (w : World) (en : Ending) (w' : World) : Prop := (4096 < S * (bf * af) /\ TRes 0 0 0 0 0 [] [] 2 w en w') \/ (S * (bf * af) <= 4096 /\ TRes h.K h.B h.F h.R h.O (h.zs.set a (S : Int)) (ctV a af L bf) 0 w en w')
theorem own_some {u : World} {B n c : Nat} {E : TypeId} {sz : Nat} {p : Option Addr} {xs : List Value} (h : u.ownsRow B E sz (.slice p n c) n xs) (hn : 0 < n) : ∃ g, p = some ⟨g, 0, none⟩ /\ B <= g /\ g < u.heap.size /\ n <= c /\ c <= maxLen := by
 rcases h.2 with ⟨h0, h1⟩ | ⟨g, cap, cur, h0, h1, h2, h3, h4, -⟩
 ·omega
 ·cases h0
  exact ⟨g, rfl, h1, (h.lt g rfl).2, h3, h4⟩

set_option maxRecDepth 100000 in
set_option maxHeartbeats 2000000 in
theorem ca_e (ax : Int) (p : Option Addr) (L : List Tr) (cL : Nat) (w : World) (hn : L.length <= maxLen) (hc : L.length <= cL) (hcm : cL <= maxLen) (OK : ∀ t ∈ L, okT t) (RX : Hid (SlX w p L)) (hE : ccE ax L ≠ 0) :
  Calls Tryz.prog 40 #[.int .i64 ax, .slice p L.length cL] w (TRes 0 0 0 0 0 [] [] (ccE ax L) w) := by
 have CK0 := fun u h => ck ax p L cL u hn hc hcm OK h
 obtain ⟨E, hEE⟩ : ∃ E, ccE ax L = E := ⟨_, rfl⟩
 rw [hEE] at CK0 hE ⊢
 obtain ⟨n, hnn⟩ : ∃ n, L.length = n := ⟨_, rfl⟩
 rw [hnn] at CK0 ⊢
 have CK := Lib.hid CK0
 have g1 : (E == 0) = false := by simpa using hE
 have g2 : (E != 0) = true := by simpa using hE
 have B0 : Hid (Below w.heap.size w (w.alloc (Obj.cells #[Value.int .i64 0, Value.int .i64 0, Value.int .i64 0, Value.int .i64 0, Value.int .i64 0, Value.slice none 0 0, Value.slice none 0 0] 27))) := Lib.hid ((Below.refl _ _).alloc (Nat.le_refl _) _)
 have R0 : Hid (B7 (w.alloc (Obj.cells #[Value.int .i64 0, Value.int .i64 0, Value.int .i64 0, Value.int .i64 0, Value.int .i64 0, Value.slice none 0 0, Value.slice none 0 0] 27)) (w.heap.size) (.int .i64 0) (.int .i64 0) (.int .i64 0) (.int .i64 0) (.int .i64 0) (.slice none 0 0) (.slice none 0 0)) := Lib.hid (B7.new w 27 (.int .i64 0) (.int .i64 0) (.int .i64 0) (.int .i64 0) (.int .i64 0) (.slice none 0 0) (.slice none 0 0))
 clear hEE hE CK0 hnn hn hc hcm OK
 go_enter Tryz.func40, Tryz.ntmps40
 go_wp2_with (go_at_call 74; (with_reducible refine (CK.out _ (Lib.hid (RX.out.keep B0.out))).mono ?_); rintro e w1 ⟨rfl, hb⟩; have KB := Lib.hid (B0.out.trans (hb.mono B0.out.size)); have RB9 := Lib.hid (B7.keep hb (by simp) R0.out); obtain ⟨⟨z0, z1, z2, z3, z4, z5, z6⟩, ⟨f0, f1, f2, f3, f4, f5, f6⟩⟩ := RB9.out; have lr : w.heap.size < w1.heap.size := RB9.out.lt; have RX1 := Lib.hid (RX.out.keep KB.out); clear hb)
 have SBB := (((((((KB.out).setCell (p := ⟨w.heap.size, 0, none⟩) (by dsimp only; omega) (.int .i64 0)).setCell (p := ⟨w.heap.size, 1, none⟩) (by dsimp only; omega) (.int .i64 0)).setCell (p := ⟨w.heap.size, 2, none⟩) (by dsimp only; omega) (.int .i64 0)).setCell (p := ⟨w.heap.size, 3, none⟩) (by dsimp only; omega) (.int .i64 0)).setCell (p := ⟨w.heap.size, 4, none⟩) (by dsimp only; omega) (.int .i64 0)).setCell (p := ⟨w.heap.size, 5, none⟩) (by dsimp only; omega) (.slice none 0 0)).setCell (p := ⟨w.heap.size, 6, none⟩) (by dsimp only; omega) (.slice none 0 0)
 refine bodyPost_ret (v := .tuple #[.agg #[.int .i64 0, .int .i64 0, .int .i64 0, .int .i64 0, .int .i64 0, .slice none 0 0, .slice none 0 0], .int .i64 E]) (by simp [results, Tryz.results40, go_sem, z0, f0, z1, f1, z2, f2, z3, f3, z4, f4, z5, f5, z6, f6, lr]) rfl (TRes.no SBB)
end Go.Proofs.YteaaikmejacpaaaGreatDoor.Te

namespace Go.Proofs.YteaaikmejacpaaaGreatDoor.Te
open Go.ChangeShapes Go.WideShapes Go.ChangeAt Go.RowKit
open Fx Va Sh
set_option maxRecDepth 8000
set_option linter.unusedVariables false
set_option linter.unusedSimpArgs false

set_option maxRecDepth 100000 in
set_option maxHeartbeats 2000000 in
theorem ca_g (ax : Int) (p : Option Addr) (L : List Tr) (cL : Nat) (w : World) (hn : L.length <= maxLen) (hc : L.length <= cL) (hcm : cL <= maxLen) (OK : ∀ t ∈ L, okT t) (RX : Hid (SlX w p L)) (a bf af : Nat) (h : Tr) (r : List Tr) (hL : L = h :: r) (hax : ax = (a : Int)) (G : Gd a bf af h L) (h0 : ccE ax L = 0) :
  Calls Tryz.prog 40 #[.int .i64 ax, .slice p L.length cL] w (TCat a bf af (smA a L) h L w) := by
 have CK0 := fun u h => ck ax p L cL u hn hc hcm OK h
 rw [h0] at CK0
 subst hax
 have heq : L[0]? = some h := by rw [hL]; rfl
 have hv : vE h.zs = 0 := by
  have h1 := (G.all h (by rw [hL]; exact List.mem_cons_self)).1
  unfold tEt at h1
  exact (tE_ok h1).2.1
 obtain ⟨⟨pb, po, hpp, hc7⟩, -, -⟩ := RX.out 0 h heq
 subst hpp
 obtain ⟨S, hS⟩ : ∃ S, smA a L = S := ⟨_, rfl⟩
 obtain ⟨hl, hhl⟩ : ∃ x, h.zs.length = x := ⟨_, rfl⟩
 have ha := G.ha
 have h6 := G.h6
 have CLO0 := fun u hh => c48g h.p h.zs h.c u (by unfold maxLen; omega) (by omega) hh
 have TAR0 := fun p c u h1 h2 hh => tar p h.zs c a u ha h1 h2 hv hh
 rw [G.hbf, G.haf] at TAR0
 unfold OW at CLO0
 rw [hhl] at CLO0 TAR0 ha h6
 rw [hS]
 obtain ⟨n, hnn⟩ : ∃ n, L.length = n := ⟨_, rfl⟩
 rw [hnn] at CK0 hn hc ⊢
 have CK := Lib.hid CK0
 have CLO := Lib.hid CLO0
 have TAR := Lib.hid TAR0
 have HG := Lib.hid G
 have HN := Lib.hid hnn
 have HHL := Lib.hid hhl
 have HS9 := Lib.hid hS
 have HEQ := Lib.hid heq
 have HOK := Lib.hid OK
 have hn0 : 0 < n := by rw [<- hnn, hL]; simp
 have hb1 := G.b1
 have ha1 := G.a1
 have hba := G.ba
 unfold maxLen at hn hcm
 have B0 : Hid (Below w.heap.size w (w.alloc (Obj.cells #[Value.int .i64 0, Value.int .i64 0, Value.int .i64 0, Value.int .i64 0, Value.int .i64 0, Value.slice none 0 0, Value.slice none 0 0] 27))) := Lib.hid ((Below.refl _ _).alloc (Nat.le_refl _) _)
 have R0 : Hid (B7 (w.alloc (Obj.cells #[Value.int .i64 0, Value.int .i64 0, Value.int .i64 0, Value.int .i64 0, Value.int .i64 0, Value.slice none 0 0, Value.slice none 0 0] 27)) (w.heap.size) (.int .i64 0) (.int .i64 0) (.int .i64 0) (.int .i64 0) (.int .i64 0) (.slice none 0 0) (.slice none 0 0)) := Lib.hid (B7.new w 27 (.int .i64 0) (.int .i64 0) (.int .i64 0) (.int .i64 0) (.int .i64 0) (.slice none 0 0) (.slice none 0 0))
 clear h0 CK0 CLO0 TAR0 hnn hhl hS heq OK hv hc7 hL G
 go_enter Tryz.func40, Tryz.ntmps40
 go_upto_region 4 with (go_at_call 74; (with_reducible refine (CK.out _ (Lib.hid (RX.out.keep B0.out))).mono ?_); rintro e w1 ⟨rfl, hb⟩; have KB := Lib.hid (B0.out.trans (hb.mono B0.out.size)); have RB9 := Lib.hid (B7.keep hb (by simp) R0.out); obtain ⟨⟨z0, z1, z2, z3, z4, z5, z6⟩, ⟨f0, f1, f2, f3, f4, f5, f6⟩⟩ := RB9.out; have lr : w.heap.size < w1.heap.size := RB9.out.lt; have RX1 := Lib.hid (RX.out.keep KB.out); clear hb)
 obtain ⟨⟨b9, o9, hpp, hc7⟩, RH1, -⟩ := RX1.out 0 h HEQ.out
 cases hpp
 rw [Nat.zero_mul, Nat.add_zero] at hc7
 obtain ⟨c0, c1, c2, c3, c4, c5, c6⟩ := hc7
 rw [HHL.out] at c5
 replace RH1 := Lib.hid RH1
 clear z0 f0 z1 f1 z2 f2 z3 f3 z4 f4 z5 f5 z6 f6 c6
 have HS : Hid (∀ u u' : World, (u.cell? ⟨pb, po, none⟩ = some (.int .i64 h.K) /\ u.cell? ⟨pb, po + 1, none⟩ = some (.int .i64 h.B) /\ u.cell? ⟨pb, po + 2, none⟩ = some (.int .i64 h.F) /\ u.cell? ⟨pb, po + 3, none⟩ = some (.int .i64 h.R) /\ u.cell? ⟨pb, po + 4, none⟩ = some (.int .i64 h.O) /\ u.cell? ⟨pb, po + 5, none⟩ = some (.slice h.p hl h.c) /\ Below w1.heap.size w1 u) -> Below u.heap.size u u' -> (u'.cell? ⟨pb, po, none⟩ = some (.int .i64 h.K) /\ u'.cell? ⟨pb, po + 1, none⟩ = some (.int .i64 h.B) /\ u'.cell? ⟨pb, po + 2, none⟩ = some (.int .i64 h.F) /\ u'.cell? ⟨pb, po + 3, none⟩ = some (.int .i64 h.R) /\ u'.cell? ⟨pb, po + 4, none⟩ = some (.int .i64 h.O) /\ u'.cell? ⟨pb, po + 5, none⟩ = some (.slice h.p hl h.c) /\ Below w1.heap.size w1 u')) := Lib.hid (fun u u' h hb => ⟨Rg.keep hb (World.block_lt_of_cell? _ _ h.1) h.1, Rg.keep hb (World.block_lt_of_cell? _ _ h.2.1) h.2.1, Rg.keep hb (World.block_lt_of_cell? _ _ h.2.2.1) h.2.2.1, Rg.keep hb (World.block_lt_of_cell? _ _ h.2.2.2.1) h.2.2.2.1, Rg.keep hb (World.block_lt_of_cell? _ _ h.2.2.2.2.1) h.2.2.2.2.1, Rg.keep hb (World.block_lt_of_cell? _ _ h.2.2.2.2.2.1) h.2.2.2.2.2.1, h.2.2.2.2.2.2.trans (hb.mono h.2.2.2.2.2.2.size)⟩)
 go_cut [7] from 23 to 33 (fun p7 wx => ∃ (g7 : Nat) (pc : Option Addr) (cc : Nat), p7 = .pointer (some ⟨g7, 0, none⟩) /\ Hid (B7 wx (g7) (.int .i64 h.K) (.int .i64 h.B) (.int .i64 h.F) (.int .i64 h.R) (.int .i64 h.O) (.slice pc hl cc) (.slice none 0 0)) /\ Hid (wx.ownsRow w1.heap.size 3 1 (.slice pc hl cc) hl (h.zs.map (Value.int .i64))) /\ Hid ((Value.slice pc hl cc).ownBlock ≠ some g7) /\ Hid (Below w1.heap.size w1 wx) /\ w1.heap.size <= g7)
 case first =>
  refine Rk.begin (S := fun wS => wS.cell? ⟨pb, po, none⟩ = some (.int .i64 h.K) /\ wS.cell? ⟨pb, po + 1, none⟩ = some (.int .i64 h.B) /\ wS.cell? ⟨pb, po + 2, none⟩ = some (.int .i64 h.F) /\ wS.cell? ⟨pb, po + 3, none⟩ = some (.int .i64 h.R) /\ wS.cell? ⟨pb, po + 4, none⟩ = some (.int .i64 h.O) /\ wS.cell? ⟨pb, po + 5, none⟩ = some (.slice h.p hl h.c) /\ Below w1.heap.size w1 wS) 11 (by kernel_rfl) ⟨c0, c1, c2, c3, c4, c5, Below.drew (Below.refl _ _)⟩ (fun hHeld => ?_)
  refine SqR.p 0 ?_
  refine SqR.p 1 ?_
  refine SqR.p 2 ?_
  refine SqR.l [11] 3 ?_
  refine SqR.p 4 ?_
  refine SqR.p 5 ?_
  refine SqR.p 6 ?_
  refine SqR.l [11] 7 ?_
  refine Rk.two (i := 8) (j := 10) (by kernel_rfl) rfl rfl (fun KK hK => ?_) (fun KK hK => ?_)
  ·rw [if_pos (by kernel_rfl)]
   go_simp
   ((with_reducible refine (CLO.out _ (Lib.hid (SlI.keep (hHeld.2.2.2.2.2.2) RH1.out))).mono ?_); rintro e u7 ⟨v7, rfl, hb, hP⟩)
   have hNew := HS.out _ _ hHeld hb
   have hsu := hb.size
   try simp at hsu
   obtain ⟨pc, cc, rfl⟩ := own_slice hP
   replace hP := own_base (B' := w1.heap.size) hP (Nat.le_refl _)
   first | (refine hK.out _ _ (fun _ => hNew) (fun _ => ?_)) | (refine hK.out _ _ hNew (fun _ => ?_)) | (go_wp2_with fail; refine hK.out _ _ hNew (fun _ => ?_))
   replace hHeld := hNew
   clear hNew hb
   clear hK KK
   refine SqR.p 9 ?_
   refine Rk.one (i := 10) (by kernel_rfl) rfl (fun KK hK => ?_)
   rw [if_pos (by kernel_rfl)]
   go_simp
   have hNew := HS.out _ _ hHeld ((Below.refl _ _).alloc (Nat.le_refl _) (Obj.cells #[Value.int .i64 0, Value.int .i64 0, Value.int .i64 0, Value.int .i64 0, Value.int .i64 0, Value.slice none 0 0, Value.slice none 0 0] 27))
   have M7 := B7.new u7 27 (.int .i64 0) (.int .i64 0) (.int .i64 0) (.int .i64 0) (.int .i64 0) (.slice none 0 0) (.slice none 0 0)
   have hn1 := blk_ne (g := u7.heap.size) (own_lo hP) (Or.inr (Nat.le_refl _))
   replace hP := own_belowE hP ((Below.refl _ _).alloc (Nat.le_refl _) (Obj.cells #[Value.int .i64 0, Value.int .i64 0, Value.int .i64 0, Value.int .i64 0, Value.int .i64 0, Value.slice none 0 0, Value.slice none 0 0] 27))
   refine hK.out _ _ hNew (fun _ => ?_)
   replace hHeld := hNew
   clear hNew
   clear hK KK
   refine Rk.tail [11] [_] (by kernel_rfl) (by kernel_rfl) rfl (by decide) ?_
   obtain ⟨-, -, -, -, -, -, K8⟩ := hHeld
   have M9 := M7
   obtain ⟨⟨m0, m1, m2, m3, m4, m5, m6⟩, ⟨k0, k1, k2, k3, k4, k5, k6⟩⟩ := M7
   have lm := M9.lt
   have hnb : w1.heap.size <= u7.heap.size := by first | exact Nat.le_refl _ | omega
   generalize (u7.alloc (Obj.cells #[Value.int .i64 0, Value.int .i64 0, Value.int .i64 0, Value.int .i64 0, Value.int .i64 0, Value.slice none 0 0, Value.slice none 0 0] 27)) = gz at *
   go_wp2_with fail
   go_meet
   exact ⟨u7.heap.size, pc, cc, rfl, Lib.hid (B7.st (y0 := .int .i64 h.K) (y1 := .int .i64 h.B) (y2 := .int .i64 h.F) (y3 := .int .i64 h.R) (y4 := .int .i64 h.O) (y5 := .slice pc hl cc) (y6 := .slice none 0 0) M9), Lib.hid (own_set7N (x0 := .int .i64 h.K) (x1 := .int .i64 h.B) (x2 := .int .i64 h.F) (x3 := .int .i64 h.R) (x4 := .int .i64 h.O) (x5 := .slice pc hl cc) (x6 := .slice none 0 0) hP hn1), Lib.hid hn1, Lib.hid (below_set7 (x0 := .int .i64 h.K) (x1 := .int .i64 h.B) (x2 := .int .i64 h.F) (x3 := .int .i64 h.R) (x4 := .int .i64 h.O) (x5 := .slice pc hl cc) (x6 := .slice none 0 0) K8 hnb), hnb⟩
  ·rw [if_pos (by kernel_rfl)]
   go_simp
   have hNew := HS.out _ _ hHeld ((Below.refl _ _).alloc (Nat.le_refl _) (Obj.cells #[Value.int .i64 0, Value.int .i64 0, Value.int .i64 0, Value.int .i64 0, Value.int .i64 0, Value.slice none 0 0, Value.slice none 0 0] 27))
   have M7 : B7 ((w1.alloc (Obj.cells #[Value.int .i64 0, Value.int .i64 0, Value.int .i64 0, Value.int .i64 0, Value.int .i64 0, Value.slice none 0 0, Value.slice none 0 0] 27)).drew) w1.heap.size (.int .i64 0) (.int .i64 0) (.int .i64 0) (.int .i64 0) (.int .i64 0) (.slice none 0 0) (.slice none 0 0) := B7.new w1 _ (.int .i64 0) (.int .i64 0) (.int .i64 0) (.int .i64 0) (.int .i64 0) (.slice none 0 0) (.slice none 0 0)
   refine hK.out _ _ hNew (fun _ => ?_)
   replace hHeld := hNew
   clear hNew
   replace hHeld : (w1.alloc (Obj.cells #[Value.int .i64 0, Value.int .i64 0, Value.int .i64 0, Value.int .i64 0, Value.int .i64 0, Value.slice none 0 0, Value.slice none 0 0] 27)).drew.cell? ⟨pb, po, none⟩ = some (.int .i64 h.K) /\ (w1.alloc (Obj.cells #[Value.int .i64 0, Value.int .i64 0, Value.int .i64 0, Value.int .i64 0, Value.int .i64 0, Value.slice none 0 0, Value.slice none 0 0] 27)).drew.cell? ⟨pb, po + 1, none⟩ = some (.int .i64 h.B) /\ (w1.alloc (Obj.cells #[Value.int .i64 0, Value.int .i64 0, Value.int .i64 0, Value.int .i64 0, Value.int .i64 0, Value.slice none 0 0, Value.slice none 0 0] 27)).drew.cell? ⟨pb, po + 2, none⟩ = some (.int .i64 h.F) /\ (w1.alloc (Obj.cells #[Value.int .i64 0, Value.int .i64 0, Value.int .i64 0, Value.int .i64 0, Value.int .i64 0, Value.slice none 0 0, Value.slice none 0 0] 27)).drew.cell? ⟨pb, po + 3, none⟩ = some (.int .i64 h.R) /\ (w1.alloc (Obj.cells #[Value.int .i64 0, Value.int .i64 0, Value.int .i64 0, Value.int .i64 0, Value.int .i64 0, Value.slice none 0 0, Value.slice none 0 0] 27)).drew.cell? ⟨pb, po + 4, none⟩ = some (.int .i64 h.O) /\ (w1.alloc (Obj.cells #[Value.int .i64 0, Value.int .i64 0, Value.int .i64 0, Value.int .i64 0, Value.int .i64 0, Value.slice none 0 0, Value.slice none 0 0] 27)).drew.cell? ⟨pb, po + 5, none⟩ = some (.slice h.p hl h.c) /\ Below w1.heap.size w1 (w1.alloc (Obj.cells #[Value.int .i64 0, Value.int .i64 0, Value.int .i64 0, Value.int .i64 0, Value.int .i64 0, Value.slice none 0 0, Value.slice none 0 0] 27)).drew := hHeld
   clear hK KK
   refine Rk.one (i := 8) (by kernel_rfl) rfl (fun KK hK => ?_)
   rw [if_pos (by kernel_rfl)]
   go_simp
   ((with_reducible refine (CLO.out _ (Lib.hid (SlI.keep (hHeld.2.2.2.2.2.2) RH1.out))).mono ?_); rintro e u7 ⟨v7, rfl, hb, hP⟩)
   have hNew := HS.out _ _ hHeld hb
   have hsu := hb.size
   try simp at hsu
   obtain ⟨pc, cc, rfl⟩ := own_slice hP
   replace M7 := B7.keep hb M7.lt M7
   have hn1 := blk_ne (g := w1.heap.size) (own_lo hP) (Or.inl (by simp))
   replace hP := own_base (B' := w1.heap.size) hP (by simp)
   first | (refine hK.out _ _ (fun _ => hNew) (fun _ => ?_)) | (refine hK.out _ _ hNew (fun _ => ?_)) | (go_wp2_with fail; refine hK.out _ _ hNew (fun _ => ?_))
   replace hHeld := hNew
   clear hNew hb
   clear hK KK
   refine SqR.p 9 ?_
   refine Rk.tail [11] [_] (by kernel_rfl) (by kernel_rfl) rfl (by decide) ?_
   obtain ⟨-, -, -, -, -, -, K8⟩ := hHeld
   have M9 := M7
   obtain ⟨⟨m0, m1, m2, m3, m4, m5, m6⟩, ⟨k0, k1, k2, k3, k4, k5, k6⟩⟩ := M7
   have lm := M9.lt
   have hnb : w1.heap.size <= w1.heap.size := by first | exact Nat.le_refl _ | omega
   go_wp2_with fail
   go_meet
   exact ⟨w1.heap.size, pc, cc, rfl, Lib.hid (B7.st (y0 := .int .i64 h.K) (y1 := .int .i64 h.B) (y2 := .int .i64 h.F) (y3 := .int .i64 h.R) (y4 := .int .i64 h.O) (y5 := .slice pc hl cc) (y6 := .slice none 0 0) M9), Lib.hid (own_set7N (x0 := .int .i64 h.K) (x1 := .int .i64 h.B) (x2 := .int .i64 h.F) (x3 := .int .i64 h.R) (x4 := .int .i64 h.O) (x5 := .slice pc hl cc) (x6 := .slice none 0 0) hP hn1), Lib.hid hn1, Lib.hid (below_set7 (x0 := .int .i64 h.K) (x1 := .int .i64 h.B) (x2 := .int .i64 h.F) (x3 := .int .i64 h.R) (x4 := .int .i64 h.O) (x5 := .slice pc hl cc) (x6 := .slice none 0 0) K8 hnb), hnb⟩

 case rest =>
  obtain ⟨g7, pc, cc, rfl, MG, HP, HPN, KX, hg7⟩ := hcut
  obtain ⟨gp, rfl, hgp1, hgp2, hcc1, hcc2⟩ := own_some HP.out (by omega)
  unfold maxLen at hcc2
  have hgg : gp ≠ g7 := fun e => HPN.out (by rw [e]; rfl)
  have hlw : w.heap.size < w1.heap.size := RB9.out.lt
  have KBc := Lib.hid (KB.out.trans (KX.out.mono KB.out.size))
  have RZc := Lib.hid (B7.keep KX.out RB9.out.lt RB9.out)
  have MGc := MG
  have lgc := MG.out.lt
  obtain ⟨⟨m0, m1, m2, m3, m4, m5, m6⟩, -⟩ := MG.out
  have hal : (a : Int) < hl := by omega
  have ha0 : (0 : Int) <= a := by omega
  clear c0 c1 c2 c3 c4 c5 KB RB9 KX HS lr RH1 CK CLO
  have HCC := Lib.hid (And.intro hcc1 hcc2)
  go_upto_region 6 with (go_at_call 64; (with_reducible refine (TAR.out (some ⟨gp, 0, none⟩) cc _ HCC.out.1 HCC.out.2 (Lib.hid (SlI_of HP.out HHL.out))).mono ?_); rintro e w3 ⟨rfl, hb⟩; have K3 := Lib.hid (KBc.out.trans (hb.mono KBc.out.size)); have RZ3 := Lib.hid (B7.keep hb RZc.out.lt RZc.out); have MG3 := Lib.hid (B7.keep hb MGc.out.lt MGc.out); have HP3 := Lib.hid (own_belowE HP.out hb); have hs3 := hb.size; clear hb; have lg3 := MG3.out.lt; replace m5 := MG3.out.1.2.2.2.2.2.1; have fz := HP3.out.frozenAt a; obtain ⟨zz, pv3⟩ := cell_ex (HP3.out.cellAt a (by omega)) (by rw [List.length_map]; exact HG.out.ha); clear m0 m1 m2 m3 m4 m6 MGc RZc KBc HP MG)
  go_upto_region 8 with fail
  have HB1 : Hid ((B7 (w3.setCell ⟨gp, a, none⟩ (.int .i64 0)) (w.heap.size) (.int .i64 0) (.int .i64 0) (.int .i64 0) (.int .i64 0) (.int .i64 0) (.slice none 0 0) (.slice none 0 0)) /\ (B7 (w3.setCell ⟨gp, a, none⟩ (.int .i64 0)) (g7) (.int .i64 h.K) (.int .i64 h.B) (.int .i64 h.F) (.int .i64 h.R) (.int .i64 h.O) (.slice (some ⟨gp, 0, none⟩) hl cc) (.slice none 0 0)) /\ (w3.setCell ⟨gp, a, none⟩ (.int .i64 0)).ownsRow w1.heap.size 3 1 (.slice (some ⟨gp, 0, none⟩) hl cc) hl ((h.zs.set a (smA a (L.take 0) : Int)).map (Value.int .i64)) /\ Below w.heap.size w (w3.setCell ⟨gp, a, none⟩ (.int .i64 0)) /\ g7 < (w3.setCell ⟨gp, a, none⟩ (.int .i64 0)).heap.size) := Lib.hid ⟨RZ3.out.far (by omega), MG3.out.far hgg, by
    have h9 := (HP3.out.stored a (.int .i64 0)).1
    rw [<- List.map_set] at h9
    exact h9, K3.out.setCell (p := ⟨gp, a, none⟩) (by dsimp only; omega) _, by rw [World.size_setCell]; exact MG3.out.lt⟩
  have HM0 : Hid (smA a (L.take 0) * (bf * af) <= 4096) := Lib.hid (by simp [smA])
  clear m5 RZ3 MG3 HP3 K3 fz pv3
  generalize (w3.setCell ⟨gp, a, none⟩ (.int .i64 0)) = w4 at *
  go_loopw [46] (fun iv wr => ∃ j : Nat, iv = .int .i64 (j : Int) /\ j <= n /\ Hid (smA a (L.take j) * (bf * af) <= 4096) /\ Hid ((B7 wr (w.heap.size) (.int .i64 0) (.int .i64 0) (.int .i64 0) (.int .i64 0) (.int .i64 0) (.slice none 0 0) (.slice none 0 0)) /\ (B7 wr (g7) (.int .i64 h.K) (.int .i64 h.B) (.int .i64 h.F) (.int .i64 h.R) (.int .i64 h.O) (.slice (some ⟨gp, 0, none⟩) hl cc) (.slice none 0 0)) /\ wr.ownsRow w1.heap.size 3 1 (.slice (some ⟨gp, 0, none⟩) hl cc) hl ((h.zs.set a (smA a (L.take j) : Int)).map (Value.int .i64)) /\ Below w.heap.size w wr /\ g7 < wr.heap.size)) (fun iv _ => n - (intOf iv).toNat)
  case atStart => exact ⟨0, rfl, Nat.zero_le _, HM0, HB1⟩
  case round =>
   obtain ⟨j, rfl, hj, HSM, HI⟩ := hrel
   clear HB1 HM0
   obtain ⟨ZJ, MJ, PJ, KJ, lJ⟩ := HI.out
   by_cases hjn : j < n
   ·have hj2 : (j : Int) < n := by omega
    have hj0 : (0 : Int) <= j := by omega
    obtain ⟨t, het, -⟩ := drop_one (L := L) (i := j) (by rw [HN.out]; exact hjn)
    obtain ⟨⟨b, o, hp, hc7⟩, RI9, -⟩ := (RX.out.keep KJ) j t het
    cases hp
    obtain ⟨c0, c1, c2, c3, c4, c5, c6⟩ := hc7
    obtain ⟨-, -, htl, hmy, hm1, hvl, hv4, -⟩ := HG.out.all t (List.mem_of_getElem? het)
    obtain ⟨my, hmyy⟩ : ∃ x, axN a t = x := ⟨_, rfl⟩
    rw [hmyy] at hmy hm1 hvl
    have hmle : my <= 4096 := by
     have h1 : 1 * my * 1 <= bf * my * af := Nat.mul_le_mul (Nat.mul_le_mul_right _ hb1) ha1
     rw [Nat.one_mul, Nat.mul_one, <- hvl] at h1
     omega
    obtain ⟨ub, uo, htp, tv9⟩ := RI9 a (by rw [htl]; exact HG.out.ha)
    rw [hmy] at tv9
    have htl2 : t.zs.length = hl := htl.trans HHL.out
    rw [htl2, htp] at c5
    obtain ⟨s, hs⟩ : ∃ x, smA a (L.take j) = x := ⟨_, rfl⟩
    have hsn := smA_snoc a het
    rw [hs, hmyy] at hsn
    have HS0 := HSM.out
    rw [hs] at HS0 PJ
    obtain ⟨sn, x1, x2, e0, e1, e2, e3, q1, q2, q3, q4⟩ := lim_nums (my := my) HS0 hb1 ha1 hba hmle
    rw [<- e0] at hsn
    have HE3 := Lib.hid e3
    have HSN := Lib.hid hsn
    have HE0 := Lib.hid e0
    clear het htl hmy hm1 hvl hv4 hmyy htl2 htp hs hsn e0 e3 HS0
    go_upto_region 10 with fail
    have W9 : Below wr.heap.size wr (wr.alloc (Obj.cells #[Value.int .i64 t.K, Value.int .i64 t.B, Value.int .i64 t.F, Value.int .i64 t.R, Value.int .i64 t.O, Value.slice (some ⟨ub, uo, none⟩) hl t.c, Value.slice t.q t.vs.length t.d] 27)) := (Below.refl _ _).alloc (Nat.le_refl _) _
    have M7 := B7.new wr 27 (.int .i64 t.K) (.int .i64 t.B) (.int .i64 t.F) (.int .i64 t.R) (.int .i64 t.O) (.slice (some ⟨ub, uo, none⟩) hl t.c) (.slice t.q t.vs.length t.d)
    have ZK := B7.keep W9 ZJ.lt ZJ
    have MK := B7.keep W9 MJ.lt MJ
    have PK := own_belowE PJ W9
    have KK9 := KJ.trans (W9.mono KJ.size)
    have tv8 := Rg.keep W9 (World.block_lt_of_cell? _ _ tv9) tv9
    have hwr : wr.heap.size < (wr.alloc (Obj.cells #[Value.int .i64 t.K, Value.int .i64 t.B, Value.int .i64 t.F, Value.int .i64 t.R, Value.int .i64 t.O, Value.slice (some ⟨ub, uo, none⟩) hl t.c, Value.slice t.q t.vs.length t.d] 27)).heap.size := by simp
    clear W9 c0 c1 c2 c3 c4 c5 c6 ZJ MJ PJ KJ tv9
    generalize (wr.alloc (Obj.cells #[Value.int .i64 t.K, Value.int .i64 t.B, Value.int .i64 t.F, Value.int .i64 t.R, Value.int .i64 t.O, Value.slice (some ⟨ub, uo, none⟩) hl t.c, Value.slice t.q t.vs.length t.d] 27)) = w5 at *
    have MKb := Lib.hid MK
    have M7b := Lib.hid M7
    have PKb := Lib.hid PK
    obtain ⟨⟨m0, m1, m2, m3, m4, m5, m6⟩, -⟩ := MK
    obtain ⟨⟨k0, k1, k2, k3, k4, k5, k6⟩, -⟩ := M7
    have pv : w5.cell? ⟨gp, a, none⟩ = some (.int .i64 s) := by
     rw [PK.cellAt a (by have := HG.out.ha; have := HHL.out; omega), List.getElem?_map, List.getElem?_set, if_pos rfl, if_pos HG.out.ha]
     rfl
    have pf := PK.frozenAt a
    have wq1 : IntKind.i64.wrap ((s : Int) + (my : Int)) = (sn : Int) := by
     have h9 : (s : Int) + (my : Int) = (sn : Nat) := by rw [HE0.out]; push_cast; rfl
     rw [h9]; exact wnI2 (by omega)
    refine Rk.begin (S := fun wS => wS.cell? ⟨g7, 5, none⟩ = some (.slice (some ⟨gp, 0, none⟩) hl cc) /\ wS.cell? ⟨gp, a, none⟩ = some (.int .i64 s) /\ wS.cell? ⟨wr.heap.size, 5, none⟩ = some (.slice (some ⟨ub, uo, none⟩) hl t.c) /\ wS.cell? ⟨ub, uo + a, none⟩ = some (.int .i64 my) /\ wS.frozen? ⟨gp, a, none⟩ = false /\ Below w5.heap.size w5 wS) 12 (by kernel_rfl) ⟨m5, pv, k5, tv8, pf, Below.drew (Below.refl _ _)⟩ (fun hHeld => ?_)
    refine SqR.p 0 ?_
    refine SqR.l [12] 1 ?_
    refine SqR.p 2 ?_
    refine SqR.p 3 ?_
    refine SqR.l [12] 4 ?_
    refine SqR.p 5 ?_
    refine SqR.l [12] 6 ?_
    refine SqR.p 7 ?_
    refine SqR.p 8 ?_
    refine SqR.l [12] 9 ?_
    refine SqR.p 10 ?_
    refine SqR.p 11 ?_
    refine Rk.tail [12] [_] (by kernel_rfl) (by kernel_rfl) rfl (by decide) ?_
    clear wq1 hHeld
    go_upto_region 11 with fail
    have ZV : Hid (B7 ((w5.setCell ⟨gp, a, none⟩ (.int .i64 (sn : Int))).drew) (w.heap.size) (.int .i64 0) (.int .i64 0) (.int .i64 0) (.int .i64 0) (.int .i64 0) (.slice none 0 0) (.slice none 0 0)) := Lib.hid (ZK.far (by omega)).drew
    have MV : Hid (B7 ((w5.setCell ⟨gp, a, none⟩ (.int .i64 (sn : Int))).drew) (g7) (.int .i64 h.K) (.int .i64 h.B) (.int .i64 h.F) (.int .i64 h.R) (.int .i64 h.O) (.slice (some ⟨gp, 0, none⟩) hl cc) (.slice none 0 0)) := Lib.hid (MKb.out.far hgg).drew
    have PV : Hid (((w5.setCell ⟨gp, a, none⟩ (.int .i64 (sn : Int))).drew).ownsRow w1.heap.size 3 1 (.slice (some ⟨gp, 0, none⟩) hl cc) hl ((h.zs.set a (sn : Int)).map (Value.int .i64))) := Lib.hid (by
     have h9 := (PKb.out.stored a (.int .i64 (sn : Int))).1
     rw [<- List.map_set, List.set_set] at h9
     exact h9.drew)
    have KV : Hid (Below w.heap.size w ((w5.setCell ⟨gp, a, none⟩ (.int .i64 (sn : Int))).drew)) := Lib.hid ((KK9.setCell (p := ⟨gp, a, none⟩) (by dsimp only; omega) _).drew)
    have lV : g7 < ((w5.setCell ⟨gp, a, none⟩ (.int .i64 (sn : Int))).drew).heap.size := MV.out.lt
    clear m0 m1 m2 m3 m4 m5 m6 k0 k1 k2 k3 k4 k5 k6 pv pf tv8 ZK MKb M7b PKb KK9 RI9
    generalize ((w5.setCell ⟨gp, a, none⟩ (.int .i64 (sn : Int))).drew) = wv at *
    have pv : wv.cell? ⟨gp, a, none⟩ = some (.int .i64 sn) := by
     rw [PV.out.cellAt a (by omega), List.getElem?_map, List.getElem?_set, if_pos rfl, if_pos HG.out.ha]
     rfl
    obtain ⟨⟨m0, m1, m2, m3, m4, m5, m6⟩, -⟩ := MV.out
    by_cases hlim : 4096 < x2
    ·have gl : decide ((4096 : Int) < x2) = true := by simp; omega
     obtain ⟨⟨z0, z1, z2, z3, z4, z5, z6⟩, ⟨f0, f1, f2, f3, f4, f5, f6⟩⟩ := ZV.out
     have lr := ZV.out.lt
     have hlt : Hid (4096 < S * (bf * af)) := Lib.hid (by
      have h1 := smA_le a L (j + 1)
      rw [HSN.out, HS9.out] at h1
      have h2 : sn * (bf * af) <= S * (bf * af) := Nat.mul_le_mul_right _ h1
      have h3 := HE3.out
      omega)
     go_wp2_with fail
     have SBB := (((((((KV.out).setCell (p := ⟨w.heap.size, 0, none⟩) (by dsimp only; omega) (.int .i64 0)).setCell (p := ⟨w.heap.size, 1, none⟩) (by dsimp only; omega) (.int .i64 0)).setCell (p := ⟨w.heap.size, 2, none⟩) (by dsimp only; omega) (.int .i64 0)).setCell (p := ⟨w.heap.size, 3, none⟩) (by dsimp only; omega) (.int .i64 0)).setCell (p := ⟨w.heap.size, 4, none⟩) (by dsimp only; omega) (.int .i64 0)).setCell (p := ⟨w.heap.size, 5, none⟩) (by dsimp only; omega) (.slice none 0 0)).setCell (p := ⟨w.heap.size, 6, none⟩) (by dsimp only; omega) (.slice none 0 0)
     refine bodyPost_ret (v := .tuple #[.agg #[.int .i64 0, .int .i64 0, .int .i64 0, .int .i64 0, .int .i64 0, .slice none 0 0, .slice none 0 0], .int .i64 2]) (by simp [results, Tryz.results40, go_sem, z0, f0, z1, f1, z2, f2, z3, f3, z4, f4, z5, f5, z6, f6, lr]) rfl (.inl ⟨hlt.out, TRes.no SBB⟩)
    ·have gl : decide ((4096 : Int) < x2) = false := by simp; omega
     go_wp2_with fail
     go_roundw
     case rel => exact ⟨j + 1, by simp, by omega, Lib.hid (by rw [HSN.out, <- HE3.out]; omega), Lib.hid ⟨ZV.out, MV.out, by rw [HSN.out]; exact PV.out, KV.out, lV⟩⟩
     case measure => simp [intOf]; omega
   ·obtain rfl : j = n := by omega
    have gN : decide ((j : Int) < j) = false := by simp
    have hSn : smA a (L.take j) = S := by rw [List.take_of_length_le (by rw [HN.out]; exact Nat.le_refl _)]; exact HS9.out
    have hSM := HSM.out
    rw [hSn] at hSM PJ
    have HSL := Lib.hid hSM
    have HB2 : Hid ((B7 wr (w.heap.size) (.int .i64 0) (.int .i64 0) (.int .i64 0) (.int .i64 0) (.int .i64 0) (.slice none 0 0) (.slice none 0 0)) /\ (B7 wr (g7) (.int .i64 h.K) (.int .i64 h.B) (.int .i64 h.F) (.int .i64 h.R) (.int .i64 h.O) (.slice (some ⟨gp, 0, none⟩) hl cc) (.slice none 0 0)) /\ wr.ownsRow w1.heap.size 3 1 (.slice (some ⟨gp, 0, none⟩) hl cc) hl ((h.zs.set a (S : Int)).map (Value.int .i64)) /\ wr.ownsRow wr.heap.size 29 2 (.slice none 0 0) 0 (flV (LST a af L 0 0)) /\ Below w.heap.size w wr /\ g7 < wr.heap.size /\ wr.heap.size <= wr.heap.size) := Lib.hid ⟨ZJ, MJ, PJ, by rw [lst_0]; exact World.ownsRow_nil _ _ _ _, KJ, lJ, Nat.le_refl _⟩
    obtain ⟨wb, hwb⟩ : ∃ u : World, u = wr := ⟨_, rfl⟩
    rw [<- hwb] at HB2 lJ ⊢
    have hlb : g7 < wb.heap.size := lJ
    have hgb : w.heap.size <= wb.heap.size := by rw [hwb]; exact KJ.size
    clear hj hjn hSn hSM HSM HI ZJ MJ PJ KJ lJ hwb
    go_upto_region 15 with fail
    go_loopw [75] (fun iv wr => ∃ (i : Nat) (qv : Option Addr) (n9 dv : Nat), iv = .int .i64 (i : Int) /\ i <= bf /\ Hid ((B7 wr (w.heap.size) (.int .i64 0) (.int .i64 0) (.int .i64 0) (.int .i64 0) (.int .i64 0) (.slice none 0 0) (.slice none 0 0)) /\ (B7 wr (g7) (.int .i64 h.K) (.int .i64 h.B) (.int .i64 h.F) (.int .i64 h.R) (.int .i64 h.O) (.slice (some ⟨gp, 0, none⟩) hl cc) (.slice qv n9 dv)) /\ wr.ownsRow w1.heap.size 3 1 (.slice (some ⟨gp, 0, none⟩) hl cc) hl ((h.zs.set a (S : Int)).map (Value.int .i64)) /\ wr.ownsRow wb.heap.size 29 2 (.slice qv n9 dv) n9 (flV (LST a af L i 0)) /\ Below w.heap.size w wr /\ g7 < wr.heap.size /\ wb.heap.size <= wr.heap.size)) (fun iv _ => bf - (intOf iv).toNat)
    case atStart => exact ⟨0, none, 0, 0, rfl, Nat.zero_le _, HB2⟩
    case round =>
     obtain ⟨i, qv, n9, dv, rfl, hi, HI⟩ := hrel
     clear HB2
     by_cases hib : i < bf
     ·have hi2 : (i : Int) < bf := by omega
      have hi0 : (0 : Int) <= i := by omega
      have hbm : bf <= 4096 := Nat.le_trans (Nat.le_mul_of_pos_right _ ha1) hba
      have HI1 := HI
      go_upto_region 18 with fail
      go_loopw [80] (fun iv wr => ∃ (k : Nat) (qv : Option Addr) (n9 dv : Nat), iv = .int .i64 (k : Int) /\ k <= j /\ Hid ((B7 wr (w.heap.size) (.int .i64 0) (.int .i64 0) (.int .i64 0) (.int .i64 0) (.int .i64 0) (.slice none 0 0) (.slice none 0 0)) /\ (B7 wr (g7) (.int .i64 h.K) (.int .i64 h.B) (.int .i64 h.F) (.int .i64 h.R) (.int .i64 h.O) (.slice (some ⟨gp, 0, none⟩) hl cc) (.slice qv n9 dv)) /\ wr.ownsRow w1.heap.size 3 1 (.slice (some ⟨gp, 0, none⟩) hl cc) hl ((h.zs.set a (S : Int)).map (Value.int .i64)) /\ wr.ownsRow wb.heap.size 29 2 (.slice qv n9 dv) n9 (flV (LST a af L i k)) /\ Below w.heap.size w wr /\ g7 < wr.heap.size /\ wb.heap.size <= wr.heap.size)) (fun iv _ => j - (intOf iv).toNat)
      case atStart => exact ⟨0, qv, n9, dv, rfl, Nat.zero_le _, HI1⟩
      case round =>
       obtain ⟨k, qv, n9, dv, rfl, hk, HK⟩ := hrel
       clear HI1 HI
       obtain ⟨ZJ, MJ, PJ, VJ, KJ, lJ, hszr⟩ := HK.out
       by_cases hkn : k < j
       ·have hk2 : (k : Int) < j := by omega
        have hk0 : (0 : Int) <= k := by omega
        obtain ⟨t, het, -⟩ := drop_one (L := L) (i := k) (by rw [HN.out]; exact hkn)
        obtain ⟨⟨b, o, hp, hc7⟩, RI9, RV9⟩ := (RX.out.keep KJ) k t het
        cases hp
        obtain ⟨c0, c1, c2, c3, c4, c5, c6⟩ := hc7
        obtain ⟨-, -, htl, hmy, hm1, hvl, hv4, -⟩ := HG.out.all t (List.mem_of_getElem? het)
        obtain ⟨my, hmyy⟩ : ∃ x, axN a t = x := ⟨_, rfl⟩
        have hfl := ctB_len (a := a) (af := af) hib hvl
        rw [hmyy] at hmy hm1 hvl hfl
        obtain ⟨row, x, y, p1, p2, p3, q1, q2, q3, q4, q5, q6, q7, q8⟩ := cat_nums hib hvl hv4 hm1 ha1
        obtain ⟨ub, uo, htp, tv9⟩ := RI9 a (by rw [htl]; exact HG.out.ha)
        rw [hmy] at tv9
        have htl2 : t.zs.length = hl := htl.trans HHL.out
        rw [htl2, htp] at c5
        obtain ⟨vb, vo, htq, -⟩ := RV9 0 (by omega)
        rw [htq] at c6 RV9
        have hok := HOK.out t (List.mem_of_getElem? het)
        unfold okT maxLen at hok
        obtain ⟨m, hmm⟩ : ∃ x, t.vs.length = x := ⟨_, rfl⟩
        rw [hmm] at c6 q2
        have hdm : m <= t.d := by omega
        have hdm2 : t.d <= 9223372036854775807 := by omega
        have HSNO := Lib.hid (lst_snoc a af i het)
        have HFL := Lib.hid (show (flV (ctB a af i t)).length = (y - x) * 2 by rw [flV_len, hfl, <- q4, q3])
        have HLB := Lib.hid (show (ctB a af i t).length = y - x by rw [hfl, <- q4, q3])
        have HCB := Lib.hid (show (t.vs.drop x).take (y - x) = ctB a af i t by unfold ctB; rw [hmyy, <- q5, q3, <- q4])
        have HN9 : Hid (n9 + (y - x) <= 4096) := Lib.hid (by
         have h1 := lst_len HG.out HSL.out HS9.out hib (k := k + 1)
         have h2 := VJ.1
         rw [flV_len] at h2
         rw [HSNO.out, List.length_append, HLB.out] at h1
         omega)
        have HVS := Lib.hid (And.intro hmm hv4)
        obtain ⟨i1, hi1⟩ : ∃ z : Nat, z = i + 1 := ⟨_, rfl⟩
        have p3' : (i1 : Int) * (row : Int) = y := by rw [hi1]; push_cast; exact p3
        have HI1 := Lib.hid hi1
        have hi1b : i1 <= 4096 := by omega
        have HP := Lib.hid (And.intro p2 p3')
        have x0 : (0 : Int) <= x := by omega
        have xy : (x : Int) <= y := by omega
        have yd : (y : Int) <= t.d := by omega
        have xm : (y : Int) <= m := by omega
        have hne : ¬ t.d = x := by omega
        have hrw : (row : Int) <= 4096 := by omega
        clear het htl hmy hm1 hvl hv4 hmyy htl2 htp htq hmm hfl p2 p3 p3' q3 q4 q5 hi1 hok
        go_upto_region 20 with fail
        have W9 : Below wr.heap.size wr (wr.alloc (Obj.cells #[Value.int .i64 t.K, Value.int .i64 t.B, Value.int .i64 t.F, Value.int .i64 t.R, Value.int .i64 t.O, Value.slice (some ⟨ub, uo, none⟩) hl t.c, Value.slice (some ⟨vb, vo, none⟩) m t.d] 27)) := (Below.refl _ _).alloc (Nat.le_refl _) _
        have M7 := B7.new wr 27 (.int .i64 t.K) (.int .i64 t.B) (.int .i64 t.F) (.int .i64 t.R) (.int .i64 t.O) (.slice (some ⟨ub, uo, none⟩) hl t.c) (.slice (some ⟨vb, vo, none⟩) m t.d)
        have ZK := Lib.hid (B7.keep W9 ZJ.lt ZJ)
        have MK := Lib.hid (B7.keep W9 MJ.lt MJ)
        have PK := Lib.hid (own_belowE PJ W9)
        have VK := own_belowE VJ W9
        have KK9 := Lib.hid (KJ.trans (W9.mono KJ.size))
        have tv8 := Rg.keep W9 (World.block_lt_of_cell? _ _ tv9) tv9
        have RV8 := Lib.hid (RV9.below W9)
        have hwr : wr.heap.size < (wr.alloc (Obj.cells #[Value.int .i64 t.K, Value.int .i64 t.B, Value.int .i64 t.F, Value.int .i64 t.R, Value.int .i64 t.O, Value.slice (some ⟨ub, uo, none⟩) hl t.c, Value.slice (some ⟨vb, vo, none⟩) m t.d] 27)).heap.size := by simp
        have hszk : wb.heap.size <= (wr.alloc (Obj.cells #[Value.int .i64 t.K, Value.int .i64 t.B, Value.int .i64 t.F, Value.int .i64 t.R, Value.int .i64 t.O, Value.slice (some ⟨ub, uo, none⟩) hl t.c, Value.slice (some ⟨vb, vo, none⟩) m t.d] 27)).heap.size := Nat.le_trans hszr (Nat.le_of_lt hwr)
        clear W9 c0 c1 c2 c3 c4 c5 c6 ZJ MJ PJ KJ VJ tv9 RV9 RI9
        generalize (wr.alloc (Obj.cells #[Value.int .i64 t.K, Value.int .i64 t.B, Value.int .i64 t.F, Value.int .i64 t.R, Value.int .i64 t.O, Value.slice (some ⟨ub, uo, none⟩) hl t.c, Value.slice (some ⟨vb, vo, none⟩) m t.d] 27)) = w5 at *
        obtain ⟨⟨k0, k1, k2, k3, k4, k5, k6⟩, -⟩ := M7
        go_upto_region 21 with fail
        obtain ⟨⟨m0, m1, m2, m3, m4, m5, m6⟩, ⟨g0, g1, g2, g3, g4, g5, g6⟩⟩ := MK.out
        have lmk : g7 < w5.heap.size := MK.out.lt
        obtain ⟨p2, p3⟩ := HP.out
        have wq1 : IntKind.i64.wrap (x : Int) = x := wnI2 (by omega)
        have wq2 : IntKind.i64.wrap (y : Int) = y := wnI2 (by omega)
        have wq3 : IntKind.i64.wrap ((i : Int) + 1) = (i1 : Int) := by
         have h9 : (i : Int) + 1 = (i1 : Nat) := by rw [HI1.out]; push_cast; rfl
         rw [h9]; exact wnI2 (by omega)
        have HNW : Hid (∀ (z : Nat) (u : Value), (flV (ctB a af i t))[z]? = some u -> w5.cell? ((⟨vb, vo + x * 2, none⟩ : Addr).add z) = some u) := Lib.hid (by
         have h := sl_cellsV (x := x) (n := y - x) RV8.out (by rw [HVS.out.1]; omega)
         rw [HCB.out] at h
         exact h)
        refine Rk.begin (S := fun wS => wS.cell? ⟨g7, 6, none⟩ = some (.slice qv n9 dv) /\ wS.cell? ⟨wr.heap.size, 6, none⟩ = some (.slice (some ⟨vb, vo, none⟩) m t.d) /\ Below w5.heap.size w5 wS) 12 (by kernel_rfl) ⟨m6, k6, Below.drew (Below.refl _ _)⟩ (fun hHeld => ?_)
        refine SqR.p 0 ?_
        refine SqR.l [12] 1 ?_
        refine SqR.p 2 ?_
        refine SqR.l [11, 12] 3 ?_
        refine SqR.p 4 ?_
        refine SqR.p 5 ?_
        refine SqR.p 6 ?_
        refine SqR.p 7 ?_
        refine SqR.p 8 ?_
        refine SqR.p 9 ?_
        refine SqR.p 10 ?_
        refine SqR.p 11 ?_
        refine Rk.tail [12, 13, 14] [_, _, _] (by kernel_rfl) (by kernel_rfl) rfl (by decide) ?_
        clear wq1 wq2 wq3 p2 p3 hHeld
        obtain ⟨i0, hinf, hz0, hz1, hz2⟩ := info_parts infoV
        go_wp2_with (at_builtin; refine wpList_append_own _ rfl _ _ 25 rfl wb.heap.size 29 i0 (.agg #[.int .i64 0, .int .i64 0]) 2 16 Tryz.underlying25 hinf hz0 hz1 hz2 rfl (by decide) _ _ _ rfl VK.drew ⟨vb, vo + x * 2, none⟩ (y - x) _ (flV (ctB a af i t)) rfl HFL.out HNW.out (one_V _) (by unfold maxLen; have := HN9.out; omega) (by have := HN9.out; omega) (by exact hszk) ?_; intro v8 w8 hown8 hgrow _; obtain ⟨qn, dn, rfl⟩ := own_slice hown8; have hrow := row_base VK; have D8 := Lib.hid ((MK.out.drew).grown hgrow (fun e => by have := hrow _ e.symm; omega)); have T8 := Lib.hid ((ZK.out.drew).grown hgrow (fun e => by have := hrow _ e.symm; omega)); have P8 := Lib.hid ((PK.out.drew).kept hgrow (own_apart PK.out VK)); have V8 := Lib.hid hown8; have K8 := Lib.hid ((KK9.out.drew).grown hgrow (by have := KK9.out.size; exact this) (fun k e => by have := hrow _ e; omega)); have hs8 := hgrow.size; obtain ⟨⟨m0, m1, m2, m3, m4, m5, m6⟩, ⟨g0, g1, g2, g3, g4, g5, g6⟩⟩ := D8.out; have lD8 := D8.out.lt; clear hown8 hgrow)
        go_roundw
        case rel =>
         refine ⟨k + 1, qn, n9 + (y - x), dn, by simp, by omega, Lib.hid ⟨T8.out.far (by omega), D8.out.set6, P8.out.kept grown_set (.inr (by intro e; cases e; exact hgg rfl)), ?_, K8.out.setCell (p := ⟨g7, 6, none⟩) (by dsimp only; omega) _, by rw [World.size_setCell]; omega, by rw [World.size_setCell]; exact Nat.le_trans hszk hs8⟩⟩
         exact own_set (by rw [HSNO.out, flV_app]; exact V8.out) (by dsimp only; omega)
        case measure => simp [intOf]; omega
       ·obtain rfl : k = j := by omega
        have gN3 : decide ((k : Int) < k) = false := by simp
        rw [lst_end a af i HN.out] at VJ
        have HI9 := Lib.hid (show (B7 wr (w.heap.size) (.int .i64 0) (.int .i64 0) (.int .i64 0) (.int .i64 0) (.int .i64 0) (.slice none 0 0) (.slice none 0 0)) /\ (B7 wr (g7) (.int .i64 h.K) (.int .i64 h.B) (.int .i64 h.F) (.int .i64 h.R) (.int .i64 h.O) (.slice (some ⟨gp, 0, none⟩) hl cc) (.slice qv n9 dv)) /\ wr.ownsRow w1.heap.size 3 1 (.slice (some ⟨gp, 0, none⟩) hl cc) hl ((h.zs.set a (S : Int)).map (Value.int .i64)) /\ wr.ownsRow wb.heap.size 29 2 (.slice qv n9 dv) n9 (flV (LST a af L (i + 1) 0)) /\ Below w.heap.size w wr /\ g7 < wr.heap.size /\ wb.heap.size <= wr.heap.size from ⟨ZJ, MJ, PJ, VJ, KJ, lJ, hszr⟩)
        clear hk hkn ZJ MJ PJ VJ KJ lJ HK
        go_wp2_with fail
        go_roundw
        case rel => exact ⟨i + 1, qv, n9, dv, by simp, by omega, HI9⟩
        case measure => simp [intOf]; omega
     ·obtain rfl : i = bf := by omega
      have gN4 : decide ((i : Int) < i) = false := by simp
      obtain ⟨ZJ, MJ, PJ, VJ, KJ, lJ, hszr⟩ := HI.out
      obtain ⟨⟨z0, z1, z2, z3, z4, z5, z6⟩, ⟨f0, f1, f2, f3, f4, f5, f6⟩⟩ := ZJ
      have lr : w.heap.size < wr.heap.size := by omega
      obtain ⟨⟨m0, m1, m2, m3, m4, m5, m6⟩, -⟩ := MJ
      have hln := VJ.1
      rw [flV_len] at hln
      have hlst : LST a af L i 0 = ctV a af L i := by unfold LST; rw [List.take_zero]; exact List.append_nil _
      have HVL := Lib.hid (show (ctV a af L i).length = n9 by rw [<- hlst]; omega)
      have HVV := Lib.hid (hlst ▸ VJ)
      have HPP := Lib.hid PJ
      clear hln hlst VJ PJ HI
      go_upto_region 24 with fail
      repeat go_step
      have SBB := (((((((KJ).setCell (p := ⟨w.heap.size, 0, none⟩) (by dsimp only; omega) (.int .i64 h.K)).setCell (p := ⟨w.heap.size, 1, none⟩) (by dsimp only; omega) (.int .i64 h.B)).setCell (p := ⟨w.heap.size, 2, none⟩) (by dsimp only; omega) (.int .i64 h.F)).setCell (p := ⟨w.heap.size, 3, none⟩) (by dsimp only; omega) (.int .i64 h.R)).setCell (p := ⟨w.heap.size, 4, none⟩) (by dsimp only; omega) (.int .i64 h.O)).setCell (p := ⟨w.heap.size, 5, none⟩) (by dsimp only; omega) (.slice (some ⟨gp, 0, none⟩) hl cc)).setCell (p := ⟨w.heap.size, 6, none⟩) (by dsimp only; omega) (.slice qv n9 dv)
      have hlz : (h.zs.set a (S : Int)).length = hl := by rw [List.length_set]; exact HHL.out
      refine bodyPost_ret (v := .tuple #[Tn h.K h.B h.F h.R h.O (some ⟨gp, 0, none⟩) hl cc qv n9 dv, .int .i64 0]) (by simp [results, Tryz.results40, go_sem, z0, f0, z1, f1, z2, f2, z3, f3, z4, f4, z5, f5, z6, f6, lr, Tn]) rfl (.inr ⟨HSL.out, ?_⟩)
      refine ⟨some ⟨gp, 0, none⟩, cc, qv, dv, by rw [hlz, HVL.out], ?_, ?_, SBB⟩
      ·rw [hlz]; exact own_base (own_set7 (r := w.heap.size) (x0 := .int .i64 h.K) (x1 := .int .i64 h.B) (x2 := .int .i64 h.F) (x3 := .int .i64 h.R) (x4 := .int .i64 h.O) (x5 := .slice (some ⟨gp, 0, none⟩) hl cc) (x6 := .slice qv n9 dv) HPP.out (by omega)) (by omega)
      ·rw [HVL.out]; exact own_base (own_set7 (r := w.heap.size) (x0 := .int .i64 h.K) (x1 := .int .i64 h.B) (x2 := .int .i64 h.F) (x3 := .int .i64 h.R) (x4 := .int .i64 h.O) (x5 := .slice (some ⟨gp, 0, none⟩) hl cc) (x6 := .slice qv n9 dv) HVV.out (by omega)) (by omega)
end Go.Proofs.YteaaikmejacpaaaGreatDoor.Te

namespace Go.Proofs.YteaaikmejacpaaaGreatDoor.Te
open Go.ChangeShapes Go.WideShapes Go.ChangeAt Go.RowKit
open Fx Va Sh
set_option maxRecDepth 8000
set_option linter.unusedVariables false
set_option linter.unusedSimpArgs false

theorem sp_set {zs : List Int} {a : Nat} (ha : a < zs.length) (k : Int) : sp (zs.set a k) = sp (zs.take a) * k * sp (zs.drop (a + 1)) := by
 have e : zs.set a k = zs.take a ++ k :: zs.drop (a + 1) := by rw [List.set_eq_take_append_cons_drop, if_pos ha]
 rw [e, sp_append, sp_cons, Int.mul_assoc]

theorem blk_of {c : Nat} {f : Nat -> List (Int × Int)} : ∀ (n : Nat), (∀ i, i < n -> (f i).length = c) -> ∀ i, i < n -> (((List.range n).flatMap f).drop (i * c)).take c = f i
 | 0, _, i, hi => by omega
 | n + 1, h, i, hi => by
  have hl : ((List.range n).flatMap f).length = n * c := by
   have : ∀ k, k <= n -> ((List.range k).flatMap f).length = k * c := by
    intro k
    induction k with
    | zero => intro _; simp
    | succ k ih =>
     intro hk
     rw [List.range_succ, List.flatMap_append, List.length_append, ih (by omega), Nat.succ_mul]
     simp [h k (by omega)]
   exact this n (Nat.le_refl _)
  have e : (List.range (n + 1)).flatMap f = (List.range n).flatMap f ++ f n := by
   rw [List.range_succ, List.flatMap_append]; simp
  rw [e]
  by_cases hin : i < n
  ·have h2 : (i + 1) * c <= n * c := Nat.mul_le_mul_right _ hin
   rw [Nat.add_mul, Nat.one_mul] at h2
   rw [List.drop_append_of_le_length (by omega), List.take_append_of_le_length (by rw [List.length_drop]; omega)]
   exact blk_of n (fun j hj => h j (by omega)) i hin
  ·obtain rfl : i = n := by omega
   rw [<- hl, List.drop_left]
   exact List.take_of_length_le (by rw [h i (by omega)]; exact Nat.le_refl _)

end Go.Proofs.YteaaikmejacpaaaGreatDoor.Te

namespace Go.Proofs.YteaaikmejacpaaaGreatDoor.Te
open Go.ChangeShapes Go.WideShapes Go.ChangeAt Go.RowKit
open Fx Va Sh
set_option maxRecDepth 8000
set_option linter.unusedVariables false
set_option linter.unusedSimpArgs false

theorem getD_drop_take {l : List (Int × Int)} {x c r : Nat} (hr : r < c) : ((l.drop x).take c).getD r (0, 0) = l.getD (x + r) (0, 0) := by
 rw [List.getD_eq_getElem?_getD, List.getD_eq_getElem?_getD, List.getElem?_take_of_lt hr, List.getElem?_drop]
theorem flat_get {c : Nat} {f : Nat -> List (Int × Int)} {n i r : Nat} (h : ∀ i, i < n -> (f i).length = c) (hi : i < n) (hr : r < c) : ((List.range n).flatMap f).getD (i * c + r) (0, 0) = (f i).getD r (0, 0) := by
 rw [<- getD_drop_take hr, blk_of n h i hi]
theorem ctR_get {a af i bf : Nat} {L : List Tr} {k r : Nat} {t : Tr} (hi : i < bf) (h : ∀ t ∈ L, t.vs.length = bf * axN a t * af) (hk : L[k]? = some t) (hr : r < axN a t * af) : (ctR a af i L).getD (smA a (L.take k) * af + r) (0, 0) = (ctB a af i t).getD r (0, 0) := by
 have hkl := (List.getElem?_eq_some_iff.1 hk).1
 have e : L = L.take (k + 1) ++ L.drop (k + 1) := (List.take_append_drop _ _).symm
 have e1 : ctR a af i L = (ctR a af i (L.take k) ++ ctB a af i t) ++ ctR a af i (L.drop (k + 1)) := by
  rw [<- ctR_snoc a af i hk]
  unfold ctR
  rw [<- List.flatMap_append, List.take_append_drop]
 have l1 : (ctR a af i (L.take k)).length = smA a (L.take k) * af := ctR_len hi (fun t ht => h t (List.mem_of_mem_take ht))
 have l2 : (ctB a af i t).length = axN a t * af := ctB_len hi (h t (List.mem_of_getElem? hk))
 rw [e1, List.getD_eq_getElem?_getD, List.getElem?_append_left (by rw [List.length_append]; omega), List.getElem?_append_right (by omega), l1, Nat.add_sub_cancel_left, <- List.getD_eq_getElem?_getD]
/-- The element of the joined tensor at a place. -/
theorem ctV_get {a bf af S i0 s f k s' : Nat} {h : Tr} {L : List Tr} {t : Tr} (G : Gd a bf af h L) (hS : smA a L = S) (hi : i0 < bf) (hf : f < af) (hk : L[k]? = some t) (hs : s = smA a (L.take k) + s') (hs' : s' < axN a t) : (ctV a af L bf).getD ((i0 * S + s) * af + f) (0, 0) = t.vs.getD (i0 * axN a t * af + f + s' * af) (0, 0) := by
 have h0 : ∀ t ∈ L, t.vs.length = bf * axN a t * af := fun t ht => (G.all t ht).2.2.2.2.2.1
 have hsS : s < S := by
  have h1 := smA_snoc a hk
  have h2 := smA_le a L (k + 1)
  omega
 have e1 : (i0 * S + s) * af + f = i0 * (S * af) + (s * af + f) := by rw [Nat.add_mul, Nat.mul_assoc]; omega
 have e2 : s * af + f < S * af := by
  have : (s + 1) * af <= S * af := Nat.mul_le_mul_right _ hsS
  rw [Nat.add_mul, Nat.one_mul] at this; omega
 have e3 : s' * af + f < axN a t * af := by
  have : (s' + 1) * af <= axN a t * af := Nat.mul_le_mul_right _ hs'
  rw [Nat.add_mul, Nat.one_mul] at this; omega
 rw [e1]
 unfold ctV
 rw [flat_get (c := S * af) (fun i hi => by rw [ctR_len hi h0, hS]) hi e2]
 have e4 : s * af + f = smA a (L.take k) * af + (s' * af + f) := by rw [hs, Nat.add_mul]; omega
 rw [e4, ctR_get hi h0 hk e3]
 unfold ctB
 rw [getD_drop_take e3]
 congr 1
 rw [<- Nat.mul_assoc]; omega
theorem rst_set (zs : List Int) (a : Nat) (k : Int) (ha : a < zs.length) : rst (zs.set a k) a = rst zs a := by
 unfold rst
 rw [List.take_set_of_le (Nat.le_refl _), List.drop_set_of_lt (by omega)]
theorem ins_set {p : List Int} {a : Nat} (x y : Int) (ha : a <= p.length) : (ins p a x).set a y = ins p a y := by
 unfold ins
 rw [List.set_append_right _ _ (by rw [List.length_take]; omega)]
 have e : a - (p.take a).length = 0 := by rw [List.length_take]; omega
 rw [e]
 rfl
theorem getD_set {zs : List Int} {a : Nat} {k : Int} (ha : a < zs.length) : (zs.set a k).getD a 0 = k := by
 rw [List.getD_eq_getElem?_getD, List.getElem?_set, if_pos rfl, if_pos ha]; rfl
/-- The point of a place of the joined tensor. -/
theorem cat_pt {zs : List Int} {a bf af S i0 s f : Nat} (hv : vE (zs.set a (S : Int)) = 0) (ha : a < zs.length) (hbf : sp (zs.take a) = bf) (haf : sp (zs.drop (a + 1)) = af) (hi : i0 < bf) (hs : s < S) (hf : f < af) : pt (zs.set a (S : Int)) (((i0 * S + s) * af + f : Nat) : Int) = ins (pt (rst zs a) ((i0 * af + f : Nat) : Int)) a s := by
 have hz : (zs.set a (S : Int)).length = zs.length := List.length_set
 have b2 : sp ((zs.set a (S : Int)).take a) = bf := by rw [List.take_set_of_le (Nat.le_refl _)]; exact hbf
 have a2 : sp ((zs.set a (S : Int)).drop (a + 1)) = af := by rw [List.drop_set_of_lt (by omega)]; exact haf
 have hj : i0 * af + f < bf * af := by
  have : (i0 + 1) * af <= bf * af := Nat.mul_le_mul_right _ hi
  rw [Nat.add_mul, Nat.one_mul] at this; omega
 have o1 := ref_off (k := s) hv (by rw [hz]; exact ha) b2 (getD_set ha) a2 hj hs
 rw [rst_set zs a _ ha] at o1
 have e : lnF S af (i0 * af + f) + s * af = (i0 * S + s) * af + f := by
  unfold lnF
  have h1 : (i0 * af + f) / af = i0 := by rw [Nat.mul_comm, Nat.mul_add_div (by omega), Nat.div_eq_of_lt hf]; rfl
  have h2 : (i0 * af + f) % af = f := by rw [Nat.mul_comm, Nat.mul_add_mod, Nat.mod_eq_of_lt hf]
  rw [h1, h2, Nat.add_mul]; omega
 rw [e] at o1
 have hlt : ((i0 * S + s) * af + f : Nat) < bf * S * af := by
  have h1 : (i0 + 1) * S <= bf * S := Nat.mul_le_mul_right _ hi
  have h2 : (i0 * S + s + 1) * af <= bf * S * af := Nat.mul_le_mul_right _ (by rw [Nat.add_mul, Nat.one_mul] at h1; omega)
  rw [Nat.add_mul _ 1, Nat.one_mul] at h2; omega
 have hsp : sp (zs.set a (S : Int)) = ((bf * S * af : Nat) : Int) := by
  rw [sp_set ha, hbf, haf]; push_cast; rfl
 have o2 := of_pt (a := (((i0 * S + s) * af + f : Nat) : Int)) hv (by omega) (by rw [hsp]; exact_mod_cast hlt)
 rw [oA_ok hv (pt_length _ _)] at o2
 refine (of_inj _ _ _ _ _ (valid_of hv).2.1 (pt_length _ _) ?_ o2 o1 (Int.le_refl _))
 exact ins_length (by rw [pt_length, rst_length ha, hz]; omega)
/-- The place in the tensor that the definition finds. -/
theorem cat_off {zs : List Int} {a bf af my i0 s' f : Nat} (hv : vE (zs.set a (my : Int)) = 0) (ha : a < zs.length) (hbf : sp (zs.take a) = bf) (haf : sp (zs.drop (a + 1)) = af) (hi : i0 < bf) (hs : s' < my) (hf : f < af) : of 0 (zs.set a (my : Int)) (ins (pt (rst zs a) ((i0 * af + f : Nat) : Int)) a s') = some ((i0 * my * af + f + s' * af : Nat) : Int) := by
 have hz : (zs.set a (my : Int)).length = zs.length := List.length_set
 have b2 : sp ((zs.set a (my : Int)).take a) = bf := by rw [List.take_set_of_le (Nat.le_refl _)]; exact hbf
 have a2 : sp ((zs.set a (my : Int)).drop (a + 1)) = af := by rw [List.drop_set_of_lt (by omega)]; exact haf
 have hj : i0 * af + f < bf * af := by
  have : (i0 + 1) * af <= bf * af := Nat.mul_le_mul_right _ hi
  rw [Nat.add_mul, Nat.one_mul] at this; omega
 have o1 := ref_off (k := s') hv (by rw [hz]; exact ha) b2 (getD_set ha) a2 hj hs
 rw [rst_set zs a _ ha] at o1
 have e : lnF my af (i0 * af + f) + s' * af = i0 * my * af + f + s' * af := by
  unfold lnF
  have h1 : (i0 * af + f) / af = i0 := by rw [Nat.mul_comm, Nat.mul_add_div (by omega), Nat.div_eq_of_lt hf]; rfl
  have h2 : (i0 * af + f) % af = f := by rw [Nat.mul_comm, Nat.mul_add_mod, Nat.mod_eq_of_lt hf]
  rw [h1, h2]
 rw [e] at o1
 exact o1
end Go.Proofs.YteaaikmejacpaaaGreatDoor.Te

namespace Go.Proofs.YteaaikmejacpaaaGreatDoor.Te
open Go.ChangeShapes Go.WideShapes Go.ChangeAt Go.RowKit
open Fx Va Sh
set_option maxRecDepth 8000
set_option linter.unusedVariables false
set_option linter.unusedSimpArgs false

theorem dfF_self (ax : Int) (a : List Int) : ∀ f k, dfF ax a a f k = false
 | 0, _ => rfl
 | f + 1, k => by
  unfold dfF
  rw [if_neg (fun h => h.2 rfl)]
  exact dfF_self ax a f (k + 1)
theorem ccD_self {ax : Int} {h : Tr} {r : List Tr} : ccD ax h (h :: r) = ccD ax h r := by
 show (if dfF ax h.zs h.zs h.zs.length 0 = true then 15 else ccD ax h r) = _
 rw [dfF_self, if_neg (by decide)]

/-- The length along the axis of a valid tensor. -/
theorem axN_ok {t : Tr} {a : Nat} (ht : tEt t = 0) (ha : a < t.zs.length) : t.zs.getD a 0 = (axN a t : Int) /\ 1 <= axN a t /\ axN a t <= 4096 := by
 unfold tEt at ht
 obtain ⟨-, hv, -, -⟩ := tE_ok ht
 obtain ⟨e, p1, p2, p3⟩ := sp_parts hv ha
 obtain ⟨-, -, -, hs, -⟩ := valid_of hv
 have h1 : 1 * t.zs.getD a 0 * 1 <= sp (t.zs.take a) * t.zs.getD a 0 * sp (t.zs.drop (a + 1)) := Int.mul_le_mul (Int.mul_le_mul_of_nonneg_right p1 (by omega)) p3 (by decide) (Int.mul_nonneg (by omega) (by omega))
 rw [<- e, Int.one_mul, Int.mul_one] at h1
 unfold axN
 omega
theorem smA_bd {a : Nat} : ∀ {L : List Tr}, (∀ t ∈ L, axN a t <= 4096) -> smA a L <= L.length * 4096
 | [], _ => by simp [smA]
 | t :: r, h => by
  have h1 := h t List.mem_cons_self
  have h2 := smA_bd (fun x hx => h x (List.mem_cons_of_mem _ hx))
  show axN a t + smA a r <= (r.length + 1) * 4096
  omega
/-- The limit, as the definition asks for it. -/
theorem lim_div {S ba : Nat} (h1 : 1 <= ba) : (4096 / ba < S) ↔ 4096 < S * ba := by
 rw [Nat.div_lt_iff_lt_mul (by omega)]

theorem jn_len {L : List Tr} {h : Tr} {r : List Tr} {hl : Nat} (hL : L = h :: r) (h0 : ccT h r = 0) (hh : h.zs.length = hl) {t : Tr} (ht : t ∈ L) : t.zs.length = hl := by
 subst hL
 rcases List.mem_cons.1 ht with rfl | h1
 ·exact hh
 ·exact (ccT_ok h0 h1).trans hh
theorem jn_E {ax : Int} {L : List Tr} {jN jE x : Int} {P : Prop} (hc : ccE ax L = x) (hj : (ccE ax L ≠ 0 /\ jN = 0 /\ jE = ccE ax L) \/ (ccE ax L = 0 /\ P)) (hx : x ≠ 0) : jN = 0 /\ jE = x := by
 rcases hj with ⟨_, h1, h2⟩ | ⟨h1, _⟩
 ·exact ⟨h1, by rw [h2, hc]⟩
 ·exact absurd (hc ▸ h1) hx
theorem jn_T {ax : Int} {L : List Tr} {h : Tr} {r : List Tr} {hl : Nat} {jN jE x : Int} {P : Prop} (hc : ccE ax L = if ccT h r ≠ 0 then ccT h r else if ax < 0 \/ (hl : Int) <= ax then 11 else ccD ax h r) (hj : (ccE ax L ≠ 0 /\ jN = 0 /\ jE = ccE ax L) \/ (ccE ax L = 0 /\ P)) (hz : ccT h r ≠ 0) (hx : ccT h r = x) : jN = 0 /\ jE = x := by
 rw [if_pos hz] at hc
 rcases hj with ⟨_, h1, h2⟩ | ⟨h1, _⟩
 ·exact ⟨h1, by rw [h2, hc, hx]⟩
 ·exact absurd (hc ▸ h1) hz

set_option maxRecDepth 100000 in
set_option maxHeartbeats 2000000 in
theorem jn (ax : Int) (pb po : Nat) (L : List Tr) (cL : Nat) (h : Tr) (r : List Tr) (w : World) (hL : L = h :: r) (h8 : L.length <= 8) (hv : ccV L = 0) (OK : ∀ t ∈ L, okT t) (RX : Hid (SlX w (some ⟨pb, po, none⟩) L)) (jN jE : Int) (hj : (ccE ax L ≠ 0 /\ jN = 0 /\ jE = ccE ax L) \/ (ccE ax L = 0 /\ ∃ a bf af : Nat, ax = (a : Int) /\ Gd a bf af h L /\ ((4096 < smA a L * (bf * af) /\ jN = 0 /\ jE = 2) \/ (smA a L * (bf * af) <= 4096 /\ jN = (smA a L : Int) /\ jE = 0)))) :
  Calls Tryz.prog 75 #[.int .i64 ax, .slice (some ⟨pb, po, none⟩) L.length cL] w fun e w' => e = .returned (.tuple #[.int .i64 jN, .int .i64 jE]) /\ Below w.heap.size w w' := by
 have hcE := ccE_eq (ax := ax) hL hv
 have hvl := fun t (ht : t ∈ L) => ccV_ok hv ht
 have heq : L[0]? = some h := by rw [hL]; rfl
 have hdr1 : L.drop 1 = r := by rw [hL]; rfl
 have hn1 : 1 <= L.length := by rw [hL]; simp
 obtain ⟨n, hnn⟩ : ∃ n, L.length = n := ⟨_, rfl⟩
 obtain ⟨hl, hhl⟩ : ∃ x, h.zs.length = x := ⟨_, rfl⟩
 rw [hnn] at h8 hn1 ⊢
 rw [hhl] at hcE
 have HCE := Lib.hid hcE
 have HVL := Lib.hid hvl
 have HEQ := Lib.hid heq
 have HN := Lib.hid hnn
 have HHL := Lib.hid hhl
 have HJ := Lib.hid hj
 have HOK := Lib.hid OK
 have HLL := Lib.hid hL
 have hn0 : 0 < n := by omega
 obtain ⟨ET, hET⟩ : ∃ e, ccT h r = e := ⟨_, rfl⟩
 have HET := Lib.hid hET
 have HD1 := Lib.hid hdr1
 clear hcE hvl heq hnn hhl hj OK hL hET hdr1 hv
 go_enter Tryz.func75, Tryz.ntmps75
 go_upto_region 2 with fail
 have KB0 : Hid (Below w.heap.size w w) := Lib.hid (Below.refl _ _)
 go_loopw [6] (fun iv wr => ∃ i : Nat, iv = .int .i64 (i : Int) /\ 1 <= i /\ i <= n /\ Hid (ccT h (L.drop i) = ET) /\ Hid (Below w.heap.size w wr)) (fun iv _ => n - (intOf iv).toNat)
 case atStart => exact ⟨1, rfl, Nat.le_refl _, hn1, Lib.hid (by rw [HD1.out]; exact HET.out), KB0⟩
 case round =>
  obtain ⟨j, rfl, hj1, hj, HI, KB⟩ := hrel
  clear KB0
  by_cases hjn : j < n
  ·have hj2 : (j : Int) < n := by omega
   have hj0 : (0 : Int) <= j := by omega
   have hj8 : (j : Int) < 100 := by omega
   obtain ⟨⟨tK, tB, tF, tR, tO, tp, tz, tc, tq, tv, td⟩, het, hdr⟩ := drop_one (L := L) (i := j) (by rw [HN.out]; exact hjn)
   obtain ⟨⟨b, o, hp, hc7⟩, -, -⟩ := (SlX.keep KB.out RX.out) j _ het
   cases hp
   obtain ⟨c0, c1, c2, c3, c4, c5, c6⟩ := hc7
   dsimp only at c0 c1 c2 c3 c4 c5 c6
   obtain ⟨⟨hb9, ho9, hhp, hh7⟩, -, -⟩ := (SlX.keep KB.out RX.out) 0 h HEQ.out
   cases hhp
   rw [Nat.zero_mul, Nat.add_zero] at hh7
   obtain ⟨h0, h1, h2, h3, h4, h5, h6⟩ := hh7
   have HI2 := HI.out
   rw [hdr] at HI2
   unfold ccT at HI2
   have HI3 := Lib.hid HI2
   clear het hdr HI2 HI
   rcases tyq_cases h ⟨tK, tB, tF, tR, tO, tp, tz, tc, tq, tv, td⟩ with ⟨ht, rfl, rfl, rfl, rfl, rfl⟩ | ⟨ht, g | ⟨rfl, g | ⟨rfl, g | ⟨rfl, g | ⟨rfl, g⟩⟩⟩⟩⟩
   ·have HI4 := HI3.out
    rw [if_neg (by rw [ht]; decide), HHL.out] at HI4
    dsimp only at HI4
    obtain ⟨tl, htl⟩ : ∃ x, tz.length = x := ⟨_, rfl⟩
    rw [htl] at c5 HI4
    rw [HHL.out] at h5
    have HI5 := Lib.hid HI4
    have C5 := Lib.hid c5
    have H5 := Lib.hid h5
    clear ht HI3 HI4 htl
    go_upto_region 4 with fail
    go_quiet (fail)
    obtain ⟨wo, hwo⟩ : ∃ wo : World, wo = wr.drewN nq := ⟨_, rfl⟩
    rw [<- hwo]
    have KO : Hid (Below w.heap.size w wo) := Lib.hid (by rw [hwo]; exact below_drewN KB.out _)
    replace c5 : wo.cell? ⟨pb, po + j * 7 + 5, none⟩ = some (.slice tp tl tc) := (by rw [hwo]; exact C5.out)
    replace h5 : wo.cell? ⟨pb, po + 5, none⟩ = some (.slice h.p hl h.c) := (by rw [hwo]; exact H5.out)
    clear hwo c0 c1 c2 c3 c4 c6 h0 h1 h2 h3 h4 h6 C5 H5
    go_upto_region 6 with fail
    by_cases hll : tl = hl
    ·have HI6 := HI5.out
     rw [if_neg (by simpa using hll)] at HI6
     subst hll
     have HI7 := Lib.hid HI6
     clear HI6 HI5
     go_quiet (fail)
     go_wp2_with fail
     go_roundw
     case rel => exact ⟨j + 1, by simp, by omega, by omega, HI7, Lib.hid (below_drewN KO.out _)⟩
     case measure => simp [intOf]; omega
    ·have gl : ((tl : Int) != (hl : Int)) = true := by simp; omega
     have gl2 : (tl != hl) = true := by simp; omega
     have hA : jN = 0 /\ jE = 11 := by
      have h2 := HI5.out
      rw [if_pos hll] at h2
      exact jn_T HCE.out HJ.out (by rw [HET.out, <- h2]; decide) (by rw [HET.out, <- h2])
     obtain ⟨rfl, rfl⟩ := hA
     clear HI5 hll
     go_quiet (fail)
     go_wp2_with fail
     refine bodyPost_ret (v := .tuple #[.int .i64 0, .int .i64 11]) (by simp [results, Tryz.results75, go_sem]) rfl ⟨rfl, below_drewN KO.out _⟩
   all_goals
    have hA : jN = 0 /\ jE = 10 := by
     have h2 := HI3.out
     rw [if_pos ht] at h2
     exact jn_T HCE.out HJ.out (by rw [HET.out, <- h2]; decide) (by rw [HET.out, <- h2])
    obtain ⟨rfl, rfl⟩ := hA
    clear ht HI3
    go_upto_region 4 with fail
    go_quiet (fail)
    go_wp2_with fail
    refine bodyPost_ret (v := .tuple #[.int .i64 0, .int .i64 10]) (by simp [results, Tryz.results75, go_sem]) rfl ⟨rfl, below_drewN KB.out _⟩
  ·obtain rfl : j = n := by omega
   have gN : decide ((j : Int) < j) = false := by simp
   have hE0 : ET = 0 := by rw [<- HI.out, drop_all HN.out]; rfl
   have hT0 : ccT h r = 0 := HET.out.trans hE0
   have HTT := Lib.hid fun t (ht : t ∈ L) => jn_len HLL.out hT0 HHL.out ht
   have hcc := HCE.out
   rw [if_neg (by simpa using hT0)] at hcc
   obtain ⟨⟨hb9, ho9, hhp, hh7⟩, -, -⟩ := (SlX.keep KB.out RX.out) 0 h HEQ.out
   cases hhp
   rw [Nat.zero_mul, Nat.add_zero] at hh7
   obtain ⟨h0, h1, h2, h3, h4, h5, h6⟩ := hh7
   rw [HHL.out] at h5
   clear HI hj hjn hE0 hT0
   by_cases ha : ax < 0
   ·rw [if_pos (.inl ha)] at hcc
    obtain ⟨rfl, rfl⟩ := jn_E hcc HJ.out (by decide)
    have ga : decide (ax < 0) = true := by simpa using ha
    go_wp2_with fail
    refine bodyPost_ret (v := .tuple #[.int .i64 0, .int .i64 11]) (by simp [results, Tryz.results75, go_sem]) rfl ⟨rfl, KB.out⟩
   have ga : decide (ax < 0) = false := by simpa using ha
   by_cases hb : (hl : Int) <= ax
   ·rw [if_pos (.inr hb)] at hcc
    obtain ⟨rfl, rfl⟩ := jn_E hcc HJ.out (by decide)
    have gb : decide ((hl : Int) <= ax) = true := by simpa using hb
    go_wp2_with fail
    refine bodyPost_ret (v := .tuple #[.int .i64 0, .int .i64 11]) (by simp [results, Tryz.results75, go_sem]) rfl ⟨rfl, KB.out⟩
   have gb : decide ((hl : Int) <= ax) = false := by simpa using hb
   rw [if_neg (by omega)] at hcc
   obtain ⟨a, rfl⟩ : ∃ a : Nat, ax = a := ⟨ax.toNat, by omega⟩
   have hal : a < hl := by omega
   obtain ⟨D, hD⟩ : ∃ D, ccD (a : Int) h r = D := ⟨_, rfl⟩
   rw [hD] at hcc
   have HCC := Lib.hid hcc
   have HD9 := Lib.hid (show ccD (a : Int) h (L.drop 0) = D by rw [List.drop_zero, HLL.out, ccD_self]; exact hD)
   have HAX := Lib.hid fun t (ht : t ∈ L) => axN_ok (a := a) (HVL.out t ht) (by rw [HTT.out t ht]; exact hal)
   have KB1 := KB
   clear hD hcc
   go_upto_region 12 with fail
   clear h0 h1 h2 h3 h4 h5 h6 gN ha hb ga gb
   go_loopw [7, 8] (fun sv iv wr => ∃ i : Nat, sv = .int .i64 (smA a (L.take i) : Int) /\ iv = .int .i64 (i : Int) /\ i <= j /\ Hid (ccD (a : Int) h (L.drop i) = D) /\ Hid (Below w.heap.size w wr)) (fun _ iv _ => j - (intOf iv).toNat)
   case atStart => exact ⟨0, rfl, rfl, Nat.zero_le _, HD9, KB1⟩
   case round =>
    obtain ⟨i, rfl, rfl, hi, HI, KB⟩ := hrel
    clear KB1
    by_cases hij : i < j
    ·have hi2 : (i : Int) < j := by omega
     have hi0 : (0 : Int) <= i := by omega
     have hi8 : (i : Int) < 100 := by omega
     obtain ⟨t, het, hdr⟩ := drop_one (L := L) (i := i) (by rw [HN.out]; exact hij)
     have htm := List.mem_of_getElem? het
     have htl : t.zs.length = hl := HTT.out t htm
     obtain ⟨hmy, hm1, hm4⟩ := HAX.out t htm
     have HI2 := HI.out
     rw [hdr] at HI2
     unfold ccD at HI2
     rw [HHL.out] at HI2
     obtain ⟨D1, hD1⟩ : ∃ D, dfF (a : Int) t.zs h.zs hl 0 = D := ⟨_, rfl⟩
     rw [hD1] at HI2
     have HDD := Lib.hid hD1
     have HI3 := Lib.hid HI2
     have HTL := Lib.hid htl
     have HET9 := Lib.hid het
     have HMY := Lib.hid hmy
     have hsb : smA a (L.take i) <= 8 * 4096 := by
      have h1 := smA_bd (a := a) (L := L.take i) (fun x hx => (HAX.out x (List.mem_of_mem_take hx)).2.2)
      have h2 : (L.take i).length <= 8 := by rw [List.length_take]; omega
      have h3 : (L.take i).length * 4096 <= 8 * 4096 := Nat.mul_le_mul_right _ h2
      omega
     have hsn := smA_snoc a het
     obtain ⟨s, hs⟩ : ∃ x, smA a (L.take i) = x := ⟨_, rfl⟩
     obtain ⟨my, hmyy⟩ : ∃ x, axN a t = x := ⟨_, rfl⟩
     rw [hs, hmyy] at hsn
     rw [hs] at hsb ⊢
     rw [hmyy] at hm1 hm4
     have HMYY := Lib.hid hmyy
     have HSN := Lib.hid hsn
     have hss : (s : Int) <= 32768 := by omega
     have hs0 : (0 : Int) <= s := by omega
     have hmz : (my : Int) <= 4096 := by omega
     have hmz0 : (0 : Int) <= my := by omega
     have KB2 := KB
     clear hdr htl hD1 HI2 HI hmy hs hsn hmyy het htm
     obtain ⟨⟨hb9, ho9, hhp, hh7⟩, -, -⟩ := (SlX.keep KB.out RX.out) 0 h HEQ.out
     cases hhp
     rw [Nat.zero_mul, Nat.add_zero] at hh7
     obtain ⟨h0, h1, h2, h3, h4, h5, h6⟩ := hh7
     rw [HHL.out] at h5
     go_upto_region 15 with fail
     clear h0 h1 h2 h3 h4 h5 h6
     go_loopw [9] (fun iv wr => ∃ x : Nat, iv = .int .i64 (x : Int) /\ x <= hl /\ Hid (dfF (a : Int) t.zs h.zs (hl - x) x = D1) /\ Hid (Below w.heap.size w wr)) (fun iv _ => hl - (intOf iv).toNat)
     case atStart => exact ⟨0, rfl, Nat.zero_le _, HDD, KB2⟩
     case round =>
      obtain ⟨x, rfl, hx, HX, KB⟩ := hrel
      clear KB2
      obtain ⟨⟨hb9, ho9, hhp, hh7⟩, RH9, -⟩ := (SlX.keep KB.out RX.out) 0 h HEQ.out
      cases hhp
      rw [Nat.zero_mul, Nat.add_zero] at hh7
      obtain ⟨h0, h1, h2, h3, h4, h5, h6⟩ := hh7
      rw [HHL.out] at h5
      obtain ⟨⟨b, o, hp, hc7⟩, RI9, -⟩ := (SlX.keep KB.out RX.out) i _ HET9.out
      cases hp
      obtain ⟨c0, c1, c2, c3, c4, c5, c6⟩ := hc7
      rw [HTL.out] at c5
      clear h0 h1 h2 h3 h4 h6 c0 c1 c2 c3 c4 c6
      by_cases hxl : x < hl
      ·have hx2 : (x : Int) < hl := by omega
       have hx0 : (0 : Int) <= x := by omega
       have hxm : (x : Int) < 9223372036854775807 := by have h := HOK.out h (List.mem_of_getElem? HEQ.out); unfold okT maxLen at h; have := HHL.out; omega
       obtain ⟨b1, o1, hp1, v1⟩ := RI9 x (by rw [HTL.out]; exact hxl)
       obtain ⟨b2, o2, hp2, v2⟩ := RH9 x (by rw [HHL.out]; exact hxl)
       have HX2 := HX.out
       rw [show hl - x = (hl - (x + 1)) + 1 by omega] at HX2
       unfold dfF at HX2
       obtain ⟨y1, hy1⟩ : ∃ y, t.zs.getD x 0 = y := ⟨_, rfl⟩
       obtain ⟨y2, hy2⟩ : ∃ y, h.zs.getD x 0 = y := ⟨_, rfl⟩
       rw [hy1] at v1 HX2
       rw [hy2] at v2 HX2
       clear hy1 hy2 RI9 RH9
       rw [hp1] at c5
       rw [hp2] at h5
       by_cases hxa : (x : Int) = a
       ·rw [if_neg (fun h => h.1 hxa)] at HX2
        have HX3 := Lib.hid HX2
        have gx : ((x : Int) != (a : Int)) = false := by simpa using hxa
        have gx2 : (x != a) = false := by simp; omega
        clear HX2 hxa HX
        go_upto_region 17 with fail
        refine Rk.begin (S := fun wS => wS.cell? ⟨pb, po + i * 7 + 5, none⟩ = some (.slice (some ⟨b1, o1, none⟩) hl t.c) /\ wS.cell? ⟨pb, po + 5, none⟩ = some (.slice (some ⟨b2, o2, none⟩) hl h.c) /\ wS.cell? ⟨b1, o1 + x, none⟩ = some (.int .i64 y1) /\ wS.cell? ⟨b2, o2 + x, none⟩ = some (.int .i64 y2) /\ Below wr.heap.size wr wS) 20 (by kernel_rfl) ⟨c5, h5, v1, v2, Below.drew (Below.refl _ _)⟩ (fun hHeld => ?_)
        refine SqR.p 0 ?_
        refine SqR.p 1 ?_
        refine SqR.p 2 ?_
        refine SqR.p 3 ?_
        refine Rk.takeP (i := 4) (v := undef) rfl (by kernel_rfl) (by kernel_rfl) (by kernel_rfl) (by kernel_rfl) (fun _ _ _ h => h) (Or.inr ⟨by kernel_rfl, rfl⟩) (by assumption) ?_
        try simp only [Act.put, List.setIfInBounds_toArray, List.set_cons_zero, List.set_cons_succ]
        refine Rk.takeP (i := 5) (v := undef) rfl (by kernel_rfl) (by kernel_rfl) (by kernel_rfl) (by kernel_rfl) (fun _ _ _ h => h) (Or.inr ⟨by kernel_rfl, rfl⟩) (by assumption) ?_
        try simp only [Act.put, List.setIfInBounds_toArray, List.set_cons_zero, List.set_cons_succ]
        refine Rk.takeP (i := 6) (v := undef) rfl (by kernel_rfl) (by kernel_rfl) (by kernel_rfl) (by kernel_rfl) (fun _ _ _ h => h) (Or.inr ⟨by kernel_rfl, rfl⟩) (by assumption) ?_
        try simp only [Act.put, List.setIfInBounds_toArray, List.set_cons_zero, List.set_cons_succ]
        refine Rk.takeP (i := 7) (v := undef) rfl (by kernel_rfl) (by kernel_rfl) (by kernel_rfl) (by kernel_rfl) (fun _ _ _ h => h) (Or.inr ⟨by kernel_rfl, rfl⟩) (by assumption) ?_
        try simp only [Act.put, List.setIfInBounds_toArray, List.set_cons_zero, List.set_cons_succ]
        refine Rk.takeP (i := 8) (v := undef) rfl (by kernel_rfl) (by kernel_rfl) (by kernel_rfl) (by kernel_rfl) (fun _ _ _ h => h) (Or.inr ⟨by kernel_rfl, rfl⟩) (by assumption) ?_
        try simp only [Act.put, List.setIfInBounds_toArray, List.set_cons_zero, List.set_cons_succ]
        refine Rk.takeP (i := 9) (v := undef) rfl (by kernel_rfl) (by kernel_rfl) (by kernel_rfl) (by kernel_rfl) (fun _ _ _ h => h) (Or.inr ⟨by kernel_rfl, rfl⟩) (by assumption) ?_
        try simp only [Act.put, List.setIfInBounds_toArray, List.set_cons_zero, List.set_cons_succ]
        refine Rk.takeP (i := 10) (v := undef) rfl (by kernel_rfl) (by kernel_rfl) (by kernel_rfl) (by kernel_rfl) (fun _ _ _ h => h) (Or.inr ⟨by kernel_rfl, rfl⟩) (by assumption) ?_
        try simp only [Act.put, List.setIfInBounds_toArray, List.set_cons_zero, List.set_cons_succ]
        refine Rk.takeP (i := 11) (v := undef) rfl (by kernel_rfl) (by kernel_rfl) (by kernel_rfl) (by kernel_rfl) (fun _ _ _ h => h) (Or.inr ⟨by kernel_rfl, rfl⟩) (by assumption) ?_
        try simp only [Act.put, List.setIfInBounds_toArray, List.set_cons_zero, List.set_cons_succ]
        refine Rk.takeP (i := 12) (v := undef) rfl (by kernel_rfl) (by kernel_rfl) (by kernel_rfl) (by kernel_rfl) (fun _ _ _ h => h) (Or.inr ⟨by kernel_rfl, rfl⟩) (by assumption) ?_
        try simp only [Act.put, List.setIfInBounds_toArray, List.set_cons_zero, List.set_cons_succ]
        refine Rk.takeP (i := 13) (v := undef) rfl (by kernel_rfl) (by kernel_rfl) (by kernel_rfl) (by kernel_rfl) (fun _ _ _ h => h) (Or.inr ⟨by kernel_rfl, rfl⟩) (by assumption) ?_
        try simp only [Act.put, List.setIfInBounds_toArray, List.set_cons_zero, List.set_cons_succ]
        refine Rk.takeP (i := 14) (v := undef) rfl (by kernel_rfl) (by kernel_rfl) (by kernel_rfl) (by kernel_rfl) (fun _ _ _ h => h) (Or.inr ⟨by kernel_rfl, rfl⟩) (by assumption) ?_
        try simp only [Act.put, List.setIfInBounds_toArray, List.set_cons_zero, List.set_cons_succ]
        refine Rk.takeP (i := 15) (v := undef) rfl (by kernel_rfl) (by kernel_rfl) (by kernel_rfl) (by kernel_rfl) (fun _ _ _ h => h) (Or.inr ⟨by kernel_rfl, rfl⟩) (by assumption) ?_
        try simp only [Act.put, List.setIfInBounds_toArray, List.set_cons_zero, List.set_cons_succ]
        refine Rk.takeP (i := 16) (v := undef) rfl (by kernel_rfl) (by kernel_rfl) (by kernel_rfl) (by kernel_rfl) (fun _ _ _ h => h) (Or.inr ⟨by kernel_rfl, rfl⟩) (by assumption) ?_
        try simp only [Act.put, List.setIfInBounds_toArray, List.set_cons_zero, List.set_cons_succ]
        refine Rk.takeP (i := 17) (v := undef) rfl (by kernel_rfl) (by kernel_rfl) (by kernel_rfl) (by kernel_rfl) (fun _ _ _ h => h) (Or.inr ⟨by kernel_rfl, rfl⟩) (by assumption) ?_
        try simp only [Act.put, List.setIfInBounds_toArray, List.set_cons_zero, List.set_cons_succ]
        refine Rk.takeP (i := 18) (v := undef) rfl (by kernel_rfl) (by kernel_rfl) (by kernel_rfl) (by kernel_rfl) (fun _ _ _ h => h) (Or.inr ⟨by kernel_rfl, rfl⟩) (by assumption) ?_
        try simp only [Act.put, List.setIfInBounds_toArray, List.set_cons_zero, List.set_cons_succ]
        refine Rk.takeP (i := 19) (v := undef) rfl (by kernel_rfl) (by kernel_rfl) (by kernel_rfl) (by kernel_rfl) (fun _ _ _ h => h) (Or.inr ⟨by kernel_rfl, rfl⟩) (by assumption) ?_
        try simp only [Act.put, List.setIfInBounds_toArray, List.set_cons_zero, List.set_cons_succ]
        refine Rk.tail [20] [_] (by kernel_rfl) (by kernel_rfl) rfl (by decide) ?_
        go_wp2_with fail
        go_roundw
        case rel => exact ⟨x + 1, by simp, by omega, HX3, Lib.hid KB.out.drew⟩
        case measure => simp [intOf]; omega
       ·have gx : ((x : Int) != (a : Int)) = true := by simpa using hxa
        have gx2 : (x != a) = true := by simp; omega
        by_cases hyy : y1 = y2
        ·rw [if_neg (fun h => h.2 hyy)] at HX2
         have HX3 := Lib.hid HX2
         subst hyy
         clear HX2 hxa HX
         go_upto_region 17 with fail
         refine Rk.begin (S := fun wS => wS.cell? ⟨pb, po + i * 7 + 5, none⟩ = some (.slice (some ⟨b1, o1, none⟩) hl t.c) /\ wS.cell? ⟨pb, po + 5, none⟩ = some (.slice (some ⟨b2, o2, none⟩) hl h.c) /\ wS.cell? ⟨b1, o1 + x, none⟩ = some (.int .i64 y1) /\ wS.cell? ⟨b2, o2 + x, none⟩ = some (.int .i64 y1) /\ Below wr.heap.size wr wS) 20 (by kernel_rfl) ⟨c5, h5, v1, v2, Below.drew (Below.refl _ _)⟩ (fun hHeld => ?_)
         refine SqR.p 0 ?_
         refine SqR.p 1 ?_
         refine SqR.p 2 ?_
         refine SqR.p 3 ?_
         refine SqR.p 4 ?_
         refine SqR.p 5 ?_
         refine SqR.p 6 ?_
         refine SqR.p 7 ?_
         refine SqR.l [10, 11, 19, 20] 8 ?_
         refine SqR.p 9 ?_
         refine SqR.p 10 ?_
         refine SqR.l [19, 20] 11 ?_
         refine SqR.p 12 ?_
         refine SqR.p 13 ?_
         refine SqR.p 14 ?_
         refine SqR.l [17, 18, 19, 20] 15 ?_
         refine SqR.p 16 ?_
         refine SqR.p 17 ?_
         refine SqR.l [19, 20] 18 ?_
         refine SqR.p 19 ?_
         refine Rk.tail [20] [_] (by kernel_rfl) (by kernel_rfl) rfl (by decide) ?_

         go_wp2_with fail
         go_roundw
         case rel => exact ⟨x + 1, by simp, by omega, HX3, Lib.hid KB.out.drew⟩
         case measure => simp [intOf]; omega
        ·rw [if_pos ⟨hxa, hyy⟩] at HX2
         have gy : (y1 != y2) = true := by simpa using hyy
         have hD15 : D = 15 := by
          have h2 := HI3.out
          rw [<- HX2, if_pos rfl] at h2
          exact h2.symm
         subst hD15
         obtain ⟨rfl, rfl⟩ := jn_E HCC.out HJ.out (by decide)
         clear HX2 hxa hyy HX gx2 HI3 HDD HSN
         go_upto_region 17 with fail
         refine Rk.begin (S := fun wS => wS.cell? ⟨pb, po + i * 7 + 5, none⟩ = some (.slice (some ⟨b1, o1, none⟩) hl t.c) /\ wS.cell? ⟨pb, po + 5, none⟩ = some (.slice (some ⟨b2, o2, none⟩) hl h.c) /\ wS.cell? ⟨b1, o1 + x, none⟩ = some (.int .i64 y1) /\ wS.cell? ⟨b2, o2 + x, none⟩ = some (.int .i64 y2) /\ Below wr.heap.size wr wS) 20 (by kernel_rfl) ⟨c5, h5, v1, v2, Below.drew (Below.refl _ _)⟩ (fun hHeld => ?_)
         refine SqR.p 0 ?_
         refine SqR.p 1 ?_
         refine SqR.p 2 ?_
         refine SqR.p 3 ?_
         refine SqR.p 4 ?_
         refine SqR.p 5 ?_
         refine SqR.p 6 ?_
         refine SqR.p 7 ?_
         refine SqR.l [10, 11, 19, 20] 8 ?_
         refine SqR.p 9 ?_
         refine SqR.p 10 ?_
         refine SqR.l [19, 20] 11 ?_
         refine SqR.p 12 ?_
         refine SqR.p 13 ?_
         refine SqR.p 14 ?_
         refine SqR.l [17, 18, 19, 20] 15 ?_
         refine SqR.p 16 ?_
         refine SqR.p 17 ?_
         refine SqR.l [19, 20] 18 ?_
         refine SqR.p 19 ?_
         refine Rk.tail [20] [_] (by kernel_rfl) (by kernel_rfl) rfl (by decide) ?_

         go_wp2_with fail
         refine bodyPost_ret (v := .tuple #[.int .i64 0, .int .i64 15]) (by simp [results, Tryz.results75, go_sem]) rfl ⟨rfl, KB.out.drew⟩
      ·obtain rfl : x = hl := by omega
       have gN5 : decide ((x : Int) < x) = false := by simp
       have HX2 := HX.out
       rw [Nat.sub_self] at HX2
       have hk3 : ccD (a : Int) h (L.drop (i + 1)) = D := by
        have h2 := HI3.out
        rw [<- HX2] at h2
        unfold dfF at h2
        rw [if_neg (by decide)] at h2
        exact h2
       have HK4 := Lib.hid hk3
       obtain ⟨b1, o1, hp1, v1⟩ := RI9 a (by rw [HTL.out]; exact hal)
       rw [HMY.out, HMYY.out] at v1
       rw [hp1] at c5
       have hal2 : (a : Int) < x := by omega
       have ha0 : (0 : Int) <= a := by omega
       clear HX2 hk3 HX hx hxl RI9 RH9
       go_wp2_with fail
       go_roundw
       case rel => exact ⟨i + 1, by rw [HSN.out]; push_cast; rfl, by simp, by omega, HK4, KB⟩
       case measure => simp [intOf]; omega
    ·obtain rfl : i = j := by omega
     have gN7 : decide ((i : Int) < i) = false := by simp
     have hD0 : D = 0 := by rw [<- HI.out, drop_all HN.out]; rfl
     have hc0 := HCC.out.trans hD0
     rcases HJ.out with ⟨hq, -⟩ | ⟨-, a', bf, af, ea, G, hcase⟩
     ·exact absurd hc0 hq
     obtain rfl : a = a' := by omega
     have hSS : smA a (L.take i) = smA a L := by rw [List.take_of_length_le (by rw [HN.out]; exact Nat.le_refl _)]
     rw [hSS]
     obtain ⟨S, hS⟩ : ∃ S, smA a L = S := ⟨_, rfl⟩
     rw [hS] at hcase ⊢
     obtain ⟨htE, -, -, hmy, hm1, hvl, hv4, -⟩ := G.all h (List.mem_of_getElem? HEQ.out)
     have htE2 := htE
     unfold tEt at htE2
     obtain ⟨-, hvv, hvs, -⟩ := tE_ok htE2
     obtain ⟨my, hmyy⟩ : ∃ x, axN a h = x := ⟨_, rfl⟩
     rw [hmyy] at hmy hm1 hvl
     obtain ⟨ba, hba⟩ : ∃ x, bf * af = x := ⟨_, rfl⟩
     have hba1 : 1 <= ba := by rw [<- hba]; exact Nat.mul_pos G.b1 G.a1
     have hba4 : ba <= 4096 := by rw [<- hba]; exact G.ba
     obtain ⟨sz, hsz⟩ : ∃ x, h.vs.length = x := ⟨_, rfl⟩
     rw [hsz] at hvl hv4 hvs
     have hsb : sz = ba * my := by rw [hvl, <- hba, Nat.mul_assoc, Nat.mul_comm my, <- Nat.mul_assoc]
     rw [hba] at hcase
     have hS9 : S <= 8 * 4096 := by
      have h1 := smA_bd (a := a) (L := L) (fun x hx => (HAX.out x hx).2.2)
      have h2 := HN.out
      have h3 : L.length * 4096 <= 8 * 4096 := Nat.mul_le_mul_right _ (by omega)
      omega
     obtain ⟨q, hq⟩ : ∃ q, 4096 / ba = q := ⟨_, rfl⟩
     have hql := lim_div (S := S) hba1
     rw [hq] at hql
     have hq4 : q <= 4096 := by rw [<- hq]; exact Nat.div_le_self _ _
     have SZ := Lib.hid fun u hh => rsize h.p h.zs h.c u hh hvv
     rw [<- hvs, HHL.out] at SZ
     obtain ⟨⟨hb9, ho9, hhp, hh7⟩, RH9, -⟩ := (SlX.keep KB.out RX.out) 0 h HEQ.out
     cases hhp
     rw [Nat.zero_mul, Nat.add_zero] at hh7
     obtain ⟨h0, h1, h2, h3, h4, h5, h6⟩ := hh7
     rw [HHL.out] at h5
     obtain ⟨b2, o2, hp2, v2⟩ := RH9 a (by rw [HHL.out]; exact hal)
     rw [hmy] at v2
     rw [hp2] at h5 SZ RH9
     have RHH := Lib.hid RH9
     have wq1 : IntKind.i64.wrap ((sz : Int) / (my : Int)) = (ba : Int) := by
      have e : (sz : Int) / (my : Int) = (ba : Int) := by
       have h9 : sz / my = ba := by rw [hsb]; exact Nat.mul_div_cancel _ (by omega)
       rw [<- h9]; exact (Int.natCast_ediv sz my).symm
      rw [e]; exact wnI2 (by omega)
     have wq2 : IntKind.i64.wrap ((4096 : Int) / (ba : Int)) = (q : Int) := by
      have e : (4096 : Int) / (ba : Int) = (q : Int) := by
       rw [<- hq]
       exact (Int.natCast_ediv 4096 ba).symm
      rw [e]; exact wnI2 (by omega)
     have HQ2 : Hid ((4096 : Int) / (ba : Int) = (q : Int)) := Lib.hid (by rw [<- hq]; exact (Int.natCast_ediv 4096 ba).symm)
     have hmz : ¬ my = 0 := by omega
     have hbz : ¬ ba = 0 := by omega
     have hal2 : (a : Int) < hl := by omega
     have ha0 : (0 : Int) <= a := by omega
     have HQL := Lib.hid hql
     have HCS := Lib.hid hcase
     clear hD0 hc0 ea G hSS hS htE htE2 hmy hm1 hvl hv4 hvv hvs hmyy hba hsz hsb hq hql hcase RH9 HI hi hij h0 h1 h2 h3 h4 h6
     go_upto_region 20 with fail
     have HS : Hid (∀ u u' : World, (u.cell? ⟨pb, po + 5, none⟩ = some (.slice (some ⟨b2, o2, none⟩) hl h.c) /\ u.cell? ⟨b2, o2 + a, none⟩ = some (.int .i64 my) /\ Below wr.heap.size wr u) -> Below u.heap.size u u' -> (u'.cell? ⟨pb, po + 5, none⟩ = some (.slice (some ⟨b2, o2, none⟩) hl h.c) /\ u'.cell? ⟨b2, o2 + a, none⟩ = some (.int .i64 my) /\ Below wr.heap.size wr u')) := Lib.hid (fun u u' h hb => ⟨Rg.keep hb (World.block_lt_of_cell? _ _ h.1) h.1, Rg.keep hb (World.block_lt_of_cell? _ _ h.2.1) h.2.1, h.2.2.trans (hb.mono h.2.2.size)⟩)
     refine Rk.begin (S := fun wS => wS.cell? ⟨pb, po + 5, none⟩ = some (.slice (some ⟨b2, o2, none⟩) hl h.c) /\ wS.cell? ⟨b2, o2 + a, none⟩ = some (.int .i64 my) /\ Below wr.heap.size wr wS) 15 (by kernel_rfl) ⟨h5, v2, Below.drew (Below.refl _ _)⟩ (fun hHeld => ?_)
     refine SqR.p 0 ?_
     refine SqR.p 1 ?_
     refine SqR.p 2 ?_
     refine SqR.p 3 ?_
     refine SqR.l [5, 13, 14, 15] 4 ?_
     refine SqR.p 6 ?_
     refine SqR.p 7 ?_
     refine SqR.p 8 ?_
     refine SqR.l [11, 12, 13, 14, 15] 9 ?_
     refine SqR.p 10 ?_
     refine SqR.p 11 ?_
     refine SqR.l [13, 14, 15] 12 ?_
     refine Rk.one (i := 5) (by kernel_rfl) rfl (fun KK hK => ?_)
     rw [if_pos (by kernel_rfl)]
     go_simp
     ((with_reducible refine (SZ.out _ (Lib.hid (RHH.out.keep hHeld.2.2))).mono ?_); rintro e u9 ⟨rfl, rfl⟩)
     first | (refine hK.out _ _ (fun _ => hHeld) (fun hHeld => ?_)) | (refine hK.out _ _ hHeld (fun hHeld => ?_)) | (go_wp2_with fail; refine hK.out _ _ hHeld (fun hHeld => ?_))
     clear hK KK
     refine SqR.p 13 ?_
     refine SqR.p 14 ?_
     refine Rk.tail [15] [_] (by kernel_rfl) (by kernel_rfl) rfl (by decide) ?_
     clear wq1 wq2 hmz hbz
     rcases HCS.out with ⟨h1, rfl, rfl⟩ | ⟨h1, rfl, rfl⟩
     ·have h9 : q < S := HQL.out.2 h1
      clear h1
      go_wp2_with fail
      all_goals first
       | (rename_i hx; rw [HQ2.out] at hx; exfalso; omega)
       | refine bodyPost_ret (v := .tuple #[.int .i64 0, .int .i64 2]) (by simp [results, Tryz.results75, go_sem]) rfl ⟨rfl, KB.out.drew⟩
     ·have h9 : ¬ q < S := fun hx => Nat.not_lt.2 h1 (HQL.out.1 hx)
      clear h1
      go_wp2_with fail
      all_goals first
       | (rename_i hx; rw [HQ2.out] at hx; exfalso; omega)
       | refine bodyPost_ret (v := .tuple #[.int .i64 S, .int .i64 0]) (by simp [results, Tryz.results75, go_sem]) rfl ⟨rfl, KB.out.drew⟩
end Go.Proofs.YteaaikmejacpaaaGreatDoor.Te

namespace Go.Proofs.YteaaikmejacpaaaGreatDoor.Te
open Go.ChangeShapes Go.WideShapes Go.ChangeAt Go.RowKit
open Fx Va Sh
set_option maxRecDepth 8000
set_option linter.unusedVariables false
set_option linter.unusedSimpArgs false

set_option maxRecDepth 100000 in
set_option maxHeartbeats 2000000 in
theorem rc_0 (ax : Int) (p : Option Addr) (L : List Tr) (cL : Nat) (w : World) (h8 : L.length <= 8) (OK : ∀ t ∈ L, okT t) (RX : Hid (SlX w p L)) (h0 : L = []) :
  Calls Tryz.prog 41 #[.int .i64 ax, .slice p L.length cL] w (TS 0 0 0 0 0 [] [] 1 w) := by
 subst h0
 have B0 : Hid (Below w.heap.size w (w.alloc (Obj.cells #[Value.int .i64 0, Value.int .i64 0, Value.int .i64 0, Value.int .i64 0, Value.int .i64 0, Value.slice none 0 0, Value.slice none 0 0] 27))) := Lib.hid ((Below.refl _ _).alloc (Nat.le_refl _) _)
 have R0 : Hid (B7 (w.alloc (Obj.cells #[Value.int .i64 0, Value.int .i64 0, Value.int .i64 0, Value.int .i64 0, Value.int .i64 0, Value.slice none 0 0, Value.slice none 0 0] 27)) (w.heap.size) (.int .i64 0) (.int .i64 0) (.int .i64 0) (.int .i64 0) (.int .i64 0) (.slice none 0 0) (.slice none 0 0)) := Lib.hid (B7.new w 27 (.int .i64 0) (.int .i64 0) (.int .i64 0) (.int .i64 0) (.int .i64 0) (.slice none 0 0) (.slice none 0 0))
 obtain ⟨n, hn⟩ : ∃ n, ([] : List Tr).length = n := ⟨_, rfl⟩
 rw [hn]
 have gn : ((n : Int) == 0) = true := by rw [<- hn]; rfl
 have gn2 : decide ((n : Int) = 0) = true := by rw [<- hn]; rfl
 clear hn h8
 go_enter Tryz.func41, Tryz.ntmps41
 go_wp2_with fail
 refine bodyPost_ret (v := .tuple #[.agg #[.int .i64 0, .int .i64 0, .int .i64 0, .int .i64 0, .int .i64 0, .slice none 0 0, .slice none 0 0], .int .i64 1]) (by simp [results, Tryz.results41, go_sem]) rfl (TRes.no B0.out).ts

set_option maxRecDepth 100000 in
set_option maxHeartbeats 2000000 in
theorem rc_v (ax : Int) (p : Option Addr) (L : List Tr) (cL : Nat) (w : World) (h8 : L.length <= 8) (OK : ∀ t ∈ L, okT t) (RX : Hid (SlX w p L)) (hne : L ≠ []) (hE : ccV L ≠ 0) :
  Calls Tryz.prog 41 #[.int .i64 ax, .slice p L.length cL] w (TS 0 0 0 0 0 [] [] (ccV L) w) := by
 have RVx := Lib.hid fun t (h : t ∈ L) u h1 h2 => rval t.K t.B t.F t.R t.O t.p t.zs t.c t.q t.vs t.d u (by have := OK t h; unfold okT at this; omega) (by have := OK t h; unfold okT at this; omega) h1 h2
 unfold Tn at RVx
 obtain ⟨n, hnn⟩ : ∃ n, L.length = n := ⟨_, rfl⟩
 have hn1 : 1 <= n := by rw [<- hnn]; cases L with
  | nil => exact absurd rfl hne
  | cons x r => simp
 obtain ⟨⟨pb, po, hpp, -⟩, -, -⟩ := RX.out 0 (L[0]'(by omega)) (List.getElem?_eq_getElem (by omega))
 subst hpp
 rw [hnn] at h8 ⊢
 have HN := Lib.hid hnn
 have HOK := Lib.hid OK
 have gn : decide (n = 0) = false := by simp; omega
 have gn2 : decide ((n : Int) = 0) = false := by simp; omega
 have gn3 : ((n : Int) == 0) = false := by simp; omega
 obtain ⟨E, hEE⟩ : ∃ E, ccV L = E := ⟨_, rfl⟩
 rw [hEE] at hE ⊢
 have HE := Lib.hid hEE
 have HEZ := Lib.hid hE
 have B0 : Hid (Below w.heap.size w (w.alloc (Obj.cells #[Value.int .i64 0, Value.int .i64 0, Value.int .i64 0, Value.int .i64 0, Value.int .i64 0, Value.slice none 0 0, Value.slice none 0 0] 27))) := Lib.hid ((Below.refl _ _).alloc (Nat.le_refl _) _)
 have R0 : Hid (B7 (w.alloc (Obj.cells #[Value.int .i64 0, Value.int .i64 0, Value.int .i64 0, Value.int .i64 0, Value.int .i64 0, Value.slice none 0 0, Value.slice none 0 0] 27)) (w.heap.size) (.int .i64 0) (.int .i64 0) (.int .i64 0) (.int .i64 0) (.int .i64 0) (.slice none 0 0) (.slice none 0 0)) := Lib.hid (B7.new w 27 (.int .i64 0) (.int .i64 0) (.int .i64 0) (.int .i64 0) (.int .i64 0) (.slice none 0 0) (.slice none 0 0))
 clear hEE hE hnn OK
 go_enter Tryz.func41, Tryz.ntmps41
 go_upto_region 4 with fail
 go_loopw [6] (fun iv wr => ∃ i : Nat, iv = .int .i64 (i : Int) /\ i <= n /\ Hid (ccV (L.drop i) = E) /\ Hid (Below w.heap.size w wr) /\ Hid (B7 wr (w.heap.size) (.int .i64 0) (.int .i64 0) (.int .i64 0) (.int .i64 0) (.int .i64 0) (.slice none 0 0) (.slice none 0 0))) (fun iv _ => n - (intOf iv).toNat)
 case atStart => exact ⟨0, rfl, Nat.zero_le _, Lib.hid (by rw [List.drop_zero]; exact HE.out), B0, R0⟩
 case round =>
  obtain ⟨i, rfl, hi, HI, KB, ZB⟩ := hrel
  by_cases him : i < n
  ·have hi2 : (i : Int) < n := by omega
   have hi0 : (0 : Int) <= i := by omega
   have hi8 : (i : Int) < 100 := by omega
   obtain ⟨t, het, hdr⟩ := drop_one (L := L) (i := i) (by rw [HN.out]; exact him)
   obtain ⟨⟨b, o, hp, hc7⟩, RI9, RV9⟩ := (SlX.keep KB.out RX.out) i t het
   cases hp
   obtain ⟨c0, c1, c2, c3, c4, c5, c6⟩ := hc7
   have RVT := Lib.hid (RVx.out t (List.mem_of_getElem? het))
   have HI2 := HI.out
   rw [hdr] at HI2
   unfold ccV at HI2
   obtain ⟨e0, he0⟩ : ∃ e, tEt t = e := ⟨_, rfl⟩
   rw [he0] at HI2
   unfold tEt at he0
   rw [he0] at RVT
   by_cases hz : e0 = 0
   ·rw [if_neg (by simpa using hz)] at HI2
    have HI3 := Lib.hid HI2
    subst hz
    clear he0 hdr het HI2
    go_wp2_with (first | (go_at_call 21; (with_reducible refine (RVT.out _ (Lib.hid RI9) (Lib.hid RV9)).mono ?_); rintro e w3 ⟨rfl, hb⟩; have K3 := Lib.hid (KB.out.trans (hb.mono KB.out.size)); have Z3 := Lib.hid (B7.keep hb ZB.out.lt ZB.out); clear hb; obtain ⟨⟨z0, z1, z2, z3, z4, z5, z6⟩, ⟨f0, f1, f2, f3, f4, f5, f6⟩⟩ := Z3.out; have lr : w.heap.size < w3.heap.size := Z3.out.lt))
    go_roundw
    case rel => exact ⟨i + 1, by simp, by omega, HI3, K3, Z3⟩
    case measure => simp [intOf]; omega
   ·have hze : (e0 == 0) = false := by simpa using hz
    have hzn : (e0 != 0) = true := by simpa using hz
    rw [if_pos hz] at HI2
    subst HI2
    clear he0 hdr het hz
    go_wp2_with (first | (go_at_call 21; (with_reducible refine (RVT.out _ (Lib.hid RI9) (Lib.hid RV9)).mono ?_); rintro e w3 ⟨rfl, hb⟩; have K3 := Lib.hid (KB.out.trans (hb.mono KB.out.size)); have Z3 := Lib.hid (B7.keep hb ZB.out.lt ZB.out); clear hb; obtain ⟨⟨z0, z1, z2, z3, z4, z5, z6⟩, ⟨f0, f1, f2, f3, f4, f5, f6⟩⟩ := Z3.out; have lr : w.heap.size < w3.heap.size := Z3.out.lt))
    refine bodyPost_ret (v := .tuple #[.agg #[.int .i64 0, .int .i64 0, .int .i64 0, .int .i64 0, .int .i64 0, .slice none 0 0, .slice none 0 0], .int .i64 e0]) (by simp [results, Tryz.results41, go_sem, z0, f0, z1, f1, z2, f2, z3, f3, z4, f4, z5, f5, z6, f6, lr]) rfl (TRes.no ((((((((K3.out).setCell (p := ⟨w.heap.size, 0, none⟩) (by dsimp only; omega) (.int .i64 0)).setCell (p := ⟨w.heap.size, 1, none⟩) (by dsimp only; omega) (.int .i64 0)).setCell (p := ⟨w.heap.size, 2, none⟩) (by dsimp only; omega) (.int .i64 0)).setCell (p := ⟨w.heap.size, 3, none⟩) (by dsimp only; omega) (.int .i64 0)).setCell (p := ⟨w.heap.size, 4, none⟩) (by dsimp only; omega) (.int .i64 0)).setCell (p := ⟨w.heap.size, 5, none⟩) (by dsimp only; omega) (.slice none 0 0)).setCell (p := ⟨w.heap.size, 6, none⟩) (by dsimp only; omega) (.slice none 0 0))).ts
  ·obtain rfl : i = n := by omega
   exact absurd (by rw [<- HI.out, drop_all HN.out]; rfl) HEZ.out
end Go.Proofs.YteaaikmejacpaaaGreatDoor.Te

namespace Go.Proofs.YteaaikmejacpaaaGreatDoor.Te
open Go.ChangeShapes Go.WideShapes Go.ChangeAt Go.RowKit
open Fx Va Sh
set_option maxRecDepth 8000
set_option linter.unusedVariables false
set_option linter.unusedSimpArgs false

set_option maxRecDepth 100000 in
set_option maxHeartbeats 2000000 in
theorem rc_j (ax : Int) (p : Option Addr) (L : List Tr) (cL : Nat) (w : World) (h8 : L.length <= 8) (OK : ∀ t ∈ L, okT t) (RX : Hid (SlX w p L)) (h : Tr) (r : List Tr) (hL : L = h :: r) (hv : ccV L = 0) (jN jE : Int) (hj : (ccE ax L ≠ 0 /\ jN = 0 /\ jE = ccE ax L) \/ (ccE ax L = 0 /\ ∃ a bf af : Nat, ax = (a : Int) /\ Gd a bf af h L /\ ((4096 < smA a L * (bf * af) /\ jN = 0 /\ jE = 2) \/ (smA a L * (bf * af) <= 4096 /\ jN = (smA a L : Int) /\ jE = 0)))) (hE : jE ≠ 0) :
  Calls Tryz.prog 41 #[.int .i64 ax, .slice p L.length cL] w (TS 0 0 0 0 0 [] [] jE w) := by
 have hne : L ≠ [] := by rw [hL]; exact List.cons_ne_nil _ _
 have RVx := Lib.hid fun t (h : t ∈ L) u h1 h2 => rval t.K t.B t.F t.R t.O t.p t.zs t.c t.q t.vs t.d u (by have := OK t h; unfold okT at this; omega) (by have := OK t h; unfold okT at this; omega) h1 h2
 unfold Tn at RVx
 obtain ⟨n, hnn⟩ : ∃ n, L.length = n := ⟨_, rfl⟩
 have hn1 : 1 <= n := by rw [<- hnn]; cases L with
  | nil => exact absurd rfl hne
  | cons x r => simp
 obtain ⟨⟨pb, po, hpp, -⟩, -, -⟩ := RX.out 0 (L[0]'(by omega)) (List.getElem?_eq_getElem (by omega))
 subst hpp
 have JN0 := fun u hh => jn ax pb po L cL h r u hL h8 hv OK hh jN jE hj
 rw [hnn] at h8 JN0 ⊢
 have HN := Lib.hid hnn
 have HOK := Lib.hid OK
 have gn : decide (n = 0) = false := by simp; omega
 have gn2 : decide ((n : Int) = 0) = false := by simp; omega
 have gn3 : ((n : Int) == 0) = false := by simp; omega
 have JN := Lib.hid JN0
 have HE := Lib.hid hv
 have B0 : Hid (Below w.heap.size w (w.alloc (Obj.cells #[Value.int .i64 0, Value.int .i64 0, Value.int .i64 0, Value.int .i64 0, Value.int .i64 0, Value.slice none 0 0, Value.slice none 0 0] 27))) := Lib.hid ((Below.refl _ _).alloc (Nat.le_refl _) _)
 have R0 : Hid (B7 (w.alloc (Obj.cells #[Value.int .i64 0, Value.int .i64 0, Value.int .i64 0, Value.int .i64 0, Value.int .i64 0, Value.slice none 0 0, Value.slice none 0 0] 27)) (w.heap.size) (.int .i64 0) (.int .i64 0) (.int .i64 0) (.int .i64 0) (.int .i64 0) (.slice none 0 0) (.slice none 0 0)) := Lib.hid (B7.new w 27 (.int .i64 0) (.int .i64 0) (.int .i64 0) (.int .i64 0) (.int .i64 0) (.slice none 0 0) (.slice none 0 0))
 have g3 : (jE == 0) = false := by simpa using hE
 have g4 : (jE != 0) = true := by simpa using hE
 clear hnn OK JN0 hj hE hv hL
 go_enter Tryz.func41, Tryz.ntmps41
 go_upto_region 4 with fail
 go_loopw [6] (fun iv wr => ∃ i : Nat, iv = .int .i64 (i : Int) /\ i <= n /\ Hid (ccV (L.drop i) = 0) /\ Hid (Below w.heap.size w wr) /\ Hid (B7 wr (w.heap.size) (.int .i64 0) (.int .i64 0) (.int .i64 0) (.int .i64 0) (.int .i64 0) (.slice none 0 0) (.slice none 0 0))) (fun iv _ => n - (intOf iv).toNat)
 case atStart => exact ⟨0, rfl, Nat.zero_le _, Lib.hid (by rw [List.drop_zero]; exact HE.out), B0, R0⟩
 case round =>
  obtain ⟨i, rfl, hi, HI, KB, ZB⟩ := hrel
  by_cases him : i < n
  ·have hi2 : (i : Int) < n := by omega
   have hi0 : (0 : Int) <= i := by omega
   have hi8 : (i : Int) < 100 := by omega
   obtain ⟨t, het, hdr⟩ := drop_one (L := L) (i := i) (by rw [HN.out]; exact him)
   obtain ⟨⟨b, o, hp, hc7⟩, RI9, RV9⟩ := (SlX.keep KB.out RX.out) i t het
   cases hp
   obtain ⟨c0, c1, c2, c3, c4, c5, c6⟩ := hc7
   have RVT := Lib.hid (RVx.out t (List.mem_of_getElem? het))
   have hz := ccV_ok HE.out (List.mem_of_getElem? het)
   have HI2 := HI.out
   rw [hdr] at HI2
   unfold ccV at HI2
   rw [if_neg (by simpa using hz)] at HI2
   have HI3 := Lib.hid HI2
   unfold tEt at hz
   rw [hz] at RVT
   clear hz hdr het HI2
   go_wp2_with (first | (go_at_call 21; (with_reducible refine (RVT.out _ (Lib.hid RI9) (Lib.hid RV9)).mono ?_); rintro e w3 ⟨rfl, hb⟩; have K3 := Lib.hid (KB.out.trans (hb.mono KB.out.size)); have Z3 := Lib.hid (B7.keep hb ZB.out.lt ZB.out); clear hb; obtain ⟨⟨z0, z1, z2, z3, z4, z5, z6⟩, ⟨f0, f1, f2, f3, f4, f5, f6⟩⟩ := Z3.out; have lr : w.heap.size < w3.heap.size := Z3.out.lt))
   go_roundw
   case rel => exact ⟨i + 1, by simp, by omega, HI3, K3, Z3⟩
   case measure => simp [intOf]; omega
  ·obtain rfl : i = n := by omega
   have gN : decide ((i : Int) < i) = false := by simp
   clear HI hi him
   go_wp2_with (first | (go_at_call 75; (with_reducible refine (JN.out _ (Lib.hid (RX.out.keep KB.out))).mono ?_); rintro e w3 ⟨rfl, hb⟩; have K3 := Lib.hid (KB.out.trans (hb.mono KB.out.size)); have Z3 := Lib.hid (B7.keep hb ZB.out.lt ZB.out); clear hb; obtain ⟨⟨z0, z1, z2, z3, z4, z5, z6⟩, ⟨f0, f1, f2, f3, f4, f5, f6⟩⟩ := Z3.out; have lr : w.heap.size < w3.heap.size := Z3.out.lt))
   refine bodyPost_ret (v := .tuple #[.agg #[.int .i64 0, .int .i64 0, .int .i64 0, .int .i64 0, .int .i64 0, .slice none 0 0, .slice none 0 0], .int .i64 jE]) (by simp [results, Tryz.results41, go_sem, z0, f0, z1, f1, z2, f2, z3, f3, z4, f4, z5, f5, z6, f6, lr]) rfl (TRes.no ((((((((K3.out).setCell (p := ⟨w.heap.size, 0, none⟩) (by dsimp only; omega) (.int .i64 0)).setCell (p := ⟨w.heap.size, 1, none⟩) (by dsimp only; omega) (.int .i64 0)).setCell (p := ⟨w.heap.size, 2, none⟩) (by dsimp only; omega) (.int .i64 0)).setCell (p := ⟨w.heap.size, 3, none⟩) (by dsimp only; omega) (.int .i64 0)).setCell (p := ⟨w.heap.size, 4, none⟩) (by dsimp only; omega) (.int .i64 0)).setCell (p := ⟨w.heap.size, 5, none⟩) (by dsimp only; omega) (.slice none 0 0)).setCell (p := ⟨w.heap.size, 6, none⟩) (by dsimp only; omega) (.slice none 0 0))).ts
end Go.Proofs.YteaaikmejacpaaaGreatDoor.Te

namespace Go.Proofs.YteaaikmejacpaaaGreatDoor.Te
open Go.ChangeShapes Go.WideShapes Go.ChangeAt Go.RowKit
open Fx Va Sh
set_option maxRecDepth 8000
set_option linter.unusedVariables false
set_option linter.unusedSimpArgs false

theorem vE_setG {zs : List Int} {a : Nat} {k : Int} (hv : vE zs = 0) (ha : a < zs.length) (h1 : 1 <= k) (hs : sp (zs.set a k) <= 4096) : vE (zs.set a k) = 0 := by
 obtain ⟨h6, hlow, -, hsp, -⟩ := valid_of hv
 have hl : (zs.set a k).any low = false := by
  rw [List.any_eq_false] at hlow ⊢
  intro x hx
  rcases List.mem_or_eq_of_mem_set hx with h | h
  ·exact hlow x h
  ·subst h; unfold low; simp; omega
 exact vE_some (s := 1 * sp (zs.set a k)) (by rw [List.length_set]; omega) hl (pr_ok _ 1 (by decide) hl (by omega))
/-- A place of the joined tensor, taken apart. -/
theorem cat_dec {bf S af x : Nat} (h : x < bf * S * af) : ∃ i0 s f : Nat, x = (i0 * S + s) * af + f /\ i0 < bf /\ s < S /\ f < af := by
 have ha : 0 < af := by
  rcases Nat.eq_zero_or_pos af with e | e
  ·rw [e, Nat.mul_zero] at h; omega
  ·exact e
 have hS : 0 < S := by
  rcases Nat.eq_zero_or_pos S with e | e
  ·rw [e, Nat.mul_zero, Nat.zero_mul] at h; omega
  ·exact e
 refine ⟨x / af / S, x / af % S, x % af, ?_, ?_, Nat.mod_lt _ hS, Nat.mod_lt _ ha⟩
 ·have e1 : x / af / S * S + x / af % S = x / af := by rw [Nat.mul_comm]; exact Nat.div_add_mod _ _
  rw [e1, Nat.mul_comm]
  exact (Nat.div_add_mod _ _).symm
 ·rw [Nat.div_lt_iff_lt_mul hS, Nat.div_lt_iff_lt_mul ha]
  exact h
theorem cat_lt {i0 bf my af f s' : Nat} (hi : i0 < bf) (hs : s' < my) (hf : f < af) : i0 * my * af + f + s' * af < bf * my * af := by
 have h1 : (i0 + 1) * my <= bf * my := Nat.mul_le_mul_right _ hi
 rw [Nat.add_mul, Nat.one_mul] at h1
 have h2 : (i0 * my + s' + 1) * af <= bf * my * af := Nat.mul_le_mul_right _ (by omega)
 rw [Nat.add_mul, Nat.add_mul, Nat.one_mul] at h2
 omega
/-- The joined shape is valid. -/
theorem cat_valid {a bf af S : Nat} {h : Tr} {L : List Tr} (G : Gd a bf af h L) (hS : smA a L = S) (hlim : S * (bf * af) <= 4096) (hh : h ∈ L) : vE (h.zs.set a (S : Int)) = 0 /\ sp (h.zs.set a (S : Int)) = ((bf * S * af : Nat) : Int) := by
 obtain ⟨ht, -, -, -, h1, -⟩ := G.all h hh
 unfold tEt at ht
 obtain ⟨-, hv, -, -⟩ := tE_ok ht
 have e : sp (h.zs.set a (S : Int)) = ((bf * S * af : Nat) : Int) := by
  rw [sp_set G.ha, G.hbf, G.haf]; push_cast; rfl
 have hS1 : 1 <= S := by
  have : axN a h <= smA a L := by
   have h9 : ∀ {M : List Tr}, h ∈ M -> axN a h <= smA a M := by
    intro M
    induction M with
    | nil => intro hm; exact absurd hm (by simp)
    | cons x r ih =>
     intro hm
     show _ <= axN a x + smA a r
     rcases List.mem_cons.1 hm with rfl | h3
     ·omega
     ·have := ih h3; omega
   exact h9 hh
  omega
 refine ⟨vE_setG hv G.ha (by omega) ?_, e⟩
 rw [e]
 have : bf * S * af = S * (bf * af) := by rw [Nat.mul_comm bf S, Nat.mul_assoc]
 omega

set_option maxRecDepth 100000 in
set_option maxHeartbeats 2000000 in
theorem rc_g (ax : Int) (p : Option Addr) (L : List Tr) (cL : Nat) (w : World) (h8 : L.length <= 8) (OK : ∀ t ∈ L, okT t) (RX : Hid (SlX w p L)) (h : Tr) (r : List Tr) (hL : L = h :: r) (hv : ccV L = 0) (a bf af : Nat) (hax : ax = (a : Int)) (G : Gd a bf af h L) (hcc : ccE ax L = 0) (hlim : smA a L * (bf * af) <= 4096) :
  Calls Tryz.prog 41 #[.int .i64 ax, .slice p L.length cL] w (TS h.K h.B h.F h.R h.O (h.zs.set a (smA a L : Int)) (ctV a af L bf) 0 w) := by
 obtain ⟨S, hS⟩ : ∃ S, smA a L = S := ⟨_, rfl⟩
 obtain ⟨jN, hjN⟩ : ∃ j : Int, j = (S : Int) := ⟨_, rfl⟩
 obtain ⟨jE, hjE⟩ : ∃ j : Int, j = 0 := ⟨_, rfl⟩
 have hj : (ccE ax L ≠ 0 /\ jN = 0 /\ jE = ccE ax L) \/ (ccE ax L = 0 /\ ∃ a bf af : Nat, ax = (a : Int) /\ Gd a bf af h L /\ ((4096 < smA a L * (bf * af) /\ jN = 0 /\ jE = 2) \/ (smA a L * (bf * af) <= 4096 /\ jN = (smA a L : Int) /\ jE = 0))) := .inr ⟨hcc, a, bf, af, hax, G, .inr ⟨hlim, by rw [hjN, hS], hjE⟩⟩
 have hne : L ≠ [] := by rw [hL]; exact List.cons_ne_nil _ _
 have RVx := Lib.hid fun t (h : t ∈ L) u h1 h2 => rval t.K t.B t.F t.R t.O t.p t.zs t.c t.q t.vs t.d u (by have := OK t h; unfold okT at this; omega) (by have := OK t h; unfold okT at this; omega) h1 h2
 unfold Tn at RVx
 obtain ⟨n, hnn⟩ : ∃ n, L.length = n := ⟨_, rfl⟩
 have hn1 : 1 <= n := by rw [<- hnn]; cases L with
  | nil => exact absurd rfl hne
  | cons x r => simp
 obtain ⟨⟨pb, po, hpp, -⟩, -, -⟩ := RX.out 0 (L[0]'(by omega)) (List.getElem?_eq_getElem (by omega))
 subst hpp
 have JN0 := fun u hh => jn ax pb po L cL h r u hL h8 hv OK hh jN jE hj
 rw [hnn] at h8 JN0 ⊢
 have HN := Lib.hid hnn
 have HOK := Lib.hid OK
 have gn : decide (n = 0) = false := by simp; omega
 have gn2 : decide ((n : Int) = 0) = false := by simp; omega
 have gn3 : ((n : Int) == 0) = false := by simp; omega
 have JN := Lib.hid JN0
 have HE := Lib.hid hv
 have B0 : Hid (Below w.heap.size w (w.alloc (Obj.cells #[Value.int .i64 0, Value.int .i64 0, Value.int .i64 0, Value.int .i64 0, Value.int .i64 0, Value.slice none 0 0, Value.slice none 0 0] 27))) := Lib.hid ((Below.refl _ _).alloc (Nat.le_refl _) _)
 have R0 : Hid (B7 (w.alloc (Obj.cells #[Value.int .i64 0, Value.int .i64 0, Value.int .i64 0, Value.int .i64 0, Value.int .i64 0, Value.slice none 0 0, Value.slice none 0 0] 27)) (w.heap.size) (.int .i64 0) (.int .i64 0) (.int .i64 0) (.int .i64 0) (.int .i64 0) (.slice none 0 0) (.slice none 0 0)) := Lib.hid (B7.new w 27 (.int .i64 0) (.int .i64 0) (.int .i64 0) (.int .i64 0) (.int .i64 0) (.slice none 0 0) (.slice none 0 0))
 subst hjN hjE hax
 rw [hS] at hlim ⊢
 obtain ⟨hl, hhl⟩ : ∃ x, h.zs.length = x := ⟨_, rfl⟩
 have ha := G.ha
 have h6' := G.h6
 rw [hhl] at ha h6'
 have heq : L[0]? = some h := by rw [hL]; rfl
 have HG := Lib.hid G
 have HS9 := Lib.hid hS
 have HHL := Lib.hid hhl
 have HEQ := Lib.hid heq
 have HLM := Lib.hid hlim
 have ST0 := Lib.hid fun (i : Nat) (hi : i < hl) => take_snocI (l := (h.zs.set a (S : Int))) (j := i) (by rw [List.length_set, hhl]; exact hi)
 have SG := Lib.hid fun (i : Nat) (hi : i < hl) => set_getI (a := a) (v := (S : Int)) (l := h.zs) (j := i) (by rw [hhl]; exact hi)
 have gz : ((0 : Int) == 0) = true := by decide
 have hn0 : 0 < n := by omega
 clear hnn OK JN0 hj hcc hv hL hS hlim hhl heq G hne
 go_enter Tryz.func41, Tryz.ntmps41
 go_upto_region 4 with fail
 go_loopw [6] (fun iv wr => ∃ i : Nat, iv = .int .i64 (i : Int) /\ i <= n /\ Hid (ccV (L.drop i) = 0) /\ Hid (Below w.heap.size w wr) /\ Hid (B7 wr (w.heap.size) (.int .i64 0) (.int .i64 0) (.int .i64 0) (.int .i64 0) (.int .i64 0) (.slice none 0 0) (.slice none 0 0))) (fun iv _ => n - (intOf iv).toNat)
 case atStart => exact ⟨0, rfl, Nat.zero_le _, Lib.hid (by rw [List.drop_zero]; exact HE.out), B0, R0⟩
 case round =>
  obtain ⟨i, rfl, hi, HI, KB, ZB⟩ := hrel
  by_cases him : i < n
  ·have hi2 : (i : Int) < n := by omega
   have hi0 : (0 : Int) <= i := by omega
   have hi8 : (i : Int) < 100 := by omega
   obtain ⟨t, het, hdr⟩ := drop_one (L := L) (i := i) (by rw [HN.out]; exact him)
   obtain ⟨⟨b, o, hp, hc7⟩, RI9, RV9⟩ := (SlX.keep KB.out RX.out) i t het
   cases hp
   obtain ⟨c0, c1, c2, c3, c4, c5, c6⟩ := hc7
   have RVT := Lib.hid (RVx.out t (List.mem_of_getElem? het))
   have hz := ccV_ok HE.out (List.mem_of_getElem? het)
   have HI2 := HI.out
   rw [hdr] at HI2
   unfold ccV at HI2
   rw [if_neg (by simpa using hz)] at HI2
   have HI3 := Lib.hid HI2
   unfold tEt at hz
   rw [hz] at RVT
   clear hz hdr het HI2
   go_wp2_with (first | (go_at_call 21; (with_reducible refine (RVT.out _ (Lib.hid RI9) (Lib.hid RV9)).mono ?_); rintro e w3 ⟨rfl, hb⟩; have K3 := Lib.hid (KB.out.trans (hb.mono KB.out.size)); have Z3 := Lib.hid (B7.keep hb ZB.out.lt ZB.out); clear hb; obtain ⟨⟨z0, z1, z2, z3, z4, z5, z6⟩, ⟨f0, f1, f2, f3, f4, f5, f6⟩⟩ := Z3.out; have lr : w.heap.size < w3.heap.size := Z3.out.lt))
   go_roundw
   case rel => exact ⟨i + 1, by simp, by omega, HI3, K3, Z3⟩
   case measure => simp [intOf]; omega
  ·obtain rfl : n = i := by omega
   have gN : decide ((n : Int) < n) = false := by simp
   clear HI hi him
   go_upto_region 12 with (first | (go_at_call 75; (with_reducible refine (JN.out _ (Lib.hid (RX.out.keep KB.out))).mono ?_); rintro e w3 ⟨rfl, hb⟩; have K3 := Lib.hid (KB.out.trans (hb.mono KB.out.size)); have Z3 := Lib.hid (B7.keep hb ZB.out.lt ZB.out); clear hb; obtain ⟨⟨z0, z1, z2, z3, z4, z5, z6⟩, ⟨f0, f1, f2, f3, f4, f5, f6⟩⟩ := Z3.out; have lr : w.heap.size < w3.heap.size := Z3.out.lt))
   obtain ⟨⟨b9, o9, hpp, hc7⟩, -, -⟩ := (RX.out.keep K3.out) 0 h HEQ.out
   cases hpp
   rw [Nat.zero_mul, Nat.add_zero] at hc7
   obtain ⟨c0, c1, c2, c3, c4, c5, c6⟩ := hc7
   rw [HHL.out] at c5
   have W4 : Below w3.heap.size w3 (w3.alloc (Obj.cells #[Value.int .i64 h.K, Value.int .i64 h.B, Value.int .i64 h.F, Value.int .i64 h.R, Value.int .i64 h.O, Value.slice none 0 0, Value.slice none 0 0] 27)) := (Below.refl _ _).alloc (Nat.le_refl _) _
   have HB0 : Hid ((B7 (w3.alloc (Obj.cells #[Value.int .i64 h.K, Value.int .i64 h.B, Value.int .i64 h.F, Value.int .i64 h.R, Value.int .i64 h.O, Value.slice none 0 0, Value.slice none 0 0] 27)) (w.heap.size) (.int .i64 0) (.int .i64 0) (.int .i64 0) (.int .i64 0) (.int .i64 0) (.slice none 0 0) (.slice none 0 0)) /\ (B7 (w3.alloc (Obj.cells #[Value.int .i64 h.K, Value.int .i64 h.B, Value.int .i64 h.F, Value.int .i64 h.R, Value.int .i64 h.O, Value.slice none 0 0, Value.slice none 0 0] 27)) (w3.heap.size) (.int .i64 h.K) (.int .i64 h.B) (.int .i64 h.F) (.int .i64 h.R) (.int .i64 h.O) (.slice none 0 0) (.slice none 0 0)) /\ (w3.alloc (Obj.cells #[Value.int .i64 h.K, Value.int .i64 h.B, Value.int .i64 h.F, Value.int .i64 h.R, Value.int .i64 h.O, Value.slice none 0 0, Value.slice none 0 0] 27)).ownsRow (w3.heap.size + 1) 3 1 (.slice none 0 0) 0 (((h.zs.set a (S : Int)).take 0).map (Value.int .i64)) /\ Below w.heap.size w (w3.alloc (Obj.cells #[Value.int .i64 h.K, Value.int .i64 h.B, Value.int .i64 h.F, Value.int .i64 h.R, Value.int .i64 h.O, Value.slice none 0 0, Value.slice none 0 0] 27)) /\ w3.heap.size + 1 <= (w3.alloc (Obj.cells #[Value.int .i64 h.K, Value.int .i64 h.B, Value.int .i64 h.F, Value.int .i64 h.R, Value.int .i64 h.O, Value.slice none 0 0, Value.slice none 0 0] 27)).heap.size) := Lib.hid ⟨B7.keep W4 Z3.out.lt Z3.out, B7.new w3 27 (.int .i64 h.K) (.int .i64 h.B) (.int .i64 h.F) (.int .i64 h.R) (.int .i64 h.O) (.slice none 0 0) (.slice none 0 0), World.ownsRow_nil _ _ _ _, K3.out.trans (W4.mono K3.out.size), by simp⟩
   have hlr := lr
   go_upto_region 14 with fail
   clear z0 z1 z2 z3 z4 z5 z6 f0 f1 f2 f3 f4 f5 f6 lr c0 c1 c2 c3 c4 c5 c6 W4 Z3 ZB KB gN K3
   generalize (w3.alloc (Obj.cells #[Value.int .i64 h.K, Value.int .i64 h.B, Value.int .i64 h.F, Value.int .i64 h.R, Value.int .i64 h.O, Value.slice none 0 0, Value.slice none 0 0] 27)) = w4 at *
   go_loopw [11] (fun iv wr => ∃ (i : Nat) (qv : Option Addr) (dv : Nat), iv = .int .i64 (i : Int) /\ i <= hl /\ Hid ((B7 wr (w.heap.size) (.int .i64 0) (.int .i64 0) (.int .i64 0) (.int .i64 0) (.int .i64 0) (.slice none 0 0) (.slice none 0 0)) /\ (B7 wr (w3.heap.size) (.int .i64 h.K) (.int .i64 h.B) (.int .i64 h.F) (.int .i64 h.R) (.int .i64 h.O) (.slice qv i dv) (.slice none 0 0)) /\ wr.ownsRow (w3.heap.size + 1) 3 1 (.slice qv i dv) i (((h.zs.set a (S : Int)).take i).map (Value.int .i64)) /\ Below w.heap.size w wr /\ w3.heap.size + 1 <= wr.heap.size)) (fun iv _ => hl - (intOf iv).toNat)
   case atStart => exact ⟨0, none, 0, rfl, Nat.zero_le _, HB0⟩
   case round =>
    obtain ⟨i, qv, dv, rfl, hi0, HJ⟩ := hrel
    clear HB0
    obtain ⟨ZJ, DJ, VJ, KJ, hszr⟩ := HJ.out
    obtain ⟨⟨m0, m1, m2, m3, m4, m5, m6⟩, ⟨g0, g1, g2, g3, g4, g5, g6⟩⟩ := DJ
    have DJ := HJ.out.2.1
    have lDJ := DJ.lt
    obtain ⟨⟨b9, o9, hpp, hc7⟩, RH9, -⟩ := (RX.out.keep KJ) 0 h HEQ.out
    cases hpp
    rw [Nat.zero_mul, Nat.add_zero] at hc7
    obtain ⟨h0, h1, h2, h3, h4, h5, h6⟩ := hc7
    rw [HHL.out] at h5
    clear h0 h1 h2 h3 h4 h6
    by_cases hin : i < hl
    ·have i2 : (i : Int) < hl := by omega
     have i0' : (0 : Int) <= i := by omega
     have htk := ST0.out i hin
     rw [SG.out i hin] at htk
     obtain ⟨i0, hinf, hz0, hz1, hz2⟩ := info_parts info3
     by_cases hia : a = i
     ·rw [if_pos hia] at htk
      have HTK := Lib.hid htk
      have gk : ((i : Int) == (a : Int)) = true := by simp; omega
      clear htk hia
      go_wp2_with (at_builtin; refine wpList_append_own _ rfl _ _ 24 rfl (w3.heap.size + 1) 3 i0 (.int .i64 0) 1 8 Tryz.underlying24 hinf hz0 hz1 hz2 rfl (by decide) _ _ _ rfl (VJ.alloc (Obj.cells #[Value.int .i64 (S : Int)] 3)) ⟨wr.heap.size, 0, none⟩ 1 1 [.int .i64 (S : Int)] rfl rfl (newsI wr (S : Int) rfl) (one1 _) (by unfold maxLen; omega) (by omega) (by simp; omega) ?_; intro v8 w8 hown8 hgrow _; obtain ⟨qn, dn, rfl⟩ := own_slice hown8; have hrow := row_baseI VJ; have D8 := Lib.hid ((DJ.alloc (Obj.cells #[Value.int .i64 (S : Int)] 3)).grown hgrow (fun e => by have := hrow _ e.symm; omega)); have T8 := Lib.hid ((ZJ.alloc (Obj.cells #[Value.int .i64 (S : Int)] 3)).grown hgrow (fun e => by have := hrow _ e.symm; omega)); have V8 := Lib.hid hown8; have K8 := Lib.hid ((KJ.alloc (by have := KJ.size; omega) (Obj.cells #[Value.int .i64 (S : Int)] 3)).grown hgrow (by have := KJ.size; simp; omega) (fun k e => by have := hrow _ e; omega)); have hs8 := hgrow.size; clear m0 m1 m2 m3 m4 m5 m6 g0 g1 g2 g3 g4 g5 g6; obtain ⟨⟨m0, m1, m2, m3, m4, m5, m6⟩, ⟨g0, g1, g2, g3, g4, g5, g6⟩⟩ := D8.out; have lD8 := D8.out.lt; simp at hs8; clear hown8 hgrow)
      go_roundw
      case rel =>
       exact ⟨i + 1, qn, dn, by simp, by omega, Lib.hid ⟨T8.out.far (by omega), D8.out.set5, own_set (by rw [HTK.out, List.map_append]; exact V8.out) (by dsimp only; omega), K8.out.setCell (p := ⟨w3.heap.size, 5, none⟩) (by dsimp only; omega) _, by rw [World.size_setCell]; omega⟩⟩
      case measure => simp [intOf]; omega
     ·rw [if_neg hia] at htk
      have HTK := Lib.hid htk
      have gk : ((i : Int) == (a : Int)) = false := by rw [beq_eq_false_iff_ne]; omega
      obtain ⟨b2, o2, hp2, v2⟩ := RH9 i (by rw [HHL.out]; exact hin)
      rw [hp2] at h5
      obtain ⟨z, hze⟩ : ∃ z, h.zs.getD i 0 = z := ⟨_, rfl⟩
      rw [hze] at v2 HTK
      clear htk hia hze
      go_upto_region 18 with fail
      have HS : Hid (∀ u u' : World, (u.cell? ⟨w3.heap.size, 5, none⟩ = some (.slice qv i dv) /\ u.cell? ⟨pb, po + 5, none⟩ = some (.slice (some ⟨b2, o2, none⟩) hl h.c) /\ u.cell? ⟨b2, o2 + i, none⟩ = some (.int .i64 z) /\ Below wr.heap.size wr u) -> Below u.heap.size u u' -> (u'.cell? ⟨w3.heap.size, 5, none⟩ = some (.slice qv i dv) /\ u'.cell? ⟨pb, po + 5, none⟩ = some (.slice (some ⟨b2, o2, none⟩) hl h.c) /\ u'.cell? ⟨b2, o2 + i, none⟩ = some (.int .i64 z) /\ Below wr.heap.size wr u')) := Lib.hid (fun u u' h hb => ⟨Rg.keep hb (World.block_lt_of_cell? _ _ h.1) h.1, Rg.keep hb (World.block_lt_of_cell? _ _ h.2.1) h.2.1, Rg.keep hb (World.block_lt_of_cell? _ _ h.2.2.1) h.2.2.1, h.2.2.2.trans (hb.mono h.2.2.2.size)⟩)
      refine Rk.begin (S := fun wS => wS.cell? ⟨w3.heap.size, 5, none⟩ = some (.slice qv i dv) /\ wS.cell? ⟨pb, po + 5, none⟩ = some (.slice (some ⟨b2, o2, none⟩) hl h.c) /\ wS.cell? ⟨b2, o2 + i, none⟩ = some (.int .i64 z) /\ Below wr.heap.size wr wS) 10 (by kernel_rfl) ⟨m5, h5, v2, Below.drew (Below.refl _ _)⟩ (fun hHeld => ?_)
      refine SqR.p 0 ?_
      refine SqR.l [10] 1 ?_
      refine SqR.p 2 ?_
      refine SqR.p 3 ?_
      refine SqR.p 4 ?_
      refine SqR.l [7, 8, 9, 10] 5 ?_
      refine SqR.p 6 ?_
      refine SqR.p 7 ?_
      refine SqR.l [9, 10] 8 ?_
      refine Rk.one (i := 9) (by kernel_rfl) rfl (fun KK hK => ?_)
      rw [if_pos (by kernel_rfl)]
      go_simp
      have hNew := HS.out wr (wr.alloc (Obj.cells #[Value.int .i64 z] 3)) ⟨m5, h5, v2, Below.refl _ _⟩ ((Below.refl _ _).alloc (Nat.le_refl _) (Obj.cells #[Value.int .i64 z] 3))
      first | (refine hK.out _ _ (fun _ => hNew) (fun hHeld => ?_)) | (refine hK.out _ _ hNew (fun hHeld => ?_)) | (refine hK.out _ _ ⟨hNew.1, hNew.2.1, hNew.2.2.1, hNew.2.2.2.drew⟩ (fun hHeld => ?_))
      clear hK KK
      refine Rk.tail [10, 11, 12] [_, _, _] (by kernel_rfl) (by kernel_rfl) rfl (by decide) ?_
      have VZ := (VJ.alloc (Obj.cells #[Value.int .i64 z] 3)).drew
      have DZ := (DJ.alloc (Obj.cells #[Value.int .i64 z] 3)).drew
      have TZ := (ZJ.alloc (Obj.cells #[Value.int .i64 z] 3)).drew
      have KZ := (KJ.alloc (by have := KJ.size; omega) (Obj.cells #[Value.int .i64 z] 3)).drew
      have NZ := newsI wr z rfl
      have hwzs : (wr.alloc (Obj.cells #[Value.int .i64 z] 3)).drew.heap.size = wr.heap.size + 1 := by simp
      obtain ⟨wz, hwz⟩ : ∃ x, (wr.alloc (Obj.cells #[Value.int .i64 z] 3)).drew = x := ⟨_, rfl⟩
      replace NZ : ∀ (j : Nat) (v : Value), ([Value.int .i64 z] : List Value)[j]? = some v -> (wr.alloc (Obj.cells #[Value.int .i64 z] 3)).drew.cell? ((⟨wr.heap.size, 0, none⟩ : Addr).add j) = some v := NZ
      rw [hwz] at VZ DZ TZ KZ NZ hwzs hHeld ⊢
      obtain ⟨m5, h5, v2, -⟩ := hHeld
      clear HS hwz m0 m1 m2 m3 m4 m6
      go_wp2_with (at_builtin; refine wpList_append_own _ rfl _ _ 24 rfl (w3.heap.size + 1) 3 i0 (.int .i64 0) 1 8 Tryz.underlying24 hinf hz0 hz1 hz2 rfl (by decide) _ _ _ rfl VZ ⟨wr.heap.size, 0, none⟩ 1 1 [.int .i64 z] rfl rfl NZ (one1 _) (by unfold maxLen; omega) (by omega) (by rw [hwzs]; omega) ?_; intro v8 w8 hown8 hgrow _; obtain ⟨qn, dn, rfl⟩ := own_slice hown8; have hrow := row_baseI VZ; have D8 := Lib.hid (DZ.grown hgrow (fun e => by have := hrow _ e.symm; omega)); have T8 := Lib.hid (TZ.grown hgrow (fun e => by have := hrow _ e.symm; omega)); have V8 := Lib.hid hown8; have K8 := Lib.hid (KZ.grown hgrow (by rw [hwzs]; have := KJ.size; omega) (fun k e => by have := hrow _ e; omega)); have hs8 := hgrow.size; obtain ⟨⟨m0, m1, m2, m3, m4, m5, m6⟩, ⟨g0, g1, g2, g3, g4, g5, g6⟩⟩ := D8.out; have lD8 := D8.out.lt; rw [hwzs] at hs8; clear hown8 hgrow)
      go_roundw
      case rel =>
       exact ⟨i + 1, qn, dn, by simp, by omega, Lib.hid ⟨T8.out.far (by omega), D8.out.set5, own_set (by rw [HTK.out, List.map_append]; exact V8.out) (by dsimp only; omega), K8.out.setCell (p := ⟨w3.heap.size, 5, none⟩) (by dsimp only; omega) _, by rw [World.size_setCell]; omega⟩⟩
      case measure => simp [intOf]; omega
    ·obtain rfl : hl = i := by omega
     have gN2 : decide ((hl : Int) < hl) = false := by simp
     have VD : wr.ownsRow (w3.heap.size + 1) 3 1 (.slice qv hl dv) hl ((h.zs.set a (S : Int)).map (Value.int .i64)) := by
      have h9 := VJ
      rw [List.take_of_length_le (by rw [List.length_set, HHL.out]; exact Nat.le_refl _)] at h9
      exact h9
     have HB1 : Hid ((B7 wr (w.heap.size) (.int .i64 0) (.int .i64 0) (.int .i64 0) (.int .i64 0) (.int .i64 0) (.slice none 0 0) (.slice none 0 0)) /\ (B7 wr (w3.heap.size) (.int .i64 h.K) (.int .i64 h.B) (.int .i64 h.F) (.int .i64 h.R) (.int .i64 h.O) (.slice qv hl dv) (.slice none 0 0)) /\ wr.ownsRow (w3.heap.size + 1) 3 1 (.slice qv hl dv) hl ((h.zs.set a (S : Int)).map (Value.int .i64)) /\ wr.ownsRow (w3.heap.size + 1) 29 2 (.slice none 0 0) 0 (flV ((ctV a af L bf).take 0)) /\ Below w.heap.size w wr /\ w3.heap.size + 1 <= wr.heap.size) := Lib.hid ⟨ZJ, DJ, VD, World.ownsRow_nil _ _ _ _, KJ, hszr⟩
     obtain ⟨hvS, hspS⟩ := cat_valid HG.out HS9.out HLM.out (List.mem_of_getElem? HEQ.out)
     have hm4 : bf * S * af <= 4096 := by have h9 := HLM.out; rw [<- Nat.mul_assoc, Nat.mul_comm S] at h9; exact h9
     have hlS : (h.zs.set a (S : Int)).length = hl := by rw [List.length_set]; exact HHL.out
     obtain ⟨m, hmm⟩ : ∃ m, bf * S * af = m := ⟨_, rfl⟩
     rw [hmm] at hspS hm4
     have SZ := Lib.hid fun u hh => rsize qv (h.zs.set a (S : Int)) dv u hh hvS
     rw [hspS, hlS] at SZ
     have PT := Lib.hid fun (k : Nat) (hk : k < m) u hh => trpo qv (h.zs.set a (S : Int)) dv k u hvS (by rw [hspS]; exact_mod_cast hk) hh
     rw [hlS] at PT
     have hvl : (ctV a af L bf).length = m := by rw [ctV_len (fun t ht => (HG.out.all t ht).2.2.2.2.2.1) bf (Nat.le_refl _), HS9.out, <- Nat.mul_assoc]; exact hmm
     have HVL := Lib.hid hvl
     clear hvl
     have HMM := Lib.hid hmm
     have HVS := Lib.hid hvS
     have HLS := Lib.hid hlS
     clear hvS hspS hmm hlS VD VJ HJ gN2 RH9
     have gN2 : decide ((hl : Int) < hl) = false := by simp
     clear m0 m1 m2 m3 m4 m5 m6 g0 g1 g2 g3 g4 g5 g6 lDJ ZJ DJ KJ hszr
     go_upto_region 20 with fail
     clear gN2 h5
     go_loopw [12] (fun iv wr => ∃ (x : Nat) (qq : Option Addr) (dd : Nat), iv = .int .i64 (x : Int) /\ x <= m /\ Hid ((B7 wr (w.heap.size) (.int .i64 0) (.int .i64 0) (.int .i64 0) (.int .i64 0) (.int .i64 0) (.slice none 0 0) (.slice none 0 0)) /\ (B7 wr (w3.heap.size) (.int .i64 h.K) (.int .i64 h.B) (.int .i64 h.F) (.int .i64 h.R) (.int .i64 h.O) (.slice qv hl dv) (.slice qq x dd)) /\ wr.ownsRow (w3.heap.size + 1) 3 1 (.slice qv hl dv) hl ((h.zs.set a (S : Int)).map (Value.int .i64)) /\ wr.ownsRow (w3.heap.size + 1) 29 2 (.slice qq x dd) x (flV ((ctV a af L bf).take x)) /\ Below w.heap.size w wr /\ w3.heap.size + 1 <= wr.heap.size)) (fun iv _ => m - (intOf iv).toNat)
     case atStart => exact ⟨0, none, 0, rfl, Nat.zero_le _, HB1⟩
     case round =>
      obtain ⟨x, qq, dd, rfl, hx0, HJ⟩ := hrel
      clear HB1
      obtain ⟨ZJ, DJ, PJ, VJ, KJ, hszr⟩ := HJ.out
      obtain ⟨⟨m0, m1, m2, m3, m4, m5, m6⟩, ⟨g0, g1, g2, g3, g4, g5, g6⟩⟩ := DJ
      have DJ := HJ.out.2.1
      have lDJ := DJ.lt
      by_cases hxm : x < m
      ·have x2 : (x : Int) < m := by omega
       have x0' : (0 : Int) <= x := by omega
       obtain ⟨i0, s, f, hx, hi0, hs, hf⟩ := cat_dec (S := S) (by rw [HMM.out]; exact hxm)
       have hpt : pt (h.zs.set a (S : Int)) (x : Int) = ins (pt (rst h.zs a) ((i0 * af + f : Nat) : Int)) a s := by rw [hx]; exact cat_pt HVS.out HG.out.ha HG.out.hbf HG.out.haf hi0 hs hf
       obtain ⟨q0, hq0⟩ : ∃ q, pt (rst h.zs a) ((i0 * af + f : Nat) : Int) = q := ⟨_, rfl⟩
       rw [hq0] at hpt
       have hql : q0.length + 1 = hl := by rw [<- hq0, pt_length, rst_length HG.out.ha, HHL.out]; omega
       have HPT := Lib.hid hpt
       have HQ0 := Lib.hid hq0
       have HX := Lib.hid hx
       clear hpt hq0 hx
       go_upto_region 24 with (first | (go_at_call 55; (with_reducible refine (SZ.out _ (Lib.hid (SlI_of PJ HLS.out))).mono ?_); rintro e w' ⟨rfl, rfl⟩) | (go_at_call 27; (with_reducible refine (PT.out x hxm _ (Lib.hid (SlI_of PJ HLS.out))).mono ?_); rintro e w6 ⟨rfl, hp6, hb6⟩; rw [HPT.out] at hp6; have P6 := Lib.hid hp6; have Z6 := Lib.hid (B7.keep hb6 ZJ.lt ZJ); have D6 := Lib.hid (B7.keep hb6 DJ.lt DJ); have PR6 := Lib.hid (own_belowE PJ hb6); have V6 := Lib.hid (own_belowE VJ hb6); have K6 := Lib.hid (KJ.trans (hb6.mono KJ.size)); have hs6 := hb6.size; clear hb6 hp6))
       clear m0 m1 m2 m3 m4 m5 m6 g0 g1 g2 g3 g4 g5 g6 lDJ ZJ DJ PJ VJ KJ
       have hzP : w.heap.size < wr.heap.size := HJ.out.1.lt
       have HVB : Hid (∀ k, (Value.slice qq x dd).ownBlock = some k -> k < wr.heap.size) := Lib.hid (fun k e => (HJ.out.2.2.2.1.lt k e).2)
       have hS4 : S <= 4096 := Nat.le_trans (Nat.le_mul_of_pos_right _ (Nat.mul_pos HG.out.b1 HG.out.a1)) HLM.out
       have HQB : Hid (∀ k, (Value.slice qv hl dv).ownBlock = some k -> k < wr.heap.size) := Lib.hid (fun k e => (HJ.out.2.2.1.lt k e).2)
       clear HJ
       have hPB := hszr
       clear hszr
       generalize wr.heap.size = PB at *
       have HC0 : Hid ((B7 w6 (w.heap.size) (.int .i64 0) (.int .i64 0) (.int .i64 0) (.int .i64 0) (.int .i64 0) (.slice none 0 0) (.slice none 0 0)) /\ (B7 w6 (w3.heap.size) (.int .i64 h.K) (.int .i64 h.B) (.int .i64 h.F) (.int .i64 h.R) (.int .i64 h.O) (.slice qv hl dv) (.slice qq x dd)) /\ w6.ownsRow (w3.heap.size + 1) 3 1 (.slice qv hl dv) hl ((h.zs.set a (S : Int)).map (Value.int .i64)) /\ w6.ownsRow (w3.heap.size + 1) 29 2 (.slice qq x dd) x (flV ((ctV a af L bf).take x)) /\ Below w.heap.size w w6 /\ PB <= w6.heap.size /\ w6.ownsRow PB 3 1 (.slice (some ⟨PB, 0, none⟩) hl hl) hl ((ins q0 a ((s - smA a (L.take 0) : Nat) : Int)).map (Value.int .i64))) := Lib.hid ⟨Z6.out, D6.out, PR6.out, V6.out, K6.out, hs6, P6.out⟩
       clear Z6 D6 PR6 V6 K6 P6
       go_loopw [14] (fun iv wk => ∃ k : Nat, iv = .int .i64 (k : Int) /\ k < n /\ Hid (smA a (L.take k) <= s) /\ Hid ((B7 wk (w.heap.size) (.int .i64 0) (.int .i64 0) (.int .i64 0) (.int .i64 0) (.int .i64 0) (.slice none 0 0) (.slice none 0 0)) /\ (B7 wk (w3.heap.size) (.int .i64 h.K) (.int .i64 h.B) (.int .i64 h.F) (.int .i64 h.R) (.int .i64 h.O) (.slice qv hl dv) (.slice qq x dd)) /\ wk.ownsRow (w3.heap.size + 1) 3 1 (.slice qv hl dv) hl ((h.zs.set a (S : Int)).map (Value.int .i64)) /\ wk.ownsRow (w3.heap.size + 1) 29 2 (.slice qq x dd) x (flV ((ctV a af L bf).take x)) /\ Below w.heap.size w wk /\ PB <= wk.heap.size /\ wk.ownsRow PB 3 1 (.slice (some ⟨PB, 0, none⟩) hl hl) hl ((ins q0 a ((s - smA a (L.take k) : Nat) : Int)).map (Value.int .i64)))) (fun iv _ => n - (intOf iv).toNat)
       case atStart => exact ⟨0, rfl, hn0, Lib.hid (Nat.zero_le _), HC0⟩
       case round =>
        obtain ⟨k, rfl, hkn, HSK, HJ⟩ := hrel
        clear HC0
        obtain ⟨ZJ, DJ, PJ, VJ, KJ, hszr, QJ⟩ := HJ.out
        obtain ⟨⟨m0, m1, m2, m3, m4, m5, m6⟩, ⟨g0, g1, g2, g3, g4, g5, g6⟩⟩ := DJ
        have DJ := HJ.out.2.1
        have lDJ := DJ.lt
        obtain ⟨t, hkt⟩ : ∃ t, L[k]? = some t := ⟨_, List.getElem?_eq_getElem (by rw [HN.out]; exact hkn)⟩
        obtain ⟨⟨b9, o9, hpp, hc7⟩, RH9, RV9⟩ := (RX.out.keep KJ) k t hkt
        cases hpp
        obtain ⟨tt0, -, tl, tz, t1, tv, -, tzs⟩ := HG.out.all t (List.mem_of_getElem? hkt)
        rw [HHL.out] at tl
        obtain ⟨h0, h1, h2, h3, h4, h5, h6⟩ := hc7
        rw [tl] at h5
        clear h0 h1 h2 h3 h4
        obtain ⟨s', hs'⟩ : ∃ y, s - smA a (L.take k) = y := ⟨_, rfl⟩
        rw [hs'] at QJ
        have hss : s = smA a (L.take k) + s' := by have := HSK.out; omega
        have hilen : (ins q0 a (s' : Int)).length = hl := by unfold ins; simp; omega
        obtain ⟨b3, o3, hp3, v3⟩ := (SlI_of QJ hilen) a (by rw [hilen]; exact ha)
        cases hp3
        rw [Nat.zero_add] at v3
        have v4 : (ins q0 a (s' : Int)).getD a 0 = s' := by
         have e := getD_set (zs := ins q0 a (s' : Int)) (k := (s' : Int)) (by rw [hilen]; exact ha)
         rw [ins_set _ _ (by omega)] at e
         exact e
        rw [v4] at v3
        obtain ⟨b2, o2, hp2, v2⟩ := RH9 a (by rw [tl]; exact ha)
        rw [hp2] at h5
        rw [tz] at v2
        have hk0 : (0 : Int) <= k := by omega
        have hk1 : (k : Int) < n := by omega
        have ha0 : (0 : Int) <= a := by omega
        have ha1 : (a : Int) < hl := by omega
        go_upto_region 24 with fail
        have HS : Hid (∀ u u' : World, (u.cell? ⟨PB, a, none⟩ = some (.int .i64 (s' : Int)) /\ u.cell? ⟨pb, po + k * 7 + 5, none⟩ = some (.slice (some ⟨b2, o2, none⟩) hl t.c) /\ u.cell? ⟨b2, o2 + a, none⟩ = some (.int .i64 (axN a t : Int)) /\ Below wr.heap.size wr u) -> Below u.heap.size u u' -> (u'.cell? ⟨PB, a, none⟩ = some (.int .i64 (s' : Int)) /\ u'.cell? ⟨pb, po + k * 7 + 5, none⟩ = some (.slice (some ⟨b2, o2, none⟩) hl t.c) /\ u'.cell? ⟨b2, o2 + a, none⟩ = some (.int .i64 (axN a t : Int)) /\ Below wr.heap.size wr u')) := Lib.hid (fun u u' h hb => ⟨Rg.keep hb (World.block_lt_of_cell? _ _ h.1) h.1, Rg.keep hb (World.block_lt_of_cell? _ _ h.2.1) h.2.1, Rg.keep hb (World.block_lt_of_cell? _ _ h.2.2.1) h.2.2.1, h.2.2.2.trans (hb.mono h.2.2.2.size)⟩)
        refine Rk.begin (S := fun wS => wS.cell? ⟨PB, a, none⟩ = some (.int .i64 (s' : Int)) /\ wS.cell? ⟨pb, po + k * 7 + 5, none⟩ = some (.slice (some ⟨b2, o2, none⟩) hl t.c) /\ wS.cell? ⟨b2, o2 + a, none⟩ = some (.int .i64 (axN a t : Int)) /\ Below wr.heap.size wr wS) 12 (by kernel_rfl) ⟨v3, h5, v2, Below.drew (Below.refl _ _)⟩ (fun hHeld => ?_)
        refine SqR.p 0 ?_
        refine SqR.p 1 ?_
        refine SqR.p 2 ?_
        refine SqR.l [12] 3 ?_
        refine SqR.p 4 ?_
        refine SqR.p 5 ?_
        refine SqR.p 6 ?_
        refine SqR.p 7 ?_
        refine SqR.l [10, 11, 12] 8 ?_
        refine SqR.p 9 ?_
        refine SqR.p 10 ?_
        refine SqR.l [12] 11 ?_
        refine Rk.tail [12] [_] (by kernel_rfl) (by kernel_rfl) rfl (by decide) ?_
        obtain ⟨v3, h5, v2, -⟩ := hHeld
        by_cases hge : axN a t <= s'
        ·have gk : decide ((axN a t : Int) <= (s' : Int)) = true := by simp; omega
         go_upto_region 25 with fail
         clear HS; have HS : Hid (∀ u u' : World, (u.cell? ⟨PB, a, none⟩ = some (.int .i64 (s' : Int)) /\ u.cell? ⟨pb, po + k * 7 + 5, none⟩ = some (.slice (some ⟨b2, o2, none⟩) hl t.c) /\ u.cell? ⟨b2, o2 + a, none⟩ = some (.int .i64 (axN a t : Int)) /\ Below wr.heap.size wr u) -> Below u.heap.size u u' -> (u'.cell? ⟨PB, a, none⟩ = some (.int .i64 (s' : Int)) /\ u'.cell? ⟨pb, po + k * 7 + 5, none⟩ = some (.slice (some ⟨b2, o2, none⟩) hl t.c) /\ u'.cell? ⟨b2, o2 + a, none⟩ = some (.int .i64 (axN a t : Int)) /\ Below wr.heap.size wr u')) := Lib.hid (fun u u' h hb => ⟨Rg.keep hb (World.block_lt_of_cell? _ _ h.1) h.1, Rg.keep hb (World.block_lt_of_cell? _ _ h.2.1) h.2.1, Rg.keep hb (World.block_lt_of_cell? _ _ h.2.2.1) h.2.2.1, h.2.2.2.trans (hb.mono h.2.2.2.size)⟩)
         refine Rk.begin (S := fun wS => wS.cell? ⟨PB, a, none⟩ = some (.int .i64 (s' : Int)) /\ wS.cell? ⟨pb, po + k * 7 + 5, none⟩ = some (.slice (some ⟨b2, o2, none⟩) hl t.c) /\ wS.cell? ⟨b2, o2 + a, none⟩ = some (.int .i64 (axN a t : Int)) /\ Below wr.heap.size wr wS) 12 (by kernel_rfl) ⟨v3, h5, v2, Below.drew (Below.drew (Below.refl _ _))⟩ (fun hHeld => ?_)
         refine SqR.p 0 ?_
         refine SqR.p 1 ?_
         refine SqR.p 2 ?_
         refine SqR.l [12] 3 ?_
         refine SqR.p 4 ?_
         refine SqR.p 5 ?_
         refine SqR.p 6 ?_
         refine SqR.p 7 ?_
         refine SqR.l [10, 11, 12] 8 ?_
         refine SqR.p 9 ?_
         refine SqR.p 10 ?_
         refine SqR.l [12] 11 ?_
         refine Rk.tail [12, 13, 14] [_, _, _] (by kernel_rfl) (by kernel_rfl) rfl (by decide) ?_
         obtain ⟨v3, h5, v2, -⟩ := hHeld
         have ht : wr.drew.drew.frozen? ⟨PB, a, none⟩ = false := QJ.frozenAt a
         have hsn := smA_snoc a hkt
         have hk1n : k + 1 < n := by
          rcases Nat.lt_or_ge (k + 1) n with h9 | h9
          ·exact h9
          ·exfalso
           rw [List.take_of_length_le (by rw [HN.out]; exact h9), HS9.out] at hsn
           omega
         have HS2 : Hid (smA a (L.take (k + 1)) <= s) := Lib.hid (by rw [hsn]; omega)
         have sQ := (QJ.stored a (.int .i64 ((s' : Int) - (axN a t : Int)))).1
         have hins : ins q0 a ((s' : Int) - (axN a t : Int)) = ins q0 a ((s - smA a (L.take (k + 1)) : Nat) : Int) := by rw [hsn]; congr 1; omega
         rw [<- List.map_set, ins_set _ _ (by omega), hins] at sQ
         have HSQ := Lib.hid sQ
         clear sQ hins hsn HS
         go_wp2_with fail
         go_roundw
         case rel => exact ⟨k + 1, by simp, hk1n, HS2, Lib.hid ⟨((ZJ.far (by omega)).drew).drew, ((DJ.far (by omega)).drew).drew, (own_setP PJ HQB.out (Nat.le_refl _)).drew.drew, (own_setP VJ HVB.out (Nat.le_refl _)).drew.drew, ((KJ.setCell (p := ⟨PB, a, none⟩) (by dsimp only; omega) _).drew).drew, by simp; omega, HSQ.out.drew.drew⟩⟩
         case measure => simp [intOf]; omega
        ·have gk : decide ((axN a t : Int) <= (s' : Int)) = false := by simp; omega
         have hs2 : s' < axN a t := by omega
         have htE := tt0
         unfold tEt at htE
         obtain ⟨-, htv, -, -⟩ := tE_ok htE
         have hof : of 0 t.zs (ins q0 a (s' : Int)) = some ((i0 * axN a t * af + f + s' * af : Nat) : Int) := by
          rw [tzs] at htv ⊢
          rw [<- HQ0.out]
          exact cat_off htv HG.out.ha HG.out.hbf HG.out.haf hi0 hs2 hf
         have hel := ctV_get HG.out HS9.out hi0 hf hkt hss hs2
         rw [<- HX.out] at hel
         have hfl := cat_lt hi0 hs2 hf
         rw [<- tv] at hfl
         obtain ⟨fo, hfo⟩ : ∃ y, i0 * axN a t * af + f + s' * af = y := ⟨_, rfl⟩
         rw [hfo] at hof hel hfl
         obtain ⟨vb, vo, ee, v0, v1⟩ := RV9 fo hfl
         rw [ee] at h6
         obtain ⟨⟨y1, y2⟩, hy⟩ : ∃ y, t.vs.getD fo (0, 0) = y := ⟨_, rfl⟩
         rw [hy] at v0 v1 hel
         dsimp only at v0 v1
         have htk := take_snoc (l := ctV a af L bf) (j := x) (by rw [HVL.out]; exact hxm)
         rw [hel] at htk
         dsimp only at htk
         have HTK := Lib.hid htk
         obtain ⟨vl, hvl⟩ : ∃ y, t.vs.length = y := ⟨_, rfl⟩
         rw [hvl] at h6 hfl
         have f2 : (fo : Int) < vl := by omega
         have f0 : (0 : Int) <= fo := by omega
         have C3 : Hid (∀ u, Below wr.heap.size wr u -> Calls Tryz.prog 69 #[.slice (some ⟨b2, o2, none⟩) hl t.c, .slice (some ⟨PB, 0, none⟩) hl hl] u fun e u' => e = .returned (.int .i64 (fo : Int)) /\ Below u.heap.size u u') := Lib.hid fun u h => by
          have g := troff (some ⟨b2, o2, none⟩) (some ⟨PB, 0, none⟩) t.zs (ins q0 a (s' : Int)) t.c hl (fo : Int) u htv (by rw [hilen, tl]) hof (Lib.hid (by rw [<- hp2]; exact SlI.keep h RH9)) (Lib.hid (SlI.keep h (SlI_of QJ hilen)))
          rw [hilen, tl] at g
          exact g.mono fun _ _ g => ⟨g.1, by obtain ⟨k, rfl⟩ := g.2; exact below_drewN (Below.refl _ _) k⟩
         obtain ⟨j0, hinf, hz0, hz1, hz2⟩ := info_parts infoV
         go_upto_region 27 with fail
         clear HS
         have HS : Hid (∀ u u' : World, (u.cell? ⟨w3.heap.size, 6, none⟩ = some (.slice qq x dd) /\ u.cell? ⟨pb, po + k * 7 + 6, none⟩ = some (.slice (some ⟨vb, vo, none⟩) vl t.d) /\ u.cell? ⟨pb, po + k * 7 + 5, none⟩ = some (.slice (some ⟨b2, o2, none⟩) hl t.c) /\ u.cell? ⟨vb, vo + fo * 2, none⟩ = some (.int .i64 y1) /\ u.cell? ⟨vb, vo + fo * 2 + 1, none⟩ = some (.int .i64 y2) /\ Below wr.heap.size wr u) -> Below u.heap.size u u' -> (u'.cell? ⟨w3.heap.size, 6, none⟩ = some (.slice qq x dd) /\ u'.cell? ⟨pb, po + k * 7 + 6, none⟩ = some (.slice (some ⟨vb, vo, none⟩) vl t.d) /\ u'.cell? ⟨pb, po + k * 7 + 5, none⟩ = some (.slice (some ⟨b2, o2, none⟩) hl t.c) /\ u'.cell? ⟨vb, vo + fo * 2, none⟩ = some (.int .i64 y1) /\ u'.cell? ⟨vb, vo + fo * 2 + 1, none⟩ = some (.int .i64 y2) /\ Below wr.heap.size wr u')) := Lib.hid (fun u u' h hb => ⟨Rg.keep hb (World.block_lt_of_cell? _ _ h.1) h.1, Rg.keep hb (World.block_lt_of_cell? _ _ h.2.1) h.2.1, Rg.keep hb (World.block_lt_of_cell? _ _ h.2.2.1) h.2.2.1, Rg.keep hb (World.block_lt_of_cell? _ _ h.2.2.2.1) h.2.2.2.1, Rg.keep hb (World.block_lt_of_cell? _ _ h.2.2.2.2.1) h.2.2.2.2.1, h.2.2.2.2.2.trans (hb.mono h.2.2.2.2.2.size)⟩)
         refine Rk.begin (S := fun wS => wS.cell? ⟨w3.heap.size, 6, none⟩ = some (.slice qq x dd) /\ wS.cell? ⟨pb, po + k * 7 + 6, none⟩ = some (.slice (some ⟨vb, vo, none⟩) vl t.d) /\ wS.cell? ⟨pb, po + k * 7 + 5, none⟩ = some (.slice (some ⟨b2, o2, none⟩) hl t.c) /\ wS.cell? ⟨vb, vo + fo * 2, none⟩ = some (.int .i64 y1) /\ wS.cell? ⟨vb, vo + fo * 2 + 1, none⟩ = some (.int .i64 y2) /\ Below wr.heap.size wr wS) 17 (by kernel_rfl) ⟨m6, h6, h5, v0, v1, Below.drew (Below.drew (Below.refl _ _))⟩ (fun hHeld => ?_)
         refine SqR.p 0 ?_
         refine SqR.l [17] 1 ?_
         refine SqR.p 2 ?_
         refine SqR.p 3 ?_
         refine SqR.p 4 ?_
         refine SqR.p 5 ?_
         refine SqR.l [14, 15, 16, 17] 6 ?_
         refine SqR.p 7 ?_
         refine SqR.p 8 ?_
         refine SqR.p 9 ?_
         refine SqR.p 10 ?_
         refine SqR.l [13, 17] 11 ?_
         refine SqR.p 12 ?_
         refine Rk.one (i := 13) (by kernel_rfl) rfl (fun KK hK => ?_)
         rw [if_pos (by kernel_rfl)]
         go_simp
         ((with_reducible refine (C3.out _ (hHeld.2.2.2.2.2)).mono ?_); rintro e u ⟨rfl, hb⟩)
         first | (refine hK.out _ _ (fun _ => HS.out _ _ hHeld hb) (fun hHeld => ?_)) | (refine hK.out _ _ (HS.out _ _ hHeld hb) (fun hHeld => ?_)) | (go_wp2_with fail; refine hK.out _ _ (HS.out _ _ hHeld hb) (fun hHeld => ?_))
         clear hK KK
         refine SqR.p 14 ?_
         refine SqR.l [16, 17] 15 ?_
         refine Rk.one (i := 16) (by kernel_rfl) rfl (fun KK hK => ?_)
         rw [if_pos (by kernel_rfl)]
         go_simp
         have hNew := HS.out _ _ hHeld ((Below.refl _ _).alloc (Nat.le_refl _) (Obj.cells #[Value.int .i64 y1, Value.int .i64 y2] 29))
         first | (refine hK.out _ _ (fun _ => hNew) (fun hHeld => ?_)) | (refine hK.out _ _ hNew (fun hHeld => ?_)) | (go_wp2_with fail; refine hK.out _ _ hNew (fun hHeld => ?_))
         clear hK KK
         refine Rk.tail [17, 18, 19] [_, _, _] (by kernel_rfl) (by kernel_rfl) rfl (by decide) ?_
         have KZ0 := hHeld.2.2.2.2.2
         have NZ : ∀ (l : Nat) (v : Value), ([Value.int .i64 y1, Value.int .i64 y2] : List Value)[l]? = some v -> (u.alloc (Obj.cells #[Value.int .i64 y1, Value.int .i64 y2] 29)).cell? ((⟨u.heap.size, 0, none⟩ : Addr).add l) = some v := news2 u y1 y2 rfl
         obtain ⟨m6, h6, h5, v0, v1, -⟩ := hHeld
         clear HS C3 m0 m1 m2 m3 m4 m5 g0 g1 g2 g3 g4 g5 g6
         obtain ⟨wz, hwz⟩ : ∃ x, (u.alloc (Obj.cells #[Value.int .i64 y1, Value.int .i64 y2] 29)) = x := ⟨_, rfl⟩
         rw [hwz] at KZ0 NZ m6 h6 h5 v0 v1 ⊢
         clear hwz
         have VZ := own_belowE VJ KZ0
         have PZ := own_belowE PJ KZ0
         have TZ := B7.keep KZ0 ZJ.lt ZJ
         have DZ := B7.keep KZ0 DJ.lt DJ
         have KZ := KJ.trans (KZ0.mono KJ.size)
         have hzz := KZ0.size
         go_wp2_with (at_builtin; refine wpList_append_own _ rfl _ _ 25 rfl (w3.heap.size + 1) 29 j0 (.agg #[.int .i64 0, .int .i64 0]) 2 16 Tryz.underlying25 hinf hz0 hz1 hz2 rfl (by decide) _ _ _ rfl VZ ⟨u.heap.size, 0, none⟩ 1 1 [.int .i64 y1, .int .i64 y2] rfl rfl NZ (news1 y1 y2) (by unfold maxLen; omega) (by omega) (by omega) ?_; intro v8 w8 hown8 hgrow _; obtain ⟨qn, dn, rfl⟩ := own_slice hown8; have hrow := row_base VZ; have D8 := DZ.grown hgrow (fun e => by have := hrow _ e.symm; omega); have T8 := TZ.grown hgrow (fun e => by have := hrow _ e.symm; omega); have P8 := PZ.kept hgrow (own_apart PZ VZ); have V8 := Lib.hid hown8; have K8 := KZ.grown hgrow KZ.size (fun k e => by have := hrow _ e; omega); have hs8 := hgrow.size; obtain ⟨⟨m0, m1, m2, m3, m4, m5, m6⟩, ⟨g0, g1, g2, g3, g4, g5, g6⟩⟩ := id D8; have lD8 := D8.lt; clear hown8 hgrow)
         go_roundw
         case rel => exact ⟨x + 1, qn, dn, by simp, by omega, Lib.hid ⟨T8.far (by omega), D8.set6, own_set P8 (by dsimp only; omega), own_set (by rw [HTK.out, flV_snoc]; exact V8.out) (by dsimp only; omega), K8.setCell (p := ⟨w3.heap.size, 6, none⟩) (by dsimp only; omega) _, by rw [World.size_setCell]; omega⟩⟩
         case measure => simp [intOf]; omega
      ·obtain rfl : m = x := by omega
       have gN2 : decide ((m : Int) < m) = false := by simp
       have lr1 := R0.out.lt
       have lr : w.heap.size < wr.heap.size := ZJ.lt
       go_upto_region 28 with (first | (go_at_call 55; (with_reducible refine (SZ.out _ (Lib.hid (SlI_of PJ HLS.out))).mono ?_); rintro e w' ⟨rfl, rfl⟩))
       obtain ⟨⟨z0, z1, z2, z3, z4, z5, z6⟩, ⟨f0, f1, f2, f3, f4, f5, f6⟩⟩ := id ZJ
       repeat go_step
       have HV9 := VJ
       rw [List.take_of_length_le (by rw [HVL.out]; exact Nat.le_refl _)] at HV9
       have SBB := (((((((KJ).setCell (p := ⟨w.heap.size, 0, none⟩) (by dsimp only; omega) (.int .i64 h.K)).setCell (p := ⟨w.heap.size, 1, none⟩) (by dsimp only; omega) (.int .i64 h.B)).setCell (p := ⟨w.heap.size, 2, none⟩) (by dsimp only; omega) (.int .i64 h.F)).setCell (p := ⟨w.heap.size, 3, none⟩) (by dsimp only; omega) (.int .i64 h.R)).setCell (p := ⟨w.heap.size, 4, none⟩) (by dsimp only; omega) (.int .i64 h.O)).setCell (p := ⟨w.heap.size, 5, none⟩) (by dsimp only; omega) (.slice qv hl dv)).setCell (p := ⟨w.heap.size, 6, none⟩) (by dsimp only; omega) (.slice qq m dd)
       refine bodyPost_ret (v := .tuple #[Tn h.K h.B h.F h.R h.O qv hl dv qq m dd, .int .i64 0]) (by simp [results, Tryz.results41, go_sem, z0, f0, z1, f1, z2, f2, z3, f3, z4, f4, z5, f5, z6, f6, lr, Tn]) rfl ?_
       refine ⟨qv, dv, qq, dd, by rw [HLS.out, HVL.out], SlI_of (own_set (own_set (own_set (own_set (own_set (own_set (own_set PJ (by dsimp only; omega)) (by dsimp only; omega)) (by dsimp only; omega)) (by dsimp only; omega)) (by dsimp only; omega)) (by dsimp only; omega)) (by dsimp only; omega)) HLS.out, SlV_of (own_set (own_set (own_set (own_set (own_set (own_set (own_set HV9 (by dsimp only; omega)) (by dsimp only; omega)) (by dsimp only; omega)) (by dsimp only; omega)) (by dsimp only; omega)) (by dsimp only; omega)) (by dsimp only; omega)) HVL.out, SBB⟩
end Go.Proofs.YteaaikmejacpaaaGreatDoor.Te

namespace Go.Proofs.YteaaikmejacpaaaGreatDoor.Te
open Go.ChangeShapes Go.WideShapes Go.ChangeAt Go.RowKit
open Fx Va Sh
set_option maxRecDepth 8000
set_option linter.unusedVariables false
set_option linter.unusedSimpArgs false

/-- Concat and its definition answer alike. -/
theorem both_cat (ax : Int) (p : Option Addr) (L : List Tr) (cL : Nat) (h8 : L.length <= 8) (hc : L.length <= cL) (hcm : cL <= maxLen) (OK : ∀ t ∈ L, okT t) : ∃ (Ka Ba Fa Ra Oa : Int) (zsa : List Int) (vsa : List (Int × Int)) (Ea : Int), zsa.length <= maxLen /\ vsa.length <= maxLen /\ (∀ u, Hid (SlX u p L) -> Calls Tryz.prog 40 #[.int .i64 ax, .slice p L.length cL] u (TS Ka Ba Fa Ra Oa zsa vsa Ea u)) /\ (∀ u, Hid (SlX u p L) -> Calls Tryz.prog 41 #[.int .i64 ax, .slice p L.length cL] u (TS Ka Ba Fa Ra Oa zsa vsa Ea u)) := by
 have hn : L.length <= maxLen := Nat.le_trans hc hcm
 have no : ∀ Er : Int, (∀ u, Hid (SlX u p L) -> Calls Tryz.prog 40 #[.int .i64 ax, .slice p L.length cL] u (TRes 0 0 0 0 0 [] [] Er u)) -> (∀ u, Hid (SlX u p L) -> Calls Tryz.prog 41 #[.int .i64 ax, .slice p L.length cL] u (TS 0 0 0 0 0 [] [] Er u)) -> ∃ (Ka Ba Fa Ra Oa : Int) (zsa : List Int) (vsa : List (Int × Int)) (Ea : Int), zsa.length <= maxLen /\ vsa.length <= maxLen /\ (∀ u, Hid (SlX u p L) -> Calls Tryz.prog 40 #[.int .i64 ax, .slice p L.length cL] u (TS Ka Ba Fa Ra Oa zsa vsa Ea u)) /\ (∀ u, Hid (SlX u p L) -> Calls Tryz.prog 41 #[.int .i64 ax, .slice p L.length cL] u (TS Ka Ba Fa Ra Oa zsa vsa Ea u)) := fun Er h1 h2 => ⟨0, 0, 0, 0, 0, [], [], Er, Nat.zero_le _, Nat.zero_le _, fun u hu => (h1 u hu).mono fun _ _ h => h.ts, h2⟩
 by_cases h0 : L = []
 ·have e : ccE ax L = 1 := by rw [h0]; rfl
  refine no 1 (fun u hu => ?_) (fun u hu => rc_0 ax p L cL u h8 OK hu h0)
  have h := ca_e ax p L cL u hn hc hcm OK hu (by rw [e]; decide)
  rw [e] at h
  exact h
 ·obtain ⟨h, r, hL⟩ : ∃ h r, L = h :: r := by
   cases L with
   | nil => exact absurd rfl h0
   | cons h r => exact ⟨h, r, rfl⟩
  by_cases hv : ccV L = 0
  ·by_cases hE : ccE ax L = 0
   ·obtain ⟨a, bf, af, hax, G⟩ := cc_good (ax := ax) (h := h) (r := r) (by rw [<- hL]; exact hE)
    rw [<- hL] at G
    by_cases hlim : smA a L * (bf * af) <= 4096
    ·refine ⟨h.K, h.B, h.F, h.R, h.O, h.zs.set a (smA a L : Int), ctV a af L bf, 0, ?_, ?_, fun u hu => (ca_g ax p L cL u hn hc hcm OK hu a bf af h r hL hax G hE).mono fun _ _ k => ?_, fun u hu => rc_g ax p L cL u h8 OK hu h r hL hv a bf af hax G hE hlim⟩
     ·rw [List.length_set]
      have := G.h6
      unfold maxLen
      omega
     ·rw [ctV_len (fun t ht => (G.all t ht).2.2.2.2.2.1) bf (Nat.le_refl _)]
      have e : bf * (smA a L * af) = smA a L * (bf * af) := by rw [Nat.mul_comm bf, Nat.mul_assoc, Nat.mul_comm af]
      rw [e]
      unfold maxLen
      omega
     ·rcases k with ⟨k, _⟩ | ⟨_, k⟩
      ·exact absurd hlim (Nat.not_le.2 k)
      ·exact k.ts
    ·refine no 2 (fun u hu => (ca_g ax p L cL u hn hc hcm OK hu a bf af h r hL hax G hE).mono fun _ _ k => ?_) (fun u hu => rc_j ax p L cL u h8 OK hu h r hL hv 0 2 (.inr ⟨hE, a, bf, af, hax, G, .inl ⟨by omega, rfl, rfl⟩⟩) (by decide))
     rcases k with ⟨_, k⟩ | ⟨k, _⟩
     ·exact k
     ·exact absurd k hlim
   ·exact no (ccE ax L) (fun u hu => ca_e ax p L cL u hn hc hcm OK hu hE) (fun u hu => rc_j ax p L cL u h8 OK hu h r hL hv 0 (ccE ax L) (.inl ⟨hE, rfl, rfl⟩) hE)
  ·have e : ccE ax L = ccV L := by
    rw [hL] at hv ⊢
    exact ccE_v rfl hv
   refine no (ccV L) (fun u hu => ?_) (fun u hu => rc_v ax p L cL u h8 OK hu h0 hv)
   have h := ca_e ax p L cL u hn hc hcm OK hu (by rw [e]; exact hv)
   rw [e] at h
   exact h
end Go.Proofs.YteaaikmejacpaaaGreatDoor.Te

namespace Go.Proofs.YteaaikmejacpaaaGreatDoor.Te
open Go.ChangeShapes Go.WideShapes Go.ChangeAt Go.RowKit
open Fx Va Sh
set_option maxRecDepth 8000
set_option linter.unusedVariables false
set_option linter.unusedSimpArgs false

set_option maxRecDepth 100000 in
set_option maxHeartbeats 4000000 in
theorem lc_a (ax : Int) (p : Option Addr) (L : List Tr) (cL : Nat) (w : World) (hc : L.length <= cL) (hcm : cL <= maxLen) (OK : ∀ t ∈ L, okT t) (RX : Hid (SlX w p L)) (hLA : Tx.LA w) (h9 : 8 < L.length) :
  Calls Tryz.prog 11 #[.int .i64 ax, .slice p L.length cL] w fun en w' => en = .returned (.bool true) /\ Below w.heap.size w w' := by
 have HLA := Lib.hid hLA
 have EX := Lib.hid fun u h => exam12 u h
 have KB := Lib.hid (Below.refl w.heap.size w)
 obtain ⟨n, hnn⟩ : ∃ n, L.length = n := ⟨_, rfl⟩
 rw [hnn] at h9 ⊢
 have g1 : decide ((8 : Int) < n) = true := by simp; omega
 have g2 : decide (8 < n) = true := by simpa using h9
 clear hnn hc hcm OK hLA
 go_enter Tryz.func11, Tryz.ntmps11
 go_wp2_with (first | (go_at_call 15; (with_reducible refine (EX.out _ (HLA.out.below KB.out)).mono ?_); rintro e wX ⟨rfl, hb⟩; have KX := Lib.hid (KB.out.trans (hb.mono KB.out.size)); clear hb))
 go_ret
 exact ⟨rfl, KX.out⟩

set_option maxRecDepth 100000 in
set_option maxHeartbeats 4000000 in
theorem lc_go (ax : Int) (p : Option Addr) (L : List Tr) (cL : Nat) (w : World) (hc : L.length <= cL) (hcm : cL <= maxLen) (OK : ∀ t ∈ L, okT t) (RX : Hid (SlX w p L)) (hLA : Tx.LA w) (h8 : L.length <= 8) (Ka Ba Fa Ra Oa : Int) (zsa : List Int) (vsa : List (Int × Int)) (Ea : Int) (hza : zsa.length <= maxLen) (hva : vsa.length <= maxLen) (CP0 : ∀ u, Hid (SlX u p L) -> Calls Tryz.prog 40 #[.int .i64 ax, .slice p L.length cL] u (TS Ka Ba Fa Ra Oa zsa vsa Ea u)) (CQ0 : ∀ u, Hid (SlX u p L) -> Calls Tryz.prog 41 #[.int .i64 ax, .slice p L.length cL] u (TS Ka Ba Fa Ra Oa zsa vsa Ea u)) :
  Calls Tryz.prog 11 #[.int .i64 ax, .slice p L.length cL] w fun en w' => en = .returned (.bool true) /\ Below w.heap.size w w' := by
 have HLA := Lib.hid hLA
 have EX := Lib.hid fun u h => exam12 u h
 have KB := Lib.hid (Below.refl w.heap.size w)
 have SM := Lib.hid fun (t : Tr) (u : World) => tsmall t.K t.B t.F t.R t.O t.p t.zs.length t.c t.q t.vs.length t.d 4200 u
 have BA0 := fun p4 p5 kc4 kc5 q4 q5 d4 d5 u h1 h2 h3 h4 => bten Ka Ba Fa Ra Oa p4 p5 zsa kc4 kc5 q4 q5 vsa d4 d5 u hza hva h1 h2 h3 h4
 unfold TS at CP0 CQ0
 obtain ⟨na, hna⟩ : ∃ n, zsa.length = n := ⟨_, rfl⟩
 obtain ⟨ma, hma⟩ : ∃ n, vsa.length = n := ⟨_, rfl⟩
 obtain ⟨n, hnn⟩ : ∃ n, L.length = n := ⟨_, rfl⟩
 rw [hnn] at CP0 CQ0 h8 ⊢
 rw [hna, hma] at CP0 CQ0 BA0
 unfold Tn at *
 have CP := Lib.hid CP0
 have CQ := Lib.hid CQ0
 have BA := Lib.hid BA0
 have HN := Lib.hid hnn
 have g1 : decide ((8 : Int) < n) = false := by simp; omega
 have g2 : decide (8 < n) = false := by simp; omega
 clear hnn CP0 CQ0 BA0 hna hma hza hva hc hcm OK hLA
 go_enter Tryz.func11, Tryz.ntmps11
 go_upto_region 4 with fail
 go_loopw [5] (fun iv wr => ∃ i : Nat, iv = .int .i64 (i : Int) /\ i <= n /\ Hid (Below w.heap.size w wr)) (fun iv _ => n - (intOf iv).toNat)
 case atStart => exact ⟨0, rfl, Nat.zero_le _, KB⟩
 case round =>
  clear KB
  obtain ⟨i, rfl, hi, KB⟩ := hrel
  by_cases him : i < n
  ·have hi2 : (i : Int) < n := by omega
   have hi0 : (0 : Int) <= i := by omega
   have hi8 : (i : Int) < 100 := by omega
   obtain ⟨t, het, -⟩ := drop_one (L := L) (i := i) (by rw [HN.out]; exact him)
   obtain ⟨⟨b, o, hp, hc7⟩, -, -⟩ := (SlX.keep KB.out RX.out) i t het
   cases hp
   obtain ⟨c0, c1, c2, c3, c4, c5, c6⟩ := hc7
   have SMT0 := SM.out t
   obtain ⟨sb, hsb⟩ : ∃ x, (decide ((t.vs.length : Int) <= 4200) && decide (t.zs.length <= 20)) = x := ⟨_, rfl⟩
   rw [hsb] at SMT0
   have SMT := Lib.hid SMT0
   clear hsb het SMT0
   cases sb
   ·go_wp2_with (first | (go_at_call 14; (with_reducible refine (SMT.out _).mono ?_); rintro e w1 ⟨rfl, hb⟩; have KN := Lib.hid (KB.out.trans (hb.mono KB.out.size)); clear KB hb; have KB := KN; clear KN) | (go_at_call 15; (with_reducible refine (EX.out _ (HLA.out.below KB.out)).mono ?_); rintro e wX ⟨rfl, hb⟩; have KX := Lib.hid (KB.out.trans (hb.mono KB.out.size)); clear hb))
    go_ret
    exact ⟨rfl, KX.out⟩
   ·go_wp2_with (first | (go_at_call 14; (with_reducible refine (SMT.out _).mono ?_); rintro e w1 ⟨rfl, hb⟩; have KN := Lib.hid (KB.out.trans (hb.mono KB.out.size)); clear KB hb; have KB := KN; clear KN))
    go_roundw
    case rel => exact ⟨i + 1, by simp, by omega, KB⟩
    case measure => simp [intOf]; omega
  ·obtain rfl : i = n := by omega
   have gN : decide ((i : Int) < i) = false := by simp
   go_wp2_with (first | (go_at_call 40; (with_reducible refine (CP.out _ (Lib.hid (RX.out.keep KB.out))).mono ?_); rintro e w4 ⟨p4, kc4, q4, d4, rfl, hsi, hsv, hb⟩; have hW : Below wr.heap.size wr wr := Below.refl _ _; have hX := hW.trans (hb.mono hW.size); replace KB := Lib.hid (KB.out.trans (hX.mono KB.out.size)); have SI4 := Lib.hid hsi; have SV4 := Lib.hid hsv; have K4 := Lib.hid (Below.refl w4.heap.size w4); clear hb hW hX hsi hsv) | (go_at_call 41; (with_reducible refine (CQ.out _ (Lib.hid (RX.out.keep (KB.out.alloc KB.out.size (Obj.cells #[Value.int .i64 Ka, Value.int .i64 Ba, Value.int .i64 Fa, Value.int .i64 Ra, Value.int .i64 Oa, Value.slice p4 na kc4, Value.slice q4 ma d4] 27))))).mono ?_); rintro e w5 ⟨p5, kc5, q5, d5, rfl, hsi, hsv, hb⟩; have hW : Below w4.heap.size w4 (w4.alloc (Obj.cells #[Value.int .i64 Ka, Value.int .i64 Ba, Value.int .i64 Fa, Value.int .i64 Ra, Value.int .i64 Oa, Value.slice p4 na kc4, Value.slice q4 ma d4] 27)) := (Below.refl _ _).alloc (Nat.le_refl _) (Obj.cells #[Value.int .i64 Ka, Value.int .i64 Ba, Value.int .i64 Fa, Value.int .i64 Ra, Value.int .i64 Oa, Value.slice p4 na kc4, Value.slice q4 ma d4] 27); have hX := hW.trans (hb.mono hW.size); have e0 : w5.cell? ⟨w4.heap.size, 0, none⟩ = some (.int .i64 Ka) := Rg.keep hb (by first | omega | (simp; omega) | (simp; done)) (by go_cell); have e1 : w5.cell? ⟨w4.heap.size, 1, none⟩ = some (.int .i64 Ba) := Rg.keep hb (by first | omega | (simp; omega) | (simp; done)) (by go_cell); have e2 : w5.cell? ⟨w4.heap.size, 2, none⟩ = some (.int .i64 Fa) := Rg.keep hb (by first | omega | (simp; omega) | (simp; done)) (by go_cell); have e3 : w5.cell? ⟨w4.heap.size, 3, none⟩ = some (.int .i64 Ra) := Rg.keep hb (by first | omega | (simp; omega) | (simp; done)) (by go_cell); have e4 : w5.cell? ⟨w4.heap.size, 4, none⟩ = some (.int .i64 Oa) := Rg.keep hb (by first | omega | (simp; omega) | (simp; done)) (by go_cell); have e5 : w5.cell? ⟨w4.heap.size, 5, none⟩ = some (.slice p4 na kc4) := Rg.keep hb (by first | omega | (simp; omega) | (simp; done)) (by go_cell); have e6 : w5.cell? ⟨w4.heap.size, 6, none⟩ = some (.slice q4 ma d4) := Rg.keep hb (by first | omega | (simp; omega) | (simp; done)) (by go_cell); have le : w4.heap.size < w5.heap.size := World.block_lt_of_cell? _ _ e0; replace KB := Lib.hid (KB.out.trans (hX.mono KB.out.size)); replace K4 := Lib.hid (K4.out.trans (hX.mono K4.out.size)); have SI5 := Lib.hid hsi; have SV5 := Lib.hid hsv; have K5 := Lib.hid (Below.refl w5.heap.size w5); clear hb hW hX hsi hsv) | (go_at_call 22; (with_reducible refine (BA.out p4 p5 kc4 kc5 q4 q5 d4 d5 _ (Lib.hid (SlI.keep (K4.out.alloc K4.out.size (Obj.cells #[Value.int .i64 Ka, Value.int .i64 Ba, Value.int .i64 Fa, Value.int .i64 Ra, Value.int .i64 Oa, Value.slice p5 na kc5, Value.slice q5 ma d5] 27)) SI4.out)) (Lib.hid (SlV.below SV4.out (K4.out.alloc K4.out.size (Obj.cells #[Value.int .i64 Ka, Value.int .i64 Ba, Value.int .i64 Fa, Value.int .i64 Ra, Value.int .i64 Oa, Value.slice p5 na kc5, Value.slice q5 ma d5] 27)))) (Lib.hid (SlI.keep (K5.out.alloc K5.out.size (Obj.cells #[Value.int .i64 Ka, Value.int .i64 Ba, Value.int .i64 Fa, Value.int .i64 Ra, Value.int .i64 Oa, Value.slice p5 na kc5, Value.slice q5 ma d5] 27)) SI5.out)) (Lib.hid (SlV.below SV5.out (K5.out.alloc K5.out.size (Obj.cells #[Value.int .i64 Ka, Value.int .i64 Ba, Value.int .i64 Fa, Value.int .i64 Ra, Value.int .i64 Oa, Value.slice p5 na kc5, Value.slice q5 ma d5] 27))))).mono ?_); rintro e w6 ⟨rfl, hb⟩; have hW : Below w5.heap.size w5 (w5.alloc (Obj.cells #[Value.int .i64 Ka, Value.int .i64 Ba, Value.int .i64 Fa, Value.int .i64 Ra, Value.int .i64 Oa, Value.slice p5 na kc5, Value.slice q5 ma d5] 27)) := (Below.refl _ _).alloc (Nat.le_refl _) (Obj.cells #[Value.int .i64 Ka, Value.int .i64 Ba, Value.int .i64 Fa, Value.int .i64 Ra, Value.int .i64 Oa, Value.slice p5 na kc5, Value.slice q5 ma d5] 27); have hX := hW.trans (hb.mono hW.size); replace KB := Lib.hid (KB.out.trans (hX.mono KB.out.size)); clear hb hW hX) | (go_at_call 15; (with_reducible refine (EX.out _ (HLA.out.below KB.out)).mono ?_); rintro e wX ⟨rfl, hb⟩; have KX := Lib.hid (KB.out.trans (hb.mono KB.out.size)); clear hb))
   go_ret
   exact ⟨rfl, KX.out⟩

set_option maxRecDepth 100000 in
set_option maxHeartbeats 4000000 in
theorem law_cc (ax : Int) (p : Option Addr) (L : List Tr) (cL : Nat) (w : World) (hc : L.length <= cL) (hcm : cL <= maxLen) (OK : ∀ t ∈ L, okT t) (RX : Hid (SlX w p L)) (hLA : Tx.LA w)  :
  Calls Tryz.prog 11 #[.int .i64 ax, .slice p L.length cL] w fun en w' => en = .returned (.bool true) /\ Below w.heap.size w w' := by
 by_cases h8 : L.length <= 8
 ·obtain ⟨Ka, Ba, Fa, Ra, Oa, zsa, vsa, Ea, a1, a2, a3, a4⟩ := both_cat ax p L cL h8 hc hcm OK
  exact lc_go ax p L cL w hc hcm OK RX hLA h8 Ka Ba Fa Ra Oa zsa vsa Ea a1 a2 a3 a4
 ·exact lc_a ax p L cL w hc hcm OK RX hLA (by omega)
end Go.Proofs.YteaaikmejacpaaaGreatDoor.Te
