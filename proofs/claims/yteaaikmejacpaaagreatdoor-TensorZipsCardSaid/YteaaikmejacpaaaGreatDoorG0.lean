/- What TensorZips needs beside the base. -/
import Derived.Test.YteaaikmejacpaaaGreatDoorE16
import Derived.Test.YteaaikmejacpaaaGreatDoorR0
import Derived.Test.YteaaikmejacpaaaGreatDoorR1
import Derived.Test.YteaaikmejacpaaaGreatDoorR10
import Derived.Test.YteaaikmejacpaaaGreatDoorR11
import Derived.Test.YteaaikmejacpaaaGreatDoorR12
import Derived.Test.YteaaikmejacpaaaGreatDoorR13
import Derived.Test.YteaaikmejacpaaaGreatDoorR14
import Derived.Test.YteaaikmejacpaaaGreatDoorR16
import Derived.Test.YteaaikmejacpaaaGreatDoorR17
import Derived.Test.YteaaikmejacpaaaGreatDoorR18
import Derived.Test.YteaaikmejacpaaaGreatDoorR19
import Derived.Test.YteaaikmejacpaaaGreatDoorR2
import Derived.Test.YteaaikmejacpaaaGreatDoorR20
import Derived.Test.YteaaikmejacpaaaGreatDoorR3
import Derived.Test.YteaaikmejacpaaaGreatDoorR4
import Derived.Test.YteaaikmejacpaaaGreatDoorR5
import Derived.Test.YteaaikmejacpaaaGreatDoorR6
import Derived.Test.YteaaikmejacpaaaGreatDoorR7
import Derived.Test.YteaaikmejacpaaaGreatDoorR8
import Derived.Test.YteaaikmejacpaaaGreatDoorR9
import Derived.Test.YteaaikmejacpaaaGreatDoorV14
import Derived.Test.YteaaikmejacpaaaGreatDoorV15
import Derived.Deep.CutRange
namespace Go.Proofs.YteaaikmejacpaaaGreatDoor.Sh
open Go.ChangeShapes Go.WideShapes Go.ChangeAt Go.RowKit
set_option maxRecDepth 8000
set_option linter.unusedVariables false
set_option linter.unusedSimpArgs false
set_option maxHeartbeats 4000000 in
theorem c49 (p q : Option Addr) (xs ys : List Int) (c d : Nat) (w : World) (hx : xs.length <= maxLen) (hy : ys.length <= maxLen) (RA : Hid (SlI w p xs)) (RB : Hid (SlI w q ys)) :
  Calls Tryz.prog 91 #[.slice p xs.length c, .slice q ys.length d] w fun e w' => e = .returned (.bool (decide (xs = ys))) /\ ∃ k, w' = w.drewN k := by
 unfold maxLen at hx hy
 by_cases hl : xs.length = ys.length
 ·obtain ⟨n, hn⟩ : ∃ n, xs.length = n := ⟨_, rfl⟩
  have hm : ys.length = n := by omega
  have HN := Lib.hid hn
  have HM := Lib.hid hm
  rw [hn] at hx ⊢
  rw [hm]
  clear hn hm hl hy
  go_enter Tryz.func91, Tryz.ntmps91
  go_wp2
  go_loopw [13] (fun i wr => ∃ k : Nat, i = .int .i64 k /\ k <= n /\ Hid (∀ j, j < k -> xs.getD j 0 = ys.getD j 0) /\ ∃ m, wr = w.drewN m) (fun i _ => n - (intOf i).toNat)
  case atStart => exact ⟨0, rfl, by omega, Lib.hid fun j hj => by omega, 0, rfl⟩
  case round =>
   obtain ⟨k, rfl, hk, hL, m, rfl⟩ := hrel
   by_cases hlt : k < n
   ·obtain ⟨b, o, rfl, hc⟩ := RA.out k (by rw [HN.out]; exact hlt)
    obtain ⟨b', o', rfl, hc'⟩ := RB.out k (by rw [HM.out]; exact hlt)
    obtain ⟨x, hX⟩ : ∃ x, xs.getD k 0 = x := ⟨_, rfl⟩
    obtain ⟨y, hY⟩ : ∃ y, ys.getD k 0 = y := ⟨_, rfl⟩
    rw [hX] at hc
    rw [hY] at hc'
    have HX := Lib.hid hX
    have HY := Lib.hid hY
    have mi : (0 : Int) <= k := by omega
    have mi2 : (k : Int) < n := by omega
    clear hX hY
    obtain ⟨t, ht⟩ : ∃ t, (x != y) = t := ⟨_, rfl⟩
    have HT := Lib.hid ht
    cases t
    ·go_wp2
     go_quiet (fail)
     go_wp2
     go_roundw
     case rel => exact ⟨k + 1, by go_num, by omega, Lib.hid fun j hj => by
      rcases (by omega : j < k \/ j = k) with h | rfl
      ·exact hL.out j h
      ·rw [HX.out, HY.out]; simpa using HT.out, m + nq, by first | rfl | rw [World.drewN_drewN]⟩
     case measure => simp [intOf]; omega
    ·go_wp2
     go_quiet (fail)
     go_wp2
     go_ret
     refine ⟨?_, m + nq, by first | rfl | rw [World.drewN_drewN]⟩
     refine ret_bool (decide_eq_false fun h => ?_).symm
     have h2 := HT.out
     rw [<- HX.out, <- HY.out, h] at h2
     simp at h2
   ·go_wp2
    go_ret
    refine ⟨?_, m, rfl⟩
    refine ret_bool (decide_eq_true ?_).symm
    refine List.ext_getElem (by rw [HN.out, HM.out]) fun j h1 h2 => ?_
    have h := hL.out j (by rw [HN.out] at h1; omega)
    rw [getD_at h1, getD_at h2] at h
    exact h
 ·have k1 : ((xs.length : Int) != ys.length) = true := by simp <;> omega
  have k2 : (xs.length != ys.length) = true := by simpa using hl
  have k3 : (xs.length == ys.length) = false := by simpa using hl
  rw [decide_eq_false (fun h => hl (by rw [h]))]
  have HL := Lib.hid hl
  clear hl
  go_enter Tryz.func91, Tryz.ntmps91
  go_wp2
  go_ret
  exact ⟨rfl, 0, rfl⟩
set_option maxHeartbeats 2000000 in
theorem c31 (p q : Option Addr) (xs ys : List Int) (c d : Nat) (w : World) (hx : xs.length <= maxLen) (hy : ys.length <= maxLen) (RA : Hid (SlI w p xs)) (RB : Hid (SlI w q ys)) :
  Calls Tryz.prog 60 #[.slice p xs.length c, .slice q ys.length d] w fun e w' => e = .returned (.bool (decide (xs = ys))) /\ ∃ k, w' = w.drewN k := by
 have C := Lib.hid (c49 p q xs ys c d w hx hy RA RB)
 generalize decide (xs = ys) = t at *
 go_enter Tryz.func60, Tryz.ntmps60
 go_wp2_with (go_at_call 91; refine (C.out).mono ?_; rintro e w' ⟨rfl, k, rfl⟩)
 go_ret
 exact ⟨rfl, k, rfl⟩
end Go.Proofs.YteaaikmejacpaaaGreatDoor.Sh

namespace Go.Proofs.YteaaikmejacpaaaGreatDoor.Te
open Go.ChangeShapes Go.WideShapes Go.ChangeAt Go.RowKit
open Fx Va Sh
set_option maxRecDepth 8000
set_option linter.unusedVariables false
set_option linter.unusedSimpArgs false

theorem own_setP {u : World} {base : Nat} {E : TypeId} {sz n : Nat} {v : Value} {xs : List Value} (h : u.ownsRow base E sz v n xs) {A g o : Nat} {y : Value} (hA : ∀ k, v.ownBlock = some k -> k < A) (hg : A <= g) : (u.setCell ⟨g, o, none⟩ y).ownsRow base E sz v n xs := h.kept grown_set (by
 cases hb : v.ownBlock with
 | none => exact .inl rfl
 | some q => exact .inr (fun e => by have e' : q = g := Option.some.inj e; have := hA _ hb; omega))

end Go.Proofs.YteaaikmejacpaaaGreatDoor.Te

namespace Go.Proofs.YteaaikmejacpaaaGreatDoor.Te
open Go.ChangeShapes Go.WideShapes Go.ChangeAt Go.RowKit
open Fx Va Sh
set_option maxRecDepth 8000
set_option linter.unusedVariables false
set_option linter.unusedSimpArgs false

theorem TS.no {er : Int} {w w' : World} (hb : Below w.heap.size w w') : TS 0 0 0 0 0 [] [] er w (.returned (.tuple #[.agg #[.int .i64 0, .int .i64 0, .int .i64 0, .int .i64 0, .int .i64 0, .slice none 0 0, .slice none 0 0], .int .i64 er])) w' := (TRes.no hb).ts

end Go.Proofs.YteaaikmejacpaaaGreatDoor.Te

namespace Go.Proofs.YteaaikmejacpaaaGreatDoor.Te
open Go.ChangeShapes Go.WideShapes Go.ChangeAt Go.RowKit
open Fx Va Sh
set_option maxRecDepth 8000
set_option linter.unusedVariables false
set_option linter.unusedSimpArgs false

/-- A block of two cells that may be stored to. -/
def B2 (u : World) (b : Nat) (x y : Value) : Prop := (u.cell? ⟨b, 0, none⟩ = some x /\ u.cell? ⟨b, 1, none⟩ = some y) /\ u.frozen? ⟨b, 0, none⟩ = false /\ u.frozen? ⟨b, 1, none⟩ = false
section
variable {u u' : World} {b r o Bd : Nat} {x y x' y' v : Value}
theorem B2.lt (h : B2 u b x y) : b < u.heap.size := World.block_lt_of_cell? _ _ h.1.1
theorem B2.same (hc : ∀ o, u'.cell? ⟨b, o, none⟩ = u.cell? ⟨b, o, none⟩) (hf : ∀ o, u'.frozen? ⟨b, o, none⟩ = u.frozen? ⟨b, o, none⟩) (h : B2 u b x y) : B2 u' b x y := by
 obtain ⟨⟨c0, c1⟩, f0, f1⟩ := h
 exact ⟨⟨(hc 0).trans c0, (hc 1).trans c1⟩, (hf 0).trans f0, (hf 1).trans f1⟩
theorem B2.keep (hb : Below Bd u u') (hlt : b < Bd) (h : B2 u b x y) : B2 u' b x y :=
 h.same (fun o' => World.cell?_of_block (hb.block b hlt)) (fun o' => World.frozen?_of_block (hb.block b hlt))
theorem B2.far (hr : r ≠ b) (h : B2 u b x y) : B2 (u.setCell ⟨r, o, none⟩ v) b x y := h.same (fun o' => World.cell?_setCell_far _ _ _ _ hr) (fun o' => World.frozen?_setCell _ _ _ _)
theorem B2.st (h : B2 u b x y) : B2 ((u.setCell ⟨b, 0, none⟩ x').setCell ⟨b, 1, none⟩ y') b x' y' := by
 obtain ⟨⟨c0, c1⟩, f0, f1⟩ := h
 refine ⟨⟨?_, ?_⟩, by simpa [World.frozen?_setCell] using f0, by simpa [World.frozen?_setCell] using f1⟩
 ·rw [World.cell?_setCell_other _ _ _ _ (by simp)]
  exact World.cell?_setCell_same _ _ _ c0
 ·exact World.cell?_setCell_same _ _ _ ((World.cell?_setCell_other _ _ _ _ (by simp)).trans c1)
theorem B2.new (u : World) (T : TypeId) (x y : Value) : B2 (u.alloc (Obj.cells #[x, y] T)) u.heap.size x y := by
 refine ⟨⟨?_, ?_⟩, ?_, ?_⟩ <;> go_cell
end

end Go.Proofs.YteaaikmejacpaaaGreatDoor.Te

namespace Go.Proofs.YteaaikmejacpaaaGreatDoor.Te
open Go.ChangeShapes Go.WideShapes Go.ChangeAt Go.RowKit
open Fx Va Sh
set_option maxRecDepth 8000
set_option linter.unusedVariables false
set_option linter.unusedSimpArgs false

/-- A row of numbers whose block lies between two bounds; what it holds is not said. -/
def AnyI (u : World) (lo hi : Nat) (v : Value) (n : Nat) : Prop := (∃ zs : List Int, u.ownsRow lo 3 1 v n (zs.map (Value.int .i64)) /\ zs.length = n) /\ ∀ k, v.ownBlock = some k -> k < hi
/-- The same for a row of elements. -/
def AnyV (u : World) (lo hi : Nat) (v : Value) (n : Nat) : Prop := (∃ vs : List (Int × Int), u.ownsRow lo 29 2 v n (flV vs) /\ vs.length = n) /\ ∀ k, v.ownBlock = some k -> k < hi
theorem AnyI.below {u u' : World} {lo hi n : Nat} {v : Value} (h : AnyI u lo hi v n) (hb : Below u.heap.size u u') : AnyI u' lo hi v n := by
 obtain ⟨⟨zs, o, l⟩, hk⟩ := h
 exact ⟨⟨zs, own_belowE o hb, l⟩, hk⟩
theorem AnyV.below {u u' : World} {lo hi n : Nat} {v : Value} (h : AnyV u lo hi v n) (hb : Below u.heap.size u u') : AnyV u' lo hi v n := by
 obtain ⟨⟨zs, o, l⟩, hk⟩ := h
 exact ⟨⟨zs, own_belowE o hb, l⟩, hk⟩
/-- A store elsewhere leaves it. -/
theorem AnyI.far {u : World} {lo hi n g o : Nat} {v y : Value} (h : AnyI u lo hi v n) (hg : g < lo \/ hi <= g) : AnyI (u.setCell ⟨g, o, none⟩ y) lo hi v n := by
 obtain ⟨⟨zs, ow, l⟩, hk⟩ := h
 refine ⟨⟨zs, ?_, l⟩, hk⟩
 rcases hg with hg | hg
 ·exact own_set ow hg
 ·exact own_setP ow hk hg
theorem AnyV.far {u : World} {lo hi n g o : Nat} {v y : Value} (h : AnyV u lo hi v n) (hg : g < lo \/ hi <= g) : AnyV (u.setCell ⟨g, o, none⟩ y) lo hi v n := by
 obtain ⟨⟨zs, ow, l⟩, hk⟩ := h
 refine ⟨⟨zs, ?_, l⟩, hk⟩
 rcases hg with hg | hg
 ·exact own_set ow hg
 ·exact own_setP ow hk hg
/-- A store into the row itself. -/
theorem AnyI.put {u : World} {lo hi n c g j : Nat} {y : Int} (h : AnyI u lo hi (.slice (some ⟨g, 0, none⟩) n c) n) : AnyI (u.setCell ⟨g, j, none⟩ (.int .i64 y)) lo hi (.slice (some ⟨g, 0, none⟩) n c) n := by
 obtain ⟨⟨zs, ow, l⟩, hk⟩ := h
 refine ⟨⟨zs.set j y, ?_, by rw [List.length_set]; exact l⟩, hk⟩
 rw [List.map_set]
 exact (ow.stored j _).1
/-- What lies at a place of it. -/
theorem AnyI.at {u : World} {lo hi n c g j : Nat} (h : AnyI u lo hi (.slice (some ⟨g, 0, none⟩) n c) n) (hj : j < n) : (∃ z : Int, u.cell? ⟨g, j, none⟩ = some (.int .i64 z)) /\ u.frozen? ⟨g, j, none⟩ = false := by
 obtain ⟨⟨zs, ow, l⟩, hk⟩ := h
 refine ⟨⟨zs.getD j 0, ?_⟩, ow.frozenAt j⟩
 rw [ow.cellAt j (by omega), List.getElem?_map, List.getElem?_eq_getElem (by omega), getD_at (by omega)]
 rfl
theorem AnyV.at {u : World} {lo hi n c g j : Nat} (h : AnyV u lo hi (.slice (some ⟨g, 0, none⟩) n c) n) (hj : j < n) : (∃ z : Int, u.cell? ⟨g, j * 2, none⟩ = some (.int .i64 z)) /\ u.frozen? ⟨g, j * 2, none⟩ = false := by
 obtain ⟨⟨vs, ow, l⟩, hk⟩ := h
 obtain ⟨v0, -⟩ := flV_get vs j (by omega)
 exact ⟨⟨_, (ow.cellAt (j * 2) (by omega)).trans v0⟩, ow.frozenAt (j * 2)⟩
theorem flV_set0 : ∀ (vs : List (Int × Int)) (j : Nat) (y : Int), j < vs.length -> (flV vs).set (j * 2) (.int .i64 y) = flV (vs.set j (y, (vs.getD j (0, 0)).2))
 | [], j, y, h => absurd h (by simp)
 | v :: r, 0, y, _ => rfl
 | v :: r, j + 1, y, h => by
  have e : flV (v :: r) = .int .i64 v.1 :: .int .i64 v.2 :: flV r := rfl
  rw [e, show (j + 1) * 2 = j * 2 + 2 by omega, List.set_cons_succ, List.set_cons_succ, flV_set0 r j y (by simpa using h)]
  rfl
theorem AnyV.put {u : World} {lo hi n c g j : Nat} {y : Int} (h : AnyV u lo hi (.slice (some ⟨g, 0, none⟩) n c) n) (hj : j < n) : AnyV (u.setCell ⟨g, j * 2, none⟩ (.int .i64 y)) lo hi (.slice (some ⟨g, 0, none⟩) n c) n := by
 obtain ⟨⟨vs, ow, l⟩, hk⟩ := h
 refine ⟨⟨vs.set j (y, (vs.getD j (0, 0)).2), ?_, by rw [List.length_set]; exact l⟩, hk⟩
 rw [<- flV_set0 vs j y (by omega)]
 exact (ow.stored (j * 2) _).1
end Go.Proofs.YteaaikmejacpaaaGreatDoor.Te

namespace Go.Proofs.YteaaikmejacpaaaGreatDoor.Te
open Go.ChangeShapes Go.WideShapes Go.ChangeAt Go.RowKit
open Fx Va Sh
set_option maxRecDepth 8000
set_option linter.unusedVariables false
set_option linter.unusedSimpArgs false

/-- A row of numbers of the call's own; what it holds is not said. -/
def RI (u : World) (v : Value) (n : Nat) : Prop := ∃ (lo : Nat) (zs : List Int), zs.length = n /\ u.ownsRow lo 3 1 v n (zs.map (Value.int .i64))
/-- The same for a row of elements. -/
def RV (u : World) (v : Value) (n : Nat) : Prop := ∃ (lo : Nat) (vs : List (Int × Int)), vs.length = n /\ u.ownsRow lo 29 2 v n (flV vs)
theorem own_setN {u : World} {base : Nat} {E : TypeId} {sz n : Nat} {v : Value} {xs : List Value} (h : u.ownsRow base E sz v n xs) {g o : Nat} {y : Value} (hg : v.ownBlock ≠ some g) : (u.setCell ⟨g, o, none⟩ y).ownsRow base E sz v n xs := h.kept grown_set (.inr hg)
theorem RI.far {u : World} {v : Value} {n g o : Nat} {y : Value} (h : RI u v n) (hg : v.ownBlock ≠ some g) : RI (u.setCell ⟨g, o, none⟩ y) v n := by
 obtain ⟨lo, zs, l, ow⟩ := h
 exact ⟨lo, zs, l, own_setN ow hg⟩
theorem RV.far {u : World} {v : Value} {n g o : Nat} {y : Value} (h : RV u v n) (hg : v.ownBlock ≠ some g) : RV (u.setCell ⟨g, o, none⟩ y) v n := by
 obtain ⟨lo, zs, l, ow⟩ := h
 exact ⟨lo, zs, l, own_setN ow hg⟩
theorem RI.put {u : World} {n c g j : Nat} {y : Int} (h : RI u (.slice (some ⟨g, 0, none⟩) n c) n) : RI (u.setCell ⟨g, j, none⟩ (.int .i64 y)) (.slice (some ⟨g, 0, none⟩) n c) n := by
 obtain ⟨lo, zs, l, ow⟩ := h
 refine ⟨lo, zs.set j y, by rw [List.length_set]; exact l, ?_⟩
 rw [List.map_set]
 exact (ow.stored j _).1
theorem RV.put {u : World} {n c g j : Nat} {y : Int} (hj : j < n) (h : RV u (.slice (some ⟨g, 0, none⟩) n c) n) : RV (u.setCell ⟨g, j * 2, none⟩ (.int .i64 y)) (.slice (some ⟨g, 0, none⟩) n c) n := by
 obtain ⟨lo, vs, l, ow⟩ := h
 refine ⟨lo, vs.set j (y, (vs.getD j (0, 0)).2), by rw [List.length_set]; exact l, ?_⟩
 rw [<- flV_set0 vs j y (by omega)]
 exact (ow.stored (j * 2) _).1
theorem RI.at {u : World} {n c j : Nat} {p : Option Addr} (h : RI u (.slice p n c) n) (hj : j < n) : ∃ g, p = some ⟨g, 0, none⟩ /\ g < u.heap.size /\ (∃ z : Int, u.cell? ⟨g, j, none⟩ = some (.int .i64 z)) /\ u.frozen? ⟨g, j, none⟩ = false := by
 obtain ⟨lo, zs, l, ow⟩ := h
 rcases ow.2 with ⟨h0, hn⟩ | ⟨g, cap, cur, h0, -⟩
 ·omega
 ·cases h0
  refine ⟨g, rfl, (ow.lt g rfl).2, ⟨zs.getD j 0, ?_⟩, ow.frozenAt j⟩
  rw [ow.cellAt j (by omega), List.getElem?_map, List.getElem?_eq_getElem (by omega), getD_at (by omega)]
  rfl
theorem RV.at {u : World} {n c j : Nat} {p : Option Addr} (h : RV u (.slice p n c) n) (hj : j < n) : ∃ g, p = some ⟨g, 0, none⟩ /\ g < u.heap.size /\ (∃ z : Int, u.cell? ⟨g, j * 2, none⟩ = some (.int .i64 z)) /\ u.frozen? ⟨g, j * 2, none⟩ = false := by
 obtain ⟨lo, vs, l, ow⟩ := h
 rcases ow.2 with ⟨h0, hn⟩ | ⟨g, cap, cur, h0, -⟩
 ·omega
 ·cases h0
  obtain ⟨v0, -⟩ := flV_get vs j (by omega)
  exact ⟨g, rfl, (ow.lt g rfl).2, ⟨_, (ow.cellAt (j * 2) (by omega)).trans v0⟩, ow.frozenAt (j * 2)⟩

/-- A block apart from all that must stay. -/
def SP (w : World) (gt ga gb gc : Nat) (others : List Value) (v : Value) : Prop := ∀ g, v.ownBlock = some g -> w.heap.size <= g /\ g ≠ gt /\ g ≠ ga /\ g ≠ gb /\ g ≠ gc /\ ∀ r ∈ others, r.ownBlock ≠ some g

end Go.Proofs.YteaaikmejacpaaaGreatDoor.Te

namespace Go.Proofs.YteaaikmejacpaaaGreatDoor.Te
open Go.ChangeShapes Go.WideShapes Go.ChangeAt Go.RowKit
open Fx Va Sh
set_option maxRecDepth 8000
set_option linter.unusedVariables false
set_option linter.unusedSimpArgs false

/-- A tensor as an answer, whatever it is: two rows of the call's own. -/
def TAny (w : World) (e : Ending) (w' : World) : Prop := ∃ (k0 k1 k2 k3 k4 : Int) (p : Option Addr) (c : Nat) (q : Option Addr) (d n m : Nat) (er : Int) (zs : List Int) (vs : List (Int × Int)), e = .returned (.tuple #[.agg #[.int .i64 k0, .int .i64 k1, .int .i64 k2, .int .i64 k3, .int .i64 k4, .slice p n c, .slice q m d], .int .i64 er]) /\ (zs.length = n /\ vs.length = m /\ n <= 500 /\ m <= 500) /\ w'.ownsRow w.heap.size 3 1 (.slice p n c) n (zs.map (Value.int .i64)) /\ w'.ownsRow w.heap.size 29 2 (.slice q m d) m (flV vs) /\ Below w.heap.size w w'
theorem TRes.any {K B F R O : Int} {zs : List Int} {vs : List (Int × Int)} {er : Int} {w w' : World} {e : Ending} (h : TRes K B F R O zs vs er w e w') (hn : zs.length <= 500) (hm : vs.length <= 500) : TAny w e w' := by
 obtain ⟨p, c, q, d, rfl, h1, h2, hb⟩ := h
 exact ⟨K, B, F, R, O, p, c, q, d, _, _, er, zs, vs, rfl, ⟨rfl, rfl, hn, hm⟩, h1, h2, hb⟩
/-- The tensor as it was given, in rows of the call's own. -/
def TSame (K B F R O : Int) (n m : Nat) (zs : List Int) (vs : List (Int × Int)) (w : World) (e : Ending) (w' : World) : Prop := ∃ p c q d, e = .returned (.tuple #[.agg #[.int .i64 K, .int .i64 B, .int .i64 F, .int .i64 R, .int .i64 O, .slice p n c, .slice q m d], .int .i64 0]) /\ w'.ownsRow w.heap.size 3 1 (.slice p n c) n (zs.map (Value.int .i64)) /\ w'.ownsRow w.heap.size 29 2 (.slice q m d) m (flV vs) /\ Below w.heap.size w w'
theorem TRes.same {K B F R O : Int} {n m : Nat} {zs : List Int} {vs : List (Int × Int)} {w w' : World} {e : Ending} (h : TRes K B F R O zs vs 0 w e w') (hn : zs.length = n) (hm : vs.length = m) : TSame K B F R O n m zs vs w e w' := by
 subst hn hm
 exact h
theorem own_set7N {u : World} {base : Nat} {E : TypeId} {sz n r : Nat} {v : Value} {xs : List Value} {x0 x1 x2 x3 x4 x5 x6 : Value} (h : u.ownsRow base E sz v n xs) (hr : v.ownBlock ≠ some r) : (((((((u.setCell ⟨r, 0, none⟩ x0).setCell ⟨r, 1, none⟩ x1).setCell ⟨r, 2, none⟩ x2).setCell ⟨r, 3, none⟩ x3).setCell ⟨r, 4, none⟩ x4).setCell ⟨r, 5, none⟩ x5).setCell ⟨r, 6, none⟩ x6).ownsRow base E sz v n xs :=
 own_setN (own_setN (own_setN (own_setN (own_setN (own_setN (own_setN h hr) hr) hr) hr) hr) hr) hr
theorem own_lo {u : World} {B : Nat} {E : TypeId} {sz n : Nat} {v : Value} {xs : List Value} (h : u.ownsRow B E sz v n xs) : ∀ k, v.ownBlock = some k -> B <= k /\ k < u.heap.size := fun k e => h.lt k e
theorem blk_ne {v : Value} {A Z g : Nat} (h : ∀ k, v.ownBlock = some k -> A <= k /\ k < Z) (hg : g < A \/ Z <= g) : v.ownBlock ≠ some g := fun e => by have := h g e; omega

end Go.Proofs.YteaaikmejacpaaaGreatDoor.Te

namespace Go.Proofs.YteaaikmejacpaaaGreatDoor.Te
open Go.ChangeShapes Go.WideShapes Go.ChangeAt Go.RowKit
open Fx Va Sh
set_option maxRecDepth 8000
set_option linter.unusedVariables false
set_option linter.unusedSimpArgs false

/-- A tensor, with the slices that hold it. -/
structure Tr where
 K : Int
 B : Int
 F : Int
 R : Int
 O : Int
 p : Option Addr
 zs : List Int
 c : Nat
 q : Option Addr
 vs : List (Int × Int)
 d : Nat

/-- Seven cells that hold a tensor. -/
def C7 (w : World) (b o : Nat) (t : Tr) : Prop := w.cell? ⟨b, o, none⟩ = some (.int .i64 t.K) /\ w.cell? ⟨b, o + 1, none⟩ = some (.int .i64 t.B) /\ w.cell? ⟨b, o + 2, none⟩ = some (.int .i64 t.F) /\ w.cell? ⟨b, o + 3, none⟩ = some (.int .i64 t.R) /\ w.cell? ⟨b, o + 4, none⟩ = some (.int .i64 t.O) /\ w.cell? ⟨b, o + 5, none⟩ = some (.slice t.p t.zs.length t.c) /\ w.cell? ⟨b, o + 6, none⟩ = some (.slice t.q t.vs.length t.d)
theorem C7.keep {w w' : World} {b o : Nat} {t : Tr} (hb : Below w.heap.size w w') (h : C7 w b o t) : C7 w' b o t := by
 obtain ⟨h0, h1, h2, h3, h4, h5, h6⟩ := h
 have l := World.block_lt_of_cell? _ _ h0
 exact ⟨Rg.keep hb l h0, Rg.keep hb l h1, Rg.keep hb l h2, Rg.keep hb l h3, Rg.keep hb l h4, Rg.keep hb l h5, Rg.keep hb l h6⟩
/-- A slice that reads as a list of tensors. -/
def SlX (w : World) (p : Option Addr) (L : List Tr) : Prop := ∀ i t, L[i]? = some t -> (∃ b o, p = some ⟨b, o, none⟩ /\ C7 w b (o + i * 7) t) /\ SlI w t.p t.zs /\ SlV w t.q t.vs
theorem SlX.keep {w w' : World} {p : Option Addr} {L : List Tr} (hb : Below w.heap.size w w') (h : SlX w p L) : SlX w' p L := fun i t e => by
 obtain ⟨⟨b, o, hp, hc⟩, hi, hv⟩ := h i t e
 exact ⟨⟨b, o, hp, hc.keep hb⟩, hi.keep hb, hv.below hb⟩

end Go.Proofs.YteaaikmejacpaaaGreatDoor.Te

namespace Go.Proofs.YteaaikmejacpaaaGreatDoor.Te
open Go.ChangeShapes Go.WideShapes Go.ChangeAt Go.RowKit
open Fx Va Sh
set_option maxRecDepth 8000
set_option linter.unusedVariables false
set_option linter.unusedSimpArgs false

theorem cell_ex {x : Option Value} {l : List Value} {k : Nat} (h : x = l[k]?) (hk : k < l.length) : ∃ z, x = some z := ⟨l[k], by rw [h, List.getElem?_eq_getElem hk]⟩

theorem own_some {u : World} {B n c : Nat} {E : TypeId} {sz : Nat} {p : Option Addr} {xs : List Value} (h : u.ownsRow B E sz (.slice p n c) n xs) (hn : 0 < n) : ∃ g, p = some ⟨g, 0, none⟩ /\ B <= g /\ g < u.heap.size /\ n <= c /\ c <= maxLen := by
 rcases h.2 with ⟨h0, h1⟩ | ⟨g, cap, cur, h0, h1, h2, h3, h4, -⟩
 ·omega
 ·cases h0
  exact ⟨g, rfl, h1, (h.lt g rfl).2, h3, h4⟩

end Go.Proofs.YteaaikmejacpaaaGreatDoor.Te

namespace Go.Proofs.YteaaikmejacpaaaGreatDoor.Te
open Go.ChangeShapes Go.WideShapes Go.ChangeAt Go.RowKit
open Fr Fx Va Sh
set_option maxRecDepth 8000
set_option linter.unusedVariables false
set_option linter.unusedSimpArgs false

/-- All blocks below a bound but one are as they were. -/
structure BelowX (x B : Nat) (u v : World) : Prop where
 os : v.os = u.os
 tape : v.tape = u.tape
 output : v.output = u.output
 size : u.heap.size <= v.heap.size
 block : ∀ k, k < B -> k ≠ x -> v.heap[k]? = u.heap[k]?
theorem BelowX.refl (x B : Nat) (u : World) : BelowX x B u u := ⟨rfl, rfl, rfl, Nat.le_refl _, fun _ _ _ => rfl⟩
theorem BelowX.trans {x B : Nat} {a b c : World} (h : BelowX x B a b) (k : BelowX x B b c) : BelowX x B a c :=
 ⟨k.os.trans h.os, k.tape.trans h.tape, k.output.trans h.output, Nat.le_trans h.size k.size, fun i hi hx => (k.block i hi hx).trans (h.block i hi hx)⟩
theorem bx_of {x B : Nat} {a b : World} (h : Below B a b) : BelowX x B a b := ⟨h.os, h.tape, h.output, h.size, fun i hi _ => h.block i hi⟩
theorem BelowX.mono {x B B' : Nat} {a b : World} (h : BelowX x B a b) (hb : B' <= B) : BelowX x B' a b := ⟨h.os, h.tape, h.output, h.size, fun i hi hx => h.block i (by omega) hx⟩
theorem BelowX.low {x B L : Nat} {a b : World} (h : BelowX x B a b) (hx : L <= x) (hb : L <= B) : Below L a b := ⟨h.os, h.tape, h.output, h.size, fun i hi => h.block i (by omega) (by omega)⟩
theorem BelowX.set {x B : Nat} {a b : World} (h : BelowX x B a b) (o : Nat) (y : Value) : BelowX x B a (b.setCell ⟨x, o, none⟩ y) :=
 h.trans ⟨rfl, rfl, rfl, by simp [World.setCell], fun k _ hk => Below.heap_setCell _ _ _ _ hk⟩
theorem BelowX.cell {x B : Nat} {a b : World} (h : BelowX x B a b) {g o : Nat} (hg : g < B) (hx : g ≠ x) {v : Value} (hc : a.cell? ⟨g, o, none⟩ = some v) : b.cell? ⟨g, o, none⟩ = some v := (World.cell?_of_block (w := a) (a := ⟨g, o, none⟩) (h.block g hg hx)).trans hc
theorem BelowX.froz {x B : Nat} {a b : World} (h : BelowX x B a b) {g o : Nat} (hg : g < B) (hx : g ≠ x) {v : Bool} (hc : a.frozen? ⟨g, o, none⟩ = v) : b.frozen? ⟨g, o, none⟩ = v := (World.frozen?_of_block (w := a) (a := ⟨g, o, none⟩) (h.block g hg hx)).trans hc
theorem B7.keepX {x B b : Nat} {u u' : World} {x0 x1 x2 x3 x4 x5 x6 : Value} (hb : BelowX x B u u') (hlt : b < B) (hx : b ≠ x) (h : B7 u b x0 x1 x2 x3 x4 x5 x6) : B7 u' b x0 x1 x2 x3 x4 x5 x6 := h.same (fun o => World.cell?_of_block (w := u) (a := ⟨b, o, none⟩) (hb.block b hlt hx)) (fun o => World.frozen?_of_block (w := u) (a := ⟨b, o, none⟩) (hb.block b hlt hx))
theorem own_belowX {x : Nat} {w w' : World} {B : Nat} {e : TypeId} {size : Nat} {v : Value} {n : Nat} {xs : List Value} (h : w.ownsRow B e size v n xs) (hb : BelowX x w.heap.size w w') (hx : v.ownBlock ≠ some x) : w'.ownsRow B e size v n xs := by
 obtain ⟨hl, h0 | ⟨g, cap, cur, hv, hb', hh, r⟩⟩ := h
 ·exact ⟨hl, .inl h0⟩
 ·have hg : g < w.heap.size := by
   rcases Nat.lt_or_ge g w.heap.size with h1 | h1
   ·exact h1
   ·rw [Array.getElem?_eq_none (by simpa using h1)] at hh; cases hh
  exact ⟨hl, .inr ⟨g, cap, cur, hv, hb', (hb.block g hg (fun e => hx (by rw [hv, <- e]; rfl))).trans hh, r⟩⟩
/-- What the function of the statement answers. -/
def zap (op K B F R O : Int) (bad : Bool) (x0 x1 y0 y1 : Int) : Int × Int × Int := if bad = true then (1, 0, 0) else apv op K B F R O x0 x1 y0 y1

set_option maxRecDepth 100000 in
set_option maxHeartbeats 2000000 in
theorem ap31 (op K B F R O : Int) (bad : Bool) (x0 x1 y0 y1 : Int) (w : World) :
  Calls Tryz.prog 31 #[T5 K B F R O, .int .i64 op, .bool bad, V2 x0 x1, V2 y0 y1] w (Fr.Ret (F3 (zap op K B F R O bad x0 x1 y0 y1)) w) := by
 have AP0 := fun u => r_ap op K B F R O x0 x1 y0 y1 u
 obtain ⟨⟨a1, a2, a3⟩, har⟩ : ∃ r, apv op K B F R O x0 x1 y0 y1 = r := ⟨_, rfl⟩
 unfold zap
 rw [har] at AP0 ⊢
 have AP := Lib.hid AP0
 clear AP0 har
 have KB : Hid (Below w.heap.size w ((((w.alloc (Obj.cells #[Value.int .i64 K, Value.int .i64 B, Value.int .i64 F, Value.int .i64 R, Value.int .i64 O] 23)).alloc (Obj.cells #[Value.int .i64 x0, Value.int .i64 x1] 29)).alloc (Obj.cells #[Value.int .i64 y0, Value.int .i64 y1] 29)).alloc (Obj.cells #[Value.int .i64 0, Value.int .i64 0] 29))) := Lib.hid (((((Below.refl _ _).alloc (Nat.le_refl _) _).alloc (by simp) _).alloc (by simp; omega) _).alloc (by simp; omega) _)
 cases bad
 ·rw [if_neg (by decide)]
  have Z9 := B2.new (((w.alloc (Obj.cells #[Value.int .i64 K, Value.int .i64 B, Value.int .i64 F, Value.int .i64 R, Value.int .i64 O] 23)).alloc (Obj.cells #[Value.int .i64 x0, Value.int .i64 x1] 29)).alloc (Obj.cells #[Value.int .i64 y0, Value.int .i64 y1] 29)) 29 (.int .i64 0) (.int .i64 0)
  have ez : (((w.alloc (Obj.cells #[Value.int .i64 K, Value.int .i64 B, Value.int .i64 F, Value.int .i64 R, Value.int .i64 O] 23)).alloc (Obj.cells #[Value.int .i64 x0, Value.int .i64 x1] 29)).alloc (Obj.cells #[Value.int .i64 y0, Value.int .i64 y1] 29)).heap.size = w.heap.size + 1 + 1 + 1 := by simp
  rw [ez] at Z9
  obtain ⟨⟨z0, z1⟩, f0, f1⟩ := Z9
  clear ez
  go_enter Tryz.func31, Tryz.ntmps31
  go_wp2_with (go_at_call 61; (with_reducible refine (AP.out _).mono ?_); rintro e w2 ⟨rfl, hb⟩; have K2 := KB.out.trans (hb.mono KB.out.size); replace f0 := Rg.keepF hb (World.block_lt_of_cell? _ _ z0) f0; replace f1 := Rg.keepF hb (World.block_lt_of_cell? _ _ z1) f1; replace z0 := Rg.keep hb (World.block_lt_of_cell? _ _ z0) z0; replace z1 := Rg.keep hb (World.block_lt_of_cell? _ _ z1) z1; have lr := World.block_lt_of_cell? _ _ z0; clear hb KB)
  have KS := (K2.setCell (p := ⟨w.heap.size + 1 + 1 + 1, 0, none⟩) (by dsimp only; omega) (.int .i64 a1)).setCell (p := ⟨w.heap.size + 1 + 1 + 1, 1, none⟩) (by dsimp only; omega) (.int .i64 a2)
  refine bodyPost_ret (v := F3 (a1, a2, a3)) (by simp [results, Tryz.results31, go_sem, z0, f0, z1, f1, lr, Frac3]) rfl ⟨rfl, KS⟩
 ·rw [if_pos rfl]
  go_enter Tryz.func31, Tryz.ntmps31
  go_wp2_with fail
  have KS := KB.out
  refine bodyPost_ret (v := F3 (1, 0, 0)) (by simp [results, Tryz.results31, go_sem, Frac3]) rfl ⟨rfl, ?_⟩
  exact ((((Below.refl w.heap.size w).alloc (Nat.le_refl _) _).alloc (by simp) _).alloc (by simp; omega) _).alloc (by simp; omega) _
end Go.Proofs.YteaaikmejacpaaaGreatDoor.Te

namespace Go.Proofs.YteaaikmejacpaaaGreatDoor.Te
open Go.ChangeShapes Go.WideShapes Go.ChangeAt Go.RowKit
open Fr Fx Va Sh
set_option maxRecDepth 8000
set_option linter.unusedVariables false
set_option linter.unusedSimpArgs false

set_option maxRecDepth 100000 in
set_option maxHeartbeats 2000000 in
theorem zclo (op stop K B F R O x0 x1 y0 y1 : Int) (k : Nat) (cb ga go gs : Nat) (u : World) (bad : Bool) (hbad : ((k : Int) == stop) = bad) (hk : k < 1000000) (cc : u.cell? ⟨cb, 0, none⟩ = some (.int .i64 k)) (cf : u.frozen? ⟨cb, 0, none⟩ = false) (t0 : u.cell? ⟨ga, 0, none⟩ = some (.int .i64 K)) (t1 : u.cell? ⟨ga, 1, none⟩ = some (.int .i64 B)) (t2 : u.cell? ⟨ga, 2, none⟩ = some (.int .i64 F)) (t3 : u.cell? ⟨ga, 3, none⟩ = some (.int .i64 R)) (t4 : u.cell? ⟨ga, 4, none⟩ = some (.int .i64 O)) (t5 : u.cell? ⟨go, 0, none⟩ = some (.int .i64 op)) (t6 : u.cell? ⟨gs, 0, none⟩ = some (.int .i64 stop)) (n1 : cb ≠ ga) (n2 : cb ≠ go) (n3 : cb ≠ gs) :
  Calls Tryz.prog 30 #[V2 x0 x1, V2 y0 y1, .pointer (some ⟨cb, 0, none⟩), .pointer (some ⟨ga, 0, none⟩), .pointer (some ⟨go, 0, none⟩), .pointer (some ⟨gs, 0, none⟩)] u fun e u' => e = .returned (F3 (zap op K B F R O bad x0 x1 y0 y1)) /\ BelowX cb u.heap.size u u' /\ u'.cell? ⟨cb, 0, none⟩ = some (.int .i64 ((k : Int) + 1)) /\ u'.frozen? ⟨cb, 0, none⟩ = false := by
 have AP0 := fun w => ap31 op K B F R O bad x0 x1 y0 y1 w
 obtain ⟨⟨a1, a2, a3⟩, har⟩ : ∃ r, zap op K B F R O bad x0 x1 y0 y1 = r := ⟨_, rfl⟩
 rw [har] at AP0 ⊢
 have AP := Lib.hid AP0
 clear AP0 har
 have l0 : cb < u.heap.size := World.block_lt_of_cell? _ _ cc
 have l1 : ga < u.heap.size := World.block_lt_of_cell? _ _ t0
 have l2 : go < u.heap.size := World.block_lt_of_cell? _ _ t5
 have l3 : gs < u.heap.size := World.block_lt_of_cell? _ _ t6
 have hk0 : (0 : Int) <= k := by omega
 have hk1 : (k : Int) < 1000000 := by omega
 have HB := Lib.hid hbad
 clear hbad
 go_enter Tryz.func30, Tryz.ntmps30
 go_upto_region 1 with fail
 have Z9 := B2.new ((u.alloc (Obj.cells #[Value.int .i64 x0, Value.int .i64 x1] 29)).alloc (Obj.cells #[Value.int .i64 y0, Value.int .i64 y1] 29)) 29 (.int .i64 0) (.int .i64 0)
 have ez : ((u.alloc (Obj.cells #[Value.int .i64 x0, Value.int .i64 x1] 29)).alloc (Obj.cells #[Value.int .i64 y0, Value.int .i64 y1] 29)).heap.size = u.heap.size + 1 + 1 := by simp
 rw [ez] at Z9
 have WB : Below u.heap.size u (((u.alloc (Obj.cells #[Value.int .i64 x0, Value.int .i64 x1] 29)).alloc (Obj.cells #[Value.int .i64 y0, Value.int .i64 y1] 29)).alloc (Obj.cells #[Value.int .i64 0, Value.int .i64 0] 29)) := (((Below.refl _ _).alloc (Nat.le_refl _) _).alloc (by simp) _).alloc (by simp; omega) _
 have cc1 := Rg.keep WB l0 cc
 have cf1 := Rg.keepF WB l0 cf
 have T0 := Rg.keep WB l1 t0
 have T1 := Rg.keep WB l1 t1
 have T2 := Rg.keep WB l1 t2
 have T3 := Rg.keep WB l1 t3
 have T4 := Rg.keep WB l1 t4
 have T5' := Rg.keep WB l2 t5
 have T6 := Rg.keep WB l3 t6
 have hsz : u.heap.size <= (((u.alloc (Obj.cells #[Value.int .i64 x0, Value.int .i64 x1] 29)).alloc (Obj.cells #[Value.int .i64 y0, Value.int .i64 y1] 29)).alloc (Obj.cells #[Value.int .i64 0, Value.int .i64 0] 29)).heap.size := WB.size
 have x0' : (((u.alloc (Obj.cells #[Value.int .i64 x0, Value.int .i64 x1] 29)).alloc (Obj.cells #[Value.int .i64 y0, Value.int .i64 y1] 29)).alloc (Obj.cells #[Value.int .i64 0, Value.int .i64 0] 29)).cell? ⟨u.heap.size, 0, none⟩ = some (.int .i64 x0) := by go_cell
 have x1' : (((u.alloc (Obj.cells #[Value.int .i64 x0, Value.int .i64 x1] 29)).alloc (Obj.cells #[Value.int .i64 y0, Value.int .i64 y1] 29)).alloc (Obj.cells #[Value.int .i64 0, Value.int .i64 0] 29)).cell? ⟨u.heap.size, 1, none⟩ = some (.int .i64 x1) := by go_cell
 have y0' : (((u.alloc (Obj.cells #[Value.int .i64 x0, Value.int .i64 x1] 29)).alloc (Obj.cells #[Value.int .i64 y0, Value.int .i64 y1] 29)).alloc (Obj.cells #[Value.int .i64 0, Value.int .i64 0] 29)).cell? ⟨u.heap.size + 1, 0, none⟩ = some (.int .i64 y0) := by go_cell
 have y1' : (((u.alloc (Obj.cells #[Value.int .i64 x0, Value.int .i64 x1] 29)).alloc (Obj.cells #[Value.int .i64 y0, Value.int .i64 y1] 29)).alloc (Obj.cells #[Value.int .i64 0, Value.int .i64 0] 29)).cell? ⟨u.heap.size + 1, 1, none⟩ = some (.int .i64 y1) := by go_cell
 clear ez t0 t1 t2 t3 t4 t5 t6 cc cf
 generalize (((u.alloc (Obj.cells #[Value.int .i64 x0, Value.int .i64 x1] 29)).alloc (Obj.cells #[Value.int .i64 y0, Value.int .i64 y1] 29)).alloc (Obj.cells #[Value.int .i64 0, Value.int .i64 0] 29)) = v at *
 go_upto_region 2 with fail
 have KX : Hid (BelowX cb u.heap.size u (v.setCell ⟨cb, 0, none⟩ (.int .i64 ((k : Int) + 1)))) := Lib.hid ((bx_of WB).set 0 _)
 have cc2 : (v.setCell ⟨cb, 0, none⟩ (.int .i64 ((k : Int) + 1))).cell? ⟨cb, 0, none⟩ = some (.int .i64 ((k : Int) + 1)) := World.cell?_setCell_same _ _ _ cc1
 have cf2 : (v.setCell ⟨cb, 0, none⟩ (.int .i64 ((k : Int) + 1))).frozen? ⟨cb, 0, none⟩ = false := by simpa [World.frozen?_setCell] using cf1
 replace T0 := (World.cell?_setCell_far v ⟨cb, 0, none⟩ ⟨ga, 0, none⟩ (.int .i64 ((k : Int) + 1)) n1).trans T0
 replace T1 := (World.cell?_setCell_far v ⟨cb, 0, none⟩ ⟨ga, 1, none⟩ (.int .i64 ((k : Int) + 1)) n1).trans T1
 replace T2 := (World.cell?_setCell_far v ⟨cb, 0, none⟩ ⟨ga, 2, none⟩ (.int .i64 ((k : Int) + 1)) n1).trans T2
 replace T3 := (World.cell?_setCell_far v ⟨cb, 0, none⟩ ⟨ga, 3, none⟩ (.int .i64 ((k : Int) + 1)) n1).trans T3
 replace T4 := (World.cell?_setCell_far v ⟨cb, 0, none⟩ ⟨ga, 4, none⟩ (.int .i64 ((k : Int) + 1)) n1).trans T4
 replace T5' := (World.cell?_setCell_far v ⟨cb, 0, none⟩ ⟨go, 0, none⟩ (.int .i64 ((k : Int) + 1)) n2).trans T5'
 replace T6 := (World.cell?_setCell_far v ⟨cb, 0, none⟩ ⟨gs, 0, none⟩ (.int .i64 ((k : Int) + 1)) n3).trans T6
 replace x0' := (World.cell?_setCell_far v ⟨cb, 0, none⟩ ⟨u.heap.size, 0, none⟩ (.int .i64 ((k : Int) + 1)) (by dsimp only; omega)).trans x0'
 replace x1' := (World.cell?_setCell_far v ⟨cb, 0, none⟩ ⟨u.heap.size, 1, none⟩ (.int .i64 ((k : Int) + 1)) (by dsimp only; omega)).trans x1'
 replace y0' := (World.cell?_setCell_far v ⟨cb, 0, none⟩ ⟨u.heap.size + 1, 0, none⟩ (.int .i64 ((k : Int) + 1)) (by dsimp only; omega)).trans y0'
 replace y1' := (World.cell?_setCell_far v ⟨cb, 0, none⟩ ⟨u.heap.size + 1, 1, none⟩ (.int .i64 ((k : Int) + 1)) (by dsimp only; omega)).trans y1'
 replace Z9 := B2.far (o := 0) (v := .int .i64 ((k : Int) + 1)) (by omega : cb ≠ u.heap.size + 1 + 1) Z9
 have hszv : u.heap.size <= (v.setCell ⟨cb, 0, none⟩ (.int .i64 ((k : Int) + 1))).heap.size := KX.out.size
 have hcl : cb < (v.setCell ⟨cb, 0, none⟩ (.int .i64 ((k : Int) + 1))).heap.size := World.block_lt_of_cell? _ _ cc2
 clear cc1 cf1 WB hsz
 generalize (v.setCell ⟨cb, 0, none⟩ (.int .i64 ((k : Int) + 1))) = v2 at *
 obtain ⟨⟨z0, z1⟩, f0, f1⟩ := Z9
 have hbad := HB.out
 go_wp2_with (go_at_call 31; (with_reducible refine (AP.out _).mono ?_); rintro e w2 ⟨rfl, hb⟩; have K2 := KX.out.trans ((bx_of hb).mono hszv); have cc3 := Rg.keep hb hcl cc2; have cf3 := Rg.keepF hb hcl cf2; replace f0 := Rg.keepF hb (World.block_lt_of_cell? _ _ z0) f0; replace f1 := Rg.keepF hb (World.block_lt_of_cell? _ _ z1) f1; replace z0 := Rg.keep hb (World.block_lt_of_cell? _ _ z0) z0; replace z1 := Rg.keep hb (World.block_lt_of_cell? _ _ z1) z1; have lr := World.block_lt_of_cell? _ _ z0; clear hb KX cc2 cf2)
 have hlu : cb ≠ u.heap.size + 1 + 1 := by omega
 refine bodyPost_ret (v := F3 (a1, a2, a3)) (by simp [results, Tryz.results30, go_sem, z0, f0, z1, f1, lr, Frac3]) rfl ⟨rfl, ?_, ?_, ?_⟩
 ·exact K2.trans ⟨rfl, rfl, rfl, by simp [World.setCell], fun i hi hx => by rw [Below.heap_setCell _ _ _ _ (by dsimp only; omega), Below.heap_setCell _ _ _ _ (by dsimp only; omega)]⟩
 ·rw [World.cell?_setCell_far _ _ _ _ (by dsimp only; omega), World.cell?_setCell_far _ _ _ _ (by dsimp only; omega)]; exact cc3
 ·simpa [World.frozen?_setCell] using cf3
end Go.Proofs.YteaaikmejacpaaaGreatDoor.Te

namespace Go.Proofs.YteaaikmejacpaaaGreatDoor.Te
open Go.ChangeShapes Go.WideShapes Go.ChangeAt Go.RowKit
open Fx Va Sh
set_option maxRecDepth 8000
set_option linter.unusedVariables false
set_option linter.unusedSimpArgs false

/-- Two types are equal. -/
def tyEq (K B F R O K' B' F' R' O' : Int) : Bool := K == K' && (B == B' && (F == F' && (R == R' && O == O')))
theorem tyEq_same (K B F R O : Int) : tyEq K B F R O K B F R O = true := by unfold tyEq; simp
theorem tyEq_no {K B F R O K' B' F' R' O' : Int} (h : ¬ (K = K' /\ B = B' /\ F = F' /\ R = R' /\ O = O')) : tyEq K B F R O K' B' F' R' O' = false := by
 cases e : tyEq K B F R O K' B' F' R' O'
 ·rfl
 ·exact absurd (by unfold tyEq at e; simpa using e) h

end Go.Proofs.YteaaikmejacpaaaGreatDoor.Te

namespace Go.Proofs.YteaaikmejacpaaaGreatDoor.Te
open Go.ChangeShapes Go.WideShapes Go.ChangeAt Go.RowKit
open Fr Fx Va Sh
set_option maxRecDepth 8000
set_option linter.unusedVariables false
set_option linter.unusedSimpArgs false

/-- What the function answers at the number of a pair. -/
def zg (op stop K B F R O : Int) (vs us : List (Int × Int)) (i : Nat) : Int × Int × Int := zap op K B F R O ((i : Int) == stop) (vs.getD i (0, 0)).1 (vs.getD i (0, 0)).2 (us.getD i (0, 0)).1 (us.getD i (0, 0)).2
/-- The error at a pair. -/
def zr (op stop K B F R O : Int) (vs us : List (Int × Int)) (i : Nat) : Int := if (zg op stop K B F R O vs us i).2.2 ≠ 0 then (zg op stop K B F R O vs us i).2.2 else if vv K B F R O (zg op stop K B F R O vs us i).1 (zg op stop K B F R O vs us i).2.1 = true then 0 else 1
/-- The element at a pair. -/
def zv (op stop K B F R O : Int) (vs us : List (Int × Int)) (i : Nat) : Int × Int := ((zg op stop K B F R O vs us i).1, (zg op stop K B F R O vs us i).2.1)
/-- How often the function is called. -/
def zn (f : Nat -> Int) : Nat -> Nat -> Nat
 | 0, i => i
 | n + 1, i => if f i ≠ 0 then i + 1 else zn f n (i + 1)
/-- The elements of the answer. -/
def zl (op stop K B F R O : Int) (vs us : List (Int × Int)) (n : Nat) : List (Int × Int) := (List.range n).map (zv op stop K B F R O vs us)
theorem zl_len (op stop K B F R O : Int) (vs us : List (Int × Int)) (n : Nat) : (zl op stop K B F R O vs us n).length = n := by unfold zl; simp
theorem zl_succ (op stop K B F R O : Int) (vs us : List (Int × Int)) (n : Nat) : zl op stop K B F R O vs us (n + 1) = zl op stop K B F R O vs us n ++ [zv op stop K B F R O vs us n] := by
 unfold zl
 rw [List.range_succ, List.map_append]
 rfl
theorem zl_of {op stop K B F R O : Int} {vs us rl : List (Int × Int)} {n : Nat} (hl : rl.length = n) (h : ∀ i, i < n -> rl.getD i (0, 0) = zv op stop K B F R O vs us i) : rl = zl op stop K B F R O vs us n := by
 apply List.ext_getElem (by rw [hl, zl_len])
 intro i h1 h2
 have e := h i (by omega)
 have e2 : (zl op stop K B F R O vs us n).getD i (0, 0) = zv op stop K B F R O vs us i := by
  unfold zl
  rw [List.getD_eq_getElem?_getD, List.getElem?_map, List.getElem?_range (by omega)]
  rfl
 have g1 : rl.getD i (0, 0) = rl[i] := by rw [List.getD_eq_getElem?_getD, List.getElem?_eq_getElem h1]; rfl
 have g2 : (zl op stop K B F R O vs us n).getD i (0, 0) = (zl op stop K B F R O vs us n)[i] := by rw [List.getD_eq_getElem?_getD, List.getElem?_eq_getElem h2]; rfl
 rw [<- g1, <- g2, e, e2]
/-- The error of a pair of tensors. -/
def pE (K B F R O : Int) (zs : List Int) (vs : List (Int × Int)) (K' B' F' R' O' : Int) (zs' : List Int) (us : List (Int × Int)) : Int := if tE K B F R O zs vs ≠ 0 then tE K B F R O zs vs else if tE K' B' F' R' O' zs' us ≠ 0 then tE K' B' F' R' O' zs' us else if tyEq K B F R O K' B' F' R' O' = false then 10 else if zs ≠ zs' then 15 else 0
theorem pE_zero {K B F R O : Int} {zs : List Int} {vs : List (Int × Int)} {K' B' F' R' O' : Int} {zs' : List Int} {us : List (Int × Int)} (h : pE K B F R O zs vs K' B' F' R' O' zs' us = 0) : tE K B F R O zs vs = 0 /\ tE K' B' F' R' O' zs' us = 0 /\ (K = K' /\ B = B' /\ F = F' /\ R = R' /\ O = O') /\ zs = zs' := by
 unfold pE at h
 by_cases h1 : tE K B F R O zs vs ≠ 0
 ·rw [if_pos h1] at h; exact absurd h h1
 rw [if_neg h1] at h
 by_cases h2 : tE K' B' F' R' O' zs' us ≠ 0
 ·rw [if_pos h2] at h; exact absurd h h2
 rw [if_neg h2] at h
 by_cases h3 : tyEq K B F R O K' B' F' R' O' = false
 ·rw [if_pos h3] at h; exact absurd h (by decide)
 rw [if_neg h3] at h
 by_cases h4 : zs ≠ zs'
 ·rw [if_pos h4] at h; exact absurd h (by decide)
 exact ⟨Classical.not_not.1 h1, Classical.not_not.1 h2, Classical.byContradiction fun hn => h3 (tyEq_no hn), Classical.not_not.1 h4⟩

set_option maxRecDepth 100000 in
set_option maxHeartbeats 2000000 in
theorem zp_a (K B F R O : Int) (p : Option Addr) (zs : List Int) (c : Nat) (q : Option Addr) (vs : List (Int × Int)) (d : Nat) (K' B' F' R' O' : Int) (p' : Option Addr) (zs' : List Int) (c' : Nat) (q' : Option Addr) (us : List (Int × Int)) (d' : Nat) (cb ga go gs : Nat) (w : World) (b0 : -9223372036854775808 <= B) (b1 : B <= 9223372036854775807) (b0' : -9223372036854775808 <= B') (b1' : B' <= 9223372036854775807) (hn : zs.length <= maxLen) (hm : vs.length <= maxLen) (hn' : zs'.length <= maxLen) (hm' : us.length <= maxLen) (RA : Hid (SlI w p zs)) (RB : Hid (SlV w q vs)) (RA' : Hid (SlI w p' zs')) (RB' : Hid (SlV w q' us)) (ht : tE K B F R O zs vs ≠ 0) :
  Calls Tryz.prog 29 #[Tn K B F R O p zs.length c q vs.length d, Tn K' B' F' R' O' p' zs'.length c' q' us.length d', .func (.func 30) #[] #[.pointer (some ⟨cb, 0, none⟩), .pointer (some ⟨ga, 0, none⟩), .pointer (some ⟨go, 0, none⟩), .pointer (some ⟨gs, 0, none⟩)]] w (TRes 0 0 0 0 0 [] [] (tE K B F R O zs vs) w) := by
 have TV0 := fun w h1 h2 => tval K B F R O p zs c q vs d w b0 b1 hn hm h1 h2
 obtain ⟨E, hE⟩ : ∃ E, tE K B F R O zs vs = E := ⟨_, rfl⟩
 rw [hE] at TV0 ht ⊢
 have g1 : (E == 0) = false := by simpa using ht
 have g2 : (E != 0) = true := by simpa using ht
 obtain ⟨m, hmm⟩ : ∃ m, vs.length = m := ⟨_, rfl⟩
 obtain ⟨n, hnn⟩ : ∃ n, zs.length = n := ⟨_, rfl⟩
 obtain ⟨m', hmm'⟩ : ∃ m, us.length = m := ⟨_, rfl⟩
 obtain ⟨n', hnn'⟩ : ∃ n, zs'.length = n := ⟨_, rfl⟩
 rw [hmm, hnn] at TV0 ⊢; rw [hmm', hnn']
 have KB : Hid (Below w.heap.size w (((w.alloc (Obj.cells #[Value.int .i64 K, Value.int .i64 B, Value.int .i64 F, Value.int .i64 R, Value.int .i64 O, Value.slice p n c, Value.slice q m d] 27)).alloc (Obj.cells #[Value.int .i64 K', Value.int .i64 B', Value.int .i64 F', Value.int .i64 R', Value.int .i64 O', Value.slice p' n' c', Value.slice q' m' d'] 27)).alloc (Obj.cells #[Value.int .i64 0, Value.int .i64 0, Value.int .i64 0, Value.int .i64 0, Value.int .i64 0, Value.slice none 0 0, Value.slice none 0 0] 27))) := Lib.hid ((((Below.refl _ _).alloc (Nat.le_refl _) _).alloc (by simp) _).alloc (by simp; omega) _)
 have TB : Hid (B7 (((w.alloc (Obj.cells #[Value.int .i64 K, Value.int .i64 B, Value.int .i64 F, Value.int .i64 R, Value.int .i64 O, Value.slice p n c, Value.slice q m d] 27)).alloc (Obj.cells #[Value.int .i64 K', Value.int .i64 B', Value.int .i64 F', Value.int .i64 R', Value.int .i64 O', Value.slice p' n' c', Value.slice q' m' d'] 27)).alloc (Obj.cells #[Value.int .i64 0, Value.int .i64 0, Value.int .i64 0, Value.int .i64 0, Value.int .i64 0, Value.slice none 0 0, Value.slice none 0 0] 27)) (w.heap.size) (.int .i64 K) (.int .i64 B) (.int .i64 F) (.int .i64 R) (.int .i64 O) (.slice p n c) (.slice q m d)) := Lib.hid (((B7.new w _ (.int .i64 K) (.int .i64 B) (.int .i64 F) (.int .i64 R) (.int .i64 O) (.slice p n c) (.slice q m d)).alloc _).alloc _)
 have UB : Hid (B7 (((w.alloc (Obj.cells #[Value.int .i64 K, Value.int .i64 B, Value.int .i64 F, Value.int .i64 R, Value.int .i64 O, Value.slice p n c, Value.slice q m d] 27)).alloc (Obj.cells #[Value.int .i64 K', Value.int .i64 B', Value.int .i64 F', Value.int .i64 R', Value.int .i64 O', Value.slice p' n' c', Value.slice q' m' d'] 27)).alloc (Obj.cells #[Value.int .i64 0, Value.int .i64 0, Value.int .i64 0, Value.int .i64 0, Value.int .i64 0, Value.slice none 0 0, Value.slice none 0 0] 27)) (w.heap.size + 1) (.int .i64 K') (.int .i64 B') (.int .i64 F') (.int .i64 R') (.int .i64 O') (.slice p' n' c') (.slice q' m' d')) := Lib.hid (by
  have h := B7.new (w.alloc (Obj.cells #[Value.int .i64 K, Value.int .i64 B, Value.int .i64 F, Value.int .i64 R, Value.int .i64 O, Value.slice p n c, Value.slice q m d] 27)) 27 (.int .i64 K') (.int .i64 B') (.int .i64 F') (.int .i64 R') (.int .i64 O') (.slice p' n' c') (.slice q' m' d')
  have e : (w.alloc (Obj.cells #[Value.int .i64 K, Value.int .i64 B, Value.int .i64 F, Value.int .i64 R, Value.int .i64 O, Value.slice p n c, Value.slice q m d] 27)).heap.size = w.heap.size + 1 := by simp
  rw [e] at h
  exact h.alloc _)
 have ZB : Hid (B7 (((w.alloc (Obj.cells #[Value.int .i64 K, Value.int .i64 B, Value.int .i64 F, Value.int .i64 R, Value.int .i64 O, Value.slice p n c, Value.slice q m d] 27)).alloc (Obj.cells #[Value.int .i64 K', Value.int .i64 B', Value.int .i64 F', Value.int .i64 R', Value.int .i64 O', Value.slice p' n' c', Value.slice q' m' d'] 27)).alloc (Obj.cells #[Value.int .i64 0, Value.int .i64 0, Value.int .i64 0, Value.int .i64 0, Value.int .i64 0, Value.slice none 0 0, Value.slice none 0 0] 27)) (w.heap.size + 1 + 1) (.int .i64 0) (.int .i64 0) (.int .i64 0) (.int .i64 0) (.int .i64 0) (.slice none 0 0) (.slice none 0 0)) := Lib.hid (by
  have h := B7.new ((w.alloc (Obj.cells #[Value.int .i64 K, Value.int .i64 B, Value.int .i64 F, Value.int .i64 R, Value.int .i64 O, Value.slice p n c, Value.slice q m d] 27)).alloc (Obj.cells #[Value.int .i64 K', Value.int .i64 B', Value.int .i64 F', Value.int .i64 R', Value.int .i64 O', Value.slice p' n' c', Value.slice q' m' d'] 27)) 27 (.int .i64 0) (.int .i64 0) (.int .i64 0) (.int .i64 0) (.int .i64 0) (.slice none 0 0) (.slice none 0 0)
  have e : ((w.alloc (Obj.cells #[Value.int .i64 K, Value.int .i64 B, Value.int .i64 F, Value.int .i64 R, Value.int .i64 O, Value.slice p n c, Value.slice q m d] 27)).alloc (Obj.cells #[Value.int .i64 K', Value.int .i64 B', Value.int .i64 F', Value.int .i64 R', Value.int .i64 O', Value.slice p' n' c', Value.slice q' m' d'] 27)).heap.size = w.heap.size + 1 + 1 := by simp
  rw [e] at h
  exact h)
 have TV := Lib.hid TV0
 clear hE ht TV0 hm hn hm' hn' hmm hnn hmm' hnn'
 have EN : (binOp .eql 50 (.func (.func 30) #[] #[.pointer (some ⟨cb, 0, none⟩), .pointer (some ⟨ga, 0, none⟩), .pointer (some ⟨go, 0, none⟩), .pointer (some ⟨gs, 0, none⟩)]) Value.nilFunc).run Tryz.prog (((w.alloc (Obj.cells #[Value.int .i64 K, Value.int .i64 B, Value.int .i64 F, Value.int .i64 R, Value.int .i64 O, Value.slice p n c, Value.slice q m d] 27)).alloc (Obj.cells #[Value.int .i64 K', Value.int .i64 B', Value.int .i64 F', Value.int .i64 R', Value.int .i64 O', Value.slice p' n' c', Value.slice q' m' d'] 27)).alloc (Obj.cells #[Value.int .i64 0, Value.int .i64 0, Value.int .i64 0, Value.int .i64 0, Value.int .i64 0, Value.slice none 0 0, Value.slice none 0 0] 27)) = .ok (.bool false) (((w.alloc (Obj.cells #[Value.int .i64 K, Value.int .i64 B, Value.int .i64 F, Value.int .i64 R, Value.int .i64 O, Value.slice p n c, Value.slice q m d] 27)).alloc (Obj.cells #[Value.int .i64 K', Value.int .i64 B', Value.int .i64 F', Value.int .i64 R', Value.int .i64 O', Value.slice p' n' c', Value.slice q' m' d'] 27)).alloc (Obj.cells #[Value.int .i64 0, Value.int .i64 0, Value.int .i64 0, Value.int .i64 0, Value.int .i64 0, Value.slice none 0 0, Value.slice none 0 0] 27)) := by kernel_rfl
 unfold Tn at *
 go_enter Tryz.func29, Tryz.ntmps29
 go_wp2_with (go_at_call 20; (with_reducible refine (TV.out _ (Lib.hid (SlI.keep KB.out RA.out)) (Lib.hid (SlV.below RB.out KB.out))).mono ?_); rintro e w1 ⟨rfl, hb⟩; have KN := Lib.hid (KB.out.trans (hb.mono KB.out.size)); have T1 := Lib.hid (B7.keep hb TB.out.lt TB.out); have T2 := Lib.hid (B7.keep hb UB.out.lt UB.out); have T3 := Lib.hid (B7.keep hb ZB.out.lt ZB.out); have KB := KN; have TB := T1; have UB := T2; have ZB := T3; clear KN T1 T2 T3 hb; obtain ⟨⟨c0, c1, c2, c3, c4, c5, c6⟩, -⟩ := TB.out; obtain ⟨⟨e0, e1, e2, e3, e4, e5, e6⟩, -⟩ := UB.out; obtain ⟨⟨z0, z1, z2, z3, z4, z5, z6⟩, ⟨f0, f1, f2, f3, f4, f5, f6⟩⟩ := ZB.out; have lr : w.heap.size + 1 + 1 < w1.heap.size := ZB.out.lt)
 have SBB := (((((((KB.out).setCell (p := ⟨w.heap.size + 1 + 1, 0, none⟩) (by dsimp only; omega) (.int .i64 0)).setCell (p := ⟨w.heap.size + 1 + 1, 1, none⟩) (by dsimp only; omega) (.int .i64 0)).setCell (p := ⟨w.heap.size + 1 + 1, 2, none⟩) (by dsimp only; omega) (.int .i64 0)).setCell (p := ⟨w.heap.size + 1 + 1, 3, none⟩) (by dsimp only; omega) (.int .i64 0)).setCell (p := ⟨w.heap.size + 1 + 1, 4, none⟩) (by dsimp only; omega) (.int .i64 0)).setCell (p := ⟨w.heap.size + 1 + 1, 5, none⟩) (by dsimp only; omega) (.slice none 0 0)).setCell (p := ⟨w.heap.size + 1 + 1, 6, none⟩) (by dsimp only; omega) (.slice none 0 0)
 refine bodyPost_ret (v := .tuple #[.agg #[.int .i64 0, .int .i64 0, .int .i64 0, .int .i64 0, .int .i64 0, .slice none 0 0, .slice none 0 0], .int .i64 E]) (by simp [results, Tryz.results29, go_sem, z0, f0, z1, f1, z2, f2, z3, f3, z4, f4, z5, f5, z6, f6, lr]) rfl (TRes.no SBB)

set_option maxRecDepth 100000 in
set_option maxHeartbeats 2000000 in
theorem zp_b (K B F R O : Int) (p : Option Addr) (zs : List Int) (c : Nat) (q : Option Addr) (vs : List (Int × Int)) (d : Nat) (K' B' F' R' O' : Int) (p' : Option Addr) (zs' : List Int) (c' : Nat) (q' : Option Addr) (us : List (Int × Int)) (d' : Nat) (cb ga go gs : Nat) (w : World) (b0 : -9223372036854775808 <= B) (b1 : B <= 9223372036854775807) (b0' : -9223372036854775808 <= B') (b1' : B' <= 9223372036854775807) (hn : zs.length <= maxLen) (hm : vs.length <= maxLen) (hn' : zs'.length <= maxLen) (hm' : us.length <= maxLen) (RA : Hid (SlI w p zs)) (RB : Hid (SlV w q vs)) (RA' : Hid (SlI w p' zs')) (RB' : Hid (SlV w q' us)) (ht : tE K B F R O zs vs = 0) (hu : tE K' B' F' R' O' zs' us ≠ 0) :
  Calls Tryz.prog 29 #[Tn K B F R O p zs.length c q vs.length d, Tn K' B' F' R' O' p' zs'.length c' q' us.length d', .func (.func 30) #[] #[.pointer (some ⟨cb, 0, none⟩), .pointer (some ⟨ga, 0, none⟩), .pointer (some ⟨go, 0, none⟩), .pointer (some ⟨gs, 0, none⟩)]] w (TRes 0 0 0 0 0 [] [] (tE K' B' F' R' O' zs' us) w) := by
 have TV0 := fun w h1 h2 => tval K B F R O p zs c q vs d w b0 b1 hn hm h1 h2
 have UV0 := fun w h1 h2 => tval K' B' F' R' O' p' zs' c' q' us d' w b0' b1' hn' hm' h1 h2
 obtain ⟨E, hE⟩ : ∃ E, tE K' B' F' R' O' zs' us = E := ⟨_, rfl⟩
 rw [hE] at UV0 hu ⊢
 rw [ht] at TV0
 have g1 : (E == 0) = false := by simpa using hu
 have g2 : (E != 0) = true := by simpa using hu
 obtain ⟨m, hmm⟩ : ∃ m, vs.length = m := ⟨_, rfl⟩
 obtain ⟨n, hnn⟩ : ∃ n, zs.length = n := ⟨_, rfl⟩
 obtain ⟨m', hmm'⟩ : ∃ m, us.length = m := ⟨_, rfl⟩
 obtain ⟨n', hnn'⟩ : ∃ n, zs'.length = n := ⟨_, rfl⟩
 rw [hmm, hnn] at TV0 ⊢; rw [hmm', hnn'] at UV0 ⊢
 have KB : Hid (Below w.heap.size w (((w.alloc (Obj.cells #[Value.int .i64 K, Value.int .i64 B, Value.int .i64 F, Value.int .i64 R, Value.int .i64 O, Value.slice p n c, Value.slice q m d] 27)).alloc (Obj.cells #[Value.int .i64 K', Value.int .i64 B', Value.int .i64 F', Value.int .i64 R', Value.int .i64 O', Value.slice p' n' c', Value.slice q' m' d'] 27)).alloc (Obj.cells #[Value.int .i64 0, Value.int .i64 0, Value.int .i64 0, Value.int .i64 0, Value.int .i64 0, Value.slice none 0 0, Value.slice none 0 0] 27))) := Lib.hid ((((Below.refl _ _).alloc (Nat.le_refl _) _).alloc (by simp) _).alloc (by simp; omega) _)
 have TB : Hid (B7 (((w.alloc (Obj.cells #[Value.int .i64 K, Value.int .i64 B, Value.int .i64 F, Value.int .i64 R, Value.int .i64 O, Value.slice p n c, Value.slice q m d] 27)).alloc (Obj.cells #[Value.int .i64 K', Value.int .i64 B', Value.int .i64 F', Value.int .i64 R', Value.int .i64 O', Value.slice p' n' c', Value.slice q' m' d'] 27)).alloc (Obj.cells #[Value.int .i64 0, Value.int .i64 0, Value.int .i64 0, Value.int .i64 0, Value.int .i64 0, Value.slice none 0 0, Value.slice none 0 0] 27)) (w.heap.size) (.int .i64 K) (.int .i64 B) (.int .i64 F) (.int .i64 R) (.int .i64 O) (.slice p n c) (.slice q m d)) := Lib.hid (((B7.new w _ (.int .i64 K) (.int .i64 B) (.int .i64 F) (.int .i64 R) (.int .i64 O) (.slice p n c) (.slice q m d)).alloc _).alloc _)
 have UB : Hid (B7 (((w.alloc (Obj.cells #[Value.int .i64 K, Value.int .i64 B, Value.int .i64 F, Value.int .i64 R, Value.int .i64 O, Value.slice p n c, Value.slice q m d] 27)).alloc (Obj.cells #[Value.int .i64 K', Value.int .i64 B', Value.int .i64 F', Value.int .i64 R', Value.int .i64 O', Value.slice p' n' c', Value.slice q' m' d'] 27)).alloc (Obj.cells #[Value.int .i64 0, Value.int .i64 0, Value.int .i64 0, Value.int .i64 0, Value.int .i64 0, Value.slice none 0 0, Value.slice none 0 0] 27)) (w.heap.size + 1) (.int .i64 K') (.int .i64 B') (.int .i64 F') (.int .i64 R') (.int .i64 O') (.slice p' n' c') (.slice q' m' d')) := Lib.hid (by
  have h := B7.new (w.alloc (Obj.cells #[Value.int .i64 K, Value.int .i64 B, Value.int .i64 F, Value.int .i64 R, Value.int .i64 O, Value.slice p n c, Value.slice q m d] 27)) 27 (.int .i64 K') (.int .i64 B') (.int .i64 F') (.int .i64 R') (.int .i64 O') (.slice p' n' c') (.slice q' m' d')
  have e : (w.alloc (Obj.cells #[Value.int .i64 K, Value.int .i64 B, Value.int .i64 F, Value.int .i64 R, Value.int .i64 O, Value.slice p n c, Value.slice q m d] 27)).heap.size = w.heap.size + 1 := by simp
  rw [e] at h
  exact h.alloc _)
 have ZB : Hid (B7 (((w.alloc (Obj.cells #[Value.int .i64 K, Value.int .i64 B, Value.int .i64 F, Value.int .i64 R, Value.int .i64 O, Value.slice p n c, Value.slice q m d] 27)).alloc (Obj.cells #[Value.int .i64 K', Value.int .i64 B', Value.int .i64 F', Value.int .i64 R', Value.int .i64 O', Value.slice p' n' c', Value.slice q' m' d'] 27)).alloc (Obj.cells #[Value.int .i64 0, Value.int .i64 0, Value.int .i64 0, Value.int .i64 0, Value.int .i64 0, Value.slice none 0 0, Value.slice none 0 0] 27)) (w.heap.size + 1 + 1) (.int .i64 0) (.int .i64 0) (.int .i64 0) (.int .i64 0) (.int .i64 0) (.slice none 0 0) (.slice none 0 0)) := Lib.hid (by
  have h := B7.new ((w.alloc (Obj.cells #[Value.int .i64 K, Value.int .i64 B, Value.int .i64 F, Value.int .i64 R, Value.int .i64 O, Value.slice p n c, Value.slice q m d] 27)).alloc (Obj.cells #[Value.int .i64 K', Value.int .i64 B', Value.int .i64 F', Value.int .i64 R', Value.int .i64 O', Value.slice p' n' c', Value.slice q' m' d'] 27)) 27 (.int .i64 0) (.int .i64 0) (.int .i64 0) (.int .i64 0) (.int .i64 0) (.slice none 0 0) (.slice none 0 0)
  have e : ((w.alloc (Obj.cells #[Value.int .i64 K, Value.int .i64 B, Value.int .i64 F, Value.int .i64 R, Value.int .i64 O, Value.slice p n c, Value.slice q m d] 27)).alloc (Obj.cells #[Value.int .i64 K', Value.int .i64 B', Value.int .i64 F', Value.int .i64 R', Value.int .i64 O', Value.slice p' n' c', Value.slice q' m' d'] 27)).heap.size = w.heap.size + 1 + 1 := by simp
  rw [e] at h
  exact h)
 have TV := Lib.hid TV0
 have UV := Lib.hid UV0
 clear hE ht hu TV0 UV0 hm hn hm' hn' hmm hnn hmm' hnn'
 have EN : (binOp .eql 50 (.func (.func 30) #[] #[.pointer (some ⟨cb, 0, none⟩), .pointer (some ⟨ga, 0, none⟩), .pointer (some ⟨go, 0, none⟩), .pointer (some ⟨gs, 0, none⟩)]) Value.nilFunc).run Tryz.prog (((w.alloc (Obj.cells #[Value.int .i64 K, Value.int .i64 B, Value.int .i64 F, Value.int .i64 R, Value.int .i64 O, Value.slice p n c, Value.slice q m d] 27)).alloc (Obj.cells #[Value.int .i64 K', Value.int .i64 B', Value.int .i64 F', Value.int .i64 R', Value.int .i64 O', Value.slice p' n' c', Value.slice q' m' d'] 27)).alloc (Obj.cells #[Value.int .i64 0, Value.int .i64 0, Value.int .i64 0, Value.int .i64 0, Value.int .i64 0, Value.slice none 0 0, Value.slice none 0 0] 27)) = .ok (.bool false) (((w.alloc (Obj.cells #[Value.int .i64 K, Value.int .i64 B, Value.int .i64 F, Value.int .i64 R, Value.int .i64 O, Value.slice p n c, Value.slice q m d] 27)).alloc (Obj.cells #[Value.int .i64 K', Value.int .i64 B', Value.int .i64 F', Value.int .i64 R', Value.int .i64 O', Value.slice p' n' c', Value.slice q' m' d'] 27)).alloc (Obj.cells #[Value.int .i64 0, Value.int .i64 0, Value.int .i64 0, Value.int .i64 0, Value.int .i64 0, Value.slice none 0 0, Value.slice none 0 0] 27)) := by kernel_rfl
 unfold Tn at *
 go_enter Tryz.func29, Tryz.ntmps29
 go_wp2_with (first | (go_at_call 20; (with_reducible refine (TV.out _ (Lib.hid (SlI.keep KB.out RA.out)) (Lib.hid (SlV.below RB.out KB.out))).mono ?_); rintro e w1 ⟨rfl, hb⟩; have KN := Lib.hid (KB.out.trans (hb.mono KB.out.size)); have T1 := Lib.hid (B7.keep hb TB.out.lt TB.out); have T2 := Lib.hid (B7.keep hb UB.out.lt UB.out); have T3 := Lib.hid (B7.keep hb ZB.out.lt ZB.out); have KB := KN; have TB := T1; have UB := T2; have ZB := T3; clear KN T1 T2 T3 hb; obtain ⟨⟨c0, c1, c2, c3, c4, c5, c6⟩, -⟩ := TB.out; obtain ⟨⟨e0, e1, e2, e3, e4, e5, e6⟩, -⟩ := UB.out; obtain ⟨⟨z0, z1, z2, z3, z4, z5, z6⟩, ⟨f0, f1, f2, f3, f4, f5, f6⟩⟩ := ZB.out; have lr : w.heap.size + 1 + 1 < w1.heap.size := ZB.out.lt) | (go_at_call 20; (with_reducible refine (UV.out _ (Lib.hid (SlI.keep KB.out RA'.out)) (Lib.hid (SlV.below RB'.out KB.out))).mono ?_); rintro e w2 ⟨rfl, hb⟩; have KN := Lib.hid (KB.out.trans (hb.mono KB.out.size)); have T1 := Lib.hid (B7.keep hb TB.out.lt TB.out); have T2 := Lib.hid (B7.keep hb UB.out.lt UB.out); have T3 := Lib.hid (B7.keep hb ZB.out.lt ZB.out); have KB := KN; have TB := T1; have UB := T2; have ZB := T3; clear KN T1 T2 T3 hb; obtain ⟨⟨c0, c1, c2, c3, c4, c5, c6⟩, -⟩ := TB.out; obtain ⟨⟨e0, e1, e2, e3, e4, e5, e6⟩, -⟩ := UB.out; obtain ⟨⟨z0, z1, z2, z3, z4, z5, z6⟩, ⟨f0, f1, f2, f3, f4, f5, f6⟩⟩ := ZB.out; have lr : w.heap.size + 1 + 1 < w2.heap.size := ZB.out.lt))
 have SBB := (((((((KB.out).setCell (p := ⟨w.heap.size + 1 + 1, 0, none⟩) (by dsimp only; omega) (.int .i64 0)).setCell (p := ⟨w.heap.size + 1 + 1, 1, none⟩) (by dsimp only; omega) (.int .i64 0)).setCell (p := ⟨w.heap.size + 1 + 1, 2, none⟩) (by dsimp only; omega) (.int .i64 0)).setCell (p := ⟨w.heap.size + 1 + 1, 3, none⟩) (by dsimp only; omega) (.int .i64 0)).setCell (p := ⟨w.heap.size + 1 + 1, 4, none⟩) (by dsimp only; omega) (.int .i64 0)).setCell (p := ⟨w.heap.size + 1 + 1, 5, none⟩) (by dsimp only; omega) (.slice none 0 0)).setCell (p := ⟨w.heap.size + 1 + 1, 6, none⟩) (by dsimp only; omega) (.slice none 0 0)
 refine bodyPost_ret (v := .tuple #[.agg #[.int .i64 0, .int .i64 0, .int .i64 0, .int .i64 0, .int .i64 0, .slice none 0 0, .slice none 0 0], .int .i64 E]) (by simp [results, Tryz.results29, go_sem, z0, f0, z1, f1, z2, f2, z3, f3, z4, f4, z5, f5, z6, f6, lr]) rfl (TRes.no SBB)

theorem ty_cases2 {K B F R O K' B' F' R' O' : Int} (h : ¬ (K = K' /\ B = B' /\ F = F' /\ R = R' /\ O = O')) : (K == K') = false \/ ((K == K') = true /\ ((B == B') = false \/ ((B == B') = true /\ ((F == F') = false \/ ((F == F') = true /\ ((R == R') = false \/ ((R == R') = true /\ (O == O') = false))))))) := by
 by_cases h0 : K = K' <;> by_cases h1 : B = B' <;> by_cases h2 : F = F' <;> by_cases h3 : R = R' <;> by_cases h4 : O = O' <;> simp_all

set_option maxRecDepth 100000 in
set_option maxHeartbeats 2000000 in
theorem zp_c (K B F R O : Int) (p : Option Addr) (zs : List Int) (c : Nat) (q : Option Addr) (vs : List (Int × Int)) (d : Nat) (K' B' F' R' O' : Int) (p' : Option Addr) (zs' : List Int) (c' : Nat) (q' : Option Addr) (us : List (Int × Int)) (d' : Nat) (cb ga go gs : Nat) (w : World) (b0 : -9223372036854775808 <= B) (b1 : B <= 9223372036854775807) (b0' : -9223372036854775808 <= B') (b1' : B' <= 9223372036854775807) (hn : zs.length <= maxLen) (hm : vs.length <= maxLen) (hn' : zs'.length <= maxLen) (hm' : us.length <= maxLen) (RA : Hid (SlI w p zs)) (RB : Hid (SlV w q vs)) (RA' : Hid (SlI w p' zs')) (RB' : Hid (SlV w q' us)) (ht : tE K B F R O zs vs = 0) (hu : tE K' B' F' R' O' zs' us = 0) (hT : ¬ (K = K' /\ B = B' /\ F = F' /\ R = R' /\ O = O')) :
  Calls Tryz.prog 29 #[Tn K B F R O p zs.length c q vs.length d, Tn K' B' F' R' O' p' zs'.length c' q' us.length d', .func (.func 30) #[] #[.pointer (some ⟨cb, 0, none⟩), .pointer (some ⟨ga, 0, none⟩), .pointer (some ⟨go, 0, none⟩), .pointer (some ⟨gs, 0, none⟩)]] w (TRes 0 0 0 0 0 [] [] (10) w) := by
 have TV0 := fun w h1 h2 => tval K B F R O p zs c q vs d w b0 b1 hn hm h1 h2
 have UV0 := fun w h1 h2 => tval K' B' F' R' O' p' zs' c' q' us d' w b0' b1' hn' hm' h1 h2
 rw [hu] at UV0
 rw [ht] at TV0
 clear ht hu
 rcases ty_cases2 hT with g | ⟨g0, g | ⟨g1, g | ⟨g2, g | ⟨g3, g⟩⟩⟩⟩
 all_goals
  obtain ⟨m, hmm⟩ : ∃ m, vs.length = m := ⟨_, rfl⟩
  obtain ⟨n, hnn⟩ : ∃ n, zs.length = n := ⟨_, rfl⟩
  obtain ⟨m', hmm'⟩ : ∃ m, us.length = m := ⟨_, rfl⟩
  obtain ⟨n', hnn'⟩ : ∃ n, zs'.length = n := ⟨_, rfl⟩
  rw [hmm, hnn] at TV0 ⊢; rw [hmm', hnn'] at UV0 ⊢
  have KB : Hid (Below w.heap.size w (((w.alloc (Obj.cells #[Value.int .i64 K, Value.int .i64 B, Value.int .i64 F, Value.int .i64 R, Value.int .i64 O, Value.slice p n c, Value.slice q m d] 27)).alloc (Obj.cells #[Value.int .i64 K', Value.int .i64 B', Value.int .i64 F', Value.int .i64 R', Value.int .i64 O', Value.slice p' n' c', Value.slice q' m' d'] 27)).alloc (Obj.cells #[Value.int .i64 0, Value.int .i64 0, Value.int .i64 0, Value.int .i64 0, Value.int .i64 0, Value.slice none 0 0, Value.slice none 0 0] 27))) := Lib.hid ((((Below.refl _ _).alloc (Nat.le_refl _) _).alloc (by simp) _).alloc (by simp; omega) _)
  have TB : Hid (B7 (((w.alloc (Obj.cells #[Value.int .i64 K, Value.int .i64 B, Value.int .i64 F, Value.int .i64 R, Value.int .i64 O, Value.slice p n c, Value.slice q m d] 27)).alloc (Obj.cells #[Value.int .i64 K', Value.int .i64 B', Value.int .i64 F', Value.int .i64 R', Value.int .i64 O', Value.slice p' n' c', Value.slice q' m' d'] 27)).alloc (Obj.cells #[Value.int .i64 0, Value.int .i64 0, Value.int .i64 0, Value.int .i64 0, Value.int .i64 0, Value.slice none 0 0, Value.slice none 0 0] 27)) (w.heap.size) (.int .i64 K) (.int .i64 B) (.int .i64 F) (.int .i64 R) (.int .i64 O) (.slice p n c) (.slice q m d)) := Lib.hid (((B7.new w _ (.int .i64 K) (.int .i64 B) (.int .i64 F) (.int .i64 R) (.int .i64 O) (.slice p n c) (.slice q m d)).alloc _).alloc _)
  have UB : Hid (B7 (((w.alloc (Obj.cells #[Value.int .i64 K, Value.int .i64 B, Value.int .i64 F, Value.int .i64 R, Value.int .i64 O, Value.slice p n c, Value.slice q m d] 27)).alloc (Obj.cells #[Value.int .i64 K', Value.int .i64 B', Value.int .i64 F', Value.int .i64 R', Value.int .i64 O', Value.slice p' n' c', Value.slice q' m' d'] 27)).alloc (Obj.cells #[Value.int .i64 0, Value.int .i64 0, Value.int .i64 0, Value.int .i64 0, Value.int .i64 0, Value.slice none 0 0, Value.slice none 0 0] 27)) (w.heap.size + 1) (.int .i64 K') (.int .i64 B') (.int .i64 F') (.int .i64 R') (.int .i64 O') (.slice p' n' c') (.slice q' m' d')) := Lib.hid (by
   have h := B7.new (w.alloc (Obj.cells #[Value.int .i64 K, Value.int .i64 B, Value.int .i64 F, Value.int .i64 R, Value.int .i64 O, Value.slice p n c, Value.slice q m d] 27)) 27 (.int .i64 K') (.int .i64 B') (.int .i64 F') (.int .i64 R') (.int .i64 O') (.slice p' n' c') (.slice q' m' d')
   have e : (w.alloc (Obj.cells #[Value.int .i64 K, Value.int .i64 B, Value.int .i64 F, Value.int .i64 R, Value.int .i64 O, Value.slice p n c, Value.slice q m d] 27)).heap.size = w.heap.size + 1 := by simp
   rw [e] at h
   exact h.alloc _)
  have ZB : Hid (B7 (((w.alloc (Obj.cells #[Value.int .i64 K, Value.int .i64 B, Value.int .i64 F, Value.int .i64 R, Value.int .i64 O, Value.slice p n c, Value.slice q m d] 27)).alloc (Obj.cells #[Value.int .i64 K', Value.int .i64 B', Value.int .i64 F', Value.int .i64 R', Value.int .i64 O', Value.slice p' n' c', Value.slice q' m' d'] 27)).alloc (Obj.cells #[Value.int .i64 0, Value.int .i64 0, Value.int .i64 0, Value.int .i64 0, Value.int .i64 0, Value.slice none 0 0, Value.slice none 0 0] 27)) (w.heap.size + 1 + 1) (.int .i64 0) (.int .i64 0) (.int .i64 0) (.int .i64 0) (.int .i64 0) (.slice none 0 0) (.slice none 0 0)) := Lib.hid (by
   have h := B7.new ((w.alloc (Obj.cells #[Value.int .i64 K, Value.int .i64 B, Value.int .i64 F, Value.int .i64 R, Value.int .i64 O, Value.slice p n c, Value.slice q m d] 27)).alloc (Obj.cells #[Value.int .i64 K', Value.int .i64 B', Value.int .i64 F', Value.int .i64 R', Value.int .i64 O', Value.slice p' n' c', Value.slice q' m' d'] 27)) 27 (.int .i64 0) (.int .i64 0) (.int .i64 0) (.int .i64 0) (.int .i64 0) (.slice none 0 0) (.slice none 0 0)
   have e : ((w.alloc (Obj.cells #[Value.int .i64 K, Value.int .i64 B, Value.int .i64 F, Value.int .i64 R, Value.int .i64 O, Value.slice p n c, Value.slice q m d] 27)).alloc (Obj.cells #[Value.int .i64 K', Value.int .i64 B', Value.int .i64 F', Value.int .i64 R', Value.int .i64 O', Value.slice p' n' c', Value.slice q' m' d'] 27)).heap.size = w.heap.size + 1 + 1 := by simp
   rw [e] at h
   exact h)
  have TV := Lib.hid TV0
  have UV := Lib.hid UV0
  clear TV0 UV0 hm hn hm' hn' hmm hnn hmm' hnn' hT
  have EN : (binOp .eql 50 (.func (.func 30) #[] #[.pointer (some ⟨cb, 0, none⟩), .pointer (some ⟨ga, 0, none⟩), .pointer (some ⟨go, 0, none⟩), .pointer (some ⟨gs, 0, none⟩)]) Value.nilFunc).run Tryz.prog (((w.alloc (Obj.cells #[Value.int .i64 K, Value.int .i64 B, Value.int .i64 F, Value.int .i64 R, Value.int .i64 O, Value.slice p n c, Value.slice q m d] 27)).alloc (Obj.cells #[Value.int .i64 K', Value.int .i64 B', Value.int .i64 F', Value.int .i64 R', Value.int .i64 O', Value.slice p' n' c', Value.slice q' m' d'] 27)).alloc (Obj.cells #[Value.int .i64 0, Value.int .i64 0, Value.int .i64 0, Value.int .i64 0, Value.int .i64 0, Value.slice none 0 0, Value.slice none 0 0] 27)) = .ok (.bool false) (((w.alloc (Obj.cells #[Value.int .i64 K, Value.int .i64 B, Value.int .i64 F, Value.int .i64 R, Value.int .i64 O, Value.slice p n c, Value.slice q m d] 27)).alloc (Obj.cells #[Value.int .i64 K', Value.int .i64 B', Value.int .i64 F', Value.int .i64 R', Value.int .i64 O', Value.slice p' n' c', Value.slice q' m' d'] 27)).alloc (Obj.cells #[Value.int .i64 0, Value.int .i64 0, Value.int .i64 0, Value.int .i64 0, Value.int .i64 0, Value.slice none 0 0, Value.slice none 0 0] 27)) := by kernel_rfl
  unfold Tn at *
  go_enter Tryz.func29, Tryz.ntmps29
  go_wp2_with (first | (go_at_call 20; (with_reducible refine (TV.out _ (Lib.hid (SlI.keep KB.out RA.out)) (Lib.hid (SlV.below RB.out KB.out))).mono ?_); rintro e w1 ⟨rfl, hb⟩; have KN := Lib.hid (KB.out.trans (hb.mono KB.out.size)); have T1 := Lib.hid (B7.keep hb TB.out.lt TB.out); have T2 := Lib.hid (B7.keep hb UB.out.lt UB.out); have T3 := Lib.hid (B7.keep hb ZB.out.lt ZB.out); have KB := KN; have TB := T1; have UB := T2; have ZB := T3; clear KN T1 T2 T3 hb; obtain ⟨⟨c0, c1, c2, c3, c4, c5, c6⟩, -⟩ := TB.out; obtain ⟨⟨e0, e1, e2, e3, e4, e5, e6⟩, -⟩ := UB.out; obtain ⟨⟨z0, z1, z2, z3, z4, z5, z6⟩, ⟨f0, f1, f2, f3, f4, f5, f6⟩⟩ := ZB.out; have lr : w.heap.size + 1 + 1 < w1.heap.size := ZB.out.lt) | (go_at_call 20; (with_reducible refine (UV.out _ (Lib.hid (SlI.keep KB.out RA'.out)) (Lib.hid (SlV.below RB'.out KB.out))).mono ?_); rintro e w2 ⟨rfl, hb⟩; have KN := Lib.hid (KB.out.trans (hb.mono KB.out.size)); have T1 := Lib.hid (B7.keep hb TB.out.lt TB.out); have T2 := Lib.hid (B7.keep hb UB.out.lt UB.out); have T3 := Lib.hid (B7.keep hb ZB.out.lt ZB.out); have KB := KN; have TB := T1; have UB := T2; have ZB := T3; clear KN T1 T2 T3 hb; obtain ⟨⟨c0, c1, c2, c3, c4, c5, c6⟩, -⟩ := TB.out; obtain ⟨⟨e0, e1, e2, e3, e4, e5, e6⟩, -⟩ := UB.out; obtain ⟨⟨z0, z1, z2, z3, z4, z5, z6⟩, ⟨f0, f1, f2, f3, f4, f5, f6⟩⟩ := ZB.out; have lr : w.heap.size + 1 + 1 < w2.heap.size := ZB.out.lt))
  have SBB := (((((((KB.out).setCell (p := ⟨w.heap.size + 1 + 1, 0, none⟩) (by dsimp only; omega) (.int .i64 0)).setCell (p := ⟨w.heap.size + 1 + 1, 1, none⟩) (by dsimp only; omega) (.int .i64 0)).setCell (p := ⟨w.heap.size + 1 + 1, 2, none⟩) (by dsimp only; omega) (.int .i64 0)).setCell (p := ⟨w.heap.size + 1 + 1, 3, none⟩) (by dsimp only; omega) (.int .i64 0)).setCell (p := ⟨w.heap.size + 1 + 1, 4, none⟩) (by dsimp only; omega) (.int .i64 0)).setCell (p := ⟨w.heap.size + 1 + 1, 5, none⟩) (by dsimp only; omega) (.slice none 0 0)).setCell (p := ⟨w.heap.size + 1 + 1, 6, none⟩) (by dsimp only; omega) (.slice none 0 0)
  refine bodyPost_ret (v := .tuple #[.agg #[.int .i64 0, .int .i64 0, .int .i64 0, .int .i64 0, .int .i64 0, .slice none 0 0, .slice none 0 0], .int .i64 10]) (by simp [results, Tryz.results29, go_sem, z0, f0, z1, f1, z2, f2, z3, f3, z4, f4, z5, f5, z6, f6, lr]) rfl (TRes.no SBB)

set_option maxRecDepth 100000 in
set_option maxHeartbeats 2000000 in
theorem zp_d (K B F R O : Int) (p : Option Addr) (zs : List Int) (c : Nat) (q : Option Addr) (vs : List (Int × Int)) (d : Nat) (K' B' F' R' O' : Int) (p' : Option Addr) (zs' : List Int) (c' : Nat) (q' : Option Addr) (us : List (Int × Int)) (d' : Nat) (cb ga go gs : Nat) (w : World) (b0 : -9223372036854775808 <= B) (b1 : B <= 9223372036854775807) (b0' : -9223372036854775808 <= B') (b1' : B' <= 9223372036854775807) (hn : zs.length <= maxLen) (hm : vs.length <= maxLen) (hn' : zs'.length <= maxLen) (hm' : us.length <= maxLen) (RA : Hid (SlI w p zs)) (RB : Hid (SlV w q vs)) (RA' : Hid (SlI w p' zs')) (RB' : Hid (SlV w q' us)) (ht : tE K B F R O zs vs = 0) (hu : tE K' B' F' R' O' zs' us = 0) (hT : K = K' /\ B = B' /\ F = F' /\ R = R' /\ O = O') (hz : zs ≠ zs') :
  Calls Tryz.prog 29 #[Tn K B F R O p zs.length c q vs.length d, Tn K' B' F' R' O' p' zs'.length c' q' us.length d', .func (.func 30) #[] #[.pointer (some ⟨cb, 0, none⟩), .pointer (some ⟨ga, 0, none⟩), .pointer (some ⟨go, 0, none⟩), .pointer (some ⟨gs, 0, none⟩)]] w (TRes 0 0 0 0 0 [] [] (15) w) := by
 have TV0 := fun w h1 h2 => tval K B F R O p zs c q vs d w b0 b1 hn hm h1 h2
 have UV0 := fun w h1 h2 => tval K' B' F' R' O' p' zs' c' q' us d' w b0' b1' hn' hm' h1 h2
 have SS0 := fun w h1 h2 => c31 p p' zs zs' c c' w hn hn' h1 h2
 rw [hu] at UV0
 rw [ht] at TV0
 rw [decide_eq_false hz] at SS0
 clear ht hu hz
 have g0 : (K == K') = true := by simpa using hT.1
 have g1 : (B == B') = true := by simpa using hT.2.1
 have g2 : (F == F') = true := by simpa using hT.2.2.1
 have g3 : (R == R') = true := by simpa using hT.2.2.2.1
 have g4 : (O == O') = true := by simpa using hT.2.2.2.2
 clear hT
 obtain ⟨m, hmm⟩ : ∃ m, vs.length = m := ⟨_, rfl⟩
 obtain ⟨n, hnn⟩ : ∃ n, zs.length = n := ⟨_, rfl⟩
 obtain ⟨m', hmm'⟩ : ∃ m, us.length = m := ⟨_, rfl⟩
 obtain ⟨n', hnn'⟩ : ∃ n, zs'.length = n := ⟨_, rfl⟩
 rw [hmm, hnn] at TV0 ⊢; rw [hnn, hnn'] at SS0; rw [hmm', hnn'] at UV0 ⊢
 have KB : Hid (Below w.heap.size w (((w.alloc (Obj.cells #[Value.int .i64 K, Value.int .i64 B, Value.int .i64 F, Value.int .i64 R, Value.int .i64 O, Value.slice p n c, Value.slice q m d] 27)).alloc (Obj.cells #[Value.int .i64 K', Value.int .i64 B', Value.int .i64 F', Value.int .i64 R', Value.int .i64 O', Value.slice p' n' c', Value.slice q' m' d'] 27)).alloc (Obj.cells #[Value.int .i64 0, Value.int .i64 0, Value.int .i64 0, Value.int .i64 0, Value.int .i64 0, Value.slice none 0 0, Value.slice none 0 0] 27))) := Lib.hid ((((Below.refl _ _).alloc (Nat.le_refl _) _).alloc (by simp) _).alloc (by simp; omega) _)
 have TB : Hid (B7 (((w.alloc (Obj.cells #[Value.int .i64 K, Value.int .i64 B, Value.int .i64 F, Value.int .i64 R, Value.int .i64 O, Value.slice p n c, Value.slice q m d] 27)).alloc (Obj.cells #[Value.int .i64 K', Value.int .i64 B', Value.int .i64 F', Value.int .i64 R', Value.int .i64 O', Value.slice p' n' c', Value.slice q' m' d'] 27)).alloc (Obj.cells #[Value.int .i64 0, Value.int .i64 0, Value.int .i64 0, Value.int .i64 0, Value.int .i64 0, Value.slice none 0 0, Value.slice none 0 0] 27)) (w.heap.size) (.int .i64 K) (.int .i64 B) (.int .i64 F) (.int .i64 R) (.int .i64 O) (.slice p n c) (.slice q m d)) := Lib.hid (((B7.new w _ (.int .i64 K) (.int .i64 B) (.int .i64 F) (.int .i64 R) (.int .i64 O) (.slice p n c) (.slice q m d)).alloc _).alloc _)
 have UB : Hid (B7 (((w.alloc (Obj.cells #[Value.int .i64 K, Value.int .i64 B, Value.int .i64 F, Value.int .i64 R, Value.int .i64 O, Value.slice p n c, Value.slice q m d] 27)).alloc (Obj.cells #[Value.int .i64 K', Value.int .i64 B', Value.int .i64 F', Value.int .i64 R', Value.int .i64 O', Value.slice p' n' c', Value.slice q' m' d'] 27)).alloc (Obj.cells #[Value.int .i64 0, Value.int .i64 0, Value.int .i64 0, Value.int .i64 0, Value.int .i64 0, Value.slice none 0 0, Value.slice none 0 0] 27)) (w.heap.size + 1) (.int .i64 K') (.int .i64 B') (.int .i64 F') (.int .i64 R') (.int .i64 O') (.slice p' n' c') (.slice q' m' d')) := Lib.hid (by
  have h := B7.new (w.alloc (Obj.cells #[Value.int .i64 K, Value.int .i64 B, Value.int .i64 F, Value.int .i64 R, Value.int .i64 O, Value.slice p n c, Value.slice q m d] 27)) 27 (.int .i64 K') (.int .i64 B') (.int .i64 F') (.int .i64 R') (.int .i64 O') (.slice p' n' c') (.slice q' m' d')
  have e : (w.alloc (Obj.cells #[Value.int .i64 K, Value.int .i64 B, Value.int .i64 F, Value.int .i64 R, Value.int .i64 O, Value.slice p n c, Value.slice q m d] 27)).heap.size = w.heap.size + 1 := by simp
  rw [e] at h
  exact h.alloc _)
 have ZB : Hid (B7 (((w.alloc (Obj.cells #[Value.int .i64 K, Value.int .i64 B, Value.int .i64 F, Value.int .i64 R, Value.int .i64 O, Value.slice p n c, Value.slice q m d] 27)).alloc (Obj.cells #[Value.int .i64 K', Value.int .i64 B', Value.int .i64 F', Value.int .i64 R', Value.int .i64 O', Value.slice p' n' c', Value.slice q' m' d'] 27)).alloc (Obj.cells #[Value.int .i64 0, Value.int .i64 0, Value.int .i64 0, Value.int .i64 0, Value.int .i64 0, Value.slice none 0 0, Value.slice none 0 0] 27)) (w.heap.size + 1 + 1) (.int .i64 0) (.int .i64 0) (.int .i64 0) (.int .i64 0) (.int .i64 0) (.slice none 0 0) (.slice none 0 0)) := Lib.hid (by
  have h := B7.new ((w.alloc (Obj.cells #[Value.int .i64 K, Value.int .i64 B, Value.int .i64 F, Value.int .i64 R, Value.int .i64 O, Value.slice p n c, Value.slice q m d] 27)).alloc (Obj.cells #[Value.int .i64 K', Value.int .i64 B', Value.int .i64 F', Value.int .i64 R', Value.int .i64 O', Value.slice p' n' c', Value.slice q' m' d'] 27)) 27 (.int .i64 0) (.int .i64 0) (.int .i64 0) (.int .i64 0) (.int .i64 0) (.slice none 0 0) (.slice none 0 0)
  have e : ((w.alloc (Obj.cells #[Value.int .i64 K, Value.int .i64 B, Value.int .i64 F, Value.int .i64 R, Value.int .i64 O, Value.slice p n c, Value.slice q m d] 27)).alloc (Obj.cells #[Value.int .i64 K', Value.int .i64 B', Value.int .i64 F', Value.int .i64 R', Value.int .i64 O', Value.slice p' n' c', Value.slice q' m' d'] 27)).heap.size = w.heap.size + 1 + 1 := by simp
  rw [e] at h
  exact h)
 have TV := Lib.hid TV0
 have UV := Lib.hid UV0
 have SS := Lib.hid SS0
 clear TV0 UV0 SS0 hm hn hm' hn' hmm hnn hmm' hnn'
 have EN : (binOp .eql 50 (.func (.func 30) #[] #[.pointer (some ⟨cb, 0, none⟩), .pointer (some ⟨ga, 0, none⟩), .pointer (some ⟨go, 0, none⟩), .pointer (some ⟨gs, 0, none⟩)]) Value.nilFunc).run Tryz.prog (((w.alloc (Obj.cells #[Value.int .i64 K, Value.int .i64 B, Value.int .i64 F, Value.int .i64 R, Value.int .i64 O, Value.slice p n c, Value.slice q m d] 27)).alloc (Obj.cells #[Value.int .i64 K', Value.int .i64 B', Value.int .i64 F', Value.int .i64 R', Value.int .i64 O', Value.slice p' n' c', Value.slice q' m' d'] 27)).alloc (Obj.cells #[Value.int .i64 0, Value.int .i64 0, Value.int .i64 0, Value.int .i64 0, Value.int .i64 0, Value.slice none 0 0, Value.slice none 0 0] 27)) = .ok (.bool false) (((w.alloc (Obj.cells #[Value.int .i64 K, Value.int .i64 B, Value.int .i64 F, Value.int .i64 R, Value.int .i64 O, Value.slice p n c, Value.slice q m d] 27)).alloc (Obj.cells #[Value.int .i64 K', Value.int .i64 B', Value.int .i64 F', Value.int .i64 R', Value.int .i64 O', Value.slice p' n' c', Value.slice q' m' d'] 27)).alloc (Obj.cells #[Value.int .i64 0, Value.int .i64 0, Value.int .i64 0, Value.int .i64 0, Value.int .i64 0, Value.slice none 0 0, Value.slice none 0 0] 27)) := by kernel_rfl
 unfold Tn at *
 go_enter Tryz.func29, Tryz.ntmps29
 go_wp2_with (first | (go_at_call 20; (with_reducible refine (TV.out _ (Lib.hid (SlI.keep KB.out RA.out)) (Lib.hid (SlV.below RB.out KB.out))).mono ?_); rintro e w1 ⟨rfl, hb⟩; have KN := Lib.hid (KB.out.trans (hb.mono KB.out.size)); have T1 := Lib.hid (B7.keep hb TB.out.lt TB.out); have T2 := Lib.hid (B7.keep hb UB.out.lt UB.out); have T3 := Lib.hid (B7.keep hb ZB.out.lt ZB.out); have KB := KN; have TB := T1; have UB := T2; have ZB := T3; clear KN T1 T2 T3 hb; obtain ⟨⟨c0, c1, c2, c3, c4, c5, c6⟩, -⟩ := TB.out; obtain ⟨⟨e0, e1, e2, e3, e4, e5, e6⟩, -⟩ := UB.out; obtain ⟨⟨z0, z1, z2, z3, z4, z5, z6⟩, ⟨f0, f1, f2, f3, f4, f5, f6⟩⟩ := ZB.out; have lr : w.heap.size + 1 + 1 < w1.heap.size := ZB.out.lt) | (go_at_call 20; (with_reducible refine (UV.out _ (Lib.hid (SlI.keep KB.out RA'.out)) (Lib.hid (SlV.below RB'.out KB.out))).mono ?_); rintro e w2 ⟨rfl, hb⟩; have KN := Lib.hid (KB.out.trans (hb.mono KB.out.size)); have T1 := Lib.hid (B7.keep hb TB.out.lt TB.out); have T2 := Lib.hid (B7.keep hb UB.out.lt UB.out); have T3 := Lib.hid (B7.keep hb ZB.out.lt ZB.out); have KB := KN; have TB := T1; have UB := T2; have ZB := T3; clear KN T1 T2 T3 hb; obtain ⟨⟨c0, c1, c2, c3, c4, c5, c6⟩, -⟩ := TB.out; obtain ⟨⟨e0, e1, e2, e3, e4, e5, e6⟩, -⟩ := UB.out; obtain ⟨⟨z0, z1, z2, z3, z4, z5, z6⟩, ⟨f0, f1, f2, f3, f4, f5, f6⟩⟩ := ZB.out; have lr : w.heap.size + 1 + 1 < w2.heap.size := ZB.out.lt) | (go_at_call 60; (with_reducible refine (SS.out _ (Lib.hid (SlI.keep KB.out RA.out)) (Lib.hid (SlI.keep KB.out RA'.out))).mono ?_); rintro e w3 ⟨rfl, k1, rfl⟩; have hb := below_drewN (Below.refl w2.heap.size w2) k1; have KN := Lib.hid (KB.out.trans (hb.mono KB.out.size)); have T1 := Lib.hid (B7.keep hb TB.out.lt TB.out); have T2 := Lib.hid (B7.keep hb UB.out.lt UB.out); have T3 := Lib.hid (B7.keep hb ZB.out.lt ZB.out); have KB := KN; have TB := T1; have UB := T2; have ZB := T3; clear KN T1 T2 T3 hb; obtain ⟨⟨c0, c1, c2, c3, c4, c5, c6⟩, -⟩ := TB.out; obtain ⟨⟨e0, e1, e2, e3, e4, e5, e6⟩, -⟩ := UB.out; obtain ⟨⟨z0, z1, z2, z3, z4, z5, z6⟩, ⟨f0, f1, f2, f3, f4, f5, f6⟩⟩ := ZB.out; have lr : w.heap.size + 1 + 1 < (w2.drewN k1).heap.size := ZB.out.lt))
 have SBB := (((((((KB.out).setCell (p := ⟨w.heap.size + 1 + 1, 0, none⟩) (by dsimp only; omega) (.int .i64 0)).setCell (p := ⟨w.heap.size + 1 + 1, 1, none⟩) (by dsimp only; omega) (.int .i64 0)).setCell (p := ⟨w.heap.size + 1 + 1, 2, none⟩) (by dsimp only; omega) (.int .i64 0)).setCell (p := ⟨w.heap.size + 1 + 1, 3, none⟩) (by dsimp only; omega) (.int .i64 0)).setCell (p := ⟨w.heap.size + 1 + 1, 4, none⟩) (by dsimp only; omega) (.int .i64 0)).setCell (p := ⟨w.heap.size + 1 + 1, 5, none⟩) (by dsimp only; omega) (.slice none 0 0)).setCell (p := ⟨w.heap.size + 1 + 1, 6, none⟩) (by dsimp only; omega) (.slice none 0 0)
 refine bodyPost_ret (v := .tuple #[.agg #[.int .i64 0, .int .i64 0, .int .i64 0, .int .i64 0, .int .i64 0, .slice none 0 0, .slice none 0 0], .int .i64 15]) (by simp [results, Tryz.results29, go_sem, z0, f0, z1, f1, z2, f2, z3, f3, z4, f4, z5, f5, z6, f6, lr]) rfl (TRes.no SBB)
end Go.Proofs.YteaaikmejacpaaaGreatDoor.Te

namespace Go.Proofs.YteaaikmejacpaaaGreatDoor.Te
open Go.ChangeShapes Go.WideShapes Go.ChangeAt Go.RowKit
open Fr Fx Va Sh
set_option maxRecDepth 8000
set_option linter.unusedVariables false
set_option linter.unusedSimpArgs false

set_option maxRecDepth 100000 in
set_option maxHeartbeats 2000000 in
theorem zp_n (K B F R O : Int) (p : Option Addr) (zs : List Int) (c : Nat) (q : Option Addr) (vs : List (Int × Int)) (d : Nat) (K' B' F' R' O' : Int) (p' : Option Addr) (zs' : List Int) (c' : Nat) (q' : Option Addr) (us : List (Int × Int)) (d' : Nat) (cb ga go gs : Nat) (w : World) (b0 : -9223372036854775808 <= B) (b1 : B <= 9223372036854775807) (b0' : -9223372036854775808 <= B') (b1' : B' <= 9223372036854775807) (hn : zs.length <= maxLen) (hm : vs.length <= maxLen) (hn' : zs'.length <= maxLen) (hm' : us.length <= maxLen) (RA : Hid (SlI w p zs)) (RB : Hid (SlV w q vs)) (RA' : Hid (SlI w p' zs')) (RB' : Hid (SlV w q' us))  :
  Calls Tryz.prog 29 #[Tn K B F R O p zs.length c q vs.length d, Tn K' B' F' R' O' p' zs'.length c' q' us.length d', Value.nilFunc] w (TRes 0 0 0 0 0 [] [] (1) w) := by
 obtain ⟨m, hmm⟩ : ∃ m, vs.length = m := ⟨_, rfl⟩
 obtain ⟨n, hnn⟩ : ∃ n, zs.length = n := ⟨_, rfl⟩
 obtain ⟨m', hmm'⟩ : ∃ m, us.length = m := ⟨_, rfl⟩
 obtain ⟨n', hnn'⟩ : ∃ n, zs'.length = n := ⟨_, rfl⟩
 rw [hmm, hnn, hmm', hnn']
 have KB : Hid (Below w.heap.size w (((w.alloc (Obj.cells #[Value.int .i64 K, Value.int .i64 B, Value.int .i64 F, Value.int .i64 R, Value.int .i64 O, Value.slice p n c, Value.slice q m d] 27)).alloc (Obj.cells #[Value.int .i64 K', Value.int .i64 B', Value.int .i64 F', Value.int .i64 R', Value.int .i64 O', Value.slice p' n' c', Value.slice q' m' d'] 27)).alloc (Obj.cells #[Value.int .i64 0, Value.int .i64 0, Value.int .i64 0, Value.int .i64 0, Value.int .i64 0, Value.slice none 0 0, Value.slice none 0 0] 27))) := Lib.hid ((((Below.refl _ _).alloc (Nat.le_refl _) _).alloc (by simp) _).alloc (by simp; omega) _)
 have TB : Hid (B7 (((w.alloc (Obj.cells #[Value.int .i64 K, Value.int .i64 B, Value.int .i64 F, Value.int .i64 R, Value.int .i64 O, Value.slice p n c, Value.slice q m d] 27)).alloc (Obj.cells #[Value.int .i64 K', Value.int .i64 B', Value.int .i64 F', Value.int .i64 R', Value.int .i64 O', Value.slice p' n' c', Value.slice q' m' d'] 27)).alloc (Obj.cells #[Value.int .i64 0, Value.int .i64 0, Value.int .i64 0, Value.int .i64 0, Value.int .i64 0, Value.slice none 0 0, Value.slice none 0 0] 27)) (w.heap.size) (.int .i64 K) (.int .i64 B) (.int .i64 F) (.int .i64 R) (.int .i64 O) (.slice p n c) (.slice q m d)) := Lib.hid (((B7.new w _ (.int .i64 K) (.int .i64 B) (.int .i64 F) (.int .i64 R) (.int .i64 O) (.slice p n c) (.slice q m d)).alloc _).alloc _)
 have UB : Hid (B7 (((w.alloc (Obj.cells #[Value.int .i64 K, Value.int .i64 B, Value.int .i64 F, Value.int .i64 R, Value.int .i64 O, Value.slice p n c, Value.slice q m d] 27)).alloc (Obj.cells #[Value.int .i64 K', Value.int .i64 B', Value.int .i64 F', Value.int .i64 R', Value.int .i64 O', Value.slice p' n' c', Value.slice q' m' d'] 27)).alloc (Obj.cells #[Value.int .i64 0, Value.int .i64 0, Value.int .i64 0, Value.int .i64 0, Value.int .i64 0, Value.slice none 0 0, Value.slice none 0 0] 27)) (w.heap.size + 1) (.int .i64 K') (.int .i64 B') (.int .i64 F') (.int .i64 R') (.int .i64 O') (.slice p' n' c') (.slice q' m' d')) := Lib.hid (by
  have h := B7.new (w.alloc (Obj.cells #[Value.int .i64 K, Value.int .i64 B, Value.int .i64 F, Value.int .i64 R, Value.int .i64 O, Value.slice p n c, Value.slice q m d] 27)) 27 (.int .i64 K') (.int .i64 B') (.int .i64 F') (.int .i64 R') (.int .i64 O') (.slice p' n' c') (.slice q' m' d')
  have e : (w.alloc (Obj.cells #[Value.int .i64 K, Value.int .i64 B, Value.int .i64 F, Value.int .i64 R, Value.int .i64 O, Value.slice p n c, Value.slice q m d] 27)).heap.size = w.heap.size + 1 := by simp
  rw [e] at h
  exact h.alloc _)
 have ZB : Hid (B7 (((w.alloc (Obj.cells #[Value.int .i64 K, Value.int .i64 B, Value.int .i64 F, Value.int .i64 R, Value.int .i64 O, Value.slice p n c, Value.slice q m d] 27)).alloc (Obj.cells #[Value.int .i64 K', Value.int .i64 B', Value.int .i64 F', Value.int .i64 R', Value.int .i64 O', Value.slice p' n' c', Value.slice q' m' d'] 27)).alloc (Obj.cells #[Value.int .i64 0, Value.int .i64 0, Value.int .i64 0, Value.int .i64 0, Value.int .i64 0, Value.slice none 0 0, Value.slice none 0 0] 27)) (w.heap.size + 1 + 1) (.int .i64 0) (.int .i64 0) (.int .i64 0) (.int .i64 0) (.int .i64 0) (.slice none 0 0) (.slice none 0 0)) := Lib.hid (by
  have h := B7.new ((w.alloc (Obj.cells #[Value.int .i64 K, Value.int .i64 B, Value.int .i64 F, Value.int .i64 R, Value.int .i64 O, Value.slice p n c, Value.slice q m d] 27)).alloc (Obj.cells #[Value.int .i64 K', Value.int .i64 B', Value.int .i64 F', Value.int .i64 R', Value.int .i64 O', Value.slice p' n' c', Value.slice q' m' d'] 27)) 27 (.int .i64 0) (.int .i64 0) (.int .i64 0) (.int .i64 0) (.int .i64 0) (.slice none 0 0) (.slice none 0 0)
  have e : ((w.alloc (Obj.cells #[Value.int .i64 K, Value.int .i64 B, Value.int .i64 F, Value.int .i64 R, Value.int .i64 O, Value.slice p n c, Value.slice q m d] 27)).alloc (Obj.cells #[Value.int .i64 K', Value.int .i64 B', Value.int .i64 F', Value.int .i64 R', Value.int .i64 O', Value.slice p' n' c', Value.slice q' m' d'] 27)).heap.size = w.heap.size + 1 + 1 := by simp
  rw [e] at h
  exact h)
 clear hm hn hm' hn' hmm hnn hmm' hnn'
 have EN : (binOp .eql 50 Value.nilFunc Value.nilFunc).run Tryz.prog (((w.alloc (Obj.cells #[Value.int .i64 K, Value.int .i64 B, Value.int .i64 F, Value.int .i64 R, Value.int .i64 O, Value.slice p n c, Value.slice q m d] 27)).alloc (Obj.cells #[Value.int .i64 K', Value.int .i64 B', Value.int .i64 F', Value.int .i64 R', Value.int .i64 O', Value.slice p' n' c', Value.slice q' m' d'] 27)).alloc (Obj.cells #[Value.int .i64 0, Value.int .i64 0, Value.int .i64 0, Value.int .i64 0, Value.int .i64 0, Value.slice none 0 0, Value.slice none 0 0] 27)) = .ok (.bool true) (((w.alloc (Obj.cells #[Value.int .i64 K, Value.int .i64 B, Value.int .i64 F, Value.int .i64 R, Value.int .i64 O, Value.slice p n c, Value.slice q m d] 27)).alloc (Obj.cells #[Value.int .i64 K', Value.int .i64 B', Value.int .i64 F', Value.int .i64 R', Value.int .i64 O', Value.slice p' n' c', Value.slice q' m' d'] 27)).alloc (Obj.cells #[Value.int .i64 0, Value.int .i64 0, Value.int .i64 0, Value.int .i64 0, Value.int .i64 0, Value.slice none 0 0, Value.slice none 0 0] 27)) := by kernel_rfl
 unfold Tn at *
 go_enter Tryz.func29, Tryz.ntmps29
 go_wp2_with fail
 clear EN
 refine bodyPost_ret (v := .tuple #[.agg #[.int .i64 0, .int .i64 0, .int .i64 0, .int .i64 0, .int .i64 0, .slice none 0 0, .slice none 0 0], .int .i64 1]) (by simp [results, Tryz.results29, go_sem]) rfl (TRes.no KB.out)
end Go.Proofs.YteaaikmejacpaaaGreatDoor.Te

namespace Go.Proofs.YteaaikmejacpaaaGreatDoor.Te
open Go.ChangeShapes Go.WideShapes Go.ChangeAt Go.RowKit
open Fr Fx Va Sh
set_option maxRecDepth 8000
set_option linter.unusedVariables false
set_option linter.unusedSimpArgs false

set_option maxRecDepth 100000 in
set_option maxHeartbeats 2000000 in
theorem pr_a (K B F R O : Int) (p : Option Addr) (zs : List Int) (c : Nat) (q : Option Addr) (vs : List (Int × Int)) (d : Nat) (K' B' F' R' O' : Int) (p' : Option Addr) (zs' : List Int) (c' : Nat) (q' : Option Addr) (us : List (Int × Int)) (d' : Nat) (w : World) (b0 : -9223372036854775808 <= B) (b1 : B <= 9223372036854775807) (b0' : -9223372036854775808 <= B') (b1' : B' <= 9223372036854775807) (hn : zs.length <= maxLen) (hm : vs.length <= maxLen) (hn' : zs'.length <= maxLen) (hm' : us.length <= maxLen) (RA : Hid (SlI w p zs)) (RB : Hid (SlV w q vs)) (RA' : Hid (SlI w p' zs')) (RB' : Hid (SlV w q' us)) (ht : tE K B F R O zs vs ≠ 0) :
  Calls Tryz.prog 62 #[Tn K B F R O p zs.length c q vs.length d, Tn K' B' F' R' O' p' zs'.length c' q' us.length d'] w fun en w' => en = .returned (.int .i64 (tE K B F R O zs vs)) /\ Below w.heap.size w w' := by
 have TV0 := fun w h1 h2 => rval K B F R O p zs c q vs d w hn hm h1 h2
 obtain ⟨E, hE⟩ : ∃ E, tE K B F R O zs vs = E := ⟨_, rfl⟩
 rw [hE] at TV0 ht ⊢
 have g1 : (E == 0) = false := by simpa using ht
 have g2 : (E != 0) = true := by simpa using ht
 obtain ⟨m, hmm⟩ : ∃ m, vs.length = m := ⟨_, rfl⟩
 obtain ⟨n, hnn⟩ : ∃ n, zs.length = n := ⟨_, rfl⟩
 obtain ⟨m', hmm'⟩ : ∃ m, us.length = m := ⟨_, rfl⟩
 obtain ⟨n', hnn'⟩ : ∃ n, zs'.length = n := ⟨_, rfl⟩
 rw [hmm, hnn] at TV0 ⊢; rw [hmm', hnn']
 have KB : Hid (Below w.heap.size w ((w.alloc (Obj.cells #[Value.int .i64 K, Value.int .i64 B, Value.int .i64 F, Value.int .i64 R, Value.int .i64 O, Value.slice p n c, Value.slice q m d] 27)).alloc (Obj.cells #[Value.int .i64 K', Value.int .i64 B', Value.int .i64 F', Value.int .i64 R', Value.int .i64 O', Value.slice p' n' c', Value.slice q' m' d'] 27))) := Lib.hid (((Below.refl _ _).alloc (Nat.le_refl _) _).alloc (by simp) _)
 have TB : Hid (B7 ((w.alloc (Obj.cells #[Value.int .i64 K, Value.int .i64 B, Value.int .i64 F, Value.int .i64 R, Value.int .i64 O, Value.slice p n c, Value.slice q m d] 27)).alloc (Obj.cells #[Value.int .i64 K', Value.int .i64 B', Value.int .i64 F', Value.int .i64 R', Value.int .i64 O', Value.slice p' n' c', Value.slice q' m' d'] 27)) (w.heap.size) (.int .i64 K) (.int .i64 B) (.int .i64 F) (.int .i64 R) (.int .i64 O) (.slice p n c) (.slice q m d)) := Lib.hid ((B7.new w _ (.int .i64 K) (.int .i64 B) (.int .i64 F) (.int .i64 R) (.int .i64 O) (.slice p n c) (.slice q m d)).alloc _)
 have UB : Hid (B7 ((w.alloc (Obj.cells #[Value.int .i64 K, Value.int .i64 B, Value.int .i64 F, Value.int .i64 R, Value.int .i64 O, Value.slice p n c, Value.slice q m d] 27)).alloc (Obj.cells #[Value.int .i64 K', Value.int .i64 B', Value.int .i64 F', Value.int .i64 R', Value.int .i64 O', Value.slice p' n' c', Value.slice q' m' d'] 27)) (w.heap.size + 1) (.int .i64 K') (.int .i64 B') (.int .i64 F') (.int .i64 R') (.int .i64 O') (.slice p' n' c') (.slice q' m' d')) := Lib.hid (by
  have h := B7.new (w.alloc (Obj.cells #[Value.int .i64 K, Value.int .i64 B, Value.int .i64 F, Value.int .i64 R, Value.int .i64 O, Value.slice p n c, Value.slice q m d] 27)) 27 (.int .i64 K') (.int .i64 B') (.int .i64 F') (.int .i64 R') (.int .i64 O') (.slice p' n' c') (.slice q' m' d')
  have e : (w.alloc (Obj.cells #[Value.int .i64 K, Value.int .i64 B, Value.int .i64 F, Value.int .i64 R, Value.int .i64 O, Value.slice p n c, Value.slice q m d] 27)).heap.size = w.heap.size + 1 := by simp
  rw [e] at h
  exact h)
 have TV := Lib.hid TV0
 clear hE ht TV0 hm hn hm' hn' hmm hnn hmm' hnn'
 unfold Tn at *
 go_enter Tryz.func62, Tryz.ntmps62
 go_wp2_with (go_at_call 21; (with_reducible refine (TV.out _ (Lib.hid (SlI.keep KB.out RA.out)) (Lib.hid (SlV.below RB.out KB.out))).mono ?_); rintro e w1 ⟨rfl, hb⟩; have KN := Lib.hid (KB.out.trans (hb.mono KB.out.size)); have T1 := Lib.hid (B7.keep hb TB.out.lt TB.out); have T2 := Lib.hid (B7.keep hb UB.out.lt UB.out); have KB := KN; have TB := T1; have UB := T2; clear KN T1 T2 hb; obtain ⟨⟨c0, c1, c2, c3, c4, c5, c6⟩, -⟩ := TB.out; obtain ⟨⟨e0, e1, e2, e3, e4, e5, e6⟩, -⟩ := UB.out)
 go_ret
 exact ⟨rfl, KB.out⟩

set_option maxRecDepth 100000 in
set_option maxHeartbeats 2000000 in
theorem pr_b (K B F R O : Int) (p : Option Addr) (zs : List Int) (c : Nat) (q : Option Addr) (vs : List (Int × Int)) (d : Nat) (K' B' F' R' O' : Int) (p' : Option Addr) (zs' : List Int) (c' : Nat) (q' : Option Addr) (us : List (Int × Int)) (d' : Nat) (w : World) (b0 : -9223372036854775808 <= B) (b1 : B <= 9223372036854775807) (b0' : -9223372036854775808 <= B') (b1' : B' <= 9223372036854775807) (hn : zs.length <= maxLen) (hm : vs.length <= maxLen) (hn' : zs'.length <= maxLen) (hm' : us.length <= maxLen) (RA : Hid (SlI w p zs)) (RB : Hid (SlV w q vs)) (RA' : Hid (SlI w p' zs')) (RB' : Hid (SlV w q' us)) (ht : tE K B F R O zs vs = 0) (hu : tE K' B' F' R' O' zs' us ≠ 0) :
  Calls Tryz.prog 62 #[Tn K B F R O p zs.length c q vs.length d, Tn K' B' F' R' O' p' zs'.length c' q' us.length d'] w fun en w' => en = .returned (.int .i64 (tE K' B' F' R' O' zs' us)) /\ Below w.heap.size w w' := by
 have TV0 := fun w h1 h2 => rval K B F R O p zs c q vs d w hn hm h1 h2
 have UV0 := fun w h1 h2 => rval K' B' F' R' O' p' zs' c' q' us d' w hn' hm' h1 h2
 obtain ⟨E, hE⟩ : ∃ E, tE K' B' F' R' O' zs' us = E := ⟨_, rfl⟩
 rw [hE] at UV0 hu ⊢
 rw [ht] at TV0
 have g1 : (E == 0) = false := by simpa using hu
 have g2 : (E != 0) = true := by simpa using hu
 obtain ⟨m, hmm⟩ : ∃ m, vs.length = m := ⟨_, rfl⟩
 obtain ⟨n, hnn⟩ : ∃ n, zs.length = n := ⟨_, rfl⟩
 obtain ⟨m', hmm'⟩ : ∃ m, us.length = m := ⟨_, rfl⟩
 obtain ⟨n', hnn'⟩ : ∃ n, zs'.length = n := ⟨_, rfl⟩
 rw [hmm, hnn] at TV0 ⊢; rw [hmm', hnn'] at UV0 ⊢
 have KB : Hid (Below w.heap.size w ((w.alloc (Obj.cells #[Value.int .i64 K, Value.int .i64 B, Value.int .i64 F, Value.int .i64 R, Value.int .i64 O, Value.slice p n c, Value.slice q m d] 27)).alloc (Obj.cells #[Value.int .i64 K', Value.int .i64 B', Value.int .i64 F', Value.int .i64 R', Value.int .i64 O', Value.slice p' n' c', Value.slice q' m' d'] 27))) := Lib.hid (((Below.refl _ _).alloc (Nat.le_refl _) _).alloc (by simp) _)
 have TB : Hid (B7 ((w.alloc (Obj.cells #[Value.int .i64 K, Value.int .i64 B, Value.int .i64 F, Value.int .i64 R, Value.int .i64 O, Value.slice p n c, Value.slice q m d] 27)).alloc (Obj.cells #[Value.int .i64 K', Value.int .i64 B', Value.int .i64 F', Value.int .i64 R', Value.int .i64 O', Value.slice p' n' c', Value.slice q' m' d'] 27)) (w.heap.size) (.int .i64 K) (.int .i64 B) (.int .i64 F) (.int .i64 R) (.int .i64 O) (.slice p n c) (.slice q m d)) := Lib.hid ((B7.new w _ (.int .i64 K) (.int .i64 B) (.int .i64 F) (.int .i64 R) (.int .i64 O) (.slice p n c) (.slice q m d)).alloc _)
 have UB : Hid (B7 ((w.alloc (Obj.cells #[Value.int .i64 K, Value.int .i64 B, Value.int .i64 F, Value.int .i64 R, Value.int .i64 O, Value.slice p n c, Value.slice q m d] 27)).alloc (Obj.cells #[Value.int .i64 K', Value.int .i64 B', Value.int .i64 F', Value.int .i64 R', Value.int .i64 O', Value.slice p' n' c', Value.slice q' m' d'] 27)) (w.heap.size + 1) (.int .i64 K') (.int .i64 B') (.int .i64 F') (.int .i64 R') (.int .i64 O') (.slice p' n' c') (.slice q' m' d')) := Lib.hid (by
  have h := B7.new (w.alloc (Obj.cells #[Value.int .i64 K, Value.int .i64 B, Value.int .i64 F, Value.int .i64 R, Value.int .i64 O, Value.slice p n c, Value.slice q m d] 27)) 27 (.int .i64 K') (.int .i64 B') (.int .i64 F') (.int .i64 R') (.int .i64 O') (.slice p' n' c') (.slice q' m' d')
  have e : (w.alloc (Obj.cells #[Value.int .i64 K, Value.int .i64 B, Value.int .i64 F, Value.int .i64 R, Value.int .i64 O, Value.slice p n c, Value.slice q m d] 27)).heap.size = w.heap.size + 1 := by simp
  rw [e] at h
  exact h)
 have TV := Lib.hid TV0
 have UV := Lib.hid UV0
 clear hE ht hu TV0 UV0 hm hn hm' hn' hmm hnn hmm' hnn'
 unfold Tn at *
 go_enter Tryz.func62, Tryz.ntmps62
 go_wp2_with (first | (go_at_call 21; (with_reducible refine (TV.out _ (Lib.hid (SlI.keep KB.out RA.out)) (Lib.hid (SlV.below RB.out KB.out))).mono ?_); rintro e w1 ⟨rfl, hb⟩; have KN := Lib.hid (KB.out.trans (hb.mono KB.out.size)); have T1 := Lib.hid (B7.keep hb TB.out.lt TB.out); have T2 := Lib.hid (B7.keep hb UB.out.lt UB.out); have KB := KN; have TB := T1; have UB := T2; clear KN T1 T2 hb; obtain ⟨⟨c0, c1, c2, c3, c4, c5, c6⟩, -⟩ := TB.out; obtain ⟨⟨e0, e1, e2, e3, e4, e5, e6⟩, -⟩ := UB.out) | (go_at_call 21; (with_reducible refine (UV.out _ (Lib.hid (SlI.keep KB.out RA'.out)) (Lib.hid (SlV.below RB'.out KB.out))).mono ?_); rintro e w2 ⟨rfl, hb⟩; have KN := Lib.hid (KB.out.trans (hb.mono KB.out.size)); have T1 := Lib.hid (B7.keep hb TB.out.lt TB.out); have T2 := Lib.hid (B7.keep hb UB.out.lt UB.out); have KB := KN; have TB := T1; have UB := T2; clear KN T1 T2 hb; obtain ⟨⟨c0, c1, c2, c3, c4, c5, c6⟩, -⟩ := TB.out; obtain ⟨⟨e0, e1, e2, e3, e4, e5, e6⟩, -⟩ := UB.out))
 go_ret
 exact ⟨rfl, KB.out⟩

set_option maxRecDepth 100000 in
set_option maxHeartbeats 2000000 in
theorem pr_c (K B F R O : Int) (p : Option Addr) (zs : List Int) (c : Nat) (q : Option Addr) (vs : List (Int × Int)) (d : Nat) (K' B' F' R' O' : Int) (p' : Option Addr) (zs' : List Int) (c' : Nat) (q' : Option Addr) (us : List (Int × Int)) (d' : Nat) (w : World) (b0 : -9223372036854775808 <= B) (b1 : B <= 9223372036854775807) (b0' : -9223372036854775808 <= B') (b1' : B' <= 9223372036854775807) (hn : zs.length <= maxLen) (hm : vs.length <= maxLen) (hn' : zs'.length <= maxLen) (hm' : us.length <= maxLen) (RA : Hid (SlI w p zs)) (RB : Hid (SlV w q vs)) (RA' : Hid (SlI w p' zs')) (RB' : Hid (SlV w q' us)) (ht : tE K B F R O zs vs = 0) (hu : tE K' B' F' R' O' zs' us = 0) (hT : ¬ (K = K' /\ B = B' /\ F = F' /\ R = R' /\ O = O')) :
  Calls Tryz.prog 62 #[Tn K B F R O p zs.length c q vs.length d, Tn K' B' F' R' O' p' zs'.length c' q' us.length d'] w fun en w' => en = .returned (.int .i64 (10)) /\ Below w.heap.size w w' := by
 have TV0 := fun w h1 h2 => rval K B F R O p zs c q vs d w hn hm h1 h2
 have UV0 := fun w h1 h2 => rval K' B' F' R' O' p' zs' c' q' us d' w hn' hm' h1 h2
 rw [hu] at UV0
 rw [ht] at TV0
 clear ht hu
 obtain ⟨m, hmm⟩ : ∃ m, vs.length = m := ⟨_, rfl⟩
 obtain ⟨n, hnn⟩ : ∃ n, zs.length = n := ⟨_, rfl⟩
 obtain ⟨m', hmm'⟩ : ∃ m, us.length = m := ⟨_, rfl⟩
 obtain ⟨n', hnn'⟩ : ∃ n, zs'.length = n := ⟨_, rfl⟩
 rw [hmm, hnn] at TV0 ⊢; rw [hmm', hnn'] at UV0 ⊢
 have KB : Hid (Below w.heap.size w ((w.alloc (Obj.cells #[Value.int .i64 K, Value.int .i64 B, Value.int .i64 F, Value.int .i64 R, Value.int .i64 O, Value.slice p n c, Value.slice q m d] 27)).alloc (Obj.cells #[Value.int .i64 K', Value.int .i64 B', Value.int .i64 F', Value.int .i64 R', Value.int .i64 O', Value.slice p' n' c', Value.slice q' m' d'] 27))) := Lib.hid (((Below.refl _ _).alloc (Nat.le_refl _) _).alloc (by simp) _)
 have TB : Hid (B7 ((w.alloc (Obj.cells #[Value.int .i64 K, Value.int .i64 B, Value.int .i64 F, Value.int .i64 R, Value.int .i64 O, Value.slice p n c, Value.slice q m d] 27)).alloc (Obj.cells #[Value.int .i64 K', Value.int .i64 B', Value.int .i64 F', Value.int .i64 R', Value.int .i64 O', Value.slice p' n' c', Value.slice q' m' d'] 27)) (w.heap.size) (.int .i64 K) (.int .i64 B) (.int .i64 F) (.int .i64 R) (.int .i64 O) (.slice p n c) (.slice q m d)) := Lib.hid ((B7.new w _ (.int .i64 K) (.int .i64 B) (.int .i64 F) (.int .i64 R) (.int .i64 O) (.slice p n c) (.slice q m d)).alloc _)
 have UB : Hid (B7 ((w.alloc (Obj.cells #[Value.int .i64 K, Value.int .i64 B, Value.int .i64 F, Value.int .i64 R, Value.int .i64 O, Value.slice p n c, Value.slice q m d] 27)).alloc (Obj.cells #[Value.int .i64 K', Value.int .i64 B', Value.int .i64 F', Value.int .i64 R', Value.int .i64 O', Value.slice p' n' c', Value.slice q' m' d'] 27)) (w.heap.size + 1) (.int .i64 K') (.int .i64 B') (.int .i64 F') (.int .i64 R') (.int .i64 O') (.slice p' n' c') (.slice q' m' d')) := Lib.hid (by
  have h := B7.new (w.alloc (Obj.cells #[Value.int .i64 K, Value.int .i64 B, Value.int .i64 F, Value.int .i64 R, Value.int .i64 O, Value.slice p n c, Value.slice q m d] 27)) 27 (.int .i64 K') (.int .i64 B') (.int .i64 F') (.int .i64 R') (.int .i64 O') (.slice p' n' c') (.slice q' m' d')
  have e : (w.alloc (Obj.cells #[Value.int .i64 K, Value.int .i64 B, Value.int .i64 F, Value.int .i64 R, Value.int .i64 O, Value.slice p n c, Value.slice q m d] 27)).heap.size = w.heap.size + 1 := by simp
  rw [e] at h
  exact h)
 have TV := Lib.hid TV0
 have UV := Lib.hid UV0
 clear TV0 UV0 hm hn hm' hn' hmm hnn hmm' hnn'
 unfold Tn at *
 rcases ty_cases2 hT with g | ⟨g0, g | ⟨g1, g | ⟨g2, g | ⟨g3, g⟩⟩⟩⟩
 all_goals
  clear hT
  go_enter Tryz.func62, Tryz.ntmps62
  go_wp2_with (first | (go_at_call 21; (with_reducible refine (TV.out _ (Lib.hid (SlI.keep KB.out RA.out)) (Lib.hid (SlV.below RB.out KB.out))).mono ?_); rintro e w1 ⟨rfl, hb⟩; have KN := Lib.hid (KB.out.trans (hb.mono KB.out.size)); have T1 := Lib.hid (B7.keep hb TB.out.lt TB.out); have T2 := Lib.hid (B7.keep hb UB.out.lt UB.out); have KB := KN; have TB := T1; have UB := T2; clear KN T1 T2 hb; obtain ⟨⟨c0, c1, c2, c3, c4, c5, c6⟩, -⟩ := TB.out; obtain ⟨⟨e0, e1, e2, e3, e4, e5, e6⟩, -⟩ := UB.out) | (go_at_call 21; (with_reducible refine (UV.out _ (Lib.hid (SlI.keep KB.out RA'.out)) (Lib.hid (SlV.below RB'.out KB.out))).mono ?_); rintro e w2 ⟨rfl, hb⟩; have KN := Lib.hid (KB.out.trans (hb.mono KB.out.size)); have T1 := Lib.hid (B7.keep hb TB.out.lt TB.out); have T2 := Lib.hid (B7.keep hb UB.out.lt UB.out); have KB := KN; have TB := T1; have UB := T2; clear KN T1 T2 hb; obtain ⟨⟨c0, c1, c2, c3, c4, c5, c6⟩, -⟩ := TB.out; obtain ⟨⟨e0, e1, e2, e3, e4, e5, e6⟩, -⟩ := UB.out))
  go_ret
  exact ⟨rfl, KB.out⟩

set_option maxRecDepth 100000 in
set_option maxHeartbeats 2000000 in
theorem pr_d (K B F R O : Int) (p : Option Addr) (zs : List Int) (c : Nat) (q : Option Addr) (vs : List (Int × Int)) (d : Nat) (K' B' F' R' O' : Int) (p' : Option Addr) (zs' : List Int) (c' : Nat) (q' : Option Addr) (us : List (Int × Int)) (d' : Nat) (w : World) (b0 : -9223372036854775808 <= B) (b1 : B <= 9223372036854775807) (b0' : -9223372036854775808 <= B') (b1' : B' <= 9223372036854775807) (hn : zs.length <= maxLen) (hm : vs.length <= maxLen) (hn' : zs'.length <= maxLen) (hm' : us.length <= maxLen) (RA : Hid (SlI w p zs)) (RB : Hid (SlV w q vs)) (RA' : Hid (SlI w p' zs')) (RB' : Hid (SlV w q' us)) (ht : tE K B F R O zs vs = 0) (hu : tE K' B' F' R' O' zs' us = 0) (hT : K = K' /\ B = B' /\ F = F' /\ R = R' /\ O = O') :
  Calls Tryz.prog 62 #[Tn K B F R O p zs.length c q vs.length d, Tn K' B' F' R' O' p' zs'.length c' q' us.length d'] w fun en w' => en = .returned (.int .i64 (if zs ≠ zs' then 15 else 0)) /\ Below w.heap.size w w' := by
 have TV0 := fun w h1 h2 => rval K B F R O p zs c q vs d w hn hm h1 h2
 have UV0 := fun w h1 h2 => rval K' B' F' R' O' p' zs' c' q' us d' w hn' hm' h1 h2
 have SS0 := fun w h1 h2 => c18 p p' zs zs' c c' w hn hn' h1 h2
 rw [hu] at UV0
 rw [ht] at TV0
 have g0 : (K == K') = true := by simpa using hT.1
 have g1 : (B == B') = true := by simpa using hT.2.1
 have g2 : (F == F') = true := by simpa using hT.2.2.1
 have g3 : (R == R') = true := by simpa using hT.2.2.2.1
 have g4 : (O == O') = true := by simpa using hT.2.2.2.2
 clear hT ht hu
 by_cases hz : zs = zs'
 ·rw [decide_eq_true hz] at SS0
  rw [if_neg (by simpa using hz)]
  clear hz
  obtain ⟨m, hmm⟩ : ∃ m, vs.length = m := ⟨_, rfl⟩
  obtain ⟨n, hnn⟩ : ∃ n, zs.length = n := ⟨_, rfl⟩
  obtain ⟨m', hmm'⟩ : ∃ m, us.length = m := ⟨_, rfl⟩
  obtain ⟨n', hnn'⟩ : ∃ n, zs'.length = n := ⟨_, rfl⟩
  rw [hmm, hnn] at TV0 ⊢; rw [hmm', hnn'] at UV0 ⊢; rw [hnn, hnn'] at SS0
  have KB : Hid (Below w.heap.size w ((w.alloc (Obj.cells #[Value.int .i64 K, Value.int .i64 B, Value.int .i64 F, Value.int .i64 R, Value.int .i64 O, Value.slice p n c, Value.slice q m d] 27)).alloc (Obj.cells #[Value.int .i64 K', Value.int .i64 B', Value.int .i64 F', Value.int .i64 R', Value.int .i64 O', Value.slice p' n' c', Value.slice q' m' d'] 27))) := Lib.hid (((Below.refl _ _).alloc (Nat.le_refl _) _).alloc (by simp) _)
  have TB : Hid (B7 ((w.alloc (Obj.cells #[Value.int .i64 K, Value.int .i64 B, Value.int .i64 F, Value.int .i64 R, Value.int .i64 O, Value.slice p n c, Value.slice q m d] 27)).alloc (Obj.cells #[Value.int .i64 K', Value.int .i64 B', Value.int .i64 F', Value.int .i64 R', Value.int .i64 O', Value.slice p' n' c', Value.slice q' m' d'] 27)) (w.heap.size) (.int .i64 K) (.int .i64 B) (.int .i64 F) (.int .i64 R) (.int .i64 O) (.slice p n c) (.slice q m d)) := Lib.hid ((B7.new w _ (.int .i64 K) (.int .i64 B) (.int .i64 F) (.int .i64 R) (.int .i64 O) (.slice p n c) (.slice q m d)).alloc _)
  have UB : Hid (B7 ((w.alloc (Obj.cells #[Value.int .i64 K, Value.int .i64 B, Value.int .i64 F, Value.int .i64 R, Value.int .i64 O, Value.slice p n c, Value.slice q m d] 27)).alloc (Obj.cells #[Value.int .i64 K', Value.int .i64 B', Value.int .i64 F', Value.int .i64 R', Value.int .i64 O', Value.slice p' n' c', Value.slice q' m' d'] 27)) (w.heap.size + 1) (.int .i64 K') (.int .i64 B') (.int .i64 F') (.int .i64 R') (.int .i64 O') (.slice p' n' c') (.slice q' m' d')) := Lib.hid (by
   have h := B7.new (w.alloc (Obj.cells #[Value.int .i64 K, Value.int .i64 B, Value.int .i64 F, Value.int .i64 R, Value.int .i64 O, Value.slice p n c, Value.slice q m d] 27)) 27 (.int .i64 K') (.int .i64 B') (.int .i64 F') (.int .i64 R') (.int .i64 O') (.slice p' n' c') (.slice q' m' d')
   have e : (w.alloc (Obj.cells #[Value.int .i64 K, Value.int .i64 B, Value.int .i64 F, Value.int .i64 R, Value.int .i64 O, Value.slice p n c, Value.slice q m d] 27)).heap.size = w.heap.size + 1 := by simp
   rw [e] at h
   exact h)
  have TV := Lib.hid TV0
  have UV := Lib.hid UV0
  have SS := Lib.hid SS0
  clear TV0 UV0 SS0 hm hn hm' hn' hmm hnn hmm' hnn'
  unfold Tn at *
  go_enter Tryz.func62, Tryz.ntmps62
  go_wp2_with (first | (go_at_call 21; (with_reducible refine (TV.out _ (Lib.hid (SlI.keep KB.out RA.out)) (Lib.hid (SlV.below RB.out KB.out))).mono ?_); rintro e w1 ⟨rfl, hb⟩; have KN := Lib.hid (KB.out.trans (hb.mono KB.out.size)); have T1 := Lib.hid (B7.keep hb TB.out.lt TB.out); have T2 := Lib.hid (B7.keep hb UB.out.lt UB.out); have KB := KN; have TB := T1; have UB := T2; clear KN T1 T2 hb; obtain ⟨⟨c0, c1, c2, c3, c4, c5, c6⟩, -⟩ := TB.out; obtain ⟨⟨e0, e1, e2, e3, e4, e5, e6⟩, -⟩ := UB.out) | (go_at_call 21; (with_reducible refine (UV.out _ (Lib.hid (SlI.keep KB.out RA'.out)) (Lib.hid (SlV.below RB'.out KB.out))).mono ?_); rintro e w2 ⟨rfl, hb⟩; have KN := Lib.hid (KB.out.trans (hb.mono KB.out.size)); have T1 := Lib.hid (B7.keep hb TB.out.lt TB.out); have T2 := Lib.hid (B7.keep hb UB.out.lt UB.out); have KB := KN; have TB := T1; have UB := T2; clear KN T1 T2 hb; obtain ⟨⟨c0, c1, c2, c3, c4, c5, c6⟩, -⟩ := TB.out; obtain ⟨⟨e0, e1, e2, e3, e4, e5, e6⟩, -⟩ := UB.out) | (go_at_call 28; (with_reducible refine (SS.out _ (Lib.hid (SlI.keep KB.out RA.out)) (Lib.hid (SlI.keep KB.out RA'.out))).mono ?_); rintro e w3 ⟨rfl, k1, rfl⟩; have hb := below_drewN (Below.refl w2.heap.size w2) k1; have KN := Lib.hid (KB.out.trans (hb.mono KB.out.size)); have T1 := Lib.hid (B7.keep hb TB.out.lt TB.out); have T2 := Lib.hid (B7.keep hb UB.out.lt UB.out); have KB := KN; have TB := T1; have UB := T2; clear KN T1 T2 hb; obtain ⟨⟨c0, c1, c2, c3, c4, c5, c6⟩, -⟩ := TB.out; obtain ⟨⟨e0, e1, e2, e3, e4, e5, e6⟩, -⟩ := UB.out))
  go_ret
  exact ⟨rfl, KB.out⟩
 ·rw [decide_eq_false hz] at SS0
  rw [if_pos hz]
  clear hz
  obtain ⟨m, hmm⟩ : ∃ m, vs.length = m := ⟨_, rfl⟩
  obtain ⟨n, hnn⟩ : ∃ n, zs.length = n := ⟨_, rfl⟩
  obtain ⟨m', hmm'⟩ : ∃ m, us.length = m := ⟨_, rfl⟩
  obtain ⟨n', hnn'⟩ : ∃ n, zs'.length = n := ⟨_, rfl⟩
  rw [hmm, hnn] at TV0 ⊢; rw [hmm', hnn'] at UV0 ⊢; rw [hnn, hnn'] at SS0
  have KB : Hid (Below w.heap.size w ((w.alloc (Obj.cells #[Value.int .i64 K, Value.int .i64 B, Value.int .i64 F, Value.int .i64 R, Value.int .i64 O, Value.slice p n c, Value.slice q m d] 27)).alloc (Obj.cells #[Value.int .i64 K', Value.int .i64 B', Value.int .i64 F', Value.int .i64 R', Value.int .i64 O', Value.slice p' n' c', Value.slice q' m' d'] 27))) := Lib.hid (((Below.refl _ _).alloc (Nat.le_refl _) _).alloc (by simp) _)
  have TB : Hid (B7 ((w.alloc (Obj.cells #[Value.int .i64 K, Value.int .i64 B, Value.int .i64 F, Value.int .i64 R, Value.int .i64 O, Value.slice p n c, Value.slice q m d] 27)).alloc (Obj.cells #[Value.int .i64 K', Value.int .i64 B', Value.int .i64 F', Value.int .i64 R', Value.int .i64 O', Value.slice p' n' c', Value.slice q' m' d'] 27)) (w.heap.size) (.int .i64 K) (.int .i64 B) (.int .i64 F) (.int .i64 R) (.int .i64 O) (.slice p n c) (.slice q m d)) := Lib.hid ((B7.new w _ (.int .i64 K) (.int .i64 B) (.int .i64 F) (.int .i64 R) (.int .i64 O) (.slice p n c) (.slice q m d)).alloc _)
  have UB : Hid (B7 ((w.alloc (Obj.cells #[Value.int .i64 K, Value.int .i64 B, Value.int .i64 F, Value.int .i64 R, Value.int .i64 O, Value.slice p n c, Value.slice q m d] 27)).alloc (Obj.cells #[Value.int .i64 K', Value.int .i64 B', Value.int .i64 F', Value.int .i64 R', Value.int .i64 O', Value.slice p' n' c', Value.slice q' m' d'] 27)) (w.heap.size + 1) (.int .i64 K') (.int .i64 B') (.int .i64 F') (.int .i64 R') (.int .i64 O') (.slice p' n' c') (.slice q' m' d')) := Lib.hid (by
   have h := B7.new (w.alloc (Obj.cells #[Value.int .i64 K, Value.int .i64 B, Value.int .i64 F, Value.int .i64 R, Value.int .i64 O, Value.slice p n c, Value.slice q m d] 27)) 27 (.int .i64 K') (.int .i64 B') (.int .i64 F') (.int .i64 R') (.int .i64 O') (.slice p' n' c') (.slice q' m' d')
   have e : (w.alloc (Obj.cells #[Value.int .i64 K, Value.int .i64 B, Value.int .i64 F, Value.int .i64 R, Value.int .i64 O, Value.slice p n c, Value.slice q m d] 27)).heap.size = w.heap.size + 1 := by simp
   rw [e] at h
   exact h)
  have TV := Lib.hid TV0
  have UV := Lib.hid UV0
  have SS := Lib.hid SS0
  clear TV0 UV0 SS0 hm hn hm' hn' hmm hnn hmm' hnn'
  unfold Tn at *
  go_enter Tryz.func62, Tryz.ntmps62
  go_wp2_with (first | (go_at_call 21; (with_reducible refine (TV.out _ (Lib.hid (SlI.keep KB.out RA.out)) (Lib.hid (SlV.below RB.out KB.out))).mono ?_); rintro e w1 ⟨rfl, hb⟩; have KN := Lib.hid (KB.out.trans (hb.mono KB.out.size)); have T1 := Lib.hid (B7.keep hb TB.out.lt TB.out); have T2 := Lib.hid (B7.keep hb UB.out.lt UB.out); have KB := KN; have TB := T1; have UB := T2; clear KN T1 T2 hb; obtain ⟨⟨c0, c1, c2, c3, c4, c5, c6⟩, -⟩ := TB.out; obtain ⟨⟨e0, e1, e2, e3, e4, e5, e6⟩, -⟩ := UB.out) | (go_at_call 21; (with_reducible refine (UV.out _ (Lib.hid (SlI.keep KB.out RA'.out)) (Lib.hid (SlV.below RB'.out KB.out))).mono ?_); rintro e w2 ⟨rfl, hb⟩; have KN := Lib.hid (KB.out.trans (hb.mono KB.out.size)); have T1 := Lib.hid (B7.keep hb TB.out.lt TB.out); have T2 := Lib.hid (B7.keep hb UB.out.lt UB.out); have KB := KN; have TB := T1; have UB := T2; clear KN T1 T2 hb; obtain ⟨⟨c0, c1, c2, c3, c4, c5, c6⟩, -⟩ := TB.out; obtain ⟨⟨e0, e1, e2, e3, e4, e5, e6⟩, -⟩ := UB.out) | (go_at_call 28; (with_reducible refine (SS.out _ (Lib.hid (SlI.keep KB.out RA.out)) (Lib.hid (SlI.keep KB.out RA'.out))).mono ?_); rintro e w3 ⟨rfl, k1, rfl⟩; have hb := below_drewN (Below.refl w2.heap.size w2) k1; have KN := Lib.hid (KB.out.trans (hb.mono KB.out.size)); have T1 := Lib.hid (B7.keep hb TB.out.lt TB.out); have T2 := Lib.hid (B7.keep hb UB.out.lt UB.out); have KB := KN; have TB := T1; have UB := T2; clear KN T1 T2 hb; obtain ⟨⟨c0, c1, c2, c3, c4, c5, c6⟩, -⟩ := TB.out; obtain ⟨⟨e0, e1, e2, e3, e4, e5, e6⟩, -⟩ := UB.out))
  go_ret
  exact ⟨rfl, KB.out⟩

theorem pair (K B F R O : Int) (p : Option Addr) (zs : List Int) (c : Nat) (q : Option Addr) (vs : List (Int × Int)) (d : Nat) (K' B' F' R' O' : Int) (p' : Option Addr) (zs' : List Int) (c' : Nat) (q' : Option Addr) (us : List (Int × Int)) (d' : Nat) (w : World) (b0 : -9223372036854775808 <= B) (b1 : B <= 9223372036854775807) (b0' : -9223372036854775808 <= B') (b1' : B' <= 9223372036854775807) (hn : zs.length <= maxLen) (hm : vs.length <= maxLen) (hn' : zs'.length <= maxLen) (hm' : us.length <= maxLen) (RA : Hid (SlI w p zs)) (RB : Hid (SlV w q vs)) (RA' : Hid (SlI w p' zs')) (RB' : Hid (SlV w q' us)) :
  Calls Tryz.prog 62 #[Tn K B F R O p zs.length c q vs.length d, Tn K' B' F' R' O' p' zs'.length c' q' us.length d'] w fun en w' => en = .returned (.int .i64 (pE K B F R O zs vs K' B' F' R' O' zs' us)) /\ Below w.heap.size w w' := by
 unfold pE
 by_cases ht : tE K B F R O zs vs ≠ 0
 ·rw [if_pos ht]; exact pr_a K B F R O p zs c q vs d K' B' F' R' O' p' zs' c' q' us d' w b0 b1 b0' b1' hn hm hn' hm' RA RB RA' RB' ht
 rw [if_neg ht]
 by_cases hu : tE K' B' F' R' O' zs' us ≠ 0
 ·rw [if_pos hu]; exact pr_b K B F R O p zs c q vs d K' B' F' R' O' p' zs' c' q' us d' w b0 b1 b0' b1' hn hm hn' hm' RA RB RA' RB' (Classical.not_not.1 ht) hu
 rw [if_neg hu]
 by_cases hT : K = K' /\ B = B' /\ F = F' /\ R = R' /\ O = O'
 ·have e : ¬ tyEq K B F R O K' B' F' R' O' = false := by
   obtain ⟨rfl, rfl, rfl, rfl, rfl⟩ := hT
   rw [tyEq_same]; decide
  rw [if_neg e]
  exact pr_d K B F R O p zs c q vs d K' B' F' R' O' p' zs' c' q' us d' w b0 b1 b0' b1' hn hm hn' hm' RA RB RA' RB' (Classical.not_not.1 ht) (Classical.not_not.1 hu) hT
 ·rw [if_pos (tyEq_no hT)]
  exact pr_c K B F R O p zs c q vs d K' B' F' R' O' p' zs' c' q' us d' w b0 b1 b0' b1' hn hm hn' hm' RA RB RA' RB' (Classical.not_not.1 ht) (Classical.not_not.1 hu) hT
end Go.Proofs.YteaaikmejacpaaaGreatDoor.Te

namespace Go.Proofs.YteaaikmejacpaaaGreatDoor.Te
open Go.ChangeShapes Go.WideShapes Go.ChangeAt Go.RowKit
open Fr Fx Va Sh
set_option maxRecDepth 8000
set_option linter.unusedVariables false
set_option linter.unusedSimpArgs false

/-- An answer of Zip: what it is, and how often the function was called. -/
def ZQ (cb cnt : Nat) (E K B F R O : Int) (zs : List Int) (vl : List (Int × Int)) (w : World) (en : Ending) (w' : World) : Prop := ∃ p c q d n m, en = .returned (.tuple #[.agg #[.int .i64 K, .int .i64 B, .int .i64 F, .int .i64 R, .int .i64 O, .slice p n c, .slice q m d], .int .i64 E]) /\ zs.length = n /\ vl.length = m /\ w'.ownsRow w.heap.size 3 1 (.slice p n c) n (zs.map (Value.int .i64)) /\ w'.ownsRow w.heap.size 29 2 (.slice q m d) m (flV vl) /\ BelowX cb w.heap.size w w' /\ w'.cell? ⟨cb, 0, none⟩ = some (.int .i64 cnt) /\ w'.frozen? ⟨cb, 0, none⟩ = false
def ZP (cb cnt : Nat) (E K B F R O : Int) (zs : List Int) (vl : List (Int × Int)) (w : World) (en : Ending) (w' : World) : Prop := (E ≠ 0 /\ ZQ cb cnt E 0 0 0 0 0 [] [] w en w') \/ (E = 0 /\ ZQ cb cnt 0 K B F R O zs vl w en w')
theorem BelowX.keep {x B : Nat} {u v : World} (h : BelowX x B u v) {g o : Nat} {z : Value} (hg : g < B) (hx : g ≠ x) (hc : u.cell? ⟨g, o, none⟩ = some z) : v.cell? ⟨g, o, none⟩ = some z := h.cell hg hx hc
theorem BelowX.drew {x B : Nat} {u v : World} (h : BelowX x B u v) : BelowX x B u v.drew := ⟨h.os, h.tape, h.output, h.size, h.block⟩
theorem BelowX.grow {x B : Nat} {u v v' : World} (h : BelowX x B u v) (hb : Below v.heap.size v v') (hB : B <= v.heap.size) : BelowX x B u v' := h.trans ((bx_of hb).mono hB)

section
variable {x B r g o : Nat} {u v : World} {x0 x1 x2 x3 x4 x5 x6 z : Value} {fz : Bool}
theorem BelowX.hi0 {y : Value} (h : BelowX x B u v) (hb : B <= g) : BelowX x B u (v.setCell ⟨g, o, none⟩ y) := h.trans (bx_of ((Below.refl B v).setCell (p := ⟨g, o, none⟩) hb y))
theorem bx_set7 (h : BelowX x B u v) (hr : B <= r) : BelowX x B u (((((((v.setCell ⟨r, 0, none⟩ x0).setCell ⟨r, 1, none⟩ x1).setCell ⟨r, 2, none⟩ x2).setCell ⟨r, 3, none⟩ x3).setCell ⟨r, 4, none⟩ x4).setCell ⟨r, 5, none⟩ x5).setCell ⟨r, 6, none⟩ x6) := ((((((h.hi0 hr).hi0 hr).hi0 hr).hi0 hr).hi0 hr).hi0 hr).hi0 hr
theorem cell_set7 (h : v.cell? ⟨g, o, none⟩ = some z) (hr : r ≠ g) : (((((((v.setCell ⟨r, 0, none⟩ x0).setCell ⟨r, 1, none⟩ x1).setCell ⟨r, 2, none⟩ x2).setCell ⟨r, 3, none⟩ x3).setCell ⟨r, 4, none⟩ x4).setCell ⟨r, 5, none⟩ x5).setCell ⟨r, 6, none⟩ x6).cell? ⟨g, o, none⟩ = some z := by
 rw [World.cell?_setCell_far _ _ _ _ hr, World.cell?_setCell_far _ _ _ _ hr, World.cell?_setCell_far _ _ _ _ hr, World.cell?_setCell_far _ _ _ _ hr, World.cell?_setCell_far _ _ _ _ hr, World.cell?_setCell_far _ _ _ _ hr, World.cell?_setCell_far _ _ _ _ hr]
 exact h
theorem froz_set7 (h : v.frozen? ⟨g, o, none⟩ = fz) : (((((((v.setCell ⟨r, 0, none⟩ x0).setCell ⟨r, 1, none⟩ x1).setCell ⟨r, 2, none⟩ x2).setCell ⟨r, 3, none⟩ x3).setCell ⟨r, 4, none⟩ x4).setCell ⟨r, 5, none⟩ x5).setCell ⟨r, 6, none⟩ x6).frozen? ⟨g, o, none⟩ = fz := by
 simpa [World.frozen?_setCell] using h
end
theorem BelowX.hi {x B g o : Nat} {u v : World} {y : Value} (h : BelowX x B u v) (hb : B <= g) : BelowX x B u (v.setCell ⟨g, o, none⟩ y) := h.trans (bx_of ((Below.refl B v).setCell (p := ⟨g, o, none⟩) hb y))
theorem B2.keepX {x B b : Nat} {u u' : World} {y z : Value} (hb : BelowX x B u u') (hlt : b < B) (hx : b ≠ x) (h : B2 u b y z) : B2 u' b y z := ⟨⟨hb.cell hlt hx h.1.1, hb.cell hlt hx h.1.2⟩, hb.froz hlt hx h.2.1, hb.froz hlt hx h.2.2⟩

set_option maxRecDepth 100000 in
set_option maxHeartbeats 2000000 in
theorem zp_g (K B F R O : Int) (p : Option Addr) (zs : List Int) (c : Nat) (q : Option Addr) (vs : List (Int × Int)) (d : Nat) (p' : Option Addr) (c' : Nat) (q' : Option Addr) (us : List (Int × Int)) (d' : Nat) (op stop : Int) (cb ga go gs : Nat) (wL w : World) (b0 : -9223372036854775808 <= B) (b1 : B <= 9223372036854775807) (hn : zs.length <= maxLen) (hm : vs.length <= maxLen) (hm' : us.length <= maxLen) (RL : Hid (SlI wL p zs)) (RM : Hid (SlV wL q vs)) (RL' : Hid (SlI wL p' zs)) (RM' : Hid (SlV wL q' us)) (KL : Hid (Below wL.heap.size wL w)) (hcb : wL.heap.size <= cb) (hcw : cb < w.heap.size) (ht : tE K B F R O zs vs = 0) (hu : tE K B F R O zs us = 0)
  (cc : w.cell? ⟨cb, 0, none⟩ = some (.int .i64 0)) (cf : w.frozen? ⟨cb, 0, none⟩ = false) (t0 : w.cell? ⟨ga, 0, none⟩ = some (.int .i64 K)) (t1 : w.cell? ⟨ga, 1, none⟩ = some (.int .i64 B)) (t2 : w.cell? ⟨ga, 2, none⟩ = some (.int .i64 F)) (t3 : w.cell? ⟨ga, 3, none⟩ = some (.int .i64 R)) (t4 : w.cell? ⟨ga, 4, none⟩ = some (.int .i64 O)) (t5 : w.cell? ⟨go, 0, none⟩ = some (.int .i64 op)) (t6 : w.cell? ⟨gs, 0, none⟩ = some (.int .i64 stop)) (ne1 : cb ≠ ga) (ne2 : cb ≠ go) (ne3 : cb ≠ gs) :
  Calls Tryz.prog 29 #[Tn K B F R O p zs.length c q vs.length d, Tn K B F R O p' zs.length c' q' us.length d', (.func (.func 30) #[] #[.pointer (some ⟨cb, 0, none⟩), .pointer (some ⟨ga, 0, none⟩), .pointer (some ⟨go, 0, none⟩), .pointer (some ⟨gs, 0, none⟩)])] w (ZP cb (zn (zr op stop K B F R O vs us) vs.length 0) (fe (zr op stop K B F R O vs us) vs.length 0) K B F R O zs (zl op stop K B F R O vs us vs.length) w) := by
 have RA := Lib.hid (RL.out.keep KL.out)
 have RB := Lib.hid (RM.out.below KL.out)
 have RA' := Lib.hid (RL'.out.keep KL.out)
 have RB' := Lib.hid (RM'.out.below KL.out)
 obtain ⟨hty, hv, hl, -⟩ := tE_ok ht
 obtain ⟨-, -, hl', -⟩ := tE_ok hu
 obtain ⟨h6, -, -, hsp, h1s⟩ := valid_of hv
 have h1 := h1s 0
 rw [List.drop_zero] at h1
 have hmu : us.length = vs.length := by omega
 have TV0 := fun u h1 h2 => tval K B F R O p zs c q vs d u b0 b1 hn hm h1 h2
 have UV0 := fun u h1 h2 => tval K B F R O p' zs c' q' us d' u b0 b1 hn hm' h1 h2
 have SS0 := fun u h1 h2 => c31 p p' zs zs c c' u hn hn h1 h2
 have DT0 := fun u h1 h2 => dtens K B F R O p zs c q vs d u h6 (by omega) (by omega) h1 h2
 have VV0 := fun x y u => c_va K B F R O x y u b0 b1
 have ZC0 := fun x0 x1 y0 y1 k bad u => zclo op stop K B F R O x0 x1 y0 y1 k cb ga go gs u bad
 unfold TW at DT0
 rw [ht] at TV0
 rw [hu] at UV0
 rw [decide_eq_true rfl] at SS0
 obtain ⟨E, hE⟩ : ∃ E, fe (zr op stop K B F R O vs us) vs.length 0 = E := ⟨_, rfl⟩
 obtain ⟨cnt, hcn⟩ : ∃ E, zn (zr op stop K B F R O vs us) vs.length 0 = E := ⟨_, rfl⟩
 rw [hE, hcn]
 obtain ⟨m, hmm⟩ : ∃ m, vs.length = m := ⟨_, rfl⟩
 obtain ⟨n, hnn⟩ : ∃ n, zs.length = n := ⟨_, rfl⟩
 rw [hmm] at hmu hE hcn hl
 rw [hmm, hnn] at TV0 DT0
 rw [hmu, hnn] at UV0
 rw [hnn] at SS0
 rw [hmm, hnn, hmu]
 have HM := Lib.hid hmm
 have HN := Lib.hid hnn
 have HMU := Lib.hid hmu
 have HE := Lib.hid hE
 have HC := Lib.hid hcn
 have hm1 : 0 < m := by omega
 have hm4 : m <= 4096 := by omega
 have KB : Hid (Below w.heap.size w (((w.alloc (Obj.cells #[Value.int .i64 K, Value.int .i64 B, Value.int .i64 F, Value.int .i64 R, Value.int .i64 O, Value.slice p n c, Value.slice q m d] 27)).alloc (Obj.cells #[Value.int .i64 K, Value.int .i64 B, Value.int .i64 F, Value.int .i64 R, Value.int .i64 O, Value.slice p' n c', Value.slice q' m d'] 27)).alloc (Obj.cells #[Value.int .i64 0, Value.int .i64 0, Value.int .i64 0, Value.int .i64 0, Value.int .i64 0, Value.slice none 0 0, Value.slice none 0 0] 27))) := Lib.hid ((((Below.refl _ _).alloc (Nat.le_refl _) _).alloc (by simp) _).alloc (by simp; omega) _)
 have TB : Hid (B7 (((w.alloc (Obj.cells #[Value.int .i64 K, Value.int .i64 B, Value.int .i64 F, Value.int .i64 R, Value.int .i64 O, Value.slice p n c, Value.slice q m d] 27)).alloc (Obj.cells #[Value.int .i64 K, Value.int .i64 B, Value.int .i64 F, Value.int .i64 R, Value.int .i64 O, Value.slice p' n c', Value.slice q' m d'] 27)).alloc (Obj.cells #[Value.int .i64 0, Value.int .i64 0, Value.int .i64 0, Value.int .i64 0, Value.int .i64 0, Value.slice none 0 0, Value.slice none 0 0] 27)) (w.heap.size) (.int .i64 K) (.int .i64 B) (.int .i64 F) (.int .i64 R) (.int .i64 O) (.slice p n c) (.slice q m d)) := Lib.hid (((B7.new w _ (.int .i64 K) (.int .i64 B) (.int .i64 F) (.int .i64 R) (.int .i64 O) (.slice p n c) (.slice q m d)).alloc _).alloc _)
 have UB : Hid (B7 (((w.alloc (Obj.cells #[Value.int .i64 K, Value.int .i64 B, Value.int .i64 F, Value.int .i64 R, Value.int .i64 O, Value.slice p n c, Value.slice q m d] 27)).alloc (Obj.cells #[Value.int .i64 K, Value.int .i64 B, Value.int .i64 F, Value.int .i64 R, Value.int .i64 O, Value.slice p' n c', Value.slice q' m d'] 27)).alloc (Obj.cells #[Value.int .i64 0, Value.int .i64 0, Value.int .i64 0, Value.int .i64 0, Value.int .i64 0, Value.slice none 0 0, Value.slice none 0 0] 27)) (w.heap.size + 1) (.int .i64 K) (.int .i64 B) (.int .i64 F) (.int .i64 R) (.int .i64 O) (.slice p' n c') (.slice q' m d')) := Lib.hid (by
  have h := B7.new (w.alloc (Obj.cells #[Value.int .i64 K, Value.int .i64 B, Value.int .i64 F, Value.int .i64 R, Value.int .i64 O, Value.slice p n c, Value.slice q m d] 27)) 27 (.int .i64 K) (.int .i64 B) (.int .i64 F) (.int .i64 R) (.int .i64 O) (.slice p' n c') (.slice q' m d')
  have e : (w.alloc (Obj.cells #[Value.int .i64 K, Value.int .i64 B, Value.int .i64 F, Value.int .i64 R, Value.int .i64 O, Value.slice p n c, Value.slice q m d] 27)).heap.size = w.heap.size + 1 := by simp
  rw [e] at h
  exact h.alloc _)
 have ZB : Hid (B7 (((w.alloc (Obj.cells #[Value.int .i64 K, Value.int .i64 B, Value.int .i64 F, Value.int .i64 R, Value.int .i64 O, Value.slice p n c, Value.slice q m d] 27)).alloc (Obj.cells #[Value.int .i64 K, Value.int .i64 B, Value.int .i64 F, Value.int .i64 R, Value.int .i64 O, Value.slice p' n c', Value.slice q' m d'] 27)).alloc (Obj.cells #[Value.int .i64 0, Value.int .i64 0, Value.int .i64 0, Value.int .i64 0, Value.int .i64 0, Value.slice none 0 0, Value.slice none 0 0] 27)) (w.heap.size + 1 + 1) (.int .i64 0) (.int .i64 0) (.int .i64 0) (.int .i64 0) (.int .i64 0) (.slice none 0 0) (.slice none 0 0)) := Lib.hid (by
  have h := B7.new ((w.alloc (Obj.cells #[Value.int .i64 K, Value.int .i64 B, Value.int .i64 F, Value.int .i64 R, Value.int .i64 O, Value.slice p n c, Value.slice q m d] 27)).alloc (Obj.cells #[Value.int .i64 K, Value.int .i64 B, Value.int .i64 F, Value.int .i64 R, Value.int .i64 O, Value.slice p' n c', Value.slice q' m d'] 27)) 27 (.int .i64 0) (.int .i64 0) (.int .i64 0) (.int .i64 0) (.int .i64 0) (.slice none 0 0) (.slice none 0 0)
  have e : ((w.alloc (Obj.cells #[Value.int .i64 K, Value.int .i64 B, Value.int .i64 F, Value.int .i64 R, Value.int .i64 O, Value.slice p n c, Value.slice q m d] 27)).alloc (Obj.cells #[Value.int .i64 K, Value.int .i64 B, Value.int .i64 F, Value.int .i64 R, Value.int .i64 O, Value.slice p' n c', Value.slice q' m d'] 27)).heap.size = w.heap.size + 1 + 1 := by simp
  rw [e] at h
  exact h)
 have TV := Lib.hid TV0
 have UV := Lib.hid UV0
 have SS := Lib.hid SS0
 have DT := Lib.hid DT0
 have VVA := Lib.hid VV0
 have ZC := Lib.hid ZC0
 have CW := Lib.hid (And.intro cc cf)
 have TW7 := Lib.hid (And.intro t0 (And.intro t1 (And.intro t2 (And.intro t3 (And.intro t4 (And.intro t5 t6))))))
 have lga : ga < w.heap.size := World.block_lt_of_cell? _ _ t0
 have lgo : go < w.heap.size := World.block_lt_of_cell? _ _ t5
 have lgs : gs < w.heap.size := World.block_lt_of_cell? _ _ t6
 have EN : (binOp .eql 50 (.func (.func 30) #[] #[.pointer (some ⟨cb, 0, none⟩), .pointer (some ⟨ga, 0, none⟩), .pointer (some ⟨go, 0, none⟩), .pointer (some ⟨gs, 0, none⟩)]) Value.nilFunc).run Tryz.prog (((w.alloc (Obj.cells #[Value.int .i64 K, Value.int .i64 B, Value.int .i64 F, Value.int .i64 R, Value.int .i64 O, Value.slice p n c, Value.slice q m d] 27)).alloc (Obj.cells #[Value.int .i64 K, Value.int .i64 B, Value.int .i64 F, Value.int .i64 R, Value.int .i64 O, Value.slice p' n c', Value.slice q' m d'] 27)).alloc (Obj.cells #[Value.int .i64 0, Value.int .i64 0, Value.int .i64 0, Value.int .i64 0, Value.int .i64 0, Value.slice none 0 0, Value.slice none 0 0] 27)) = .ok (.bool false) (((w.alloc (Obj.cells #[Value.int .i64 K, Value.int .i64 B, Value.int .i64 F, Value.int .i64 R, Value.int .i64 O, Value.slice p n c, Value.slice q m d] 27)).alloc (Obj.cells #[Value.int .i64 K, Value.int .i64 B, Value.int .i64 F, Value.int .i64 R, Value.int .i64 O, Value.slice p' n c', Value.slice q' m d'] 27)).alloc (Obj.cells #[Value.int .i64 0, Value.int .i64 0, Value.int .i64 0, Value.int .i64 0, Value.int .i64 0, Value.slice none 0 0, Value.slice none 0 0] 27)) := by kernel_rfl
 clear ht hu hv hl hl' hsp h1s h1 hmu hmm hnn hE hcn hm hn hm' TV0 UV0 SS0 DT0 VV0 ZC0 cc cf t0 t1 t2 t3 t4 t5 t6
 unfold Tn at *
 go_enter Tryz.func29, Tryz.ntmps29
 go_upto_region 15 with (first | (go_at_call 20; (with_reducible refine (TV.out _ (Lib.hid (SlI.keep KB.out RA.out)) (Lib.hid (SlV.below RB.out KB.out))).mono ?_); rintro e w1 ⟨rfl, hb⟩; have KN := Lib.hid (KB.out.trans (hb.mono KB.out.size)); have T1 := Lib.hid (B7.keep hb TB.out.lt TB.out); have T2 := Lib.hid (B7.keep hb UB.out.lt UB.out); have T3 := Lib.hid (B7.keep hb ZB.out.lt ZB.out); have KB := KN; have TB := T1; have UB := T2; have ZB := T3; clear KN T1 T2 T3 hb; obtain ⟨⟨c0, c1, c2, c3, c4, c5, c6⟩, -⟩ := TB.out; obtain ⟨⟨e0, e1, e2, e3, e4, e5, e6⟩, -⟩ := UB.out; obtain ⟨⟨z0, z1, z2, z3, z4, z5, z6⟩, ⟨f0, f1, f2, f3, f4, f5, f6⟩⟩ := ZB.out; have lr : w.heap.size + 1 + 1 < w1.heap.size := ZB.out.lt) | (go_at_call 20; (with_reducible refine (UV.out _ (Lib.hid (SlI.keep KB.out RA'.out)) (Lib.hid (SlV.below RB'.out KB.out))).mono ?_); rintro e w2 ⟨rfl, hb⟩; have KN := Lib.hid (KB.out.trans (hb.mono KB.out.size)); have T1 := Lib.hid (B7.keep hb TB.out.lt TB.out); have T2 := Lib.hid (B7.keep hb UB.out.lt UB.out); have T3 := Lib.hid (B7.keep hb ZB.out.lt ZB.out); have KB := KN; have TB := T1; have UB := T2; have ZB := T3; clear KN T1 T2 T3 hb; obtain ⟨⟨c0, c1, c2, c3, c4, c5, c6⟩, -⟩ := TB.out; obtain ⟨⟨e0, e1, e2, e3, e4, e5, e6⟩, -⟩ := UB.out; obtain ⟨⟨z0, z1, z2, z3, z4, z5, z6⟩, ⟨f0, f1, f2, f3, f4, f5, f6⟩⟩ := ZB.out; have lr : w.heap.size + 1 + 1 < w2.heap.size := ZB.out.lt) | (go_at_call 60; (with_reducible refine (SS.out _ (Lib.hid (SlI.keep KB.out RA.out)) (Lib.hid (SlI.keep KB.out RA'.out))).mono ?_); rintro e w3 ⟨rfl, k1, rfl⟩; have hb := below_drewN (Below.refl w2.heap.size w2) k1; have KN := Lib.hid (KB.out.trans (hb.mono KB.out.size)); have T1 := Lib.hid (B7.keep hb TB.out.lt TB.out); have T2 := Lib.hid (B7.keep hb UB.out.lt UB.out); have T3 := Lib.hid (B7.keep hb ZB.out.lt ZB.out); have KB := KN; have TB := T1; have UB := T2; have ZB := T3; clear KN T1 T2 T3 hb; obtain ⟨⟨c0, c1, c2, c3, c4, c5, c6⟩, -⟩ := TB.out; obtain ⟨⟨e0, e1, e2, e3, e4, e5, e6⟩, -⟩ := UB.out; obtain ⟨⟨z0, z1, z2, z3, z4, z5, z6⟩, ⟨f0, f1, f2, f3, f4, f5, f6⟩⟩ := ZB.out; have lr : w.heap.size + 1 + 1 < (w2.drewN k1).heap.size := ZB.out.lt) | (go_at_call 45; (with_reducible refine (DT.out _ (Lib.hid (SlI.keep KB.out RA.out)) (Lib.hid (SlV.below RB.out KB.out))).mono ?_); rintro e w4 ⟨v, rfl, rp, rc, rq, rd, rfl, hP, hV, hb⟩; have HP := Lib.hid hP; have HV := Lib.hid hV; clear hP hV; have KN := Lib.hid (KB.out.trans (hb.mono KB.out.size)); have T1 := Lib.hid (B7.keep hb TB.out.lt TB.out); have T2 := Lib.hid (B7.keep hb UB.out.lt UB.out); have T3 := Lib.hid (B7.keep hb ZB.out.lt ZB.out); have KB := KN; have TB := T1; have UB := T2; have ZB := T3; clear KN T1 T2 T3 hb; obtain ⟨⟨c0, c1, c2, c3, c4, c5, c6⟩, -⟩ := TB.out; obtain ⟨⟨e0, e1, e2, e3, e4, e5, e6⟩, -⟩ := UB.out; obtain ⟨⟨z0, z1, z2, z3, z4, z5, z6⟩, ⟨f0, f1, f2, f3, f4, f5, f6⟩⟩ := ZB.out; have lr : w.heap.size + 1 + 1 < w4.heap.size := ZB.out.lt))
 obtain ⟨gq, rfl, hgq1, hgq2, hrd1, hrd2⟩ := own_some HV.out hm1
 have hbs : w.heap.size + 1 + 1 < (w2.drewN k1).heap.size := by assumption
 obtain ⟨bs, hbb⟩ : ∃ b, (w2.drewN k1).heap.size = b := ⟨_, rfl⟩
 rw [hbb] at HP HV hgq1 hbs
 have W4 : Below w4.heap.size w4 (w4.alloc (Obj.cells #[Value.int .i64 K, Value.int .i64 B, Value.int .i64 F, Value.int .i64 R, Value.int .i64 O, Value.slice rp n rc, Value.slice (some ⟨gq, 0, none⟩) m rd] 27)) := (Below.refl _ _).alloc (Nat.le_refl _) _
 have K5 := KB.out.trans (W4.mono KB.out.size)
 have HB0 : Hid ((B7 (w4.alloc (Obj.cells #[Value.int .i64 K, Value.int .i64 B, Value.int .i64 F, Value.int .i64 R, Value.int .i64 O, Value.slice rp n rc, Value.slice (some ⟨gq, 0, none⟩) m rd] 27)) (w.heap.size) (.int .i64 K) (.int .i64 B) (.int .i64 F) (.int .i64 R) (.int .i64 O) (.slice p n c) (.slice q m d)) /\ (B7 (w4.alloc (Obj.cells #[Value.int .i64 K, Value.int .i64 B, Value.int .i64 F, Value.int .i64 R, Value.int .i64 O, Value.slice rp n rc, Value.slice (some ⟨gq, 0, none⟩) m rd] 27)) (w.heap.size + 1) (.int .i64 K) (.int .i64 B) (.int .i64 F) (.int .i64 R) (.int .i64 O) (.slice p' n c') (.slice q' m d')) /\ (B7 (w4.alloc (Obj.cells #[Value.int .i64 K, Value.int .i64 B, Value.int .i64 F, Value.int .i64 R, Value.int .i64 O, Value.slice rp n rc, Value.slice (some ⟨gq, 0, none⟩) m rd] 27)) (w.heap.size + 1 + 1) (.int .i64 0) (.int .i64 0) (.int .i64 0) (.int .i64 0) (.int .i64 0) (.slice none 0 0) (.slice none 0 0)) /\ (B7 (w4.alloc (Obj.cells #[Value.int .i64 K, Value.int .i64 B, Value.int .i64 F, Value.int .i64 R, Value.int .i64 O, Value.slice rp n rc, Value.slice (some ⟨gq, 0, none⟩) m rd] 27)) (w4.heap.size) (.int .i64 K) (.int .i64 B) (.int .i64 F) (.int .i64 R) (.int .i64 O) (.slice rp n rc) (.slice (some ⟨gq, 0, none⟩) m rd)) /\ ((w4.alloc (Obj.cells #[Value.int .i64 K, Value.int .i64 B, Value.int .i64 F, Value.int .i64 R, Value.int .i64 O, Value.slice rp n rc, Value.slice (some ⟨gq, 0, none⟩) m rd] 27)).ownsRow bs 3 1 (.slice rp n rc) n (zs.map (Value.int .i64))) /\ ((w4.alloc (Obj.cells #[Value.int .i64 K, Value.int .i64 B, Value.int .i64 F, Value.int .i64 R, Value.int .i64 O, Value.slice rp n rc, Value.slice (some ⟨gq, 0, none⟩) m rd] 27)).ownsRow bs 29 2 (.slice (some ⟨gq, 0, none⟩) m rd) m (flV vs)) /\ BelowX cb w.heap.size w (w4.alloc (Obj.cells #[Value.int .i64 K, Value.int .i64 B, Value.int .i64 F, Value.int .i64 R, Value.int .i64 O, Value.slice rp n rc, Value.slice (some ⟨gq, 0, none⟩) m rd] 27)) /\ (w4.alloc (Obj.cells #[Value.int .i64 K, Value.int .i64 B, Value.int .i64 F, Value.int .i64 R, Value.int .i64 O, Value.slice rp n rc, Value.slice (some ⟨gq, 0, none⟩) m rd] 27)).cell? ⟨cb, 0, none⟩ = some (.int .i64 ((0 : Nat) : Int)) /\ (w4.alloc (Obj.cells #[Value.int .i64 K, Value.int .i64 B, Value.int .i64 F, Value.int .i64 R, Value.int .i64 O, Value.slice rp n rc, Value.slice (some ⟨gq, 0, none⟩) m rd] 27)).frozen? ⟨cb, 0, none⟩ = false /\ (vs.length = m /\ ∀ j, j < 0 -> vs.getD j (0, 0) = zv op stop K B F R O vs us j)) := Lib.hid ⟨B7.keep W4 TB.out.lt TB.out, B7.keep W4 UB.out.lt UB.out, B7.keep W4 ZB.out.lt ZB.out, B7.new w4 27 (.int .i64 K) (.int .i64 B) (.int .i64 F) (.int .i64 R) (.int .i64 O) (.slice rp n rc) (.slice (some ⟨gq, 0, none⟩) m rd), own_belowE HP.out W4, own_belowE HV.out W4, bx_of K5, Rg.keep K5 hcw CW.out.1, Rg.keepF K5 hcw CW.out.2, HM.out, fun j hj => by omega⟩
 have HF0 : Hid (fe (zr op stop K B F R O vs us) (m - 0) 0 = E /\ zn (zr op stop K B F R O vs us) (m - 0) 0 = cnt) := Lib.hid ⟨HE.out, HC.out⟩
 have hsz4 : w.heap.size <= w4.heap.size := KB.out.size
 clear hbb W4 K5 KB TB UB ZB HP HV c0 c1 c2 c3 c4 c5 c6 e0 e1 e2 e3 e4 e5 e6 z0 z1 z2 z3 z4 z5 z6 f0 f1 f2 f3 f4 f5 f6 lr TV UV SS DT RA RB RA' RB' EN
 generalize (w4.alloc (Obj.cells #[Value.int .i64 K, Value.int .i64 B, Value.int .i64 F, Value.int .i64 R, Value.int .i64 O, Value.slice rp n rc, Value.slice (some ⟨gq, 0, none⟩) m rd] 27)) = w5 at *
 go_loopw [47] (fun iv wr => ∃ (i : Nat) (rl : List (Int × Int)), iv = .int .i64 (i : Int) /\ i <= m /\ Hid (fe (zr op stop K B F R O vs us) (m - i) i = E /\ zn (zr op stop K B F R O vs us) (m - i) i = cnt) /\ Hid ((B7 wr (w.heap.size) (.int .i64 K) (.int .i64 B) (.int .i64 F) (.int .i64 R) (.int .i64 O) (.slice p n c) (.slice q m d)) /\ (B7 wr (w.heap.size + 1) (.int .i64 K) (.int .i64 B) (.int .i64 F) (.int .i64 R) (.int .i64 O) (.slice p' n c') (.slice q' m d')) /\ (B7 wr (w.heap.size + 1 + 1) (.int .i64 0) (.int .i64 0) (.int .i64 0) (.int .i64 0) (.int .i64 0) (.slice none 0 0) (.slice none 0 0)) /\ (B7 wr (w4.heap.size) (.int .i64 K) (.int .i64 B) (.int .i64 F) (.int .i64 R) (.int .i64 O) (.slice rp n rc) (.slice (some ⟨gq, 0, none⟩) m rd)) /\ (wr.ownsRow bs 3 1 (.slice rp n rc) n (zs.map (Value.int .i64))) /\ (wr.ownsRow bs 29 2 (.slice (some ⟨gq, 0, none⟩) m rd) m (flV rl)) /\ BelowX cb w.heap.size w wr /\ wr.cell? ⟨cb, 0, none⟩ = some (.int .i64 ((i : Nat) : Int)) /\ wr.frozen? ⟨cb, 0, none⟩ = false /\ (rl.length = m /\ ∀ j, j < i -> rl.getD j (0, 0) = zv op stop K B F R O vs us j))) (fun iv _ => m - (intOf iv).toNat)
 case atStart => exact ⟨0, vs, rfl, Nat.zero_le _, HF0, HB0⟩
 case round =>
  obtain ⟨i, rl, rfl, hi, HF, HI⟩ := hrel
  clear HB0 HF0
  obtain ⟨TJ, UJ, ZJ, RJ, PJ, VJ, KJ, ccJ, cfJ, hrl, hrv⟩ := HI.out
  by_cases him : i < m
  ·have hi2 : (i : Int) < m := by omega
   have hi0 : (0 : Int) <= i := by omega
   have KWL := KL.out.trans (KJ.low hcb KL.out.size)
   obtain ⟨vb, vo, hqq, v0, v1⟩ := (RM.out.below KWL) i (by rw [HM.out]; exact him)
   obtain ⟨ub, uo, hqq', u0, u1⟩ := (RM'.out.below KWL) i (by rw [HMU.out]; exact him)
   have lvb : vb < wL.heap.size := by
    obtain ⟨b9, o9, e9, k9, -⟩ := RM.out i (by rw [HM.out]; exact him)
    rw [e9] at hqq
    cases hqq
    exact World.block_lt_of_cell? _ _ k9
   have lub : ub < wL.heap.size := by
    obtain ⟨b9, o9, e9, k9, -⟩ := RM'.out i (by rw [HMU.out]; exact him)
    rw [e9] at hqq'
    cases hqq'
    exact World.block_lt_of_cell? _ _ k9
   obtain ⟨x0, hx0⟩ : ∃ z, (vs.getD i (0, 0)).1 = z := ⟨_, rfl⟩
   obtain ⟨x1, hx1⟩ : ∃ z, (vs.getD i (0, 0)).2 = z := ⟨_, rfl⟩
   obtain ⟨y0, hy0⟩ : ∃ z, (us.getD i (0, 0)).1 = z := ⟨_, rfl⟩
   obtain ⟨y1, hy1⟩ : ∃ z, (us.getD i (0, 0)).2 = z := ⟨_, rfl⟩
   rw [hx0] at v0
   rw [hx1] at v1
   rw [hy0] at u0
   rw [hy1] at u1
   obtain ⟨⟨a1, a2, a3⟩, hg⟩ : ∃ r, zap op K B F R O ((i : Int) == stop) x0 x1 y0 y1 = r := ⟨_, rfl⟩
   have HZG : Hid (zg op stop K B F R O vs us i = (a1, a2, a3)) := Lib.hid (by unfold zg; rw [hx0, hx1, hy0, hy1, hg])
   have ZC1 := fun u => ZC.out x0 x1 y0 y1 i ((i : Int) == stop) u rfl (by omega)
   rw [hg] at ZC1
   have ZCI := Lib.hid ZC1
   obtain ⟨t0, t1, t2, t3, t4, t5, t6⟩ := TW7.out
   have T7 := Lib.hid (And.intro (KJ.keep lga ne1.symm t0) (And.intro (KJ.keep lga ne1.symm t1) (And.intro (KJ.keep lga ne1.symm t2) (And.intro (KJ.keep lga ne1.symm t3) (And.intro (KJ.keep lga ne1.symm t4) (And.intro (KJ.keep lgo ne2.symm t5) (KJ.keep lgs ne3.symm t6)))))))
   have CCJ := Lib.hid ccJ
   have CFJ := Lib.hid cfJ
   have VV1 := fun u => VVA.out a1 a2 u
   obtain ⟨vvb, hvv⟩ : ∃ b, vv K B F R O a1 a2 = b := ⟨_, rfl⟩
   rw [hvv] at VV1
   have VV2 := Lib.hid VV1
   have HVV := Lib.hid hvv
   have hcr : cb < wr.heap.size := Nat.lt_of_lt_of_le hcw KJ.size
   obtain ⟨⟨c0, c1, c2, c3, c4, c5, c6⟩, -⟩ := TJ
   obtain ⟨⟨e0, e1, e2, e3, e4, e5, e6⟩, -⟩ := UJ
   subst hqq hqq'
   clear hx0 hx1 hy0 hy1 hg ZC1 t0 t1 t2 t3 t4 t5 t6 ccJ cfJ VV1 hvv KWL c0 c1 c2 c3 c4 c5 e0 e1 e2 e3 e4 e5
   go_upto_region 17 with fail
   have HS : Hid (∀ u u' : World, (u.cell? ⟨w.heap.size, 6, none⟩ = some (.slice (some ⟨vb, vo, none⟩) m d) /\ u.cell? ⟨w.heap.size + 1, 6, none⟩ = some (.slice (some ⟨ub, uo, none⟩) m d') /\ u.cell? ⟨vb, vo + i * 2, none⟩ = some (.int .i64 x0) /\ u.cell? ⟨vb, vo + i * 2 + 1, none⟩ = some (.int .i64 x1) /\ u.cell? ⟨ub, uo + i * 2, none⟩ = some (.int .i64 y0) /\ u.cell? ⟨ub, uo + i * 2 + 1, none⟩ = some (.int .i64 y1) /\ BelowX cb wr.heap.size wr u) -> BelowX cb u.heap.size u u' -> (u'.cell? ⟨w.heap.size, 6, none⟩ = some (.slice (some ⟨vb, vo, none⟩) m d) /\ u'.cell? ⟨w.heap.size + 1, 6, none⟩ = some (.slice (some ⟨ub, uo, none⟩) m d') /\ u'.cell? ⟨vb, vo + i * 2, none⟩ = some (.int .i64 x0) /\ u'.cell? ⟨vb, vo + i * 2 + 1, none⟩ = some (.int .i64 x1) /\ u'.cell? ⟨ub, uo + i * 2, none⟩ = some (.int .i64 y0) /\ u'.cell? ⟨ub, uo + i * 2 + 1, none⟩ = some (.int .i64 y1) /\ BelowX cb wr.heap.size wr u')) := Lib.hid (fun u u' h hb => ⟨hb.keep (World.block_lt_of_cell? _ _ h.1) (by omega) h.1, hb.keep (World.block_lt_of_cell? _ _ h.2.1) (by omega) h.2.1, hb.keep (World.block_lt_of_cell? _ _ h.2.2.1) (by omega) h.2.2.1, hb.keep (World.block_lt_of_cell? _ _ h.2.2.2.1) (by omega) h.2.2.2.1, hb.keep (World.block_lt_of_cell? _ _ h.2.2.2.2.1) (by omega) h.2.2.2.2.1, hb.keep (World.block_lt_of_cell? _ _ h.2.2.2.2.2.1) (by omega) h.2.2.2.2.2.1, h.2.2.2.2.2.2.trans (hb.mono h.2.2.2.2.2.2.size)⟩)
   go_cut [12, 13] from 50 to 65 (fun p12 p13 wx => ∃ gv : Nat, p12 = .pointer (some ⟨gv, 0, none⟩) /\ p13 = .int .i64 a3 /\ Hid (B2 wx gv (.int .i64 a1) (.int .i64 a2)) /\ Hid (BelowX cb wr.heap.size wr wx) /\ Hid (wx.cell? ⟨cb, 0, none⟩ = some (.int .i64 ((i : Int) + 1)) /\ wx.frozen? ⟨cb, 0, none⟩ = false) /\ wr.heap.size <= gv)
   case first =>
    refine Rk.begin (S := fun wS => wS.cell? ⟨w.heap.size, 6, none⟩ = some (.slice (some ⟨vb, vo, none⟩) m d) /\ wS.cell? ⟨w.heap.size + 1, 6, none⟩ = some (.slice (some ⟨ub, uo, none⟩) m d') /\ wS.cell? ⟨vb, vo + i * 2, none⟩ = some (.int .i64 x0) /\ wS.cell? ⟨vb, vo + i * 2 + 1, none⟩ = some (.int .i64 x1) /\ wS.cell? ⟨ub, uo + i * 2, none⟩ = some (.int .i64 y0) /\ wS.cell? ⟨ub, uo + i * 2 + 1, none⟩ = some (.int .i64 y1) /\ BelowX cb wr.heap.size wr wS) 16 (by kernel_rfl) ⟨c6, e6, v0, v1, u0, u1, BelowX.drew (BelowX.refl _ _ _)⟩ (fun hHeld => ?_)
    refine SqR.p 0 ?_
    refine SqR.p 1 ?_
    refine SqR.l [16] 2 ?_
    refine SqR.p 3 ?_
    refine SqR.p 4 ?_
    refine SqR.l [16] 5 ?_
    refine SqR.p 6 ?_
    refine SqR.l [16] 7 ?_
    refine SqR.p 8 ?_
    refine SqR.p 9 ?_
    refine SqR.l [16] 10 ?_
    refine Rk.two (i := 11) (j := 15) (by kernel_rfl) rfl rfl (fun KK hK => ?_) (fun KK hK => ?_)
    ·rw [if_pos (by kernel_rfl)]
     go_simp
     ((refine (ZCI.out (wr.drew) CCJ.out CFJ.out T7.out.1 T7.out.2.1 T7.out.2.2.1 T7.out.2.2.2.1 T7.out.2.2.2.2.1 T7.out.2.2.2.2.2.1 T7.out.2.2.2.2.2.2 ne1 ne2 ne3).mono ?_); rintro e u7 ⟨rfl, hb, cc7, cf7⟩)
     have hNew := HS.out _ _ hHeld hb
     have hsu := hb.size
     try simp at hsu
     have hcu : cb < u7.heap.size := World.block_lt_of_cell? _ _ cc7
     first | (refine hK.out _ _ (fun _ => hNew) (fun _ => ?_)) | (refine hK.out _ _ hNew (fun _ => ?_)) | (go_wp2_with fail; refine hK.out _ _ hNew (fun _ => ?_))
     replace hHeld := hNew
     clear hNew hb
     clear hK KK
     refine SqR.p 12 ?_
     refine SqR.p 13 ?_
     refine SqR.p 14 ?_
     refine Rk.one (i := 15) (by kernel_rfl) rfl (fun KK hK => ?_)
     rw [if_pos (by kernel_rfl)]
     go_simp
     have hNew := HS.out _ _ hHeld (bx_of ((Below.refl _ _).alloc (Nat.le_refl _) (Obj.cells #[Value.int .i64 0, Value.int .i64 0] 29)))
     have M2 := B2.new u7 29 (.int .i64 0) (.int .i64 0)
     replace cf7 := Rg.keepF ((Below.refl _ _).alloc (Nat.le_refl _) (Obj.cells #[Value.int .i64 0, Value.int .i64 0] 29)) hcu cf7
     replace cc7 := Rg.keep ((Below.refl _ _).alloc (Nat.le_refl _) (Obj.cells #[Value.int .i64 0, Value.int .i64 0] 29)) hcu cc7
     refine hK.out _ _ hNew (fun _ => ?_)
     replace hHeld := hNew
     clear hNew
     clear hK KK
     refine Rk.tail [16, 17] [_, _] (by kernel_rfl) (by kernel_rfl) rfl (by decide) ?_
     obtain ⟨-, -, -, -, -, -, K8⟩ := hHeld
     have M9 := M2
     obtain ⟨⟨m0, m1⟩, g0, g1⟩ := M2
     have lm := M9.lt
     have hnb : wr.heap.size <= u7.heap.size := by first | exact Nat.le_refl _ | omega
     generalize (u7.alloc (Obj.cells #[Value.int .i64 0, Value.int .i64 0] 29)) = gz at *
     go_wp2_with fail
     go_meet
     exact ⟨u7.heap.size, rfl, rfl, Lib.hid M9.st, Lib.hid ((K8.hi hnb).hi hnb), Lib.hid ⟨by rw [World.cell?_setCell_far _ _ _ _ (by dsimp only; omega), World.cell?_setCell_far _ _ _ _ (by dsimp only; omega)]; exact cc7, by simpa [World.frozen?_setCell] using cf7⟩, hnb⟩
    ·rw [if_pos (by kernel_rfl)]
     go_simp
     have hNew := HS.out _ _ hHeld (bx_of ((Below.refl _ _).alloc (Nat.le_refl _) (Obj.cells #[Value.int .i64 0, Value.int .i64 0] 29)))
     have M2 : B2 ((wr.alloc (Obj.cells #[Value.int .i64 0, Value.int .i64 0] 29)).drew) wr.heap.size (.int .i64 0) (.int .i64 0) := B2.new wr _ _ _
     refine hK.out _ _ hNew (fun _ => ?_)
     replace hHeld := hNew
     clear hNew
     replace hHeld : (wr.alloc (Obj.cells #[Value.int .i64 0, Value.int .i64 0] 29)).drew.cell? ⟨w.heap.size, 6, none⟩ = some (.slice (some ⟨vb, vo, none⟩) m d) /\ (wr.alloc (Obj.cells #[Value.int .i64 0, Value.int .i64 0] 29)).drew.cell? ⟨w.heap.size + 1, 6, none⟩ = some (.slice (some ⟨ub, uo, none⟩) m d') /\ (wr.alloc (Obj.cells #[Value.int .i64 0, Value.int .i64 0] 29)).drew.cell? ⟨vb, vo + i * 2, none⟩ = some (.int .i64 x0) /\ (wr.alloc (Obj.cells #[Value.int .i64 0, Value.int .i64 0] 29)).drew.cell? ⟨vb, vo + i * 2 + 1, none⟩ = some (.int .i64 x1) /\ (wr.alloc (Obj.cells #[Value.int .i64 0, Value.int .i64 0] 29)).drew.cell? ⟨ub, uo + i * 2, none⟩ = some (.int .i64 y0) /\ (wr.alloc (Obj.cells #[Value.int .i64 0, Value.int .i64 0] 29)).drew.cell? ⟨ub, uo + i * 2 + 1, none⟩ = some (.int .i64 y1) /\ BelowX cb wr.heap.size wr (wr.alloc (Obj.cells #[Value.int .i64 0, Value.int .i64 0] 29)).drew := hHeld
     clear hK KK
     refine Rk.one (i := 11) (by kernel_rfl) rfl (fun KK hK => ?_)
     rw [if_pos (by kernel_rfl)]
     go_simp
     have W99 : Below wr.heap.size wr ((wr.alloc (Obj.cells #[Value.int .i64 0, Value.int .i64 0] 29)).drew) := ((Below.refl wr.heap.size wr).alloc (Nat.le_refl _) (Obj.cells #[Value.int .i64 0, Value.int .i64 0] 29)).drew
     ((refine (ZCI.out ((wr.alloc (Obj.cells #[Value.int .i64 0, Value.int .i64 0] 29)).drew) (Rg.keep W99 (World.block_lt_of_cell? _ _ CCJ.out) CCJ.out) (Rg.keepF W99 hcr CFJ.out) (Rg.keep W99 (World.block_lt_of_cell? _ _ T7.out.1) T7.out.1) (Rg.keep W99 (World.block_lt_of_cell? _ _ T7.out.2.1) T7.out.2.1) (Rg.keep W99 (World.block_lt_of_cell? _ _ T7.out.2.2.1) T7.out.2.2.1) (Rg.keep W99 (World.block_lt_of_cell? _ _ T7.out.2.2.2.1) T7.out.2.2.2.1) (Rg.keep W99 (World.block_lt_of_cell? _ _ T7.out.2.2.2.2.1) T7.out.2.2.2.2.1) (Rg.keep W99 (World.block_lt_of_cell? _ _ T7.out.2.2.2.2.2.1) T7.out.2.2.2.2.2.1) (Rg.keep W99 (World.block_lt_of_cell? _ _ T7.out.2.2.2.2.2.2) T7.out.2.2.2.2.2.2) ne1 ne2 ne3).mono ?_); rintro e u7 ⟨rfl, hb, cc7, cf7⟩)
     have hNew := HS.out _ _ hHeld hb
     have hsu := hb.size
     try simp at hsu
     have hcu : cb < u7.heap.size := World.block_lt_of_cell? _ _ cc7
     replace M2 := B2.keepX hb M2.lt (by omega) M2
     first | (refine hK.out _ _ (fun _ => hNew) (fun _ => ?_)) | (refine hK.out _ _ hNew (fun _ => ?_)) | (go_wp2_with fail; refine hK.out _ _ hNew (fun _ => ?_))
     replace hHeld := hNew
     clear hNew hb
     clear hK KK
     refine SqR.p 12 ?_
     refine SqR.p 13 ?_
     refine SqR.p 14 ?_
     refine Rk.tail [16, 17] [_, _] (by kernel_rfl) (by kernel_rfl) rfl (by decide) ?_
     obtain ⟨-, -, -, -, -, -, K8⟩ := hHeld
     have M9 := M2
     obtain ⟨⟨m0, m1⟩, g0, g1⟩ := M2
     have lm := M9.lt
     have hnb : wr.heap.size <= wr.heap.size := by first | exact Nat.le_refl _ | omega
     go_wp2_with fail
     go_meet
     exact ⟨wr.heap.size, rfl, rfl, Lib.hid M9.st, Lib.hid ((K8.hi hnb).hi hnb), Lib.hid ⟨by rw [World.cell?_setCell_far _ _ _ _ (by dsimp only; omega), World.cell?_setCell_far _ _ _ _ (by dsimp only; omega)]; exact cc7, by simpa [World.frozen?_setCell] using cf7⟩, hnb⟩

   case rest =>
    obtain ⟨gv, rfl, rfl, MV, KX, CX, hgv⟩ := hcut
    have nb : (Value.slice rp n rc).ownBlock ≠ some cb := blk_ne (own_lo PJ) (.inl (by omega))
    have nv : (Value.slice (some ⟨gq, 0, none⟩) m rd).ownBlock ≠ some cb := blk_ne (own_lo VJ) (.inl (by omega))
    have TX := Lib.hid (B7.keepX KX.out (B7.lt HI.out.1) (by omega) HI.out.1)
    have UX := Lib.hid (B7.keepX KX.out (B7.lt HI.out.2.1) (by omega) HI.out.2.1)
    have ZX := Lib.hid (B7.keepX KX.out (B7.lt ZJ) (by omega) ZJ)
    have RX := Lib.hid (B7.keepX KX.out (B7.lt RJ) (by omega) RJ)
    have PX := Lib.hid (own_belowX PJ KX.out nb)
    have VX := Lib.hid (own_belowX VJ KX.out nv)
    have KY := Lib.hid (KJ.trans (KX.out.mono KJ.size))
    have HRL := Lib.hid (And.intro hrl hrv)
    have hgv2 : cb ≠ gv := by omega
    have hgv3 : w.heap.size <= gv := Nat.le_trans KJ.size hgv
    have hzr : zr op stop K B F R O vs us i = if a3 ≠ 0 then a3 else if vvb = true then 0 else 1 := by
     unfold zr
     rw [HZG.out]
     dsimp only
     rw [HVV.out]
    have HZR := Lib.hid hzr
    have hstep : m - i = (m - (i + 1)) + 1 := by omega
    obtain ⟨f1, f2⟩ := HF.out
    rw [hstep] at f1 f2
    have HF1 := Lib.hid (And.intro f1 f2)
    clear nb nv ZJ RJ PJ VJ KJ HI HS KX hrl hrv hzr hstep f1 f2 c6 e6 v0 v1 u0 u1 HF T7 CCJ CFJ ZCI
    obtain ⟨⟨c0, c1, c2, c3, c4, c5, c6⟩, -⟩ := TX.out
    obtain ⟨⟨m0, m1⟩, -⟩ := MV.out
    by_cases h3 : a3 = 0
    ·subst h3
     cases vvb
     ·have hE1 : Hid (E = 1 /\ cnt = i + 1) := Lib.hid (by
       obtain ⟨f1, f2⟩ := HF1.out
       have hz1 : zr op stop K B F R O vs us i = 1 := by rw [HZR.out]; rfl
       rw [fe_stop (by rw [hz1]; decide), hz1] at f1
       unfold zn at f2
       rw [if_pos (by rw [hz1]; decide)] at f2
       exact ⟨f1.symm, f2.symm⟩)
      go_wp2_with (go_at_call 48; (with_reducible refine (VV2.out _).mono ?_); rintro e w6 ⟨rfl, hb⟩; have hlc := World.block_lt_of_cell? _ _ CX.out.1; have C6 := Lib.hid (And.intro (Rg.keep hb hlc CX.out.1) (Rg.keepF hb hlc CX.out.2)); have K6 := Lib.hid (KY.out.trans ((bx_of hb).mono KY.out.size)); have T6 := Lib.hid (B7.keep hb TX.out.lt TX.out); have U6 := Lib.hid (B7.keep hb UX.out.lt UX.out); have Z6 := Lib.hid (B7.keep hb ZX.out.lt ZX.out); have R6 := Lib.hid (B7.keep hb RX.out.lt RX.out); have P6 := Lib.hid (own_belowE PX.out hb); have V6 := Lib.hid (own_belowE VX.out hb); have M6 := Lib.hid (B2.keep hb MV.out.lt MV.out); clear hb hlc c0 c1 c2 c3 c4 c5 c6 m0 m1; obtain ⟨⟨z0, z1, z2, z3, z4, z5, z6⟩, ⟨f0, f1, f2, f3, f4, f5, f6⟩⟩ := Z6.out; have lr : w.heap.size + 1 + 1 < w6.heap.size := Z6.out.lt; obtain ⟨⟨m0, m1⟩, -⟩ := M6.out; obtain ⟨⟨r0, r1, r2, r3, r4, r5, r6⟩, -⟩ := R6.out)
      refine bodyPost_ret (v := .tuple #[.agg #[.int .i64 0, .int .i64 0, .int .i64 0, .int .i64 0, .int .i64 0, .slice none 0 0, .slice none 0 0], .int .i64 1]) (by simp [results, Tryz.results29, go_sem, z0, f0, z1, f1, z2, f2, z3, f3, z4, f4, z5, f5, z6, f6, lr]) rfl (.inl ⟨by rw [hE1.out.1]; exact (by decide), none, 0, none, 0, 0, 0, by rw [hE1.out.1], rfl, rfl, World.ownsRow_nil _ _ _ _, World.ownsRow_nil _ _ _ _, bx_set7 (x0 := .int .i64 0) (x1 := .int .i64 0) (x2 := .int .i64 0) (x3 := .int .i64 0) (x4 := .int .i64 0) (x5 := .slice none 0 0) (x6 := .slice none 0 0) K6.out (by omega), by
       rw [hE1.out.2]
       exact cell_set7 (x0 := .int .i64 0) (x1 := .int .i64 0) (x2 := .int .i64 0) (x3 := .int .i64 0) (x4 := .int .i64 0) (x5 := .slice none 0 0) (x6 := .slice none 0 0) (z := .int .i64 ((i + 1 : Nat) : Int)) (by have h := C6.out.1; push_cast; exact h) (by omega), froz_set7 (x0 := .int .i64 0) (x1 := .int .i64 0) (x2 := .int .i64 0) (x3 := .int .i64 0) (x4 := .int .i64 0) (x5 := .slice none 0 0) (x6 := .slice none 0 0) C6.out.2⟩)
     ·have hz0 : zr op stop K B F R O vs us i = 0 := by rw [HZR.out]; rfl
      have HF2 := Lib.hid (show fe (zr op stop K B F R O vs us) (m - (i + 1)) (i + 1) = E /\ zn (zr op stop K B F R O vs us) (m - (i + 1)) (i + 1) = cnt from by
       obtain ⟨f1, f2⟩ := HF1.out
       rw [fe_go hz0] at f1
       unfold zn at f2
       rw [if_neg (by rw [hz0]; decide)] at f2
       exact ⟨f1, f2⟩)
      clear hz0 HF1 HZR
      go_upto_region 22 with (go_at_call 48; (with_reducible refine (VV2.out _).mono ?_); rintro e w6 ⟨rfl, hb⟩; have hlc := World.block_lt_of_cell? _ _ CX.out.1; have C6 := Lib.hid (And.intro (Rg.keep hb hlc CX.out.1) (Rg.keepF hb hlc CX.out.2)); have K6 := Lib.hid (KY.out.trans ((bx_of hb).mono KY.out.size)); have T6 := Lib.hid (B7.keep hb TX.out.lt TX.out); have U6 := Lib.hid (B7.keep hb UX.out.lt UX.out); have Z6 := Lib.hid (B7.keep hb ZX.out.lt ZX.out); have R6 := Lib.hid (B7.keep hb RX.out.lt RX.out); have P6 := Lib.hid (own_belowE PX.out hb); have V6 := Lib.hid (own_belowE VX.out hb); have M6 := Lib.hid (B2.keep hb MV.out.lt MV.out); clear hb hlc c0 c1 c2 c3 c4 c5 c6 m0 m1; obtain ⟨⟨z0, z1, z2, z3, z4, z5, z6⟩, ⟨f0, f1, f2, f3, f4, f5, f6⟩⟩ := Z6.out; have lr : w.heap.size + 1 + 1 < w6.heap.size := Z6.out.lt; obtain ⟨⟨m0, m1⟩, -⟩ := M6.out; obtain ⟨⟨r0, r1, r2, r3, r4, r5, r6⟩, -⟩ := R6.out)
      obtain ⟨s0, p0⟩ := cell_ex (V6.out.cellAt (i * 2) (by omega)) (by rw [flV_len, HRL.out.1]; omega)
      obtain ⟨s1, p1⟩ := cell_ex (V6.out.cellAt (i * 2 + 1) (by omega)) (by rw [flV_len, HRL.out.1]; omega)
      have fp0 := V6.out.frozenAt (i * 2)
      have fp1 := V6.out.frozenAt (i * 2 + 1)
      clear z0 z1 z2 z3 z4 z5 z6 f0 f1 f2 f3 f4 f5 f6
      go_wp2_with fail
      go_roundw
      case rel =>
       have hg1 : gq ≠ w.heap.size := by omega
       have hg2 : gq ≠ w.heap.size + 1 := by omega
       have hg3 : gq ≠ w.heap.size + 1 + 1 := by omega
       have hg4 : gq ≠ w4.heap.size := by omega
       have h2 := own_two P6.out V6.out
       refine ⟨i + 1, rl.set i (a1, a2), by simp, by omega, HF2, Lib.hid ⟨(T6.out.far hg1).far hg1, (U6.out.far hg2).far hg2, (Z6.out.far hg3).far hg3, (R6.out.far hg4).far hg4, (P6.out.kept grown_set h2).kept grown_set h2, ?_, (K6.out.hi (by omega)).hi (by omega), ?_, by simpa [World.frozen?_setCell] using C6.out.2, by rw [List.length_set]; exact HRL.out.1, fun k hk => ?_⟩⟩
       ·rw [<- flV_set rl i a1 a2 (by rw [HRL.out.1]; exact him)]
        exact ((V6.out.stored (i * 2) (.int .i64 a1)).1.stored (i * 2 + 1) (.int .i64 a2)).1
       ·rw [World.cell?_setCell_far _ _ _ _ (by dsimp only; omega), World.cell?_setCell_far _ _ _ _ (by dsimp only; omega)]
        have h := C6.out.1
        push_cast
        exact h
       ·rw [List.getD_eq_getElem?_getD, List.getElem?_set]
        by_cases hki : i = k
        ·subst hki
         rw [if_pos rfl, if_pos (by rw [HRL.out.1]; exact him)]
         show (a1, a2) = zv op stop K B F R O vs us i
         unfold zv
         rw [HZG.out]
        ·rw [if_neg hki, <- List.getD_eq_getElem?_getD]
         exact HRL.out.2 k (by omega)
      case measure => simp [intOf]; omega
    ·have hE1 : Hid (E = a3 /\ cnt = i + 1) := Lib.hid (by
      obtain ⟨f1, f2⟩ := HF1.out
      have hz1 : zr op stop K B F R O vs us i = a3 := by rw [HZR.out, if_pos h3]
      rw [fe_stop (by rw [hz1]; exact h3), hz1] at f1
      unfold zn at f2
      rw [if_pos (by rw [hz1]; exact h3)] at f2
      exact ⟨f1.symm, f2.symm⟩)
     have g3 : (a3 == 0) = false := by simpa using h3
     have g4 : (a3 != 0) = true := by simpa using h3
     have HNZ := Lib.hid h3
     clear h3
     obtain ⟨⟨z0, z1, z2, z3, z4, z5, z6⟩, ⟨f0, f1, f2, f3, f4, f5, f6⟩⟩ := ZX.out
     have lr : w.heap.size + 1 + 1 < wc.heap.size := ZX.out.lt
     go_wp2_with fail
     have K6 := KY
     have C6 := CX
     refine bodyPost_ret (v := .tuple #[.agg #[.int .i64 0, .int .i64 0, .int .i64 0, .int .i64 0, .int .i64 0, .slice none 0 0, .slice none 0 0], .int .i64 a3]) (by simp [results, Tryz.results29, go_sem, z0, f0, z1, f1, z2, f2, z3, f3, z4, f4, z5, f5, z6, f6, lr]) rfl (.inl ⟨by rw [hE1.out.1]; exact HNZ.out, none, 0, none, 0, 0, 0, by rw [hE1.out.1], rfl, rfl, World.ownsRow_nil _ _ _ _, World.ownsRow_nil _ _ _ _, bx_set7 (x0 := .int .i64 0) (x1 := .int .i64 0) (x2 := .int .i64 0) (x3 := .int .i64 0) (x4 := .int .i64 0) (x5 := .slice none 0 0) (x6 := .slice none 0 0) K6.out (by omega), by
      rw [hE1.out.2]
      exact cell_set7 (x0 := .int .i64 0) (x1 := .int .i64 0) (x2 := .int .i64 0) (x3 := .int .i64 0) (x4 := .int .i64 0) (x5 := .slice none 0 0) (x6 := .slice none 0 0) (z := .int .i64 ((i + 1 : Nat) : Int)) (by have h := C6.out.1; push_cast; exact h) (by omega), froz_set7 (x0 := .int .i64 0) (x1 := .int .i64 0) (x2 := .int .i64 0) (x3 := .int .i64 0) (x4 := .int .i64 0) (x5 := .slice none 0 0) (x6 := .slice none 0 0) C6.out.2⟩)
  ·obtain rfl : i = m := by omega
   have gN : decide ((i : Int) < i) = false := by simp
   obtain ⟨hf1, hf2⟩ := HF.out
   rw [Nat.sub_self] at hf1 hf2
   have hE0 : E = 0 := hf1.symm
   have hC0 : cnt = i := hf2.symm
   have HZL := Lib.hid (zl_of hrl hrv)
   obtain ⟨⟨z0, z1, z2, z3, z4, z5, z6⟩, ⟨f0, f1, f2, f3, f4, f5, f6⟩⟩ := ZJ
   have lr : w.heap.size + 1 + 1 < wr.heap.size := B7.lt HI.out.2.2.1
   obtain ⟨⟨m0, m1, m2, m3, m4, m5, m6⟩, -⟩ := RJ
   have nP : (Value.slice rp n rc).ownBlock ≠ some (w.heap.size + 1 + 1) := blk_ne (own_lo PJ) (.inl (by omega))
   have nV : (Value.slice (some ⟨gq, 0, none⟩) i rd).ownBlock ≠ some (w.heap.size + 1 + 1) := blk_ne (own_lo VJ) (.inl (by omega))
   have HPJ := Lib.hid PJ
   have HVJ := Lib.hid VJ
   have HKJ := Lib.hid KJ
   have HCJ := Lib.hid (And.intro ccJ cfJ)
   clear hf1 hf2 hi him HF HI TJ UJ PJ VJ KJ ccJ cfJ hrl hrv
   subst hE0 hC0
   go_upto_region 24 with fail
   repeat go_step
   refine bodyPost_ret (v := .tuple #[.agg #[.int .i64 K, .int .i64 B, .int .i64 F, .int .i64 R, .int .i64 O, .slice rp n rc, .slice (some ⟨gq, 0, none⟩) cnt rd], .int .i64 0]) (by simp [results, Tryz.results29, go_sem, z0, f0, z1, f1, z2, f2, z3, f3, z4, f4, z5, f5, z6, f6, lr]) rfl (.inr ⟨rfl, rp, rc, some ⟨gq, 0, none⟩, rd, n, cnt, rfl, HN.out, zl_len .., own_base (own_set7N (x0 := .int .i64 K) (x1 := .int .i64 B) (x2 := .int .i64 F) (x3 := .int .i64 R) (x4 := .int .i64 O) (x5 := .slice rp n rc) (x6 := .slice (some ⟨gq, 0, none⟩) cnt rd) HPJ.out nP) (by omega), own_base (own_set7N (x0 := .int .i64 K) (x1 := .int .i64 B) (x2 := .int .i64 F) (x3 := .int .i64 R) (x4 := .int .i64 O) (x5 := .slice rp n rc) (x6 := .slice (some ⟨gq, 0, none⟩) cnt rd) (by rw [<- HZL.out]; exact HVJ.out) nV) (by omega), bx_set7 (x0 := .int .i64 K) (x1 := .int .i64 B) (x2 := .int .i64 F) (x3 := .int .i64 R) (x4 := .int .i64 O) (x5 := .slice rp n rc) (x6 := .slice (some ⟨gq, 0, none⟩) cnt rd) HKJ.out (by omega), cell_set7 (x0 := .int .i64 K) (x1 := .int .i64 B) (x2 := .int .i64 F) (x3 := .int .i64 R) (x4 := .int .i64 O) (x5 := .slice rp n rc) (x6 := .slice (some ⟨gq, 0, none⟩) cnt rd) HCJ.out.1 (by omega), froz_set7 (x0 := .int .i64 K) (x1 := .int .i64 B) (x2 := .int .i64 F) (x3 := .int .i64 R) (x4 := .int .i64 O) (x5 := .slice rp n rc) (x6 := .slice (some ⟨gq, 0, none⟩) cnt rd) HCJ.out.2⟩)
end Go.Proofs.YteaaikmejacpaaaGreatDoor.Te

namespace Go.Proofs.YteaaikmejacpaaaGreatDoor.Te
open Go.ChangeShapes Go.WideShapes Go.ChangeAt Go.RowKit
open Fr Fx Va Sh
set_option maxRecDepth 8000
set_option linter.unusedVariables false
set_option linter.unusedSimpArgs false

/-- An answer of zip: a tensor, how many pairs were looked at, and an error. -/
def ZT (cnt : Nat) (E K B F R O : Int) (zs : List Int) (vl : List (Int × Int)) (w : World) (en : Ending) (w' : World) : Prop := ∃ p c q d n m, en = .returned (.tuple #[.agg #[.int .i64 K, .int .i64 B, .int .i64 F, .int .i64 R, .int .i64 O, .slice p n c, .slice q m d], .int .i64 cnt, .int .i64 E]) /\ zs.length = n /\ vl.length = m /\ SlI w' p zs /\ SlV w' q vl /\ Below w.heap.size w w'
def ZS (cnt : Nat) (E K B F R O : Int) (zs : List Int) (vl : List (Int × Int)) (w : World) (en : Ending) (w' : World) : Prop := (E ≠ 0 /\ ZT cnt E 0 0 0 0 0 [] [] w en w') \/ (E = 0 /\ ZT cnt 0 K B F R O zs vl w en w')
theorem cell_drew (u : World) (a : Addr) : u.drew.cell? a = u.cell? a := rfl
section
variable {r g o : Nat} {v : World} {x0 x1 x2 x3 x4 x5 x6 z : Value}
theorem cell_set7d (h : v.cell? ⟨g, o, none⟩ = some z) (hr : r ≠ g) : (((((((v.setCell ⟨r, 0, none⟩ x0).setCell ⟨r, 1, none⟩ x1).setCell ⟨r, 2, none⟩ x2).setCell ⟨r, 3, none⟩ x3).setCell ⟨r, 4, none⟩ x4).setCell ⟨r, 5, none⟩ x5).setCell ⟨r, 6, none⟩ x6).drew.cell? ⟨g, o, none⟩ = some z := (cell_drew _ _).trans (cell_set7 h hr)
end
theorem sl_nilI (w : World) : SlI w none [] := fun i h => absurd h (by simp)
theorem sl_nilV (w : World) : SlV w none [] := fun i h => absurd h (by simp)

set_option maxRecDepth 100000 in
set_option maxHeartbeats 2000000 in
theorem rz_e (K B F R O : Int) (p : Option Addr) (zs : List Int) (c : Nat) (q : Option Addr) (vs : List (Int × Int)) (d : Nat) (K' B' F' R' O' : Int) (p' : Option Addr) (zs' : List Int) (c' : Nat) (q' : Option Addr) (us : List (Int × Int)) (d' : Nat) (op stop : Int) (w : World) (b0 : -9223372036854775808 <= B) (b1 : B <= 9223372036854775807) (b0' : -9223372036854775808 <= B') (b1' : B' <= 9223372036854775807) (hn : zs.length <= maxLen) (hm : vs.length <= maxLen) (hn' : zs'.length <= maxLen) (hm' : us.length <= maxLen) (RA : Hid (SlI w p zs)) (RB : Hid (SlV w q vs)) (RA' : Hid (SlI w p' zs')) (RB' : Hid (SlV w q' us)) (hE : pE K B F R O zs vs K' B' F' R' O' zs' us ≠ 0) :
  Calls Tryz.prog 32 #[Tn K B F R O p zs.length c q vs.length d, Tn K' B' F' R' O' p' zs'.length c' q' us.length d', .int .i64 op, .int .i64 stop] w (ZT 0 (pE K B F R O zs vs K' B' F' R' O' zs' us) 0 0 0 0 0 [] [] w) := by
 have PR0 := fun u h1 h2 h3 h4 => pair K B F R O p zs c q vs d K' B' F' R' O' p' zs' c' q' us d' u b0 b1 b0' b1' hn hm hn' hm' h1 h2 h3 h4
 obtain ⟨E, hEE⟩ : ∃ E, pE K B F R O zs vs K' B' F' R' O' zs' us = E := ⟨_, rfl⟩
 rw [hEE] at PR0 hE ⊢
 have g1 : (E == 0) = false := by simpa using hE
 have g2 : (E != 0) = true := by simpa using hE
 obtain ⟨m, hmm⟩ : ∃ m, vs.length = m := ⟨_, rfl⟩
 obtain ⟨n, hnn⟩ : ∃ n, zs.length = n := ⟨_, rfl⟩
 obtain ⟨m', hmm'⟩ : ∃ m, us.length = m := ⟨_, rfl⟩
 obtain ⟨n', hnn'⟩ : ∃ n, zs'.length = n := ⟨_, rfl⟩
 rw [hmm, hnn, hmm', hnn'] at PR0; rw [hmm, hnn, hmm', hnn']
 have KB : Hid (Below w.heap.size w (((w.alloc (Obj.cells #[Value.int .i64 K, Value.int .i64 B, Value.int .i64 F, Value.int .i64 R, Value.int .i64 O, Value.slice p n c, Value.slice q m d] 27)).alloc (Obj.cells #[Value.int .i64 K', Value.int .i64 B', Value.int .i64 F', Value.int .i64 R', Value.int .i64 O', Value.slice p' n' c', Value.slice q' m' d'] 27)).alloc (Obj.cells #[Value.int .i64 0, Value.int .i64 0, Value.int .i64 0, Value.int .i64 0, Value.int .i64 0, Value.slice none 0 0, Value.slice none 0 0] 27))) := Lib.hid ((((Below.refl _ _).alloc (Nat.le_refl _) _).alloc (by simp) _).alloc (by simp; omega) _)
 have TB : Hid (B7 (((w.alloc (Obj.cells #[Value.int .i64 K, Value.int .i64 B, Value.int .i64 F, Value.int .i64 R, Value.int .i64 O, Value.slice p n c, Value.slice q m d] 27)).alloc (Obj.cells #[Value.int .i64 K', Value.int .i64 B', Value.int .i64 F', Value.int .i64 R', Value.int .i64 O', Value.slice p' n' c', Value.slice q' m' d'] 27)).alloc (Obj.cells #[Value.int .i64 0, Value.int .i64 0, Value.int .i64 0, Value.int .i64 0, Value.int .i64 0, Value.slice none 0 0, Value.slice none 0 0] 27)) (w.heap.size) (.int .i64 K) (.int .i64 B) (.int .i64 F) (.int .i64 R) (.int .i64 O) (.slice p n c) (.slice q m d)) := Lib.hid (((B7.new w _ (.int .i64 K) (.int .i64 B) (.int .i64 F) (.int .i64 R) (.int .i64 O) (.slice p n c) (.slice q m d)).alloc _).alloc _)
 have UB : Hid (B7 (((w.alloc (Obj.cells #[Value.int .i64 K, Value.int .i64 B, Value.int .i64 F, Value.int .i64 R, Value.int .i64 O, Value.slice p n c, Value.slice q m d] 27)).alloc (Obj.cells #[Value.int .i64 K', Value.int .i64 B', Value.int .i64 F', Value.int .i64 R', Value.int .i64 O', Value.slice p' n' c', Value.slice q' m' d'] 27)).alloc (Obj.cells #[Value.int .i64 0, Value.int .i64 0, Value.int .i64 0, Value.int .i64 0, Value.int .i64 0, Value.slice none 0 0, Value.slice none 0 0] 27)) (w.heap.size + 1) (.int .i64 K') (.int .i64 B') (.int .i64 F') (.int .i64 R') (.int .i64 O') (.slice p' n' c') (.slice q' m' d')) := Lib.hid (by
  have h := B7.new (w.alloc (Obj.cells #[Value.int .i64 K, Value.int .i64 B, Value.int .i64 F, Value.int .i64 R, Value.int .i64 O, Value.slice p n c, Value.slice q m d] 27)) 27 (.int .i64 K') (.int .i64 B') (.int .i64 F') (.int .i64 R') (.int .i64 O') (.slice p' n' c') (.slice q' m' d')
  have e : (w.alloc (Obj.cells #[Value.int .i64 K, Value.int .i64 B, Value.int .i64 F, Value.int .i64 R, Value.int .i64 O, Value.slice p n c, Value.slice q m d] 27)).heap.size = w.heap.size + 1 := by simp
  rw [e] at h
  exact h.alloc _)
 have ZB : Hid (B7 (((w.alloc (Obj.cells #[Value.int .i64 K, Value.int .i64 B, Value.int .i64 F, Value.int .i64 R, Value.int .i64 O, Value.slice p n c, Value.slice q m d] 27)).alloc (Obj.cells #[Value.int .i64 K', Value.int .i64 B', Value.int .i64 F', Value.int .i64 R', Value.int .i64 O', Value.slice p' n' c', Value.slice q' m' d'] 27)).alloc (Obj.cells #[Value.int .i64 0, Value.int .i64 0, Value.int .i64 0, Value.int .i64 0, Value.int .i64 0, Value.slice none 0 0, Value.slice none 0 0] 27)) (w.heap.size + 1 + 1) (.int .i64 0) (.int .i64 0) (.int .i64 0) (.int .i64 0) (.int .i64 0) (.slice none 0 0) (.slice none 0 0)) := Lib.hid (by
  have h := B7.new ((w.alloc (Obj.cells #[Value.int .i64 K, Value.int .i64 B, Value.int .i64 F, Value.int .i64 R, Value.int .i64 O, Value.slice p n c, Value.slice q m d] 27)).alloc (Obj.cells #[Value.int .i64 K', Value.int .i64 B', Value.int .i64 F', Value.int .i64 R', Value.int .i64 O', Value.slice p' n' c', Value.slice q' m' d'] 27)) 27 (.int .i64 0) (.int .i64 0) (.int .i64 0) (.int .i64 0) (.int .i64 0) (.slice none 0 0) (.slice none 0 0)
  have e : ((w.alloc (Obj.cells #[Value.int .i64 K, Value.int .i64 B, Value.int .i64 F, Value.int .i64 R, Value.int .i64 O, Value.slice p n c, Value.slice q m d] 27)).alloc (Obj.cells #[Value.int .i64 K', Value.int .i64 B', Value.int .i64 F', Value.int .i64 R', Value.int .i64 O', Value.slice p' n' c', Value.slice q' m' d'] 27)).heap.size = w.heap.size + 1 + 1 := by simp
  rw [e] at h
  exact h)
 have PR := Lib.hid PR0
 clear hE PR0 hEE hm hn hm' hn' hmm hnn hmm' hnn'
 unfold Tn at *
 go_enter Tryz.func32, Tryz.ntmps32
 go_wp2_with (go_at_call 62; (with_reducible refine (PR.out _ (Lib.hid (SlI.keep KB.out RA.out)) (Lib.hid (SlV.below RB.out KB.out)) (Lib.hid (SlI.keep KB.out RA'.out)) (Lib.hid (SlV.below RB'.out KB.out))).mono ?_); rintro e w1 ⟨rfl, hb⟩; have KN := Lib.hid (KB.out.trans (hb.mono KB.out.size)); have T1 := Lib.hid (B7.keep hb TB.out.lt TB.out); have T2 := Lib.hid (B7.keep hb UB.out.lt UB.out); have T3 := Lib.hid (B7.keep hb ZB.out.lt ZB.out); have KB := KN; have TB := T1; have UB := T2; have ZB := T3; clear KN T1 T2 T3 hb; obtain ⟨⟨c0, c1, c2, c3, c4, c5, c6⟩, -⟩ := TB.out; obtain ⟨⟨e0, e1, e2, e3, e4, e5, e6⟩, -⟩ := UB.out; obtain ⟨⟨z0, z1, z2, z3, z4, z5, z6⟩, ⟨f0, f1, f2, f3, f4, f5, f6⟩⟩ := ZB.out; have lr : w.heap.size + 1 + 1 < w1.heap.size := ZB.out.lt)
 have SBB := (((((((KB.out).setCell (p := ⟨w.heap.size + 1 + 1, 0, none⟩) (by dsimp only; omega) (.int .i64 0)).setCell (p := ⟨w.heap.size + 1 + 1, 1, none⟩) (by dsimp only; omega) (.int .i64 0)).setCell (p := ⟨w.heap.size + 1 + 1, 2, none⟩) (by dsimp only; omega) (.int .i64 0)).setCell (p := ⟨w.heap.size + 1 + 1, 3, none⟩) (by dsimp only; omega) (.int .i64 0)).setCell (p := ⟨w.heap.size + 1 + 1, 4, none⟩) (by dsimp only; omega) (.int .i64 0)).setCell (p := ⟨w.heap.size + 1 + 1, 5, none⟩) (by dsimp only; omega) (.slice none 0 0)).setCell (p := ⟨w.heap.size + 1 + 1, 6, none⟩) (by dsimp only; omega) (.slice none 0 0); refine bodyPost_ret (v := .tuple #[.agg #[.int .i64 0, .int .i64 0, .int .i64 0, .int .i64 0, .int .i64 0, .slice none 0 0, .slice none 0 0], .int .i64 (((0 : Nat) : Int)), .int .i64 E]) (by simp [results, Tryz.results32, go_sem, z0, f0, z1, f1, z2, f2, z3, f3, z4, f4, z5, f5, z6, f6, lr]) rfl (⟨none, 0, none, 0, 0, 0, rfl, rfl, rfl, sl_nilI _, sl_nilV _, SBB⟩)
end Go.Proofs.YteaaikmejacpaaaGreatDoor.Te

namespace Go.Proofs.YteaaikmejacpaaaGreatDoor.Te
open Go.ChangeShapes Go.WideShapes Go.ChangeAt Go.RowKit
open Fr Fx Va Sh
set_option maxRecDepth 8000
set_option linter.unusedVariables false
set_option linter.unusedSimpArgs false

set_option maxRecDepth 100000 in
set_option maxHeartbeats 2000000 in
theorem rz_g (K B F R O : Int) (p : Option Addr) (zs : List Int) (c : Nat) (q : Option Addr) (vs : List (Int × Int)) (d : Nat) (p' : Option Addr) (c' : Nat) (q' : Option Addr) (us : List (Int × Int)) (d' : Nat) (op stop : Int) (w : World) (b0 : -9223372036854775808 <= B) (b1 : B <= 9223372036854775807) (hn : zs.length <= maxLen) (hm : vs.length <= maxLen) (hm' : us.length <= maxLen) (RA : Hid (SlI w p zs)) (RB : Hid (SlV w q vs)) (RA' : Hid (SlI w p' zs)) (RB' : Hid (SlV w q' us)) (ht : tE K B F R O zs vs = 0) (hu : tE K B F R O zs us = 0) :
  Calls Tryz.prog 32 #[Tn K B F R O p zs.length c q vs.length d, Tn K B F R O p' zs.length c' q' us.length d', .int .i64 op, .int .i64 stop] w (ZS (zn (zr op stop K B F R O vs us) vs.length 0) (fe (zr op stop K B F R O vs us) vs.length 0) K B F R O zs (zl op stop K B F R O vs us vs.length) w) := by
 have PR0 := fun u h1 h2 h3 h4 => pair K B F R O p zs c q vs d K B F R O p' zs c' q' us d' u b0 b1 b0 b1 hn hm hn hm' h1 h2 h3 h4
 have hpe : pE K B F R O zs vs K B F R O zs us = 0 := by
  unfold pE
  rw [if_neg (by simpa using ht), if_neg (by simpa using hu), if_neg (by rw [tyEq_same]; decide), if_neg (by simp)]
 rw [hpe] at PR0
 obtain ⟨hty, hv, hl, -⟩ := tE_ok ht
 obtain ⟨-, -, hl', -⟩ := tE_ok hu
 obtain ⟨h6, -, -, hsp, h1s⟩ := valid_of hv
 have h1 := h1s 0
 rw [List.drop_zero] at h1
 have hmu : us.length = vs.length := by omega
 have VV0 := fun x y u => b_vv K B F R O x y u hty
 have AP0 := fun x0 x1 y0 y1 bad u => ap31 op K B F R O bad x0 x1 y0 y1 u
 obtain ⟨E, hE⟩ : ∃ E, fe (zr op stop K B F R O vs us) vs.length 0 = E := ⟨_, rfl⟩
 obtain ⟨cnt, hcn⟩ : ∃ E, zn (zr op stop K B F R O vs us) vs.length 0 = E := ⟨_, rfl⟩
 rw [hE, hcn]
 obtain ⟨m, hmm⟩ : ∃ m, vs.length = m := ⟨_, rfl⟩
 obtain ⟨n, hnn⟩ : ∃ n, zs.length = n := ⟨_, rfl⟩
 rw [hmm] at hmu hE hcn hl
 rw [hmm, hnn, hmu] at PR0
 rw [hmm, hnn, hmu]
 have HM := Lib.hid hmm
 have HN := Lib.hid hnn
 have HMU := Lib.hid hmu
 have HE := Lib.hid hE
 have HC := Lib.hid hcn
 have hm1 : 0 < m := by omega
 have hm4 : m <= 4096 := by omega
 have KB : Hid (Below w.heap.size w (((w.alloc (Obj.cells #[Value.int .i64 K, Value.int .i64 B, Value.int .i64 F, Value.int .i64 R, Value.int .i64 O, Value.slice p n c, Value.slice q m d] 27)).alloc (Obj.cells #[Value.int .i64 K, Value.int .i64 B, Value.int .i64 F, Value.int .i64 R, Value.int .i64 O, Value.slice p' n c', Value.slice q' m d'] 27)).alloc (Obj.cells #[Value.int .i64 0, Value.int .i64 0, Value.int .i64 0, Value.int .i64 0, Value.int .i64 0, Value.slice none 0 0, Value.slice none 0 0] 27))) := Lib.hid ((((Below.refl _ _).alloc (Nat.le_refl _) _).alloc (by simp) _).alloc (by simp; omega) _)
 have TB : Hid (B7 (((w.alloc (Obj.cells #[Value.int .i64 K, Value.int .i64 B, Value.int .i64 F, Value.int .i64 R, Value.int .i64 O, Value.slice p n c, Value.slice q m d] 27)).alloc (Obj.cells #[Value.int .i64 K, Value.int .i64 B, Value.int .i64 F, Value.int .i64 R, Value.int .i64 O, Value.slice p' n c', Value.slice q' m d'] 27)).alloc (Obj.cells #[Value.int .i64 0, Value.int .i64 0, Value.int .i64 0, Value.int .i64 0, Value.int .i64 0, Value.slice none 0 0, Value.slice none 0 0] 27)) (w.heap.size) (.int .i64 K) (.int .i64 B) (.int .i64 F) (.int .i64 R) (.int .i64 O) (.slice p n c) (.slice q m d)) := Lib.hid (((B7.new w _ (.int .i64 K) (.int .i64 B) (.int .i64 F) (.int .i64 R) (.int .i64 O) (.slice p n c) (.slice q m d)).alloc _).alloc _)
 have UB : Hid (B7 (((w.alloc (Obj.cells #[Value.int .i64 K, Value.int .i64 B, Value.int .i64 F, Value.int .i64 R, Value.int .i64 O, Value.slice p n c, Value.slice q m d] 27)).alloc (Obj.cells #[Value.int .i64 K, Value.int .i64 B, Value.int .i64 F, Value.int .i64 R, Value.int .i64 O, Value.slice p' n c', Value.slice q' m d'] 27)).alloc (Obj.cells #[Value.int .i64 0, Value.int .i64 0, Value.int .i64 0, Value.int .i64 0, Value.int .i64 0, Value.slice none 0 0, Value.slice none 0 0] 27)) (w.heap.size + 1) (.int .i64 K) (.int .i64 B) (.int .i64 F) (.int .i64 R) (.int .i64 O) (.slice p' n c') (.slice q' m d')) := Lib.hid (by
  have h := B7.new (w.alloc (Obj.cells #[Value.int .i64 K, Value.int .i64 B, Value.int .i64 F, Value.int .i64 R, Value.int .i64 O, Value.slice p n c, Value.slice q m d] 27)) 27 (.int .i64 K) (.int .i64 B) (.int .i64 F) (.int .i64 R) (.int .i64 O) (.slice p' n c') (.slice q' m d')
  have e : (w.alloc (Obj.cells #[Value.int .i64 K, Value.int .i64 B, Value.int .i64 F, Value.int .i64 R, Value.int .i64 O, Value.slice p n c, Value.slice q m d] 27)).heap.size = w.heap.size + 1 := by simp
  rw [e] at h
  exact h.alloc _)
 have ZB : Hid (B7 (((w.alloc (Obj.cells #[Value.int .i64 K, Value.int .i64 B, Value.int .i64 F, Value.int .i64 R, Value.int .i64 O, Value.slice p n c, Value.slice q m d] 27)).alloc (Obj.cells #[Value.int .i64 K, Value.int .i64 B, Value.int .i64 F, Value.int .i64 R, Value.int .i64 O, Value.slice p' n c', Value.slice q' m d'] 27)).alloc (Obj.cells #[Value.int .i64 0, Value.int .i64 0, Value.int .i64 0, Value.int .i64 0, Value.int .i64 0, Value.slice none 0 0, Value.slice none 0 0] 27)) (w.heap.size + 1 + 1) (.int .i64 0) (.int .i64 0) (.int .i64 0) (.int .i64 0) (.int .i64 0) (.slice none 0 0) (.slice none 0 0)) := Lib.hid (by
  have h := B7.new ((w.alloc (Obj.cells #[Value.int .i64 K, Value.int .i64 B, Value.int .i64 F, Value.int .i64 R, Value.int .i64 O, Value.slice p n c, Value.slice q m d] 27)).alloc (Obj.cells #[Value.int .i64 K, Value.int .i64 B, Value.int .i64 F, Value.int .i64 R, Value.int .i64 O, Value.slice p' n c', Value.slice q' m d'] 27)) 27 (.int .i64 0) (.int .i64 0) (.int .i64 0) (.int .i64 0) (.int .i64 0) (.slice none 0 0) (.slice none 0 0)
  have e : ((w.alloc (Obj.cells #[Value.int .i64 K, Value.int .i64 B, Value.int .i64 F, Value.int .i64 R, Value.int .i64 O, Value.slice p n c, Value.slice q m d] 27)).alloc (Obj.cells #[Value.int .i64 K, Value.int .i64 B, Value.int .i64 F, Value.int .i64 R, Value.int .i64 O, Value.slice p' n c', Value.slice q' m d'] 27)).heap.size = w.heap.size + 1 + 1 := by simp
  rw [e] at h
  exact h)
 have PR := Lib.hid PR0
 have VVA := Lib.hid VV0
 have AP := Lib.hid AP0
 clear ht hu hv hl hl' hsp h1s h1 hmu hmm hnn hE hcn hm hn hm' PR0 VV0 AP0 hpe h6
 unfold Tn at *
 go_enter Tryz.func32, Tryz.ntmps32
 go_upto_region 6 with (go_at_call 62; (with_reducible refine (PR.out _ (Lib.hid (SlI.keep KB.out RA.out)) (Lib.hid (SlV.below RB.out KB.out)) (Lib.hid (SlI.keep KB.out RA'.out)) (Lib.hid (SlV.below RB'.out KB.out))).mono ?_); rintro e w1 ⟨rfl, hb⟩; have KN := Lib.hid (KB.out.trans (hb.mono KB.out.size)); have T1 := Lib.hid (B7.keep hb TB.out.lt TB.out); have T2 := Lib.hid (B7.keep hb UB.out.lt UB.out); have T3 := Lib.hid (B7.keep hb ZB.out.lt ZB.out); have KB := KN; have TB := T1; have UB := T2; have ZB := T3; clear KN T1 T2 T3 hb; obtain ⟨⟨c0, c1, c2, c3, c4, c5, c6⟩, -⟩ := TB.out; obtain ⟨⟨e0, e1, e2, e3, e4, e5, e6⟩, -⟩ := UB.out; obtain ⟨⟨z0, z1, z2, z3, z4, z5, z6⟩, ⟨f0, f1, f2, f3, f4, f5, f6⟩⟩ := ZB.out; have lr : w.heap.size + 1 + 1 < w1.heap.size := ZB.out.lt)
 have W4 : Below w1.heap.size w1 (w1.alloc (Obj.cells #[Value.int .i64 K, Value.int .i64 B, Value.int .i64 F, Value.int .i64 R, Value.int .i64 O, Value.slice p n c, Value.slice none 0 0] 27)) := (Below.refl _ _).alloc (Nat.le_refl _) _
 have hs1 := KB.out.size
 have hr1 : w.heap.size + 1 + 1 < w1.heap.size := ZB.out.lt
 have HB0 : Hid ((B7 (w1.alloc (Obj.cells #[Value.int .i64 K, Value.int .i64 B, Value.int .i64 F, Value.int .i64 R, Value.int .i64 O, Value.slice p n c, Value.slice none 0 0] 27)) (w.heap.size) (.int .i64 K) (.int .i64 B) (.int .i64 F) (.int .i64 R) (.int .i64 O) (.slice p n c) (.slice q m d)) /\ (B7 (w1.alloc (Obj.cells #[Value.int .i64 K, Value.int .i64 B, Value.int .i64 F, Value.int .i64 R, Value.int .i64 O, Value.slice p n c, Value.slice none 0 0] 27)) (w.heap.size + 1) (.int .i64 K) (.int .i64 B) (.int .i64 F) (.int .i64 R) (.int .i64 O) (.slice p' n c') (.slice q' m d')) /\ (B7 (w1.alloc (Obj.cells #[Value.int .i64 K, Value.int .i64 B, Value.int .i64 F, Value.int .i64 R, Value.int .i64 O, Value.slice p n c, Value.slice none 0 0] 27)) (w.heap.size + 1 + 1) (.int .i64 0) (.int .i64 0) (.int .i64 0) (.int .i64 0) (.int .i64 0) (.slice none 0 0) (.slice none 0 0)) /\ (B7 (w1.alloc (Obj.cells #[Value.int .i64 K, Value.int .i64 B, Value.int .i64 F, Value.int .i64 R, Value.int .i64 O, Value.slice p n c, Value.slice none 0 0] 27)) (w1.heap.size) (.int .i64 K) (.int .i64 B) (.int .i64 F) (.int .i64 R) (.int .i64 O) (.slice p n c) (.slice none 0 0)) /\ (w1.alloc (Obj.cells #[Value.int .i64 K, Value.int .i64 B, Value.int .i64 F, Value.int .i64 R, Value.int .i64 O, Value.slice p n c, Value.slice none 0 0] 27)).ownsRow (w1.heap.size + 1) 29 2 (.slice none 0 0) 0 (flV (zl op stop K B F R O vs us 0)) /\ Below w.heap.size w (w1.alloc (Obj.cells #[Value.int .i64 K, Value.int .i64 B, Value.int .i64 F, Value.int .i64 R, Value.int .i64 O, Value.slice p n c, Value.slice none 0 0] 27)) /\ w1.heap.size + 1 <= (w1.alloc (Obj.cells #[Value.int .i64 K, Value.int .i64 B, Value.int .i64 F, Value.int .i64 R, Value.int .i64 O, Value.slice p n c, Value.slice none 0 0] 27)).heap.size) := Lib.hid ⟨B7.keep W4 TB.out.lt TB.out, B7.keep W4 UB.out.lt UB.out, B7.keep W4 ZB.out.lt ZB.out, B7.new w1 27 (.int .i64 K) (.int .i64 B) (.int .i64 F) (.int .i64 R) (.int .i64 O) (.slice p n c) (.slice none 0 0), World.ownsRow_nil _ _ _ _, KB.out.trans (W4.mono KB.out.size), by simp⟩
 have HF0 : Hid (fe (zr op stop K B F R O vs us) (m - 0) 0 = E /\ zn (zr op stop K B F R O vs us) (m - 0) 0 = cnt) := Lib.hid ⟨HE.out, HC.out⟩
 clear W4 KB TB UB ZB c0 c1 c2 c3 c4 c5 c6 e0 e1 e2 e3 e4 e5 e6 z0 z1 z2 z3 z4 z5 z6 f0 f1 f2 f3 f4 f5 f6 lr PR
 generalize (w1.alloc (Obj.cells #[Value.int .i64 K, Value.int .i64 B, Value.int .i64 F, Value.int .i64 R, Value.int .i64 O, Value.slice p n c, Value.slice none 0 0] 27)) = w5 at *
 go_loopw [13] (fun iv wr => ∃ (i : Nat) (qv : Option Addr) (dv : Nat), iv = .int .i64 (i : Int) /\ i <= m /\ Hid (fe (zr op stop K B F R O vs us) (m - i) i = E /\ zn (zr op stop K B F R O vs us) (m - i) i = cnt) /\ Hid ((B7 wr (w.heap.size) (.int .i64 K) (.int .i64 B) (.int .i64 F) (.int .i64 R) (.int .i64 O) (.slice p n c) (.slice q m d)) /\ (B7 wr (w.heap.size + 1) (.int .i64 K) (.int .i64 B) (.int .i64 F) (.int .i64 R) (.int .i64 O) (.slice p' n c') (.slice q' m d')) /\ (B7 wr (w.heap.size + 1 + 1) (.int .i64 0) (.int .i64 0) (.int .i64 0) (.int .i64 0) (.int .i64 0) (.slice none 0 0) (.slice none 0 0)) /\ (B7 wr (w1.heap.size) (.int .i64 K) (.int .i64 B) (.int .i64 F) (.int .i64 R) (.int .i64 O) (.slice p n c) (.slice qv i dv)) /\ wr.ownsRow (w1.heap.size + 1) 29 2 (.slice qv i dv) i (flV (zl op stop K B F R O vs us i)) /\ Below w.heap.size w wr /\ w1.heap.size + 1 <= wr.heap.size)) (fun iv _ => m - (intOf iv).toNat)
 case atStart => exact ⟨0, none, 0, rfl, Nat.zero_le _, HF0, HB0⟩
 case round =>
  obtain ⟨i, qv, dv, rfl, hi, HF, HI⟩ := hrel
  clear HB0 HF0
  obtain ⟨TJ, UJ, ZJ, RJ, VJ, KJ, hszr⟩ := HI.out
  by_cases him : i < m
  ·have hi2 : (i : Int) < m := by omega
   have hi0 : (0 : Int) <= i := by omega
   obtain ⟨vb, vo, hqq, v0, v1⟩ := (RB.out.below KJ) i (by rw [HM.out]; exact him)
   obtain ⟨ub, uo, hqq', u0, u1⟩ := (RB'.out.below KJ) i (by rw [HMU.out]; exact him)
   obtain ⟨x0, hx0⟩ : ∃ z, (vs.getD i (0, 0)).1 = z := ⟨_, rfl⟩
   obtain ⟨x1, hx1⟩ : ∃ z, (vs.getD i (0, 0)).2 = z := ⟨_, rfl⟩
   obtain ⟨y0, hy0⟩ : ∃ z, (us.getD i (0, 0)).1 = z := ⟨_, rfl⟩
   obtain ⟨y1, hy1⟩ : ∃ z, (us.getD i (0, 0)).2 = z := ⟨_, rfl⟩
   rw [hx0] at v0
   rw [hx1] at v1
   rw [hy0] at u0
   rw [hy1] at u1
   obtain ⟨⟨a1, a2, a3⟩, hg⟩ : ∃ r, zap op K B F R O ((i : Int) == stop) x0 x1 y0 y1 = r := ⟨_, rfl⟩
   have HZG : Hid (zg op stop K B F R O vs us i = (a1, a2, a3)) := Lib.hid (by unfold zg; rw [hx0, hx1, hy0, hy1, hg])
   have AP1 := fun u => AP.out x0 x1 y0 y1 ((i : Int) == stop) u
   rw [hg] at AP1
   obtain ⟨bs, hbs⟩ : ∃ b, ((i : Int) == stop) = b := ⟨_, rfl⟩
   rw [hbs] at AP1
   have API := Lib.hid AP1
   have VV1 := fun u => VVA.out a1 a2 u
   obtain ⟨vvb, hvv⟩ : ∃ b, vv K B F R O a1 a2 = b := ⟨_, rfl⟩
   rw [hvv] at VV1
   have VV2 := Lib.hid VV1
   have HVV := Lib.hid hvv
   obtain ⟨⟨c0, c1, c2, c3, c4, c5, c6⟩, -⟩ := TJ
   obtain ⟨⟨e0, e1, e2, e3, e4, e5, e6⟩, -⟩ := UJ
   subst hqq hqq'
   clear hx0 hx1 hy0 hy1 hg AP1 VV1 hvv c5 e0 e1 e2 e3 e4 e5
   go_upto_region 8 with fail
   have HS : Hid (∀ u u' : World, (u.cell? ⟨w.heap.size, 0, none⟩ = some (.int .i64 K) /\ u.cell? ⟨w.heap.size, 1, none⟩ = some (.int .i64 B) /\ u.cell? ⟨w.heap.size, 2, none⟩ = some (.int .i64 F) /\ u.cell? ⟨w.heap.size, 3, none⟩ = some (.int .i64 R) /\ u.cell? ⟨w.heap.size, 4, none⟩ = some (.int .i64 O) /\ u.cell? ⟨w.heap.size, 6, none⟩ = some (.slice (some ⟨vb, vo, none⟩) m d) /\ u.cell? ⟨w.heap.size + 1, 6, none⟩ = some (.slice (some ⟨ub, uo, none⟩) m d') /\ u.cell? ⟨vb, vo + i * 2, none⟩ = some (.int .i64 x0) /\ u.cell? ⟨vb, vo + i * 2 + 1, none⟩ = some (.int .i64 x1) /\ u.cell? ⟨ub, uo + i * 2, none⟩ = some (.int .i64 y0) /\ u.cell? ⟨ub, uo + i * 2 + 1, none⟩ = some (.int .i64 y1) /\ Below wr.heap.size wr u) -> Below u.heap.size u u' -> (u'.cell? ⟨w.heap.size, 0, none⟩ = some (.int .i64 K) /\ u'.cell? ⟨w.heap.size, 1, none⟩ = some (.int .i64 B) /\ u'.cell? ⟨w.heap.size, 2, none⟩ = some (.int .i64 F) /\ u'.cell? ⟨w.heap.size, 3, none⟩ = some (.int .i64 R) /\ u'.cell? ⟨w.heap.size, 4, none⟩ = some (.int .i64 O) /\ u'.cell? ⟨w.heap.size, 6, none⟩ = some (.slice (some ⟨vb, vo, none⟩) m d) /\ u'.cell? ⟨w.heap.size + 1, 6, none⟩ = some (.slice (some ⟨ub, uo, none⟩) m d') /\ u'.cell? ⟨vb, vo + i * 2, none⟩ = some (.int .i64 x0) /\ u'.cell? ⟨vb, vo + i * 2 + 1, none⟩ = some (.int .i64 x1) /\ u'.cell? ⟨ub, uo + i * 2, none⟩ = some (.int .i64 y0) /\ u'.cell? ⟨ub, uo + i * 2 + 1, none⟩ = some (.int .i64 y1) /\ Below wr.heap.size wr u')) := Lib.hid (fun u u' h hb => ⟨Rg.keep hb (World.block_lt_of_cell? _ _ h.1) h.1, Rg.keep hb (World.block_lt_of_cell? _ _ h.2.1) h.2.1, Rg.keep hb (World.block_lt_of_cell? _ _ h.2.2.1) h.2.2.1, Rg.keep hb (World.block_lt_of_cell? _ _ h.2.2.2.1) h.2.2.2.1, Rg.keep hb (World.block_lt_of_cell? _ _ h.2.2.2.2.1) h.2.2.2.2.1, Rg.keep hb (World.block_lt_of_cell? _ _ h.2.2.2.2.2.1) h.2.2.2.2.2.1, Rg.keep hb (World.block_lt_of_cell? _ _ h.2.2.2.2.2.2.1) h.2.2.2.2.2.2.1, Rg.keep hb (World.block_lt_of_cell? _ _ h.2.2.2.2.2.2.2.1) h.2.2.2.2.2.2.2.1, Rg.keep hb (World.block_lt_of_cell? _ _ h.2.2.2.2.2.2.2.2.1) h.2.2.2.2.2.2.2.2.1, Rg.keep hb (World.block_lt_of_cell? _ _ h.2.2.2.2.2.2.2.2.2.1) h.2.2.2.2.2.2.2.2.2.1, Rg.keep hb (World.block_lt_of_cell? _ _ h.2.2.2.2.2.2.2.2.2.2.1) h.2.2.2.2.2.2.2.2.2.2.1, h.2.2.2.2.2.2.2.2.2.2.2.trans (hb.mono h.2.2.2.2.2.2.2.2.2.2.2.size)⟩)
   go_cut [14, 15] from 35 to 55 (fun p14 p15 wx => ∃ gv : Nat, p14 = .pointer (some ⟨gv, 0, none⟩) /\ p15 = .int .i64 a3 /\ Hid (B2 wx gv (.int .i64 a1) (.int .i64 a2)) /\ Hid (Below wr.heap.size wr wx) /\ wr.heap.size <= gv)
   case first =>
    refine Rk.begin (S := fun wS => wS.cell? ⟨w.heap.size, 0, none⟩ = some (.int .i64 K) /\ wS.cell? ⟨w.heap.size, 1, none⟩ = some (.int .i64 B) /\ wS.cell? ⟨w.heap.size, 2, none⟩ = some (.int .i64 F) /\ wS.cell? ⟨w.heap.size, 3, none⟩ = some (.int .i64 R) /\ wS.cell? ⟨w.heap.size, 4, none⟩ = some (.int .i64 O) /\ wS.cell? ⟨w.heap.size, 6, none⟩ = some (.slice (some ⟨vb, vo, none⟩) m d) /\ wS.cell? ⟨w.heap.size + 1, 6, none⟩ = some (.slice (some ⟨ub, uo, none⟩) m d') /\ wS.cell? ⟨vb, vo + i * 2, none⟩ = some (.int .i64 x0) /\ wS.cell? ⟨vb, vo + i * 2 + 1, none⟩ = some (.int .i64 x1) /\ wS.cell? ⟨ub, uo + i * 2, none⟩ = some (.int .i64 y0) /\ wS.cell? ⟨ub, uo + i * 2 + 1, none⟩ = some (.int .i64 y1) /\ Below wr.heap.size wr wS) 21 (by kernel_rfl) ⟨c0, c1, c2, c3, c4, c6, e6, v0, v1, u0, u1, Below.drew (Below.refl _ _)⟩ (fun hHeld => ?_)
    refine SqR.p 0 ?_
    refine SqR.l [21] 1 ?_
    refine SqR.p 2 ?_
    refine SqR.p 3 ?_
    refine SqR.p 4 ?_
    refine SqR.p 5 ?_
    refine SqR.p 6 ?_
    refine SqR.l [21] 7 ?_
    refine SqR.p 8 ?_
    refine SqR.p 9 ?_
    refine SqR.l [21] 10 ?_
    refine SqR.p 11 ?_
    refine SqR.l [21] 12 ?_
    refine SqR.p 13 ?_
    refine SqR.p 14 ?_
    refine SqR.l [21] 15 ?_
    refine Rk.two (i := 16) (j := 20) (by kernel_rfl) rfl rfl (fun KK hK => ?_) (fun KK hK => ?_)
    ·rw [if_pos (by kernel_rfl)]
     go_simp
     ((with_reducible refine (API.out _).mono ?_); rintro e u7 ⟨rfl, hb⟩)
     have hNew := HS.out _ _ hHeld hb
     have hsu := hb.size
     try simp at hsu
     first | (refine hK.out _ _ (fun _ => hNew) (fun _ => ?_)) | (refine hK.out _ _ hNew (fun _ => ?_)) | (go_wp2_with fail; refine hK.out _ _ hNew (fun _ => ?_))
     replace hHeld := hNew
     clear hNew hb
     clear hK KK
     refine SqR.p 17 ?_
     refine SqR.p 18 ?_
     refine SqR.p 19 ?_
     refine Rk.one (i := 20) (by kernel_rfl) rfl (fun KK hK => ?_)
     rw [if_pos (by kernel_rfl)]
     go_simp
     have hNew := HS.out _ _ hHeld ((Below.refl _ _).alloc (Nat.le_refl _) (Obj.cells #[Value.int .i64 0, Value.int .i64 0] 29))
     have M2 := B2.new u7 29 (.int .i64 0) (.int .i64 0)
     refine hK.out _ _ hNew (fun _ => ?_)
     replace hHeld := hNew
     clear hNew
     clear hK KK
     refine Rk.tail [21, 22] [_, _] (by kernel_rfl) (by kernel_rfl) rfl (by decide) ?_
     obtain ⟨-, -, -, -, -, -, -, -, -, -, -, K8⟩ := hHeld
     have M9 := M2
     obtain ⟨⟨m0, m1⟩, g0, g1⟩ := M2
     have lm := M9.lt
     have hnb : wr.heap.size <= u7.heap.size := by first | exact Nat.le_refl _ | omega
     generalize (u7.alloc (Obj.cells #[Value.int .i64 0, Value.int .i64 0] 29)) = gz at *
     go_wp2_with fail
     go_meet
     exact ⟨u7.heap.size, rfl, rfl, Lib.hid M9.st, Lib.hid ((K8.setCell (p := ⟨u7.heap.size, 0, none⟩) hnb _).setCell (p := ⟨u7.heap.size, 1, none⟩) hnb _), hnb⟩
    ·rw [if_pos (by kernel_rfl)]
     go_simp
     have hNew := HS.out _ _ hHeld ((Below.refl _ _).alloc (Nat.le_refl _) (Obj.cells #[Value.int .i64 0, Value.int .i64 0] 29))
     have M2 : B2 ((wr.alloc (Obj.cells #[Value.int .i64 0, Value.int .i64 0] 29)).drew) wr.heap.size (.int .i64 0) (.int .i64 0) := B2.new wr _ _ _
     refine hK.out _ _ hNew (fun _ => ?_)
     replace hHeld := hNew
     clear hNew
     replace hHeld : (wr.alloc (Obj.cells #[Value.int .i64 0, Value.int .i64 0] 29)).drew.cell? ⟨w.heap.size, 0, none⟩ = some (.int .i64 K) /\ (wr.alloc (Obj.cells #[Value.int .i64 0, Value.int .i64 0] 29)).drew.cell? ⟨w.heap.size, 1, none⟩ = some (.int .i64 B) /\ (wr.alloc (Obj.cells #[Value.int .i64 0, Value.int .i64 0] 29)).drew.cell? ⟨w.heap.size, 2, none⟩ = some (.int .i64 F) /\ (wr.alloc (Obj.cells #[Value.int .i64 0, Value.int .i64 0] 29)).drew.cell? ⟨w.heap.size, 3, none⟩ = some (.int .i64 R) /\ (wr.alloc (Obj.cells #[Value.int .i64 0, Value.int .i64 0] 29)).drew.cell? ⟨w.heap.size, 4, none⟩ = some (.int .i64 O) /\ (wr.alloc (Obj.cells #[Value.int .i64 0, Value.int .i64 0] 29)).drew.cell? ⟨w.heap.size, 6, none⟩ = some (.slice (some ⟨vb, vo, none⟩) m d) /\ (wr.alloc (Obj.cells #[Value.int .i64 0, Value.int .i64 0] 29)).drew.cell? ⟨w.heap.size + 1, 6, none⟩ = some (.slice (some ⟨ub, uo, none⟩) m d') /\ (wr.alloc (Obj.cells #[Value.int .i64 0, Value.int .i64 0] 29)).drew.cell? ⟨vb, vo + i * 2, none⟩ = some (.int .i64 x0) /\ (wr.alloc (Obj.cells #[Value.int .i64 0, Value.int .i64 0] 29)).drew.cell? ⟨vb, vo + i * 2 + 1, none⟩ = some (.int .i64 x1) /\ (wr.alloc (Obj.cells #[Value.int .i64 0, Value.int .i64 0] 29)).drew.cell? ⟨ub, uo + i * 2, none⟩ = some (.int .i64 y0) /\ (wr.alloc (Obj.cells #[Value.int .i64 0, Value.int .i64 0] 29)).drew.cell? ⟨ub, uo + i * 2 + 1, none⟩ = some (.int .i64 y1) /\ Below wr.heap.size wr (wr.alloc (Obj.cells #[Value.int .i64 0, Value.int .i64 0] 29)).drew := hHeld
     clear hK KK
     refine Rk.one (i := 16) (by kernel_rfl) rfl (fun KK hK => ?_)
     rw [if_pos (by kernel_rfl)]
     go_simp
     ((with_reducible refine (API.out _).mono ?_); rintro e u7 ⟨rfl, hb⟩)
     have hNew := HS.out _ _ hHeld hb
     have hsu := hb.size
     try simp at hsu
     replace M2 := B2.keep hb M2.lt M2
     first | (refine hK.out _ _ (fun _ => hNew) (fun _ => ?_)) | (refine hK.out _ _ hNew (fun _ => ?_)) | (go_wp2_with fail; refine hK.out _ _ hNew (fun _ => ?_))
     replace hHeld := hNew
     clear hNew hb
     clear hK KK
     refine SqR.p 17 ?_
     refine SqR.p 18 ?_
     refine SqR.p 19 ?_
     refine Rk.tail [21, 22] [_, _] (by kernel_rfl) (by kernel_rfl) rfl (by decide) ?_
     obtain ⟨-, -, -, -, -, -, -, -, -, -, -, K8⟩ := hHeld
     have M9 := M2
     obtain ⟨⟨m0, m1⟩, g0, g1⟩ := M2
     have lm := M9.lt
     have hnb : wr.heap.size <= wr.heap.size := by first | exact Nat.le_refl _ | omega
     go_wp2_with fail
     go_meet
     exact ⟨wr.heap.size, rfl, rfl, Lib.hid M9.st, Lib.hid ((K8.setCell (p := ⟨wr.heap.size, 0, none⟩) hnb _).setCell (p := ⟨wr.heap.size, 1, none⟩) hnb _), hnb⟩

   case rest =>
    obtain ⟨gv, rfl, rfl, MV, KX, hgv⟩ := hcut
    have TX := Lib.hid (B7.keep KX.out (B7.lt HI.out.1) HI.out.1)
    have UX := Lib.hid (B7.keep KX.out (B7.lt HI.out.2.1) HI.out.2.1)
    have ZX := Lib.hid (B7.keep KX.out (B7.lt ZJ) ZJ)
    have RX := Lib.hid (B7.keep KX.out (B7.lt RJ) RJ)
    have VX := Lib.hid (own_belowE VJ KX.out)
    have KY := Lib.hid (KJ.trans (KX.out.mono KJ.size))
    have hkx := KX.out.size
    have hzr : zr op stop K B F R O vs us i = if a3 ≠ 0 then a3 else if vvb = true then 0 else 1 := by
     unfold zr
     rw [HZG.out]
     dsimp only
     rw [HVV.out]
    have HZR := Lib.hid hzr
    have hstep : m - i = (m - (i + 1)) + 1 := by omega
    obtain ⟨k1, k2⟩ := HF.out
    rw [hstep] at k1 k2
    have HF1 := Lib.hid (And.intro k1 k2)
    clear ZJ RJ VJ KJ HI HS KX hzr hstep k1 k2 c0 c1 c2 c3 c4 c6 e6 v0 v1 u0 u1 HF API hbs
    obtain ⟨⟨c0, c1, c2, c3, c4, c5, c6⟩, -⟩ := TX.out
    obtain ⟨⟨m0, m1⟩, -⟩ := MV.out
    by_cases h3 : a3 = 0
    ·subst h3
     cases vvb
     ·have hE1 : Hid (E = 1 /\ cnt = i + 1) := Lib.hid (by
       obtain ⟨f1, f2⟩ := HF1.out
       have hz1 : zr op stop K B F R O vs us i = 1 := by rw [HZR.out]; rfl
       rw [fe_stop (by rw [hz1]; decide), hz1] at f1
       unfold zn at f2
       rw [if_pos (by rw [hz1]; decide)] at f2
       exact ⟨f1.symm, f2.symm⟩)
      have hcc : Hid ((cnt : Int) = (i : Int) + 1) := Lib.hid (by rw [hE1.out.2]; push_cast; rfl)
      go_wp2_with (go_at_call 54; (with_reducible refine (VV2.out _).mono ?_); rintro e w6 ⟨rfl, hb⟩; have K6 := Lib.hid (KY.out.trans (hb.mono KY.out.size)); have T6 := Lib.hid (B7.keep hb TX.out.lt TX.out); have U6 := Lib.hid (B7.keep hb UX.out.lt UX.out); have Z6 := Lib.hid (B7.keep hb ZX.out.lt ZX.out); have R6 := Lib.hid (B7.keep hb RX.out.lt RX.out); have V6 := Lib.hid (own_belowE VX.out hb); have M6 := Lib.hid (B2.keep hb MV.out.lt MV.out); have hs6 := hb.size; clear hb c0 c1 c2 c3 c4 c5 c6 m0 m1; obtain ⟨⟨z0, z1, z2, z3, z4, z5, z6⟩, ⟨f0, f1, f2, f3, f4, f5, f6⟩⟩ := Z6.out; have lr : w.heap.size + 1 + 1 < w6.heap.size := Z6.out.lt; obtain ⟨⟨m0, m1⟩, -⟩ := M6.out; obtain ⟨⟨r0, r1, r2, r3, r4, r5, r6⟩, ⟨h0, h1, h2, h3, h4, h5, h6⟩⟩ := R6.out)
      have SBB := (((((((K6.out).setCell (p := ⟨w.heap.size + 1 + 1, 0, none⟩) (by dsimp only; omega) (.int .i64 0)).setCell (p := ⟨w.heap.size + 1 + 1, 1, none⟩) (by dsimp only; omega) (.int .i64 0)).setCell (p := ⟨w.heap.size + 1 + 1, 2, none⟩) (by dsimp only; omega) (.int .i64 0)).setCell (p := ⟨w.heap.size + 1 + 1, 3, none⟩) (by dsimp only; omega) (.int .i64 0)).setCell (p := ⟨w.heap.size + 1 + 1, 4, none⟩) (by dsimp only; omega) (.int .i64 0)).setCell (p := ⟨w.heap.size + 1 + 1, 5, none⟩) (by dsimp only; omega) (.slice none 0 0)).setCell (p := ⟨w.heap.size + 1 + 1, 6, none⟩) (by dsimp only; omega) (.slice none 0 0); refine bodyPost_ret (v := .tuple #[.agg #[.int .i64 0, .int .i64 0, .int .i64 0, .int .i64 0, .int .i64 0, .slice none 0 0, .slice none 0 0], .int .i64 ((i : Int) + 1), .int .i64 1]) (by simp [results, Tryz.results32, go_sem, z0, f0, z1, f1, z2, f2, z3, f3, z4, f4, z5, f5, z6, f6, lr]) rfl (.inl ⟨by rw [hE1.out.1]; decide, ⟨none, 0, none, 0, 0, 0, by rw [hE1.out.1, hcc.out], rfl, rfl, sl_nilI _, sl_nilV _, SBB⟩⟩)
     ·have hz0 : zr op stop K B F R O vs us i = 0 := by rw [HZR.out]; rfl
      have HF2 := Lib.hid (show fe (zr op stop K B F R O vs us) (m - (i + 1)) (i + 1) = E /\ zn (zr op stop K B F R O vs us) (m - (i + 1)) (i + 1) = cnt from by
       obtain ⟨f1, f2⟩ := HF1.out
       rw [fe_go hz0] at f1
       unfold zn at f2
       rw [if_neg (by rw [hz0]; decide)] at f2
       exact ⟨f1, f2⟩)
      have HZS : Hid (zl op stop K B F R O vs us (i + 1) = zl op stop K B F R O vs us i ++ [(a1, a2)]) := Lib.hid (by
       rw [zl_succ]
       unfold zv
       rw [HZG.out])
      clear hz0 HF1 HZR
      obtain ⟨i0, hinf, hz0, hz1, hz2⟩ := info_parts infoV
      go_upto_region 13 with (go_at_call 54; (with_reducible refine (VV2.out _).mono ?_); rintro e w6 ⟨rfl, hb⟩; have K6 := Lib.hid (KY.out.trans (hb.mono KY.out.size)); have T6 := Lib.hid (B7.keep hb TX.out.lt TX.out); have U6 := Lib.hid (B7.keep hb UX.out.lt UX.out); have Z6 := Lib.hid (B7.keep hb ZX.out.lt ZX.out); have R6 := Lib.hid (B7.keep hb RX.out.lt RX.out); have V6 := Lib.hid (own_belowE VX.out hb); have M6 := Lib.hid (B2.keep hb MV.out.lt MV.out); have hs6 := hb.size; clear hb c0 c1 c2 c3 c4 c5 c6 m0 m1; obtain ⟨⟨z0, z1, z2, z3, z4, z5, z6⟩, ⟨f0, f1, f2, f3, f4, f5, f6⟩⟩ := Z6.out; have lr : w.heap.size + 1 + 1 < w6.heap.size := Z6.out.lt; obtain ⟨⟨m0, m1⟩, -⟩ := M6.out; obtain ⟨⟨r0, r1, r2, r3, r4, r5, r6⟩, ⟨h0, h1, h2, h3, h4, h5, h6⟩⟩ := R6.out)
      clear z0 z1 z2 z3 z4 z5 z6 f0 f1 f2 f3 f4 f5 f6
      go_wp2_with (at_builtin; refine wpList_append_own _ rfl _ _ 25 rfl (w1.heap.size + 1) 29 i0 (.agg #[.int .i64 0, .int .i64 0]) 2 16 Tryz.underlying25 hinf hz0 hz1 hz2 rfl (by decide) _ _ _ rfl (V6.out.alloc (Obj.cells #[Value.int .i64 a1, Value.int .i64 a2] 29)) ⟨w6.heap.size, 0, none⟩ 1 1 [.int .i64 a1, .int .i64 a2] rfl rfl ?_ ?_ ?_ ?_ ?_ ?_; exact news2 w6 a1 a2 rfl; exact news1 a1 a2; (unfold maxLen; omega); omega; (simp; omega); intro v8 w8 hown8 hgrow _; obtain ⟨qn, dn, rfl⟩ := own_slice hown8; have hrow := row_base V6.out; have T8 := Lib.hid ((T6.out.alloc (Obj.cells #[Value.int .i64 a1, Value.int .i64 a2] 29)).grown hgrow (fun e => by have := hrow _ e.symm; omega)); have U8 := Lib.hid ((U6.out.alloc (Obj.cells #[Value.int .i64 a1, Value.int .i64 a2] 29)).grown hgrow (fun e => by have := hrow _ e.symm; omega)); have Z8 := Lib.hid ((Z6.out.alloc (Obj.cells #[Value.int .i64 a1, Value.int .i64 a2] 29)).grown hgrow (fun e => by have := hrow _ e.symm; omega)); have R8 := Lib.hid ((R6.out.alloc (Obj.cells #[Value.int .i64 a1, Value.int .i64 a2] 29)).grown hgrow (fun e => by have := hrow _ e.symm; omega)); have V8 := Lib.hid hown8; have K8 := Lib.hid ((K6.out.alloc K6.out.size (Obj.cells #[Value.int .i64 a1, Value.int .i64 a2] 29)).grown hgrow (by simp; omega) (fun k e => by have := hrow _ e; omega)); have hs8 := hgrow.size; simp at hs8; clear r0 r1 r2 r3 r4 r5 r6 h0 h1 h2 h3 h4 h5 h6; obtain ⟨⟨r0, r1, r2, r3, r4, r5, r6⟩, ⟨h0, h1, h2, h3, h4, h5, h6⟩⟩ := R8.out; have lD8 := R8.out.lt; clear hown8 hgrow)
      go_roundw
      case rel =>
       refine ⟨i + 1, qn, dn, by simp, by omega, HF2, Lib.hid ⟨T8.out.far (by omega), U8.out.far (by omega), Z8.out.far (by omega), R8.out.set6, own_set (y := _) ?_ (by dsimp only; omega), K8.out.setCell (p := ⟨w1.heap.size, 6, none⟩) (by dsimp only; omega) _, by rw [World.size_setCell]; omega⟩⟩
       have h := V8.out
       rw [HZS.out, flV_snoc]
       exact h
      case measure => simp [intOf]; omega
    ·have hE1 : Hid (E = a3 /\ cnt = i + 1) := Lib.hid (by
      obtain ⟨f1, f2⟩ := HF1.out
      have hz1 : zr op stop K B F R O vs us i = a3 := by rw [HZR.out, if_pos h3]
      rw [fe_stop (by rw [hz1]; exact h3), hz1] at f1
      unfold zn at f2
      rw [if_pos (by rw [hz1]; exact h3)] at f2
      exact ⟨f1.symm, f2.symm⟩)
     have hcc : Hid ((cnt : Int) = (i : Int) + 1) := Lib.hid (by rw [hE1.out.2]; push_cast; rfl)
     have g3 : (a3 == 0) = false := by simpa using h3
     have g4 : (a3 != 0) = true := by simpa using h3
     have HNZ := Lib.hid h3
     clear h3
     obtain ⟨⟨z0, z1, z2, z3, z4, z5, z6⟩, ⟨f0, f1, f2, f3, f4, f5, f6⟩⟩ := ZX.out
     have lr : w.heap.size + 1 + 1 < wc.heap.size := ZX.out.lt
     go_wp2_with fail
     have SBB := (((((((KY.out).setCell (p := ⟨w.heap.size + 1 + 1, 0, none⟩) (by dsimp only; omega) (.int .i64 0)).setCell (p := ⟨w.heap.size + 1 + 1, 1, none⟩) (by dsimp only; omega) (.int .i64 0)).setCell (p := ⟨w.heap.size + 1 + 1, 2, none⟩) (by dsimp only; omega) (.int .i64 0)).setCell (p := ⟨w.heap.size + 1 + 1, 3, none⟩) (by dsimp only; omega) (.int .i64 0)).setCell (p := ⟨w.heap.size + 1 + 1, 4, none⟩) (by dsimp only; omega) (.int .i64 0)).setCell (p := ⟨w.heap.size + 1 + 1, 5, none⟩) (by dsimp only; omega) (.slice none 0 0)).setCell (p := ⟨w.heap.size + 1 + 1, 6, none⟩) (by dsimp only; omega) (.slice none 0 0); refine bodyPost_ret (v := .tuple #[.agg #[.int .i64 0, .int .i64 0, .int .i64 0, .int .i64 0, .int .i64 0, .slice none 0 0, .slice none 0 0], .int .i64 ((i : Int) + 1), .int .i64 a3]) (by simp [results, Tryz.results32, go_sem, z0, f0, z1, f1, z2, f2, z3, f3, z4, f4, z5, f5, z6, f6, lr]) rfl (.inl ⟨by rw [hE1.out.1]; exact HNZ.out, ⟨none, 0, none, 0, 0, 0, by rw [hE1.out.1, hcc.out], rfl, rfl, sl_nilI _, sl_nilV _, SBB⟩⟩)
  ·obtain rfl : i = m := by omega
   have gN : decide ((i : Int) < i) = false := by simp
   obtain ⟨hf1, hf2⟩ := HF.out
   rw [Nat.sub_self] at hf1 hf2
   have hE0 : E = 0 := hf1.symm
   have hC0 : cnt = i := hf2.symm
   obtain ⟨⟨c0, c1, c2, c3, c4, c5, c6⟩, -⟩ := TJ
   have ZZ := Lib.hid ZJ
   obtain ⟨⟨z0, z1, z2, z3, z4, z5, z6⟩, ⟨f0, f1, f2, f3, f4, f5, f6⟩⟩ := ZJ
   have lr : w.heap.size + 1 + 1 < wr.heap.size := B7.lt HI.out.2.2.1
   obtain ⟨⟨r0, r1, r2, r3, r4, r5, r6⟩, -⟩ := RJ
   have HVJ := Lib.hid VJ
   have HKJ := Lib.hid KJ
   clear hf1 hf2 hi him HF HI UJ VJ KJ
   subst hE0 hC0
   go_upto_region 14 with fail
   refine Rk.begin (S := fun wS => wS.cell? ⟨w1.heap.size, 0, none⟩ = some (.int .i64 K) /\ wS.cell? ⟨w1.heap.size, 1, none⟩ = some (.int .i64 B) /\ wS.cell? ⟨w1.heap.size, 2, none⟩ = some (.int .i64 F) /\ wS.cell? ⟨w1.heap.size, 3, none⟩ = some (.int .i64 R) /\ wS.cell? ⟨w1.heap.size, 4, none⟩ = some (.int .i64 O) /\ wS.cell? ⟨w1.heap.size, 5, none⟩ = some (.slice p n c) /\ wS.cell? ⟨w1.heap.size, 6, none⟩ = some (.slice qv cnt dv) /\ wS.cell? ⟨w.heap.size, 6, none⟩ = some (.slice q cnt d) /\ Below w.heap.size w wS) 5 (by kernel_rfl) ⟨r0, r1, r2, r3, r4, r5, r6, c6, HKJ.out.drew⟩ (fun hHeld => ?_)
   refine SqR.l [5] 0 ?_
   refine SqR.p 1 ?_
   refine SqR.l [5] 2 ?_
   refine SqR.p 3 ?_
   refine Rk.one (i := 4) (by kernel_rfl) rfl (fun KK hK => ?_)
   rw [if_pos (by kernel_rfl)]
   go_simp
   have hNew : ((((((((wr.setCell ⟨w.heap.size + 1 + 1, 0, none⟩ (.int .i64 K)).setCell ⟨w.heap.size + 1 + 1, 1, none⟩ (.int .i64 B)).setCell ⟨w.heap.size + 1 + 1, 2, none⟩ (.int .i64 F)).setCell ⟨w.heap.size + 1 + 1, 3, none⟩ (.int .i64 R)).setCell ⟨w.heap.size + 1 + 1, 4, none⟩ (.int .i64 O)).setCell ⟨w.heap.size + 1 + 1, 5, none⟩ (.slice p n c)).setCell ⟨w.heap.size + 1 + 1, 6, none⟩ (.slice qv cnt dv))).drew.cell? ⟨w1.heap.size, 0, none⟩ = some (.int .i64 K) /\ ((((((((wr.setCell ⟨w.heap.size + 1 + 1, 0, none⟩ (.int .i64 K)).setCell ⟨w.heap.size + 1 + 1, 1, none⟩ (.int .i64 B)).setCell ⟨w.heap.size + 1 + 1, 2, none⟩ (.int .i64 F)).setCell ⟨w.heap.size + 1 + 1, 3, none⟩ (.int .i64 R)).setCell ⟨w.heap.size + 1 + 1, 4, none⟩ (.int .i64 O)).setCell ⟨w.heap.size + 1 + 1, 5, none⟩ (.slice p n c)).setCell ⟨w.heap.size + 1 + 1, 6, none⟩ (.slice qv cnt dv))).drew.cell? ⟨w1.heap.size, 1, none⟩ = some (.int .i64 B) /\ ((((((((wr.setCell ⟨w.heap.size + 1 + 1, 0, none⟩ (.int .i64 K)).setCell ⟨w.heap.size + 1 + 1, 1, none⟩ (.int .i64 B)).setCell ⟨w.heap.size + 1 + 1, 2, none⟩ (.int .i64 F)).setCell ⟨w.heap.size + 1 + 1, 3, none⟩ (.int .i64 R)).setCell ⟨w.heap.size + 1 + 1, 4, none⟩ (.int .i64 O)).setCell ⟨w.heap.size + 1 + 1, 5, none⟩ (.slice p n c)).setCell ⟨w.heap.size + 1 + 1, 6, none⟩ (.slice qv cnt dv))).drew.cell? ⟨w1.heap.size, 2, none⟩ = some (.int .i64 F) /\ ((((((((wr.setCell ⟨w.heap.size + 1 + 1, 0, none⟩ (.int .i64 K)).setCell ⟨w.heap.size + 1 + 1, 1, none⟩ (.int .i64 B)).setCell ⟨w.heap.size + 1 + 1, 2, none⟩ (.int .i64 F)).setCell ⟨w.heap.size + 1 + 1, 3, none⟩ (.int .i64 R)).setCell ⟨w.heap.size + 1 + 1, 4, none⟩ (.int .i64 O)).setCell ⟨w.heap.size + 1 + 1, 5, none⟩ (.slice p n c)).setCell ⟨w.heap.size + 1 + 1, 6, none⟩ (.slice qv cnt dv))).drew.cell? ⟨w1.heap.size, 3, none⟩ = some (.int .i64 R) /\ ((((((((wr.setCell ⟨w.heap.size + 1 + 1, 0, none⟩ (.int .i64 K)).setCell ⟨w.heap.size + 1 + 1, 1, none⟩ (.int .i64 B)).setCell ⟨w.heap.size + 1 + 1, 2, none⟩ (.int .i64 F)).setCell ⟨w.heap.size + 1 + 1, 3, none⟩ (.int .i64 R)).setCell ⟨w.heap.size + 1 + 1, 4, none⟩ (.int .i64 O)).setCell ⟨w.heap.size + 1 + 1, 5, none⟩ (.slice p n c)).setCell ⟨w.heap.size + 1 + 1, 6, none⟩ (.slice qv cnt dv))).drew.cell? ⟨w1.heap.size, 4, none⟩ = some (.int .i64 O) /\ ((((((((wr.setCell ⟨w.heap.size + 1 + 1, 0, none⟩ (.int .i64 K)).setCell ⟨w.heap.size + 1 + 1, 1, none⟩ (.int .i64 B)).setCell ⟨w.heap.size + 1 + 1, 2, none⟩ (.int .i64 F)).setCell ⟨w.heap.size + 1 + 1, 3, none⟩ (.int .i64 R)).setCell ⟨w.heap.size + 1 + 1, 4, none⟩ (.int .i64 O)).setCell ⟨w.heap.size + 1 + 1, 5, none⟩ (.slice p n c)).setCell ⟨w.heap.size + 1 + 1, 6, none⟩ (.slice qv cnt dv))).drew.cell? ⟨w1.heap.size, 5, none⟩ = some (.slice p n c) /\ ((((((((wr.setCell ⟨w.heap.size + 1 + 1, 0, none⟩ (.int .i64 K)).setCell ⟨w.heap.size + 1 + 1, 1, none⟩ (.int .i64 B)).setCell ⟨w.heap.size + 1 + 1, 2, none⟩ (.int .i64 F)).setCell ⟨w.heap.size + 1 + 1, 3, none⟩ (.int .i64 R)).setCell ⟨w.heap.size + 1 + 1, 4, none⟩ (.int .i64 O)).setCell ⟨w.heap.size + 1 + 1, 5, none⟩ (.slice p n c)).setCell ⟨w.heap.size + 1 + 1, 6, none⟩ (.slice qv cnt dv))).drew.cell? ⟨w1.heap.size, 6, none⟩ = some (.slice qv cnt dv) /\ ((((((((wr.setCell ⟨w.heap.size + 1 + 1, 0, none⟩ (.int .i64 K)).setCell ⟨w.heap.size + 1 + 1, 1, none⟩ (.int .i64 B)).setCell ⟨w.heap.size + 1 + 1, 2, none⟩ (.int .i64 F)).setCell ⟨w.heap.size + 1 + 1, 3, none⟩ (.int .i64 R)).setCell ⟨w.heap.size + 1 + 1, 4, none⟩ (.int .i64 O)).setCell ⟨w.heap.size + 1 + 1, 5, none⟩ (.slice p n c)).setCell ⟨w.heap.size + 1 + 1, 6, none⟩ (.slice qv cnt dv))).drew.cell? ⟨w.heap.size, 6, none⟩ = some (.slice q cnt d) /\ Below w.heap.size w ((((((((wr.setCell ⟨w.heap.size + 1 + 1, 0, none⟩ (.int .i64 K)).setCell ⟨w.heap.size + 1 + 1, 1, none⟩ (.int .i64 B)).setCell ⟨w.heap.size + 1 + 1, 2, none⟩ (.int .i64 F)).setCell ⟨w.heap.size + 1 + 1, 3, none⟩ (.int .i64 R)).setCell ⟨w.heap.size + 1 + 1, 4, none⟩ (.int .i64 O)).setCell ⟨w.heap.size + 1 + 1, 5, none⟩ (.slice p n c)).setCell ⟨w.heap.size + 1 + 1, 6, none⟩ (.slice qv cnt dv))).drew := ⟨cell_set7d r0 (by omega), cell_set7d r1 (by omega), cell_set7d r2 (by omega), cell_set7d r3 (by omega), cell_set7d r4 (by omega), cell_set7d r5 (by omega), cell_set7d r6 (by omega), cell_set7d c6 (by omega), (below_set7 (x0 := .int .i64 K) (x1 := .int .i64 B) (x2 := .int .i64 F) (x3 := .int .i64 R) (x4 := .int .i64 O) (x5 := .slice p n c) (x6 := .slice qv cnt dv) HKJ.out (by omega)).drew⟩
   refine hK.out _ _ hNew (fun _ => ?_)
   replace hHeld := hNew
   clear hNew
   clear hK KK
   refine Rk.tail [5, 6] [_, _] (by kernel_rfl) (by kernel_rfl) rfl (by decide) ?_
   obtain ⟨-, -, -, -, -, -, -, -, K14⟩ := hHeld
   repeat go_step
   have BZ := (B7.st (y0 := .int .i64 K) (y1 := .int .i64 B) (y2 := .int .i64 F) (y3 := .int .i64 R) (y4 := .int .i64 O) (y5 := .slice p n c) (y6 := .slice qv cnt dv) ZZ.out).drew
   have VZ := (own_set7 (r := w.heap.size + 1 + 1) (x0 := .int .i64 K) (x1 := .int .i64 B) (x2 := .int .i64 F) (x3 := .int .i64 R) (x4 := .int .i64 O) (x5 := .slice p n c) (x6 := .slice qv cnt dv) HVJ.out (by omega)).drew
   clear z0 z1 z2 z3 z4 z5 z6 f0 f1 f2 f3 f4 f5 f6 c0 c1 c2 c3 c4 c5 c6 r0 r1 r2 r3 r4 r5 r6 lr
   generalize ((((((((wr.setCell ⟨w.heap.size + 1 + 1, 0, none⟩ (.int .i64 K)).setCell ⟨w.heap.size + 1 + 1, 1, none⟩ (.int .i64 B)).setCell ⟨w.heap.size + 1 + 1, 2, none⟩ (.int .i64 F)).setCell ⟨w.heap.size + 1 + 1, 3, none⟩ (.int .i64 R)).setCell ⟨w.heap.size + 1 + 1, 4, none⟩ (.int .i64 O)).setCell ⟨w.heap.size + 1 + 1, 5, none⟩ (.slice p n c)).setCell ⟨w.heap.size + 1 + 1, 6, none⟩ (.slice qv cnt dv))).drew = wf at *
   obtain ⟨⟨r0, r1, r2, r3, r4, r5, r6⟩, -⟩ := BZ
   refine bodyPost_ret (v := .tuple #[.agg #[.int .i64 K, .int .i64 B, .int .i64 F, .int .i64 R, .int .i64 O, .slice p n c, .slice qv cnt dv], .int .i64 cnt, .int .i64 0]) (by simp [results, Tryz.results32, go_sem, r0, r1, r2, r3, r4, r5, r6]) rfl (.inr ⟨rfl, p, c, qv, dv, n, cnt, rfl, HN.out, zl_len .., RA.out.keep K14, SlV_of VZ (zl_len ..), K14⟩)
end Go.Proofs.YteaaikmejacpaaaGreatDoor.Te

namespace Go.Proofs.YteaaikmejacpaaaGreatDoor.Te
open Go.ChangeShapes Go.WideShapes Go.ChangeAt Go.RowKit
open Fr Fx Va Sh
set_option maxRecDepth 8000
set_option linter.unusedVariables false
set_option linter.unusedSimpArgs false

/-- An answer of Zip, as it reads. -/
def ZX (cb cnt : Nat) (E K B F R O : Int) (zs : List Int) (vl : List (Int × Int)) (w : World) (en : Ending) (w' : World) : Prop := ∃ p c q d n m, en = .returned (.tuple #[.agg #[.int .i64 K, .int .i64 B, .int .i64 F, .int .i64 R, .int .i64 O, .slice p n c, .slice q m d], .int .i64 E]) /\ zs.length = n /\ vl.length = m /\ SlI w' p zs /\ SlV w' q vl /\ BelowX cb w.heap.size w w' /\ w'.cell? ⟨cb, 0, none⟩ = some (.int .i64 cnt) /\ w'.frozen? ⟨cb, 0, none⟩ = false
theorem ZQ.x {cb cnt : Nat} {E K B F R O : Int} {zs : List Int} {vl : List (Int × Int)} {w w' : World} {en : Ending} (h : ZQ cb cnt E K B F R O zs vl w en w') : ZX cb cnt E K B F R O zs vl w en w' := by
 obtain ⟨p, c, q, d, n, m, rfl, h1, h2, h3, h4, h5, h6, h7⟩ := h
 exact ⟨p, c, q, d, n, m, rfl, h1, h2, SlI_of h3 h1, SlV_of h4 h2, h5, h6, h7⟩
theorem zip_err (K B F R O : Int) (p : Option Addr) (zs : List Int) (c : Nat) (q : Option Addr) (vs : List (Int × Int)) (d : Nat) (K' B' F' R' O' : Int) (p' : Option Addr) (zs' : List Int) (c' : Nat) (q' : Option Addr) (us : List (Int × Int)) (d' : Nat) (cb ga go gs : Nat) (w : World) (b0 : -9223372036854775808 <= B) (b1 : B <= 9223372036854775807) (b0' : -9223372036854775808 <= B') (b1' : B' <= 9223372036854775807) (hn : zs.length <= maxLen) (hm : vs.length <= maxLen) (hn' : zs'.length <= maxLen) (hm' : us.length <= maxLen) (RA : Hid (SlI w p zs)) (RB : Hid (SlV w q vs)) (RA' : Hid (SlI w p' zs')) (RB' : Hid (SlV w q' us)) (hE : pE K B F R O zs vs K' B' F' R' O' zs' us ≠ 0) :
  Calls Tryz.prog 29 #[Tn K B F R O p zs.length c q vs.length d, Tn K' B' F' R' O' p' zs'.length c' q' us.length d', .func (.func 30) #[] #[.pointer (some ⟨cb, 0, none⟩), .pointer (some ⟨ga, 0, none⟩), .pointer (some ⟨go, 0, none⟩), .pointer (some ⟨gs, 0, none⟩)]] w (TRes 0 0 0 0 0 [] [] (pE K B F R O zs vs K' B' F' R' O' zs' us) w) := by
 unfold pE at hE ⊢
 by_cases ht : tE K B F R O zs vs ≠ 0
 ·rw [if_pos ht]; exact zp_a K B F R O p zs c q vs d K' B' F' R' O' p' zs' c' q' us d' cb ga go gs w b0 b1 b0' b1' hn hm hn' hm' RA RB RA' RB' ht
 rw [if_neg ht] at hE ⊢
 by_cases hu : tE K' B' F' R' O' zs' us ≠ 0
 ·rw [if_pos hu]; exact zp_b K B F R O p zs c q vs d K' B' F' R' O' p' zs' c' q' us d' cb ga go gs w b0 b1 b0' b1' hn hm hn' hm' RA RB RA' RB' (Classical.not_not.1 ht) hu
 rw [if_neg hu] at hE ⊢
 by_cases hT : K = K' /\ B = B' /\ F = F' /\ R = R' /\ O = O'
 ·have e : ¬ tyEq K B F R O K' B' F' R' O' = false := by
   obtain ⟨rfl, rfl, rfl, rfl, rfl⟩ := hT
   rw [tyEq_same]; decide
  rw [if_neg e] at hE ⊢
  by_cases hz : zs ≠ zs'
  ·rw [if_pos hz]; exact zp_d K B F R O p zs c q vs d K' B' F' R' O' p' zs' c' q' us d' cb ga go gs w b0 b1 b0' b1' hn hm hn' hm' RA RB RA' RB' (Classical.not_not.1 ht) (Classical.not_not.1 hu) hT hz
  ·rw [if_neg hz] at hE; exact absurd rfl hE
 ·rw [if_pos (tyEq_no hT)]
  exact zp_c K B F R O p zs c q vs d K' B' F' R' O' p' zs' c' q' us d' cb ga go gs w b0 b1 b0' b1' hn hm hn' hm' RA RB RA' RB' (Classical.not_not.1 ht) (Classical.not_not.1 hu) hT
/-- Both ways of joining two tensors answer alike. -/
theorem both_zip (K B F R O : Int) (p : Option Addr) (zs : List Int) (c : Nat) (q : Option Addr) (vs : List (Int × Int)) (d : Nat) (K' B' F' R' O' : Int) (p' : Option Addr) (zs' : List Int) (c' : Nat) (q' : Option Addr) (us : List (Int × Int)) (d' : Nat) (op stop : Int) (b0 : -9223372036854775808 <= B) (b1 : B <= 9223372036854775807) (b0' : -9223372036854775808 <= B') (b1' : B' <= 9223372036854775807) (hn : zs.length <= maxLen) (hm : vs.length <= maxLen) (hn' : zs'.length <= maxLen) (hm' : us.length <= maxLen) : ∃ (K1 B1 F1 R1 O1 : Int) (zs1 : List Int) (vl1 : List (Int × Int)) (E : Int) (cnt : Nat), zs1.length <= maxLen /\ vl1.length <= maxLen /\ cnt <= 4096 /\
  (∀ (cb ga go gs : Nat) (wL w : World), (Hid (SlI wL p zs)) -> (Hid (SlV wL q vs)) -> (Hid (SlI wL p' zs')) -> (Hid (SlV wL q' us)) -> (Hid (Below wL.heap.size wL w)) -> (wL.heap.size <= cb) -> (cb < w.heap.size) -> (w.cell? ⟨cb, 0, none⟩ = some (.int .i64 0)) -> (w.frozen? ⟨cb, 0, none⟩ = false) -> (w.cell? ⟨ga, 0, none⟩ = some (.int .i64 K)) -> (w.cell? ⟨ga, 1, none⟩ = some (.int .i64 B)) -> (w.cell? ⟨ga, 2, none⟩ = some (.int .i64 F)) -> (w.cell? ⟨ga, 3, none⟩ = some (.int .i64 R)) -> (w.cell? ⟨ga, 4, none⟩ = some (.int .i64 O)) -> (w.cell? ⟨go, 0, none⟩ = some (.int .i64 op)) -> (w.cell? ⟨gs, 0, none⟩ = some (.int .i64 stop)) -> (cb ≠ ga) -> (cb ≠ go) -> (cb ≠ gs) -> Calls Tryz.prog 29 #[Tn K B F R O p zs.length c q vs.length d, Tn K' B' F' R' O' p' zs'.length c' q' us.length d', .func (.func 30) #[] #[.pointer (some ⟨cb, 0, none⟩), .pointer (some ⟨ga, 0, none⟩), .pointer (some ⟨go, 0, none⟩), .pointer (some ⟨gs, 0, none⟩)]] w (ZX cb cnt E K1 B1 F1 R1 O1 zs1 vl1 w)) /\
  (∀ w : World, Hid (SlI w p zs) -> Hid (SlV w q vs) -> Hid (SlI w p' zs') -> Hid (SlV w q' us) -> Calls Tryz.prog 32 #[Tn K B F R O p zs.length c q vs.length d, Tn K' B' F' R' O' p' zs'.length c' q' us.length d', .int .i64 op, .int .i64 stop] w (ZT cnt E K1 B1 F1 R1 O1 zs1 vl1 w)) := by
 by_cases hE : pE K B F R O zs vs K' B' F' R' O' zs' us = 0
 ·obtain ⟨ht, hu, ⟨rfl, rfl, rfl, rfl, rfl⟩, rfl⟩ := pE_zero hE
  have hcl : zn (zr op stop K B F R O vs us) vs.length 0 <= 4096 := by
   have h : ∀ (f : Nat -> Int) (n i : Nat), zn f n i <= n + i := by
    intro f n
    induction n with
    | zero => intro i; unfold zn; omega
    | succ n ih =>
     intro i
     unfold zn
     have := ih (i + 1)
     split <;> omega
   have h2 := h (zr op stop K B F R O vs us) vs.length 0
   obtain ⟨-, hv, hl, -⟩ := tE_ok ht
   obtain ⟨-, -, -, hs, -⟩ := valid_of hv
   omega
  by_cases hz : fe (zr op stop K B F R O vs us) vs.length 0 = 0
  ·refine ⟨K, B, F, R, O, zs, zl op stop K B F R O vs us vs.length, 0, zn (zr op stop K B F R O vs us) vs.length 0, hn, by rw [zl_len]; exact hm, hcl, fun cb ga go gs wL w RL RM RL' RM' KL hcb hcw cc cf t0 t1 t2 t3 t4 t5 t6 ne1 ne2 ne3 => (zp_g K B F R O p zs c q vs d p' c' q' us d' op stop cb ga go gs wL w b0 b1 hn hm hm' RL RM RL' RM' KL hcb hcw ht hu cc cf t0 t1 t2 t3 t4 t5 t6 ne1 ne2 ne3).mono fun _ _ h => ?_, fun w h1 h2 h3 h4 => (rz_g K B F R O p zs c q vs d p' c' q' us d' op stop w b0 b1 hn hm hm' h1 h2 h3 h4 ht hu).mono fun _ _ h => ?_⟩
   ·rcases h with ⟨h, _⟩ | ⟨_, h⟩
    ·exact absurd hz h
    ·exact h.x
   ·rcases h with ⟨h, _⟩ | ⟨_, h⟩
    ·exact absurd hz h
    ·exact h
  ·refine ⟨0, 0, 0, 0, 0, [], [], fe (zr op stop K B F R O vs us) vs.length 0, zn (zr op stop K B F R O vs us) vs.length 0, Nat.zero_le _, Nat.zero_le _, hcl, fun cb ga go gs wL w RL RM RL' RM' KL hcb hcw cc cf t0 t1 t2 t3 t4 t5 t6 ne1 ne2 ne3 => (zp_g K B F R O p zs c q vs d p' c' q' us d' op stop cb ga go gs wL w b0 b1 hn hm hm' RL RM RL' RM' KL hcb hcw ht hu cc cf t0 t1 t2 t3 t4 t5 t6 ne1 ne2 ne3).mono fun _ _ h => ?_, fun w h1 h2 h3 h4 => (rz_g K B F R O p zs c q vs d p' c' q' us d' op stop w b0 b1 hn hm hm' h1 h2 h3 h4 ht hu).mono fun _ _ h => ?_⟩
   ·rcases h with ⟨_, h⟩ | ⟨h, _⟩
    ·exact h.x
    ·exact absurd h hz
   ·rcases h with ⟨_, h⟩ | ⟨h, _⟩
    ·exact h
    ·exact absurd h hz
 ·refine ⟨0, 0, 0, 0, 0, [], [], pE K B F R O zs vs K' B' F' R' O' zs' us, 0, Nat.zero_le _, Nat.zero_le _, Nat.zero_le _, fun cb ga go gs wL w RL RM RL' RM' KL hcb hcw cc cf t0 t1 t2 t3 t4 t5 t6 ne1 ne2 ne3 => (zip_err K B F R O p zs c q vs d K' B' F' R' O' p' zs' c' q' us d' cb ga go gs w b0 b1 b0' b1' hn hm hn' hm' (Lib.hid (RL.out.keep KL.out)) (Lib.hid (RM.out.below KL.out)) (Lib.hid (RL'.out.keep KL.out)) (Lib.hid (RM'.out.below KL.out)) hE).mono fun _ _ h => ?_, fun w h1 h2 h3 h4 => rz_e K B F R O p zs c q vs d K' B' F' R' O' p' zs' c' q' us d' op stop w b0 b1 b0' b1' hn hm hn' hm' h1 h2 h3 h4 hE⟩
  obtain ⟨P, C, Q, D, rfl, k1, k2, hb⟩ := h
  exact ⟨P, C, Q, D, 0, 0, rfl, rfl, rfl, SlI_of k1 rfl, SlV_of k2 rfl, bx_of hb, Rg.keep hb hcw cc, Rg.keepF hb hcw cf⟩
end Go.Proofs.YteaaikmejacpaaaGreatDoor.Te

namespace Go.Proofs.YteaaikmejacpaaaGreatDoor.Te
open Go.ChangeShapes Go.WideShapes Go.ChangeAt Go.RowKit
open Fr Fx Va Sh
set_option maxRecDepth 8000
set_option linter.unusedVariables false
set_option linter.unusedSimpArgs false

set_option maxRecDepth 100000 in
set_option maxHeartbeats 2000000 in
theorem zi_a (K B F R O : Int) (p : Option Addr) (zs : List Int) (c : Nat) (q : Option Addr) (vs : List (Int × Int)) (d : Nat) (K' B' F' R' O' : Int) (p' : Option Addr) (zs' : List Int) (c' : Nat) (q' : Option Addr) (us : List (Int × Int)) (d' : Nat) (op stop : Int) (w : World) (b0 : -9223372036854775808 <= B) (b1 : B <= 9223372036854775807) (b0' : -9223372036854775808 <= B') (b1' : B' <= 9223372036854775807) (hn : zs.length <= maxLen) (hm : vs.length <= maxLen) (hn' : zs'.length <= maxLen) (hm' : us.length <= maxLen) (RA : Hid (SlI w p zs)) (RB : Hid (SlV w q vs)) (RA' : Hid (SlI w p' zs')) (RB' : Hid (SlV w q' us)) (hLA : Tx.LA w) (hs : (decide ((vs.length : Int) <= 1000) && decide (zs.length <= 20)) = false) :
  Calls Tryz.prog 7 #[Tn K B F R O p zs.length c q vs.length d, Tn K' B' F' R' O' p' zs'.length c' q' us.length d', .int .i64 op, .int .i64 stop] w fun en w' => en = .returned (.bool true) /\ Below w.heap.size w w' := by
 have HLA := Lib.hid hLA
 have EX := Lib.hid fun u h => exam12 u h
 have SM0 := fun u => tsmall K B F R O p zs.length c q vs.length d 1000 u
 have SN0 := fun u => tsmall K' B' F' R' O' p' zs'.length c' q' us.length d' 1000 u
 rw [hs] at SM0
 clear hs
 obtain ⟨m, hmm⟩ : ∃ m, vs.length = m := ⟨_, rfl⟩
 obtain ⟨m', hmm'⟩ : ∃ m, us.length = m := ⟨_, rfl⟩
 rw [hmm] at SM0 ⊢
 rw [hmm']
 have SM := Lib.hid SM0
 have KB : Hid (Below w.heap.size w ((((w.alloc (Obj.cells #[Value.int .i64 K, Value.int .i64 B, Value.int .i64 F, Value.int .i64 R, Value.int .i64 O, Value.slice p zs.length c, Value.slice q m d] 27)).alloc (Obj.cells #[Value.int .i64 K', Value.int .i64 B', Value.int .i64 F', Value.int .i64 R', Value.int .i64 O', Value.slice p' zs'.length c', Value.slice q' m' d'] 27)).alloc (Obj.cells #[Value.int .i64 op] 3)).alloc (Obj.cells #[Value.int .i64 stop] 3))) := Lib.hid (((((Below.refl _ _).alloc (Nat.le_refl _) _).alloc (by simp) _).alloc (by simp; omega) _).alloc (by simp; omega) _)
 have TB : Hid (B7 ((((w.alloc (Obj.cells #[Value.int .i64 K, Value.int .i64 B, Value.int .i64 F, Value.int .i64 R, Value.int .i64 O, Value.slice p zs.length c, Value.slice q m d] 27)).alloc (Obj.cells #[Value.int .i64 K', Value.int .i64 B', Value.int .i64 F', Value.int .i64 R', Value.int .i64 O', Value.slice p' zs'.length c', Value.slice q' m' d'] 27)).alloc (Obj.cells #[Value.int .i64 op] 3)).alloc (Obj.cells #[Value.int .i64 stop] 3)) (w.heap.size) (.int .i64 K) (.int .i64 B) (.int .i64 F) (.int .i64 R) (.int .i64 O) (.slice p zs.length c) (.slice q m d)) := Lib.hid ((((B7.new w _ (.int .i64 K) (.int .i64 B) (.int .i64 F) (.int .i64 R) (.int .i64 O) (.slice p zs.length c) (.slice q m d)).alloc _).alloc _).alloc _)
 have UB : Hid (B7 ((((w.alloc (Obj.cells #[Value.int .i64 K, Value.int .i64 B, Value.int .i64 F, Value.int .i64 R, Value.int .i64 O, Value.slice p zs.length c, Value.slice q m d] 27)).alloc (Obj.cells #[Value.int .i64 K', Value.int .i64 B', Value.int .i64 F', Value.int .i64 R', Value.int .i64 O', Value.slice p' zs'.length c', Value.slice q' m' d'] 27)).alloc (Obj.cells #[Value.int .i64 op] 3)).alloc (Obj.cells #[Value.int .i64 stop] 3)) (w.heap.size + 1) (.int .i64 K') (.int .i64 B') (.int .i64 F') (.int .i64 R') (.int .i64 O') (.slice p' zs'.length c') (.slice q' m' d')) := Lib.hid (by
  have h := B7.new (w.alloc (Obj.cells #[Value.int .i64 K, Value.int .i64 B, Value.int .i64 F, Value.int .i64 R, Value.int .i64 O, Value.slice p zs.length c, Value.slice q m d] 27)) 27 (.int .i64 K') (.int .i64 B') (.int .i64 F') (.int .i64 R') (.int .i64 O') (.slice p' zs'.length c') (.slice q' m' d')
  have e : (w.alloc (Obj.cells #[Value.int .i64 K, Value.int .i64 B, Value.int .i64 F, Value.int .i64 R, Value.int .i64 O, Value.slice p zs.length c, Value.slice q m d] 27)).heap.size = w.heap.size + 1 := by simp
  rw [e] at h
  exact (h.alloc _).alloc _)
 have OS : Hid (((((w.alloc (Obj.cells #[Value.int .i64 K, Value.int .i64 B, Value.int .i64 F, Value.int .i64 R, Value.int .i64 O, Value.slice p zs.length c, Value.slice q m d] 27)).alloc (Obj.cells #[Value.int .i64 K', Value.int .i64 B', Value.int .i64 F', Value.int .i64 R', Value.int .i64 O', Value.slice p' zs'.length c', Value.slice q' m' d'] 27)).alloc (Obj.cells #[Value.int .i64 op] 3)).alloc (Obj.cells #[Value.int .i64 stop] 3)).cell? ⟨w.heap.size + 1 + 1, 0, none⟩ = some (.int .i64 op) /\ ((((w.alloc (Obj.cells #[Value.int .i64 K, Value.int .i64 B, Value.int .i64 F, Value.int .i64 R, Value.int .i64 O, Value.slice p zs.length c, Value.slice q m d] 27)).alloc (Obj.cells #[Value.int .i64 K', Value.int .i64 B', Value.int .i64 F', Value.int .i64 R', Value.int .i64 O', Value.slice p' zs'.length c', Value.slice q' m' d'] 27)).alloc (Obj.cells #[Value.int .i64 op] 3)).alloc (Obj.cells #[Value.int .i64 stop] 3)).cell? ⟨w.heap.size + 1 + 1 + 1, 0, none⟩ = some (.int .i64 stop)) := Lib.hid ⟨by go_cell, by go_cell⟩
 clear SM0 SN0 hm hn hm' hn' hmm hmm'
 unfold Tn at *
 go_enter Tryz.func7, Tryz.ntmps7
 go_wp2_with (first | (go_at_call 14; (with_reducible refine (SM.out _).mono ?_); rintro e w1 ⟨rfl, hb⟩; have KN := Lib.hid (KB.out.trans (hb.mono KB.out.size)); have T1 := Lib.hid (B7.keep hb TB.out.lt TB.out); have T2 := Lib.hid (B7.keep hb UB.out.lt UB.out); have T3 := Lib.hid (And.intro (Rg.keep hb (World.block_lt_of_cell? _ _ OS.out.1) OS.out.1) (Rg.keep hb (World.block_lt_of_cell? _ _ OS.out.2) OS.out.2)); have KB := KN; have TB := T1; have UB := T2; have OS := T3; clear KN T1 T2 T3 hb; obtain ⟨⟨c0, c1, c2, c3, c4, c5, c6⟩, -⟩ := TB.out; obtain ⟨⟨e0, e1, e2, e3, e4, e5, e6⟩, -⟩ := UB.out; obtain ⟨o0, o1⟩ := OS.out) | (go_at_call 15; (with_reducible refine (EX.out _ (HLA.out.below KB.out)).mono ?_); rintro e wX ⟨rfl, hb⟩; have KX := Lib.hid (KB.out.trans (hb.mono KB.out.size)); clear hb))
 go_ret
 exact ⟨rfl, KX.out⟩

set_option maxRecDepth 100000 in
set_option maxHeartbeats 2000000 in
theorem zi_b (K B F R O : Int) (p : Option Addr) (zs : List Int) (c : Nat) (q : Option Addr) (vs : List (Int × Int)) (d : Nat) (K' B' F' R' O' : Int) (p' : Option Addr) (zs' : List Int) (c' : Nat) (q' : Option Addr) (us : List (Int × Int)) (d' : Nat) (op stop : Int) (w : World) (b0 : -9223372036854775808 <= B) (b1 : B <= 9223372036854775807) (b0' : -9223372036854775808 <= B') (b1' : B' <= 9223372036854775807) (hn : zs.length <= maxLen) (hm : vs.length <= maxLen) (hn' : zs'.length <= maxLen) (hm' : us.length <= maxLen) (RA : Hid (SlI w p zs)) (RB : Hid (SlV w q vs)) (RA' : Hid (SlI w p' zs')) (RB' : Hid (SlV w q' us)) (hLA : Tx.LA w) (hs : (decide ((vs.length : Int) <= 1000) && decide (zs.length <= 20)) = true) (hs2 : (decide ((us.length : Int) <= 1000) && decide (zs'.length <= 20)) = false) :
  Calls Tryz.prog 7 #[Tn K B F R O p zs.length c q vs.length d, Tn K' B' F' R' O' p' zs'.length c' q' us.length d', .int .i64 op, .int .i64 stop] w fun en w' => en = .returned (.bool true) /\ Below w.heap.size w w' := by
 have HLA := Lib.hid hLA
 have EX := Lib.hid fun u h => exam12 u h
 have SM0 := fun u => tsmall K B F R O p zs.length c q vs.length d 1000 u
 have SN0 := fun u => tsmall K' B' F' R' O' p' zs'.length c' q' us.length d' 1000 u
 rw [hs] at SM0
 rw [hs2] at SN0
 clear hs hs2
 obtain ⟨m, hmm⟩ : ∃ m, vs.length = m := ⟨_, rfl⟩
 obtain ⟨m', hmm'⟩ : ∃ m, us.length = m := ⟨_, rfl⟩
 rw [hmm] at SM0 ⊢
 rw [hmm'] at SN0 ⊢
 have SM := Lib.hid SM0
 have SN := Lib.hid SN0
 have KB : Hid (Below w.heap.size w ((((w.alloc (Obj.cells #[Value.int .i64 K, Value.int .i64 B, Value.int .i64 F, Value.int .i64 R, Value.int .i64 O, Value.slice p zs.length c, Value.slice q m d] 27)).alloc (Obj.cells #[Value.int .i64 K', Value.int .i64 B', Value.int .i64 F', Value.int .i64 R', Value.int .i64 O', Value.slice p' zs'.length c', Value.slice q' m' d'] 27)).alloc (Obj.cells #[Value.int .i64 op] 3)).alloc (Obj.cells #[Value.int .i64 stop] 3))) := Lib.hid (((((Below.refl _ _).alloc (Nat.le_refl _) _).alloc (by simp) _).alloc (by simp; omega) _).alloc (by simp; omega) _)
 have TB : Hid (B7 ((((w.alloc (Obj.cells #[Value.int .i64 K, Value.int .i64 B, Value.int .i64 F, Value.int .i64 R, Value.int .i64 O, Value.slice p zs.length c, Value.slice q m d] 27)).alloc (Obj.cells #[Value.int .i64 K', Value.int .i64 B', Value.int .i64 F', Value.int .i64 R', Value.int .i64 O', Value.slice p' zs'.length c', Value.slice q' m' d'] 27)).alloc (Obj.cells #[Value.int .i64 op] 3)).alloc (Obj.cells #[Value.int .i64 stop] 3)) (w.heap.size) (.int .i64 K) (.int .i64 B) (.int .i64 F) (.int .i64 R) (.int .i64 O) (.slice p zs.length c) (.slice q m d)) := Lib.hid ((((B7.new w _ (.int .i64 K) (.int .i64 B) (.int .i64 F) (.int .i64 R) (.int .i64 O) (.slice p zs.length c) (.slice q m d)).alloc _).alloc _).alloc _)
 have UB : Hid (B7 ((((w.alloc (Obj.cells #[Value.int .i64 K, Value.int .i64 B, Value.int .i64 F, Value.int .i64 R, Value.int .i64 O, Value.slice p zs.length c, Value.slice q m d] 27)).alloc (Obj.cells #[Value.int .i64 K', Value.int .i64 B', Value.int .i64 F', Value.int .i64 R', Value.int .i64 O', Value.slice p' zs'.length c', Value.slice q' m' d'] 27)).alloc (Obj.cells #[Value.int .i64 op] 3)).alloc (Obj.cells #[Value.int .i64 stop] 3)) (w.heap.size + 1) (.int .i64 K') (.int .i64 B') (.int .i64 F') (.int .i64 R') (.int .i64 O') (.slice p' zs'.length c') (.slice q' m' d')) := Lib.hid (by
  have h := B7.new (w.alloc (Obj.cells #[Value.int .i64 K, Value.int .i64 B, Value.int .i64 F, Value.int .i64 R, Value.int .i64 O, Value.slice p zs.length c, Value.slice q m d] 27)) 27 (.int .i64 K') (.int .i64 B') (.int .i64 F') (.int .i64 R') (.int .i64 O') (.slice p' zs'.length c') (.slice q' m' d')
  have e : (w.alloc (Obj.cells #[Value.int .i64 K, Value.int .i64 B, Value.int .i64 F, Value.int .i64 R, Value.int .i64 O, Value.slice p zs.length c, Value.slice q m d] 27)).heap.size = w.heap.size + 1 := by simp
  rw [e] at h
  exact (h.alloc _).alloc _)
 have OS : Hid (((((w.alloc (Obj.cells #[Value.int .i64 K, Value.int .i64 B, Value.int .i64 F, Value.int .i64 R, Value.int .i64 O, Value.slice p zs.length c, Value.slice q m d] 27)).alloc (Obj.cells #[Value.int .i64 K', Value.int .i64 B', Value.int .i64 F', Value.int .i64 R', Value.int .i64 O', Value.slice p' zs'.length c', Value.slice q' m' d'] 27)).alloc (Obj.cells #[Value.int .i64 op] 3)).alloc (Obj.cells #[Value.int .i64 stop] 3)).cell? ⟨w.heap.size + 1 + 1, 0, none⟩ = some (.int .i64 op) /\ ((((w.alloc (Obj.cells #[Value.int .i64 K, Value.int .i64 B, Value.int .i64 F, Value.int .i64 R, Value.int .i64 O, Value.slice p zs.length c, Value.slice q m d] 27)).alloc (Obj.cells #[Value.int .i64 K', Value.int .i64 B', Value.int .i64 F', Value.int .i64 R', Value.int .i64 O', Value.slice p' zs'.length c', Value.slice q' m' d'] 27)).alloc (Obj.cells #[Value.int .i64 op] 3)).alloc (Obj.cells #[Value.int .i64 stop] 3)).cell? ⟨w.heap.size + 1 + 1 + 1, 0, none⟩ = some (.int .i64 stop)) := Lib.hid ⟨by go_cell, by go_cell⟩
 clear SM0 SN0 hm hn hm' hn' hmm hmm'
 unfold Tn at *
 go_enter Tryz.func7, Tryz.ntmps7
 go_wp2_with (first | (go_at_call 14; (with_reducible refine (SM.out _).mono ?_); rintro e w1 ⟨rfl, hb⟩; have KN := Lib.hid (KB.out.trans (hb.mono KB.out.size)); have T1 := Lib.hid (B7.keep hb TB.out.lt TB.out); have T2 := Lib.hid (B7.keep hb UB.out.lt UB.out); have T3 := Lib.hid (And.intro (Rg.keep hb (World.block_lt_of_cell? _ _ OS.out.1) OS.out.1) (Rg.keep hb (World.block_lt_of_cell? _ _ OS.out.2) OS.out.2)); have KB := KN; have TB := T1; have UB := T2; have OS := T3; clear KN T1 T2 T3 hb; obtain ⟨⟨c0, c1, c2, c3, c4, c5, c6⟩, -⟩ := TB.out; obtain ⟨⟨e0, e1, e2, e3, e4, e5, e6⟩, -⟩ := UB.out; obtain ⟨o0, o1⟩ := OS.out) | (go_at_call 14; (with_reducible refine (SN.out _).mono ?_); rintro e w2 ⟨rfl, hb⟩; have KN := Lib.hid (KB.out.trans (hb.mono KB.out.size)); have T1 := Lib.hid (B7.keep hb TB.out.lt TB.out); have T2 := Lib.hid (B7.keep hb UB.out.lt UB.out); have T3 := Lib.hid (And.intro (Rg.keep hb (World.block_lt_of_cell? _ _ OS.out.1) OS.out.1) (Rg.keep hb (World.block_lt_of_cell? _ _ OS.out.2) OS.out.2)); have KB := KN; have TB := T1; have UB := T2; have OS := T3; clear KN T1 T2 T3 hb; obtain ⟨⟨c0, c1, c2, c3, c4, c5, c6⟩, -⟩ := TB.out; obtain ⟨⟨e0, e1, e2, e3, e4, e5, e6⟩, -⟩ := UB.out; obtain ⟨o0, o1⟩ := OS.out) | (go_at_call 15; (with_reducible refine (EX.out _ (HLA.out.below KB.out)).mono ?_); rintro e wX ⟨rfl, hb⟩; have KX := Lib.hid (KB.out.trans (hb.mono KB.out.size)); clear hb))
 go_ret
 exact ⟨rfl, KX.out⟩
end Go.Proofs.YteaaikmejacpaaaGreatDoor.Te

namespace Go.Proofs.YteaaikmejacpaaaGreatDoor.Te
open Go.ChangeShapes Go.WideShapes Go.ChangeAt Go.RowKit
open Fr Fx Va Sh
set_option maxRecDepth 8000
set_option linter.unusedVariables false
set_option linter.unusedSimpArgs false

set_option maxRecDepth 100000 in
set_option maxHeartbeats 2000000 in
theorem zi_c (K B F R O : Int) (p : Option Addr) (zs : List Int) (c : Nat) (q : Option Addr) (vs : List (Int × Int)) (d : Nat) (K' B' F' R' O' : Int) (p' : Option Addr) (zs' : List Int) (c' : Nat) (q' : Option Addr) (us : List (Int × Int)) (d' : Nat) (op stop : Int) (w : World) (b0 : -9223372036854775808 <= B) (b1 : B <= 9223372036854775807) (b0' : -9223372036854775808 <= B') (b1' : B' <= 9223372036854775807) (hn : zs.length <= maxLen) (hm : vs.length <= maxLen) (hn' : zs'.length <= maxLen) (hm' : us.length <= maxLen) (RA : Hid (SlI w p zs)) (RB : Hid (SlV w q vs)) (RA' : Hid (SlI w p' zs')) (RB' : Hid (SlV w q' us)) (hLA : Tx.LA w) (hs : (decide ((vs.length : Int) <= 1000) && decide (zs.length <= 20)) = true) (hs2 : (decide ((us.length : Int) <= 1000) && decide (zs'.length <= 20)) = true) :
  Calls Tryz.prog 7 #[Tn K B F R O p zs.length c q vs.length d, Tn K' B' F' R' O' p' zs'.length c' q' us.length d', .int .i64 op, .int .i64 stop] w fun en w' => en = .returned (.bool true) /\ Below w.heap.size w w' := by
 have HLA := Lib.hid hLA
 have EX := Lib.hid fun u h => exam12 u h
 have SM0 := fun u => tsmall K B F R O p zs.length c q vs.length d 1000 u
 have SN0 := fun u => tsmall K' B' F' R' O' p' zs'.length c' q' us.length d' 1000 u
 rw [hs] at SM0
 rw [hs2] at SN0
 clear hs hs2
 obtain ⟨K1, B1, F1, R1, O1, zs1, vl1, E, cnt, q1, q2, q3, ZI0, RZ0⟩ := both_zip K B F R O p zs c q vs d K' B' F' R' O' p' zs' c' q' us d' op stop b0 b1 b0' b1' hn hm hn' hm'
 have ZN0 := fun u h1 h2 h3 h4 => (zp_n K B F R O p zs c q vs d K' B' F' R' O' p' zs' c' q' us d' 0 0 0 0 u b0 b1 b0' b1' hn hm hn' hm' h1 h2 h3 h4).mono fun _ _ h => h.tu (n := 0) (m := 0) rfl rfl
 have BTT0 := fun p4 p5 kc4 kc5 q4 q5 d4 d5 u h1 h2 h3 h4 => bten K1 B1 F1 R1 O1 p4 p5 zs1 kc4 kc5 q4 q5 vl1 d4 d5 u q1 q2 h1 h2 h3 h4
 unfold TU at ZN0
 unfold ZX at ZI0
 unfold ZT at RZ0
 obtain ⟨m, hmm⟩ : ∃ m, vs.length = m := ⟨_, rfl⟩
 obtain ⟨m', hmm'⟩ : ∃ m, us.length = m := ⟨_, rfl⟩
 rw [hmm] at SM0 ZI0 RZ0 ZN0 ⊢
 rw [hmm'] at SN0 ZI0 RZ0 ZN0 ⊢
 have SM := Lib.hid SM0
 have SN := Lib.hid SN0
 have ZI := Lib.hid ZI0
 have RZ := Lib.hid RZ0
 have ZN := Lib.hid ZN0
 have BTT := Lib.hid BTT0
 have KB : Hid (Below w.heap.size w ((((w.alloc (Obj.cells #[Value.int .i64 K, Value.int .i64 B, Value.int .i64 F, Value.int .i64 R, Value.int .i64 O, Value.slice p zs.length c, Value.slice q m d] 27)).alloc (Obj.cells #[Value.int .i64 K', Value.int .i64 B', Value.int .i64 F', Value.int .i64 R', Value.int .i64 O', Value.slice p' zs'.length c', Value.slice q' m' d'] 27)).alloc (Obj.cells #[Value.int .i64 op] 3)).alloc (Obj.cells #[Value.int .i64 stop] 3))) := Lib.hid (((((Below.refl _ _).alloc (Nat.le_refl _) _).alloc (by simp) _).alloc (by simp; omega) _).alloc (by simp; omega) _)
 have TB : Hid (B7 ((((w.alloc (Obj.cells #[Value.int .i64 K, Value.int .i64 B, Value.int .i64 F, Value.int .i64 R, Value.int .i64 O, Value.slice p zs.length c, Value.slice q m d] 27)).alloc (Obj.cells #[Value.int .i64 K', Value.int .i64 B', Value.int .i64 F', Value.int .i64 R', Value.int .i64 O', Value.slice p' zs'.length c', Value.slice q' m' d'] 27)).alloc (Obj.cells #[Value.int .i64 op] 3)).alloc (Obj.cells #[Value.int .i64 stop] 3)) (w.heap.size) (.int .i64 K) (.int .i64 B) (.int .i64 F) (.int .i64 R) (.int .i64 O) (.slice p zs.length c) (.slice q m d)) := Lib.hid ((((B7.new w _ (.int .i64 K) (.int .i64 B) (.int .i64 F) (.int .i64 R) (.int .i64 O) (.slice p zs.length c) (.slice q m d)).alloc _).alloc _).alloc _)
 have UB : Hid (B7 ((((w.alloc (Obj.cells #[Value.int .i64 K, Value.int .i64 B, Value.int .i64 F, Value.int .i64 R, Value.int .i64 O, Value.slice p zs.length c, Value.slice q m d] 27)).alloc (Obj.cells #[Value.int .i64 K', Value.int .i64 B', Value.int .i64 F', Value.int .i64 R', Value.int .i64 O', Value.slice p' zs'.length c', Value.slice q' m' d'] 27)).alloc (Obj.cells #[Value.int .i64 op] 3)).alloc (Obj.cells #[Value.int .i64 stop] 3)) (w.heap.size + 1) (.int .i64 K') (.int .i64 B') (.int .i64 F') (.int .i64 R') (.int .i64 O') (.slice p' zs'.length c') (.slice q' m' d')) := Lib.hid (by
  have h := B7.new (w.alloc (Obj.cells #[Value.int .i64 K, Value.int .i64 B, Value.int .i64 F, Value.int .i64 R, Value.int .i64 O, Value.slice p zs.length c, Value.slice q m d] 27)) 27 (.int .i64 K') (.int .i64 B') (.int .i64 F') (.int .i64 R') (.int .i64 O') (.slice p' zs'.length c') (.slice q' m' d')
  have e : (w.alloc (Obj.cells #[Value.int .i64 K, Value.int .i64 B, Value.int .i64 F, Value.int .i64 R, Value.int .i64 O, Value.slice p zs.length c, Value.slice q m d] 27)).heap.size = w.heap.size + 1 := by simp
  rw [e] at h
  exact (h.alloc _).alloc _)
 have OS : Hid (((((w.alloc (Obj.cells #[Value.int .i64 K, Value.int .i64 B, Value.int .i64 F, Value.int .i64 R, Value.int .i64 O, Value.slice p zs.length c, Value.slice q m d] 27)).alloc (Obj.cells #[Value.int .i64 K', Value.int .i64 B', Value.int .i64 F', Value.int .i64 R', Value.int .i64 O', Value.slice p' zs'.length c', Value.slice q' m' d'] 27)).alloc (Obj.cells #[Value.int .i64 op] 3)).alloc (Obj.cells #[Value.int .i64 stop] 3)).cell? ⟨w.heap.size + 1 + 1, 0, none⟩ = some (.int .i64 op) /\ ((((w.alloc (Obj.cells #[Value.int .i64 K, Value.int .i64 B, Value.int .i64 F, Value.int .i64 R, Value.int .i64 O, Value.slice p zs.length c, Value.slice q m d] 27)).alloc (Obj.cells #[Value.int .i64 K', Value.int .i64 B', Value.int .i64 F', Value.int .i64 R', Value.int .i64 O', Value.slice p' zs'.length c', Value.slice q' m' d'] 27)).alloc (Obj.cells #[Value.int .i64 op] 3)).alloc (Obj.cells #[Value.int .i64 stop] 3)).cell? ⟨w.heap.size + 1 + 1 + 1, 0, none⟩ = some (.int .i64 stop)) := Lib.hid ⟨by go_cell, by go_cell⟩
 clear SM0 SN0 ZI0 RZ0 ZN0 BTT0 hm hn hm' hn' hmm hmm'
 unfold Tn at *
 go_enter Tryz.func7, Tryz.ntmps7
 go_upto_region 4 with (first | (go_at_call 14; (with_reducible refine (SM.out _).mono ?_); rintro e w1 ⟨rfl, hb⟩; have KN := Lib.hid (KB.out.trans (hb.mono KB.out.size)); have T1 := Lib.hid (B7.keep hb TB.out.lt TB.out); have T2 := Lib.hid (B7.keep hb UB.out.lt UB.out); have T3 := Lib.hid (And.intro (Rg.keep hb (World.block_lt_of_cell? _ _ OS.out.1) OS.out.1) (Rg.keep hb (World.block_lt_of_cell? _ _ OS.out.2) OS.out.2)); have KB := KN; have TB := T1; have UB := T2; have OS := T3; clear KN T1 T2 T3 hb; obtain ⟨⟨c0, c1, c2, c3, c4, c5, c6⟩, -⟩ := TB.out; obtain ⟨⟨e0, e1, e2, e3, e4, e5, e6⟩, -⟩ := UB.out; obtain ⟨o0, o1⟩ := OS.out) | (go_at_call 14; (with_reducible refine (SN.out _).mono ?_); rintro e w2 ⟨rfl, hb⟩; have KN := Lib.hid (KB.out.trans (hb.mono KB.out.size)); have T1 := Lib.hid (B7.keep hb TB.out.lt TB.out); have T2 := Lib.hid (B7.keep hb UB.out.lt UB.out); have T3 := Lib.hid (And.intro (Rg.keep hb (World.block_lt_of_cell? _ _ OS.out.1) OS.out.1) (Rg.keep hb (World.block_lt_of_cell? _ _ OS.out.2) OS.out.2)); have KB := KN; have TB := T1; have UB := T2; have OS := T3; clear KN T1 T2 T3 hb; obtain ⟨⟨c0, c1, c2, c3, c4, c5, c6⟩, -⟩ := TB.out; obtain ⟨⟨e0, e1, e2, e3, e4, e5, e6⟩, -⟩ := UB.out; obtain ⟨o0, o1⟩ := OS.out))
 have W3 : Below w2.heap.size w2 (w2.alloc (Obj.cells #[Value.int .i64 0] 3)) := (Below.refl _ _).alloc (Nat.le_refl _) _
 have CF : Hid ((w2.alloc (Obj.cells #[Value.int .i64 0] 3)).cell? ⟨w2.heap.size, 0, none⟩ = some (.int .i64 0) /\ (w2.alloc (Obj.cells #[Value.int .i64 0] 3)).frozen? ⟨w2.heap.size, 0, none⟩ = false) := Lib.hid ⟨by go_cell, by go_cell⟩
 have hq2 : w2.heap.size < (w2.alloc (Obj.cells #[Value.int .i64 0] 3)).heap.size := by simp
 have hq1 : w.heap.size <= w2.heap.size := KB.out.size
 have hlt : w.heap.size + 1 + 1 + 1 < w2.heap.size := World.block_lt_of_cell? _ _ o1
 have hq3 : w2.heap.size ≠ w.heap.size := by omega
 have hq4 : w2.heap.size ≠ w.heap.size + 1 + 1 := by omega
 have hq5 : w2.heap.size ≠ w.heap.size + 1 + 1 + 1 := by omega
 have KN := Lib.hid (KB.out.trans (W3.mono KB.out.size))
 have T1 := Lib.hid (B7.keep W3 TB.out.lt TB.out)
 have T2 := Lib.hid (B7.keep W3 UB.out.lt UB.out)
 have T3 := Lib.hid (And.intro (Rg.keep W3 (World.block_lt_of_cell? _ _ OS.out.1) OS.out.1) (Rg.keep W3 (World.block_lt_of_cell? _ _ OS.out.2) OS.out.2))
 repeat clear KB
 repeat clear TB
 repeat clear UB
 repeat clear OS
 clear W3 c0 c1 c2 c3 c4 c5 c6 e0 e1 e2 e3 e4 e5 e6 o0 o1
 have KB := KN
 have TB := T1
 have UB := T2
 have OS := T3
 clear KN T1 T2 T3
 generalize (w2.alloc (Obj.cells #[Value.int .i64 0] 3)) = w3 at *
 obtain ⟨⟨c0, c1, c2, c3, c4, c5, c6⟩, -⟩ := TB.out
 obtain ⟨⟨e0, e1, e2, e3, e4, e5, e6⟩, -⟩ := UB.out
 obtain ⟨o0, o1⟩ := OS.out
 go_upto_region 5 with (go_at_call 29; (with_reducible refine (ZI.out w2.heap.size w.heap.size (w.heap.size + 1 + 1) (w.heap.size + 1 + 1 + 1) w _ RA RB RA' RB' KB hq1 hq2 CF.out.1 CF.out.2 c0 c1 c2 c3 c4 o0 o1 hq3 hq4 hq5).mono ?_); rintro e w4 ⟨cp, ccp, cq, cd, cn, cm, rfl, hk1, hk2, hS, hV, hbx, hcc, hcf⟩; have S1 := Lib.hid hS; have V1 := Lib.hid hV; have LL := Lib.hid (And.intro hk1 hk2); have BX := Lib.hid hbx; have CC := Lib.hid (And.intro hcc hcf); clear hS hV hk1 hk2 hbx hcc hcf)
 have W5 : Below w4.heap.size w4 (w4.alloc (Obj.cells #[Value.int .i64 K1, Value.int .i64 B1, Value.int .i64 F1, Value.int .i64 R1, Value.int .i64 O1, Value.slice cp cn ccp, Value.slice cq cm cd] 27)) := (Below.refl _ _).alloc (Nat.le_refl _) _
 have hs34 := BX.out.size
 have KN := Lib.hid ((KB.out.trans (BX.out.low hq1 KB.out.size)).trans (W5.mono (Nat.le_trans KB.out.size hs34)))
 have T1 := Lib.hid (B7.keep W5 (B7.lt (B7.keepX BX.out TB.out.lt (by omega) TB.out)) (B7.keepX BX.out TB.out.lt (by omega) TB.out))
 have T2 := Lib.hid (B7.keep W5 (B7.lt (B7.keepX BX.out UB.out.lt (by omega) UB.out)) (B7.keepX BX.out UB.out.lt (by omega) UB.out))
 have p0 := BX.out.keep (g := w.heap.size + 1 + 1) (World.block_lt_of_cell? _ _ o0) (by omega) o0
 have p1 := BX.out.keep (g := w.heap.size + 1 + 1 + 1) (World.block_lt_of_cell? _ _ o1) (by omega) o1
 have T3 := Lib.hid (And.intro (Rg.keep W5 (World.block_lt_of_cell? _ _ p0) p0) (Rg.keep W5 (World.block_lt_of_cell? _ _ p1) p1))
 have T4 := Lib.hid (And.intro (Rg.keep W5 (World.block_lt_of_cell? _ _ CC.out.1) CC.out.1) (Rg.keepF W5 (World.block_lt_of_cell? _ _ CC.out.1) CC.out.2))
 have T5 := Lib.hid (SlI.keep W5 S1.out)
 have T6 := Lib.hid (SlV.below V1.out W5)
 have T7 := Lib.hid (B7.new w4 27 (.int .i64 K1) (.int .i64 B1) (.int .i64 F1) (.int .i64 R1) (.int .i64 O1) (.slice cp cn ccp) (.slice cq cm cd))
 repeat clear KB
 repeat clear TB
 repeat clear UB
 repeat clear OS
 clear W5 BX CC S1 V1 p0 p1 CF ZI c0 c1 c2 c3 c4 c5 c6 e0 e1 e2 e3 e4 e5 e6 o0 o1
 have KB := KN
 have TB := T1
 have UB := T2
 have OS := T3
 clear KN T1 T2 T3
 generalize (w4.alloc (Obj.cells #[Value.int .i64 K1, Value.int .i64 B1, Value.int .i64 F1, Value.int .i64 R1, Value.int .i64 O1, Value.slice cp cn ccp, Value.slice cq cm cd] 27)) = w5 at *
 obtain ⟨⟨c0, c1, c2, c3, c4, c5, c6⟩, -⟩ := TB.out
 obtain ⟨⟨e0, e1, e2, e3, e4, e5, e6⟩, -⟩ := UB.out
 obtain ⟨o0, o1⟩ := OS.out
 go_upto_region 6 with (go_at_call 32; (with_reducible refine (RZ.out _ (Lib.hid (SlI.keep KB.out RA.out)) (Lib.hid (SlV.below RB.out KB.out)) (Lib.hid (SlI.keep KB.out RA'.out)) (Lib.hid (SlV.below RB'.out KB.out))).mono ?_); rintro e w6 ⟨dp, dcp, dq, dd, dn, dm, rfl, hk1, hk2, hS, hV, hb⟩; have S2 := Lib.hid hS; have V2 := Lib.hid hV; have LD := Lib.hid (And.intro hk1 hk2); have K6 := Lib.hid hb; clear hS hV hk1 hk2 hb)
 have W7 : Below w6.heap.size w6 (w6.alloc (Obj.cells #[Value.int .i64 K1, Value.int .i64 B1, Value.int .i64 F1, Value.int .i64 R1, Value.int .i64 O1, Value.slice dp dn dcp, Value.slice dq dm dd] 27)) := (Below.refl _ _).alloc (Nat.le_refl _) _
 have W57 := K6.out.trans (W7.mono K6.out.size)
 have KN := Lib.hid (KB.out.trans (W57.mono KB.out.size))
 have T1 := Lib.hid (B7.keep W57 TB.out.lt TB.out)
 have T2 := Lib.hid (B7.keep W57 UB.out.lt UB.out)
 have T4b := Lib.hid (And.intro (Rg.keep W57 (World.block_lt_of_cell? _ _ T4.out.1) T4.out.1) (Rg.keepF W57 (World.block_lt_of_cell? _ _ T4.out.1) T4.out.2))
 have T5b := Lib.hid (SlI.keep W57 T5.out)
 have T6b := Lib.hid (SlV.below T6.out W57)
 have T7b := Lib.hid (B7.keep W57 T7.out.lt T7.out)
 have T8b := Lib.hid (B7.new w6 27 (.int .i64 K1) (.int .i64 B1) (.int .i64 F1) (.int .i64 R1) (.int .i64 O1) (.slice dp dn dcp) (.slice dq dm dd))
 have T9b := Lib.hid (SlI.keep W7 S2.out)
 have TAb := Lib.hid (SlV.below V2.out W7)
 repeat clear KB
 repeat clear TB
 repeat clear UB
 clear W7 W57 K6 S2 V2 T4 T5 T6 T7 OS RZ c0 c1 c2 c3 c4 c5 c6 e0 e1 e2 e3 e4 e5 e6 o0 o1
 have KB := KN
 have TB := T1
 have UB := T2
 clear KN T1 T2
 generalize (w6.alloc (Obj.cells #[Value.int .i64 K1, Value.int .i64 B1, Value.int .i64 F1, Value.int .i64 R1, Value.int .i64 O1, Value.slice dp dn dcp, Value.slice dq dm dd] 27)) = w7 at *
 obtain ⟨⟨c0, c1, c2, c3, c4, c5, c6⟩, -⟩ := TB.out
 obtain ⟨⟨e0, e1, e2, e3, e4, e5, e6⟩, -⟩ := UB.out
 go_upto_region 7 with (go_at_call 29; (with_reducible refine (ZN.out _ (Lib.hid (SlI.keep KB.out RA.out)) (Lib.hid (SlV.below RB.out KB.out)) (Lib.hid (SlI.keep KB.out RA'.out)) (Lib.hid (SlV.below RB'.out KB.out))).mono ?_); rintro e w8 ⟨np, nc, nq, nd, rfl, -, -, -, -, -, -, hb⟩; have K8 := Lib.hid hb; clear hb)
 have W9 : Below w8.heap.size w8 (w8.alloc (Obj.cells #[Value.int .i64 0, Value.int .i64 0, Value.int .i64 0, Value.int .i64 0, Value.int .i64 0, Value.slice np 0 nc, Value.slice nq 0 nd] 27)) := (Below.refl _ _).alloc (Nat.le_refl _) _
 have W79 := K8.out.trans (W9.mono K8.out.size)
 have KN := Lib.hid (KB.out.trans (W79.mono KB.out.size))
 have T4c := Rg.keep W79 (World.block_lt_of_cell? _ _ T4b.out.1) T4b.out.1
 have T5c := Lib.hid (SlI.keep W79 T5b.out)
 have T6c := Lib.hid (SlV.below T6b.out W79)
 have T7c := B7.keep W79 T7b.out.lt T7b.out
 have T8c := B7.keep W79 T8b.out.lt T8b.out
 have T9c := Lib.hid (SlI.keep W79 T9b.out)
 have TAc := Lib.hid (SlV.below TAb.out W79)
 repeat clear KB
 clear W9 W79 K8 T4b T5b T6b T7b T8b T9b TAb TB UB ZN c0 c1 c2 c3 c4 c5 c6 e0 e1 e2 e3 e4 e5 e6
 have KB := KN
 clear KN
 generalize (w8.alloc (Obj.cells #[Value.int .i64 0, Value.int .i64 0, Value.int .i64 0, Value.int .i64 0, Value.int .i64 0, Value.slice np 0 nc, Value.slice nq 0 nd] 27)) = w9 at *
 obtain ⟨⟨c0, c1, c2, c3, c4, c5, c6⟩, -⟩ := T7c
 obtain ⟨⟨e0, e1, e2, e3, e4, e5, e6⟩, -⟩ := T8c
 have gE : (E == E) = true := by simp
 have gc : ((cnt : Int) == cnt) = true := by simp
 obtain ⟨hk1, hk2⟩ := LL.out
 obtain ⟨hk3, hk4⟩ := LD.out
 subst hk1 hk2
 cases hk3
 cases hk4
 go_wp2_with (first | (go_at_call 22; (with_reducible refine (BTT.out cp dp ccp dcp cq dq cd dd _ T5c T6c T9c TAc).mono ?_); rintro e wy ⟨rfl, hb⟩; have KN := Lib.hid (KB.out.trans (hb.mono KB.out.size)); have T4d := Rg.keep hb (World.block_lt_of_cell? _ _ T4c) T4c; have KB := KN; clear KN hb) | (go_at_call 15; (with_reducible refine (EX.out _ (HLA.out.below KB.out)).mono ?_); rintro e wX ⟨rfl, hb⟩; have KX := Lib.hid (KB.out.trans (hb.mono KB.out.size)); clear hb))
 go_ret
 exact ⟨rfl, KX.out⟩
end Go.Proofs.YteaaikmejacpaaaGreatDoor.Te

namespace Go.Proofs.YteaaikmejacpaaaGreatDoor.Te
open Go.ChangeShapes Go.WideShapes Go.ChangeAt Go.RowKit
open Fr Fx Va Sh
set_option maxRecDepth 8000
set_option linter.unusedVariables false
set_option linter.unusedSimpArgs false

set_option maxRecDepth 100000 in
set_option maxHeartbeats 2000000 in
theorem law_zi (K B F R O : Int) (p : Option Addr) (zs : List Int) (c : Nat) (q : Option Addr) (vs : List (Int × Int)) (d : Nat) (K' B' F' R' O' : Int) (p' : Option Addr) (zs' : List Int) (c' : Nat) (q' : Option Addr) (us : List (Int × Int)) (d' : Nat) (op stop : Int) (w : World) (b0 : -9223372036854775808 <= B) (b1 : B <= 9223372036854775807) (b0' : -9223372036854775808 <= B') (b1' : B' <= 9223372036854775807) (hn : zs.length <= maxLen) (hm : vs.length <= maxLen) (hn' : zs'.length <= maxLen) (hm' : us.length <= maxLen) (RA : Hid (SlI w p zs)) (RB : Hid (SlV w q vs)) (RA' : Hid (SlI w p' zs')) (RB' : Hid (SlV w q' us)) (hLA : Tx.LA w)  :
  Calls Tryz.prog 7 #[Tn K B F R O p zs.length c q vs.length d, Tn K' B' F' R' O' p' zs'.length c' q' us.length d', .int .i64 op, .int .i64 stop] w fun en w' => en = .returned (.bool true) /\ Below w.heap.size w w' := by
 cases hs : (decide ((vs.length : Int) <= 1000) && decide (zs.length <= 20))
 ·exact zi_a K B F R O p zs c q vs d K' B' F' R' O' p' zs' c' q' us d' op stop w b0 b1 b0' b1' hn hm hn' hm' RA RB RA' RB' hLA hs
 ·cases hs2 : (decide ((us.length : Int) <= 1000) && decide (zs'.length <= 20))
  ·exact zi_b K B F R O p zs c q vs d K' B' F' R' O' p' zs' c' q' us d' op stop w b0 b1 b0' b1' hn hm hn' hm' RA RB RA' RB' hLA hs hs2
  ·exact zi_c K B F R O p zs c q vs d K' B' F' R' O' p' zs' c' q' us d' op stop w b0 b1 b0' b1' hn hm hn' hm' RA RB RA' RB' hLA hs hs2
end Go.Proofs.YteaaikmejacpaaaGreatDoor.Te
