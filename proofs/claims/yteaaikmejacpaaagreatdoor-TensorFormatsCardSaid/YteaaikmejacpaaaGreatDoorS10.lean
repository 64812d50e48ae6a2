/- Cast of package value. -/
import Derived.Test.YteaaikmejacpaaaGreatDoorV6
import Derived.Laws.StructEq
import Derived.Test.YteaaikmejacpaaaGreatDoorS0
import Derived.Lib.Hide
import Derived.Test.YteaaikmejacpaaaGreatDoorRows
import Derived.WalkKit
import Derived.ProofKit
import Derived.OpenShut
import Derived.WalkLawsBesides
import Derived.WalkSpells
import Derived.Outline
import Derived.Handy
import Derived.IntWalk
import Derived.Deep.QuietTactic
import Derived.BigQuiet
import Derived.OwnWalk
import Derived.Laws.OwnMore
import Derived.Deep.RegionHeld

namespace Go.Proofs.YteaaikmejacpaaaGreatDoor.Va
open Go.ChangeShapes Go.WideShapes Go.ChangeAt Go.RowKit
open Fr Fx
set_option maxRecDepth 8000
set_option linter.unusedVariables false
set_option linter.unusedSimpArgs false
set_option maxRecDepth 8000
theorem rat_vld {K B F R O n d : Int} (h : vv K B F R O n d = true) : vld (rat K F n d).1 (rat K F n d).2 = true := by
 obtain ⟨x1, x2, x3, x4, x5⟩ := vv_small h
 unfold rat
 by_cases k2 : K = 2
 ·rw [if_pos k2]
  rw [vv_fix k2] at h
  obtain ⟨_, rfl, _⟩ := fv_parts h
  exact (back K B F R O n h).1
 ·rw [if_neg k2]
  by_cases k1 : K = 1
  ·have ht := vv_ty h
   unfold vv at h
   rw [if_neg k2, ht, if_pos k1] at h
   exact h
  ·obtain rfl := x5 k1
   exact vld_one x3 x4
set_option maxHeartbeats 4000000 in
theorem c_rat (K B F R O n d : Int) (w : World) (h : vv K B F R O n d = true) : Calls Tryz.prog 134 #[T5 K B F R O, V2 n d] w (Ret (V2 (rat K F n d).1 (rat K F n d).2) w) := by
 unfold rat
 by_cases hk : K = 2
 ·rw [if_pos hk]
  have k1 : (K == 2) = true := by simpa using hk
  rw [vv_fix hk] at h
  have TF := Lib.hid fun w => tf_ok2 K B F R O n d h w
  dsimp only
  generalize (red n F.toNat).1 = x at *
  generalize (2 : Int) ^ (red n F.toNat).2 = y at *
  clear h hk
  go_enter Tryz.func134, Tryz.ntmps134
  go_wp2_with (first | (go_at_call 156; (with_reducible refine (TF.out _).mono ?_); rintro e w1 ⟨rfl, hb1⟩; have hc1 := (bcell hb1).1; have hf1 := (bcell hb1).2; have z1_0 : w.heap.size < w1.heap.size := (by have hzz := hb1.size; (try simp at hzz); omega); have z1_1 : w.heap.size + 1 < w1.heap.size := (by have hzz := hb1.size; (try simp at hzz); omega); have z1_2 : w.heap.size + 1 + 1 < w1.heap.size := (by have hzz := hb1.size; (try simp at hzz); omega); have K1 : Below w.heap.size w w1 := Below.trans (b := _) (by (repeat' (first | (with_reducible exact Below.refl _ _) | (with_reducible refine Below.alloc ?_ ?_ _) | (with_reducible refine Below.setCell ?_ ?_ _) | (with_reducible refine below_drewN ?_ _) | (simp; done) | omega | (simp; omega)))) (hb1.mono (by have hzz := hb1.size; (try simp at hzz); first | omega | (simp; done) | (simp; omega)))))
  refine bodyPost_ret (v := V2 x y) (by simp [results, Tryz.results134, go_sem, hc1, hf1, z1_0, Nat.lt_succ_of_lt z1_0, Nat.ne_of_lt z1_0, Nat.ne_of_gt z1_0, z1_1, Nat.lt_succ_of_lt z1_1, Nat.ne_of_lt z1_1, Nat.ne_of_gt z1_1, z1_2, Nat.lt_succ_of_lt z1_2, Nat.ne_of_lt z1_2, Nat.ne_of_gt z1_2]) rfl ⟨rfl, ?_⟩; (repeat' (first | (with_reducible exact Below.refl _ _) | (with_reducible exact K1) | (with_reducible refine Below.alloc ?_ ?_ _) | (with_reducible refine Below.setCell ?_ ?_ _) | (with_reducible refine below_drewN ?_ _) | (simp; done) | omega | (simp; omega)))
 ·rw [if_neg hk]
  have k1 : (K == 2) = false := by simpa using hk
  clear h hk
  go_enter Tryz.func134, Tryz.ntmps134
  go_wp2
  refine bodyPost_ret (v := V2 n d) (by simp [results, Tryz.results134, go_sem]) rfl ⟨rfl, ?_⟩; (repeat' (first | (with_reducible exact Below.refl _ _) | (with_reducible refine Below.alloc ?_ ?_ _) | (with_reducible refine Below.setCell ?_ ?_ _) | (with_reducible refine below_drewN ?_ _) | (simp; done) | omega | (simp; omega)))
end Go.Proofs.YteaaikmejacpaaaGreatDoor.Va


namespace Go.Proofs.YteaaikmejacpaaaGreatDoor.Va
open Go.ChangeShapes Go.WideShapes Go.ChangeAt Go.RowKit
open Fr Fx
set_option maxRecDepth 8000
set_option linter.unusedVariables false
set_option linter.unusedSimpArgs false
set_option maxRecDepth 8000
def opv (fold : Int) : Int := if fold = 2 then 6 else if fold = 3 then 9 else if fold = 4 then 10 else 4
def known (fold : Int) : Bool := decide (1 <= fold /\ fold <= 5)
def idv (fold K B F R O : Int) : Int × Int × Bool :=
 if ty K B F R O = false then (0, 0, false) else if fold = 1 \/ fold = 5 then (0, 1, true) else if fold = 2 then ((onv K B F R O).1, (onv K B F R O).2.1, decide ((onv K B F R O).2.2 = 0)) else (0, 0, false)
/-- A slice of numbers reads as a list of pairs. -/
def SlV (w : World) (p : Option Addr) (xs : List (Int × Int)) : Prop := ∀ i, i < xs.length -> ∃ b o, p = some ⟨b, o, none⟩ /\ w.cell? ⟨b, o + i * 2, none⟩ = some (.int .i64 (xs.getD i (0, 0)).1) /\ w.cell? ⟨b, o + i * 2 + 1, none⟩ = some (.int .i64 (xs.getD i (0, 0)).2)
theorem SlV.below {w w' : World} {p : Option Addr} {xs : List (Int × Int)} (h : SlV w p xs) (hb : Below w.heap.size w w') : SlV w' p xs := fun i hi => by
 obtain ⟨b, o, rfl, c0, c1⟩ := h i hi
 exact ⟨b, o, rfl, Rg.keep hb (World.block_lt_of_cell? _ _ c0) c0, Rg.keep hb (World.block_lt_of_cell? _ _ c1) c1⟩
theorem cutV {w : World} {b o c : Nat} {x : Int × Int} {xa : List (Int × Int)} (h : SlV w (some ⟨b, o, none⟩) (x :: xa)) (hc : (x :: xa).length <= c) :
  ∃ A : Option Addr, (if c = 1 then some (⟨b, o, none⟩ : Addr) else some ⟨b, o + 2, none⟩) = A /\ SlV w A xa := by
 rw [List.length_cons] at hc
 refine ⟨_, rfl, fun i hi => ?_⟩
 rw [if_neg (by omega)]
 obtain ⟨b1, o1, e, c0, c1⟩ := h (i + 1) (by rw [List.length_cons]; omega)
 cases e
 refine ⟨b, o + 2, rfl, ?_, ?_⟩
 ·rw [show o + 2 + i * 2 = o + (i + 1) * 2 by omega]; exact c0
 ·rw [show o + 2 + i * 2 + 1 = o + (i + 1) * 2 + 1 by omega]; exact c1
def rdf (op K B F R O : Int) : List (Int × Int) -> Int × Int -> A3
 | [], a => (a.1, a.2, 0)
 | v :: r, a => if (apv op K B F R O a.1 a.2 v.1 v.2).2.2 = 0 then rdf op K B F R O r ((apv op K B F R O a.1 a.2 v.1 v.2).1, (apv op K B F R O a.1 a.2 v.1 v.2).2.1) else (0, 0, (apv op K B F R O a.1 a.2 v.1 v.2).2.2)
def rdt (fold K B F R O : Int) : List (Int × Int) -> A3
 | [] => if (idv fold K B F R O).2.2 = true then ((idv fold K B F R O).1, (idv fold K B F R O).2.1, 0) else (0, 0, 1)
 | v :: r => rdf (opv fold) K B F R O r v
def rdv (fold K B F R O : Int) (l : List (Int × Int)) : A3 :=
 if known fold = false then (0, 0, 1) else if ty K B F R O = false then (0, 0, 10) else if (∃ i, i < l.length /\ vv K B F R O (l.getD i (0, 0)).1 (l.getD i (0, 0)).2 = false) then (0, 0, 1)
 else rdt fold K B F R O l
theorem drop_step {xs : List (Int × Int)} {i : Nat} (h : i < xs.length) : xs.drop i = xs.getD i (0, 0) :: xs.drop (i + 1) := by
 rw [List.drop_eq_getElem_cons h]
 congr 1
 rw [List.getD, List.getElem?_eq_getElem h]; rfl
theorem rdf_step {op K B F R O : Int} {xs : List (Int × Int)} {i : Nat} (h : i < xs.length) (a : Int × Int) : rdf op K B F R O (xs.drop i) a =
  if (apv op K B F R O a.1 a.2 (xs.getD i (0, 0)).1 (xs.getD i (0, 0)).2).2.2 = 0 then rdf op K B F R O (xs.drop (i + 1)) ((apv op K B F R O a.1 a.2 (xs.getD i (0, 0)).1 (xs.getD i (0, 0)).2).1, (apv op K B F R O a.1 a.2 (xs.getD i (0, 0)).1 (xs.getD i (0, 0)).2).2.1) else (0, 0, (apv op K B F R O a.1 a.2 (xs.getD i (0, 0)).1 (xs.getD i (0, 0)).2).2.2) := by
 rw [drop_step h]; rfl
theorem rdf_end {op K B F R O : Int} {xs : List (Int × Int)} (a : Int × Int) : rdf op K B F R O (xs.drop xs.length) a = (a.1, a.2, 0) := by
 rw [List.drop_length]; rfl
theorem c_op (fold : Int) (w : World) : Calls Tryz.prog 101 #[.int .i64 fold] w fun e w' => e = .returned (.tuple #[.int .i64 (if known fold then opv fold else 0), .bool (known fold)]) /\ w = w' := by
 have hk : known fold = decide (1 <= fold /\ fold <= 5) := rfl
 by_cases h1 : fold = 1
 ·subst h1
  go_enter Tryz.func101, Tryz.ntmps101
  go_wp2
  go_ret2
  exact ⟨rfl, rfl⟩
 by_cases h5 : fold = 5
 ·subst h5
  go_enter Tryz.func101, Tryz.ntmps101
  go_wp2
  go_ret2
  exact ⟨rfl, rfl⟩
 by_cases h2 : fold = 2
 ·subst h2
  go_enter Tryz.func101, Tryz.ntmps101
  go_wp2
  go_ret2
  exact ⟨rfl, rfl⟩
 by_cases h3 : fold = 3
 ·subst h3
  go_enter Tryz.func101, Tryz.ntmps101
  go_wp2
  go_ret2
  exact ⟨rfl, rfl⟩
 by_cases h4 : fold = 4
 ·subst h4
  go_enter Tryz.func101, Tryz.ntmps101
  go_wp2
  go_ret2
  exact ⟨rfl, rfl⟩
 rw [show known fold = false by unfold known; exact decide_eq_false (by omega)]
 have g1 : (fold == 1) = false := by simpa using h1
 have g2 : (fold == 2) = false := by simpa using h2
 have g3 : (fold == 3) = false := by simpa using h3
 have g4 : (fold == 4) = false := by simpa using h4
 have g5 : (fold == 5) = false := by simpa using h5
 clear h1 h2 h3 h4 h5 hk
 go_enter Tryz.func101, Tryz.ntmps101
 go_wp2
 go_ret2
 exact ⟨rfl, rfl⟩
abbrev I3 (r : Int × Int × Bool) : Value := .tuple #[V2 r.1 r.2.1, .bool r.2.2]
set_option maxHeartbeats 4000000 in
theorem c_id (fold K B F R O : Int) (w : World) (b0 : -9223372036854775808 <= B) (b1 : B <= 9223372036854775807) : Calls Tryz.prog 102 #[.int .i64 fold, T5 K B F R O] w (Ret (I3 (idv fold K B F R O)) w) := by
 cases h : ty K B F R O
 ·rw [show idv fold K B F R O = (0, 0, false) by unfold idv; rw [if_pos h]]
  have VT := Lib.hid fun w => vtF h w
  clear h b0 b1
  go_enter Tryz.func102, Tryz.ntmps102
  go_wp2_with (first | (go_at_call 46; (with_reducible refine (VT.out _).mono ?_); rintro e w1 ⟨rfl, hb1⟩; have hc1 := (bcell hb1).1; have hf1 := (bcell hb1).2; have z1_0 : w.heap.size < w1.heap.size := (by have hzz := hb1.size; (try simp at hzz); omega); have z1_1 : w.heap.size + 1 < w1.heap.size := (by have hzz := hb1.size; (try simp at hzz); omega); have K1 : Below w.heap.size w w1 := Below.trans (b := _) (by (repeat' (first | (with_reducible exact Below.refl _ _) | (with_reducible refine Below.alloc ?_ ?_ _) | (with_reducible refine Below.setCell ?_ ?_ _) | (with_reducible refine below_drewN ?_ _) | (simp; done) | omega | (simp; omega)))) (hb1.mono (by have hzz := hb1.size; (try simp at hzz); first | omega | (simp; done) | (simp; omega)))))
  refine bodyPost_ret (v := .tuple #[V2 0 0, .bool false]) (by simp [results, Tryz.results102, go_sem, hc1, hf1, z1_0, Nat.lt_succ_of_lt z1_0, Nat.ne_of_lt z1_0, Nat.ne_of_gt z1_0, z1_1, Nat.lt_succ_of_lt z1_1, Nat.ne_of_lt z1_1, Nat.ne_of_gt z1_1]) rfl ⟨rfl, ?_⟩; (repeat' (first | (with_reducible exact Below.refl _ _) | (with_reducible exact K1) | (with_reducible refine Below.alloc ?_ ?_ _) | (with_reducible refine Below.setCell ?_ ?_ _) | (with_reducible refine below_drewN ?_ _) | (simp; done) | omega | (simp; omega)))
 have VT := Lib.hid fun w => vtT h w
 have ZE := Lib.hid fun w => c_zero K B F R O w
 rw [h, if_pos rfl] at ZE
 by_cases h1 : fold = 1
 ·rw [show idv fold K B F R O = (0, 1, true) by unfold idv; rw [if_neg (by rw [h]; decide), if_pos (Or.inl h1)]]
  have g1 : (fold == 1) = true := by simpa using h1
  clear h h1 b0 b1
  go_enter Tryz.func102, Tryz.ntmps102
  go_wp2_with (first | (go_at_call 46; (with_reducible refine (VT.out _).mono ?_); rintro e w1 ⟨rfl, hb1⟩; have hc1 := (bcell hb1).1; have hf1 := (bcell hb1).2; have z1_0 : w.heap.size < w1.heap.size := (by have hzz := hb1.size; (try simp at hzz); omega); have z1_1 : w.heap.size + 1 < w1.heap.size := (by have hzz := hb1.size; (try simp at hzz); omega); have K1 : Below w.heap.size w w1 := Below.trans (b := _) (by (repeat' (first | (with_reducible exact Below.refl _ _) | (with_reducible refine Below.alloc ?_ ?_ _) | (with_reducible refine Below.setCell ?_ ?_ _) | (with_reducible refine below_drewN ?_ _) | (simp; done) | omega | (simp; omega)))) (hb1.mono (by have hzz := hb1.size; (try simp at hzz); first | omega | (simp; done) | (simp; omega)))) | (go_at_call 128; (with_reducible refine (ZE.out _).mono ?_); rintro e w2 ⟨rfl, hb2⟩; have hc2 := (bcell hb2).1; have hf2 := (bcell hb2).2; have z2_0 : w.heap.size < w2.heap.size := (by have hzz := hb2.size; (try simp at hzz); omega); have z2_1 : w.heap.size + 1 < w2.heap.size := (by have hzz := hb2.size; (try simp at hzz); omega); have K2 : Below w.heap.size w w2 := Below.trans (b := _) (by (repeat' (first | (with_reducible exact Below.refl _ _) | (with_reducible exact K1) | (with_reducible refine Below.alloc ?_ ?_ _) | (with_reducible refine Below.setCell ?_ ?_ _) | (with_reducible refine below_drewN ?_ _) | (simp; done) | omega | (simp; omega)))) (hb2.mono (by have hzz := hb2.size; (try simp at hzz); first | omega | (simp; done) | (simp; omega)))))
  refine bodyPost_ret (v := .tuple #[V2 0 1, .bool true]) (by simp [results, Tryz.results102, go_sem, hc1, hf1, hc2, hf2, z1_0, Nat.lt_succ_of_lt z1_0, Nat.ne_of_lt z1_0, Nat.ne_of_gt z1_0, z1_1, Nat.lt_succ_of_lt z1_1, Nat.ne_of_lt z1_1, Nat.ne_of_gt z1_1, z2_0, Nat.lt_succ_of_lt z2_0, Nat.ne_of_lt z2_0, Nat.ne_of_gt z2_0, z2_1, Nat.lt_succ_of_lt z2_1, Nat.ne_of_lt z2_1, Nat.ne_of_gt z2_1]) rfl ⟨rfl, ?_⟩; (repeat' (first | (with_reducible exact Below.refl _ _) | (with_reducible exact K1) | (with_reducible exact K2) | (with_reducible refine Below.alloc ?_ ?_ _) | (with_reducible refine Below.setCell ?_ ?_ _) | (with_reducible refine below_drewN ?_ _) | (simp; done) | omega | (simp; omega)))
 have g1 : (fold == 1) = false := by simpa using h1
 by_cases h5 : fold = 5
 ·rw [show idv fold K B F R O = (0, 1, true) by unfold idv; rw [if_neg (by rw [h]; decide), if_pos (Or.inr h5)]]
  have g5 : (fold == 5) = true := by simpa using h5
  clear h h1 h5 b0 b1
  go_enter Tryz.func102, Tryz.ntmps102
  go_wp2_with (first | (go_at_call 46; (with_reducible refine (VT.out _).mono ?_); rintro e w1 ⟨rfl, hb1⟩; have hc1 := (bcell hb1).1; have hf1 := (bcell hb1).2; have z1_0 : w.heap.size < w1.heap.size := (by have hzz := hb1.size; (try simp at hzz); omega); have z1_1 : w.heap.size + 1 < w1.heap.size := (by have hzz := hb1.size; (try simp at hzz); omega); have K1 : Below w.heap.size w w1 := Below.trans (b := _) (by (repeat' (first | (with_reducible exact Below.refl _ _) | (with_reducible refine Below.alloc ?_ ?_ _) | (with_reducible refine Below.setCell ?_ ?_ _) | (with_reducible refine below_drewN ?_ _) | (simp; done) | omega | (simp; omega)))) (hb1.mono (by have hzz := hb1.size; (try simp at hzz); first | omega | (simp; done) | (simp; omega)))) | (go_at_call 128; (with_reducible refine (ZE.out _).mono ?_); rintro e w2 ⟨rfl, hb2⟩; have hc2 := (bcell hb2).1; have hf2 := (bcell hb2).2; have z2_0 : w.heap.size < w2.heap.size := (by have hzz := hb2.size; (try simp at hzz); omega); have z2_1 : w.heap.size + 1 < w2.heap.size := (by have hzz := hb2.size; (try simp at hzz); omega); have K2 : Below w.heap.size w w2 := Below.trans (b := _) (by (repeat' (first | (with_reducible exact Below.refl _ _) | (with_reducible exact K1) | (with_reducible refine Below.alloc ?_ ?_ _) | (with_reducible refine Below.setCell ?_ ?_ _) | (with_reducible refine below_drewN ?_ _) | (simp; done) | omega | (simp; omega)))) (hb2.mono (by have hzz := hb2.size; (try simp at hzz); first | omega | (simp; done) | (simp; omega)))))
  refine bodyPost_ret (v := .tuple #[V2 0 1, .bool true]) (by simp [results, Tryz.results102, go_sem, hc1, hf1, hc2, hf2, z1_0, Nat.lt_succ_of_lt z1_0, Nat.ne_of_lt z1_0, Nat.ne_of_gt z1_0, z1_1, Nat.lt_succ_of_lt z1_1, Nat.ne_of_lt z1_1, Nat.ne_of_gt z1_1, z2_0, Nat.lt_succ_of_lt z2_0, Nat.ne_of_lt z2_0, Nat.ne_of_gt z2_0, z2_1, Nat.lt_succ_of_lt z2_1, Nat.ne_of_lt z2_1, Nat.ne_of_gt z2_1]) rfl ⟨rfl, ?_⟩; (repeat' (first | (with_reducible exact Below.refl _ _) | (with_reducible exact K1) | (with_reducible exact K2) | (with_reducible refine Below.alloc ?_ ?_ _) | (with_reducible refine Below.setCell ?_ ?_ _) | (with_reducible refine below_drewN ?_ _) | (simp; done) | omega | (simp; omega)))
 have g5 : (fold == 5) = false := by simpa using h5
 by_cases h2 : fold = 2
 ·rw [show idv fold K B F R O = ((onv K B F R O).1, (onv K B F R O).2.1, decide ((onv K B F R O).2.2 = 0)) by unfold idv; rw [if_neg (by rw [h]; decide), if_neg (by omega), if_pos h2]]
  have g2 : (fold == 2) = true := by simpa using h2
  have ON := Lib.hid fun w => c_one K B F R O w b0 b1
  obtain ⟨r, hr⟩ : ∃ r, onv K B F R O = r := ⟨_, rfl⟩
  rw [hr] at ON ⊢
  obtain ⟨x, y, z⟩ := r
  clear h h1 h5 h2 b0 b1 hr
  show Calls _ _ _ _ (Ret (.tuple #[Fx.V2 x y, .bool (decide (z = 0))]) w)
  rw [show decide (z = 0) = (z == 0) from by rw [Bool.eq_iff_iff]; simp]
  go_enter Tryz.func102, Tryz.ntmps102
  go_wp2_with (first | (go_at_call 46; (with_reducible refine (VT.out _).mono ?_); rintro e w1 ⟨rfl, hb1⟩; have hc1 := (bcell hb1).1; have hf1 := (bcell hb1).2; have z1_0 : w.heap.size < w1.heap.size := (by have hzz := hb1.size; (try simp at hzz); omega); have z1_1 : w.heap.size + 1 < w1.heap.size := (by have hzz := hb1.size; (try simp at hzz); omega); have K1 : Below w.heap.size w w1 := Below.trans (b := _) (by (repeat' (first | (with_reducible exact Below.refl _ _) | (with_reducible refine Below.alloc ?_ ?_ _) | (with_reducible refine Below.setCell ?_ ?_ _) | (with_reducible refine below_drewN ?_ _) | (simp; done) | omega | (simp; omega)))) (hb1.mono (by have hzz := hb1.size; (try simp at hzz); first | omega | (simp; done) | (simp; omega)))) | (go_at_call 129; (with_reducible refine (ON.out _).mono ?_); rintro e w2 ⟨rfl, hb2⟩; have hc2 := (bcell hb2).1; have hf2 := (bcell hb2).2; have z2_0 : w.heap.size < w2.heap.size := (by have hzz := hb2.size; (try simp at hzz); omega); have z2_1 : w.heap.size + 1 < w2.heap.size := (by have hzz := hb2.size; (try simp at hzz); omega); have K2 : Below w.heap.size w w2 := Below.trans (b := _) (by (repeat' (first | (with_reducible exact Below.refl _ _) | (with_reducible exact K1) | (with_reducible refine Below.alloc ?_ ?_ _) | (with_reducible refine Below.setCell ?_ ?_ _) | (with_reducible refine below_drewN ?_ _) | (simp; done) | omega | (simp; omega)))) (hb2.mono (by have hzz := hb2.size; (try simp at hzz); first | omega | (simp; done) | (simp; omega)))))
  refine bodyPost_ret (v := .tuple #[V2 x y, .bool (z == 0)]) (by simp [results, Tryz.results102, go_sem, hc1, hf1, hc2, hf2, z1_0, Nat.lt_succ_of_lt z1_0, Nat.ne_of_lt z1_0, Nat.ne_of_gt z1_0, z1_1, Nat.lt_succ_of_lt z1_1, Nat.ne_of_lt z1_1, Nat.ne_of_gt z1_1, z2_0, Nat.lt_succ_of_lt z2_0, Nat.ne_of_lt z2_0, Nat.ne_of_gt z2_0, z2_1, Nat.lt_succ_of_lt z2_1, Nat.ne_of_lt z2_1, Nat.ne_of_gt z2_1]) rfl ⟨rfl, ?_⟩; (repeat' (first | (with_reducible exact Below.refl _ _) | (with_reducible exact K1) | (with_reducible exact K2) | (with_reducible refine Below.alloc ?_ ?_ _) | (with_reducible refine Below.setCell ?_ ?_ _) | (with_reducible refine below_drewN ?_ _) | (simp; done) | omega | (simp; omega)))
 ·rw [show idv fold K B F R O = (0, 0, false) by unfold idv; rw [if_neg (by rw [h]; decide), if_neg (by omega), if_neg h2]]
  have g2 : (fold == 2) = false := by simpa using h2
  clear h h1 h5 h2 b0 b1
  go_enter Tryz.func102, Tryz.ntmps102
  go_wp2_with (first | (go_at_call 46; (with_reducible refine (VT.out _).mono ?_); rintro e w1 ⟨rfl, hb1⟩; have hc1 := (bcell hb1).1; have hf1 := (bcell hb1).2; have z1_0 : w.heap.size < w1.heap.size := (by have hzz := hb1.size; (try simp at hzz); omega); have z1_1 : w.heap.size + 1 < w1.heap.size := (by have hzz := hb1.size; (try simp at hzz); omega); have K1 : Below w.heap.size w w1 := Below.trans (b := _) (by (repeat' (first | (with_reducible exact Below.refl _ _) | (with_reducible refine Below.alloc ?_ ?_ _) | (with_reducible refine Below.setCell ?_ ?_ _) | (with_reducible refine below_drewN ?_ _) | (simp; done) | omega | (simp; omega)))) (hb1.mono (by have hzz := hb1.size; (try simp at hzz); first | omega | (simp; done) | (simp; omega)))))
  refine bodyPost_ret (v := .tuple #[V2 0 0, .bool false]) (by simp [results, Tryz.results102, go_sem, hc1, hf1, z1_0, Nat.lt_succ_of_lt z1_0, Nat.ne_of_lt z1_0, Nat.ne_of_gt z1_0, z1_1, Nat.lt_succ_of_lt z1_1, Nat.ne_of_lt z1_1, Nat.ne_of_gt z1_1]) rfl ⟨rfl, ?_⟩; (repeat' (first | (with_reducible exact Below.refl _ _) | (with_reducible exact K1) | (with_reducible refine Below.alloc ?_ ?_ _) | (with_reducible refine Below.setCell ?_ ?_ _) | (with_reducible refine below_drewN ?_ _) | (simp; done) | omega | (simp; omega)))
end Go.Proofs.YteaaikmejacpaaaGreatDoor.Va


namespace Go.Proofs.YteaaikmejacpaaaGreatDoor.Va
open Go.ChangeShapes Go.WideShapes Go.ChangeAt Go.RowKit
open Fr Fx
set_option maxRecDepth 8000
set_option linter.unusedVariables false
set_option linter.unusedSimpArgs false
set_option maxRecDepth 8000

end Go.Proofs.YteaaikmejacpaaaGreatDoor.Va


namespace Go.Proofs.YteaaikmejacpaaaGreatDoor.Te
open Go.ChangeShapes Go.WideShapes Go.ChangeAt Go.RowKit
open Fr Fx Va
set_option maxRecDepth 8000
set_option linter.unusedVariables false
set_option linter.unusedSimpArgs false

/-- A type lies in the first cells of a block. -/
def TyC (w : World) (g : Nat) (K B F R O : Int) : Prop := w.cell? ⟨g, 0, none⟩ = some (.int .i64 K) /\ w.cell? ⟨g, 1, none⟩ = some (.int .i64 B) /\ w.cell? ⟨g, 2, none⟩ = some (.int .i64 F) /\ w.cell? ⟨g, 3, none⟩ = some (.int .i64 R) /\ w.cell? ⟨g, 4, none⟩ = some (.int .i64 O)
theorem TyC.keep {w w' : World} {g : Nat} {K B F R O : Int} (hb : Below w.heap.size w w') (h : TyC w g K B F R O) : TyC w' g K B F R O := by
 have lg := World.block_lt_of_cell? _ _ h.1
 exact ⟨Rg.keep hb lg h.1, Rg.keep hb lg h.2.1, Rg.keep hb lg h.2.2.1, Rg.keep hb lg h.2.2.2.1, Rg.keep hb lg h.2.2.2.2⟩
abbrev badV (K B F R O : Int) (v : Int × Int) : Bool := !vv K B F R O v.1 v.2
set_option maxHeartbeats 4000000 in
theorem vclo (K B F R O n d : Int) (g : Nat) (w : World) (b0 : -9223372036854775808 <= B) (b1 : B <= 9223372036854775807) (hT : Hid (TyC w g K B F R O)) : Calls Tryz.prog 57 #[V2 n d, .pointer (some ⟨g, 0, none⟩)] w fun e w' => e = .returned (.bool (badV K B F R O (n, d))) /\ Below w.heap.size w w' := by
 have VC := Lib.hid fun w => c_va K B F R O n d w b0 b1
 have BA : Below w.heap.size w (w.alloc (Obj.cells #[Value.int .i64 n, Value.int .i64 d] 29)) := (Below.refl _ _).alloc (Nat.le_refl _) _
 obtain ⟨t0, t1, t2, t3, t4⟩ := hT.out
 have lg := World.block_lt_of_cell? _ _ t0
 unfold badV
 dsimp only
 obtain ⟨r, hr⟩ : ∃ r, vv K B F R O n d = r := ⟨_, rfl⟩
 rw [hr] at VC ⊢
 clear hr hT
 go_enter Tryz.func57, Tryz.ntmps57
 go_wp2_with (go_at_call 48; (with_reducible refine (VC.out _).mono ?_); rintro e w1 ⟨rfl, hb⟩; have K1 := BA.trans (hb.mono BA.size))
 go_ret
 exact ⟨rfl, K1⟩
set_option maxRecDepth 100000 in
set_option maxHeartbeats 8000000 in
theorem ixV (K B F R O : Int) (p : Option Addr) (xs : List (Int × Int)) (c g : Nat) (w : World) (b0 : -9223372036854775808 <= B) (b1 : B <= 9223372036854775807) (hn : xs.length <= maxLen) (RA : Hid (SlV w p xs)) (hT : Hid (TyC w g K B F R O)) :
  Calls Tryz.prog 89 #[.slice p xs.length c, .func (.func 57) #[] #[.pointer (some ⟨g, 0, none⟩)]] w fun e w' => (∃ r : Int, e = .returned (.int .i64 r) /\ decide (0 <= r) = xs.any (badV K B F R O)) /\ Below w.heap.size w w' := by
 obtain ⟨RES, hRES⟩ : ∃ RES, xs.any (badV K B F R O) = RES := ⟨_, rfl⟩
 rw [hRES]
 have HRES := Lib.hid hRES
 obtain ⟨n, hnn⟩ : ∃ n, xs.length = n := ⟨_, rfl⟩
 have HN := Lib.hid hnn
 rw [hnn] at hn ⊢
 unfold maxLen at hn
 clear hnn hRES
 go_enter Tryz.func89, Tryz.ntmps89
 go_wp2_with fail
 go_loopw [8] (fun iv wr => ∃ (j : Nat), iv = .int .i64 (j : Int) /\ j <= n /\ Hid (Below w.heap.size w wr) /\ Hid ((xs.drop j).any (badV K B F R O) = RES)) (fun iv _ => n - (intOf iv).toNat)
 case atStart => exact ⟨0, rfl, Nat.zero_le _, Lib.hid (Below.refl _ _), HRES⟩
 case round =>
  obtain ⟨j, rfl, hj, hB, hE⟩ := hrel
  have jj : (0 : Int) <= j := by omega
  by_cases hlt : j < n
  ·have hjl : j < xs.length := by rw [HN.out]; exact hlt
   have j2 : (j : Int) < n := by omega
   obtain ⟨b, o, rfl, c0, c1⟩ := (SlV.below RA.out hB.out) j hjl
   have hdr : xs.drop j = xs.getD j (0, 0) :: xs.drop (j + 1) := drop_step hjl
   have h := hE.out
   rw [hdr, List.any_cons] at h
   obtain ⟨x, hx⟩ : ∃ x, xs.getD j (0, 0) = x := ⟨_, rfl⟩
   rw [hx] at c0 c1 h
   obtain ⟨k, d⟩ := x
   dsimp only at c0 c1
   have UC0 := vclo K B F R O k d g wr b0 b1 (Lib.hid (TyC.keep hB.out hT.out))
   obtain ⟨q, hq⟩ : ∃ q, badV K B F R O (k, d) = q := ⟨_, rfl⟩
   rw [hq] at h UC0
   have UC := Lib.hid UC0
   clear hx hdr hE hjl hq UC0
   cases q with
   | true =>
    have HR : Hid (RES = true) := Lib.hid (by simpa using h.symm)
    clear h
    go_wp2_with (go_at_call 57; (with_reducible refine UC.out.mono ?_); rintro e w1 ⟨rfl, hb⟩)
    go_ret
    exact ⟨⟨(j : Int), rfl, by rw [HR.out]; simp⟩, hB.out.trans (hb.mono hB.out.size)⟩
   | false =>
    have HR : Hid ((xs.drop (j + 1)).any (badV K B F R O) = RES) := Lib.hid (by simpa using h)
    clear h
    go_wp2_with (go_at_call 57; (with_reducible refine UC.out.mono ?_); rintro e w1 ⟨rfl, hb⟩; have HB2 := Lib.hid (hB.out.trans (hb.mono hB.out.size)))
    go_roundw
    case rel => exact ⟨j + 1, by go_num, by omega, HB2, HR⟩
    case measure => simp [intOf]; omega
  ·obtain rfl : j = n := by omega
   have HR : Hid (RES = false) := Lib.hid (by
    have h := hE.out
    rw [List.drop_of_length_le (by rw [HN.out]; exact Nat.le_refl _)] at h
    exact h.symm)
   go_wp2_with fail
   go_ret
   exact ⟨⟨-1, rfl, by rw [HR.out]; simp⟩, hB.out⟩
theorem cfV (K B F R O : Int) (p : Option Addr) (xs : List (Int × Int)) (c g : Nat) (w : World) (b0 : -9223372036854775808 <= B) (b1 : B <= 9223372036854775807) (hn : xs.length <= maxLen) (RA : Hid (SlV w p xs)) (hT : Hid (TyC w g K B F R O)) :
  Calls Tryz.prog 56 #[.slice p xs.length c, .func (.func 57) #[] #[.pointer (some ⟨g, 0, none⟩)]] w fun e w' => e = .returned (.bool (xs.any (badV K B F R O))) /\ Below w.heap.size w w' := by
 have IX := Lib.hid (ixV K B F R O p xs c g w b0 b1 hn RA hT)
 obtain ⟨RES, hRES⟩ : ∃ RES, xs.any (badV K B F R O) = RES := ⟨_, rfl⟩
 rw [hRES] at IX ⊢
 clear hRES
 go_enter Tryz.func56, Tryz.ntmps56
 go_wp2_with (go_at_call 89; (with_reducible refine IX.out.mono ?_); rintro e w1 ⟨⟨r, rfl, hr⟩, hb⟩; have HR := Lib.hid hr; clear hr)
 go_ret
 exact ⟨by rw [<- HR.out]; rfl, hb⟩
end Go.Proofs.YteaaikmejacpaaaGreatDoor.Te


namespace Go.Proofs.YteaaikmejacpaaaGreatDoor.Sh
open Go.ChangeShapes Go.WideShapes Go.ChangeAt Go.RowKit
set_option maxRecDepth 8000
set_option linter.unusedVariables false
set_option linter.unusedSimpArgs false
/-- A slice value reads as a list of integers. -/
def SlI (w : World) (p : Option Addr) (zs : List Int) : Prop := ∀ i, i < zs.length -> ∃ b o, p = some ⟨b, o, none⟩ /\ w.cell? ⟨b, o + i, none⟩ = some (.int .i64 (zs.getD i 0))
theorem ret_int {k : IntKind} {a b : Int} (h : a = b) : Ending.returned (.int k a) = .returned (.int k b) := by rw [h]
theorem ret_bool {a b : Bool} (h : a = b) : Ending.returned (.bool a) = .returned (.bool b) := by rw [h]
theorem getD_at {zs : List Int} {k : Nat} (h : k < zs.length) : zs.getD k 0 = zs[k] := by
 unfold List.getD
 rw [List.getElem?_eq_getElem h]
 rfl
theorem any_take {zs : List Int} {f : Int -> Bool} {k : Nat} (h : ∀ j, j < k -> f (zs.getD j 0) = false) (hk : k = zs.length) : zs.any f = false := by
 rw [List.any_eq_false]
 intro x hx
 obtain ⟨j, hj, rfl⟩ := List.getElem_of_mem hx
 have := h j (by omega)
 rw [getD_at hj] at this
 simpa using this
theorem any_at {zs : List Int} {f : Int -> Bool} {k : Nat} (h : f (zs.getD k 0) = true) (hk : k < zs.length) : zs.any f = true := by
 rw [List.any_eq_true]
 exact ⟨zs[k], List.getElem_mem hk, by rw [getD_at hk] at h; exact h⟩
def low (z : Int) : Bool := decide (z < 1)
theorem c47 (n : Int) (w : World) : Calls Tryz.prog 83 #[.int .i64 n] w fun e w' => e = .returned (.bool (low n)) /\ w = w' := by
 go_enter Tryz.func83, Tryz.ntmps83
 go_wp2
 go_ret
 exact ⟨rfl, rfl⟩
def IX (zs : List Int) (w : World) (e : Ending) (w' : World) : Prop := ∃ r : Int, e = .returned (.int .i64 r) /\ decide (0 <= r) = zs.any low /\ w = w'
set_option maxHeartbeats 2000000 in
theorem c53 (p : Option Addr) (zs : List Int) (c : Nat) (w : World) (hn : zs.length <= maxLen) (RA : Hid (SlI w p zs)) :
  Calls Tryz.prog 108 #[.slice p zs.length c, .func (.func 83) #[] #[]] w (IX zs w) := by
 unfold maxLen at hn
 go_enter Tryz.func108, Tryz.ntmps108
 go_wp2
 go_loop [8] (fun i => ∃ k : Nat, i = .int .i64 k /\ k <= zs.length /\ Hid (∀ j, j < k -> low (zs.getD j 0) = false)) (fun i => zs.length - (intOf i).toNat)
 case atStart => exact ⟨0, rfl, by omega, Lib.hid fun j hj => by omega⟩
 case round =>
  obtain ⟨k, rfl, hk, hL⟩ := hrel
  by_cases hlt : k < zs.length
  ·obtain ⟨b, o, rfl, hc⟩ := RA.out k hlt
   obtain ⟨z, hz⟩ : ∃ z, zs.getD k 0 = z := ⟨_, rfl⟩
   rw [hz] at hc
   obtain ⟨x, hx⟩ : ∃ x, low z = x := ⟨_, rfl⟩
   have HX := Lib.hid hx
   have HZ := Lib.hid hz
   have C := Lib.hid fun w => c47 z w
   rw [hx] at C
   clear hx hz
   cases x
   ·go_wp2_with (go_at_call 83; refine (C.out _).mono ?_; rintro e w' ⟨rfl, rfl⟩)
    go_round
    case rel => exact ⟨k + 1, by go_num, by omega, Lib.hid fun j hj => by
     rcases (by omega : j < k \/ j = k) with h | rfl
     ·exact hL.out j h
     ·rw [HZ.out]; exact HX.out⟩
    case measure => simp [intOf]; omega
   ·go_wp2_with (go_at_call 83; refine (C.out _).mono ?_; rintro e w' ⟨rfl, rfl⟩)
    go_ret
    exact ⟨_, rfl, by rw [any_at (k := k) (by rw [HZ.out]; exact HX.out) hlt]; simp, rfl⟩
  ·go_wp2
   go_ret
   exact ⟨_, rfl, by rw [any_take (k := k) hL.out (by omega)]; rfl, rfl⟩
theorem c46 (p : Option Addr) (zs : List Int) (c : Nat) (w : World) (hn : zs.length <= maxLen) (RA : Hid (SlI w p zs)) :
  Calls Tryz.prog 82 #[.slice p zs.length c, .func (.func 83) #[] #[]] w fun e w' => e = .returned (.bool (zs.any low)) /\ w = w' := by
 have C := Lib.hid (c53 p zs c w hn RA)
 go_enter Tryz.func82, Tryz.ntmps82
 go_wp2_with (go_at_call 108; refine (C.out).mono ?_; rintro e w' ⟨r, rfl, hr, rfl⟩; have HR := Lib.hid hr; clear hr)
 go_ret
 exact ⟨ret_bool HR.out, rfl⟩
/-- The product as long as it stays within the limit. -/
def pr : Int -> List Int -> Option Int
 | s, [] => some s
 | s, z :: zs => if 4096 < s * z then none else pr (s * z) zs
/-- What Validate answers. -/
def vE (zs : List Int) : Int := if 6 < zs.length then 2 else if zs.any low = true then 1 else if pr 1 zs = none then 2 else 0
theorem drop_cons {zs : List Int} {k : Nat} (h : k < zs.length) : zs.drop k = zs.getD k 0 :: zs.drop (k + 1) := by
 rw [List.drop_eq_getElem_cons h, getD_at h]
theorem pos_of {zs : List Int} (h : zs.any low = false) {k : Nat} (hk : k < zs.length) : 1 <= zs.getD k 0 := by
 rw [List.any_eq_false] at h
 have := h zs[k] (List.getElem_mem hk)
 rw [getD_at hk]
 unfold low at this
 simp at this
 omega
theorem quo_lt (s z : Int) (hs : 1 <= s) (hs' : s <= 4096) : 4096 / s < z ↔ 4096 < s * z := by
 constructor
 ·intro h
  have h1 := Int.lt_mul_of_ediv_lt (by omega : 0 < s) h
  rw [Int.mul_comm] at h1
  exact h1
 ·intro h
  rw [Int.mul_comm] at h
  exact Int.ediv_lt_of_lt_mul (by omega : 0 < s) h
end Go.Proofs.YteaaikmejacpaaaGreatDoor.Sh


namespace Go.Proofs.YteaaikmejacpaaaGreatDoor.Sh
open Go.ChangeShapes Go.WideShapes Go.ChangeAt Go.RowKit
set_option maxRecDepth 8000
set_option linter.unusedVariables false
set_option linter.unusedSimpArgs false
theorem vE_long {zs : List Int} (h : 6 < zs.length) : vE zs = 2 := by unfold vE; rw [if_pos h]
theorem vE_low {zs : List Int} (h : ¬ 6 < zs.length) (h1 : zs.any low = true) : vE zs = 1 := by unfold vE; rw [if_neg h, if_pos h1]
theorem vE_none {zs : List Int} (h : ¬ 6 < zs.length) (h1 : zs.any low = false) (h2 : pr 1 zs = none) : vE zs = 2 := by unfold vE; rw [if_neg h, h1, if_neg (by decide), if_pos h2]
theorem vE_some {zs : List Int} {s : Int} (h : ¬ 6 < zs.length) (h1 : zs.any low = false) (h2 : pr 1 zs = some s) : vE zs = 0 := by unfold vE; rw [if_neg h, h1, if_neg (by decide), h2, if_neg (by simp)]
theorem pr_none {s z : Int} {zs : List Int} (h : 4096 < s * z) : pr s (z :: zs) = none := by unfold pr; rw [if_pos h]
theorem pr_go {s z : Int} {zs : List Int} (h : ¬ 4096 < s * z) : pr s (z :: zs) = pr (s * z) zs := by
 show (if 4096 < s * z then none else pr (s * z) zs) = _
 rw [if_neg h]
set_option maxHeartbeats 4000000 in
theorem c14 (p : Option Addr) (zs : List Int) (c : Nat) (w : World) (hn : zs.length <= maxLen) (RA : Hid (SlI w p zs)) :
  Calls Tryz.prog 47 #[.slice p zs.length c] w fun e w' => e = .returned (.int .i64 (vE zs)) /\ w = w' := by
 have C := Lib.hid (c46 p zs c w hn RA)
 unfold maxLen at hn
 by_cases h6 : 6 < zs.length
 ·rw [vE_long h6]
  have l1 : decide ((6 : Int) < zs.length) = true := by simp <;> omega
  go_enter Tryz.func47, Tryz.ntmps47
  go_wp2
  go_ret
  exact ⟨rfl, rfl⟩
 ·have l1 : decide ((6 : Int) < zs.length) = false := by simp <;> omega
  have l2 : decide (6 < zs.length) = false := by simp <;> omega
  obtain ⟨x, hx⟩ : ∃ x, zs.any low = x := ⟨_, rfl⟩
  rw [hx] at C
  have HX := Lib.hid hx
  have H6 := Lib.hid h6
  clear h6 hx
  cases x
  ·obtain ⟨V, hV⟩ : ∃ V, vE zs = V := ⟨_, rfl⟩
   rw [hV]
   have HV := Lib.hid hV
   clear hV
   go_enter Tryz.func47, Tryz.ntmps47
   go_wp2_with (go_at_call 82; refine (C.out).mono ?_; rintro e w' ⟨rfl, rfl⟩)
   go_loop [3, 13] (fun s i => ∃ (k : Nat) (S : Int), s = .int .i64 S /\ i = .int .i64 k /\ k <= zs.length /\ 1 <= S /\ S <= 4096 /\ Hid (pr 1 zs = pr S (zs.drop k))) (fun _ i => zs.length - (intOf i).toNat)
   case atStart => exact ⟨0, 1, rfl, rfl, by omega, by omega, by omega, Lib.hid rfl⟩
   case round =>
    obtain ⟨k, S, rfl, rfl, hk, s0, s1, hP⟩ := hrel
    have sz : (S == 0) = false := by simp <;> omega
    by_cases hlt : k < zs.length
    ·obtain ⟨b, o, rfl, hc⟩ := RA.out k hlt
     have z1 := pos_of HX.out hlt
     have hd := drop_cons hlt
     have hq := quo_lt S (zs.getD k 0) s0 s1
     obtain ⟨z, hz⟩ : ∃ z, zs.getD k 0 = z := ⟨_, rfl⟩
     rw [hz] at hc z1 hd hq
     obtain ⟨T, hT⟩ : ∃ T, S * z = T := ⟨_, rfl⟩
     rw [hT] at hq
     obtain ⟨q, hQ⟩ : ∃ q, 4096 / S = q := ⟨_, rfl⟩
     rw [hQ] at hq
     have t0 : 0 < T := by rw [<- hT]; exact Int.mul_pos (by omega) (by omega)
     have HT := Lib.hid hT
     have HD := Lib.hid hd
     clear hz hd
     by_cases hb : 4096 < T
     ·have k1 : decide (q < z) = true := by simp <;> omega
      have e : V = 2 := by rw [<- HV.out]; exact vE_none H6.out HX.out (by rw [hP.out, HD.out]; exact pr_none (by rw [HT.out]; exact hb))
      have HE := Lib.hid e
      clear e hq hT
      go_wp2
      go_ret
      exact ⟨ret_int HE.out.symm, rfl⟩
     ·have k1 : decide (q < z) = false := by simp <;> omega
      have t1 : T <= 4096 := by omega
      have hP2 : Hid (pr 1 zs = pr T (zs.drop (k + 1))) := Lib.hid (by rw [hP.out, HD.out, pr_go (by rw [HT.out]; exact hb), HT.out])
      clear hq hb
      go_wp2
      go_round
      case rel => exact ⟨k + 1, T, rfl, by go_num, by omega, by omega, by omega, hP2⟩
      case measure => simp [intOf]; omega
    ·have e : V = 0 := by
      rw [<- HV.out]
      have h := hP.out
      rw [List.drop_of_length_le (by omega)] at h
      exact vE_some H6.out HX.out h
     have HE := Lib.hid e
     clear e
     go_wp2
     go_ret
     exact ⟨ret_int HE.out.symm, rfl⟩
  ·rw [vE_low H6.out HX.out]
   go_enter Tryz.func47, Tryz.ntmps47
   go_wp2_with (go_at_call 82; refine (C.out).mono ?_; rintro e w' ⟨rfl, rfl⟩)
   go_ret
   exact ⟨rfl, rfl⟩
end Go.Proofs.YteaaikmejacpaaaGreatDoor.Sh


namespace Go.Proofs.YteaaikmejacpaaaGreatDoor.Sh
open Go.ChangeShapes Go.WideShapes Go.ChangeAt Go.RowKit
set_option maxRecDepth 8000
set_option linter.unusedVariables false
set_option linter.unusedSimpArgs false
set_option maxHeartbeats 4000000 in
theorem c16_bad (p : Option Addr) (zs : List Int) (c : Nat) (w : World) (hn : zs.length <= maxLen) (RA : Hid (SlI w p zs)) (hv : (vE zs != 0) = true) :
  Calls Tryz.prog 51 #[.slice p zs.length c] w fun e w' => e = .returned (.int .i64 0) /\ w = w' := by
 have C := Lib.hid (c14 p zs c w hn RA)
 generalize vE zs = e at *
 go_enter Tryz.func51, Tryz.ntmps51
 go_wp2_with (go_at_call 47; refine (C.out).mono ?_; rintro e w' ⟨rfl, rfl⟩)
 go_ret
 exact ⟨rfl, rfl⟩
set_option maxHeartbeats 4000000 in
theorem c16_ok (p : Option Addr) (zs : List Int) (c : Nat) (P : Int) (w : World) (hn : zs.length <= maxLen) (RA : Hid (SlI w p zs)) (hv : vE zs = 0) (hl : Hid (zs.any low = false)) (hP : Hid (pr 1 zs = some P)) :
  Calls Tryz.prog 51 #[.slice p zs.length c] w fun e w' => e = .returned (.int .i64 P) /\ w = w' := by
 have C := Lib.hid (c14 p zs c w hn RA)
 rw [hv] at C
 clear hv
 unfold maxLen at hn
 go_enter Tryz.func51, Tryz.ntmps51
 go_wp2_with (go_at_call 47; refine (C.out).mono ?_; rintro e w' ⟨rfl, rfl⟩)
 go_loop [3, 11] (fun s i => ∃ (k : Nat) (S : Int), s = .int .i64 S /\ i = .int .i64 k /\ k <= zs.length /\ 1 <= S /\ S <= 4096 /\ Hid (pr S (zs.drop k) = some P)) (fun _ i => zs.length - (intOf i).toNat)
 case atStart => exact ⟨0, 1, rfl, rfl, by omega, by omega, by omega, hP⟩
 case round =>
  obtain ⟨k, S, rfl, rfl, hk, s0, s1, hP⟩ := hrel
  by_cases hlt : k < zs.length
  ·obtain ⟨b, o, rfl, hc⟩ := RA.out k hlt
   have z1 := pos_of hl.out hlt
   have hd := drop_cons hlt
   obtain ⟨z, hz⟩ : ∃ z, zs.getD k 0 = z := ⟨_, rfl⟩
   rw [hz] at hc z1 hd
   obtain ⟨T, hT⟩ : ∃ T, S * z = T := ⟨_, rfl⟩
   have t0 : 0 < T := by rw [<- hT]; exact Int.mul_pos (by omega) (by omega)
   have h := hP.out
   rw [hd] at h
   have t1 : T <= 4096 := by
    by_cases hb : 4096 < S * z
    ·rw [pr_none hb] at h
     cases h
    ·omega
   have hP2 : Hid (pr T (zs.drop (k + 1)) = some P) := Lib.hid (by rw [pr_go (by omega), hT] at h; exact h)
   have hd0 := Lib.hid hd
   clear hz hd h
   go_wp2
   go_round
   case rel => exact ⟨k + 1, T, rfl, by go_num, by omega, by omega, by omega, hP2⟩
   case measure => simp [intOf]; omega
  ·have e : S = P := by
    have h := hP.out
    rw [List.drop_of_length_le (by omega)] at h
    exact Option.some.inj h
   subst e
   go_wp2
   go_ret
   exact ⟨rfl, rfl⟩
theorem vE_zero {zs : List Int} (h : vE zs = 0) : zs.length <= 6 /\ zs.any low = false /\ ∃ P, pr 1 zs = some P := by
 unfold vE at h
 by_cases h1 : 6 < zs.length
 ·rw [if_pos h1] at h; cases h
 ·rw [if_neg h1] at h
  by_cases h2 : zs.any low = true
  ·rw [if_pos h2] at h; cases h
  ·rw [if_neg h2] at h
   by_cases h3 : pr 1 zs = none
   ·rw [if_pos h3] at h; cases h
   ·exact ⟨by omega, by simpa using h2, Option.ne_none_iff_exists'.1 h3⟩
def sz (zs : List Int) : Int := if vE zs = 0 then (pr 1 zs).getD 0 else 0
theorem c16 (p : Option Addr) (zs : List Int) (c : Nat) (w : World) (hn : zs.length <= maxLen) (RA : Hid (SlI w p zs)) : Calls Tryz.prog 51 #[.slice p zs.length c] w fun e w' => e = .returned (.int .i64 (sz zs)) /\ w = w' := by
 unfold sz
 by_cases h : vE zs = 0
 ·obtain ⟨_, h2, P, h3⟩ := vE_zero h
  rw [if_pos h, h3]
  exact c16_ok p zs c P w hn RA h (Lib.hid h2) (Lib.hid h3)
 ·rw [if_neg h]
  exact c16_bad p zs c w hn RA (by simpa using h)
end Go.Proofs.YteaaikmejacpaaaGreatDoor.Sh


namespace Go.Proofs.YteaaikmejacpaaaGreatDoor.Sh
open Go.ChangeShapes Go.WideShapes Go.ChangeAt Go.RowKit
set_option maxRecDepth 8000
set_option linter.unusedVariables false
set_option linter.unusedSimpArgs false
/-- The product of a list. -/
def sp : List Int -> Int
 | [] => 1
 | z :: zs => sp zs * z
/-- The strides of a list: for each place the product of what follows. -/
def st (zs : List Int) : List Int := (List.range zs.length).map fun j => sp (zs.drop (j + 1))
theorem st_length (zs : List Int) : (st zs).length = zs.length := by simp [st]
theorem st_get {zs : List Int} {j : Nat} (h : j < zs.length) : (st zs).getD j 0 = sp (zs.drop (j + 1)) := by
 rw [getD_at (by rw [st_length]; exact h)]
 simp [st]
theorem sp_pos : ∀ {zs : List Int}, zs.any low = false -> 1 <= sp zs
 | [], _ => by decide
 | z :: zs, h => by
  simp only [List.any_cons, Bool.or_eq_false_iff] at h
  have h1 := sp_pos h.2
  have h2 : 1 <= z := by have := h.1; unfold low at this; simp at this; omega
  have := Int.mul_le_mul h1 h2 (by decide) (by omega)
  show 1 <= sp zs * z
  omega
theorem pr_sp : ∀ {zs : List Int} {s P : Int}, pr s zs = some P -> P = s * sp zs
 | [], s, P, h => by
  unfold pr at h
  cases h
  show s = s * 1
  omega
 | z :: zs, s, P, h => by
  by_cases hb : 4096 < s * z
  ·rw [pr_none hb] at h; cases h
  ·rw [pr_go hb] at h
   rw [pr_sp h]
   show s * z * sp zs = s * (sp zs * z)
   rw [Int.mul_assoc, Int.mul_comm z]
theorem pr_le : ∀ {zs : List Int} {s P : Int}, s <= 4096 -> pr s zs = some P -> P <= 4096
 | [], s, P, h0, h => by unfold pr at h; cases h; exact h0
 | z :: zs, s, P, h0, h => by
  by_cases hb : 4096 < s * z
  ·rw [pr_none hb] at h; cases h
  ·rw [pr_go hb] at h
   exact pr_le (by omega) h
theorem any_drop {zs : List Int} (h : zs.any low = false) (k : Nat) : (zs.drop k).any low = false := by
 rw [List.any_eq_false] at h ⊢
 intro x hx
 exact h x (List.mem_of_mem_drop hx)
theorem sp_drop_le {zs : List Int} (h : zs.any low = false) : ∀ k, sp (zs.drop k) <= sp zs := by
 induction zs with
 | nil => intro k; simp
 | cons z zs ih =>
  intro k
  simp only [List.any_cons, Bool.or_eq_false_iff] at h
  cases k with
  | zero => exact Int.le_refl _
  | succ k =>
   have h1 := ih h.2 k
   have h2 : 1 <= z := by have := h.1; unfold low at this; simp at this; omega
   have h3 := sp_pos h.2
   have := Int.mul_le_mul_of_nonneg_left h2 (by omega : 0 <= sp zs)
   show sp (zs.drop k) <= sp zs * z
   omega
/-- What a valid list is. -/
theorem valid_of {zs : List Int} (h : vE zs = 0) : zs.length <= 6 /\ zs.any low = false /\ pr 1 zs = some (sp zs) /\ sp zs <= 4096 /\ ∀ k, 1 <= sp (zs.drop k) /\ sp (zs.drop k) <= 4096 := by
 obtain ⟨h1, h2, P, h3⟩ := vE_zero h
 have e := pr_sp h3
 have l := pr_le (by decide) h3
 rw [Int.one_mul] at e
 subst e
 exact ⟨h1, h2, h3, l, fun k => ⟨sp_pos (any_drop h2 k), Int.le_trans (sp_drop_le h2 k) l⟩⟩
theorem info3 : (Tryz.prog.info? 3).map (fun i => (i.zero, i.size, i.bytes)) = some (some (.int .i64 0), 1, 8) := by kernel_rfl
/-- A slice of integers that the call has made. -/
def OW (l : List Int) (w : World) (e : Ending) (w' : World) : Prop := ∃ v, e = .returned v /\ Below w.heap.size w w' /\ w'.ownsRow w.heap.size 3 1 v l.length (l.map (Value.int .i64))
def sts (zs : List Int) : List Int := if vE zs = 0 then st zs else []
theorem below_own {w w' : World} {B : Nat} (hB : B <= w.heap.size) (h : w.grownBy w' none) : Below B w w' := by
 exact (Below.refl _ _).grown h hB (fun k hk => by cases hk)
theorem cells_of {w : World} {base g n cap j : Nat} {xs : List Int} (h : w.ownsRow base 3 1 (.slice (some ⟨g, 0, none⟩) n cap) n (xs.map (Value.int .i64))) (hj : j < n) (hx : xs.length = n) :
  w.cell? ⟨g, j, none⟩ = some (.int .i64 (xs.getD j 0)) := by
 rw [h.cellAt j (by omega), List.getElem?_map, List.getElem?_eq_getElem (by omega), getD_at (by omega)]
 rfl
end Go.Proofs.YteaaikmejacpaaaGreatDoor.Sh


namespace Go.Proofs.YteaaikmejacpaaaGreatDoor.Sh
open Go.ChangeShapes Go.WideShapes Go.ChangeAt Go.RowKit
set_option maxRecDepth 8000
set_option linter.unusedVariables false
set_option linter.unusedSimpArgs false
theorem Rg.keep' {y y' : World} {B b o : Nat} {v : Value} (hy : Below B y y') (hb : b < B) (h : y.cell? ⟨b, o, none⟩ = some v) : y'.cell? ⟨b, o, none⟩ = some v := (hy.cell (p := ⟨b, o, none⟩) hb).trans h
set_option maxHeartbeats 4000000 in
theorem c19_bad (p : Option Addr) (zs : List Int) (c : Nat) (w : World) (hn : zs.length <= maxLen) (RA : Hid (SlI w p zs)) (hv : (vE zs != 0) = true) :
  Calls Tryz.prog 72 #[.slice p zs.length c] w (OW [] w) := by
 have C := Lib.hid (c14 p zs c w hn RA)
 generalize vE zs = e at *
 go_enter Tryz.func72, Tryz.ntmps72
 go_wp2_with (go_at_call 47; refine (C.out).mono ?_; rintro e w' ⟨rfl, rfl⟩)
 go_ret
 exact ⟨_, rfl, Below.refl _ _, World.ownsRow_nil _ _ _ _⟩
set_option maxHeartbeats 8000000 in
theorem c19_ok (p : Option Addr) (zs : List Int) (c : Nat) (w : World) (RA : Hid (SlI w p zs)) (hv : vE zs = 0) :
  Calls Tryz.prog 72 #[.slice p zs.length c] w (OW (st zs) w) := by
 obtain ⟨h6, hl, hP, hS, hD⟩ := valid_of hv
 have C := Lib.hid (c14 p zs c w (by unfold maxLen; omega) RA)
 rw [hv] at C
 clear hv hP hS
 obtain ⟨i0, hi, hz0, hz1, hz2⟩ := info_parts info3
 have HD := Lib.hid hD
 have HL := Lib.hid hl
 clear hD hl
 obtain ⟨n, hn⟩ : ∃ n, zs.length = n := ⟨_, rfl⟩
 have HN := Lib.hid hn
 rw [hn] at C h6 ⊢
 clear hn
 go_enter Tryz.func72, Tryz.ntmps72
 go_wp2_with (first | (go_at_call 47; refine (C.out).mono ?_; rintro e w' ⟨rfl, rfl⟩) | (refine wpList_make_full _ rfl _ _ 24 rfl w.heap.size 3 i0 (.int .i64 0) 1 Tryz.underlying24 hi hz0 hz1 .i64 .i64 _ _ n rfl rfl rfl rfl (by rw [hz2]; omega) (by unfold maxLen; omega) (Nat.le_refl _) ?_; intro w1 hown hg; have hB := below_own (Nat.le_refl _) hg; have hs := hg.size; clear hg hi hz0 hz1 hz2 i0))
 have hown2 : Hid (w1.ownsRow w.heap.size 3 1 (.slice (some ⟨w.heap.size, 0, none⟩) n n) n ((List.replicate n (0 : Int)).map (Value.int .i64))) := Lib.hid (by
  have h := hown
  rw [show (Value.int IntKind.i64 0).cells = #[.int .i64 0] from rfl, toList_madeCells_one, Nat.mul_one] at h
  rw [List.map_replicate]
  exact h)
 clear hown
 go_loopw [4, 5] (fun s i wr => ∃ (m : Nat) (S : Int) (xs : List Int), s = .int .i64 S /\ i = .int .i64 ((m : Int) - 1) /\ m <= n /\ Hid (S = sp (zs.drop m)) /\ 1 <= S /\ S <= 4096 /\ xs.length = n /\ Hid (∀ j, m <= j -> j < n -> xs.getD j 0 = sp (zs.drop (j + 1))) /\ Below w.heap.size w wr /\ w.heap.size < wr.heap.size /\
  Hid (wr.ownsRow w.heap.size 3 1 (.slice (some ⟨w.heap.size, 0, none⟩) n n) n (xs.map (Value.int .i64)))) (fun _ i _ => (intOf i + 1).toNat)
 case atStart =>
  have hlt : w.heap.size < w1.heap.size := (hown2.out.lt w.heap.size rfl).2
  exact ⟨n, 1, _, rfl, rfl, Nat.le_refl _, Lib.hid (by rw [List.drop_of_length_le (by rw [HN.out]; exact Nat.le_refl _)]; rfl), by omega, by omega, by simp, Lib.hid fun j h1 h2 => by omega, hB, hlt, hown2⟩
 case round =>
  obtain ⟨m, S, xs, rfl, rfl, hm, hS, s0, s1, hx, hX, KB, lt, hO⟩ := hrel
  clear hown2 hB hs
  cases m with
  | zero =>
   have e : xs = st zs := by
    refine List.ext_getElem (by rw [st_length, hx, HN.out]) fun j h1 h2 => ?_
    have h := hX.out j (by omega) (by omega)
    rw [<- st_get (by rw [HN.out]; omega), getD_at h1, getD_at h2] at h
    exact h
   have HE := Lib.hid e
   clear e
   go_wp2
   go_ret
   exact ⟨_, rfl, KB, by rw [<- HE.out]; rw [show xs.length = n from hx]; exact hO.out⟩
  | succ m =>
   rw [show ((m + 1 : Nat) : Int) - 1 = (m : Int) by omega]
   obtain ⟨b, o, rfl, hc⟩ := RA.out m (by rw [HN.out]; omega)
   have hb : b < w.heap.size := by have := World.block_lt_of_cell? w _ hc; simpa using this
   have hc := Rg.keep' KB hb hc
   have z1 := pos_of HL.out (k := m) (by rw [HN.out]; omega)
   have hd := drop_cons (zs := zs) (k := m) (by rw [HN.out]; omega)
   obtain ⟨z, hz⟩ : ∃ z, zs.getD m 0 = z := ⟨_, rfl⟩
   rw [hz] at hc z1 hd
   obtain ⟨T, hT⟩ : ∃ T, S * z = T := ⟨_, rfl⟩
   have hsp : T = sp (zs.drop m) := by rw [hd, <- hT, hS.out]; rfl
   have tb := HD.out m
   rw [<- hsp] at tb
   obtain ⟨t0, t1⟩ := tb
   have oc := cells_of hO.out (j := m) (by omega) hx
   have of := hO.out.frozenAt m
   have oS := Lib.hid (hO.out.stored m (.int .i64 S)).1
   have ne : ¬ w.heap.size = b := by omega
   have ne2 : ¬ b = w.heap.size := by omega
   have hc2 : (wr.setCell ⟨w.heap.size, m, none⟩ (.int .i64 S)).cell? ⟨b, o + m, none⟩ = some (.int .i64 z) := by rw [World.cell?_setCell_far _ _ _ _ ne]; exact hc
   have HSP := Lib.hid hsp
   have HDD := Lib.hid hd
   have mlt : m < n := by omega
   have mi : (0 : Int) <= m := by omega
   have mi2 : (m : Int) < n := by omega
   clear hz hd hsp hm
   go_wp2
   go_roundw
   case rel =>
    refine ⟨m, T, xs.set m S, rfl, rfl, by omega, HSP, t0, t1, by simp [hx], Lib.hid fun j h1 h2 => ?_, Below.setCell KB (Nat.le_refl _) _, by simpa using lt, Lib.hid (by rw [List.map_set]; exact oS.out)⟩
    by_cases hj : j = m
    ·subst hj
     rw [getD_at (by simp [hx]; omega), List.getElem_set_self]
     exact hS.out
    ·rw [getD_at (by simp [hx]; omega), List.getElem_set_ne (by omega), <- getD_at (by omega)]
     exact hX.out j (by omega) h2
   case measure => simp [intOf]
end Go.Proofs.YteaaikmejacpaaaGreatDoor.Sh


namespace Go.Proofs.YteaaikmejacpaaaGreatDoor.Te
open Go.ChangeShapes Go.WideShapes Go.ChangeAt Go.RowKit
open Fx Va Sh
set_option maxRecDepth 8000
set_option linter.unusedVariables false
set_option linter.unusedSimpArgs false

theorem below_nq {w w' : World} (n : Nat) (h : Below w.heap.size w w') : Below w.heap.size w (w'.drewN n) := h.trans ⟨rfl, rfl, rfl, Nat.le_refl _, fun _ _ => rfl⟩
set_option maxHeartbeats 4000000 in
/-- The reference's test of a shape. -/
theorem rshape (p : Option Addr) (zs : List Int) (c : Nat) (w : World) (hn : zs.length <= maxLen) (RA : Hid (SlI w p zs)) :
  Calls Tryz.prog 53 #[.slice p zs.length c] w fun e w' => e = .returned (.int .i64 (vE zs)) /\ Below w.heap.size w w' := by
 unfold maxLen at hn
 by_cases h6 : 6 < zs.length
 ·rw [vE_long h6]
  have l1 : decide ((6 : Int) < zs.length) = true := by simp <;> omega
  go_enter Tryz.func53, Tryz.ntmps53
  go_wp2
  go_ret
  exact ⟨rfl, Below.refl _ _⟩
 ·have l1 : decide ((6 : Int) < zs.length) = false := by simp <;> omega
  have l2 : decide (6 < zs.length) = false := by simp <;> omega
  have H6 := Lib.hid h6
  clear h6
  obtain ⟨V, hV⟩ : ∃ V, vE zs = V := ⟨_, rfl⟩
  rw [hV]
  have HV := Lib.hid hV
  clear hV
  go_enter Tryz.func53, Tryz.ntmps53
  go_wp2
  go_loop [3] (fun i => ∃ (k : Nat), i = .int .i64 k /\ k <= zs.length /\ Hid (∀ j, j < k -> low (zs.getD j 0) = false)) (fun i => zs.length - (intOf i).toNat)
  case atStart => exact ⟨0, rfl, by omega, Lib.hid fun j hj => by omega⟩
  case round =>
   obtain ⟨k, rfl, hk, hL⟩ := hrel
   by_cases hlt : k < zs.length
   ·obtain ⟨b, o, rfl, hc⟩ := RA.out k hlt
    obtain ⟨z, hz⟩ : ∃ z, zs.getD k 0 = z := ⟨_, rfl⟩
    rw [hz] at hc
    have HZ := Lib.hid hz
    clear hz
    by_cases hz1 : z < 1
    ·have k1 : decide (z < 1) = true := by simpa using hz1
     have e : V = 1 := by rw [<- HV.out]; exact vE_low H6.out (any_at (k := k) (by rw [HZ.out]; exact k1) hlt)
     have HE := Lib.hid e
     clear e hz1
     go_wp2
     go_ret
     exact ⟨Sh.ret_int HE.out.symm, Below.refl _ _⟩
    ·have k1 : decide (z < 1) = false := by simpa using hz1
     have hL2 : Hid (∀ j, j < k + 1 -> low (zs.getD j 0) = false) := Lib.hid fun j hj => by
      rcases (by omega : j < k \/ j = k) with h | rfl
      ·exact hL.out j h
      ·rw [HZ.out]; exact k1
     clear hz1
     go_wp2
     go_round
     case rel => exact ⟨k + 1, by go_num, by omega, hL2⟩
     case measure => simp [intOf]; omega
   ·have HX : Hid (zs.any low = false) := Lib.hid (any_take (k := k) hL.out (by omega))
    clear hL
    go_wp2
    go_loopw [4, 5] (fun s i wr => ∃ (k : Nat) (S : Int) (r : Nat), s = .int .i64 S /\ i = .int .i64 k /\ k <= zs.length /\ 1 <= S /\ S <= 4096 /\ wr = w.drewN r /\ Hid (pr 1 zs = pr S (zs.drop k))) (fun _ i _ => zs.length - (intOf i).toNat)
    case atStart => exact ⟨0, 1, 0, rfl, rfl, by omega, by omega, by omega, rfl, Lib.hid rfl⟩
    case round =>
     obtain ⟨m, S, r, rfl, rfl, hm, s0, s1, rfl, hP⟩ := hrel
     have mm0 : (0 : Int) <= m := by omega
     by_cases hlt : m < zs.length
     ·obtain ⟨b, o, rfl, hc⟩ := RA.out m hlt
      have m1 : (m : Int) < zs.length := by omega
      have z1 := pos_of HX.out hlt
      have hd := drop_cons hlt
      obtain ⟨z, hz⟩ : ∃ z, zs.getD m 0 = z := ⟨_, rfl⟩
      rw [hz] at hc z1 hd
      have HD := Lib.hid hd
      clear hz hd
      obtain ⟨Q, hQ⟩ : ∃ Q, (4096 : Int).tdiv S = Q := ⟨_, rfl⟩
      have hQ2 : (4096 : Int) / S = Q := by rw [<- hQ, Int.tdiv_eq_ediv_of_nonneg (by decide)]
      have q1 : Q * S <= 4096 := by rw [<- hQ2]; exact Int.ediv_mul_le _ (by omega)
      have q2 : 4096 < (Q + 1) * S := by rw [<- hQ2]; exact Int.lt_ediv_add_one_mul_self _ (by omega)
      have q0 : 0 <= Q := by rw [<- hQ2]; exact Int.ediv_nonneg (by decide) (by omega)
      have q3 : Q <= 4096 := by rw [<- hQ2]; exact Int.ediv_le_self _ (by decide)
      have wq : IntKind.i64.wrap ((4096 : Int).tdiv S) = Q := by rw [hQ, IntKind.wrap_i64]; omega
      have sne : ¬ S = 0 := by omega
      by_cases hb : Q < z
      ·have k1 : decide (Q < z) = true := by simpa using hb
       have e : V = 2 := by
        rw [<- HV.out]
        refine vE_none H6.out HX.out ?_
        rw [hP.out, HD.out]
        refine pr_none ?_
        have h1 := Int.mul_le_mul_of_nonneg_left (by omega : Q + 1 <= z) (by omega : 0 <= S)
        rw [Int.mul_comm S (Q + 1)] at h1
        omega
       have HE := Lib.hid e
       clear e hb q1 q2 hQ hQ2
       go_wp2
       go_quiet (fail)
       go_wp2
       go_ret
       exact ⟨Sh.ret_int HE.out.symm, below_nq _ (below_nq _ (Below.refl _ _))⟩
      ·have k1 : decide (Q < z) = false := by simpa using hb
       obtain ⟨T, hT⟩ : ∃ T, S * z = T := ⟨_, rfl⟩
       have t1 : T <= 4096 := by
        have h1 := Int.mul_le_mul_of_nonneg_left (by omega : z <= Q) (by omega : 0 <= S)
        rw [Int.mul_comm S Q] at h1
        omega
       have t0 : 0 < T := by rw [<- hT]; exact Int.mul_pos (by omega) (by omega)
       have HT := Lib.hid hT
       have hP2 : Hid (pr 1 zs = pr T (zs.drop (m + 1))) := Lib.hid (by rw [hP.out, HD.out, pr_go (by rw [HT.out]; omega), HT.out])
       clear hb q1 q2 hQ hQ2
       go_wp2
       go_quiet (fail)
       go_wp2
       go_roundw
       case rel => exact ⟨m + 1, T, _, rfl, by go_num, by omega, by omega, by omega, rfl, hP2⟩
       case measure => simp [intOf]; omega
     ·have e : V = 0 := by
       rw [<- HV.out]
       have h := hP.out
       rw [List.drop_of_length_le (by omega)] at h
       exact vE_some H6.out HX.out h
      have m1 : ¬ (m : Int) < zs.length := by omega
      have HE := Lib.hid e
      clear e
      go_wp2
      go_ret
      exact ⟨Sh.ret_int HE.out.symm, below_nq _ (Below.refl _ _)⟩
theorem sz_sp {zs : List Int} (h : vE zs = 0) : sz zs = sp zs := by
 obtain ⟨_, _, h3, _⟩ := valid_of h
 unfold sz
 rw [if_pos h, h3]
 rfl

set_option maxHeartbeats 4000000 in
/-- The reference's size of a valid shape. -/
theorem rsize (p : Option Addr) (zs : List Int) (c : Nat) (w : World) (RA : Hid (SlI w p zs)) (hv : vE zs = 0) :
  Calls Tryz.prog 55 #[.slice p zs.length c] w fun e w' => e = .returned (.int .i64 (sp zs)) /\ w = w' := by
 obtain ⟨h6, hlow, hP, hS, hD⟩ := valid_of hv
 have HP := Lib.hid hP
 have HX := Lib.hid hlow
 obtain ⟨V, hV⟩ : ∃ V, sp zs = V := ⟨_, rfl⟩
 rw [hV] at HP ⊢
 clear hP hlow hV hv hD hS
 go_enter Tryz.func55, Tryz.ntmps55
 go_wp2
 go_loop [3, 4] (fun s i => ∃ (k : Nat) (S : Int), s = .int .i64 S /\ i = .int .i64 k /\ k <= zs.length /\ 1 <= S /\ S <= 4096 /\ Hid (pr S (zs.drop k) = some V)) (fun _ i => zs.length - (intOf i).toNat)
 case atStart => exact ⟨0, 1, rfl, rfl, by omega, by omega, by omega, HP⟩
 case round =>
  obtain ⟨m, S, rfl, rfl, hm, s0, s1, hP⟩ := hrel
  have mm0 : (0 : Int) <= m := by omega
  by_cases hlt : m < zs.length
  ·obtain ⟨b, o, rfl, hc⟩ := RA.out m hlt
   have m1 : (m : Int) < zs.length := by omega
   have z1 := pos_of HX.out hlt
   have hd := drop_cons hlt
   obtain ⟨z, hz⟩ : ∃ z, zs.getD m 0 = z := ⟨_, rfl⟩
   rw [hz] at hc z1 hd
   have h := hP.out
   rw [hd] at h
   obtain ⟨T, hT⟩ : ∃ T, S * z = T := ⟨_, rfl⟩
   have hle : ¬ 4096 < T := by
    intro h2
    rw [pr_none (by rw [hT]; exact h2)] at h
    cases h
   have t0 : 0 < T := by rw [<- hT]; exact Int.mul_pos (by omega) (by omega)
   rw [pr_go (by rw [hT]; exact hle), hT] at h
   have HH := Lib.hid h
   clear h hz hd
   go_wp2
   go_round
   case rel => exact ⟨m + 1, T, rfl, by go_num, by omega, by omega, by omega, HH⟩
   case measure => simp [intOf]; omega
  ·have m1 : ¬ (m : Int) < zs.length := by omega
   have e : S = V := by
    have h := hP.out
    rw [List.drop_of_length_le (by omega)] at h
    exact Option.some.inj h
   have HE := Lib.hid e
   clear e
   go_wp2
   go_ret
   exact ⟨Sh.ret_int HE.out, rfl⟩
end Go.Proofs.YteaaikmejacpaaaGreatDoor.Te
