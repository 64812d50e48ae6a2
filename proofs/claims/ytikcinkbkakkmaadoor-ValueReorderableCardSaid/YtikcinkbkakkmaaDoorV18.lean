/- Identity of package value; lists of numbers. -/
import Derived.Test.YtikcinkbkakkmaaDoorV7

namespace Go.Proofs.YtikcinkbkakkmaaDoor.Va
open Go.ChangeShapes Go.WideShapes Go.ChangeAt Go.RowKit
open Fr Fx

set_option linter.unusedVariables false
set_option linter.unusedSimpArgs false

def opv (fold : Int) : Int := if fold = 2 then 6 else if fold = 3 then 9 else if fold = 4 then 10 else 4
def known (fold : Int) : Bool := decide (1 ≤ fold ∧ fold ≤ 5)
def idv (fold K B F R O : Int) : Int × Int × Bool :=
  if ty K B F R O = false then (0, 0, false) else if fold = 1 ∨ fold = 5 then (0, 1, true) else if fold = 2 then ((onv K B F R O).1, (onv K B F R O).2.1, decide ((onv K B F R O).2.2 = 0)) else (0, 0, false)
/-- A slice of numbers reads as a list of pairs. -/
def SlV (w : World) (p : Option Addr) (xs : List (Int × Int)) : Prop := ∀ i, i < xs.length → ∃ b o, p = some ⟨b, o, none⟩ ∧ w.cell? ⟨b, o + i * 2, none⟩ = some (.int .i64 (xs.getD i (0, 0)).1) ∧ w.cell? ⟨b, o + i * 2 + 1, none⟩ = some (.int .i64 (xs.getD i (0, 0)).2)
theorem SlV.below {w w' : World} {p : Option Addr} {xs : List (Int × Int)} (h : SlV w p xs) (hb : Below w.heap.size w w') : SlV w' p xs := fun i hi => by
  obtain ⟨b, o, rfl, c0, c1⟩ := h i hi
  exact ⟨b, o, rfl, Rg.keep hb (World.block_lt_of_cell? _ _ c0) c0, Rg.keep hb (World.block_lt_of_cell? _ _ c1) c1⟩
theorem cutV {w : World} {b o c : Nat} {x : Int × Int} {xa : List (Int × Int)} (h : SlV w (some ⟨b, o, none⟩) (x :: xa)) (hc : (x :: xa).length ≤ c) :
    ∃ A : Option Addr, (if c = 1 then some (⟨b, o, none⟩ : Addr) else some ⟨b, o + 2, none⟩) = A ∧ SlV w A xa := by
  rw [List.length_cons] at hc
  refine ⟨_, rfl, fun i hi => ?_⟩
  rw [if_neg (by omega)]
  obtain ⟨b1, o1, e, c0, c1⟩ := h (i + 1) (by rw [List.length_cons]; omega)
  cases e
  refine ⟨b, o + 2, rfl, ?_, ?_⟩
  · rw [show o + 2 + i * 2 = o + (i + 1) * 2 by omega]; exact c0
  · rw [show o + 2 + i * 2 + 1 = o + (i + 1) * 2 + 1 by omega]; exact c1
def rdf (op K B F R O : Int) : List (Int × Int) → Int × Int → A3
  | [], a => (a.1, a.2, 0)
  | v :: r, a => if (apv op K B F R O a.1 a.2 v.1 v.2).2.2 = 0 then rdf op K B F R O r ((apv op K B F R O a.1 a.2 v.1 v.2).1, (apv op K B F R O a.1 a.2 v.1 v.2).2.1) else (0, 0, (apv op K B F R O a.1 a.2 v.1 v.2).2.2)
def rdt (fold K B F R O : Int) : List (Int × Int) → A3
  | [] => if (idv fold K B F R O).2.2 = true then ((idv fold K B F R O).1, (idv fold K B F R O).2.1, 0) else (0, 0, 1)
  | v :: r => rdf (opv fold) K B F R O r v
def rdv (fold K B F R O : Int) (l : List (Int × Int)) : A3 :=
  if known fold = false then (0, 0, 1) else if ty K B F R O = false then (0, 0, 10) else if (∃ i, i < l.length ∧ vv K B F R O (l.getD i (0, 0)).1 (l.getD i (0, 0)).2 = false) then (0, 0, 1)
  else rdt fold K B F R O l
theorem drop_step {xs : List (Int × Int)} {i : Nat} (h : i < xs.length) : xs.drop i = xs.getD i (0, 0) :: xs.drop (i + 1) := by
  rw [List.drop_eq_getElem_cons h]
  congr 1
  rw [List.getD, List.getElem?_eq_getElem h]; rfl
theorem rdf_step {op K B F R O : Int} {xs : List (Int × Int)} {i : Nat} (h : i < xs.length) (a : Int × Int) : rdf op K B F R O (xs.drop i) a =
    if (apv op K B F R O a.1 a.2 (xs.getD i (0, 0)).1 (xs.getD i (0, 0)).2).2.2 = 0 then rdf op K B F R O (xs.drop (i + 1)) ((apv op K B F R O a.1 a.2 (xs.getD i (0, 0)).1 (xs.getD i (0, 0)).2).1, (apv op K B F R O a.1 a.2 (xs.getD i (0, 0)).1 (xs.getD i (0, 0)).2).2.1) else (0, 0, (apv op K B F R O a.1 a.2 (xs.getD i (0, 0)).1 (xs.getD i (0, 0)).2).2.2) := by
  rw [drop_step h]; rfl
theorem rdf_end {op K B F R O : Int} {xs : List (Int × Int)} (a : Int × Int) : rdf op K B F R O (xs.drop xs.length) a = (a.1, a.2, 0) := by
  rw [List.drop_length]; rfl
theorem c_op (fold : Int) (w : World) : Calls Tryd.prog 37 #[.int .i64 fold] w fun e w' => e = .returned (.tuple #[.int .i64 (if known fold then opv fold else 0), .bool (known fold)]) ∧ w = w' := by
  have hk : known fold = decide (1 ≤ fold ∧ fold ≤ 5) := rfl
  by_cases h1 : fold = 1
  · subst h1
    go_enter Tryd.func37, Tryd.ntmps37
    go_wp2
    go_ret2
    exact ⟨rfl, rfl⟩
  by_cases h5 : fold = 5
  · subst h5
    go_enter Tryd.func37, Tryd.ntmps37
    go_wp2
    go_ret2
    exact ⟨rfl, rfl⟩
  by_cases h2 : fold = 2
  · subst h2
    go_enter Tryd.func37, Tryd.ntmps37
    go_wp2
    go_ret2
    exact ⟨rfl, rfl⟩
  by_cases h3 : fold = 3
  · subst h3
    go_enter Tryd.func37, Tryd.ntmps37
    go_wp2
    go_ret2
    exact ⟨rfl, rfl⟩
  by_cases h4 : fold = 4
  · subst h4
    go_enter Tryd.func37, Tryd.ntmps37
    go_wp2
    go_ret2
    exact ⟨rfl, rfl⟩
  rw [show known fold = false by unfold known; exact decide_eq_false (by omega)]
  have g1 : (fold == 1) = false := by simpa using h1
  have g2 : (fold == 2) = false := by simpa using h2
  have g3 : (fold == 3) = false := by simpa using h3
  have g4 : (fold == 4) = false := by simpa using h4
  have g5 : (fold == 5) = false := by simpa using h5
  clear h1 h2 h3 h4 h5 hk
  go_enter Tryd.func37, Tryd.ntmps37
  go_wp2
  go_ret2
  exact ⟨rfl, rfl⟩
abbrev I3 (r : Int × Int × Bool) : Value := .tuple #[V2 r.1 r.2.1, .bool r.2.2]
set_option maxHeartbeats 4000000 in
theorem c_id (fold K B F R O : Int) (w : World) (b0 : -9223372036854775808 ≤ B) (b1 : B ≤ 9223372036854775807) : Calls Tryd.prog 38 #[.int .i64 fold, T5 K B F R O] w (Ret (I3 (idv fold K B F R O)) w) := by
  cases h : ty K B F R O
  · rw [show idv fold K B F R O = (0, 0, false) by unfold idv; rw [if_pos h]]
    have VT := Lib.hid fun w => vtF h w
    clear h b0 b1
    go_enter Tryd.func38, Tryd.ntmps38
    go_wp2_with (first | (go_at_call 9; (with_reducible refine (VT.out _).mono ?_); rintro e w1 ⟨rfl, hb1⟩; have hc1 := (bcell hb1).1; have hf1 := (bcell hb1).2; have z1_0 : w.heap.size < w1.heap.size := (by have hzz := hb1.size; (try simp at hzz); omega); have z1_1 : w.heap.size + 1 < w1.heap.size := (by have hzz := hb1.size; (try simp at hzz); omega); have K1 : Below w.heap.size w w1 := Below.trans (b := _) (by (repeat' (first | (with_reducible exact Below.refl _ _) | (with_reducible refine Below.alloc ?_ ?_ _) | (with_reducible refine Below.setCell ?_ ?_ _) | (with_reducible refine below_drewN ?_ _) | (simp; done) | omega | (simp; omega)))) (hb1.mono (by have hzz := hb1.size; (try simp at hzz); first | omega | (simp; done) | (simp; omega)))))
    refine bodyPost_ret (v := .tuple #[V2 0 0, .bool false]) (by simp [results, Tryd.results38, go_sem, hc1, hf1, z1_0, Nat.lt_succ_of_lt z1_0, Nat.ne_of_lt z1_0, Nat.ne_of_gt z1_0, z1_1, Nat.lt_succ_of_lt z1_1, Nat.ne_of_lt z1_1, Nat.ne_of_gt z1_1]) rfl ⟨rfl, ?_⟩; (repeat' (first | (with_reducible exact Below.refl _ _) | (with_reducible exact K1) | (with_reducible refine Below.alloc ?_ ?_ _) | (with_reducible refine Below.setCell ?_ ?_ _) | (with_reducible refine below_drewN ?_ _) | (simp; done) | omega | (simp; omega)))
  have VT := Lib.hid fun w => vtT h w
  have ZE := Lib.hid fun w => c_zero K B F R O w
  rw [h, if_pos rfl] at ZE
  by_cases h1 : fold = 1
  · rw [show idv fold K B F R O = (0, 1, true) by unfold idv; rw [if_neg (by rw [h]; decide), if_pos (Or.inl h1)]]
    have g1 : (fold == 1) = true := by simpa using h1
    clear h h1 b0 b1
    go_enter Tryd.func38, Tryd.ntmps38
    go_wp2_with (first | (go_at_call 9; (with_reducible refine (VT.out _).mono ?_); rintro e w1 ⟨rfl, hb1⟩; have hc1 := (bcell hb1).1; have hf1 := (bcell hb1).2; have z1_0 : w.heap.size < w1.heap.size := (by have hzz := hb1.size; (try simp at hzz); omega); have z1_1 : w.heap.size + 1 < w1.heap.size := (by have hzz := hb1.size; (try simp at hzz); omega); have K1 : Below w.heap.size w w1 := Below.trans (b := _) (by (repeat' (first | (with_reducible exact Below.refl _ _) | (with_reducible refine Below.alloc ?_ ?_ _) | (with_reducible refine Below.setCell ?_ ?_ _) | (with_reducible refine below_drewN ?_ _) | (simp; done) | omega | (simp; omega)))) (hb1.mono (by have hzz := hb1.size; (try simp at hzz); first | omega | (simp; done) | (simp; omega)))) | (go_at_call 13; (with_reducible refine (ZE.out _).mono ?_); rintro e w2 ⟨rfl, hb2⟩; have hc2 := (bcell hb2).1; have hf2 := (bcell hb2).2; have z2_0 : w.heap.size < w2.heap.size := (by have hzz := hb2.size; (try simp at hzz); omega); have z2_1 : w.heap.size + 1 < w2.heap.size := (by have hzz := hb2.size; (try simp at hzz); omega); have K2 : Below w.heap.size w w2 := Below.trans (b := _) (by (repeat' (first | (with_reducible exact Below.refl _ _) | (with_reducible exact K1) | (with_reducible refine Below.alloc ?_ ?_ _) | (with_reducible refine Below.setCell ?_ ?_ _) | (with_reducible refine below_drewN ?_ _) | (simp; done) | omega | (simp; omega)))) (hb2.mono (by have hzz := hb2.size; (try simp at hzz); first | omega | (simp; done) | (simp; omega)))))
    refine bodyPost_ret (v := .tuple #[V2 0 1, .bool true]) (by simp [results, Tryd.results38, go_sem, hc1, hf1, hc2, hf2, z1_0, Nat.lt_succ_of_lt z1_0, Nat.ne_of_lt z1_0, Nat.ne_of_gt z1_0, z1_1, Nat.lt_succ_of_lt z1_1, Nat.ne_of_lt z1_1, Nat.ne_of_gt z1_1, z2_0, Nat.lt_succ_of_lt z2_0, Nat.ne_of_lt z2_0, Nat.ne_of_gt z2_0, z2_1, Nat.lt_succ_of_lt z2_1, Nat.ne_of_lt z2_1, Nat.ne_of_gt z2_1]) rfl ⟨rfl, ?_⟩; (repeat' (first | (with_reducible exact Below.refl _ _) | (with_reducible exact K1) | (with_reducible exact K2) | (with_reducible refine Below.alloc ?_ ?_ _) | (with_reducible refine Below.setCell ?_ ?_ _) | (with_reducible refine below_drewN ?_ _) | (simp; done) | omega | (simp; omega)))
  have g1 : (fold == 1) = false := by simpa using h1
  by_cases h5 : fold = 5
  · rw [show idv fold K B F R O = (0, 1, true) by unfold idv; rw [if_neg (by rw [h]; decide), if_pos (Or.inr h5)]]
    have g5 : (fold == 5) = true := by simpa using h5
    clear h h1 h5 b0 b1
    go_enter Tryd.func38, Tryd.ntmps38
    go_wp2_with (first | (go_at_call 9; (with_reducible refine (VT.out _).mono ?_); rintro e w1 ⟨rfl, hb1⟩; have hc1 := (bcell hb1).1; have hf1 := (bcell hb1).2; have z1_0 : w.heap.size < w1.heap.size := (by have hzz := hb1.size; (try simp at hzz); omega); have z1_1 : w.heap.size + 1 < w1.heap.size := (by have hzz := hb1.size; (try simp at hzz); omega); have K1 : Below w.heap.size w w1 := Below.trans (b := _) (by (repeat' (first | (with_reducible exact Below.refl _ _) | (with_reducible refine Below.alloc ?_ ?_ _) | (with_reducible refine Below.setCell ?_ ?_ _) | (with_reducible refine below_drewN ?_ _) | (simp; done) | omega | (simp; omega)))) (hb1.mono (by have hzz := hb1.size; (try simp at hzz); first | omega | (simp; done) | (simp; omega)))) | (go_at_call 13; (with_reducible refine (ZE.out _).mono ?_); rintro e w2 ⟨rfl, hb2⟩; have hc2 := (bcell hb2).1; have hf2 := (bcell hb2).2; have z2_0 : w.heap.size < w2.heap.size := (by have hzz := hb2.size; (try simp at hzz); omega); have z2_1 : w.heap.size + 1 < w2.heap.size := (by have hzz := hb2.size; (try simp at hzz); omega); have K2 : Below w.heap.size w w2 := Below.trans (b := _) (by (repeat' (first | (with_reducible exact Below.refl _ _) | (with_reducible exact K1) | (with_reducible refine Below.alloc ?_ ?_ _) | (with_reducible refine Below.setCell ?_ ?_ _) | (with_reducible refine below_drewN ?_ _) | (simp; done) | omega | (simp; omega)))) (hb2.mono (by have hzz := hb2.size; (try simp at hzz); first | omega | (simp; done) | (simp; omega)))))
    refine bodyPost_ret (v := .tuple #[V2 0 1, .bool true]) (by simp [results, Tryd.results38, go_sem, hc1, hf1, hc2, hf2, z1_0, Nat.lt_succ_of_lt z1_0, Nat.ne_of_lt z1_0, Nat.ne_of_gt z1_0, z1_1, Nat.lt_succ_of_lt z1_1, Nat.ne_of_lt z1_1, Nat.ne_of_gt z1_1, z2_0, Nat.lt_succ_of_lt z2_0, Nat.ne_of_lt z2_0, Nat.ne_of_gt z2_0, z2_1, Nat.lt_succ_of_lt z2_1, Nat.ne_of_lt z2_1, Nat.ne_of_gt z2_1]) rfl ⟨rfl, ?_⟩; (repeat' (first | (with_reducible exact Below.refl _ _) | (with_reducible exact K1) | (with_reducible exact K2) | (with_reducible refine Below.alloc ?_ ?_ _) | (with_reducible refine Below.setCell ?_ ?_ _) | (with_reducible refine below_drewN ?_ _) | (simp; done) | omega | (simp; omega)))
  have g5 : (fold == 5) = false := by simpa using h5
  by_cases h2 : fold = 2
  · rw [show idv fold K B F R O = ((onv K B F R O).1, (onv K B F R O).2.1, decide ((onv K B F R O).2.2 = 0)) by unfold idv; rw [if_neg (by rw [h]; decide), if_neg (by omega), if_pos h2]]
    have g2 : (fold == 2) = true := by simpa using h2
    have ON := Lib.hid fun w => c_one K B F R O w b0 b1
    obtain ⟨r, hr⟩ : ∃ r, onv K B F R O = r := ⟨_, rfl⟩
    rw [hr] at ON ⊢
    obtain ⟨x, y, z⟩ := r
    clear h h1 h5 h2 b0 b1 hr
    show Calls _ _ _ _ (Ret (.tuple #[Fx.V2 x y, .bool (decide (z = 0))]) w)
    rw [show decide (z = 0) = (z == 0) from by rw [Bool.eq_iff_iff]; simp]
    go_enter Tryd.func38, Tryd.ntmps38
    go_wp2_with (first | (go_at_call 9; (with_reducible refine (VT.out _).mono ?_); rintro e w1 ⟨rfl, hb1⟩; have hc1 := (bcell hb1).1; have hf1 := (bcell hb1).2; have z1_0 : w.heap.size < w1.heap.size := (by have hzz := hb1.size; (try simp at hzz); omega); have z1_1 : w.heap.size + 1 < w1.heap.size := (by have hzz := hb1.size; (try simp at hzz); omega); have K1 : Below w.heap.size w w1 := Below.trans (b := _) (by (repeat' (first | (with_reducible exact Below.refl _ _) | (with_reducible refine Below.alloc ?_ ?_ _) | (with_reducible refine Below.setCell ?_ ?_ _) | (with_reducible refine below_drewN ?_ _) | (simp; done) | omega | (simp; omega)))) (hb1.mono (by have hzz := hb1.size; (try simp at hzz); first | omega | (simp; done) | (simp; omega)))) | (go_at_call 7; (with_reducible refine (ON.out _).mono ?_); rintro e w2 ⟨rfl, hb2⟩; have hc2 := (bcell hb2).1; have hf2 := (bcell hb2).2; have z2_0 : w.heap.size < w2.heap.size := (by have hzz := hb2.size; (try simp at hzz); omega); have z2_1 : w.heap.size + 1 < w2.heap.size := (by have hzz := hb2.size; (try simp at hzz); omega); have K2 : Below w.heap.size w w2 := Below.trans (b := _) (by (repeat' (first | (with_reducible exact Below.refl _ _) | (with_reducible exact K1) | (with_reducible refine Below.alloc ?_ ?_ _) | (with_reducible refine Below.setCell ?_ ?_ _) | (with_reducible refine below_drewN ?_ _) | (simp; done) | omega | (simp; omega)))) (hb2.mono (by have hzz := hb2.size; (try simp at hzz); first | omega | (simp; done) | (simp; omega)))))
    refine bodyPost_ret (v := .tuple #[V2 x y, .bool (z == 0)]) (by simp [results, Tryd.results38, go_sem, hc1, hf1, hc2, hf2, z1_0, Nat.lt_succ_of_lt z1_0, Nat.ne_of_lt z1_0, Nat.ne_of_gt z1_0, z1_1, Nat.lt_succ_of_lt z1_1, Nat.ne_of_lt z1_1, Nat.ne_of_gt z1_1, z2_0, Nat.lt_succ_of_lt z2_0, Nat.ne_of_lt z2_0, Nat.ne_of_gt z2_0, z2_1, Nat.lt_succ_of_lt z2_1, Nat.ne_of_lt z2_1, Nat.ne_of_gt z2_1]) rfl ⟨rfl, ?_⟩; (repeat' (first | (with_reducible exact Below.refl _ _) | (with_reducible exact K1) | (with_reducible exact K2) | (with_reducible refine Below.alloc ?_ ?_ _) | (with_reducible refine Below.setCell ?_ ?_ _) | (with_reducible refine below_drewN ?_ _) | (simp; done) | omega | (simp; omega)))
  · rw [show idv fold K B F R O = (0, 0, false) by unfold idv; rw [if_neg (by rw [h]; decide), if_neg (by omega), if_neg h2]]
    have g2 : (fold == 2) = false := by simpa using h2
    clear h h1 h5 h2 b0 b1
    go_enter Tryd.func38, Tryd.ntmps38
    go_wp2_with (first | (go_at_call 9; (with_reducible refine (VT.out _).mono ?_); rintro e w1 ⟨rfl, hb1⟩; have hc1 := (bcell hb1).1; have hf1 := (bcell hb1).2; have z1_0 : w.heap.size < w1.heap.size := (by have hzz := hb1.size; (try simp at hzz); omega); have z1_1 : w.heap.size + 1 < w1.heap.size := (by have hzz := hb1.size; (try simp at hzz); omega); have K1 : Below w.heap.size w w1 := Below.trans (b := _) (by (repeat' (first | (with_reducible exact Below.refl _ _) | (with_reducible refine Below.alloc ?_ ?_ _) | (with_reducible refine Below.setCell ?_ ?_ _) | (with_reducible refine below_drewN ?_ _) | (simp; done) | omega | (simp; omega)))) (hb1.mono (by have hzz := hb1.size; (try simp at hzz); first | omega | (simp; done) | (simp; omega)))))
    refine bodyPost_ret (v := .tuple #[V2 0 0, .bool false]) (by simp [results, Tryd.results38, go_sem, hc1, hf1, z1_0, Nat.lt_succ_of_lt z1_0, Nat.ne_of_lt z1_0, Nat.ne_of_gt z1_0, z1_1, Nat.lt_succ_of_lt z1_1, Nat.ne_of_lt z1_1, Nat.ne_of_gt z1_1]) rfl ⟨rfl, ?_⟩; (repeat' (first | (with_reducible exact Below.refl _ _) | (with_reducible exact K1) | (with_reducible refine Below.alloc ?_ ?_ _) | (with_reducible refine Below.setCell ?_ ?_ _) | (with_reducible refine below_drewN ?_ _) | (simp; done) | omega | (simp; omega)))
end Go.Proofs.YtikcinkbkakkmaaDoor.Va
