/- Tensors: blocks of seven cells. -/
import Derived.Test.YteaaikmejacpaaaGreatDoorR13
import Derived.Test.YteaaikmejacpaaaGreatDoorR0
import Derived.Test.YteaaikmejacpaaaGreatDoorR8

namespace Go.Proofs.YteaaikmejacpaaaGreatDoor.Te
open Go.ChangeShapes Go.WideShapes Go.ChangeAt Go.RowKit
open Fx Va Sh
set_option maxRecDepth 8000
set_option linter.unusedVariables false
set_option linter.unusedSimpArgs false

theorem grown_put {w : World} {g n : Nat} (d : Array Int) : w.grownBy (Go.Sort.putRow (Value.int .i64) (Go.Sort.ahead w n) g 0 d) (some g) := by
 refine ⟨rfl, rfl, rfl, by simp [Go.Sort.ahead], fun k hk hne => ?_⟩
 have : g ≠ k := fun e => hne (by rw [e])
 simp [Go.Sort.putRow, Go.Sort.mapBlock, Go.Sort.ahead, Array.getElem?_modify, this]

/-- A block of seven cells that may be stored to. -/
def B7 (u : World) (b : Nat) (x0 x1 x2 x3 x4 x5 x6 : Value) : Prop := (u.cell? ⟨b, 0, none⟩ = some x0 /\ u.cell? ⟨b, 1, none⟩ = some x1 /\ u.cell? ⟨b, 2, none⟩ = some x2 /\ u.cell? ⟨b, 3, none⟩ = some x3 /\ u.cell? ⟨b, 4, none⟩ = some x4 /\ u.cell? ⟨b, 5, none⟩ = some x5 /\ u.cell? ⟨b, 6, none⟩ = some x6) /\ (u.frozen? ⟨b, 0, none⟩ = false /\ u.frozen? ⟨b, 1, none⟩ = false /\ u.frozen? ⟨b, 2, none⟩ = false /\ u.frozen? ⟨b, 3, none⟩ = false /\ u.frozen? ⟨b, 4, none⟩ = false /\ u.frozen? ⟨b, 5, none⟩ = false /\ u.frozen? ⟨b, 6, none⟩ = false)
section
variable {u u' : World} {b r o Bd : Nat} {x0 x1 x2 x3 x4 x5 x6 y0 y1 y2 y3 y4 y5 y6 v : Value}
theorem B7.lt (h : B7 u b x0 x1 x2 x3 x4 x5 x6) : b < u.heap.size := World.block_lt_of_cell? _ _ h.1.1
theorem B7.same (hc : ∀ o, u'.cell? ⟨b, o, none⟩ = u.cell? ⟨b, o, none⟩) (hf : ∀ o, u'.frozen? ⟨b, o, none⟩ = u.frozen? ⟨b, o, none⟩) (h : B7 u b x0 x1 x2 x3 x4 x5 x6) : B7 u' b x0 x1 x2 x3 x4 x5 x6 := by
 obtain ⟨⟨c0, c1, c2, c3, c4, c5, c6⟩, ⟨f0, f1, f2, f3, f4, f5, f6⟩⟩ := h
 exact ⟨⟨(hc 0).trans c0, (hc 1).trans c1, (hc 2).trans c2, (hc 3).trans c3, (hc 4).trans c4, (hc 5).trans c5, (hc 6).trans c6⟩, ⟨(hf 0).trans f0, (hf 1).trans f1, (hf 2).trans f2, (hf 3).trans f3, (hf 4).trans f4, (hf 5).trans f5, (hf 6).trans f6⟩⟩
theorem B7.keep (hb : Below Bd u u') (hlt : b < Bd) (h : B7 u b x0 x1 x2 x3 x4 x5 x6) : B7 u' b x0 x1 x2 x3 x4 x5 x6 :=
 h.same (fun o' => World.cell?_of_block (hb.block b hlt)) (fun o' => World.frozen?_of_block (hb.block b hlt))
theorem B7.far (hr : r ≠ b) (h : B7 u b x0 x1 x2 x3 x4 x5 x6) : B7 (u.setCell ⟨r, o, none⟩ v) b x0 x1 x2 x3 x4 x5 x6 := h.same (fun o' => World.cell?_setCell_far _ _ _ _ hr) (fun o' => World.frozen?_setCell _ _ _ _)
theorem B7.grown {row : Option Nat} (hg : u.grownBy u' row) (hne : some b ≠ row) (h : B7 u b x0 x1 x2 x3 x4 x5 x6) : B7 u' b x0 x1 x2 x3 x4 x5 x6 :=
 h.same (fun o' => World.cell?_of_block (hg.block b h.lt hne)) (fun o' => World.frozen?_of_block (hg.block b h.lt hne))
theorem B7.alloc (ob : Obj) (h : B7 u b x0 x1 x2 x3 x4 x5 x6) : B7 (u.alloc ob) b x0 x1 x2 x3 x4 x5 x6 := h.keep ((Below.refl _ _).alloc (Nat.le_refl _) ob) h.lt
theorem B7.drew (h : B7 u b x0 x1 x2 x3 x4 x5 x6) : B7 u.drew b x0 x1 x2 x3 x4 x5 x6 := h
theorem B7.st (h : B7 u b x0 x1 x2 x3 x4 x5 x6) : B7 (((((((u.setCell ⟨b, 0, none⟩ y0).setCell ⟨b, 1, none⟩ y1).setCell ⟨b, 2, none⟩ y2).setCell ⟨b, 3, none⟩ y3).setCell ⟨b, 4, none⟩ y4).setCell ⟨b, 5, none⟩ y5).setCell ⟨b, 6, none⟩ y6) b y0 y1 y2 y3 y4 y5 y6 := by
 obtain ⟨⟨c0, c1, c2, c3, c4, c5, c6⟩, ⟨f0, f1, f2, f3, f4, f5, f6⟩⟩ := h
 refine ⟨⟨?_, ?_, ?_, ?_, ?_, ?_, ?_⟩, ⟨by simpa [World.frozen?_setCell] using f0, by simpa [World.frozen?_setCell] using f1, by simpa [World.frozen?_setCell] using f2, by simpa [World.frozen?_setCell] using f3, by simpa [World.frozen?_setCell] using f4, by simpa [World.frozen?_setCell] using f5, by simpa [World.frozen?_setCell] using f6⟩⟩
 ·rw [World.cell?_setCell_other _ _ _ _ (by simp), World.cell?_setCell_other _ _ _ _ (by simp), World.cell?_setCell_other _ _ _ _ (by simp), World.cell?_setCell_other _ _ _ _ (by simp), World.cell?_setCell_other _ _ _ _ (by simp), World.cell?_setCell_other _ _ _ _ (by simp)]
  exact World.cell?_setCell_same _ _ _ c0
 ·rw [World.cell?_setCell_other _ _ _ _ (by simp), World.cell?_setCell_other _ _ _ _ (by simp), World.cell?_setCell_other _ _ _ _ (by simp), World.cell?_setCell_other _ _ _ _ (by simp), World.cell?_setCell_other _ _ _ _ (by simp)]
  exact World.cell?_setCell_same _ _ _ ((World.cell?_setCell_other _ _ _ _ (by simp)).trans c1)
 ·rw [World.cell?_setCell_other _ _ _ _ (by simp), World.cell?_setCell_other _ _ _ _ (by simp), World.cell?_setCell_other _ _ _ _ (by simp), World.cell?_setCell_other _ _ _ _ (by simp)]
  exact World.cell?_setCell_same _ _ _ ((World.cell?_setCell_other _ _ _ _ (by simp)).trans ((World.cell?_setCell_other _ _ _ _ (by simp)).trans c2))
 ·rw [World.cell?_setCell_other _ _ _ _ (by simp), World.cell?_setCell_other _ _ _ _ (by simp), World.cell?_setCell_other _ _ _ _ (by simp)]
  exact World.cell?_setCell_same _ _ _ ((World.cell?_setCell_other _ _ _ _ (by simp)).trans ((World.cell?_setCell_other _ _ _ _ (by simp)).trans ((World.cell?_setCell_other _ _ _ _ (by simp)).trans c3)))
 ·rw [World.cell?_setCell_other _ _ _ _ (by simp), World.cell?_setCell_other _ _ _ _ (by simp)]
  exact World.cell?_setCell_same _ _ _ ((World.cell?_setCell_other _ _ _ _ (by simp)).trans ((World.cell?_setCell_other _ _ _ _ (by simp)).trans ((World.cell?_setCell_other _ _ _ _ (by simp)).trans ((World.cell?_setCell_other _ _ _ _ (by simp)).trans c4))))
 ·rw [World.cell?_setCell_other _ _ _ _ (by simp)]
  exact World.cell?_setCell_same _ _ _ ((World.cell?_setCell_other _ _ _ _ (by simp)).trans ((World.cell?_setCell_other _ _ _ _ (by simp)).trans ((World.cell?_setCell_other _ _ _ _ (by simp)).trans ((World.cell?_setCell_other _ _ _ _ (by simp)).trans ((World.cell?_setCell_other _ _ _ _ (by simp)).trans c5)))))
 ·exact World.cell?_setCell_same _ _ _ ((World.cell?_setCell_other _ _ _ _ (by simp)).trans ((World.cell?_setCell_other _ _ _ _ (by simp)).trans ((World.cell?_setCell_other _ _ _ _ (by simp)).trans ((World.cell?_setCell_other _ _ _ _ (by simp)).trans ((World.cell?_setCell_other _ _ _ _ (by simp)).trans ((World.cell?_setCell_other _ _ _ _ (by simp)).trans c6))))))
theorem B7.set6 (h : B7 u b x0 x1 x2 x3 x4 x5 x6) : B7 (u.setCell ⟨b, 6, none⟩ v) b x0 x1 x2 x3 x4 x5 v := by
 obtain ⟨⟨c0, c1, c2, c3, c4, c5, c6⟩, ⟨f0, f1, f2, f3, f4, f5, f6⟩⟩ := h
 exact ⟨⟨(World.cell?_setCell_other _ _ _ _ (by simp)).trans c0, (World.cell?_setCell_other _ _ _ _ (by simp)).trans c1, (World.cell?_setCell_other _ _ _ _ (by simp)).trans c2, (World.cell?_setCell_other _ _ _ _ (by simp)).trans c3, (World.cell?_setCell_other _ _ _ _ (by simp)).trans c4, (World.cell?_setCell_other _ _ _ _ (by simp)).trans c5, World.cell?_setCell_same _ _ _ c6⟩, ⟨(World.frozen?_setCell _ _ _ _).trans f0, (World.frozen?_setCell _ _ _ _).trans f1, (World.frozen?_setCell _ _ _ _).trans f2, (World.frozen?_setCell _ _ _ _).trans f3, (World.frozen?_setCell _ _ _ _).trans f4, (World.frozen?_setCell _ _ _ _).trans f5, (World.frozen?_setCell _ _ _ _).trans f6⟩⟩
end

theorem B7.new (u : World) (T : TypeId) (x0 x1 x2 x3 x4 x5 x6 : Value) : B7 (u.alloc (Obj.cells #[x0, x1, x2, x3, x4, x5, x6] T)) u.heap.size x0 x1 x2 x3 x4 x5 x6 := by
 refine ⟨⟨?_, ?_, ?_, ?_, ?_, ?_, ?_⟩, ⟨?_, ?_, ?_, ?_, ?_, ?_, ?_⟩⟩ <;> go_cell
theorem below_set7 {Bd : Nat} {u0 u : World} {r : Nat} {x0 x1 x2 x3 x4 x5 x6 : Value} (h : Below Bd u0 u) (hr : Bd <= r) : Below Bd u0 (((((((u.setCell ⟨r, 0, none⟩ x0).setCell ⟨r, 1, none⟩ x1).setCell ⟨r, 2, none⟩ x2).setCell ⟨r, 3, none⟩ x3).setCell ⟨r, 4, none⟩ x4).setCell ⟨r, 5, none⟩ x5).setCell ⟨r, 6, none⟩ x6) :=
 (((((((h.setCell (p := ⟨r, 0, none⟩) hr _).setCell (p := ⟨r, 1, none⟩) hr _).setCell (p := ⟨r, 2, none⟩) hr _).setCell (p := ⟨r, 3, none⟩) hr _).setCell (p := ⟨r, 4, none⟩) hr _).setCell (p := ⟨r, 5, none⟩) hr _).setCell (p := ⟨r, 6, none⟩) hr _)
theorem own_set7 {u : World} {base : Nat} {E : TypeId} {sz n r : Nat} {v : Value} {xs : List Value} {x0 x1 x2 x3 x4 x5 x6 : Value} (h : u.ownsRow base E sz v n xs) (hr : r < base) : (((((((u.setCell ⟨r, 0, none⟩ x0).setCell ⟨r, 1, none⟩ x1).setCell ⟨r, 2, none⟩ x2).setCell ⟨r, 3, none⟩ x3).setCell ⟨r, 4, none⟩ x4).setCell ⟨r, 5, none⟩ x5).setCell ⟨r, 6, none⟩ x6).ownsRow base E sz v n xs :=
 (own_set (own_set (own_set (own_set (own_set (own_set (own_set h hr) hr) hr) hr) hr) hr) hr)

/-- .. where the row lies elsewhere. -/
theorem own_far7 {u : World} {base : Nat} {E : TypeId} {sz n r : Nat} {v : Value} {xs : List Value} {x0 x1 x2 x3 x4 x5 x6 : Value} (h : u.ownsRow base E sz v n xs) (hr : v.ownBlock = none \/ v.ownBlock ≠ some r) : (((((((u.setCell ⟨r, 0, none⟩ x0).setCell ⟨r, 1, none⟩ x1).setCell ⟨r, 2, none⟩ x2).setCell ⟨r, 3, none⟩ x3).setCell ⟨r, 4, none⟩ x4).setCell ⟨r, 5, none⟩ x5).setCell ⟨r, 6, none⟩ x6).ownsRow base E sz v n xs :=
 (((((((h.kept grown_set hr).kept grown_set hr).kept grown_set hr).kept grown_set hr).kept grown_set hr).kept grown_set hr).kept grown_set hr)
theorem madeV (n : Nat) : (madeCells (Value.agg #[.int .i64 0, .int .i64 0]).cells (n * 2)).toList = flV (List.replicate n (0, 0)) := by
 apply List.ext_getElem?
 intro j
 by_cases hj : j < n * 2
 ·obtain ⟨k, hk⟩ : ∃ k, j = k * 2 \/ j = k * 2 + 1 := ⟨j / 2, by omega⟩
  have hk2 : k < (List.replicate n ((0 : Int), (0 : Int))).length := by rw [List.length_replicate]; omega
  obtain ⟨v0, v1⟩ := flV_get _ k hk2
  have e0 : (List.replicate n ((0 : Int), (0 : Int))).getD k (0, 0) = (0, 0) := by
   rw [List.getD_eq_getElem?_getD, List.getElem?_replicate]; split <;> rfl
  rw [e0] at v0 v1
  have hc : (Value.agg #[.int .i64 0, .int .i64 0]).cells = #[Value.int .i64 0, Value.int .i64 0] := by rfl
  rw [hc]
  rcases hk with rfl | rfl
  ·rw [v0]; simp [madeCells, hj]
  ·rw [v1]
   have hm : (k * 2 + 1) % 2 = 1 := by omega
   simp [madeCells, hj, hm]
 ·rw [List.getElem?_eq_none (by simp [madeCells]; omega), List.getElem?_eq_none (by rw [flV_len, List.length_replicate]; omega)]
theorem delG {w : World} {B g n c i : Nat} {zs : List Int} (h : w.ownsRow B 3 1 (.slice (some ⟨g, 0, none⟩) n c) n (zs.map (Value.int .i64))) (hi : i < n) (hg : B <= g) :
  Calls Tryz.prog 63 #[.slice (some ⟨g, 0, none⟩) n c, .int .i64 i, .int .i64 ((i : Int) + 1)] w fun e w' => e = .returned (.slice (some ⟨g, 0, none⟩) (n - 1) c) /\ w.grownBy w' (some g) /\ w'.ownsRow B 3 1 (.slice (some ⟨g, 0, none⟩) (n - 1) c) (n - 1) ((zs.take i ++ zs.drop (i + 1)).map (Value.int .i64)) := by
 obtain ⟨g1, c1, e, hb, hlt, hn, hm, hl, hh⟩ := Lib.holds_of_ownsRow h (by intro e; cases e)
 cases e
 have C := Tryz.slices_Delete_int g 0 c i (i + 1) zs w hh (by omega) (by unfold maxLen at hm; omega) (by omega) (by omega)
 rw [hl] at C
 rw [show ((i : Int) + 1) = ((i + 1 : Nat) : Int) from rfl]
 refine C.mono fun e w' hp => ?_
 obtain ⟨he, q, hw⟩ := hp
 rw [show n - (i + 1 - i) = n - 1 by omega] at he
 rw [show i + 1 - i = 1 by omega] at hw
 subst hw
 refine ⟨he, ?_, ?_⟩
 ·have hgb := grown_put (w := w) (g := g) (n := q) (zs.take i ++ zs.drop (i + 1) ++ List.replicate 1 0).toArray
  exact hgb
 ·have hlen : (zs.take i ++ zs.drop (i + 1)).length = n - 1 := by simp; omega
  have H := Lib.ownsRow_putRow (q := q) (k := n - 1) (ys := zs.take i ++ zs.drop (i + 1) ++ List.replicate 1 0) h (by rw [List.length_append, hlen]; simp; omega) (by omega)
  rw [show (zs.take i ++ zs.drop (i + 1) ++ List.replicate 1 (0 : Int)).take (n - 1) = zs.take i ++ zs.drop (i + 1) by rw [List.take_append_of_le_length (by omega), List.take_of_length_le (by omega)]] at H
  exact H
end Go.Proofs.YteaaikmejacpaaaGreatDoor.Te


namespace Go.Proofs.YteaaikmejacpaaaGreatDoor.Te
open Go.ChangeShapes Go.WideShapes Go.ChangeAt Go.RowKit
open Fx Va Sh
set_option maxRecDepth 8000
set_option linter.unusedVariables false
set_option linter.unusedSimpArgs false

set_option maxRecDepth 100000 in
set_option maxHeartbeats 2000000 in
theorem rd_a (K B F R O : Int) (p : Option Addr) (zs : List Int) (c : Nat) (q : Option Addr) (vs : List (Int × Int)) (d : Nat) (ax fold : Int) (w : World) (b0 : -9223372036854775808 <= B) (b1 : B <= 9223372036854775807) (hn : zs.length <= maxLen) (hm : vs.length <= maxLen) (RA : Hid (SlI w p zs)) (RB : Hid (SlV w q vs)) (ht : tE K B F R O zs vs ≠ 0) :
  Calls Tryz.prog 33 #[Tn K B F R O p zs.length c q vs.length d, .int .i64 ax, .int .i64 fold] w (TRes 0 0 0 0 0 [] [] (tE K B F R O zs vs) w) := by
 have TV0 := fun w h1 h2 => tval K B F R O p zs c q vs d w b0 b1 hn hm h1 h2
 obtain ⟨E, hE⟩ : ∃ E, tE K B F R O zs vs = E := ⟨_, rfl⟩
 rw [hE] at TV0 ht ⊢
 have g1 : (E == 0) = false := by simpa using ht
 have g2 : (E != 0) = true := by simpa using ht
 obtain ⟨m, hmm⟩ : ∃ m, vs.length = m := ⟨_, rfl⟩
 have HM := Lib.hid hmm
 rw [hmm] at TV0 ⊢
 have TV := Lib.hid TV0
 have B0 : Hid (Below w.heap.size w ((w.alloc (Obj.cells #[Value.int .i64 K, Value.int .i64 B, Value.int .i64 F, Value.int .i64 R, Value.int .i64 O, Value.slice p zs.length c, Value.slice q m d] 27)).alloc (Obj.cells #[Value.int .i64 0, Value.int .i64 0, Value.int .i64 0, Value.int .i64 0, Value.int .i64 0, Value.slice none 0 0, Value.slice none 0 0] 27))) := Lib.hid (((Below.refl _ _).alloc (Nat.le_refl _) _).alloc (by simp) _)
 have T0 : Hid (B7 ((w.alloc (Obj.cells #[Value.int .i64 K, Value.int .i64 B, Value.int .i64 F, Value.int .i64 R, Value.int .i64 O, Value.slice p zs.length c, Value.slice q m d] 27)).alloc (Obj.cells #[Value.int .i64 0, Value.int .i64 0, Value.int .i64 0, Value.int .i64 0, Value.int .i64 0, Value.slice none 0 0, Value.slice none 0 0] 27)) (w.heap.size) (.int .i64 K) (.int .i64 B) (.int .i64 F) (.int .i64 R) (.int .i64 O) (.slice p zs.length c) (.slice q m d)) := Lib.hid ((B7.new w _ (.int .i64 K) (.int .i64 B) (.int .i64 F) (.int .i64 R) (.int .i64 O) (.slice p zs.length c) (.slice q m d)).alloc _)
 have R0 : Hid (B7 ((w.alloc (Obj.cells #[Value.int .i64 K, Value.int .i64 B, Value.int .i64 F, Value.int .i64 R, Value.int .i64 O, Value.slice p zs.length c, Value.slice q m d] 27)).alloc (Obj.cells #[Value.int .i64 0, Value.int .i64 0, Value.int .i64 0, Value.int .i64 0, Value.int .i64 0, Value.slice none 0 0, Value.slice none 0 0] 27)) (w.heap.size + 1) (.int .i64 0) (.int .i64 0) (.int .i64 0) (.int .i64 0) (.int .i64 0) (.slice none 0 0) (.slice none 0 0)) := Lib.hid (by have h := B7.new (w.alloc (Obj.cells #[Value.int .i64 K, Value.int .i64 B, Value.int .i64 F, Value.int .i64 R, Value.int .i64 O, Value.slice p zs.length c, Value.slice q m d] 27)) 27 (.int .i64 0) (.int .i64 0) (.int .i64 0) (.int .i64 0) (.int .i64 0) (.slice none 0 0) (.slice none 0 0); simpa using h)
 clear TV0
 clear hE ht hm hmm
 unfold Tn at *
 go_enter Tryz.func33, Tryz.ntmps33
 go_wp2_with (go_at_call 20; (with_reducible refine (TV.out _ (Lib.hid (SlI.keep B0.out RA.out)) (Lib.hid (SlV.below RB.out B0.out))).mono ?_); rintro e w1 ⟨rfl, hb⟩; have KB := Lib.hid (B0.out.trans (hb.mono B0.out.size)); have TB := Lib.hid (B7.keep hb (by simp <;> omega) T0.out); have RB9 := Lib.hid (B7.keep hb (by simp <;> omega) R0.out); obtain ⟨⟨c0, c1, c2, c3, c4, c5, c6⟩, -⟩ := TB.out; obtain ⟨⟨z0, z1, z2, z3, z4, z5, z6⟩, ⟨f0, f1, f2, f3, f4, f5, f6⟩⟩ := RB9.out; have lr : w.heap.size + 1 < w1.heap.size := RB9.out.lt; clear hb)
 have SBB := (((((((KB.out).setCell (p := ⟨w.heap.size + 1, 0, none⟩) (by dsimp only; omega) (.int .i64 0)).setCell (p := ⟨w.heap.size + 1, 1, none⟩) (by dsimp only; omega) (.int .i64 0)).setCell (p := ⟨w.heap.size + 1, 2, none⟩) (by dsimp only; omega) (.int .i64 0)).setCell (p := ⟨w.heap.size + 1, 3, none⟩) (by dsimp only; omega) (.int .i64 0)).setCell (p := ⟨w.heap.size + 1, 4, none⟩) (by dsimp only; omega) (.int .i64 0)).setCell (p := ⟨w.heap.size + 1, 5, none⟩) (by dsimp only; omega) (.slice none 0 0)).setCell (p := ⟨w.heap.size + 1, 6, none⟩) (by dsimp only; omega) (.slice none 0 0)
 refine bodyPost_ret (v := .tuple #[.agg #[.int .i64 0, .int .i64 0, .int .i64 0, .int .i64 0, .int .i64 0, .slice none 0 0, .slice none 0 0], .int .i64 E]) (by simp [results, Tryz.results33, go_sem, z0, f0, z1, f1, z2, f2, z3, f3, z4, f4, z5, f5, z6, f6, lr]) rfl (TRes.no SBB)

set_option maxRecDepth 100000 in
set_option maxHeartbeats 2000000 in
theorem rd_b0 (K B F R O : Int) (p : Option Addr) (zs : List Int) (c : Nat) (q : Option Addr) (vs : List (Int × Int)) (d : Nat) (ax fold : Int) (w : World) (b0 : -9223372036854775808 <= B) (b1 : B <= 9223372036854775807) (hn : zs.length <= maxLen) (hm : vs.length <= maxLen) (RA : Hid (SlI w p zs)) (RB : Hid (SlV w q vs)) (ht : tE K B F R O zs vs = 0) (ha : ax < 0) :
  Calls Tryz.prog 33 #[Tn K B F R O p zs.length c q vs.length d, .int .i64 ax, .int .i64 fold] w (TRes 0 0 0 0 0 [] [] 11 w) := by
 have TV0 := fun w h1 h2 => tval K B F R O p zs c q vs d w b0 b1 hn hm h1 h2
 rw [ht] at TV0
 obtain ⟨m, hmm⟩ : ∃ m, vs.length = m := ⟨_, rfl⟩
 have HM := Lib.hid hmm
 rw [hmm] at TV0 ⊢
 have TV := Lib.hid TV0
 have B0 : Hid (Below w.heap.size w ((w.alloc (Obj.cells #[Value.int .i64 K, Value.int .i64 B, Value.int .i64 F, Value.int .i64 R, Value.int .i64 O, Value.slice p zs.length c, Value.slice q m d] 27)).alloc (Obj.cells #[Value.int .i64 0, Value.int .i64 0, Value.int .i64 0, Value.int .i64 0, Value.int .i64 0, Value.slice none 0 0, Value.slice none 0 0] 27))) := Lib.hid (((Below.refl _ _).alloc (Nat.le_refl _) _).alloc (by simp) _)
 have T0 : Hid (B7 ((w.alloc (Obj.cells #[Value.int .i64 K, Value.int .i64 B, Value.int .i64 F, Value.int .i64 R, Value.int .i64 O, Value.slice p zs.length c, Value.slice q m d] 27)).alloc (Obj.cells #[Value.int .i64 0, Value.int .i64 0, Value.int .i64 0, Value.int .i64 0, Value.int .i64 0, Value.slice none 0 0, Value.slice none 0 0] 27)) (w.heap.size) (.int .i64 K) (.int .i64 B) (.int .i64 F) (.int .i64 R) (.int .i64 O) (.slice p zs.length c) (.slice q m d)) := Lib.hid ((B7.new w _ (.int .i64 K) (.int .i64 B) (.int .i64 F) (.int .i64 R) (.int .i64 O) (.slice p zs.length c) (.slice q m d)).alloc _)
 have R0 : Hid (B7 ((w.alloc (Obj.cells #[Value.int .i64 K, Value.int .i64 B, Value.int .i64 F, Value.int .i64 R, Value.int .i64 O, Value.slice p zs.length c, Value.slice q m d] 27)).alloc (Obj.cells #[Value.int .i64 0, Value.int .i64 0, Value.int .i64 0, Value.int .i64 0, Value.int .i64 0, Value.slice none 0 0, Value.slice none 0 0] 27)) (w.heap.size + 1) (.int .i64 0) (.int .i64 0) (.int .i64 0) (.int .i64 0) (.int .i64 0) (.slice none 0 0) (.slice none 0 0)) := Lib.hid (by have h := B7.new (w.alloc (Obj.cells #[Value.int .i64 K, Value.int .i64 B, Value.int .i64 F, Value.int .i64 R, Value.int .i64 O, Value.slice p zs.length c, Value.slice q m d] 27)) 27 (.int .i64 0) (.int .i64 0) (.int .i64 0) (.int .i64 0) (.int .i64 0) (.slice none 0 0) (.slice none 0 0); simpa using h)
 clear TV0
 have g1 : decide (ax < 0) = true := by simpa using ha
 clear ha
 clear ht hm hmm
 unfold Tn at *
 go_enter Tryz.func33, Tryz.ntmps33
 go_wp2_with (go_at_call 20; (with_reducible refine (TV.out _ (Lib.hid (SlI.keep B0.out RA.out)) (Lib.hid (SlV.below RB.out B0.out))).mono ?_); rintro e w1 ⟨rfl, hb⟩; have KB := Lib.hid (B0.out.trans (hb.mono B0.out.size)); have TB := Lib.hid (B7.keep hb (by simp <;> omega) T0.out); have RB9 := Lib.hid (B7.keep hb (by simp <;> omega) R0.out); obtain ⟨⟨c0, c1, c2, c3, c4, c5, c6⟩, -⟩ := TB.out; obtain ⟨⟨z0, z1, z2, z3, z4, z5, z6⟩, ⟨f0, f1, f2, f3, f4, f5, f6⟩⟩ := RB9.out; have lr : w.heap.size + 1 < w1.heap.size := RB9.out.lt; clear hb)
 have SBB := (((((((KB.out).setCell (p := ⟨w.heap.size + 1, 0, none⟩) (by dsimp only; omega) (.int .i64 0)).setCell (p := ⟨w.heap.size + 1, 1, none⟩) (by dsimp only; omega) (.int .i64 0)).setCell (p := ⟨w.heap.size + 1, 2, none⟩) (by dsimp only; omega) (.int .i64 0)).setCell (p := ⟨w.heap.size + 1, 3, none⟩) (by dsimp only; omega) (.int .i64 0)).setCell (p := ⟨w.heap.size + 1, 4, none⟩) (by dsimp only; omega) (.int .i64 0)).setCell (p := ⟨w.heap.size + 1, 5, none⟩) (by dsimp only; omega) (.slice none 0 0)).setCell (p := ⟨w.heap.size + 1, 6, none⟩) (by dsimp only; omega) (.slice none 0 0)
 refine bodyPost_ret (v := .tuple #[.agg #[.int .i64 0, .int .i64 0, .int .i64 0, .int .i64 0, .int .i64 0, .slice none 0 0, .slice none 0 0], .int .i64 11]) (by simp [results, Tryz.results33, go_sem, z0, f0, z1, f1, z2, f2, z3, f3, z4, f4, z5, f5, z6, f6, lr]) rfl (TRes.no SBB)

set_option maxRecDepth 100000 in
set_option maxHeartbeats 2000000 in
theorem rd_b1 (K B F R O : Int) (p : Option Addr) (zs : List Int) (c : Nat) (q : Option Addr) (vs : List (Int × Int)) (d : Nat) (ax fold : Int) (w : World) (b0 : -9223372036854775808 <= B) (b1 : B <= 9223372036854775807) (hn : zs.length <= maxLen) (hm : vs.length <= maxLen) (RA : Hid (SlI w p zs)) (RB : Hid (SlV w q vs)) (ht : tE K B F R O zs vs = 0) (ha : ¬ ax < 0) (ha2 : (zs.length : Int) <= ax) :
  Calls Tryz.prog 33 #[Tn K B F R O p zs.length c q vs.length d, .int .i64 ax, .int .i64 fold] w (TRes 0 0 0 0 0 [] [] 11 w) := by
 have TV0 := fun w h1 h2 => tval K B F R O p zs c q vs d w b0 b1 hn hm h1 h2
 rw [ht] at TV0
 obtain ⟨m, hmm⟩ : ∃ m, vs.length = m := ⟨_, rfl⟩
 have HM := Lib.hid hmm
 rw [hmm] at TV0 ⊢
 have TV := Lib.hid TV0
 have B0 : Hid (Below w.heap.size w ((w.alloc (Obj.cells #[Value.int .i64 K, Value.int .i64 B, Value.int .i64 F, Value.int .i64 R, Value.int .i64 O, Value.slice p zs.length c, Value.slice q m d] 27)).alloc (Obj.cells #[Value.int .i64 0, Value.int .i64 0, Value.int .i64 0, Value.int .i64 0, Value.int .i64 0, Value.slice none 0 0, Value.slice none 0 0] 27))) := Lib.hid (((Below.refl _ _).alloc (Nat.le_refl _) _).alloc (by simp) _)
 have T0 : Hid (B7 ((w.alloc (Obj.cells #[Value.int .i64 K, Value.int .i64 B, Value.int .i64 F, Value.int .i64 R, Value.int .i64 O, Value.slice p zs.length c, Value.slice q m d] 27)).alloc (Obj.cells #[Value.int .i64 0, Value.int .i64 0, Value.int .i64 0, Value.int .i64 0, Value.int .i64 0, Value.slice none 0 0, Value.slice none 0 0] 27)) (w.heap.size) (.int .i64 K) (.int .i64 B) (.int .i64 F) (.int .i64 R) (.int .i64 O) (.slice p zs.length c) (.slice q m d)) := Lib.hid ((B7.new w _ (.int .i64 K) (.int .i64 B) (.int .i64 F) (.int .i64 R) (.int .i64 O) (.slice p zs.length c) (.slice q m d)).alloc _)
 have R0 : Hid (B7 ((w.alloc (Obj.cells #[Value.int .i64 K, Value.int .i64 B, Value.int .i64 F, Value.int .i64 R, Value.int .i64 O, Value.slice p zs.length c, Value.slice q m d] 27)).alloc (Obj.cells #[Value.int .i64 0, Value.int .i64 0, Value.int .i64 0, Value.int .i64 0, Value.int .i64 0, Value.slice none 0 0, Value.slice none 0 0] 27)) (w.heap.size + 1) (.int .i64 0) (.int .i64 0) (.int .i64 0) (.int .i64 0) (.int .i64 0) (.slice none 0 0) (.slice none 0 0)) := Lib.hid (by have h := B7.new (w.alloc (Obj.cells #[Value.int .i64 K, Value.int .i64 B, Value.int .i64 F, Value.int .i64 R, Value.int .i64 O, Value.slice p zs.length c, Value.slice q m d] 27)) 27 (.int .i64 0) (.int .i64 0) (.int .i64 0) (.int .i64 0) (.int .i64 0) (.slice none 0 0) (.slice none 0 0); simpa using h)
 clear TV0
 have g1 : decide (ax < 0) = false := by simpa using ha
 have g2 : decide ((zs.length : Int) <= ax) = true := by simpa using ha2
 have g3 : decide (ax < (zs.length : Int)) = false := by simpa using ha2
 clear ha ha2
 clear ht hm hmm
 unfold Tn at *
 go_enter Tryz.func33, Tryz.ntmps33
 go_wp2_with (go_at_call 20; (with_reducible refine (TV.out _ (Lib.hid (SlI.keep B0.out RA.out)) (Lib.hid (SlV.below RB.out B0.out))).mono ?_); rintro e w1 ⟨rfl, hb⟩; have KB := Lib.hid (B0.out.trans (hb.mono B0.out.size)); have TB := Lib.hid (B7.keep hb (by simp <;> omega) T0.out); have RB9 := Lib.hid (B7.keep hb (by simp <;> omega) R0.out); obtain ⟨⟨c0, c1, c2, c3, c4, c5, c6⟩, -⟩ := TB.out; obtain ⟨⟨z0, z1, z2, z3, z4, z5, z6⟩, ⟨f0, f1, f2, f3, f4, f5, f6⟩⟩ := RB9.out; have lr : w.heap.size + 1 < w1.heap.size := RB9.out.lt; clear hb)
 have SBB := (((((((KB.out).setCell (p := ⟨w.heap.size + 1, 0, none⟩) (by dsimp only; omega) (.int .i64 0)).setCell (p := ⟨w.heap.size + 1, 1, none⟩) (by dsimp only; omega) (.int .i64 0)).setCell (p := ⟨w.heap.size + 1, 2, none⟩) (by dsimp only; omega) (.int .i64 0)).setCell (p := ⟨w.heap.size + 1, 3, none⟩) (by dsimp only; omega) (.int .i64 0)).setCell (p := ⟨w.heap.size + 1, 4, none⟩) (by dsimp only; omega) (.int .i64 0)).setCell (p := ⟨w.heap.size + 1, 5, none⟩) (by dsimp only; omega) (.slice none 0 0)).setCell (p := ⟨w.heap.size + 1, 6, none⟩) (by dsimp only; omega) (.slice none 0 0)
 refine bodyPost_ret (v := .tuple #[.agg #[.int .i64 0, .int .i64 0, .int .i64 0, .int .i64 0, .int .i64 0, .slice none 0 0, .slice none 0 0], .int .i64 11]) (by simp [results, Tryz.results33, go_sem, z0, f0, z1, f1, z2, f2, z3, f3, z4, f4, z5, f5, z6, f6, lr]) rfl (TRes.no SBB)

set_option maxRecDepth 100000 in
set_option maxHeartbeats 2000000 in
theorem rd_c0 (K B F R O : Int) (p : Option Addr) (zs : List Int) (c : Nat) (q : Option Addr) (vs : List (Int × Int)) (d : Nat) (ax fold : Int) (w : World) (b0 : -9223372036854775808 <= B) (b1 : B <= 9223372036854775807) (hn : zs.length <= maxLen) (hm : vs.length <= maxLen) (RA : Hid (SlI w p zs)) (RB : Hid (SlV w q vs)) (ht : tE K B F R O zs vs = 0) (ha : ¬ ax < 0) (ha2 : ax < (zs.length : Int)) (hf : fold < 1) :
  Calls Tryz.prog 33 #[Tn K B F R O p zs.length c q vs.length d, .int .i64 ax, .int .i64 fold] w (TRes 0 0 0 0 0 [] [] 1 w) := by
 have TV0 := fun w h1 h2 => tval K B F R O p zs c q vs d w b0 b1 hn hm h1 h2
 rw [ht] at TV0
 obtain ⟨m, hmm⟩ : ∃ m, vs.length = m := ⟨_, rfl⟩
 have HM := Lib.hid hmm
 rw [hmm] at TV0 ⊢
 have TV := Lib.hid TV0
 have B0 : Hid (Below w.heap.size w ((w.alloc (Obj.cells #[Value.int .i64 K, Value.int .i64 B, Value.int .i64 F, Value.int .i64 R, Value.int .i64 O, Value.slice p zs.length c, Value.slice q m d] 27)).alloc (Obj.cells #[Value.int .i64 0, Value.int .i64 0, Value.int .i64 0, Value.int .i64 0, Value.int .i64 0, Value.slice none 0 0, Value.slice none 0 0] 27))) := Lib.hid (((Below.refl _ _).alloc (Nat.le_refl _) _).alloc (by simp) _)
 have T0 : Hid (B7 ((w.alloc (Obj.cells #[Value.int .i64 K, Value.int .i64 B, Value.int .i64 F, Value.int .i64 R, Value.int .i64 O, Value.slice p zs.length c, Value.slice q m d] 27)).alloc (Obj.cells #[Value.int .i64 0, Value.int .i64 0, Value.int .i64 0, Value.int .i64 0, Value.int .i64 0, Value.slice none 0 0, Value.slice none 0 0] 27)) (w.heap.size) (.int .i64 K) (.int .i64 B) (.int .i64 F) (.int .i64 R) (.int .i64 O) (.slice p zs.length c) (.slice q m d)) := Lib.hid ((B7.new w _ (.int .i64 K) (.int .i64 B) (.int .i64 F) (.int .i64 R) (.int .i64 O) (.slice p zs.length c) (.slice q m d)).alloc _)
 have R0 : Hid (B7 ((w.alloc (Obj.cells #[Value.int .i64 K, Value.int .i64 B, Value.int .i64 F, Value.int .i64 R, Value.int .i64 O, Value.slice p zs.length c, Value.slice q m d] 27)).alloc (Obj.cells #[Value.int .i64 0, Value.int .i64 0, Value.int .i64 0, Value.int .i64 0, Value.int .i64 0, Value.slice none 0 0, Value.slice none 0 0] 27)) (w.heap.size + 1) (.int .i64 0) (.int .i64 0) (.int .i64 0) (.int .i64 0) (.int .i64 0) (.slice none 0 0) (.slice none 0 0)) := Lib.hid (by have h := B7.new (w.alloc (Obj.cells #[Value.int .i64 K, Value.int .i64 B, Value.int .i64 F, Value.int .i64 R, Value.int .i64 O, Value.slice p zs.length c, Value.slice q m d] 27)) 27 (.int .i64 0) (.int .i64 0) (.int .i64 0) (.int .i64 0) (.int .i64 0) (.slice none 0 0) (.slice none 0 0); simpa using h)
 clear TV0
 have g1 : decide (ax < 0) = false := by simpa using ha
 have g2 : decide ((zs.length : Int) <= ax) = false := by simpa using ha2
 have g4 : decide (fold < 1) = true := by simpa using hf
 clear ha hf
 clear ht hm hmm
 unfold Tn at *
 go_enter Tryz.func33, Tryz.ntmps33
 go_wp2_with (go_at_call 20; (with_reducible refine (TV.out _ (Lib.hid (SlI.keep B0.out RA.out)) (Lib.hid (SlV.below RB.out B0.out))).mono ?_); rintro e w1 ⟨rfl, hb⟩; have KB := Lib.hid (B0.out.trans (hb.mono B0.out.size)); have TB := Lib.hid (B7.keep hb (by simp <;> omega) T0.out); have RB9 := Lib.hid (B7.keep hb (by simp <;> omega) R0.out); obtain ⟨⟨c0, c1, c2, c3, c4, c5, c6⟩, -⟩ := TB.out; obtain ⟨⟨z0, z1, z2, z3, z4, z5, z6⟩, ⟨f0, f1, f2, f3, f4, f5, f6⟩⟩ := RB9.out; have lr : w.heap.size + 1 < w1.heap.size := RB9.out.lt; clear hb)
 have SBB := (((((((KB.out).setCell (p := ⟨w.heap.size + 1, 0, none⟩) (by dsimp only; omega) (.int .i64 0)).setCell (p := ⟨w.heap.size + 1, 1, none⟩) (by dsimp only; omega) (.int .i64 0)).setCell (p := ⟨w.heap.size + 1, 2, none⟩) (by dsimp only; omega) (.int .i64 0)).setCell (p := ⟨w.heap.size + 1, 3, none⟩) (by dsimp only; omega) (.int .i64 0)).setCell (p := ⟨w.heap.size + 1, 4, none⟩) (by dsimp only; omega) (.int .i64 0)).setCell (p := ⟨w.heap.size + 1, 5, none⟩) (by dsimp only; omega) (.slice none 0 0)).setCell (p := ⟨w.heap.size + 1, 6, none⟩) (by dsimp only; omega) (.slice none 0 0)
 refine bodyPost_ret (v := .tuple #[.agg #[.int .i64 0, .int .i64 0, .int .i64 0, .int .i64 0, .int .i64 0, .slice none 0 0, .slice none 0 0], .int .i64 1]) (by simp [results, Tryz.results33, go_sem, z0, f0, z1, f1, z2, f2, z3, f3, z4, f4, z5, f5, z6, f6, lr]) rfl (TRes.no SBB)

set_option maxRecDepth 100000 in
set_option maxHeartbeats 2000000 in
theorem rd_c1 (K B F R O : Int) (p : Option Addr) (zs : List Int) (c : Nat) (q : Option Addr) (vs : List (Int × Int)) (d : Nat) (ax fold : Int) (w : World) (b0 : -9223372036854775808 <= B) (b1 : B <= 9223372036854775807) (hn : zs.length <= maxLen) (hm : vs.length <= maxLen) (RA : Hid (SlI w p zs)) (RB : Hid (SlV w q vs)) (ht : tE K B F R O zs vs = 0) (ha : ¬ ax < 0) (ha2 : ax < (zs.length : Int)) (hf : ¬ fold < 1) (hf2 : 5 < fold) :
  Calls Tryz.prog 33 #[Tn K B F R O p zs.length c q vs.length d, .int .i64 ax, .int .i64 fold] w (TRes 0 0 0 0 0 [] [] 1 w) := by
 have TV0 := fun w h1 h2 => tval K B F R O p zs c q vs d w b0 b1 hn hm h1 h2
 rw [ht] at TV0
 obtain ⟨m, hmm⟩ : ∃ m, vs.length = m := ⟨_, rfl⟩
 have HM := Lib.hid hmm
 rw [hmm] at TV0 ⊢
 have TV := Lib.hid TV0
 have B0 : Hid (Below w.heap.size w ((w.alloc (Obj.cells #[Value.int .i64 K, Value.int .i64 B, Value.int .i64 F, Value.int .i64 R, Value.int .i64 O, Value.slice p zs.length c, Value.slice q m d] 27)).alloc (Obj.cells #[Value.int .i64 0, Value.int .i64 0, Value.int .i64 0, Value.int .i64 0, Value.int .i64 0, Value.slice none 0 0, Value.slice none 0 0] 27))) := Lib.hid (((Below.refl _ _).alloc (Nat.le_refl _) _).alloc (by simp) _)
 have T0 : Hid (B7 ((w.alloc (Obj.cells #[Value.int .i64 K, Value.int .i64 B, Value.int .i64 F, Value.int .i64 R, Value.int .i64 O, Value.slice p zs.length c, Value.slice q m d] 27)).alloc (Obj.cells #[Value.int .i64 0, Value.int .i64 0, Value.int .i64 0, Value.int .i64 0, Value.int .i64 0, Value.slice none 0 0, Value.slice none 0 0] 27)) (w.heap.size) (.int .i64 K) (.int .i64 B) (.int .i64 F) (.int .i64 R) (.int .i64 O) (.slice p zs.length c) (.slice q m d)) := Lib.hid ((B7.new w _ (.int .i64 K) (.int .i64 B) (.int .i64 F) (.int .i64 R) (.int .i64 O) (.slice p zs.length c) (.slice q m d)).alloc _)
 have R0 : Hid (B7 ((w.alloc (Obj.cells #[Value.int .i64 K, Value.int .i64 B, Value.int .i64 F, Value.int .i64 R, Value.int .i64 O, Value.slice p zs.length c, Value.slice q m d] 27)).alloc (Obj.cells #[Value.int .i64 0, Value.int .i64 0, Value.int .i64 0, Value.int .i64 0, Value.int .i64 0, Value.slice none 0 0, Value.slice none 0 0] 27)) (w.heap.size + 1) (.int .i64 0) (.int .i64 0) (.int .i64 0) (.int .i64 0) (.int .i64 0) (.slice none 0 0) (.slice none 0 0)) := Lib.hid (by have h := B7.new (w.alloc (Obj.cells #[Value.int .i64 K, Value.int .i64 B, Value.int .i64 F, Value.int .i64 R, Value.int .i64 O, Value.slice p zs.length c, Value.slice q m d] 27)) 27 (.int .i64 0) (.int .i64 0) (.int .i64 0) (.int .i64 0) (.int .i64 0) (.slice none 0 0) (.slice none 0 0); simpa using h)
 clear TV0
 have g1 : decide (ax < 0) = false := by simpa using ha
 have g2 : decide ((zs.length : Int) <= ax) = false := by simpa using ha2
 have g4 : decide (fold < 1) = false := by simpa using hf
 have g5 : decide (5 < fold) = true := by simpa using hf2
 clear ha hf
 clear ht hm hmm
 unfold Tn at *
 go_enter Tryz.func33, Tryz.ntmps33
 go_wp2_with (go_at_call 20; (with_reducible refine (TV.out _ (Lib.hid (SlI.keep B0.out RA.out)) (Lib.hid (SlV.below RB.out B0.out))).mono ?_); rintro e w1 ⟨rfl, hb⟩; have KB := Lib.hid (B0.out.trans (hb.mono B0.out.size)); have TB := Lib.hid (B7.keep hb (by simp <;> omega) T0.out); have RB9 := Lib.hid (B7.keep hb (by simp <;> omega) R0.out); obtain ⟨⟨c0, c1, c2, c3, c4, c5, c6⟩, -⟩ := TB.out; obtain ⟨⟨z0, z1, z2, z3, z4, z5, z6⟩, ⟨f0, f1, f2, f3, f4, f5, f6⟩⟩ := RB9.out; have lr : w.heap.size + 1 < w1.heap.size := RB9.out.lt; clear hb)
 have SBB := (((((((KB.out).setCell (p := ⟨w.heap.size + 1, 0, none⟩) (by dsimp only; omega) (.int .i64 0)).setCell (p := ⟨w.heap.size + 1, 1, none⟩) (by dsimp only; omega) (.int .i64 0)).setCell (p := ⟨w.heap.size + 1, 2, none⟩) (by dsimp only; omega) (.int .i64 0)).setCell (p := ⟨w.heap.size + 1, 3, none⟩) (by dsimp only; omega) (.int .i64 0)).setCell (p := ⟨w.heap.size + 1, 4, none⟩) (by dsimp only; omega) (.int .i64 0)).setCell (p := ⟨w.heap.size + 1, 5, none⟩) (by dsimp only; omega) (.slice none 0 0)).setCell (p := ⟨w.heap.size + 1, 6, none⟩) (by dsimp only; omega) (.slice none 0 0)
 refine bodyPost_ret (v := .tuple #[.agg #[.int .i64 0, .int .i64 0, .int .i64 0, .int .i64 0, .int .i64 0, .slice none 0 0, .slice none 0 0], .int .i64 1]) (by simp [results, Tryz.results33, go_sem, z0, f0, z1, f1, z2, f2, z3, f3, z4, f4, z5, f5, z6, f6, lr]) rfl (TRes.no SBB)
end Go.Proofs.YteaaikmejacpaaaGreatDoor.Te


namespace Go.Proofs.YteaaikmejacpaaaGreatDoor.Va
open Go.ChangeShapes Go.WideShapes Go.ChangeAt Go.RowKit
open Fr Fx
set_option maxRecDepth 8000
set_option linter.unusedVariables false
set_option linter.unusedSimpArgs false
set_option maxRecDepth 8000
theorem kpa {G : World} {b o : Nat} {v : Value} (O : Obj) (h : G.cell? ⟨b, o, none⟩ = some v) : (G.alloc O).cell? ⟨b, o, none⟩ = some v := Rg.keep ((Below.refl _ _).alloc (Nat.le_refl _) O) (World.block_lt_of_cell? _ _ h) h
theorem kpf {G : World} {b o o' : Nat} {v : Value} (O : Obj) (h : G.cell? ⟨b, o', none⟩ = some v) (hf : G.frozen? ⟨b, o, none⟩ = false) : (G.alloc O).frozen? ⟨b, o, none⟩ = false := Rg.keepF ((Below.refl _ _).alloc (Nat.le_refl _) O) (World.block_lt_of_cell? _ _ h) hf
set_option maxRecDepth 100000 in
set_option maxHeartbeats 16000000 in
theorem c_red (fold K B F R O : Int) (p : Option Addr) (xs : List (Int × Int)) (c : Nat) (w : World) (b0 : -9223372036854775808 <= B) (b1 : B <= 9223372036854775807) (hn : xs.length <= maxLen) (hc : xs.length <= c) (RA : Hid (SlV w p xs)) :
  Calls Tryz.prog 66 #[.int .i64 fold, T5 K B F R O, .slice p xs.length c] w (Ret (F3 (rdv fold K B F R O xs)) w) := by
 have HN := Lib.hid hn
 have hn2 : xs.length <= 9223372036854775807 := Nat.le_trans hn (by decide)
 clear hn
 have OP := Lib.hid fun w => c_op fold w
 cases hk : known fold
 ·rw [show rdv fold K B F R O xs = (0, 0, 1) by unfold rdv; rw [if_pos hk]]
  rw [hk] at OP
  rw [if_neg (by decide)] at OP
  clear hk b0 b1 RA
  go_enter Tryz.func66, Tryz.ntmps66
  go_wp2_with (first | (go_at_call 101; (with_reducible refine (OP.out _).mono ?_); rintro e w9 ⟨rfl, rfl⟩))
  refine bodyPost_ret (v := Frac3 0 0 1) (by simp [results, Tryz.results66, go_sem]) rfl ⟨rfl, ?_⟩; exact SqB.b
 rw [hk, if_pos rfl] at OP
 cases ht : ty K B F R O
 ·rw [show rdv fold K B F R O xs = (0, 0, 10) by unfold rdv; rw [if_neg (by rw [hk]; decide), if_pos ht]]
  have VT := Lib.hid fun w => vtF ht w
  clear hk ht b0 b1 RA
  go_enter Tryz.func66, Tryz.ntmps66
  go_wp2_with (first | (go_at_call 101; (with_reducible refine (OP.out _).mono ?_); rintro e w9 ⟨rfl, rfl⟩) | (go_at_call 46; (with_reducible refine (VT.out _).mono ?_); rintro e w1 ⟨rfl, hb1⟩; have hc1 := (bcell hb1).1; have hf1 := (bcell hb1).2; have z1_0 : w.heap.size < w1.heap.size := SqB.z hb1; have z1_1 : w.heap.size + 1 < w1.heap.size := SqB.z hb1; have K1 : Below w.heap.size w w1 := SqB.t hb1))
  refine bodyPost_ret (v := Frac3 0 0 10) (by simp [results, Tryz.results66, go_sem, hc1, hf1, SqB.n z1_0, SqB.n z1_1]) rfl ⟨rfl, ?_⟩; exact SqB.b
 have VT := Lib.hid fun w => vtT ht w
 have CV := Lib.hid fun n d w => c_va K B F R O n d w b0 b1
 have ID := Lib.hid fun w => c_id fold K B F R O w b0 b1
 have AP := Lib.hid fun a e w (h : -9223372036854775808 <= (e : Int × Int).1 /\ e.1 <= 9223372036854775807) => c_ap (opv fold) K B F R O (a : Int × Int).1 a.2 e.1 e.2 w b0 b1 h
 clear b0 b1
 have HV : Hid (∀ r : A3, (if (∃ i, i < xs.length /\ vv K B F R O (xs.getD i (0, 0)).1 (xs.getD i (0, 0)).2 = false) then (0, 0, 1)
   else rdt fold K B F R O xs : A3) = r -> rdv fold K B F R O xs = r) := Lib.hid fun r hr => by
  unfold rdv
  rw [if_neg (by rw [hk]; decide), if_neg (by rw [ht]; decide)]
  exact hr
 clear hk ht
 obtain ⟨A, hA⟩ : ∃ A, rdv fold K B F R O xs = A := ⟨_, rfl⟩
 rw [hA] at HV ⊢
 clear hA
 obtain ⟨oq, hoq⟩ : ∃ q, opv fold = q := ⟨_, rfl⟩
 have HOQ := Lib.hid hoq
 rw [hoq] at OP AP
 clear hoq
 go_enter Tryz.func66, Tryz.ntmps66
 go_wp2_with (first | (go_at_call 101; (with_reducible refine (OP.out _).mono ?_); rintro e w9 ⟨rfl, rfl⟩) | (go_at_call 46; (with_reducible refine (VT.out _).mono ?_); rintro e w1 ⟨rfl, hb1⟩; have hc1 := (bcell hb1).1; have hf1 := (bcell hb1).2; have z1_0 : w.heap.size < w1.heap.size := SqB.z hb1; have z1_1 : w.heap.size + 1 < w1.heap.size := SqB.z hb1; have K1 : Below w.heap.size w w1 := SqB.t hb1))
 have hS : Hid (w1.cell? ⟨w.heap.size, 0, none⟩ = some (.int .i64 K) /\ w1.cell? ⟨w.heap.size, 1, none⟩ = some (.int .i64 B) /\ w1.cell? ⟨w.heap.size, 2, none⟩ = some (.int .i64 F) /\ w1.cell? ⟨w.heap.size, 3, none⟩ = some (.int .i64 R) /\ w1.cell? ⟨w.heap.size, 4, none⟩ = some (.int .i64 O) /\ w1.cell? ⟨w.heap.size + 1, 0, none⟩ = some (.int .i64 0) /\ w1.cell? ⟨w.heap.size + 1, 1, none⟩ = some (.int .i64 0) /\ w1.frozen? ⟨w.heap.size + 1, 0, none⟩ = false /\ w1.frozen? ⟨w.heap.size + 1, 1, none⟩ = false /\ Below w.heap.size w w1) := Lib.hid ⟨Rg.keep hb1 (by simp <;> omega) (by go_cell), Rg.keep hb1 (by simp <;> omega) (by go_cell), Rg.keep hb1 (by simp <;> omega) (by go_cell), Rg.keep hb1 (by simp <;> omega) (by go_cell), Rg.keep hb1 (by simp <;> omega) (by go_cell), Rg.keep hb1 (by simp <;> omega) (by go_cell), Rg.keep hb1 (by simp <;> omega) (by go_cell), Rg.keepF hb1 (by simp <;> omega) (by simp only [frozen?_alloc_cells]; exact Rg.notFrozen (by omega)), Rg.keepF hb1 (by simp <;> omega) (by simp only [frozen?_alloc_cells]; exact Rg.notFrozen (by omega)), K1⟩
 have HS : Hid (∀ u u' : World, (u.cell? ⟨w.heap.size, 0, none⟩ = some (.int .i64 K) /\ u.cell? ⟨w.heap.size, 1, none⟩ = some (.int .i64 B) /\ u.cell? ⟨w.heap.size, 2, none⟩ = some (.int .i64 F) /\ u.cell? ⟨w.heap.size, 3, none⟩ = some (.int .i64 R) /\ u.cell? ⟨w.heap.size, 4, none⟩ = some (.int .i64 O) /\ u.cell? ⟨w.heap.size + 1, 0, none⟩ = some (.int .i64 0) /\ u.cell? ⟨w.heap.size + 1, 1, none⟩ = some (.int .i64 0) /\ u.frozen? ⟨w.heap.size + 1, 0, none⟩ = false /\ u.frozen? ⟨w.heap.size + 1, 1, none⟩ = false /\ Below w.heap.size w u) -> Below u.heap.size u u' -> (u'.cell? ⟨w.heap.size, 0, none⟩ = some (.int .i64 K) /\ u'.cell? ⟨w.heap.size, 1, none⟩ = some (.int .i64 B) /\ u'.cell? ⟨w.heap.size, 2, none⟩ = some (.int .i64 F) /\ u'.cell? ⟨w.heap.size, 3, none⟩ = some (.int .i64 R) /\ u'.cell? ⟨w.heap.size, 4, none⟩ = some (.int .i64 O) /\ u'.cell? ⟨w.heap.size + 1, 0, none⟩ = some (.int .i64 0) /\ u'.cell? ⟨w.heap.size + 1, 1, none⟩ = some (.int .i64 0) /\ u'.frozen? ⟨w.heap.size + 1, 0, none⟩ = false /\ u'.frozen? ⟨w.heap.size + 1, 1, none⟩ = false /\ Below w.heap.size w u')) := Lib.hid (fun u u' h hb => ⟨Rg.keep hb (World.block_lt_of_cell? _ _ h.1) h.1, Rg.keep hb (World.block_lt_of_cell? _ _ h.2.1) h.2.1, Rg.keep hb (World.block_lt_of_cell? _ _ h.2.2.1) h.2.2.1, Rg.keep hb (World.block_lt_of_cell? _ _ h.2.2.2.1) h.2.2.2.1, Rg.keep hb (World.block_lt_of_cell? _ _ h.2.2.2.2.1) h.2.2.2.2.1, Rg.keep hb (World.block_lt_of_cell? _ _ h.2.2.2.2.2.1) h.2.2.2.2.2.1, Rg.keep hb (World.block_lt_of_cell? _ _ h.2.2.2.2.2.2.1) h.2.2.2.2.2.2.1, Rg.keepF hb (World.block_lt_of_cell? _ _ h.2.2.2.2.2.1) h.2.2.2.2.2.2.2.1, Rg.keepF hb (World.block_lt_of_cell? _ _ h.2.2.2.2.2.1) h.2.2.2.2.2.2.2.2.1, h.2.2.2.2.2.2.2.2.2.trans (hb.mono h.2.2.2.2.2.2.2.2.2.size)⟩)
 clear VT OP hb1 hc1 hf1 z1_0 z1_1 K1
 go_loopw [36] (fun i wr => ∃ (j : Nat), i = .int .i64 j /\ j <= xs.length /\ Hid (wr.cell? ⟨w.heap.size, 0, none⟩ = some (.int .i64 K) /\ wr.cell? ⟨w.heap.size, 1, none⟩ = some (.int .i64 B) /\ wr.cell? ⟨w.heap.size, 2, none⟩ = some (.int .i64 F) /\ wr.cell? ⟨w.heap.size, 3, none⟩ = some (.int .i64 R) /\ wr.cell? ⟨w.heap.size, 4, none⟩ = some (.int .i64 O) /\ wr.cell? ⟨w.heap.size + 1, 0, none⟩ = some (.int .i64 0) /\ wr.cell? ⟨w.heap.size + 1, 1, none⟩ = some (.int .i64 0) /\ wr.frozen? ⟨w.heap.size + 1, 0, none⟩ = false /\ wr.frozen? ⟨w.heap.size + 1, 1, none⟩ = false /\ Below w.heap.size w wr) /\ Hid (∀ k, k < j -> vv K B F R O (xs.getD k (0, 0)).1 (xs.getD k (0, 0)).2 = true)) (fun i _ => xs.length - (intOf i).toNat)
 case atStart => exact ⟨0, rfl, Nat.zero_le _, hS, Lib.hid fun k h => absurd h (Nat.not_lt_zero _)⟩
 case round =>
  obtain ⟨j, rfl, hj, hT, hL⟩ := hrel
  clear hS
  obtain ⟨t0, t1, t2, t3, t4, r0, r1, fr0, fr1, K0⟩ := hT.out
  have lt : w.heap.size < wr.heap.size := World.block_lt_of_cell? _ _ t0
  have lr : w.heap.size + 1 < wr.heap.size := World.block_lt_of_cell? _ _ r0
  have jj : (0 : Int) <= j := by omega
  by_cases hlt : j < xs.length
  ·obtain ⟨b, o, rfl, c0, c1⟩ := RA.out j hlt
   have j2 : (j : Int) < xs.length := by omega
   have hbw : b < w.heap.size := World.block_lt_of_cell? _ _ c0
   replace c0 := Rg.keep K0 hbw c0
   replace c1 := Rg.keep K0 hbw c1
   have hbr : b < wr.heap.size := World.block_lt_of_cell? _ _ c0
   obtain ⟨e, he⟩ : ∃ e, xs.getD j (0, 0) = e := ⟨_, rfl⟩
   rw [he] at c0 c1
   have V := Lib.hid fun w => CV.out e.1 e.2 w
   have HE := Lib.hid he
   cases hv : vv K B F R O e.1 e.2
   ·rw [hv] at V
    have hA := HV.out (0, 0, 1) (by rw [if_pos ⟨j, hlt, by rw [he]; exact hv⟩])
    subst hA
    clear he hv HV AP ID CV hT hL
    go_wp2_with (first | (go_at_call 48; (with_reducible refine (V.out _).mono ?_); rintro e w5 ⟨rfl, hb5⟩; have hc5 := (bcell hb5).1; have hf5 := (bcell hb5).2; have z5_0 : w.heap.size < w5.heap.size := SqB.z hb5; have z5_1 : w.heap.size + 1 < w5.heap.size := SqB.z hb5; have z5_2 : wr.heap.size < w5.heap.size := SqB.z hb5; have K5 : Below w.heap.size w w5 := SqB.t hb5))
    refine bodyPost_ret (v := Frac3 0 0 1) (by simp [results, Tryz.results66, go_sem, hc5, hf5, SqB.n z5_0, SqB.n z5_1, SqB.n z5_2, r0, r1, fr0, fr1, lr, Nat.lt_succ_of_lt lr]) rfl ⟨rfl, ?_⟩; exact SqB.b
   ·rw [hv] at V
    have hv2 := Lib.hid hv
    clear he hv
    go_wp2_with (first | (go_at_call 48; (with_reducible refine (V.out _).mono ?_); rintro e w5 ⟨rfl, hb5⟩; have hc5 := (bcell hb5).1; have hf5 := (bcell hb5).2; have z5_0 : w.heap.size < w5.heap.size := SqB.z hb5; have z5_1 : w.heap.size + 1 < w5.heap.size := SqB.z hb5; have z5_2 : wr.heap.size < w5.heap.size := SqB.z hb5; have K5 : Below w.heap.size w w5 := SqB.t hb5))
    case roundEnd =>
     have M5 : Below wr.heap.size wr w5 := Below.trans (b := _) ((Below.refl _ _).alloc (Nat.le_refl _) _) (hb5.mono (by simp))
     refine ⟨⟨j + 1, by simp, by omega, Lib.hid (HS.out _ _ hT.out M5), Lib.hid fun k h => ?_⟩, by simp [intOf]; omega⟩
     rcases (by omega : k < j \/ k = j) with h | rfl
     ·exact hL.out k h
     ·rw [HE.out]; exact hv2.out
  ·have ej : j = xs.length := by omega
   subst ej
   have hne : ¬ ∃ i, i < xs.length /\ vv K B F R O (xs.getD i (0, 0)).1 (xs.getD i (0, 0)).2 = false := by
    rintro ⟨i, h1, h2⟩
    rw [hL.out i h1] at h2
    cases h2
   have HW := Lib.hid fun r h => HV.out r (by rw [if_neg hne]; exact h)
   have hallv := Lib.hid hL.out
   clear HV hL hne
   cases xs with
   | nil =>
    obtain ⟨q, hq⟩ : ∃ q, idv fold K B F R O = q := ⟨_, rfl⟩
    rw [hq] at ID
    obtain ⟨x, y, f⟩ := q
    cases f
    ·have hA := HW.out (0, 0, 1) (by unfold rdt; rw [hq]; rfl)
     subst hA
     clear HW hq AP CV RA hT hallv
     go_wp2_with (first | (go_at_call 102; (with_reducible refine (ID.out _).mono ?_); rintro e w5 ⟨rfl, hb5⟩; have hc5 := (bcell hb5).1; have hf5 := (bcell hb5).2; have z5_0 : w.heap.size < w5.heap.size := SqB.z hb5; have z5_1 : w.heap.size + 1 < w5.heap.size := SqB.z hb5; have K5 : Below w.heap.size w w5 := SqB.t hb5))
     refine bodyPost_ret (v := Frac3 0 0 1) (by simp [results, Tryz.results66, go_sem, hc5, hf5, SqB.n z5_0, SqB.n z5_1, r0, r1, fr0, fr1, lr, Nat.lt_succ_of_lt lr]) rfl ⟨rfl, ?_⟩; exact SqB.b
    ·have hA := HW.out (x, y, 0) (by unfold rdt; rw [hq]; rfl)
     subst hA
     clear HW hq AP CV RA hT hallv
     go_wp2_with (first | (go_at_call 102; (with_reducible refine (ID.out _).mono ?_); rintro e w5 ⟨rfl, hb5⟩; have hc5 := (bcell hb5).1; have hf5 := (bcell hb5).2; have z5_0 : w.heap.size < w5.heap.size := SqB.z hb5; have z5_1 : w.heap.size + 1 < w5.heap.size := SqB.z hb5; have K5 : Below w.heap.size w w5 := SqB.t hb5))
     refine bodyPost_ret (v := Frac3 x y 0) (by simp [results, Tryz.results66, go_sem, hc5, hf5, SqB.n z5_0, SqB.n z5_1, r0, r1, fr0, fr1, lr, Nat.lt_succ_of_lt lr]) rfl ⟨rfl, ?_⟩; exact SqB.b
   | cons v r =>
    have HW2 : Hid (rdf oq K B F R O r v = A) := Lib.hid (HW.out _ (by unfold rdt; rw [HOQ.out])).symm
    obtain ⟨b, o, hp, c0, c1⟩ := RA.out 0 (by simp)
    subst hp
    obtain ⟨Q, hQ, RQ⟩ := cutV RA.out hc
    have RQ := Lib.hid RQ
    simp only [List.getD_cons_zero, Nat.zero_mul, Nat.add_zero] at c0 c1
    have hbw : b < w.heap.size := World.block_lt_of_cell? _ _ c0
    replace c0 := Rg.keep K0 hbw c0
    replace c1 := Rg.keep K0 hbw c1
    have hbr : b < wr.heap.size := World.block_lt_of_cell? _ _ c0
    rw [List.length_cons] at hc hn2 hj
    obtain ⟨n, hnn⟩ : ∃ n, r.length = n := ⟨_, rfl⟩
    rw [List.length_cons]
    have HR := Lib.hid hnn
    rw [hnn] at hc hn2 ⊢
    clear hnn HW ID CV hlt hj
    have c1' : 1 <= c := by omega
    obtain ⟨wt, hwt⟩ : ∃ wt : World, wt = wr := ⟨wr, rfl⟩
    subst hwt
    have lr0 := lr
    have HS2 : Hid (∀ (a : Int × Int) (u u' : World), (u.cell? ⟨w.heap.size, 0, none⟩ = some (.int .i64 K) /\ u.cell? ⟨w.heap.size, 1, none⟩ = some (.int .i64 B) /\ u.cell? ⟨w.heap.size, 2, none⟩ = some (.int .i64 F) /\ u.cell? ⟨w.heap.size, 3, none⟩ = some (.int .i64 R) /\ u.cell? ⟨w.heap.size, 4, none⟩ = some (.int .i64 O) /\ u.cell? ⟨w.heap.size + 1, 0, none⟩ = some (.int .i64 0) /\ u.cell? ⟨w.heap.size + 1, 1, none⟩ = some (.int .i64 0) /\ u.cell? ⟨wt.heap.size, 0, none⟩ = some (.int .i64 a.1) /\ u.cell? ⟨wt.heap.size, 1, none⟩ = some (.int .i64 a.2) /\ u.frozen? ⟨w.heap.size + 1, 0, none⟩ = false /\ u.frozen? ⟨w.heap.size + 1, 1, none⟩ = false /\ u.frozen? ⟨wt.heap.size, 0, none⟩ = false /\ u.frozen? ⟨wt.heap.size, 1, none⟩ = false /\ Below w.heap.size w u) -> Below u.heap.size u u' -> (u'.cell? ⟨w.heap.size, 0, none⟩ = some (.int .i64 K) /\ u'.cell? ⟨w.heap.size, 1, none⟩ = some (.int .i64 B) /\ u'.cell? ⟨w.heap.size, 2, none⟩ = some (.int .i64 F) /\ u'.cell? ⟨w.heap.size, 3, none⟩ = some (.int .i64 R) /\ u'.cell? ⟨w.heap.size, 4, none⟩ = some (.int .i64 O) /\ u'.cell? ⟨w.heap.size + 1, 0, none⟩ = some (.int .i64 0) /\ u'.cell? ⟨w.heap.size + 1, 1, none⟩ = some (.int .i64 0) /\ u'.cell? ⟨wt.heap.size, 0, none⟩ = some (.int .i64 a.1) /\ u'.cell? ⟨wt.heap.size, 1, none⟩ = some (.int .i64 a.2) /\ u'.frozen? ⟨w.heap.size + 1, 0, none⟩ = false /\ u'.frozen? ⟨w.heap.size + 1, 1, none⟩ = false /\ u'.frozen? ⟨wt.heap.size, 0, none⟩ = false /\ u'.frozen? ⟨wt.heap.size, 1, none⟩ = false /\ Below w.heap.size w u')) := Lib.hid (fun a u u' h hb => ⟨Rg.keep hb (World.block_lt_of_cell? _ _ h.1) h.1, Rg.keep hb (World.block_lt_of_cell? _ _ h.2.1) h.2.1, Rg.keep hb (World.block_lt_of_cell? _ _ h.2.2.1) h.2.2.1, Rg.keep hb (World.block_lt_of_cell? _ _ h.2.2.2.1) h.2.2.2.1, Rg.keep hb (World.block_lt_of_cell? _ _ h.2.2.2.2.1) h.2.2.2.2.1, Rg.keep hb (World.block_lt_of_cell? _ _ h.2.2.2.2.2.1) h.2.2.2.2.2.1, Rg.keep hb (World.block_lt_of_cell? _ _ h.2.2.2.2.2.2.1) h.2.2.2.2.2.2.1, Rg.keep hb (World.block_lt_of_cell? _ _ h.2.2.2.2.2.2.2.1) h.2.2.2.2.2.2.2.1, Rg.keep hb (World.block_lt_of_cell? _ _ h.2.2.2.2.2.2.2.2.1) h.2.2.2.2.2.2.2.2.1, Rg.keepF hb (World.block_lt_of_cell? _ _ h.2.2.2.2.2.1) h.2.2.2.2.2.2.2.2.2.1, Rg.keepF hb (World.block_lt_of_cell? _ _ h.2.2.2.2.2.1) h.2.2.2.2.2.2.2.2.2.2.1, Rg.keepF hb (World.block_lt_of_cell? _ _ h.2.2.2.2.2.2.2.1) h.2.2.2.2.2.2.2.2.2.2.2.1, Rg.keepF hb (World.block_lt_of_cell? _ _ h.2.2.2.2.2.2.2.1) h.2.2.2.2.2.2.2.2.2.2.2.2.1, h.2.2.2.2.2.2.2.2.2.2.2.2.2.trans (hb.mono h.2.2.2.2.2.2.2.2.2.2.2.2.2.size)⟩)
    go_wp2_with fail
    have hS2 : Hid ((wt.alloc (Obj.cells #[Value.int .i64 v.1, Value.int .i64 v.2] 29)).cell? ⟨w.heap.size, 0, none⟩ = some (.int .i64 K) /\ (wt.alloc (Obj.cells #[Value.int .i64 v.1, Value.int .i64 v.2] 29)).cell? ⟨w.heap.size, 1, none⟩ = some (.int .i64 B) /\ (wt.alloc (Obj.cells #[Value.int .i64 v.1, Value.int .i64 v.2] 29)).cell? ⟨w.heap.size, 2, none⟩ = some (.int .i64 F) /\ (wt.alloc (Obj.cells #[Value.int .i64 v.1, Value.int .i64 v.2] 29)).cell? ⟨w.heap.size, 3, none⟩ = some (.int .i64 R) /\ (wt.alloc (Obj.cells #[Value.int .i64 v.1, Value.int .i64 v.2] 29)).cell? ⟨w.heap.size, 4, none⟩ = some (.int .i64 O) /\ (wt.alloc (Obj.cells #[Value.int .i64 v.1, Value.int .i64 v.2] 29)).cell? ⟨w.heap.size + 1, 0, none⟩ = some (.int .i64 0) /\ (wt.alloc (Obj.cells #[Value.int .i64 v.1, Value.int .i64 v.2] 29)).cell? ⟨w.heap.size + 1, 1, none⟩ = some (.int .i64 0) /\ (wt.alloc (Obj.cells #[Value.int .i64 v.1, Value.int .i64 v.2] 29)).cell? ⟨wt.heap.size, 0, none⟩ = some (.int .i64 v.1) /\ (wt.alloc (Obj.cells #[Value.int .i64 v.1, Value.int .i64 v.2] 29)).cell? ⟨wt.heap.size, 1, none⟩ = some (.int .i64 v.2) /\ (wt.alloc (Obj.cells #[Value.int .i64 v.1, Value.int .i64 v.2] 29)).frozen? ⟨w.heap.size + 1, 0, none⟩ = false /\ (wt.alloc (Obj.cells #[Value.int .i64 v.1, Value.int .i64 v.2] 29)).frozen? ⟨w.heap.size + 1, 1, none⟩ = false /\ (wt.alloc (Obj.cells #[Value.int .i64 v.1, Value.int .i64 v.2] 29)).frozen? ⟨wt.heap.size, 0, none⟩ = false /\ (wt.alloc (Obj.cells #[Value.int .i64 v.1, Value.int .i64 v.2] 29)).frozen? ⟨wt.heap.size, 1, none⟩ = false /\ Below w.heap.size w (wt.alloc (Obj.cells #[Value.int .i64 v.1, Value.int .i64 v.2] 29))) := Lib.hid ⟨Rg.keep ((Below.refl wt.heap.size wt).alloc (Nat.le_refl _) (Obj.cells #[Value.int .i64 v.1, Value.int .i64 v.2] 29)) lt t0, Rg.keep ((Below.refl wt.heap.size wt).alloc (Nat.le_refl _) (Obj.cells #[Value.int .i64 v.1, Value.int .i64 v.2] 29)) lt t1, Rg.keep ((Below.refl wt.heap.size wt).alloc (Nat.le_refl _) (Obj.cells #[Value.int .i64 v.1, Value.int .i64 v.2] 29)) lt t2, Rg.keep ((Below.refl wt.heap.size wt).alloc (Nat.le_refl _) (Obj.cells #[Value.int .i64 v.1, Value.int .i64 v.2] 29)) lt t3, Rg.keep ((Below.refl wt.heap.size wt).alloc (Nat.le_refl _) (Obj.cells #[Value.int .i64 v.1, Value.int .i64 v.2] 29)) lt t4, Rg.keep ((Below.refl wt.heap.size wt).alloc (Nat.le_refl _) (Obj.cells #[Value.int .i64 v.1, Value.int .i64 v.2] 29)) lr r0, Rg.keep ((Below.refl wt.heap.size wt).alloc (Nat.le_refl _) (Obj.cells #[Value.int .i64 v.1, Value.int .i64 v.2] 29)) lr r1, by go_cell, by go_cell, Rg.keepF ((Below.refl wt.heap.size wt).alloc (Nat.le_refl _) (Obj.cells #[Value.int .i64 v.1, Value.int .i64 v.2] 29)) lr fr0, Rg.keepF ((Below.refl wt.heap.size wt).alloc (Nat.le_refl _) (Obj.cells #[Value.int .i64 v.1, Value.int .i64 v.2] 29)) lr fr1, by simp only [frozen?_alloc_cells]; exact Rg.notFrozen (Nat.le_refl _), by simp only [frozen?_alloc_cells]; exact Rg.notFrozen (Nat.le_refl _), K0.alloc K0.size _⟩
    clear hT
    go_loopw [65] (fun i wr => ∃ (j : Nat) (a : Int × Int), i = .int .i64 j /\ j <= n /\ Hid (wr.cell? ⟨w.heap.size, 0, none⟩ = some (.int .i64 K) /\ wr.cell? ⟨w.heap.size, 1, none⟩ = some (.int .i64 B) /\ wr.cell? ⟨w.heap.size, 2, none⟩ = some (.int .i64 F) /\ wr.cell? ⟨w.heap.size, 3, none⟩ = some (.int .i64 R) /\ wr.cell? ⟨w.heap.size, 4, none⟩ = some (.int .i64 O) /\ wr.cell? ⟨w.heap.size + 1, 0, none⟩ = some (.int .i64 0) /\ wr.cell? ⟨w.heap.size + 1, 1, none⟩ = some (.int .i64 0) /\ wr.cell? ⟨wt.heap.size, 0, none⟩ = some (.int .i64 a.1) /\ wr.cell? ⟨wt.heap.size, 1, none⟩ = some (.int .i64 a.2) /\ wr.frozen? ⟨w.heap.size + 1, 0, none⟩ = false /\ wr.frozen? ⟨w.heap.size + 1, 1, none⟩ = false /\ wr.frozen? ⟨wt.heap.size, 0, none⟩ = false /\ wr.frozen? ⟨wt.heap.size, 1, none⟩ = false /\ Below w.heap.size w wr) /\ Hid (rdf oq K B F R O (r.drop j) a = A)) (fun i _ => n - (intOf i).toNat)
    case atStart => exact ⟨0, v, rfl, Nat.zero_le _, hS2, HW2⟩
    case round =>
     obtain ⟨j, a, rfl, hj, hT, hF⟩ := hrel
     clear hS2 t0 t1 t2 t3 t4 r0 r1 fr0 fr1 c0 c1
     obtain ⟨t0, t1, t2, t3, t4, r0, r1, T0, T1, fr0, fr1, fT0, fT1, KB⟩ := hT.out
     have lt : w.heap.size < wr.heap.size := World.block_lt_of_cell? _ _ t0
     have lr : w.heap.size + 1 < wr.heap.size := World.block_lt_of_cell? _ _ r0
     have lT : wt.heap.size < wr.heap.size := World.block_lt_of_cell? _ _ T0
     have wT : w.heap.size + 1 < wt.heap.size := lr0
     have jj : (0 : Int) <= j := by omega
     by_cases hlt : j < n
     ·obtain ⟨b2, o2, hQ2, c0, c1⟩ := RQ.out j (by rw [HR.out]; exact hlt)
      subst hQ2
      have j2 : (j : Int) < n := by omega
      have hbw2 : b2 < w.heap.size := World.block_lt_of_cell? _ _ c0
      replace c0 := Rg.keep KB hbw2 c0
      replace c1 := Rg.keep KB hbw2 c1
      have hbr2 : b2 < wr.heap.size := World.block_lt_of_cell? _ _ c0
      have hst := rdf_step (op := oq) (K := K) (B := B) (F := F) (R := R) (O := O) (xs := r) (i := j) (by rw [HR.out]; exact hlt) a
      have hev := hallv.out (j + 1) (by simp [HR.out]; omega)
      rw [List.getD_cons_succ] at hev
      obtain ⟨e, he⟩ : ∃ e, r.getD j (0, 0) = e := ⟨_, rfl⟩
      rw [he] at c0 c1 hst hev
      obtain ⟨-, -, e2, e3, -⟩ := vv_small hev
      have AC := Lib.hid fun w => AP.out a e w ⟨by omega, by omega⟩
      obtain ⟨q, hq⟩ : ∃ q, apv oq K B F R O a.1 a.2 e.1 e.2 = q := ⟨_, rfl⟩
      rw [hq] at AC hst
      obtain ⟨x, y, z⟩ := q
      clear he hev hq e2 e3
      dsimp only at hst
      by_cases hz : z = 0
      ·subst hz
       rw [if_pos rfl] at hst
       rw [hst] at hF
       clear hst
       go_wp2_with (first | (go_at_call 100; (with_reducible refine (AC.out _).mono ?_); rintro e w7 ⟨rfl, hb7⟩; have hc7 := (bcell hb7).1; have hf7 := (bcell hb7).2; have z7_0 : w.heap.size < w7.heap.size := SqB.z hb7; have z7_1 : w.heap.size + 1 < w7.heap.size := SqB.z hb7; have z7_2 : wt.heap.size < w7.heap.size := SqB.z hb7; have K7 : Below w.heap.size w w7 := SqB.t hb7))
       go_roundw
       case rel =>
        have M7 : Below wr.heap.size wr w7 := Below.trans (b := _) ((Below.refl _ _).alloc (Nat.le_refl _) _) (hb7.mono (by simp))
        obtain ⟨t0, t1, t2, t3, t4, r0, r1, T0, T1, fr0, fr1, fT0, fT1, KC⟩ := HS2.out _ _ _ hT.out M7
        refine ⟨_, _, _, _, _, _, _, _, _, _, _, _, _, _, _, _, _, _, _, _, _, _, ?_, rfl⟩
        have hRC : Rg.RC wt.heap.size w7 := Rg.RC.mk T0 T1 fT0 fT1
        have hRS := Rg.RC.store (x := x) (y := y) hRC
        have hRR : Rg.RC (w.heap.size + 1) w7 := Rg.RC.mk r0 r1 fr0 fr1
        have hRF := Rg.RC.far (r := wt.heap.size) (x := .int .i64 x) (y := .int .i64 y) (by omega) hRR
        have n0 : wt.heap.size ≠ w.heap.size := by omega
        have n1 : wt.heap.size ≠ w.heap.size + 1 := by omega
        have KD := Below.setCell (p := ⟨wt.heap.size, 1, none⟩) (Below.setCell (p := ⟨wt.heap.size, 0, none⟩) KC (by dsimp only; omega) (.int .i64 x)) (by dsimp only; omega) (.int .i64 y)
        exact ⟨j + 1, (x, y), rfl, by omega, Lib.hid ⟨kpa _ (Rg.far n0 t0), kpa _ (Rg.far n0 t1), kpa _ (Rg.far n0 t2), kpa _ (Rg.far n0 t3), kpa _ (Rg.far n0 t4), kpa _ (Rg.far n1 r0), kpa _ (Rg.far n1 r1), kpa _ (Rg.RC.read0 hRC), kpa _ (Rg.RC.read1 hRC), kpf _ (Rg.far n1 r0) hRF.2.2.1, kpf _ (Rg.far n1 r0) hRF.2.2.2, kpf _ (Rg.RC.read0 hRC) hRS.2.2.1, kpf _ (Rg.RC.read0 hRC) hRS.2.2.2, KD.alloc KD.size _⟩, hF⟩
       case measure => simp [intOf]; omega
      ·rw [if_neg hz] at hst
       have hAA : A = (0, 0, z) := by rw [<- hF.out, hst]
       subst hAA
       have z1 : (z != 0) = true := by simpa using hz
       clear hst hF hz hT HW2 hallv AP
       go_wp2_with (first | (go_at_call 100; (with_reducible refine (AC.out _).mono ?_); rintro e w7 ⟨rfl, hb7⟩; have hc7 := (bcell hb7).1; have hf7 := (bcell hb7).2; have z7_0 : w.heap.size < w7.heap.size := SqB.z hb7; have z7_1 : w.heap.size + 1 < w7.heap.size := SqB.z hb7; have z7_2 : wt.heap.size < w7.heap.size := SqB.z hb7; have K7 : Below w.heap.size w w7 := SqB.t hb7))
       refine bodyPost_ret (v := Frac3 0 0 z) (by simp [results, Tryz.results66, go_sem, hc7, hf7, SqB.n z7_0, SqB.n z7_1, SqB.n z7_2, r0, r1, fr0, fr1, lr, Nat.lt_succ_of_lt lr]) rfl ⟨rfl, ?_⟩; exact SqB.b
     ·have ej : j = n := by omega
      subst ej
      have hAA : A = (a.1, a.2, 0) := by rw [<- hF.out, <- HR.out, rdf_end]
      subst hAA
      clear hF hT HW2 hallv AP RQ
      go_wp2
      refine bodyPost_ret (v := Frac3 a.1 a.2 0) (by simp [results, Tryz.results66, go_sem, r0, r1, fr0, fr1, T0, T1, lr, lT]) rfl ⟨rfl, ?_⟩; exact SqB.b
end Go.Proofs.YteaaikmejacpaaaGreatDoor.Va
