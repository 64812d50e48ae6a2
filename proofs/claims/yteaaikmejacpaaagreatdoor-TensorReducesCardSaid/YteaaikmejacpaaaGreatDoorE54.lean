/- Tensors: the statement on Reduce. -/
import Derived.Test.YteaaikmejacpaaaGreatDoorE53
import Derived.Test.YteaaikmejacpaaaGreatDoorR20
import Derived.Test.YteaaikmejacpaaaGreatDoorR19

namespace Go.Proofs.YteaaikmejacpaaaGreatDoor.Te
open Go.ChangeShapes Go.WideShapes Go.ChangeAt Go.RowKit
open Fx Va Sh
set_option maxRecDepth 8000
set_option linter.unusedVariables false
set_option linter.unusedSimpArgs false

set_option maxRecDepth 100000 in
set_option maxHeartbeats 2000000 in
theorem lr_a (K B F R O : Int) (p : Option Addr) (zs : List Int) (c : Nat) (q : Option Addr) (vs : List (Int × Int)) (d : Nat) (ax fold : Int) (w : World) (b0 : -9223372036854775808 <= B) (b1 : B <= 9223372036854775807) (hn : zs.length <= maxLen) (hm : vs.length <= maxLen) (RA : Hid (SlI w p zs)) (RB : Hid (SlV w q vs)) (hc : zs.length <= c) (hc2 : c <= 9223372036854775807) (hLA : Tx.LA w) (hs : (decide ((vs.length : Int) <= 1000) && decide (zs.length <= 20)) = false) :
  Calls Tryz.prog 8 #[Tn K B F R O p zs.length c q vs.length d, .int .i64 ax, .int .i64 fold] w fun en w' => en = .returned (.bool true) /\ Below w.heap.size w w' := by
 have HLA := Lib.hid hLA
 have EX := Lib.hid fun u h => exam12 u h
 have SM0 := fun u => tsmall K B F R O p zs.length c q vs.length d 1000 u
 rw [hs] at SM0
 have SM := Lib.hid SM0
 obtain ⟨m, hmm⟩ : ∃ m, vs.length = m := ⟨_, rfl⟩
 rw [hmm] at SM ⊢
 clear hs SM0 hm hmm
 unfold Tn at *
 go_enter Tryz.func8, Tryz.ntmps8
 go_wp2_with (first | (go_at_call 14; (with_reducible refine (SM.out _).mono ?_); rintro e w1 ⟨rfl, hb⟩; have hW : Below w.heap.size w (w.alloc (Obj.cells #[Value.int .i64 K, Value.int .i64 B, Value.int .i64 F, Value.int .i64 R, Value.int .i64 O, Value.slice p zs.length c, Value.slice q m d] 27)) := (Below.refl _ _).alloc (Nat.le_refl _) (Obj.cells #[Value.int .i64 K, Value.int .i64 B, Value.int .i64 F, Value.int .i64 R, Value.int .i64 O, Value.slice p zs.length c, Value.slice q m d] 27); have hX := hW.trans (hb.mono hW.size); have c0 : w1.cell? ⟨w.heap.size, 0, none⟩ = some (.int .i64 K) := Rg.keep hb (by first | omega | (simp; omega) | (simp; done)) (by go_cell); have c1 : w1.cell? ⟨w.heap.size, 1, none⟩ = some (.int .i64 B) := Rg.keep hb (by first | omega | (simp; omega) | (simp; done)) (by go_cell); have c2 : w1.cell? ⟨w.heap.size, 2, none⟩ = some (.int .i64 F) := Rg.keep hb (by first | omega | (simp; omega) | (simp; done)) (by go_cell); have c3 : w1.cell? ⟨w.heap.size, 3, none⟩ = some (.int .i64 R) := Rg.keep hb (by first | omega | (simp; omega) | (simp; done)) (by go_cell); have c4 : w1.cell? ⟨w.heap.size, 4, none⟩ = some (.int .i64 O) := Rg.keep hb (by first | omega | (simp; omega) | (simp; done)) (by go_cell); have c5 : w1.cell? ⟨w.heap.size, 5, none⟩ = some (.slice p zs.length c) := Rg.keep hb (by first | omega | (simp; omega) | (simp; done)) (by go_cell); have c6 : w1.cell? ⟨w.heap.size, 6, none⟩ = some (.slice q m d) := Rg.keep hb (by first | omega | (simp; omega) | (simp; done)) (by go_cell); have lc : w.heap.size < w1.heap.size := World.block_lt_of_cell? _ _ c0; have KB := Lib.hid hX; clear hb hW hX) | (go_at_call 15; (with_reducible refine (EX.out _ (HLA.out.below KB.out)).mono ?_); rintro e wX ⟨rfl, hb⟩; have KX := Lib.hid (KB.out.trans (hb.mono KB.out.size)); clear hb))
 go_ret
 exact ⟨rfl, KX.out⟩

set_option maxRecDepth 100000 in
set_option maxHeartbeats 2000000 in
theorem lr_go (K B F R O : Int) (p : Option Addr) (zs : List Int) (c : Nat) (q : Option Addr) (vs : List (Int × Int)) (d : Nat) (ax fold : Int) (w : World) (b0 : -9223372036854775808 <= B) (b1 : B <= 9223372036854775807) (hn : zs.length <= maxLen) (hm : vs.length <= maxLen) (RA : Hid (SlI w p zs)) (RB : Hid (SlV w q vs)) (hc : zs.length <= c) (hc2 : c <= 9223372036854775807) (hLA : Tx.LA w) (K' B' F' R' O' : Int) (zs' : List Int) (vs' : List (Int × Int)) (E' : Int) (hz' : zs'.length <= maxLen) (hv' : vs'.length <= maxLen) (hs : (decide ((vs.length : Int) <= 1000) && decide (zs.length <= 20)) = true) (RD0 : ∀ u, Hid (SlI u p zs) -> Hid (SlV u q vs) -> Calls Tryz.prog 33 #[Tn K B F R O p zs.length c q vs.length d, .int .i64 ax, .int .i64 fold] u (TS K' B' F' R' O' zs' vs' E' u)) (RR0 : ∀ u, Hid (SlI u p zs) -> Hid (SlV u q vs) -> Calls Tryz.prog 34 #[Tn K B F R O p zs.length c q vs.length d, .int .i64 ax, .int .i64 fold] u (TS K' B' F' R' O' zs' vs' E' u)) :
  Calls Tryz.prog 8 #[Tn K B F R O p zs.length c q vs.length d, .int .i64 ax, .int .i64 fold] w fun en w' => en = .returned (.bool true) /\ Below w.heap.size w w' := by
 have HLA := Lib.hid hLA
 have EX := Lib.hid fun u h => exam12 u h
 have SM0 := fun u => tsmall K B F R O p zs.length c q vs.length d 1000 u
 rw [hs] at SM0
 have SM := Lib.hid SM0
 have BTT0 := fun p4 p5 kc4 kc5 q4 q5 d4 d5 u h1 h2 h3 h4 => bten K' B' F' R' O' p4 p5 zs' kc4 kc5 q4 q5 vs' d4 d5 u hz' hv' h1 h2 h3 h4
 unfold TS at RD0 RR0
 obtain ⟨n3, hn3⟩ : ∃ n, zs'.length = n := ⟨_, rfl⟩
 obtain ⟨m3, hm3⟩ : ∃ n, vs'.length = n := ⟨_, rfl⟩
 obtain ⟨m, hmm⟩ : ∃ m, vs.length = m := ⟨_, rfl⟩
 rw [hmm] at SM RD0 RR0 ⊢
 rw [hn3, hm3] at RD0 RR0 BTT0
 unfold Tn at *
 have RD9 := Lib.hid RD0
 have RR9 := Lib.hid RR0
 have BTT := Lib.hid BTT0
 clear hs SM0 hm hmm RD0 RR0 BTT0 hn3 hm3 hz' hv' hc hc2
 go_enter Tryz.func8, Tryz.ntmps8
 go_wp2_with (first | (go_at_call 14; (with_reducible refine (SM.out _).mono ?_); rintro e w1 ⟨rfl, hb⟩; have hW : Below w.heap.size w (w.alloc (Obj.cells #[Value.int .i64 K, Value.int .i64 B, Value.int .i64 F, Value.int .i64 R, Value.int .i64 O, Value.slice p zs.length c, Value.slice q m d] 27)) := (Below.refl _ _).alloc (Nat.le_refl _) (Obj.cells #[Value.int .i64 K, Value.int .i64 B, Value.int .i64 F, Value.int .i64 R, Value.int .i64 O, Value.slice p zs.length c, Value.slice q m d] 27); have hX := hW.trans (hb.mono hW.size); have c0 : w1.cell? ⟨w.heap.size, 0, none⟩ = some (.int .i64 K) := Rg.keep hb (by first | omega | (simp; omega) | (simp; done)) (by go_cell); have c1 : w1.cell? ⟨w.heap.size, 1, none⟩ = some (.int .i64 B) := Rg.keep hb (by first | omega | (simp; omega) | (simp; done)) (by go_cell); have c2 : w1.cell? ⟨w.heap.size, 2, none⟩ = some (.int .i64 F) := Rg.keep hb (by first | omega | (simp; omega) | (simp; done)) (by go_cell); have c3 : w1.cell? ⟨w.heap.size, 3, none⟩ = some (.int .i64 R) := Rg.keep hb (by first | omega | (simp; omega) | (simp; done)) (by go_cell); have c4 : w1.cell? ⟨w.heap.size, 4, none⟩ = some (.int .i64 O) := Rg.keep hb (by first | omega | (simp; omega) | (simp; done)) (by go_cell); have c5 : w1.cell? ⟨w.heap.size, 5, none⟩ = some (.slice p zs.length c) := Rg.keep hb (by first | omega | (simp; omega) | (simp; done)) (by go_cell); have c6 : w1.cell? ⟨w.heap.size, 6, none⟩ = some (.slice q m d) := Rg.keep hb (by first | omega | (simp; omega) | (simp; done)) (by go_cell); have lc : w.heap.size < w1.heap.size := World.block_lt_of_cell? _ _ c0; have KB := Lib.hid hX; clear hb hW hX) | (go_at_call 33; (with_reducible refine (RD9.out _ (Lib.hid (SlI.keep KB.out RA.out)) (Lib.hid (SlV.below RB.out KB.out))).mono ?_); rintro e w4 ⟨p4, kc4, q4, d4, rfl, hsi, hsv, hb⟩; have hW : Below w1.heap.size w1 w1 := Below.refl _ _; have hX := hW.trans (hb.mono hW.size); have c0 : w4.cell? ⟨w.heap.size, 0, none⟩ = some (.int .i64 K) := Rg.keep hb (by first | omega | (simp; omega) | (simp; done)) (by go_cell); have c1 : w4.cell? ⟨w.heap.size, 1, none⟩ = some (.int .i64 B) := Rg.keep hb (by first | omega | (simp; omega) | (simp; done)) (by go_cell); have c2 : w4.cell? ⟨w.heap.size, 2, none⟩ = some (.int .i64 F) := Rg.keep hb (by first | omega | (simp; omega) | (simp; done)) (by go_cell); have c3 : w4.cell? ⟨w.heap.size, 3, none⟩ = some (.int .i64 R) := Rg.keep hb (by first | omega | (simp; omega) | (simp; done)) (by go_cell); have c4 : w4.cell? ⟨w.heap.size, 4, none⟩ = some (.int .i64 O) := Rg.keep hb (by first | omega | (simp; omega) | (simp; done)) (by go_cell); have c5 : w4.cell? ⟨w.heap.size, 5, none⟩ = some (.slice p zs.length c) := Rg.keep hb (by first | omega | (simp; omega) | (simp; done)) (by go_cell); have c6 : w4.cell? ⟨w.heap.size, 6, none⟩ = some (.slice q m d) := Rg.keep hb (by first | omega | (simp; omega) | (simp; done)) (by go_cell); have lc : w.heap.size < w4.heap.size := World.block_lt_of_cell? _ _ c0; replace KB := Lib.hid (KB.out.trans (hX.mono KB.out.size)); have SI4 := Lib.hid hsi; have SV4 := Lib.hid hsv; have K4 := Lib.hid (Below.refl w4.heap.size w4); clear hb hW hX hsi hsv) | (go_at_call 34; (with_reducible refine (RR9.out _ (Lib.hid (SlI.keep (KB.out.alloc KB.out.size (Obj.cells #[Value.int .i64 K', Value.int .i64 B', Value.int .i64 F', Value.int .i64 R', Value.int .i64 O', Value.slice p4 n3 kc4, Value.slice q4 m3 d4] 27)) RA.out)) (Lib.hid (SlV.below RB.out (KB.out.alloc KB.out.size (Obj.cells #[Value.int .i64 K', Value.int .i64 B', Value.int .i64 F', Value.int .i64 R', Value.int .i64 O', Value.slice p4 n3 kc4, Value.slice q4 m3 d4] 27))))).mono ?_); rintro e w5 ⟨p5, kc5, q5, d5, rfl, hsi, hsv, hb⟩; have hW : Below w4.heap.size w4 (w4.alloc (Obj.cells #[Value.int .i64 K', Value.int .i64 B', Value.int .i64 F', Value.int .i64 R', Value.int .i64 O', Value.slice p4 n3 kc4, Value.slice q4 m3 d4] 27)) := (Below.refl _ _).alloc (Nat.le_refl _) (Obj.cells #[Value.int .i64 K', Value.int .i64 B', Value.int .i64 F', Value.int .i64 R', Value.int .i64 O', Value.slice p4 n3 kc4, Value.slice q4 m3 d4] 27); have hX := hW.trans (hb.mono hW.size); have c0 : w5.cell? ⟨w.heap.size, 0, none⟩ = some (.int .i64 K) := Rg.keep hb (by first | omega | (simp; omega) | (simp; done)) (by go_cell); have c1 : w5.cell? ⟨w.heap.size, 1, none⟩ = some (.int .i64 B) := Rg.keep hb (by first | omega | (simp; omega) | (simp; done)) (by go_cell); have c2 : w5.cell? ⟨w.heap.size, 2, none⟩ = some (.int .i64 F) := Rg.keep hb (by first | omega | (simp; omega) | (simp; done)) (by go_cell); have c3 : w5.cell? ⟨w.heap.size, 3, none⟩ = some (.int .i64 R) := Rg.keep hb (by first | omega | (simp; omega) | (simp; done)) (by go_cell); have c4 : w5.cell? ⟨w.heap.size, 4, none⟩ = some (.int .i64 O) := Rg.keep hb (by first | omega | (simp; omega) | (simp; done)) (by go_cell); have c5 : w5.cell? ⟨w.heap.size, 5, none⟩ = some (.slice p zs.length c) := Rg.keep hb (by first | omega | (simp; omega) | (simp; done)) (by go_cell); have c6 : w5.cell? ⟨w.heap.size, 6, none⟩ = some (.slice q m d) := Rg.keep hb (by first | omega | (simp; omega) | (simp; done)) (by go_cell); have lc : w.heap.size < w5.heap.size := World.block_lt_of_cell? _ _ c0; have e0 : w5.cell? ⟨w4.heap.size, 0, none⟩ = some (.int .i64 K') := Rg.keep hb (by first | omega | (simp; omega) | (simp; done)) (by go_cell); have e1 : w5.cell? ⟨w4.heap.size, 1, none⟩ = some (.int .i64 B') := Rg.keep hb (by first | omega | (simp; omega) | (simp; done)) (by go_cell); have e2 : w5.cell? ⟨w4.heap.size, 2, none⟩ = some (.int .i64 F') := Rg.keep hb (by first | omega | (simp; omega) | (simp; done)) (by go_cell); have e3 : w5.cell? ⟨w4.heap.size, 3, none⟩ = some (.int .i64 R') := Rg.keep hb (by first | omega | (simp; omega) | (simp; done)) (by go_cell); have e4 : w5.cell? ⟨w4.heap.size, 4, none⟩ = some (.int .i64 O') := Rg.keep hb (by first | omega | (simp; omega) | (simp; done)) (by go_cell); have e5 : w5.cell? ⟨w4.heap.size, 5, none⟩ = some (.slice p4 n3 kc4) := Rg.keep hb (by first | omega | (simp; omega) | (simp; done)) (by go_cell); have e6 : w5.cell? ⟨w4.heap.size, 6, none⟩ = some (.slice q4 m3 d4) := Rg.keep hb (by first | omega | (simp; omega) | (simp; done)) (by go_cell); have le : w4.heap.size < w5.heap.size := World.block_lt_of_cell? _ _ e0; replace KB := Lib.hid (KB.out.trans (hX.mono KB.out.size)); replace K4 := Lib.hid (K4.out.trans (hX.mono K4.out.size)); have SI5 := Lib.hid hsi; have SV5 := Lib.hid hsv; have K5 := Lib.hid (Below.refl w5.heap.size w5); clear hb hW hX hsi hsv) | (go_at_call 22; (with_reducible refine (BTT.out p4 p5 kc4 kc5 q4 q5 d4 d5 _ (Lib.hid (SlI.keep (K4.out.alloc K4.out.size (Obj.cells #[Value.int .i64 K', Value.int .i64 B', Value.int .i64 F', Value.int .i64 R', Value.int .i64 O', Value.slice p5 n3 kc5, Value.slice q5 m3 d5] 27)) SI4.out)) (Lib.hid (SlV.below SV4.out (K4.out.alloc K4.out.size (Obj.cells #[Value.int .i64 K', Value.int .i64 B', Value.int .i64 F', Value.int .i64 R', Value.int .i64 O', Value.slice p5 n3 kc5, Value.slice q5 m3 d5] 27)))) (Lib.hid (SlI.keep (K5.out.alloc K5.out.size (Obj.cells #[Value.int .i64 K', Value.int .i64 B', Value.int .i64 F', Value.int .i64 R', Value.int .i64 O', Value.slice p5 n3 kc5, Value.slice q5 m3 d5] 27)) SI5.out)) (Lib.hid (SlV.below SV5.out (K5.out.alloc K5.out.size (Obj.cells #[Value.int .i64 K', Value.int .i64 B', Value.int .i64 F', Value.int .i64 R', Value.int .i64 O', Value.slice p5 n3 kc5, Value.slice q5 m3 d5] 27))))).mono ?_); rintro e w6 ⟨rfl, hb⟩; have hW : Below w5.heap.size w5 (w5.alloc (Obj.cells #[Value.int .i64 K', Value.int .i64 B', Value.int .i64 F', Value.int .i64 R', Value.int .i64 O', Value.slice p5 n3 kc5, Value.slice q5 m3 d5] 27)) := (Below.refl _ _).alloc (Nat.le_refl _) (Obj.cells #[Value.int .i64 K', Value.int .i64 B', Value.int .i64 F', Value.int .i64 R', Value.int .i64 O', Value.slice p5 n3 kc5, Value.slice q5 m3 d5] 27); have hX := hW.trans (hb.mono hW.size); have c0 : w6.cell? ⟨w.heap.size, 0, none⟩ = some (.int .i64 K) := Rg.keep hb (by first | omega | (simp; omega) | (simp; done)) (by go_cell); have c1 : w6.cell? ⟨w.heap.size, 1, none⟩ = some (.int .i64 B) := Rg.keep hb (by first | omega | (simp; omega) | (simp; done)) (by go_cell); have c2 : w6.cell? ⟨w.heap.size, 2, none⟩ = some (.int .i64 F) := Rg.keep hb (by first | omega | (simp; omega) | (simp; done)) (by go_cell); have c3 : w6.cell? ⟨w.heap.size, 3, none⟩ = some (.int .i64 R) := Rg.keep hb (by first | omega | (simp; omega) | (simp; done)) (by go_cell); have c4 : w6.cell? ⟨w.heap.size, 4, none⟩ = some (.int .i64 O) := Rg.keep hb (by first | omega | (simp; omega) | (simp; done)) (by go_cell); have c5 : w6.cell? ⟨w.heap.size, 5, none⟩ = some (.slice p zs.length c) := Rg.keep hb (by first | omega | (simp; omega) | (simp; done)) (by go_cell); have c6 : w6.cell? ⟨w.heap.size, 6, none⟩ = some (.slice q m d) := Rg.keep hb (by first | omega | (simp; omega) | (simp; done)) (by go_cell); have lc : w.heap.size < w6.heap.size := World.block_lt_of_cell? _ _ c0; replace KB := Lib.hid (KB.out.trans (hX.mono KB.out.size)); clear hb hW hX) | (go_at_call 15; (with_reducible refine (EX.out _ (HLA.out.below KB.out)).mono ?_); rintro e wX ⟨rfl, hb⟩; have KX := Lib.hid (KB.out.trans (hb.mono KB.out.size)); clear hb))
 go_ret
 exact ⟨rfl, KX.out⟩

set_option maxRecDepth 100000 in
set_option maxHeartbeats 2000000 in
theorem law_rd (K B F R O : Int) (p : Option Addr) (zs : List Int) (c : Nat) (q : Option Addr) (vs : List (Int × Int)) (d : Nat) (ax fold : Int) (w : World) (b0 : -9223372036854775808 <= B) (b1 : B <= 9223372036854775807) (hn : zs.length <= maxLen) (hm : vs.length <= maxLen) (RA : Hid (SlI w p zs)) (RB : Hid (SlV w q vs)) (hc : zs.length <= c) (hc2 : c <= 9223372036854775807) (hLA : Tx.LA w)  :
  Calls Tryz.prog 8 #[Tn K B F R O p zs.length c q vs.length d, .int .i64 ax, .int .i64 fold] w fun en w' => en = .returned (.bool true) /\ Below w.heap.size w w' := by
 cases hs : (decide ((vs.length : Int) <= 1000) && decide (zs.length <= 20))
 ·exact lr_a K B F R O p zs c q vs d ax fold w b0 b1 hn hm RA RB hc hc2 hLA hs
 ·by_cases ht : tE K B F R O zs vs = 0
  ·by_cases h1 : ax < 0
   ·refine lr_go K B F R O p zs c q vs d ax fold w b0 b1 hn hm RA RB hc hc2 hLA 0 0 0 0 0 [] [] 11 (Nat.zero_le _) (Nat.zero_le _) hs (fun u h1 h2 => (rd_b0 K B F R O p zs c q vs d ax fold u b0 b1 hn hm h1 h2 ht ‹ax < 0›).mono fun _ _ h => h.ts) (fun u h1 h2 => (rr_b0 K B F R O p zs c q vs d ax fold u b0 b1 hn hm h1 h2 ht ‹ax < 0›).mono fun _ _ h => h.ts)
   ·by_cases h2 : (zs.length : Int) <= ax
    ·refine lr_go K B F R O p zs c q vs d ax fold w b0 b1 hn hm RA RB hc hc2 hLA 0 0 0 0 0 [] [] 11 (Nat.zero_le _) (Nat.zero_le _) hs (fun u h1 h2 => (rd_b1 K B F R O p zs c q vs d ax fold u b0 b1 hn hm h1 h2 ht ‹¬ ax < 0› ‹(zs.length : Int) <= ax›).mono fun _ _ h => h.ts) (fun u h1 h2 => (rr_b1 K B F R O p zs c q vs d ax fold u b0 b1 hn hm h1 h2 ht ‹¬ ax < 0› ‹(zs.length : Int) <= ax›).mono fun _ _ h => h.ts)
    ·have h22 : ax < (zs.length : Int) := by omega
     by_cases h3 : fold < 1
     ·refine lr_go K B F R O p zs c q vs d ax fold w b0 b1 hn hm RA RB hc hc2 hLA 0 0 0 0 0 [] [] 1 (Nat.zero_le _) (Nat.zero_le _) hs (fun u h1 h2 => (rd_c0 K B F R O p zs c q vs d ax fold u b0 b1 hn hm h1 h2 ht ‹¬ ax < 0› h22 h3).mono fun _ _ h => h.ts) (fun u h1 h2 => (rr_c0 K B F R O p zs c q vs d ax fold u b0 b1 hn hm h1 h2 ht ‹¬ ax < 0› h22 h3).mono fun _ _ h => h.ts)
     ·by_cases h4 : 5 < fold
      ·refine lr_go K B F R O p zs c q vs d ax fold w b0 b1 hn hm RA RB hc hc2 hLA 0 0 0 0 0 [] [] 1 (Nat.zero_le _) (Nat.zero_le _) hs (fun u h1 h2 => (rd_c1 K B F R O p zs c q vs d ax fold u b0 b1 hn hm h1 h2 ht ‹¬ ax < 0› h22 h3 h4).mono fun _ _ h => h.ts) (fun u h1 h2 => (rr_c1 K B F R O p zs c q vs d ax fold u b0 b1 hn hm h1 h2 ht ‹¬ ax < 0› h22 h3 h4).mono fun _ _ h => h.ts)
      ·obtain ⟨a, rfl⟩ : ∃ a : Nat, ax = (a : Int) := ⟨ax.toNat, by omega⟩
       have ha : a < zs.length := by omega
       obtain ⟨-, hv, tl, -⟩ := tE_ok ht
       obtain ⟨bf, my, af, k1, k2, k3, k4, k5, k6, k7, k8, k9, ka, kb⟩ := parts hv ha tl
       have m4 : vs.length <= 4096 := by have := (valid_of hv).2.2.2.1; omega
       by_cases h5 : fold = 5
       ·have A1 := fun u h1 h2 => rd_s K B F R O p zs c q vs d a fold u b0 b1 hn hm h1 h2 ht ha hc hc2 h5 bf my af k1 k2 k3 k4 k5 k6 k7 k8 k9 ka kb
        have A2 := fun u h1 h2 => rrd_s K B F R O p zs c q vs d a fold u b0 b1 hn hm h1 h2 ht ha hc hc2 bf my af k1 k2 k3 k4 k5 k6 k7 k8 k9 ka kb h5
        obtain ⟨E, hE⟩ : ∃ E, fe (snE K B F R O vs my af) (bf * af) 0 = E := ⟨_, rfl⟩
        rw [hE] at A1 A2
        by_cases he : E = 0
        ·refine lr_go K B F R O p zs c q vs d a fold w b0 b1 hn hm RA RB hc hc2 hLA K B F R O zs (scA (fop K B F R O) vs my af (bf * my * af)) 0 hn (by rw [scA_length, <- k7]; exact hm) hs (fun u h1 h2 => (A1 u h1 h2).mono fun _ _ h => ?_) (fun u h1 h2 => (A2 u h1 h2).mono fun _ _ h => ?_)
         ·rcases h with ⟨h, _⟩ | ⟨_, h⟩
          ·exact absurd he h
          ·exact h.ts
         ·rcases h with ⟨h, _⟩ | ⟨_, h⟩
          ·exact absurd he h
          ·exact h
        ·refine lr_go K B F R O p zs c q vs d a fold w b0 b1 hn hm RA RB hc hc2 hLA 0 0 0 0 0 [] [] E (Nat.zero_le _) (Nat.zero_le _) hs (fun u h1 h2 => (A1 u h1 h2).mono fun _ _ h => ?_) (fun u h1 h2 => (A2 u h1 h2).mono fun _ _ h => ?_)
         ·rcases h with ⟨_, h⟩ | ⟨h, _⟩
          ·exact h.ts
          ·exact absurd h he
         ·rcases h with ⟨_, h⟩ | ⟨h, _⟩
          ·exact h
          ·exact absurd h he
       ·have A1 := fun u h1 h2 => rd_e K B F R O p zs c q vs d a fold u b0 b1 hn hm h1 h2 ht ha hc hc2 (by omega) (by omega) bf my af k1 k2 k3 k4 k5 k6 k7 k8 k9 ka kb
        have A2 := fun u h1 h2 => rrd_e K B F R O p zs c q vs d a fold u b0 b1 hn hm h1 h2 ht ha hc hc2 bf my af k1 k2 k3 k4 k5 k6 k7 k8 k9 ka kb (by omega) (by omega)
        obtain ⟨E, hE⟩ : ∃ E, fe (rdE fold K B F R O vs my af) (bf * af) 0 = E := ⟨_, rfl⟩
        rw [hE] at A1 A2
        by_cases he : E = 0
        ·refine lr_go K B F R O p zs c q vs d a fold w b0 b1 hn hm RA RB hc hc2 hLA K B F R O (rst zs a) (rdVs fold K B F R O vs my af (bf * af)) 0 (by rw [rst_length ha]; omega) (by rw [rdVs_length]; omega) hs (fun u h1 h2 => (A1 u h1 h2).mono fun _ _ h => ?_) (fun u h1 h2 => (A2 u h1 h2).mono fun _ _ h => ?_)
         ·rcases h with ⟨h, _⟩ | ⟨_, h⟩
          ·exact absurd he h
          ·exact h.ts
         ·rcases h with ⟨h, _⟩ | ⟨_, h⟩
          ·exact absurd he h
          ·exact h
        ·refine lr_go K B F R O p zs c q vs d a fold w b0 b1 hn hm RA RB hc hc2 hLA 0 0 0 0 0 [] [] E (Nat.zero_le _) (Nat.zero_le _) hs (fun u h1 h2 => (A1 u h1 h2).mono fun _ _ h => ?_) (fun u h1 h2 => (A2 u h1 h2).mono fun _ _ h => ?_)
         ·rcases h with ⟨_, h⟩ | ⟨h, _⟩
          ·exact h.ts
          ·exact absurd h he
         ·rcases h with ⟨_, h⟩ | ⟨h, _⟩
          ·exact h
          ·exact absurd h he
  ·refine lr_go K B F R O p zs c q vs d ax fold w b0 b1 hn hm RA RB hc hc2 hLA 0 0 0 0 0 [] [] (tE K B F R O zs vs) (Nat.zero_le _) (Nat.zero_le _) hs (fun u h1 h2 => (rd_a K B F R O p zs c q vs d ax fold u b0 b1 hn hm h1 h2 ht).mono fun _ _ h => h.ts) (fun u h1 h2 => (rr_a K B F R O p zs c q vs d ax fold u b0 b1 hn hm h1 h2 ht).mono fun _ _ h => h.ts)
end Go.Proofs.YteaaikmejacpaaaGreatDoor.Te
