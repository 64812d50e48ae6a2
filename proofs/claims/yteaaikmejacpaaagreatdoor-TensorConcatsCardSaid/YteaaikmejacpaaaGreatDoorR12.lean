/- Tensors: copies. -/
import Derived.Test.YteaaikmejacpaaaGreatDoorR0
import Derived.Test.YteaaikmejacpaaaGreatDoorR11
import Derived.Test.YteaaikmejacpaaaGreatDoorR9
import Derived.Deep.Cut

namespace Go.Proofs.YteaaikmejacpaaaGreatDoor.Te
open Go.ChangeShapes Go.WideShapes Go.ChangeAt Go.RowKit
open Fx Va Sh
set_option maxRecDepth 8000
set_option linter.unusedVariables false
set_option linter.unusedSimpArgs false

/-- A copy of a tensor, in memory of the call's own. -/
def TW (K B F R O : Int) (zs : List Int) (vs : List (Int × Int)) (w w' : World) (v : Value) : Prop := ∃ p c q d, v = Tn K B F R O p zs.length c q vs.length d /\ w'.ownsRow w.heap.size 3 1 (.slice p zs.length c) zs.length (zs.map (Value.int .i64)) /\ w'.ownsRow w.heap.size 29 2 (.slice q vs.length d) vs.length (flV vs) /\ Below w.heap.size w w'
set_option maxRecDepth 100000 in
set_option maxHeartbeats 8000000 in
theorem dtens (K B F R O : Int) (p : Option Addr) (zs : List Int) (c : Nat) (q : Option Addr) (vs : List (Int × Int)) (d : Nat) (w : World) (hn : zs.length <= 6) (hm : vs.length <= 4096) (h1 : 1 <= vs.length) (RA : Hid (SlI w p zs)) (RB : Hid (SlV w q vs)) :
  Calls Tryz.prog 45 #[Tn K B F R O p zs.length c q vs.length d] w fun e w' => ∃ v, e = .returned v /\ TW K B F R O zs vs w w' v := by
 obtain ⟨b, o, rfl, _⟩ := RB.out 0 h1
 have CD := Lib.hid fun w h => c48g p zs c w (by unfold maxLen; omega) (by omega) h
 have CV := Lib.hid fun w h => cloneV b o vs d w (by unfold maxLen; omega) (by omega) h
 obtain ⟨m, hmm⟩ : ∃ m, vs.length = m := ⟨_, rfl⟩
 have HM := Lib.hid hmm
 rw [hmm] at hm h1 CV ⊢
 have B0 := (((Below.refl _ _).alloc (Nat.le_refl _) _).alloc (by simp) _ : Below w.heap.size w ((w.alloc (Obj.cells #[Value.int .i64 K, Value.int .i64 B, Value.int .i64 F, Value.int .i64 R, Value.int .i64 O, Value.slice p zs.length c, Value.slice (some ⟨b, o, none⟩) m d] 27)).alloc (Obj.cells #[Value.int .i64 0, Value.int .i64 0, Value.int .i64 0, Value.int .i64 0, Value.int .i64 0, Value.slice none 0 0, Value.slice none 0 0] 27)))
 have RD := Lib.hid (SlI.keep B0 RA.out)
 have RV := Lib.hid (SlV.below RB.out B0)
 have c0 : ((w.alloc (Obj.cells #[Value.int .i64 K, Value.int .i64 B, Value.int .i64 F, Value.int .i64 R, Value.int .i64 O, Value.slice p zs.length c, Value.slice (some ⟨b, o, none⟩) m d] 27)).alloc (Obj.cells #[Value.int .i64 0, Value.int .i64 0, Value.int .i64 0, Value.int .i64 0, Value.int .i64 0, Value.slice none 0 0, Value.slice none 0 0] 27)).cell? ⟨w.heap.size, 0, none⟩ = some (.int .i64 K) := by go_cell
 have c1 : ((w.alloc (Obj.cells #[Value.int .i64 K, Value.int .i64 B, Value.int .i64 F, Value.int .i64 R, Value.int .i64 O, Value.slice p zs.length c, Value.slice (some ⟨b, o, none⟩) m d] 27)).alloc (Obj.cells #[Value.int .i64 0, Value.int .i64 0, Value.int .i64 0, Value.int .i64 0, Value.int .i64 0, Value.slice none 0 0, Value.slice none 0 0] 27)).cell? ⟨w.heap.size, 1, none⟩ = some (.int .i64 B) := by go_cell
 have c2 : ((w.alloc (Obj.cells #[Value.int .i64 K, Value.int .i64 B, Value.int .i64 F, Value.int .i64 R, Value.int .i64 O, Value.slice p zs.length c, Value.slice (some ⟨b, o, none⟩) m d] 27)).alloc (Obj.cells #[Value.int .i64 0, Value.int .i64 0, Value.int .i64 0, Value.int .i64 0, Value.int .i64 0, Value.slice none 0 0, Value.slice none 0 0] 27)).cell? ⟨w.heap.size, 2, none⟩ = some (.int .i64 F) := by go_cell
 have c3 : ((w.alloc (Obj.cells #[Value.int .i64 K, Value.int .i64 B, Value.int .i64 F, Value.int .i64 R, Value.int .i64 O, Value.slice p zs.length c, Value.slice (some ⟨b, o, none⟩) m d] 27)).alloc (Obj.cells #[Value.int .i64 0, Value.int .i64 0, Value.int .i64 0, Value.int .i64 0, Value.int .i64 0, Value.slice none 0 0, Value.slice none 0 0] 27)).cell? ⟨w.heap.size, 3, none⟩ = some (.int .i64 R) := by go_cell
 have c4 : ((w.alloc (Obj.cells #[Value.int .i64 K, Value.int .i64 B, Value.int .i64 F, Value.int .i64 R, Value.int .i64 O, Value.slice p zs.length c, Value.slice (some ⟨b, o, none⟩) m d] 27)).alloc (Obj.cells #[Value.int .i64 0, Value.int .i64 0, Value.int .i64 0, Value.int .i64 0, Value.int .i64 0, Value.slice none 0 0, Value.slice none 0 0] 27)).cell? ⟨w.heap.size, 4, none⟩ = some (.int .i64 O) := by go_cell
 have c5 : ((w.alloc (Obj.cells #[Value.int .i64 K, Value.int .i64 B, Value.int .i64 F, Value.int .i64 R, Value.int .i64 O, Value.slice p zs.length c, Value.slice (some ⟨b, o, none⟩) m d] 27)).alloc (Obj.cells #[Value.int .i64 0, Value.int .i64 0, Value.int .i64 0, Value.int .i64 0, Value.int .i64 0, Value.slice none 0 0, Value.slice none 0 0] 27)).cell? ⟨w.heap.size, 5, none⟩ = some (.slice p zs.length c) := by go_cell
 have c6 : ((w.alloc (Obj.cells #[Value.int .i64 K, Value.int .i64 B, Value.int .i64 F, Value.int .i64 R, Value.int .i64 O, Value.slice p zs.length c, Value.slice (some ⟨b, o, none⟩) m d] 27)).alloc (Obj.cells #[Value.int .i64 0, Value.int .i64 0, Value.int .i64 0, Value.int .i64 0, Value.int .i64 0, Value.slice none 0 0, Value.slice none 0 0] 27)).cell? ⟨w.heap.size, 6, none⟩ = some (.slice (some ⟨b, o, none⟩) m d) := by go_cell
 have z0 : ((w.alloc (Obj.cells #[Value.int .i64 K, Value.int .i64 B, Value.int .i64 F, Value.int .i64 R, Value.int .i64 O, Value.slice p zs.length c, Value.slice (some ⟨b, o, none⟩) m d] 27)).alloc (Obj.cells #[Value.int .i64 0, Value.int .i64 0, Value.int .i64 0, Value.int .i64 0, Value.int .i64 0, Value.slice none 0 0, Value.slice none 0 0] 27)).cell? ⟨w.heap.size + 1, 0, none⟩ = some (.int .i64 0) := by go_cell
 have f0 : ((w.alloc (Obj.cells #[Value.int .i64 K, Value.int .i64 B, Value.int .i64 F, Value.int .i64 R, Value.int .i64 O, Value.slice p zs.length c, Value.slice (some ⟨b, o, none⟩) m d] 27)).alloc (Obj.cells #[Value.int .i64 0, Value.int .i64 0, Value.int .i64 0, Value.int .i64 0, Value.int .i64 0, Value.slice none 0 0, Value.slice none 0 0] 27)).frozen? ⟨w.heap.size + 1, 0, none⟩ = false := by go_cell
 have z1 : ((w.alloc (Obj.cells #[Value.int .i64 K, Value.int .i64 B, Value.int .i64 F, Value.int .i64 R, Value.int .i64 O, Value.slice p zs.length c, Value.slice (some ⟨b, o, none⟩) m d] 27)).alloc (Obj.cells #[Value.int .i64 0, Value.int .i64 0, Value.int .i64 0, Value.int .i64 0, Value.int .i64 0, Value.slice none 0 0, Value.slice none 0 0] 27)).cell? ⟨w.heap.size + 1, 1, none⟩ = some (.int .i64 0) := by go_cell
 have f1 : ((w.alloc (Obj.cells #[Value.int .i64 K, Value.int .i64 B, Value.int .i64 F, Value.int .i64 R, Value.int .i64 O, Value.slice p zs.length c, Value.slice (some ⟨b, o, none⟩) m d] 27)).alloc (Obj.cells #[Value.int .i64 0, Value.int .i64 0, Value.int .i64 0, Value.int .i64 0, Value.int .i64 0, Value.slice none 0 0, Value.slice none 0 0] 27)).frozen? ⟨w.heap.size + 1, 1, none⟩ = false := by go_cell
 have z2 : ((w.alloc (Obj.cells #[Value.int .i64 K, Value.int .i64 B, Value.int .i64 F, Value.int .i64 R, Value.int .i64 O, Value.slice p zs.length c, Value.slice (some ⟨b, o, none⟩) m d] 27)).alloc (Obj.cells #[Value.int .i64 0, Value.int .i64 0, Value.int .i64 0, Value.int .i64 0, Value.int .i64 0, Value.slice none 0 0, Value.slice none 0 0] 27)).cell? ⟨w.heap.size + 1, 2, none⟩ = some (.int .i64 0) := by go_cell
 have f2 : ((w.alloc (Obj.cells #[Value.int .i64 K, Value.int .i64 B, Value.int .i64 F, Value.int .i64 R, Value.int .i64 O, Value.slice p zs.length c, Value.slice (some ⟨b, o, none⟩) m d] 27)).alloc (Obj.cells #[Value.int .i64 0, Value.int .i64 0, Value.int .i64 0, Value.int .i64 0, Value.int .i64 0, Value.slice none 0 0, Value.slice none 0 0] 27)).frozen? ⟨w.heap.size + 1, 2, none⟩ = false := by go_cell
 have z3 : ((w.alloc (Obj.cells #[Value.int .i64 K, Value.int .i64 B, Value.int .i64 F, Value.int .i64 R, Value.int .i64 O, Value.slice p zs.length c, Value.slice (some ⟨b, o, none⟩) m d] 27)).alloc (Obj.cells #[Value.int .i64 0, Value.int .i64 0, Value.int .i64 0, Value.int .i64 0, Value.int .i64 0, Value.slice none 0 0, Value.slice none 0 0] 27)).cell? ⟨w.heap.size + 1, 3, none⟩ = some (.int .i64 0) := by go_cell
 have f3 : ((w.alloc (Obj.cells #[Value.int .i64 K, Value.int .i64 B, Value.int .i64 F, Value.int .i64 R, Value.int .i64 O, Value.slice p zs.length c, Value.slice (some ⟨b, o, none⟩) m d] 27)).alloc (Obj.cells #[Value.int .i64 0, Value.int .i64 0, Value.int .i64 0, Value.int .i64 0, Value.int .i64 0, Value.slice none 0 0, Value.slice none 0 0] 27)).frozen? ⟨w.heap.size + 1, 3, none⟩ = false := by go_cell
 have z4 : ((w.alloc (Obj.cells #[Value.int .i64 K, Value.int .i64 B, Value.int .i64 F, Value.int .i64 R, Value.int .i64 O, Value.slice p zs.length c, Value.slice (some ⟨b, o, none⟩) m d] 27)).alloc (Obj.cells #[Value.int .i64 0, Value.int .i64 0, Value.int .i64 0, Value.int .i64 0, Value.int .i64 0, Value.slice none 0 0, Value.slice none 0 0] 27)).cell? ⟨w.heap.size + 1, 4, none⟩ = some (.int .i64 0) := by go_cell
 have f4 : ((w.alloc (Obj.cells #[Value.int .i64 K, Value.int .i64 B, Value.int .i64 F, Value.int .i64 R, Value.int .i64 O, Value.slice p zs.length c, Value.slice (some ⟨b, o, none⟩) m d] 27)).alloc (Obj.cells #[Value.int .i64 0, Value.int .i64 0, Value.int .i64 0, Value.int .i64 0, Value.int .i64 0, Value.slice none 0 0, Value.slice none 0 0] 27)).frozen? ⟨w.heap.size + 1, 4, none⟩ = false := by go_cell
 have z5 : ((w.alloc (Obj.cells #[Value.int .i64 K, Value.int .i64 B, Value.int .i64 F, Value.int .i64 R, Value.int .i64 O, Value.slice p zs.length c, Value.slice (some ⟨b, o, none⟩) m d] 27)).alloc (Obj.cells #[Value.int .i64 0, Value.int .i64 0, Value.int .i64 0, Value.int .i64 0, Value.int .i64 0, Value.slice none 0 0, Value.slice none 0 0] 27)).cell? ⟨w.heap.size + 1, 5, none⟩ = some (.slice none 0 0) := by go_cell
 have f5 : ((w.alloc (Obj.cells #[Value.int .i64 K, Value.int .i64 B, Value.int .i64 F, Value.int .i64 R, Value.int .i64 O, Value.slice p zs.length c, Value.slice (some ⟨b, o, none⟩) m d] 27)).alloc (Obj.cells #[Value.int .i64 0, Value.int .i64 0, Value.int .i64 0, Value.int .i64 0, Value.int .i64 0, Value.slice none 0 0, Value.slice none 0 0] 27)).frozen? ⟨w.heap.size + 1, 5, none⟩ = false := by go_cell
 have z6 : ((w.alloc (Obj.cells #[Value.int .i64 K, Value.int .i64 B, Value.int .i64 F, Value.int .i64 R, Value.int .i64 O, Value.slice p zs.length c, Value.slice (some ⟨b, o, none⟩) m d] 27)).alloc (Obj.cells #[Value.int .i64 0, Value.int .i64 0, Value.int .i64 0, Value.int .i64 0, Value.int .i64 0, Value.slice none 0 0, Value.slice none 0 0] 27)).cell? ⟨w.heap.size + 1, 6, none⟩ = some (.slice none 0 0) := by go_cell
 have f6 : ((w.alloc (Obj.cells #[Value.int .i64 K, Value.int .i64 B, Value.int .i64 F, Value.int .i64 R, Value.int .i64 O, Value.slice p zs.length c, Value.slice (some ⟨b, o, none⟩) m d] 27)).alloc (Obj.cells #[Value.int .i64 0, Value.int .i64 0, Value.int .i64 0, Value.int .i64 0, Value.int .i64 0, Value.slice none 0 0, Value.slice none 0 0] 27)).frozen? ⟨w.heap.size + 1, 6, none⟩ = false := by go_cell
 have lr : w.heap.size + 1 < ((w.alloc (Obj.cells #[Value.int .i64 K, Value.int .i64 B, Value.int .i64 F, Value.int .i64 R, Value.int .i64 O, Value.slice p zs.length c, Value.slice (some ⟨b, o, none⟩) m d] 27)).alloc (Obj.cells #[Value.int .i64 0, Value.int .i64 0, Value.int .i64 0, Value.int .i64 0, Value.int .i64 0, Value.slice none 0 0, Value.slice none 0 0] 27)).heap.size := by simp
 have HB0 := Lib.hid B0
 clear B0 RA RB hmm
 go_enter Tryz.func45, Tryz.ntmps45
 go_wp2_with fail
 generalize ((w.alloc (Obj.cells #[Value.int .i64 K, Value.int .i64 B, Value.int .i64 F, Value.int .i64 R, Value.int .i64 O, Value.slice p zs.length c, Value.slice (some ⟨b, o, none⟩) m d] 27)).alloc (Obj.cells #[Value.int .i64 0, Value.int .i64 0, Value.int .i64 0, Value.int .i64 0, Value.int .i64 0, Value.slice none 0 0, Value.slice none 0 0] 27)) = wb at *
 have HS : Hid (∀ u u' : World, (u.cell? ⟨w.heap.size, 0, none⟩ = some (.int .i64 K) /\ u.cell? ⟨w.heap.size, 1, none⟩ = some (.int .i64 B) /\ u.cell? ⟨w.heap.size, 2, none⟩ = some (.int .i64 F) /\ u.cell? ⟨w.heap.size, 3, none⟩ = some (.int .i64 R) /\ u.cell? ⟨w.heap.size, 4, none⟩ = some (.int .i64 O) /\ u.cell? ⟨w.heap.size, 5, none⟩ = some (.slice p zs.length c) /\ u.cell? ⟨w.heap.size, 6, none⟩ = some (.slice (some ⟨b, o, none⟩) m d) /\ Below wb.heap.size wb u) -> Below u.heap.size u u' -> (u'.cell? ⟨w.heap.size, 0, none⟩ = some (.int .i64 K) /\ u'.cell? ⟨w.heap.size, 1, none⟩ = some (.int .i64 B) /\ u'.cell? ⟨w.heap.size, 2, none⟩ = some (.int .i64 F) /\ u'.cell? ⟨w.heap.size, 3, none⟩ = some (.int .i64 R) /\ u'.cell? ⟨w.heap.size, 4, none⟩ = some (.int .i64 O) /\ u'.cell? ⟨w.heap.size, 5, none⟩ = some (.slice p zs.length c) /\ u'.cell? ⟨w.heap.size, 6, none⟩ = some (.slice (some ⟨b, o, none⟩) m d) /\ Below wb.heap.size wb u')) := Lib.hid (fun u u' h hb => ⟨Rg.keep hb (World.block_lt_of_cell? _ _ h.1) h.1, Rg.keep hb (World.block_lt_of_cell? _ _ h.2.1) h.2.1, Rg.keep hb (World.block_lt_of_cell? _ _ h.2.2.1) h.2.2.1, Rg.keep hb (World.block_lt_of_cell? _ _ h.2.2.2.1) h.2.2.2.1, Rg.keep hb (World.block_lt_of_cell? _ _ h.2.2.2.2.1) h.2.2.2.2.1, Rg.keep hb (World.block_lt_of_cell? _ _ h.2.2.2.2.2.1) h.2.2.2.2.2.1, Rg.keep hb (World.block_lt_of_cell? _ _ h.2.2.2.2.2.2.1) h.2.2.2.2.2.2.1, h.2.2.2.2.2.2.2.trans (hb.mono h.2.2.2.2.2.2.2.size)⟩)
 refine Rk.begin (S := fun wS => wS.cell? ⟨w.heap.size, 0, none⟩ = some (.int .i64 K) /\ wS.cell? ⟨w.heap.size, 1, none⟩ = some (.int .i64 B) /\ wS.cell? ⟨w.heap.size, 2, none⟩ = some (.int .i64 F) /\ wS.cell? ⟨w.heap.size, 3, none⟩ = some (.int .i64 R) /\ wS.cell? ⟨w.heap.size, 4, none⟩ = some (.int .i64 O) /\ wS.cell? ⟨w.heap.size, 5, none⟩ = some (.slice p zs.length c) /\ wS.cell? ⟨w.heap.size, 6, none⟩ = some (.slice (some ⟨b, o, none⟩) m d) /\ Below wb.heap.size wb wS) 9 (by kernel_rfl) ⟨c0, c1, c2, c3, c4, c5, c6, Below.drew (Below.refl _ _)⟩ (fun hHeld => ?_)
 refine SqR.p 0 ?_
 refine SqR.l [9] 1 ?_
 refine SqR.p 2 ?_
 refine SqR.l [9] 3 ?_
 refine SqR.p 5 ?_
 refine SqR.l [9] 6 ?_
 refine Rk.one (i := 4) (by kernel_rfl) rfl (fun KK hK => ?_)
 rw [if_pos (by kernel_rfl)]
 go_simp
 ((with_reducible refine (CD.out _ (Lib.hid (SlI.keep (hHeld.2.2.2.2.2.2.2) RD.out))).mono ?_); rintro e u1 ⟨v1, rfl, hb, O1⟩)
 obtain ⟨p1, ce, rfl⟩ := own_slice O1
 have hU1 := HS.out _ _ hHeld hb
 have hb1 := hb
 first | (refine hK.out _ _ (fun _ => hU1) (fun hHeld => ?_)) | (refine hK.out _ _ hU1 (fun hHeld => ?_)) | (go_wp2_with fail; refine hK.out _ _ hU1 (fun hHeld => ?_))
 clear hK KK
 refine Rk.one (i := 7) (by kernel_rfl) rfl (fun KK hK => ?_)
 rw [if_pos (by kernel_rfl)]
 go_simp
 ((with_reducible refine (CV.out _ (Lib.hid (SlV.below RV.out (hHeld.2.2.2.2.2.2.2))) ).mono ?_); rintro e u2 ⟨v2, rfl, hb, O2⟩)
 obtain ⟨q1, d1, rfl⟩ := own_slice O2
 have hU2 := HS.out _ _ hHeld hb
 have hb2 := hb
 first | (refine hK.out _ _ (fun _ => hU2) (fun hHeld => ?_)) | (refine hK.out _ _ hU2 (fun hHeld => ?_)) | (go_wp2_with fail; refine hK.out _ _ hU2 (fun hHeld => ?_))
 clear hK KK
 refine SqR.p 8 ?_
 refine Rk.tail [9] [_] (by kernel_rfl) (by kernel_rfl) rfl (by decide) ?_

 have KU := hHeld.2.2.2.2.2.2.2
 have hs1 := hb1.size
 have hs2 := hb2.size
 replace O1 := own_belowE O1 hb2
 have HO1 := Lib.hid (own_base O1 (show w.heap.size + 1 + 1 <= _ by have := HB0.out.size; simp at *; omega))
 have HO2 := Lib.hid (own_base O2 (show w.heap.size + 1 + 1 <= _ by have := HB0.out.size; simp at *; omega))
 replace z0 := Rg.keep KU lr z0
 replace f0 := Rg.keepF KU lr f0
 replace z1 := Rg.keep KU lr z1
 replace f1 := Rg.keepF KU lr f1
 replace z2 := Rg.keep KU lr z2
 replace f2 := Rg.keepF KU lr f2
 replace z3 := Rg.keep KU lr z3
 replace f3 := Rg.keepF KU lr f3
 replace z4 := Rg.keep KU lr z4
 replace f4 := Rg.keepF KU lr f4
 replace z5 := Rg.keep KU lr z5
 replace f5 := Rg.keepF KU lr f5
 replace z6 := Rg.keep KU lr z6
 replace f6 := Rg.keepF KU lr f6
 have lr2 : w.heap.size + 1 < u2.heap.size := World.block_lt_of_cell? _ _ z0
 have KB := Lib.hid (HB0.out.trans (KU.mono HB0.out.size))
 clear hHeld HS O1 O2 KU hb1 hb2 hU1 hU2 hb c0 c1 c2 c3 c4 c5 c6
 go_wp2_with fail
 refine bodyPost_ret (v := Tn K B F R O p1 zs.length ce q1 m d1) (by simp [results, Tryz.results45, go_sem, z0, f0, z1, f1, z2, f2, z3, f3, z4, f4, z5, f5, z6, f6, lr2, HM.out]) rfl ⟨_, rfl, p1, ce, q1, d1, by rw [HM.out], ?_, ?_, ?_⟩
 ·exact own_base (own_set (own_set (own_set (own_set (own_set (own_set (own_set HO1.out (by dsimp only; omega)) (by dsimp only; omega)) (by dsimp only; omega)) (by dsimp only; omega)) (by dsimp only; omega)) (by dsimp only; omega)) (by dsimp only; omega)) (by omega)
 ·exact own_base (own_set (own_set (own_set (own_set (own_set (own_set (own_set HO2.out (by dsimp only; omega)) (by dsimp only; omega)) (by dsimp only; omega)) (by dsimp only; omega)) (by dsimp only; omega)) (by dsimp only; omega)) (by dsimp only; omega)) (by omega)
 ·exact (((((((KB.out.setCell (p := ⟨w.heap.size + 1, 0, none⟩) (by dsimp only; omega) _).setCell (p := ⟨w.heap.size + 1, 1, none⟩) (by dsimp only; omega) _).setCell (p := ⟨w.heap.size + 1, 2, none⟩) (by dsimp only; omega) _).setCell (p := ⟨w.heap.size + 1, 3, none⟩) (by dsimp only; omega) _).setCell (p := ⟨w.heap.size + 1, 4, none⟩) (by dsimp only; omega) _).setCell (p := ⟨w.heap.size + 1, 5, none⟩) (by dsimp only; omega) _).setCell (p := ⟨w.heap.size + 1, 6, none⟩) (by dsimp only; omega) _)
end Go.Proofs.YteaaikmejacpaaaGreatDoor.Te


namespace Go.Proofs.YteaaikmejacpaaaGreatDoor.Te
open Go.ChangeShapes Go.WideShapes Go.ChangeAt Go.RowKit
open Fx Va Sh
set_option maxRecDepth 8000
set_option linter.unusedVariables false
set_option linter.unusedSimpArgs false

/-- Where an element lies, or the error. -/
def loc (K B F R O : Int) (zs : List Int) (vs : List (Int × Int)) (xs : List Int) : Int × Int := if tE K B F R O zs vs ≠ 0 then (0, tE K B F R O zs vs) else if xs.length ≠ zs.length then (0, 11) else match oA zs xs with
 | none => (0, 12)
 | some n => (n, 0)
theorem tE_ok {K B F R O : Int} {zs : List Int} {vs : List (Int × Int)} (h : tE K B F R O zs vs = 0) : ty K B F R O = true /\ vE zs = 0 /\ (vs.length : Int) = sp zs /\ vs.any (badV K B F R O) = false := by
 unfold tE at h
 by_cases h1 : ty K B F R O = true
 ·rw [if_pos h1] at h
  by_cases h2 : (vE zs != 0) = true
  ·rw [if_pos h2] at h
   simp at h2
   exact absurd h h2
  ·rw [if_neg h2] at h
   by_cases h3 : ((vs.length : Int) != sp zs || vs.any (badV K B F R O)) = true
   ·rw [if_pos h3] at h; cases h
   ·rw [Bool.or_eq_true] at h3
    refine ⟨h1, by simpa using h2, ?_, ?_⟩
    ·exact Classical.byContradiction fun h4 => h3 (.inl (by simpa using h4))
    ·cases h5 : vs.any (badV K B F R O)
     ·rfl
     ·exact absurd (.inr h5) h3
 ·rw [if_neg h1] at h; cases h

set_option maxRecDepth 100000 in
set_option maxHeartbeats 8000000 in
theorem loc_a (K B F R O : Int) (p : Option Addr) (zs : List Int) (c : Nat) (q : Option Addr) (vs : List (Int × Int)) (d : Nat) (w : World) (b0 : -9223372036854775808 <= B) (b1 : B <= 9223372036854775807) (hn : zs.length <= maxLen) (hm : vs.length <= maxLen) (RA : Hid (SlI w p zs)) (RB : Hid (SlV w q vs)) (x : Option Addr) (xs : List Int) (e : Nat) (hx : xs.length <= maxLen) (RX : Hid (SlI w x xs)) (ht : tE K B F R O zs vs ≠ 0) :
  Calls Tryz.prog 58 #[Tn K B F R O p zs.length c q vs.length d, .slice x xs.length e] w fun e w' => e = .returned (.tuple #[.int .i64 0, .int .i64 (tE K B F R O zs vs)]) /\ Below w.heap.size w w' := by
 have TV0 := fun w h1 h2 => tval K B F R O p zs c q vs d w b0 b1 hn hm h1 h2
 obtain ⟨E, hE⟩ : ∃ E, tE K B F R O zs vs = E := ⟨_, rfl⟩
 rw [hE] at TV0 ht ⊢
 have g1 : (E == 0) = false := by simpa using ht
 have g2 : (E != 0) = true := by simpa using ht
 obtain ⟨m, hmm⟩ : ∃ m, vs.length = m := ⟨_, rfl⟩
 rw [hmm] at TV0 ⊢
 have TV := Lib.hid TV0
 have B0 : Hid (Below w.heap.size w (w.alloc (Obj.cells #[Value.int .i64 K, Value.int .i64 B, Value.int .i64 F, Value.int .i64 R, Value.int .i64 O, Value.slice p zs.length c, Value.slice q m d] 27))) := Lib.hid ((Below.refl _ _).alloc (Nat.le_refl _) _)
 clear TV0 hmm hm
 clear hE ht
 unfold Tn at *
 go_enter Tryz.func58, Tryz.ntmps58
 go_wp2_with (go_at_call 20; (with_reducible refine (TV.out _ (Lib.hid (SlI.keep B0.out RA.out)) (Lib.hid (SlV.below RB.out B0.out))).mono ?_); rintro e w1 ⟨rfl, hb⟩; have KB := Lib.hid (B0.out.trans (hb.mono B0.out.size)); have c0 : w1.cell? ⟨w.heap.size, 0, none⟩ = some (.int .i64 K) := Rg.keep hb (by simp) (by go_cell); have c1 : w1.cell? ⟨w.heap.size, 1, none⟩ = some (.int .i64 B) := Rg.keep hb (by simp) (by go_cell); have c2 : w1.cell? ⟨w.heap.size, 2, none⟩ = some (.int .i64 F) := Rg.keep hb (by simp) (by go_cell); have c3 : w1.cell? ⟨w.heap.size, 3, none⟩ = some (.int .i64 R) := Rg.keep hb (by simp) (by go_cell); have c4 : w1.cell? ⟨w.heap.size, 4, none⟩ = some (.int .i64 O) := Rg.keep hb (by simp) (by go_cell); have c5 : w1.cell? ⟨w.heap.size, 5, none⟩ = some (.slice p zs.length c) := Rg.keep hb (by simp) (by go_cell); have c6 : w1.cell? ⟨w.heap.size, 6, none⟩ = some (.slice q m d) := Rg.keep hb (by simp) (by go_cell); clear hb)
 refine bodyPost_ret (v := .tuple #[.int .i64 0, .int .i64 E]) (by simp [results, Tryz.results58, go_sem]) rfl ⟨rfl, KB.out⟩

set_option maxRecDepth 100000 in
set_option maxHeartbeats 8000000 in
theorem loc_b (K B F R O : Int) (p : Option Addr) (zs : List Int) (c : Nat) (q : Option Addr) (vs : List (Int × Int)) (d : Nat) (w : World) (b0 : -9223372036854775808 <= B) (b1 : B <= 9223372036854775807) (hn : zs.length <= maxLen) (hm : vs.length <= maxLen) (RA : Hid (SlI w p zs)) (RB : Hid (SlV w q vs)) (x : Option Addr) (xs : List Int) (e : Nat) (hx : xs.length <= maxLen) (RX : Hid (SlI w x xs)) (ht : tE K B F R O zs vs = 0) (hl : xs.length ≠ zs.length) :
  Calls Tryz.prog 58 #[Tn K B F R O p zs.length c q vs.length d, .slice x xs.length e] w fun e w' => e = .returned (.tuple #[.int .i64 0, .int .i64 11]) /\ Below w.heap.size w w' := by
 have TV0 := fun w h1 h2 => tval K B F R O p zs c q vs d w b0 b1 hn hm h1 h2
 rw [ht] at TV0
 have g1 : ((xs.length : Int) == zs.length) = false := by rw [beq_eq_false_iff_ne]; omega
 have g2 : ((xs.length : Int) != zs.length) = true := by simp; omega
 obtain ⟨m, hmm⟩ : ∃ m, vs.length = m := ⟨_, rfl⟩
 rw [hmm] at TV0 ⊢
 have TV := Lib.hid TV0
 have B0 : Hid (Below w.heap.size w (w.alloc (Obj.cells #[Value.int .i64 K, Value.int .i64 B, Value.int .i64 F, Value.int .i64 R, Value.int .i64 O, Value.slice p zs.length c, Value.slice q m d] 27))) := Lib.hid ((Below.refl _ _).alloc (Nat.le_refl _) _)
 clear TV0 hmm hm
 clear ht hl
 unfold Tn at *
 go_enter Tryz.func58, Tryz.ntmps58
 go_wp2_with (go_at_call 20; (with_reducible refine (TV.out _ (Lib.hid (SlI.keep B0.out RA.out)) (Lib.hid (SlV.below RB.out B0.out))).mono ?_); rintro e w1 ⟨rfl, hb⟩; have KB := Lib.hid (B0.out.trans (hb.mono B0.out.size)); have c0 : w1.cell? ⟨w.heap.size, 0, none⟩ = some (.int .i64 K) := Rg.keep hb (by simp) (by go_cell); have c1 : w1.cell? ⟨w.heap.size, 1, none⟩ = some (.int .i64 B) := Rg.keep hb (by simp) (by go_cell); have c2 : w1.cell? ⟨w.heap.size, 2, none⟩ = some (.int .i64 F) := Rg.keep hb (by simp) (by go_cell); have c3 : w1.cell? ⟨w.heap.size, 3, none⟩ = some (.int .i64 R) := Rg.keep hb (by simp) (by go_cell); have c4 : w1.cell? ⟨w.heap.size, 4, none⟩ = some (.int .i64 O) := Rg.keep hb (by simp) (by go_cell); have c5 : w1.cell? ⟨w.heap.size, 5, none⟩ = some (.slice p zs.length c) := Rg.keep hb (by simp) (by go_cell); have c6 : w1.cell? ⟨w.heap.size, 6, none⟩ = some (.slice q m d) := Rg.keep hb (by simp) (by go_cell); clear hb)
 refine bodyPost_ret (v := .tuple #[.int .i64 0, .int .i64 11]) (by simp [results, Tryz.results58, go_sem]) rfl ⟨rfl, KB.out⟩

set_option maxRecDepth 100000 in
set_option maxHeartbeats 8000000 in
theorem loc_c (K B F R O : Int) (p : Option Addr) (zs : List Int) (c : Nat) (q : Option Addr) (vs : List (Int × Int)) (d : Nat) (w : World) (b0 : -9223372036854775808 <= B) (b1 : B <= 9223372036854775807) (hn : zs.length <= maxLen) (hm : vs.length <= maxLen) (RA : Hid (SlI w p zs)) (RB : Hid (SlV w q vs)) (x : Option Addr) (xs : List Int) (e : Nat) (hx : xs.length <= maxLen) (RX : Hid (SlI w x xs)) (ht : tE K B F R O zs vs = 0) (hl : xs.length = zs.length) (ho : oA zs xs = none) :
  Calls Tryz.prog 58 #[Tn K B F R O p zs.length c q vs.length d, .slice x xs.length e] w fun e w' => e = .returned (.tuple #[.int .i64 0, .int .i64 12]) /\ Below w.heap.size w w' := by
 have TV0 := fun w h1 h2 => tval K B F R O p zs c q vs d w b0 b1 hn hm h1 h2
 rw [ht] at TV0
 have OF0 := fun w h1 h2 => c21 p x zs xs c e w hn h1 h2
 rw [ho] at OF0
 unfold oE at OF0
 dsimp only [Option.getD, Option.isSome] at OF0
 have HLL := Lib.hid hl
 obtain ⟨k, hk⟩ : ∃ k, zs.length = k := ⟨_, rfl⟩
 have HKK := Lib.hid hk
 rw [hk] at hl
 rw [hk, hl] at OF0
 rw [hk] at TV0
 rw [hk, hl]
 have OF := Lib.hid OF0
 obtain ⟨m, hmm⟩ : ∃ m, vs.length = m := ⟨_, rfl⟩
 rw [hmm] at TV0 ⊢
 have TV := Lib.hid TV0
 have B0 : Hid (Below w.heap.size w (w.alloc (Obj.cells #[Value.int .i64 K, Value.int .i64 B, Value.int .i64 F, Value.int .i64 R, Value.int .i64 O, Value.slice p k c, Value.slice q m d] 27))) := Lib.hid ((Below.refl _ _).alloc (Nat.le_refl _) _)
 clear TV0 hmm hm
 clear ht ho OF0 hk hl
 unfold Tn at *
 go_enter Tryz.func58, Tryz.ntmps58
 go_wp2_with (first | (go_at_call 20; (with_reducible refine (TV.out _ (Lib.hid (SlI.keep B0.out RA.out)) (Lib.hid (SlV.below RB.out B0.out))).mono ?_); rintro e w1 ⟨rfl, hb⟩; have KB := Lib.hid (B0.out.trans (hb.mono B0.out.size)); have c0 : w1.cell? ⟨w.heap.size, 0, none⟩ = some (.int .i64 K) := Rg.keep hb (by simp) (by go_cell); have c1 : w1.cell? ⟨w.heap.size, 1, none⟩ = some (.int .i64 B) := Rg.keep hb (by simp) (by go_cell); have c2 : w1.cell? ⟨w.heap.size, 2, none⟩ = some (.int .i64 F) := Rg.keep hb (by simp) (by go_cell); have c3 : w1.cell? ⟨w.heap.size, 3, none⟩ = some (.int .i64 R) := Rg.keep hb (by simp) (by go_cell); have c4 : w1.cell? ⟨w.heap.size, 4, none⟩ = some (.int .i64 O) := Rg.keep hb (by simp) (by go_cell); have c5 : w1.cell? ⟨w.heap.size, 5, none⟩ = some (.slice p k c) := Rg.keep hb (by simp) (by go_cell); have c6 : w1.cell? ⟨w.heap.size, 6, none⟩ = some (.slice q m d) := Rg.keep hb (by simp) (by go_cell); clear hb) | (go_at_call 90; (with_reducible refine (OF.out _ (Lib.hid (SlI.keep KB.out RA.out)) (Lib.hid (SlI.keep KB.out RX.out))).mono ?_); rintro e w9 ⟨rfl, rfl⟩))
 refine bodyPost_ret (v := .tuple #[.int .i64 0, .int .i64 12]) (by simp [results, Tryz.results58, go_sem]) rfl ⟨rfl, KB.out⟩

set_option maxRecDepth 100000 in
set_option maxHeartbeats 8000000 in
theorem loc_d (K B F R O : Int) (p : Option Addr) (zs : List Int) (c : Nat) (q : Option Addr) (vs : List (Int × Int)) (d : Nat) (w : World) (b0 : -9223372036854775808 <= B) (b1 : B <= 9223372036854775807) (hn : zs.length <= maxLen) (hm : vs.length <= maxLen) (RA : Hid (SlI w p zs)) (RB : Hid (SlV w q vs)) (x : Option Addr) (xs : List Int) (e : Nat) (hx : xs.length <= maxLen) (RX : Hid (SlI w x xs)) (ht : tE K B F R O zs vs = 0) (hl : xs.length = zs.length) (n : Int) (ho : oA zs xs = some n) :
  Calls Tryz.prog 58 #[Tn K B F R O p zs.length c q vs.length d, .slice x xs.length e] w fun e w' => e = .returned (.tuple #[.int .i64 n, .int .i64 0]) /\ Below w.heap.size w w' := by
 have TV0 := fun w h1 h2 => tval K B F R O p zs c q vs d w b0 b1 hn hm h1 h2
 rw [ht] at TV0
 have OF0 := fun w h1 h2 => c21 p x zs xs c e w hn h1 h2
 rw [ho] at OF0
 unfold oE at OF0
 dsimp only [Option.getD, Option.isSome] at OF0
 have HLL := Lib.hid hl
 obtain ⟨k, hk⟩ : ∃ k, zs.length = k := ⟨_, rfl⟩
 have HKK := Lib.hid hk
 rw [hk] at hl
 rw [hk, hl] at OF0
 rw [hk] at TV0
 rw [hk, hl]
 have OF := Lib.hid OF0
 obtain ⟨m, hmm⟩ : ∃ m, vs.length = m := ⟨_, rfl⟩
 rw [hmm] at TV0 ⊢
 have TV := Lib.hid TV0
 have B0 : Hid (Below w.heap.size w (w.alloc (Obj.cells #[Value.int .i64 K, Value.int .i64 B, Value.int .i64 F, Value.int .i64 R, Value.int .i64 O, Value.slice p k c, Value.slice q m d] 27))) := Lib.hid ((Below.refl _ _).alloc (Nat.le_refl _) _)
 clear TV0 hmm hm
 clear ht ho OF0 hk hl
 unfold Tn at *
 go_enter Tryz.func58, Tryz.ntmps58
 go_wp2_with (first | (go_at_call 20; (with_reducible refine (TV.out _ (Lib.hid (SlI.keep B0.out RA.out)) (Lib.hid (SlV.below RB.out B0.out))).mono ?_); rintro e w1 ⟨rfl, hb⟩; have KB := Lib.hid (B0.out.trans (hb.mono B0.out.size)); have c0 : w1.cell? ⟨w.heap.size, 0, none⟩ = some (.int .i64 K) := Rg.keep hb (by simp) (by go_cell); have c1 : w1.cell? ⟨w.heap.size, 1, none⟩ = some (.int .i64 B) := Rg.keep hb (by simp) (by go_cell); have c2 : w1.cell? ⟨w.heap.size, 2, none⟩ = some (.int .i64 F) := Rg.keep hb (by simp) (by go_cell); have c3 : w1.cell? ⟨w.heap.size, 3, none⟩ = some (.int .i64 R) := Rg.keep hb (by simp) (by go_cell); have c4 : w1.cell? ⟨w.heap.size, 4, none⟩ = some (.int .i64 O) := Rg.keep hb (by simp) (by go_cell); have c5 : w1.cell? ⟨w.heap.size, 5, none⟩ = some (.slice p k c) := Rg.keep hb (by simp) (by go_cell); have c6 : w1.cell? ⟨w.heap.size, 6, none⟩ = some (.slice q m d) := Rg.keep hb (by simp) (by go_cell); clear hb) | (go_at_call 90; (with_reducible refine (OF.out _ (Lib.hid (SlI.keep KB.out RA.out)) (Lib.hid (SlI.keep KB.out RX.out))).mono ?_); rintro e w9 ⟨rfl, rfl⟩))
 refine bodyPost_ret (v := .tuple #[.int .i64 n, .int .i64 0]) (by simp [results, Tryz.results58, go_sem]) rfl ⟨rfl, KB.out⟩

theorem tloc (K B F R O : Int) (p : Option Addr) (zs : List Int) (c : Nat) (q : Option Addr) (vs : List (Int × Int)) (d : Nat) (w : World) (b0 : -9223372036854775808 <= B) (b1 : B <= 9223372036854775807) (hn : zs.length <= maxLen) (hm : vs.length <= maxLen) (RA : Hid (SlI w p zs)) (RB : Hid (SlV w q vs)) (x : Option Addr) (xs : List Int) (e : Nat) (hx : xs.length <= maxLen) (RX : Hid (SlI w x xs)) :
  Calls Tryz.prog 58 #[Tn K B F R O p zs.length c q vs.length d, .slice x xs.length e] w fun e w' => e = .returned (.tuple #[.int .i64 (loc K B F R O zs vs xs).1, .int .i64 (loc K B F R O zs vs xs).2]) /\ Below w.heap.size w w' := by
 unfold loc
 by_cases ht : tE K B F R O zs vs = 0
 ·rw [if_neg (by simpa using ht)]
  by_cases hl : xs.length = zs.length
  ·rw [if_neg (by simpa using hl)]
   cases ho : oA zs xs with
   | none => exact loc_c K B F R O p zs c q vs d w b0 b1 hn hm RA RB x xs e hx RX ht hl ho
   | some n => exact loc_d K B F R O p zs c q vs d w b0 b1 hn hm RA RB x xs e hx RX ht hl n ho
  ·rw [if_pos hl]
   exact loc_b K B F R O p zs c q vs d w b0 b1 hn hm RA RB x xs e hx RX ht hl
 ·rw [if_pos ht]
  exact loc_a K B F R O p zs c q vs d w b0 b1 hn hm RA RB x xs e hx RX ht
end Go.Proofs.YteaaikmejacpaaaGreatDoor.Te


namespace Go.Proofs.YteaaikmejacpaaaGreatDoor.Te
open Go.ChangeShapes Go.WideShapes Go.ChangeAt Go.RowKit
open Fx Va Sh
set_option maxRecDepth 8000
set_option linter.unusedVariables false
set_option linter.unusedSimpArgs false

theorem of_bd : ∀ (zs xs : List Int) (S n : Int), zs.any low = false -> xs.length = zs.length -> of S zs xs = some n -> 0 <= S -> S * sp zs <= n /\ n < (S + 1) * sp zs /\ 1 <= sp zs
 | [], xs, S, n, _, hl, h, _ => by
  have e : of S [] xs = some S := by cases xs <;> rfl
  rw [e] at h
  cases h
  show S * 1 <= S /\ S < (S + 1) * 1 /\ (1 : Int) <= 1
  omega
 | z :: zs, [], S, n, _, hl, _, _ => absurd hl (by simp)
 | z :: zs, x :: xs, S, n, hlow, hl, h, hS => by
  rw [List.any_cons, Bool.or_eq_false_iff] at hlow
  by_cases c : 0 <= x /\ x < z
  ·rw [of_go c] at h
   have hz : 0 <= S * z := Int.mul_nonneg hS (by omega)
   obtain ⟨h1, h2, h3⟩ := of_bd zs xs (S * z + x) n hlow.2 (by simpa using hl) h (by omega)
   have e : sp (z :: zs) = z * sp zs := by simp [sp, Int.mul_comm]
   rw [e]
   have a1 : S * (z * sp zs) = S * z * sp zs := (Int.mul_assoc _ _ _).symm
   have a2 : (S + 1) * (z * sp zs) = (S * z + z) * sp zs := by rw [<- Int.mul_assoc, Int.add_mul S 1 z, Int.one_mul]
   have b1 : S * z * sp zs <= (S * z + x) * sp zs := Int.mul_le_mul_of_nonneg_right (by omega) (by omega)
   have b2 : (S * z + x + 1) * sp zs <= (S * z + z) * sp zs := Int.mul_le_mul_of_nonneg_right (by omega) (by omega)
   have b3 : 1 * 1 <= z * sp zs := Int.mul_le_mul (by omega) h3 (by decide) (by omega)
   omega
  ·rw [of_none c] at h; cases h
/-- An element that is found lies among the elements. -/
theorem loc_bd {K B F R O : Int} {zs : List Int} {vs : List (Int × Int)} {xs : List Int} (h : (loc K B F R O zs vs xs).2 = 0) : tE K B F R O zs vs = 0 /\ 0 <= (loc K B F R O zs vs xs).1 /\ (loc K B F R O zs vs xs).1 < vs.length := by
 unfold loc at h ⊢
 by_cases ht : tE K B F R O zs vs = 0
 ·rw [if_neg (by simpa using ht)] at h ⊢
  by_cases hl : xs.length = zs.length
  ·rw [if_neg (by simpa using hl)] at h ⊢
   cases ho : oA zs xs with
   | none => rw [ho] at h; cases h
   | some n =>
    obtain ⟨_, h2, h3, _⟩ := tE_ok ht
    obtain ⟨_, hlow, _⟩ := valid_of h2
    rw [oA_ok h2 hl] at ho
    have := of_bd zs xs 0 n hlow hl ho (Int.le_refl _)
    dsimp only
    omega
  ·rw [if_pos hl] at h; cases h
 ·rw [if_pos ht] at h; exact absurd h ht
/-- The element at an index, or the error. -/
def atR (K B F R O : Int) (zs : List Int) (vs : List (Int × Int)) (xs : List Int) : Int × Int × Int := if (loc K B F R O zs vs xs).2 ≠ 0 then (0, 0, (loc K B F R O zs vs xs).2) else ((vs.getD (loc K B F R O zs vs xs).1.toNat (0, 0)).1, (vs.getD (loc K B F R O zs vs xs).1.toNat (0, 0)).2, 0)

set_option maxRecDepth 100000 in
set_option maxHeartbeats 8000000 in
theorem at_a (K B F R O : Int) (p : Option Addr) (zs : List Int) (c : Nat) (q : Option Addr) (vs : List (Int × Int)) (d : Nat) (w : World) (b0 : -9223372036854775808 <= B) (b1 : B <= 9223372036854775807) (hn : zs.length <= maxLen) (hm : vs.length <= maxLen) (RA : Hid (SlI w p zs)) (RB : Hid (SlV w q vs)) (x : Option Addr) (xs : List Int) (e : Nat) (hx : xs.length <= maxLen) (RX : Hid (SlI w x xs)) (ht : (loc K B F R O zs vs xs).2 ≠ 0) :
  Calls Tryz.prog 24 #[Tn K B F R O p zs.length c q vs.length d, .slice x xs.length e] w fun e w' => e = .returned (.tuple #[.agg #[.int .i64 0, .int .i64 0], .int .i64 (loc K B F R O zs vs xs).2]) /\ Below w.heap.size w w' := by
 have LO0 := fun w h1 h2 h3 => tloc K B F R O p zs c q vs d w b0 b1 hn hm h1 h2 x xs e hx h3
 obtain ⟨⟨i, E⟩, hE⟩ : ∃ r, loc K B F R O zs vs xs = r := ⟨_, rfl⟩
 rw [hE] at LO0 ht ⊢
 dsimp only at LO0 ht ⊢
 have g1 : (E == 0) = false := by simpa using ht
 have g2 : (E != 0) = true := by simpa using ht
 obtain ⟨m, hmm⟩ : ∃ m, vs.length = m := ⟨_, rfl⟩
 have HM := Lib.hid hmm
 rw [hmm] at LO0 ⊢
 have LO := Lib.hid LO0
 have B0 : Hid (Below w.heap.size w ((w.alloc (Obj.cells #[Value.int .i64 K, Value.int .i64 B, Value.int .i64 F, Value.int .i64 R, Value.int .i64 O, Value.slice p zs.length c, Value.slice q m d] 27)).alloc (Obj.cells #[Value.int .i64 0, Value.int .i64 0] 29))) := Lib.hid (((Below.refl _ _).alloc (Nat.le_refl _) _).alloc (by simp) _)
 clear LO0
 clear hE ht hmm hm
 go_enter Tryz.func24, Tryz.ntmps24
 go_wp2_with (go_at_call 58; (with_reducible refine (LO.out _ (Lib.hid (SlI.keep B0.out RA.out)) (Lib.hid (SlV.below RB.out B0.out)) (Lib.hid (SlI.keep B0.out RX.out))).mono ?_); rintro e w1 ⟨rfl, hb⟩; have KB := Lib.hid (B0.out.trans (hb.mono B0.out.size)); have c0 : w1.cell? ⟨w.heap.size, 0, none⟩ = some (.int .i64 K) := Rg.keep hb (by simp; omega) (by go_cell); have c1 : w1.cell? ⟨w.heap.size, 1, none⟩ = some (.int .i64 B) := Rg.keep hb (by simp; omega) (by go_cell); have c2 : w1.cell? ⟨w.heap.size, 2, none⟩ = some (.int .i64 F) := Rg.keep hb (by simp; omega) (by go_cell); have c3 : w1.cell? ⟨w.heap.size, 3, none⟩ = some (.int .i64 R) := Rg.keep hb (by simp; omega) (by go_cell); have c4 : w1.cell? ⟨w.heap.size, 4, none⟩ = some (.int .i64 O) := Rg.keep hb (by simp; omega) (by go_cell); have c5 : w1.cell? ⟨w.heap.size, 5, none⟩ = some (.slice p zs.length c) := Rg.keep hb (by simp; omega) (by go_cell); have c6 : w1.cell? ⟨w.heap.size, 6, none⟩ = some (.slice q m d) := Rg.keep hb (by simp; omega) (by go_cell); have z0 : w1.cell? ⟨w.heap.size + 1, 0, none⟩ = some (.int .i64 0) := Rg.keep hb (by simp) (by go_cell); have f0 : w1.frozen? ⟨w.heap.size + 1, 0, none⟩ = false := Rg.keepF hb (by simp) (by go_cell); have z1 : w1.cell? ⟨w.heap.size + 1, 1, none⟩ = some (.int .i64 0) := Rg.keep hb (by simp) (by go_cell); have f1 : w1.frozen? ⟨w.heap.size + 1, 1, none⟩ = false := Rg.keepF hb (by simp) (by go_cell); have lr : w.heap.size + 1 < w1.heap.size := World.block_lt_of_cell? _ _ z0; clear hb)
 have SB := (KB.out.setCell (p := ⟨w.heap.size + 1, 0, none⟩) (by dsimp only; omega) (.int .i64 0)).setCell (p := ⟨w.heap.size + 1, 1, none⟩) (by dsimp only; omega) (.int .i64 0)
 refine bodyPost_ret (v := .tuple #[.agg #[.int .i64 0, .int .i64 0], .int .i64 E]) (by simp [results, Tryz.results24, go_sem, z0, z1, f0, f1, lr]) rfl ⟨rfl, SB⟩

set_option maxRecDepth 100000 in
set_option maxHeartbeats 8000000 in
theorem at_b (K B F R O : Int) (p : Option Addr) (zs : List Int) (c : Nat) (q : Option Addr) (vs : List (Int × Int)) (d : Nat) (w : World) (b0 : -9223372036854775808 <= B) (b1 : B <= 9223372036854775807) (hn : zs.length <= maxLen) (hm : vs.length <= maxLen) (RA : Hid (SlI w p zs)) (RB : Hid (SlV w q vs)) (x : Option Addr) (xs : List Int) (e : Nat) (hx : xs.length <= maxLen) (RX : Hid (SlI w x xs)) (ht : (loc K B F R O zs vs xs).2 = 0) :
  Calls Tryz.prog 24 #[Tn K B F R O p zs.length c q vs.length d, .slice x xs.length e] w fun e w' => e = .returned (.tuple #[.agg #[.int .i64 (vs.getD (loc K B F R O zs vs xs).1.toNat (0, 0)).1, .int .i64 (vs.getD (loc K B F R O zs vs xs).1.toNat (0, 0)).2], .int .i64 0]) /\ Below w.heap.size w w' := by
 have LO0 := fun w h1 h2 h3 => tloc K B F R O p zs c q vs d w b0 b1 hn hm h1 h2 x xs e hx h3
 obtain ⟨_, l0, l1⟩ := loc_bd ht
 obtain ⟨⟨i, E⟩, hE⟩ : ∃ r, loc K B F R O zs vs xs = r := ⟨_, rfl⟩
 rw [hE] at LO0 ht l0 l1 ⊢
 dsimp only at LO0 ht l0 l1 ⊢
 subst ht
 obtain ⟨k, rfl⟩ : ∃ k : Nat, i = (k : Int) := ⟨i.toNat, by omega⟩
 rw [Int.toNat_natCast]
 have hk : k < vs.length := by omega
 obtain ⟨bb, oo, rfl, v0, v1⟩ := RB.out k hk
 obtain ⟨xy, hxy⟩ : ∃ xy, vs.getD k (0, 0) = xy := ⟨_, rfl⟩
 rw [hxy] at v0 v1 ⊢
 obtain ⟨a, a'⟩ := xy
 dsimp only at v0 v1 ⊢
 have lb : bb < w.heap.size := World.block_lt_of_cell? _ _ v0
 obtain ⟨m, hmm⟩ : ∃ m, vs.length = m := ⟨_, rfl⟩
 have HM := Lib.hid hmm
 rw [hmm] at LO0 ⊢
 have LO := Lib.hid LO0
 have B0 : Hid (Below w.heap.size w ((w.alloc (Obj.cells #[Value.int .i64 K, Value.int .i64 B, Value.int .i64 F, Value.int .i64 R, Value.int .i64 O, Value.slice p zs.length c, Value.slice (some ⟨bb, oo, none⟩) m d] 27)).alloc (Obj.cells #[Value.int .i64 0, Value.int .i64 0] 29))) := Lib.hid (((Below.refl _ _).alloc (Nat.le_refl _) _).alloc (by simp) _)
 clear LO0
 have k2 : (k : Int) < m := by rw [<- hmm]; omega
 have k0 : (0 : Int) <= k := by omega
 clear hE hmm hm l0 l1 hxy
 go_enter Tryz.func24, Tryz.ntmps24
 go_wp2_with (go_at_call 58; (with_reducible refine (LO.out _ (Lib.hid (SlI.keep B0.out RA.out)) (Lib.hid (SlV.below RB.out B0.out)) (Lib.hid (SlI.keep B0.out RX.out))).mono ?_); rintro e w1 ⟨rfl, hb⟩; have KB := Lib.hid (B0.out.trans (hb.mono B0.out.size)); have c0 : w1.cell? ⟨w.heap.size, 0, none⟩ = some (.int .i64 K) := Rg.keep hb (by simp; omega) (by go_cell); have c1 : w1.cell? ⟨w.heap.size, 1, none⟩ = some (.int .i64 B) := Rg.keep hb (by simp; omega) (by go_cell); have c2 : w1.cell? ⟨w.heap.size, 2, none⟩ = some (.int .i64 F) := Rg.keep hb (by simp; omega) (by go_cell); have c3 : w1.cell? ⟨w.heap.size, 3, none⟩ = some (.int .i64 R) := Rg.keep hb (by simp; omega) (by go_cell); have c4 : w1.cell? ⟨w.heap.size, 4, none⟩ = some (.int .i64 O) := Rg.keep hb (by simp; omega) (by go_cell); have c5 : w1.cell? ⟨w.heap.size, 5, none⟩ = some (.slice p zs.length c) := Rg.keep hb (by simp; omega) (by go_cell); have c6 : w1.cell? ⟨w.heap.size, 6, none⟩ = some (.slice (some ⟨bb, oo, none⟩) m d) := Rg.keep hb (by simp; omega) (by go_cell); have z0 : w1.cell? ⟨w.heap.size + 1, 0, none⟩ = some (.int .i64 0) := Rg.keep hb (by simp) (by go_cell); have f0 : w1.frozen? ⟨w.heap.size + 1, 0, none⟩ = false := Rg.keepF hb (by simp) (by go_cell); have z1 : w1.cell? ⟨w.heap.size + 1, 1, none⟩ = some (.int .i64 0) := Rg.keep hb (by simp) (by go_cell); have f1 : w1.frozen? ⟨w.heap.size + 1, 1, none⟩ = false := Rg.keepF hb (by simp) (by go_cell); have lr : w.heap.size + 1 < w1.heap.size := World.block_lt_of_cell? _ _ z0; have u0 := Rg.keep KB.out lb v0; have u1 := Rg.keep KB.out lb v1; have ng : ¬ w.heap.size + 1 = bb := (by omega); clear hb)
 have SB := (KB.out.setCell (p := ⟨w.heap.size + 1, 0, none⟩) (by dsimp only; omega) (.int .i64 a)).setCell (p := ⟨w.heap.size + 1, 1, none⟩) (by dsimp only; omega) (.int .i64 a')
 refine bodyPost_ret (v := .tuple #[.agg #[.int .i64 a, .int .i64 a'], .int .i64 0]) (by simp [results, Tryz.results24, go_sem, z0, z1, f0, f1, lr]) rfl ⟨rfl, SB⟩
theorem tat (K B F R O : Int) (p : Option Addr) (zs : List Int) (c : Nat) (q : Option Addr) (vs : List (Int × Int)) (d : Nat) (w : World) (b0 : -9223372036854775808 <= B) (b1 : B <= 9223372036854775807) (hn : zs.length <= maxLen) (hm : vs.length <= maxLen) (RA : Hid (SlI w p zs)) (RB : Hid (SlV w q vs)) (x : Option Addr) (xs : List Int) (e : Nat) (hx : xs.length <= maxLen) (RX : Hid (SlI w x xs)) :
  Calls Tryz.prog 24 #[Tn K B F R O p zs.length c q vs.length d, .slice x xs.length e] w fun e w' => e = .returned (.tuple #[.agg #[.int .i64 (atR K B F R O zs vs xs).1, .int .i64 (atR K B F R O zs vs xs).2.1], .int .i64 (atR K B F R O zs vs xs).2.2]) /\ Below w.heap.size w w' := by
 unfold atR
 by_cases ht : (loc K B F R O zs vs xs).2 = 0
 ·rw [if_neg (by simpa using ht)]
  exact at_b K B F R O p zs c q vs d w b0 b1 hn hm RA RB x xs e hx RX ht
 ·rw [if_pos ht]
  exact at_a K B F R O p zs c q vs d w b0 b1 hn hm RA RB x xs e hx RX ht
end Go.Proofs.YteaaikmejacpaaaGreatDoor.Te


namespace Go.Proofs.YteaaikmejacpaaaGreatDoor.Te
open Go.ChangeShapes Go.WideShapes Go.ChangeAt Go.RowKit
open Fx Va Sh
set_option maxRecDepth 8000
set_option linter.unusedVariables false
set_option linter.unusedSimpArgs false

theorem own_two {u : World} {B1 B2 n1 n g c : Nat} {v1 : Value} {xs1 xs2 : List Value} (h1 : u.ownsRow B1 3 1 v1 n1 xs1) (h2 : u.ownsRow B2 29 2 (.slice (some ⟨g, 0, none⟩) n c) n xs2) : v1.ownBlock = none \/ v1.ownBlock ≠ some g := by
 rcases h1.2 with ⟨rfl, _⟩ | ⟨g1, cap, cur, rfl, hb, hh, r⟩
 ·exact .inl rfl
 ·rcases h2.2 with ⟨hv, _⟩ | ⟨g2, cap2, cur2, hv, hb2, hh2, r2⟩
  ·cases hv
  ·cases hv
   refine .inr (fun e => ?_)
   have e2 : g1 = g := by injection e
   subst e2
   rw [hh] at hh2
   cases hh2
theorem flV_set : ∀ (vs : List (Int × Int)) (i : Nat) (a a' : Int), i < vs.length -> ((flV vs).set (i * 2) (.int .i64 a)).set (i * 2 + 1) (.int .i64 a') = flV (vs.set i (a, a'))
 | [], i, a, a', h => absurd h (by simp)
 | v :: r, 0, a, a', _ => rfl
 | v :: r, i + 1, a, a', h => by
  have ih := flV_set r i a a' (by simpa using h)
  have e : flV (v :: r) = .int .i64 v.1 :: .int .i64 v.2 :: flV r := rfl
  rw [e, show (i + 1) * 2 = i * 2 + 2 by omega]
  simp only [List.set_cons_succ]
  rw [ih]
  rfl
/-- A tensor as an answer, with an error. -/
def TRes (K B F R O : Int) (zs : List Int) (vs : List (Int × Int)) (er : Int) (w : World) (e : Ending) (w' : World) : Prop := ∃ p c q d, e = .returned (.tuple #[Tn K B F R O p zs.length c q vs.length d, .int .i64 er]) /\ w'.ownsRow w.heap.size 3 1 (.slice p zs.length c) zs.length (zs.map (Value.int .i64)) /\ w'.ownsRow w.heap.size 29 2 (.slice q vs.length d) vs.length (flV vs) /\ Below w.heap.size w w'
theorem TRes.no {er : Int} {w w' : World} (hb : Below w.heap.size w w') : TRes 0 0 0 0 0 [] [] er w (.returned (.tuple #[.agg #[.int .i64 0, .int .i64 0, .int .i64 0, .int .i64 0, .int .i64 0, .slice none 0 0, .slice none 0 0], .int .i64 er])) w' := ⟨none, 0, none, 0, rfl, World.ownsRow_nil _ _ _ _, World.ownsRow_nil _ _ _ _, hb⟩

end Go.Proofs.YteaaikmejacpaaaGreatDoor.Te


namespace Go.Proofs.YteaaikmejacpaaaGreatDoor.Te
open Go.ChangeShapes Go.WideShapes Go.ChangeAt Go.RowKit
open Fx Va Sh
set_option maxRecDepth 8000
set_option linter.unusedVariables false
set_option linter.unusedSimpArgs false

theorem own_at {u : World} {B n c : Nat} {q : Option Addr} {xs : List Value} (h : u.ownsRow B 29 2 (.slice q n c) n xs) (hn : 1 <= n) : ∃ g, q = some ⟨g, 0, none⟩ /\ B <= g /\ g < u.heap.size := by
 rcases h.2 with ⟨hv, h0⟩ | ⟨g, cap, cur, hv, hb, hh, r⟩
 ·omega
 ·cases hv
  refine ⟨g, rfl, hb, ?_⟩
  rcases Nat.lt_or_ge g u.heap.size with h1 | h1
  ·exact h1
  ·rw [Array.getElem?_eq_none h1] at hh; cases hh

end Go.Proofs.YteaaikmejacpaaaGreatDoor.Te


namespace Go.Proofs.YteaaikmejacpaaaGreatDoor.Te
open Go.ChangeShapes Go.WideShapes Go.ChangeAt Go.RowKit
open Fx Va Sh
set_option maxRecDepth 8000
set_option linter.unusedVariables false
set_option linter.unusedSimpArgs false

set_option maxRecDepth 100000 in
set_option maxHeartbeats 8000000 in
theorem new_a (K B F R O : Int) (p : Option Addr) (zs : List Int) (c : Nat) (q : Option Addr) (vs : List (Int × Int)) (d : Nat) (w : World) (b0 : -9223372036854775808 <= B) (b1 : B <= 9223372036854775807) (hn : zs.length <= maxLen) (hm : vs.length <= maxLen) (RA : Hid (SlI w p zs)) (RB : Hid (SlV w q vs)) (ht : tE K B F R O zs vs ≠ 0) :
  Calls Tryz.prog 16 #[T5 K B F R O, .slice p zs.length c, .slice q vs.length d] w (TRes 0 0 0 0 0 [] [] (tE K B F R O zs vs) w) := by
 have TV0 := fun w h1 h2 => tval K B F R O p zs c q vs d w b0 b1 hn hm h1 h2
 obtain ⟨E, hE⟩ : ∃ E, tE K B F R O zs vs = E := ⟨_, rfl⟩
 rw [hE] at TV0 ht ⊢
 have g1 : (E == 0) = false := by simpa using ht
 have g2 : (E != 0) = true := by simpa using ht
 obtain ⟨m, hmm⟩ : ∃ m, vs.length = m := ⟨_, rfl⟩
 have HM := Lib.hid hmm
 rw [hmm] at TV0 ⊢
 have TV := Lib.hid TV0
 have B0 : Hid (Below w.heap.size w (((w.alloc (Obj.cells #[Value.int .i64 K, Value.int .i64 B, Value.int .i64 F, Value.int .i64 R, Value.int .i64 O] 23)).alloc (Obj.cells #[Value.int .i64 0, Value.int .i64 0, Value.int .i64 0, Value.int .i64 0, Value.int .i64 0, Value.slice none 0 0, Value.slice none 0 0] 27)).alloc (Obj.cells #[Value.int .i64 K, Value.int .i64 B, Value.int .i64 F, Value.int .i64 R, Value.int .i64 O, Value.slice p zs.length c, Value.slice q m d] 27))) := Lib.hid ((((Below.refl _ _).alloc (Nat.le_refl _) _).alloc (by simp) _).alloc (by simp; omega) _)
 clear TV0
 clear hE ht hm hmm
 unfold Tn at *
 go_enter Tryz.func16, Tryz.ntmps16
 go_wp2_with (go_at_call 20; (with_reducible refine (TV.out _ (Lib.hid (SlI.keep B0.out RA.out)) (Lib.hid (SlV.below RB.out B0.out))).mono ?_); rintro e w1 ⟨rfl, hb⟩; have KB := Lib.hid (B0.out.trans (hb.mono B0.out.size)); have c0 : w1.cell? ⟨w.heap.size + 1 + 1, 0, none⟩ = some (.int .i64 K) := Rg.keep hb (by simp <;> omega) (by go_cell); have c1 : w1.cell? ⟨w.heap.size + 1 + 1, 1, none⟩ = some (.int .i64 B) := Rg.keep hb (by simp <;> omega) (by go_cell); have c2 : w1.cell? ⟨w.heap.size + 1 + 1, 2, none⟩ = some (.int .i64 F) := Rg.keep hb (by simp <;> omega) (by go_cell); have c3 : w1.cell? ⟨w.heap.size + 1 + 1, 3, none⟩ = some (.int .i64 R) := Rg.keep hb (by simp <;> omega) (by go_cell); have c4 : w1.cell? ⟨w.heap.size + 1 + 1, 4, none⟩ = some (.int .i64 O) := Rg.keep hb (by simp <;> omega) (by go_cell); have c5 : w1.cell? ⟨w.heap.size + 1 + 1, 5, none⟩ = some (.slice p zs.length c) := Rg.keep hb (by simp <;> omega) (by go_cell); have c6 : w1.cell? ⟨w.heap.size + 1 + 1, 6, none⟩ = some (.slice q m d) := Rg.keep hb (by simp <;> omega) (by go_cell); have z0 : w1.cell? ⟨w.heap.size + 1, 0, none⟩ = some (.int .i64 0) := Rg.keep hb (by simp <;> omega) (by go_cell); have f0 : w1.frozen? ⟨w.heap.size + 1, 0, none⟩ = false := Rg.keepF hb (by simp <;> omega) (by go_cell); have z1 : w1.cell? ⟨w.heap.size + 1, 1, none⟩ = some (.int .i64 0) := Rg.keep hb (by simp <;> omega) (by go_cell); have f1 : w1.frozen? ⟨w.heap.size + 1, 1, none⟩ = false := Rg.keepF hb (by simp <;> omega) (by go_cell); have z2 : w1.cell? ⟨w.heap.size + 1, 2, none⟩ = some (.int .i64 0) := Rg.keep hb (by simp <;> omega) (by go_cell); have f2 : w1.frozen? ⟨w.heap.size + 1, 2, none⟩ = false := Rg.keepF hb (by simp <;> omega) (by go_cell); have z3 : w1.cell? ⟨w.heap.size + 1, 3, none⟩ = some (.int .i64 0) := Rg.keep hb (by simp <;> omega) (by go_cell); have f3 : w1.frozen? ⟨w.heap.size + 1, 3, none⟩ = false := Rg.keepF hb (by simp <;> omega) (by go_cell); have z4 : w1.cell? ⟨w.heap.size + 1, 4, none⟩ = some (.int .i64 0) := Rg.keep hb (by simp <;> omega) (by go_cell); have f4 : w1.frozen? ⟨w.heap.size + 1, 4, none⟩ = false := Rg.keepF hb (by simp <;> omega) (by go_cell); have z5 : w1.cell? ⟨w.heap.size + 1, 5, none⟩ = some (.slice none 0 0) := Rg.keep hb (by simp <;> omega) (by go_cell); have f5 : w1.frozen? ⟨w.heap.size + 1, 5, none⟩ = false := Rg.keepF hb (by simp <;> omega) (by go_cell); have z6 : w1.cell? ⟨w.heap.size + 1, 6, none⟩ = some (.slice none 0 0) := Rg.keep hb (by simp <;> omega) (by go_cell); have f6 : w1.frozen? ⟨w.heap.size + 1, 6, none⟩ = false := Rg.keepF hb (by simp <;> omega) (by go_cell); have lr : w.heap.size + 1 < w1.heap.size := World.block_lt_of_cell? _ _ z0; clear hb)
 have SBB := (((((((KB.out).setCell (p := ⟨w.heap.size + 1, 0, none⟩) (by dsimp only; omega) (.int .i64 0)).setCell (p := ⟨w.heap.size + 1, 1, none⟩) (by dsimp only; omega) (.int .i64 0)).setCell (p := ⟨w.heap.size + 1, 2, none⟩) (by dsimp only; omega) (.int .i64 0)).setCell (p := ⟨w.heap.size + 1, 3, none⟩) (by dsimp only; omega) (.int .i64 0)).setCell (p := ⟨w.heap.size + 1, 4, none⟩) (by dsimp only; omega) (.int .i64 0)).setCell (p := ⟨w.heap.size + 1, 5, none⟩) (by dsimp only; omega) (.slice none 0 0)).setCell (p := ⟨w.heap.size + 1, 6, none⟩) (by dsimp only; omega) (.slice none 0 0)
 refine bodyPost_ret (v := .tuple #[.agg #[.int .i64 0, .int .i64 0, .int .i64 0, .int .i64 0, .int .i64 0, .slice none 0 0, .slice none 0 0], .int .i64 E]) (by simp [results, Tryz.results16, go_sem, z0, f0, z1, f1, z2, f2, z3, f3, z4, f4, z5, f5, z6, f6, lr]) rfl (TRes.no SBB)

set_option maxRecDepth 100000 in
set_option maxHeartbeats 8000000 in
theorem new_b (K B F R O : Int) (p : Option Addr) (zs : List Int) (c : Nat) (q : Option Addr) (vs : List (Int × Int)) (d : Nat) (w : World) (b0 : -9223372036854775808 <= B) (b1 : B <= 9223372036854775807) (hn : zs.length <= maxLen) (hm : vs.length <= maxLen) (RA : Hid (SlI w p zs)) (RB : Hid (SlV w q vs)) (ht : tE K B F R O zs vs = 0) :
  Calls Tryz.prog 16 #[T5 K B F R O, .slice p zs.length c, .slice q vs.length d] w (TRes K B F R O zs vs 0 w) := by
 have TV0 := fun w h1 h2 => tval K B F R O p zs c q vs d w b0 b1 hn hm h1 h2
 obtain ⟨-, tv0, tl, -⟩ := tE_ok ht
 obtain ⟨h6, -, -, hsp, h1s⟩ := valid_of tv0
 have h1 := h1s 0
 rw [List.drop_zero] at h1
 have DT0 := fun w g1 g2 => dtens K B F R O p zs c q vs d w h6 (by omega) (by omega) g1 g2
 unfold TW at DT0
 rw [ht] at TV0
 clear h1s h1
 obtain ⟨m, hmm⟩ : ∃ m, vs.length = m := ⟨_, rfl⟩
 have HM := Lib.hid hmm
 rw [hmm] at TV0 DT0 ⊢
 have TV := Lib.hid TV0
 have B0 : Hid (Below w.heap.size w (((w.alloc (Obj.cells #[Value.int .i64 K, Value.int .i64 B, Value.int .i64 F, Value.int .i64 R, Value.int .i64 O] 23)).alloc (Obj.cells #[Value.int .i64 0, Value.int .i64 0, Value.int .i64 0, Value.int .i64 0, Value.int .i64 0, Value.slice none 0 0, Value.slice none 0 0] 27)).alloc (Obj.cells #[Value.int .i64 K, Value.int .i64 B, Value.int .i64 F, Value.int .i64 R, Value.int .i64 O, Value.slice p zs.length c, Value.slice q m d] 27))) := Lib.hid ((((Below.refl _ _).alloc (Nat.le_refl _) _).alloc (by simp) _).alloc (by simp; omega) _)
 clear TV0
 have DT := Lib.hid DT0
 clear ht hm hmm DT0 tl h6 hsp tv0
 unfold Tn at *
 go_enter Tryz.func16, Tryz.ntmps16
 go_wp2_with (first | (go_at_call 20; (with_reducible refine (TV.out _ (Lib.hid (SlI.keep B0.out RA.out)) (Lib.hid (SlV.below RB.out B0.out))).mono ?_); rintro e w1 ⟨rfl, hb⟩; have KB := Lib.hid (B0.out.trans (hb.mono B0.out.size)); have c0 : w1.cell? ⟨w.heap.size + 1 + 1, 0, none⟩ = some (.int .i64 K) := Rg.keep hb (by simp <;> omega) (by go_cell); have c1 : w1.cell? ⟨w.heap.size + 1 + 1, 1, none⟩ = some (.int .i64 B) := Rg.keep hb (by simp <;> omega) (by go_cell); have c2 : w1.cell? ⟨w.heap.size + 1 + 1, 2, none⟩ = some (.int .i64 F) := Rg.keep hb (by simp <;> omega) (by go_cell); have c3 : w1.cell? ⟨w.heap.size + 1 + 1, 3, none⟩ = some (.int .i64 R) := Rg.keep hb (by simp <;> omega) (by go_cell); have c4 : w1.cell? ⟨w.heap.size + 1 + 1, 4, none⟩ = some (.int .i64 O) := Rg.keep hb (by simp <;> omega) (by go_cell); have c5 : w1.cell? ⟨w.heap.size + 1 + 1, 5, none⟩ = some (.slice p zs.length c) := Rg.keep hb (by simp <;> omega) (by go_cell); have c6 : w1.cell? ⟨w.heap.size + 1 + 1, 6, none⟩ = some (.slice q m d) := Rg.keep hb (by simp <;> omega) (by go_cell); have z0 : w1.cell? ⟨w.heap.size + 1, 0, none⟩ = some (.int .i64 0) := Rg.keep hb (by simp <;> omega) (by go_cell); have f0 : w1.frozen? ⟨w.heap.size + 1, 0, none⟩ = false := Rg.keepF hb (by simp <;> omega) (by go_cell); have z1 : w1.cell? ⟨w.heap.size + 1, 1, none⟩ = some (.int .i64 0) := Rg.keep hb (by simp <;> omega) (by go_cell); have f1 : w1.frozen? ⟨w.heap.size + 1, 1, none⟩ = false := Rg.keepF hb (by simp <;> omega) (by go_cell); have z2 : w1.cell? ⟨w.heap.size + 1, 2, none⟩ = some (.int .i64 0) := Rg.keep hb (by simp <;> omega) (by go_cell); have f2 : w1.frozen? ⟨w.heap.size + 1, 2, none⟩ = false := Rg.keepF hb (by simp <;> omega) (by go_cell); have z3 : w1.cell? ⟨w.heap.size + 1, 3, none⟩ = some (.int .i64 0) := Rg.keep hb (by simp <;> omega) (by go_cell); have f3 : w1.frozen? ⟨w.heap.size + 1, 3, none⟩ = false := Rg.keepF hb (by simp <;> omega) (by go_cell); have z4 : w1.cell? ⟨w.heap.size + 1, 4, none⟩ = some (.int .i64 0) := Rg.keep hb (by simp <;> omega) (by go_cell); have f4 : w1.frozen? ⟨w.heap.size + 1, 4, none⟩ = false := Rg.keepF hb (by simp <;> omega) (by go_cell); have z5 : w1.cell? ⟨w.heap.size + 1, 5, none⟩ = some (.slice none 0 0) := Rg.keep hb (by simp <;> omega) (by go_cell); have f5 : w1.frozen? ⟨w.heap.size + 1, 5, none⟩ = false := Rg.keepF hb (by simp <;> omega) (by go_cell); have z6 : w1.cell? ⟨w.heap.size + 1, 6, none⟩ = some (.slice none 0 0) := Rg.keep hb (by simp <;> omega) (by go_cell); have f6 : w1.frozen? ⟨w.heap.size + 1, 6, none⟩ = false := Rg.keepF hb (by simp <;> omega) (by go_cell); have lr : w.heap.size + 1 < w1.heap.size := World.block_lt_of_cell? _ _ z0; clear hb) | (go_at_call 45; (with_reducible refine (DT.out _ (Lib.hid (SlI.keep KB.out RA.out)) (Lib.hid (SlV.below RB.out KB.out))).mono ?_); rintro e w3 ⟨v, rfl, p1, ce, q1, d1, rfl, O1, O2, hb3⟩; have lrc : w.heap.size + 1 < w3.heap.size := Nat.lt_of_lt_of_le lr hb3.size; replace z0 := Rg.keep hb3 lr z0; replace f0 := Rg.keepF hb3 lr f0; replace z1 := Rg.keep hb3 lr z1; replace f1 := Rg.keepF hb3 lr f1; replace z2 := Rg.keep hb3 lr z2; replace f2 := Rg.keepF hb3 lr f2; replace z3 := Rg.keep hb3 lr z3; replace f3 := Rg.keepF hb3 lr f3; replace z4 := Rg.keep hb3 lr z4; replace f4 := Rg.keepF hb3 lr f4; replace z5 := Rg.keep hb3 lr z5; replace f5 := Rg.keepF hb3 lr f5; replace z6 := Rg.keep hb3 lr z6; replace f6 := Rg.keepF hb3 lr f6; have KB3 := Lib.hid (KB.out.trans (hb3.mono KB.out.size)); have HO1 := Lib.hid O1; have HO2 := Lib.hid O2; have hlw : w.heap.size + 1 < w1.heap.size := lr; replace lr := lrc; clear O1 O2 hb3 lrc))
 have SBB := (((((((KB3.out).setCell (p := ⟨w.heap.size + 1, 0, none⟩) (by dsimp only; omega) (.int .i64 K)).setCell (p := ⟨w.heap.size + 1, 1, none⟩) (by dsimp only; omega) (.int .i64 B)).setCell (p := ⟨w.heap.size + 1, 2, none⟩) (by dsimp only; omega) (.int .i64 F)).setCell (p := ⟨w.heap.size + 1, 3, none⟩) (by dsimp only; omega) (.int .i64 R)).setCell (p := ⟨w.heap.size + 1, 4, none⟩) (by dsimp only; omega) (.int .i64 O)).setCell (p := ⟨w.heap.size + 1, 5, none⟩) (by dsimp only; omega) (.slice p1 zs.length ce)).setCell (p := ⟨w.heap.size + 1, 6, none⟩) (by dsimp only; omega) (.slice q1 m d1)
 refine bodyPost_ret (v := .tuple #[Tn K B F R O p1 zs.length ce q1 m d1, .int .i64 0]) (by simp [results, Tryz.results16, go_sem, z0, f0, z1, f1, z2, f2, z3, f3, z4, f4, z5, f5, z6, f6, lr, Tn]) rfl ⟨p1, ce, q1, d1, by rw [HM.out], ?_, ?_, SBB⟩
 ·exact own_base (own_set (own_set (own_set (own_set (own_set (own_set (own_set HO1.out (by dsimp only; omega)) (by dsimp only; omega)) (by dsimp only; omega)) (by dsimp only; omega)) (by dsimp only; omega)) (by dsimp only; omega)) (by dsimp only; omega)) (by omega)
 ·rw [HM.out]; exact own_base (own_set (own_set (own_set (own_set (own_set (own_set (own_set HO2.out (by dsimp only; omega)) (by dsimp only; omega)) (by dsimp only; omega)) (by dsimp only; omega)) (by dsimp only; omega)) (by dsimp only; omega)) (by dsimp only; omega)) (by omega)
theorem tnew (K B F R O : Int) (p : Option Addr) (zs : List Int) (c : Nat) (q : Option Addr) (vs : List (Int × Int)) (d : Nat) (w : World) (b0 : -9223372036854775808 <= B) (b1 : B <= 9223372036854775807) (hn : zs.length <= maxLen) (hm : vs.length <= maxLen) (RA : Hid (SlI w p zs)) (RB : Hid (SlV w q vs)) :
  Calls Tryz.prog 16 #[T5 K B F R O, .slice p zs.length c, .slice q vs.length d] w fun en w' => (tE K B F R O zs vs ≠ 0 /\ TRes 0 0 0 0 0 [] [] (tE K B F R O zs vs) w en w') \/ (tE K B F R O zs vs = 0 /\ TRes K B F R O zs vs 0 w en w') := by
 by_cases ht : tE K B F R O zs vs = 0
 ·exact (new_b K B F R O p zs c q vs d w b0 b1 hn hm RA RB ht).mono (fun _ _ h => .inr ⟨ht, h⟩)
 ·exact (new_a K B F R O p zs c q vs d w b0 b1 hn hm RA RB ht).mono (fun _ _ h => .inl ⟨ht, h⟩)
end Go.Proofs.YteaaikmejacpaaaGreatDoor.Te
