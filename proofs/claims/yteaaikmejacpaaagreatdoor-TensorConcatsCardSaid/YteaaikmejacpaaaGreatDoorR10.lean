/- Slice of package shape. -/
import Derived.Test.YteaaikmejacpaaaGreatDoorR9
import Derived.Deep.Onto
import Derived.Test.YteaaikmejacpaaaGreatDoorR0

namespace Go.Proofs.YteaaikmejacpaaaGreatDoor.Sh
open Go.ChangeShapes Go.WideShapes Go.ChangeAt Go.RowKit
set_option maxRecDepth 8000
set_option linter.unusedVariables false
set_option linter.unusedSimpArgs false
/-- A slice that the call has made, and an error number. -/
def QW (l : List Int) (t : Int) (w : World) (e : Ending) (w' : World) : Prop := ∃ v, e = .returned (.tuple #[v, .int .i64 t]) /\ Below w.heap.size w w' /\ w'.ownsRow w.heap.size 3 1 v l.length (l.map (Value.int .i64))

end Go.Proofs.YteaaikmejacpaaaGreatDoor.Sh


namespace Go.Proofs.YteaaikmejacpaaaGreatDoor.Sh
open Go.ChangeShapes Go.WideShapes Go.ChangeAt Go.RowKit
set_option maxRecDepth 8000
set_option linter.unusedVariables false
set_option linter.unusedSimpArgs false
theorem own_form {w : World} {base n : Nat} {v : Value} {xs : List Value} (h : w.ownsRow base 3 1 v n xs) (hn : 0 < n) : ∃ g cap, v = .slice (some ⟨g, 0, none⟩) n cap /\ base <= g /\ n <= cap := by
 rcases h.2 with ⟨_, h0⟩ | ⟨g, cap, _, hv, h1, _, h2, _⟩
 ·omega
 ·exact ⟨g, cap, hv, h1, h2⟩

end Go.Proofs.YteaaikmejacpaaaGreatDoor.Sh


namespace Go.Proofs.YteaaikmejacpaaaGreatDoor.Sh
open Go.ChangeShapes Go.WideShapes Go.ChangeAt Go.RowKit
set_option maxRecDepth 8000
set_option linter.unusedVariables false
set_option linter.unusedSimpArgs false

end Go.Proofs.YteaaikmejacpaaaGreatDoor.Sh


namespace Go.Proofs.YteaaikmejacpaaaGreatDoor.Sh
open Go.ChangeShapes Go.WideShapes Go.ChangeAt Go.RowKit
set_option maxRecDepth 8000
set_option linter.unusedVariables false
set_option linter.unusedSimpArgs false

end Go.Proofs.YteaaikmejacpaaaGreatDoor.Sh


namespace Go.Proofs.YteaaikmejacpaaaGreatDoor.Sh
open Go.ChangeShapes Go.WideShapes Go.ChangeAt Go.RowKit
set_option maxRecDepth 8000
set_option linter.unusedVariables false
set_option linter.unusedSimpArgs false

end Go.Proofs.YteaaikmejacpaaaGreatDoor.Sh


namespace Go.Proofs.YteaaikmejacpaaaGreatDoor.Sh
open Go.ChangeShapes Go.WideShapes Go.ChangeAt Go.RowKit
set_option maxRecDepth 8000
set_option linter.unusedVariables false
set_option linter.unusedSimpArgs false

/-- The offset of an index is the number that the index came from. -/
theorem of_pt {zs : List Int} {a : Int} (hv : vE zs = 0) (ha : 0 <= a) (ha2 : a < sp zs) : oA zs (pt zs a) = some a := by
 obtain ⟨_, hl, _, _, hD⟩ := valid_of hv
 rw [oA_ok hv (pt_length zs a)]
 have key : ∀ k, k <= zs.length -> of 0 zs (pt zs a) = of (a / sp (zs.drop k)) (zs.drop k) ((pt zs a).drop k) := by
  intro k
  induction k with
  | zero =>
   intro _
   rw [List.drop_zero, List.drop_zero, Int.ediv_eq_zero_of_lt ha ha2]
  | succ k ih =>
   intro hk
   rw [ih (by omega), drop_cons (zs := zs) (by omega), drop_cons (zs := pt zs a) (by rw [pt_length]; omega), pt_get (by omega)]
   have hz := pos_of hl (k := k) (by omega)
   have s0 := (hD (k + 1)).1
   change of (a / (sp (zs.drop (k + 1)) * zs.getD k 0)) _ _ = _
   generalize zs.getD k 0 = z at *
   generalize sp (zs.drop (k + 1)) = s at *
   rw [of_go ⟨Int.emod_nonneg _ (by omega), Int.emod_lt_of_pos _ (by omega)⟩, <- pt_step s0]
   congr 1
   have := Int.emod_def (a / s) z
   rw [Int.mul_comm] at this
   omega
 rw [key zs.length (Nat.le_refl _), List.drop_of_length_le (Nat.le_refl _), List.drop_of_length_le (by rw [pt_length]; exact Nat.le_refl _)]
 show some (a / 1) = some a
 rw [Int.ediv_one]
theorem pA_ok {zs : List Int} {a : Int} (hv : vE zs = 0) (ha : 0 <= a) (ha2 : a < sp zs) : pA zs a = true := by
 unfold pA
 rw [sz_ok hv]
 exact decide_eq_true ⟨ha, ha2⟩
end Go.Proofs.YteaaikmejacpaaaGreatDoor.Sh


namespace Go.Proofs.YteaaikmejacpaaaGreatDoor.Sh
open Go.ChangeShapes Go.WideShapes Go.ChangeAt Go.RowKit
set_option maxRecDepth 8000
set_option linter.unusedVariables false
set_option linter.unusedSimpArgs false

end Go.Proofs.YteaaikmejacpaaaGreatDoor.Sh


namespace Go.Proofs.YteaaikmejacpaaaGreatDoor.Sh
open Go.ChangeShapes Go.WideShapes Go.ChangeAt Go.RowKit
set_option maxRecDepth 8000
set_option linter.unusedVariables false
set_option linter.unusedSimpArgs false
/-- The first k axes are axes, each but once. -/
def gd (n : Nat) (os : List Int) (k : Nat) : Prop := ∀ i, i < k -> 0 <= os.getD i 0 /\ os.getD i 0 < n /\ ∀ j, j < i -> os.getD j 0 ≠ os.getD i 0
def pm (zs os : List Int) : List Int := os.map fun x => zs.getD x.toNat 0
open Classical in
noncomputable def pmE (zs os : List Int) : Int := if (vE zs != 0) = true then vE zs else if os.length = zs.length /\ gd zs.length os zs.length then 0 else 1
open Classical in
noncomputable def pmL (zs os : List Int) : List Int := if (vE zs != 0) = true then [] else if os.length = zs.length /\ gd zs.length os zs.length then pm zs os else []
theorem pm_get {zs os : List Int} {k : Nat} (h : k < os.length) : (pm zs os).getD k 0 = zs.getD (os.getD k 0).toNat 0 := by
 rw [getD_at (by simp [pm]; exact h), getD_at h]
 simp [pm]
theorem gd_step {n k : Nat} {os : List Int} {x : Nat} (h : gd n os k) (hx : os.getD k 0 = x) (h1 : x < n) (h2 : ∀ i, i < k -> os.getD i 0 ≠ x) : gd n os (k + 1) := by
 intro i hi
 rcases (by omega : i < k \/ i = k) with h3 | rfl
 ·exact h i h3
 ·rw [hx]
  exact ⟨by omega, by omega, h2⟩
theorem bools_at {w : World} {base g n cap j : Nat} {t : TypeId} {bs : List Bool} (h : w.ownsRow base t 1 (.slice (some ⟨g, 0, none⟩) n cap) n (bs.map Value.bool)) (hj : j < n) (hx : bs.length = n) :
  w.cell? ⟨g, j, none⟩ = some (.bool (bs.getD j false)) := by
 rw [h.cellAt j (by omega), List.getElem?_map, List.getElem?_eq_getElem (by omega)]
 unfold List.getD
 rw [List.getElem?_eq_getElem (by omega)]
 rfl
theorem us_step {os : List Int} {k x m : Nat} {us : List Bool} (hx : os.getD k 0 = (x : Int)) (hm : us.length = m) (hxm : x < m) (h : ∀ y, y < m -> (us.getD y false = true ↔ ∃ i, i < k /\ os.getD i 0 = (y : Int))) :
  ∀ y, y < m -> ((us.set x true).getD y false = true ↔ ∃ i, i < k + 1 /\ os.getD i 0 = (y : Int)) := by
 intro y hy
 by_cases e : y = x
 ·subst e
  rw [show (us.set y true).getD y false = true by unfold List.getD; rw [List.getElem?_set_self (by omega)]; rfl]
  exact ⟨fun _ => ⟨k, by omega, hx⟩, fun _ => rfl⟩
 ·rw [show (us.set x true).getD y false = us.getD y false by unfold List.getD; rw [List.getElem?_set_ne (by omega)], h y hy]
  constructor
  ·rintro ⟨i, hi, h1⟩; exact ⟨i, by omega, h1⟩
  ·rintro ⟨i, hi, h1⟩
   rcases (by omega : i < k \/ i = k) with h3 | rfl
   ·exact ⟨i, h3, h1⟩
   ·rw [hx] at h1; omega
set_option maxHeartbeats 4000000 in
theorem c27_v (p q : Option Addr) (zs os : List Int) (c d : Nat) (w : World) (hn : zs.length <= maxLen) (RA : Hid (SlI w p zs)) (hv : (vE zs != 0) = true) :
  Calls Tryz.prog 71 #[.slice p zs.length c, .slice q os.length d] w (QW [] (vE zs) w) := by
 have C := Lib.hid (c14 p zs c w hn RA)
 generalize vE zs = e at *
 go_enter Tryz.func71, Tryz.ntmps71
 go_wp2_with (go_at_call 47; refine (C.out).mono ?_; rintro e w' ⟨rfl, rfl⟩)
 refine bodyPost_ret (v := .tuple #[.slice none 0 0, .int .i64 e]) (by simp [results, Tryz.results71, go_sem]) rfl ⟨_, rfl, Below.refl _ _, World.ownsRow_nil _ _ _ _⟩
set_option maxHeartbeats 4000000 in
theorem c27_l (p q : Option Addr) (zs os : List Int) (c d : Nat) (w : World) (hn : zs.length <= maxLen) (RA : Hid (SlI w p zs)) (hv : vE zs = 0) (hl : ¬ os.length = zs.length) :
  Calls Tryz.prog 71 #[.slice p zs.length c, .slice q os.length d] w (QW [] 1 w) := by
 have C := Lib.hid (c14 p zs c w hn RA)
 rw [hv] at C
 clear hv
 have k1 : ((os.length : Int) != zs.length) = true := by simp <;> omega
 have k2 : (os.length != zs.length) = true := by simpa using hl
 have k3 : (os.length == zs.length) = false := by simpa using hl
 generalize zs.length = n at *
 generalize os.length = m at *
 clear hl
 go_enter Tryz.func71, Tryz.ntmps71
 go_wp2_with (go_at_call 47; refine (C.out).mono ?_; rintro e w' ⟨rfl, rfl⟩)
 refine bodyPost_ret (v := .tuple #[.slice none 0 0, .int .i64 1]) (by simp [results, Tryz.results71, go_sem]) rfl ⟨_, rfl, (Below.refl _ _).alloc (Nat.le_refl _) _, World.ownsRow_nil _ _ _ _⟩
end Go.Proofs.YteaaikmejacpaaaGreatDoor.Sh


namespace Go.Proofs.YteaaikmejacpaaaGreatDoor.Sh
open Go.ChangeShapes Go.WideShapes Go.ChangeAt Go.RowKit
set_option maxRecDepth 8000
set_option linter.unusedVariables false
set_option linter.unusedSimpArgs false
/-- Permute of a valid shape, by an order of as many axes. -/
def MW (zs os : List Int) (w : World) (e : Ending) (w' : World) : Prop := (gd zs.length os zs.length /\ QW (pm zs os) 0 w e w') \/ (¬ gd zs.length os zs.length /\ QW [] 1 w e w')
set_option maxHeartbeats 8000000 in
theorem c27_ok (p q : Option Addr) (zs os : List Int) (c d : Nat) (w : World) (RA : Hid (SlI w p zs)) (RB : Hid (SlI w q os)) (hv : vE zs = 0) (hl : os.length = zs.length) :
  Calls Tryz.prog 71 #[.slice p zs.length c, .slice q os.length d] w (MW zs os w) := by
 obtain ⟨h6, _⟩ := valid_of hv
 have C := Lib.hid (c14 p zs c w (by unfold maxLen; omega) RA)
 rw [hv] at C
 clear hv
 obtain ⟨i0, hi, hz0, hz1, hz2⟩ := info_parts info3
 have hpl : (pm zs os).length = os.length := by simp [pm]
 obtain ⟨n, hN⟩ : ∃ n, zs.length = n := ⟨_, rfl⟩
 have HN := Lib.hid hN
 have HM : Hid (os.length = n) := Lib.hid (by omega)
 have HPL : Hid ((pm zs os).length = n) := Lib.hid (by omega)
 have hm : os.length = n := by omega
 rw [hN] at C h6 ⊢
 rw [hm]
 clear hN hm hl hpl
 go_enter Tryz.func71, Tryz.ntmps71
 go_wp2_with (first | (go_at_call 47; refine (C.out).mono ?_; rintro e w' ⟨rfl, rfl⟩) | (refine wpList_make_full _ rfl _ _ 24 rfl w.heap.size 3 i0 (.int .i64 0) 1 Tryz.underlying24 hi hz0 hz1 .i64 .i64 _ _ n rfl rfl rfl rfl (by rw [hz2]; omega) (by unfold maxLen; omega) (by simp) ?_; intro w1 hown hg; have hB0 := below_own (Nat.le_refl _) hg; have hg2 := Lib.hid hg; clear hg hi hz0 hz1 hz2 i0))
 have us0 : Hid ((w.alloc (.cells #[.bool false, .bool false, .bool false, .bool false, .bool false, .bool false] 121)).ownsRow w.heap.size 121 1 (.slice (some ⟨w.heap.size, 0, none⟩) 6 6) 6 ((List.replicate 6 false).map Value.bool)) :=
  Lib.hid (World.ownsRow_lit w _ 6 (Nat.le_refl _) (by unfold maxLen; decide) rfl)
 have us1 : Hid (w1.ownsRow w.heap.size 121 1 (.slice (some ⟨w.heap.size, 0, none⟩) 6 6) 6 ((List.replicate 6 false).map Value.bool)) := Lib.hid (us0.out.kept hg2.out (Or.inr (by simp [Value.ownBlock])))
 have hB : Below w.heap.size w w1 := ((Below.refl _ _).alloc (Nat.le_refl _) _).trans (hB0.mono (by simp))
 clear us0 hg2 hB0 C
 have rs1 : Hid (w1.ownsRow w.heap.size 3 1 (.slice (some ⟨w.heap.size + 1, 0, none⟩) n n) n ((List.replicate n (0 : Int)).map (Value.int .i64))) := Lib.hid (by
  have h := hown
  rw [show (Value.int IntKind.i64 0).cells = #[.int .i64 0] from rfl, toList_madeCells_one, Nat.mul_one] at h
  rw [List.map_replicate]
  simpa using h)
 clear hown
 go_loopw [26] (fun i wr => ∃ (k : Nat) (us : List Bool) (rs : List Int), i = .int .i64 (k : Int) /\ k <= n /\ Below w.heap.size w wr /\ us.length = 6 /\ rs.length = n /\ Hid (gd n os k) /\ Hid (∀ y, y < 6 -> (us.getD y false = true ↔ ∃ i, i < k /\ os.getD i 0 = (y : Int))) /\ Hid (∀ j, j < k -> rs.getD j 0 = (pm zs os).getD j 0) /\
  Hid (wr.ownsRow w.heap.size 121 1 (.slice (some ⟨w.heap.size, 0, none⟩) 6 6) 6 (us.map Value.bool)) /\ Hid (wr.ownsRow w.heap.size 3 1 (.slice (some ⟨w.heap.size + 1, 0, none⟩) n n) n (rs.map (Value.int .i64)))) (fun i _ => n - (intOf i).toNat)
 case atStart =>
  refine ⟨0, _, _, rfl, by omega, hB, by simp, by simp, Lib.hid fun i hi => by omega, Lib.hid fun y hy => ?_, Lib.hid fun j hj => by omega, us1, rs1⟩
  constructor
  ·intro h
   rcases (by omega : y = 0 \/ y = 1 \/ y = 2 \/ y = 3 \/ y = 4 \/ y = 5) with rfl | rfl | rfl | rfl | rfl | rfl <;> cases h
  ·rintro ⟨i, hi, _⟩; omega
 case round =>
  obtain ⟨k, us, rs, rfl, hk, KB, hu, hr, hG, hU, hR, oU, oR⟩ := hrel
  clear us1 rs1 hB
  by_cases hlt : k < n
  ·obtain ⟨b2, o2, rfl, c2⟩ := RB.out k (by rw [HM.out]; exact hlt)
   obtain ⟨x, hX⟩ : ∃ x, os.getD k 0 = x := ⟨_, rfl⟩
   rw [hX] at c2
   have lt2 : b2 < w.heap.size := by have := World.block_lt_of_cell? w _ c2; simpa using this
   have c2 := Rg.keep' KB lt2 c2
   have HX := Lib.hid hX
   have i0 : (0 : Int) <= k := by omega
   have i1 : (k : Int) < n := by omega
   clear hX
   by_cases x0 : x < 0
   ·have k1 : decide (x < 0) = true := by simpa using x0
    have NG : Hid (¬ gd zs.length os zs.length) := Lib.hid fun h => by have := (h k (by rw [HN.out]; exact hlt)).1; rw [HX.out] at this; omega
    clear x0
    go_wp2
    refine bodyPost_ret (v := .tuple #[.slice none 0 0, .int .i64 1]) (by simp [results, Tryz.results71, go_sem]) rfl (Or.inr ⟨NG.out, _, rfl, KB, World.ownsRow_nil _ _ _ _⟩)
   have k1 : decide (x < 0) = false := by simpa using x0
   by_cases x1 : (n : Int) <= x
   ·have k2 : decide ((n : Int) <= x) = true := by simpa using x1
    have NG : Hid (¬ gd zs.length os zs.length) := Lib.hid fun h => by have := (h k (by rw [HN.out]; exact hlt)).2.1; rw [HX.out, HN.out] at this; omega
    clear x0 x1
    go_wp2
    refine bodyPost_ret (v := .tuple #[.slice none 0 0, .int .i64 1]) (by simp [results, Tryz.results71, go_sem]) rfl (Or.inr ⟨NG.out, _, rfl, KB, World.ownsRow_nil _ _ _ _⟩)
   obtain ⟨X, rfl⟩ : ∃ X : Nat, x = X := ⟨x.toNat, by omega⟩
   have k2 : decide ((n : Int) <= (X : Int)) = false := by simp <;> omega
   have k2' : decide (n <= X) = false := by simp <;> omega
   have hXn : X < n := by omega
   have j0 : (0 : Int) <= X := by omega
   have j1 : (X : Int) < n := by omega
   have j2 : (X : Int) < 6 := by omega
   have cu := bools_at oU.out (j := X) (by omega) hu
   have hUX := hU.out X (by omega)
   have AL : Tryz.prog.arrayLen 121 = 6 := by kernel_rfl
   obtain ⟨t, ht⟩ : ∃ t, us.getD X false = t := ⟨_, rfl⟩
   rw [ht] at cu hUX
   clear ht x0 x1
   cases t
   ·have hne : ∀ i, i < k -> os.getD i 0 ≠ (X : Int) := fun i hi e => by have := hUX.2 ⟨i, hi, e⟩; cases this
    have HG2 : Hid (gd n os (k + 1)) := Lib.hid (gd_step hG.out HX.out hXn hne)
    have HU2 := Lib.hid (us_step HX.out hu (by omega) hU.out)
    clear hne hUX
    obtain ⟨b1, o1, rfl, c1⟩ := RA.out X (by rw [HN.out]; exact hXn)
    have lt1 : b1 < w.heap.size := by have := World.block_lt_of_cell? w _ c1; simpa using this
    have c1 := Rg.keep' KB lt1 c1
    have hpm : (pm zs os).getD k 0 = zs.getD X 0 := by rw [pm_get (by rw [HM.out]; exact hlt), HX.out, Int.toNat_natCast]
    obtain ⟨z, hz⟩ : ∃ z, zs.getD X 0 = z := ⟨_, rfl⟩
    rw [hz] at c1 hpm
    have HPM := Lib.hid hpm
    clear hz hpm
    have n1 : ¬ w.heap.size = b1 := by omega
    have n2 : ¬ w.heap.size = b2 := by omega
    have n3 : ¬ w.heap.size + 1 = b1 := by omega
    have n4 : ¬ w.heap.size + 1 = b2 := by omega
    have f1 := oU.out.frozenAt X
    have sU := oU.out.stored X (.bool true)
    have oU1 := Lib.hid sU.1
    have oR1 := Lib.hid (oR.out.kept sU.2 (Or.inr (by simp [Value.ownBlock])))
    have c1' : (wr.setCell ⟨w.heap.size, X, none⟩ (.bool true)).cell? ⟨b1, o1 + X, none⟩ = some (.int .i64 z) := by rw [World.cell?_setCell_far _ _ _ _ n1]; exact c1
    have cr := cells_of oR1.out (j := k) (by omega) hr
    have fr := oR1.out.frozenAt k
    have sR := oR1.out.stored k (.int .i64 z)
    have oR2 := Lib.hid sR.1
    have oU2 := Lib.hid (oU1.out.kept sR.2 (Or.inr (by simp [Value.ownBlock])))
    have KB2 : Below w.heap.size w ((wr.setCell ⟨w.heap.size, X, none⟩ (.bool true)).setCell ⟨w.heap.size + 1, k, none⟩ (.int .i64 z)) := Below.setCell (Below.setCell KB (Nat.le_refl _) _) (Nat.le_succ _) _
    clear sU sR hU hG
    go_wp2
    go_roundw
    case rel =>
     refine ⟨k + 1, us.set X true, rs.set k z, by go_num, by omega, KB2, by simp [hu], by simp [hr], HG2, HU2, Lib.hid fun j hj => ?_, Lib.hid (by rw [List.map_set]; exact oU2.out), Lib.hid (by rw [List.map_set]; exact oR2.out)⟩
     by_cases e : j = k
     ·subst e
      rw [getD_at (by simp [hr]; omega), List.getElem_set_self]
      exact HPM.out.symm
     ·rw [getD_at (by simp [hr]; omega), List.getElem_set_ne (by omega), <- getD_at (by omega)]
      exact hR.out j (by omega)
    case measure => simp [intOf]; omega
   ·have NG : Hid (¬ gd zs.length os zs.length) := Lib.hid fun h => by
     obtain ⟨i, hi, e⟩ := hUX.1 rfl
     exact (h k (by rw [HN.out]; exact hlt)).2.2 i hi (by rw [e, HX.out])
    clear hUX
    go_wp2
    refine bodyPost_ret (v := .tuple #[.slice none 0 0, .int .i64 1]) (by simp [results, Tryz.results71, go_sem]) rfl (Or.inr ⟨NG.out, _, rfl, KB, World.ownsRow_nil _ _ _ _⟩)
  ·obtain rfl : k = n := by omega
   have e : rs = pm zs os := by
    refine List.ext_getElem (by rw [hr, HPL.out]) fun j h1 h2 => ?_
    have h := hR.out j (by omega)
    rw [getD_at h1, getD_at h2] at h
    exact h
   have HE := Lib.hid e
   clear e
   go_wp2
   refine bodyPost_ret (v := .tuple #[.slice (some ⟨w.heap.size + 1, 0, none⟩) k k, .int .i64 0]) (by simp [results, Tryz.results71, go_sem]) rfl (Or.inl ⟨by rw [HN.out]; exact hG.out, _, rfl, KB, ?_⟩)
   rw [<- HE.out, hr]
   exact oR.out
end Go.Proofs.YteaaikmejacpaaaGreatDoor.Sh


namespace Go.Proofs.YteaaikmejacpaaaGreatDoor.Sh
open Go.ChangeShapes Go.WideShapes Go.ChangeAt Go.RowKit
set_option maxRecDepth 8000
set_option linter.unusedVariables false
set_option linter.unusedSimpArgs false

end Go.Proofs.YteaaikmejacpaaaGreatDoor.Sh


namespace Go.Proofs.YteaaikmejacpaaaGreatDoor.Sh
open Go.ChangeShapes Go.WideShapes Go.ChangeAt Go.RowKit
set_option maxRecDepth 8000
set_option linter.unusedVariables false
set_option linter.unusedSimpArgs false
theorem perm_of : ∀ {l m : List Nat}, l.Nodup -> (∀ x ∈ l, x ∈ m) -> m.length <= l.length -> l.Perm m
 | [], m, _, _, h => by
  obtain rfl := List.eq_nil_of_length_eq_zero (by simpa using h : m.length = 0)
  exact List.Perm.nil
 | a :: l, m, hn, hs, h => by
  have ha : a ∈ m := hs a (List.mem_cons_self ..)
  rw [List.nodup_cons] at hn
  have h1 := List.perm_cons_erase ha
  have h2 : l.Perm (m.erase a) := perm_of hn.2 (fun x hx => (List.mem_erase_of_ne (by rintro rfl; exact hn.1 hx)).2 (hs x (List.mem_cons_of_mem _ hx))) (by rw [List.length_erase_of_mem ha]; simp at h; omega)
  exact (h2.cons a).trans h1.symm
theorem sp_perm {l m : List Int} (h : l.Perm m) : sp l = sp m := by
 induction h with
 | nil => rfl
 | cons x _ ih => show sp _ * x = sp _ * x; rw [ih]
 | swap x y l => show sp l * x * y = sp l * y * x; rw [Int.mul_assoc, Int.mul_assoc, Int.mul_comm x y]
 | trans _ _ h1 h2 => exact h1.trans h2
theorem pr_ok : ∀ (ys : List Int) (s : Int), 1 <= s -> ys.any low = false -> s * sp ys <= 4096 -> pr s ys = some (s * sp ys) := by
 intro ys
 induction ys with
 | nil => intro s _ _ _; unfold pr sp; rw [Int.mul_one]
 | cons z ys ih =>
  intro s h1 h2 h3
  simp only [List.any_cons, Bool.or_eq_false_iff] at h2
  have hz : 1 <= z := by have := h2.1; unfold low at this; simp at this; omega
  have hp := sp_pos h2.2
  have h4 : s * sp (z :: ys) = s * z * sp ys := by
   show s * (sp ys * z) = _
   rw [Int.mul_assoc, Int.mul_comm z]
  rw [h4] at h3 ⊢
  have h5 : 1 <= s * z := by have := Int.mul_pos (by omega : 0 < s) (by omega : 0 < z); omega
  have h6 := Int.mul_le_mul_of_nonneg_left hp (by omega : 0 <= s * z)
  rw [pr_go (by omega)]
  exact ih (s * z) h5 h2.2 h3
/-- A list in another order is valid where the list is. -/
theorem vE_perm {l m : List Int} (h : l.Perm m) (hv : vE m = 0) : vE l = 0 := by
 obtain ⟨h6, hl, _, hS, _⟩ := valid_of hv
 have e : l.any low = false := by
  rw [List.any_eq_false] at hl ⊢
  intro x hx
  exact hl x (h.mem_iff.1 hx)
 have e2 := sp_perm h
 exact vE_some (s := 1 * sp l) (by rw [h.length_eq]; omega) e (pr_ok _ 1 (by decide) e (by omega))
theorem order_perm {n : Nat} {os : List Int} (hl : os.length = n) (h : gd n os n) : (os.map Int.toNat).Perm (List.range n) := by
 refine perm_of ?_ ?_ (by simp [hl])
 ·rw [List.nodup_iff_pairwise_ne, List.pairwise_iff_getElem]
  intro i j hi hj hij e
  rw [List.length_map] at hi hj
  rw [List.getElem_map, List.getElem_map] at e
  have h1 := h i (by omega)
  have h2 := h j (by omega)
  have h3 := h2.2.2 i hij
  rw [getD_at hi] at h1 h3
  rw [getD_at hj] at h2 h3
  omega
 ·intro x hx
  obtain ⟨i, hi, rfl⟩ := List.getElem_of_mem hx
  rw [List.length_map] at hi
  rw [List.getElem_map, List.mem_range]
  have h1 := h i (by omega)
  rw [getD_at hi] at h1
  omega

theorem pm_perm {zs os : List Int} (hl : os.length = zs.length) (h : gd zs.length os zs.length) : (pm zs os).Perm zs := by
 have h1 := (order_perm hl h).map (fun j => zs.getD j 0)
 rw [List.map_map] at h1
 have e1 : os.map ((fun j => zs.getD j 0) ∘ Int.toNat) = pm zs os := rfl
 have e2 : (List.range zs.length).map (fun j => zs.getD j 0) = zs := by
  refine List.ext_getElem (by simp) fun j h1 h2 => ?_
  rw [List.getElem_map, List.getElem_range, getD_at h2]
 rw [e1, e2] at h1
 exact h1
theorem pm_length (zs os : List Int) : (pm zs os).length = os.length := by simp [pm]

theorem c27 (p q : Option Addr) (zs os : List Int) (c d : Nat) (w : World) (hn : zs.length <= maxLen) (RA : Hid (SlI w p zs)) (RB : Hid (SlI w q os)) :
  Calls Tryz.prog 71 #[.slice p zs.length c, .slice q os.length d] w (QW (pmL zs os) (pmE zs os) w) := by
 unfold pmL pmE
 by_cases hv : (vE zs != 0) = true
 ·rw [if_pos hv, if_pos hv]; exact c27_v p q zs os c d w hn RA hv
 rw [if_neg hv, if_neg hv]
 have hv0 : vE zs = 0 := by simpa using hv
 by_cases hl : os.length = zs.length
 ·refine (c27_ok p q zs os c d w RA RB hv0 hl).mono ?_
  rintro e w' (⟨h1, h2⟩ | ⟨h1, h2⟩)
  ·rw [if_pos ⟨hl, h1⟩, if_pos ⟨hl, h1⟩]; exact h2
  ·rw [if_neg (fun h => h1 h.2), if_neg (fun h => h1 h.2)]; exact h2
 ·rw [if_neg (fun h => hl h.1), if_neg (fun h => hl h.1)]
  exact c27_l p q zs os c d w hn RA hv0 hl
end Go.Proofs.YteaaikmejacpaaaGreatDoor.Sh


namespace Go.Proofs.YteaaikmejacpaaaGreatDoor.Sh
open Go.ChangeShapes Go.WideShapes Go.ChangeAt Go.RowKit
set_option maxRecDepth 8000
set_option linter.unusedVariables false
set_option linter.unusedSimpArgs false
theorem pm_zero {zs os : List Int} (h : pmE zs os = 0) : vE zs = 0 /\ os.length = zs.length /\ gd zs.length os zs.length /\ pmL zs os = pm zs os := by
 unfold pmE at h
 by_cases h1 : (vE zs != 0) = true
 ·rw [if_pos h1] at h; simp [h] at h1
 rw [if_neg h1] at h
 by_cases h2 : os.length = zs.length /\ gd zs.length os zs.length
 ·refine ⟨by simpa using h1, h2.1, h2.2, ?_⟩
  unfold pmL
  rw [if_neg h1, if_pos h2]
 ·rw [if_neg h2] at h; cases h

end Go.Proofs.YteaaikmejacpaaaGreatDoor.Sh


namespace Go.Proofs.YteaaikmejacpaaaGreatDoor.Sh
open Go.ChangeShapes Go.WideShapes Go.ChangeAt Go.RowKit
set_option maxRecDepth 8000
set_option linter.unusedVariables false
set_option linter.unusedSimpArgs false
set_option maxHeartbeats 4000000 in
theorem c48_none (c : Nat) (w : World) : Calls Tryz.prog 49 #[.slice none 0 c] w (OW [] w) := by
 have EN : (binOp .eql 24 (.slice none 0 c) (.slice none 0 0)).run Tryz.prog w = .ok (.bool true) w := by kernel_rfl
 go_enter Tryz.func49, Tryz.ntmps49
 go_wp2
 go_ret
 exact ⟨_, rfl, Below.refl _ _, World.ownsRow_nil _ _ _ _⟩
set_option maxHeartbeats 4000000 in
theorem c48_empty (ad : Addr) (c : Nat) (w : World) : Calls Tryz.prog 49 #[.slice (some ad) 0 c] w (OW [] w) := by
 obtain ⟨i0, hi, hz0, hz1, hz2⟩ := info_parts info3
 have EN : (binOp .eql 24 (.slice (some ad) 0 c) (.slice none 0 0)).run Tryz.prog w = .ok (.bool false) w := by kernel_rfl
 go_enter Tryz.func49, Tryz.ntmps49
 go_wp2_with (at_builtin; refine wpList_append_own _ rfl _ _ 24 rfl w.heap.size 3 i0 (.int .i64 0) 1 8 Tryz.underlying24 hi hz0 hz1 hz2 rfl (by decide) _ _ _ rfl (World.ownsRow_lit w #[] 0 (Nat.le_refl _) (by decide) rfl) ad 0 c [] rfl rfl ?_ ?_ ?_ ?_ ?_ ?_)
 ·intro j u hj; simp at hj
 ·intro u hu; cases hu
 ·decide
 ·decide
 ·simp
 intro v' w1 hown' hgrow _
 have hB2 : Below w.heap.size w w1 := ((Below.refl _ _).alloc (Nat.le_refl _) _).grown hgrow (by simp) (fun j hj => by cases hj; exact Nat.le_refl _)
 have hO2 := Lib.hid hown'
 clear hown' hgrow hi hz0 hz1 hz2
 go_wp2
 go_ret
 exact ⟨_, rfl, hB2, hO2.out⟩
/-- slices.Clone of any slice. -/
theorem c48g (p : Option Addr) (zs : List Int) (c : Nat) (w : World) (hn : zs.length <= maxLen) (hby : zs.length * 8 <= 140737488355328) (RA : Hid (SlI w p zs)) :
  Calls Tryz.prog 49 #[.slice p zs.length c] w (OW zs w) := by
 by_cases h : zs.length = 0
 ·obtain rfl := List.eq_nil_of_length_eq_zero h
  cases p with
  | none => exact c48_none c w
  | some ad => exact c48_empty ad c w
 ·obtain ⟨b, o, rfl, _⟩ := RA.out 0 (by omega)
  exact c48 b o zs c w hn hby RA
/-- The size along axis j of a list that is aligned at its end with n axes. -/
def ga (a : List Int) (n j : Nat) : Int := if j < n - a.length then 1 else a.getD (j - (n - a.length)) 0
def bn (a b : List Int) : Nat := max a.length b.length

def bk (a b : List Int) (j : Nat) : Prop := ga a (bn a b) j = ga b (bn a b) j \/ ga a (bn a b) j = 1 \/ ga b (bn a b) j = 1

end Go.Proofs.YteaaikmejacpaaaGreatDoor.Sh


namespace Go.Proofs.YteaaikmejacpaaaGreatDoor.Te
open Go.ChangeShapes Go.WideShapes Go.ChangeAt Go.RowKit
open Fx Va Sh
set_option maxRecDepth 8000
set_option linter.unusedVariables false
set_option linter.unusedSimpArgs false

theorem tyc5 {w : World} {g : Nat} {K B F R O : Int} (h0 : w.cell? ⟨g, 0, none⟩ = some (.int .i64 K)) (h1 : w.cell? ⟨g, 1, none⟩ = some (.int .i64 B)) (h2 : w.cell? ⟨g, 2, none⟩ = some (.int .i64 F)) (h3 : w.cell? ⟨g, 3, none⟩ = some (.int .i64 R)) (h4 : w.cell? ⟨g, 4, none⟩ = some (.int .i64 O)) : TyC w g K B F R O := And.intro h0 (And.intro h1 (And.intro h2 (And.intro h3 h4)))
/-- A tensor as a value. -/
abbrev Tn (K B F R O : Int) (p : Option Addr) (n c : Nat) (q : Option Addr) (m d : Nat) : Value := .agg #[.int .i64 K, .int .i64 B, .int .i64 F, .int .i64 R, .int .i64 O, .slice p n c, .slice q m d]
/-- What Validate answers of a tensor. -/
def tE (K B F R O : Int) (zs : List Int) (vs : List (Int × Int)) : Int := if ty K B F R O = true then (if (vE zs != 0) = true then vE zs else if ((vs.length : Int) != sp zs || vs.any (badV K B F R O)) = true then 1 else 0) else 10

set_option maxRecDepth 100000 in
set_option maxHeartbeats 8000000 in
theorem tv_a (K B F R O : Int) (p : Option Addr) (zs : List Int) (c : Nat) (q : Option Addr) (vs : List (Int × Int)) (d : Nat) (w : World) (b0 : -9223372036854775808 <= B) (b1 : B <= 9223372036854775807) (hn : zs.length <= maxLen) (hm : vs.length <= maxLen) (RA : Hid (SlI w p zs)) (RB : Hid (SlV w q vs)) (ht : ty K B F R O = false) :
  Calls Tryz.prog 20 #[Tn K B F R O p zs.length c q vs.length d] w fun e w' => e = .returned (.int .i64 10) /\ Below w.heap.size w w' := by
 have VT0 := fun w => c_vt K B F R O w
 rw [ht] at VT0
 have VT := Lib.hid VT0
 obtain ⟨m, hmm⟩ : ∃ m, vs.length = m := ⟨_, rfl⟩
 have HM := Lib.hid hmm
 rw [hmm] at hm ⊢
 have B0 : Hid (Below w.heap.size w (w.alloc (Obj.cells #[Value.int .i64 K, Value.int .i64 B, Value.int .i64 F, Value.int .i64 R, Value.int .i64 O, Value.slice p zs.length c, Value.slice q m d] 27))) := Lib.hid ((Below.refl _ _).alloc (Nat.le_refl _) _)
 clear VT0 ht hmm
 go_enter Tryz.func20, Tryz.ntmps20
 go_wp2_with (go_at_call 46; (with_reducible refine (VT.out _).mono ?_); rintro e w1 ⟨rfl, hb⟩; have KB := Lib.hid (B0.out.trans (hb.mono B0.out.size)); have c0 : w1.cell? ⟨w.heap.size, 0, none⟩ = some (.int .i64 K) := Rg.keep hb (by simp) (by go_cell); have c1 : w1.cell? ⟨w.heap.size, 1, none⟩ = some (.int .i64 B) := Rg.keep hb (by simp) (by go_cell); have c2 : w1.cell? ⟨w.heap.size, 2, none⟩ = some (.int .i64 F) := Rg.keep hb (by simp) (by go_cell); have c3 : w1.cell? ⟨w.heap.size, 3, none⟩ = some (.int .i64 R) := Rg.keep hb (by simp) (by go_cell); have c4 : w1.cell? ⟨w.heap.size, 4, none⟩ = some (.int .i64 O) := Rg.keep hb (by simp) (by go_cell); have c5 : w1.cell? ⟨w.heap.size, 5, none⟩ = some (.slice p zs.length c) := Rg.keep hb (by simp) (by go_cell); have c6 : w1.cell? ⟨w.heap.size, 6, none⟩ = some (.slice q m d) := Rg.keep hb (by simp) (by go_cell); clear hb)
 go_ret
 exact ⟨rfl, KB.out⟩

set_option maxRecDepth 100000 in
set_option maxHeartbeats 8000000 in
theorem tv_b (K B F R O : Int) (p : Option Addr) (zs : List Int) (c : Nat) (q : Option Addr) (vs : List (Int × Int)) (d : Nat) (w : World) (b0 : -9223372036854775808 <= B) (b1 : B <= 9223372036854775807) (hn : zs.length <= maxLen) (hm : vs.length <= maxLen) (RA : Hid (SlI w p zs)) (RB : Hid (SlV w q vs)) (ht : ty K B F R O = true) (hv : (vE zs != 0) = true) :
  Calls Tryz.prog 20 #[Tn K B F R O p zs.length c q vs.length d] w fun e w' => e = .returned (.int .i64 (vE zs)) /\ Below w.heap.size w w' := by
 have VT0 := fun w => c_vt K B F R O w
 rw [ht] at VT0
 have VT := Lib.hid VT0
 have SV0 := fun w h => c14 p zs c w hn h
 obtain ⟨V, hV⟩ : ∃ V, vE zs = V := ⟨_, rfl⟩
 rw [hV] at SV0 hv ⊢
 have SV := Lib.hid SV0
 obtain ⟨m, hmm⟩ : ∃ m, vs.length = m := ⟨_, rfl⟩
 have HM := Lib.hid hmm
 rw [hmm] at hm ⊢
 have B0 : Hid (Below w.heap.size w (w.alloc (Obj.cells #[Value.int .i64 K, Value.int .i64 B, Value.int .i64 F, Value.int .i64 R, Value.int .i64 O, Value.slice p zs.length c, Value.slice q m d] 27))) := Lib.hid ((Below.refl _ _).alloc (Nat.le_refl _) _)
 have hv2 : (V == 0) = false := by simpa using hv
 clear VT0 ht hmm SV0 hV
 go_enter Tryz.func20, Tryz.ntmps20
 go_wp2_with (first | (go_at_call 46; (with_reducible refine (VT.out _).mono ?_); rintro e w1 ⟨rfl, hb⟩; have KB := Lib.hid (B0.out.trans (hb.mono B0.out.size)); have c0 : w1.cell? ⟨w.heap.size, 0, none⟩ = some (.int .i64 K) := Rg.keep hb (by simp) (by go_cell); have c1 : w1.cell? ⟨w.heap.size, 1, none⟩ = some (.int .i64 B) := Rg.keep hb (by simp) (by go_cell); have c2 : w1.cell? ⟨w.heap.size, 2, none⟩ = some (.int .i64 F) := Rg.keep hb (by simp) (by go_cell); have c3 : w1.cell? ⟨w.heap.size, 3, none⟩ = some (.int .i64 R) := Rg.keep hb (by simp) (by go_cell); have c4 : w1.cell? ⟨w.heap.size, 4, none⟩ = some (.int .i64 O) := Rg.keep hb (by simp) (by go_cell); have c5 : w1.cell? ⟨w.heap.size, 5, none⟩ = some (.slice p zs.length c) := Rg.keep hb (by simp) (by go_cell); have c6 : w1.cell? ⟨w.heap.size, 6, none⟩ = some (.slice q m d) := Rg.keep hb (by simp) (by go_cell); clear hb) | (go_at_call 47; (with_reducible refine (SV.out _ (Lib.hid (SlI.keep KB.out RA.out))).mono ?_); rintro e w9 ⟨rfl, rfl⟩))
 go_ret
 exact ⟨rfl, KB.out⟩

set_option maxRecDepth 100000 in
set_option maxHeartbeats 8000000 in
theorem tv_c (K B F R O : Int) (p : Option Addr) (zs : List Int) (c : Nat) (q : Option Addr) (vs : List (Int × Int)) (d : Nat) (w : World) (b0 : -9223372036854775808 <= B) (b1 : B <= 9223372036854775807) (hn : zs.length <= maxLen) (hm : vs.length <= maxLen) (RA : Hid (SlI w p zs)) (RB : Hid (SlV w q vs)) (ht : ty K B F R O = true) (hv : vE zs = 0) (hl : ((vs.length : Int) != sp zs) = true) :
  Calls Tryz.prog 20 #[Tn K B F R O p zs.length c q vs.length d] w fun e w' => e = .returned (.int .i64 1) /\ Below w.heap.size w w' := by
 have VT0 := fun w => c_vt K B F R O w
 rw [ht] at VT0
 have VT := Lib.hid VT0
 have SV0 := fun w h => c14 p zs c w hn h
 rw [hv] at SV0
 have SV := Lib.hid SV0
 have SZ0 := fun w h => c16 p zs c w hn h
 rw [sz_sp hv] at SZ0
 have CF1 := fun (g : Nat) (w : World) h1 h2 => cfV K B F R O q vs d g w b0 b1 hm h1 h2
 skip
 obtain ⟨SP, hSP⟩ : ∃ SP, sp zs = SP := ⟨_, rfl⟩
 rw [hSP] at SZ0 hl
 obtain ⟨m, hmm⟩ : ∃ m, vs.length = m := ⟨_, rfl⟩
 have HM := Lib.hid hmm
 rw [hmm] at hm hl CF1 ⊢
 have SZ := Lib.hid SZ0
 have CF := Lib.hid (CF1 w.heap.size)
 have B0 : Hid (Below w.heap.size w (w.alloc (Obj.cells #[Value.int .i64 K, Value.int .i64 B, Value.int .i64 F, Value.int .i64 R, Value.int .i64 O, Value.slice p zs.length c, Value.slice q m d] 27))) := Lib.hid ((Below.refl _ _).alloc (Nat.le_refl _) _)
 clear VT0 ht hmm SV0 SZ0 CF1 hSP hv
 go_enter Tryz.func20, Tryz.ntmps20
 go_wp2_with (first | (go_at_call 46; (with_reducible refine (VT.out _).mono ?_); rintro e w1 ⟨rfl, hb⟩; have KB := Lib.hid (B0.out.trans (hb.mono B0.out.size)); have c0 : w1.cell? ⟨w.heap.size, 0, none⟩ = some (.int .i64 K) := Rg.keep hb (by simp) (by go_cell); have c1 : w1.cell? ⟨w.heap.size, 1, none⟩ = some (.int .i64 B) := Rg.keep hb (by simp) (by go_cell); have c2 : w1.cell? ⟨w.heap.size, 2, none⟩ = some (.int .i64 F) := Rg.keep hb (by simp) (by go_cell); have c3 : w1.cell? ⟨w.heap.size, 3, none⟩ = some (.int .i64 R) := Rg.keep hb (by simp) (by go_cell); have c4 : w1.cell? ⟨w.heap.size, 4, none⟩ = some (.int .i64 O) := Rg.keep hb (by simp) (by go_cell); have c5 : w1.cell? ⟨w.heap.size, 5, none⟩ = some (.slice p zs.length c) := Rg.keep hb (by simp) (by go_cell); have c6 : w1.cell? ⟨w.heap.size, 6, none⟩ = some (.slice q m d) := Rg.keep hb (by simp) (by go_cell); clear hb) | (go_at_call 47; (with_reducible refine (SV.out _ (Lib.hid (SlI.keep KB.out RA.out))).mono ?_); rintro e w9 ⟨rfl, rfl⟩))
 have RD := Lib.hid (SlI.keep KB.out RA.out)
 have RV := Lib.hid (SlV.below RB.out KB.out)
 have HS : Hid (∀ u u' : World, (u.cell? ⟨w.heap.size, 0, none⟩ = some (.int .i64 K) /\ u.cell? ⟨w.heap.size, 1, none⟩ = some (.int .i64 B) /\ u.cell? ⟨w.heap.size, 2, none⟩ = some (.int .i64 F) /\ u.cell? ⟨w.heap.size, 3, none⟩ = some (.int .i64 R) /\ u.cell? ⟨w.heap.size, 4, none⟩ = some (.int .i64 O) /\ u.cell? ⟨w.heap.size, 5, none⟩ = some (.slice p zs.length c) /\ u.cell? ⟨w.heap.size, 6, none⟩ = some (.slice q m d) /\ Below w1.heap.size w1 u) -> Below u.heap.size u u' -> (u'.cell? ⟨w.heap.size, 0, none⟩ = some (.int .i64 K) /\ u'.cell? ⟨w.heap.size, 1, none⟩ = some (.int .i64 B) /\ u'.cell? ⟨w.heap.size, 2, none⟩ = some (.int .i64 F) /\ u'.cell? ⟨w.heap.size, 3, none⟩ = some (.int .i64 R) /\ u'.cell? ⟨w.heap.size, 4, none⟩ = some (.int .i64 O) /\ u'.cell? ⟨w.heap.size, 5, none⟩ = some (.slice p zs.length c) /\ u'.cell? ⟨w.heap.size, 6, none⟩ = some (.slice q m d) /\ Below w1.heap.size w1 u')) := Lib.hid (fun u u' h hb => ⟨Rg.keep hb (World.block_lt_of_cell? _ _ h.1) h.1, Rg.keep hb (World.block_lt_of_cell? _ _ h.2.1) h.2.1, Rg.keep hb (World.block_lt_of_cell? _ _ h.2.2.1) h.2.2.1, Rg.keep hb (World.block_lt_of_cell? _ _ h.2.2.2.1) h.2.2.2.1, Rg.keep hb (World.block_lt_of_cell? _ _ h.2.2.2.2.1) h.2.2.2.2.1, Rg.keep hb (World.block_lt_of_cell? _ _ h.2.2.2.2.2.1) h.2.2.2.2.2.1, Rg.keep hb (World.block_lt_of_cell? _ _ h.2.2.2.2.2.2.1) h.2.2.2.2.2.2.1, h.2.2.2.2.2.2.2.trans (hb.mono h.2.2.2.2.2.2.2.size)⟩)
 refine Rk.begin (S := fun wS => wS.cell? ⟨w.heap.size, 0, none⟩ = some (.int .i64 K) /\ wS.cell? ⟨w.heap.size, 1, none⟩ = some (.int .i64 B) /\ wS.cell? ⟨w.heap.size, 2, none⟩ = some (.int .i64 F) /\ wS.cell? ⟨w.heap.size, 3, none⟩ = some (.int .i64 R) /\ wS.cell? ⟨w.heap.size, 4, none⟩ = some (.int .i64 O) /\ wS.cell? ⟨w.heap.size, 5, none⟩ = some (.slice p zs.length c) /\ wS.cell? ⟨w.heap.size, 6, none⟩ = some (.slice q m d) /\ Below w1.heap.size w1 wS) 12 (by kernel_rfl) ⟨c0, c1, c2, c3, c4, c5, c6, Below.drew (Below.refl _ _)⟩ (fun hHeld => ?_)
 refine SqR.p 0 ?_
 refine SqR.l [2, 6, 7, 12] 1 ?_
 refine SqR.p 2 ?_
 refine SqR.p 3 ?_
 refine SqR.l [5, 7, 12] 4 ?_
 refine Rk.one (i := 5) (by kernel_rfl) rfl (fun KK hK => ?_)
 rw [if_pos (by kernel_rfl)]
 go_simp
 ((with_reducible refine (SZ.out _ (Lib.hid (SlI.keep (hHeld.2.2.2.2.2.2.2) RD.out))).mono ?_); rintro e w9 ⟨rfl, rfl⟩)
 first | (refine hK.out _ _ (fun _ => hHeld) (fun hHeld => ?_)) | (refine hK.out _ _ hHeld (fun hHeld => ?_)) | (go_wp2_with fail; refine hK.out _ _ hHeld (fun hHeld => ?_))
 clear hK KK
 refine SqR.p 6 ?_
 refine SqR.p 7 ?_
 refine Rk.takeP (i := 8) (v := undef) rfl (by kernel_rfl) (by kernel_rfl) (by kernel_rfl) (by kernel_rfl) (fun _ _ _ h => h) (Or.inr ⟨by kernel_rfl, rfl⟩) (by assumption) ?_
 try simp only [Act.put, List.setIfInBounds_toArray, List.set_cons_zero, List.set_cons_succ]
 refine Rk.takeP (i := 9) (v := undef) rfl (by kernel_rfl) (by kernel_rfl) (by kernel_rfl) (by kernel_rfl) (fun _ _ _ h => h) (Or.inr ⟨by kernel_rfl, rfl⟩) (by assumption) ?_
 try simp only [Act.put, List.setIfInBounds_toArray, List.set_cons_zero, List.set_cons_succ]
 refine Rk.takeP (i := 10) (v := undef) rfl (by kernel_rfl) (by kernel_rfl) (by kernel_rfl) (by kernel_rfl) (fun _ _ _ h => h) (Or.inr ⟨by kernel_rfl, rfl⟩) (by assumption) ?_
 try simp only [Act.put, List.setIfInBounds_toArray, List.set_cons_zero, List.set_cons_succ]
 refine Rk.takeP (i := 11) (v := undef) rfl (by kernel_rfl) (by kernel_rfl) (by kernel_rfl) (by kernel_rfl) (fun _ _ _ h => h) (Or.inr ⟨by kernel_rfl, rfl⟩) (by assumption) ?_
 try simp only [Act.put, List.setIfInBounds_toArray, List.set_cons_zero, List.set_cons_succ]
 refine Rk.tail [12] [_] (by kernel_rfl) (by kernel_rfl) rfl (by decide) ?_

 have K9 := KB.out.trans ((hHeld.2.2.2.2.2.2.2).mono KB.out.size)
 clear hHeld HS
 go_wp2_with fail
 go_ret
 exact ⟨rfl, K9⟩

set_option maxRecDepth 100000 in
set_option maxHeartbeats 8000000 in
theorem tv_d (K B F R O : Int) (p : Option Addr) (zs : List Int) (c : Nat) (q : Option Addr) (vs : List (Int × Int)) (d : Nat) (w : World) (b0 : -9223372036854775808 <= B) (b1 : B <= 9223372036854775807) (hn : zs.length <= maxLen) (hm : vs.length <= maxLen) (RA : Hid (SlI w p zs)) (RB : Hid (SlV w q vs)) (ht : ty K B F R O = true) (hv : vE zs = 0) (hl : ((vs.length : Int) != sp zs) = false) (ha : vs.any (badV K B F R O) = true) :
  Calls Tryz.prog 20 #[Tn K B F R O p zs.length c q vs.length d] w fun e w' => e = .returned (.int .i64 1) /\ Below w.heap.size w w' := by
 have VT0 := fun w => c_vt K B F R O w
 rw [ht] at VT0
 have VT := Lib.hid VT0
 have SV0 := fun w h => c14 p zs c w hn h
 rw [hv] at SV0
 have SV := Lib.hid SV0
 have SZ0 := fun w h => c16 p zs c w hn h
 rw [sz_sp hv] at SZ0
 have CF1 := fun (g : Nat) (w : World) h1 h2 => cfV K B F R O q vs d g w b0 b1 hm h1 h2
 rw [ha] at CF1; clear ha
 obtain ⟨SP, hSP⟩ : ∃ SP, sp zs = SP := ⟨_, rfl⟩
 rw [hSP] at SZ0 hl
 obtain ⟨m, hmm⟩ : ∃ m, vs.length = m := ⟨_, rfl⟩
 have HM := Lib.hid hmm
 rw [hmm] at hm hl CF1 ⊢
 have SZ := Lib.hid SZ0
 have CF := Lib.hid (CF1 w.heap.size)
 have B0 : Hid (Below w.heap.size w (w.alloc (Obj.cells #[Value.int .i64 K, Value.int .i64 B, Value.int .i64 F, Value.int .i64 R, Value.int .i64 O, Value.slice p zs.length c, Value.slice q m d] 27))) := Lib.hid ((Below.refl _ _).alloc (Nat.le_refl _) _)
 clear VT0 ht hmm SV0 SZ0 CF1 hSP hv
 go_enter Tryz.func20, Tryz.ntmps20
 go_wp2_with (first | (go_at_call 46; (with_reducible refine (VT.out _).mono ?_); rintro e w1 ⟨rfl, hb⟩; have KB := Lib.hid (B0.out.trans (hb.mono B0.out.size)); have c0 : w1.cell? ⟨w.heap.size, 0, none⟩ = some (.int .i64 K) := Rg.keep hb (by simp) (by go_cell); have c1 : w1.cell? ⟨w.heap.size, 1, none⟩ = some (.int .i64 B) := Rg.keep hb (by simp) (by go_cell); have c2 : w1.cell? ⟨w.heap.size, 2, none⟩ = some (.int .i64 F) := Rg.keep hb (by simp) (by go_cell); have c3 : w1.cell? ⟨w.heap.size, 3, none⟩ = some (.int .i64 R) := Rg.keep hb (by simp) (by go_cell); have c4 : w1.cell? ⟨w.heap.size, 4, none⟩ = some (.int .i64 O) := Rg.keep hb (by simp) (by go_cell); have c5 : w1.cell? ⟨w.heap.size, 5, none⟩ = some (.slice p zs.length c) := Rg.keep hb (by simp) (by go_cell); have c6 : w1.cell? ⟨w.heap.size, 6, none⟩ = some (.slice q m d) := Rg.keep hb (by simp) (by go_cell); clear hb) | (go_at_call 47; (with_reducible refine (SV.out _ (Lib.hid (SlI.keep KB.out RA.out))).mono ?_); rintro e w9 ⟨rfl, rfl⟩))
 have RD := Lib.hid (SlI.keep KB.out RA.out)
 have RV := Lib.hid (SlV.below RB.out KB.out)
 have HS : Hid (∀ u u' : World, (u.cell? ⟨w.heap.size, 0, none⟩ = some (.int .i64 K) /\ u.cell? ⟨w.heap.size, 1, none⟩ = some (.int .i64 B) /\ u.cell? ⟨w.heap.size, 2, none⟩ = some (.int .i64 F) /\ u.cell? ⟨w.heap.size, 3, none⟩ = some (.int .i64 R) /\ u.cell? ⟨w.heap.size, 4, none⟩ = some (.int .i64 O) /\ u.cell? ⟨w.heap.size, 5, none⟩ = some (.slice p zs.length c) /\ u.cell? ⟨w.heap.size, 6, none⟩ = some (.slice q m d) /\ Below w1.heap.size w1 u) -> Below u.heap.size u u' -> (u'.cell? ⟨w.heap.size, 0, none⟩ = some (.int .i64 K) /\ u'.cell? ⟨w.heap.size, 1, none⟩ = some (.int .i64 B) /\ u'.cell? ⟨w.heap.size, 2, none⟩ = some (.int .i64 F) /\ u'.cell? ⟨w.heap.size, 3, none⟩ = some (.int .i64 R) /\ u'.cell? ⟨w.heap.size, 4, none⟩ = some (.int .i64 O) /\ u'.cell? ⟨w.heap.size, 5, none⟩ = some (.slice p zs.length c) /\ u'.cell? ⟨w.heap.size, 6, none⟩ = some (.slice q m d) /\ Below w1.heap.size w1 u')) := Lib.hid (fun u u' h hb => ⟨Rg.keep hb (World.block_lt_of_cell? _ _ h.1) h.1, Rg.keep hb (World.block_lt_of_cell? _ _ h.2.1) h.2.1, Rg.keep hb (World.block_lt_of_cell? _ _ h.2.2.1) h.2.2.1, Rg.keep hb (World.block_lt_of_cell? _ _ h.2.2.2.1) h.2.2.2.1, Rg.keep hb (World.block_lt_of_cell? _ _ h.2.2.2.2.1) h.2.2.2.2.1, Rg.keep hb (World.block_lt_of_cell? _ _ h.2.2.2.2.2.1) h.2.2.2.2.2.1, Rg.keep hb (World.block_lt_of_cell? _ _ h.2.2.2.2.2.2.1) h.2.2.2.2.2.2.1, h.2.2.2.2.2.2.2.trans (hb.mono h.2.2.2.2.2.2.2.size)⟩)
 refine Rk.begin (S := fun wS => wS.cell? ⟨w.heap.size, 0, none⟩ = some (.int .i64 K) /\ wS.cell? ⟨w.heap.size, 1, none⟩ = some (.int .i64 B) /\ wS.cell? ⟨w.heap.size, 2, none⟩ = some (.int .i64 F) /\ wS.cell? ⟨w.heap.size, 3, none⟩ = some (.int .i64 R) /\ wS.cell? ⟨w.heap.size, 4, none⟩ = some (.int .i64 O) /\ wS.cell? ⟨w.heap.size, 5, none⟩ = some (.slice p zs.length c) /\ wS.cell? ⟨w.heap.size, 6, none⟩ = some (.slice q m d) /\ Below w1.heap.size w1 wS) 12 (by kernel_rfl) ⟨c0, c1, c2, c3, c4, c5, c6, Below.drew (Below.refl _ _)⟩ (fun hHeld => ?_)
 refine SqR.p 0 ?_
 refine SqR.l [2, 6, 7, 12] 1 ?_
 refine SqR.p 2 ?_
 refine SqR.p 3 ?_
 refine SqR.l [5, 7, 12] 4 ?_
 refine Rk.one (i := 5) (by kernel_rfl) rfl (fun KK hK => ?_)
 rw [if_pos (by kernel_rfl)]
 go_simp
 ((with_reducible refine (SZ.out _ (Lib.hid (SlI.keep (hHeld.2.2.2.2.2.2.2) RD.out))).mono ?_); rintro e w9 ⟨rfl, rfl⟩)
 first | (refine hK.out _ _ (fun _ => hHeld) (fun hHeld => ?_)) | (refine hK.out _ _ hHeld (fun hHeld => ?_)) | (go_wp2_with fail; refine hK.out _ _ hHeld (fun hHeld => ?_))
 clear hK KK
 refine SqR.p 6 ?_
 refine SqR.p 7 ?_
 refine SqR.p 8 ?_
 refine SqR.l [11, 12] 9 ?_
 refine SqR.p 10 ?_
 refine Rk.one (i := 11) (by kernel_rfl) rfl (fun KK hK => ?_)
 rw [if_pos (by kernel_rfl)]
 go_simp
 ((with_reducible refine (CF.out _ (Lib.hid (SlV.below RV.out (hHeld.2.2.2.2.2.2.2))) (Lib.hid (tyc5 hHeld.1 hHeld.2.1 hHeld.2.2.1 hHeld.2.2.2.1 hHeld.2.2.2.2.1))).mono ?_); rintro e u ⟨rfl, hb⟩)
 first | (refine hK.out _ _ (fun _ => HS.out _ _ hHeld hb) (fun hHeld => ?_)) | (refine hK.out _ _ (HS.out _ _ hHeld hb) (fun hHeld => ?_)) | (go_wp2_with fail; refine hK.out _ _ (HS.out _ _ hHeld hb) (fun hHeld => ?_))
 clear hK KK
 refine Rk.tail [12] [_] (by kernel_rfl) (by kernel_rfl) rfl (by decide) ?_

 have K9 := KB.out.trans ((hHeld.2.2.2.2.2.2.2).mono KB.out.size)
 clear hHeld HS
 go_wp2_with fail
 go_ret
 exact ⟨rfl, K9⟩

set_option maxRecDepth 100000 in
set_option maxHeartbeats 8000000 in
theorem tv_e (K B F R O : Int) (p : Option Addr) (zs : List Int) (c : Nat) (q : Option Addr) (vs : List (Int × Int)) (d : Nat) (w : World) (b0 : -9223372036854775808 <= B) (b1 : B <= 9223372036854775807) (hn : zs.length <= maxLen) (hm : vs.length <= maxLen) (RA : Hid (SlI w p zs)) (RB : Hid (SlV w q vs)) (ht : ty K B F R O = true) (hv : vE zs = 0) (hl : ((vs.length : Int) != sp zs) = false) (ha : vs.any (badV K B F R O) = false) :
  Calls Tryz.prog 20 #[Tn K B F R O p zs.length c q vs.length d] w fun e w' => e = .returned (.int .i64 0) /\ Below w.heap.size w w' := by
 have VT0 := fun w => c_vt K B F R O w
 rw [ht] at VT0
 have VT := Lib.hid VT0
 have SV0 := fun w h => c14 p zs c w hn h
 rw [hv] at SV0
 have SV := Lib.hid SV0
 have SZ0 := fun w h => c16 p zs c w hn h
 rw [sz_sp hv] at SZ0
 have CF1 := fun (g : Nat) (w : World) h1 h2 => cfV K B F R O q vs d g w b0 b1 hm h1 h2
 rw [ha] at CF1; clear ha
 obtain ⟨SP, hSP⟩ : ∃ SP, sp zs = SP := ⟨_, rfl⟩
 rw [hSP] at SZ0 hl
 obtain ⟨m, hmm⟩ : ∃ m, vs.length = m := ⟨_, rfl⟩
 have HM := Lib.hid hmm
 rw [hmm] at hm hl CF1 ⊢
 have SZ := Lib.hid SZ0
 have CF := Lib.hid (CF1 w.heap.size)
 have B0 : Hid (Below w.heap.size w (w.alloc (Obj.cells #[Value.int .i64 K, Value.int .i64 B, Value.int .i64 F, Value.int .i64 R, Value.int .i64 O, Value.slice p zs.length c, Value.slice q m d] 27))) := Lib.hid ((Below.refl _ _).alloc (Nat.le_refl _) _)
 clear VT0 ht hmm SV0 SZ0 CF1 hSP hv
 go_enter Tryz.func20, Tryz.ntmps20
 go_wp2_with (first | (go_at_call 46; (with_reducible refine (VT.out _).mono ?_); rintro e w1 ⟨rfl, hb⟩; have KB := Lib.hid (B0.out.trans (hb.mono B0.out.size)); have c0 : w1.cell? ⟨w.heap.size, 0, none⟩ = some (.int .i64 K) := Rg.keep hb (by simp) (by go_cell); have c1 : w1.cell? ⟨w.heap.size, 1, none⟩ = some (.int .i64 B) := Rg.keep hb (by simp) (by go_cell); have c2 : w1.cell? ⟨w.heap.size, 2, none⟩ = some (.int .i64 F) := Rg.keep hb (by simp) (by go_cell); have c3 : w1.cell? ⟨w.heap.size, 3, none⟩ = some (.int .i64 R) := Rg.keep hb (by simp) (by go_cell); have c4 : w1.cell? ⟨w.heap.size, 4, none⟩ = some (.int .i64 O) := Rg.keep hb (by simp) (by go_cell); have c5 : w1.cell? ⟨w.heap.size, 5, none⟩ = some (.slice p zs.length c) := Rg.keep hb (by simp) (by go_cell); have c6 : w1.cell? ⟨w.heap.size, 6, none⟩ = some (.slice q m d) := Rg.keep hb (by simp) (by go_cell); clear hb) | (go_at_call 47; (with_reducible refine (SV.out _ (Lib.hid (SlI.keep KB.out RA.out))).mono ?_); rintro e w9 ⟨rfl, rfl⟩))
 have RD := Lib.hid (SlI.keep KB.out RA.out)
 have RV := Lib.hid (SlV.below RB.out KB.out)
 have HS : Hid (∀ u u' : World, (u.cell? ⟨w.heap.size, 0, none⟩ = some (.int .i64 K) /\ u.cell? ⟨w.heap.size, 1, none⟩ = some (.int .i64 B) /\ u.cell? ⟨w.heap.size, 2, none⟩ = some (.int .i64 F) /\ u.cell? ⟨w.heap.size, 3, none⟩ = some (.int .i64 R) /\ u.cell? ⟨w.heap.size, 4, none⟩ = some (.int .i64 O) /\ u.cell? ⟨w.heap.size, 5, none⟩ = some (.slice p zs.length c) /\ u.cell? ⟨w.heap.size, 6, none⟩ = some (.slice q m d) /\ Below w1.heap.size w1 u) -> Below u.heap.size u u' -> (u'.cell? ⟨w.heap.size, 0, none⟩ = some (.int .i64 K) /\ u'.cell? ⟨w.heap.size, 1, none⟩ = some (.int .i64 B) /\ u'.cell? ⟨w.heap.size, 2, none⟩ = some (.int .i64 F) /\ u'.cell? ⟨w.heap.size, 3, none⟩ = some (.int .i64 R) /\ u'.cell? ⟨w.heap.size, 4, none⟩ = some (.int .i64 O) /\ u'.cell? ⟨w.heap.size, 5, none⟩ = some (.slice p zs.length c) /\ u'.cell? ⟨w.heap.size, 6, none⟩ = some (.slice q m d) /\ Below w1.heap.size w1 u')) := Lib.hid (fun u u' h hb => ⟨Rg.keep hb (World.block_lt_of_cell? _ _ h.1) h.1, Rg.keep hb (World.block_lt_of_cell? _ _ h.2.1) h.2.1, Rg.keep hb (World.block_lt_of_cell? _ _ h.2.2.1) h.2.2.1, Rg.keep hb (World.block_lt_of_cell? _ _ h.2.2.2.1) h.2.2.2.1, Rg.keep hb (World.block_lt_of_cell? _ _ h.2.2.2.2.1) h.2.2.2.2.1, Rg.keep hb (World.block_lt_of_cell? _ _ h.2.2.2.2.2.1) h.2.2.2.2.2.1, Rg.keep hb (World.block_lt_of_cell? _ _ h.2.2.2.2.2.2.1) h.2.2.2.2.2.2.1, h.2.2.2.2.2.2.2.trans (hb.mono h.2.2.2.2.2.2.2.size)⟩)
 refine Rk.begin (S := fun wS => wS.cell? ⟨w.heap.size, 0, none⟩ = some (.int .i64 K) /\ wS.cell? ⟨w.heap.size, 1, none⟩ = some (.int .i64 B) /\ wS.cell? ⟨w.heap.size, 2, none⟩ = some (.int .i64 F) /\ wS.cell? ⟨w.heap.size, 3, none⟩ = some (.int .i64 R) /\ wS.cell? ⟨w.heap.size, 4, none⟩ = some (.int .i64 O) /\ wS.cell? ⟨w.heap.size, 5, none⟩ = some (.slice p zs.length c) /\ wS.cell? ⟨w.heap.size, 6, none⟩ = some (.slice q m d) /\ Below w1.heap.size w1 wS) 12 (by kernel_rfl) ⟨c0, c1, c2, c3, c4, c5, c6, Below.drew (Below.refl _ _)⟩ (fun hHeld => ?_)
 refine SqR.p 0 ?_
 refine SqR.l [2, 6, 7, 12] 1 ?_
 refine SqR.p 2 ?_
 refine SqR.p 3 ?_
 refine SqR.l [5, 7, 12] 4 ?_
 refine Rk.one (i := 5) (by kernel_rfl) rfl (fun KK hK => ?_)
 rw [if_pos (by kernel_rfl)]
 go_simp
 ((with_reducible refine (SZ.out _ (Lib.hid (SlI.keep (hHeld.2.2.2.2.2.2.2) RD.out))).mono ?_); rintro e w9 ⟨rfl, rfl⟩)
 first | (refine hK.out _ _ (fun _ => hHeld) (fun hHeld => ?_)) | (refine hK.out _ _ hHeld (fun hHeld => ?_)) | (go_wp2_with fail; refine hK.out _ _ hHeld (fun hHeld => ?_))
 clear hK KK
 refine SqR.p 6 ?_
 refine SqR.p 7 ?_
 refine SqR.p 8 ?_
 refine SqR.l [11, 12] 9 ?_
 refine SqR.p 10 ?_
 refine Rk.one (i := 11) (by kernel_rfl) rfl (fun KK hK => ?_)
 rw [if_pos (by kernel_rfl)]
 go_simp
 ((with_reducible refine (CF.out _ (Lib.hid (SlV.below RV.out (hHeld.2.2.2.2.2.2.2))) (Lib.hid (tyc5 hHeld.1 hHeld.2.1 hHeld.2.2.1 hHeld.2.2.2.1 hHeld.2.2.2.2.1))).mono ?_); rintro e u ⟨rfl, hb⟩)
 first | (refine hK.out _ _ (fun _ => HS.out _ _ hHeld hb) (fun hHeld => ?_)) | (refine hK.out _ _ (HS.out _ _ hHeld hb) (fun hHeld => ?_)) | (go_wp2_with fail; refine hK.out _ _ (HS.out _ _ hHeld hb) (fun hHeld => ?_))
 clear hK KK
 refine Rk.tail [12] [_] (by kernel_rfl) (by kernel_rfl) rfl (by decide) ?_

 have K9 := KB.out.trans ((hHeld.2.2.2.2.2.2.2).mono KB.out.size)
 clear hHeld HS
 go_wp2_with fail
 go_ret
 exact ⟨rfl, K9⟩

/-- Validate of a tensor. -/
theorem tval (K B F R O : Int) (p : Option Addr) (zs : List Int) (c : Nat) (q : Option Addr) (vs : List (Int × Int)) (d : Nat) (w : World) (b0 : -9223372036854775808 <= B) (b1 : B <= 9223372036854775807) (hn : zs.length <= maxLen) (hm : vs.length <= maxLen) (RA : Hid (SlI w p zs)) (RB : Hid (SlV w q vs)) :
  Calls Tryz.prog 20 #[Tn K B F R O p zs.length c q vs.length d] w fun e w' => e = .returned (.int .i64 (tE K B F R O zs vs)) /\ Below w.heap.size w w' := by
 unfold tE
 cases ht : ty K B F R O
 ·rw [if_neg (by simp)]
  exact tv_a K B F R O p zs c q vs d w b0 b1 hn hm RA RB ht
 ·rw [if_pos rfl]
  cases hv : (vE zs != 0)
  ·have hv0 : vE zs = 0 := by simpa using hv
   rw [if_neg (by simp)]
   cases hl : ((vs.length : Int) != sp zs)
   ·cases ha : vs.any (badV K B F R O)
    ·exact tv_e K B F R O p zs c q vs d w b0 b1 hn hm RA RB ht hv0 hl ha
    ·exact tv_d K B F R O p zs c q vs d w b0 b1 hn hm RA RB ht hv0 hl ha
   ·rw [Bool.true_or]
    exact tv_c K B F R O p zs c q vs d w b0 b1 hn hm RA RB ht hv0 hl
  ·rw [if_pos rfl]
   exact tv_b K B F R O p zs c q vs d w b0 b1 hn hm RA RB ht hv
end Go.Proofs.YteaaikmejacpaaaGreatDoor.Te
