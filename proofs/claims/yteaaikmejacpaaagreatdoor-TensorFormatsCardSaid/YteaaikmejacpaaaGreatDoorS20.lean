/- Tensors: Permute, mathematics. -/
import Derived.Test.YteaaikmejacpaaaGreatDoorE17
import Derived.Test.YteaaikmejacpaaaGreatDoorS10
import Derived.Test.YteaaikmejacpaaaGreatDoorS12
import Derived.Test.YteaaikmejacpaaaGreatDoorS11
import Derived.Test.YteaaikmejacpaaaGreatDoorS6
import Derived.Lib.ParseIntB
import Derived.Lib.ItoaNum
import Derived.Lib.Bytealg
import Derived.Lib.Strings
import Derived.Shelf.LaysM
import Derived.Shelf.Strconv.Itoa4
import Derived.Test.YteaaikmejacpaaaGreatDoorProg
import Derived.Test.YteaaikmejacpaaaGreatDoorS0
import Derived.Test.YteaaikmejacpaaaGreatDoorS3
import Derived.Lib.SmallJoins
import Derived.Lib.Hide
import Derived.IntWalk

namespace Go.Proofs.YteaaikmejacpaaaGreatDoor.Te
open Go.ChangeShapes Go.WideShapes Go.ChangeAt Go.RowKit
open Fx Va Sh
set_option maxRecDepth 8000
set_option linter.unusedVariables false
set_option linter.unusedSimpArgs false

/-- The sum of a list. -/
def sI : List Int -> Int
 | [] => 0
 | x :: l => x + sI l
theorem sI_perm {l m : List Int} (h : l.Perm m) : sI l = sI m := by
 induction h with
 | nil => rfl
 | cons x _ ih => show x + sI _ = x + sI _; rw [ih]
 | swap x y l => show y + (x + sI l) = x + (y + sI l); omega
 | trans _ _ h1 h2 => exact h1.trans h2
theorem sI_app : ∀ l m : List Int, sI (l ++ m) = sI l + sI m
 | [], m => by show sI m = 0 + sI m; omega
 | x :: l, m => by show x + sI (l ++ m) = x + sI l + sI m; rw [sI_app l m]; omega
/-- The number of the element that comes to a place, after some axes. -/
def frS (zs os : List Int) (a : Int) (k : Nat) : Int := sI ((List.range k).map fun i => (pt (pm zs os) a).getD i 0 * (st zs).getD (os.getD i 0).toNat 0)
theorem frS_succ (zs os : List Int) (a : Int) (k : Nat) : frS zs os a (k + 1) = frS zs os a k + (pt (pm zs os) a).getD k 0 * (st zs).getD (os.getD k 0).toNat 0 := by
 unfold frS
 rw [List.range_succ, List.map_append, sI_app]
 show _ + ((pt (pm zs os) a).getD k 0 * (st zs).getD (os.getD k 0).toNat 0 + 0) = _
 rw [Int.add_zero]
theorem sI_le {f g : Nat -> Int} : ∀ n, (∀ i, i < n -> f i <= g i) -> sI ((List.range n).map f) <= sI ((List.range n).map g)
 | 0, _ => Int.le_refl _
 | n + 1, h => by
  rw [List.range_succ, List.map_append, List.map_append, sI_app, sI_app]
  have := sI_le n (fun i hi => h i (by omega))
  have h2 := h n (by omega)
  show _ + (f n + 0) <= _ + (g n + 0)
  omega
theorem sI_mono {f : Nat -> Int} : ∀ n, (∀ i, i < n -> 0 <= f i) -> ∀ k, k <= n -> 0 <= sI ((List.range k).map f) /\ sI ((List.range k).map f) <= sI ((List.range n).map f)
 | 0, _, k, hk => by
  obtain rfl : k = 0 := by omega
  exact ⟨Int.le_refl _, Int.le_refl _⟩
 | n + 1, h, k, hk => by
  have hn := sI_mono n (fun i hi => h i (by omega)) n (Nat.le_refl _)
  have h2 := h n (by omega)
  have e : sI ((List.range (n + 1)).map f) = sI ((List.range n).map f) + f n := by
   rw [List.range_succ, List.map_append, sI_app]; show _ + (f n + 0) = _; omega
  by_cases hk2 : k = n + 1
  ·subst hk2; rw [e]; omega
  ·have := sI_mono n (fun i hi => h i (by omega)) k (by omega)
   rw [e]; omega
theorem tele {zs : List Int} (hv : vE zs = 0) : ∀ n, n <= zs.length -> sI ((List.range n).map fun j => (zs.getD j 0 - 1) * (st zs).getD j 0) = sp zs - sp (zs.drop n)
 | 0, _ => by rw [List.drop_zero]; show (0 : Int) = _; omega
 | n + 1, h => by
  rw [List.range_succ, List.map_append, sI_app, tele hv n (by omega)]
  show _ + ((zs.getD n 0 - 1) * (st zs).getD n 0 + 0) = _
  rw [st_get (by omega), drop_cons (by omega : n < zs.length)]
  have e : sp (zs.getD n 0 :: zs.drop (n + 1)) = zs.getD n 0 * sp (zs.drop (n + 1)) := by simp [sp, Int.mul_comm]
  rw [e, Int.sub_mul]; omega
theorem by_order {n : Nat} {os : List Int} (hl : os.length = n) (h : gd n os n) (f : Nat -> Int) : sI ((List.range n).map fun i => f (os.getD i 0).toNat) = sI ((List.range n).map f) := by
 have h1 := (order_perm hl h).map f
 rw [List.map_map] at h1
 have e1 : (List.range n).map (fun i => f (os.getD i 0).toNat) = os.map (f ∘ Int.toNat) := by
  refine List.ext_getElem (by simp [hl]) fun j h1 h2 => ?_
  rw [List.getElem_map, List.getElem_range, List.getElem_map, getD_at (by rw [List.length_map] at h2; exact h2)]
  rfl
 rw [e1]
 exact sI_perm h1
theorem pm_valid {zs os : List Int} (hv : vE zs = 0) (hl : os.length = zs.length) (h : gd zs.length os zs.length) : vE (pm zs os) = 0 /\ sp (pm zs os) = sp zs :=
 ⟨vE_perm (pm_perm hl h) hv, sp_perm (pm_perm hl h)⟩
/-- All that the walk asks of the sums. -/
theorem frS_bd {zs os : List Int} {a : Int} (hv : vE zs = 0) (hl : os.length = zs.length) (h : gd zs.length os zs.length) : ∀ k, k <= zs.length -> 0 <= frS zs os a k /\ frS zs os a k < sp zs := by
 obtain ⟨hv2, -⟩ := pm_valid hv hl h
 obtain ⟨_, hlow, _, _, hd⟩ := valid_of hv
 obtain ⟨_, hlow2, _, _, _⟩ := valid_of hv2
 have hpl := pm_length zs os
 have term : ∀ i, i < zs.length -> 0 <= (pt (pm zs os) a).getD i 0 * (st zs).getD (os.getD i 0).toNat 0 /\ (pt (pm zs os) a).getD i 0 * (st zs).getD (os.getD i 0).toNat 0 <= (zs.getD (os.getD i 0).toNat 0 - 1) * (st zs).getD (os.getD i 0).toNat 0 := fun i hi => by
  obtain ⟨g0, g1, _⟩ := h i hi
  have hp := pos_of hlow2 (k := i) (by omega)
  rw [pt_get (by omega), pm_get (by omega), st_get (by omega)]
  rw [pm_get (by omega)] at hp
  have x0 := Int.emod_nonneg (a / sp ((pm zs os).drop (i + 1))) (by omega : zs.getD (os.getD i 0).toNat 0 ≠ 0)
  have x1 := Int.emod_lt_of_pos (a / sp ((pm zs os).drop (i + 1))) (by omega : 0 < zs.getD (os.getD i 0).toNat 0)
  have s1 := (hd ((os.getD i 0).toNat + 1)).1
  exact ⟨Int.mul_nonneg x0 (by omega), Int.mul_le_mul_of_nonneg_right (by omega) (by omega)⟩
 intro k hk
 have m := sI_mono zs.length (fun i hi => (term i hi).1) k hk
 have l := sI_le zs.length (fun i hi => (term i hi).2)
 have b := by_order hl h (fun j => (zs.getD j 0 - 1) * (st zs).getD j 0)
 rw [tele hv zs.length (Nat.le_refl _), List.drop_of_length_le (Nat.le_refl _)] at b
 have e : sp ([] : List Int) = 1 := rfl
 rw [e] at b
 have : sI ((List.range zs.length).map fun i => (zs.getD (os.getD i 0).toNat 0 - 1) * (st zs).getD (os.getD i 0).toNat 0) = sp zs - 1 := b
 unfold frS
 omega
theorem frS_term {zs os : List Int} {a : Int} (hv : vE zs = 0) (hl : os.length = zs.length) (h : gd zs.length os zs.length) {i : Nat} (hi : i < zs.length) : 0 <= (pt (pm zs os) a).getD i 0 * (st zs).getD (os.getD i 0).toNat 0 := by
 obtain ⟨hv2, -⟩ := pm_valid hv hl h
 obtain ⟨_, hlow, _, _, hd⟩ := valid_of hv
 obtain ⟨_, hlow2, _, _, _⟩ := valid_of hv2
 have hpl := pm_length zs os
 obtain ⟨g0, g1, _⟩ := h i hi
 have hp := pos_of hlow2 (k := i) (by omega)
 rw [pt_get (by omega), pm_get (by omega), st_get (by omega)]
 rw [pm_get (by omega)] at hp
 have x0 := Int.emod_nonneg (a / sp ((pm zs os).drop (i + 1))) (by omega : zs.getD (os.getD i 0).toNat 0 ≠ 0)
 have s1 := (hd ((os.getD i 0).toNat + 1)).1
 exact Int.mul_nonneg x0 (by omega)
/-- The elements in another order of axes. -/
def pmV (zs os : List Int) (vs : List (Int × Int)) : List (Int × Int) := (List.range vs.length).map fun (a : Nat) => vs.getD (frS zs os (a : Int) zs.length).toNat (0, 0)
theorem pmV_length (zs os : List Int) (vs : List (Int × Int)) : (pmV zs os vs).length = vs.length := by simp [pmV]
theorem pmV_get {zs os : List Int} {vs : List (Int × Int)} {a : Nat} (h : a < vs.length) : (pmV zs os vs).getD a (0, 0) = vs.getD (frS zs os (a : Int) zs.length).toNat (0, 0) := by
 unfold pmV
 rw [List.getD_eq_getElem?_getD, List.getElem?_map, List.getElem?_range h]
 rfl
theorem fill_set {l : List (Int × Int)} {m k : Nat} (hl : l.length = m) (h : k < m) : (l.take k ++ List.replicate (m - k) ((0 : Int), (0 : Int))).set k (l.getD k (0, 0)) = l.take (k + 1) ++ List.replicate (m - (k + 1)) ((0 : Int), (0 : Int)) := by
 have h1 : (l.take k).length = k := by rw [List.length_take]; omega
 have h2 : k < l.length := by omega
 rw [show m - k = (m - (k + 1)) + 1 by omega, List.replicate_succ, set_app h1, List.take_add_one, List.getElem?_eq_getElem h2, List.getD_eq_getElem?_getD, List.getElem?_eq_getElem h2, List.append_assoc]
 rfl
theorem fill_len {l : List (Int × Int)} {m k : Nat} (hl : l.length = m) (h : k <= m) : (l.take k ++ List.replicate (m - k) ((0 : Int), (0 : Int))).length = m := by
 rw [List.length_append, List.length_take, List.length_replicate]; omega
theorem fill_full {l : List (Int × Int)} {m k : Nat} (hl : l.length = m) (h : k = m) : l.take k ++ List.replicate (m - k) ((0 : Int), (0 : Int)) = l := by
 subst h
 rw [Nat.sub_self, List.take_of_length_le (by omega)]
 exact List.append_nil _
theorem wp_make_full {P : Program} (w : World) {o : Oper} {a : Act} {K : Act -> World -> Prop} {Q : Exit -> Act -> World -> Prop}
  (l c : Operand) (t : TypeId) (hop : o.op = Op.makeSlice t l c)
  (base : Nat) (e : TypeId) (i : TypeInfo) (z : Value) (size : Nat) (h1 : P.underlying t = some (.slice e)) (h2 : P.info? e = some i) (h3 : i.zero = some z) (h4 : i.size = size)
  (kl kc : IntKind) (L C : Int) (n : Nat) (hl : a.eval l = .int kl L) (hc : a.eval c = .int kc C) (hL : L = (n : Int)) (hC : C = (n : Int)) (b2 : i.bytes * n <= 281474976710656) (b3 : n <= maxLen) (b4 : base <= w.heap.size) (bk : Nat) (hbk : w.heap.size = bk)
  (hK : ∀ w', w'.ownsRow base e size (.slice (some ⟨bk, 0, none⟩) n n) n (madeCells z.cells (n * size)).toList -> w.grownBy w' none -> K (a.put o.dst (.slice (some ⟨bk, 0, none⟩) n n)) w') :
  o.wp P a w K Q := by
 subst hbk
 obtain ⟨w', hrun, r1, r2⟩ := run_make_full (P := P) w base t e i z size h1 h2 h3 h4 kl kc n b2 b3 b4
 subst hL
 subst hC
 unfold Oper.wp
 simp [execOp, hop, hl, hc, hrun, Result.andThen]
 exact hK w' r1 r2
end Go.Proofs.YteaaikmejacpaaaGreatDoor.Te


namespace Go.Proofs.YteaaikmejacpaaaGreatDoor.Te
open Go.ChangeShapes Go.WideShapes Go.ChangeAt Go.RowKit
open Fx Va Sh
set_option maxRecDepth 8000
set_option linter.unusedVariables false
set_option linter.unusedSimpArgs false

end Go.Proofs.YteaaikmejacpaaaGreatDoor.Te


namespace Go.Proofs.YteaaikmejacpaaaGreatDoor.Te
open Go.ChangeShapes Go.WideShapes Go.ChangeAt Go.RowKit
open Fx Va Sh
set_option maxRecDepth 8000
set_option linter.unusedVariables false
set_option linter.unusedSimpArgs false

theorem pt_len2 {zs os : List Int} {j : Int} (h : os.length = zs.length) : (pt (pm zs os) j).length = zs.length := by rw [pt_length, pm_length, h]
theorem pm_nums {A1 B1 P1 S S1 : Int} {m k n ax : Nat} (hP : A1 * B1 = P1) (h0 : 0 <= P1) (s0 : 0 <= S) (hf : S1 = S + P1) (hb : 0 <= S1 /\ S1 < m) (m4 : m <= 4096) (hk : k < n) (g1 : (ax : Int) < n)   : wrap64 P1 = P1 /\ wrap64 (S + P1) = S1 /\ (k : Int) < n /\ (0 : Int) <= k /\ (ax : Int) < n /\ (0 : Int) <= ax :=
 ⟨w64 (by omega) (by omega), by rw [<- hf]; exact w64 (by omega) (by omega), by omega, by omega, g1, by omega⟩

set_option maxRecDepth 100000 in
set_option maxHeartbeats 2000000 in
theorem pm_c (K B F R O : Int) (p : Option Addr) (zs : List Int) (c : Nat) (q : Option Addr) (vs : List (Int × Int)) (d : Nat) (x : Option Addr) (os : List Int) (e : Nat) (w : World) (b0 : -9223372036854775808 <= B) (b1 : B <= 9223372036854775807) (hn : zs.length <= maxLen) (hm : vs.length <= maxLen) (RA : Hid (SlI w p zs)) (RB : Hid (SlV w q vs)) (hx : os.length <= maxLen) (RX : Hid (SlI w x os)) (ht : tE K B F R O zs vs = 0) (he : pmE zs os = 0) :
  Calls Tryz.prog 37 #[Tn K B F R O p zs.length c q vs.length d, .slice x os.length e] w (TRes K B F R O (pm zs os) (pmV zs os vs) 0 w) := by
 have TV0 := fun w h1 h2 => tval K B F R O p zs c q vs d w b0 b1 hn hm h1 h2
 rw [ht] at TV0
 obtain ⟨hv, hol, hgd, hpl⟩ := pm_zero he
 obtain ⟨-, -, tl, -⟩ := tE_ok ht
 obtain ⟨h6, -, -, hsp, hd⟩ := valid_of hv
 have h1v : 1 <= sp zs := (hd 0).1
 obtain ⟨hv2, hsp2⟩ := pm_valid hv hol hgd
 have HOL := Lib.hid hol
 have SP0 := fun w h1 h2 => c27 p x zs os c e w hn h1 h2
 unfold QW at SP0
 rw [he, hpl, pm_length, hol] at SP0
 have SP := Lib.hid SP0
 have ST0 := fun w h => c19 p zs c w hn h
 unfold OW at ST0
 rw [show sts zs = st zs from if_pos hv, st_length] at ST0
 have ST := Lib.hid ST0
 have FB := Lib.hid fun a k h => frS_bd (a := a) hv hol hgd k h
 have FT := Lib.hid fun a i h => frS_term (a := a) (i := i) hv hol hgd h
 have HGD := Lib.hid hgd
 have PT0 := fun (pd : Option Addr) (cd : Nat) (j : Int) (h0 : 0 <= j) (h1 : j < sp zs) w h => c23 pd (pm zs os) cd j w (by rw [pm_length]; exact hx) h
 have PTA0 := fun (j : Int) (h0 : 0 <= j) (h1 : j < sp zs) => (show pL (pm zs os) j = pt (pm zs os) j /\ pA (pm zs os) j = true from by
  have hp := pA_ok hv2 h0 (by rw [hsp2]; exact h1)
  exact ⟨if_pos hp, hp⟩)
 have PTF := Lib.hid fun (pd : Option Addr) (cd : Nat) (j : Int) (h0 : 0 <= j) (h1 : j < sp zs) (u : World) (h : Hid (SlI u pd (pm zs os))) => (show Calls Tryz.prog 73 #[.slice pd zs.length cd, .int .i64 j] u (fun e w' => ∃ v, e = .returned (.tuple #[v, .bool true]) /\ Below u.heap.size u w' /\ w'.ownsRow u.heap.size 3 1 v zs.length ((pt (pm zs os) j).map (Value.int .i64))) from by
  have h2 := PT0 pd cd j h0 h1 u h
  obtain ⟨e1, e2⟩ := PTA0 j h0 h1
  unfold PW at h2
  rw [e1, e2, pt_length, pm_length, hol] at h2
  exact h2)
 obtain ⟨vb, vo, hqq, -⟩ := RB.out 0 (by omega)
 subst hqq
 obtain ⟨m, hmm⟩ : ∃ m, vs.length = m := ⟨_, rfl⟩
 have HM := Lib.hid hmm
 rw [hmm] at TV0 tl hm ⊢
 have TV := Lib.hid TV0
 have B0 : Hid (Below w.heap.size w ((w.alloc (Obj.cells #[Value.int .i64 K, Value.int .i64 B, Value.int .i64 F, Value.int .i64 R, Value.int .i64 O, Value.slice p zs.length c, Value.slice (some ⟨vb, vo, none⟩) m d] 27)).alloc (Obj.cells #[Value.int .i64 0, Value.int .i64 0, Value.int .i64 0, Value.int .i64 0, Value.int .i64 0, Value.slice none 0 0, Value.slice none 0 0] 27))) := Lib.hid (((Below.refl _ _).alloc (Nat.le_refl _) _).alloc (by simp) _)
 have T0 : Hid (B7 ((w.alloc (Obj.cells #[Value.int .i64 K, Value.int .i64 B, Value.int .i64 F, Value.int .i64 R, Value.int .i64 O, Value.slice p zs.length c, Value.slice (some ⟨vb, vo, none⟩) m d] 27)).alloc (Obj.cells #[Value.int .i64 0, Value.int .i64 0, Value.int .i64 0, Value.int .i64 0, Value.int .i64 0, Value.slice none 0 0, Value.slice none 0 0] 27)) (w.heap.size) (.int .i64 K) (.int .i64 B) (.int .i64 F) (.int .i64 R) (.int .i64 O) (.slice p zs.length c) (.slice (some ⟨vb, vo, none⟩) m d)) := Lib.hid ((B7.new w _ (.int .i64 K) (.int .i64 B) (.int .i64 F) (.int .i64 R) (.int .i64 O) (.slice p zs.length c) (.slice (some ⟨vb, vo, none⟩) m d)).alloc _)
 have R0 : Hid (B7 ((w.alloc (Obj.cells #[Value.int .i64 K, Value.int .i64 B, Value.int .i64 F, Value.int .i64 R, Value.int .i64 O, Value.slice p zs.length c, Value.slice (some ⟨vb, vo, none⟩) m d] 27)).alloc (Obj.cells #[Value.int .i64 0, Value.int .i64 0, Value.int .i64 0, Value.int .i64 0, Value.int .i64 0, Value.slice none 0 0, Value.slice none 0 0] 27)) (w.heap.size + 1) (.int .i64 0) (.int .i64 0) (.int .i64 0) (.int .i64 0) (.int .i64 0) (.slice none 0 0) (.slice none 0 0)) := Lib.hid (by have h := B7.new (w.alloc (Obj.cells #[Value.int .i64 K, Value.int .i64 B, Value.int .i64 F, Value.int .i64 R, Value.int .i64 O, Value.slice p zs.length c, Value.slice (some ⟨vb, vo, none⟩) m d] 27)) 27 (.int .i64 0) (.int .i64 0) (.int .i64 0) (.int .i64 0) (.int .i64 0) (.slice none 0 0) (.slice none 0 0); simpa using h)
 clear TV0
 have m4 : m <= 4096 := by omega
 have TL := Lib.hid tl
 rw [hol]
 have hvl := pmV_length zs os vs
 rw [hmm] at hvl
 have HVL := Lib.hid hvl
 clear he ht hm hmm SP0 ST0 PT0 PTA0 hpl hol hgd hd hsp hv hv2 hsp2 tl h1v hvl
 unfold Tn at *
 go_enter Tryz.func37, Tryz.ntmps37
 go_upto_region 7 with (first | (go_at_call 20; (with_reducible refine (TV.out _ (Lib.hid (SlI.keep B0.out RA.out)) (Lib.hid (SlV.below RB.out B0.out))).mono ?_); rintro e w1 ⟨rfl, hb⟩; have KB := Lib.hid (B0.out.trans (hb.mono B0.out.size)); have TB := Lib.hid (B7.keep hb (by simp <;> omega) T0.out); have RB9 := Lib.hid (B7.keep hb (by simp <;> omega) R0.out); obtain ⟨⟨c0, c1, c2, c3, c4, c5, c6⟩, -⟩ := TB.out; obtain ⟨⟨z0, z1, z2, z3, z4, z5, z6⟩, ⟨f0, f1, f2, f3, f4, f5, f6⟩⟩ := RB9.out; have lr : w.heap.size + 1 < w1.heap.size := RB9.out.lt; clear hb) | (go_at_call 71; (with_reducible refine (SP.out _ (Lib.hid (SlI.keep KB.out RA.out)) (Lib.hid (SlI.keep KB.out RX.out))).mono ?_); rintro e w2 ⟨v2, rfl, hb2, O2⟩; have KB2 := Lib.hid (KB.out.trans (hb2.mono KB.out.size)); have TB2 := Lib.hid (B7.keep hb2 TB.out.lt TB.out); have RB2 := Lib.hid (B7.keep hb2 RB9.out.lt RB9.out); have lr : w.heap.size + 1 < w2.heap.size := RB2.out.lt; obtain ⟨⟨z0, z1, z2, z3, z4, z5, z6⟩, ⟨f0, f1, f2, f3, f4, f5, f6⟩⟩ := RB2.out; obtain ⟨⟨c0, c1, c2, c3, c4, c5, c6⟩, -⟩ := TB2.out; have hs2 := hb2.size; obtain ⟨pd, cd, rfl⟩ := own_slice O2; have HO2 := Lib.hid O2; clear hb2 O2))
 have HS : Hid (∀ u u' : World, (u.cell? ⟨w.heap.size, 0, none⟩ = some (.int .i64 K) /\ u.cell? ⟨w.heap.size, 1, none⟩ = some (.int .i64 B) /\ u.cell? ⟨w.heap.size, 2, none⟩ = some (.int .i64 F) /\ u.cell? ⟨w.heap.size, 3, none⟩ = some (.int .i64 R) /\ u.cell? ⟨w.heap.size, 4, none⟩ = some (.int .i64 O) /\ u.cell? ⟨w.heap.size, 5, none⟩ = some (.slice p zs.length c) /\ u.cell? ⟨w.heap.size, 6, none⟩ = some (.slice (some ⟨vb, vo, none⟩) m d) /\ Below w2.heap.size w2 u) -> Below u.heap.size u u' -> (u'.cell? ⟨w.heap.size, 0, none⟩ = some (.int .i64 K) /\ u'.cell? ⟨w.heap.size, 1, none⟩ = some (.int .i64 B) /\ u'.cell? ⟨w.heap.size, 2, none⟩ = some (.int .i64 F) /\ u'.cell? ⟨w.heap.size, 3, none⟩ = some (.int .i64 R) /\ u'.cell? ⟨w.heap.size, 4, none⟩ = some (.int .i64 O) /\ u'.cell? ⟨w.heap.size, 5, none⟩ = some (.slice p zs.length c) /\ u'.cell? ⟨w.heap.size, 6, none⟩ = some (.slice (some ⟨vb, vo, none⟩) m d) /\ Below w2.heap.size w2 u')) := Lib.hid (fun u u' h hb => ⟨Rg.keep hb (World.block_lt_of_cell? _ _ h.1) h.1, Rg.keep hb (World.block_lt_of_cell? _ _ h.2.1) h.2.1, Rg.keep hb (World.block_lt_of_cell? _ _ h.2.2.1) h.2.2.1, Rg.keep hb (World.block_lt_of_cell? _ _ h.2.2.2.1) h.2.2.2.1, Rg.keep hb (World.block_lt_of_cell? _ _ h.2.2.2.2.1) h.2.2.2.2.1, Rg.keep hb (World.block_lt_of_cell? _ _ h.2.2.2.2.2.1) h.2.2.2.2.2.1, Rg.keep hb (World.block_lt_of_cell? _ _ h.2.2.2.2.2.2.1) h.2.2.2.2.2.2.1, h.2.2.2.2.2.2.2.trans (hb.mono h.2.2.2.2.2.2.2.size)⟩)
 go_cut [9] from 34 to 41 (fun p9 wx => ∃ (g9 gq : Nat), p9 = .pointer (some ⟨g9, 0, none⟩) /\ Hid (B7 wx (g9) (.int .i64 K) (.int .i64 B) (.int .i64 F) (.int .i64 R) (.int .i64 O) (.slice pd zs.length cd) (.slice (some ⟨gq, 0, none⟩) m m)) /\ Hid (wx.ownsRow w2.heap.size 29 2 (.slice (some ⟨gq, 0, none⟩) m m) m (flV (List.replicate m ((0 : Int), (0 : Int))))) /\ g9 ≠ gq /\ w2.heap.size <= g9 /\ Hid (Below w2.heap.size w2 wx))
 case first =>
  refine Rk.begin (S := fun wS => wS.cell? ⟨w.heap.size, 0, none⟩ = some (.int .i64 K) /\ wS.cell? ⟨w.heap.size, 1, none⟩ = some (.int .i64 B) /\ wS.cell? ⟨w.heap.size, 2, none⟩ = some (.int .i64 F) /\ wS.cell? ⟨w.heap.size, 3, none⟩ = some (.int .i64 R) /\ wS.cell? ⟨w.heap.size, 4, none⟩ = some (.int .i64 O) /\ wS.cell? ⟨w.heap.size, 5, none⟩ = some (.slice p zs.length c) /\ wS.cell? ⟨w.heap.size, 6, none⟩ = some (.slice (some ⟨vb, vo, none⟩) m d) /\ Below w2.heap.size w2 wS) 9 (by kernel_rfl) ⟨c0, c1, c2, c3, c4, c5, c6, Below.drew (Below.refl _ _)⟩ (fun hHeld => ?_)
  refine Rk.takeP (i := 0) (v := ?_) rfl (by kernel_rfl) (by kernel_rfl) (by kernel_rfl) (by kernel_rfl) (fun _ _ _ h => h) (Or.inl ⟨by kernel_rfl, ?_⟩) (by assumption) ?_
  rotate_left
  ·((intro w hSw; go_simp) <;> with_reducible rfl)
  try simp only [Act.put, List.setIfInBounds_toArray, List.set_cons_zero, List.set_cons_succ]
  refine Rk.take [9] (i := 1) (v := ?_) rfl (by kernel_rfl) (by kernel_rfl) (by kernel_rfl) (by kernel_rfl) (by kernel_rfl) (fun _ _ _ h => h) (Or.inl ⟨by kernel_rfl, ?_⟩) (by assumption) ?_
  rotate_left
  ·((intro w hSw; (try dsimp only at hSw); go_simp) <;> with_reducible rfl)
  try simp only [Act.put, List.setIfInBounds_toArray, List.set_cons_zero, List.set_cons_succ]
  refine Rk.takeP (i := 2) (v := ?_) rfl (by kernel_rfl) (by kernel_rfl) (by kernel_rfl) (by kernel_rfl) (fun _ _ _ h => h) (Or.inl ⟨by kernel_rfl, ?_⟩) (by assumption) ?_
  rotate_left
  ·((intro w hSw; go_simp) <;> with_reducible rfl)
  try simp only [Act.put, List.setIfInBounds_toArray, List.set_cons_zero, List.set_cons_succ]
  refine Rk.takeP (i := 3) (v := ?_) rfl (by kernel_rfl) (by kernel_rfl) (by kernel_rfl) (by kernel_rfl) (fun _ _ _ h => h) (Or.inl ⟨by kernel_rfl, ?_⟩) (by assumption) ?_
  rotate_left
  ·((intro w hSw; go_simp) <;> with_reducible rfl)
  try simp only [Act.put, List.setIfInBounds_toArray, List.set_cons_zero, List.set_cons_succ]
  refine Rk.take [9] (i := 4) (v := ?_) rfl (by kernel_rfl) (by kernel_rfl) (by kernel_rfl) (by kernel_rfl) (by kernel_rfl) (fun _ _ _ h => h) (Or.inl ⟨by kernel_rfl, ?_⟩) (by assumption) ?_
  rotate_left
  ·((intro w hSw; (try dsimp only at hSw); go_simp) <;> with_reducible rfl)
  try simp only [Act.put, List.setIfInBounds_toArray, List.set_cons_zero, List.set_cons_succ]
  refine Rk.takeP (i := 5) (v := ?_) rfl (by kernel_rfl) (by kernel_rfl) (by kernel_rfl) (by kernel_rfl) (fun _ _ _ h => h) (Or.inl ⟨by kernel_rfl, ?_⟩) (by assumption) ?_
  rotate_left
  ·((intro w hSw; go_simp) <;> with_reducible rfl)
  try simp only [Act.put, List.setIfInBounds_toArray, List.set_cons_zero, List.set_cons_succ]
  refine Rk.two (i := 6) (j := 8) (by kernel_rfl) rfl rfl (fun KK hK => ?_) (fun KK hK => ?_)
  ·rw [if_pos (by kernel_rfl)]
   obtain ⟨i0, hi, hz0, hz1, hz2⟩ := info_parts infoV
   refine wp_make_full _ _ _ 25 rfl w2.heap.size 29 i0 (.agg #[.int .i64 0, .int .i64 0]) 2 Tryz.underlying25 hi hz0 hz1 .i64 .i64 _ _ m rfl rfl rfl rfl (by rw [hz2]; omega) (by unfold maxLen; omega) (hHeld.2.2.2.2.2.2.2).size (w2.heap.size) (by simp) ?_
   intro u6 hown6 hg6
   rw [madeV] at hown6
   have hb6 := below_own (Nat.le_refl _) hg6
   have hNew := HS.out _ _ hHeld hb6
   have hg6l : w2.heap.size < u6.heap.size := (hown6.lt _ rfl).2
   first | (refine hK.out _ _ (fun _ => hNew) (fun _ => ?_)) | (refine hK.out _ _ hNew (fun _ => ?_)) | (go_wp2_with fail; refine hK.out _ _ hNew (fun _ => ?_))
   replace hHeld := hNew
   clear hNew hb6 hg6 hi hz0 hz1 hz2
   clear hK KK
   refine Rk.takeP (i := 7) (v := ?_) rfl (by kernel_rfl) (by kernel_rfl) (by kernel_rfl) (by kernel_rfl) (fun _ _ _ h => h) (Or.inl ⟨by kernel_rfl, ?_⟩) (by assumption) ?_
   rotate_left
   ·((intro w hSw; go_simp) <;> with_reducible rfl)
   try simp only [Act.put, List.setIfInBounds_toArray, List.set_cons_zero, List.set_cons_succ]
   refine Rk.one (i := 8) (by kernel_rfl) rfl (fun KK hK => ?_)
   rw [if_pos (by kernel_rfl)]
   go_simp
   have hNew := HS.out _ _ hHeld ((Below.refl _ _).alloc (Nat.le_refl _) (Obj.cells #[Value.int .i64 0, Value.int .i64 0, Value.int .i64 0, Value.int .i64 0, Value.int .i64 0, Value.slice none 0 0, Value.slice none 0 0] 27))
   have M7 := B7.new u6 27 (.int .i64 0) (.int .i64 0) (.int .i64 0) (.int .i64 0) (.int .i64 0) (.slice none 0 0) (.slice none 0 0)
   have hne : u6.heap.size ≠ w2.heap.size := by omega
   replace hown6 := hown6.alloc (Obj.cells #[Value.int .i64 0, Value.int .i64 0, Value.int .i64 0, Value.int .i64 0, Value.int .i64 0, Value.slice none 0 0, Value.slice none 0 0] 27)
   refine hK.out _ _ hNew (fun _ => ?_)
   replace hHeld := hNew
   clear hNew
   clear hK KK
   refine Rk.tail [9] [_] (by kernel_rfl) (by kernel_rfl) rfl (by decide) ?_
   obtain ⟨c0, c1, c2, c3, c4, c5, c6, K8⟩ := hHeld
   have M8 := M7
   obtain ⟨⟨m0, m1, m2, m3, m4, m5, m6⟩, ⟨g0, g1, g2, g3, g4, g5, g6⟩⟩ := M7
   have lm := M8.lt
   generalize (u6.alloc (Obj.cells #[Value.int .i64 0, Value.int .i64 0, Value.int .i64 0, Value.int .i64 0, Value.int .i64 0, Value.slice none 0 0, Value.slice none 0 0] 27)) = gw at *
   have hnb : w2.heap.size <= u6.heap.size := by omega
   go_wp2_with fail
   go_meet
   exact ⟨u6.heap.size, w2.heap.size, rfl, Lib.hid M8.st, Lib.hid (own_far7 hown6 (Or.inr (by intro e; have e' : some (w2.heap.size) = some (u6.heap.size) := e; injection e' with e'; exact hne e'.symm))), hne, hnb, Lib.hid (below_set7 K8 hnb)⟩
  ·rw [if_pos (by kernel_rfl)]
   go_simp
   have hNew := HS.out _ _ hHeld ((Below.refl _ _).alloc (Nat.le_refl _) (Obj.cells #[Value.int .i64 0, Value.int .i64 0, Value.int .i64 0, Value.int .i64 0, Value.int .i64 0, Value.slice none 0 0, Value.slice none 0 0] 27))
   have M7 : B7 (w2.alloc (Obj.cells #[Value.int .i64 0, Value.int .i64 0, Value.int .i64 0, Value.int .i64 0, Value.int .i64 0, Value.slice none 0 0, Value.slice none 0 0] 27)).drew (w2.heap.size) (.int .i64 0) (.int .i64 0) (.int .i64 0) (.int .i64 0) (.int .i64 0) (.slice none 0 0) (.slice none 0 0) := B7.new w2 _ (.int .i64 0) (.int .i64 0) (.int .i64 0) (.int .i64 0) (.int .i64 0) (.slice none 0 0) (.slice none 0 0)
   refine hK.out _ _ hNew (fun _ => ?_)
   replace hHeld := hNew
   clear hNew
   replace hHeld : (w2.alloc (Obj.cells #[Value.int .i64 0, Value.int .i64 0, Value.int .i64 0, Value.int .i64 0, Value.int .i64 0, Value.slice none 0 0, Value.slice none 0 0] 27)).drew.cell? ⟨w.heap.size, 0, none⟩ = some (.int .i64 K) /\ (w2.alloc (Obj.cells #[Value.int .i64 0, Value.int .i64 0, Value.int .i64 0, Value.int .i64 0, Value.int .i64 0, Value.slice none 0 0, Value.slice none 0 0] 27)).drew.cell? ⟨w.heap.size, 1, none⟩ = some (.int .i64 B) /\ (w2.alloc (Obj.cells #[Value.int .i64 0, Value.int .i64 0, Value.int .i64 0, Value.int .i64 0, Value.int .i64 0, Value.slice none 0 0, Value.slice none 0 0] 27)).drew.cell? ⟨w.heap.size, 2, none⟩ = some (.int .i64 F) /\ (w2.alloc (Obj.cells #[Value.int .i64 0, Value.int .i64 0, Value.int .i64 0, Value.int .i64 0, Value.int .i64 0, Value.slice none 0 0, Value.slice none 0 0] 27)).drew.cell? ⟨w.heap.size, 3, none⟩ = some (.int .i64 R) /\ (w2.alloc (Obj.cells #[Value.int .i64 0, Value.int .i64 0, Value.int .i64 0, Value.int .i64 0, Value.int .i64 0, Value.slice none 0 0, Value.slice none 0 0] 27)).drew.cell? ⟨w.heap.size, 4, none⟩ = some (.int .i64 O) /\ (w2.alloc (Obj.cells #[Value.int .i64 0, Value.int .i64 0, Value.int .i64 0, Value.int .i64 0, Value.int .i64 0, Value.slice none 0 0, Value.slice none 0 0] 27)).drew.cell? ⟨w.heap.size, 5, none⟩ = some (.slice p zs.length c) /\ (w2.alloc (Obj.cells #[Value.int .i64 0, Value.int .i64 0, Value.int .i64 0, Value.int .i64 0, Value.int .i64 0, Value.slice none 0 0, Value.slice none 0 0] 27)).drew.cell? ⟨w.heap.size, 6, none⟩ = some (.slice (some ⟨vb, vo, none⟩) m d) /\ Below w2.heap.size w2 (w2.alloc (Obj.cells #[Value.int .i64 0, Value.int .i64 0, Value.int .i64 0, Value.int .i64 0, Value.int .i64 0, Value.slice none 0 0, Value.slice none 0 0] 27)).drew := hHeld
   clear hK KK
   refine Rk.one (i := 6) (by kernel_rfl) rfl (fun KK hK => ?_)
   rw [if_pos (by kernel_rfl)]
   obtain ⟨i0, hi, hz0, hz1, hz2⟩ := info_parts infoV
   refine wp_make_full _ _ _ 25 rfl w2.heap.size 29 i0 (.agg #[.int .i64 0, .int .i64 0]) 2 Tryz.underlying25 hi hz0 hz1 .i64 .i64 _ _ m rfl rfl rfl rfl (by rw [hz2]; omega) (by unfold maxLen; omega) (hHeld.2.2.2.2.2.2.2).size (w2.heap.size + 1) (by simp) ?_
   intro u6 hown6 hg6
   rw [madeV] at hown6
   have hb6 := below_own (Nat.le_refl _) hg6
   have hNew := HS.out _ _ hHeld hb6
   replace M7 := B7.keep hb6 M7.lt M7
   have hne : w2.heap.size ≠ w2.heap.size + 1 := by omega
   have hg6l : w2.heap.size + 1 < u6.heap.size := (hown6.lt _ rfl).2
   first | (refine hK.out _ _ (fun _ => hNew) (fun _ => ?_)) | (refine hK.out _ _ hNew (fun _ => ?_)) | (go_wp2_with fail; refine hK.out _ _ hNew (fun _ => ?_))
   replace hHeld := hNew
   clear hNew hb6 hg6 hi hz0 hz1 hz2
   clear hK KK
   refine Rk.takeP (i := 7) (v := ?_) rfl (by kernel_rfl) (by kernel_rfl) (by kernel_rfl) (by kernel_rfl) (fun _ _ _ h => h) (Or.inl ⟨by kernel_rfl, ?_⟩) (by assumption) ?_
   rotate_left
   ·((intro w hSw; go_simp) <;> with_reducible rfl)
   try simp only [Act.put, List.setIfInBounds_toArray, List.set_cons_zero, List.set_cons_succ]
   refine Rk.tail [9] [_] (by kernel_rfl) (by kernel_rfl) rfl (by decide) ?_
   obtain ⟨c0, c1, c2, c3, c4, c5, c6, K8⟩ := hHeld
   have M8 := M7
   obtain ⟨⟨m0, m1, m2, m3, m4, m5, m6⟩, ⟨g0, g1, g2, g3, g4, g5, g6⟩⟩ := M7
   have lm := M8.lt
   have hnb : w2.heap.size <= w2.heap.size := by omega
   go_wp2_with fail
   go_meet
   exact ⟨w2.heap.size, w2.heap.size + 1, rfl, Lib.hid M8.st, Lib.hid (own_far7 hown6 (Or.inr (by intro e; have e' : some (w2.heap.size + 1) = some (w2.heap.size) := e; injection e' with e'; exact hne e'.symm))), hne, hnb, Lib.hid (below_set7 K8 hnb)⟩

 case rest =>
  obtain ⟨g9, gq, rfl, HD, HV, hne9, hn9, HBX⟩ := hcut
  have KBC := Lib.hid (KB2.out.trans (HBX.out.mono KB2.out.size))
  have TBC := Lib.hid (B7.keep HBX.out TB2.out.lt TB2.out)
  have RBC := Lib.hid (B7.keep HBX.out RB2.out.lt RB2.out)
  have HPC := Lib.hid (own_belowE HO2.out HBX.out)
  have hsx := HBX.out.size
  have hg9 := HD.out.lt
  have lt2 := TB2.out.lt
  have lt3 := RB2.out.lt
  have hgql := (HV.out.lt gq rfl)
  obtain ⟨⟨c0, c1, c2, c3, c4, c5, c6⟩, -⟩ := TBC.out
  clear z0 z1 z2 z3 z4 z5 z6 f0 f1 f2 f3 f4 f5 f6 HS lr SP HO2
  go_wp2_with (go_at_call 72; (with_reducible refine (ST.out _ (Lib.hid (SlI.keep KBC.out RA.out))).mono ?_); rintro e w5 ⟨v5, rfl, hb5, O5⟩; obtain ⟨ps, cs, rfl⟩ := own_slice O5; have KB5 := Lib.hid (KBC.out.trans (hb5.mono KBC.out.size)); have TB5 := Lib.hid (B7.keep hb5 TBC.out.lt TBC.out); have RB5 := Lib.hid (B7.keep hb5 RBC.out.lt RBC.out); have HD5 := Lib.hid (B7.keep hb5 HD.out.lt HD.out); have HP5 := Lib.hid (own_belowE HPC.out hb5); have HV5 := Lib.hid (own_belowE HV.out hb5); have HS5 := Lib.hid O5; have hs5 := hb5.size; obtain ⟨⟨m0, m1, m2, m3, m4, m5, m6⟩, -⟩ := HD5.out; clear hb5 O5)
  have HB0 : Hid ((B7 w5 (w.heap.size) (.int .i64 K) (.int .i64 B) (.int .i64 F) (.int .i64 R) (.int .i64 O) (.slice p zs.length c) (.slice (some ⟨vb, vo, none⟩) m d)) /\ (B7 w5 (w.heap.size + 1) (.int .i64 0) (.int .i64 0) (.int .i64 0) (.int .i64 0) (.int .i64 0) (.slice none 0 0) (.slice none 0 0)) /\ (B7 w5 (g9) (.int .i64 K) (.int .i64 B) (.int .i64 F) (.int .i64 R) (.int .i64 O) (.slice pd zs.length cd) (.slice (some ⟨gq, 0, none⟩) m m)) /\ w5.ownsRow w1.heap.size 3 1 (.slice pd zs.length cd) zs.length ((pm zs os).map (Value.int .i64)) /\ w5.ownsRow wc.heap.size 3 1 (.slice ps zs.length cs) zs.length ((st zs).map (Value.int .i64)) /\ w5.ownsRow w2.heap.size 29 2 (.slice (some ⟨gq, 0, none⟩) m m) m (flV ((pmV zs os vs).take 0 ++ List.replicate (m - 0) ((0 : Int), (0 : Int)))) /\ Below w.heap.size w w5 /\ wc.heap.size <= w5.heap.size) := Lib.hid ⟨TB5.out, RB5.out, HD5.out, HP5.out, HS5.out, by rw [List.take_zero, List.nil_append, Nat.sub_zero]; exact HV5.out, KB5.out, hs5⟩
  go_loopw [48] (fun iv wr => ∃ j : Nat, iv = .int .i64 (j : Int) /\ j <= m /\ Hid ((B7 wr (w.heap.size) (.int .i64 K) (.int .i64 B) (.int .i64 F) (.int .i64 R) (.int .i64 O) (.slice p zs.length c) (.slice (some ⟨vb, vo, none⟩) m d)) /\ (B7 wr (w.heap.size + 1) (.int .i64 0) (.int .i64 0) (.int .i64 0) (.int .i64 0) (.int .i64 0) (.slice none 0 0) (.slice none 0 0)) /\ (B7 wr (g9) (.int .i64 K) (.int .i64 B) (.int .i64 F) (.int .i64 R) (.int .i64 O) (.slice pd zs.length cd) (.slice (some ⟨gq, 0, none⟩) m m)) /\ wr.ownsRow w1.heap.size 3 1 (.slice pd zs.length cd) zs.length ((pm zs os).map (Value.int .i64)) /\ wr.ownsRow wc.heap.size 3 1 (.slice ps zs.length cs) zs.length ((st zs).map (Value.int .i64)) /\ wr.ownsRow w2.heap.size 29 2 (.slice (some ⟨gq, 0, none⟩) m m) m (flV ((pmV zs os vs).take j ++ List.replicate (m - j) ((0 : Int), (0 : Int)))) /\ Below w.heap.size w wr /\ wc.heap.size <= wr.heap.size)) (fun iv _ => m - (intOf iv).toNat)
  case atStart => exact ⟨0, rfl, Nat.zero_le _, HB0⟩
  case round =>
   obtain ⟨j, rfl, hj, HJ⟩ := hrel
   clear c0 c1 c2 c3 c4 c5 c6 m0 m1 m2 m3 m4 m5 m6 TB5 RB5 HD5 HP5 HV5 HS5 KB5 HB0 TBC RBC KBC HPC HD HV HBX TB RB9 KB TB2 RB2 KB2 ST
   obtain ⟨TJ, RJ, DJ, PJ, SJ, VJ, KJ, hsj⟩ := HJ.out
   by_cases hjm : j < m
   ·have hj2 : (j : Int) < m := by omega
    have hj0 : (0 : Int) <= j := by omega
    have PT := Lib.hid fun u h => PTF.out pd cd (j : Int) hj0 (by rw [<- TL.out]; exact hj2) u h
    go_wp2_with (go_at_call 73; (with_reducible refine (PT.out _ (Lib.hid (SlI_of PJ (by rw [pm_length]; exact HOL.out)))).mono ?_); rintro e w6 ⟨v6, rfl, hb6, O6⟩; obtain ⟨pp, cp, rfl⟩ := own_slice O6; obtain ⟨B6, hB6⟩ : ∃ b, wr.heap.size = b := ⟨_, rfl⟩; rw [hB6] at O6; replace hB6 := Lib.hid hB6; have KB6 := KJ.trans (hb6.mono KJ.size); have TB6 := B7.keep hb6 TJ.lt TJ; have RB6 := B7.keep hb6 RJ.lt RJ; have HD6 := B7.keep hb6 DJ.lt DJ; have HP6 := own_belowE PJ hb6; have HS6 := own_belowE SJ hb6; have HV6 := own_belowE VJ hb6; have HQ6 := O6; have hs6 := hb6.size; have HB6 := Lib.hid (And.intro HQ6 (And.intro TB6 (And.intro RB6 (And.intro HD6 (And.intro HP6 (And.intro HS6 (And.intro HV6 (And.intro KB6 (Nat.le_trans hsj hs6))))))))); clear hb6 O6 KB6 TB6 RB6 HD6 HP6 HS6 HV6 HQ6)
    go_loopw [14, 59] (fun fv iv wr => ∃ (k : Nat) (S : Int), fv = .int .i64 S /\ iv = .int .i64 (k : Int) /\ k <= zs.length /\ 0 <= S /\ S < m /\ Hid (S = frS zs os j k) /\ Hid (wr.ownsRow B6 3 1 (.slice pp zs.length cp) zs.length ((pt (pm zs os) j).map (Value.int .i64)) /\ (B7 wr (w.heap.size) (.int .i64 K) (.int .i64 B) (.int .i64 F) (.int .i64 R) (.int .i64 O) (.slice p zs.length c) (.slice (some ⟨vb, vo, none⟩) m d)) /\ (B7 wr (w.heap.size + 1) (.int .i64 0) (.int .i64 0) (.int .i64 0) (.int .i64 0) (.int .i64 0) (.slice none 0 0) (.slice none 0 0)) /\ (B7 wr (g9) (.int .i64 K) (.int .i64 B) (.int .i64 F) (.int .i64 R) (.int .i64 O) (.slice pd zs.length cd) (.slice (some ⟨gq, 0, none⟩) m m)) /\ wr.ownsRow w1.heap.size 3 1 (.slice pd zs.length cd) zs.length ((pm zs os).map (Value.int .i64)) /\ wr.ownsRow wc.heap.size 3 1 (.slice ps zs.length cs) zs.length ((st zs).map (Value.int .i64)) /\ wr.ownsRow w2.heap.size 29 2 (.slice (some ⟨gq, 0, none⟩) m m) m (flV ((pmV zs os vs).take j ++ List.replicate (m - j) ((0 : Int), (0 : Int)))) /\ Below w.heap.size w wr /\ wc.heap.size <= wr.heap.size)) (fun _ iv _ => zs.length - (intOf iv).toNat)
    case atStart => exact ⟨0, 0, rfl, rfl, Nat.zero_le _, Int.le_refl _, by omega, Lib.hid rfl, HB6⟩
    case round =>
     obtain ⟨k, S, rfl, rfl, hk, s0, s1, HSk, HKB⟩ := hrel
     obtain ⟨QK, TK, RK, DK, PK, SK, VK, KK0, hsk⟩ := HKB.out
     by_cases hkn : k < zs.length
     ·obtain ⟨g0, g1, -⟩ := HGD.out k hkn
      obtain ⟨xb, xo, hxx, hxc⟩ := RX.out k (by rw [HOL.out]; exact hkn)
      subst hxx
      have hxw : xb < w.heap.size := World.block_lt_of_cell? _ _ hxc
      replace hxc := Rg.keep KK0 hxw hxc
      obtain ⟨ax, hax⟩ : ∃ ax : Nat, os.getD k 0 = ax := ⟨(os.getD k 0).toNat, by omega⟩
      rw [hax] at hxc g1
      obtain ⟨bp, bo, hpp, hpc⟩ := SlI_of QK (pt_len2 HOL.out) k (by rw [pt_len2 HOL.out]; exact hkn)
      subst hpp
      obtain ⟨bs, bso, hss, hsc⟩ := SlI_of SK (st_length zs) ax (by rw [st_length]; omega)
      subst hss
      have hfs := frS_succ zs os j k
      have hfb := FB.out j (k + 1) hkn
      have hft := FT.out j k hkn
      rw [hax, Int.toNat_natCast] at hfs hft
      obtain ⟨A1, hA1⟩ : ∃ A, (pt (pm zs os) j).getD k 0 = A := ⟨_, rfl⟩
      obtain ⟨B1, hB1⟩ : ∃ A, (st zs).getD ax 0 = A := ⟨_, rfl⟩
      rw [hA1] at hpc hfs hft
      rw [hB1] at hsc hfs hft
      obtain ⟨P1, hP1⟩ : ∃ A, A1 * B1 = A := ⟨_, rfl⟩
      rw [hP1] at hfs hft
      obtain ⟨S1, hS1⟩ : ∃ A, frS zs os j (k + 1) = A := ⟨_, rfl⟩
      rw [hS1] at hfs hfb
      rw [<- HSk.out] at hfs
      rw [<- TL.out] at hfb
      have HS1 := Lib.hid hS1
      obtain ⟨w1', w2', hk2, hk0, ha2, ha0⟩ := pm_nums hP1 hft s0 hfs hfb m4 hkn g1
      have hb0 : 0 <= S1 := hfb.1
      have hb1 : S1 < m := hfb.2
      clear hfs hfb hft hA1 hB1 hS1 hax g0
      go_upto_region 17 with fail
      go_quiet (fail)
      rw [w1', w2']
      have HKB2 : Hid ((wr.drewN nq).ownsRow B6 3 1 (.slice (some ⟨bp, bo, none⟩) zs.length cp) zs.length ((pt (pm zs os) j).map (Value.int .i64)) /\ (B7 (wr.drewN nq) (w.heap.size) (.int .i64 K) (.int .i64 B) (.int .i64 F) (.int .i64 R) (.int .i64 O) (.slice p zs.length c) (.slice (some ⟨vb, vo, none⟩) m d)) /\ (B7 (wr.drewN nq) (w.heap.size + 1) (.int .i64 0) (.int .i64 0) (.int .i64 0) (.int .i64 0) (.int .i64 0) (.slice none 0 0) (.slice none 0 0)) /\ (B7 (wr.drewN nq) (g9) (.int .i64 K) (.int .i64 B) (.int .i64 F) (.int .i64 R) (.int .i64 O) (.slice pd zs.length cd) (.slice (some ⟨gq, 0, none⟩) m m)) /\ (wr.drewN nq).ownsRow w1.heap.size 3 1 (.slice pd zs.length cd) zs.length ((pm zs os).map (Value.int .i64)) /\ (wr.drewN nq).ownsRow wc.heap.size 3 1 (.slice (some ⟨bs, bso, none⟩) zs.length cs) zs.length ((st zs).map (Value.int .i64)) /\ (wr.drewN nq).ownsRow w2.heap.size 29 2 (.slice (some ⟨gq, 0, none⟩) m m) m (flV ((pmV zs os vs).take j ++ List.replicate (m - j) ((0 : Int), (0 : Int)))) /\ Below w.heap.size w (wr.drewN nq) /\ wc.heap.size <= (wr.drewN nq).heap.size) := Lib.hid ⟨QK, TK, RK, DK, PK, SK, VK, below_drewN KK0 _, hsk⟩
      clear w1' w2' hP1 hxc hpc hsc
      go_wp2_with fail
      go_roundw
      case rel => exact ⟨k + 1, S1, rfl, by simp, by omega, hb0, hb1, Lib.hid HS1.out.symm, HKB2⟩
      case measure => simp [intOf]; omega
     ·have hke : k = zs.length := by omega
      subst hke
      obtain ⟨f, rfl⟩ : ∃ f : Nat, S = (f : Int) := ⟨S.toNat, by omega⟩
      have hfm : f < m := by omega
      have hsp9 := HSk.out
      obtain ⟨b', o', ee, v0, v1⟩ := RB.out f (by rw [HM.out]; exact hfm)
      cases ee
      have hvb : vb < w.heap.size := World.block_lt_of_cell? _ _ v0
      replace v0 := Rg.keep KK0 hvb v0
      replace v1 := Rg.keep KK0 hvb v1
      have hfl := fill_len HVL.out hj
      obtain ⟨s0', s1'⟩ := row_get VK hfl hjm
      have t0 := VK.frozenAt (j * 2)
      have t1 := VK.frozenAt (j * 2 + 1)
      have HSET := Lib.hid (fill_set HVL.out hjm)
      have hget := pmV_get (zs := zs) (os := os) (vs := vs) (a := j) (by rw [HM.out]; exact hjm)
      rw [<- hsp9, Int.toNat_natCast] at hget
      rw [hget] at HSET
      obtain ⟨y, hy⟩ : ∃ y, vs.getD f (0, 0) = y := ⟨_, rfl⟩
      rw [hy] at v0 v1 HSET
      obtain ⟨sv, hsv⟩ : ∃ sv, ((pmV zs os vs).take j ++ List.replicate (m - j) ((0 : Int), (0 : Int))).getD j (0, 0) = sv := ⟨_, rfl⟩
      rw [hsv] at s0' s1'
      obtain ⟨⟨c0, c1, c2, c3, c4, c5, c6⟩, -⟩ := TK
      obtain ⟨⟨m0, m1, m2, m3, m4, m5, m6⟩, -⟩ := DK
      have TK := HKB.out.2.1
      have DK := HKB.out.2.2.2.1
      have hgl := (VK.lt gq rfl)
      have hf2 : (f : Int) < m := by omega
      have hf0 : (0 : Int) <= f := by omega
      have hjj := Lib.hid hfl
      clear hy hsv hget hsp9 HSk hfl
      go_upto_region 19 with fail
      refine Rk.begin (S := fun wS => wS.cell? ⟨w.heap.size, 6, none⟩ = some (.slice (some ⟨vb, vo, none⟩) m d) /\ wS.cell? ⟨g9, 6, none⟩ = some (.slice (some ⟨gq, 0, none⟩) m m) /\ wS.cell? ⟨vb, vo + f * 2, none⟩ = some (.int .i64 y.1) /\ wS.cell? ⟨vb, vo + f * 2 + 1, none⟩ = some (.int .i64 y.2) /\ wS.cell? ⟨gq, j * 2, none⟩ = some (.int .i64 sv.1) /\ wS.cell? ⟨gq, j * 2 + 1, none⟩ = some (.int .i64 sv.2) /\ wS.frozen? ⟨gq, j * 2, none⟩ = false /\ wS.frozen? ⟨gq, j * 2 + 1, none⟩ = false /\ Below wr.heap.size wr wS) 9 (by kernel_rfl) ⟨c6, m6, v0, v1, s0', s1', t0, t1, Below.drew (Below.refl _ _)⟩ (fun hHeld => ?_)
      refine Rk.takeP (i := 0) (v := ?_) rfl (by kernel_rfl) (by kernel_rfl) (by kernel_rfl) (by kernel_rfl) (fun _ _ _ h => h) (Or.inl ⟨by kernel_rfl, ?_⟩) (by assumption) ?_
      rotate_left
      ·((intro w hSw; go_simp) <;> with_reducible rfl)
      try simp only [Act.put, List.setIfInBounds_toArray, List.set_cons_zero, List.set_cons_succ]
      refine Rk.take [9] (i := 1) (v := ?_) rfl (by kernel_rfl) (by kernel_rfl) (by kernel_rfl) (by kernel_rfl) (by kernel_rfl) (fun _ _ _ h => h) (Or.inl ⟨by kernel_rfl, ?_⟩) (by assumption) ?_
      rotate_left
      ·((intro w hSw; (try dsimp only at hSw); go_simp) <;> with_reducible rfl)
      try simp only [Act.put, List.setIfInBounds_toArray, List.set_cons_zero, List.set_cons_succ]
      refine Rk.takeP (i := 2) (v := ?_) rfl (by kernel_rfl) (by kernel_rfl) (by kernel_rfl) (by kernel_rfl) (fun _ _ _ h => h) (Or.inl ⟨by kernel_rfl, ?_⟩) (by assumption) ?_
      rotate_left
      ·((intro w hSw; go_simp) <;> with_reducible rfl)
      try simp only [Act.put, List.setIfInBounds_toArray, List.set_cons_zero, List.set_cons_succ]
      refine Rk.takeP (i := 3) (v := ?_) rfl (by kernel_rfl) (by kernel_rfl) (by kernel_rfl) (by kernel_rfl) (fun _ _ _ h => h) (Or.inl ⟨by kernel_rfl, ?_⟩) (by assumption) ?_
      rotate_left
      ·((intro w hSw; go_simp) <;> with_reducible rfl)
      try simp only [Act.put, List.setIfInBounds_toArray, List.set_cons_zero, List.set_cons_succ]
      refine Rk.take [9] (i := 4) (v := ?_) rfl (by kernel_rfl) (by kernel_rfl) (by kernel_rfl) (by kernel_rfl) (by kernel_rfl) (fun _ _ _ h => h) (Or.inl ⟨by kernel_rfl, ?_⟩) (by assumption) ?_
      rotate_left
      ·((intro w hSw; (try dsimp only at hSw); go_simp) <;> with_reducible rfl)
      try simp only [Act.put, List.setIfInBounds_toArray, List.set_cons_zero, List.set_cons_succ]
      refine Rk.takeP (i := 5) (v := ?_) rfl (by kernel_rfl) (by kernel_rfl) (by kernel_rfl) (by kernel_rfl) (fun _ _ _ h => h) (Or.inl ⟨by kernel_rfl, ?_⟩) (by assumption) ?_
      rotate_left
      ·((intro w hSw; go_simp) <;> with_reducible rfl)
      try simp only [Act.put, List.setIfInBounds_toArray, List.set_cons_zero, List.set_cons_succ]
      refine Rk.takeP (i := 6) (v := ?_) rfl (by kernel_rfl) (by kernel_rfl) (by kernel_rfl) (by kernel_rfl) (fun _ _ _ h => h) (Or.inl ⟨by kernel_rfl, ?_⟩) (by assumption) ?_
      rotate_left
      ·((intro w hSw; go_simp) <;> with_reducible rfl)
      try simp only [Act.put, List.setIfInBounds_toArray, List.set_cons_zero, List.set_cons_succ]
      refine Rk.take [9] (i := 7) (v := ?_) rfl (by kernel_rfl) (by kernel_rfl) (by kernel_rfl) (by kernel_rfl) (by kernel_rfl) (fun _ _ _ h => h) (Or.inl ⟨by kernel_rfl, ?_⟩) (by assumption) ?_
      rotate_left
      ·((intro w hSw; (try dsimp only at hSw); go_simp) <;> with_reducible rfl)
      try simp only [Act.put, List.setIfInBounds_toArray, List.set_cons_zero, List.set_cons_succ]
      refine Rk.takeP (i := 8) (v := ?_) rfl (by kernel_rfl) (by kernel_rfl) (by kernel_rfl) (by kernel_rfl) (fun _ _ _ h => h) (Or.inl ⟨by kernel_rfl, ?_⟩) (by assumption) ?_
      rotate_left
      ·((intro w hSw; go_simp) <;> with_reducible rfl)
      try simp only [Act.put, List.setIfInBounds_toArray, List.set_cons_zero, List.set_cons_succ]
      refine Rk.tail [9] [_] (by kernel_rfl) (by kernel_rfl) rfl (by decide) ?_
      obtain ⟨c6, m6, v0, v1, s0', s1', t0, t1, K30⟩ := hHeld
      go_wp2_with fail
      go_roundw
      case rel =>
       have h5 := row_two VK hjj.out hjm y.1 y.2
       rw [HSET.out] at h5
       exact ⟨j + 1, by simp, by omega, Lib.hid ⟨((TK.far (by omega)).far (by omega)).drew, ((RK.far (by omega)).far (by omega)).drew, ((DK.far (Ne.symm hne9)).far (Ne.symm hne9)).drew, ((PK.kept grown_set (own_two PK VK)).kept grown_set (own_two PK VK)).drew, ((SK.kept grown_set (own_two SK VK)).kept grown_set (own_two SK VK)).drew, h5.drew, ((KK0.setCell (p := ⟨gq, j * 2, none⟩) (by dsimp only; omega) _).setCell (p := ⟨gq, j * 2 + 1, none⟩) (by dsimp only; omega) _).drew, by simpa using hsk⟩⟩
      case measure => simp [intOf]; omega
   ·obtain rfl : j = m := by omega
    have HVE := VJ
    rw [fill_full HVL.out rfl] at HVE
    have lr : w.heap.size + 1 < wr.heap.size := RJ.lt
    obtain ⟨⟨z0, z1, z2, z3, z4, z5, z6⟩, ⟨f0, f1, f2, f3, f4, f5, f6⟩⟩ := RJ
    obtain ⟨⟨m0, m1, m2, m3, m4, m5, m6⟩, -⟩ := DJ
    have gN : decide ((j : Int) < j) = false := by simp
    have hg9j := HJ.out.2.2.1.lt
    clear HJ VJ
    go_upto_region 21 with fail
    repeat go_step
    have SBB := (((((((KJ).setCell (p := ⟨w.heap.size + 1, 0, none⟩) (by dsimp only; omega) (.int .i64 K)).setCell (p := ⟨w.heap.size + 1, 1, none⟩) (by dsimp only; omega) (.int .i64 B)).setCell (p := ⟨w.heap.size + 1, 2, none⟩) (by dsimp only; omega) (.int .i64 F)).setCell (p := ⟨w.heap.size + 1, 3, none⟩) (by dsimp only; omega) (.int .i64 R)).setCell (p := ⟨w.heap.size + 1, 4, none⟩) (by dsimp only; omega) (.int .i64 O)).setCell (p := ⟨w.heap.size + 1, 5, none⟩) (by dsimp only; omega) (.slice pd zs.length cd)).setCell (p := ⟨w.heap.size + 1, 6, none⟩) (by dsimp only; omega) (.slice (some ⟨gq, 0, none⟩) j j)
    have hlp : (pm zs os).length = zs.length := by rw [pm_length, HOL.out]
    refine bodyPost_ret (v := .tuple #[Tn K B F R O pd zs.length cd (some ⟨gq, 0, none⟩) j j, .int .i64 0]) (by simp [results, Tryz.results37, go_sem, z0, f0, z1, f1, z2, f2, z3, f3, z4, f4, z5, f5, z6, f6, lr, Tn]) rfl ?_
    refine ⟨pd, cd, some ⟨gq, 0, none⟩, j, by rw [hlp, HVL.out], ?_, ?_, SBB⟩
    ·rw [hlp]; exact own_base (own_set (own_set (own_set (own_set (own_set (own_set (own_set PJ (by dsimp only; omega)) (by dsimp only; omega)) (by dsimp only; omega)) (by dsimp only; omega)) (by dsimp only; omega)) (by dsimp only; omega)) (by dsimp only; omega)) (by omega)
    ·rw [HVL.out]; exact own_base (own_set (own_set (own_set (own_set (own_set (own_set (own_set HVE (by dsimp only; omega)) (by dsimp only; omega)) (by dsimp only; omega)) (by dsimp only; omega)) (by dsimp only; omega)) (by dsimp only; omega)) (by dsimp only; omega)) (by omega)
end Go.Proofs.YteaaikmejacpaaaGreatDoor.Te


namespace Go.Proofs.YteaaikmejacpaaaGreatDoor.Va
open Go.ChangeShapes Go.WideShapes Go.ChangeAt Go.RowKit
open Fr Fx
set_option maxRecDepth 8000
set_option linter.unusedVariables false
set_option linter.unusedSimpArgs false
set_option maxRecDepth 8000

end Go.Proofs.YteaaikmejacpaaaGreatDoor.Va


namespace Go.Proofs.YteaaikmejacpaaaGreatDoor.Va
open Go.ChangeShapes Go.WideShapes Go.ChangeAt Go.RowKit
open Fr Fx
set_option maxRecDepth 8000
set_option linter.unusedVariables false
set_option linter.unusedSimpArgs false
set_option maxRecDepth 8000

end Go.Proofs.YteaaikmejacpaaaGreatDoor.Va


namespace Go.Proofs.YteaaikmejacpaaaGreatDoor.Tx
open Go.ChangeShapes Go.WideShapes Go.ChangeAt Go.RowKit
open Fr Fx
set_option maxRecDepth 8000
set_option linter.unusedVariables false
set_option linter.unusedSimpArgs false
set_option maxRecDepth 8000

def neg : List UInt8 -> Bool
 | [] => false
 | c :: _ => decide (c.toNat = 45)
def bd (l : List UInt8) : List UInt8 := if neg l then l.tail else l

def nv10 : Nat -> List UInt8 -> Nat
 | a, [] => a
 | a, c :: r => nv10 (a * 10 + (c.toNat - 48)) r
def av (l : List UInt8) : Nat := nv10 0 (bd l)
def sv (l : List UInt8) : Int := if neg l then -(av l : Int) else av l

/-- The text of Format. -/
def fmv (n d : Int) : List UInt8 := if vld n d = false then [] else if d = 1 then Lib.itoa n else Lib.itoa n ++ 47 :: Lib.itoa d
theorem dec_small {k : Nat} (h : k < 10) : Lib.decDigits k = [UInt8.ofNat (48 + k)] := by rw [Lib.decDigits, dif_pos h]
theorem dec_big {k : Nat} (h : ¬ k < 10) : Lib.decDigits k = Lib.decDigits (k / 10) ++ [UInt8.ofNat (48 + k % 10)] := by rw [Lib.decDigits, dif_neg h]

end Go.Proofs.YteaaikmejacpaaaGreatDoor.Tx


namespace Go.Proofs
open Go.Shelf

def Tryz.laysM173_ren : Go.Shelf.Ren := ⟨fun | 173 => 155 | 246 => 170 | 283 => 174 | 284 => 175 | 285 => 176 | 286 => 177 | 129 => 182 | 317 => 181 | 318 => 183 | 319 => 184 | 320 => 185 | 337 => 186 | 338 => 187 | n => n, fun | 2 => 2 | 3 => 3 | 9 => 9 | 4 => 4 | 171 => 169 | 0 => 0 | 53 => 130 | 37 => 96 | 5 => 5 | 173 => 172 | 212 => 177 | 51 => 134 | 20 => 20 | 213 => 178 | 46 => 106 | 232 => 181 | 233 => 182 | n => n, fun | 17 => 0 | 18 => 1 | 19 => 2 | n => n⟩

theorem Tryz.laysM173 : Go.Proofs.LaysM.n173 Tryz.prog Tryz.laysM173_ren := {
 mixed := by kernel_rfl
 f129 := Tryz.func182.trans (congrArg some (by kernel_rfl))
 f173 := Tryz.func155.trans (congrArg some (by kernel_rfl))
 f246 := Tryz.func170.trans (congrArg some (by kernel_rfl))
 f283 := Tryz.func174.trans (congrArg some (by kernel_rfl))
 f284 := Tryz.func175.trans (congrArg some (by kernel_rfl))
 f285 := Tryz.func176.trans (congrArg some (by kernel_rfl))
 f286 := Tryz.func177.trans (congrArg some (by kernel_rfl))
 f317 := Tryz.func181.trans (congrArg some (by kernel_rfl))
 f318 := Tryz.func183.trans (congrArg some (by kernel_rfl))
 f319 := Tryz.func184.trans (congrArg some (by kernel_rfl))
 f320 := Tryz.func185.trans (congrArg some (by kernel_rfl))
 f337 := Tryz.func186.trans (congrArg some (by kernel_rfl))
 f338 := Tryz.func187.trans (congrArg some (by kernel_rfl))
 t0 := Tryz.underlying0
 a0 := Tryz.isAgg0
 z0 := Tryz.sizeOf0
 v0 := Tryz.zeroValue0
 t2 := Tryz.underlying2
 a2 := Tryz.isAgg2
 z2 := Tryz.sizeOf2
 v2 := Tryz.zeroValue2
 t3 := Tryz.underlying3
 a3 := Tryz.isAgg3
 z3 := Tryz.sizeOf3
 v3 := Tryz.zeroValue3
 t4 := Tryz.underlying4
 a4 := Tryz.isAgg4
 z4 := Tryz.sizeOf4
 v4 := Tryz.zeroValue4
 t5 := Tryz.underlying5
 a5 := Tryz.isAgg5
 z5 := Tryz.sizeOf5
 v5 := Tryz.zeroValue5
 t9 := Tryz.underlying9
 a9 := Tryz.isAgg9
 z9 := Tryz.sizeOf9
 v9 := Tryz.zeroValue9
 t20 := Tryz.underlying20
 a20 := Tryz.isAgg20
 z20 := Tryz.sizeOf20
 v20 := Tryz.zeroValue20
 t37 := Tryz.underlying96
 a37 := Tryz.isAgg96
 z37 := Tryz.sizeOf96
 v37 := Tryz.zeroValue96
 t46 := Tryz.underlying106
 a46 := Tryz.isAgg106
 z46 := Tryz.sizeOf106
 v46 := Tryz.zeroValue106
 t51 := Tryz.underlying134
 a51 := Tryz.isAgg134
 z51 := Tryz.sizeOf134
 v51 := Tryz.zeroValue134
 t53 := Tryz.underlying130
 a53 := Tryz.isAgg130
 z53 := Tryz.sizeOf130
 v53 := Tryz.zeroValue130
 t171 := Tryz.underlying169
 a171 := Tryz.isAgg169
 z171 := Tryz.sizeOf169
 v171 := Tryz.zeroValue169
 t173 := Tryz.underlying172
 a173 := Tryz.isAgg172
 z173 := Tryz.sizeOf172
 v173 := Tryz.zeroValue172
 t212 := Tryz.underlying177
 a212 := Tryz.isAgg177
 z212 := Tryz.sizeOf177
 v212 := Tryz.zeroValue177
 t213 := Tryz.underlying178
 a213 := Tryz.isAgg178
 z213 := Tryz.sizeOf178
 t232 := Tryz.underlying181
 a232 := Tryz.isAgg181
 z232 := Tryz.sizeOf181
 v232 := Tryz.zeroValue181
 t233 := Tryz.underlying182
 a233 := Tryz.isAgg182
 z233 := Tryz.sizeOf182
 v233 := Tryz.zeroValue182
 g17 := by kernel_rfl
 g18 := by kernel_rfl
 g19 := by kernel_rfl
 i0 := by kernel_rfl
 i2 := by kernel_rfl
 i3 := by kernel_rfl
 i4 := by kernel_rfl
 i5 := by kernel_rfl
 i9 := by kernel_rfl
 i20 := by kernel_rfl
 i37 := by kernel_rfl
 i46 := by kernel_rfl
 i51 := by kernel_rfl
 i53 := by kernel_rfl
 i171 := by kernel_rfl
 i173 := by kernel_rfl
 i212 := by kernel_rfl
 i232 := by kernel_rfl
 i233 := by kernel_rfl
 m17 := by kernel_rfl
 m18 := by kernel_rfl
 m19 := by kernel_rfl }

open Go.RowKit Go.Sort Go.Lib in
/-- strconv.FormatInt: "FormatInt returns the string representation of i in the given base": AT BASE 10: i's decimal numeral, for every int64. (LAID: no walk: one application.) -/
theorem Tryz.strconv_FormatInt_10 (n : Int) (h0 : -9223372036854775808 <= n) (h1 : n <= 9223372036854775807) (w : World) (htab : Lib.TabIs Tryz.prog w "internal/strconv.uint64pow10" .u64 Lib.pow10Tab) :
  Calls Tryz.prog 155 #[.int .i64 n, .int .i64 10] w fun e w' => e = .returned (.string ⟨(Lib.itoa n).toArray⟩) /\ ∃ k os, w' = grow (w.drewN k) os := Any.strconv_FormatInt_10 Tryz.laysM173 n h0 h1 w htab

end Go.Proofs


namespace Go.Proofs.YteaaikmejacpaaaGreatDoor.Tx
open Go.ChangeShapes Go.WideShapes Go.ChangeAt Go.RowKit
open Fr Fx
set_option maxRecDepth 8000
set_option linter.unusedVariables false
set_option linter.unusedSimpArgs false
set_option maxRecDepth 8000
theorem rb {a b : Bool} (h : a = b) : Ending.returned (.bool a) = .returned (.bool b) := by rw [h]
/-- What the variables of Go's library hold. -/
def LA (w : World) : Prop := Lib.TabIs Tryz.prog w "internal/strconv.uint64pow10" .u64 Lib.pow10Tab /\ True
theorem LA.below {w w' : World} (h : LA w) (hb : Below w.heap.size w w') : LA w' := ⟨Joins.tab_stays (g := 0) (by kernel_rfl) h.1 hb (Nat.le_refl _), trivial⟩

end Go.Proofs.YteaaikmejacpaaaGreatDoor.Tx


namespace Go.Proofs.YteaaikmejacpaaaGreatDoor.Tx
open Go.ChangeShapes Go.WideShapes Go.ChangeAt Go.RowKit
open Fr Fx
set_option maxRecDepth 8000
set_option linter.unusedVariables false
set_option linter.unusedSimpArgs false
set_option maxRecDepth 8000

end Go.Proofs.YteaaikmejacpaaaGreatDoor.Tx


namespace Go.Proofs.YteaaikmejacpaaaGreatDoor.Tx
open Go.ChangeShapes Go.WideShapes Go.ChangeAt Go.RowKit
open Fr Fx
set_option maxRecDepth 8000
set_option linter.unusedVariables false
set_option linter.unusedSimpArgs false
set_option maxRecDepth 8000
end Go.Proofs.YteaaikmejacpaaaGreatDoor.Tx
