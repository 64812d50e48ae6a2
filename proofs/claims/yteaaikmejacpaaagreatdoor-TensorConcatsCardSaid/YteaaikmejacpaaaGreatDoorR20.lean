/- Tensors: Point of the reference, in a row of its own; append of integers. -/
import Derived.Test.YteaaikmejacpaaaGreatDoorR19
import Derived.Test.YteaaikmejacpaaaGreatDoorR0
import Derived.Test.YteaaikmejacpaaaGreatDoorR17
import Derived.Deep.Cut

namespace Go.Proofs.YteaaikmejacpaaaGreatDoor.Te
open Go.ChangeShapes Go.WideShapes Go.ChangeAt Go.RowKit
open Fx Va Sh
set_option maxRecDepth 8000
set_option linter.unusedVariables false
set_option linter.unusedSimpArgs false
set_option maxRecDepth 100000 in
set_option maxHeartbeats 2000000 in
theorem trpo (p : Option Addr) (zs : List Int) (c i : Nat) (w : World) (hv : vE zs = 0) (hi : (i : Int) < sp zs) (RA : Hid (SlI w p zs)) :
  Calls Tryz.prog 27 #[.slice p zs.length c, .int .i64 i] w fun e w' => e = .returned (.slice (some ⟨w.heap.size, 0, none⟩) zs.length zs.length) /\ w'.ownsRow w.heap.size 3 1 (.slice (some ⟨w.heap.size, 0, none⟩) zs.length zs.length) zs.length ((pt zs i).map (Value.int .i64)) /\ Below w.heap.size w w' := by
 obtain ⟨h6, hlow, -, hsp, hd⟩ := valid_of hv
 have HD := Lib.hid hd
 have HLW := Lib.hid hlow
 have HP := Lib.hid fun j (hj : j < zs.length) => pt_cell (a := (i : Int)) hv (Int.natCast_nonneg i) hj
 have hi4 : i < 4096 := by omega
 have HPL := Lib.hid (pt_length zs i)
 obtain ⟨i0, hii, hz0, hz1, hz2⟩ := info_parts info3
 obtain ⟨n, hn⟩ : ∃ n, zs.length = n := ⟨_, rfl⟩
 have HN := Lib.hid hn
 rw [hn] at h6 HP HPL ⊢
 clear hn hd hlow hv
 go_enter Tryz.func27, Tryz.ntmps27
 go_wp2_with (refine wpList_make_full _ rfl _ _ 24 rfl w.heap.size 3 i0 (.int .i64 0) 1 Tryz.underlying24 hii hz0 hz1 .i64 .i64 _ _ n rfl rfl rfl rfl (by rw [hz2]; omega) (by unfold maxLen; omega) (Nat.le_refl _) ?_; intro w1 hown hg; have HB1 := Lib.hid (below_own (Nat.le_refl _) hg); have HO1 := Lib.hid hown; rw [show (Value.int IntKind.i64 0).cells = #[.int .i64 0] from rfl, toList_madeCells_one, Nat.mul_one] at HO1; clear hown hg)
 go_loopw [1, 6] (fun av jv wr => ∃ (j : Nat) (A : Int) (xs : List Int), av = .int .i64 A /\ jv = .int .i64 ((j : Int) - 1) /\ j <= n /\ 0 <= A /\ A <= 4096 /\ xs.length = n /\ Hid (A = (i : Int) / sp (zs.drop j)) /\ Hid (∀ k, j <= k -> k < n -> xs.getD k 0 = (pt zs i).getD k 0) /\ Hid (wr.ownsRow w.heap.size 3 1 (.slice (some ⟨w.heap.size, 0, none⟩) n n) n (xs.map (Value.int .i64))) /\ Hid (Below w.heap.size w wr)) (fun _ jv _ => (intOf jv + 1).toNat)
 case atStart =>
  refine ⟨n, i, List.replicate n 0, rfl, rfl, Nat.le_refl _, Int.natCast_nonneg _, by omega, List.length_replicate, Lib.hid ?_, Lib.hid (fun k h1 h2 => by omega), Lib.hid (by rw [List.map_replicate]; exact HO1.out), HB1⟩
  rw [List.drop_of_length_le (by rw [HN.out]; exact Nat.le_refl _)]
  show (i : Int) = i / 1
  rw [Int.ediv_one]
 case round =>
  obtain ⟨j, A, xs, rfl, rfl, hj, hA0, hA4, hx, HA, HX, HO, HB⟩ := hrel
  clear HO1 HB1 hii hz0 hz1 hz2
  cases j with
  | zero =>
   have HE : Hid (wr.ownsRow w.heap.size 3 1 (.slice (some ⟨w.heap.size, 0, none⟩) n n) n ((pt zs i).map (Value.int .i64))) := Lib.hid (by
    have e : xs = pt zs i := List.ext_getElem (by rw [hx, HPL.out]) fun k h1 h2 => by
     have h := HX.out k (Nat.zero_le _) (by omega)
     rw [getD_at h1, getD_at h2] at h
     exact h
    rw [<- e]
    exact HO.out)
   go_wp2_with fail
   go_ret
   exact ⟨rfl, HE.out, HB.out⟩
  | succ j =>
   rw [show ((j + 1 : Nat) : Int) - 1 = (j : Int) by omega]
   have hjn : j < n := by omega
   obtain ⟨b, o, rfl, hc⟩ := RA.out j (by rw [HN.out]; exact hjn)
   have hbw : b < w.heap.size := World.block_lt_of_cell? _ _ hc
   replace hc := Rg.keep HB.out hbw hc
   obtain ⟨p1, p2⟩ := HP.out j hjn
   have hz1 := pos_of HLW.out (k := j) (by rw [HN.out]; exact hjn)
   rw [<- HA.out] at p1 p2
   obtain ⟨z, hz⟩ : ∃ z, zs.getD j 0 = z := ⟨_, rfl⟩
   rw [hz] at hc p1 p2 hz1
   obtain ⟨m1, hm1⟩ : ∃ m, A % z = m := ⟨_, rfl⟩
   obtain ⟨d1, hd1⟩ : ∃ m, A / z = m := ⟨_, rfl⟩
   have hm2 : A.tmod z = m1 := by rw [Int.tmod_eq_emod_of_nonneg hA0]; exact hm1
   have hd2 : A.tdiv z = d1 := by rw [Int.tdiv_eq_ediv_of_nonneg hA0]; exact hd1
   have hd3 : 0 <= d1 := by rw [<- hd1]; exact Int.ediv_nonneg hA0 (by omega)
   have hd4 : d1 <= A := by rw [<- hd1]; exact Int.ediv_le_self _ hA0
   have hzn : ¬ z = 0 := by omega
   have wd : wrap64 d1 = d1 := w64 (by omega) (by omega)
   rw [hm1] at p1
   rw [hd1] at p2
   obtain ⟨s0, hs0⟩ : ∃ v, wr.cell? ⟨w.heap.size, j, none⟩ = some v := ⟨.int .i64 (xs.getD j 0), by
    have h := HO.out.cellAt j (by omega)
    rw [List.getElem?_map, List.getElem?_eq_getElem (by omega)] at h
    rw [getD_at (by omega)]; exact h⟩
   have hf0 := HO.out.frozenAt j
   have HP1 := Lib.hid p1
   have HP2 := Lib.hid p2
   have hj0 : (0 : Int) <= j := by omega
   have hj2 : (j : Int) < n := by omega
   have hb2 : b ≠ w.heap.size := by omega
   have hb3 : w.heap.size ≠ b := by omega
   clear hz p1 p2 HA
   go_wp2_with fail
   go_roundw
   case rel =>
    refine ⟨j, d1, xs.set j m1, rfl, by first | rfl | (congr 1; omega), by omega, hd3, by omega, by rw [List.length_set]; exact hx, HP2, Lib.hid (fun k h1 h2 => ?_), Lib.hid ?_, Lib.hid (HB.out.setCell (p := ⟨w.heap.size, j, none⟩) (Nat.le_refl _) _)⟩
    ·by_cases e : k = j
     ·subst e
      rw [<- HP1.out, List.getD_eq_getElem?_getD, List.getElem?_set_self (by omega)]; rfl
     ·rw [List.getD_eq_getElem?_getD, List.getElem?_set_ne (by omega), <- List.getD_eq_getElem?_getD]
      exact HX.out k (by omega) h2
    ·have h5 := (HO.out.stored j (.int .i64 m1)).1
     rw [List.map_set]
     exact h5
   case measure => (simp [intOf]) <;> omega

theorem sl_cellsI {w : World} {b o : Nat} {es : List Int} (h : SlI w (some ⟨b, o, none⟩) es) : ∀ (j : Nat) (u : Value), (es.map (Value.int .i64))[j]? = some u -> w.cell? ((⟨b, o, none⟩ : Addr).add j) = some u := by
 intro j u hj
 have hl : j < es.length := by
  have := (List.getElem?_eq_some_iff.1 hj).1
  simpa using this
 obtain ⟨b', o', e, c⟩ := h j hl
 cases e
 rw [add_at, c]
 rw [List.getElem?_map, List.getElem?_eq_getElem hl] at hj
 rw [getD_at hl]
 exact hj
theorem one_int (es : List Int) : ∀ u ∈ es.map (Value.int .i64), u.oneCell' = true := fun u hu => by
 obtain ⟨x, -, rfl⟩ := List.mem_map.1 hu
 rfl
theorem run_append_nilI {P : Program} {w : World} (base : Nat) (t ty e : TypeId) (i : TypeInfo) (size : Nat) (ht : P.underlying t = some (.slice e)) (hi : P.info? e = some i)
  (v : Value) (n : Nat) (xs : List Value) (hown : w.ownsRow base e size v n xs) (c : Nat) : (Builtin.append_ #[t, t] ty #[v, .slice none 0 c]).run P w = .ok v w := by
 rcases hown.2 with ⟨rfl, rfl⟩ | ⟨g, cap, cur, rfl, _, _, hnc, _⟩
 ·simp [Builtin.append_, run_underlying ht, sizeOf, typeInfo, hi, Builtin.lenOf, Builtin.firstCells]
 ·simp [Builtin.append_, run_underlying ht, sizeOf, typeInfo, hi, Builtin.lenOf, Builtin.firstCells, hnc, storeCells]
/-- append of a slice of integers, whatever it is. -/
theorem wpList_append_slI {P : Program} (w : World) {ops : Array Oper} {rest : List Oper} {o : Oper} {a : Act} {Q : Exit -> Act -> World -> Prop} (hgd : o.guard = none) (s x : Operand) (t : TypeId)
  (ho : o.op = .call { callee := .builtin .append, args := #[s, x], argTypes := #[t, t] })
  (base : Nat) (e : TypeId) (i : TypeInfo) (z : Value) (bytes : Nat) (ht : P.underlying t = some (.slice e)) (hi : P.info? e = some i) (hz : i.zero = some z)
  (hsize : i.size = 1) (hby : i.bytes = bytes) (hzs : z.cells.size = 1)
  (v : Value) (n : Nat) (xs : List Value) (hs : a.eval s = v) (hown : w.ownsRow base e 1 v n xs)
  (A : Option Addr) (es : List Int) (k c : Nat) (hx : a.eval x = .slice A k c) (hk : es.length = k) (hr : SlI w A es)
  (h63 : n + k <= maxLen) (hbytes : (n + k) * bytes <= 140737488355328) (hbase : base <= w.heap.size)
  (h : ∀ v' w', w'.ownsRow base e 1 v' (n + k) (xs ++ es.map (Value.int .i64)) -> w.grownBy w' v.ownBlock -> wpList P ops Q rest (a.put o.dst v') w') : wpList P ops Q (o :: rest) a w := by
 subst hk
 by_cases he : es = []
 ·subst he
  rcases A with _ | ad
  ·refine wpList_plain hgd fun K hK => ?_
   have hr := run_append_nilI (w := w) base t o.type e i 1 ht hi v n xs hown c
   unfold Oper.wp execOp
   simp only [ho, resolve, invoke, builtin, Sem.run_bind, Sem.run_pure, Result.andThen_ok, List.map_toArray, List.map_cons, List.map_nil, hs, hx, List.length_nil, hr]
   exact hK _ _ (h v w (by simpa using hown) ⟨rfl, rfl, rfl, Nat.le_refl _, fun _ _ _ => rfl⟩)
  ·exact wpList_append_own w hgd s x t ho base e i z 1 bytes ht hi hz hsize hby hzs (by decide) v n xs hs hown ad 0 c [] hx rfl (fun j u hj => by simp at hj) (fun u hu => by simp at hu) h63 hbytes hbase (fun v' w' h1 h2 _ => h v' w' h1 h2)
 ·rcases A with _ | ⟨b, o', sp⟩
  ·obtain ⟨b, o', e, _⟩ := hr 0 (by cases es with | nil => exact absurd rfl he | cons => simp)
   cases e
  ·obtain ⟨b1, o1, e, _⟩ := hr 0 (by cases es with | nil => exact absurd rfl he | cons => simp)
   cases e
   exact wpList_append_own w hgd s x t ho base _ i z 1 bytes ht hi hz hsize hby hzs (by decide) v n xs hs hown ⟨b, o', none⟩ es.length c (es.map (Value.int .i64)) hx (by simp) (sl_cellsI hr) (one_int es) h63 hbytes hbase (fun v' w' h1 h2 _ => h v' w' h1 h2)
end Go.Proofs.YteaaikmejacpaaaGreatDoor.Te


namespace Go.Proofs.YteaaikmejacpaaaGreatDoor.Te
open Go.ChangeShapes Go.WideShapes Go.ChangeAt Go.RowKit
open Fx Va Sh
set_option maxRecDepth 8000
set_option linter.unusedVariables false
set_option linter.unusedSimpArgs false

theorem sl_new1 (w : World) (x : Int) (T : TypeId) {b : Nat} (hb : w.heap.size = b) : SlI (w.alloc (Obj.cells #[Value.int .i64 x] T)) (some ⟨b, 0, none⟩) [x] := fun i hi => by
 subst hb
 obtain rfl : i = 0 := by simpa using hi
 exact ⟨_, _, rfl, by go_cell⟩
theorem SlI.dropIf {w : World} {g : Nat} {xs : List Int} (h : SlI w (some ⟨g, 0, none⟩) xs) {a n : Nat} (hn : xs.length = n) : SlI w (if n = a then some ⟨g, 0, none⟩ else some ⟨g, a, none⟩) (xs.drop a) := by
 by_cases e : n = a
 ·exact SlI.empty (by rw [List.length_drop]; omega)
 ·rw [if_neg e]
  have := SlI.drop h a
  rwa [Nat.zero_add] at this
theorem lnV_take' {vs : List (Int × Int)} {my af j k x : Nat} {y : Int × Int} (h : k < my) (hx : lnF my af j + k * af = x) (hy : vs.getD x (0, 0) = y) : (lnV vs my af j).take (k + 1) = (lnV vs my af j).take k ++ [y] := by
 rw [lnV_take _ _ _ _ _ h, hx, hy]

set_option maxRecDepth 100000 in
set_option maxHeartbeats 2000000 in
theorem rline (K B F R O : Int) (p : Option Addr) (zs : List Int) (c : Nat) (q : Option Addr) (vs : List (Int × Int)) (d a gx j bf my af : Nat) (w : World) (hv : vE zs = 0) (ha : a < zs.length) (hbf : sp (zs.take a) = bf) (hmy : zs.getD a 0 = my) (haf : sp (zs.drop (a + 1)) = af) (q3 : 1 <= af) (hmm3 : vs.length = bf * my * af) (m4 : vs.length <= 4096) (q6 : my <= vs.length) (q2 : 1 <= my) (hj : j < bf * af) (RA : Hid (SlI w p zs)) (RB : Hid (SlV w q vs)) (RX : Hid (SlI w (some ⟨gx, 0, none⟩) (pt (rst zs a) j))) :
  Calls Tryz.prog 67 #[Tn K B F R O p zs.length c q vs.length d, .int .i64 a, .slice (some ⟨gx, 0, none⟩) (zs.length - 1) (zs.length - 1)] w fun en w' => ∃ q' d', en = .returned (.slice q' my d') /\ my <= d' /\ w'.ownsRow w.heap.size 29 2 (.slice q' my d') my (flV (lnV vs my af j)) /\ Below w.heap.size w w' := by
 obtain ⟨h6, -, -, -, -⟩ := valid_of hv
 obtain ⟨xs, hxs⟩ : ∃ xs, pt (rst zs a) (j : Int) = xs := ⟨_, rfl⟩
 have hxl : xs.length = zs.length - 1 := by rw [<- hxs, pt_length, rst_length ha]
 have CO0 := fun (i : Nat) (hi : i < my) (y : Option Addr) (e : Nat) (u : World) h1 h2 => troff p y zs (ins (pt (rst zs a) j) a i) c e _ u hv (ins_length (by rw [pt_length, rst_length ha]; omega)) (ref_off hv ha hbf hmy haf hj hi) h1 h2
 have CL0 := fun (i : Nat) => ins_length (p := xs) (a := a) (k := (i : Int)) (n := zs.length) (by rw [hxl]; omega)
 rw [hxs] at CO0 RX
 have LT := Lib.hid fun (i : Nat) (hi : i < my) => ln_lt (before := bf) (k := i) (many := my) (i := j) hi q3 hj
 obtain ⟨bb, oo, hpp, hcell⟩ := RA.out a ha
 rw [hmy] at hcell
 have hbb : bb < w.heap.size := World.block_lt_of_cell? _ _ hcell
 subst hpp
 obtain ⟨vb, vo, hqq, -⟩ := RB.out 0 (by omega)
 subst hqq
 have hgxw : xs ≠ [] -> gx < w.heap.size := fun he => by
  obtain ⟨b', o', e, hc⟩ := RX.out 0 (by cases xs with | nil => exact absurd rfl he | cons => simp)
  cases e
  exact World.block_lt_of_cell? _ _ hc
 obtain ⟨n, hn⟩ : ∃ n, zs.length = n := ⟨_, rfl⟩
 obtain ⟨m, hm⟩ : ∃ m, vs.length = m := ⟨_, rfl⟩
 obtain ⟨n1, hn1⟩ : ∃ n1, n - 1 = n1 := ⟨_, rfl⟩
 have HNZ := Lib.hid hn
 have HM := Lib.hid hm
 have HCELL := Lib.hid hcell
 rw [hn] at CL0 hxl ha h6
 rw [hm] at m4 hmm3 q6
 rw [hn1] at hxl
 rw [hn, hm, hn1]
 have HXL := Lib.hid hxl
 have CL := Lib.hid CL0
 have CO := Lib.hid CO0
 have hna : n1 + 1 <= n := by omega
 have hnb : n <= n1 + 1 := by omega
 have HM3 := Lib.hid hmm3
 have K0 : Hid (Below w.heap.size w (w.alloc (Obj.cells #[Value.int .i64 K, Value.int .i64 B, Value.int .i64 F, Value.int .i64 R, Value.int .i64 O, Value.slice (some ⟨bb, oo, none⟩) n c, Value.slice (some ⟨vb, vo, none⟩) m d] 27))) := Lib.hid ((Below.refl _ _).alloc (Nat.le_refl _) _)
 have T0 : Hid (B7 (w.alloc (Obj.cells #[Value.int .i64 K, Value.int .i64 B, Value.int .i64 F, Value.int .i64 R, Value.int .i64 O, Value.slice (some ⟨bb, oo, none⟩) n c, Value.slice (some ⟨vb, vo, none⟩) m d] 27)) (w.heap.size) (.int .i64 K) (.int .i64 B) (.int .i64 F) (.int .i64 R) (.int .i64 O) (.slice (some ⟨bb, oo, none⟩) n c) (.slice (some ⟨vb, vo, none⟩) m d)) := Lib.hid (B7.new w _ (.int .i64 K) (.int .i64 B) (.int .i64 F) (.int .i64 R) (.int .i64 O) (.slice (some ⟨bb, oo, none⟩) n c) (.slice (some ⟨vb, vo, none⟩) m d))
 have a0 : (0 : Int) <= a := by omega
 have a1 : (a : Int) < n := by omega
 have a2 : (a : Int) <= n1 := by omega
 clear hn hm hn1 hxl CL0 CO0 hv hbf hmy haf hxs hcell hmm3 hj hgxw
 unfold Tn
 go_enter Tryz.func67, Tryz.ntmps67
 go_wp2_with fail
 go_loopw [7, 8] (fun ov iv wr => ∃ (i : Nat) (qv : Option Addr) (dv : Nat), ov = .slice qv i dv /\ iv = .int .i64 (i : Int) /\ i <= my /\ Hid (B7 wr (w.heap.size) (.int .i64 K) (.int .i64 B) (.int .i64 F) (.int .i64 R) (.int .i64 O) (.slice (some ⟨bb, oo, none⟩) n c) (.slice (some ⟨vb, vo, none⟩) m d)) /\ Hid (wr.ownsRow (w.heap.size + 1) 29 2 (.slice qv i dv) i (flV ((lnV vs my af j).take i))) /\ Hid (Below w.heap.size w wr) /\ w.heap.size + 1 <= wr.heap.size) (fun _ iv _ => my - (intOf iv).toNat)
 case atStart => exact ⟨0, none, 0, rfl, rfl, Nat.zero_le _, T0, Lib.hid (World.ownsRow_nil _ _ _ _), K0, by simp⟩
 case round =>
  obtain ⟨i, qv, dv, rfl, rfl, hil, TJ, VJ, KJ, hsz⟩ := hrel
  clear T0 K0
  obtain ⟨⟨c0, c1, c2, c3, c4, c5, c6⟩, -⟩ := TJ.out
  have hcr := Rg.keep KJ.out hbb HCELL.out
  by_cases him : i < my
  ·have hi2 : (i : Int) < my := by omega
   have hi0 : (0 : Int) <= i := by omega
   have RXr := Lib.hid (SlI.keep KJ.out RX.out)
   have hlt := LT.out i him
   rw [<- HM3.out] at hlt
   obtain ⟨x, hx⟩ : ∃ x, lnF my af j + i * af = x := ⟨_, rfl⟩
   have CO1 := fun y e u h1 h2 => CO.out i him y e u h1 h2
   rw [hx, CL.out i] at CO1
   rw [HNZ.out] at CO1
   rw [hx] at hlt
   obtain ⟨b', o', ee, v0, v1⟩ := RB.out x (by rw [HM.out]; exact hlt)
   cases ee
   have hvb : vb < w.heap.size := World.block_lt_of_cell? _ _ v0
   replace v0 := Rg.keep KJ.out hvb v0
   replace v1 := Rg.keep KJ.out hvb v1
   obtain ⟨⟨y1, y2⟩, hy⟩ : ∃ y, vs.getD x (0, 0) = y := ⟨_, rfl⟩
   have HT := Lib.hid (lnV_take' (vs := vs) him hx hy)
   rw [hy] at v0 v1
   dsimp only at v0 v1
   have hx2 : (x : Int) < m := by omega
   have hx0 : (0 : Int) <= x := by omega
   have HV0 := Lib.hid v0
   have HV1 := Lib.hid v1
   have C2 := Lib.hid CO1
   obtain ⟨i0, hi, hz0, hz1, hz2⟩ := info_parts info3
   clear hx hy hlt v0 v1 CO1
   go_upto_region 9 with (first | (at_builtin; refine wpList_append_slI _ rfl _ _ 24 rfl wr.heap.size 3 i0 (.int .i64 0) 8 Tryz.underlying24 hi hz0 hz1 hz2 rfl (.slice none 0 0) (0) ([]) rfl (World.ownsRow_nil _ _ _ _) (_) (xs.take a) (a) _ rfl (by rw [List.length_take]; have := HXL.out; omega) (SlI_take RXr.out a) (by unfold maxLen; omega) (by omega) (Nat.le_refl _) ?_; intro v1 wq1 hown1 hgr1; have hq1b := below_own (Nat.le_refl _) hgr1; replace hown1 : wq1.ownsRow wr.heap.size 3 1 v1 a ((xs.take a).map (Value.int .i64)) := (by simpa using hown1); have HO1 := Lib.hid hown1; obtain ⟨q1, c1, rfl⟩ := own_slice hown1; have HQ1 := Lib.hid hq1b; have sq1 := hq1b.size; clear hown1 hgr1 hq1b) | (at_builtin; refine wpList_append_slI _ rfl _ _ 24 rfl wr.heap.size 3 i0 (.int .i64 0) 8 Tryz.underlying24 hi hz0 hz1 hz2 rfl (.slice q1 a c1) (a) ((xs.take a).map (Value.int .i64)) rfl (HO1.out.alloc (Obj.cells #[Value.int .i64 (i : Int)] 3)) (some ⟨wq1.heap.size, 0, none⟩) ([(i : Int)]) (1) _ rfl rfl (sl_new1 wq1 _ 3 rfl) (by unfold maxLen; omega) (by omega) (by simp; omega) ?_; intro v2 wq2 hown2 hgr2; have hq2b : Below wr.heap.size wr wq2 := (HQ1.out.alloc HQ1.out.size (Obj.cells #[Value.int .i64 (i : Int)] 3)).grown hgr2 (by simp; omega) (fun k e => (HO1.out.lt k e).1); replace hown2 : wq2.ownsRow wr.heap.size 3 1 v2 (a + 1) ((xs.take a ++ [(i : Int)]).map (Value.int .i64)) := (by simpa using hown2); have HO2 := Lib.hid hown2; obtain ⟨q2, c2, rfl⟩ := own_slice hown2; have HQ2 := Lib.hid hq2b; have sq2 := hq2b.size; clear hown2 hgr2 hq2b) | (at_builtin; refine wpList_append_slI _ rfl _ _ 24 rfl wr.heap.size 3 i0 (.int .i64 0) 8 Tryz.underlying24 hi hz0 hz1 hz2 rfl (.slice q2 (a + 1) c2) (a + 1) ((xs.take a ++ [(i : Int)]).map (Value.int .i64)) rfl HO2.out (_) (xs.drop a) (n1 - a) _ rfl (by rw [List.length_drop]; have := HXL.out; omega) (SlI.keep HQ2.out (SlI.dropIf RXr.out HXL.out)) (by unfold maxLen; omega) (by omega) HQ2.out.size ?_; intro v3 wq3 hown3 hgr3; have hq3b : Below wr.heap.size wr wq3 := HQ2.out.grown hgr3 (by first | omega | exact HQ2.out.size) (fun k e => (HO2.out.lt k e).1); replace hown3 : wq3.ownsRow wr.heap.size 3 1 v3 n ((ins xs a i).map (Value.int .i64)) := (by have e1 : a + 1 + (n1 - a) = n := (by omega); rw [e1] at hown3; unfold ins; simpa using hown3); have HO3 := Lib.hid hown3; obtain ⟨q3, c3, rfl⟩ := own_slice hown3; have HQ3 := Lib.hid hq3b; have sq3 := hq3b.size; clear hown3 hgr3 hq3b))
   have KQ := Lib.hid (KJ.out.trans (HQ3.out.mono KJ.out.size))
   have C3 : Hid (∀ u, Below wq3.heap.size wq3 u -> Calls Tryz.prog 69 #[.slice (some ⟨bb, oo, none⟩) n c, .slice q3 n c3] u fun e u' => e = .returned (.int .i64 (x : Int)) /\ Below u.heap.size u u') := Lib.hid fun u h => (C2.out q3 c3 u (Lib.hid (SlI.keep (KQ.out.trans (h.mono KQ.out.size)) RA.out)) (Lib.hid (SlI.keep h (SlI_of HO3.out (CL.out i))))).mono fun _ _ g => ⟨g.1, by obtain ⟨k, rfl⟩ := g.2; exact below_drewN (Below.refl _ _) k⟩
   have ltJ := TJ.out.lt
   have c5 := Rg.keep HQ3.out ltJ c5
   have c6 := Rg.keep HQ3.out ltJ c6
   have v0 := Rg.keep HQ3.out (by omega) HV0.out
   have v1 := Rg.keep HQ3.out (by omega) HV1.out
   have HS : Hid (∀ u u' : World, (u.cell? ⟨w.heap.size, 5, none⟩ = some (.slice (some ⟨bb, oo, none⟩) n c) /\ u.cell? ⟨w.heap.size, 6, none⟩ = some (.slice (some ⟨vb, vo, none⟩) m d) /\ u.cell? ⟨vb, vo + x * 2, none⟩ = some (.int .i64 y1) /\ u.cell? ⟨vb, vo + x * 2 + 1, none⟩ = some (.int .i64 y2) /\ Below wq3.heap.size wq3 u) -> Below u.heap.size u u' -> (u'.cell? ⟨w.heap.size, 5, none⟩ = some (.slice (some ⟨bb, oo, none⟩) n c) /\ u'.cell? ⟨w.heap.size, 6, none⟩ = some (.slice (some ⟨vb, vo, none⟩) m d) /\ u'.cell? ⟨vb, vo + x * 2, none⟩ = some (.int .i64 y1) /\ u'.cell? ⟨vb, vo + x * 2 + 1, none⟩ = some (.int .i64 y2) /\ Below wq3.heap.size wq3 u')) := Lib.hid (fun u u' h hb => ⟨Rg.keep hb (World.block_lt_of_cell? _ _ h.1) h.1, Rg.keep hb (World.block_lt_of_cell? _ _ h.2.1) h.2.1, Rg.keep hb (World.block_lt_of_cell? _ _ h.2.2.1) h.2.2.1, Rg.keep hb (World.block_lt_of_cell? _ _ h.2.2.2.1) h.2.2.2.1, h.2.2.2.2.trans (hb.mono h.2.2.2.2.size)⟩)
   refine Rk.begin (S := fun wS => wS.cell? ⟨w.heap.size, 5, none⟩ = some (.slice (some ⟨bb, oo, none⟩) n c) /\ wS.cell? ⟨w.heap.size, 6, none⟩ = some (.slice (some ⟨vb, vo, none⟩) m d) /\ wS.cell? ⟨vb, vo + x * 2, none⟩ = some (.int .i64 y1) /\ wS.cell? ⟨vb, vo + x * 2 + 1, none⟩ = some (.int .i64 y2) /\ Below wq3.heap.size wq3 wS) 9 (by kernel_rfl) ⟨c5, c6, v0, v1, Below.drew (Below.refl _ _)⟩ (fun hHeld => ?_)
   refine SqR.p 0 ?_
   refine SqR.p 1 ?_
   refine SqR.l [7, 8, 9] 2 ?_
   refine SqR.p 3 ?_
   refine SqR.l [6, 7, 8, 9] 4 ?_
   refine SqR.p 5 ?_
   refine Rk.one (i := 6) (by kernel_rfl) rfl (fun KK hK => ?_)
   rw [if_pos (by kernel_rfl)]
   go_simp
   ((with_reducible refine (C3.out _ (hHeld.2.2.2.2)).mono ?_); rintro e u ⟨rfl, hb⟩)
   first | (refine hK.out _ _ (fun _ => HS.out _ _ hHeld hb) (fun hHeld => ?_)) | (refine hK.out _ _ (HS.out _ _ hHeld hb) (fun hHeld => ?_)) | (go_wp2_with fail; refine hK.out _ _ (HS.out _ _ hHeld hb) (fun hHeld => ?_))
   clear hK KK
   refine SqR.p 7 ?_
   refine SqR.l [9] 8 ?_
   refine Rk.tail [9, 10, 11] [_, _, _] (by kernel_rfl) (by kernel_rfl) rfl (by decide) ?_
   obtain ⟨-, -, -, -, K9⟩ := hHeld
   have KU := Lib.hid (HQ3.out.trans (K9.mono HQ3.out.size))
   have VU := Lib.hid (own_belowE VJ.out KU.out)
   have TU9 := Lib.hid (B7.keep KU.out ltJ TJ.out)
   have KJU := Lib.hid (KJ.out.trans (KU.out.mono KJ.out.size))
   have suw := KU.out.size
   clear K9 c5 c6 v0 v1 HS hi hz0 hz1 hz2
   obtain ⟨i1, hi, hz0, hz1, hz2⟩ := info_parts infoV
   go_wp2_with (at_builtin; refine wpList_append_own _ rfl _ _ 25 rfl (w.heap.size + 1) 29 i1 (.agg #[.int .i64 0, .int .i64 0]) 2 16 Tryz.underlying25 hi hz0 hz1 hz2 rfl (by decide) _ _ _ rfl (VU.out.alloc (Obj.cells #[Value.int .i64 y1, Value.int .i64 y2] 29)) ⟨u.heap.size, 0, none⟩ 1 1 [.int .i64 y1, .int .i64 y2] rfl rfl ?_ ?_ ?_ ?_ ?_ ?_; exact news2 u y1 y2 rfl; exact news1 y1 y2; (unfold maxLen; omega); omega; (simp; omega); intro v8 w8 hown8 hgrow _; obtain ⟨qn, dn, rfl⟩ := own_slice hown8; have hrow := row_base VU.out; have T8 := Lib.hid ((TU9.out.alloc (Obj.cells #[Value.int .i64 y1, Value.int .i64 y2] 29)).grown hgrow (fun e => by have := hrow _ e.symm; omega)); have V8 := Lib.hid hown8; have K8 := Lib.hid ((KJU.out.alloc KJU.out.size (Obj.cells #[Value.int .i64 y1, Value.int .i64 y2] 29)).grown hgrow (by have := KJU.out.size; simp; omega) (fun k e => by have := hrow _ e; omega)); have hs8 := hgrow.size; simp at hs8; clear hown8 hgrow)
   go_roundw
   case rel => exact ⟨i + 1, qn, dn, rfl, by simp, by omega, T8, Lib.hid (by rw [HT.out, flV_snoc]; exact V8.out), K8, by omega⟩
   case measure => simp [intOf]; omega
  ·obtain rfl : i = my := by omega
   have hlf : (lnV vs i af j).take i = lnV vs i af j := List.take_of_length_le (by rw [lnV_length]; exact Nat.le_refl _)
   have HLF := Lib.hid hlf
   have gN : decide ((i : Int) < i) = false := by simp
   clear hlf
   go_wp2_with fail
   go_ret
   exact ⟨qv, dv, rfl, (own_cap VJ.out).1, by rw [<- HLF.out]; exact own_base VJ.out (Nat.le_succ _), KJ.out⟩
end Go.Proofs.YteaaikmejacpaaaGreatDoor.Te


namespace Go.Proofs.YteaaikmejacpaaaGreatDoor.Te
open Go.ChangeShapes Go.WideShapes Go.ChangeAt Go.RowKit
open Fx Va Sh
set_option maxRecDepth 8000
set_option linter.unusedVariables false
set_option linter.unusedSimpArgs false

set_option maxRecDepth 100000 in
set_option maxHeartbeats 2000000 in
theorem rr_a (K B F R O : Int) (p : Option Addr) (zs : List Int) (c : Nat) (q : Option Addr) (vs : List (Int × Int)) (d : Nat) (ax fold : Int) (w : World) (b0 : -9223372036854775808 <= B) (b1 : B <= 9223372036854775807) (hn : zs.length <= maxLen) (hm : vs.length <= maxLen) (RA : Hid (SlI w p zs)) (RB : Hid (SlV w q vs)) (ht : tE K B F R O zs vs ≠ 0) :
  Calls Tryz.prog 34 #[Tn K B F R O p zs.length c q vs.length d, .int .i64 ax, .int .i64 fold] w (TRes 0 0 0 0 0 [] [] (tE K B F R O zs vs) w) := by
 have TV0 := fun w h1 h2 => rval K B F R O p zs c q vs d w hn hm h1 h2
 obtain ⟨E, hE⟩ : ∃ E, tE K B F R O zs vs = E := ⟨_, rfl⟩
 rw [hE] at TV0 ht ⊢
 have g1 : (E == 0) = false := by simpa using ht
 have g2 : (E != 0) = true := by simpa using ht
 obtain ⟨m, hmm⟩ : ∃ m, vs.length = m := ⟨_, rfl⟩
 have HM := Lib.hid hmm
 rw [hmm] at TV0 ⊢
 have TV := Lib.hid TV0
 have B0 : Hid (Below w.heap.size w ((w.alloc (Obj.cells #[Value.int .i64 K, Value.int .i64 B, Value.int .i64 F, Value.int .i64 R, Value.int .i64 O, Value.slice p zs.length c, Value.slice q m d] 27)).alloc (Obj.cells #[Value.int .i64 0, Value.int .i64 0, Value.int .i64 0, Value.int .i64 0, Value.int .i64 0, Value.slice none 0 0, Value.slice none 0 0] 27))) := Lib.hid (((Below.refl _ _).alloc (Nat.le_refl _) _).alloc (by simp) _)
 have T0 : Hid (B7 ((w.alloc (Obj.cells #[Value.int .i64 K, Value.int .i64 B, Value.int .i64 F, Value.int .i64 R, Value.int .i64 O, Value.slice p zs.length c, Value.slice q m d] 27)).alloc (Obj.cells #[Value.int .i64 0, Value.int .i64 0, Value.int .i64 0, Value.int .i64 0, Value.int .i64 0, Value.slice none 0 0, Value.slice none 0 0] 27)) (w.heap.size) (.int .i64 K) (.int .i64 B) (.int .i64 F) (.int .i64 R) (.int .i64 O) (.slice p zs.length c) (.slice q m d)) := Lib.hid ((B7.new w _ (.int .i64 K) (.int .i64 B) (.int .i64 F) (.int .i64 R) (.int .i64 O) (.slice p zs.length c) (.slice q m d)).alloc _)
 have R0 : Hid (B7 ((w.alloc (Obj.cells #[Value.int .i64 K, Value.int .i64 B, Value.int .i64 F, Value.int .i64 R, Value.int .i64 O, Value.slice p zs.length c, Value.slice q m d] 27)).alloc (Obj.cells #[Value.int .i64 0, Value.int .i64 0, Value.int .i64 0, Value.int .i64 0, Value.int .i64 0, Value.slice none 0 0, Value.slice none 0 0] 27)) (w.heap.size + 1) (.int .i64 0) (.int .i64 0) (.int .i64 0) (.int .i64 0) (.int .i64 0) (.slice none 0 0) (.slice none 0 0)) := Lib.hid (by have h := B7.new (w.alloc (Obj.cells #[Value.int .i64 K, Value.int .i64 B, Value.int .i64 F, Value.int .i64 R, Value.int .i64 O, Value.slice p zs.length c, Value.slice q m d] 27)) 27 (.int .i64 0) (.int .i64 0) (.int .i64 0) (.int .i64 0) (.int .i64 0) (.slice none 0 0) (.slice none 0 0); simpa using h)
 clear TV0
 clear hE ht hm hmm
 unfold Tn at *
 go_enter Tryz.func34, Tryz.ntmps34
 go_wp2_with (go_at_call 21; (with_reducible refine (TV.out _ (Lib.hid (SlI.keep B0.out RA.out)) (Lib.hid (SlV.below RB.out B0.out))).mono ?_); rintro e w1 ⟨rfl, hb⟩; have KB := Lib.hid (B0.out.trans (hb.mono B0.out.size)); have TB := Lib.hid (B7.keep hb (by simp <;> omega) T0.out); have RB9 := Lib.hid (B7.keep hb (by simp <;> omega) R0.out); obtain ⟨⟨c0, c1, c2, c3, c4, c5, c6⟩, -⟩ := TB.out; obtain ⟨⟨z0, z1, z2, z3, z4, z5, z6⟩, ⟨f0, f1, f2, f3, f4, f5, f6⟩⟩ := RB9.out; have lr : w.heap.size + 1 < w1.heap.size := RB9.out.lt; clear hb)
 have SBB := (((((((KB.out).setCell (p := ⟨w.heap.size + 1, 0, none⟩) (by dsimp only; omega) (.int .i64 0)).setCell (p := ⟨w.heap.size + 1, 1, none⟩) (by dsimp only; omega) (.int .i64 0)).setCell (p := ⟨w.heap.size + 1, 2, none⟩) (by dsimp only; omega) (.int .i64 0)).setCell (p := ⟨w.heap.size + 1, 3, none⟩) (by dsimp only; omega) (.int .i64 0)).setCell (p := ⟨w.heap.size + 1, 4, none⟩) (by dsimp only; omega) (.int .i64 0)).setCell (p := ⟨w.heap.size + 1, 5, none⟩) (by dsimp only; omega) (.slice none 0 0)).setCell (p := ⟨w.heap.size + 1, 6, none⟩) (by dsimp only; omega) (.slice none 0 0)
 refine bodyPost_ret (v := .tuple #[.agg #[.int .i64 0, .int .i64 0, .int .i64 0, .int .i64 0, .int .i64 0, .slice none 0 0, .slice none 0 0], .int .i64 E]) (by simp [results, Tryz.results34, go_sem, z0, f0, z1, f1, z2, f2, z3, f3, z4, f4, z5, f5, z6, f6, lr]) rfl (TRes.no SBB)

set_option maxRecDepth 100000 in
set_option maxHeartbeats 2000000 in
theorem rr_b0 (K B F R O : Int) (p : Option Addr) (zs : List Int) (c : Nat) (q : Option Addr) (vs : List (Int × Int)) (d : Nat) (ax fold : Int) (w : World) (b0 : -9223372036854775808 <= B) (b1 : B <= 9223372036854775807) (hn : zs.length <= maxLen) (hm : vs.length <= maxLen) (RA : Hid (SlI w p zs)) (RB : Hid (SlV w q vs)) (ht : tE K B F R O zs vs = 0) (ha : ax < 0) :
  Calls Tryz.prog 34 #[Tn K B F R O p zs.length c q vs.length d, .int .i64 ax, .int .i64 fold] w (TRes 0 0 0 0 0 [] [] 11 w) := by
 have TV0 := fun w h1 h2 => rval K B F R O p zs c q vs d w hn hm h1 h2
 rw [ht] at TV0
 obtain ⟨m, hmm⟩ : ∃ m, vs.length = m := ⟨_, rfl⟩
 have HM := Lib.hid hmm
 rw [hmm] at TV0 ⊢
 have TV := Lib.hid TV0
 have B0 : Hid (Below w.heap.size w ((w.alloc (Obj.cells #[Value.int .i64 K, Value.int .i64 B, Value.int .i64 F, Value.int .i64 R, Value.int .i64 O, Value.slice p zs.length c, Value.slice q m d] 27)).alloc (Obj.cells #[Value.int .i64 0, Value.int .i64 0, Value.int .i64 0, Value.int .i64 0, Value.int .i64 0, Value.slice none 0 0, Value.slice none 0 0] 27))) := Lib.hid (((Below.refl _ _).alloc (Nat.le_refl _) _).alloc (by simp) _)
 have T0 : Hid (B7 ((w.alloc (Obj.cells #[Value.int .i64 K, Value.int .i64 B, Value.int .i64 F, Value.int .i64 R, Value.int .i64 O, Value.slice p zs.length c, Value.slice q m d] 27)).alloc (Obj.cells #[Value.int .i64 0, Value.int .i64 0, Value.int .i64 0, Value.int .i64 0, Value.int .i64 0, Value.slice none 0 0, Value.slice none 0 0] 27)) (w.heap.size) (.int .i64 K) (.int .i64 B) (.int .i64 F) (.int .i64 R) (.int .i64 O) (.slice p zs.length c) (.slice q m d)) := Lib.hid ((B7.new w _ (.int .i64 K) (.int .i64 B) (.int .i64 F) (.int .i64 R) (.int .i64 O) (.slice p zs.length c) (.slice q m d)).alloc _)
 have R0 : Hid (B7 ((w.alloc (Obj.cells #[Value.int .i64 K, Value.int .i64 B, Value.int .i64 F, Value.int .i64 R, Value.int .i64 O, Value.slice p zs.length c, Value.slice q m d] 27)).alloc (Obj.cells #[Value.int .i64 0, Value.int .i64 0, Value.int .i64 0, Value.int .i64 0, Value.int .i64 0, Value.slice none 0 0, Value.slice none 0 0] 27)) (w.heap.size + 1) (.int .i64 0) (.int .i64 0) (.int .i64 0) (.int .i64 0) (.int .i64 0) (.slice none 0 0) (.slice none 0 0)) := Lib.hid (by have h := B7.new (w.alloc (Obj.cells #[Value.int .i64 K, Value.int .i64 B, Value.int .i64 F, Value.int .i64 R, Value.int .i64 O, Value.slice p zs.length c, Value.slice q m d] 27)) 27 (.int .i64 0) (.int .i64 0) (.int .i64 0) (.int .i64 0) (.int .i64 0) (.slice none 0 0) (.slice none 0 0); simpa using h)
 clear TV0
 have g1 : decide (ax < 0) = true := by simpa using ha
 clear ha
 clear ht hm hmm
 unfold Tn at *
 go_enter Tryz.func34, Tryz.ntmps34
 go_wp2_with (go_at_call 21; (with_reducible refine (TV.out _ (Lib.hid (SlI.keep B0.out RA.out)) (Lib.hid (SlV.below RB.out B0.out))).mono ?_); rintro e w1 ⟨rfl, hb⟩; have KB := Lib.hid (B0.out.trans (hb.mono B0.out.size)); have TB := Lib.hid (B7.keep hb (by simp <;> omega) T0.out); have RB9 := Lib.hid (B7.keep hb (by simp <;> omega) R0.out); obtain ⟨⟨c0, c1, c2, c3, c4, c5, c6⟩, -⟩ := TB.out; obtain ⟨⟨z0, z1, z2, z3, z4, z5, z6⟩, ⟨f0, f1, f2, f3, f4, f5, f6⟩⟩ := RB9.out; have lr : w.heap.size + 1 < w1.heap.size := RB9.out.lt; clear hb)
 have SBB := (((((((KB.out).setCell (p := ⟨w.heap.size + 1, 0, none⟩) (by dsimp only; omega) (.int .i64 0)).setCell (p := ⟨w.heap.size + 1, 1, none⟩) (by dsimp only; omega) (.int .i64 0)).setCell (p := ⟨w.heap.size + 1, 2, none⟩) (by dsimp only; omega) (.int .i64 0)).setCell (p := ⟨w.heap.size + 1, 3, none⟩) (by dsimp only; omega) (.int .i64 0)).setCell (p := ⟨w.heap.size + 1, 4, none⟩) (by dsimp only; omega) (.int .i64 0)).setCell (p := ⟨w.heap.size + 1, 5, none⟩) (by dsimp only; omega) (.slice none 0 0)).setCell (p := ⟨w.heap.size + 1, 6, none⟩) (by dsimp only; omega) (.slice none 0 0)
 refine bodyPost_ret (v := .tuple #[.agg #[.int .i64 0, .int .i64 0, .int .i64 0, .int .i64 0, .int .i64 0, .slice none 0 0, .slice none 0 0], .int .i64 11]) (by simp [results, Tryz.results34, go_sem, z0, f0, z1, f1, z2, f2, z3, f3, z4, f4, z5, f5, z6, f6, lr]) rfl (TRes.no SBB)

set_option maxRecDepth 100000 in
set_option maxHeartbeats 2000000 in
theorem rr_b1 (K B F R O : Int) (p : Option Addr) (zs : List Int) (c : Nat) (q : Option Addr) (vs : List (Int × Int)) (d : Nat) (ax fold : Int) (w : World) (b0 : -9223372036854775808 <= B) (b1 : B <= 9223372036854775807) (hn : zs.length <= maxLen) (hm : vs.length <= maxLen) (RA : Hid (SlI w p zs)) (RB : Hid (SlV w q vs)) (ht : tE K B F R O zs vs = 0) (ha : ¬ ax < 0) (ha2 : (zs.length : Int) <= ax) :
  Calls Tryz.prog 34 #[Tn K B F R O p zs.length c q vs.length d, .int .i64 ax, .int .i64 fold] w (TRes 0 0 0 0 0 [] [] 11 w) := by
 have TV0 := fun w h1 h2 => rval K B F R O p zs c q vs d w hn hm h1 h2
 rw [ht] at TV0
 obtain ⟨m, hmm⟩ : ∃ m, vs.length = m := ⟨_, rfl⟩
 have HM := Lib.hid hmm
 rw [hmm] at TV0 ⊢
 have TV := Lib.hid TV0
 have B0 : Hid (Below w.heap.size w ((w.alloc (Obj.cells #[Value.int .i64 K, Value.int .i64 B, Value.int .i64 F, Value.int .i64 R, Value.int .i64 O, Value.slice p zs.length c, Value.slice q m d] 27)).alloc (Obj.cells #[Value.int .i64 0, Value.int .i64 0, Value.int .i64 0, Value.int .i64 0, Value.int .i64 0, Value.slice none 0 0, Value.slice none 0 0] 27))) := Lib.hid (((Below.refl _ _).alloc (Nat.le_refl _) _).alloc (by simp) _)
 have T0 : Hid (B7 ((w.alloc (Obj.cells #[Value.int .i64 K, Value.int .i64 B, Value.int .i64 F, Value.int .i64 R, Value.int .i64 O, Value.slice p zs.length c, Value.slice q m d] 27)).alloc (Obj.cells #[Value.int .i64 0, Value.int .i64 0, Value.int .i64 0, Value.int .i64 0, Value.int .i64 0, Value.slice none 0 0, Value.slice none 0 0] 27)) (w.heap.size) (.int .i64 K) (.int .i64 B) (.int .i64 F) (.int .i64 R) (.int .i64 O) (.slice p zs.length c) (.slice q m d)) := Lib.hid ((B7.new w _ (.int .i64 K) (.int .i64 B) (.int .i64 F) (.int .i64 R) (.int .i64 O) (.slice p zs.length c) (.slice q m d)).alloc _)
 have R0 : Hid (B7 ((w.alloc (Obj.cells #[Value.int .i64 K, Value.int .i64 B, Value.int .i64 F, Value.int .i64 R, Value.int .i64 O, Value.slice p zs.length c, Value.slice q m d] 27)).alloc (Obj.cells #[Value.int .i64 0, Value.int .i64 0, Value.int .i64 0, Value.int .i64 0, Value.int .i64 0, Value.slice none 0 0, Value.slice none 0 0] 27)) (w.heap.size + 1) (.int .i64 0) (.int .i64 0) (.int .i64 0) (.int .i64 0) (.int .i64 0) (.slice none 0 0) (.slice none 0 0)) := Lib.hid (by have h := B7.new (w.alloc (Obj.cells #[Value.int .i64 K, Value.int .i64 B, Value.int .i64 F, Value.int .i64 R, Value.int .i64 O, Value.slice p zs.length c, Value.slice q m d] 27)) 27 (.int .i64 0) (.int .i64 0) (.int .i64 0) (.int .i64 0) (.int .i64 0) (.slice none 0 0) (.slice none 0 0); simpa using h)
 clear TV0
 have g1 : decide (ax < 0) = false := by simpa using ha
 have g2 : decide ((zs.length : Int) <= ax) = true := by simpa using ha2
 have g3 : decide (ax < (zs.length : Int)) = false := by simpa using ha2
 clear ha ha2
 clear ht hm hmm
 unfold Tn at *
 go_enter Tryz.func34, Tryz.ntmps34
 go_wp2_with (go_at_call 21; (with_reducible refine (TV.out _ (Lib.hid (SlI.keep B0.out RA.out)) (Lib.hid (SlV.below RB.out B0.out))).mono ?_); rintro e w1 ⟨rfl, hb⟩; have KB := Lib.hid (B0.out.trans (hb.mono B0.out.size)); have TB := Lib.hid (B7.keep hb (by simp <;> omega) T0.out); have RB9 := Lib.hid (B7.keep hb (by simp <;> omega) R0.out); obtain ⟨⟨c0, c1, c2, c3, c4, c5, c6⟩, -⟩ := TB.out; obtain ⟨⟨z0, z1, z2, z3, z4, z5, z6⟩, ⟨f0, f1, f2, f3, f4, f5, f6⟩⟩ := RB9.out; have lr : w.heap.size + 1 < w1.heap.size := RB9.out.lt; clear hb)
 have SBB := (((((((KB.out).setCell (p := ⟨w.heap.size + 1, 0, none⟩) (by dsimp only; omega) (.int .i64 0)).setCell (p := ⟨w.heap.size + 1, 1, none⟩) (by dsimp only; omega) (.int .i64 0)).setCell (p := ⟨w.heap.size + 1, 2, none⟩) (by dsimp only; omega) (.int .i64 0)).setCell (p := ⟨w.heap.size + 1, 3, none⟩) (by dsimp only; omega) (.int .i64 0)).setCell (p := ⟨w.heap.size + 1, 4, none⟩) (by dsimp only; omega) (.int .i64 0)).setCell (p := ⟨w.heap.size + 1, 5, none⟩) (by dsimp only; omega) (.slice none 0 0)).setCell (p := ⟨w.heap.size + 1, 6, none⟩) (by dsimp only; omega) (.slice none 0 0)
 refine bodyPost_ret (v := .tuple #[.agg #[.int .i64 0, .int .i64 0, .int .i64 0, .int .i64 0, .int .i64 0, .slice none 0 0, .slice none 0 0], .int .i64 11]) (by simp [results, Tryz.results34, go_sem, z0, f0, z1, f1, z2, f2, z3, f3, z4, f4, z5, f5, z6, f6, lr]) rfl (TRes.no SBB)

set_option maxRecDepth 100000 in
set_option maxHeartbeats 2000000 in
theorem rr_c0 (K B F R O : Int) (p : Option Addr) (zs : List Int) (c : Nat) (q : Option Addr) (vs : List (Int × Int)) (d : Nat) (ax fold : Int) (w : World) (b0 : -9223372036854775808 <= B) (b1 : B <= 9223372036854775807) (hn : zs.length <= maxLen) (hm : vs.length <= maxLen) (RA : Hid (SlI w p zs)) (RB : Hid (SlV w q vs)) (ht : tE K B F R O zs vs = 0) (ha : ¬ ax < 0) (ha2 : ax < (zs.length : Int)) (hf : fold < 1) :
  Calls Tryz.prog 34 #[Tn K B F R O p zs.length c q vs.length d, .int .i64 ax, .int .i64 fold] w (TRes 0 0 0 0 0 [] [] 1 w) := by
 have TV0 := fun w h1 h2 => rval K B F R O p zs c q vs d w hn hm h1 h2
 rw [ht] at TV0
 obtain ⟨m, hmm⟩ : ∃ m, vs.length = m := ⟨_, rfl⟩
 have HM := Lib.hid hmm
 rw [hmm] at TV0 ⊢
 have TV := Lib.hid TV0
 have B0 : Hid (Below w.heap.size w ((w.alloc (Obj.cells #[Value.int .i64 K, Value.int .i64 B, Value.int .i64 F, Value.int .i64 R, Value.int .i64 O, Value.slice p zs.length c, Value.slice q m d] 27)).alloc (Obj.cells #[Value.int .i64 0, Value.int .i64 0, Value.int .i64 0, Value.int .i64 0, Value.int .i64 0, Value.slice none 0 0, Value.slice none 0 0] 27))) := Lib.hid (((Below.refl _ _).alloc (Nat.le_refl _) _).alloc (by simp) _)
 have T0 : Hid (B7 ((w.alloc (Obj.cells #[Value.int .i64 K, Value.int .i64 B, Value.int .i64 F, Value.int .i64 R, Value.int .i64 O, Value.slice p zs.length c, Value.slice q m d] 27)).alloc (Obj.cells #[Value.int .i64 0, Value.int .i64 0, Value.int .i64 0, Value.int .i64 0, Value.int .i64 0, Value.slice none 0 0, Value.slice none 0 0] 27)) (w.heap.size) (.int .i64 K) (.int .i64 B) (.int .i64 F) (.int .i64 R) (.int .i64 O) (.slice p zs.length c) (.slice q m d)) := Lib.hid ((B7.new w _ (.int .i64 K) (.int .i64 B) (.int .i64 F) (.int .i64 R) (.int .i64 O) (.slice p zs.length c) (.slice q m d)).alloc _)
 have R0 : Hid (B7 ((w.alloc (Obj.cells #[Value.int .i64 K, Value.int .i64 B, Value.int .i64 F, Value.int .i64 R, Value.int .i64 O, Value.slice p zs.length c, Value.slice q m d] 27)).alloc (Obj.cells #[Value.int .i64 0, Value.int .i64 0, Value.int .i64 0, Value.int .i64 0, Value.int .i64 0, Value.slice none 0 0, Value.slice none 0 0] 27)) (w.heap.size + 1) (.int .i64 0) (.int .i64 0) (.int .i64 0) (.int .i64 0) (.int .i64 0) (.slice none 0 0) (.slice none 0 0)) := Lib.hid (by have h := B7.new (w.alloc (Obj.cells #[Value.int .i64 K, Value.int .i64 B, Value.int .i64 F, Value.int .i64 R, Value.int .i64 O, Value.slice p zs.length c, Value.slice q m d] 27)) 27 (.int .i64 0) (.int .i64 0) (.int .i64 0) (.int .i64 0) (.int .i64 0) (.slice none 0 0) (.slice none 0 0); simpa using h)
 clear TV0
 have g1 : decide (ax < 0) = false := by simpa using ha
 have g2 : decide ((zs.length : Int) <= ax) = false := by simpa using ha2
 have g4 : decide (fold < 1) = true := by simpa using hf
 clear ha hf
 clear ht hm hmm
 unfold Tn at *
 go_enter Tryz.func34, Tryz.ntmps34
 go_wp2_with (go_at_call 21; (with_reducible refine (TV.out _ (Lib.hid (SlI.keep B0.out RA.out)) (Lib.hid (SlV.below RB.out B0.out))).mono ?_); rintro e w1 ⟨rfl, hb⟩; have KB := Lib.hid (B0.out.trans (hb.mono B0.out.size)); have TB := Lib.hid (B7.keep hb (by simp <;> omega) T0.out); have RB9 := Lib.hid (B7.keep hb (by simp <;> omega) R0.out); obtain ⟨⟨c0, c1, c2, c3, c4, c5, c6⟩, -⟩ := TB.out; obtain ⟨⟨z0, z1, z2, z3, z4, z5, z6⟩, ⟨f0, f1, f2, f3, f4, f5, f6⟩⟩ := RB9.out; have lr : w.heap.size + 1 < w1.heap.size := RB9.out.lt; clear hb)
 have SBB := (((((((KB.out).setCell (p := ⟨w.heap.size + 1, 0, none⟩) (by dsimp only; omega) (.int .i64 0)).setCell (p := ⟨w.heap.size + 1, 1, none⟩) (by dsimp only; omega) (.int .i64 0)).setCell (p := ⟨w.heap.size + 1, 2, none⟩) (by dsimp only; omega) (.int .i64 0)).setCell (p := ⟨w.heap.size + 1, 3, none⟩) (by dsimp only; omega) (.int .i64 0)).setCell (p := ⟨w.heap.size + 1, 4, none⟩) (by dsimp only; omega) (.int .i64 0)).setCell (p := ⟨w.heap.size + 1, 5, none⟩) (by dsimp only; omega) (.slice none 0 0)).setCell (p := ⟨w.heap.size + 1, 6, none⟩) (by dsimp only; omega) (.slice none 0 0)
 refine bodyPost_ret (v := .tuple #[.agg #[.int .i64 0, .int .i64 0, .int .i64 0, .int .i64 0, .int .i64 0, .slice none 0 0, .slice none 0 0], .int .i64 1]) (by simp [results, Tryz.results34, go_sem, z0, f0, z1, f1, z2, f2, z3, f3, z4, f4, z5, f5, z6, f6, lr]) rfl (TRes.no SBB)

set_option maxRecDepth 100000 in
set_option maxHeartbeats 2000000 in
theorem rr_c1 (K B F R O : Int) (p : Option Addr) (zs : List Int) (c : Nat) (q : Option Addr) (vs : List (Int × Int)) (d : Nat) (ax fold : Int) (w : World) (b0 : -9223372036854775808 <= B) (b1 : B <= 9223372036854775807) (hn : zs.length <= maxLen) (hm : vs.length <= maxLen) (RA : Hid (SlI w p zs)) (RB : Hid (SlV w q vs)) (ht : tE K B F R O zs vs = 0) (ha : ¬ ax < 0) (ha2 : ax < (zs.length : Int)) (hf : ¬ fold < 1) (hf2 : 5 < fold) :
  Calls Tryz.prog 34 #[Tn K B F R O p zs.length c q vs.length d, .int .i64 ax, .int .i64 fold] w (TRes 0 0 0 0 0 [] [] 1 w) := by
 have TV0 := fun w h1 h2 => rval K B F R O p zs c q vs d w hn hm h1 h2
 rw [ht] at TV0
 obtain ⟨m, hmm⟩ : ∃ m, vs.length = m := ⟨_, rfl⟩
 have HM := Lib.hid hmm
 rw [hmm] at TV0 ⊢
 have TV := Lib.hid TV0
 have B0 : Hid (Below w.heap.size w ((w.alloc (Obj.cells #[Value.int .i64 K, Value.int .i64 B, Value.int .i64 F, Value.int .i64 R, Value.int .i64 O, Value.slice p zs.length c, Value.slice q m d] 27)).alloc (Obj.cells #[Value.int .i64 0, Value.int .i64 0, Value.int .i64 0, Value.int .i64 0, Value.int .i64 0, Value.slice none 0 0, Value.slice none 0 0] 27))) := Lib.hid (((Below.refl _ _).alloc (Nat.le_refl _) _).alloc (by simp) _)
 have T0 : Hid (B7 ((w.alloc (Obj.cells #[Value.int .i64 K, Value.int .i64 B, Value.int .i64 F, Value.int .i64 R, Value.int .i64 O, Value.slice p zs.length c, Value.slice q m d] 27)).alloc (Obj.cells #[Value.int .i64 0, Value.int .i64 0, Value.int .i64 0, Value.int .i64 0, Value.int .i64 0, Value.slice none 0 0, Value.slice none 0 0] 27)) (w.heap.size) (.int .i64 K) (.int .i64 B) (.int .i64 F) (.int .i64 R) (.int .i64 O) (.slice p zs.length c) (.slice q m d)) := Lib.hid ((B7.new w _ (.int .i64 K) (.int .i64 B) (.int .i64 F) (.int .i64 R) (.int .i64 O) (.slice p zs.length c) (.slice q m d)).alloc _)
 have R0 : Hid (B7 ((w.alloc (Obj.cells #[Value.int .i64 K, Value.int .i64 B, Value.int .i64 F, Value.int .i64 R, Value.int .i64 O, Value.slice p zs.length c, Value.slice q m d] 27)).alloc (Obj.cells #[Value.int .i64 0, Value.int .i64 0, Value.int .i64 0, Value.int .i64 0, Value.int .i64 0, Value.slice none 0 0, Value.slice none 0 0] 27)) (w.heap.size + 1) (.int .i64 0) (.int .i64 0) (.int .i64 0) (.int .i64 0) (.int .i64 0) (.slice none 0 0) (.slice none 0 0)) := Lib.hid (by have h := B7.new (w.alloc (Obj.cells #[Value.int .i64 K, Value.int .i64 B, Value.int .i64 F, Value.int .i64 R, Value.int .i64 O, Value.slice p zs.length c, Value.slice q m d] 27)) 27 (.int .i64 0) (.int .i64 0) (.int .i64 0) (.int .i64 0) (.int .i64 0) (.slice none 0 0) (.slice none 0 0); simpa using h)
 clear TV0
 have g1 : decide (ax < 0) = false := by simpa using ha
 have g2 : decide ((zs.length : Int) <= ax) = false := by simpa using ha2
 have g4 : decide (fold < 1) = false := by simpa using hf
 have g5 : decide (5 < fold) = true := by simpa using hf2
 clear ha hf
 clear ht hm hmm
 unfold Tn at *
 go_enter Tryz.func34, Tryz.ntmps34
 go_wp2_with (go_at_call 21; (with_reducible refine (TV.out _ (Lib.hid (SlI.keep B0.out RA.out)) (Lib.hid (SlV.below RB.out B0.out))).mono ?_); rintro e w1 ⟨rfl, hb⟩; have KB := Lib.hid (B0.out.trans (hb.mono B0.out.size)); have TB := Lib.hid (B7.keep hb (by simp <;> omega) T0.out); have RB9 := Lib.hid (B7.keep hb (by simp <;> omega) R0.out); obtain ⟨⟨c0, c1, c2, c3, c4, c5, c6⟩, -⟩ := TB.out; obtain ⟨⟨z0, z1, z2, z3, z4, z5, z6⟩, ⟨f0, f1, f2, f3, f4, f5, f6⟩⟩ := RB9.out; have lr : w.heap.size + 1 < w1.heap.size := RB9.out.lt; clear hb)
 have SBB := (((((((KB.out).setCell (p := ⟨w.heap.size + 1, 0, none⟩) (by dsimp only; omega) (.int .i64 0)).setCell (p := ⟨w.heap.size + 1, 1, none⟩) (by dsimp only; omega) (.int .i64 0)).setCell (p := ⟨w.heap.size + 1, 2, none⟩) (by dsimp only; omega) (.int .i64 0)).setCell (p := ⟨w.heap.size + 1, 3, none⟩) (by dsimp only; omega) (.int .i64 0)).setCell (p := ⟨w.heap.size + 1, 4, none⟩) (by dsimp only; omega) (.int .i64 0)).setCell (p := ⟨w.heap.size + 1, 5, none⟩) (by dsimp only; omega) (.slice none 0 0)).setCell (p := ⟨w.heap.size + 1, 6, none⟩) (by dsimp only; omega) (.slice none 0 0)
 refine bodyPost_ret (v := .tuple #[.agg #[.int .i64 0, .int .i64 0, .int .i64 0, .int .i64 0, .int .i64 0, .slice none 0 0, .slice none 0 0], .int .i64 1]) (by simp [results, Tryz.results34, go_sem, z0, f0, z1, f1, z2, f2, z3, f3, z4, f4, z5, f5, z6, f6, lr]) rfl (TRes.no SBB)
end Go.Proofs.YteaaikmejacpaaaGreatDoor.Te


namespace Go.Proofs.YteaaikmejacpaaaGreatDoor.Te
open Go.ChangeShapes Go.WideShapes Go.ChangeAt Go.RowKit
open Fx Va Sh
set_option maxRecDepth 8000
set_option linter.unusedVariables false
set_option linter.unusedSimpArgs false

/-- A tensor as an answer: its rows read as the lists. -/
def TS (K B F R O : Int) (zs : List Int) (vs : List (Int × Int)) (er : Int) (w : World) (e : Ending) (w' : World) : Prop := ∃ p c q d, e = .returned (.tuple #[Tn K B F R O p zs.length c q vs.length d, .int .i64 er]) /\ SlI w' p zs /\ SlV w' q vs /\ Below w.heap.size w w'
theorem TRes.ts {K B F R O : Int} {zs : List Int} {vs : List (Int × Int)} {er : Int} {w : World} {e : Ending} {w' : World} (h : TRes K B F R O zs vs er w e w') : TS K B F R O zs vs er w e w' := by
 obtain ⟨p, c, q, d, he, o1, o2, hb⟩ := h
 exact ⟨p, c, q, d, he, SlI_of o1 rfl, SlV_of o2 rfl, hb⟩

end Go.Proofs.YteaaikmejacpaaaGreatDoor.Te
