/- The reference: Combine. -/
import Derived.Test.YtbicmlkjonaccaaDoorE48
import Derived.Test.YtbicmlkjonaccaaDoorE46
import Derived.Test.YtbicmlkjonaccaaDoorE27b
import Derived.Test.YtbicmlkjonaccaaDoorJ13
import Derived.Deep.Cut
import Derived.Deep.CutRange

namespace Go.Proofs.YtbicmlkjonaccaaDoor.Ln
open Go.ChangeShapes Go.WideShapes Go.ChangeAt Go.RowKit
open Go.Proofs.YtbicmlkjonaccaaDoor.Nm
set_option linter.unusedVariables false
set_option linter.unusedSimpArgs false
set_option maxRecDepth 8000

theorem CbW.al {R : Cst × Int} {w u : World} {e : Ending} (h : CbW R w e u) (O : Obj) : CbW R w e (u.alloc O) := by
  obtain ⟨p, c, he, hs, hb⟩ := h
  exact ⟨p, c, he, SlM.keep ((Below.refl _ _).alloc (Nat.le_refl _) _) hs, hb.alloc hb.size _⟩

set_option maxRecDepth 100000 in
set_option maxHeartbeats 8000000 in
theorem rcmb_len (p : Option Addr) (l : List Qm) (c : Nat) (q : Option Addr) (bs : List Int) (d : Nat) (w : World) (hl : l.length ≤ 60) (hb' : bs.length ≤ maxLen) (RA : Hid (SlQ w p l)) (RB : Hid (SlJ w q bs)) (QK : Hid (∀ f ∈ l, f.2.1.length ≤ 40 ∧ (-9223372036854775808 ≤ f.1 ∧ f.1 ≤ 9223372036854775807) ∧ ∀ m ∈ f.2.1, m.1.size ≤ maxLen ∧ -9223372036854775808 ≤ m.2 ∧ m.2 ≤ 9223372036854775807)) (BK : Hid (∀ z ∈ bs, -9223372036854775808 ≤ z ∧ z ≤ 9223372036854775807)) (hne : l.length ≠ bs.length) : Calls Tryd.prog 35 #[.slice p l.length c, .slice q bs.length d] w (CbW ((0, [], false), 1) w) := by
  have h0 : ((l.length : Int) == (bs.length : Int)) = false := beq_false_of_ne (by omega)
  have h1 : ((l.length : Int) != (bs.length : Int)) = true := by rw [bne, h0]; rfl
  clear hne
  unfold maxLen at hb'
  go_enter Tryd.func35, Tryd.ntmps35
  go_wp2_with fail
  exact bodyPost_ret (v := .tuple #[.agg #[.int .i64 0, .slice none 0 0, .bool false], .int .i64 1]) (by simp [results, Tryd.results35, go_sem]) rfl ⟨none, 0, rfl, fun i hi => absurd hi (by simp), (Below.refl _ _).alloc (Nat.le_refl _) _⟩
set_option maxRecDepth 100000 in
set_option maxHeartbeats 8000000 in
theorem rcmb_eq (p : Option Addr) (l : List Qm) (c : Nat) (q : Option Addr) (bs : List Int) (d : Nat) (w : World) (hl : l.length ≤ 60) (hb' : bs.length ≤ maxLen) (RA : Hid (SlQ w p l)) (RB : Hid (SlJ w q bs)) (QK : Hid (∀ f ∈ l, f.2.1.length ≤ 40 ∧ (-9223372036854775808 ≤ f.1 ∧ f.1 ≤ 9223372036854775807) ∧ ∀ m ∈ f.2.1, m.1.size ≤ maxLen ∧ -9223372036854775808 ≤ m.2 ∧ m.2 ≤ 9223372036854775807)) (BK : Hid (∀ z ∈ bs, -9223372036854775808 ≤ z ∧ z ≤ 9223372036854775807)) (hee : l.length = bs.length) : Calls Tryd.prog 35 #[.slice p l.length c, .slice q bs.length d] w (CbW (cbR l bs) w) := by
  obtain ⟨RES, hRES⟩ : ∃ RES, cbR l bs = RES := ⟨_, rfl⟩
  have HR0 := Lib.hid hRES
  rw [hRES]
  obtain ⟨n, hnn⟩ : ∃ n, l.length = n := ⟨_, rfl⟩
  have HN := Lib.hid hnn
  have HM := Lib.hid (hee.symm.trans hnn)
  rw [← hee, hnn]
  rw [hnn] at hl
  have HE := Lib.hid hee
  clear hRES hnn hee hb'
  have hn0 : ((n : Int) == (n : Int)) = true := by simp
  have hn1 : ((n : Int) != (n : Int)) = false := by simp
  have F0 : Hid (Cl [(w.heap.size, 0, .int .i64 0), (w.heap.size, 1, .slice none 0 0), (w.heap.size, 2, .bool false)] (w.alloc (Obj.cells #[Value.int .i64 0, Value.slice none 0 0, Value.bool false] 36))) := Lib.hid (Cl.cons (by go_cell) (by simp only [frozen?_alloc_cells]; exact Rg.notFrozen (Nat.le_refl _)) (Cl.cons (by go_cell) (by simp only [frozen?_alloc_cells]; exact Rg.notFrozen (Nat.le_refl _)) (Cl.cons (by go_cell) (by simp only [frozen?_alloc_cells]; exact Rg.notFrozen (Nat.le_refl _)) (Cl.nil _))))
  have K0 : Hid (Below w.heap.size w (w.alloc (Obj.cells #[Value.int .i64 0, Value.slice none 0 0, Value.bool false] 36))) := Lib.hid ((Below.refl _ _).alloc (Nat.le_refl _) _)
  have lt0 : w.heap.size < (w.alloc (Obj.cells #[Value.int .i64 0, Value.slice none 0 0, Value.bool false] 36)).heap.size := by simp
  go_enter Tryd.func35, Tryd.ntmps35
  go_wp2_with fail
  generalize (w.alloc (Obj.cells #[Value.int .i64 0, Value.slice none 0 0, Value.bool false] 36)) = z at *
  go_loopw [6] (fun i wr => ∃ j : Nat, i = .int .i64 j ∧ j ≤ n ∧ w.heap.size < wr.heap.size ∧ Hid (Cl [(w.heap.size, 0, .int .i64 0), (w.heap.size, 1, .slice none 0 0), (w.heap.size, 2, .bool false)] wr) ∧ Hid (Below w.heap.size w wr) ∧ Hid (((l.zip bs).take j).any badQ = false)) (fun i _ => n - (intOf i).toNat)
  case atStart => exact ⟨0, rfl, Nat.zero_le _, lt0, F0, K0, Lib.hid (by simp)⟩
  case round =>
    obtain ⟨j, rfl, hj, lz, hF, hB, hG⟩ := hrel
    clear F0 K0 lt0
    have jj : (0 : Int) ≤ j := by omega
    by_cases hlt : j < n
    · obtain ⟨b, o, qa, da, rfl, c0, c1, c2, hM⟩ := RA.out j (by rw [HN.out]; exact hlt)
      obtain ⟨b', o', rfl, y0⟩ := RB.out j (by rw [HM.out]; exact hlt)
      have j2 : (j : Int) < n := by omega
      have hbw : b < w.heap.size := World.block_lt_of_cell? _ _ c0
      have hbw' : b' < w.heap.size := World.block_lt_of_cell? _ _ y0
      replace c0 := Rg.keep hB.out hbw c0
      replace c1 := Rg.keep hB.out hbw c1
      replace c2 := Rg.keep hB.out hbw c2
      replace y0 := Rg.keep hB.out hbw' y0
      have hbr : b < wr.heap.size := World.block_lt_of_cell? _ _ c0
      have hbr' : b' < wr.heap.size := World.block_lt_of_cell? _ _ y0
      have HM2 := Lib.hid (SlM.keep hB.out hM)
      have ho := QK.out _ (qget (l := l) (i := j) (by rw [HN.out]; exact hlt))
      have hzd := Lib.hid (zip_drop (l := l) (bs := bs) (j := j) (by rw [HN.out]; exact hlt) (by rw [HM.out]; exact hlt))
      have hzt := Lib.hid (zip_take (l := l) (bs := bs) (j := j) (by rw [HN.out]; exact hlt) (by rw [HM.out]; exact hlt))
      have hzm := Lib.hid (zip_mem (l := l) (bs := bs) (j := j) (by rw [HN.out]; exact hlt) (by rw [HM.out]; exact hlt))
      have hyb : -9223372036854775808 ≤ bs.getD j 0 ∧ bs.getD j 0 ≤ 9223372036854775807 := BK.out _ (by
        have h2 : j < bs.length := by rw [HM.out]; exact hlt
        have e2 : bs.getD j 0 = bs[j] := by unfold List.getD; rw [List.getElem?_eq_getElem h2]; rfl
        rw [e2]; exact List.getElem_mem _)
      obtain ⟨f, hf⟩ : ∃ f, l.getD j q0m = f := ⟨_, rfl⟩
      obtain ⟨y, hy⟩ : ∃ y, bs.getD j 0 = y := ⟨_, rfl⟩
      rw [hf] at c0 c1 c2 hM HM2 ho hzd hzt hzm
      rw [hy] at y0 hzd hzt hzm hyb
      obtain ⟨k, xs, eq⟩ := f
      dsimp only at c0 c1 c2 hM HM2 ho
      obtain ⟨o1, o2, o3⟩ := ho
      have VL := Lib.hid fun w h => cval2 k qa xs da eq w (by unfold maxLen; omega) h (Lib.hid fun i hi => (o3 _ (getD_mem hi)).1)
      unfold Cv at VL
      clear hM hf hy o1 o2 o3 hzd
      cases hok : okL xs
      · have hv : vL xs = 1 := by unfold vL; rw [hok]; rfl
        rw [hv] at VL
        have hbad : (l.zip bs).any badQ = true := List.any_eq_true.2 ⟨_, hzm.out, by unfold badQ; dsimp only; rw [hok]; rfl⟩
        have hr := HR0.out
        unfold cbR at hr
        rw [if_neg (by rw [HE.out]; simp), if_pos hbad] at hr
        subst hr
        clear hok hv hbad hG hzt hzm
        go_wp2_with (go_at_call 25; (with_reducible refine (VL.out _ HM2).mono ?_); rintro e u ⟨rfl, hb⟩; have FU := Lib.hid (hF.out.below hb); have KU := Lib.hid (hB.out.trans (hb.mono hB.out.size)); have y0 := Rg.keep hb hbr' y0; have x2 := Rg.keep hb hbr c2; have lx : b < u.heap.size := World.block_lt_of_cell? _ _ x2; have ly : b' < u.heap.size := World.block_lt_of_cell? _ _ y0; have lu : w.heap.size < u.heap.size := Nat.lt_of_lt_of_le lz hb.size; have z0 := FU.out.head; have zf0 := FU.out.headF; have z1 := FU.out.tail.head; have zf1 := FU.out.tail.headF; have z2 := FU.out.tail.tail.head; have zf2 := FU.out.tail.tail.headF; have lz9 := lu)
        exact bodyPost_ret (v := .tuple #[.agg #[.int .i64 0, .slice none 0 0, .bool false], .int .i64 1]) (by simp [results, Tryd.results35, go_sem, z0, zf0, z1, zf1, z2, zf2, lz9]) rfl (CbW.zero KU.out (Nat.le_refl _))
      · have hv : vL xs = 0 := by unfold vL; rw [hok]; rfl
        rw [hv] at VL
        have HOK := Lib.hid hok
        clear hok hv
        by_cases hy0 : y < 0
        · have hy1 : decide (y < 0) = true := by simpa using hy0
          cases eq
          · have hbad : (l.zip bs).any badQ = true := List.any_eq_true.2 ⟨_, hzm.out, by unfold badQ; dsimp only; rw [hy1]; simp⟩
            have hr := HR0.out
            unfold cbR at hr
            rw [if_neg (by rw [HE.out]; simp), if_pos hbad] at hr
            subst hr
            clear hbad hG hzt hzm hy0
            go_wp2_with (go_at_call 25; (with_reducible refine (VL.out _ HM2).mono ?_); rintro e u ⟨rfl, hb⟩; have FU := Lib.hid (hF.out.below hb); have KU := Lib.hid (hB.out.trans (hb.mono hB.out.size)); have y0 := Rg.keep hb hbr' y0; have x2 := Rg.keep hb hbr c2; have lx : b < u.heap.size := World.block_lt_of_cell? _ _ x2; have ly : b' < u.heap.size := World.block_lt_of_cell? _ _ y0; have lu : w.heap.size < u.heap.size := Nat.lt_of_lt_of_le lz hb.size; have z0 := FU.out.head; have zf0 := FU.out.headF; have z1 := FU.out.tail.head; have zf1 := FU.out.tail.headF; have z2 := FU.out.tail.tail.head; have zf2 := FU.out.tail.tail.headF; have lz9 := lu)
            exact bodyPost_ret (v := .tuple #[.agg #[.int .i64 0, .slice none 0 0, .bool false], .int .i64 1]) (by simp [results, Tryd.results35, go_sem, z0, zf0, z1, zf1, z2, zf2, lz9]) rfl (CbW.zero KU.out (Nat.le_refl _))
          · have HG2 : Hid (((l.zip bs).take (j + 1)).any badQ = false) := Lib.hid (by rw [hzt.out, List.any_append, hG.out]; simp [badQ, HOK.out])
            clear hG hzt hzm hy0
            go_wp2_with (go_at_call 25; (with_reducible refine (VL.out _ HM2).mono ?_); rintro e u ⟨rfl, hb⟩; have FU := Lib.hid (hF.out.below hb); have KU := Lib.hid (hB.out.trans (hb.mono hB.out.size)); have y0 := Rg.keep hb hbr' y0; have x2 := Rg.keep hb hbr c2; have lx : b < u.heap.size := World.block_lt_of_cell? _ _ x2; have ly : b' < u.heap.size := World.block_lt_of_cell? _ _ y0; have lu : w.heap.size < u.heap.size := Nat.lt_of_lt_of_le lz hb.size; have z0 := FU.out.head; have zf0 := FU.out.headF; have z1 := FU.out.tail.head; have zf1 := FU.out.tail.headF; have z2 := FU.out.tail.tail.head; have zf2 := FU.out.tail.tail.headF; have lz9 := lu)
            go_roundw
            case rel => exact ⟨j + 1, by go_num, by omega, lu, FU, KU, HG2⟩
            case measure => simp [intOf]; omega
        · have hy1 : decide (y < 0) = false := by simpa using hy0
          have HG2 : Hid (((l.zip bs).take (j + 1)).any badQ = false) := Lib.hid (by rw [hzt.out, List.any_append, hG.out]; simp [badQ, HOK.out]; omega)
          clear hG hzt hzm hy0
          go_wp2_with (go_at_call 25; (with_reducible refine (VL.out _ HM2).mono ?_); rintro e u ⟨rfl, hb⟩; have FU := Lib.hid (hF.out.below hb); have KU := Lib.hid (hB.out.trans (hb.mono hB.out.size)); have y0 := Rg.keep hb hbr' y0; have x2 := Rg.keep hb hbr c2; have lx : b < u.heap.size := World.block_lt_of_cell? _ _ x2; have ly : b' < u.heap.size := World.block_lt_of_cell? _ _ y0; have lu : w.heap.size < u.heap.size := Nat.lt_of_lt_of_le lz hb.size; have z0 := FU.out.head; have zf0 := FU.out.headF; have z1 := FU.out.tail.head; have zf1 := FU.out.tail.headF; have z2 := FU.out.tail.tail.head; have zf2 := FU.out.tail.tail.headF; have lz9 := lu)
          go_roundw
          case rel => exact ⟨j + 1, by go_num, by omega, lu, FU, KU, HG2⟩
          case measure => simp [intOf]; omega
    · obtain rfl : j = n := by omega
      have HR1 : Hid (cbF ((l.zip bs).drop 0) (0, [], true) = RES) := Lib.hid (by
        have h1 := hG.out
        rw [List.take_of_length_le (by rw [List.length_zip, HN.out]; exact Nat.min_le_left _ _)] at h1
        have hr := HR0.out
        unfold cbR at hr
        rw [if_neg (by rw [HE.out]; simp), if_neg (by rw [h1]; simp)] at hr
        exact hr)
      obtain ⟨gr, hgr⟩ : ∃ gr, wr.heap.size = gr := ⟨_, rfl⟩
      have BA : Below wr.heap.size wr (wr.alloc (Obj.cells #[Value.int .i64 0, Value.slice none 0 0, Value.bool true] 36)) := (Below.refl _ _).alloc (Nat.le_refl _) _
      have F1 : Hid (Cl ((gr, 0, .int .i64 0) :: (gr, 1, .slice none 0 0) :: (gr, 2, .bool true) :: [(w.heap.size, 0, .int .i64 0), (w.heap.size, 1, .slice none 0 0), (w.heap.size, 2, .bool false)]) (wr.alloc (Obj.cells #[Value.int .i64 0, Value.slice none 0 0, Value.bool true] 36))) := Lib.hid (by
        have h := hF.out.below BA
        rw [← hgr]
        exact Cl.cons (by go_cell) (by simp only [frozen?_alloc_cells]; exact Rg.notFrozen (Nat.le_refl _)) (Cl.cons (by go_cell) (by simp only [frozen?_alloc_cells]; exact Rg.notFrozen (Nat.le_refl _)) (Cl.cons (by go_cell) (by simp only [frozen?_alloc_cells]; exact Rg.notFrozen (Nat.le_refl _)) h)))
      have K1 := Lib.hid (hB.out.alloc hB.out.size (Obj.cells #[Value.int .i64 0, Value.slice none 0 0, Value.bool true] 36))
      have l1 : gr < (wr.alloc (Obj.cells #[Value.int .i64 0, Value.slice none 0 0, Value.bool true] 36)).heap.size := by simp; omega
      have lw : w.heap.size < gr := by omega
      clear hF hB hG BA HR0 lz
      go_wp2_with fail
      try rw [hgr]
      generalize (wr.alloc (Obj.cells #[Value.int .i64 0, Value.slice none 0 0, Value.bool true] 36)) = z9 at *
      clear hgr
      go_loopw [8] (fun i wr => ∃ (t : Nat) (rk : Int) (rl : List Mo) (re : Bool) (pr : Option Addr) (cr : Nat), i = .int .i64 t ∧ t ≤ j ∧ gr < wr.heap.size ∧ rl.length ≤ cr ∧ Hid (Cl ((gr, 0, .int .i64 rk) :: (gr, 1, .slice pr rl.length cr) :: (gr, 2, .bool re) :: [(w.heap.size, 0, .int .i64 0), (w.heap.size, 1, .slice none 0 0), (w.heap.size, 2, .bool false)]) wr) ∧ Hid (Below w.heap.size w wr) ∧ Hid (SlM wr pr rl) ∧ Hid (rOK (rk, rl, re) (40 * t)) ∧ Hid (cbF ((l.zip bs).drop t) (rk, rl, re) = RES)) (fun i _ => j - (intOf i).toNat)
      case atStart => exact ⟨0, 0, [], true, none, 0, rfl, Nat.zero_le _, l1, Nat.le_refl _, F1, K1, Lib.hid (fun i hi => absurd hi (by simp)), Lib.hid ⟨by simp, by simp, by simp⟩, HR1⟩
      case round =>
        obtain ⟨t, rk, rl, re, pr, cr, rfl, ht, lg, hcr, hF, hB, hS, hK, hR⟩ := hrel
        clear F1 K1 l1 HR1
        have tt : (0 : Int) ≤ t := by omega
        have d0 := hF.out.head
        have d1 := hF.out.tail.head
        have d2 := hF.out.tail.tail.head
        by_cases hlt : t < j
        · obtain ⟨b, o, qa, da, rfl, c0, c1, c2, hM⟩ := RA.out t (by rw [HN.out]; exact hlt)
          obtain ⟨b', o', rfl, y0⟩ := RB.out t (by rw [HM.out]; exact hlt)
          have t2 : (t : Int) < j := by omega
          have hbw : b < w.heap.size := World.block_lt_of_cell? _ _ c0
          have hbw' : b' < w.heap.size := World.block_lt_of_cell? _ _ y0
          replace c0 := Rg.keep hB.out hbw c0
          replace c1 := Rg.keep hB.out hbw c1
          replace c2 := Rg.keep hB.out hbw c2
          replace y0 := Rg.keep hB.out hbw' y0
          have hbr : b < wr.heap.size := World.block_lt_of_cell? _ _ c0
          have hbr' : b' < wr.heap.size := World.block_lt_of_cell? _ _ y0
          have HM2 := Lib.hid (SlM.keep hB.out hM)
          have ho := QK.out _ (qget (l := l) (i := t) (by rw [HN.out]; exact hlt))
          have hzd := Lib.hid (zip_drop (l := l) (bs := bs) (j := t) (by rw [HN.out]; exact hlt) (by rw [HM.out]; exact hlt))
          have hzt := Lib.hid (zip_take (l := l) (bs := bs) (j := t) (by rw [HN.out]; exact hlt) (by rw [HM.out]; exact hlt))
          have hzm := Lib.hid (zip_mem (l := l) (bs := bs) (j := t) (by rw [HN.out]; exact hlt) (by rw [HM.out]; exact hlt))
          have hyb : -9223372036854775808 ≤ bs.getD t 0 ∧ bs.getD t 0 ≤ 9223372036854775807 := BK.out _ (by
            have h2 : t < bs.length := by rw [HM.out]; exact hlt
            have e2 : bs.getD t 0 = bs[t] := by unfold List.getD; rw [List.getElem?_eq_getElem h2]; rfl
            rw [e2]; exact List.getElem_mem _)
          obtain ⟨f, hf⟩ : ∃ f, l.getD t q0m = f := ⟨_, rfl⟩
          obtain ⟨y, hy⟩ : ∃ y, bs.getD t 0 = y := ⟨_, rfl⟩
          rw [hf] at c0 c1 c2 hM HM2 ho hzd hzt hzm
          rw [hy] at y0 hzd hzt hzm hyb
          obtain ⟨k, xs, eq⟩ := f
          dsimp only at c0 c1 c2 hM HM2 ho
          obtain ⟨o1, o2, o3⟩ := ho
          have HMB := HM2
          have SC := Lib.hid fun w h => scale2k k qa xs da y w (by omega) h (Lib.hid fun i hi => o3 _ (getD_mem hi)) o2.1 o2.2 hyb.1 hyb.2
          have srng := scl_rng (b := y) (k := k) (xs := xs) (fun m hm => (o3 m hm).1)
          have hstep := hR.out
          rw [hzd.out] at hstep
          have HST := Lib.hid hstep
          obtain ⟨SR, hSR⟩ : ∃ SR, sclR y k xs = SR := ⟨_, rfl⟩
          have HSR9 := Lib.hid hSR
          rw [hSR] at SC srng
          obtain ⟨sk, sl, se⟩ := SR
          dsimp only at SC srng
          have hx := hK.out
          have arng := adR_rng (k := rk) (k' := sk) (xs := rl) (ys := sl) (fun m hm => (hx.2.2 m hm).1) (fun m hm => (srng.2.2 m hm).1)
          have hrl : rl.length ≤ 40 * t := hx.1
          have hsl : sl.length ≤ 40 := Nat.le_trans srng.1 o1
          have AD := Lib.hid fun p c q d hc hd w h1 h2 => add2d rk p rl c sk q sl d w (by omega) (by omega) hc hd h1 h2 (Lib.hid hx.get) (Lib.hid fun i hi => srng.2.2 _ (getD_mem hi)) hx.2.1.1 hx.2.1.2 srng.2.1.1 srng.2.1.2
          obtain ⟨AR, hAR⟩ : ∃ AR, adR rk rl sk sl = AR := ⟨_, rfl⟩
          have HAR := Lib.hid hAR
          rw [hAR] at AD arng
          obtain ⟨ak, al, ae⟩ := AR
          dsimp only at AD arng
          have HRNG := Lib.hid arng
          have HL40 : Hid (al.length ≤ 40 * (t + 1)) := Lib.hid (by have := arng.1; omega)
          unfold LRk at SC AD
          unfold Lv at SC AD
          have f0 := c0
          have f1 := c1
          have f2 := y0
          clear hM hf hy o1 o2 o3 HM2 hzt hzm hR hstep hSR hAR hx srng arng hK
          go_upto_region 12 with fail
          go_cut [9, 10] from 53 to 65 (fun p12 e13 wx => ∃ (g12 : Nat) (ps : Option Addr) (cs : Nat), p12 = .pointer (some ⟨g12, 0, none⟩) ∧ e13 = .int .i64 se ∧ g12 < wx.heap.size ∧ sl.length ≤ cs ∧ Hid (wx.cell? ⟨g12, 0, none⟩ = some (.int .i64 sk) ∧ wx.cell? ⟨g12, 1, none⟩ = some (.slice ps sl.length cs)) ∧ Hid (SlM wx ps sl) ∧ Below wr.heap.size wr wx)
          case first =>
            have KX : Below wr.heap.size wr wr := Below.refl _ _
            have hz16 := And.intro f0 (And.intro f1 (And.intro f2 KX))
            clear f0 f1 f2
            have HS : Hid (∀ u u' : World, (u.cell? ⟨b, o + t * 3, none⟩ = some (.int .i64 k) ∧ u.cell? ⟨b, o + t * 3 + 1, none⟩ = some (.slice qa xs.length da) ∧ u.cell? ⟨b', o' + t, none⟩ = some (.int .i64 y) ∧ Below wr.heap.size wr u) → Below u.heap.size u u' → (u'.cell? ⟨b, o + t * 3, none⟩ = some (.int .i64 k) ∧ u'.cell? ⟨b, o + t * 3 + 1, none⟩ = some (.slice qa xs.length da) ∧ u'.cell? ⟨b', o' + t, none⟩ = some (.int .i64 y) ∧ Below wr.heap.size wr u')) := Lib.hid (fun u u' h hb => ⟨Rg.keep hb (World.block_lt_of_cell? _ _ h.1) h.1, Rg.keep hb (World.block_lt_of_cell? _ _ h.2.1) h.2.1, Rg.keep hb (World.block_lt_of_cell? _ _ h.2.2.1) h.2.2.1, h.2.2.2.trans (hb.mono h.2.2.2.size)⟩)
            refine Rk.begin (S := fun wS => wS.cell? ⟨b, o + t * 3, none⟩ = some (.int .i64 k) ∧ wS.cell? ⟨b, o + t * 3 + 1, none⟩ = some (.slice qa xs.length da) ∧ wS.cell? ⟨b', o' + t, none⟩ = some (.int .i64 y) ∧ Below wr.heap.size wr wS) 14 (by kernel_rfl) (HS.out _ _ hz16 (Below.drew (Below.refl _ _))) (fun hHeld => ?_)
            refine Rk.takeP (i := 0) (v := ?_) rfl (by kernel_rfl) (by kernel_rfl) (by kernel_rfl) (by kernel_rfl) (fun _ _ _ h => h) (Or.inl ⟨by kernel_rfl, ?_⟩) (by assumption) ?_
            rotate_left
            · ((intro w hSw; go_simp) <;> with_reducible rfl)
            try simp only [Act.put, List.setIfInBounds_toArray, List.set_cons_zero, List.set_cons_succ]
            refine Rk.takeP (i := 1) (v := ?_) rfl (by kernel_rfl) (by kernel_rfl) (by kernel_rfl) (by kernel_rfl) (fun _ _ _ h => h) (Or.inl ⟨by kernel_rfl, ?_⟩) (by assumption) ?_
            rotate_left
            · ((intro w hSw; go_simp) <;> with_reducible rfl)
            try simp only [Act.put, List.setIfInBounds_toArray, List.set_cons_zero, List.set_cons_succ]
            refine Rk.takeP (i := 2) (v := ?_) rfl (by kernel_rfl) (by kernel_rfl) (by kernel_rfl) (by kernel_rfl) (fun _ _ _ h => h) (Or.inl ⟨by kernel_rfl, ?_⟩) (by assumption) ?_
            rotate_left
            · ((intro w hSw; go_simp) <;> with_reducible rfl)
            try simp only [Act.put, List.setIfInBounds_toArray, List.set_cons_zero, List.set_cons_succ]
            refine Rk.takeP (i := 3) (v := ?_) rfl (by kernel_rfl) (by kernel_rfl) (by kernel_rfl) (by kernel_rfl) (fun _ _ _ h => h) (Or.inl ⟨by kernel_rfl, ?_⟩) (by assumption) ?_
            rotate_left
            · ((intro w hSw; go_simp) <;> with_reducible rfl)
            try simp only [Act.put, List.setIfInBounds_toArray, List.set_cons_zero, List.set_cons_succ]
            refine Rk.take [14] (i := 4) (v := ?_) rfl (by kernel_rfl) (by kernel_rfl) (by kernel_rfl) (by kernel_rfl) (by kernel_rfl) (fun _ _ _ h => h) (Or.inl ⟨by kernel_rfl, ?_⟩) (by assumption) ?_
            rotate_left
            · ((intro w hSw; (try dsimp only at hSw); go_simp) <;> with_reducible rfl)
            try simp only [Act.put, List.setIfInBounds_toArray, List.set_cons_zero, List.set_cons_succ]
            refine Rk.takeP (i := 5) (v := ?_) rfl (by kernel_rfl) (by kernel_rfl) (by kernel_rfl) (by kernel_rfl) (fun _ _ _ h => h) (Or.inl ⟨by kernel_rfl, ?_⟩) (by assumption) ?_
            rotate_left
            · ((intro w hSw; go_simp) <;> with_reducible rfl)
            try simp only [Act.put, List.setIfInBounds_toArray, List.set_cons_zero, List.set_cons_succ]
            refine Rk.takeP (i := 6) (v := ?_) rfl (by kernel_rfl) (by kernel_rfl) (by kernel_rfl) (by kernel_rfl) (fun _ _ _ h => h) (Or.inl ⟨by kernel_rfl, ?_⟩) (by assumption) ?_
            rotate_left
            · ((intro w hSw; go_simp) <;> with_reducible rfl)
            try simp only [Act.put, List.setIfInBounds_toArray, List.set_cons_zero, List.set_cons_succ]
            refine Rk.takeP (i := 7) (v := ?_) rfl (by kernel_rfl) (by kernel_rfl) (by kernel_rfl) (by kernel_rfl) (fun _ _ _ h => h) (Or.inl ⟨by kernel_rfl, ?_⟩) (by assumption) ?_
            rotate_left
            · ((intro w hSw; go_simp) <;> with_reducible rfl)
            try simp only [Act.put, List.setIfInBounds_toArray, List.set_cons_zero, List.set_cons_succ]
            refine Rk.take [14] (i := 8) (v := ?_) rfl (by kernel_rfl) (by kernel_rfl) (by kernel_rfl) (by kernel_rfl) (by kernel_rfl) (fun _ _ _ h => h) (Or.inl ⟨by kernel_rfl, ?_⟩) (by assumption) ?_
            rotate_left
            · ((intro w hSw; (try dsimp only at hSw); go_simp) <;> with_reducible rfl)
            try simp only [Act.put, List.setIfInBounds_toArray, List.set_cons_zero, List.set_cons_succ]
            refine Rk.two (i := 9) (j := 13) (by kernel_rfl) rfl rfl (fun KK hK => ?_) (fun KK hK => ?_)
            · rw [if_pos (by kernel_rfl)]
              go_simp
              ((with_reducible refine (SC.out _ (Lib.hid (SlM.keep (hHeld.2.2.2) HMB.out))).mono ?_); rintro e uw9 ⟨ps, cs, rfl, hcs, _, S2, hb⟩)
              have hNew := HS.out _ _ hHeld hb
              have hs_uw9 : wr.heap.size ≤ uw9.heap.size := by have hzz := hb.size; (try simp at hzz); omega
              first | (refine hK.out _ _ (fun _ => hNew) (fun _ => ?_)) | (refine hK.out _ _ hNew (fun _ => ?_)) | (go_wp2_with fail; refine hK.out _ _ hNew (fun _ => ?_))
              replace hHeld := hNew
              clear hNew hb
              clear hK KK
              refine Rk.takeP (i := 10) (v := ?_) rfl (by kernel_rfl) (by kernel_rfl) (by kernel_rfl) (by kernel_rfl) (fun _ _ _ h => h) (Or.inl ⟨by kernel_rfl, ?_⟩) (by assumption) ?_
              rotate_left
              · ((intro w hSw; go_simp) <;> with_reducible rfl)
              try simp only [Act.put, List.setIfInBounds_toArray, List.set_cons_zero, List.set_cons_succ]
              refine Rk.takeP (i := 11) (v := ?_) rfl (by kernel_rfl) (by kernel_rfl) (by kernel_rfl) (by kernel_rfl) (fun _ _ _ h => h) (Or.inl ⟨by kernel_rfl, ?_⟩) (by assumption) ?_
              rotate_left
              · ((intro w hSw; go_simp) <;> with_reducible rfl)
              try simp only [Act.put, List.setIfInBounds_toArray, List.set_cons_zero, List.set_cons_succ]
              refine Rk.takeP (i := 12) (v := ?_) rfl (by kernel_rfl) (by kernel_rfl) (by kernel_rfl) (by kernel_rfl) (fun _ _ _ h => h) (Or.inl ⟨by kernel_rfl, ?_⟩) (by assumption) ?_
              rotate_left
              · ((intro w hSw; go_simp) <;> with_reducible rfl)
              try simp only [Act.put, List.setIfInBounds_toArray, List.set_cons_zero, List.set_cons_succ]
              refine Rk.one (i := 13) (by kernel_rfl) rfl (fun KK hK => ?_)
              rw [if_pos (by kernel_rfl)]
              go_simp
              replace S2 := SlM.keep ((Below.refl _ _).alloc (Nat.le_refl _) (Obj.cells #[Value.int .i64 0, Value.slice none 0 0] 24)) S2
              have hNew := HS.out _ _ hHeld ((Below.refl _ _).alloc (Nat.le_refl _) (Obj.cells #[Value.int .i64 0, Value.slice none 0 0] 24))
              refine hK.out _ _ hNew (fun _ => ?_)
              replace hHeld := hNew
              clear hNew
              clear hK KK
              refine Rk.tail [14, 15] [_, _] (by kernel_rfl) (by kernel_rfl) rfl (by decide) ?_
              obtain ⟨f0, f1, f2, KF⟩ := hHeld
              have m0 : (uw9.alloc (Obj.cells #[Value.int .i64 0, Value.slice none 0 0] 24)).cell? ⟨uw9.heap.size, 0, none⟩ = some (.int .i64 0) := by go_cell
              have fm0 : (uw9.alloc (Obj.cells #[Value.int .i64 0, Value.slice none 0 0] 24)).frozen? ⟨uw9.heap.size, 0, none⟩ = false := by simp only [frozen?_alloc_cells]; exact Rg.notFrozen (Nat.le_refl _)
              have m1 : (uw9.alloc (Obj.cells #[Value.int .i64 0, Value.slice none 0 0] 24)).cell? ⟨uw9.heap.size, 1, none⟩ = some (.slice none 0 0) := by go_cell
              have fm1 : (uw9.alloc (Obj.cells #[Value.int .i64 0, Value.slice none 0 0] 24)).frozen? ⟨uw9.heap.size, 1, none⟩ = false := by simp only [frozen?_alloc_cells]; exact Rg.notFrozen (Nat.le_refl _)
              generalize (uw9.alloc (Obj.cells #[Value.int .i64 0, Value.slice none 0 0] 24)) = gw at *
              have lm : uw9.heap.size < gw.heap.size := World.block_lt_of_cell? _ _ m0
              have lw : wr.heap.size ≤ uw9.heap.size := by omega
              have ne0 : uw9.heap.size ≠ b := by omega
              have ne1 : uw9.heap.size ≠ b' := by omega
              have lo0 : b < gw.heap.size := by omega
              have lo1 : b' < gw.heap.size := by omega
              have S3 := Sl_ovr (x := .int .i64 sk) (y := .slice ps sl.length cs) S2 m0 m1
              go_wp2_with fail
              have f0 : ((gw.setCell ⟨uw9.heap.size, 0, none⟩ (.int .i64 sk)).setCell ⟨uw9.heap.size, 1, none⟩ (.slice ps sl.length cs)).cell? ⟨b, o + t * 3, none⟩ = some (.int .i64 k) := Rg.far ne0 f0
              have f1 : ((gw.setCell ⟨uw9.heap.size, 0, none⟩ (.int .i64 sk)).setCell ⟨uw9.heap.size, 1, none⟩ (.slice ps sl.length cs)).cell? ⟨b, o + t * 3 + 1, none⟩ = some (.slice qa xs.length da) := Rg.far ne0 f1
              have f2 : ((gw.setCell ⟨uw9.heap.size, 0, none⟩ (.int .i64 sk)).setCell ⟨uw9.heap.size, 1, none⟩ (.slice ps sl.length cs)).cell? ⟨b', o' + t, none⟩ = some (.int .i64 y) := Rg.far ne1 f2
              have hst := st2c (x := .int .i64 sk) (y := .slice ps sl.length cs) m0 m1
              obtain ⟨s0, s1⟩ := hst
              have KS : Below wr.heap.size wr ((gw.setCell ⟨uw9.heap.size, 0, none⟩ (.int .i64 sk)).setCell ⟨uw9.heap.size, 1, none⟩ (.slice ps sl.length cs)) := (Below.setCell (Below.setCell KF (by dsimp only; omega) _) (by dsimp only; omega) _)
              have lm : uw9.heap.size < ((gw.setCell ⟨uw9.heap.size, 0, none⟩ (.int .i64 sk)).setCell ⟨uw9.heap.size, 1, none⟩ (.slice ps sl.length cs)).heap.size := World.block_lt_of_cell? _ _ s0
              have lo0 : b < ((gw.setCell ⟨uw9.heap.size, 0, none⟩ (.int .i64 sk)).setCell ⟨uw9.heap.size, 1, none⟩ (.slice ps sl.length cs)).heap.size := by simp; omega
              have lo1 : b' < ((gw.setCell ⟨uw9.heap.size, 0, none⟩ (.int .i64 sk)).setCell ⟨uw9.heap.size, 1, none⟩ (.slice ps sl.length cs)).heap.size := by simp; omega
              clear KF m0 fm0 m1 fm1
              generalize ((gw.setCell ⟨uw9.heap.size, 0, none⟩ (.int .i64 sk)).setCell ⟨uw9.heap.size, 1, none⟩ (.slice ps sl.length cs)) = gs at *
              go_meet
              exact ⟨uw9.heap.size, ps, cs, rfl, rfl, lm, hcs, Lib.hid (And.intro s0 s1), Lib.hid S3, KS⟩
            · rw [if_pos (by kernel_rfl)]
              go_simp
              have hNew := HS.out _ _ hHeld ((Below.refl _ _).alloc (Nat.le_refl _) (Obj.cells #[Value.int .i64 0, Value.slice none 0 0] 24))
              refine hK.out _ _ hNew (fun _ => ?_)
              replace hHeld := hNew
              clear hNew
              replace hHeld : (wr.alloc (Obj.cells #[Value.int .i64 0, Value.slice none 0 0] 24)).drew.cell? ⟨b, o + t * 3, none⟩ = some (.int .i64 k) ∧ (wr.alloc (Obj.cells #[Value.int .i64 0, Value.slice none 0 0] 24)).drew.cell? ⟨b, o + t * 3 + 1, none⟩ = some (.slice qa xs.length da) ∧ (wr.alloc (Obj.cells #[Value.int .i64 0, Value.slice none 0 0] 24)).drew.cell? ⟨b', o' + t, none⟩ = some (.int .i64 y) ∧ Below wr.heap.size wr (wr.alloc (Obj.cells #[Value.int .i64 0, Value.slice none 0 0] 24)).drew := hHeld
              clear hK KK
              refine Rk.one (i := 9) (by kernel_rfl) rfl (fun KK hK => ?_)
              rw [if_pos (by kernel_rfl)]
              go_simp
              ((with_reducible refine (SC.out _ (Lib.hid (SlM.keep (hHeld.2.2.2) HMB.out))).mono ?_); rintro e uw9 ⟨ps, cs, rfl, hcs, _, S2, hb⟩)
              have hNew := HS.out _ _ hHeld hb
              have hs_uw9 : wr.heap.size ≤ uw9.heap.size := by have hzz := hb.size; (try simp at hzz); omega
              have m0 : uw9.cell? ⟨wr.heap.size, 0, none⟩ = some (.int .i64 0) := Rg.keep hb (by simp) (by go_cell)
              have fm0 : uw9.frozen? ⟨wr.heap.size, 0, none⟩ = false := Rg.keepF hb (by simp) (by show (wr.drew.alloc (Obj.cells #[Value.int .i64 0, Value.slice none 0 0] 24)).frozen? ⟨wr.drew.heap.size, 0, none⟩ = false; simp only [frozen?_alloc_cells]; exact Rg.notFrozen (Nat.le_refl _))
              have m1 : uw9.cell? ⟨wr.heap.size, 1, none⟩ = some (.slice none 0 0) := Rg.keep hb (by simp) (by go_cell)
              have fm1 : uw9.frozen? ⟨wr.heap.size, 1, none⟩ = false := Rg.keepF hb (by simp) (by show (wr.drew.alloc (Obj.cells #[Value.int .i64 0, Value.slice none 0 0] 24)).frozen? ⟨wr.drew.heap.size, 1, none⟩ = false; simp only [frozen?_alloc_cells]; exact Rg.notFrozen (Nat.le_refl _))
              first | (refine hK.out _ _ (fun _ => hNew) (fun _ => ?_)) | (refine hK.out _ _ hNew (fun _ => ?_)) | (go_wp2_with fail; refine hK.out _ _ hNew (fun _ => ?_))
              replace hHeld := hNew
              clear hNew hb
              clear hK KK
              refine Rk.takeP (i := 10) (v := ?_) rfl (by kernel_rfl) (by kernel_rfl) (by kernel_rfl) (by kernel_rfl) (fun _ _ _ h => h) (Or.inl ⟨by kernel_rfl, ?_⟩) (by assumption) ?_
              rotate_left
              · ((intro w hSw; go_simp) <;> with_reducible rfl)
              try simp only [Act.put, List.setIfInBounds_toArray, List.set_cons_zero, List.set_cons_succ]
              refine Rk.takeP (i := 11) (v := ?_) rfl (by kernel_rfl) (by kernel_rfl) (by kernel_rfl) (by kernel_rfl) (fun _ _ _ h => h) (Or.inl ⟨by kernel_rfl, ?_⟩) (by assumption) ?_
              rotate_left
              · ((intro w hSw; go_simp) <;> with_reducible rfl)
              try simp only [Act.put, List.setIfInBounds_toArray, List.set_cons_zero, List.set_cons_succ]
              refine Rk.takeP (i := 12) (v := ?_) rfl (by kernel_rfl) (by kernel_rfl) (by kernel_rfl) (by kernel_rfl) (fun _ _ _ h => h) (Or.inl ⟨by kernel_rfl, ?_⟩) (by assumption) ?_
              rotate_left
              · ((intro w hSw; go_simp) <;> with_reducible rfl)
              try simp only [Act.put, List.setIfInBounds_toArray, List.set_cons_zero, List.set_cons_succ]
              refine Rk.tail [14, 15] [_, _] (by kernel_rfl) (by kernel_rfl) rfl (by decide) ?_
              obtain ⟨f0, f1, f2, KF⟩ := hHeld
              have lm : wr.heap.size < uw9.heap.size := World.block_lt_of_cell? _ _ m0
              have lw : wr.heap.size ≤ wr.heap.size := by omega
              have ne0 : wr.heap.size ≠ b := by omega
              have ne1 : wr.heap.size ≠ b' := by omega
              have lo0 : b < uw9.heap.size := by omega
              have lo1 : b' < uw9.heap.size := by omega
              have S3 := Sl_ovr (x := .int .i64 sk) (y := .slice ps sl.length cs) S2 m0 m1
              go_wp2_with fail
              have f0 : ((uw9.setCell ⟨wr.heap.size, 0, none⟩ (.int .i64 sk)).setCell ⟨wr.heap.size, 1, none⟩ (.slice ps sl.length cs)).cell? ⟨b, o + t * 3, none⟩ = some (.int .i64 k) := Rg.far ne0 f0
              have f1 : ((uw9.setCell ⟨wr.heap.size, 0, none⟩ (.int .i64 sk)).setCell ⟨wr.heap.size, 1, none⟩ (.slice ps sl.length cs)).cell? ⟨b, o + t * 3 + 1, none⟩ = some (.slice qa xs.length da) := Rg.far ne0 f1
              have f2 : ((uw9.setCell ⟨wr.heap.size, 0, none⟩ (.int .i64 sk)).setCell ⟨wr.heap.size, 1, none⟩ (.slice ps sl.length cs)).cell? ⟨b', o' + t, none⟩ = some (.int .i64 y) := Rg.far ne1 f2
              have hst := st2c (x := .int .i64 sk) (y := .slice ps sl.length cs) m0 m1
              obtain ⟨s0, s1⟩ := hst
              have KS : Below wr.heap.size wr ((uw9.setCell ⟨wr.heap.size, 0, none⟩ (.int .i64 sk)).setCell ⟨wr.heap.size, 1, none⟩ (.slice ps sl.length cs)) := (Below.setCell (Below.setCell KF (by dsimp only; omega) _) (by dsimp only; omega) _)
              have lm : wr.heap.size < ((uw9.setCell ⟨wr.heap.size, 0, none⟩ (.int .i64 sk)).setCell ⟨wr.heap.size, 1, none⟩ (.slice ps sl.length cs)).heap.size := World.block_lt_of_cell? _ _ s0
              have lo0 : b < ((uw9.setCell ⟨wr.heap.size, 0, none⟩ (.int .i64 sk)).setCell ⟨wr.heap.size, 1, none⟩ (.slice ps sl.length cs)).heap.size := by simp; omega
              have lo1 : b' < ((uw9.setCell ⟨wr.heap.size, 0, none⟩ (.int .i64 sk)).setCell ⟨wr.heap.size, 1, none⟩ (.slice ps sl.length cs)).heap.size := by simp; omega
              clear KF m0 fm0 m1 fm1
              generalize ((uw9.setCell ⟨wr.heap.size, 0, none⟩ (.int .i64 sk)).setCell ⟨wr.heap.size, 1, none⟩ (.slice ps sl.length cs)) = gs at *
              go_meet
              exact ⟨wr.heap.size, ps, cs, rfl, rfl, lm, hcs, Lib.hid (And.intro s0 s1), Lib.hid S3, KS⟩
          case rest =>
            obtain ⟨g12, ps, cs, rfl, rfl, l12, hcs, HP, HSS, KBX⟩ := hcut
            have q0 := HP.out.1
            have q1 := HP.out.2
            have FC := Lib.hid (hF.out.below KBX)
            have KC := Lib.hid (hB.out.trans (KBX.mono hB.out.size))
            have HSR := Lib.hid (SlM.keep KBX hS.out)
            have x2c := Rg.keep KBX hbr c2
            have ybc := Rg.keep KBX hbr' y0
            have lgb2 : b < wc.heap.size := World.block_lt_of_cell? _ _ x2c
            have lyb2 : b' < wc.heap.size := World.block_lt_of_cell? _ _ ybc
            have e0 := FC.out.head
            have e1 := FC.out.tail.head
            have e2 := FC.out.tail.tail.head
            have lgc : gr < wc.heap.size := World.block_lt_of_cell? _ _ e0
            clear f0 f1 f2 hF hB hS KBX SC HMB HP d0 d1 d2 c0 c1 c2 y0
            by_cases hse : se = 0
            · subst hse
              by_cases hae : ae = 0
              · subst hae
                have HNX : Hid (cbF ((l.zip bs).drop (t + 1)) (ak, al, re && (eq || y == 0)) = RES) := Lib.hid ((cbF_go (cbS_3 HSR9.out HAR.out)).symm.trans HST.out)
                have HOK9 : Hid (rOK (ak, al, re && (eq || y == 0)) (40 * (t + 1))) := Lib.hid ⟨HL40.out, HRNG.out.2.1, HRNG.out.2.2⟩
                obtain ⟨yb, hyb0⟩ : ∃ yb, (y == 0) = yb := ⟨_, rfl⟩
                rw [hyb0] at HNX HOK9
                clear HST HAR HSR9 HRNG HL40
                go_wp2_with fail
                refine (AD.out pr cr ps cs hcr hcs _ HSR HSS).mono ?_
                rintro e u ⟨pa, ca, rfl, hca, _, SA, hb⟩
                have FU := FC.out.below hb
                have KU := Lib.hid (KC.out.trans (hb.mono KC.out.size))
                have r0 := FU.head
                have rz0 := FU.headF
                have r1 := FU.tail.head
                have rz1 := FU.tail.headF
                have r2 := FU.tail.tail.head
                have rz2 := FU.tail.tail.headF
                have z0 := FU.tail.tail.tail.head
                have zf0 := FU.tail.tail.tail.headF
                have z1 := FU.tail.tail.tail.tail.head
                have zf1 := FU.tail.tail.tail.tail.headF
                have z2 := FU.tail.tail.tail.tail.tail.head
                have zf2 := FU.tail.tail.tail.tail.tail.headF
                have w2c := Rg.keep hb lgb2 x2c
                have y0c := Rg.keep hb lyb2 ybc
                have lgr2 : gr < u.heap.size := World.block_lt_of_cell? _ _ r0
                have lz9 : w.heap.size < u.heap.size := World.block_lt_of_cell? _ _ z0
                have lw2 : b < u.heap.size := World.block_lt_of_cell? _ _ w2c
                have ly2 : b' < u.heap.size := World.block_lt_of_cell? _ _ y0c
                have ng := Nat.ne_of_gt lw
                have ng2 := Nat.ne_of_lt lw
                cases re
                all_goals cases eq
                all_goals cases yb
                all_goals
                  simp only [Bool.false_and, Bool.true_and, Bool.or_false, Bool.or_true, Bool.false_or, Bool.true_or] at HNX HOK9
                  have AL := fun (u : World) => (Below.refl u.heap.size u).alloc (Nat.le_refl _) (Obj.cells #[Value.int .i64 ak, Value.slice pa al.length ca] 24)
                  have FE := Lib.hid fun (v2 : Value) => (cl_put (v0 := .int .i64 ak) (v1 := .slice pa al.length ca) (v2 := v2) FU (by omega)).below (AL _)
                  have SE := Lib.hid fun v2 => SlM.keep (AL _) (sl_over3 (x := .int .i64 ak) (y := .slice pa al.length ca) (z := v2) SA r0 r1 r2)
                  have KE0 := fun v2 => ((KU.out.setCell (p := ⟨gr, 0, none⟩) (by dsimp only; omega) (.int .i64 ak)).setCell (p := ⟨gr, 1, none⟩) (by dsimp only; omega) (.slice pa al.length ca)).setCell (p := ⟨gr, 2, none⟩) (by dsimp only; omega) v2
                  have KE := Lib.hid fun v2 => (KE0 v2).alloc (KE0 v2).size (Obj.cells #[Value.int .i64 ak, Value.slice pa al.length ca] 24)
                  clear AD SA FU HSR HSS AL KE0
                  go_wp2_with fail
                  go_roundw
                  case rel => exact ⟨t + 1, ak, al, _, pa, ca, by go_num, by omega, by simp; omega, hca, Lib.hid (FE.out (.bool _)), Lib.hid (KE.out _), Lib.hid (SE.out _), HOK9, HNX⟩
                  case measure => simp [intOf]; omega
              · have a0 : (ae == 0) = false := by simpa using hae
                have a1 : (ae != 0) = true := by simpa using hae
                have h := (cbF_err (cbS_2 HSR9.out HAR.out hae) hae).symm.trans HST.out
                subst h
                clear HST HAR HSR9 HRNG HL40 hae
                go_wp2_with fail
                refine (AD.out pr cr ps cs hcr hcs _ HSR HSS).mono ?_
                rintro e u ⟨pa, ca, rfl, hca, _, SA, hb⟩
                have FU := FC.out.below hb
                have KU := Lib.hid (KC.out.trans (hb.mono KC.out.size))
                have r0 := FU.head
                have rz0 := FU.headF
                have r1 := FU.tail.head
                have rz1 := FU.tail.headF
                have r2 := FU.tail.tail.head
                have rz2 := FU.tail.tail.headF
                have z0 := FU.tail.tail.tail.head
                have zf0 := FU.tail.tail.tail.headF
                have z1 := FU.tail.tail.tail.tail.head
                have zf1 := FU.tail.tail.tail.tail.headF
                have z2 := FU.tail.tail.tail.tail.tail.head
                have zf2 := FU.tail.tail.tail.tail.tail.headF
                have w2c := Rg.keep hb lgb2 x2c
                have y0c := Rg.keep hb lyb2 ybc
                have lgr2 : gr < u.heap.size := World.block_lt_of_cell? _ _ r0
                have lz9 : w.heap.size < u.heap.size := World.block_lt_of_cell? _ _ z0
                have lw2 : b < u.heap.size := World.block_lt_of_cell? _ _ w2c
                have ly2 : b' < u.heap.size := World.block_lt_of_cell? _ _ y0c
                have KK := KU.out
                go_wp2_with fail
                exact bodyPost_ret (v := .tuple #[.agg #[.int .i64 0, .slice none 0 0, .bool false], .int .i64 ae]) (by simp [results, Tryd.results35, go_sem, z0, zf0, z1, zf1, z2, zf2, lz9]) rfl (CbW.al (CbW.zero KK (Nat.le_refl _)) _)
            · have s0 : (se == 0) = false := by simpa using hse
              have s1 : (se != 0) = true := by simpa using hse
              have h := (cbF_err (cbS_1 HSR9.out hse) hse).symm.trans HST.out
              subst h
              have KD := KC.out
              have z0 := FC.out.tail.tail.tail.head
              have zf0 := FC.out.tail.tail.tail.headF
              have z1 := FC.out.tail.tail.tail.tail.head
              have zf1 := FC.out.tail.tail.tail.tail.headF
              have z2 := FC.out.tail.tail.tail.tail.tail.head
              have zf2 := FC.out.tail.tail.tail.tail.tail.headF
              have lz9 : w.heap.size < wc.heap.size := World.block_lt_of_cell? _ _ z0
              clear HST HAR HSR9 HRNG HL40 hse AD
              go_wp2_with fail
              exact bodyPost_ret (v := .tuple #[.agg #[.int .i64 0, .slice none 0 0, .bool false], .int .i64 se]) (by simp [results, Tryd.results35, go_sem, z0, zf0, z1, zf1, z2, zf2, lz9]) rfl (CbW.zero KD (Nat.le_refl _))
        · obtain rfl : t = j := by omega
          have hr := hR.out
          rw [List.drop_of_length_le (by rw [List.length_zip, HN.out]; exact Nat.min_le_left _ _)] at hr
          have hr2 : ((rk, rl, re), (0 : Int)) = RES := hr
          subst hr2
          have KD := hB.out
          have SD := hS.out
          have z0 := hF.out.tail.tail.tail.head
          have zf0 := hF.out.tail.tail.tail.headF
          have z1 := hF.out.tail.tail.tail.tail.head
          have zf1 := hF.out.tail.tail.tail.tail.headF
          have z2 := hF.out.tail.tail.tail.tail.tail.head
          have zf2 := hF.out.tail.tail.tail.tail.tail.headF
          have lz9 : w.heap.size < wr.heap.size := World.block_lt_of_cell? _ _ z0
          have ng := Nat.ne_of_gt lw
          have ng2 := Nat.ne_of_lt lw
          clear hF hB hS hK hR hr
          go_wp2_with fail
          exact bodyPost_ret (v := .tuple #[.agg #[.int .i64 rk, .slice pr rl.length cr, .bool re], .int .i64 0]) (by simp [results, Tryd.results35, go_sem, z0, zf0, z1, zf1, z2, zf2, lz9, d0, d1, d2, lg, ng, ng2]) rfl (CbW.end KD (Nat.le_refl _) SD z0 z1 z2)
end Go.Proofs.YtbicmlkjonaccaaDoor.Ln
