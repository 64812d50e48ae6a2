/- Combine. -/
import Derived.Test.YtbicmlkjonaccaaDoorJ6
import Derived.Test.YtbicmlkjonaccaaDoorE45
import Derived.Test.YtbicmlkjonaccaaDoorJ7
import Derived.Test.YtbicmlkjonaccaaDoorJ13
import Derived.Deep.Cut
import Derived.Deep.CutRange

namespace Go.Proofs.YtbicmlkjonaccaaDoor.Ln
open Go.ChangeShapes Go.WideShapes Go.ChangeAt Go.RowKit
open Go.Proofs.YtbicmlkjonaccaaDoor.Nm
set_option linter.unusedVariables false
set_option linter.unusedSimpArgs false
set_option maxRecDepth 8000
theorem Sl_ovr {u : World} {q : Option Addr} {xs : List Mo} {g : Nat} {n : Int} {a : Option Addr} {m c : Nat} {x y : Value} (h : SlM u q xs) (h0 : u.cell? ⟨g, 0, none⟩ = some (.int .i64 n)) (h1 : u.cell? ⟨g, 1, none⟩ = some (.slice a m c)) : SlM ((u.setCell ⟨g, 0, none⟩ x).setCell ⟨g, 1, none⟩ y) q xs := fun i hi => by
  obtain ⟨b, o, rfl, c0, c1⟩ := h i hi
  refine ⟨b, o, rfl, ?_⟩
  by_cases hb : b = g
  · subst hb
    have n0 : o + i * 2 ≠ 0 := fun e => by rw [e, h0] at c0; cases c0
    have n1 : o + i * 2 ≠ 1 := fun e => by rw [e, h1] at c0; cases c0
    have n2 : o + i * 2 + 1 ≠ 0 := by omega
    have n3 : o + i * 2 + 1 ≠ 1 := by omega
    constructor
    · rw [World.cell?_setCell_other _ _ _ _ (by intro e; injection e with _ e2 _; omega), World.cell?_setCell_other _ _ _ _ (by intro e; injection e with _ e2 _; omega)]; exact c0
    · rw [World.cell?_setCell_other _ _ _ _ (by intro e; injection e with _ e2 _; omega), World.cell?_setCell_other _ _ _ _ (by intro e; injection e with _ e2 _; omega)]; exact c1
  · constructor
    · rw [World.cell?_setCell_far _ _ _ _ (fun e => hb e.symm), World.cell?_setCell_far _ _ _ _ (fun e => hb e.symm)]; exact c0
    · rw [World.cell?_setCell_far _ _ _ _ (fun e => hb e.symm), World.cell?_setCell_far _ _ _ _ (fun e => hb e.symm)]; exact c1
theorem st2c {u : World} {r : Nat} {x y a b : Value} (h0 : u.cell? ⟨r, 0, none⟩ = some a) (h1 : u.cell? ⟨r, 1, none⟩ = some b) :
    ((u.setCell ⟨r, 0, none⟩ x).setCell ⟨r, 1, none⟩ y).cell? ⟨r, 0, none⟩ = some x ∧ ((u.setCell ⟨r, 0, none⟩ x).setCell ⟨r, 1, none⟩ y).cell? ⟨r, 1, none⟩ = some y := by
  have g1 : (u.setCell ⟨r, 0, none⟩ x).cell? ⟨r, 1, none⟩ = some b := (World.cell?_setCell_other _ _ _ _ (by simp)).trans h1
  exact ⟨(World.cell?_setCell_other _ _ _ _ (by simp)).trans (World.cell?_setCell_same _ _ _ h0), World.cell?_setCell_same _ _ _ g1⟩

theorem cbF_err {x : Qm × Int} {t : List (Qm × Int)} {r r' : Cst} {e : Int} (h : cbS r x = (r', e)) (he : e ≠ 0) : cbF (x :: t) r = ((0, [], false), e) := by
  show (if (cbS r x).2 ≠ 0 then _ else _) = _
  rw [h, if_pos he]
theorem cbF_go {x : Qm × Int} {t : List (Qm × Int)} {r r' : Cst} (h : cbS r x = (r', 0)) : cbF (x :: t) r = cbF t r' := by
  show (if (cbS r x).2 ≠ 0 then _ else _) = _
  rw [h, if_neg (by simp)]
theorem cbS_1 {r : Cst} {k b sk se : Int} {xs sl : List Mo} {eq : Bool} (h : sclR b k xs = (sk, sl, se)) (he : se ≠ 0) : cbS r ((k, xs, eq), b) = (r, se) := by
  unfold cbS
  dsimp only
  rw [h]
  dsimp only
  rw [if_pos he]
theorem cbS_2 {r : Cst} {k b sk ak ae : Int} {xs sl al : List Mo} {eq : Bool} (h : sclR b k xs = (sk, sl, 0)) (h2 : adR r.1 r.2.1 sk sl = (ak, al, ae)) (he : ae ≠ 0) : cbS r ((k, xs, eq), b) = (r, ae) := by
  unfold cbS
  dsimp only
  rw [h]
  dsimp only
  rw [if_neg (by simp), h2]
  dsimp only
  rw [if_pos he]
theorem cbS_3 {r : Cst} {k b sk ak : Int} {xs sl al : List Mo} {eq : Bool} (h : sclR b k xs = (sk, sl, 0)) (h2 : adR r.1 r.2.1 sk sl = (ak, al, 0)) : cbS r ((k, xs, eq), b) = ((ak, al, r.2.2 && (eq || b == 0)), 0) := by
  unfold cbS
  dsimp only
  rw [h]
  dsimp only
  rw [if_neg (by simp), h2]
  dsimp only
  rw [if_neg (by simp)]

theorem cl_put {u : World} {gr b0 : Nat} {a0 a1 a2 v0 v1 v2 z0 z1 z2 : Value} (h : Cl ((gr, 0, a0) :: (gr, 1, a1) :: (gr, 2, a2) :: [(b0, 0, z0), (b0, 1, z1), (b0, 2, z2)]) u) (hn : b0 ≠ gr) :
    Cl ((gr, 0, v0) :: (gr, 1, v1) :: (gr, 2, v2) :: [(b0, 0, z0), (b0, 1, z1), (b0, 2, z2)]) (((u.setCell ⟨gr, 0, none⟩ v0).setCell ⟨gr, 1, none⟩ v1).setCell ⟨gr, 2, none⟩ v2) := by
  have e0 := h.head
  have f0 := h.headF
  have e1 := h.tail.head
  have f1 := h.tail.headF
  have e2 := h.tail.tail.head
  have f2 := h.tail.tail.headF
  have ht := h.tail.tail.tail
  have hm : ∀ y ∈ [(b0, 0, z0), (b0, 1, z1), (b0, 2, z2)], y.1 ≠ gr := by simp only [List.forall_mem_cons]; simp [hn]
  have g1 : (u.setCell ⟨gr, 0, none⟩ v0).cell? ⟨gr, 1, none⟩ = some a1 := (World.cell?_setCell_other _ _ _ _ (by simp)).trans e1
  have g2 : ((u.setCell ⟨gr, 0, none⟩ v0).setCell ⟨gr, 1, none⟩ v1).cell? ⟨gr, 2, none⟩ = some a2 := by
    rw [World.cell?_setCell_other _ _ _ _ (by simp), World.cell?_setCell_other _ _ _ _ (by simp)]; exact e2
  refine Cl.cons ?_ (by simp [World.frozen?_setCell, f0]) (Cl.cons ?_ (by simp [World.frozen?_setCell, f1]) (Cl.cons (World.cell?_setCell_same _ _ _ g2) (by simp [World.frozen?_setCell, f2]) (((ht.far hm).far hm).far hm)))
  · rw [World.cell?_setCell_other _ _ _ _ (by simp), World.cell?_setCell_other _ _ _ _ (by simp)]; exact World.cell?_setCell_same _ _ _ e0
  · rw [World.cell?_setCell_other _ _ _ _ (by simp)]; exact World.cell?_setCell_same _ _ _ g1

set_option maxRecDepth 100000 in
set_option maxHeartbeats 8000000 in
theorem cmb_len (p : Option Addr) (l : List Qm) (c : Nat) (q : Option Addr) (bs : List Int) (d : Nat) (w : World) (hl : l.length ≤ 60) (hb' : bs.length ≤ maxLen) (RA : Hid (SlQ w p l)) (RB : Hid (SlJ w q bs)) (QK : Hid (∀ f ∈ l, f.2.1.length ≤ 40 ∧ (-9223372036854775808 ≤ f.1 ∧ f.1 ≤ 9223372036854775807) ∧ ∀ m ∈ f.2.1, m.1.size ≤ maxLen ∧ -9223372036854775808 ≤ m.2 ∧ m.2 ≤ 9223372036854775807)) (BK : Hid (∀ z ∈ bs, -9223372036854775808 ≤ z ∧ z ≤ 9223372036854775807)) (hne : l.length ≠ bs.length) : Calls Tryd.prog 34 #[.slice p l.length c, .slice q bs.length d] w (CbW ((0, [], false), 1) w) := by
  have h0 : ((l.length : Int) == (bs.length : Int)) = false := beq_false_of_ne (by omega)
  have h1 : ((l.length : Int) != (bs.length : Int)) = true := by rw [bne, h0]; rfl
  clear hne
  unfold maxLen at hb'
  go_enter Tryd.func34, Tryd.ntmps34
  go_wp2_with fail
  exact bodyPost_ret (v := .tuple #[.agg #[.int .i64 0, .slice none 0 0, .bool false], .int .i64 1]) (by simp [results, Tryd.results34, go_sem]) rfl ⟨none, 0, rfl, fun i hi => absurd hi (by simp), (Below.refl _ _).alloc (Nat.le_refl _) _⟩
set_option maxRecDepth 100000 in
set_option maxHeartbeats 8000000 in
theorem cmb_eq (p : Option Addr) (l : List Qm) (c : Nat) (q : Option Addr) (bs : List Int) (d : Nat) (w : World) (hl : l.length ≤ 60) (hb' : bs.length ≤ maxLen) (RA : Hid (SlQ w p l)) (RB : Hid (SlJ w q bs)) (QK : Hid (∀ f ∈ l, f.2.1.length ≤ 40 ∧ (-9223372036854775808 ≤ f.1 ∧ f.1 ≤ 9223372036854775807) ∧ ∀ m ∈ f.2.1, m.1.size ≤ maxLen ∧ -9223372036854775808 ≤ m.2 ∧ m.2 ≤ 9223372036854775807)) (BK : Hid (∀ z ∈ bs, -9223372036854775808 ≤ z ∧ z ≤ 9223372036854775807)) (hee : l.length = bs.length) : Calls Tryd.prog 34 #[.slice p l.length c, .slice q bs.length d] w (CbW (cbR l bs) w) := by
  obtain ⟨RES, hRES⟩ : ∃ RES, cbR l bs = RES := ⟨_, rfl⟩
  have HR0 := Lib.hid hRES
  rw [hRES]
  obtain ⟨n, hnn⟩ : ∃ n, l.length = n := ⟨_, rfl⟩
  have HN := Lib.hid hnn
  have HM := Lib.hid (hee.symm.trans hnn)
  rw [← hee, hnn]
  rw [hnn] at hl
  have HE := Lib.hid hee
  clear hRES hnn hee hb'
  have hn0 : ((n : Int) == (n : Int)) = true := by simp
  have hn1 : ((n : Int) != (n : Int)) = false := by simp
  have F0 : Hid (Cl [(w.heap.size, 0, .int .i64 0), (w.heap.size, 1, .slice none 0 0), (w.heap.size, 2, .bool false)] (w.alloc (Obj.cells #[Value.int .i64 0, Value.slice none 0 0, Value.bool false] 36))) := Lib.hid (Cl.cons (by go_cell) (by simp only [frozen?_alloc_cells]; exact Rg.notFrozen (Nat.le_refl _)) (Cl.cons (by go_cell) (by simp only [frozen?_alloc_cells]; exact Rg.notFrozen (Nat.le_refl _)) (Cl.cons (by go_cell) (by simp only [frozen?_alloc_cells]; exact Rg.notFrozen (Nat.le_refl _)) (Cl.nil _))))
  have K0 : Hid (Below w.heap.size w (w.alloc (Obj.cells #[Value.int .i64 0, Value.slice none 0 0, Value.bool false] 36))) := Lib.hid ((Below.refl _ _).alloc (Nat.le_refl _) _)
  have lt0 : w.heap.size < (w.alloc (Obj.cells #[Value.int .i64 0, Value.slice none 0 0, Value.bool false] 36)).heap.size := by simp
  go_enter Tryd.func34, Tryd.ntmps34
  go_wp2_with fail
  generalize (w.alloc (Obj.cells #[Value.int .i64 0, Value.slice none 0 0, Value.bool false] 36)) = z at *
  go_loopw [22] (fun i wr => ∃ j : Nat, i = .int .i64 j ∧ j ≤ n ∧ w.heap.size < wr.heap.size ∧ Hid (Cl [(w.heap.size, 0, .int .i64 0), (w.heap.size, 1, .slice none 0 0), (w.heap.size, 2, .bool false)] wr) ∧ Hid (Below w.heap.size w wr) ∧ Hid (((l.zip bs).take j).any badQ = false)) (fun i _ => n - (intOf i).toNat)
  case atStart => exact ⟨0, rfl, Nat.zero_le _, lt0, F0, K0, Lib.hid (by simp)⟩
  case round =>
    obtain ⟨j, rfl, hj, lz, hF, hB, hG⟩ := hrel
    clear F0 K0 lt0
    have jj : (0 : Int) ≤ j := by omega
    by_cases hlt : j < n
    · obtain ⟨b, o, qa, da, rfl, c0, c1, c2, hM⟩ := RA.out j (by rw [HN.out]; exact hlt)
      obtain ⟨b', o', rfl, y0⟩ := RB.out j (by rw [HM.out]; exact hlt)
      have j2 : (j : Int) < n := by omega
      have hbw : b < w.heap.size := World.block_lt_of_cell? _ _ c0
      have hbw' : b' < w.heap.size := World.block_lt_of_cell? _ _ y0
      replace c0 := Rg.keep hB.out hbw c0
      replace c1 := Rg.keep hB.out hbw c1
      replace c2 := Rg.keep hB.out hbw c2
      replace y0 := Rg.keep hB.out hbw' y0
      have hbr : b < wr.heap.size := World.block_lt_of_cell? _ _ c0
      have hbr' : b' < wr.heap.size := World.block_lt_of_cell? _ _ y0
      have HM2 := Lib.hid (SlM.keep hB.out hM)
      have ho := QK.out _ (qget (l := l) (i := j) (by rw [HN.out]; exact hlt))
      have hzd := Lib.hid (zip_drop (l := l) (bs := bs) (j := j) (by rw [HN.out]; exact hlt) (by rw [HM.out]; exact hlt))
      have hzt := Lib.hid (zip_take (l := l) (bs := bs) (j := j) (by rw [HN.out]; exact hlt) (by rw [HM.out]; exact hlt))
      have hzm := Lib.hid (zip_mem (l := l) (bs := bs) (j := j) (by rw [HN.out]; exact hlt) (by rw [HM.out]; exact hlt))
      have hyb : -9223372036854775808 ≤ bs.getD j 0 ∧ bs.getD j 0 ≤ 9223372036854775807 := BK.out _ (by
        have h2 : j < bs.length := by rw [HM.out]; exact hlt
        have e2 : bs.getD j 0 = bs[j] := by unfold List.getD; rw [List.getElem?_eq_getElem h2]; rfl
        rw [e2]; exact List.getElem_mem _)
      obtain ⟨f, hf⟩ : ∃ f, l.getD j q0m = f := ⟨_, rfl⟩
      obtain ⟨y, hy⟩ : ∃ y, bs.getD j 0 = y := ⟨_, rfl⟩
      rw [hf] at c0 c1 c2 hM HM2 ho hzd hzt hzm
      rw [hy] at y0 hzd hzt hzm hyb
      obtain ⟨k, xs, eq⟩ := f
      dsimp only at c0 c1 c2 hM HM2 ho
      obtain ⟨o1, o2, o3⟩ := ho
      have VL := Lib.hid fun w h => cval1 k qa xs da eq w (by unfold maxLen; omega) h (Lib.hid fun i hi => (o3 _ (getD_mem hi)).1)
      have BA : Below wr.heap.size wr (wr.alloc (Obj.cells #[Value.int .i64 k, Value.slice qa xs.length da, Value.bool eq] 36)) := (Below.refl _ _).alloc (Nat.le_refl _) _
      have HMA := Lib.hid (SlM.keep BA HM2.out)
      have FA := Lib.hid (hF.out.below BA)
      have KA := Lib.hid (hB.out.alloc hB.out.size (Obj.cells #[Value.int .i64 k, Value.slice qa xs.length da, Value.bool eq] 36))
      unfold Cv at VL
      clear hM hf hy o1 o2 o3 BA HM2 hzd
      cases hok : okL xs
      · have hv : vL xs = 1 := by unfold vL; rw [hok]; rfl
        rw [hv] at VL
        have hbad : (l.zip bs).any badQ = true := List.any_eq_true.2 ⟨_, hzm.out, by unfold badQ; dsimp only; rw [hok]; rfl⟩
        have hr := HR0.out
        unfold cbR at hr
        rw [if_neg (by rw [HE.out]; simp), if_pos hbad] at hr
        subst hr
        clear hok hv hbad hF hB hG hzt hzm
        go_wp2_with (go_at_call 24; (with_reducible refine (VL.out _ HMA).mono ?_); rintro e u ⟨rfl, hb⟩; have FU := Lib.hid (FA.out.below hb); have KU := Lib.hid (KA.out.trans (hb.mono KA.out.size)); have y0 : u.cell? ⟨b', o' + j, none⟩ = some (.int .i64 y) := Rg.keep hb (by simp; omega) (by go_cell); have x2 : u.cell? ⟨wr.heap.size, 2, none⟩ = some (.bool eq) := Rg.keep hb (by simp) (by go_cell); have lx : wr.heap.size < u.heap.size := World.block_lt_of_cell? _ _ x2; have ly : b' < u.heap.size := World.block_lt_of_cell? _ _ y0; have lu : w.heap.size < u.heap.size := (by omega); have z0 := FU.out.head; have zf0 := FU.out.headF; have z1 := FU.out.tail.head; have zf1 := FU.out.tail.headF; have z2 := FU.out.tail.tail.head; have zf2 := FU.out.tail.tail.headF; have lz9 := lu)
        exact bodyPost_ret (v := .tuple #[.agg #[.int .i64 0, .slice none 0 0, .bool false], .int .i64 1]) (by simp [results, Tryd.results34, go_sem, z0, zf0, z1, zf1, z2, zf2, lz9]) rfl (CbW.zero KU.out (Nat.le_refl _))
      · have hv : vL xs = 0 := by unfold vL; rw [hok]; rfl
        rw [hv] at VL
        have HOK := Lib.hid hok
        clear hok hv
        by_cases hy0 : y < 0
        · have hy1 : decide (y < 0) = true := by simpa using hy0
          cases eq
          · have hbad : (l.zip bs).any badQ = true := List.any_eq_true.2 ⟨_, hzm.out, by unfold badQ; dsimp only; rw [hy1]; simp⟩
            have hr := HR0.out
            unfold cbR at hr
            rw [if_neg (by rw [HE.out]; simp), if_pos hbad] at hr
            subst hr
            clear hbad hF hB hG hzt hzm hy0
            go_wp2_with (go_at_call 24; (with_reducible refine (VL.out _ HMA).mono ?_); rintro e u ⟨rfl, hb⟩; have FU := Lib.hid (FA.out.below hb); have KU := Lib.hid (KA.out.trans (hb.mono KA.out.size)); have y0 : u.cell? ⟨b', o' + j, none⟩ = some (.int .i64 y) := Rg.keep hb (by simp; omega) (by go_cell); have x2 : u.cell? ⟨wr.heap.size, 2, none⟩ = some (.bool false) := Rg.keep hb (by simp) (by go_cell); have lx : wr.heap.size < u.heap.size := World.block_lt_of_cell? _ _ x2; have ly : b' < u.heap.size := World.block_lt_of_cell? _ _ y0; have lu : w.heap.size < u.heap.size := (by omega); have z0 := FU.out.head; have zf0 := FU.out.headF; have z1 := FU.out.tail.head; have zf1 := FU.out.tail.headF; have z2 := FU.out.tail.tail.head; have zf2 := FU.out.tail.tail.headF; have lz9 := lu)
            exact bodyPost_ret (v := .tuple #[.agg #[.int .i64 0, .slice none 0 0, .bool false], .int .i64 1]) (by simp [results, Tryd.results34, go_sem, z0, zf0, z1, zf1, z2, zf2, lz9]) rfl (CbW.zero KU.out (Nat.le_refl _))
          · have HG2 : Hid (((l.zip bs).take (j + 1)).any badQ = false) := Lib.hid (by rw [hzt.out, List.any_append, hG.out]; simp [badQ, HOK.out])
            clear hF hB hG hzt hzm hy0
            go_wp2_with (go_at_call 24; (with_reducible refine (VL.out _ HMA).mono ?_); rintro e u ⟨rfl, hb⟩; have FU := Lib.hid (FA.out.below hb); have KU := Lib.hid (KA.out.trans (hb.mono KA.out.size)); have y0 : u.cell? ⟨b', o' + j, none⟩ = some (.int .i64 y) := Rg.keep hb (by simp; omega) (by go_cell); have x2 : u.cell? ⟨wr.heap.size, 2, none⟩ = some (.bool true) := Rg.keep hb (by simp) (by go_cell); have lx : wr.heap.size < u.heap.size := World.block_lt_of_cell? _ _ x2; have ly : b' < u.heap.size := World.block_lt_of_cell? _ _ y0; have lu : w.heap.size < u.heap.size := (by omega); have z0 := FU.out.head; have zf0 := FU.out.headF; have z1 := FU.out.tail.head; have zf1 := FU.out.tail.headF; have z2 := FU.out.tail.tail.head; have zf2 := FU.out.tail.tail.headF; have lz9 := lu)
            go_roundw
            case rel => exact ⟨j + 1, by go_num, by omega, lu, FU, KU, HG2⟩
            case measure => simp [intOf]; omega
        · have hy1 : decide (y < 0) = false := by simpa using hy0
          have HG2 : Hid (((l.zip bs).take (j + 1)).any badQ = false) := Lib.hid (by rw [hzt.out, List.any_append, hG.out]; simp [badQ, HOK.out]; omega)
          clear hF hB hG hzt hzm hy0
          go_wp2_with (go_at_call 24; (with_reducible refine (VL.out _ HMA).mono ?_); rintro e u ⟨rfl, hb⟩; have FU := Lib.hid (FA.out.below hb); have KU := Lib.hid (KA.out.trans (hb.mono KA.out.size)); have y0 : u.cell? ⟨b', o' + j, none⟩ = some (.int .i64 y) := Rg.keep hb (by simp; omega) (by go_cell); have x2 : u.cell? ⟨wr.heap.size, 2, none⟩ = some (.bool eq) := Rg.keep hb (by simp) (by go_cell); have lx : wr.heap.size < u.heap.size := World.block_lt_of_cell? _ _ x2; have ly : b' < u.heap.size := World.block_lt_of_cell? _ _ y0; have lu : w.heap.size < u.heap.size := (by omega); have z0 := FU.out.head; have zf0 := FU.out.headF; have z1 := FU.out.tail.head; have zf1 := FU.out.tail.headF; have z2 := FU.out.tail.tail.head; have zf2 := FU.out.tail.tail.headF; have lz9 := lu)
          go_roundw
          case rel => exact ⟨j + 1, by go_num, by omega, lu, FU, KU, HG2⟩
          case measure => simp [intOf]; omega
    · obtain rfl : j = n := by omega
      have HR1 : Hid (cbF ((l.zip bs).drop 0) (0, [], true) = RES) := Lib.hid (by
        have h1 := hG.out
        rw [List.take_of_length_le (by rw [List.length_zip, HN.out]; exact Nat.min_le_left _ _)] at h1
        have hr := HR0.out
        unfold cbR at hr
        rw [if_neg (by rw [HE.out]; simp), if_neg (by rw [h1]; simp)] at hr
        exact hr)
      obtain ⟨gr, hgr⟩ : ∃ gr, wr.heap.size = gr := ⟨_, rfl⟩
      have BA : Below wr.heap.size wr (wr.alloc (Obj.cells #[Value.int .i64 0, Value.slice none 0 0, Value.bool true] 36)) := (Below.refl _ _).alloc (Nat.le_refl _) _
      have F1 : Hid (Cl ((gr, 0, .int .i64 0) :: (gr, 1, .slice none 0 0) :: (gr, 2, .bool true) :: [(w.heap.size, 0, .int .i64 0), (w.heap.size, 1, .slice none 0 0), (w.heap.size, 2, .bool false)]) (wr.alloc (Obj.cells #[Value.int .i64 0, Value.slice none 0 0, Value.bool true] 36))) := Lib.hid (by
        have h := hF.out.below BA
        rw [← hgr]
        exact Cl.cons (by go_cell) (by simp only [frozen?_alloc_cells]; exact Rg.notFrozen (Nat.le_refl _)) (Cl.cons (by go_cell) (by simp only [frozen?_alloc_cells]; exact Rg.notFrozen (Nat.le_refl _)) (Cl.cons (by go_cell) (by simp only [frozen?_alloc_cells]; exact Rg.notFrozen (Nat.le_refl _)) h)))
      have K1 := Lib.hid (hB.out.alloc hB.out.size (Obj.cells #[Value.int .i64 0, Value.slice none 0 0, Value.bool true] 36))
      have l1 : gr < (wr.alloc (Obj.cells #[Value.int .i64 0, Value.slice none 0 0, Value.bool true] 36)).heap.size := by simp; omega
      have lw : w.heap.size < gr := by omega
      clear hF hB hG BA HR0 lz
      go_wp2_with fail
      try rw [hgr]
      generalize (wr.alloc (Obj.cells #[Value.int .i64 0, Value.slice none 0 0, Value.bool true] 36)) = z9 at *
      clear hgr
      go_loopw [48] (fun i wr => ∃ (t : Nat) (rk : Int) (rl : List Mo) (re : Bool) (pr : Option Addr) (cr : Nat), i = .int .i64 t ∧ t ≤ j ∧ gr < wr.heap.size ∧ rl.length ≤ cr ∧ Hid (Cl ((gr, 0, .int .i64 rk) :: (gr, 1, .slice pr rl.length cr) :: (gr, 2, .bool re) :: [(w.heap.size, 0, .int .i64 0), (w.heap.size, 1, .slice none 0 0), (w.heap.size, 2, .bool false)]) wr) ∧ Hid (Below w.heap.size w wr) ∧ Hid (SlM wr pr rl) ∧ Hid (rOK (rk, rl, re) (40 * t)) ∧ Hid (cbF ((l.zip bs).drop t) (rk, rl, re) = RES)) (fun i _ => j - (intOf i).toNat)
      case atStart => exact ⟨0, 0, [], true, none, 0, rfl, Nat.zero_le _, l1, Nat.le_refl _, F1, K1, Lib.hid (fun i hi => absurd hi (by simp)), Lib.hid ⟨by simp, by simp, by simp⟩, HR1⟩
      case round =>
        obtain ⟨t, rk, rl, re, pr, cr, rfl, ht, lg, hcr, hF, hB, hS, hK, hR⟩ := hrel
        clear F1 K1 l1 HR1
        have tt : (0 : Int) ≤ t := by omega
        have d0 := hF.out.head
        have d1 := hF.out.tail.head
        have d2 := hF.out.tail.tail.head
        by_cases hlt : t < j
        · obtain ⟨b, o, qa, da, rfl, c0, c1, c2, hM⟩ := RA.out t (by rw [HN.out]; exact hlt)
          obtain ⟨b', o', rfl, y0⟩ := RB.out t (by rw [HM.out]; exact hlt)
          have t2 : (t : Int) < j := by omega
          have hbw : b < w.heap.size := World.block_lt_of_cell? _ _ c0
          have hbw' : b' < w.heap.size := World.block_lt_of_cell? _ _ y0
          replace c0 := Rg.keep hB.out hbw c0
          replace c1 := Rg.keep hB.out hbw c1
          replace c2 := Rg.keep hB.out hbw c2
          replace y0 := Rg.keep hB.out hbw' y0
          have hbr : b < wr.heap.size := World.block_lt_of_cell? _ _ c0
          have hbr' : b' < wr.heap.size := World.block_lt_of_cell? _ _ y0
          have HM2 := Lib.hid (SlM.keep hB.out hM)
          have ho := QK.out _ (qget (l := l) (i := t) (by rw [HN.out]; exact hlt))
          have hzd := Lib.hid (zip_drop (l := l) (bs := bs) (j := t) (by rw [HN.out]; exact hlt) (by rw [HM.out]; exact hlt))
          have hzt := Lib.hid (zip_take (l := l) (bs := bs) (j := t) (by rw [HN.out]; exact hlt) (by rw [HM.out]; exact hlt))
          have hzm := Lib.hid (zip_mem (l := l) (bs := bs) (j := t) (by rw [HN.out]; exact hlt) (by rw [HM.out]; exact hlt))
          have hyb : -9223372036854775808 ≤ bs.getD t 0 ∧ bs.getD t 0 ≤ 9223372036854775807 := BK.out _ (by
            have h2 : t < bs.length := by rw [HM.out]; exact hlt
            have e2 : bs.getD t 0 = bs[t] := by unfold List.getD; rw [List.getElem?_eq_getElem h2]; rfl
            rw [e2]; exact List.getElem_mem _)
          obtain ⟨f, hf⟩ : ∃ f, l.getD t q0m = f := ⟨_, rfl⟩
          obtain ⟨y, hy⟩ : ∃ y, bs.getD t 0 = y := ⟨_, rfl⟩
          rw [hf] at c0 c1 c2 hM HM2 ho hzd hzt hzm
          rw [hy] at y0 hzd hzt hzm hyb
          obtain ⟨k, xs, eq⟩ := f
          dsimp only at c0 c1 c2 hM HM2 ho
          obtain ⟨o1, o2, o3⟩ := ho
          have VB : Below wr.heap.size wr (wr.alloc (Obj.cells #[Value.int .i64 k, Value.slice qa xs.length da, Value.bool eq] 36)) := (Below.refl _ _).alloc (Nat.le_refl _) _
          have HMB := Lib.hid (SlM.keep VB HM2.out)
          have SC := Lib.hid fun w h => scale1k k qa xs da y w (by omega) h (Lib.hid fun i hi => o3 _ (getD_mem hi)) o2.1 o2.2 hyb.1 hyb.2
          have srng := scl_rng (b := y) (k := k) (xs := xs) (fun m hm => (o3 m hm).1)
          have hstep := hR.out
          rw [hzd.out] at hstep
          have HST := Lib.hid hstep
          obtain ⟨SR, hSR⟩ : ∃ SR, sclR y k xs = SR := ⟨_, rfl⟩
          have HSR9 := Lib.hid hSR
          rw [hSR] at SC srng
          obtain ⟨sk, sl, se⟩ := SR
          dsimp only at SC srng
          have hx := hK.out
          have arng := adR_rng (k := rk) (k' := sk) (xs := rl) (ys := sl) (fun m hm => (hx.2.2 m hm).1) (fun m hm => (srng.2.2 m hm).1)
          have hrl : rl.length ≤ 40 * t := hx.1
          have hsl : sl.length ≤ 40 := Nat.le_trans srng.1 o1
          have AD := Lib.hid fun p c q d hc hd w h1 h2 => add1d rk p rl c sk q sl d w (by omega) (by omega) hc hd h1 h2 (Lib.hid hx.get) (Lib.hid fun i hi => srng.2.2 _ (getD_mem hi)) hx.2.1.1 hx.2.1.2 srng.2.1.1 srng.2.1.2
          obtain ⟨AR, hAR⟩ : ∃ AR, adR rk rl sk sl = AR := ⟨_, rfl⟩
          have HAR := Lib.hid hAR
          rw [hAR] at AD arng
          obtain ⟨ak, al, ae⟩ := AR
          dsimp only at AD arng
          have HRNG := Lib.hid arng
          have HL40 : Hid (al.length ≤ 40 * (t + 1)) := Lib.hid (by have := arng.1; omega)
          unfold LRk at SC
          unfold LRd at AD
          unfold Lv at SC AD
          have KB := Lib.hid (hB.out.alloc hB.out.size (Obj.cells #[Value.int .i64 k, Value.slice qa xs.length da, Value.bool eq] 36))
          have FB := Lib.hid (hF.out.below VB)
          have HSB := Lib.hid (SlM.keep VB hS.out)
          have f0 : (wr.alloc (Obj.cells #[Value.int .i64 k, Value.slice qa xs.length da, Value.bool eq] 36)).cell? ⟨wr.heap.size, 0, none⟩ = some (.int .i64 k) := by go_cell
          have f1 : (wr.alloc (Obj.cells #[Value.int .i64 k, Value.slice qa xs.length da, Value.bool eq] 36)).cell? ⟨wr.heap.size, 1, none⟩ = some (.slice qa xs.length da) := by go_cell
          have g2 : (wr.alloc (Obj.cells #[Value.int .i64 k, Value.slice qa xs.length da, Value.bool eq] 36)).cell? ⟨wr.heap.size, 2, none⟩ = some (.bool eq) := by go_cell
          have f2 := Rg.keep VB hbr' y0
          have lgb : wr.heap.size < (wr.alloc (Obj.cells #[Value.int .i64 k, Value.slice qa xs.length da, Value.bool eq] 36)).heap.size := by simp
          have lb3 : b' < (wr.alloc (Obj.cells #[Value.int .i64 k, Value.slice qa xs.length da, Value.bool eq] 36)).heap.size := by simp; omega
          have lg3 : gr < (wr.alloc (Obj.cells #[Value.int .i64 k, Value.slice qa xs.length da, Value.bool eq] 36)).heap.size := by simp; omega
          clear hM hf hy o1 o2 o3 HM2 VB hzt hzm hR hstep hSR hAR hx srng arng hK hF hB hS
          go_upto_region 16 with fail
          generalize hwb : (wr.alloc (Obj.cells #[Value.int .i64 k, Value.slice qa xs.length da, Value.bool eq] 36)) = wb at *
          clear hwb
          go_cut [12, 13] from 53 to 62 (fun p12 e13 wx => ∃ (g12 : Nat) (ps : Option Addr) (cs : Nat), p12 = .pointer (some ⟨g12, 0, none⟩) ∧ e13 = .int .i64 se ∧ g12 < wx.heap.size ∧ sl.length ≤ cs ∧ Hid (wx.cell? ⟨g12, 0, none⟩ = some (.int .i64 sk) ∧ wx.cell? ⟨g12, 1, none⟩ = some (.slice ps sl.length cs)) ∧ Hid (SlM wx ps sl) ∧ Below wb.heap.size wb wx)
          case first =>
            have KX : Below wb.heap.size wb wb := Below.refl _ _
            have hz16 := And.intro f0 (And.intro f1 (And.intro f2 KX))
            clear f0 f1 f2
            have HS : Hid (∀ u u' : World, (u.cell? ⟨wr.heap.size, 0, none⟩ = some (.int .i64 k) ∧ u.cell? ⟨wr.heap.size, 1, none⟩ = some (.slice qa xs.length da) ∧ u.cell? ⟨b', o' + t, none⟩ = some (.int .i64 y) ∧ Below wb.heap.size wb u) → Below u.heap.size u u' → (u'.cell? ⟨wr.heap.size, 0, none⟩ = some (.int .i64 k) ∧ u'.cell? ⟨wr.heap.size, 1, none⟩ = some (.slice qa xs.length da) ∧ u'.cell? ⟨b', o' + t, none⟩ = some (.int .i64 y) ∧ Below wb.heap.size wb u')) := Lib.hid (fun u u' h hb => ⟨Rg.keep hb (World.block_lt_of_cell? _ _ h.1) h.1, Rg.keep hb (World.block_lt_of_cell? _ _ h.2.1) h.2.1, Rg.keep hb (World.block_lt_of_cell? _ _ h.2.2.1) h.2.2.1, h.2.2.2.trans (hb.mono h.2.2.2.size)⟩)
            refine Rk.begin (S := fun wS => wS.cell? ⟨wr.heap.size, 0, none⟩ = some (.int .i64 k) ∧ wS.cell? ⟨wr.heap.size, 1, none⟩ = some (.slice qa xs.length da) ∧ wS.cell? ⟨b', o' + t, none⟩ = some (.int .i64 y) ∧ Below wb.heap.size wb wS) 11 (by kernel_rfl) (HS.out _ _ hz16 (Below.drew (Below.refl _ _))) (fun hHeld => ?_)
            refine Rk.takeP (i := 0) (v := ?_) rfl (by kernel_rfl) (by kernel_rfl) (by kernel_rfl) (by kernel_rfl) (fun _ _ _ h => h) (Or.inl ⟨by kernel_rfl, ?_⟩) (by assumption) ?_
            rotate_left
            · ((intro w hSw; go_simp) <;> with_reducible rfl)
            try simp only [Act.put, List.setIfInBounds_toArray, List.set_cons_zero, List.set_cons_succ]
            refine Rk.take [11] (i := 1) (v := ?_) rfl (by kernel_rfl) (by kernel_rfl) (by kernel_rfl) (by kernel_rfl) (by kernel_rfl) (fun _ _ _ h => h) (Or.inl ⟨by kernel_rfl, ?_⟩) (by assumption) ?_
            rotate_left
            · ((intro w hSw; (try dsimp only at hSw); go_simp) <;> with_reducible rfl)
            try simp only [Act.put, List.setIfInBounds_toArray, List.set_cons_zero, List.set_cons_succ]
            refine Rk.takeP (i := 2) (v := ?_) rfl (by kernel_rfl) (by kernel_rfl) (by kernel_rfl) (by kernel_rfl) (fun _ _ _ h => h) (Or.inl ⟨by kernel_rfl, ?_⟩) (by assumption) ?_
            rotate_left
            · ((intro w hSw; go_simp) <;> with_reducible rfl)
            try simp only [Act.put, List.setIfInBounds_toArray, List.set_cons_zero, List.set_cons_succ]
            refine Rk.takeP (i := 3) (v := ?_) rfl (by kernel_rfl) (by kernel_rfl) (by kernel_rfl) (by kernel_rfl) (fun _ _ _ h => h) (Or.inl ⟨by kernel_rfl, ?_⟩) (by assumption) ?_
            rotate_left
            · ((intro w hSw; go_simp) <;> with_reducible rfl)
            try simp only [Act.put, List.setIfInBounds_toArray, List.set_cons_zero, List.set_cons_succ]
            refine Rk.takeP (i := 4) (v := ?_) rfl (by kernel_rfl) (by kernel_rfl) (by kernel_rfl) (by kernel_rfl) (fun _ _ _ h => h) (Or.inl ⟨by kernel_rfl, ?_⟩) (by assumption) ?_
            rotate_left
            · ((intro w hSw; go_simp) <;> with_reducible rfl)
            try simp only [Act.put, List.setIfInBounds_toArray, List.set_cons_zero, List.set_cons_succ]
            refine Rk.take [11] (i := 5) (v := ?_) rfl (by kernel_rfl) (by kernel_rfl) (by kernel_rfl) (by kernel_rfl) (by kernel_rfl) (fun _ _ _ h => h) (Or.inl ⟨by kernel_rfl, ?_⟩) (by assumption) ?_
            rotate_left
            · ((intro w hSw; (try dsimp only at hSw); go_simp) <;> with_reducible rfl)
            try simp only [Act.put, List.setIfInBounds_toArray, List.set_cons_zero, List.set_cons_succ]
            refine Rk.two (i := 6) (j := 10) (by kernel_rfl) rfl rfl (fun KK hK => ?_) (fun KK hK => ?_)
            · rw [if_pos (by kernel_rfl)]
              go_simp
              ((with_reducible refine (SC.out _ (Lib.hid (SlM.keep (hHeld.2.2.2) HMB.out))).mono ?_); rintro e uw6 ⟨ps, cs, rfl, hcs, _, S2, hb⟩)
              have hNew := HS.out _ _ hHeld hb
              have hs_uw6 : wb.heap.size ≤ uw6.heap.size := by have hzz := hb.size; (try simp at hzz); omega
              first | (refine hK.out _ _ (fun _ => hNew) (fun _ => ?_)) | (refine hK.out _ _ hNew (fun _ => ?_)) | (go_wp2_with fail; refine hK.out _ _ hNew (fun _ => ?_))
              replace hHeld := hNew
              clear hNew hb
              clear hK KK
              refine Rk.takeP (i := 7) (v := ?_) rfl (by kernel_rfl) (by kernel_rfl) (by kernel_rfl) (by kernel_rfl) (fun _ _ _ h => h) (Or.inl ⟨by kernel_rfl, ?_⟩) (by assumption) ?_
              rotate_left
              · ((intro w hSw; go_simp) <;> with_reducible rfl)
              try simp only [Act.put, List.setIfInBounds_toArray, List.set_cons_zero, List.set_cons_succ]
              refine Rk.takeP (i := 8) (v := ?_) rfl (by kernel_rfl) (by kernel_rfl) (by kernel_rfl) (by kernel_rfl) (fun _ _ _ h => h) (Or.inl ⟨by kernel_rfl, ?_⟩) (by assumption) ?_
              rotate_left
              · ((intro w hSw; go_simp) <;> with_reducible rfl)
              try simp only [Act.put, List.setIfInBounds_toArray, List.set_cons_zero, List.set_cons_succ]
              refine Rk.takeP (i := 9) (v := ?_) rfl (by kernel_rfl) (by kernel_rfl) (by kernel_rfl) (by kernel_rfl) (fun _ _ _ h => h) (Or.inl ⟨by kernel_rfl, ?_⟩) (by assumption) ?_
              rotate_left
              · ((intro w hSw; go_simp) <;> with_reducible rfl)
              try simp only [Act.put, List.setIfInBounds_toArray, List.set_cons_zero, List.set_cons_succ]
              refine Rk.one (i := 10) (by kernel_rfl) rfl (fun KK hK => ?_)
              rw [if_pos (by kernel_rfl)]
              go_simp
              replace S2 := SlM.keep ((Below.refl _ _).alloc (Nat.le_refl _) (Obj.cells #[Value.int .i64 0, Value.slice none 0 0] 24)) S2
              have hNew := HS.out _ _ hHeld ((Below.refl _ _).alloc (Nat.le_refl _) (Obj.cells #[Value.int .i64 0, Value.slice none 0 0] 24))
              refine hK.out _ _ hNew (fun _ => ?_)
              replace hHeld := hNew
              clear hNew
              clear hK KK
              refine Rk.tail [11, 12] [_, _] (by kernel_rfl) (by kernel_rfl) rfl (by decide) ?_
              obtain ⟨f0, f1, f2, KF⟩ := hHeld
              have m0 : (uw6.alloc (Obj.cells #[Value.int .i64 0, Value.slice none 0 0] 24)).cell? ⟨uw6.heap.size, 0, none⟩ = some (.int .i64 0) := by go_cell
              have fm0 : (uw6.alloc (Obj.cells #[Value.int .i64 0, Value.slice none 0 0] 24)).frozen? ⟨uw6.heap.size, 0, none⟩ = false := by simp only [frozen?_alloc_cells]; exact Rg.notFrozen (Nat.le_refl _)
              have m1 : (uw6.alloc (Obj.cells #[Value.int .i64 0, Value.slice none 0 0] 24)).cell? ⟨uw6.heap.size, 1, none⟩ = some (.slice none 0 0) := by go_cell
              have fm1 : (uw6.alloc (Obj.cells #[Value.int .i64 0, Value.slice none 0 0] 24)).frozen? ⟨uw6.heap.size, 1, none⟩ = false := by simp only [frozen?_alloc_cells]; exact Rg.notFrozen (Nat.le_refl _)
              generalize (uw6.alloc (Obj.cells #[Value.int .i64 0, Value.slice none 0 0] 24)) = gw at *
              have lm : uw6.heap.size < gw.heap.size := World.block_lt_of_cell? _ _ m0
              have lw : wb.heap.size ≤ uw6.heap.size := by omega
              have ne0 : uw6.heap.size ≠ wr.heap.size := by omega
              have ne1 : uw6.heap.size ≠ b' := by omega
              have lo0 : wr.heap.size < gw.heap.size := by omega
              have lo1 : b' < gw.heap.size := by omega
              have S3 := Sl_ovr (x := .int .i64 sk) (y := .slice ps sl.length cs) S2 m0 m1
              go_wp2_with fail
              have f0 : ((gw.setCell ⟨uw6.heap.size, 0, none⟩ (.int .i64 sk)).setCell ⟨uw6.heap.size, 1, none⟩ (.slice ps sl.length cs)).cell? ⟨wr.heap.size, 0, none⟩ = some (.int .i64 k) := Rg.far ne0 f0
              have f1 : ((gw.setCell ⟨uw6.heap.size, 0, none⟩ (.int .i64 sk)).setCell ⟨uw6.heap.size, 1, none⟩ (.slice ps sl.length cs)).cell? ⟨wr.heap.size, 1, none⟩ = some (.slice qa xs.length da) := Rg.far ne0 f1
              have f2 : ((gw.setCell ⟨uw6.heap.size, 0, none⟩ (.int .i64 sk)).setCell ⟨uw6.heap.size, 1, none⟩ (.slice ps sl.length cs)).cell? ⟨b', o' + t, none⟩ = some (.int .i64 y) := Rg.far ne1 f2
              have hst := st2c (x := .int .i64 sk) (y := .slice ps sl.length cs) m0 m1
              obtain ⟨s0, s1⟩ := hst
              have KS : Below wb.heap.size wb ((gw.setCell ⟨uw6.heap.size, 0, none⟩ (.int .i64 sk)).setCell ⟨uw6.heap.size, 1, none⟩ (.slice ps sl.length cs)) := (Below.setCell (Below.setCell KF (by dsimp only; omega) _) (by dsimp only; omega) _)
              have lm : uw6.heap.size < ((gw.setCell ⟨uw6.heap.size, 0, none⟩ (.int .i64 sk)).setCell ⟨uw6.heap.size, 1, none⟩ (.slice ps sl.length cs)).heap.size := World.block_lt_of_cell? _ _ s0
              have lo0 : wr.heap.size < ((gw.setCell ⟨uw6.heap.size, 0, none⟩ (.int .i64 sk)).setCell ⟨uw6.heap.size, 1, none⟩ (.slice ps sl.length cs)).heap.size := by simp; omega
              have lo1 : b' < ((gw.setCell ⟨uw6.heap.size, 0, none⟩ (.int .i64 sk)).setCell ⟨uw6.heap.size, 1, none⟩ (.slice ps sl.length cs)).heap.size := by simp; omega
              clear KF m0 fm0 m1 fm1
              generalize ((gw.setCell ⟨uw6.heap.size, 0, none⟩ (.int .i64 sk)).setCell ⟨uw6.heap.size, 1, none⟩ (.slice ps sl.length cs)) = gs at *
              go_meet
              exact ⟨uw6.heap.size, ps, cs, rfl, rfl, lm, hcs, Lib.hid (And.intro s0 s1), Lib.hid S3, KS⟩
            · rw [if_pos (by kernel_rfl)]
              go_simp
              have hNew := HS.out _ _ hHeld ((Below.refl _ _).alloc (Nat.le_refl _) (Obj.cells #[Value.int .i64 0, Value.slice none 0 0] 24))
              refine hK.out _ _ hNew (fun _ => ?_)
              replace hHeld := hNew
              clear hNew
              replace hHeld : (wb.alloc (Obj.cells #[Value.int .i64 0, Value.slice none 0 0] 24)).drew.cell? ⟨wr.heap.size, 0, none⟩ = some (.int .i64 k) ∧ (wb.alloc (Obj.cells #[Value.int .i64 0, Value.slice none 0 0] 24)).drew.cell? ⟨wr.heap.size, 1, none⟩ = some (.slice qa xs.length da) ∧ (wb.alloc (Obj.cells #[Value.int .i64 0, Value.slice none 0 0] 24)).drew.cell? ⟨b', o' + t, none⟩ = some (.int .i64 y) ∧ Below wb.heap.size wb (wb.alloc (Obj.cells #[Value.int .i64 0, Value.slice none 0 0] 24)).drew := hHeld
              clear hK KK
              refine Rk.one (i := 6) (by kernel_rfl) rfl (fun KK hK => ?_)
              rw [if_pos (by kernel_rfl)]
              go_simp
              ((with_reducible refine (SC.out _ (Lib.hid (SlM.keep (hHeld.2.2.2) HMB.out))).mono ?_); rintro e uw6 ⟨ps, cs, rfl, hcs, _, S2, hb⟩)
              have hNew := HS.out _ _ hHeld hb
              have hs_uw6 : wb.heap.size ≤ uw6.heap.size := by have hzz := hb.size; (try simp at hzz); omega
              have m0 : uw6.cell? ⟨wb.heap.size, 0, none⟩ = some (.int .i64 0) := Rg.keep hb (by simp) (by go_cell)
              have fm0 : uw6.frozen? ⟨wb.heap.size, 0, none⟩ = false := Rg.keepF hb (by simp) (by show (wb.drew.alloc (Obj.cells #[Value.int .i64 0, Value.slice none 0 0] 24)).frozen? ⟨wb.drew.heap.size, 0, none⟩ = false; simp only [frozen?_alloc_cells]; exact Rg.notFrozen (Nat.le_refl _))
              have m1 : uw6.cell? ⟨wb.heap.size, 1, none⟩ = some (.slice none 0 0) := Rg.keep hb (by simp) (by go_cell)
              have fm1 : uw6.frozen? ⟨wb.heap.size, 1, none⟩ = false := Rg.keepF hb (by simp) (by show (wb.drew.alloc (Obj.cells #[Value.int .i64 0, Value.slice none 0 0] 24)).frozen? ⟨wb.drew.heap.size, 1, none⟩ = false; simp only [frozen?_alloc_cells]; exact Rg.notFrozen (Nat.le_refl _))
              first | (refine hK.out _ _ (fun _ => hNew) (fun _ => ?_)) | (refine hK.out _ _ hNew (fun _ => ?_)) | (go_wp2_with fail; refine hK.out _ _ hNew (fun _ => ?_))
              replace hHeld := hNew
              clear hNew hb
              clear hK KK
              refine Rk.takeP (i := 7) (v := ?_) rfl (by kernel_rfl) (by kernel_rfl) (by kernel_rfl) (by kernel_rfl) (fun _ _ _ h => h) (Or.inl ⟨by kernel_rfl, ?_⟩) (by assumption) ?_
              rotate_left
              · ((intro w hSw; go_simp) <;> with_reducible rfl)
              try simp only [Act.put, List.setIfInBounds_toArray, List.set_cons_zero, List.set_cons_succ]
              refine Rk.takeP (i := 8) (v := ?_) rfl (by kernel_rfl) (by kernel_rfl) (by kernel_rfl) (by kernel_rfl) (fun _ _ _ h => h) (Or.inl ⟨by kernel_rfl, ?_⟩) (by assumption) ?_
              rotate_left
              · ((intro w hSw; go_simp) <;> with_reducible rfl)
              try simp only [Act.put, List.setIfInBounds_toArray, List.set_cons_zero, List.set_cons_succ]
              refine Rk.takeP (i := 9) (v := ?_) rfl (by kernel_rfl) (by kernel_rfl) (by kernel_rfl) (by kernel_rfl) (fun _ _ _ h => h) (Or.inl ⟨by kernel_rfl, ?_⟩) (by assumption) ?_
              rotate_left
              · ((intro w hSw; go_simp) <;> with_reducible rfl)
              try simp only [Act.put, List.setIfInBounds_toArray, List.set_cons_zero, List.set_cons_succ]
              refine Rk.tail [11, 12] [_, _] (by kernel_rfl) (by kernel_rfl) rfl (by decide) ?_
              obtain ⟨f0, f1, f2, KF⟩ := hHeld
              have lm : wb.heap.size < uw6.heap.size := World.block_lt_of_cell? _ _ m0
              have lw : wb.heap.size ≤ wb.heap.size := by omega
              have ne0 : wb.heap.size ≠ wr.heap.size := by omega
              have ne1 : wb.heap.size ≠ b' := by omega
              have lo0 : wr.heap.size < uw6.heap.size := by omega
              have lo1 : b' < uw6.heap.size := by omega
              have S3 := Sl_ovr (x := .int .i64 sk) (y := .slice ps sl.length cs) S2 m0 m1
              go_wp2_with fail
              have f0 : ((uw6.setCell ⟨wb.heap.size, 0, none⟩ (.int .i64 sk)).setCell ⟨wb.heap.size, 1, none⟩ (.slice ps sl.length cs)).cell? ⟨wr.heap.size, 0, none⟩ = some (.int .i64 k) := Rg.far ne0 f0
              have f1 : ((uw6.setCell ⟨wb.heap.size, 0, none⟩ (.int .i64 sk)).setCell ⟨wb.heap.size, 1, none⟩ (.slice ps sl.length cs)).cell? ⟨wr.heap.size, 1, none⟩ = some (.slice qa xs.length da) := Rg.far ne0 f1
              have f2 : ((uw6.setCell ⟨wb.heap.size, 0, none⟩ (.int .i64 sk)).setCell ⟨wb.heap.size, 1, none⟩ (.slice ps sl.length cs)).cell? ⟨b', o' + t, none⟩ = some (.int .i64 y) := Rg.far ne1 f2
              have hst := st2c (x := .int .i64 sk) (y := .slice ps sl.length cs) m0 m1
              obtain ⟨s0, s1⟩ := hst
              have KS : Below wb.heap.size wb ((uw6.setCell ⟨wb.heap.size, 0, none⟩ (.int .i64 sk)).setCell ⟨wb.heap.size, 1, none⟩ (.slice ps sl.length cs)) := (Below.setCell (Below.setCell KF (by dsimp only; omega) _) (by dsimp only; omega) _)
              have lm : wb.heap.size < ((uw6.setCell ⟨wb.heap.size, 0, none⟩ (.int .i64 sk)).setCell ⟨wb.heap.size, 1, none⟩ (.slice ps sl.length cs)).heap.size := World.block_lt_of_cell? _ _ s0
              have lo0 : wr.heap.size < ((uw6.setCell ⟨wb.heap.size, 0, none⟩ (.int .i64 sk)).setCell ⟨wb.heap.size, 1, none⟩ (.slice ps sl.length cs)).heap.size := by simp; omega
              have lo1 : b' < ((uw6.setCell ⟨wb.heap.size, 0, none⟩ (.int .i64 sk)).setCell ⟨wb.heap.size, 1, none⟩ (.slice ps sl.length cs)).heap.size := by simp; omega
              clear KF m0 fm0 m1 fm1
              generalize ((uw6.setCell ⟨wb.heap.size, 0, none⟩ (.int .i64 sk)).setCell ⟨wb.heap.size, 1, none⟩ (.slice ps sl.length cs)) = gs at *
              go_meet
              exact ⟨wb.heap.size, ps, cs, rfl, rfl, lm, hcs, Lib.hid (And.intro s0 s1), Lib.hid S3, KS⟩
          case rest =>
            obtain ⟨g12, ps, cs, rfl, rfl, l12, hcs, HP, HSS, KBX⟩ := hcut
            have q0 := HP.out.1
            have q1 := HP.out.2
            have FC := Lib.hid (FB.out.below KBX)
            have KC := Lib.hid (KB.out.trans (KBX.mono KB.out.size))
            have HSR := Lib.hid (SlM.keep KBX HSB.out)
            have x2c := Rg.keep KBX lgb g2
            have ybc := Rg.keep KBX lb3 f2
            have lgb2 : wr.heap.size < wc.heap.size := World.block_lt_of_cell? _ _ x2c
            have lyb2 : b' < wc.heap.size := World.block_lt_of_cell? _ _ ybc
            have e0 := FC.out.head
            have e1 := FC.out.tail.head
            have e2 := FC.out.tail.tail.head
            have lgc : gr < wc.heap.size := World.block_lt_of_cell? _ _ e0
            clear f0 f1 f2 g2 lgb lb3 lg3 FB KB HSB KBX SC HMB HP d0 d1 d2 c0 c1 c2 y0
            by_cases hse : se = 0
            · subst hse
              by_cases hae : ae = 0
              · subst hae
                have HNX : Hid (cbF ((l.zip bs).drop (t + 1)) (ak, al, re && (eq || y == 0)) = RES) := Lib.hid ((cbF_go (cbS_3 HSR9.out HAR.out)).symm.trans HST.out)
                have HOK9 : Hid (rOK (ak, al, re && (eq || y == 0)) (40 * (t + 1))) := Lib.hid ⟨HL40.out, HRNG.out.2.1, HRNG.out.2.2⟩
                obtain ⟨yb, hyb0⟩ : ∃ yb, (y == 0) = yb := ⟨_, rfl⟩
                rw [hyb0] at HNX HOK9
                clear HST HAR HSR9 HRNG HL40
                go_wp2_with fail
                (with_reducible refine (AD.out pr cr ps cs hcr hcs _ HSR HSS).mono ?_)
                rintro e u ⟨pa, ca, rfl, hca, SA, hb⟩
                have FU := FC.out.below hb
                have KU := Lib.hid (KC.out.trans (hb.mono KC.out.size))
                have r0 := FU.head
                have rz0 := FU.headF
                have r1 := FU.tail.head
                have rz1 := FU.tail.headF
                have r2 := FU.tail.tail.head
                have rz2 := FU.tail.tail.headF
                have z0 := FU.tail.tail.tail.head
                have zf0 := FU.tail.tail.tail.headF
                have z1 := FU.tail.tail.tail.tail.head
                have zf1 := FU.tail.tail.tail.tail.headF
                have z2 := FU.tail.tail.tail.tail.tail.head
                have zf2 := FU.tail.tail.tail.tail.tail.headF
                have w2c := Rg.keep hb lgb2 x2c
                have y0c := Rg.keep hb lyb2 ybc
                have lgr2 : gr < u.heap.size := World.block_lt_of_cell? _ _ r0
                have lz9 : w.heap.size < u.heap.size := World.block_lt_of_cell? _ _ z0
                have lw2 : wr.heap.size < u.heap.size := World.block_lt_of_cell? _ _ w2c
                have ly2 : b' < u.heap.size := World.block_lt_of_cell? _ _ y0c
                have ng := Nat.ne_of_gt lw
                have ng2 := Nat.ne_of_lt lw
                have nw := Nat.ne_of_gt lg
                have nw2 := Nat.ne_of_lt lg
                cases re
                all_goals cases eq
                all_goals cases yb
                all_goals
                  simp only [Bool.false_and, Bool.true_and, Bool.or_false, Bool.or_true, Bool.false_or, Bool.true_or] at HNX HOK9
                  have FE := Lib.hid (cl_put (v0 := .int .i64 ak) (v1 := .slice pa al.length ca) (v2 := .bool false) FU (by omega))
                  have FE1 := Lib.hid (cl_put (v0 := .int .i64 ak) (v1 := .slice pa al.length ca) (v2 := .bool true) FU (by omega))
                  have SE := Lib.hid fun v2 => sl_over3 (x := .int .i64 ak) (y := .slice pa al.length ca) (z := v2) SA r0 r1 r2
                  have KE := Lib.hid fun v2 => ((KU.out.setCell (p := ⟨gr, 0, none⟩) (by dsimp only; omega) (.int .i64 ak)).setCell (p := ⟨gr, 1, none⟩) (by dsimp only; omega) (.slice pa al.length ca)).setCell (p := ⟨gr, 2, none⟩) (by dsimp only; omega) v2
                  clear AD SA FU HSR HSS
                  go_wp2_with fail
                  go_roundw
                  case rel => first | exact ⟨t + 1, ak, al, _, pa, ca, by go_num, by omega, by simp; exact lgr2, hca, FE, Lib.hid (KE.out _), Lib.hid (SE.out _), HOK9, HNX⟩ | exact ⟨t + 1, ak, al, _, pa, ca, by go_num, by omega, by simp; exact lgr2, hca, FE1, Lib.hid (KE.out _), Lib.hid (SE.out _), HOK9, HNX⟩
                  case measure => simp [intOf]; omega
              · have a0 : (ae == 0) = false := by simpa using hae
                have a1 : (ae != 0) = true := by simpa using hae
                have h := (cbF_err (cbS_2 HSR9.out HAR.out hae) hae).symm.trans HST.out
                subst h
                clear HST HAR HSR9 HRNG HL40 hae
                go_wp2_with fail
                (with_reducible refine (AD.out pr cr ps cs hcr hcs _ HSR HSS).mono ?_)
                rintro e u ⟨pa, ca, rfl, hca, SA, hb⟩
                have FU := FC.out.below hb
                have KU := Lib.hid (KC.out.trans (hb.mono KC.out.size))
                have r0 := FU.head
                have rz0 := FU.headF
                have r1 := FU.tail.head
                have rz1 := FU.tail.headF
                have r2 := FU.tail.tail.head
                have rz2 := FU.tail.tail.headF
                have z0 := FU.tail.tail.tail.head
                have zf0 := FU.tail.tail.tail.headF
                have z1 := FU.tail.tail.tail.tail.head
                have zf1 := FU.tail.tail.tail.tail.headF
                have z2 := FU.tail.tail.tail.tail.tail.head
                have zf2 := FU.tail.tail.tail.tail.tail.headF
                have w2c := Rg.keep hb lgb2 x2c
                have y0c := Rg.keep hb lyb2 ybc
                have lgr2 : gr < u.heap.size := World.block_lt_of_cell? _ _ r0
                have lz9 : w.heap.size < u.heap.size := World.block_lt_of_cell? _ _ z0
                have lw2 : wr.heap.size < u.heap.size := World.block_lt_of_cell? _ _ w2c
                have ly2 : b' < u.heap.size := World.block_lt_of_cell? _ _ y0c
                have KK := (KU.out.setCell (p := ⟨gr, 0, none⟩) (by dsimp only; omega) (.int .i64 ak)).setCell (p := ⟨gr, 1, none⟩) (by dsimp only; omega) (.slice pa al.length ca)
                have ng := Nat.ne_of_gt lw
                have ng2 := Nat.ne_of_lt lw
                go_wp2_with fail
                exact bodyPost_ret (v := .tuple #[.agg #[.int .i64 0, .slice none 0 0, .bool false], .int .i64 ae]) (by simp [results, Tryd.results34, go_sem, z0, zf0, z1, zf1, z2, zf2, lz9, r0, rz0, r1, rz1, lgr2, ng, ng2]) rfl (CbW.zero KK (Nat.le_refl _))
            · have s0 : (se == 0) = false := by simpa using hse
              have s1 : (se != 0) = true := by simpa using hse
              have h := (cbF_err (cbS_1 HSR9.out hse) hse).symm.trans HST.out
              subst h
              have KD := KC.out
              have z0 := FC.out.tail.tail.tail.head
              have zf0 := FC.out.tail.tail.tail.headF
              have z1 := FC.out.tail.tail.tail.tail.head
              have zf1 := FC.out.tail.tail.tail.tail.headF
              have z2 := FC.out.tail.tail.tail.tail.tail.head
              have zf2 := FC.out.tail.tail.tail.tail.tail.headF
              have lz9 : w.heap.size < wc.heap.size := World.block_lt_of_cell? _ _ z0
              clear HST HAR HSR9 HRNG HL40 hse AD
              go_wp2_with fail
              exact bodyPost_ret (v := .tuple #[.agg #[.int .i64 0, .slice none 0 0, .bool false], .int .i64 se]) (by simp [results, Tryd.results34, go_sem, z0, zf0, z1, zf1, z2, zf2, lz9]) rfl (CbW.zero KD (Nat.le_refl _))
        · obtain rfl : t = j := by omega
          have hr := hR.out
          rw [List.drop_of_length_le (by rw [List.length_zip, HN.out]; exact Nat.min_le_left _ _)] at hr
          have hr2 : ((rk, rl, re), (0 : Int)) = RES := hr
          subst hr2
          have KD := hB.out
          have SD := hS.out
          have z0 := hF.out.tail.tail.tail.head
          have zf0 := hF.out.tail.tail.tail.headF
          have z1 := hF.out.tail.tail.tail.tail.head
          have zf1 := hF.out.tail.tail.tail.tail.headF
          have z2 := hF.out.tail.tail.tail.tail.tail.head
          have zf2 := hF.out.tail.tail.tail.tail.tail.headF
          have lz9 : w.heap.size < wr.heap.size := World.block_lt_of_cell? _ _ z0
          have ng := Nat.ne_of_gt lw
          have ng2 := Nat.ne_of_lt lw
          clear hF hB hS hK hR hr
          go_wp2_with fail
          exact bodyPost_ret (v := .tuple #[.agg #[.int .i64 rk, .slice pr rl.length cr, .bool re], .int .i64 0]) (by simp [results, Tryd.results34, go_sem, z0, zf0, z1, zf1, z2, zf2, lz9, d0, d1, d2, lg, ng, ng2]) rfl (CbW.end KD (Nat.le_refl _) SD z0 z1 z2)
end Go.Proofs.YtbicmlkjonaccaaDoor.Ln
