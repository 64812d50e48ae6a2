/- Format and Parse of package value. -/
import Derived.Test.YtikcinkbkakkmaaGreatDoorV9
import Derived.Test.YtikcinkbkakkmaaGreatDoorV12
import Derived.Test.YtikcinkbkakkmaaGreatDoorT9
import Derived.Test.YtikcinkbkakkmaaGreatDoorGG
import Derived.IntWalk

namespace Go.Proofs.YtikcinkbkakkmaaGreatDoor.Va
open Go.ChangeShapes Go.WideShapes Go.ChangeAt Go.RowKit
open Fr Fx

set_option linter.unusedVariables false
set_option linter.unusedSimpArgs false

/-- The text of a number of a type. -/
def vfm (K B F R O n d : Int) : List UInt8 := if vv K B F R O n d = false then [] else Tx.fmv (rat K F n d).1 (rat K F n d).2
/-- The number that a text spells in a type. -/
def vpv (K B F R O : Int) (l : List UInt8) : A3 :=
  if ty K B F R O = false then (0, 0, 10) else if (Tx.psv l).2.2 ≠ 0 then (0, 0, (Tx.psv l).2.2)
  else if K = 3 then (if (Tx.psv l).2.1 ≠ 1 then (0, 0, 5) else Tx.psv l)
  else if K = 2 then (if 2 ^ F.toNat % (Tx.psv l).2.1 ≠ 0 then (0, 0, 5) else if fv K B F R O ((Tx.psv l).1 * (2 ^ F.toNat / (Tx.psv l).2.1)) 1 = false then (0, 0, 3) else ((Tx.psv l).1 * (2 ^ F.toNat / (Tx.psv l).2.1), 1, 0))
  else Tx.psv l
theorem psv_err {l : List UInt8} (h : (Tx.psv l).2.2 ≠ 0) : Tx.psv l = (0, 0, (Tx.psv l).2.2) := by
  unfold Tx.psv at h ⊢
  split
  · rfl
  · split
    · rfl
    · split
      · rfl
      · rename_i h1 h2 h3
        rw [if_neg h1, if_neg h2, if_neg h3] at h
        exact absurd rfl h
theorem psv_ok {l : List UInt8} {x y : Int} (h : Tx.psv l = (x, y, 0)) : vld x y = true := (Tx.format_parse h).1
set_option maxHeartbeats 4000000 in
theorem c_vfm (K B F R O n d : Int) (w : World) (b0 : -9223372036854775808 ≤ B) (b1 : B ≤ 9223372036854775807) (hL : Tx.LA w) : Calls Tryz.prog 20 #[T5 K B F R O, V2 n d] w (Ret (.string ⟨(vfm K B F R O n d).toArray⟩) w) := by
  have LAh := Lib.hid hL
  have VA := Lib.hid fun w => c_va K B F R O n d w b0 b1
  cases hv : vv K B F R O n d
  · rw [show vfm K B F R O n d = [] by unfold vfm; rw [if_pos hv]]
    rw [hv] at VA
    clear hv hL b0 b1
    go_enter Tryz.func20, Tryz.ntmps20
    go_wp2_with (first | (go_at_call 23; (with_reducible refine (VA.out _).mono ?_); rintro e w1 ⟨rfl, hb1⟩; have hc1 := (bcell hb1).1; have hf1 := (bcell hb1).2; have z1_0 : w.heap.size < w1.heap.size := (by have hzz := hb1.size; (try simp at hzz); omega); have z1_1 : w.heap.size + 1 < w1.heap.size := (by have hzz := hb1.size; (try simp at hzz); omega); have K1 : Below w.heap.size w w1 := Below.trans (b := _) (by (repeat' (first | (with_reducible exact Below.refl _ _) | (with_reducible refine Below.alloc ?_ ?_ _) | (with_reducible refine Below.setCell ?_ ?_ _) | (with_reducible refine below_drewN ?_ _) | (simp; done) | omega | (simp; omega)))) (hb1.mono (by have hzz := hb1.size; (try simp at hzz); first | omega | (simp; done) | (simp; omega)))))
    go_ret
    exact ⟨rfl, K1⟩
  · rw [show vfm K B F R O n d = Tx.fmv (rat K F n d).1 (rat K F n d).2 by unfold vfm; rw [if_neg (by rw [hv]; decide)]]
    rw [hv] at VA
    have RA := Lib.hid fun w => c_rat K B F R O n d w hv
    have FM := Lib.hid fun w h => Tx.c_fmt (rat K F n d).1 (rat K F n d).2 w h
    clear hv hL b0 b1
    generalize (⟨(Tx.fmv (rat K F n d).1 (rat K F n d).2).toArray⟩ : ByteArray) = s at *
    generalize (rat K F n d).1 = x at *
    generalize (rat K F n d).2 = y at *
    go_enter Tryz.func20, Tryz.ntmps20
    go_wp2_with (first | (go_at_call 23; (with_reducible refine (VA.out _).mono ?_); rintro e w1 ⟨rfl, hb1⟩; have hc1 := (bcell hb1).1; have hf1 := (bcell hb1).2; have z1_0 : w.heap.size < w1.heap.size := (by have hzz := hb1.size; (try simp at hzz); omega); have z1_1 : w.heap.size + 1 < w1.heap.size := (by have hzz := hb1.size; (try simp at hzz); omega); have K1 : Below w.heap.size w w1 := Below.trans (b := _) (by (repeat' (first | (with_reducible exact Below.refl _ _) | (with_reducible refine Below.alloc ?_ ?_ _) | (with_reducible refine Below.setCell ?_ ?_ _) | (with_reducible refine below_drewN ?_ _) | (simp; done) | omega | (simp; omega)))) (hb1.mono (by have hzz := hb1.size; (try simp at hzz); first | omega | (simp; done) | (simp; omega)))) | (go_at_call 53; (with_reducible refine (RA.out _).mono ?_); rintro e w2 ⟨rfl, hb2⟩; have hc2 := (bcell hb2).1; have hf2 := (bcell hb2).2; have z2_0 : w.heap.size < w2.heap.size := (by have hzz := hb2.size; (try simp at hzz); omega); have z2_1 : w.heap.size + 1 < w2.heap.size := (by have hzz := hb2.size; (try simp at hzz); omega); have K2 : Below w.heap.size w w2 := Below.trans (b := _) (by (repeat' (first | (with_reducible exact Below.refl _ _) | (with_reducible exact K1) | (with_reducible exact K1.size) | (with_reducible refine Below.alloc ?_ ?_ _) | (with_reducible refine Below.setCell ?_ ?_ _) | (with_reducible refine below_drewN ?_ _) | (simp; done) | omega | (simp; omega)))) (hb2.mono (by have hzz := hb2.size; (try simp at hzz); first | omega | (simp; done) | (simp; omega)))) | (go_at_call 52; (with_reducible refine (FM.out _ (LAh.out.below (by (repeat' (first | (with_reducible exact Below.refl _ _) | (with_reducible exact K2) | (with_reducible exact K2.size) | (with_reducible refine Below.alloc ?_ ?_ _) | (with_reducible refine Below.setCell ?_ ?_ _) | (with_reducible refine below_drewN ?_ _) | (simp; done) | omega | (simp; omega)))))).mono ?_); rintro e w3 ⟨rfl, hb3⟩; have hc3 := (bcell hb3).1; have hf3 := (bcell hb3).2; have z3_0 : w.heap.size < w3.heap.size := (by have hzz := hb3.size; (try simp at hzz); omega); have z3_1 : w.heap.size + 1 < w3.heap.size := (by have hzz := hb3.size; (try simp at hzz); omega); have K3 : Below w.heap.size w w3 := Below.trans (b := _) (by (repeat' (first | (with_reducible exact Below.refl _ _) | (with_reducible exact K1) | (with_reducible exact K1.size) | (with_reducible exact K2) | (with_reducible exact K2.size) | (with_reducible refine Below.alloc ?_ ?_ _) | (with_reducible refine Below.setCell ?_ ?_ _) | (with_reducible refine below_drewN ?_ _) | (simp; done) | omega | (simp; omega)))) (hb3.mono (by have hzz := hb3.size; (try simp at hzz); first | omega | (simp; done) | (simp; omega)))))
    go_ret
    exact ⟨rfl, K3⟩
set_option maxHeartbeats 4000000 in
theorem r_vfm (K B F R O n d : Int) (w : World) : Calls Tryz.prog 21 #[T5 K B F R O, V2 n d] w (Ret (.string ⟨(vfm K B F R O n d).toArray⟩) w) := by
  have VA := Lib.hid fun w => r_va K B F R O n d w
  cases hv : vv K B F R O n d
  · rw [show vfm K B F R O n d = [] by unfold vfm; rw [if_pos hv]]
    rw [hv] at VA
    clear hv
    go_enter Tryz.func21, Tryz.ntmps21
    go_wp2_with (first | (go_at_call 40; (with_reducible refine (VA.out _).mono ?_); rintro e w1 ⟨rfl, hb1⟩; have hc1 := (bcell hb1).1; have hf1 := (bcell hb1).2; have z1_0 : w.heap.size < w1.heap.size := (by have hzz := hb1.size; (try simp at hzz); omega); have z1_1 : w.heap.size + 1 < w1.heap.size := (by have hzz := hb1.size; (try simp at hzz); omega); have K1 : Below w.heap.size w w1 := Below.trans (b := _) (by (repeat' (first | (with_reducible exact Below.refl _ _) | (with_reducible refine Below.alloc ?_ ?_ _) | (with_reducible refine Below.setCell ?_ ?_ _) | (with_reducible refine below_drewN ?_ _) | (simp; done) | omega | (simp; omega)))) (hb1.mono (by have hzz := hb1.size; (try simp at hzz); first | omega | (simp; done) | (simp; omega)))))
    go_ret
    exact ⟨rfl, K1⟩
  · rw [show vfm K B F R O n d = Tx.fmv (rat K F n d).1 (rat K F n d).2 by unfold vfm; rw [if_neg (by rw [hv]; decide)]]
    rw [hv] at VA
    have RA := Lib.hid fun w => r_value K B F R O n d w hv
    have FM := Lib.hid fun w => Tx.r_fmt (rat K F n d).1 (rat K F n d).2 w
    clear hv
    generalize (⟨(Tx.fmv (rat K F n d).1 (rat K F n d).2).toArray⟩ : ByteArray) = s at *
    generalize (rat K F n d).1 = x at *
    generalize (rat K F n d).2 = y at *
    go_enter Tryz.func21, Tryz.ntmps21
    go_wp2_with (first | (go_at_call 40; (with_reducible refine (VA.out _).mono ?_); rintro e w1 ⟨rfl, hb1⟩; have hc1 := (bcell hb1).1; have hf1 := (bcell hb1).2; have z1_0 : w.heap.size < w1.heap.size := (by have hzz := hb1.size; (try simp at hzz); omega); have z1_1 : w.heap.size + 1 < w1.heap.size := (by have hzz := hb1.size; (try simp at hzz); omega); have K1 : Below w.heap.size w w1 := Below.trans (b := _) (by (repeat' (first | (with_reducible exact Below.refl _ _) | (with_reducible refine Below.alloc ?_ ?_ _) | (with_reducible refine Below.setCell ?_ ?_ _) | (with_reducible refine below_drewN ?_ _) | (simp; done) | omega | (simp; omega)))) (hb1.mono (by have hzz := hb1.size; (try simp at hzz); first | omega | (simp; done) | (simp; omega)))) | (go_at_call 55; (with_reducible refine (RA.out _).mono ?_); rintro e w2 ⟨rfl, hb2⟩; have hc2 := (bcell hb2).1; have hf2 := (bcell hb2).2; have z2_0 : w.heap.size < w2.heap.size := (by have hzz := hb2.size; (try simp at hzz); omega); have z2_1 : w.heap.size + 1 < w2.heap.size := (by have hzz := hb2.size; (try simp at hzz); omega); have K2 : Below w.heap.size w w2 := Below.trans (b := _) (by (repeat' (first | (with_reducible exact Below.refl _ _) | (with_reducible exact K1) | (with_reducible exact K1.size) | (with_reducible refine Below.alloc ?_ ?_ _) | (with_reducible refine Below.setCell ?_ ?_ _) | (with_reducible refine below_drewN ?_ _) | (simp; done) | omega | (simp; omega)))) (hb2.mono (by have hzz := hb2.size; (try simp at hzz); first | omega | (simp; done) | (simp; omega)))) | (go_at_call 54; (with_reducible refine (FM.out _).mono ?_); rintro e w3 ⟨rfl, hb3⟩; have hc3 := (bcell hb3).1; have hf3 := (bcell hb3).2; have z3_0 : w.heap.size < w3.heap.size := (by have hzz := hb3.size; (try simp at hzz); omega); have z3_1 : w.heap.size + 1 < w3.heap.size := (by have hzz := hb3.size; (try simp at hzz); omega); have K3 : Below w.heap.size w w3 := Below.trans (b := _) (by (repeat' (first | (with_reducible exact Below.refl _ _) | (with_reducible exact K1) | (with_reducible exact K1.size) | (with_reducible exact K2) | (with_reducible exact K2.size) | (with_reducible refine Below.alloc ?_ ?_ _) | (with_reducible refine Below.setCell ?_ ?_ _) | (with_reducible refine below_drewN ?_ _) | (simp; done) | omega | (simp; omega)))) (hb3.mono (by have hzz := hb3.size; (try simp at hzz); first | omega | (simp; done) | (simp; omega)))))
    go_ret
    exact ⟨rfl, K3⟩

set_option maxRecDepth 100000 in
set_option maxHeartbeats 8000000 in
theorem c_vp (K B F R O : Int) (s : ByteArray) (w : World) (b0 : -9223372036854775808 ≤ B) (b1 : B ≤ 9223372036854775807) (hs : s.size ≤ 281474976710656) (hL : Tx.LA w) : Calls Tryz.prog 18 #[T5 K B F R O, .string s] w (Ret (F3 (vpv K B F R O s.data.toList)) w) := by
  have LAh := Lib.hid hL
  cases h : ty K B F R O
  · rw [show vpv K B F R O s.data.toList = (0, 0, 10) by unfold vpv; rw [if_pos h]]
    have VT := Lib.hid fun w => vtF h w
    clear h b0 b1 hL
    go_enter Tryz.func18, Tryz.ntmps18
    go_wp2_with (first | (go_at_call 24; (with_reducible refine (VT.out _).mono ?_); rintro e w1 ⟨rfl, hb1⟩; have hc1 := (bcell hb1).1; have hf1 := (bcell hb1).2; have z1_0 : w.heap.size < w1.heap.size := (by have hzz := hb1.size; (try simp at hzz); omega); have z1_1 : w.heap.size + 1 < w1.heap.size := (by have hzz := hb1.size; (try simp at hzz); omega); have K1 : Below w.heap.size w w1 := Below.trans (b := _) (by (repeat' (first | (with_reducible exact Below.refl _ _) | (with_reducible refine Below.alloc ?_ ?_ _) | (with_reducible refine Below.setCell ?_ ?_ _) | (with_reducible refine below_drewN ?_ _) | (simp; done) | omega | (simp; omega)))) (hb1.mono (by have hzz := hb1.size; (try simp at hzz); first | omega | (simp; done) | (simp; omega)))))
    refine bodyPost_ret (v := Frac3 0 0 10) (by simp [results, Tryz.results18, go_sem, hc1, hf1, z1_0, Nat.lt_succ_of_lt z1_0, Nat.ne_of_lt z1_0, Nat.ne_of_gt z1_0, z1_1, Nat.lt_succ_of_lt z1_1, Nat.ne_of_lt z1_1, Nat.ne_of_gt z1_1]) rfl ⟨rfl, ?_⟩; (repeat' (first | (with_reducible exact Below.refl _ _) | (with_reducible exact K1) | (with_reducible exact K1.size) | (with_reducible refine Below.alloc ?_ ?_ _) | (with_reducible refine Below.setCell ?_ ?_ _) | (with_reducible refine below_drewN ?_ _) | (simp; done) | omega | (simp; omega)))
  have VT := Lib.hid fun w => vtT h w
  have CP := Lib.hid fun w hw => Tx.c_parse s w hs hw

  have HV : Hid (∀ r : A3, (if (Tx.psv s.data.toList).2.2 ≠ 0 then (0, 0, (Tx.psv s.data.toList).2.2)
      else if K = 3 then (if (Tx.psv s.data.toList).2.1 ≠ 1 then (0, 0, 5) else Tx.psv s.data.toList)
      else if K = 2 then (if 2 ^ F.toNat % (Tx.psv s.data.toList).2.1 ≠ 0 then (0, 0, 5) else if fv K B F R O ((Tx.psv s.data.toList).1 * (2 ^ F.toNat / (Tx.psv s.data.toList).2.1)) 1 = false then (0, 0, 3) else ((Tx.psv s.data.toList).1 * (2 ^ F.toNat / (Tx.psv s.data.toList).2.1), 1, 0))
      else Tx.psv s.data.toList : A3) = r → vpv K B F R O s.data.toList = r) := Lib.hid fun r hr => by
    unfold vpv
    rw [if_neg (by rw [h]; decide)]
    exact hr
  have hok := @psv_ok s.data.toList (Tx.psv s.data.toList).1 (Tx.psv s.data.toList).2.1
  have herr := @psv_err s.data.toList
  obtain ⟨r, hr⟩ : ∃ r, Tx.psv s.data.toList = r := ⟨_, rfl⟩
  rw [hr] at CP HV hok herr
  obtain ⟨x, y, e⟩ := r
  dsimp only at HV hok herr
  clear hL hs
  by_cases he : e = 0
  · subst he
    replace hok := hok rfl
    obtain ⟨y0, y1, x0, x1, -⟩ := vld_parts hok
    rw [if_neg (by decide)] at HV
    by_cases k3 : K = 3
    · rw [if_pos k3] at HV
      have g3 : (K == 3) = true := by simpa using k3
      by_cases hy : y = 1
      · rw [if_neg (by omega)] at HV
        rw [HV.out _ rfl]
        have gy : (y != 1) = false := by simpa using hy
        clear h b0 b1 hr hok herr HV k3 hy y0 y1 x0 x1
        go_enter Tryz.func18, Tryz.ntmps18
        go_wp2_with (first | (go_at_call 24; (with_reducible refine (VT.out _).mono ?_); rintro e w1 ⟨rfl, hb1⟩; have hc1 := (bcell hb1).1; have hf1 := (bcell hb1).2; have z1_0 : w.heap.size < w1.heap.size := (by have hzz := hb1.size; (try simp at hzz); omega); have z1_1 : w.heap.size + 1 < w1.heap.size := (by have hzz := hb1.size; (try simp at hzz); omega); have K1 : Below w.heap.size w w1 := Below.trans (b := _) (by (repeat' (first | (with_reducible exact Below.refl _ _) | (with_reducible refine Below.alloc ?_ ?_ _) | (with_reducible refine Below.setCell ?_ ?_ _) | (with_reducible refine below_drewN ?_ _) | (simp; done) | omega | (simp; omega)))) (hb1.mono (by have hzz := hb1.size; (try simp at hzz); first | omega | (simp; done) | (simp; omega)))) | (go_at_call 48; (with_reducible refine (CP.out _ (LAh.out.below (by (repeat' (first | (with_reducible exact Below.refl _ _) | (with_reducible exact K1) | (with_reducible exact K1.size) | (with_reducible refine Below.alloc ?_ ?_ _) | (with_reducible refine Below.setCell ?_ ?_ _) | (with_reducible refine below_drewN ?_ _) | (simp; done) | omega | (simp; omega)))))).mono ?_); rintro e w2 ⟨rfl, hb2⟩; have hc2 := (bcell hb2).1; have hf2 := (bcell hb2).2; have z2_0 : w.heap.size < w2.heap.size := (by have hzz := hb2.size; (try simp at hzz); omega); have z2_1 : w.heap.size + 1 < w2.heap.size := (by have hzz := hb2.size; (try simp at hzz); omega); have K2 : Below w.heap.size w w2 := Below.trans (b := _) (by (repeat' (first | (with_reducible exact Below.refl _ _) | (with_reducible exact K1) | (with_reducible exact K1.size) | (with_reducible refine Below.alloc ?_ ?_ _) | (with_reducible refine Below.setCell ?_ ?_ _) | (with_reducible refine below_drewN ?_ _) | (simp; done) | omega | (simp; omega)))) (hb2.mono (by have hzz := hb2.size; (try simp at hzz); first | omega | (simp; done) | (simp; omega)))))
        refine bodyPost_ret (v := Frac3 x y 0) (by simp [results, Tryz.results18, go_sem, hc1, hf1, hc2, hf2, z1_0, Nat.lt_succ_of_lt z1_0, Nat.ne_of_lt z1_0, Nat.ne_of_gt z1_0, z1_1, Nat.lt_succ_of_lt z1_1, Nat.ne_of_lt z1_1, Nat.ne_of_gt z1_1, z2_0, Nat.lt_succ_of_lt z2_0, Nat.ne_of_lt z2_0, Nat.ne_of_gt z2_0, z2_1, Nat.lt_succ_of_lt z2_1, Nat.ne_of_lt z2_1, Nat.ne_of_gt z2_1, Nat.lt_succ_of_lt z2_0, Nat.lt_succ_of_lt z2_1]) rfl ⟨rfl, ?_⟩; (repeat' (first | (with_reducible exact Below.refl _ _) | (with_reducible exact K1) | (with_reducible exact K1.size) | (with_reducible exact K2) | (with_reducible exact K2.size) | (with_reducible refine Below.alloc ?_ ?_ _) | (with_reducible refine Below.setCell ?_ ?_ _) | (with_reducible refine below_drewN ?_ _) | (simp; done) | omega | (simp; omega)))
      · rw [if_pos hy] at HV
        rw [HV.out _ rfl]
        have gy : (y != 1) = true := by simpa using hy
        clear h b0 b1 hr hok herr HV k3 hy y0 y1 x0 x1
        go_enter Tryz.func18, Tryz.ntmps18
        go_wp2_with (first | (go_at_call 24; (with_reducible refine (VT.out _).mono ?_); rintro e w1 ⟨rfl, hb1⟩; have hc1 := (bcell hb1).1; have hf1 := (bcell hb1).2; have z1_0 : w.heap.size < w1.heap.size := (by have hzz := hb1.size; (try simp at hzz); omega); have z1_1 : w.heap.size + 1 < w1.heap.size := (by have hzz := hb1.size; (try simp at hzz); omega); have K1 : Below w.heap.size w w1 := Below.trans (b := _) (by (repeat' (first | (with_reducible exact Below.refl _ _) | (with_reducible refine Below.alloc ?_ ?_ _) | (with_reducible refine Below.setCell ?_ ?_ _) | (with_reducible refine below_drewN ?_ _) | (simp; done) | omega | (simp; omega)))) (hb1.mono (by have hzz := hb1.size; (try simp at hzz); first | omega | (simp; done) | (simp; omega)))) | (go_at_call 48; (with_reducible refine (CP.out _ (LAh.out.below (by (repeat' (first | (with_reducible exact Below.refl _ _) | (with_reducible exact K1) | (with_reducible exact K1.size) | (with_reducible refine Below.alloc ?_ ?_ _) | (with_reducible refine Below.setCell ?_ ?_ _) | (with_reducible refine below_drewN ?_ _) | (simp; done) | omega | (simp; omega)))))).mono ?_); rintro e w2 ⟨rfl, hb2⟩; have hc2 := (bcell hb2).1; have hf2 := (bcell hb2).2; have z2_0 : w.heap.size < w2.heap.size := (by have hzz := hb2.size; (try simp at hzz); omega); have z2_1 : w.heap.size + 1 < w2.heap.size := (by have hzz := hb2.size; (try simp at hzz); omega); have K2 : Below w.heap.size w w2 := Below.trans (b := _) (by (repeat' (first | (with_reducible exact Below.refl _ _) | (with_reducible exact K1) | (with_reducible exact K1.size) | (with_reducible refine Below.alloc ?_ ?_ _) | (with_reducible refine Below.setCell ?_ ?_ _) | (with_reducible refine below_drewN ?_ _) | (simp; done) | omega | (simp; omega)))) (hb2.mono (by have hzz := hb2.size; (try simp at hzz); first | omega | (simp; done) | (simp; omega)))))
        refine bodyPost_ret (v := Frac3 0 0 5) (by simp [results, Tryz.results18, go_sem, hc1, hf1, hc2, hf2, z1_0, Nat.lt_succ_of_lt z1_0, Nat.ne_of_lt z1_0, Nat.ne_of_gt z1_0, z1_1, Nat.lt_succ_of_lt z1_1, Nat.ne_of_lt z1_1, Nat.ne_of_gt z1_1, z2_0, Nat.lt_succ_of_lt z2_0, Nat.ne_of_lt z2_0, Nat.ne_of_gt z2_0, z2_1, Nat.lt_succ_of_lt z2_1, Nat.ne_of_lt z2_1, Nat.ne_of_gt z2_1, Nat.lt_succ_of_lt z2_0, Nat.lt_succ_of_lt z2_1]) rfl ⟨rfl, ?_⟩; (repeat' (first | (with_reducible exact Below.refl _ _) | (with_reducible exact K1) | (with_reducible exact K1.size) | (with_reducible exact K2) | (with_reducible exact K2.size) | (with_reducible refine Below.alloc ?_ ?_ _) | (with_reducible refine Below.setCell ?_ ?_ _) | (with_reducible refine below_drewN ?_ _) | (simp; done) | omega | (simp; omega)))
    rw [if_neg k3] at HV
    have g3 : (K == 3) = false := by simpa using k3
    by_cases k2 : K = 2
    · rw [if_pos k2] at HV
      have g2 : (K == 2) = true := by simpa using k2
      have htv : tv K B F R O = true := by
        rcases ty_cases K B F R O with ⟨_, h | h⟩ | ⟨h', _⟩
        · exact h.2
        · omega
        · rw [h'] at h; cases h
      obtain ⟨-, q2, q3, f0, f1, -, -, -⟩ := tv_parts htv
      obtain ⟨p0, p1⟩ := two_pow F f0 f1
      have VA := Lib.hid fun T w => fval K B F R O T 1 w b0 b1
      obtain ⟨p, hp⟩ : ∃ p, (2 : Int) ^ F.toNat = p := ⟨_, rfl⟩
      rw [hp] at p0 p1 HV
      obtain ⟨m, hm⟩ : ∃ m, p % y = m := ⟨_, rfl⟩
      obtain ⟨k, hk⟩ : ∃ k, p / y = k := ⟨_, rfl⟩
      have k0 : 0 ≤ k := by rw [← hk]; exact Int.ediv_nonneg (by omega) (by omega)
      have k1 : k ≤ 1073741824 := by rw [← hk]; exact Int.le_trans (Int.ediv_le_self _ (by omega)) p1
      rw [hm, hk] at HV
      obtain ⟨T0, T1⟩ := pb x k (by omega) (by omega)
      obtain ⟨T, hT⟩ : ∃ T, x * k = T := ⟨_, rfl⟩
      rw [hT] at HV T0 T1
      have HP := Lib.hid hp
      have HM := Lib.hid hm
      have HK := Lib.hid hk
      have HT := Lib.hid hT
      have gz : (y == 0) = false := by simp; omega
      clear hp hm hk hT
      by_cases hm0 : m = 0
      · rw [if_neg (by omega)] at HV
        have gm : (m != 0) = false := by simpa using hm0
        replace VA := Lib.hid fun w => VA.out T w
        clear h b0 b1 hr hok herr k3 k2 htv q2 q3 hm0
        cases hf : fv K B F R O T 1
        all_goals
          rw [hf] at VA
          first | rw [HV.out (0, 0, 3) (by rw [if_pos hf])] | rw [HV.out (T, 1, 0) (by rw [if_neg (by rw [hf]; decide)])]
          clear HV hf
          go_enter Tryz.func18, Tryz.ntmps18
          have hp := HP.out
          have hm := HM.out
          go_wp2_with (first | (go_at_call 24; (with_reducible refine (VT.out _).mono ?_); rintro e w1 ⟨rfl, hb1⟩; have hc1 := (bcell hb1).1; have hf1 := (bcell hb1).2; have z1_0 : w.heap.size < w1.heap.size := (by have hzz := hb1.size; (try simp at hzz); omega); have z1_1 : w.heap.size + 1 < w1.heap.size := (by have hzz := hb1.size; (try simp at hzz); omega); have K1 : Below w.heap.size w w1 := Below.trans (b := _) (by (repeat' (first | (with_reducible exact Below.refl _ _) | (with_reducible refine Below.alloc ?_ ?_ _) | (with_reducible refine Below.setCell ?_ ?_ _) | (with_reducible refine below_drewN ?_ _) | (simp; done) | omega | (simp; omega)))) (hb1.mono (by have hzz := hb1.size; (try simp at hzz); first | omega | (simp; done) | (simp; omega)))) | (go_at_call 48; (with_reducible refine (CP.out _ (LAh.out.below (by (repeat' (first | (with_reducible exact Below.refl _ _) | (with_reducible exact K1) | (with_reducible exact K1.size) | (with_reducible refine Below.alloc ?_ ?_ _) | (with_reducible refine Below.setCell ?_ ?_ _) | (with_reducible refine below_drewN ?_ _) | (simp; done) | omega | (simp; omega)))))).mono ?_); rintro e w2 ⟨rfl, hb2⟩; have hc2 := (bcell hb2).1; have hf2 := (bcell hb2).2; have z2_0 : w.heap.size < w2.heap.size := (by have hzz := hb2.size; (try simp at hzz); omega); have z2_1 : w.heap.size + 1 < w2.heap.size := (by have hzz := hb2.size; (try simp at hzz); omega); have K2 : Below w.heap.size w w2 := Below.trans (b := _) (by (repeat' (first | (with_reducible exact Below.refl _ _) | (with_reducible exact K1) | (with_reducible exact K1.size) | (with_reducible refine Below.alloc ?_ ?_ _) | (with_reducible refine Below.setCell ?_ ?_ _) | (with_reducible refine below_drewN ?_ _) | (simp; done) | omega | (simp; omega)))) (hb2.mono (by have hzz := hb2.size; (try simp at hzz); first | omega | (simp; done) | (simp; omega)))))
          clear hp hm gm
          have hy0 : ¬ y = 0 := by omega
          have hk : IntKind.i64.wrap (p.tdiv y) = k := by rw [Int.tdiv_eq_ediv_of_nonneg (by omega), HK.out]; exact IntWalk.i64_in _ (by omega)
          have hT : IntKind.i64.wrap (x * k) = T := by rw [HT.out]; exact IntWalk.i64_in _ (by omega)
          have hbz : Below w2.heap.size w2 (w2.alloc (.cells #[.int .i64 x, .int .i64 y] 25)) := (Below.refl _ _).alloc (Nat.le_refl _) _
          have hz : (w2.alloc (.cells #[.int .i64 x, .int .i64 y] 25)).cell? ⟨w.heap.size, 0, none⟩ = some (.int .i64 K) ∧ (w2.alloc (.cells #[.int .i64 x, .int .i64 y] 25)).cell? ⟨w.heap.size, 1, none⟩ = some (.int .i64 B) ∧ (w2.alloc (.cells #[.int .i64 x, .int .i64 y] 25)).cell? ⟨w.heap.size, 2, none⟩ = some (.int .i64 F) ∧ (w2.alloc (.cells #[.int .i64 x, .int .i64 y] 25)).cell? ⟨w.heap.size, 3, none⟩ = some (.int .i64 R) ∧ (w2.alloc (.cells #[.int .i64 x, .int .i64 y] 25)).cell? ⟨w.heap.size, 4, none⟩ = some (.int .i64 O) ∧ (w2.alloc (.cells #[.int .i64 x, .int .i64 y] 25)).cell? ⟨w.heap.size + 1, 0, none⟩ = some (.int .i64 0) ∧ (w2.alloc (.cells #[.int .i64 x, .int .i64 y] 25)).cell? ⟨w.heap.size + 1, 1, none⟩ = some (.int .i64 0) ∧ (w2.alloc (.cells #[.int .i64 x, .int .i64 y] 25)).cell? ⟨w2.heap.size, 0, none⟩ = some (.int .i64 x) ∧ (w2.alloc (.cells #[.int .i64 x, .int .i64 y] 25)).cell? ⟨w2.heap.size, 1, none⟩ = some (.int .i64 y) ∧ (w2.alloc (.cells #[.int .i64 x, .int .i64 y] 25)).frozen? ⟨w.heap.size + 1, 0, none⟩ = false ∧ (w2.alloc (.cells #[.int .i64 x, .int .i64 y] 25)).frozen? ⟨w.heap.size + 1, 1, none⟩ = false ∧ (w2.alloc (.cells #[.int .i64 x, .int .i64 y] 25)).frozen? ⟨w2.heap.size, 0, none⟩ = false ∧ (w2.alloc (.cells #[.int .i64 x, .int .i64 y] 25)).frozen? ⟨w2.heap.size, 1, none⟩ = false ∧ Below w.heap.size w (w2.alloc (.cells #[.int .i64 x, .int .i64 y] 25)) := ⟨Rg.keep hbz z2_0 (Rg.keep hb2 z1_0 (Rg.keep hb1 (by simp <;> omega) (by go_cell))), Rg.keep hbz z2_0 (Rg.keep hb2 z1_0 (Rg.keep hb1 (by simp <;> omega) (by go_cell))), Rg.keep hbz z2_0 (Rg.keep hb2 z1_0 (Rg.keep hb1 (by simp <;> omega) (by go_cell))), Rg.keep hbz z2_0 (Rg.keep hb2 z1_0 (Rg.keep hb1 (by simp <;> omega) (by go_cell))), Rg.keep hbz z2_0 (Rg.keep hb2 z1_0 (Rg.keep hb1 (by simp <;> omega) (by go_cell))), Rg.keep hbz z2_1 (Rg.keep hb2 z1_1 (Rg.keep hb1 (by simp <;> omega) (by go_cell))), Rg.keep hbz z2_1 (Rg.keep hb2 z1_1 (Rg.keep hb1 (by simp <;> omega) (by go_cell))), (by go_cell), (by go_cell), Rg.keepF hbz z2_1 (Rg.keepF hb2 z1_1 (Rg.keepF hb1 (by simp <;> omega) (by simp only [frozen?_alloc_cells]; exact Rg.notFrozen (by omega)))), Rg.keepF hbz z2_1 (Rg.keepF hb2 z1_1 (Rg.keepF hb1 (by simp <;> omega) (by simp only [frozen?_alloc_cells]; exact Rg.notFrozen (by omega)))), by simp only [frozen?_alloc_cells]; exact Rg.notFrozen (Nat.le_refl _), by simp only [frozen?_alloc_cells]; exact Rg.notFrozen (Nat.le_refl _), K2.trans (hbz.mono (Nat.le_of_lt z2_0))⟩
          generalize (w2.alloc (.cells #[.int .i64 x, .int .i64 y] 25)) = z at *
          have HS : Hid (∀ u u' : World, (u.cell? ⟨w.heap.size, 0, none⟩ = some (.int .i64 K) ∧ u.cell? ⟨w.heap.size, 1, none⟩ = some (.int .i64 B) ∧ u.cell? ⟨w.heap.size, 2, none⟩ = some (.int .i64 F) ∧ u.cell? ⟨w.heap.size, 3, none⟩ = some (.int .i64 R) ∧ u.cell? ⟨w.heap.size, 4, none⟩ = some (.int .i64 O) ∧ u.cell? ⟨w.heap.size + 1, 0, none⟩ = some (.int .i64 0) ∧ u.cell? ⟨w.heap.size + 1, 1, none⟩ = some (.int .i64 0) ∧ u.cell? ⟨w2.heap.size, 0, none⟩ = some (.int .i64 x) ∧ u.cell? ⟨w2.heap.size, 1, none⟩ = some (.int .i64 y) ∧ u.frozen? ⟨w.heap.size + 1, 0, none⟩ = false ∧ u.frozen? ⟨w.heap.size + 1, 1, none⟩ = false ∧ u.frozen? ⟨w2.heap.size, 0, none⟩ = false ∧ u.frozen? ⟨w2.heap.size, 1, none⟩ = false ∧ Below w.heap.size w u) → Below u.heap.size u u' → (u'.cell? ⟨w.heap.size, 0, none⟩ = some (.int .i64 K) ∧ u'.cell? ⟨w.heap.size, 1, none⟩ = some (.int .i64 B) ∧ u'.cell? ⟨w.heap.size, 2, none⟩ = some (.int .i64 F) ∧ u'.cell? ⟨w.heap.size, 3, none⟩ = some (.int .i64 R) ∧ u'.cell? ⟨w.heap.size, 4, none⟩ = some (.int .i64 O) ∧ u'.cell? ⟨w.heap.size + 1, 0, none⟩ = some (.int .i64 0) ∧ u'.cell? ⟨w.heap.size + 1, 1, none⟩ = some (.int .i64 0) ∧ u'.cell? ⟨w2.heap.size, 0, none⟩ = some (.int .i64 x) ∧ u'.cell? ⟨w2.heap.size, 1, none⟩ = some (.int .i64 y) ∧ u'.frozen? ⟨w.heap.size + 1, 0, none⟩ = false ∧ u'.frozen? ⟨w.heap.size + 1, 1, none⟩ = false ∧ u'.frozen? ⟨w2.heap.size, 0, none⟩ = false ∧ u'.frozen? ⟨w2.heap.size, 1, none⟩ = false ∧ Below w.heap.size w u')) := Lib.hid (fun u u' h hb => ⟨Rg.keep hb (World.block_lt_of_cell? _ _ h.1) h.1, Rg.keep hb (World.block_lt_of_cell? _ _ h.2.1) h.2.1, Rg.keep hb (World.block_lt_of_cell? _ _ h.2.2.1) h.2.2.1, Rg.keep hb (World.block_lt_of_cell? _ _ h.2.2.2.1) h.2.2.2.1, Rg.keep hb (World.block_lt_of_cell? _ _ h.2.2.2.2.1) h.2.2.2.2.1, Rg.keep hb (World.block_lt_of_cell? _ _ h.2.2.2.2.2.1) h.2.2.2.2.2.1, Rg.keep hb (World.block_lt_of_cell? _ _ h.2.2.2.2.2.2.1) h.2.2.2.2.2.2.1, Rg.keep hb (World.block_lt_of_cell? _ _ h.2.2.2.2.2.2.2.1) h.2.2.2.2.2.2.2.1, Rg.keep hb (World.block_lt_of_cell? _ _ h.2.2.2.2.2.2.2.2.1) h.2.2.2.2.2.2.2.2.1, Rg.keepF hb (World.block_lt_of_cell? _ _ h.2.2.2.2.2.1) h.2.2.2.2.2.2.2.2.2.1, Rg.keepF hb (World.block_lt_of_cell? _ _ h.2.2.2.2.2.1) h.2.2.2.2.2.2.2.2.2.2.1, Rg.keepF hb (World.block_lt_of_cell? _ _ h.2.2.2.2.2.2.2.1) h.2.2.2.2.2.2.2.2.2.2.2.1, Rg.keepF hb (World.block_lt_of_cell? _ _ h.2.2.2.2.2.2.2.1) h.2.2.2.2.2.2.2.2.2.2.2.2.1, h.2.2.2.2.2.2.2.2.2.2.2.2.2.trans (hb.mono h.2.2.2.2.2.2.2.2.2.2.2.2.2.size)⟩)
          refine Rk.begin (S := fun wS => wS.cell? ⟨w.heap.size, 0, none⟩ = some (.int .i64 K) ∧ wS.cell? ⟨w.heap.size, 1, none⟩ = some (.int .i64 B) ∧ wS.cell? ⟨w.heap.size, 2, none⟩ = some (.int .i64 F) ∧ wS.cell? ⟨w.heap.size, 3, none⟩ = some (.int .i64 R) ∧ wS.cell? ⟨w.heap.size, 4, none⟩ = some (.int .i64 O) ∧ wS.cell? ⟨w.heap.size + 1, 0, none⟩ = some (.int .i64 0) ∧ wS.cell? ⟨w.heap.size + 1, 1, none⟩ = some (.int .i64 0) ∧ wS.cell? ⟨w2.heap.size, 0, none⟩ = some (.int .i64 x) ∧ wS.cell? ⟨w2.heap.size, 1, none⟩ = some (.int .i64 y) ∧ wS.frozen? ⟨w.heap.size + 1, 0, none⟩ = false ∧ wS.frozen? ⟨w.heap.size + 1, 1, none⟩ = false ∧ wS.frozen? ⟨w2.heap.size, 0, none⟩ = false ∧ wS.frozen? ⟨w2.heap.size, 1, none⟩ = false ∧ Below w.heap.size w wS) 8 (by kernel_rfl) (HS.out _ _ hz (Below.drew (Below.refl _ _))) (fun hHeld => ?_)
          refine Rk.takeP (i := 0) (v := ?_) rfl (by kernel_rfl) (by kernel_rfl) (by kernel_rfl) (by kernel_rfl) (fun _ _ _ h => h) (Or.inl ⟨by kernel_rfl, ?_⟩) (by assumption) ?_
          rotate_left
          · ((intro w hSw; go_simp) <;> with_reducible rfl)
          try simp only [Act.put, List.setIfInBounds_toArray, List.set_cons_zero, List.set_cons_succ]
          refine Rk.take [8] (i := 1) (v := ?_) rfl (by kernel_rfl) (by kernel_rfl) (by kernel_rfl) (by kernel_rfl) (by kernel_rfl) (fun _ _ _ h => h) (Or.inl ⟨by kernel_rfl, ?_⟩) (by assumption) ?_
          rotate_left
          · ((intro w hSw; (try dsimp only at hSw); go_simp) <;> with_reducible rfl)
          try simp only [Act.put, List.setIfInBounds_toArray, List.set_cons_zero, List.set_cons_succ]
          refine Rk.takeP (i := 2) (v := ?_) rfl (by kernel_rfl) (by kernel_rfl) (by kernel_rfl) (by kernel_rfl) (fun _ _ _ h => h) (Or.inl ⟨by kernel_rfl, ?_⟩) (by assumption) ?_
          rotate_left
          · ((intro w hSw; go_simp) <;> with_reducible rfl)
          try simp only [Act.put, List.setIfInBounds_toArray, List.set_cons_zero, List.set_cons_succ]
          refine Rk.takeP (i := 3) (v := ?_) rfl (by kernel_rfl) (by kernel_rfl) (by kernel_rfl) (by kernel_rfl) (fun _ _ _ h => h) (Or.inl ⟨by kernel_rfl, ?_⟩) (by assumption) ?_
          rotate_left
          · ((intro w hSw; go_simp) <;> with_reducible rfl)
          try simp only [Act.put, List.setIfInBounds_toArray, List.set_cons_zero, List.set_cons_succ]
          refine Rk.take [8] (i := 4) (v := ?_) rfl (by kernel_rfl) (by kernel_rfl) (by kernel_rfl) (by kernel_rfl) (by kernel_rfl) (fun _ _ _ h => h) (Or.inl ⟨by kernel_rfl, ?_⟩) (by assumption) ?_
          rotate_left
          · ((intro w hSw; (try dsimp only at hSw); go_simp) <;> with_reducible rfl)
          try simp only [Act.put, List.setIfInBounds_toArray, List.set_cons_zero, List.set_cons_succ]
          refine Rk.takeP (i := 5) (v := ?_) rfl (by kernel_rfl) (by kernel_rfl) (by kernel_rfl) (by kernel_rfl) (fun _ _ _ h => h) (Or.inl ⟨by kernel_rfl, ?_⟩) (by assumption) ?_
          rotate_left
          · ((intro w hSw; go_simp) <;> with_reducible rfl)
          try simp only [Act.put, List.setIfInBounds_toArray, List.set_cons_zero, List.set_cons_succ]
          refine Rk.takeP (i := 6) (v := ?_) rfl (by kernel_rfl) (by kernel_rfl) (by kernel_rfl) (by kernel_rfl) (fun _ _ _ h => h) (Or.inl ⟨by kernel_rfl, ?_⟩) (by assumption) ?_
          rotate_left
          · ((intro w hSw; go_simp) <;> with_reducible rfl)
          try simp only [Act.put, List.setIfInBounds_toArray, List.set_cons_zero, List.set_cons_succ]
          refine Rk.takeP (i := 7) (v := ?_) rfl (by kernel_rfl) (by kernel_rfl) (by kernel_rfl) (by kernel_rfl) (fun _ _ _ h => h) (Or.inl ⟨by kernel_rfl, ?_⟩) (by assumption) ?_
          rotate_left
          · ((intro w hSw; go_simp) <;> with_reducible rfl)
          try simp only [Act.put, List.setIfInBounds_toArray, List.set_cons_zero, List.set_cons_succ]
          refine Rk.tail [8] [_] (by kernel_rfl) (by kernel_rfl) rfl (by decide) ?_
          obtain ⟨t0, t1, t2, t3, t4, r0, r1, x0, x1, fr0, fr1, fx0, fx1, K9⟩ := hHeld
          clear hz HS hk hT hy0
          generalize z.drew = yw at *
          have n0 : w2.heap.size ≠ w.heap.size := by omega
          have n1 : w2.heap.size ≠ w.heap.size + 1 := by omega
          have lx : w2.heap.size < yw.heap.size := World.block_lt_of_cell? _ _ x0
          have lr : w.heap.size + 1 < yw.heap.size := World.block_lt_of_cell? _ _ r0
          go_wp2_with fail
          have hRX : Rg.RC w2.heap.size yw := Rg.RC.mk x0 x1 fx0 fx1
          have hRR : Rg.RC (w.heap.size + 1) yw := Rg.RC.mk r0 r1 fr0 fr1
          have hRS := Rg.RC.store (x := T) (y := 1) hRX
          have hRF := Rg.RC.far (r := w2.heap.size) (x := .int .i64 T) (y := .int .i64 1) n1 hRR
          have s0 : ((yw.setCell ⟨w2.heap.size, 0, none⟩ (.int .i64 T)).setCell ⟨w2.heap.size, 1, none⟩ (.int .i64 1)).cell? ⟨w.heap.size + 1, 0, none⟩ = some (.int .i64 0) := Rg.far n1 r0
          have s1 : ((yw.setCell ⟨w2.heap.size, 0, none⟩ (.int .i64 T)).setCell ⟨w2.heap.size, 1, none⟩ (.int .i64 1)).cell? ⟨w.heap.size + 1, 1, none⟩ = some (.int .i64 0) := Rg.far n1 r1
          have s2 : ((yw.setCell ⟨w2.heap.size, 0, none⟩ (.int .i64 T)).setCell ⟨w2.heap.size, 1, none⟩ (.int .i64 1)).cell? ⟨w2.heap.size, 0, none⟩ = some (.int .i64 T) := Rg.RC.read0 hRX
          have s3 : ((yw.setCell ⟨w2.heap.size, 0, none⟩ (.int .i64 T)).setCell ⟨w2.heap.size, 1, none⟩ (.int .i64 1)).cell? ⟨w2.heap.size, 1, none⟩ = some (.int .i64 1) := Rg.RC.read1 hRX
          have s4 := hRF.2.2.1
          have s5 := hRF.2.2.2
          have KS : Below w.heap.size w ((yw.setCell ⟨w2.heap.size, 0, none⟩ (.int .i64 T)).setCell ⟨w2.heap.size, 1, none⟩ (.int .i64 1)) := Below.setCell (Below.setCell K9 (by dsimp only; omega) _) (by dsimp only; omega) _
          clear t0 t1 t2 t3 t4 r0 r1 x0 x1 fr0 fr1 fx0 fx1 K9 hRX hRR hRS hRF lx lr
          generalize ((yw.setCell ⟨w2.heap.size, 0, none⟩ (.int .i64 T)).setCell ⟨w2.heap.size, 1, none⟩ (.int .i64 1)) = sw at *
          refine (VA.out _).mono ?_
          rintro e w6 ⟨rfl, hb6⟩
          have l1 : w.heap.size + 1 < sw.heap.size := World.block_lt_of_cell? _ _ s0
          have l2 : w2.heap.size < sw.heap.size := World.block_lt_of_cell? _ _ s2
          have s4 := Rg.keepF hb6 l1 s4
          have s5 := Rg.keepF hb6 l1 s5
          have s0 := Rg.keep hb6 l1 s0
          have s1 := Rg.keep hb6 l1 s1
          have s2 := Rg.keep hb6 l2 s2
          have s3 := Rg.keep hb6 l2 s3
          have l1 := Nat.lt_of_lt_of_le l1 hb6.size
          have l2 := Nat.lt_of_lt_of_le l2 hb6.size
          have K6 := KS.trans (hb6.mono KS.size)
          clear hb6 KS
          go_wp2
          first | (refine bodyPost_ret (v := Frac3 0 0 3) (by simp [results, Tryz.results18, go_sem, s0, s1, s2, s3, s4, s5, l1, l2]) rfl ⟨rfl, ?_⟩; (repeat' (first | (with_reducible exact Below.refl _ _) | (with_reducible exact K6) | (with_reducible exact K6.size) | (with_reducible refine Below.alloc ?_ ?_ _) | (with_reducible refine Below.setCell ?_ ?_ _) | (with_reducible refine below_drewN ?_ _) | (simp; done) | omega | (simp; omega)))) | (refine bodyPost_ret (v := Frac3 T 1 0) (by simp [results, Tryz.results18, go_sem, s0, s1, s2, s3, s4, s5, l1, l2]) rfl ⟨rfl, ?_⟩; (repeat' (first | (with_reducible exact Below.refl _ _) | (with_reducible exact K6) | (with_reducible exact K6.size) | (with_reducible refine Below.alloc ?_ ?_ _) | (with_reducible refine Below.setCell ?_ ?_ _) | (with_reducible refine below_drewN ?_ _) | (simp; done) | omega | (simp; omega))))
      · rw [if_pos hm0] at HV
        rw [HV.out _ rfl]
        have gm : (m != 0) = true := by simpa using hm0
        clear h b0 b1 hr hok herr HV k3 k2 htv q2 q3 hm0 VA HK HT
        go_enter Tryz.func18, Tryz.ntmps18
        have hp := HP.out
        have hm := HM.out
        go_wp2_with (first | (go_at_call 24; (with_reducible refine (VT.out _).mono ?_); rintro e w1 ⟨rfl, hb1⟩; have hc1 := (bcell hb1).1; have hf1 := (bcell hb1).2; have z1_0 : w.heap.size < w1.heap.size := (by have hzz := hb1.size; (try simp at hzz); omega); have z1_1 : w.heap.size + 1 < w1.heap.size := (by have hzz := hb1.size; (try simp at hzz); omega); have K1 : Below w.heap.size w w1 := Below.trans (b := _) (by (repeat' (first | (with_reducible exact Below.refl _ _) | (with_reducible refine Below.alloc ?_ ?_ _) | (with_reducible refine Below.setCell ?_ ?_ _) | (with_reducible refine below_drewN ?_ _) | (simp; done) | omega | (simp; omega)))) (hb1.mono (by have hzz := hb1.size; (try simp at hzz); first | omega | (simp; done) | (simp; omega)))) | (go_at_call 48; (with_reducible refine (CP.out _ (LAh.out.below (by (repeat' (first | (with_reducible exact Below.refl _ _) | (with_reducible exact K1) | (with_reducible exact K1.size) | (with_reducible refine Below.alloc ?_ ?_ _) | (with_reducible refine Below.setCell ?_ ?_ _) | (with_reducible refine below_drewN ?_ _) | (simp; done) | omega | (simp; omega)))))).mono ?_); rintro e w2 ⟨rfl, hb2⟩; have hc2 := (bcell hb2).1; have hf2 := (bcell hb2).2; have z2_0 : w.heap.size < w2.heap.size := (by have hzz := hb2.size; (try simp at hzz); omega); have z2_1 : w.heap.size + 1 < w2.heap.size := (by have hzz := hb2.size; (try simp at hzz); omega); have K2 : Below w.heap.size w w2 := Below.trans (b := _) (by (repeat' (first | (with_reducible exact Below.refl _ _) | (with_reducible exact K1) | (with_reducible exact K1.size) | (with_reducible refine Below.alloc ?_ ?_ _) | (with_reducible refine Below.setCell ?_ ?_ _) | (with_reducible refine below_drewN ?_ _) | (simp; done) | omega | (simp; omega)))) (hb2.mono (by have hzz := hb2.size; (try simp at hzz); first | omega | (simp; done) | (simp; omega)))))
        refine bodyPost_ret (v := Frac3 0 0 5) (by simp [results, Tryz.results18, go_sem, hc1, hf1, hc2, hf2, z1_0, Nat.lt_succ_of_lt z1_0, Nat.ne_of_lt z1_0, Nat.ne_of_gt z1_0, z1_1, Nat.lt_succ_of_lt z1_1, Nat.ne_of_lt z1_1, Nat.ne_of_gt z1_1, z2_0, Nat.lt_succ_of_lt z2_0, Nat.ne_of_lt z2_0, Nat.ne_of_gt z2_0, z2_1, Nat.lt_succ_of_lt z2_1, Nat.ne_of_lt z2_1, Nat.ne_of_gt z2_1, Nat.lt_succ_of_lt z2_0, Nat.lt_succ_of_lt z2_1]) rfl ⟨rfl, ?_⟩; (repeat' (first | (with_reducible exact Below.refl _ _) | (with_reducible exact K1) | (with_reducible exact K1.size) | (with_reducible exact K2) | (with_reducible exact K2.size) | (with_reducible refine Below.alloc ?_ ?_ _) | (with_reducible refine Below.setCell ?_ ?_ _) | (with_reducible refine below_drewN ?_ _) | (simp; done) | omega | (simp; omega)))
    · rw [if_neg k2] at HV
      rw [HV.out _ rfl]
      have g2 : (K == 2) = false := by simpa using k2
      clear h b0 b1 hr hok herr HV k3 k2 y0 y1 x0 x1
      go_enter Tryz.func18, Tryz.ntmps18
      go_wp2_with (first | (go_at_call 24; (with_reducible refine (VT.out _).mono ?_); rintro e w1 ⟨rfl, hb1⟩; have hc1 := (bcell hb1).1; have hf1 := (bcell hb1).2; have z1_0 : w.heap.size < w1.heap.size := (by have hzz := hb1.size; (try simp at hzz); omega); have z1_1 : w.heap.size + 1 < w1.heap.size := (by have hzz := hb1.size; (try simp at hzz); omega); have K1 : Below w.heap.size w w1 := Below.trans (b := _) (by (repeat' (first | (with_reducible exact Below.refl _ _) | (with_reducible refine Below.alloc ?_ ?_ _) | (with_reducible refine Below.setCell ?_ ?_ _) | (with_reducible refine below_drewN ?_ _) | (simp; done) | omega | (simp; omega)))) (hb1.mono (by have hzz := hb1.size; (try simp at hzz); first | omega | (simp; done) | (simp; omega)))) | (go_at_call 48; (with_reducible refine (CP.out _ (LAh.out.below (by (repeat' (first | (with_reducible exact Below.refl _ _) | (with_reducible exact K1) | (with_reducible exact K1.size) | (with_reducible refine Below.alloc ?_ ?_ _) | (with_reducible refine Below.setCell ?_ ?_ _) | (with_reducible refine below_drewN ?_ _) | (simp; done) | omega | (simp; omega)))))).mono ?_); rintro e w2 ⟨rfl, hb2⟩; have hc2 := (bcell hb2).1; have hf2 := (bcell hb2).2; have z2_0 : w.heap.size < w2.heap.size := (by have hzz := hb2.size; (try simp at hzz); omega); have z2_1 : w.heap.size + 1 < w2.heap.size := (by have hzz := hb2.size; (try simp at hzz); omega); have K2 : Below w.heap.size w w2 := Below.trans (b := _) (by (repeat' (first | (with_reducible exact Below.refl _ _) | (with_reducible exact K1) | (with_reducible exact K1.size) | (with_reducible refine Below.alloc ?_ ?_ _) | (with_reducible refine Below.setCell ?_ ?_ _) | (with_reducible refine below_drewN ?_ _) | (simp; done) | omega | (simp; omega)))) (hb2.mono (by have hzz := hb2.size; (try simp at hzz); first | omega | (simp; done) | (simp; omega)))))
      refine bodyPost_ret (v := Frac3 x y 0) (by simp [results, Tryz.results18, go_sem, hc1, hf1, hc2, hf2, z1_0, Nat.lt_succ_of_lt z1_0, Nat.ne_of_lt z1_0, Nat.ne_of_gt z1_0, z1_1, Nat.lt_succ_of_lt z1_1, Nat.ne_of_lt z1_1, Nat.ne_of_gt z1_1, z2_0, Nat.lt_succ_of_lt z2_0, Nat.ne_of_lt z2_0, Nat.ne_of_gt z2_0, z2_1, Nat.lt_succ_of_lt z2_1, Nat.ne_of_lt z2_1, Nat.ne_of_gt z2_1, Nat.lt_succ_of_lt z2_0, Nat.lt_succ_of_lt z2_1]) rfl ⟨rfl, ?_⟩; (repeat' (first | (with_reducible exact Below.refl _ _) | (with_reducible exact K1) | (with_reducible exact K1.size) | (with_reducible exact K2) | (with_reducible exact K2.size) | (with_reducible refine Below.alloc ?_ ?_ _) | (with_reducible refine Below.setCell ?_ ?_ _) | (with_reducible refine below_drewN ?_ _) | (simp; done) | omega | (simp; omega)))
  · rw [if_pos he] at HV
    rw [HV.out _ rfl]
    have ge : (e != 0) = true := by simpa using he
    clear h b0 b1 hr hok herr HV he
    go_enter Tryz.func18, Tryz.ntmps18
    go_wp2_with (first | (go_at_call 24; (with_reducible refine (VT.out _).mono ?_); rintro e w1 ⟨rfl, hb1⟩; have hc1 := (bcell hb1).1; have hf1 := (bcell hb1).2; have z1_0 : w.heap.size < w1.heap.size := (by have hzz := hb1.size; (try simp at hzz); omega); have z1_1 : w.heap.size + 1 < w1.heap.size := (by have hzz := hb1.size; (try simp at hzz); omega); have K1 : Below w.heap.size w w1 := Below.trans (b := _) (by (repeat' (first | (with_reducible exact Below.refl _ _) | (with_reducible refine Below.alloc ?_ ?_ _) | (with_reducible refine Below.setCell ?_ ?_ _) | (with_reducible refine below_drewN ?_ _) | (simp; done) | omega | (simp; omega)))) (hb1.mono (by have hzz := hb1.size; (try simp at hzz); first | omega | (simp; done) | (simp; omega)))) | (go_at_call 48; (with_reducible refine (CP.out _ (LAh.out.below (by (repeat' (first | (with_reducible exact Below.refl _ _) | (with_reducible exact K1) | (with_reducible exact K1.size) | (with_reducible refine Below.alloc ?_ ?_ _) | (with_reducible refine Below.setCell ?_ ?_ _) | (with_reducible refine below_drewN ?_ _) | (simp; done) | omega | (simp; omega)))))).mono ?_); rintro e w2 ⟨rfl, hb2⟩; have hc2 := (bcell hb2).1; have hf2 := (bcell hb2).2; have z2_0 : w.heap.size < w2.heap.size := (by have hzz := hb2.size; (try simp at hzz); omega); have z2_1 : w.heap.size + 1 < w2.heap.size := (by have hzz := hb2.size; (try simp at hzz); omega); have K2 : Below w.heap.size w w2 := Below.trans (b := _) (by (repeat' (first | (with_reducible exact Below.refl _ _) | (with_reducible exact K1) | (with_reducible exact K1.size) | (with_reducible refine Below.alloc ?_ ?_ _) | (with_reducible refine Below.setCell ?_ ?_ _) | (with_reducible refine below_drewN ?_ _) | (simp; done) | omega | (simp; omega)))) (hb2.mono (by have hzz := hb2.size; (try simp at hzz); first | omega | (simp; done) | (simp; omega)))))
    refine bodyPost_ret (v := Frac3 0 0 e) (by simp [results, Tryz.results18, go_sem, hc1, hf1, hc2, hf2, z1_0, Nat.lt_succ_of_lt z1_0, Nat.ne_of_lt z1_0, Nat.ne_of_gt z1_0, z1_1, Nat.lt_succ_of_lt z1_1, Nat.ne_of_lt z1_1, Nat.ne_of_gt z1_1, z2_0, Nat.lt_succ_of_lt z2_0, Nat.ne_of_lt z2_0, Nat.ne_of_gt z2_0, z2_1, Nat.lt_succ_of_lt z2_1, Nat.ne_of_lt z2_1, Nat.ne_of_gt z2_1, Nat.lt_succ_of_lt z2_0, Nat.lt_succ_of_lt z2_1]) rfl ⟨rfl, ?_⟩; (repeat' (first | (with_reducible exact Below.refl _ _) | (with_reducible exact K1) | (with_reducible exact K1.size) | (with_reducible exact K2) | (with_reducible exact K2.size) | (with_reducible refine Below.alloc ?_ ?_ _) | (with_reducible refine Below.setCell ?_ ?_ _) | (with_reducible refine below_drewN ?_ _) | (simp; done) | omega | (simp; omega)))
end Go.Proofs.YtikcinkbkakkmaaGreatDoor.Va
