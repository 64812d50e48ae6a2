/- What TensorValidates needs beside the base. -/
import Derived.Test.YteaaikmejacpaaaGreatDoorE16
import Derived.Test.YteaaikmejacpaaaGreatDoorR0
import Derived.Test.YteaaikmejacpaaaGreatDoorR1
import Derived.Test.YteaaikmejacpaaaGreatDoorR10
import Derived.Test.YteaaikmejacpaaaGreatDoorR11
import Derived.Test.YteaaikmejacpaaaGreatDoorR12
import Derived.Test.YteaaikmejacpaaaGreatDoorR13
import Derived.Test.YteaaikmejacpaaaGreatDoorR14
import Derived.Test.YteaaikmejacpaaaGreatDoorR16
import Derived.Test.YteaaikmejacpaaaGreatDoorR17
import Derived.Test.YteaaikmejacpaaaGreatDoorR18
import Derived.Test.YteaaikmejacpaaaGreatDoorR19
import Derived.Test.YteaaikmejacpaaaGreatDoorR2
import Derived.Test.YteaaikmejacpaaaGreatDoorR20
import Derived.Test.YteaaikmejacpaaaGreatDoorR3
import Derived.Test.YteaaikmejacpaaaGreatDoorR4
import Derived.Test.YteaaikmejacpaaaGreatDoorR5
import Derived.Test.YteaaikmejacpaaaGreatDoorR6
import Derived.Test.YteaaikmejacpaaaGreatDoorR7
import Derived.Test.YteaaikmejacpaaaGreatDoorR8
import Derived.Test.YteaaikmejacpaaaGreatDoorR9
import Derived.Lib.ParseIntB
import Derived.Lib.ItoaNum
import Derived.Lib.Bytealg
import Derived.Lib.Strings
import Derived.Deep.CutRange
import Derived.Shelf.LaysM
import Derived.Ground.Names2Prog
import Derived.Shelf.Bits.Mul64
import Derived.Test.YteaaikmejacpaaaGreatDoorProg
import Derived.Lib.SlBuf
namespace Go.Proofs.YteaaikmejacpaaaGreatDoor.Tx
open Go.ChangeShapes Go.WideShapes Go.ChangeAt Go.RowKit
open Fr Fx
set_option maxRecDepth 8000
set_option linter.unusedVariables false
set_option linter.unusedSimpArgs false
set_option maxRecDepth 8000
def isD (c : UInt8) : Bool := decide (48 <= c.toNat /\ c.toNat <= 57)

/-- A decimal integer without leading zeros. -/
def whole (l : List UInt8) : Bool := decide (bd l ≠ []) && (bd l).all isD && !(decide ((bd l).headD 0 = 48) && decide (1 < l.length))

end Go.Proofs.YteaaikmejacpaaaGreatDoor.Tx

namespace Go.Proofs.YteaaikmejacpaaaGreatDoor.Te
open Go.ChangeShapes Go.WideShapes Go.ChangeAt Go.RowKit
open Fx Va Sh
set_option maxRecDepth 8000
set_option linter.unusedVariables false
set_option linter.unusedSimpArgs false

theorem flV_app (a b : List (Int × Int)) : flV (a ++ b) = flV a ++ flV b := by unfold flV; exact List.flatMap_append

end Go.Proofs.YteaaikmejacpaaaGreatDoor.Te

namespace Go.Proofs.YteaaikmejacpaaaGreatDoor.Te
open Go.ChangeShapes Go.WideShapes Go.ChangeAt Go.RowKit
open Fx Va Sh
set_option maxRecDepth 8000
set_option linter.unusedVariables false
set_option linter.unusedSimpArgs false

theorem flV_take : ∀ (l : List (Int × Int)) (k : Nat), (flV l).take (k * 2) = flV (l.take k)
 | l, 0 => by simp [flV]
 | [], k + 1 => by simp [flV]
 | v :: r, k + 1 => by
  have e : flV (v :: r) = .int .i64 v.1 :: .int .i64 v.2 :: flV r := rfl
  have e2 : flV ((v :: r).take (k + 1)) = .int .i64 v.1 :: .int .i64 v.2 :: flV (r.take k) := rfl
  rw [e, e2, show (k + 1) * 2 = k * 2 + 2 by omega, List.take_succ_cons, List.take_succ_cons, flV_take r k]
theorem flV_drop : ∀ (l : List (Int × Int)) (k : Nat), (flV l).drop (k * 2) = flV (l.drop k)
 | l, 0 => by simp
 | [], k + 1 => by simp [flV]
 | v :: r, k + 1 => by
  have e : flV (v :: r) = .int .i64 v.1 :: .int .i64 v.2 :: flV r := rfl
  rw [e, show (k + 1) * 2 = k * 2 + 2 by omega, List.drop_succ_cons, List.drop_succ_cons, flV_drop r k]
  rfl
/-- copy of elements of two cells into a row that is known whole. -/
theorem own_copy2 {P : Program} {u : World} {B g N o m dc : Nat} {E : TypeId} {L X : List (Int × Int)} {sa : Addr} {sl sc : Nat}
  (h : u.ownsRow B E 2 (.slice (some ⟨g, 0, none⟩) N N) N (flV L)) (hX : X.length = Nat.min sl m) (hfit : o + X.length <= N)
  (hsrc : ∀ j v, (flV X)[j]? = some v -> u.cell? (sa.add j) = some v)
  (dT sT ty elem : TypeId) (i : TypeInfo) (hu : P.underlying dT = some (.slice elem)) (hi : P.info? elem = some i) (hs : i.size = 2) :
  ∃ u', (Builtin.copy_ #[dT, sT] ty #[.slice (some ⟨g, o * 2, none⟩) m dc, .slice (some sa) sl sc]).run P u = .ok (goInt X.length) u' /\
   u'.ownsRow B E 2 (.slice (some ⟨g, 0, none⟩) N N) N (flV (L.take o ++ X ++ L.drop (o + X.length))) /\ u.grownBy u' (some g) := by
 rcases h.2 with ⟨h', _⟩ | ⟨g', cap', cur, h', hb, hg, hnc, hcm, hcs, htake⟩
 ·simp at h'
 ·simp only [Value.slice.injEq, Option.some.injEq, Addr.mk.injEq, and_true, true_and] at h'
  obtain ⟨rfl, rfl⟩ := h'
  have hcur : cur.toList = flV L := by rw [<- htake, List.take_of_length_le (by rw [Array.length_toList, hcs]; exact Nat.le_refl _)]
  have hL : L.length = N := by
   have h1 := congrArg List.length hcur
   rw [Array.length_toList, hcs, flV_len] at h1
   omega
  have hl := run_loadCells_list (P := P) u sa (flV X) hsrc
  have hst := run_storeCells_at P g (o * 2) E (flV X) 0 cur u hg (by rw [flV_len, hcs]; omega) (fun v hv => by obtain ⟨z, rfl⟩ := flV_in hv; rfl)
  refine ⟨_, ?_, ⟨?_, .inr ⟨g, N, (cur.toList.take (o * 2 + 0) ++ flV X ++ cur.toList.drop (o * 2 + 0 + (flV X).length)).toArray, rfl, hb, setRow_heap u g cur _ E (0, 0) hg, hnc, hcm, ?_, ?_⟩⟩, ?_⟩
  ·rw [flV_len] at hl
   simp [Builtin.copy_, run_underlying hu, Builtin.lenOf, Builtin.firstCells, sizeOf, typeInfo, hi, hs, <- hX, hl, hst]
  ·rw [flV_len]; simp; omega
  ·rw [List.size_toArray, List.length_append, List.length_append, List.length_take, List.length_drop, Array.length_toList, flV_len, hcs]; omega
  ·have e : cur.toList.take (o * 2 + 0) ++ flV X ++ cur.toList.drop (o * 2 + 0 + (flV X).length) = flV (L.take o ++ X ++ L.drop (o + X.length)) := by
    rw [hcur, flV_app, flV_app, Nat.add_zero, flV_take, flV_len, <- Nat.add_mul, flV_drop]
   show List.take (N * 2) (cur.toList.take (o * 2 + 0) ++ flV X ++ cur.toList.drop (o * 2 + 0 + (flV X).length)) = _
   rw [e]
   refine List.take_of_length_le ?_
   rw [flV_len]; simp; omega
  ·exact ⟨rfl, rfl, rfl, by simp [World.setRow], fun k _ hk => setRow_other u g k _ (fun e => hk (by rw [e]))⟩
/-- A row that is being filled with one element. -/
def rowF (v : Int × Int) (N k : Nat) : List (Int × Int) := List.replicate k v ++ List.replicate (N - k) (0, 0)

theorem rowF_full {v : Int × Int} {N : Nat} : rowF v N N = List.replicate N v := by unfold rowF; simp
theorem rowF_zero {v : Int × Int} {N : Nat} : rowF v N 0 = List.replicate N (0, 0) := by unfold rowF; simp
theorem rowF_put {v : Int × Int} {N k c : Nat} (h : k + c <= N) : (rowF v N k).take k ++ List.replicate c v ++ (rowF v N k).drop (k + c) = rowF v N (k + c) := by
 unfold rowF
 have h1 : (List.replicate k v).length = k := List.length_replicate
 rw [List.take_append_of_le_length (by omega), List.take_of_length_le (by omega), List.drop_append, List.drop_eq_nil_of_le (by omega), h1, List.nil_append, List.drop_replicate, List.replicate_append_replicate, show N - k - (k + c - k) = N - (k + c) by omega]
/-- The first copy: one element at the head. -/
theorem copy_one {P : Program} {u : World} {B g N : Nat} {E : TypeId} {v : Int × Int} {b o : Nat}
  (h : u.ownsRow B E 2 (.slice (some ⟨g, 0, none⟩) N N) N (flV (List.replicate N (0, 0)))) (hN : 1 <= N)
  (c0 : u.cell? ⟨b, o, none⟩ = some (.int .i64 v.1)) (c1 : u.cell? ⟨b, o + 1, none⟩ = some (.int .i64 v.2))
  (dT sT ty elem : TypeId) (i : TypeInfo) (hu : P.underlying dT = some (.slice elem)) (hi : P.info? elem = some i) (hs : i.size = 2) :
  ∃ u', (Builtin.copy_ #[dT, sT] ty #[.slice (some ⟨g, 0, none⟩) N N, .slice (some ⟨b, o, none⟩) 1 1]).run P u = .ok (.int .i64 1) u' /\
   u'.ownsRow B E 2 (.slice (some ⟨g, 0, none⟩) N N) N (flV (rowF v N 1)) /\ u.grownBy u' (some g) := by
 have hm : ([v] : List (Int × Int)).length = Nat.min 1 N := by simp; exact (Nat.min_eq_left hN).symm
 obtain ⟨u', r, ow, gr⟩ := own_copy2 (P := P) (o := 0) (m := N) (dc := N) (X := [v]) (sl := 1) (sc := 1) (sa := ⟨b, o, none⟩) h hm (by simpa using hN) (fun j x hj => by
  rw [add_at]
  have e : flV [v] = [.int .i64 v.1, .int .i64 v.2] := rfl
  rw [e] at hj
  rcases j with _ | _ | j
  ·cases hj; exact c0
  ·cases hj; exact c1
  ·cases hj) dT sT ty elem i hu hi hs
 refine ⟨u', ?_, ?_, gr⟩
 ·rw [Nat.zero_mul] at r
  exact r
 ·have e := rowF_put (v := v) (N := N) (k := 0) (c := 1) (by omega)
  rw [rowF_zero, Nat.zero_add] at e
  rw [<- e]
  exact ow
/-- The later copies: what is filled goes behind itself. -/
theorem copy_more {P : Program} {u : World} {B g N k : Nat} {E : TypeId} {v : Int × Int}
  (h : u.ownsRow B E 2 (.slice (some ⟨g, 0, none⟩) N N) N (flV (rowF v N k))) (hk : k < N)
  (dT sT ty elem : TypeId) (i : TypeInfo) (hu : P.underlying dT = some (.slice elem)) (hi : P.info? elem = some i) (hs : i.size = 2) :
  ∃ u' c, (Builtin.copy_ #[dT, sT] ty #[.slice (some ⟨g, k * 2, none⟩) (N - k) (N - k), .slice (some ⟨g, 0, none⟩) k N]).run P u = .ok (.int .i64 (c : Nat)) u' /\ c = Nat.min k (N - k) /\
   u'.ownsRow B E 2 (.slice (some ⟨g, 0, none⟩) N N) N (flV (rowF v N (k + c))) /\ u.grownBy u' (some g) := by
 obtain ⟨c, hc⟩ : ∃ c, Nat.min k (N - k) = c := ⟨_, rfl⟩
 have c1 : c <= k := by rw [<- hc]; exact Nat.min_le_left _ _
 have c2 : c <= N - k := by rw [<- hc]; exact Nat.min_le_right _ _
 have hl : (List.replicate c v).length = c := List.length_replicate
 obtain ⟨u', r, ow, gr⟩ := own_copy2 (P := P) (o := k) (m := N - k) (dc := N - k) (X := List.replicate c v) (sl := k) (sc := N) (sa := ⟨g, 0, none⟩) h (by rw [hl, hc]) (by rw [hl]; omega) (fun j x hj => by
  refine h.cells rfl j x ?_
  have hj2 := (List.getElem?_eq_some_iff.1 hj).1
  rw [flV_len, hl] at hj2
  have e : flV (List.replicate c v) = (flV (rowF v N k)).take (c * 2) := by
   rw [flV_take]
   unfold rowF
   rw [List.take_append_of_le_length (by rw [List.length_replicate]; exact c1), List.take_replicate, Nat.min_eq_left c1]
  rw [e, List.getElem?_take_of_lt hj2] at hj
  exact hj) dT sT ty elem i hu hi hs
 refine ⟨u', c, ?_, hc.symm, ?_, gr⟩
 ·rw [hl] at r
  exact r
 ·rw [hl, rowF_put (by omega)] at ow
  exact ow
end Go.Proofs.YteaaikmejacpaaaGreatDoor.Te

namespace Go.Proofs
open Go.Shelf

def Tryz.lays212_ren : Go.Shelf.Ren := ⟨fun | 212 => 87 | 263 => 113 | 264 => 114 | n => n, fun | 46 => 106 | 51 => 134 | 53 => 130 | 146 => 135 | 148 => 137 | n => n, fun | n => n⟩

theorem Tryz.lays212 : Go.Proofs.Lays.n212 Tryz.prog Tryz.lays212_ren := {
 mixed := by kernel_rfl
 f212 := Tryz.func87.trans (congrArg some (by kernel_rfl))
 f263 := Tryz.func113.trans (congrArg some (by kernel_rfl))
 f264 := Tryz.func114.trans (congrArg some (by kernel_rfl))
 t46 := Tryz.underlying106
 a46 := Tryz.isAgg106
 z46 := Tryz.sizeOf106
 v46 := Tryz.zeroValue106
 t51 := Tryz.underlying134
 a51 := Tryz.isAgg134
 z51 := Tryz.sizeOf134
 v51 := Tryz.zeroValue134
 t53 := Tryz.underlying130
 a53 := Tryz.isAgg130
 z53 := Tryz.sizeOf130
 v53 := Tryz.zeroValue130
 t146 := Tryz.underlying135
 a146 := Tryz.isAgg135
 z146 := Tryz.sizeOf135
 v146 := Tryz.zeroValue135
 t148 := Tryz.underlying137
 a148 := Tryz.isAgg137
 z148 := Tryz.sizeOf137
 v148 := Tryz.zeroValue137 }

open Go.RowKit Go.Lib in
theorem Tryz.bits_Mul (x y : Nat) (hx : x < 18446744073709551616) (hy : y < 18446744073709551616) (w : World) :
  Calls Tryz.prog 87 #[.int .u64 x, .int .u64 y] w fun e w' => e = .returned (.tuple #[.int .u64 ((x * y / 18446744073709551616 : Nat) : Int), .int .u64 ((x * y % 18446744073709551616 : Nat) : Int)]) /\ w' = w := Any.bits_Mul Tryz.lays212 x y hx hy w

end Go.Proofs

namespace Go.Proofs.YteaaikmejacpaaaGreatDoor.Te
open Go.ChangeShapes Go.WideShapes Go.ChangeAt Go.RowKit
open Fx Va Sh
set_option maxRecDepth 8000
set_option linter.unusedVariables false
set_option linter.unusedSimpArgs false

set_option maxRecDepth 100000 in
set_option maxHeartbeats 4000000 in
/-- slices.Repeat of one element. -/
theorem repT (v : Int × Int) (b o N : Nat) (w : World) (hN : 1 <= N) (hN2 : N <= 4096) (c0 : w.cell? ⟨b, o, none⟩ = some (.int .i64 v.1)) (c1 : w.cell? ⟨b, o + 1, none⟩ = some (.int .i64 v.2)) :
  Calls Tryz.prog 50 #[.slice (some ⟨b, o, none⟩) 1 1, .int .i64 (N : Int)] w fun e w' => e = .returned (.slice (some ⟨w.heap.size, 0, none⟩) N N) /\ Below w.heap.size w w' /\ w'.ownsRow w.heap.size 29 2 (.slice (some ⟨w.heap.size, 0, none⟩) N N) N (flV (List.replicate N v)) := by
 have hbb : b < w.heap.size := World.block_lt_of_cell? _ _ c0
 have C0 := Lib.hid c0
 have C1 := Lib.hid c1
 have BM0 : ∀ u, Calls Tryz.prog 87 #[.int .u64 1, .int .u64 (N : Int)] u fun e w' => e = .returned (.tuple #[.int .u64 0, .int .u64 (N : Int)]) /\ w' = u := fun u => by
  have h := Tryz.bits_Mul 1 N (by omega) (by omega) u
  rw [show 1 * N / 18446744073709551616 = 0 by omega, show 1 * N % 18446744073709551616 = N by omega] at h
  exact h
 have BM := Lib.hid BM0
 have wu : IntKind.u64.wrap (N : Int) = N := by rw [IntKind.wrap_u64]; omega
 have wi : IntKind.i64.wrap (N : Int) = N := by rw [IntKind.wrap_i64]; omega
 have n0 : (0 : Int) <= N := by omega
 have g1 : decide ((N : Int) < 0) = false := by simp
 have g2 : decide ((9223372036854775807 : Int) < N) = false := by simp; omega
 obtain ⟨i0, hi, hz0, hz1, hz2⟩ := info_parts infoV
 clear c0 c1 BM0
 go_enter Tryz.func50, Tryz.ntmps50
 go_upto_region 6 with (go_at_call 87; (with_reducible refine (BM.out _).mono ?_); rintro e w5 ⟨rfl, hw5⟩; rw [hw5]; clear hw5)
 go_upto_region 7 with (refine wpList_make_full _ rfl _ _ 25 rfl w.heap.size 29 i0 (.agg #[.int .i64 0, .int .i64 0]) 2 Tryz.underlying25 hi hz0 hz1 .i64 .i64 _ _ N rfl rfl rfl rfl (by rw [hz2]; omega) (by unfold maxLen; omega) (Nat.le_refl _) ?_; intro w6 hown6 hg6; have HB6 := Lib.hid (below_own (Nat.le_refl _) hg6); rw [madeV] at hown6; have HL6 := Lib.hid hown6; clear hown6 hg6)
 obtain ⟨w7, hr7, ow7, gr7⟩ := copy_one (P := Tryz.prog) HL6.out hN (Rg.keep HB6.out hbb C0.out) (Rg.keep HB6.out hbb C1.out) 25 25 3 29 i0 Tryz.underlying25 hi hz1
 have OW7 := Lib.hid ow7
 have BW7 := Lib.hid (HB6.out.grown gr7 HB6.out.size (fun j hj => by cases hj; exact Nat.le_refl _))
 clear ow7 gr7
 go_upto_region 8 with (refine Lib.wpList_copy_run _ rfl _ _ 25 25 rfl _ _ rfl rfl hr7 ?_)
 clear hr7
 go_loopw [8] (fun iv wr => ∃ k : Nat, iv = .int .i64 (k : Int) /\ 1 <= k /\ k <= N /\ Hid (wr.ownsRow w.heap.size 29 2 (.slice (some ⟨w.heap.size, 0, none⟩) N N) N (flV (rowF v N k)) /\ Below w.heap.size w wr)) (fun iv _ => N - (intOf iv).toNat)
 case atStart => exact ⟨1, rfl, Nat.le_refl _, hN, Lib.hid ⟨OW7.out, BW7.out⟩⟩
 case round =>
  obtain ⟨k, rfl, k1, k2, HJ⟩ := hrel
  by_cases hkN : k < N
  ·obtain ⟨VJ, KJ⟩ := HJ.out
   have q1 : (k : Int) < N := by omega
   have q2 : (0 : Int) <= k := by omega
   have q3 : (k : Int) <= N := by omega
   have q4 : ¬ N = k := by omega
   go_upto_region 9 with fail
   refine Rk.begin (S := fun wS => (Below wr.heap.size wr wS)) 7 (by kernel_rfl) (Below.drew (Below.refl _ _)) (fun hHeld => ?_)
   refine SqR.p 0 ?_
   refine SqR.p 1 ?_
   refine SqR.p 2 ?_
   refine SqR.p 3 ?_
   refine SqR.p 4 ?_
   refine SqR.p 5 ?_
   refine SqR.p 6 ?_
   refine Rk.tail [7, 8, 9] [_, _, _] (by kernel_rfl) (by kernel_rfl) rfl (by decide) ?_
   clear hHeld
   obtain ⟨w8, cc, hr8, hc8, ow8, gr8⟩ := copy_more (P := Tryz.prog) VJ.drew hkN 25 25 3 29 i0 Tryz.underlying25 hi hz1
   have e1 : cc <= k := by rw [hc8]; exact Nat.min_le_left _ _
   have e2 : cc <= N - k := by rw [hc8]; exact Nat.min_le_right _ _
   have e3 : 1 <= cc := by rw [hc8]; exact Nat.le_min.2 ⟨k1, by omega⟩
   have EW := Lib.hid (show wrap64 ((k : Int) + cc) = ((k + cc : Nat) : Int) by rw [w64 (by omega) (by omega)]; push_cast; rfl)
   have OW8 := Lib.hid ow8
   have BW8 := Lib.hid (KJ.drew.grown gr8 KJ.size (fun j hj => by cases hj; exact Nat.le_refl _))
   have E1 := Lib.hid (And.intro e1 e3)
   have E2 := Lib.hid e2
   clear hc8 ow8 gr8 e1 e2 e3
   go_wp2_with (refine Lib.wpList_copy_run _ rfl _ _ 25 25 rfl _ _ rfl rfl hr8 ?_)
   go_roundw
   case rel =>
    obtain ⟨e1, e3⟩ := E1.out
    have e2 := E2.out
    exact ⟨k + cc, by rw [EW.out], by omega, by omega, Lib.hid ⟨OW8.out, BW8.out⟩⟩
   case measure =>
    obtain ⟨e1, e3⟩ := E1.out
    have e2 := E2.out
    rw [EW.out]
    simp [intOf]; omega
  ·obtain rfl : k = N := by omega
   have gN : decide ((k : Int) < k) = false := by simp
   obtain ⟨VJ, KJ⟩ := HJ.out
   rw [rowF_full] at VJ
   have VJ' := Lib.hid VJ
   clear VJ
   go_wp2
   go_ret
   exact ⟨rfl, KJ, VJ'.out⟩
end Go.Proofs.YteaaikmejacpaaaGreatDoor.Te

namespace Go.Proofs.YteaaikmejacpaaaGreatDoor.Te
open Go.ChangeShapes Go.WideShapes Go.ChangeAt Go.RowKit
open Fx Va Sh
set_option maxRecDepth 8000
set_option linter.unusedVariables false
set_option linter.unusedSimpArgs false

/-- The error of Full. -/
def fuE (K B F R O : Int) (zs : List Int) (x y : Int) : Int := if ty K B F R O = true then (if (vE zs != 0) = true then vE zs else if vv K B F R O x y = true then 0 else 1) else 10

set_option maxRecDepth 100000 in
set_option maxHeartbeats 8000000 in
theorem fu_a (K B F R O : Int) (p : Option Addr) (zs : List Int) (c : Nat) (x y : Int) (w : World) (b0 : -9223372036854775808 <= B) (b1 : B <= 9223372036854775807) (hn : zs.length <= maxLen) (RA : Hid (SlI w p zs)) (ht : ty K B F R O = false) :
  Calls Tryz.prog 18 #[T5 K B F R O, .slice p zs.length c, V2 x y] w (TRes 0 0 0 0 0 [] [] 10 w) := by
 have VT0 := fun w => c_vt K B F R O w
 rw [ht] at VT0
 have VT := Lib.hid VT0
 have B0 : Hid (Below w.heap.size w (((w.alloc (Obj.cells #[Value.int .i64 K, Value.int .i64 B, Value.int .i64 F, Value.int .i64 R, Value.int .i64 O] 23)).alloc (Obj.cells #[Value.int .i64 x, Value.int .i64 y] 29)).alloc (Obj.cells #[Value.int .i64 0, Value.int .i64 0, Value.int .i64 0, Value.int .i64 0, Value.int .i64 0, Value.slice none 0 0, Value.slice none 0 0] 27))) := Lib.hid ((((Below.refl _ _).alloc (Nat.le_refl _) _).alloc (by simp) _).alloc (by simp; omega) _)
 clear VT0 ht
 go_enter Tryz.func18, Tryz.ntmps18
 go_wp2_with (go_at_call 46; (with_reducible refine (VT.out _).mono ?_); rintro e w1 ⟨rfl, hb⟩; have KB := Lib.hid (B0.out.trans (hb.mono B0.out.size)); have c0 : w1.cell? ⟨w.heap.size, 0, none⟩ = some (.int .i64 K) := Rg.keep hb (by simp <;> omega) (by go_cell); have c1 : w1.cell? ⟨w.heap.size, 1, none⟩ = some (.int .i64 B) := Rg.keep hb (by simp <;> omega) (by go_cell); have c2 : w1.cell? ⟨w.heap.size, 2, none⟩ = some (.int .i64 F) := Rg.keep hb (by simp <;> omega) (by go_cell); have c3 : w1.cell? ⟨w.heap.size, 3, none⟩ = some (.int .i64 R) := Rg.keep hb (by simp <;> omega) (by go_cell); have c4 : w1.cell? ⟨w.heap.size, 4, none⟩ = some (.int .i64 O) := Rg.keep hb (by simp <;> omega) (by go_cell); have v0 : w1.cell? ⟨w.heap.size + 1, 0, none⟩ = some (.int .i64 x) := Rg.keep hb (by simp <;> omega) (by go_cell); have v1 : w1.cell? ⟨w.heap.size + 1, 1, none⟩ = some (.int .i64 y) := Rg.keep hb (by simp <;> omega) (by go_cell); have z0 : w1.cell? ⟨w.heap.size + 1 + 1, 0, none⟩ = some (.int .i64 0) := Rg.keep hb (by simp <;> omega) (by go_cell); have f0 : w1.frozen? ⟨w.heap.size + 1 + 1, 0, none⟩ = false := Rg.keepF hb (by simp <;> omega) (by go_cell); have z1 : w1.cell? ⟨w.heap.size + 1 + 1, 1, none⟩ = some (.int .i64 0) := Rg.keep hb (by simp <;> omega) (by go_cell); have f1 : w1.frozen? ⟨w.heap.size + 1 + 1, 1, none⟩ = false := Rg.keepF hb (by simp <;> omega) (by go_cell); have z2 : w1.cell? ⟨w.heap.size + 1 + 1, 2, none⟩ = some (.int .i64 0) := Rg.keep hb (by simp <;> omega) (by go_cell); have f2 : w1.frozen? ⟨w.heap.size + 1 + 1, 2, none⟩ = false := Rg.keepF hb (by simp <;> omega) (by go_cell); have z3 : w1.cell? ⟨w.heap.size + 1 + 1, 3, none⟩ = some (.int .i64 0) := Rg.keep hb (by simp <;> omega) (by go_cell); have f3 : w1.frozen? ⟨w.heap.size + 1 + 1, 3, none⟩ = false := Rg.keepF hb (by simp <;> omega) (by go_cell); have z4 : w1.cell? ⟨w.heap.size + 1 + 1, 4, none⟩ = some (.int .i64 0) := Rg.keep hb (by simp <;> omega) (by go_cell); have f4 : w1.frozen? ⟨w.heap.size + 1 + 1, 4, none⟩ = false := Rg.keepF hb (by simp <;> omega) (by go_cell); have z5 : w1.cell? ⟨w.heap.size + 1 + 1, 5, none⟩ = some (.slice none 0 0) := Rg.keep hb (by simp <;> omega) (by go_cell); have f5 : w1.frozen? ⟨w.heap.size + 1 + 1, 5, none⟩ = false := Rg.keepF hb (by simp <;> omega) (by go_cell); have z6 : w1.cell? ⟨w.heap.size + 1 + 1, 6, none⟩ = some (.slice none 0 0) := Rg.keep hb (by simp <;> omega) (by go_cell); have f6 : w1.frozen? ⟨w.heap.size + 1 + 1, 6, none⟩ = false := Rg.keepF hb (by simp <;> omega) (by go_cell); have lr : w.heap.size + 1 + 1 < w1.heap.size := World.block_lt_of_cell? _ _ z0; clear hb)
 have SBB := (((((((KB.out).setCell (p := ⟨(w.heap.size + 1 + 1), 0, none⟩) (by dsimp only; omega) (.int .i64 0)).setCell (p := ⟨(w.heap.size + 1 + 1), 1, none⟩) (by dsimp only; omega) (.int .i64 0)).setCell (p := ⟨(w.heap.size + 1 + 1), 2, none⟩) (by dsimp only; omega) (.int .i64 0)).setCell (p := ⟨(w.heap.size + 1 + 1), 3, none⟩) (by dsimp only; omega) (.int .i64 0)).setCell (p := ⟨(w.heap.size + 1 + 1), 4, none⟩) (by dsimp only; omega) (.int .i64 0)).setCell (p := ⟨(w.heap.size + 1 + 1), 5, none⟩) (by dsimp only; omega) (.slice none 0 0)).setCell (p := ⟨(w.heap.size + 1 + 1), 6, none⟩) (by dsimp only; omega) (.slice none 0 0)
 refine bodyPost_ret (v := .tuple #[.agg #[.int .i64 0, .int .i64 0, .int .i64 0, .int .i64 0, .int .i64 0, .slice none 0 0, .slice none 0 0], .int .i64 10]) (by simp [results, Tryz.results18, go_sem, z0, f0, z1, f1, z2, f2, z3, f3, z4, f4, z5, f5, z6, f6, lr]) rfl (TRes.no SBB)

set_option maxRecDepth 100000 in
set_option maxHeartbeats 8000000 in
theorem fu_b (K B F R O : Int) (p : Option Addr) (zs : List Int) (c : Nat) (x y : Int) (w : World) (b0 : -9223372036854775808 <= B) (b1 : B <= 9223372036854775807) (hn : zs.length <= maxLen) (RA : Hid (SlI w p zs)) (ht : ty K B F R O = true) (hv : (vE zs != 0) = true) :
  Calls Tryz.prog 18 #[T5 K B F R O, .slice p zs.length c, V2 x y] w (TRes 0 0 0 0 0 [] [] (vE zs) w) := by
 have VT0 := fun w => c_vt K B F R O w
 rw [ht] at VT0
 have VT := Lib.hid VT0
 have SV0 := fun w h => c14 p zs c w hn h
 obtain ⟨V, hV⟩ : ∃ V, vE zs = V := ⟨_, rfl⟩
 rw [hV] at SV0 hv ⊢
 have SV := Lib.hid SV0
 have hv2 : (V == 0) = false := by simpa using hv
 have B0 : Hid (Below w.heap.size w (((w.alloc (Obj.cells #[Value.int .i64 K, Value.int .i64 B, Value.int .i64 F, Value.int .i64 R, Value.int .i64 O] 23)).alloc (Obj.cells #[Value.int .i64 x, Value.int .i64 y] 29)).alloc (Obj.cells #[Value.int .i64 0, Value.int .i64 0, Value.int .i64 0, Value.int .i64 0, Value.int .i64 0, Value.slice none 0 0, Value.slice none 0 0] 27))) := Lib.hid ((((Below.refl _ _).alloc (Nat.le_refl _) _).alloc (by simp) _).alloc (by simp; omega) _)
 clear VT0 ht SV0 hV
 go_enter Tryz.func18, Tryz.ntmps18
 go_wp2_with (first | (go_at_call 46; (with_reducible refine (VT.out _).mono ?_); rintro e w1 ⟨rfl, hb⟩; have KB := Lib.hid (B0.out.trans (hb.mono B0.out.size)); have c0 : w1.cell? ⟨w.heap.size, 0, none⟩ = some (.int .i64 K) := Rg.keep hb (by simp <;> omega) (by go_cell); have c1 : w1.cell? ⟨w.heap.size, 1, none⟩ = some (.int .i64 B) := Rg.keep hb (by simp <;> omega) (by go_cell); have c2 : w1.cell? ⟨w.heap.size, 2, none⟩ = some (.int .i64 F) := Rg.keep hb (by simp <;> omega) (by go_cell); have c3 : w1.cell? ⟨w.heap.size, 3, none⟩ = some (.int .i64 R) := Rg.keep hb (by simp <;> omega) (by go_cell); have c4 : w1.cell? ⟨w.heap.size, 4, none⟩ = some (.int .i64 O) := Rg.keep hb (by simp <;> omega) (by go_cell); have v0 : w1.cell? ⟨w.heap.size + 1, 0, none⟩ = some (.int .i64 x) := Rg.keep hb (by simp <;> omega) (by go_cell); have v1 : w1.cell? ⟨w.heap.size + 1, 1, none⟩ = some (.int .i64 y) := Rg.keep hb (by simp <;> omega) (by go_cell); have z0 : w1.cell? ⟨w.heap.size + 1 + 1, 0, none⟩ = some (.int .i64 0) := Rg.keep hb (by simp <;> omega) (by go_cell); have f0 : w1.frozen? ⟨w.heap.size + 1 + 1, 0, none⟩ = false := Rg.keepF hb (by simp <;> omega) (by go_cell); have z1 : w1.cell? ⟨w.heap.size + 1 + 1, 1, none⟩ = some (.int .i64 0) := Rg.keep hb (by simp <;> omega) (by go_cell); have f1 : w1.frozen? ⟨w.heap.size + 1 + 1, 1, none⟩ = false := Rg.keepF hb (by simp <;> omega) (by go_cell); have z2 : w1.cell? ⟨w.heap.size + 1 + 1, 2, none⟩ = some (.int .i64 0) := Rg.keep hb (by simp <;> omega) (by go_cell); have f2 : w1.frozen? ⟨w.heap.size + 1 + 1, 2, none⟩ = false := Rg.keepF hb (by simp <;> omega) (by go_cell); have z3 : w1.cell? ⟨w.heap.size + 1 + 1, 3, none⟩ = some (.int .i64 0) := Rg.keep hb (by simp <;> omega) (by go_cell); have f3 : w1.frozen? ⟨w.heap.size + 1 + 1, 3, none⟩ = false := Rg.keepF hb (by simp <;> omega) (by go_cell); have z4 : w1.cell? ⟨w.heap.size + 1 + 1, 4, none⟩ = some (.int .i64 0) := Rg.keep hb (by simp <;> omega) (by go_cell); have f4 : w1.frozen? ⟨w.heap.size + 1 + 1, 4, none⟩ = false := Rg.keepF hb (by simp <;> omega) (by go_cell); have z5 : w1.cell? ⟨w.heap.size + 1 + 1, 5, none⟩ = some (.slice none 0 0) := Rg.keep hb (by simp <;> omega) (by go_cell); have f5 : w1.frozen? ⟨w.heap.size + 1 + 1, 5, none⟩ = false := Rg.keepF hb (by simp <;> omega) (by go_cell); have z6 : w1.cell? ⟨w.heap.size + 1 + 1, 6, none⟩ = some (.slice none 0 0) := Rg.keep hb (by simp <;> omega) (by go_cell); have f6 : w1.frozen? ⟨w.heap.size + 1 + 1, 6, none⟩ = false := Rg.keepF hb (by simp <;> omega) (by go_cell); have lr : w.heap.size + 1 + 1 < w1.heap.size := World.block_lt_of_cell? _ _ z0; clear hb) | (go_at_call 47; (with_reducible refine (SV.out _ (Lib.hid (SlI.keep KB.out RA.out))).mono ?_); rintro e w9 ⟨rfl, rfl⟩))
 have SBB := (((((((KB.out).setCell (p := ⟨(w.heap.size + 1 + 1), 0, none⟩) (by dsimp only; omega) (.int .i64 0)).setCell (p := ⟨(w.heap.size + 1 + 1), 1, none⟩) (by dsimp only; omega) (.int .i64 0)).setCell (p := ⟨(w.heap.size + 1 + 1), 2, none⟩) (by dsimp only; omega) (.int .i64 0)).setCell (p := ⟨(w.heap.size + 1 + 1), 3, none⟩) (by dsimp only; omega) (.int .i64 0)).setCell (p := ⟨(w.heap.size + 1 + 1), 4, none⟩) (by dsimp only; omega) (.int .i64 0)).setCell (p := ⟨(w.heap.size + 1 + 1), 5, none⟩) (by dsimp only; omega) (.slice none 0 0)).setCell (p := ⟨(w.heap.size + 1 + 1), 6, none⟩) (by dsimp only; omega) (.slice none 0 0)
 refine bodyPost_ret (v := .tuple #[.agg #[.int .i64 0, .int .i64 0, .int .i64 0, .int .i64 0, .int .i64 0, .slice none 0 0, .slice none 0 0], .int .i64 V]) (by simp [results, Tryz.results18, go_sem, z0, f0, z1, f1, z2, f2, z3, f3, z4, f4, z5, f5, z6, f6, lr]) rfl (TRes.no SBB)

set_option maxRecDepth 100000 in
set_option maxHeartbeats 8000000 in
theorem fu_c (K B F R O : Int) (p : Option Addr) (zs : List Int) (c : Nat) (x y : Int) (w : World) (b0 : -9223372036854775808 <= B) (b1 : B <= 9223372036854775807) (hn : zs.length <= maxLen) (RA : Hid (SlI w p zs)) (ht : ty K B F R O = true) (hv : vE zs = 0) (hx : vv K B F R O x y = false) :
  Calls Tryz.prog 18 #[T5 K B F R O, .slice p zs.length c, V2 x y] w (TRes 0 0 0 0 0 [] [] 1 w) := by
 have VT0 := fun w => c_vt K B F R O w
 rw [ht] at VT0
 have VT := Lib.hid VT0
 have SV0 := fun w h => c14 p zs c w hn h
 rw [hv] at SV0
 have SV := Lib.hid SV0
 have VA0 := fun w => c_va K B F R O x y w b0 b1
 rw [hx] at VA0
 have VA := Lib.hid VA0
 have B0 : Hid (Below w.heap.size w (((w.alloc (Obj.cells #[Value.int .i64 K, Value.int .i64 B, Value.int .i64 F, Value.int .i64 R, Value.int .i64 O] 23)).alloc (Obj.cells #[Value.int .i64 x, Value.int .i64 y] 29)).alloc (Obj.cells #[Value.int .i64 0, Value.int .i64 0, Value.int .i64 0, Value.int .i64 0, Value.int .i64 0, Value.slice none 0 0, Value.slice none 0 0] 27))) := Lib.hid ((((Below.refl _ _).alloc (Nat.le_refl _) _).alloc (by simp) _).alloc (by simp; omega) _)
 clear VT0 ht SV0 hv VA0 hx
 go_enter Tryz.func18, Tryz.ntmps18
 go_wp2_with (first | (go_at_call 46; (with_reducible refine (VT.out _).mono ?_); rintro e w1 ⟨rfl, hb⟩; have KB := Lib.hid (B0.out.trans (hb.mono B0.out.size)); have c0 : w1.cell? ⟨w.heap.size, 0, none⟩ = some (.int .i64 K) := Rg.keep hb (by simp <;> omega) (by go_cell); have c1 : w1.cell? ⟨w.heap.size, 1, none⟩ = some (.int .i64 B) := Rg.keep hb (by simp <;> omega) (by go_cell); have c2 : w1.cell? ⟨w.heap.size, 2, none⟩ = some (.int .i64 F) := Rg.keep hb (by simp <;> omega) (by go_cell); have c3 : w1.cell? ⟨w.heap.size, 3, none⟩ = some (.int .i64 R) := Rg.keep hb (by simp <;> omega) (by go_cell); have c4 : w1.cell? ⟨w.heap.size, 4, none⟩ = some (.int .i64 O) := Rg.keep hb (by simp <;> omega) (by go_cell); have v0 : w1.cell? ⟨w.heap.size + 1, 0, none⟩ = some (.int .i64 x) := Rg.keep hb (by simp <;> omega) (by go_cell); have v1 : w1.cell? ⟨w.heap.size + 1, 1, none⟩ = some (.int .i64 y) := Rg.keep hb (by simp <;> omega) (by go_cell); have z0 : w1.cell? ⟨w.heap.size + 1 + 1, 0, none⟩ = some (.int .i64 0) := Rg.keep hb (by simp <;> omega) (by go_cell); have f0 : w1.frozen? ⟨w.heap.size + 1 + 1, 0, none⟩ = false := Rg.keepF hb (by simp <;> omega) (by go_cell); have z1 : w1.cell? ⟨w.heap.size + 1 + 1, 1, none⟩ = some (.int .i64 0) := Rg.keep hb (by simp <;> omega) (by go_cell); have f1 : w1.frozen? ⟨w.heap.size + 1 + 1, 1, none⟩ = false := Rg.keepF hb (by simp <;> omega) (by go_cell); have z2 : w1.cell? ⟨w.heap.size + 1 + 1, 2, none⟩ = some (.int .i64 0) := Rg.keep hb (by simp <;> omega) (by go_cell); have f2 : w1.frozen? ⟨w.heap.size + 1 + 1, 2, none⟩ = false := Rg.keepF hb (by simp <;> omega) (by go_cell); have z3 : w1.cell? ⟨w.heap.size + 1 + 1, 3, none⟩ = some (.int .i64 0) := Rg.keep hb (by simp <;> omega) (by go_cell); have f3 : w1.frozen? ⟨w.heap.size + 1 + 1, 3, none⟩ = false := Rg.keepF hb (by simp <;> omega) (by go_cell); have z4 : w1.cell? ⟨w.heap.size + 1 + 1, 4, none⟩ = some (.int .i64 0) := Rg.keep hb (by simp <;> omega) (by go_cell); have f4 : w1.frozen? ⟨w.heap.size + 1 + 1, 4, none⟩ = false := Rg.keepF hb (by simp <;> omega) (by go_cell); have z5 : w1.cell? ⟨w.heap.size + 1 + 1, 5, none⟩ = some (.slice none 0 0) := Rg.keep hb (by simp <;> omega) (by go_cell); have f5 : w1.frozen? ⟨w.heap.size + 1 + 1, 5, none⟩ = false := Rg.keepF hb (by simp <;> omega) (by go_cell); have z6 : w1.cell? ⟨w.heap.size + 1 + 1, 6, none⟩ = some (.slice none 0 0) := Rg.keep hb (by simp <;> omega) (by go_cell); have f6 : w1.frozen? ⟨w.heap.size + 1 + 1, 6, none⟩ = false := Rg.keepF hb (by simp <;> omega) (by go_cell); have lr : w.heap.size + 1 + 1 < w1.heap.size := World.block_lt_of_cell? _ _ z0; clear hb) | (go_at_call 47; (with_reducible refine (SV.out _ (Lib.hid (SlI.keep KB.out RA.out))).mono ?_); rintro e w9 ⟨rfl, rfl⟩) | (go_at_call 48; (with_reducible refine (VA.out _).mono ?_); rintro e w2 ⟨rfl, hb⟩; have KB2 := Lib.hid (KB.out.trans (hb.mono KB.out.size)); replace c0 := Rg.keep hb (Nat.lt_trans (by omega) lr) c0; replace c1 := Rg.keep hb (Nat.lt_trans (by omega) lr) c1; replace c2 := Rg.keep hb (Nat.lt_trans (by omega) lr) c2; replace c3 := Rg.keep hb (Nat.lt_trans (by omega) lr) c3; replace c4 := Rg.keep hb (Nat.lt_trans (by omega) lr) c4; replace v0 := Rg.keep hb (Nat.lt_trans (by omega) lr) v0; replace v1 := Rg.keep hb (Nat.lt_trans (by omega) lr) v1; replace z0 := Rg.keep hb lr z0; replace f0 := Rg.keepF hb lr f0; replace z1 := Rg.keep hb lr z1; replace f1 := Rg.keepF hb lr f1; replace z2 := Rg.keep hb lr z2; replace f2 := Rg.keepF hb lr f2; replace z3 := Rg.keep hb lr z3; replace f3 := Rg.keepF hb lr f3; replace z4 := Rg.keep hb lr z4; replace f4 := Rg.keepF hb lr f4; replace z5 := Rg.keep hb lr z5; replace f5 := Rg.keepF hb lr f5; replace z6 := Rg.keep hb lr z6; replace f6 := Rg.keepF hb lr f6; have lr2 : w.heap.size + 1 + 1 < w2.heap.size := World.block_lt_of_cell? _ _ z0; clear hb))
 have SBB := (((((((KB2.out).setCell (p := ⟨(w.heap.size + 1 + 1), 0, none⟩) (by dsimp only; omega) (.int .i64 0)).setCell (p := ⟨(w.heap.size + 1 + 1), 1, none⟩) (by dsimp only; omega) (.int .i64 0)).setCell (p := ⟨(w.heap.size + 1 + 1), 2, none⟩) (by dsimp only; omega) (.int .i64 0)).setCell (p := ⟨(w.heap.size + 1 + 1), 3, none⟩) (by dsimp only; omega) (.int .i64 0)).setCell (p := ⟨(w.heap.size + 1 + 1), 4, none⟩) (by dsimp only; omega) (.int .i64 0)).setCell (p := ⟨(w.heap.size + 1 + 1), 5, none⟩) (by dsimp only; omega) (.slice none 0 0)).setCell (p := ⟨(w.heap.size + 1 + 1), 6, none⟩) (by dsimp only; omega) (.slice none 0 0)
 refine bodyPost_ret (v := .tuple #[.agg #[.int .i64 0, .int .i64 0, .int .i64 0, .int .i64 0, .int .i64 0, .slice none 0 0, .slice none 0 0], .int .i64 1]) (by simp [results, Tryz.results18, go_sem, z0, f0, z1, f1, z2, f2, z3, f3, z4, f4, z5, f5, z6, f6, lr2]) rfl (TRes.no SBB)
end Go.Proofs.YteaaikmejacpaaaGreatDoor.Te

namespace Go.Proofs.YteaaikmejacpaaaGreatDoor.Te
open Go.ChangeShapes Go.WideShapes Go.ChangeAt Go.RowKit
open Fx Va Sh
set_option maxRecDepth 8000
set_option linter.unusedVariables false
set_option linter.unusedSimpArgs false

/-- An answer that is either an error or a tensor; its rows read as the lists. -/
def TSr (E K B F R O : Int) (zs : List Int) (vs : List (Int × Int)) (w : World) (en : Ending) (w' : World) : Prop := (E ≠ 0 /\ TS 0 0 0 0 0 [] [] E w en w') \/ (E = 0 /\ TS K B F R O zs vs 0 w en w')

theorem TS.no {er : Int} {w w' : World} (hb : Below w.heap.size w w') : TS 0 0 0 0 0 [] [] er w (.returned (.tuple #[.agg #[.int .i64 0, .int .i64 0, .int .i64 0, .int .i64 0, .int .i64 0, .slice none 0 0, .slice none 0 0], .int .i64 er])) w' := (TRes.no hb).ts

end Go.Proofs.YteaaikmejacpaaaGreatDoor.Te

namespace Go.Proofs.YteaaikmejacpaaaGreatDoor.Te
open Go.ChangeShapes Go.WideShapes Go.ChangeAt Go.RowKit
open Fx Va Sh
set_option maxRecDepth 8000
set_option linter.unusedVariables false
set_option linter.unusedSimpArgs false

/-- A block of two cells that may be stored to. -/
def B2 (u : World) (b : Nat) (x y : Value) : Prop := (u.cell? ⟨b, 0, none⟩ = some x /\ u.cell? ⟨b, 1, none⟩ = some y) /\ u.frozen? ⟨b, 0, none⟩ = false /\ u.frozen? ⟨b, 1, none⟩ = false
section
variable {u u' : World} {b r o Bd : Nat} {x y x' y' v : Value}
theorem B2.lt (h : B2 u b x y) : b < u.heap.size := World.block_lt_of_cell? _ _ h.1.1
theorem B2.same (hc : ∀ o, u'.cell? ⟨b, o, none⟩ = u.cell? ⟨b, o, none⟩) (hf : ∀ o, u'.frozen? ⟨b, o, none⟩ = u.frozen? ⟨b, o, none⟩) (h : B2 u b x y) : B2 u' b x y := by
 obtain ⟨⟨c0, c1⟩, f0, f1⟩ := h
 exact ⟨⟨(hc 0).trans c0, (hc 1).trans c1⟩, (hf 0).trans f0, (hf 1).trans f1⟩
theorem B2.keep (hb : Below Bd u u') (hlt : b < Bd) (h : B2 u b x y) : B2 u' b x y :=
 h.same (fun o' => World.cell?_of_block (hb.block b hlt)) (fun o' => World.frozen?_of_block (hb.block b hlt))
theorem B2.far (hr : r ≠ b) (h : B2 u b x y) : B2 (u.setCell ⟨r, o, none⟩ v) b x y := h.same (fun o' => World.cell?_setCell_far _ _ _ _ hr) (fun o' => World.frozen?_setCell _ _ _ _)
theorem B2.st (h : B2 u b x y) : B2 ((u.setCell ⟨b, 0, none⟩ x').setCell ⟨b, 1, none⟩ y') b x' y' := by
 obtain ⟨⟨c0, c1⟩, f0, f1⟩ := h
 refine ⟨⟨?_, ?_⟩, by simpa [World.frozen?_setCell] using f0, by simpa [World.frozen?_setCell] using f1⟩
 ·rw [World.cell?_setCell_other _ _ _ _ (by simp)]
  exact World.cell?_setCell_same _ _ _ c0
 ·exact World.cell?_setCell_same _ _ _ ((World.cell?_setCell_other _ _ _ _ (by simp)).trans c1)
theorem B2.new (u : World) (T : TypeId) (x y : Value) : B2 (u.alloc (Obj.cells #[x, y] T)) u.heap.size x y := by
 refine ⟨⟨?_, ?_⟩, ?_, ?_⟩ <;> go_cell
end

end Go.Proofs.YteaaikmejacpaaaGreatDoor.Te

namespace Go.Proofs.YteaaikmejacpaaaGreatDoor.Te
open Go.ChangeShapes Go.WideShapes Go.ChangeAt Go.RowKit
open Fx Va Sh
set_option maxRecDepth 8000
set_option linter.unusedVariables false
set_option linter.unusedSimpArgs false

set_option maxRecDepth 100000 in
set_option maxHeartbeats 8000000 in
theorem fu_d (K B F R O : Int) (p : Option Addr) (zs : List Int) (c : Nat) (x y : Int) (w : World) (b0 : -9223372036854775808 <= B) (b1 : B <= 9223372036854775807) (hn : zs.length <= maxLen) (RA : Hid (SlI w p zs)) (ht : ty K B F R O = true) (hv : vE zs = 0) (hx : vv K B F R O x y = true) (N : Nat) (hN : sp zs = N) :
  Calls Tryz.prog 18 #[T5 K B F R O, .slice p zs.length c, V2 x y] w (TRes K B F R O zs (List.replicate N (x, y)) 0 w) := by
 obtain ⟨h6, -, -, hsp, h1s⟩ := valid_of hv
 have h1 := h1s 0
 rw [List.drop_zero] at h1
 have hN1 : 1 <= N := by omega
 have hN2 : N <= 4096 := by omega
 have VT0 := fun w => c_vt K B F R O w
 rw [ht] at VT0
 have VT := Lib.hid VT0
 have SV0 := fun w h => c14 p zs c w hn h
 rw [hv] at SV0
 have SV := Lib.hid SV0
 have SZ0 := fun w h => c16 p zs c w hn h
 rw [sz_sp hv, hN] at SZ0
 have SZ := Lib.hid SZ0
 have CD := Lib.hid fun u h => c48g p zs c u hn (by omega) h
 have RP := Lib.hid fun (b : Nat) (u : World) h0 h1 => repT (x, y) b 0 N u hN1 hN2 h0 h1
 have VA0 := fun w => c_va K B F R O x y w b0 b1
 rw [hx] at VA0
 have VA := Lib.hid VA0
 have B0 : Hid (Below w.heap.size w (((w.alloc (Obj.cells #[Value.int .i64 K, Value.int .i64 B, Value.int .i64 F, Value.int .i64 R, Value.int .i64 O] 23)).alloc (Obj.cells #[Value.int .i64 x, Value.int .i64 y] 29)).alloc (Obj.cells #[Value.int .i64 0, Value.int .i64 0, Value.int .i64 0, Value.int .i64 0, Value.int .i64 0, Value.slice none 0 0, Value.slice none 0 0] 27))) := Lib.hid ((((Below.refl _ _).alloc (Nat.le_refl _) _).alloc (by simp) _).alloc (by simp; omega) _)
 clear VT0 ht SV0 hv VA0 hx SZ0 h1s h1 hN h6 hsp
 go_enter Tryz.func18, Tryz.ntmps18
 go_upto_region 9 with (first | (go_at_call 46; (with_reducible refine (VT.out _).mono ?_); rintro e w1 ⟨rfl, hb⟩; have KB := Lib.hid (B0.out.trans (hb.mono B0.out.size)); have c0 : w1.cell? ⟨w.heap.size, 0, none⟩ = some (.int .i64 K) := Rg.keep hb (by simp <;> omega) (by go_cell); have c1 : w1.cell? ⟨w.heap.size, 1, none⟩ = some (.int .i64 B) := Rg.keep hb (by simp <;> omega) (by go_cell); have c2 : w1.cell? ⟨w.heap.size, 2, none⟩ = some (.int .i64 F) := Rg.keep hb (by simp <;> omega) (by go_cell); have c3 : w1.cell? ⟨w.heap.size, 3, none⟩ = some (.int .i64 R) := Rg.keep hb (by simp <;> omega) (by go_cell); have c4 : w1.cell? ⟨w.heap.size, 4, none⟩ = some (.int .i64 O) := Rg.keep hb (by simp <;> omega) (by go_cell); have v0 : w1.cell? ⟨w.heap.size + 1, 0, none⟩ = some (.int .i64 x) := Rg.keep hb (by simp <;> omega) (by go_cell); have v1 : w1.cell? ⟨w.heap.size + 1, 1, none⟩ = some (.int .i64 y) := Rg.keep hb (by simp <;> omega) (by go_cell); have z0 : w1.cell? ⟨w.heap.size + 1 + 1, 0, none⟩ = some (.int .i64 0) := Rg.keep hb (by simp <;> omega) (by go_cell); have f0 : w1.frozen? ⟨w.heap.size + 1 + 1, 0, none⟩ = false := Rg.keepF hb (by simp <;> omega) (by go_cell); have z1 : w1.cell? ⟨w.heap.size + 1 + 1, 1, none⟩ = some (.int .i64 0) := Rg.keep hb (by simp <;> omega) (by go_cell); have f1 : w1.frozen? ⟨w.heap.size + 1 + 1, 1, none⟩ = false := Rg.keepF hb (by simp <;> omega) (by go_cell); have z2 : w1.cell? ⟨w.heap.size + 1 + 1, 2, none⟩ = some (.int .i64 0) := Rg.keep hb (by simp <;> omega) (by go_cell); have f2 : w1.frozen? ⟨w.heap.size + 1 + 1, 2, none⟩ = false := Rg.keepF hb (by simp <;> omega) (by go_cell); have z3 : w1.cell? ⟨w.heap.size + 1 + 1, 3, none⟩ = some (.int .i64 0) := Rg.keep hb (by simp <;> omega) (by go_cell); have f3 : w1.frozen? ⟨w.heap.size + 1 + 1, 3, none⟩ = false := Rg.keepF hb (by simp <;> omega) (by go_cell); have z4 : w1.cell? ⟨w.heap.size + 1 + 1, 4, none⟩ = some (.int .i64 0) := Rg.keep hb (by simp <;> omega) (by go_cell); have f4 : w1.frozen? ⟨w.heap.size + 1 + 1, 4, none⟩ = false := Rg.keepF hb (by simp <;> omega) (by go_cell); have z5 : w1.cell? ⟨w.heap.size + 1 + 1, 5, none⟩ = some (.slice none 0 0) := Rg.keep hb (by simp <;> omega) (by go_cell); have f5 : w1.frozen? ⟨w.heap.size + 1 + 1, 5, none⟩ = false := Rg.keepF hb (by simp <;> omega) (by go_cell); have z6 : w1.cell? ⟨w.heap.size + 1 + 1, 6, none⟩ = some (.slice none 0 0) := Rg.keep hb (by simp <;> omega) (by go_cell); have f6 : w1.frozen? ⟨w.heap.size + 1 + 1, 6, none⟩ = false := Rg.keepF hb (by simp <;> omega) (by go_cell); have lr : w.heap.size + 1 + 1 < w1.heap.size := World.block_lt_of_cell? _ _ z0; clear hb) | (go_at_call 47; (with_reducible refine (SV.out _ (Lib.hid (SlI.keep KB.out RA.out))).mono ?_); rintro e w9 ⟨rfl, rfl⟩) | (go_at_call 48; (with_reducible refine (VA.out _).mono ?_); rintro e w2 ⟨rfl, hb⟩; have KB2 := Lib.hid (KB.out.trans (hb.mono KB.out.size)); replace c0 := Rg.keep hb (Nat.lt_trans (by omega) lr) c0; replace c1 := Rg.keep hb (Nat.lt_trans (by omega) lr) c1; replace c2 := Rg.keep hb (Nat.lt_trans (by omega) lr) c2; replace c3 := Rg.keep hb (Nat.lt_trans (by omega) lr) c3; replace c4 := Rg.keep hb (Nat.lt_trans (by omega) lr) c4; replace v0 := Rg.keep hb (Nat.lt_trans (by omega) lr) v0; replace v1 := Rg.keep hb (Nat.lt_trans (by omega) lr) v1; replace z0 := Rg.keep hb lr z0; replace f0 := Rg.keepF hb lr f0; replace z1 := Rg.keep hb lr z1; replace f1 := Rg.keepF hb lr f1; replace z2 := Rg.keep hb lr z2; replace f2 := Rg.keepF hb lr f2; replace z3 := Rg.keep hb lr z3; replace f3 := Rg.keepF hb lr f3; replace z4 := Rg.keep hb lr z4; replace f4 := Rg.keepF hb lr f4; replace z5 := Rg.keep hb lr z5; replace f5 := Rg.keepF hb lr f5; replace z6 := Rg.keep hb lr z6; replace f6 := Rg.keepF hb lr f6; have lr2 : w.heap.size + 1 + 1 < w2.heap.size := World.block_lt_of_cell? _ _ z0; clear hb))
 have HS : Hid (∀ u u' : World, (u.cell? ⟨w.heap.size, 0, none⟩ = some (.int .i64 K) /\ u.cell? ⟨w.heap.size, 1, none⟩ = some (.int .i64 B) /\ u.cell? ⟨w.heap.size, 2, none⟩ = some (.int .i64 F) /\ u.cell? ⟨w.heap.size, 3, none⟩ = some (.int .i64 R) /\ u.cell? ⟨w.heap.size, 4, none⟩ = some (.int .i64 O) /\ u.cell? ⟨w.heap.size + 1, 0, none⟩ = some (.int .i64 x) /\ u.cell? ⟨w.heap.size + 1, 1, none⟩ = some (.int .i64 y) /\ Below w2.heap.size w2 u) -> Below u.heap.size u u' -> (u'.cell? ⟨w.heap.size, 0, none⟩ = some (.int .i64 K) /\ u'.cell? ⟨w.heap.size, 1, none⟩ = some (.int .i64 B) /\ u'.cell? ⟨w.heap.size, 2, none⟩ = some (.int .i64 F) /\ u'.cell? ⟨w.heap.size, 3, none⟩ = some (.int .i64 R) /\ u'.cell? ⟨w.heap.size, 4, none⟩ = some (.int .i64 O) /\ u'.cell? ⟨w.heap.size + 1, 0, none⟩ = some (.int .i64 x) /\ u'.cell? ⟨w.heap.size + 1, 1, none⟩ = some (.int .i64 y) /\ Below w2.heap.size w2 u')) := Lib.hid (fun u u' h hb => ⟨Rg.keep hb (World.block_lt_of_cell? _ _ h.1) h.1, Rg.keep hb (World.block_lt_of_cell? _ _ h.2.1) h.2.1, Rg.keep hb (World.block_lt_of_cell? _ _ h.2.2.1) h.2.2.1, Rg.keep hb (World.block_lt_of_cell? _ _ h.2.2.2.1) h.2.2.2.1, Rg.keep hb (World.block_lt_of_cell? _ _ h.2.2.2.2.1) h.2.2.2.2.1, Rg.keep hb (World.block_lt_of_cell? _ _ h.2.2.2.2.2.1) h.2.2.2.2.2.1, Rg.keep hb (World.block_lt_of_cell? _ _ h.2.2.2.2.2.2.1) h.2.2.2.2.2.2.1, h.2.2.2.2.2.2.2.trans (hb.mono h.2.2.2.2.2.2.2.size)⟩)
 refine Rk.begin (S := fun wS => wS.cell? ⟨w.heap.size, 0, none⟩ = some (.int .i64 K) /\ wS.cell? ⟨w.heap.size, 1, none⟩ = some (.int .i64 B) /\ wS.cell? ⟨w.heap.size, 2, none⟩ = some (.int .i64 F) /\ wS.cell? ⟨w.heap.size, 3, none⟩ = some (.int .i64 R) /\ wS.cell? ⟨w.heap.size, 4, none⟩ = some (.int .i64 O) /\ wS.cell? ⟨w.heap.size + 1, 0, none⟩ = some (.int .i64 x) /\ wS.cell? ⟨w.heap.size + 1, 1, none⟩ = some (.int .i64 y) /\ Below w2.heap.size w2 wS) 9 (by kernel_rfl) ⟨c0, c1, c2, c3, c4, v0, v1, Below.drew (Below.refl _ _)⟩ (fun hHeld => ?_)
 refine SqR.l [9] 0 ?_
 refine SqR.p 1 ?_
 refine SqR.l [9] 3 ?_
 refine SqR.p 5 ?_
 refine Rk.two (i := 2) (j := 4) (by kernel_rfl) rfl rfl (fun KK hK => ?_) (fun KK hK => ?_)
 ·rw [if_pos (by kernel_rfl)]
  go_simp
  ((with_reducible refine (CD.out _ (Lib.hid (SlI.keep (KB2.out.trans ((hHeld.2.2.2.2.2.2.2).mono KB2.out.size)) RA.out))).mono ?_); rintro e u2 ⟨v2, rfl, hb2, O2⟩)
  obtain ⟨pd, cd, rfl⟩ := own_slice O2
  have hNew := HS.out _ _ hHeld hb2
  have hO := own_base O2 (hHeld.2.2.2.2.2.2.2).size
  first | (refine hK.out _ _ (fun _ => hNew) (fun _ => ?_)) | (refine hK.out _ _ hNew (fun _ => ?_)) | (go_wp2_with fail; refine hK.out _ _ hNew (fun _ => ?_))
  replace hHeld := hNew
  clear hNew hb2 O2
  clear hK KK
  refine Rk.two (i := 4) (j := 6) (by kernel_rfl) rfl rfl (fun KK hK => ?_) (fun KK hK => ?_)
  ·rw [if_pos (by kernel_rfl)]
   go_simp
   have hNew := HS.out _ _ hHeld ((Below.refl _ _).alloc (Nat.le_refl _) (Obj.cells #[Value.int .i64 x, Value.int .i64 y] 29))
   have hB := B2.new u2 29 (.int .i64 x) (.int .i64 y)
   replace hO := own_belowE hO ((Below.refl _ _).alloc (Nat.le_refl _) (Obj.cells #[Value.int .i64 x, Value.int .i64 y] 29))
   refine hK.out _ _ hNew (fun _ => ?_)
   replace hHeld := hNew
   clear hNew
   clear hK KK
   refine Rk.one (i := 6) (by kernel_rfl) rfl (fun KK hK => ?_)
   rw [if_pos (by kernel_rfl)]
   go_simp
   ((with_reducible refine (SZ.out _ (Lib.hid (SlI.keep (KB2.out.trans ((hHeld.2.2.2.2.2.2.2).mono KB2.out.size)) RA.out))).mono ?_); rintro e u9 ⟨rfl, rfl⟩)
   first | (refine hK.out _ _ (fun _ => hHeld) (fun hHeld => ?_)) | (refine hK.out _ _ hHeld (fun hHeld => ?_)) | (go_wp2_with fail; refine hK.out _ _ hHeld (fun hHeld => ?_))
   clear hK KK
   refine Rk.one (i := 7) (by kernel_rfl) rfl (fun KK hK => ?_)
   rw [if_pos (by kernel_rfl)]
   go_simp
   obtain ⟨⟨hb0, hb1⟩, -⟩ := hB
   ((with_reducible refine (RP.out _ _ hb0 hb1).mono ?_); rintro e u7 ⟨rfl, hb7, O7⟩)
   generalize hgq : (u2.alloc (Obj.cells #[Value.int .i64 x, Value.int .i64 y] 29)).heap.size = gq at O7 ⊢
   have hNew := HS.out _ _ hHeld hb7
   replace hO := own_belowE hO hb7
   have hV := own_base O7 (show w2.heap.size <= gq from hgq ▸ (hHeld.2.2.2.2.2.2.2).size)
   first | (refine hK.out _ _ (fun _ => hNew) (fun _ => ?_)) | (refine hK.out _ _ hNew (fun _ => ?_)) | (go_wp2_with fail; refine hK.out _ _ hNew (fun _ => ?_))
   replace hHeld := hNew
   clear hNew hb7 O7 hb0 hb1
   clear hK KK
   refine SqR.p 8 ?_
   refine Rk.tail [9, 10] [_, _] (by kernel_rfl) (by kernel_rfl) rfl (by decide) ?_
   obtain ⟨c0, c1, c2, c3, c4, v0, v1, K8⟩ := hHeld
   replace z0 := Rg.keep K8 lr2 z0
   replace z1 := Rg.keep K8 lr2 z1
   replace z2 := Rg.keep K8 lr2 z2
   replace z3 := Rg.keep K8 lr2 z3
   replace z4 := Rg.keep K8 lr2 z4
   replace z5 := Rg.keep K8 lr2 z5
   replace z6 := Rg.keep K8 lr2 z6
   replace f0 := Rg.keepF K8 lr2 f0
   replace f1 := Rg.keepF K8 lr2 f1
   replace f2 := Rg.keepF K8 lr2 f2
   replace f3 := Rg.keepF K8 lr2 f3
   replace f4 := Rg.keepF K8 lr2 f4
   replace f5 := Rg.keepF K8 lr2 f5
   replace f6 := Rg.keepF K8 lr2 f6
   have lr7 := Nat.lt_of_lt_of_le lr2 K8.size
   have KF := KB2.out.trans (K8.mono KB2.out.size)
   clear hgq
   go_wp2_with fail
   have SBB := (((((((KF).setCell (p := ⟨(w.heap.size + 1 + 1), 0, none⟩) (by dsimp only; omega) (.int .i64 K)).setCell (p := ⟨(w.heap.size + 1 + 1), 1, none⟩) (by dsimp only; omega) (.int .i64 B)).setCell (p := ⟨(w.heap.size + 1 + 1), 2, none⟩) (by dsimp only; omega) (.int .i64 F)).setCell (p := ⟨(w.heap.size + 1 + 1), 3, none⟩) (by dsimp only; omega) (.int .i64 R)).setCell (p := ⟨(w.heap.size + 1 + 1), 4, none⟩) (by dsimp only; omega) (.int .i64 O)).setCell (p := ⟨(w.heap.size + 1 + 1), 5, none⟩) (by dsimp only; omega) (.slice pd zs.length cd)).setCell (p := ⟨(w.heap.size + 1 + 1), 6, none⟩) (by dsimp only; omega) (.slice (some ⟨gq, 0, none⟩) N N)
   refine bodyPost_ret (v := .tuple #[Tn K B F R O pd zs.length cd (some ⟨gq, 0, none⟩) N N, .int .i64 0]) (by simp [results, Tryz.results18, go_sem, z0, f0, z1, f1, z2, f2, z3, f3, z4, f4, z5, f5, z6, f6, lr7, Tn]) rfl ⟨pd, cd, some ⟨gq, 0, none⟩, N, by rw [List.length_replicate], ?_, ?_, SBB⟩
   ·exact own_base (own_set (own_set (own_set (own_set (own_set (own_set (own_set hO (by dsimp only; omega)) (by dsimp only; omega)) (by dsimp only; omega)) (by dsimp only; omega)) (by dsimp only; omega)) (by dsimp only; omega)) (by dsimp only; omega)) (by omega)
   ·rw [List.length_replicate]; exact own_base (own_set (own_set (own_set (own_set (own_set (own_set (own_set hV (by dsimp only; omega)) (by dsimp only; omega)) (by dsimp only; omega)) (by dsimp only; omega)) (by dsimp only; omega)) (by dsimp only; omega)) (by dsimp only; omega)) (by omega)
  ·rw [if_pos (by kernel_rfl)]
   go_simp
   ((with_reducible refine (SZ.out _ (Lib.hid (SlI.keep (KB2.out.trans ((hHeld.2.2.2.2.2.2.2).mono KB2.out.size)) RA.out))).mono ?_); rintro e u9 ⟨rfl, rfl⟩)
   first | (refine hK.out _ _ (fun _ => hHeld) (fun hHeld => ?_)) | (refine hK.out _ _ hHeld (fun hHeld => ?_)) | (go_wp2_with fail; refine hK.out _ _ hHeld (fun hHeld => ?_))
   clear hK KK
   refine Rk.one (i := 4) (by kernel_rfl) rfl (fun KK hK => ?_)
   rw [if_pos (by kernel_rfl)]
   go_simp
   have hNew := HS.out _ _ hHeld ((Below.refl _ _).alloc (Nat.le_refl _) (Obj.cells #[Value.int .i64 x, Value.int .i64 y] 29))
   have hB := B2.new u2 29 (.int .i64 x) (.int .i64 y)
   replace hO := own_belowE hO ((Below.refl _ _).alloc (Nat.le_refl _) (Obj.cells #[Value.int .i64 x, Value.int .i64 y] 29))
   refine hK.out _ _ hNew (fun _ => ?_)
   replace hHeld := hNew
   clear hNew
   clear hK KK
   refine Rk.one (i := 7) (by kernel_rfl) rfl (fun KK hK => ?_)
   rw [if_pos (by kernel_rfl)]
   go_simp
   obtain ⟨⟨hb0, hb1⟩, -⟩ := hB
   ((with_reducible refine (RP.out _ _ hb0 hb1).mono ?_); rintro e u7 ⟨rfl, hb7, O7⟩)
   generalize hgq : (u2.alloc (Obj.cells #[Value.int .i64 x, Value.int .i64 y] 29)).heap.size = gq at O7 ⊢
   have hNew := HS.out _ _ hHeld hb7
   replace hO := own_belowE hO hb7
   have hV := own_base O7 (show w2.heap.size <= gq from hgq ▸ (hHeld.2.2.2.2.2.2.2).size)
   first | (refine hK.out _ _ (fun _ => hNew) (fun _ => ?_)) | (refine hK.out _ _ hNew (fun _ => ?_)) | (go_wp2_with fail; refine hK.out _ _ hNew (fun _ => ?_))
   replace hHeld := hNew
   clear hNew hb7 O7 hb0 hb1
   clear hK KK
   refine SqR.p 8 ?_
   refine Rk.tail [9, 10] [_, _] (by kernel_rfl) (by kernel_rfl) rfl (by decide) ?_
   obtain ⟨c0, c1, c2, c3, c4, v0, v1, K8⟩ := hHeld
   replace z0 := Rg.keep K8 lr2 z0
   replace z1 := Rg.keep K8 lr2 z1
   replace z2 := Rg.keep K8 lr2 z2
   replace z3 := Rg.keep K8 lr2 z3
   replace z4 := Rg.keep K8 lr2 z4
   replace z5 := Rg.keep K8 lr2 z5
   replace z6 := Rg.keep K8 lr2 z6
   replace f0 := Rg.keepF K8 lr2 f0
   replace f1 := Rg.keepF K8 lr2 f1
   replace f2 := Rg.keepF K8 lr2 f2
   replace f3 := Rg.keepF K8 lr2 f3
   replace f4 := Rg.keepF K8 lr2 f4
   replace f5 := Rg.keepF K8 lr2 f5
   replace f6 := Rg.keepF K8 lr2 f6
   have lr7 := Nat.lt_of_lt_of_le lr2 K8.size
   have KF := KB2.out.trans (K8.mono KB2.out.size)
   clear hgq
   go_wp2_with fail
   have SBB := (((((((KF).setCell (p := ⟨(w.heap.size + 1 + 1), 0, none⟩) (by dsimp only; omega) (.int .i64 K)).setCell (p := ⟨(w.heap.size + 1 + 1), 1, none⟩) (by dsimp only; omega) (.int .i64 B)).setCell (p := ⟨(w.heap.size + 1 + 1), 2, none⟩) (by dsimp only; omega) (.int .i64 F)).setCell (p := ⟨(w.heap.size + 1 + 1), 3, none⟩) (by dsimp only; omega) (.int .i64 R)).setCell (p := ⟨(w.heap.size + 1 + 1), 4, none⟩) (by dsimp only; omega) (.int .i64 O)).setCell (p := ⟨(w.heap.size + 1 + 1), 5, none⟩) (by dsimp only; omega) (.slice pd zs.length cd)).setCell (p := ⟨(w.heap.size + 1 + 1), 6, none⟩) (by dsimp only; omega) (.slice (some ⟨gq, 0, none⟩) N N)
   refine bodyPost_ret (v := .tuple #[Tn K B F R O pd zs.length cd (some ⟨gq, 0, none⟩) N N, .int .i64 0]) (by simp [results, Tryz.results18, go_sem, z0, f0, z1, f1, z2, f2, z3, f3, z4, f4, z5, f5, z6, f6, lr7, Tn]) rfl ⟨pd, cd, some ⟨gq, 0, none⟩, N, by rw [List.length_replicate], ?_, ?_, SBB⟩
   ·exact own_base (own_set (own_set (own_set (own_set (own_set (own_set (own_set hO (by dsimp only; omega)) (by dsimp only; omega)) (by dsimp only; omega)) (by dsimp only; omega)) (by dsimp only; omega)) (by dsimp only; omega)) (by dsimp only; omega)) (by omega)
   ·rw [List.length_replicate]; exact own_base (own_set (own_set (own_set (own_set (own_set (own_set (own_set hV (by dsimp only; omega)) (by dsimp only; omega)) (by dsimp only; omega)) (by dsimp only; omega)) (by dsimp only; omega)) (by dsimp only; omega)) (by dsimp only; omega)) (by omega)
 ·rw [if_pos (by kernel_rfl)]
  go_simp
  have hNew := HS.out _ _ hHeld ((Below.refl _ _).alloc (Nat.le_refl _) (Obj.cells #[Value.int .i64 x, Value.int .i64 y] 29))
  have hB : B2 (w2.alloc (Obj.cells #[Value.int .i64 x, Value.int .i64 y] 29)).drew w2.heap.size (.int .i64 x) (.int .i64 y) := B2.new w2 29 _ _
  refine hK.out _ _ hNew (fun _ => ?_)
  replace hHeld := hNew
  clear hNew
  replace hHeld : (w2.alloc (Obj.cells #[Value.int .i64 x, Value.int .i64 y] 29)).drew.cell? ⟨w.heap.size, 0, none⟩ = some (.int .i64 K) /\ (w2.alloc (Obj.cells #[Value.int .i64 x, Value.int .i64 y] 29)).drew.cell? ⟨w.heap.size, 1, none⟩ = some (.int .i64 B) /\ (w2.alloc (Obj.cells #[Value.int .i64 x, Value.int .i64 y] 29)).drew.cell? ⟨w.heap.size, 2, none⟩ = some (.int .i64 F) /\ (w2.alloc (Obj.cells #[Value.int .i64 x, Value.int .i64 y] 29)).drew.cell? ⟨w.heap.size, 3, none⟩ = some (.int .i64 R) /\ (w2.alloc (Obj.cells #[Value.int .i64 x, Value.int .i64 y] 29)).drew.cell? ⟨w.heap.size, 4, none⟩ = some (.int .i64 O) /\ (w2.alloc (Obj.cells #[Value.int .i64 x, Value.int .i64 y] 29)).drew.cell? ⟨w.heap.size + 1, 0, none⟩ = some (.int .i64 x) /\ (w2.alloc (Obj.cells #[Value.int .i64 x, Value.int .i64 y] 29)).drew.cell? ⟨w.heap.size + 1, 1, none⟩ = some (.int .i64 y) /\ Below w2.heap.size w2 (w2.alloc (Obj.cells #[Value.int .i64 x, Value.int .i64 y] 29)).drew := hHeld
  clear hK KK
  refine Rk.one (i := 2) (by kernel_rfl) rfl (fun KK hK => ?_)
  rw [if_pos (by kernel_rfl)]
  go_simp
  ((with_reducible refine (CD.out _ (Lib.hid (SlI.keep (KB2.out.trans ((hHeld.2.2.2.2.2.2.2).mono KB2.out.size)) RA.out))).mono ?_); rintro e u2 ⟨v2, rfl, hb2, O2⟩)
  obtain ⟨pd, cd, rfl⟩ := own_slice O2
  have hNew := HS.out _ _ hHeld hb2
  have hO := own_base O2 (hHeld.2.2.2.2.2.2.2).size
  replace hB := B2.keep hb2 hB.lt hB
  first | (refine hK.out _ _ (fun _ => hNew) (fun _ => ?_)) | (refine hK.out _ _ hNew (fun _ => ?_)) | (go_wp2_with fail; refine hK.out _ _ hNew (fun _ => ?_))
  replace hHeld := hNew
  clear hNew hb2 O2
  clear hK KK
  refine Rk.one (i := 6) (by kernel_rfl) rfl (fun KK hK => ?_)
  rw [if_pos (by kernel_rfl)]
  go_simp
  ((with_reducible refine (SZ.out _ (Lib.hid (SlI.keep (KB2.out.trans ((hHeld.2.2.2.2.2.2.2).mono KB2.out.size)) RA.out))).mono ?_); rintro e u9 ⟨rfl, rfl⟩)
  first | (refine hK.out _ _ (fun _ => hHeld) (fun hHeld => ?_)) | (refine hK.out _ _ hHeld (fun hHeld => ?_)) | (go_wp2_with fail; refine hK.out _ _ hHeld (fun hHeld => ?_))
  clear hK KK
  refine Rk.one (i := 7) (by kernel_rfl) rfl (fun KK hK => ?_)
  rw [if_pos (by kernel_rfl)]
  go_simp
  obtain ⟨⟨hb0, hb1⟩, -⟩ := hB
  ((with_reducible refine (RP.out _ _ hb0 hb1).mono ?_); rintro e u7 ⟨rfl, hb7, O7⟩)
  generalize hgq : u2.heap.size = gq at O7 ⊢
  have hNew := HS.out _ _ hHeld hb7
  replace hO := own_belowE hO hb7
  have hV := own_base O7 (show w2.heap.size <= gq from hgq ▸ (hHeld.2.2.2.2.2.2.2).size)
  first | (refine hK.out _ _ (fun _ => hNew) (fun _ => ?_)) | (refine hK.out _ _ hNew (fun _ => ?_)) | (go_wp2_with fail; refine hK.out _ _ hNew (fun _ => ?_))
  replace hHeld := hNew
  clear hNew hb7 O7 hb0 hb1
  clear hK KK
  refine SqR.p 8 ?_
  refine Rk.tail [9, 10] [_, _] (by kernel_rfl) (by kernel_rfl) rfl (by decide) ?_
  obtain ⟨c0, c1, c2, c3, c4, v0, v1, K8⟩ := hHeld
  replace z0 := Rg.keep K8 lr2 z0
  replace z1 := Rg.keep K8 lr2 z1
  replace z2 := Rg.keep K8 lr2 z2
  replace z3 := Rg.keep K8 lr2 z3
  replace z4 := Rg.keep K8 lr2 z4
  replace z5 := Rg.keep K8 lr2 z5
  replace z6 := Rg.keep K8 lr2 z6
  replace f0 := Rg.keepF K8 lr2 f0
  replace f1 := Rg.keepF K8 lr2 f1
  replace f2 := Rg.keepF K8 lr2 f2
  replace f3 := Rg.keepF K8 lr2 f3
  replace f4 := Rg.keepF K8 lr2 f4
  replace f5 := Rg.keepF K8 lr2 f5
  replace f6 := Rg.keepF K8 lr2 f6
  have lr7 := Nat.lt_of_lt_of_le lr2 K8.size
  have KF := KB2.out.trans (K8.mono KB2.out.size)
  clear hgq
  go_wp2_with fail
  have SBB := (((((((KF).setCell (p := ⟨(w.heap.size + 1 + 1), 0, none⟩) (by dsimp only; omega) (.int .i64 K)).setCell (p := ⟨(w.heap.size + 1 + 1), 1, none⟩) (by dsimp only; omega) (.int .i64 B)).setCell (p := ⟨(w.heap.size + 1 + 1), 2, none⟩) (by dsimp only; omega) (.int .i64 F)).setCell (p := ⟨(w.heap.size + 1 + 1), 3, none⟩) (by dsimp only; omega) (.int .i64 R)).setCell (p := ⟨(w.heap.size + 1 + 1), 4, none⟩) (by dsimp only; omega) (.int .i64 O)).setCell (p := ⟨(w.heap.size + 1 + 1), 5, none⟩) (by dsimp only; omega) (.slice pd zs.length cd)).setCell (p := ⟨(w.heap.size + 1 + 1), 6, none⟩) (by dsimp only; omega) (.slice (some ⟨gq, 0, none⟩) N N)
  refine bodyPost_ret (v := .tuple #[Tn K B F R O pd zs.length cd (some ⟨gq, 0, none⟩) N N, .int .i64 0]) (by simp [results, Tryz.results18, go_sem, z0, f0, z1, f1, z2, f2, z3, f3, z4, f4, z5, f5, z6, f6, lr7, Tn]) rfl ⟨pd, cd, some ⟨gq, 0, none⟩, N, by rw [List.length_replicate], ?_, ?_, SBB⟩
  ·exact own_base (own_set (own_set (own_set (own_set (own_set (own_set (own_set hO (by dsimp only; omega)) (by dsimp only; omega)) (by dsimp only; omega)) (by dsimp only; omega)) (by dsimp only; omega)) (by dsimp only; omega)) (by dsimp only; omega)) (by omega)
  ·rw [List.length_replicate]; exact own_base (own_set (own_set (own_set (own_set (own_set (own_set (own_set hV (by dsimp only; omega)) (by dsimp only; omega)) (by dsimp only; omega)) (by dsimp only; omega)) (by dsimp only; omega)) (by dsimp only; omega)) (by dsimp only; omega)) (by omega)
end Go.Proofs.YteaaikmejacpaaaGreatDoor.Te

namespace Go.Proofs.YteaaikmejacpaaaGreatDoor.Te
open Go.ChangeShapes Go.WideShapes Go.ChangeAt Go.RowKit
open Fx Va Sh
set_option maxRecDepth 8000
set_option linter.unusedVariables false
set_option linter.unusedSimpArgs false

/-- Full. -/
theorem tfull (K B F R O : Int) (p : Option Addr) (zs : List Int) (c : Nat) (x y : Int) (w : World) (b0 : -9223372036854775808 <= B) (b1 : B <= 9223372036854775807) (hn : zs.length <= maxLen) (RA : Hid (SlI w p zs)) :
  Calls Tryz.prog 18 #[T5 K B F R O, .slice p zs.length c, V2 x y] w (TOr (fuE K B F R O zs x y) K B F R O zs (List.replicate (sp zs).toNat (x, y)) w) := by
 unfold fuE
 cases ht : ty K B F R O
 ·rw [if_neg (by decide)]
  exact (fu_a K B F R O p zs c x y w b0 b1 hn RA ht).mono (fun _ _ h => .inl ⟨by decide, h⟩)
 ·rw [if_pos rfl]
  by_cases hv : vE zs = 0
  ·rw [if_neg (by simpa using hv)]
   cases hx : vv K B F R O x y
   ·rw [if_neg (by decide)]
    exact (fu_c K B F R O p zs c x y w b0 b1 hn RA ht hv hx).mono (fun _ _ h => .inl ⟨by decide, h⟩)
   ·rw [if_pos rfl]
    obtain ⟨-, -, -, hsp, h1s⟩ := valid_of hv
    have h1 := h1s 0
    rw [List.drop_zero] at h1
    exact (fu_d K B F R O p zs c x y w b0 b1 hn RA ht hv hx (sp zs).toNat (by omega)).mono (fun _ _ h => .inr ⟨rfl, h⟩)
  ·have hb : (vE zs != 0) = true := by simpa using hv
   rw [if_pos hb]
   exact (fu_b K B F R O p zs c x y w b0 b1 hn RA ht hb).mono (fun _ _ h => .inl ⟨hv, h⟩)
set_option maxRecDepth 100000 in
set_option maxHeartbeats 8000000 in
theorem rn_x (K B F R O : Int) (p : Option Addr) (zs : List Int) (c : Nat) (q : Option Addr) (vs : List (Int × Int)) (d : Nat) (w : World) (hn : zs.length <= maxLen) (hm : vs.length <= maxLen) (RA : Hid (SlI w p zs)) (RB : Hid (SlV w q vs)) (E : Int) (hE : tE K B F R O zs vs = E) :
  Calls Tryz.prog 17 #[T5 K B F R O, .slice p zs.length c, .slice q vs.length d] w (TSr E K B F R O zs vs w) := by
 have TV0 := fun w h1 h2 => rval K B F R O p zs c q vs d w hn hm h1 h2
 rw [hE] at TV0
 obtain ⟨m, hmm⟩ : ∃ m, vs.length = m := ⟨_, rfl⟩
 have HM := Lib.hid hmm
 rw [hmm] at TV0 ⊢
 have TV := Lib.hid TV0
 have B0 : Hid (Below w.heap.size w (((w.alloc (Obj.cells #[Value.int .i64 K, Value.int .i64 B, Value.int .i64 F, Value.int .i64 R, Value.int .i64 O] 23)).alloc (Obj.cells #[Value.int .i64 0, Value.int .i64 0, Value.int .i64 0, Value.int .i64 0, Value.int .i64 0, Value.slice none 0 0, Value.slice none 0 0] 27)).alloc (Obj.cells #[Value.int .i64 K, Value.int .i64 B, Value.int .i64 F, Value.int .i64 R, Value.int .i64 O, Value.slice p zs.length c, Value.slice q m d] 27))) := Lib.hid ((((Below.refl _ _).alloc (Nat.le_refl _) _).alloc (by simp) _).alloc (by simp; omega) _)
 clear TV0 hm hE
 unfold Tn at *
 by_cases h0 : E = 0
 ·subst h0
  go_enter Tryz.func17, Tryz.ntmps17
  go_wp2_with (go_at_call 21; (with_reducible refine (TV.out _ (Lib.hid (SlI.keep B0.out RA.out)) (Lib.hid (SlV.below RB.out B0.out))).mono ?_); rintro e w1 ⟨rfl, hb⟩; have KB := Lib.hid (B0.out.trans (hb.mono B0.out.size)); have c0 : w1.cell? ⟨w.heap.size + 1 + 1, 0, none⟩ = some (.int .i64 K) := Rg.keep hb (by simp <;> omega) (by go_cell); have c1 : w1.cell? ⟨w.heap.size + 1 + 1, 1, none⟩ = some (.int .i64 B) := Rg.keep hb (by simp <;> omega) (by go_cell); have c2 : w1.cell? ⟨w.heap.size + 1 + 1, 2, none⟩ = some (.int .i64 F) := Rg.keep hb (by simp <;> omega) (by go_cell); have c3 : w1.cell? ⟨w.heap.size + 1 + 1, 3, none⟩ = some (.int .i64 R) := Rg.keep hb (by simp <;> omega) (by go_cell); have c4 : w1.cell? ⟨w.heap.size + 1 + 1, 4, none⟩ = some (.int .i64 O) := Rg.keep hb (by simp <;> omega) (by go_cell); have c5 : w1.cell? ⟨w.heap.size + 1 + 1, 5, none⟩ = some (.slice p zs.length c) := Rg.keep hb (by simp <;> omega) (by go_cell); have c6 : w1.cell? ⟨w.heap.size + 1 + 1, 6, none⟩ = some (.slice q m d) := Rg.keep hb (by simp <;> omega) (by go_cell); have z0 : w1.cell? ⟨w.heap.size + 1, 0, none⟩ = some (.int .i64 0) := Rg.keep hb (by simp <;> omega) (by go_cell); have f0 : w1.frozen? ⟨w.heap.size + 1, 0, none⟩ = false := Rg.keepF hb (by simp <;> omega) (by go_cell); have z1 : w1.cell? ⟨w.heap.size + 1, 1, none⟩ = some (.int .i64 0) := Rg.keep hb (by simp <;> omega) (by go_cell); have f1 : w1.frozen? ⟨w.heap.size + 1, 1, none⟩ = false := Rg.keepF hb (by simp <;> omega) (by go_cell); have z2 : w1.cell? ⟨w.heap.size + 1, 2, none⟩ = some (.int .i64 0) := Rg.keep hb (by simp <;> omega) (by go_cell); have f2 : w1.frozen? ⟨w.heap.size + 1, 2, none⟩ = false := Rg.keepF hb (by simp <;> omega) (by go_cell); have z3 : w1.cell? ⟨w.heap.size + 1, 3, none⟩ = some (.int .i64 0) := Rg.keep hb (by simp <;> omega) (by go_cell); have f3 : w1.frozen? ⟨w.heap.size + 1, 3, none⟩ = false := Rg.keepF hb (by simp <;> omega) (by go_cell); have z4 : w1.cell? ⟨w.heap.size + 1, 4, none⟩ = some (.int .i64 0) := Rg.keep hb (by simp <;> omega) (by go_cell); have f4 : w1.frozen? ⟨w.heap.size + 1, 4, none⟩ = false := Rg.keepF hb (by simp <;> omega) (by go_cell); have z5 : w1.cell? ⟨w.heap.size + 1, 5, none⟩ = some (.slice none 0 0) := Rg.keep hb (by simp <;> omega) (by go_cell); have f5 : w1.frozen? ⟨w.heap.size + 1, 5, none⟩ = false := Rg.keepF hb (by simp <;> omega) (by go_cell); have z6 : w1.cell? ⟨w.heap.size + 1, 6, none⟩ = some (.slice none 0 0) := Rg.keep hb (by simp <;> omega) (by go_cell); have f6 : w1.frozen? ⟨w.heap.size + 1, 6, none⟩ = false := Rg.keepF hb (by simp <;> omega) (by go_cell); have lr : w.heap.size + 1 < w1.heap.size := World.block_lt_of_cell? _ _ z0; clear hb)
  have SBB := (((((((KB.out).setCell (p := ⟨(w.heap.size + 1), 0, none⟩) (by dsimp only; omega) (.int .i64 K)).setCell (p := ⟨(w.heap.size + 1), 1, none⟩) (by dsimp only; omega) (.int .i64 B)).setCell (p := ⟨(w.heap.size + 1), 2, none⟩) (by dsimp only; omega) (.int .i64 F)).setCell (p := ⟨(w.heap.size + 1), 3, none⟩) (by dsimp only; omega) (.int .i64 R)).setCell (p := ⟨(w.heap.size + 1), 4, none⟩) (by dsimp only; omega) (.int .i64 O)).setCell (p := ⟨(w.heap.size + 1), 5, none⟩) (by dsimp only; omega) (.slice p zs.length c)).setCell (p := ⟨(w.heap.size + 1), 6, none⟩) (by dsimp only; omega) (.slice q m d)
  refine bodyPost_ret (v := .tuple #[Tn K B F R O p zs.length c q m d, .int .i64 0]) (by simp [results, Tryz.results17, go_sem, z0, f0, z1, f1, z2, f2, z3, f3, z4, f4, z5, f5, z6, f6, lr, Tn]) rfl (.inr ⟨rfl, p, c, q, d, by rw [HM.out], SlI.keep SBB RA.out, SlV.below RB.out SBB, SBB⟩)
 ·have g1 : (E == 0) = false := by simpa using h0
  have g2 : (E != 0) = true := by simpa using h0
  have HE0 := Lib.hid h0
  clear h0
  go_enter Tryz.func17, Tryz.ntmps17
  go_wp2_with (go_at_call 21; (with_reducible refine (TV.out _ (Lib.hid (SlI.keep B0.out RA.out)) (Lib.hid (SlV.below RB.out B0.out))).mono ?_); rintro e w1 ⟨rfl, hb⟩; have KB := Lib.hid (B0.out.trans (hb.mono B0.out.size)); have c0 : w1.cell? ⟨w.heap.size + 1 + 1, 0, none⟩ = some (.int .i64 K) := Rg.keep hb (by simp <;> omega) (by go_cell); have c1 : w1.cell? ⟨w.heap.size + 1 + 1, 1, none⟩ = some (.int .i64 B) := Rg.keep hb (by simp <;> omega) (by go_cell); have c2 : w1.cell? ⟨w.heap.size + 1 + 1, 2, none⟩ = some (.int .i64 F) := Rg.keep hb (by simp <;> omega) (by go_cell); have c3 : w1.cell? ⟨w.heap.size + 1 + 1, 3, none⟩ = some (.int .i64 R) := Rg.keep hb (by simp <;> omega) (by go_cell); have c4 : w1.cell? ⟨w.heap.size + 1 + 1, 4, none⟩ = some (.int .i64 O) := Rg.keep hb (by simp <;> omega) (by go_cell); have c5 : w1.cell? ⟨w.heap.size + 1 + 1, 5, none⟩ = some (.slice p zs.length c) := Rg.keep hb (by simp <;> omega) (by go_cell); have c6 : w1.cell? ⟨w.heap.size + 1 + 1, 6, none⟩ = some (.slice q m d) := Rg.keep hb (by simp <;> omega) (by go_cell); have z0 : w1.cell? ⟨w.heap.size + 1, 0, none⟩ = some (.int .i64 0) := Rg.keep hb (by simp <;> omega) (by go_cell); have f0 : w1.frozen? ⟨w.heap.size + 1, 0, none⟩ = false := Rg.keepF hb (by simp <;> omega) (by go_cell); have z1 : w1.cell? ⟨w.heap.size + 1, 1, none⟩ = some (.int .i64 0) := Rg.keep hb (by simp <;> omega) (by go_cell); have f1 : w1.frozen? ⟨w.heap.size + 1, 1, none⟩ = false := Rg.keepF hb (by simp <;> omega) (by go_cell); have z2 : w1.cell? ⟨w.heap.size + 1, 2, none⟩ = some (.int .i64 0) := Rg.keep hb (by simp <;> omega) (by go_cell); have f2 : w1.frozen? ⟨w.heap.size + 1, 2, none⟩ = false := Rg.keepF hb (by simp <;> omega) (by go_cell); have z3 : w1.cell? ⟨w.heap.size + 1, 3, none⟩ = some (.int .i64 0) := Rg.keep hb (by simp <;> omega) (by go_cell); have f3 : w1.frozen? ⟨w.heap.size + 1, 3, none⟩ = false := Rg.keepF hb (by simp <;> omega) (by go_cell); have z4 : w1.cell? ⟨w.heap.size + 1, 4, none⟩ = some (.int .i64 0) := Rg.keep hb (by simp <;> omega) (by go_cell); have f4 : w1.frozen? ⟨w.heap.size + 1, 4, none⟩ = false := Rg.keepF hb (by simp <;> omega) (by go_cell); have z5 : w1.cell? ⟨w.heap.size + 1, 5, none⟩ = some (.slice none 0 0) := Rg.keep hb (by simp <;> omega) (by go_cell); have f5 : w1.frozen? ⟨w.heap.size + 1, 5, none⟩ = false := Rg.keepF hb (by simp <;> omega) (by go_cell); have z6 : w1.cell? ⟨w.heap.size + 1, 6, none⟩ = some (.slice none 0 0) := Rg.keep hb (by simp <;> omega) (by go_cell); have f6 : w1.frozen? ⟨w.heap.size + 1, 6, none⟩ = false := Rg.keepF hb (by simp <;> omega) (by go_cell); have lr : w.heap.size + 1 < w1.heap.size := World.block_lt_of_cell? _ _ z0; clear hb)
  have SBB := (((((((KB.out).setCell (p := ⟨(w.heap.size + 1), 0, none⟩) (by dsimp only; omega) (.int .i64 0)).setCell (p := ⟨(w.heap.size + 1), 1, none⟩) (by dsimp only; omega) (.int .i64 0)).setCell (p := ⟨(w.heap.size + 1), 2, none⟩) (by dsimp only; omega) (.int .i64 0)).setCell (p := ⟨(w.heap.size + 1), 3, none⟩) (by dsimp only; omega) (.int .i64 0)).setCell (p := ⟨(w.heap.size + 1), 4, none⟩) (by dsimp only; omega) (.int .i64 0)).setCell (p := ⟨(w.heap.size + 1), 5, none⟩) (by dsimp only; omega) (.slice none 0 0)).setCell (p := ⟨(w.heap.size + 1), 6, none⟩) (by dsimp only; omega) (.slice none 0 0)
  refine bodyPost_ret (v := .tuple #[.agg #[.int .i64 0, .int .i64 0, .int .i64 0, .int .i64 0, .int .i64 0, .slice none 0 0, .slice none 0 0], .int .i64 E]) (by simp [results, Tryz.results17, go_sem, z0, f0, z1, f1, z2, f2, z3, f3, z4, f4, z5, f5, z6, f6, lr]) rfl (.inl ⟨HE0.out, TS.no SBB⟩)
end Go.Proofs.YteaaikmejacpaaaGreatDoor.Te

namespace Go.Proofs.YteaaikmejacpaaaGreatDoor.Te
open Go.ChangeShapes Go.WideShapes Go.ChangeAt Go.RowKit
open Fx Va Sh
set_option maxRecDepth 8000
set_option linter.unusedVariables false
set_option linter.unusedSimpArgs false

set_option maxRecDepth 100000 in
set_option maxHeartbeats 8000000 in
theorem rf_a (K B F R O : Int) (p : Option Addr) (zs : List Int) (c : Nat) (x y : Int) (w : World) (hn : zs.length <= maxLen) (RA : Hid (SlI w p zs)) (ht : ty K B F R O = false) :
  Calls Tryz.prog 19 #[T5 K B F R O, .slice p zs.length c, V2 x y] w (TS 0 0 0 0 0 [] [] 10 w) := by
 have VT0 := fun w => b_ty K B F R O w
 rw [ht] at VT0
 have VT := Lib.hid VT0
 have B0 : Hid (Below w.heap.size w (((w.alloc (Obj.cells #[Value.int .i64 K, Value.int .i64 B, Value.int .i64 F, Value.int .i64 R, Value.int .i64 O] 23)).alloc (Obj.cells #[Value.int .i64 x, Value.int .i64 y] 29)).alloc (Obj.cells #[Value.int .i64 0, Value.int .i64 0, Value.int .i64 0, Value.int .i64 0, Value.int .i64 0, Value.slice none 0 0, Value.slice none 0 0] 27))) := Lib.hid ((((Below.refl _ _).alloc (Nat.le_refl _) _).alloc (by simp) _).alloc (by simp; omega) _)
 clear VT0 ht
 go_enter Tryz.func19, Tryz.ntmps19
 go_wp2_with (go_at_call 52; (with_reducible refine (VT.out _).mono ?_); rintro e w1 ⟨rfl, hb⟩; have KB := Lib.hid (B0.out.trans (hb.mono B0.out.size)); have c0 : w1.cell? ⟨w.heap.size, 0, none⟩ = some (.int .i64 K) := Rg.keep hb (by simp <;> omega) (by go_cell); have c1 : w1.cell? ⟨w.heap.size, 1, none⟩ = some (.int .i64 B) := Rg.keep hb (by simp <;> omega) (by go_cell); have c2 : w1.cell? ⟨w.heap.size, 2, none⟩ = some (.int .i64 F) := Rg.keep hb (by simp <;> omega) (by go_cell); have c3 : w1.cell? ⟨w.heap.size, 3, none⟩ = some (.int .i64 R) := Rg.keep hb (by simp <;> omega) (by go_cell); have c4 : w1.cell? ⟨w.heap.size, 4, none⟩ = some (.int .i64 O) := Rg.keep hb (by simp <;> omega) (by go_cell); have v0 : w1.cell? ⟨w.heap.size + 1, 0, none⟩ = some (.int .i64 x) := Rg.keep hb (by simp <;> omega) (by go_cell); have v1 : w1.cell? ⟨w.heap.size + 1, 1, none⟩ = some (.int .i64 y) := Rg.keep hb (by simp <;> omega) (by go_cell); have z0 : w1.cell? ⟨w.heap.size + 1 + 1, 0, none⟩ = some (.int .i64 0) := Rg.keep hb (by simp <;> omega) (by go_cell); have f0 : w1.frozen? ⟨w.heap.size + 1 + 1, 0, none⟩ = false := Rg.keepF hb (by simp <;> omega) (by go_cell); have z1 : w1.cell? ⟨w.heap.size + 1 + 1, 1, none⟩ = some (.int .i64 0) := Rg.keep hb (by simp <;> omega) (by go_cell); have f1 : w1.frozen? ⟨w.heap.size + 1 + 1, 1, none⟩ = false := Rg.keepF hb (by simp <;> omega) (by go_cell); have z2 : w1.cell? ⟨w.heap.size + 1 + 1, 2, none⟩ = some (.int .i64 0) := Rg.keep hb (by simp <;> omega) (by go_cell); have f2 : w1.frozen? ⟨w.heap.size + 1 + 1, 2, none⟩ = false := Rg.keepF hb (by simp <;> omega) (by go_cell); have z3 : w1.cell? ⟨w.heap.size + 1 + 1, 3, none⟩ = some (.int .i64 0) := Rg.keep hb (by simp <;> omega) (by go_cell); have f3 : w1.frozen? ⟨w.heap.size + 1 + 1, 3, none⟩ = false := Rg.keepF hb (by simp <;> omega) (by go_cell); have z4 : w1.cell? ⟨w.heap.size + 1 + 1, 4, none⟩ = some (.int .i64 0) := Rg.keep hb (by simp <;> omega) (by go_cell); have f4 : w1.frozen? ⟨w.heap.size + 1 + 1, 4, none⟩ = false := Rg.keepF hb (by simp <;> omega) (by go_cell); have z5 : w1.cell? ⟨w.heap.size + 1 + 1, 5, none⟩ = some (.slice none 0 0) := Rg.keep hb (by simp <;> omega) (by go_cell); have f5 : w1.frozen? ⟨w.heap.size + 1 + 1, 5, none⟩ = false := Rg.keepF hb (by simp <;> omega) (by go_cell); have z6 : w1.cell? ⟨w.heap.size + 1 + 1, 6, none⟩ = some (.slice none 0 0) := Rg.keep hb (by simp <;> omega) (by go_cell); have f6 : w1.frozen? ⟨w.heap.size + 1 + 1, 6, none⟩ = false := Rg.keepF hb (by simp <;> omega) (by go_cell); have lr : w.heap.size + 1 + 1 < w1.heap.size := World.block_lt_of_cell? _ _ z0; clear hb)
 have SBB := (((((((KB.out).setCell (p := ⟨(w.heap.size + 1 + 1), 0, none⟩) (by dsimp only; omega) (.int .i64 0)).setCell (p := ⟨(w.heap.size + 1 + 1), 1, none⟩) (by dsimp only; omega) (.int .i64 0)).setCell (p := ⟨(w.heap.size + 1 + 1), 2, none⟩) (by dsimp only; omega) (.int .i64 0)).setCell (p := ⟨(w.heap.size + 1 + 1), 3, none⟩) (by dsimp only; omega) (.int .i64 0)).setCell (p := ⟨(w.heap.size + 1 + 1), 4, none⟩) (by dsimp only; omega) (.int .i64 0)).setCell (p := ⟨(w.heap.size + 1 + 1), 5, none⟩) (by dsimp only; omega) (.slice none 0 0)).setCell (p := ⟨(w.heap.size + 1 + 1), 6, none⟩) (by dsimp only; omega) (.slice none 0 0)
 refine bodyPost_ret (v := .tuple #[.agg #[.int .i64 0, .int .i64 0, .int .i64 0, .int .i64 0, .int .i64 0, .slice none 0 0, .slice none 0 0], .int .i64 10]) (by simp [results, Tryz.results19, go_sem, z0, f0, z1, f1, z2, f2, z3, f3, z4, f4, z5, f5, z6, f6, lr]) rfl (TS.no SBB)

set_option maxRecDepth 100000 in
set_option maxHeartbeats 8000000 in
theorem rf_b (K B F R O : Int) (p : Option Addr) (zs : List Int) (c : Nat) (x y : Int) (w : World) (hn : zs.length <= maxLen) (RA : Hid (SlI w p zs)) (ht : ty K B F R O = true) (hv : (vE zs != 0) = true) :
  Calls Tryz.prog 19 #[T5 K B F R O, .slice p zs.length c, V2 x y] w (TS 0 0 0 0 0 [] [] (vE zs) w) := by
 have VT0 := fun w => b_ty K B F R O w
 rw [ht] at VT0
 have VT := Lib.hid VT0
 have SV0 := fun w h => rshape p zs c w hn h
 obtain ⟨V, hV⟩ : ∃ V, vE zs = V := ⟨_, rfl⟩
 rw [hV] at SV0 hv ⊢
 have SV := Lib.hid SV0
 have hv2 : (V == 0) = false := by simpa using hv
 have B0 : Hid (Below w.heap.size w (((w.alloc (Obj.cells #[Value.int .i64 K, Value.int .i64 B, Value.int .i64 F, Value.int .i64 R, Value.int .i64 O] 23)).alloc (Obj.cells #[Value.int .i64 x, Value.int .i64 y] 29)).alloc (Obj.cells #[Value.int .i64 0, Value.int .i64 0, Value.int .i64 0, Value.int .i64 0, Value.int .i64 0, Value.slice none 0 0, Value.slice none 0 0] 27))) := Lib.hid ((((Below.refl _ _).alloc (Nat.le_refl _) _).alloc (by simp) _).alloc (by simp; omega) _)
 clear VT0 ht SV0 hV
 go_enter Tryz.func19, Tryz.ntmps19
 go_wp2_with (first | (go_at_call 52; (with_reducible refine (VT.out _).mono ?_); rintro e w1 ⟨rfl, hb⟩; have KB := Lib.hid (B0.out.trans (hb.mono B0.out.size)); have c0 : w1.cell? ⟨w.heap.size, 0, none⟩ = some (.int .i64 K) := Rg.keep hb (by simp <;> omega) (by go_cell); have c1 : w1.cell? ⟨w.heap.size, 1, none⟩ = some (.int .i64 B) := Rg.keep hb (by simp <;> omega) (by go_cell); have c2 : w1.cell? ⟨w.heap.size, 2, none⟩ = some (.int .i64 F) := Rg.keep hb (by simp <;> omega) (by go_cell); have c3 : w1.cell? ⟨w.heap.size, 3, none⟩ = some (.int .i64 R) := Rg.keep hb (by simp <;> omega) (by go_cell); have c4 : w1.cell? ⟨w.heap.size, 4, none⟩ = some (.int .i64 O) := Rg.keep hb (by simp <;> omega) (by go_cell); have v0 : w1.cell? ⟨w.heap.size + 1, 0, none⟩ = some (.int .i64 x) := Rg.keep hb (by simp <;> omega) (by go_cell); have v1 : w1.cell? ⟨w.heap.size + 1, 1, none⟩ = some (.int .i64 y) := Rg.keep hb (by simp <;> omega) (by go_cell); have z0 : w1.cell? ⟨w.heap.size + 1 + 1, 0, none⟩ = some (.int .i64 0) := Rg.keep hb (by simp <;> omega) (by go_cell); have f0 : w1.frozen? ⟨w.heap.size + 1 + 1, 0, none⟩ = false := Rg.keepF hb (by simp <;> omega) (by go_cell); have z1 : w1.cell? ⟨w.heap.size + 1 + 1, 1, none⟩ = some (.int .i64 0) := Rg.keep hb (by simp <;> omega) (by go_cell); have f1 : w1.frozen? ⟨w.heap.size + 1 + 1, 1, none⟩ = false := Rg.keepF hb (by simp <;> omega) (by go_cell); have z2 : w1.cell? ⟨w.heap.size + 1 + 1, 2, none⟩ = some (.int .i64 0) := Rg.keep hb (by simp <;> omega) (by go_cell); have f2 : w1.frozen? ⟨w.heap.size + 1 + 1, 2, none⟩ = false := Rg.keepF hb (by simp <;> omega) (by go_cell); have z3 : w1.cell? ⟨w.heap.size + 1 + 1, 3, none⟩ = some (.int .i64 0) := Rg.keep hb (by simp <;> omega) (by go_cell); have f3 : w1.frozen? ⟨w.heap.size + 1 + 1, 3, none⟩ = false := Rg.keepF hb (by simp <;> omega) (by go_cell); have z4 : w1.cell? ⟨w.heap.size + 1 + 1, 4, none⟩ = some (.int .i64 0) := Rg.keep hb (by simp <;> omega) (by go_cell); have f4 : w1.frozen? ⟨w.heap.size + 1 + 1, 4, none⟩ = false := Rg.keepF hb (by simp <;> omega) (by go_cell); have z5 : w1.cell? ⟨w.heap.size + 1 + 1, 5, none⟩ = some (.slice none 0 0) := Rg.keep hb (by simp <;> omega) (by go_cell); have f5 : w1.frozen? ⟨w.heap.size + 1 + 1, 5, none⟩ = false := Rg.keepF hb (by simp <;> omega) (by go_cell); have z6 : w1.cell? ⟨w.heap.size + 1 + 1, 6, none⟩ = some (.slice none 0 0) := Rg.keep hb (by simp <;> omega) (by go_cell); have f6 : w1.frozen? ⟨w.heap.size + 1 + 1, 6, none⟩ = false := Rg.keepF hb (by simp <;> omega) (by go_cell); have lr : w.heap.size + 1 + 1 < w1.heap.size := World.block_lt_of_cell? _ _ z0; clear hb) | (go_at_call 53; (with_reducible refine (SV.out _ (Lib.hid (SlI.keep KB.out RA.out))).mono ?_); rintro e w2 ⟨rfl, hb⟩; have KB2 := Lib.hid (KB.out.trans (hb.mono KB.out.size)); replace c0 := Rg.keep hb (Nat.lt_trans (by omega) lr) c0; replace c1 := Rg.keep hb (Nat.lt_trans (by omega) lr) c1; replace c2 := Rg.keep hb (Nat.lt_trans (by omega) lr) c2; replace c3 := Rg.keep hb (Nat.lt_trans (by omega) lr) c3; replace c4 := Rg.keep hb (Nat.lt_trans (by omega) lr) c4; replace v0 := Rg.keep hb (Nat.lt_trans (by omega) lr) v0; replace v1 := Rg.keep hb (Nat.lt_trans (by omega) lr) v1; replace z0 := Rg.keep hb lr z0; replace f0 := Rg.keepF hb lr f0; replace z1 := Rg.keep hb lr z1; replace f1 := Rg.keepF hb lr f1; replace z2 := Rg.keep hb lr z2; replace f2 := Rg.keepF hb lr f2; replace z3 := Rg.keep hb lr z3; replace f3 := Rg.keepF hb lr f3; replace z4 := Rg.keep hb lr z4; replace f4 := Rg.keepF hb lr f4; replace z5 := Rg.keep hb lr z5; replace f5 := Rg.keepF hb lr f5; replace z6 := Rg.keep hb lr z6; replace f6 := Rg.keepF hb lr f6; have lr2 : w.heap.size + 1 + 1 < w2.heap.size := World.block_lt_of_cell? _ _ z0; clear hb))
 have SBB := (((((((KB2.out).setCell (p := ⟨(w.heap.size + 1 + 1), 0, none⟩) (by dsimp only; omega) (.int .i64 0)).setCell (p := ⟨(w.heap.size + 1 + 1), 1, none⟩) (by dsimp only; omega) (.int .i64 0)).setCell (p := ⟨(w.heap.size + 1 + 1), 2, none⟩) (by dsimp only; omega) (.int .i64 0)).setCell (p := ⟨(w.heap.size + 1 + 1), 3, none⟩) (by dsimp only; omega) (.int .i64 0)).setCell (p := ⟨(w.heap.size + 1 + 1), 4, none⟩) (by dsimp only; omega) (.int .i64 0)).setCell (p := ⟨(w.heap.size + 1 + 1), 5, none⟩) (by dsimp only; omega) (.slice none 0 0)).setCell (p := ⟨(w.heap.size + 1 + 1), 6, none⟩) (by dsimp only; omega) (.slice none 0 0)
 refine bodyPost_ret (v := .tuple #[.agg #[.int .i64 0, .int .i64 0, .int .i64 0, .int .i64 0, .int .i64 0, .slice none 0 0, .slice none 0 0], .int .i64 V]) (by simp [results, Tryz.results19, go_sem, z0, f0, z1, f1, z2, f2, z3, f3, z4, f4, z5, f5, z6, f6, lr2]) rfl (TS.no SBB)

set_option maxRecDepth 100000 in
set_option maxHeartbeats 8000000 in
theorem rf_c (K B F R O : Int) (p : Option Addr) (zs : List Int) (c : Nat) (x y : Int) (w : World) (hn : zs.length <= maxLen) (RA : Hid (SlI w p zs)) (ht : ty K B F R O = true) (hv : vE zs = 0) (hx : vv K B F R O x y = false) :
  Calls Tryz.prog 19 #[T5 K B F R O, .slice p zs.length c, V2 x y] w (TS 0 0 0 0 0 [] [] 1 w) := by
 have VT0 := fun w => b_ty K B F R O w
 have VA0 := fun w => b_vv K B F R O x y w ht
 rw [ht] at VT0
 have VT := Lib.hid VT0
 have SV0 := fun w h => rshape p zs c w hn h
 rw [hv] at SV0
 have SV := Lib.hid SV0
 rw [hx] at VA0
 have VA := Lib.hid VA0
 have B0 : Hid (Below w.heap.size w (((w.alloc (Obj.cells #[Value.int .i64 K, Value.int .i64 B, Value.int .i64 F, Value.int .i64 R, Value.int .i64 O] 23)).alloc (Obj.cells #[Value.int .i64 x, Value.int .i64 y] 29)).alloc (Obj.cells #[Value.int .i64 0, Value.int .i64 0, Value.int .i64 0, Value.int .i64 0, Value.int .i64 0, Value.slice none 0 0, Value.slice none 0 0] 27))) := Lib.hid ((((Below.refl _ _).alloc (Nat.le_refl _) _).alloc (by simp) _).alloc (by simp; omega) _)
 clear VT0 ht SV0 hv VA0 hx
 go_enter Tryz.func19, Tryz.ntmps19
 go_wp2_with (first | (go_at_call 52; (with_reducible refine (VT.out _).mono ?_); rintro e w1 ⟨rfl, hb⟩; have KB := Lib.hid (B0.out.trans (hb.mono B0.out.size)); have c0 : w1.cell? ⟨w.heap.size, 0, none⟩ = some (.int .i64 K) := Rg.keep hb (by simp <;> omega) (by go_cell); have c1 : w1.cell? ⟨w.heap.size, 1, none⟩ = some (.int .i64 B) := Rg.keep hb (by simp <;> omega) (by go_cell); have c2 : w1.cell? ⟨w.heap.size, 2, none⟩ = some (.int .i64 F) := Rg.keep hb (by simp <;> omega) (by go_cell); have c3 : w1.cell? ⟨w.heap.size, 3, none⟩ = some (.int .i64 R) := Rg.keep hb (by simp <;> omega) (by go_cell); have c4 : w1.cell? ⟨w.heap.size, 4, none⟩ = some (.int .i64 O) := Rg.keep hb (by simp <;> omega) (by go_cell); have v0 : w1.cell? ⟨w.heap.size + 1, 0, none⟩ = some (.int .i64 x) := Rg.keep hb (by simp <;> omega) (by go_cell); have v1 : w1.cell? ⟨w.heap.size + 1, 1, none⟩ = some (.int .i64 y) := Rg.keep hb (by simp <;> omega) (by go_cell); have z0 : w1.cell? ⟨w.heap.size + 1 + 1, 0, none⟩ = some (.int .i64 0) := Rg.keep hb (by simp <;> omega) (by go_cell); have f0 : w1.frozen? ⟨w.heap.size + 1 + 1, 0, none⟩ = false := Rg.keepF hb (by simp <;> omega) (by go_cell); have z1 : w1.cell? ⟨w.heap.size + 1 + 1, 1, none⟩ = some (.int .i64 0) := Rg.keep hb (by simp <;> omega) (by go_cell); have f1 : w1.frozen? ⟨w.heap.size + 1 + 1, 1, none⟩ = false := Rg.keepF hb (by simp <;> omega) (by go_cell); have z2 : w1.cell? ⟨w.heap.size + 1 + 1, 2, none⟩ = some (.int .i64 0) := Rg.keep hb (by simp <;> omega) (by go_cell); have f2 : w1.frozen? ⟨w.heap.size + 1 + 1, 2, none⟩ = false := Rg.keepF hb (by simp <;> omega) (by go_cell); have z3 : w1.cell? ⟨w.heap.size + 1 + 1, 3, none⟩ = some (.int .i64 0) := Rg.keep hb (by simp <;> omega) (by go_cell); have f3 : w1.frozen? ⟨w.heap.size + 1 + 1, 3, none⟩ = false := Rg.keepF hb (by simp <;> omega) (by go_cell); have z4 : w1.cell? ⟨w.heap.size + 1 + 1, 4, none⟩ = some (.int .i64 0) := Rg.keep hb (by simp <;> omega) (by go_cell); have f4 : w1.frozen? ⟨w.heap.size + 1 + 1, 4, none⟩ = false := Rg.keepF hb (by simp <;> omega) (by go_cell); have z5 : w1.cell? ⟨w.heap.size + 1 + 1, 5, none⟩ = some (.slice none 0 0) := Rg.keep hb (by simp <;> omega) (by go_cell); have f5 : w1.frozen? ⟨w.heap.size + 1 + 1, 5, none⟩ = false := Rg.keepF hb (by simp <;> omega) (by go_cell); have z6 : w1.cell? ⟨w.heap.size + 1 + 1, 6, none⟩ = some (.slice none 0 0) := Rg.keep hb (by simp <;> omega) (by go_cell); have f6 : w1.frozen? ⟨w.heap.size + 1 + 1, 6, none⟩ = false := Rg.keepF hb (by simp <;> omega) (by go_cell); have lr : w.heap.size + 1 + 1 < w1.heap.size := World.block_lt_of_cell? _ _ z0; clear hb) | (go_at_call 53; (with_reducible refine (SV.out _ (Lib.hid (SlI.keep KB.out RA.out))).mono ?_); rintro e w2 ⟨rfl, hb⟩; have KB2 := Lib.hid (KB.out.trans (hb.mono KB.out.size)); replace c0 := Rg.keep hb (Nat.lt_trans (by omega) lr) c0; replace c1 := Rg.keep hb (Nat.lt_trans (by omega) lr) c1; replace c2 := Rg.keep hb (Nat.lt_trans (by omega) lr) c2; replace c3 := Rg.keep hb (Nat.lt_trans (by omega) lr) c3; replace c4 := Rg.keep hb (Nat.lt_trans (by omega) lr) c4; replace v0 := Rg.keep hb (Nat.lt_trans (by omega) lr) v0; replace v1 := Rg.keep hb (Nat.lt_trans (by omega) lr) v1; replace z0 := Rg.keep hb lr z0; replace f0 := Rg.keepF hb lr f0; replace z1 := Rg.keep hb lr z1; replace f1 := Rg.keepF hb lr f1; replace z2 := Rg.keep hb lr z2; replace f2 := Rg.keepF hb lr f2; replace z3 := Rg.keep hb lr z3; replace f3 := Rg.keepF hb lr f3; replace z4 := Rg.keep hb lr z4; replace f4 := Rg.keepF hb lr f4; replace z5 := Rg.keep hb lr z5; replace f5 := Rg.keepF hb lr f5; replace z6 := Rg.keep hb lr z6; replace f6 := Rg.keepF hb lr f6; have lr2 : w.heap.size + 1 + 1 < w2.heap.size := World.block_lt_of_cell? _ _ z0; clear hb) | (go_at_call 54; (with_reducible refine (VA.out _).mono ?_); rintro e w3 ⟨rfl, hb⟩; have KB3 := Lib.hid (KB2.out.trans (hb.mono KB2.out.size)); replace c0 := Rg.keep hb (Nat.lt_trans (by omega) lr2) c0; replace c1 := Rg.keep hb (Nat.lt_trans (by omega) lr2) c1; replace c2 := Rg.keep hb (Nat.lt_trans (by omega) lr2) c2; replace c3 := Rg.keep hb (Nat.lt_trans (by omega) lr2) c3; replace c4 := Rg.keep hb (Nat.lt_trans (by omega) lr2) c4; replace v0 := Rg.keep hb (Nat.lt_trans (by omega) lr2) v0; replace v1 := Rg.keep hb (Nat.lt_trans (by omega) lr2) v1; replace z0 := Rg.keep hb lr2 z0; replace f0 := Rg.keepF hb lr2 f0; replace z1 := Rg.keep hb lr2 z1; replace f1 := Rg.keepF hb lr2 f1; replace z2 := Rg.keep hb lr2 z2; replace f2 := Rg.keepF hb lr2 f2; replace z3 := Rg.keep hb lr2 z3; replace f3 := Rg.keepF hb lr2 f3; replace z4 := Rg.keep hb lr2 z4; replace f4 := Rg.keepF hb lr2 f4; replace z5 := Rg.keep hb lr2 z5; replace f5 := Rg.keepF hb lr2 f5; replace z6 := Rg.keep hb lr2 z6; replace f6 := Rg.keepF hb lr2 f6; have lr3 : w.heap.size + 1 + 1 < w3.heap.size := World.block_lt_of_cell? _ _ z0; clear hb))
 have SBB := (((((((KB3.out).setCell (p := ⟨(w.heap.size + 1 + 1), 0, none⟩) (by dsimp only; omega) (.int .i64 0)).setCell (p := ⟨(w.heap.size + 1 + 1), 1, none⟩) (by dsimp only; omega) (.int .i64 0)).setCell (p := ⟨(w.heap.size + 1 + 1), 2, none⟩) (by dsimp only; omega) (.int .i64 0)).setCell (p := ⟨(w.heap.size + 1 + 1), 3, none⟩) (by dsimp only; omega) (.int .i64 0)).setCell (p := ⟨(w.heap.size + 1 + 1), 4, none⟩) (by dsimp only; omega) (.int .i64 0)).setCell (p := ⟨(w.heap.size + 1 + 1), 5, none⟩) (by dsimp only; omega) (.slice none 0 0)).setCell (p := ⟨(w.heap.size + 1 + 1), 6, none⟩) (by dsimp only; omega) (.slice none 0 0)
 refine bodyPost_ret (v := .tuple #[.agg #[.int .i64 0, .int .i64 0, .int .i64 0, .int .i64 0, .int .i64 0, .slice none 0 0, .slice none 0 0], .int .i64 1]) (by simp [results, Tryz.results19, go_sem, z0, f0, z1, f1, z2, f2, z3, f3, z4, f4, z5, f5, z6, f6, lr3]) rfl (TS.no SBB)
end Go.Proofs.YteaaikmejacpaaaGreatDoor.Te

namespace Go.Proofs.YteaaikmejacpaaaGreatDoor.Te
open Go.ChangeShapes Go.WideShapes Go.ChangeAt Go.RowKit
open Fx Va Sh
set_option maxRecDepth 8000
set_option linter.unusedVariables false
set_option linter.unusedSimpArgs false

set_option maxRecDepth 100000 in
set_option maxHeartbeats 8000000 in
theorem rf_d (K B F R O : Int) (p : Option Addr) (zs : List Int) (c : Nat) (x y : Int) (w : World) (hn : zs.length <= maxLen) (RA : Hid (SlI w p zs)) (ht : ty K B F R O = true) (hv : vE zs = 0) (hx : vv K B F R O x y = true) (N : Nat) (hN : sp zs = N) :
  Calls Tryz.prog 19 #[T5 K B F R O, .slice p zs.length c, V2 x y] w (TS K B F R O zs (List.replicate N (x, y)) 0 w) := by
 obtain ⟨h6, -, -, hsp, h1s⟩ := valid_of hv
 have h1 := h1s 0
 rw [List.drop_zero] at h1
 have hN1 : 1 <= N := by omega
 have hN2 : N <= 4096 := by omega
 have VT0 := fun w => b_ty K B F R O w
 have VA0 := fun w => b_vv K B F R O x y w ht
 rw [ht] at VT0
 have VT := Lib.hid VT0
 have SV0 := fun w h => rshape p zs c w hn h
 have SZ0 := fun w h => rsize p zs c w h hv
 rw [hN] at SZ0
 have SZ := Lib.hid SZ0
 rw [hv] at SV0
 have SV := Lib.hid SV0
 rw [hx] at VA0
 have VA := Lib.hid VA0
 have B0 : Hid (Below w.heap.size w (((w.alloc (Obj.cells #[Value.int .i64 K, Value.int .i64 B, Value.int .i64 F, Value.int .i64 R, Value.int .i64 O] 23)).alloc (Obj.cells #[Value.int .i64 x, Value.int .i64 y] 29)).alloc (Obj.cells #[Value.int .i64 0, Value.int .i64 0, Value.int .i64 0, Value.int .i64 0, Value.int .i64 0, Value.slice none 0 0, Value.slice none 0 0] 27))) := Lib.hid ((((Below.refl _ _).alloc (Nat.le_refl _) _).alloc (by simp) _).alloc (by simp; omega) _)
 clear VT0 ht SV0 hv VA0 hx SZ0 h1s h1 hN h6 hsp
 go_enter Tryz.func19, Tryz.ntmps19
 go_upto_region 9 with (first | (go_at_call 52; (with_reducible refine (VT.out _).mono ?_); rintro e w1 ⟨rfl, hb⟩; have KB := Lib.hid (B0.out.trans (hb.mono B0.out.size)); have c0 : w1.cell? ⟨w.heap.size, 0, none⟩ = some (.int .i64 K) := Rg.keep hb (by simp <;> omega) (by go_cell); have c1 : w1.cell? ⟨w.heap.size, 1, none⟩ = some (.int .i64 B) := Rg.keep hb (by simp <;> omega) (by go_cell); have c2 : w1.cell? ⟨w.heap.size, 2, none⟩ = some (.int .i64 F) := Rg.keep hb (by simp <;> omega) (by go_cell); have c3 : w1.cell? ⟨w.heap.size, 3, none⟩ = some (.int .i64 R) := Rg.keep hb (by simp <;> omega) (by go_cell); have c4 : w1.cell? ⟨w.heap.size, 4, none⟩ = some (.int .i64 O) := Rg.keep hb (by simp <;> omega) (by go_cell); have v0 : w1.cell? ⟨w.heap.size + 1, 0, none⟩ = some (.int .i64 x) := Rg.keep hb (by simp <;> omega) (by go_cell); have v1 : w1.cell? ⟨w.heap.size + 1, 1, none⟩ = some (.int .i64 y) := Rg.keep hb (by simp <;> omega) (by go_cell); have z0 : w1.cell? ⟨w.heap.size + 1 + 1, 0, none⟩ = some (.int .i64 0) := Rg.keep hb (by simp <;> omega) (by go_cell); have f0 : w1.frozen? ⟨w.heap.size + 1 + 1, 0, none⟩ = false := Rg.keepF hb (by simp <;> omega) (by go_cell); have z1 : w1.cell? ⟨w.heap.size + 1 + 1, 1, none⟩ = some (.int .i64 0) := Rg.keep hb (by simp <;> omega) (by go_cell); have f1 : w1.frozen? ⟨w.heap.size + 1 + 1, 1, none⟩ = false := Rg.keepF hb (by simp <;> omega) (by go_cell); have z2 : w1.cell? ⟨w.heap.size + 1 + 1, 2, none⟩ = some (.int .i64 0) := Rg.keep hb (by simp <;> omega) (by go_cell); have f2 : w1.frozen? ⟨w.heap.size + 1 + 1, 2, none⟩ = false := Rg.keepF hb (by simp <;> omega) (by go_cell); have z3 : w1.cell? ⟨w.heap.size + 1 + 1, 3, none⟩ = some (.int .i64 0) := Rg.keep hb (by simp <;> omega) (by go_cell); have f3 : w1.frozen? ⟨w.heap.size + 1 + 1, 3, none⟩ = false := Rg.keepF hb (by simp <;> omega) (by go_cell); have z4 : w1.cell? ⟨w.heap.size + 1 + 1, 4, none⟩ = some (.int .i64 0) := Rg.keep hb (by simp <;> omega) (by go_cell); have f4 : w1.frozen? ⟨w.heap.size + 1 + 1, 4, none⟩ = false := Rg.keepF hb (by simp <;> omega) (by go_cell); have z5 : w1.cell? ⟨w.heap.size + 1 + 1, 5, none⟩ = some (.slice none 0 0) := Rg.keep hb (by simp <;> omega) (by go_cell); have f5 : w1.frozen? ⟨w.heap.size + 1 + 1, 5, none⟩ = false := Rg.keepF hb (by simp <;> omega) (by go_cell); have z6 : w1.cell? ⟨w.heap.size + 1 + 1, 6, none⟩ = some (.slice none 0 0) := Rg.keep hb (by simp <;> omega) (by go_cell); have f6 : w1.frozen? ⟨w.heap.size + 1 + 1, 6, none⟩ = false := Rg.keepF hb (by simp <;> omega) (by go_cell); have lr : w.heap.size + 1 + 1 < w1.heap.size := World.block_lt_of_cell? _ _ z0; clear hb) | (go_at_call 53; (with_reducible refine (SV.out _ (Lib.hid (SlI.keep KB.out RA.out))).mono ?_); rintro e w2 ⟨rfl, hb⟩; have KB2 := Lib.hid (KB.out.trans (hb.mono KB.out.size)); replace c0 := Rg.keep hb (Nat.lt_trans (by omega) lr) c0; replace c1 := Rg.keep hb (Nat.lt_trans (by omega) lr) c1; replace c2 := Rg.keep hb (Nat.lt_trans (by omega) lr) c2; replace c3 := Rg.keep hb (Nat.lt_trans (by omega) lr) c3; replace c4 := Rg.keep hb (Nat.lt_trans (by omega) lr) c4; replace v0 := Rg.keep hb (Nat.lt_trans (by omega) lr) v0; replace v1 := Rg.keep hb (Nat.lt_trans (by omega) lr) v1; replace z0 := Rg.keep hb lr z0; replace f0 := Rg.keepF hb lr f0; replace z1 := Rg.keep hb lr z1; replace f1 := Rg.keepF hb lr f1; replace z2 := Rg.keep hb lr z2; replace f2 := Rg.keepF hb lr f2; replace z3 := Rg.keep hb lr z3; replace f3 := Rg.keepF hb lr f3; replace z4 := Rg.keep hb lr z4; replace f4 := Rg.keepF hb lr f4; replace z5 := Rg.keep hb lr z5; replace f5 := Rg.keepF hb lr f5; replace z6 := Rg.keep hb lr z6; replace f6 := Rg.keepF hb lr f6; have lr2 : w.heap.size + 1 + 1 < w2.heap.size := World.block_lt_of_cell? _ _ z0; clear hb) | (go_at_call 54; (with_reducible refine (VA.out _).mono ?_); rintro e w3 ⟨rfl, hb⟩; have KB3 := Lib.hid (KB2.out.trans (hb.mono KB2.out.size)); replace c0 := Rg.keep hb (Nat.lt_trans (by omega) lr2) c0; replace c1 := Rg.keep hb (Nat.lt_trans (by omega) lr2) c1; replace c2 := Rg.keep hb (Nat.lt_trans (by omega) lr2) c2; replace c3 := Rg.keep hb (Nat.lt_trans (by omega) lr2) c3; replace c4 := Rg.keep hb (Nat.lt_trans (by omega) lr2) c4; replace v0 := Rg.keep hb (Nat.lt_trans (by omega) lr2) v0; replace v1 := Rg.keep hb (Nat.lt_trans (by omega) lr2) v1; replace z0 := Rg.keep hb lr2 z0; replace f0 := Rg.keepF hb lr2 f0; replace z1 := Rg.keep hb lr2 z1; replace f1 := Rg.keepF hb lr2 f1; replace z2 := Rg.keep hb lr2 z2; replace f2 := Rg.keepF hb lr2 f2; replace z3 := Rg.keep hb lr2 z3; replace f3 := Rg.keepF hb lr2 f3; replace z4 := Rg.keep hb lr2 z4; replace f4 := Rg.keepF hb lr2 f4; replace z5 := Rg.keep hb lr2 z5; replace f5 := Rg.keepF hb lr2 f5; replace z6 := Rg.keep hb lr2 z6; replace f6 := Rg.keepF hb lr2 f6; have lr3 : w.heap.size + 1 + 1 < w3.heap.size := World.block_lt_of_cell? _ _ z0; clear hb))
 have hsw := KB3.out.size
 go_wp2_with fail
 have HZ0 : Hid ((w3.cell? ⟨w.heap.size + 1 + 1, 0, none⟩ = some (.int .i64 0) /\ w3.cell? ⟨w.heap.size + 1 + 1, 1, none⟩ = some (.int .i64 0) /\ w3.cell? ⟨w.heap.size + 1 + 1, 2, none⟩ = some (.int .i64 0) /\ w3.cell? ⟨w.heap.size + 1 + 1, 3, none⟩ = some (.int .i64 0) /\ w3.cell? ⟨w.heap.size + 1 + 1, 4, none⟩ = some (.int .i64 0) /\ w3.cell? ⟨w.heap.size + 1 + 1, 5, none⟩ = some (.slice none 0 0) /\ w3.cell? ⟨w.heap.size + 1 + 1, 6, none⟩ = some (.slice none 0 0)) /\ (w3.frozen? ⟨w.heap.size + 1 + 1, 0, none⟩ = false /\ w3.frozen? ⟨w.heap.size + 1 + 1, 1, none⟩ = false /\ w3.frozen? ⟨w.heap.size + 1 + 1, 2, none⟩ = false /\ w3.frozen? ⟨w.heap.size + 1 + 1, 3, none⟩ = false /\ w3.frozen? ⟨w.heap.size + 1 + 1, 4, none⟩ = false /\ w3.frozen? ⟨w.heap.size + 1 + 1, 5, none⟩ = false /\ w3.frozen? ⟨w.heap.size + 1 + 1, 6, none⟩ = false)) := Lib.hid ⟨⟨z0, z1, z2, z3, z4, z5, z6⟩, f0, f1, f2, f3, f4, f5, f6⟩
 have HV0 : Hid (w3.cell? ⟨w.heap.size + 1, 0, none⟩ = some (.int .i64 x) /\ w3.cell? ⟨w.heap.size + 1, 1, none⟩ = some (.int .i64 y)) := Lib.hid ⟨v0, v1⟩
 have HD0 := Lib.hid (B7.new w3 27 (.int .i64 K) (.int .i64 B) (.int .i64 F) (.int .i64 R) (.int .i64 O) (.slice p zs.length c) (.slice none 0 0))
 have HB0 : Hid ((B7 (w3.alloc (Obj.cells #[Value.int .i64 K, Value.int .i64 B, Value.int .i64 F, Value.int .i64 R, Value.int .i64 O, Value.slice p zs.length c, Value.slice none 0 0] 27)) (w3.heap.size) (.int .i64 K) (.int .i64 B) (.int .i64 F) (.int .i64 R) (.int .i64 O) (.slice p zs.length c) (.slice none 0 0)) /\ (w3.alloc (Obj.cells #[Value.int .i64 K, Value.int .i64 B, Value.int .i64 F, Value.int .i64 R, Value.int .i64 O, Value.slice p zs.length c, Value.slice none 0 0] 27)).ownsRow (w3.heap.size + 1) 29 2 (.slice none 0 0) 0 (flV (List.replicate 0 (x, y))) /\ Below w3.heap.size w3 (w3.alloc (Obj.cells #[Value.int .i64 K, Value.int .i64 B, Value.int .i64 F, Value.int .i64 R, Value.int .i64 O, Value.slice p zs.length c, Value.slice none 0 0] 27)) /\ w3.heap.size + 1 <= (w3.alloc (Obj.cells #[Value.int .i64 K, Value.int .i64 B, Value.int .i64 F, Value.int .i64 R, Value.int .i64 O, Value.slice p zs.length c, Value.slice none 0 0] 27)).heap.size) := Lib.hid ⟨HD0.out, World.ownsRow_nil _ _ _ _, (Below.refl _ _).alloc (Nat.le_refl _) _, by simp⟩
 clear z0 f0 z1 f1 z2 f2 z3 f3 z4 f4 z5 f5 z6 f6 c0 c1 c2 c3 c4 v0 v1 HD0
 go_loopw [10] (fun iv wr => ∃ (j : Nat) (qv : Option Addr) (dv : Nat), iv = .int .i64 (j : Int) /\ j <= N /\ Hid ((B7 wr (w3.heap.size) (.int .i64 K) (.int .i64 B) (.int .i64 F) (.int .i64 R) (.int .i64 O) (.slice p zs.length c) (.slice qv j dv)) /\ wr.ownsRow (w3.heap.size + 1) 29 2 (.slice qv j dv) j (flV (List.replicate j (x, y))) /\ Below w3.heap.size w3 wr /\ w3.heap.size + 1 <= wr.heap.size)) (fun iv _ => N - (intOf iv).toNat)
 case atStart => exact ⟨0, none, 0, rfl, Nat.zero_le _, HB0⟩
 case round =>
  obtain ⟨j, qv, dv, rfl, hj, HJ⟩ := hrel
  clear HB0
  obtain ⟨DJ, VJ, KJ, hszr⟩ := HJ.out
  have SZJ := Lib.hid (SZ.out wr (Lib.hid (SlI.keep (KB3.out.trans (KJ.mono KB3.out.size)) RA.out)))
  by_cases hjN : j < N
  ·have hj2 : (j : Int) < N := by omega
   have lv : w.heap.size + 1 < w3.heap.size := by omega
   have v0 := Rg.keep KJ lv HV0.out.1
   have v1 := Rg.keep KJ lv HV0.out.2
   obtain ⟨⟨m0, m1, m2, m3, m4, m5, m6⟩, ⟨g0, g1, g2, g3, g4, g5, g6⟩⟩ := DJ
   have DJ := HJ.out.1
   have lDJ := DJ.lt
   obtain ⟨i0, hi, hz0, hz1, hz2⟩ := info_parts infoV
   go_wp2_with (first | (go_at_call 55; (with_reducible refine SZJ.out.mono ?_); rintro e w' ⟨rfl, rfl⟩) | (at_builtin; refine wpList_append_own _ rfl _ _ 25 rfl (w3.heap.size + 1) 29 i0 (.agg #[.int .i64 0, .int .i64 0]) 2 16 Tryz.underlying25 hi hz0 hz1 hz2 rfl (by decide) _ _ _ rfl (VJ.alloc (Obj.cells #[Value.int .i64 x, Value.int .i64 y] 29)) ⟨wr.heap.size, 0, none⟩ 1 1 [.int .i64 x, .int .i64 y] rfl rfl ?_ ?_ ?_ ?_ ?_ ?_; exact news2 wr x y rfl; exact news1 x y; (unfold maxLen; omega); omega; (simp; omega); intro v8 w8 hown8 hgrow _; obtain ⟨qn, dn, rfl⟩ := own_slice hown8; have hrow := row_base VJ; have D8 := Lib.hid ((DJ.alloc (Obj.cells #[Value.int .i64 x, Value.int .i64 y] 29)).grown hgrow (fun e => by have := hrow _ e.symm; omega)); have V8 := Lib.hid hown8; have K8 := Lib.hid ((KJ.alloc KJ.size (Obj.cells #[Value.int .i64 x, Value.int .i64 y] 29)).grown hgrow (by simp; omega) (fun k e => by have := hrow _ e; omega)); have hs8 := hgrow.size; simp at hs8; obtain ⟨⟨m0, m1, m2, m3, m4, m5, m6⟩, ⟨g0, g1, g2, g3, g4, g5, g6⟩⟩ := D8.out; have lD8 := D8.out.lt; clear hown8 hgrow))
   go_roundw
   case rel =>
    refine ⟨j + 1, qn, dn, by simp, by omega, Lib.hid ⟨D8.out.set6, own_set (y := _) ?_ (by dsimp only; omega), K8.out.setCell (p := ⟨w3.heap.size, 6, none⟩) (by dsimp only; omega) _, by rw [World.size_setCell]; omega⟩⟩
    have h := V8.out
    rw [show flV (List.replicate j (x, y)) ++ [Value.int .i64 x, .int .i64 y] = flV (List.replicate (j + 1) (x, y)) by rw [List.replicate_succ', flV_snoc]] at h
    exact h
   case measure => simp [intOf]; omega
  ·obtain rfl : j = N := by omega
   have gN : decide ((j : Int) < j) = false := by simp
   obtain ⟨⟨zz0, zz1, zz2, zz3, zz4, zz5, zz6⟩, ff0, ff1, ff2, ff3, ff4, ff5, ff6⟩ := HZ0.out
   have z0 := Rg.keep KJ lr3 zz0
   have f0 := Rg.keepF KJ lr3 ff0
   have z1 := Rg.keep KJ lr3 zz1
   have f1 := Rg.keepF KJ lr3 ff1
   have z2 := Rg.keep KJ lr3 zz2
   have f2 := Rg.keepF KJ lr3 ff2
   have z3 := Rg.keep KJ lr3 zz3
   have f3 := Rg.keepF KJ lr3 ff3
   have z4 := Rg.keep KJ lr3 zz4
   have f4 := Rg.keepF KJ lr3 ff4
   have z5 := Rg.keep KJ lr3 zz5
   have f5 := Rg.keepF KJ lr3 ff5
   have z6 := Rg.keep KJ lr3 zz6
   have f6 := Rg.keepF KJ lr3 ff6
   have lr : w.heap.size + 1 + 1 < wr.heap.size := by omega
   have KF := KB3.out.trans (KJ.mono KB3.out.size)
   clear zz0 ff0 zz1 ff1 zz2 ff2 zz3 ff3 zz4 ff4 zz5 ff5 zz6 ff6 HZ0
   obtain ⟨⟨m0, m1, m2, m3, m4, m5, m6⟩, -⟩ := DJ
   go_wp2_with (go_at_call 55; (with_reducible refine SZJ.out.mono ?_); rintro e w' ⟨rfl, rfl⟩)
   have SBB := (((((((KF).setCell (p := ⟨(w.heap.size + 1 + 1), 0, none⟩) (by dsimp only; omega) (.int .i64 K)).setCell (p := ⟨(w.heap.size + 1 + 1), 1, none⟩) (by dsimp only; omega) (.int .i64 B)).setCell (p := ⟨(w.heap.size + 1 + 1), 2, none⟩) (by dsimp only; omega) (.int .i64 F)).setCell (p := ⟨(w.heap.size + 1 + 1), 3, none⟩) (by dsimp only; omega) (.int .i64 R)).setCell (p := ⟨(w.heap.size + 1 + 1), 4, none⟩) (by dsimp only; omega) (.int .i64 O)).setCell (p := ⟨(w.heap.size + 1 + 1), 5, none⟩) (by dsimp only; omega) (.slice p zs.length c)).setCell (p := ⟨(w.heap.size + 1 + 1), 6, none⟩) (by dsimp only; omega) (.slice qv j dv)
   refine bodyPost_ret (v := .tuple #[Tn K B F R O p zs.length c qv j dv, .int .i64 0]) (by simp [results, Tryz.results19, go_sem, z0, f0, z1, f1, z2, f2, z3, f3, z4, f4, z5, f5, z6, f6, lr, Tn]) rfl ⟨p, c, qv, dv, by rw [List.length_replicate], SlI.keep SBB RA.out, ?_, SBB⟩
   exact SlV_of (own_base (own_set (own_set (own_set (own_set (own_set (own_set (own_set VJ (by dsimp only; omega)) (by dsimp only; omega)) (by dsimp only; omega)) (by dsimp only; omega)) (by dsimp only; omega)) (by dsimp only; omega)) (by dsimp only; omega)) (Nat.le_refl _)) List.length_replicate
end Go.Proofs.YteaaikmejacpaaaGreatDoor.Te

namespace Go.Proofs.YteaaikmejacpaaaGreatDoor.Te
open Go.ChangeShapes Go.WideShapes Go.ChangeAt Go.RowKit
open Fx Va Sh
set_option maxRecDepth 8000
set_option linter.unusedVariables false
set_option linter.unusedSimpArgs false

theorem rfull (K B F R O : Int) (p : Option Addr) (zs : List Int) (c : Nat) (x y : Int) (w : World) (hn : zs.length <= maxLen) (RA : Hid (SlI w p zs)) :
  Calls Tryz.prog 19 #[T5 K B F R O, .slice p zs.length c, V2 x y] w (TSr (fuE K B F R O zs x y) K B F R O zs (List.replicate (sp zs).toNat (x, y)) w) := by
 unfold fuE
 cases ht : ty K B F R O
 ·rw [if_neg (by decide)]
  exact (rf_a K B F R O p zs c x y w hn RA ht).mono (fun _ _ h => .inl ⟨by decide, h⟩)
 ·rw [if_pos rfl]
  by_cases hv : vE zs = 0
  ·rw [if_neg (by simpa using hv)]
   cases hx : vv K B F R O x y
   ·rw [if_neg (by decide)]
    exact (rf_c K B F R O p zs c x y w hn RA ht hv hx).mono (fun _ _ h => .inl ⟨by decide, h⟩)
   ·rw [if_pos rfl]
    obtain ⟨-, -, -, hsp, h1s⟩ := valid_of hv
    have h1 := h1s 0
    rw [List.drop_zero] at h1
    exact (rf_d K B F R O p zs c x y w hn RA ht hv hx (sp zs).toNat (by omega)).mono (fun _ _ h => .inr ⟨rfl, h⟩)
  ·have hb : (vE zs != 0) = true := by simpa using hv
   rw [if_pos hb]
   exact (rf_b K B F R O p zs c x y w hn RA ht hb).mono (fun _ _ h => .inl ⟨hv, h⟩)
theorem fuE_ok {K B F R O : Int} {zs : List Int} {x y : Int} (h : fuE K B F R O zs x y = 0) : vE zs = 0 := by
 unfold fuE at h
 split at h
 ·split at h
  ·exact h
  ·rename_i hv
   simpa using hv
 ·cases h
/-- Both News give the same answer. -/
theorem both_nw (K B F R O : Int) (p : Option Addr) (zs : List Int) (c : Nat) (q : Option Addr) (vs : List (Int × Int)) (d : Nat) (b0 : -9223372036854775808 <= B) (b1 : B <= 9223372036854775807) (hn : zs.length <= maxLen) (hm : vs.length <= maxLen) : ∃ (Ka Ba Fa Ra Oa : Int) (zsa : List Int) (vsa : List (Int × Int)) (Ea : Int), zsa.length <= maxLen /\ vsa.length <= maxLen /\ (∀ u, Hid (SlI u p zs) -> Hid (SlV u q vs) -> Calls Tryz.prog 16 #[T5 K B F R O, .slice p zs.length c, .slice q vs.length d] u (TS Ka Ba Fa Ra Oa zsa vsa Ea u)) /\ (∀ u, Hid (SlI u p zs) -> Hid (SlV u q vs) -> Calls Tryz.prog 17 #[T5 K B F R O, .slice p zs.length c, .slice q vs.length d] u (TS Ka Ba Fa Ra Oa zsa vsa Ea u)) := by
 by_cases ht : tE K B F R O zs vs = 0
 ·refine ⟨K, B, F, R, O, zs, vs, 0, hn, hm, fun u h1 h2 => (tnew K B F R O p zs c q vs d u b0 b1 hn hm h1 h2).mono fun _ _ h => ?_, fun u h1 h2 => (rn_x K B F R O p zs c q vs d u hn hm h1 h2 0 ht).mono fun _ _ h => ?_⟩
  ·rcases h with ⟨h, _⟩ | ⟨_, h⟩
   ·exact absurd ht h
   ·exact h.ts
  ·rcases h with ⟨h, _⟩ | ⟨_, h⟩
   ·exact absurd rfl h
   ·exact h
 ·refine ⟨0, 0, 0, 0, 0, [], [], tE K B F R O zs vs, Nat.zero_le _, Nat.zero_le _, fun u h1 h2 => (tnew K B F R O p zs c q vs d u b0 b1 hn hm h1 h2).mono fun _ _ h => ?_, fun u h1 h2 => (rn_x K B F R O p zs c q vs d u hn hm h1 h2 _ rfl).mono fun _ _ h => ?_⟩
  ·rcases h with ⟨_, h⟩ | ⟨h, _⟩
   ·exact h.ts
   ·exact absurd h ht
  ·rcases h with ⟨_, h⟩ | ⟨h, _⟩
   ·exact h
   ·exact absurd h ht
/-- Both Fulls give the same answer. -/
theorem both_fu (K B F R O : Int) (p : Option Addr) (zs : List Int) (c : Nat) (x y : Int) (b0 : -9223372036854775808 <= B) (b1 : B <= 9223372036854775807) (hn : zs.length <= maxLen) : ∃ (Ka Ba Fa Ra Oa : Int) (zsa : List Int) (vsa : List (Int × Int)) (Ea : Int), zsa.length <= maxLen /\ vsa.length <= maxLen /\ (∀ u, Hid (SlI u p zs) -> Calls Tryz.prog 18 #[T5 K B F R O, .slice p zs.length c, V2 x y] u (TS Ka Ba Fa Ra Oa zsa vsa Ea u)) /\ (∀ u, Hid (SlI u p zs) -> Calls Tryz.prog 19 #[T5 K B F R O, .slice p zs.length c, V2 x y] u (TS Ka Ba Fa Ra Oa zsa vsa Ea u)) := by
 by_cases ht : fuE K B F R O zs x y = 0
 ·obtain ⟨-, -, -, hsp, h1s⟩ := valid_of (fuE_ok ht)
  have h1 := h1s 0
  rw [List.drop_zero] at h1
  refine ⟨K, B, F, R, O, zs, List.replicate (sp zs).toNat (x, y), 0, hn, by rw [List.length_replicate]; unfold maxLen; omega, fun u h1 => (tfull K B F R O p zs c x y u b0 b1 hn h1).mono fun _ _ h => ?_, fun u h1 => (rfull K B F R O p zs c x y u hn h1).mono fun _ _ h => ?_⟩
  ·rcases h with ⟨h, _⟩ | ⟨_, h⟩
   ·exact absurd ht h
   ·exact h.ts
  ·rcases h with ⟨h, _⟩ | ⟨_, h⟩
   ·exact absurd ht h
   ·exact h
 ·refine ⟨0, 0, 0, 0, 0, [], [], fuE K B F R O zs x y, Nat.zero_le _, Nat.zero_le _, fun u h1 => (tfull K B F R O p zs c x y u b0 b1 hn h1).mono fun _ _ h => ?_, fun u h1 => (rfull K B F R O p zs c x y u hn h1).mono fun _ _ h => ?_⟩
  ·rcases h with ⟨_, h⟩ | ⟨h, _⟩
   ·exact h.ts
   ·exact absurd h ht
  ·rcases h with ⟨_, h⟩ | ⟨h, _⟩
   ·exact h
   ·exact absurd h ht

set_option maxRecDepth 100000 in
set_option maxHeartbeats 4000000 in
theorem lv_a (K B F R O : Int) (p : Option Addr) (zs : List Int) (c : Nat) (q : Option Addr) (vs : List (Int × Int)) (d : Nat) (x y : Int) (w : World) (b0 : -9223372036854775808 <= B) (b1 : B <= 9223372036854775807) (hn : zs.length <= maxLen) (hm : vs.length <= maxLen) (RA : Hid (SlI w p zs)) (RB : Hid (SlV w q vs)) (hLA : Tx.LA w) (hs : (decide ((vs.length : Int) <= 5000) && decide (zs.length <= 20)) = false) :
  Calls Tryz.prog 3 #[Tn K B F R O p zs.length c q vs.length d, V2 x y] w fun en w' => en = .returned (.bool true) /\ Below w.heap.size w w' := by
 have HLA := Lib.hid hLA
 have EX := Lib.hid fun u h => exam12 u h
 have SM0 := fun u => tsmall K B F R O p zs.length c q vs.length d 5000 u
 rw [hs] at SM0
 have SM := Lib.hid SM0
 obtain ⟨m, hmm⟩ : ∃ m, vs.length = m := ⟨_, rfl⟩
 rw [hmm] at SM ⊢
 clear hs SM0 hm hmm
 unfold Tn at *
 go_enter Tryz.func3, Tryz.ntmps3
 go_wp2_with (first | (go_at_call 14; (with_reducible refine (SM.out _).mono ?_); rintro e w1 ⟨rfl, hb⟩; have hW : Below w.heap.size w ((w.alloc (Obj.cells #[Value.int .i64 K, Value.int .i64 B, Value.int .i64 F, Value.int .i64 R, Value.int .i64 O, Value.slice p zs.length c, Value.slice q m d] 27)).alloc (Obj.cells #[Value.int .i64 x, Value.int .i64 y] 29)) := ((Below.refl _ _).alloc (Nat.le_refl _) _).alloc (by simp) _; have hX := hW.trans (hb.mono hW.size); have c0 : w1.cell? ⟨w.heap.size, 0, none⟩ = some (.int .i64 K) := Rg.keep hb (by simp <;> omega) (by go_cell); have c1 : w1.cell? ⟨w.heap.size, 1, none⟩ = some (.int .i64 B) := Rg.keep hb (by simp <;> omega) (by go_cell); have c2 : w1.cell? ⟨w.heap.size, 2, none⟩ = some (.int .i64 F) := Rg.keep hb (by simp <;> omega) (by go_cell); have c3 : w1.cell? ⟨w.heap.size, 3, none⟩ = some (.int .i64 R) := Rg.keep hb (by simp <;> omega) (by go_cell); have c4 : w1.cell? ⟨w.heap.size, 4, none⟩ = some (.int .i64 O) := Rg.keep hb (by simp <;> omega) (by go_cell); have c5 : w1.cell? ⟨w.heap.size, 5, none⟩ = some (.slice p zs.length c) := Rg.keep hb (by simp <;> omega) (by go_cell); have c6 : w1.cell? ⟨w.heap.size, 6, none⟩ = some (.slice q m d) := Rg.keep hb (by simp <;> omega) (by go_cell); have v0 : w1.cell? ⟨w.heap.size + 1, 0, none⟩ = some (.int .i64 x) := Rg.keep hb (by simp <;> omega) (by go_cell); have v1 : w1.cell? ⟨w.heap.size + 1, 1, none⟩ = some (.int .i64 y) := Rg.keep hb (by simp <;> omega) (by go_cell); have lc : w.heap.size < w1.heap.size := World.block_lt_of_cell? _ _ c0; have lv : w.heap.size + 1 < w1.heap.size := World.block_lt_of_cell? _ _ v0; have KB := Lib.hid hX; clear hb hW hX) | (go_at_call 15; (with_reducible refine (EX.out _ (HLA.out.below KB.out)).mono ?_); rintro e wX ⟨rfl, hb⟩; have KX := Lib.hid (KB.out.trans (hb.mono KB.out.size)); clear hb))
 go_ret
 exact ⟨rfl, KX.out⟩

set_option maxRecDepth 100000 in
set_option maxHeartbeats 4000000 in
theorem lv_go (K B F R O : Int) (p : Option Addr) (zs : List Int) (c : Nat) (q : Option Addr) (vs : List (Int × Int)) (d : Nat) (x y : Int) (w : World) (b0 : -9223372036854775808 <= B) (b1 : B <= 9223372036854775807) (hn : zs.length <= maxLen) (hm : vs.length <= maxLen) (RA : Hid (SlI w p zs)) (RB : Hid (SlV w q vs)) (hLA : Tx.LA w) (hs : (decide ((vs.length : Int) <= 5000) && decide (zs.length <= 20)) = true) (Ka Ba Fa Ra Oa : Int) (zsa : List Int) (vsa : List (Int × Int)) (Ea : Int) (Kb Bb Fb Rb Ob : Int) (zsb : List Int) (vsb : List (Int × Int)) (Eb : Int) (hza : zsa.length <= maxLen) (hva : vsa.length <= maxLen) (hzb : zsb.length <= maxLen) (hvb : vsb.length <= maxLen) (CN0 : ∀ u, Hid (SlI u p zs) -> Hid (SlV u q vs) -> Calls Tryz.prog 16 #[T5 K B F R O, .slice p zs.length c, .slice q vs.length d] u (TS Ka Ba Fa Ra Oa zsa vsa Ea u)) (CM0 : ∀ u, Hid (SlI u p zs) -> Hid (SlV u q vs) -> Calls Tryz.prog 17 #[T5 K B F R O, .slice p zs.length c, .slice q vs.length d] u (TS Ka Ba Fa Ra Oa zsa vsa Ea u)) (CF0 : ∀ u, Hid (SlI u p zs) -> Calls Tryz.prog 18 #[T5 K B F R O, .slice p zs.length c, V2 x y] u (TS Kb Bb Fb Rb Ob zsb vsb Eb u)) (CG0 : ∀ u, Hid (SlI u p zs) -> Calls Tryz.prog 19 #[T5 K B F R O, .slice p zs.length c, V2 x y] u (TS Kb Bb Fb Rb Ob zsb vsb Eb u)) :
  Calls Tryz.prog 3 #[Tn K B F R O p zs.length c q vs.length d, V2 x y] w fun en w' => en = .returned (.bool true) /\ Below w.heap.size w w' := by
 have HLA := Lib.hid hLA
 have EX := Lib.hid fun u h => exam12 u h
 have SM0 := fun u => tsmall K B F R O p zs.length c q vs.length d 5000 u
 rw [hs] at SM0
 have BA0 := fun p4 p5 kc4 kc5 q4 q5 d4 d5 u h1 h2 h3 h4 => bten Ka Ba Fa Ra Oa p4 p5 zsa kc4 kc5 q4 q5 vsa d4 d5 u hza hva h1 h2 h3 h4
 have BB0 := fun p4 p5 kc4 kc5 q4 q5 d4 d5 u h1 h2 h3 h4 => bten Kb Bb Fb Rb Ob p4 p5 zsb kc4 kc5 q4 q5 vsb d4 d5 u hzb hvb h1 h2 h3 h4
 have TV0 := fun u h1 h2 => tval K B F R O p zs c q vs d u b0 b1 hn hm h1 h2
 have RV0 := fun u h1 h2 => rval K B F R O p zs c q vs d u hn hm h1 h2
 obtain ⟨EV, hEV⟩ : ∃ E, tE K B F R O zs vs = E := ⟨_, rfl⟩
 rw [hEV] at TV0 RV0
 unfold TS at CN0 CM0 CF0 CG0
 obtain ⟨na, hna⟩ : ∃ n, zsa.length = n := ⟨_, rfl⟩
 obtain ⟨ma, hma⟩ : ∃ n, vsa.length = n := ⟨_, rfl⟩
 obtain ⟨nb, hnb⟩ : ∃ n, zsb.length = n := ⟨_, rfl⟩
 obtain ⟨mb, hmb⟩ : ∃ n, vsb.length = n := ⟨_, rfl⟩
 obtain ⟨m, hmm⟩ : ∃ m, vs.length = m := ⟨_, rfl⟩
 rw [hmm] at SM0 CN0 CM0 TV0 RV0 ⊢
 rw [hna, hma] at CN0 CM0 BA0
 rw [hnb, hmb] at CF0 CG0 BB0
 unfold Tn at *
 have SM := Lib.hid SM0
 have CN := Lib.hid CN0
 have CM := Lib.hid CM0
 have CF := Lib.hid CF0
 have CG := Lib.hid CG0
 have BA := Lib.hid BA0
 have BB := Lib.hid BB0
 have TV := Lib.hid TV0
 have RV := Lib.hid RV0
 clear hs SM0 hm hmm CN0 CM0 CF0 CG0 BA0 BB0 TV0 RV0 hna hma hnb hmb hza hva hzb hvb hEV
 go_enter Tryz.func3, Tryz.ntmps3
 go_upto_region 7 with (first | (go_at_call 14; (with_reducible refine (SM.out _).mono ?_); rintro e w1 ⟨rfl, hb⟩; have hW : Below w.heap.size w ((w.alloc (Obj.cells #[Value.int .i64 K, Value.int .i64 B, Value.int .i64 F, Value.int .i64 R, Value.int .i64 O, Value.slice p zs.length c, Value.slice q m d] 27)).alloc (Obj.cells #[Value.int .i64 x, Value.int .i64 y] 29)) := ((Below.refl _ _).alloc (Nat.le_refl _) _).alloc (by simp) _; have hX := hW.trans (hb.mono hW.size); have c0 : w1.cell? ⟨w.heap.size, 0, none⟩ = some (.int .i64 K) := Rg.keep hb (by simp <;> omega) (by go_cell); have c1 : w1.cell? ⟨w.heap.size, 1, none⟩ = some (.int .i64 B) := Rg.keep hb (by simp <;> omega) (by go_cell); have c2 : w1.cell? ⟨w.heap.size, 2, none⟩ = some (.int .i64 F) := Rg.keep hb (by simp <;> omega) (by go_cell); have c3 : w1.cell? ⟨w.heap.size, 3, none⟩ = some (.int .i64 R) := Rg.keep hb (by simp <;> omega) (by go_cell); have c4 : w1.cell? ⟨w.heap.size, 4, none⟩ = some (.int .i64 O) := Rg.keep hb (by simp <;> omega) (by go_cell); have c5 : w1.cell? ⟨w.heap.size, 5, none⟩ = some (.slice p zs.length c) := Rg.keep hb (by simp <;> omega) (by go_cell); have c6 : w1.cell? ⟨w.heap.size, 6, none⟩ = some (.slice q m d) := Rg.keep hb (by simp <;> omega) (by go_cell); have v0 : w1.cell? ⟨w.heap.size + 1, 0, none⟩ = some (.int .i64 x) := Rg.keep hb (by simp <;> omega) (by go_cell); have v1 : w1.cell? ⟨w.heap.size + 1, 1, none⟩ = some (.int .i64 y) := Rg.keep hb (by simp <;> omega) (by go_cell); have lc : w.heap.size < w1.heap.size := World.block_lt_of_cell? _ _ c0; have lv : w.heap.size + 1 < w1.heap.size := World.block_lt_of_cell? _ _ v0; have KB := Lib.hid hX; clear hb hW hX) | (go_at_call 16; (with_reducible refine (CN.out _ (Lib.hid (SlI.keep KB.out RA.out)) (Lib.hid (SlV.below RB.out KB.out))).mono ?_); rintro e w4 ⟨p4, kc4, q4, d4, rfl, hsi, hsv, hb⟩; have hW : Below w1.heap.size w1 w1 := Below.refl _ _; have hX := hW.trans (hb.mono hW.size); have c0 : w4.cell? ⟨w.heap.size, 0, none⟩ = some (.int .i64 K) := Rg.keep hb (by first | omega | (simp; omega) | (simp; done)) (by go_cell); have c1 : w4.cell? ⟨w.heap.size, 1, none⟩ = some (.int .i64 B) := Rg.keep hb (by first | omega | (simp; omega) | (simp; done)) (by go_cell); have c2 : w4.cell? ⟨w.heap.size, 2, none⟩ = some (.int .i64 F) := Rg.keep hb (by first | omega | (simp; omega) | (simp; done)) (by go_cell); have c3 : w4.cell? ⟨w.heap.size, 3, none⟩ = some (.int .i64 R) := Rg.keep hb (by first | omega | (simp; omega) | (simp; done)) (by go_cell); have c4 : w4.cell? ⟨w.heap.size, 4, none⟩ = some (.int .i64 O) := Rg.keep hb (by first | omega | (simp; omega) | (simp; done)) (by go_cell); have c5 : w4.cell? ⟨w.heap.size, 5, none⟩ = some (.slice p zs.length c) := Rg.keep hb (by first | omega | (simp; omega) | (simp; done)) (by go_cell); have c6 : w4.cell? ⟨w.heap.size, 6, none⟩ = some (.slice q m d) := Rg.keep hb (by first | omega | (simp; omega) | (simp; done)) (by go_cell); have lc : w.heap.size < w4.heap.size := World.block_lt_of_cell? _ _ c0; have v0 : w4.cell? ⟨w.heap.size + 1, 0, none⟩ = some (.int .i64 x) := Rg.keep hb (by first | omega | (simp; omega) | (simp; done)) (by go_cell); have v1 : w4.cell? ⟨w.heap.size + 1, 1, none⟩ = some (.int .i64 y) := Rg.keep hb (by first | omega | (simp; omega) | (simp; done)) (by go_cell); have lv : w.heap.size + 1 < w4.heap.size := World.block_lt_of_cell? _ _ v0; replace KB := Lib.hid (KB.out.trans (hX.mono KB.out.size)); have SI4 := Lib.hid hsi; have SV4 := Lib.hid hsv; have K4 := Lib.hid (Below.refl w4.heap.size w4); clear hb hW hX hsi hsv) | (go_at_call 17; (with_reducible refine (CM.out _ (Lib.hid (SlI.keep (KB.out.alloc KB.out.size (Obj.cells #[Value.int .i64 Ka, Value.int .i64 Ba, Value.int .i64 Fa, Value.int .i64 Ra, Value.int .i64 Oa, Value.slice p4 na kc4, Value.slice q4 ma d4] 27)) RA.out)) (Lib.hid (SlV.below RB.out (KB.out.alloc KB.out.size (Obj.cells #[Value.int .i64 Ka, Value.int .i64 Ba, Value.int .i64 Fa, Value.int .i64 Ra, Value.int .i64 Oa, Value.slice p4 na kc4, Value.slice q4 ma d4] 27))))).mono ?_); rintro e w5 ⟨p5, kc5, q5, d5, rfl, hsi, hsv, hb⟩; have hW : Below w4.heap.size w4 (w4.alloc (Obj.cells #[Value.int .i64 Ka, Value.int .i64 Ba, Value.int .i64 Fa, Value.int .i64 Ra, Value.int .i64 Oa, Value.slice p4 na kc4, Value.slice q4 ma d4] 27)) := (Below.refl _ _).alloc (Nat.le_refl _) (Obj.cells #[Value.int .i64 Ka, Value.int .i64 Ba, Value.int .i64 Fa, Value.int .i64 Ra, Value.int .i64 Oa, Value.slice p4 na kc4, Value.slice q4 ma d4] 27); have hX := hW.trans (hb.mono hW.size); have c0 : w5.cell? ⟨w.heap.size, 0, none⟩ = some (.int .i64 K) := Rg.keep hb (by first | omega | (simp; omega) | (simp; done)) (by go_cell); have c1 : w5.cell? ⟨w.heap.size, 1, none⟩ = some (.int .i64 B) := Rg.keep hb (by first | omega | (simp; omega) | (simp; done)) (by go_cell); have c2 : w5.cell? ⟨w.heap.size, 2, none⟩ = some (.int .i64 F) := Rg.keep hb (by first | omega | (simp; omega) | (simp; done)) (by go_cell); have c3 : w5.cell? ⟨w.heap.size, 3, none⟩ = some (.int .i64 R) := Rg.keep hb (by first | omega | (simp; omega) | (simp; done)) (by go_cell); have c4 : w5.cell? ⟨w.heap.size, 4, none⟩ = some (.int .i64 O) := Rg.keep hb (by first | omega | (simp; omega) | (simp; done)) (by go_cell); have c5 : w5.cell? ⟨w.heap.size, 5, none⟩ = some (.slice p zs.length c) := Rg.keep hb (by first | omega | (simp; omega) | (simp; done)) (by go_cell); have c6 : w5.cell? ⟨w.heap.size, 6, none⟩ = some (.slice q m d) := Rg.keep hb (by first | omega | (simp; omega) | (simp; done)) (by go_cell); have lc : w.heap.size < w5.heap.size := World.block_lt_of_cell? _ _ c0; have v0 : w5.cell? ⟨w.heap.size + 1, 0, none⟩ = some (.int .i64 x) := Rg.keep hb (by first | omega | (simp; omega) | (simp; done)) (by go_cell); have v1 : w5.cell? ⟨w.heap.size + 1, 1, none⟩ = some (.int .i64 y) := Rg.keep hb (by first | omega | (simp; omega) | (simp; done)) (by go_cell); have lv : w.heap.size + 1 < w5.heap.size := World.block_lt_of_cell? _ _ v0; have e0 : w5.cell? ⟨w4.heap.size, 0, none⟩ = some (.int .i64 Ka) := Rg.keep hb (by first | omega | (simp; omega) | (simp; done)) (by go_cell); have e1 : w5.cell? ⟨w4.heap.size, 1, none⟩ = some (.int .i64 Ba) := Rg.keep hb (by first | omega | (simp; omega) | (simp; done)) (by go_cell); have e2 : w5.cell? ⟨w4.heap.size, 2, none⟩ = some (.int .i64 Fa) := Rg.keep hb (by first | omega | (simp; omega) | (simp; done)) (by go_cell); have e3 : w5.cell? ⟨w4.heap.size, 3, none⟩ = some (.int .i64 Ra) := Rg.keep hb (by first | omega | (simp; omega) | (simp; done)) (by go_cell); have e4 : w5.cell? ⟨w4.heap.size, 4, none⟩ = some (.int .i64 Oa) := Rg.keep hb (by first | omega | (simp; omega) | (simp; done)) (by go_cell); have e5 : w5.cell? ⟨w4.heap.size, 5, none⟩ = some (.slice p4 na kc4) := Rg.keep hb (by first | omega | (simp; omega) | (simp; done)) (by go_cell); have e6 : w5.cell? ⟨w4.heap.size, 6, none⟩ = some (.slice q4 ma d4) := Rg.keep hb (by first | omega | (simp; omega) | (simp; done)) (by go_cell); have le : w4.heap.size < w5.heap.size := World.block_lt_of_cell? _ _ e0; replace KB := Lib.hid (KB.out.trans (hX.mono KB.out.size)); replace K4 := Lib.hid (K4.out.trans (hX.mono K4.out.size)); have SI5 := Lib.hid hsi; have SV5 := Lib.hid hsv; have K5 := Lib.hid (Below.refl w5.heap.size w5); clear hb hW hX hsi hsv) | (go_at_call 18; (with_reducible refine (CF.out _ (Lib.hid (SlI.keep (KB.out.alloc KB.out.size (Obj.cells #[Value.int .i64 Ka, Value.int .i64 Ba, Value.int .i64 Fa, Value.int .i64 Ra, Value.int .i64 Oa, Value.slice p5 na kc5, Value.slice q5 ma d5] 27)) RA.out))).mono ?_); rintro e w6 ⟨p6, kc6, q6, d6, rfl, hsi, hsv, hb⟩; have hW : Below w5.heap.size w5 (w5.alloc (Obj.cells #[Value.int .i64 Ka, Value.int .i64 Ba, Value.int .i64 Fa, Value.int .i64 Ra, Value.int .i64 Oa, Value.slice p5 na kc5, Value.slice q5 ma d5] 27)) := (Below.refl _ _).alloc (Nat.le_refl _) (Obj.cells #[Value.int .i64 Ka, Value.int .i64 Ba, Value.int .i64 Fa, Value.int .i64 Ra, Value.int .i64 Oa, Value.slice p5 na kc5, Value.slice q5 ma d5] 27); have hX := hW.trans (hb.mono hW.size); have c0 : w6.cell? ⟨w.heap.size, 0, none⟩ = some (.int .i64 K) := Rg.keep hb (by first | omega | (simp; omega) | (simp; done)) (by go_cell); have c1 : w6.cell? ⟨w.heap.size, 1, none⟩ = some (.int .i64 B) := Rg.keep hb (by first | omega | (simp; omega) | (simp; done)) (by go_cell); have c2 : w6.cell? ⟨w.heap.size, 2, none⟩ = some (.int .i64 F) := Rg.keep hb (by first | omega | (simp; omega) | (simp; done)) (by go_cell); have c3 : w6.cell? ⟨w.heap.size, 3, none⟩ = some (.int .i64 R) := Rg.keep hb (by first | omega | (simp; omega) | (simp; done)) (by go_cell); have c4 : w6.cell? ⟨w.heap.size, 4, none⟩ = some (.int .i64 O) := Rg.keep hb (by first | omega | (simp; omega) | (simp; done)) (by go_cell); have c5 : w6.cell? ⟨w.heap.size, 5, none⟩ = some (.slice p zs.length c) := Rg.keep hb (by first | omega | (simp; omega) | (simp; done)) (by go_cell); have c6 : w6.cell? ⟨w.heap.size, 6, none⟩ = some (.slice q m d) := Rg.keep hb (by first | omega | (simp; omega) | (simp; done)) (by go_cell); have lc : w.heap.size < w6.heap.size := World.block_lt_of_cell? _ _ c0; have v0 : w6.cell? ⟨w.heap.size + 1, 0, none⟩ = some (.int .i64 x) := Rg.keep hb (by first | omega | (simp; omega) | (simp; done)) (by go_cell); have v1 : w6.cell? ⟨w.heap.size + 1, 1, none⟩ = some (.int .i64 y) := Rg.keep hb (by first | omega | (simp; omega) | (simp; done)) (by go_cell); have lv : w.heap.size + 1 < w6.heap.size := World.block_lt_of_cell? _ _ v0; have e0 : w6.cell? ⟨w4.heap.size, 0, none⟩ = some (.int .i64 Ka) := Rg.keep hb (by first | omega | (simp; omega) | (simp; done)) (by go_cell); have e1 : w6.cell? ⟨w4.heap.size, 1, none⟩ = some (.int .i64 Ba) := Rg.keep hb (by first | omega | (simp; omega) | (simp; done)) (by go_cell); have e2 : w6.cell? ⟨w4.heap.size, 2, none⟩ = some (.int .i64 Fa) := Rg.keep hb (by first | omega | (simp; omega) | (simp; done)) (by go_cell); have e3 : w6.cell? ⟨w4.heap.size, 3, none⟩ = some (.int .i64 Ra) := Rg.keep hb (by first | omega | (simp; omega) | (simp; done)) (by go_cell); have e4 : w6.cell? ⟨w4.heap.size, 4, none⟩ = some (.int .i64 Oa) := Rg.keep hb (by first | omega | (simp; omega) | (simp; done)) (by go_cell); have e5 : w6.cell? ⟨w4.heap.size, 5, none⟩ = some (.slice p4 na kc4) := Rg.keep hb (by first | omega | (simp; omega) | (simp; done)) (by go_cell); have e6 : w6.cell? ⟨w4.heap.size, 6, none⟩ = some (.slice q4 ma d4) := Rg.keep hb (by first | omega | (simp; omega) | (simp; done)) (by go_cell); have le : w4.heap.size < w6.heap.size := World.block_lt_of_cell? _ _ e0; have g0 : w6.cell? ⟨w5.heap.size, 0, none⟩ = some (.int .i64 Ka) := Rg.keep hb (by first | omega | (simp; omega) | (simp; done)) (by go_cell); have g1 : w6.cell? ⟨w5.heap.size, 1, none⟩ = some (.int .i64 Ba) := Rg.keep hb (by first | omega | (simp; omega) | (simp; done)) (by go_cell); have g2 : w6.cell? ⟨w5.heap.size, 2, none⟩ = some (.int .i64 Fa) := Rg.keep hb (by first | omega | (simp; omega) | (simp; done)) (by go_cell); have g3 : w6.cell? ⟨w5.heap.size, 3, none⟩ = some (.int .i64 Ra) := Rg.keep hb (by first | omega | (simp; omega) | (simp; done)) (by go_cell); have g4 : w6.cell? ⟨w5.heap.size, 4, none⟩ = some (.int .i64 Oa) := Rg.keep hb (by first | omega | (simp; omega) | (simp; done)) (by go_cell); have g5 : w6.cell? ⟨w5.heap.size, 5, none⟩ = some (.slice p5 na kc5) := Rg.keep hb (by first | omega | (simp; omega) | (simp; done)) (by go_cell); have g6 : w6.cell? ⟨w5.heap.size, 6, none⟩ = some (.slice q5 ma d5) := Rg.keep hb (by first | omega | (simp; omega) | (simp; done)) (by go_cell); have lg : w5.heap.size < w6.heap.size := World.block_lt_of_cell? _ _ g0; replace KB := Lib.hid (KB.out.trans (hX.mono KB.out.size)); replace K4 := Lib.hid (K4.out.trans (hX.mono K4.out.size)); replace K5 := Lib.hid (K5.out.trans (hX.mono K5.out.size)); have SI6 := Lib.hid hsi; have SV6 := Lib.hid hsv; have K6 := Lib.hid (Below.refl w6.heap.size w6); clear hb hW hX hsi hsv) | (go_at_call 19; (with_reducible refine (CG.out _ (Lib.hid (SlI.keep (KB.out.alloc KB.out.size (Obj.cells #[Value.int .i64 Kb, Value.int .i64 Bb, Value.int .i64 Fb, Value.int .i64 Rb, Value.int .i64 Ob, Value.slice p6 nb kc6, Value.slice q6 mb d6] 27)) RA.out))).mono ?_); rintro e w7 ⟨p7, kc7, q7, d7, rfl, hsi, hsv, hb⟩; have hW : Below w6.heap.size w6 (w6.alloc (Obj.cells #[Value.int .i64 Kb, Value.int .i64 Bb, Value.int .i64 Fb, Value.int .i64 Rb, Value.int .i64 Ob, Value.slice p6 nb kc6, Value.slice q6 mb d6] 27)) := (Below.refl _ _).alloc (Nat.le_refl _) (Obj.cells #[Value.int .i64 Kb, Value.int .i64 Bb, Value.int .i64 Fb, Value.int .i64 Rb, Value.int .i64 Ob, Value.slice p6 nb kc6, Value.slice q6 mb d6] 27); have hX := hW.trans (hb.mono hW.size); have c0 : w7.cell? ⟨w.heap.size, 0, none⟩ = some (.int .i64 K) := Rg.keep hb (by first | omega | (simp; omega) | (simp; done)) (by go_cell); have c1 : w7.cell? ⟨w.heap.size, 1, none⟩ = some (.int .i64 B) := Rg.keep hb (by first | omega | (simp; omega) | (simp; done)) (by go_cell); have c2 : w7.cell? ⟨w.heap.size, 2, none⟩ = some (.int .i64 F) := Rg.keep hb (by first | omega | (simp; omega) | (simp; done)) (by go_cell); have c3 : w7.cell? ⟨w.heap.size, 3, none⟩ = some (.int .i64 R) := Rg.keep hb (by first | omega | (simp; omega) | (simp; done)) (by go_cell); have c4 : w7.cell? ⟨w.heap.size, 4, none⟩ = some (.int .i64 O) := Rg.keep hb (by first | omega | (simp; omega) | (simp; done)) (by go_cell); have c5 : w7.cell? ⟨w.heap.size, 5, none⟩ = some (.slice p zs.length c) := Rg.keep hb (by first | omega | (simp; omega) | (simp; done)) (by go_cell); have c6 : w7.cell? ⟨w.heap.size, 6, none⟩ = some (.slice q m d) := Rg.keep hb (by first | omega | (simp; omega) | (simp; done)) (by go_cell); have lc : w.heap.size < w7.heap.size := World.block_lt_of_cell? _ _ c0; have e0 : w7.cell? ⟨w4.heap.size, 0, none⟩ = some (.int .i64 Ka) := Rg.keep hb (by first | omega | (simp; omega) | (simp; done)) (by go_cell); have e1 : w7.cell? ⟨w4.heap.size, 1, none⟩ = some (.int .i64 Ba) := Rg.keep hb (by first | omega | (simp; omega) | (simp; done)) (by go_cell); have e2 : w7.cell? ⟨w4.heap.size, 2, none⟩ = some (.int .i64 Fa) := Rg.keep hb (by first | omega | (simp; omega) | (simp; done)) (by go_cell); have e3 : w7.cell? ⟨w4.heap.size, 3, none⟩ = some (.int .i64 Ra) := Rg.keep hb (by first | omega | (simp; omega) | (simp; done)) (by go_cell); have e4 : w7.cell? ⟨w4.heap.size, 4, none⟩ = some (.int .i64 Oa) := Rg.keep hb (by first | omega | (simp; omega) | (simp; done)) (by go_cell); have e5 : w7.cell? ⟨w4.heap.size, 5, none⟩ = some (.slice p4 na kc4) := Rg.keep hb (by first | omega | (simp; omega) | (simp; done)) (by go_cell); have e6 : w7.cell? ⟨w4.heap.size, 6, none⟩ = some (.slice q4 ma d4) := Rg.keep hb (by first | omega | (simp; omega) | (simp; done)) (by go_cell); have le : w4.heap.size < w7.heap.size := World.block_lt_of_cell? _ _ e0; have g0 : w7.cell? ⟨w5.heap.size, 0, none⟩ = some (.int .i64 Ka) := Rg.keep hb (by first | omega | (simp; omega) | (simp; done)) (by go_cell); have g1 : w7.cell? ⟨w5.heap.size, 1, none⟩ = some (.int .i64 Ba) := Rg.keep hb (by first | omega | (simp; omega) | (simp; done)) (by go_cell); have g2 : w7.cell? ⟨w5.heap.size, 2, none⟩ = some (.int .i64 Fa) := Rg.keep hb (by first | omega | (simp; omega) | (simp; done)) (by go_cell); have g3 : w7.cell? ⟨w5.heap.size, 3, none⟩ = some (.int .i64 Ra) := Rg.keep hb (by first | omega | (simp; omega) | (simp; done)) (by go_cell); have g4 : w7.cell? ⟨w5.heap.size, 4, none⟩ = some (.int .i64 Oa) := Rg.keep hb (by first | omega | (simp; omega) | (simp; done)) (by go_cell); have g5 : w7.cell? ⟨w5.heap.size, 5, none⟩ = some (.slice p5 na kc5) := Rg.keep hb (by first | omega | (simp; omega) | (simp; done)) (by go_cell); have g6 : w7.cell? ⟨w5.heap.size, 6, none⟩ = some (.slice q5 ma d5) := Rg.keep hb (by first | omega | (simp; omega) | (simp; done)) (by go_cell); have lg : w5.heap.size < w7.heap.size := World.block_lt_of_cell? _ _ g0; have h0 : w7.cell? ⟨w6.heap.size, 0, none⟩ = some (.int .i64 Kb) := Rg.keep hb (by first | omega | (simp; omega) | (simp; done)) (by go_cell); have h1 : w7.cell? ⟨w6.heap.size, 1, none⟩ = some (.int .i64 Bb) := Rg.keep hb (by first | omega | (simp; omega) | (simp; done)) (by go_cell); have h2 : w7.cell? ⟨w6.heap.size, 2, none⟩ = some (.int .i64 Fb) := Rg.keep hb (by first | omega | (simp; omega) | (simp; done)) (by go_cell); have h3 : w7.cell? ⟨w6.heap.size, 3, none⟩ = some (.int .i64 Rb) := Rg.keep hb (by first | omega | (simp; omega) | (simp; done)) (by go_cell); have h4 : w7.cell? ⟨w6.heap.size, 4, none⟩ = some (.int .i64 Ob) := Rg.keep hb (by first | omega | (simp; omega) | (simp; done)) (by go_cell); have h5 : w7.cell? ⟨w6.heap.size, 5, none⟩ = some (.slice p6 nb kc6) := Rg.keep hb (by first | omega | (simp; omega) | (simp; done)) (by go_cell); have h6 : w7.cell? ⟨w6.heap.size, 6, none⟩ = some (.slice q6 mb d6) := Rg.keep hb (by first | omega | (simp; omega) | (simp; done)) (by go_cell); have lh : w6.heap.size < w7.heap.size := World.block_lt_of_cell? _ _ h0; replace KB := Lib.hid (KB.out.trans (hX.mono KB.out.size)); replace K4 := Lib.hid (K4.out.trans (hX.mono K4.out.size)); replace K5 := Lib.hid (K5.out.trans (hX.mono K5.out.size)); replace K6 := Lib.hid (K6.out.trans (hX.mono K6.out.size)); have SI7 := Lib.hid hsi; have SV7 := Lib.hid hsv; have K7 := Lib.hid (Below.refl w7.heap.size w7); clear hb hW hX hsi hsv))
 have hb9 : Below (w7.alloc (Obj.cells #[Value.int .i64 Kb, Value.int .i64 Bb, Value.int .i64 Fb, Value.int .i64 Rb, Value.int .i64 Ob, Value.slice p7 nb kc7, Value.slice q7 mb d7] 27)).heap.size (w7.alloc (Obj.cells #[Value.int .i64 Kb, Value.int .i64 Bb, Value.int .i64 Fb, Value.int .i64 Rb, Value.int .i64 Ob, Value.slice p7 nb kc7, Value.slice q7 mb d7] 27)) (w7.alloc (Obj.cells #[Value.int .i64 Kb, Value.int .i64 Bb, Value.int .i64 Fb, Value.int .i64 Rb, Value.int .i64 Ob, Value.slice p7 nb kc7, Value.slice q7 mb d7] 27)) := Below.refl _ _
 generalize hw8 : (w7.alloc (Obj.cells #[Value.int .i64 Kb, Value.int .i64 Bb, Value.int .i64 Fb, Value.int .i64 Rb, Value.int .i64 Ob, Value.slice p7 nb kc7, Value.slice q7 mb d7] 27)) = w8 at hb9 ⊢
 have hb : Below (w7.alloc (Obj.cells #[Value.int .i64 Kb, Value.int .i64 Bb, Value.int .i64 Fb, Value.int .i64 Rb, Value.int .i64 Ob, Value.slice p7 nb kc7, Value.slice q7 mb d7] 27)).heap.size (w7.alloc (Obj.cells #[Value.int .i64 Kb, Value.int .i64 Bb, Value.int .i64 Fb, Value.int .i64 Rb, Value.int .i64 Ob, Value.slice p7 nb kc7, Value.slice q7 mb d7] 27)) w8 := by rw [hw8]; exact hb9
 clear hw8 hb9
 have hW : Below w7.heap.size w7 (w7.alloc (Obj.cells #[Value.int .i64 Kb, Value.int .i64 Bb, Value.int .i64 Fb, Value.int .i64 Rb, Value.int .i64 Ob, Value.slice p7 nb kc7, Value.slice q7 mb d7] 27)) := (Below.refl _ _).alloc (Nat.le_refl _) (Obj.cells #[Value.int .i64 Kb, Value.int .i64 Bb, Value.int .i64 Fb, Value.int .i64 Rb, Value.int .i64 Ob, Value.slice p7 nb kc7, Value.slice q7 mb d7] 27); have hX := hW.trans (hb.mono hW.size); have c0 : w8.cell? ⟨w.heap.size, 0, none⟩ = some (.int .i64 K) := Rg.keep hb (by first | omega | (simp; omega) | (simp; done)) (by go_cell); have c1 : w8.cell? ⟨w.heap.size, 1, none⟩ = some (.int .i64 B) := Rg.keep hb (by first | omega | (simp; omega) | (simp; done)) (by go_cell); have c2 : w8.cell? ⟨w.heap.size, 2, none⟩ = some (.int .i64 F) := Rg.keep hb (by first | omega | (simp; omega) | (simp; done)) (by go_cell); have c3 : w8.cell? ⟨w.heap.size, 3, none⟩ = some (.int .i64 R) := Rg.keep hb (by first | omega | (simp; omega) | (simp; done)) (by go_cell); have c4 : w8.cell? ⟨w.heap.size, 4, none⟩ = some (.int .i64 O) := Rg.keep hb (by first | omega | (simp; omega) | (simp; done)) (by go_cell); have c5 : w8.cell? ⟨w.heap.size, 5, none⟩ = some (.slice p zs.length c) := Rg.keep hb (by first | omega | (simp; omega) | (simp; done)) (by go_cell); have c6 : w8.cell? ⟨w.heap.size, 6, none⟩ = some (.slice q m d) := Rg.keep hb (by first | omega | (simp; omega) | (simp; done)) (by go_cell); have lc : w.heap.size < w8.heap.size := World.block_lt_of_cell? _ _ c0; have e0 : w8.cell? ⟨w4.heap.size, 0, none⟩ = some (.int .i64 Ka) := Rg.keep hb (by first | omega | (simp; omega) | (simp; done)) (by go_cell); have e1 : w8.cell? ⟨w4.heap.size, 1, none⟩ = some (.int .i64 Ba) := Rg.keep hb (by first | omega | (simp; omega) | (simp; done)) (by go_cell); have e2 : w8.cell? ⟨w4.heap.size, 2, none⟩ = some (.int .i64 Fa) := Rg.keep hb (by first | omega | (simp; omega) | (simp; done)) (by go_cell); have e3 : w8.cell? ⟨w4.heap.size, 3, none⟩ = some (.int .i64 Ra) := Rg.keep hb (by first | omega | (simp; omega) | (simp; done)) (by go_cell); have e4 : w8.cell? ⟨w4.heap.size, 4, none⟩ = some (.int .i64 Oa) := Rg.keep hb (by first | omega | (simp; omega) | (simp; done)) (by go_cell); have e5 : w8.cell? ⟨w4.heap.size, 5, none⟩ = some (.slice p4 na kc4) := Rg.keep hb (by first | omega | (simp; omega) | (simp; done)) (by go_cell); have e6 : w8.cell? ⟨w4.heap.size, 6, none⟩ = some (.slice q4 ma d4) := Rg.keep hb (by first | omega | (simp; omega) | (simp; done)) (by go_cell); have le : w4.heap.size < w8.heap.size := World.block_lt_of_cell? _ _ e0; have g0 : w8.cell? ⟨w5.heap.size, 0, none⟩ = some (.int .i64 Ka) := Rg.keep hb (by first | omega | (simp; omega) | (simp; done)) (by go_cell); have g1 : w8.cell? ⟨w5.heap.size, 1, none⟩ = some (.int .i64 Ba) := Rg.keep hb (by first | omega | (simp; omega) | (simp; done)) (by go_cell); have g2 : w8.cell? ⟨w5.heap.size, 2, none⟩ = some (.int .i64 Fa) := Rg.keep hb (by first | omega | (simp; omega) | (simp; done)) (by go_cell); have g3 : w8.cell? ⟨w5.heap.size, 3, none⟩ = some (.int .i64 Ra) := Rg.keep hb (by first | omega | (simp; omega) | (simp; done)) (by go_cell); have g4 : w8.cell? ⟨w5.heap.size, 4, none⟩ = some (.int .i64 Oa) := Rg.keep hb (by first | omega | (simp; omega) | (simp; done)) (by go_cell); have g5 : w8.cell? ⟨w5.heap.size, 5, none⟩ = some (.slice p5 na kc5) := Rg.keep hb (by first | omega | (simp; omega) | (simp; done)) (by go_cell); have g6 : w8.cell? ⟨w5.heap.size, 6, none⟩ = some (.slice q5 ma d5) := Rg.keep hb (by first | omega | (simp; omega) | (simp; done)) (by go_cell); have lg : w5.heap.size < w8.heap.size := World.block_lt_of_cell? _ _ g0; have h0 : w8.cell? ⟨w6.heap.size, 0, none⟩ = some (.int .i64 Kb) := Rg.keep hb (by first | omega | (simp; omega) | (simp; done)) (by go_cell); have h1 : w8.cell? ⟨w6.heap.size, 1, none⟩ = some (.int .i64 Bb) := Rg.keep hb (by first | omega | (simp; omega) | (simp; done)) (by go_cell); have h2 : w8.cell? ⟨w6.heap.size, 2, none⟩ = some (.int .i64 Fb) := Rg.keep hb (by first | omega | (simp; omega) | (simp; done)) (by go_cell); have h3 : w8.cell? ⟨w6.heap.size, 3, none⟩ = some (.int .i64 Rb) := Rg.keep hb (by first | omega | (simp; omega) | (simp; done)) (by go_cell); have h4 : w8.cell? ⟨w6.heap.size, 4, none⟩ = some (.int .i64 Ob) := Rg.keep hb (by first | omega | (simp; omega) | (simp; done)) (by go_cell); have h5 : w8.cell? ⟨w6.heap.size, 5, none⟩ = some (.slice p6 nb kc6) := Rg.keep hb (by first | omega | (simp; omega) | (simp; done)) (by go_cell); have h6 : w8.cell? ⟨w6.heap.size, 6, none⟩ = some (.slice q6 mb d6) := Rg.keep hb (by first | omega | (simp; omega) | (simp; done)) (by go_cell); have lh : w6.heap.size < w8.heap.size := World.block_lt_of_cell? _ _ h0; have j0 : w8.cell? ⟨w7.heap.size, 0, none⟩ = some (.int .i64 Kb) := Rg.keep hb (by first | omega | (simp; omega) | (simp; done)) (by go_cell); have j1 : w8.cell? ⟨w7.heap.size, 1, none⟩ = some (.int .i64 Bb) := Rg.keep hb (by first | omega | (simp; omega) | (simp; done)) (by go_cell); have j2 : w8.cell? ⟨w7.heap.size, 2, none⟩ = some (.int .i64 Fb) := Rg.keep hb (by first | omega | (simp; omega) | (simp; done)) (by go_cell); have j3 : w8.cell? ⟨w7.heap.size, 3, none⟩ = some (.int .i64 Rb) := Rg.keep hb (by first | omega | (simp; omega) | (simp; done)) (by go_cell); have j4 : w8.cell? ⟨w7.heap.size, 4, none⟩ = some (.int .i64 Ob) := Rg.keep hb (by first | omega | (simp; omega) | (simp; done)) (by go_cell); have j5 : w8.cell? ⟨w7.heap.size, 5, none⟩ = some (.slice p7 nb kc7) := Rg.keep hb (by first | omega | (simp; omega) | (simp; done)) (by go_cell); have j6 : w8.cell? ⟨w7.heap.size, 6, none⟩ = some (.slice q7 mb d7) := Rg.keep hb (by first | omega | (simp; omega) | (simp; done)) (by go_cell); have lj : w7.heap.size < w8.heap.size := World.block_lt_of_cell? _ _ j0; replace KB := Lib.hid (KB.out.trans (hX.mono KB.out.size)); replace K4 := Lib.hid (K4.out.trans (hX.mono K4.out.size)); replace K5 := Lib.hid (K5.out.trans (hX.mono K5.out.size)); replace K6 := Lib.hid (K6.out.trans (hX.mono K6.out.size)); replace K7 := Lib.hid (K7.out.trans (hX.mono K7.out.size))
 clear hb hW hX
 have C1 : Hid (∀ u, Below w8.heap.size w8 u -> Calls Tryz.prog 20 #[.agg #[.int .i64 K, .int .i64 B, .int .i64 F, .int .i64 R, .int .i64 O, .slice p zs.length c, .slice q m d]] u fun e u' => e = .returned (.int .i64 EV) /\ Below u.heap.size u u') := Lib.hid (fun u h => TV.out u (Lib.hid (SlI.keep (KB.out.trans (h.mono KB.out.size)) RA.out)) (Lib.hid (SlV.below RB.out (KB.out.trans (h.mono KB.out.size)))))
 have C3 : Hid (∀ u, Below w8.heap.size w8 u -> Calls Tryz.prog 21 #[.agg #[.int .i64 K, .int .i64 B, .int .i64 F, .int .i64 R, .int .i64 O, .slice p zs.length c, .slice q m d]] u fun e u' => e = .returned (.int .i64 EV) /\ Below u.heap.size u u') := Lib.hid (fun u h => RV.out u (Lib.hid (SlI.keep (KB.out.trans (h.mono KB.out.size)) RA.out)) (Lib.hid (SlV.below RB.out (KB.out.trans (h.mono KB.out.size)))))
 have C8 : Hid (∀ u, Below w8.heap.size w8 u -> Calls Tryz.prog 22 #[.agg #[.int .i64 Ka, .int .i64 Ba, .int .i64 Fa, .int .i64 Ra, .int .i64 Oa, .slice p4 na kc4, .slice q4 ma d4], .agg #[.int .i64 Ka, .int .i64 Ba, .int .i64 Fa, .int .i64 Ra, .int .i64 Oa, .slice p5 na kc5, .slice q5 ma d5]] u fun e u' => e = .returned (.bool true) /\ Below u.heap.size u u') := Lib.hid (fun u h => BA.out p4 p5 kc4 kc5 q4 q5 d4 d5 u (Lib.hid (SlI.keep (K4.out.trans (h.mono K4.out.size)) SI4.out)) (Lib.hid (SlV.below SV4.out (K4.out.trans (h.mono K4.out.size)))) (Lib.hid (SlI.keep (K5.out.trans (h.mono K5.out.size)) SI5.out)) (Lib.hid (SlV.below SV5.out (K5.out.trans (h.mono K5.out.size)))))
 have C18 : Hid (∀ u, Below w8.heap.size w8 u -> Calls Tryz.prog 22 #[.agg #[.int .i64 Kb, .int .i64 Bb, .int .i64 Fb, .int .i64 Rb, .int .i64 Ob, .slice p6 nb kc6, .slice q6 mb d6], .agg #[.int .i64 Kb, .int .i64 Bb, .int .i64 Fb, .int .i64 Rb, .int .i64 Ob, .slice p7 nb kc7, .slice q7 mb d7]] u fun e u' => e = .returned (.bool true) /\ Below u.heap.size u u') := Lib.hid (fun u h => BB.out p6 p7 kc6 kc7 q6 q7 d6 d7 u (Lib.hid (SlI.keep (K6.out.trans (h.mono K6.out.size)) SI6.out)) (Lib.hid (SlV.below SV6.out (K6.out.trans (h.mono K6.out.size)))) (Lib.hid (SlI.keep (K7.out.trans (h.mono K7.out.size)) SI7.out)) (Lib.hid (SlV.below SV7.out (K7.out.trans (h.mono K7.out.size)))))
 have C26 : Hid (∀ u, Below w8.heap.size w8 u -> Calls Tryz.prog 15 #[] u fun e u' => e = .returned (.bool true) /\ Below u.heap.size u u') := Lib.hid (fun u h => EX.out u (HLA.out.below (KB.out.trans (h.mono KB.out.size))))
 clear TV RV BA BB EX CN CM CF CG SM
 have HS : Hid (∀ u u' : World, (u.cell? ⟨w.heap.size, 0, none⟩ = some (.int .i64 K) /\ u.cell? ⟨w.heap.size, 1, none⟩ = some (.int .i64 B) /\ u.cell? ⟨w.heap.size, 2, none⟩ = some (.int .i64 F) /\ u.cell? ⟨w.heap.size, 3, none⟩ = some (.int .i64 R) /\ u.cell? ⟨w.heap.size, 4, none⟩ = some (.int .i64 O) /\ u.cell? ⟨w.heap.size, 5, none⟩ = some (.slice p zs.length c) /\ u.cell? ⟨w.heap.size, 6, none⟩ = some (.slice q m d) /\ u.cell? ⟨w4.heap.size, 0, none⟩ = some (.int .i64 Ka) /\ u.cell? ⟨w4.heap.size, 1, none⟩ = some (.int .i64 Ba) /\ u.cell? ⟨w4.heap.size, 2, none⟩ = some (.int .i64 Fa) /\ u.cell? ⟨w4.heap.size, 3, none⟩ = some (.int .i64 Ra) /\ u.cell? ⟨w4.heap.size, 4, none⟩ = some (.int .i64 Oa) /\ u.cell? ⟨w4.heap.size, 5, none⟩ = some (.slice p4 na kc4) /\ u.cell? ⟨w4.heap.size, 6, none⟩ = some (.slice q4 ma d4) /\ u.cell? ⟨w5.heap.size, 0, none⟩ = some (.int .i64 Ka) /\ u.cell? ⟨w5.heap.size, 1, none⟩ = some (.int .i64 Ba) /\ u.cell? ⟨w5.heap.size, 2, none⟩ = some (.int .i64 Fa) /\ u.cell? ⟨w5.heap.size, 3, none⟩ = some (.int .i64 Ra) /\ u.cell? ⟨w5.heap.size, 4, none⟩ = some (.int .i64 Oa) /\ u.cell? ⟨w5.heap.size, 5, none⟩ = some (.slice p5 na kc5) /\ u.cell? ⟨w5.heap.size, 6, none⟩ = some (.slice q5 ma d5) /\ u.cell? ⟨w6.heap.size, 0, none⟩ = some (.int .i64 Kb) /\ u.cell? ⟨w6.heap.size, 1, none⟩ = some (.int .i64 Bb) /\ u.cell? ⟨w6.heap.size, 2, none⟩ = some (.int .i64 Fb) /\ u.cell? ⟨w6.heap.size, 3, none⟩ = some (.int .i64 Rb) /\ u.cell? ⟨w6.heap.size, 4, none⟩ = some (.int .i64 Ob) /\ u.cell? ⟨w6.heap.size, 5, none⟩ = some (.slice p6 nb kc6) /\ u.cell? ⟨w6.heap.size, 6, none⟩ = some (.slice q6 mb d6) /\ u.cell? ⟨w7.heap.size, 0, none⟩ = some (.int .i64 Kb) /\ u.cell? ⟨w7.heap.size, 1, none⟩ = some (.int .i64 Bb) /\ u.cell? ⟨w7.heap.size, 2, none⟩ = some (.int .i64 Fb) /\ u.cell? ⟨w7.heap.size, 3, none⟩ = some (.int .i64 Rb) /\ u.cell? ⟨w7.heap.size, 4, none⟩ = some (.int .i64 Ob) /\ u.cell? ⟨w7.heap.size, 5, none⟩ = some (.slice p7 nb kc7) /\ u.cell? ⟨w7.heap.size, 6, none⟩ = some (.slice q7 mb d7) /\ Below w8.heap.size w8 u) -> Below u.heap.size u u' -> (u'.cell? ⟨w.heap.size, 0, none⟩ = some (.int .i64 K) /\ u'.cell? ⟨w.heap.size, 1, none⟩ = some (.int .i64 B) /\ u'.cell? ⟨w.heap.size, 2, none⟩ = some (.int .i64 F) /\ u'.cell? ⟨w.heap.size, 3, none⟩ = some (.int .i64 R) /\ u'.cell? ⟨w.heap.size, 4, none⟩ = some (.int .i64 O) /\ u'.cell? ⟨w.heap.size, 5, none⟩ = some (.slice p zs.length c) /\ u'.cell? ⟨w.heap.size, 6, none⟩ = some (.slice q m d) /\ u'.cell? ⟨w4.heap.size, 0, none⟩ = some (.int .i64 Ka) /\ u'.cell? ⟨w4.heap.size, 1, none⟩ = some (.int .i64 Ba) /\ u'.cell? ⟨w4.heap.size, 2, none⟩ = some (.int .i64 Fa) /\ u'.cell? ⟨w4.heap.size, 3, none⟩ = some (.int .i64 Ra) /\ u'.cell? ⟨w4.heap.size, 4, none⟩ = some (.int .i64 Oa) /\ u'.cell? ⟨w4.heap.size, 5, none⟩ = some (.slice p4 na kc4) /\ u'.cell? ⟨w4.heap.size, 6, none⟩ = some (.slice q4 ma d4) /\ u'.cell? ⟨w5.heap.size, 0, none⟩ = some (.int .i64 Ka) /\ u'.cell? ⟨w5.heap.size, 1, none⟩ = some (.int .i64 Ba) /\ u'.cell? ⟨w5.heap.size, 2, none⟩ = some (.int .i64 Fa) /\ u'.cell? ⟨w5.heap.size, 3, none⟩ = some (.int .i64 Ra) /\ u'.cell? ⟨w5.heap.size, 4, none⟩ = some (.int .i64 Oa) /\ u'.cell? ⟨w5.heap.size, 5, none⟩ = some (.slice p5 na kc5) /\ u'.cell? ⟨w5.heap.size, 6, none⟩ = some (.slice q5 ma d5) /\ u'.cell? ⟨w6.heap.size, 0, none⟩ = some (.int .i64 Kb) /\ u'.cell? ⟨w6.heap.size, 1, none⟩ = some (.int .i64 Bb) /\ u'.cell? ⟨w6.heap.size, 2, none⟩ = some (.int .i64 Fb) /\ u'.cell? ⟨w6.heap.size, 3, none⟩ = some (.int .i64 Rb) /\ u'.cell? ⟨w6.heap.size, 4, none⟩ = some (.int .i64 Ob) /\ u'.cell? ⟨w6.heap.size, 5, none⟩ = some (.slice p6 nb kc6) /\ u'.cell? ⟨w6.heap.size, 6, none⟩ = some (.slice q6 mb d6) /\ u'.cell? ⟨w7.heap.size, 0, none⟩ = some (.int .i64 Kb) /\ u'.cell? ⟨w7.heap.size, 1, none⟩ = some (.int .i64 Bb) /\ u'.cell? ⟨w7.heap.size, 2, none⟩ = some (.int .i64 Fb) /\ u'.cell? ⟨w7.heap.size, 3, none⟩ = some (.int .i64 Rb) /\ u'.cell? ⟨w7.heap.size, 4, none⟩ = some (.int .i64 Ob) /\ u'.cell? ⟨w7.heap.size, 5, none⟩ = some (.slice p7 nb kc7) /\ u'.cell? ⟨w7.heap.size, 6, none⟩ = some (.slice q7 mb d7) /\ Below w8.heap.size w8 u')) := Lib.hid (fun u u' h hb => ⟨Rg.keep hb (World.block_lt_of_cell? _ _ h.1) h.1, Rg.keep hb (World.block_lt_of_cell? _ _ h.2.1) h.2.1, Rg.keep hb (World.block_lt_of_cell? _ _ h.2.2.1) h.2.2.1, Rg.keep hb (World.block_lt_of_cell? _ _ h.2.2.2.1) h.2.2.2.1, Rg.keep hb (World.block_lt_of_cell? _ _ h.2.2.2.2.1) h.2.2.2.2.1, Rg.keep hb (World.block_lt_of_cell? _ _ h.2.2.2.2.2.1) h.2.2.2.2.2.1, Rg.keep hb (World.block_lt_of_cell? _ _ h.2.2.2.2.2.2.1) h.2.2.2.2.2.2.1, Rg.keep hb (World.block_lt_of_cell? _ _ h.2.2.2.2.2.2.2.1) h.2.2.2.2.2.2.2.1, Rg.keep hb (World.block_lt_of_cell? _ _ h.2.2.2.2.2.2.2.2.1) h.2.2.2.2.2.2.2.2.1, Rg.keep hb (World.block_lt_of_cell? _ _ h.2.2.2.2.2.2.2.2.2.1) h.2.2.2.2.2.2.2.2.2.1, Rg.keep hb (World.block_lt_of_cell? _ _ h.2.2.2.2.2.2.2.2.2.2.1) h.2.2.2.2.2.2.2.2.2.2.1, Rg.keep hb (World.block_lt_of_cell? _ _ h.2.2.2.2.2.2.2.2.2.2.2.1) h.2.2.2.2.2.2.2.2.2.2.2.1, Rg.keep hb (World.block_lt_of_cell? _ _ h.2.2.2.2.2.2.2.2.2.2.2.2.1) h.2.2.2.2.2.2.2.2.2.2.2.2.1, Rg.keep hb (World.block_lt_of_cell? _ _ h.2.2.2.2.2.2.2.2.2.2.2.2.2.1) h.2.2.2.2.2.2.2.2.2.2.2.2.2.1, Rg.keep hb (World.block_lt_of_cell? _ _ h.2.2.2.2.2.2.2.2.2.2.2.2.2.2.1) h.2.2.2.2.2.2.2.2.2.2.2.2.2.2.1, Rg.keep hb (World.block_lt_of_cell? _ _ h.2.2.2.2.2.2.2.2.2.2.2.2.2.2.2.1) h.2.2.2.2.2.2.2.2.2.2.2.2.2.2.2.1, Rg.keep hb (World.block_lt_of_cell? _ _ h.2.2.2.2.2.2.2.2.2.2.2.2.2.2.2.2.1) h.2.2.2.2.2.2.2.2.2.2.2.2.2.2.2.2.1, Rg.keep hb (World.block_lt_of_cell? _ _ h.2.2.2.2.2.2.2.2.2.2.2.2.2.2.2.2.2.1) h.2.2.2.2.2.2.2.2.2.2.2.2.2.2.2.2.2.1, Rg.keep hb (World.block_lt_of_cell? _ _ h.2.2.2.2.2.2.2.2.2.2.2.2.2.2.2.2.2.2.1) h.2.2.2.2.2.2.2.2.2.2.2.2.2.2.2.2.2.2.1, Rg.keep hb (World.block_lt_of_cell? _ _ h.2.2.2.2.2.2.2.2.2.2.2.2.2.2.2.2.2.2.2.1) h.2.2.2.2.2.2.2.2.2.2.2.2.2.2.2.2.2.2.2.1, Rg.keep hb (World.block_lt_of_cell? _ _ h.2.2.2.2.2.2.2.2.2.2.2.2.2.2.2.2.2.2.2.2.1) h.2.2.2.2.2.2.2.2.2.2.2.2.2.2.2.2.2.2.2.2.1, Rg.keep hb (World.block_lt_of_cell? _ _ h.2.2.2.2.2.2.2.2.2.2.2.2.2.2.2.2.2.2.2.2.2.1) h.2.2.2.2.2.2.2.2.2.2.2.2.2.2.2.2.2.2.2.2.2.1, Rg.keep hb (World.block_lt_of_cell? _ _ h.2.2.2.2.2.2.2.2.2.2.2.2.2.2.2.2.2.2.2.2.2.2.1) h.2.2.2.2.2.2.2.2.2.2.2.2.2.2.2.2.2.2.2.2.2.2.1, Rg.keep hb (World.block_lt_of_cell? _ _ h.2.2.2.2.2.2.2.2.2.2.2.2.2.2.2.2.2.2.2.2.2.2.2.1) h.2.2.2.2.2.2.2.2.2.2.2.2.2.2.2.2.2.2.2.2.2.2.2.1, Rg.keep hb (World.block_lt_of_cell? _ _ h.2.2.2.2.2.2.2.2.2.2.2.2.2.2.2.2.2.2.2.2.2.2.2.2.1) h.2.2.2.2.2.2.2.2.2.2.2.2.2.2.2.2.2.2.2.2.2.2.2.2.1, Rg.keep hb (World.block_lt_of_cell? _ _ h.2.2.2.2.2.2.2.2.2.2.2.2.2.2.2.2.2.2.2.2.2.2.2.2.2.1) h.2.2.2.2.2.2.2.2.2.2.2.2.2.2.2.2.2.2.2.2.2.2.2.2.2.1, Rg.keep hb (World.block_lt_of_cell? _ _ h.2.2.2.2.2.2.2.2.2.2.2.2.2.2.2.2.2.2.2.2.2.2.2.2.2.2.1) h.2.2.2.2.2.2.2.2.2.2.2.2.2.2.2.2.2.2.2.2.2.2.2.2.2.2.1, Rg.keep hb (World.block_lt_of_cell? _ _ h.2.2.2.2.2.2.2.2.2.2.2.2.2.2.2.2.2.2.2.2.2.2.2.2.2.2.2.1) h.2.2.2.2.2.2.2.2.2.2.2.2.2.2.2.2.2.2.2.2.2.2.2.2.2.2.2.1, Rg.keep hb (World.block_lt_of_cell? _ _ h.2.2.2.2.2.2.2.2.2.2.2.2.2.2.2.2.2.2.2.2.2.2.2.2.2.2.2.2.1) h.2.2.2.2.2.2.2.2.2.2.2.2.2.2.2.2.2.2.2.2.2.2.2.2.2.2.2.2.1, Rg.keep hb (World.block_lt_of_cell? _ _ h.2.2.2.2.2.2.2.2.2.2.2.2.2.2.2.2.2.2.2.2.2.2.2.2.2.2.2.2.2.1) h.2.2.2.2.2.2.2.2.2.2.2.2.2.2.2.2.2.2.2.2.2.2.2.2.2.2.2.2.2.1, Rg.keep hb (World.block_lt_of_cell? _ _ h.2.2.2.2.2.2.2.2.2.2.2.2.2.2.2.2.2.2.2.2.2.2.2.2.2.2.2.2.2.2.1) h.2.2.2.2.2.2.2.2.2.2.2.2.2.2.2.2.2.2.2.2.2.2.2.2.2.2.2.2.2.2.1, Rg.keep hb (World.block_lt_of_cell? _ _ h.2.2.2.2.2.2.2.2.2.2.2.2.2.2.2.2.2.2.2.2.2.2.2.2.2.2.2.2.2.2.2.1) h.2.2.2.2.2.2.2.2.2.2.2.2.2.2.2.2.2.2.2.2.2.2.2.2.2.2.2.2.2.2.2.1, Rg.keep hb (World.block_lt_of_cell? _ _ h.2.2.2.2.2.2.2.2.2.2.2.2.2.2.2.2.2.2.2.2.2.2.2.2.2.2.2.2.2.2.2.2.1) h.2.2.2.2.2.2.2.2.2.2.2.2.2.2.2.2.2.2.2.2.2.2.2.2.2.2.2.2.2.2.2.2.1, Rg.keep hb (World.block_lt_of_cell? _ _ h.2.2.2.2.2.2.2.2.2.2.2.2.2.2.2.2.2.2.2.2.2.2.2.2.2.2.2.2.2.2.2.2.2.1) h.2.2.2.2.2.2.2.2.2.2.2.2.2.2.2.2.2.2.2.2.2.2.2.2.2.2.2.2.2.2.2.2.2.1, Rg.keep hb (World.block_lt_of_cell? _ _ h.2.2.2.2.2.2.2.2.2.2.2.2.2.2.2.2.2.2.2.2.2.2.2.2.2.2.2.2.2.2.2.2.2.2.1) h.2.2.2.2.2.2.2.2.2.2.2.2.2.2.2.2.2.2.2.2.2.2.2.2.2.2.2.2.2.2.2.2.2.2.1, h.2.2.2.2.2.2.2.2.2.2.2.2.2.2.2.2.2.2.2.2.2.2.2.2.2.2.2.2.2.2.2.2.2.2.2.trans (hb.mono h.2.2.2.2.2.2.2.2.2.2.2.2.2.2.2.2.2.2.2.2.2.2.2.2.2.2.2.2.2.2.2.2.2.2.2.size)⟩)
 refine Rk.begin (S := fun wS => wS.cell? ⟨w.heap.size, 0, none⟩ = some (.int .i64 K) /\ wS.cell? ⟨w.heap.size, 1, none⟩ = some (.int .i64 B) /\ wS.cell? ⟨w.heap.size, 2, none⟩ = some (.int .i64 F) /\ wS.cell? ⟨w.heap.size, 3, none⟩ = some (.int .i64 R) /\ wS.cell? ⟨w.heap.size, 4, none⟩ = some (.int .i64 O) /\ wS.cell? ⟨w.heap.size, 5, none⟩ = some (.slice p zs.length c) /\ wS.cell? ⟨w.heap.size, 6, none⟩ = some (.slice q m d) /\ wS.cell? ⟨w4.heap.size, 0, none⟩ = some (.int .i64 Ka) /\ wS.cell? ⟨w4.heap.size, 1, none⟩ = some (.int .i64 Ba) /\ wS.cell? ⟨w4.heap.size, 2, none⟩ = some (.int .i64 Fa) /\ wS.cell? ⟨w4.heap.size, 3, none⟩ = some (.int .i64 Ra) /\ wS.cell? ⟨w4.heap.size, 4, none⟩ = some (.int .i64 Oa) /\ wS.cell? ⟨w4.heap.size, 5, none⟩ = some (.slice p4 na kc4) /\ wS.cell? ⟨w4.heap.size, 6, none⟩ = some (.slice q4 ma d4) /\ wS.cell? ⟨w5.heap.size, 0, none⟩ = some (.int .i64 Ka) /\ wS.cell? ⟨w5.heap.size, 1, none⟩ = some (.int .i64 Ba) /\ wS.cell? ⟨w5.heap.size, 2, none⟩ = some (.int .i64 Fa) /\ wS.cell? ⟨w5.heap.size, 3, none⟩ = some (.int .i64 Ra) /\ wS.cell? ⟨w5.heap.size, 4, none⟩ = some (.int .i64 Oa) /\ wS.cell? ⟨w5.heap.size, 5, none⟩ = some (.slice p5 na kc5) /\ wS.cell? ⟨w5.heap.size, 6, none⟩ = some (.slice q5 ma d5) /\ wS.cell? ⟨w6.heap.size, 0, none⟩ = some (.int .i64 Kb) /\ wS.cell? ⟨w6.heap.size, 1, none⟩ = some (.int .i64 Bb) /\ wS.cell? ⟨w6.heap.size, 2, none⟩ = some (.int .i64 Fb) /\ wS.cell? ⟨w6.heap.size, 3, none⟩ = some (.int .i64 Rb) /\ wS.cell? ⟨w6.heap.size, 4, none⟩ = some (.int .i64 Ob) /\ wS.cell? ⟨w6.heap.size, 5, none⟩ = some (.slice p6 nb kc6) /\ wS.cell? ⟨w6.heap.size, 6, none⟩ = some (.slice q6 mb d6) /\ wS.cell? ⟨w7.heap.size, 0, none⟩ = some (.int .i64 Kb) /\ wS.cell? ⟨w7.heap.size, 1, none⟩ = some (.int .i64 Bb) /\ wS.cell? ⟨w7.heap.size, 2, none⟩ = some (.int .i64 Fb) /\ wS.cell? ⟨w7.heap.size, 3, none⟩ = some (.int .i64 Rb) /\ wS.cell? ⟨w7.heap.size, 4, none⟩ = some (.int .i64 Ob) /\ wS.cell? ⟨w7.heap.size, 5, none⟩ = some (.slice p7 nb kc7) /\ wS.cell? ⟨w7.heap.size, 6, none⟩ = some (.slice q7 mb d7) /\ Below w8.heap.size w8 wS) 28 (by kernel_rfl) ⟨c0, c1, c2, c3, c4, c5, c6, e0, e1, e2, e3, e4, e5, e6, g0, g1, g2, g3, g4, g5, g6, h0, h1, h2, h3, h4, h5, h6, j0, j1, j2, j3, j4, j5, j6, Below.drew (Below.refl _ _)⟩ (fun hHeld => ?_)
 refine SqR.l [28] 0 ?_
 refine SqR.l [28] 2 ?_
 refine Rk.one (i := 1) (by kernel_rfl) rfl (fun KK hK => ?_)
 rw [if_pos (by kernel_rfl)]
 go_simp
 ((with_reducible refine (C1.out _ (hHeld.2.2.2.2.2.2.2.2.2.2.2.2.2.2.2.2.2.2.2.2.2.2.2.2.2.2.2.2.2.2.2.2.2.2.2)).mono ?_); rintro e u ⟨rfl, hb⟩)
 first | (refine hK.out _ _ (fun _ => HS.out _ _ hHeld hb) (fun hHeld => ?_)) | (refine hK.out _ _ (HS.out _ _ hHeld hb) (fun hHeld => ?_)) | (go_wp2_with fail; refine hK.out _ _ (HS.out _ _ hHeld hb) (fun hHeld => ?_))
 clear hK KK
 refine Rk.one (i := 3) (by kernel_rfl) rfl (fun KK hK => ?_)
 rw [if_pos (by kernel_rfl)]
 go_simp
 ((with_reducible refine (C3.out _ (hHeld.2.2.2.2.2.2.2.2.2.2.2.2.2.2.2.2.2.2.2.2.2.2.2.2.2.2.2.2.2.2.2.2.2.2.2)).mono ?_); rintro e u ⟨rfl, hb⟩)
 first | (refine hK.out _ _ (fun _ => HS.out _ _ hHeld hb) (fun hHeld => ?_)) | (refine hK.out _ _ (HS.out _ _ hHeld hb) (fun hHeld => ?_)) | (go_wp2_with fail; refine hK.out _ _ (HS.out _ _ hHeld hb) (fun hHeld => ?_))
 clear hK KK
 refine SqR.p 4 ?_
 refine SqR.p 5 ?_
 refine SqR.l [28] 6 ?_
 refine SqR.l [28] 7 ?_
 refine Rk.one (i := 8) (by kernel_rfl) rfl (fun KK hK => ?_)
 rw [if_pos (by kernel_rfl)]
 go_simp
 ((with_reducible refine (C8.out _ (hHeld.2.2.2.2.2.2.2.2.2.2.2.2.2.2.2.2.2.2.2.2.2.2.2.2.2.2.2.2.2.2.2.2.2.2.2)).mono ?_); rintro e u ⟨rfl, hb⟩)
 first | (refine hK.out _ _ (fun _ => HS.out _ _ hHeld hb) (fun hHeld => ?_)) | (refine hK.out _ _ (HS.out _ _ hHeld hb) (fun hHeld => ?_)) | (go_wp2_with fail; refine hK.out _ _ (HS.out _ _ hHeld hb) (fun hHeld => ?_))
 clear hK KK
 refine SqR.p 9 ?_
 refine SqR.p 10 ?_
 refine SqR.p 11 ?_
 refine SqR.p 12 ?_
 refine SqR.p 13 ?_
 refine SqR.p 14 ?_
 refine SqR.p 15 ?_
 refine SqR.l [28] 16 ?_
 refine SqR.l [28] 17 ?_
 refine Rk.one (i := 18) (by kernel_rfl) rfl (fun KK hK => ?_)
 rw [if_pos (by kernel_rfl)]
 go_simp
 ((with_reducible refine (C18.out _ (hHeld.2.2.2.2.2.2.2.2.2.2.2.2.2.2.2.2.2.2.2.2.2.2.2.2.2.2.2.2.2.2.2.2.2.2.2)).mono ?_); rintro e u ⟨rfl, hb⟩)
 first | (refine hK.out _ _ (fun _ => HS.out _ _ hHeld hb) (fun hHeld => ?_)) | (refine hK.out _ _ (HS.out _ _ hHeld hb) (fun hHeld => ?_)) | (go_wp2_with fail; refine hK.out _ _ (HS.out _ _ hHeld hb) (fun hHeld => ?_))
 clear hK KK
 refine SqR.p 19 ?_
 refine SqR.p 20 ?_
 refine SqR.p 21 ?_
 refine SqR.p 22 ?_
 refine SqR.p 23 ?_
 refine SqR.p 24 ?_
 refine SqR.p 25 ?_
 refine Rk.one (i := 26) (by kernel_rfl) rfl (fun KK hK => ?_)
 rw [if_pos (by kernel_rfl)]
 go_simp
 ((with_reducible refine (C26.out _ (hHeld.2.2.2.2.2.2.2.2.2.2.2.2.2.2.2.2.2.2.2.2.2.2.2.2.2.2.2.2.2.2.2.2.2.2.2)).mono ?_); rintro e u ⟨rfl, hb⟩)
 first | (refine hK.out _ _ (fun _ => HS.out _ _ hHeld hb) (fun hHeld => ?_)) | (refine hK.out _ _ (HS.out _ _ hHeld hb) (fun hHeld => ?_)) | (go_wp2_with fail; refine hK.out _ _ (HS.out _ _ hHeld hb) (fun hHeld => ?_))
 clear hK KK
 refine SqR.p 27 ?_
 refine Rk.tail [28] [_] (by kernel_rfl) (by kernel_rfl) rfl (by decide) ?_
 have KE := Lib.hid (KB.out.trans ((hHeld.2.2.2.2.2.2.2.2.2.2.2.2.2.2.2.2.2.2.2.2.2.2.2.2.2.2.2.2.2.2.2.2.2.2.2).mono KB.out.size))
 go_wp2_with fail
 go_ret
 exact ⟨rfl, KE.out⟩
theorem law_tv (K B F R O : Int) (p : Option Addr) (zs : List Int) (c : Nat) (q : Option Addr) (vs : List (Int × Int)) (d : Nat) (x y : Int) (w : World) (b0 : -9223372036854775808 <= B) (b1 : B <= 9223372036854775807) (hn : zs.length <= maxLen) (hm : vs.length <= maxLen) (RA : Hid (SlI w p zs)) (RB : Hid (SlV w q vs)) (hLA : Tx.LA w) :
  Calls Tryz.prog 3 #[Tn K B F R O p zs.length c q vs.length d, V2 x y] w fun en w' => en = .returned (.bool true) /\ Below w.heap.size w w' := by
 cases hs : (decide ((vs.length : Int) <= 5000) && decide (zs.length <= 20))
 ·exact lv_a K B F R O p zs c q vs d x y w b0 b1 hn hm RA RB hLA hs
 ·obtain ⟨Ka, Ba, Fa, Ra, Oa, zsa, vsa, Ea, a1, a2, a3, a4⟩ := both_nw K B F R O p zs c q vs d b0 b1 hn hm
  obtain ⟨Kb, Bb, Fb, Rb, Ob, zsb, vsb, Eb, e1, e2, e3, e4⟩ := both_fu K B F R O p zs c x y b0 b1 hn
  exact lv_go K B F R O p zs c q vs d x y w b0 b1 hn hm RA RB hLA hs Ka Ba Fa Ra Oa zsa vsa Ea Kb Bb Fb Rb Ob zsb vsb Eb a1 a2 e1 e2 a3 a4 e3 e4
end Go.Proofs.YteaaikmejacpaaaGreatDoor.Te
