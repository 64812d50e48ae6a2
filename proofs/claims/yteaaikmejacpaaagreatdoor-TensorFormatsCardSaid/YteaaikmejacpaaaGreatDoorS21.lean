/- Package frac: Parse and Format, whatever the text. -/
import Derived.Test.YteaaikmejacpaaaGreatDoorS20
import Derived.Lib.AppendIntMem
import Derived.Test.YteaaikmejacpaaaGreatDoorS6
import Derived.Deep.QuietTactic
import Derived.BigQuiet
import Derived.Test.YteaaikmejacpaaaGreatDoorS10
import Derived.Test.YteaaikmejacpaaaGreatDoorS1
import Derived.IntWalk
import Derived.Test.YteaaikmejacpaaaGreatDoorS0
import Derived.Lib.Builder
import Derived.Lib.AppendStr
import Derived.Lib.UnsafeStr
import Derived.Laws.Externs
import Derived.Lib.OthersKept
import Derived.Lib.OwnKind
import Derived.Shelf.Strings.Builder1
import Derived.Shelf.Strings.BuilderF
import Derived.Shelf.Strings.BuilderK
import Derived.Shelf.Strconv.Itoa0
import Derived.Shelf.Strconv.Itoa1
import Derived.Shelf.LaysM
import Derived.Shelf.Strconv.Itoa2
import Derived.Shelf.Strconv.Itoa3
import Derived.Shelf.Strconv.Itoa4
import Derived.Shelf.Bits.Mul64
import Derived.Shelf.Strings.BuilderCap
import Derived.Shelf.Slices.Equal
import Derived.Ground.Names2Prog
import Derived.Shelf.Slices.Clone
import Derived.Shelf.Slices.Delete
import Derived.Shelf.Slices.Cells
import Derived.Shelf.Slices.Empties
import Derived.Ground.SlgnProg
import Derived.Shelf.SlicesG.SearchI
import Derived.Shelf.SlicesE.Clone
import Derived.Test.YteaaikmejacpaaaGreatDoorProg
import Derived.Lib.ItoaLen

namespace Go.Proofs.YteaaikmejacpaaaGreatDoor.Tx
open Go.ChangeShapes Go.WideShapes Go.ChangeAt Go.RowKit
open Fr Fx
set_option maxRecDepth 8000
set_option linter.unusedVariables false
set_option linter.unusedSimpArgs false
set_option maxRecDepth 8000

theorem c_fi (n : Int) (w : World) (n0 : -9223372036854775808 <= n) (n1 : n <= 9223372036854775807) (hL : LA w) : Calls Tryz.prog 155 #[.int .i64 n, .int .i64 10] w (Ret (.string ⟨(Lib.itoa n).toArray⟩) w) :=
 (Tryz.strconv_FormatInt_10 n n0 n1 w hL.1).mono fun e w' ⟨he, k, os, hw⟩ => ⟨he, by rw [hw]; exact Go.Lib.below_grow _ _ (Nat.le_refl _) k os⟩
theorem cat3 (a b : List UInt8) : (⟨a.toArray⟩ : ByteArray) ++ ((⟨#[47]⟩ : ByteArray) ++ (⟨b.toArray⟩ : ByteArray)) = ⟨(a ++ 47 :: b).toArray⟩ := by
 apply ByteArray.ext
 simp
theorem dec_len : ∀ (m k : Nat), k < 10 ^ (m + 1) -> (Lib.decDigits k).length <= m + 1
 | 0, k, h => by rw [dec_small (by simpa using h)]; simp
 | m + 1, k, h => by
  by_cases h10 : k < 10
  ·rw [dec_small h10]; simp
  ·rw [dec_big h10, List.length_append]
   have := dec_len m (k / 10) (by rw [Nat.pow_succ] at h; omega)
   simp; omega
theorem itoa_len {n : Int} (h0 : -2147483647 <= n) (h1 : n <= 2147483647) : (Lib.itoa n).length <= 11 := by
  have h := dec_len 9 n.natAbs (by have : (10 : Nat) ^ (9 + 1) = 10000000000 := by decide
                                   omega)
  unfold Lib.itoa
  split
  · simp; omega
  · rw [show n.toNat = n.natAbs by omega]; omega
theorem arr_size (l : List UInt8) : (⟨l.toArray⟩ : ByteArray).size = l.length := by rw [Lib.size_eq]
set_option maxHeartbeats 4000000 in
theorem c_fmt (n d : Int) (w : World) (hL : LA w) : Calls Tryz.prog 133 #[.agg #[.int .i64 n, .int .i64 d]] w (Ret (.string ⟨(fmv n d).toArray⟩) w) := by
 have LAh := Lib.hid hL
 have VA := Lib.hid fun w => valid_any n d w
 cases hv : vld n d
 ·rw [show fmv n d = [] by unfold fmv; rw [if_pos hv]]
  rw [hv] at VA
  clear hv hL
  go_enter Tryz.func133, Tryz.ntmps133
  go_wp2_with (first | (go_at_call 84; (with_reducible refine (VA.out _).mono ?_); rintro e w1 ⟨rfl, hb1⟩; have hc1 := (bcell hb1).1; have hf1 := (bcell hb1).2; have z1_0 : w.heap.size < w1.heap.size := (by have hzz := hb1.size; (try simp at hzz); omega); have K1 : Below w.heap.size w w1 := Below.trans (b := _) (by (repeat' (first | (with_reducible exact Below.refl _ _) | (with_reducible refine Below.alloc ?_ ?_ _) | (with_reducible refine Below.setCell ?_ ?_ _) | (with_reducible refine below_drewN ?_ _) | (simp; done) | omega | (simp; omega)))) (hb1.mono (by have hzz := hb1.size; (try simp at hzz); first | omega | (simp; done) | (simp; omega)))))
  go_ret
  exact ⟨rfl, K1⟩
 rw [hv] at VA
 obtain ⟨d0, d1, n0, n1, _⟩ := vld_parts hv
 have F1 := Lib.hid fun w h => c_fi n w (by omega) (by omega) h
 have F2 := Lib.hid fun w h => c_fi d w (by omega) (by omega) h
 have HF : Hid (∀ l, (if d = 1 then Lib.itoa n else Lib.itoa n ++ 47 :: Lib.itoa d) = l -> fmv n d = l) := Lib.hid fun l hl => by
  unfold fmv; rw [if_neg (by rw [hv]; decide)]; exact hl
 clear hv hL
 by_cases h1 : d = 1
 ·rw [HF.out _ (if_pos h1)]
  have g1 : (d != 1) = false := by simpa using h1
  clear HF h1 F2
  generalize Lib.itoa n = a at *
  go_enter Tryz.func133, Tryz.ntmps133
  go_wp2_with (first | (go_at_call 84; (with_reducible refine (VA.out _).mono ?_); rintro e w1 ⟨rfl, hb1⟩; have hc1 := (bcell hb1).1; have hf1 := (bcell hb1).2; have z1_0 : w.heap.size < w1.heap.size := (by have hzz := hb1.size; (try simp at hzz); omega); have K1 : Below w.heap.size w w1 := Below.trans (b := _) (by (repeat' (first | (with_reducible exact Below.refl _ _) | (with_reducible refine Below.alloc ?_ ?_ _) | (with_reducible refine Below.setCell ?_ ?_ _) | (with_reducible refine below_drewN ?_ _) | (simp; done) | omega | (simp; omega)))) (hb1.mono (by have hzz := hb1.size; (try simp at hzz); first | omega | (simp; done) | (simp; omega)))) | (go_at_call 155; (with_reducible refine (F1.out _ (LAh.out.below (by (repeat' (first | (with_reducible exact Below.refl _ _) | (with_reducible exact K1) | (with_reducible refine Below.alloc ?_ ?_ _) | (with_reducible refine Below.setCell ?_ ?_ _) | (with_reducible refine below_drewN ?_ _) | (simp; done) | omega | (simp; omega)))))).mono ?_); rintro e w2 ⟨rfl, hb2⟩; have hc2 := (bcell hb2).1; have hf2 := (bcell hb2).2; have z2_0 : w.heap.size < w2.heap.size := (by have hzz := hb2.size; (try simp at hzz); omega); have K2 : Below w.heap.size w w2 := Below.trans (b := _) (by (repeat' (first | (with_reducible exact Below.refl _ _) | (with_reducible exact K1) | (with_reducible refine Below.alloc ?_ ?_ _) | (with_reducible refine Below.setCell ?_ ?_ _) | (with_reducible refine below_drewN ?_ _) | (simp; done) | omega | (simp; omega)))) (hb2.mono (by have hzz := hb2.size; (try simp at hzz); first | omega | (simp; done) | (simp; omega)))))
  go_ret
  exact ⟨rfl, K2⟩
 ·rw [HF.out _ (if_neg h1), <- cat3]
  have g1 : (d != 1) = true := by simpa using h1
  clear HF h1
  have ha : (⟨(Lib.itoa n).toArray⟩ : ByteArray).size <= 11 := by rw [arr_size]; exact itoa_len n0 n1
  have hb : (⟨(Lib.itoa d).toArray⟩ : ByteArray).size <= 11 := by rw [arr_size]; exact itoa_len (by omega) d1
  generalize (⟨(Lib.itoa n).toArray⟩ : ByteArray) = a at *
  generalize (⟨(Lib.itoa d).toArray⟩ : ByteArray) = b at *
  have h1 : (⟨#[47]⟩ : ByteArray).size = 1 := rfl
  have h2 : ((⟨#[47]⟩ : ByteArray) ++ b).size = 1 + b.size := by rw [ByteArray.size_append, h1]
  have hb9 : ((⟨#[47]⟩ : ByteArray) ++ b).size <= 12 := by omega
  clear h1 h2
  go_enter Tryz.func133, Tryz.ntmps133
  go_wp2_with fail
  (with_reducible refine (VA.out _).mono ?_); rintro e w1 ⟨rfl, hb1⟩; have hc1 := (bcell hb1).1; have hf1 := (bcell hb1).2; have z1_0 : w.heap.size < w1.heap.size := (by have hzz := hb1.size; (try simp at hzz); omega); have K1 : Below w.heap.size w w1 := Below.trans (b := _) (by (repeat' (first | (with_reducible exact Below.refl _ _) | (with_reducible refine Below.alloc ?_ ?_ _) | (with_reducible refine Below.setCell ?_ ?_ _) | (with_reducible refine below_drewN ?_ _) | (simp; done) | omega | (simp; omega)))) (hb1.mono (by have hzz := hb1.size; (try simp at hzz); first | omega | (simp; done) | (simp; omega)))
  go_wp2_with fail
  (with_reducible refine (F1.out _ (LAh.out.below (by (repeat' (first | (with_reducible exact Below.refl _ _) | (with_reducible exact K1) | (with_reducible refine Below.alloc ?_ ?_ _) | (with_reducible refine Below.setCell ?_ ?_ _) | (with_reducible refine below_drewN ?_ _) | (simp; done) | omega | (simp; omega)))))).mono ?_); rintro e w2 ⟨rfl, hb2⟩; have hc2 := (bcell hb2).1; have hf2 := (bcell hb2).2; have z2_0 : w.heap.size < w2.heap.size := (by have hzz := hb2.size; (try simp at hzz); omega); have K2 : Below w.heap.size w w2 := Below.trans (b := _) (by (repeat' (first | (with_reducible exact Below.refl _ _) | (with_reducible exact K1) | (with_reducible refine Below.alloc ?_ ?_ _) | (with_reducible refine Below.setCell ?_ ?_ _) | (with_reducible refine below_drewN ?_ _) | (simp; done) | omega | (simp; omega)))) (hb2.mono (by have hzz := hb2.size; (try simp at hzz); first | omega | (simp; done) | (simp; omega)))
  go_wp2_with fail
  (with_reducible refine (F2.out _ (LAh.out.below (by (repeat' (first | (with_reducible exact Below.refl _ _) | (with_reducible exact K2) | (with_reducible refine Below.alloc ?_ ?_ _) | (with_reducible refine Below.setCell ?_ ?_ _) | (with_reducible refine below_drewN ?_ _) | (simp; done) | omega | (simp; omega)))))).mono ?_); rintro e w3 ⟨rfl, hb3⟩; have hc3 := (bcell hb3).1; have hf3 := (bcell hb3).2; have z3_0 : w.heap.size < w3.heap.size := (by have hzz := hb3.size; (try simp at hzz); omega); have K3 : Below w.heap.size w w3 := Below.trans (b := _) (by (repeat' (first | (with_reducible exact Below.refl _ _) | (with_reducible exact K1) | (with_reducible exact K2) | (with_reducible refine Below.alloc ?_ ?_ _) | (with_reducible refine Below.setCell ?_ ?_ _) | (with_reducible refine below_drewN ?_ _) | (simp; done) | omega | (simp; omega)))) (hb3.mono (by have hzz := hb3.size; (try simp at hzz); first | omega | (simp; done) | (simp; omega)))
  go_wp2
  go_ret
  exact ⟨rfl, K3⟩
end Go.Proofs.YteaaikmejacpaaaGreatDoor.Tx


namespace Go.Proofs.YteaaikmejacpaaaGreatDoor.Tx
open Go.ChangeShapes Go.WideShapes Go.ChangeAt Go.RowKit
open Fr Fx
set_option maxRecDepth 8000
set_option linter.unusedVariables false
set_option linter.unusedSimpArgs false
set_option maxRecDepth 8000
end Go.Proofs.YteaaikmejacpaaaGreatDoor.Tx


namespace Go.Proofs.YteaaikmejacpaaaGreatDoor.Tx
open Go.ChangeShapes Go.WideShapes Go.ChangeAt Go.RowKit
open Fr Fx
set_option maxRecDepth 8000
set_option linter.unusedVariables false
set_option linter.unusedSimpArgs false
set_option maxRecDepth 8000

end Go.Proofs.YteaaikmejacpaaaGreatDoor.Tx


namespace Go.Proofs.YteaaikmejacpaaaGreatDoor.Tx
open Go.ChangeShapes Go.WideShapes Go.ChangeAt Go.RowKit
open Fr Fx
set_option maxRecDepth 8000
set_option linter.unusedVariables false
set_option linter.unusedSimpArgs false
set_option maxRecDepth 8000

end Go.Proofs.YteaaikmejacpaaaGreatDoor.Tx


namespace Go.Proofs.YteaaikmejacpaaaGreatDoor.Tx
open Go.ChangeShapes Go.WideShapes Go.ChangeAt Go.RowKit
open Fr Fx
set_option maxRecDepth 8000
set_option linter.unusedVariables false
set_option linter.unusedSimpArgs false
set_option maxRecDepth 8000
end Go.Proofs.YteaaikmejacpaaaGreatDoor.Tx


namespace Go.Proofs.YteaaikmejacpaaaGreatDoor.Tx
open Go.ChangeShapes Go.WideShapes Go.ChangeAt Go.RowKit
open Fr Fx
set_option maxRecDepth 8000
set_option linter.unusedVariables false
set_option linter.unusedSimpArgs false
set_option maxRecDepth 8000

end Go.Proofs.YteaaikmejacpaaaGreatDoor.Tx


namespace Go.Proofs.YteaaikmejacpaaaGreatDoor.Va
open Go.ChangeShapes Go.WideShapes Go.ChangeAt Go.RowKit
open Fr Fx
set_option linter.unusedVariables false
set_option linter.unusedSimpArgs false
/-- The text of a number of a type. -/
def vfm (K B F R O n d : Int) : List UInt8 := if vv K B F R O n d = false then [] else Tx.fmv (rat K F n d).1 (rat K F n d).2

set_option maxHeartbeats 4000000 in
theorem c_vfm (K B F R O n d : Int) (w : World) (b0 : -9223372036854775808 <= B) (b1 : B <= 9223372036854775807) (hL : Tx.LA w) : Calls Tryz.prog 106 #[T5 K B F R O, V2 n d] w (Ret (.string ⟨(vfm K B F R O n d).toArray⟩) w) := by
 have LAh := Lib.hid hL
 have VA := Lib.hid fun w => c_va K B F R O n d w b0 b1
 cases hv : vv K B F R O n d
 ·rw [show vfm K B F R O n d = [] by unfold vfm; rw [if_pos hv]]
  rw [hv] at VA
  clear hv hL b0 b1
  go_enter Tryz.func106, Tryz.ntmps106
  go_wp2_with (first | (go_at_call 48; (with_reducible refine (VA.out _).mono ?_); rintro e w1 ⟨rfl, hb1⟩; have hc1 := (bcell hb1).1; have hf1 := (bcell hb1).2; have z1_0 : w.heap.size < w1.heap.size := (by have hzz := hb1.size; (try simp at hzz); omega); have z1_1 : w.heap.size + 1 < w1.heap.size := (by have hzz := hb1.size; (try simp at hzz); omega); have K1 : Below w.heap.size w w1 := Below.trans (b := _) (by (repeat' (first | (with_reducible exact Below.refl _ _) | (with_reducible refine Below.alloc ?_ ?_ _) | (with_reducible refine Below.setCell ?_ ?_ _) | (with_reducible refine below_drewN ?_ _) | (simp; done) | omega | (simp; omega)))) (hb1.mono (by have hzz := hb1.size; (try simp at hzz); first | omega | (simp; done) | (simp; omega)))))
  go_ret
  exact ⟨rfl, K1⟩
 ·rw [show vfm K B F R O n d = Tx.fmv (rat K F n d).1 (rat K F n d).2 by unfold vfm; rw [if_neg (by rw [hv]; decide)]]
  rw [hv] at VA
  have RA := Lib.hid fun w => c_rat K B F R O n d w hv
  have FM := Lib.hid fun w h => Tx.c_fmt (rat K F n d).1 (rat K F n d).2 w h
  clear hv hL b0 b1
  generalize (⟨(Tx.fmv (rat K F n d).1 (rat K F n d).2).toArray⟩ : ByteArray) = s at *
  generalize (rat K F n d).1 = x at *
  generalize (rat K F n d).2 = y at *
  go_enter Tryz.func106, Tryz.ntmps106
  go_wp2_with (first | (go_at_call 48; (with_reducible refine (VA.out _).mono ?_); rintro e w1 ⟨rfl, hb1⟩; have hc1 := (bcell hb1).1; have hf1 := (bcell hb1).2; have z1_0 : w.heap.size < w1.heap.size := (by have hzz := hb1.size; (try simp at hzz); omega); have z1_1 : w.heap.size + 1 < w1.heap.size := (by have hzz := hb1.size; (try simp at hzz); omega); have K1 : Below w.heap.size w w1 := Below.trans (b := _) (by (repeat' (first | (with_reducible exact Below.refl _ _) | (with_reducible refine Below.alloc ?_ ?_ _) | (with_reducible refine Below.setCell ?_ ?_ _) | (with_reducible refine below_drewN ?_ _) | (simp; done) | omega | (simp; omega)))) (hb1.mono (by have hzz := hb1.size; (try simp at hzz); first | omega | (simp; done) | (simp; omega)))) | (go_at_call 134; (with_reducible refine (RA.out _).mono ?_); rintro e w2 ⟨rfl, hb2⟩; have hc2 := (bcell hb2).1; have hf2 := (bcell hb2).2; have z2_0 : w.heap.size < w2.heap.size := (by have hzz := hb2.size; (try simp at hzz); omega); have z2_1 : w.heap.size + 1 < w2.heap.size := (by have hzz := hb2.size; (try simp at hzz); omega); have K2 : Below w.heap.size w w2 := Below.trans (b := _) (by (repeat' (first | (with_reducible exact Below.refl _ _) | (with_reducible exact K1) | (with_reducible exact K1.size) | (with_reducible refine Below.alloc ?_ ?_ _) | (with_reducible refine Below.setCell ?_ ?_ _) | (with_reducible refine below_drewN ?_ _) | (simp; done) | omega | (simp; omega)))) (hb2.mono (by have hzz := hb2.size; (try simp at hzz); first | omega | (simp; done) | (simp; omega)))) | (go_at_call 133; (with_reducible refine (FM.out _ (LAh.out.below (by (repeat' (first | (with_reducible exact Below.refl _ _) | (with_reducible exact K2) | (with_reducible exact K2.size) | (with_reducible refine Below.alloc ?_ ?_ _) | (with_reducible refine Below.setCell ?_ ?_ _) | (with_reducible refine below_drewN ?_ _) | (simp; done) | omega | (simp; omega)))))).mono ?_); rintro e w3 ⟨rfl, hb3⟩; have hc3 := (bcell hb3).1; have hf3 := (bcell hb3).2; have z3_0 : w.heap.size < w3.heap.size := (by have hzz := hb3.size; (try simp at hzz); omega); have z3_1 : w.heap.size + 1 < w3.heap.size := (by have hzz := hb3.size; (try simp at hzz); omega); have K3 : Below w.heap.size w w3 := Below.trans (b := _) (by (repeat' (first | (with_reducible exact Below.refl _ _) | (with_reducible exact K1) | (with_reducible exact K1.size) | (with_reducible exact K2) | (with_reducible exact K2.size) | (with_reducible refine Below.alloc ?_ ?_ _) | (with_reducible refine Below.setCell ?_ ?_ _) | (with_reducible refine below_drewN ?_ _) | (simp; done) | omega | (simp; omega)))) (hb3.mono (by have hzz := hb3.size; (try simp at hzz); first | omega | (simp; done) | (simp; omega)))))
  go_ret
  exact ⟨rfl, K3⟩
end Go.Proofs.YteaaikmejacpaaaGreatDoor.Va


namespace Go.Proofs.YteaaikmejacpaaaGreatDoor.Ln
open Go.ChangeShapes Go.WideShapes Go.ChangeAt Go.RowKit
open Go.Shelf
set_option maxRecDepth 8000
set_option linter.unusedVariables false
set_option linter.unusedSimpArgs false
set_option maxRecDepth 8000
theorem own_any {w : World} {base n : Nat} {e : TypeId} {v : Value} {xs : List Value} (h : w.ownsRow base e 1 v n xs) : ∃ q cap, v = .slice q n cap /\ (0 < n -> ∃ g, q = some ⟨g, 0, none⟩) := by
 rcases h.2 with ⟨rfl, rfl⟩ | ⟨g, cap, cur, rfl, _⟩
 ·exact ⟨none, 0, rfl, fun h => by omega⟩
 ·exact ⟨_, cap, rfl, fun _ => ⟨g, rfl⟩⟩
theorem sizeB : (Tryz.prog.info? 98).map (·.size) = some 2 := by kernel_rfl
theorem liesB : liesAt Tryz.prog Tryz.prog.depth 98 (2 / Tryz.prog.cellsOf 98) 0 98 1 = true := by kernel_rfl
theorem info5 : (Tryz.prog.info? 5).map (fun i => (i.zero, i.size, i.bytes)) = some (some (.int .u8 0), 1, 1) := by kernel_rfl
set_option maxRecDepth 100000 in
set_option maxHeartbeats 2000000 in
theorem copyCheck (B b : Nat) (bs : List Value) (w : World) (h : Lib.IsBuilder 98 5 B b bs w) :
  Calls Tryz.prog 132 #[.pointer (some ⟨b, 0, none⟩)] w fun e w' => e = .returned (.tuple #[]) /\ (Lib.BuilderAt 98 5 B b (.pointer (some ⟨b, 0, none⟩)) bs w' /\ Below B w w' /\ Lib.OthersKept 5 (some b) w w') := by
 obtain ⟨j, hj, hjs⟩ := Option.map_eq_some_iff.1 sizeB
 rcases h with h | h
 ·have h0 := h.cell0
  have hsh := h.shape
  have hfz := h.frozen0
  go_enter Tryz.func132, Tryz.ntmps132
  go_wp2
  rw [Lib.run_to_unsafe w ⟨b, 0, none⟩ Tryz.underlying95 Tryz.underlying156 hj (by rw [hjs]; decide) hsh (Nat.zero_lt_succ 1)]
  simp only [Result.andThen]
  rw [Oper.upon_value]
  go_wp2
  rw [run_callFunc_extern Tryz.func154 (by kernel_rfl) (by kernel_rfl) (by kernel_rfl) (e := Extern.AbiNoEscape.same) (by kernel_rfl)]
  rw [Lib.run_noEscape]
  simp only [Result.andThen]
  rw [Oper.upon_value]
  go_wp2
  rw [Lib.run_from_unsafe w ⟨b, 0, none⟩ Tryz.underlying156 Tryz.underlying95 hj hsh liesB]
  simp only [Result.andThen]
  rw [Oper.upon_value]
  go_wp2
  go_end0
  exact ⟨rfl, h.used _, (Below.refl B w).setCell (p := ⟨b, 0, none⟩) h.1 _, (Lib.OthersKept.refl _ _ w).setCell ⟨b, 0, none⟩ rfl _⟩
 ·have h0 := h.cell0
  go_enter Tryz.func132, Tryz.ntmps132
  go_wp2
  rw [Lib.run_neq_ptr_same w _ Tryz.underlying95 hj]
  go_wp2
  go_end0
  exact ⟨rfl, h, Below.refl B _, Lib.OthersKept.refl _ _ _⟩
set_option maxRecDepth 100000 in
set_option maxHeartbeats 4000000 in
theorem writeString (B b : Nat) (bs : List Value) (s : ByteArray) (w : World) (h : Lib.IsBuilder 98 5 B b bs w) (hlen : bs.length + s.size <= 140737488355328) (hBw : B <= w.heap.size) :
  Calls Tryz.prog 105 #[.pointer (some ⟨b, 0, none⟩), .string s] w fun e w' => e = .returned (.tuple #[.int .i64 s.size, .nilIface]) /\ (Lib.BuilderAt 98 5 B b (.pointer (some ⟨b, 0, none⟩)) (bs ++ Lib.strCells s) w' /\ Below B w w' /\ Lib.OthersKept 5 (some b) w w') := by
 obtain ⟨i0, hi, hz0, hz1, hz2⟩ := info_parts info5
 have CC := Lib.hid (copyCheck B b bs w h)
 go_enter Tryz.func105, Tryz.ntmps105
 go_wp2_with fail
 refine (CC.out).mono ?_
 rintro e w1 ⟨rfl, h1, hb1, hk1⟩
 have hlt := h1.lt
 obtain ⟨hB, v, hbk, hown, hne⟩ := h1
 have c0 : w1.cell? ⟨b, 0, none⟩ = some (.pointer (some ⟨b, 0, none⟩)) := by rw [Lib.cell_of_heap hbk]; rfl
 have c1 : w1.cell? ⟨b, 1, none⟩ = some v := by rw [Lib.cell_of_heap hbk]; rfl
 have hs1 := hb1.size
 go_wp2_with (at_builtin; refine Lib.wpList_append_own_string _ rfl _ _ 96 9 rfl B 5 i0 Tryz.underlying96 Tryz.underlying9 hi hz0 hz1 hz2 _ _ _ rfl hown s rfl ?_ ?_ ?_ ?_)
 ·unfold maxLen; omega
 ·omega
 ·omega
 intro v' w2 hown' hgrow _
 have hb2 : w2.heap[b]? = some (.cells #[.pointer (some ⟨b, 0, none⟩), v] 98 (0, 0)) := by
  rw [hgrow.block b hlt (fun e => hne e.symm)]
  exact hbk
 have d0 : w2.cell? ⟨b, 0, none⟩ = some (.pointer (some ⟨b, 0, none⟩)) := by rw [Lib.cell_of_heap hb2]; rfl
 have d1 : w2.cell? ⟨b, 1, none⟩ = some v := by rw [Lib.cell_of_heap hb2]; rfl
 have f1 : w2.frozen? ⟨b, 1, none⟩ = false := Lib.frozen_of_heap hb2 1
 obtain ⟨q, cap, rfl, _⟩ := own_any hown'
 go_wp2
 go_ret2
 refine ⟨rfl, Lib.BuilderAt.put (T := 98) (e := 5) hB hb2 (bs' := bs ++ Lib.strCells s) (by rw [List.length_append, Lib.strCells_length]; exact hown') (by decide), ?_, (hk1.grown hgrow (Lib.ownsRow_kind hown)).setCell ⟨b, 1, none⟩ rfl _⟩
 exact (hb1.grown hgrow (by omega) (fun k hk => (hown.lt k hk).1)).setCell (p := ⟨b, 1, none⟩) hB _
theorem isB_alloc {B b : Nat} {bs : List Value} {w : World} (h : Lib.IsBuilder 98 5 B b bs w) (o : Obj) : Lib.IsBuilder 98 5 B b bs (w.alloc o) := by
 have key : ∀ p, Lib.BuilderAt 98 5 B b p bs w -> Lib.BuilderAt 98 5 B b p bs (w.alloc o) := fun p hh => by
  have hlt := hh.lt
  obtain ⟨hB, v, hb, hown, hne⟩ := hh
  exact ⟨hB, v, (Lib.alloc_old w o b hlt).trans hb, hown.alloc o, hne⟩
 rcases h with h | h
 ·exact .inl (key _ h)
 ·exact .inr (key _ h)
theorem cells_app (l : List UInt8) (s : ByteArray) : Lib.byteCells l ++ Lib.strCells s = Lib.byteCells (l ++ s.data.toList) := by unfold Lib.byteCells Lib.strCells; rw [List.map_append]

end Go.Proofs.YteaaikmejacpaaaGreatDoor.Ln


namespace Go.Proofs
open Go.Shelf

def Tryz.lays169_ren : Go.Shelf.Ren := ⟨fun | 169 => 77 | n => n, fun | 70 => 95 | 9 => 9 | 0 => 0 | 72 => 98 | 37 => 96 | 127 => 128 | 3 => 3 | 5 => 5 | n => n, fun | n => n⟩

theorem Tryz.lays169 : Go.Proofs.Lays.n169 Tryz.prog Tryz.lays169_ren := {
 mixed := by kernel_rfl
 f169 := Tryz.func77.trans (congrArg some (by kernel_rfl))
 t0 := Tryz.underlying0
 a0 := Tryz.isAgg0
 z0 := Tryz.sizeOf0
 v0 := Tryz.zeroValue0
 t3 := Tryz.underlying3
 a3 := Tryz.isAgg3
 z3 := Tryz.sizeOf3
 v3 := Tryz.zeroValue3
 t9 := Tryz.underlying9
 a9 := Tryz.isAgg9
 z9 := Tryz.sizeOf9
 v9 := Tryz.zeroValue9
 t37 := Tryz.underlying96
 a37 := Tryz.isAgg96
 z37 := Tryz.sizeOf96
 v37 := Tryz.zeroValue96
 t70 := Tryz.underlying95
 a70 := Tryz.isAgg95
 z70 := Tryz.sizeOf95
 v70 := Tryz.zeroValue95
 t72 := Tryz.underlying98
 a72 := Tryz.isAgg98
 z72 := Tryz.sizeOf98
 v72 := Tryz.zeroValue98
 t127 := Tryz.underlying128
 a127 := Tryz.isAgg128
 z127 := Tryz.sizeOf128
 v127 := Tryz.zeroValue128 }

theorem Tryz.Builder_Extra_169 : Builder.Extra Tryz.prog Tryz.lays169_ren := {
 sizeBuilder := by kernel_rfl
 liesBuilder := by kernel_rfl
 t5 := Tryz.underlying5
 a5 := Tryz.isAgg5
 z5 := Tryz.sizeOf5
 v5 := Tryz.zeroValue5
 infoByte := by kernel_rfl
 cellsByte := by kernel_rfl
 sizeByte := by kernel_rfl
 neB5 := by decide }

open Go.RowKit in
theorem Tryz.Builder_String_any (B b : Nat) (l : List UInt8) (w : World) (h : Lib.IsBuilder 98 5 B b (Lib.byteCells l) w) (hBw : B <= w.heap.size) :
  Calls Tryz.prog 77 #[.pointer (some ⟨b, 0, none⟩)] w fun e w' => e = .returned (.string ⟨l.toArray⟩) /\ Below B w w' := Any.Builder_String_any Tryz.lays169 Tryz.Builder_Extra_169 B b l w h hBw

end Go.Proofs


namespace Go.Proofs.YteaaikmejacpaaaGreatDoor.Te
open Go.ChangeShapes Go.WideShapes Go.ChangeAt Go.RowKit
open Fx Va Sh
set_option maxRecDepth 8000
set_option linter.unusedVariables false
set_option linter.unusedSimpArgs false

/-- The text of the first parts, with what stands between them. -/
def wtj (f : Nat -> List UInt8) : Nat -> List UInt8
 | 0 => []
 | i + 1 => wtj f i ++ ((if i = 0 then [] else [44, 32]) ++ f i)
/-- The text of a tensor. -/
def wtx (K B F R O : Int) : List Int -> List (Int × Int) -> List UInt8
 | [], vs => vfm K B F R O (vs.getD 0 (0, 0)).1 (vs.getD 0 (0, 0)).2
 | z :: zs, vs => 91 :: (wtj (fun i => wtx K B F R O zs ((vs.drop (i * (sp zs).toNat)).take (sp zs).toNat)) z.toNat ++ [93])
theorem wtx_nil (K B F R O : Int) (vs : List (Int × Int)) : wtx K B F R O [] vs = vfm K B F R O (vs.getD 0 (0, 0)).1 (vs.getD 0 (0, 0)).2 := rfl
theorem wtx_cons (K B F R O z : Int) (zs : List Int) (vs : List (Int × Int)) : wtx K B F R O (z :: zs) vs = 91 :: (wtj (fun i => wtx K B F R O zs ((vs.drop (i * (sp zs).toNat)).take (sp zs).toNat)) z.toNat ++ [93]) := rfl
theorem itoa_len {n : Int} (h0 : -9223372036854775808 <= n) (h1 : n <= 9223372036854775807) : (Lib.itoa n).length <= 21 := by
 unfold Lib.itoa
 split
 ·rw [List.length_cons, Lib.decDigits_length]
  have := Lib.nDigits_le20 n.natAbs (by omega)
  omega
 ·rw [Lib.decDigits_length]
  have := Lib.nDigits_le20 n.toNat (by omega)
  omega
theorem fmv_len (n d : Int) : (Tx.fmv n d).length <= 60 := by
 unfold Tx.fmv
 split
 ·simp
 ·rename_i h
  have hv : vv 1 0 0 0 0 n d = true := by rw [vv_frac]; simpa using h
  have hs := vv_small hv
  have l1 := itoa_len (n := n) (by omega) (by omega)
  have l2 := itoa_len (n := d) (by omega) (by omega)
  split
  ·omega
  ·rw [List.length_append, List.length_cons]; omega
theorem vfm_len (K B F R O n d : Int) : (vfm K B F R O n d).length <= 60 := by
 unfold vfm
 split
 ·simp
 ·exact fmv_len _ _
theorem wtj_len {f : Nat -> List UInt8} {X : Nat} (h : ∀ i, (f i).length <= X) : ∀ n, (wtj f n).length <= n * (X + 2)
 | 0 => by simp [wtj]
 | n + 1 => by
  have ih := wtj_len h n
  have h2 := h n
  show (wtj f n ++ ((if n = 0 then [] else [44, 32]) ++ f n)).length <= _
  rw [List.length_append, List.length_append, Nat.add_mul]
  have : (if n = 0 then ([] : List UInt8) else [44, 32]).length <= 2 := by split <;> simp
  omega
theorem wtx_len (K B F R O : Int) : ∀ (zs : List Int) (vs : List (Int × Int)), zs.any low = false -> (wtx K B F R O zs vs).length + 4 <= (64 + 4 * zs.length) * (sp zs).toNat
 | [], vs, _ => by
  have h := vfm_len K B F R O (vs.getD 0 (0, 0)).1 (vs.getD 0 (0, 0)).2
  have e : (sp []).toNat = 1 := by decide
  rw [wtx_nil, e, List.length_nil]
  omega
 | z :: zs, vs, hl => by
  rw [List.any_cons, Bool.or_eq_false_iff] at hl
  have hz : 1 <= z := by have := hl.1; unfold low at this; simp at this; omega
  have hs := sp_pos hl.2
  have e2 : (sp (z :: zs)).toNat = z.toNat * (sp zs).toNat := by
   have : sp (z :: zs) = z * sp zs := by simp [sp, Int.mul_comm]
   rw [this, Int.toNat_mul (by omega) (by omega)]
  obtain ⟨s, hs2⟩ : ∃ s, (sp zs).toNat = s := ⟨_, rfl⟩
  obtain ⟨y, hy⟩ : ∃ y, z.toNat = y := ⟨_, rfl⟩
  rw [wtx_cons, e2, hs2, hy, List.length_cons, List.length_append]
  have hX : ∀ i, (wtx K B F R O zs ((vs.drop (i * s)).take s)).length <= (64 + 4 * zs.length) * s - 4 := fun i => by
   have := wtx_len K B F R O zs ((vs.drop (i * s)).take s) hl.2
   rw [hs2] at this
   omega
  have h1 := wtj_len hX y
  have hy1 : 1 <= y := by omega
  have hs1 : 1 <= s := by omega
  have e3 : (64 + 4 * (z :: zs).length) * (y * s) = y * ((64 + 4 * zs.length) * s) + 4 * (y * s) := by
   rw [List.length_cons, show 64 + 4 * (zs.length + 1) = (64 + 4 * zs.length) + 4 by omega, Nat.add_mul]
   congr 1
   rw [Nat.mul_left_comm]
  have e4 : 64 * 1 <= (64 + 4 * zs.length) * s := Nat.mul_le_mul (by omega) hs1
  have e5 : y * ((64 + 4 * zs.length) * s - 4 + 2) + 2 * y <= y * ((64 + 4 * zs.length) * s) := by
   rw [Nat.mul_comm 2 y, <- Nat.mul_add]
   exact Nat.mul_le_mul_left _ (by omega)
  have e6 : y * 1 <= y * s := Nat.mul_le_mul_left _ hs1
  rw [e3]
  simp only [List.length_cons, List.length_nil]
  omega
/-- A builder's text, and what else is kept. -/
theorem isB_below {Bs b : Nat} {bs : List Value} {w w' : World} (h : Lib.IsBuilder 98 5 Bs b bs w) (hb : Below w.heap.size w w') : Lib.IsBuilder 98 5 Bs b bs w' := by
 have key : ∀ p, Lib.BuilderAt 98 5 Bs b p bs w -> Lib.BuilderAt 98 5 Bs b p bs w' := fun p hh => by
  have hlt := hh.lt
  obtain ⟨hB, v, hbk, hown, hne⟩ := hh
  exact ⟨hB, v, (hb.block b hlt).trans hbk, own_belowE hown hb, hne⟩
 rcases h with h | h
 ·exact .inl (key _ h)
 ·exact .inr (key _ h)
theorem oth_below {e : TypeId} {b : Option Nat} {a w w' : World} (h : Lib.OthersKept e b a w) (hb : Below w.heap.size w w') : Lib.OthersKept e b a w' := by
 intro k o hk hkb ho
 have h1 := h k o hk hkb ho
 exact (hb.block k (Array.getElem?_eq_some_iff.1 h1).1).trans h1
theorem box_cells {w : World} {b : Nat} {x0 x1 x2 x3 x4 x5 x6 : Value} (h : w.heap[b]? = some (.cells #[x0, x1, x2, x3, x4, x5, x6] 27 (0, 0))) : (w.cell? ⟨b, 0, none⟩ = some x0 /\ w.cell? ⟨b, 1, none⟩ = some x1 /\ w.cell? ⟨b, 2, none⟩ = some x2 /\ w.cell? ⟨b, 3, none⟩ = some x3 /\ w.cell? ⟨b, 4, none⟩ = some x4 /\ w.cell? ⟨b, 5, none⟩ = some x5 /\ w.cell? ⟨b, 6, none⟩ = some x6) := by
 refine ⟨?_, ?_, ?_, ?_, ?_, ?_, ?_⟩ <;> rw [Lib.cell_of_heap h] <;> rfl
end Go.Proofs.YteaaikmejacpaaaGreatDoor.Te


namespace Go.Proofs.YteaaikmejacpaaaGreatDoor.Te
open Go.ChangeShapes Go.WideShapes Go.ChangeAt Go.RowKit
open Fx Va Sh
set_option maxRecDepth 8000
set_option linter.unusedVariables false
set_option linter.unusedSimpArgs false

set_option maxRecDepth 100000 in
set_option maxHeartbeats 2000000 in
theorem wr_nil (K B F R O : Int) (b0 : -9223372036854775808 <= B) (b1 : B <= 9223372036854775807) (Bs bb : Nat) (zs : List Int) (vs : List (Int × Int)) (p : Option Addr) (c : Nat) (q : Option Addr) (d : Nat) (L : List UInt8) (w : World)
  (hw : Bs <= w.heap.size) (hIB : Lib.IsBuilder 98 5 Bs bb (Lib.byteCells L) w) (HL : ∀ u, Below Bs w u -> Tx.LA u) (PA : ∀ u, Below Bs w u -> SlI u p zs) (PB : ∀ u, Below Bs w u -> SlV u q vs) (hz : zs = []) (hl : vs.length = 1) (hlen : L.length + (wtx K B F R O zs vs).length <= 140737488355328) :
  Calls Tryz.prog 76 #[.pointer (some ⟨bb, 0, none⟩), Tn K B F R O p zs.length c q vs.length d] w fun e w' => e = .returned (.tuple #[]) /\ Lib.IsBuilder 98 5 Bs bb (Lib.byteCells (L ++ wtx K B F R O zs vs)) w' /\ Below Bs w w' /\ Lib.OthersKept 5 (some bb) w w' := by
 subst hz
 obtain ⟨vb, vo, rfl, v0, v1⟩ := PB w (Below.refl _ _) 0 (by omega)
 rw [wtx_nil] at hlen ⊢
 obtain ⟨y, hy⟩ : ∃ y, vs.getD 0 (0, 0) = y := ⟨_, rfl⟩
 rw [hy] at v0 v1 hlen ⊢
 have VF := Lib.hid fun u h => c_vfm K B F R O y.1 y.2 u b0 b1 h
 obtain ⟨X, hX⟩ : ∃ X, vfm K B F R O y.1 y.2 = X := ⟨_, rfl⟩
 rw [hX] at VF hlen ⊢
 have HLA := Lib.hid HL
 have HIB := Lib.hid hIB
 have WS := Lib.hid fun u (h : Lib.IsBuilder 98 5 Bs bb (Lib.byteCells L) u) (hs : Bs <= u.heap.size) => Ln.writeString Bs bb (Lib.byteCells L) ⟨X.toArray⟩ u h (by rw [Lib.byteCells_length]; show L.length + X.toArray.size <= _; simpa using hlen) hs
 obtain ⟨m, hmm⟩ : ∃ m, vs.length = m := ⟨_, rfl⟩
 have HM := Lib.hid hmm
 rw [hmm] at hl ⊢
 have g0 : (0 : Int) < m := by omega
 have g0n : 0 < m := by omega
 rw [Nat.zero_mul, Nat.add_zero] at v0 v1
 have hvb : vb < w.heap.size := World.block_lt_of_cell? _ _ v0
 replace v0 := Rg.keep ((Below.refl w.heap.size w).alloc (Nat.le_refl _) (Obj.cells #[Value.int .i64 K, Value.int .i64 B, Value.int .i64 F, Value.int .i64 R, Value.int .i64 O, Value.slice p 0 c, Value.slice (some ⟨vb, vo, none⟩) m d] 27)) hvb v0
 replace v1 := Rg.keep ((Below.refl w.heap.size w).alloc (Nat.le_refl _) (Obj.cells #[Value.int .i64 K, Value.int .i64 B, Value.int .i64 F, Value.int .i64 R, Value.int .i64 O, Value.slice p 0 c, Value.slice (some ⟨vb, vo, none⟩) m d] 27)) hvb v1
 have c0 : (w.alloc (Obj.cells #[Value.int .i64 K, Value.int .i64 B, Value.int .i64 F, Value.int .i64 R, Value.int .i64 O, Value.slice p 0 c, Value.slice (some ⟨vb, vo, none⟩) m d] 27)).cell? ⟨w.heap.size, 0, none⟩ = some (.int .i64 K) := by go_cell
 have c1 : (w.alloc (Obj.cells #[Value.int .i64 K, Value.int .i64 B, Value.int .i64 F, Value.int .i64 R, Value.int .i64 O, Value.slice p 0 c, Value.slice (some ⟨vb, vo, none⟩) m d] 27)).cell? ⟨w.heap.size, 1, none⟩ = some (.int .i64 B) := by go_cell
 have c2 : (w.alloc (Obj.cells #[Value.int .i64 K, Value.int .i64 B, Value.int .i64 F, Value.int .i64 R, Value.int .i64 O, Value.slice p 0 c, Value.slice (some ⟨vb, vo, none⟩) m d] 27)).cell? ⟨w.heap.size, 2, none⟩ = some (.int .i64 F) := by go_cell
 have c3 : (w.alloc (Obj.cells #[Value.int .i64 K, Value.int .i64 B, Value.int .i64 F, Value.int .i64 R, Value.int .i64 O, Value.slice p 0 c, Value.slice (some ⟨vb, vo, none⟩) m d] 27)).cell? ⟨w.heap.size, 3, none⟩ = some (.int .i64 R) := by go_cell
 have c4 : (w.alloc (Obj.cells #[Value.int .i64 K, Value.int .i64 B, Value.int .i64 F, Value.int .i64 R, Value.int .i64 O, Value.slice p 0 c, Value.slice (some ⟨vb, vo, none⟩) m d] 27)).cell? ⟨w.heap.size, 4, none⟩ = some (.int .i64 O) := by go_cell
 have c5 : (w.alloc (Obj.cells #[Value.int .i64 K, Value.int .i64 B, Value.int .i64 F, Value.int .i64 R, Value.int .i64 O, Value.slice p 0 c, Value.slice (some ⟨vb, vo, none⟩) m d] 27)).cell? ⟨w.heap.size, 5, none⟩ = some (.slice p 0 c) := by go_cell
 have c6 : (w.alloc (Obj.cells #[Value.int .i64 K, Value.int .i64 B, Value.int .i64 F, Value.int .i64 R, Value.int .i64 O, Value.slice p 0 c, Value.slice (some ⟨vb, vo, none⟩) m d] 27)).cell? ⟨w.heap.size, 6, none⟩ = some (.slice (some ⟨vb, vo, none⟩) m d) := by go_cell
 clear hmm hl hX hy hIB HL PA PB
 unfold Tn at *
 rw [List.length_nil]
 go_enter Tryz.func76, Tryz.ntmps76
 go_upto_region 2 with fail
 have HS : Hid (∀ u u' : World, ((u.cell? ⟨w.heap.size, 0, none⟩ = some (.int .i64 K) /\ u.cell? ⟨w.heap.size, 1, none⟩ = some (.int .i64 B) /\ u.cell? ⟨w.heap.size, 2, none⟩ = some (.int .i64 F) /\ u.cell? ⟨w.heap.size, 3, none⟩ = some (.int .i64 R) /\ u.cell? ⟨w.heap.size, 4, none⟩ = some (.int .i64 O) /\ u.cell? ⟨w.heap.size, 5, none⟩ = some (.slice p 0 c) /\ u.cell? ⟨w.heap.size, 6, none⟩ = some (.slice (some ⟨vb, vo, none⟩) m d)) /\ u.cell? ⟨vb, vo, none⟩ = some (.int .i64 y.1) /\ u.cell? ⟨vb, vo + 1, none⟩ = some (.int .i64 y.2) /\ Lib.IsBuilder 98 5 Bs bb (Lib.byteCells L) u /\ Below Bs w u /\ Lib.OthersKept 5 (some bb) w u) -> Below u.heap.size u u' -> ((u'.cell? ⟨w.heap.size, 0, none⟩ = some (.int .i64 K) /\ u'.cell? ⟨w.heap.size, 1, none⟩ = some (.int .i64 B) /\ u'.cell? ⟨w.heap.size, 2, none⟩ = some (.int .i64 F) /\ u'.cell? ⟨w.heap.size, 3, none⟩ = some (.int .i64 R) /\ u'.cell? ⟨w.heap.size, 4, none⟩ = some (.int .i64 O) /\ u'.cell? ⟨w.heap.size, 5, none⟩ = some (.slice p 0 c) /\ u'.cell? ⟨w.heap.size, 6, none⟩ = some (.slice (some ⟨vb, vo, none⟩) m d)) /\ u'.cell? ⟨vb, vo, none⟩ = some (.int .i64 y.1) /\ u'.cell? ⟨vb, vo + 1, none⟩ = some (.int .i64 y.2) /\ Lib.IsBuilder 98 5 Bs bb (Lib.byteCells L) u' /\ Below Bs w u' /\ Lib.OthersKept 5 (some bb) w u')) := Lib.hid (fun u u' h hb => ⟨⟨Rg.keep hb (World.block_lt_of_cell? _ _ h.1.1) h.1.1, Rg.keep hb (World.block_lt_of_cell? _ _ h.1.2.1) h.1.2.1, Rg.keep hb (World.block_lt_of_cell? _ _ h.1.2.2.1) h.1.2.2.1, Rg.keep hb (World.block_lt_of_cell? _ _ h.1.2.2.2.1) h.1.2.2.2.1, Rg.keep hb (World.block_lt_of_cell? _ _ h.1.2.2.2.2.1) h.1.2.2.2.2.1, Rg.keep hb (World.block_lt_of_cell? _ _ h.1.2.2.2.2.2.1) h.1.2.2.2.2.2.1, Rg.keep hb (World.block_lt_of_cell? _ _ h.1.2.2.2.2.2.2) h.1.2.2.2.2.2.2⟩, Rg.keep hb (World.block_lt_of_cell? _ _ h.2.1) h.2.1, Rg.keep hb (World.block_lt_of_cell? _ _ h.2.2.1) h.2.2.1, isB_below h.2.2.2.1 hb, h.2.2.2.2.1.trans (hb.mono (Nat.le_trans hw h.2.2.2.2.1.size)), oth_below h.2.2.2.2.2 hb⟩)
 refine Rk.begin (S := fun wS => (wS.cell? ⟨w.heap.size, 0, none⟩ = some (.int .i64 K) /\ wS.cell? ⟨w.heap.size, 1, none⟩ = some (.int .i64 B) /\ wS.cell? ⟨w.heap.size, 2, none⟩ = some (.int .i64 F) /\ wS.cell? ⟨w.heap.size, 3, none⟩ = some (.int .i64 R) /\ wS.cell? ⟨w.heap.size, 4, none⟩ = some (.int .i64 O) /\ wS.cell? ⟨w.heap.size, 5, none⟩ = some (.slice p 0 c) /\ wS.cell? ⟨w.heap.size, 6, none⟩ = some (.slice (some ⟨vb, vo, none⟩) m d)) /\ wS.cell? ⟨vb, vo, none⟩ = some (.int .i64 y.1) /\ wS.cell? ⟨vb, vo + 1, none⟩ = some (.int .i64 y.2) /\ Lib.IsBuilder 98 5 Bs bb (Lib.byteCells L) wS /\ Below Bs w wS /\ Lib.OthersKept 5 (some bb) w wS) 8 (by kernel_rfl) ⟨⟨c0, c1, c2, c3, c4, c5, c6⟩, v0, v1, Ln.isB_alloc HIB.out _, (Below.refl _ _).alloc hw _ |>.drew, (Lib.OthersKept.refl _ _ w).alloc _⟩ (fun hHeld => ?_)
 refine Rk.takeP (i := 0) (v := ?_) rfl (by kernel_rfl) (by kernel_rfl) (by kernel_rfl) (by kernel_rfl) (fun _ _ _ h => h) (Or.inl ⟨by kernel_rfl, ?_⟩) (by assumption) ?_
 rotate_left
 ·((intro w hSw; go_simp) <;> with_reducible rfl)
 try simp only [Act.put, List.setIfInBounds_toArray, List.set_cons_zero, List.set_cons_succ]
 refine Rk.takeP (i := 1) (v := ?_) rfl (by kernel_rfl) (by kernel_rfl) (by kernel_rfl) (by kernel_rfl) (fun _ _ _ h => h) (Or.inl ⟨by kernel_rfl, ?_⟩) (by assumption) ?_
 rotate_left
 ·((intro w hSw; go_simp) <;> with_reducible rfl)
 try simp only [Act.put, List.setIfInBounds_toArray, List.set_cons_zero, List.set_cons_succ]
 refine Rk.take [7, 8] (i := 2) (v := ?_) rfl (by kernel_rfl) (by kernel_rfl) (by kernel_rfl) (by kernel_rfl) (by kernel_rfl) (fun _ _ _ h => h) (Or.inl ⟨by kernel_rfl, ?_⟩) (by assumption) ?_
 rotate_left
 ·((intro w hSw; (try dsimp only at hSw); go_simp) <;> with_reducible rfl)
 try simp only [Act.put, List.setIfInBounds_toArray, List.set_cons_zero, List.set_cons_succ]
 refine Rk.takeP (i := 3) (v := ?_) rfl (by kernel_rfl) (by kernel_rfl) (by kernel_rfl) (by kernel_rfl) (fun _ _ _ h => h) (Or.inl ⟨by kernel_rfl, ?_⟩) (by assumption) ?_
 rotate_left
 ·((intro w hSw; go_simp) <;> with_reducible rfl)
 try simp only [Act.put, List.setIfInBounds_toArray, List.set_cons_zero, List.set_cons_succ]
 refine Rk.take [5, 6, 7, 8] (i := 4) (v := ?_) rfl (by kernel_rfl) (by kernel_rfl) (by kernel_rfl) (by kernel_rfl) (by kernel_rfl) (fun _ _ _ h => h) (Or.inl ⟨by kernel_rfl, ?_⟩) (by assumption) ?_
 rotate_left
 ·((intro w hSw; (try dsimp only at hSw); go_simp) <;> with_reducible rfl)
 try simp only [Act.put, List.setIfInBounds_toArray, List.set_cons_zero, List.set_cons_succ]
 refine Rk.takeP (i := 5) (v := ?_) rfl (by kernel_rfl) (by kernel_rfl) (by kernel_rfl) (by kernel_rfl) (fun _ _ _ h => h) (Or.inl ⟨by kernel_rfl, ?_⟩) (by assumption) ?_
 rotate_left
 ·((intro w hSw; go_simp) <;> with_reducible rfl)
 try simp only [Act.put, List.setIfInBounds_toArray, List.set_cons_zero, List.set_cons_succ]
 refine Rk.take [7, 8] (i := 6) (v := ?_) rfl (by kernel_rfl) (by kernel_rfl) (by kernel_rfl) (by kernel_rfl) (by kernel_rfl) (fun _ _ _ h => h) (Or.inl ⟨by kernel_rfl, ?_⟩) (by assumption) ?_
 rotate_left
 ·((intro w hSw; (try dsimp only at hSw); go_simp) <;> with_reducible rfl)
 try simp only [Act.put, List.setIfInBounds_toArray, List.set_cons_zero, List.set_cons_succ]
 refine Rk.one (i := 7) (by kernel_rfl) rfl (fun KK hK => ?_)
 rw [if_pos (by kernel_rfl)]
 go_simp
 ((with_reducible refine (VF.out _ (HLA.out _ hHeld.2.2.2.2.1)).mono ?_); rintro e u7 ⟨rfl, hb⟩)
 have hNew := HS.out _ _ hHeld hb
 first | (refine hK.out _ _ (fun _ => hNew) (fun _ => ?_)) | (refine hK.out _ _ hNew (fun _ => ?_)) | (go_wp2_with fail; refine hK.out _ _ hNew (fun _ => ?_))
 replace hHeld := hNew
 clear hNew hb
 clear hK KK
 refine Rk.tail [8] [_] (by kernel_rfl) (by kernel_rfl) rfl (by decide) ?_
 obtain ⟨-, -, -, IB2, KB2, OT2⟩ := hHeld
 go_wp2_with (go_at_call 105; (with_reducible refine (WS.out _ IB2 (Nat.le_trans hw KB2.size)).mono ?_); rintro e u8 ⟨rfl, h8, hb8, ho8⟩)
 refine bodyPost_ret (results_none rfl _ _ _) rfl ?_
 exact ⟨rfl, .inr (by have h9 := h8; rw [Ln.cells_app] at h9; exact h9), KB2.trans hb8, OT2.trans ho8⟩
end Go.Proofs.YteaaikmejacpaaaGreatDoor.Te
