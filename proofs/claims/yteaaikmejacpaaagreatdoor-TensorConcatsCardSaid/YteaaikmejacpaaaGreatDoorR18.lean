/- Format and Parse of package value. -/
import Derived.Test.YteaaikmejacpaaaGreatDoorR0
import Derived.Test.YteaaikmejacpaaaGreatDoorR8
import Derived.Test.YteaaikmejacpaaaGreatDoorR17
import Derived.Test.YteaaikmejacpaaaGreatDoorR1
import Derived.IntWalk
import Derived.Lib.Builder
import Derived.Lib.AppendStr
import Derived.Lib.UnsafeStr
import Derived.Laws.Externs
import Derived.Lib.OthersKept
import Derived.Lib.OwnKind
import Derived.Shelf.Strings.Builder1
import Derived.Shelf.Strings.BuilderF
import Derived.Shelf.Strings.BuilderK
import Derived.Shelf.Strconv.Itoa0
import Derived.Shelf.Strconv.Itoa1
import Derived.Shelf.LaysM
import Derived.Shelf.Strconv.Itoa2
import Derived.Shelf.Strconv.Itoa3
import Derived.Shelf.Strconv.Itoa4
import Derived.Shelf.Bits.Mul64
import Derived.Shelf.Strings.BuilderCap
import Derived.Shelf.Slices.Equal
import Derived.Ground.Names2Prog
import Derived.Shelf.Slices.Clone
import Derived.Shelf.Slices.Delete
import Derived.Shelf.Slices.Cells
import Derived.Shelf.Slices.Empties
import Derived.Ground.SlgnProg
import Derived.Shelf.SlicesG.SearchI
import Derived.Shelf.SlicesE.Clone
import Derived.Test.YteaaikmejacpaaaGreatDoorProg
import Derived.Lib.ItoaLen

namespace Go.Proofs.YteaaikmejacpaaaGreatDoor.Va
open Go.ChangeShapes Go.WideShapes Go.ChangeAt Go.RowKit
open Fr Fx
set_option linter.unusedVariables false
set_option linter.unusedSimpArgs false
/-- The text of a number of a type. -/
def vfm (K B F R O n d : Int) : List UInt8 := if vv K B F R O n d = false then [] else Tx.fmv (rat K F n d).1 (rat K F n d).2

set_option maxHeartbeats 4000000 in
theorem c_vfm (K B F R O n d : Int) (w : World) (b0 : -9223372036854775808 <= B) (b1 : B <= 9223372036854775807) (hL : Tx.LA w) : Calls Tryz.prog 106 #[T5 K B F R O, V2 n d] w (Ret (.string ⟨(vfm K B F R O n d).toArray⟩) w) := by
 have LAh := Lib.hid hL
 have VA := Lib.hid fun w => c_va K B F R O n d w b0 b1
 cases hv : vv K B F R O n d
 ·rw [show vfm K B F R O n d = [] by unfold vfm; rw [if_pos hv]]
  rw [hv] at VA
  clear hv hL b0 b1
  go_enter Tryz.func106, Tryz.ntmps106
  go_wp2_with (first | (go_at_call 48; (with_reducible refine (VA.out _).mono ?_); rintro e w1 ⟨rfl, hb1⟩; have hc1 := (bcell hb1).1; have hf1 := (bcell hb1).2; have z1_0 : w.heap.size < w1.heap.size := SqB.z hb1; have z1_1 : w.heap.size + 1 < w1.heap.size := SqB.z hb1; have K1 : Below w.heap.size w w1 := SqB.t hb1))
  go_ret
  exact ⟨rfl, K1⟩
 ·rw [show vfm K B F R O n d = Tx.fmv (rat K F n d).1 (rat K F n d).2 by unfold vfm; rw [if_neg (by rw [hv]; decide)]]
  rw [hv] at VA
  have RA := Lib.hid fun w => c_rat K B F R O n d w hv
  have FM := Lib.hid fun w h => Tx.c_fmt (rat K F n d).1 (rat K F n d).2 w h
  clear hv hL b0 b1
  generalize (⟨(Tx.fmv (rat K F n d).1 (rat K F n d).2).toArray⟩ : ByteArray) = s at *
  generalize (rat K F n d).1 = x at *
  generalize (rat K F n d).2 = y at *
  go_enter Tryz.func106, Tryz.ntmps106
  go_wp2_with (first | (go_at_call 48; (with_reducible refine (VA.out _).mono ?_); rintro e w1 ⟨rfl, hb1⟩; have hc1 := (bcell hb1).1; have hf1 := (bcell hb1).2; have z1_0 : w.heap.size < w1.heap.size := SqB.z hb1; have z1_1 : w.heap.size + 1 < w1.heap.size := SqB.z hb1; have K1 : Below w.heap.size w w1 := SqB.t hb1) | (go_at_call 134; (with_reducible refine (RA.out _).mono ?_); rintro e w2 ⟨rfl, hb2⟩; have hc2 := (bcell hb2).1; have hf2 := (bcell hb2).2; have z2_0 : w.heap.size < w2.heap.size := SqB.z hb2; have z2_1 : w.heap.size + 1 < w2.heap.size := SqB.z hb2; have K2 : Below w.heap.size w w2 := SqB.t hb2) | (go_at_call 133; (with_reducible refine (FM.out _ (LAh.out.below (by exact SqB.b))).mono ?_); rintro e w3 ⟨rfl, hb3⟩; have hc3 := (bcell hb3).1; have hf3 := (bcell hb3).2; have z3_0 : w.heap.size < w3.heap.size := SqB.z hb3; have z3_1 : w.heap.size + 1 < w3.heap.size := SqB.z hb3; have K3 : Below w.heap.size w w3 := SqB.t hb3))
  go_ret
  exact ⟨rfl, K3⟩
end Go.Proofs.YteaaikmejacpaaaGreatDoor.Va


namespace Go.Proofs.YteaaikmejacpaaaGreatDoor.Ln
open Go.ChangeShapes Go.WideShapes Go.ChangeAt Go.RowKit
open Go.Shelf
set_option maxRecDepth 8000
set_option linter.unusedVariables false
set_option linter.unusedSimpArgs false
set_option maxRecDepth 8000
theorem own_any {w : World} {base n : Nat} {e : TypeId} {v : Value} {xs : List Value} (h : w.ownsRow base e 1 v n xs) : ∃ q cap, v = .slice q n cap /\ (0 < n -> ∃ g, q = some ⟨g, 0, none⟩) := by
 rcases h.2 with ⟨rfl, rfl⟩ | ⟨g, cap, cur, rfl, _⟩
 ·exact ⟨none, 0, rfl, fun h => by omega⟩
 ·exact ⟨_, cap, rfl, fun _ => ⟨g, rfl⟩⟩
theorem sizeB : (Tryz.prog.info? 98).map (·.size) = some 2 := by kernel_rfl
theorem liesB : liesAt Tryz.prog Tryz.prog.depth 98 (2 / Tryz.prog.cellsOf 98) 0 98 1 = true := by kernel_rfl
theorem info5 : (Tryz.prog.info? 5).map (fun i => (i.zero, i.size, i.bytes)) = some (some (.int .u8 0), 1, 1) := by kernel_rfl
set_option maxRecDepth 100000 in
set_option maxHeartbeats 2000000 in
theorem copyCheck (B b : Nat) (bs : List Value) (w : World) (h : Lib.IsBuilder 98 5 B b bs w) :
  Calls Tryz.prog 132 #[.pointer (some ⟨b, 0, none⟩)] w fun e w' => e = .returned (.tuple #[]) /\ (Lib.BuilderAt 98 5 B b (.pointer (some ⟨b, 0, none⟩)) bs w' /\ Below B w w' /\ Lib.OthersKept 5 (some b) w w') := by
 obtain ⟨j, hj, hjs⟩ := Option.map_eq_some_iff.1 sizeB
 rcases h with h | h
 ·have h0 := h.cell0
  have hsh := h.shape
  have hfz := h.frozen0
  go_enter Tryz.func132, Tryz.ntmps132
  go_wp2
  rw [Lib.run_to_unsafe w ⟨b, 0, none⟩ Tryz.underlying95 Tryz.underlying156 hj (by rw [hjs]; decide) hsh (Nat.zero_lt_succ 1)]
  simp only [Result.andThen]
  rw [Oper.upon_value]
  go_wp2
  rw [run_callFunc_extern Tryz.func154 (by kernel_rfl) (by kernel_rfl) (by kernel_rfl) (e := Extern.AbiNoEscape.same) (by kernel_rfl)]
  rw [Lib.run_noEscape]
  simp only [Result.andThen]
  rw [Oper.upon_value]
  go_wp2
  rw [Lib.run_from_unsafe w ⟨b, 0, none⟩ Tryz.underlying156 Tryz.underlying95 hj hsh liesB]
  simp only [Result.andThen]
  rw [Oper.upon_value]
  go_wp2
  go_end0
  exact ⟨rfl, h.used _, (Below.refl B w).setCell (p := ⟨b, 0, none⟩) h.1 _, (Lib.OthersKept.refl _ _ w).setCell ⟨b, 0, none⟩ rfl _⟩
 ·have h0 := h.cell0
  go_enter Tryz.func132, Tryz.ntmps132
  go_wp2
  rw [Lib.run_neq_ptr_same w _ Tryz.underlying95 hj]
  go_wp2
  go_end0
  exact ⟨rfl, h, Below.refl B _, Lib.OthersKept.refl _ _ _⟩
set_option maxRecDepth 100000 in
set_option maxHeartbeats 4000000 in
theorem writeString (B b : Nat) (bs : List Value) (s : ByteArray) (w : World) (h : Lib.IsBuilder 98 5 B b bs w) (hlen : bs.length + s.size <= 140737488355328) (hBw : B <= w.heap.size) :
  Calls Tryz.prog 105 #[.pointer (some ⟨b, 0, none⟩), .string s] w fun e w' => e = .returned (.tuple #[.int .i64 s.size, .nilIface]) /\ (Lib.BuilderAt 98 5 B b (.pointer (some ⟨b, 0, none⟩)) (bs ++ Lib.strCells s) w' /\ Below B w w' /\ Lib.OthersKept 5 (some b) w w') := by
 obtain ⟨i0, hi, hz0, hz1, hz2⟩ := info_parts info5
 have CC := Lib.hid (copyCheck B b bs w h)
 go_enter Tryz.func105, Tryz.ntmps105
 go_wp2_with fail
 refine (CC.out).mono ?_
 rintro e w1 ⟨rfl, h1, hb1, hk1⟩
 have hlt := h1.lt
 obtain ⟨hB, v, hbk, hown, hne⟩ := h1
 have c0 : w1.cell? ⟨b, 0, none⟩ = some (.pointer (some ⟨b, 0, none⟩)) := by rw [Lib.cell_of_heap hbk]; rfl
 have c1 : w1.cell? ⟨b, 1, none⟩ = some v := by rw [Lib.cell_of_heap hbk]; rfl
 have hs1 := hb1.size
 go_wp2_with (at_builtin; refine Lib.wpList_append_own_string _ rfl _ _ 96 9 rfl B 5 i0 Tryz.underlying96 Tryz.underlying9 hi hz0 hz1 hz2 _ _ _ rfl hown s rfl ?_ ?_ ?_ ?_)
 ·unfold maxLen; omega
 ·omega
 ·omega
 intro v' w2 hown' hgrow _
 have hb2 : w2.heap[b]? = some (.cells #[.pointer (some ⟨b, 0, none⟩), v] 98 (0, 0)) := by
  rw [hgrow.block b hlt (fun e => hne e.symm)]
  exact hbk
 have d0 : w2.cell? ⟨b, 0, none⟩ = some (.pointer (some ⟨b, 0, none⟩)) := by rw [Lib.cell_of_heap hb2]; rfl
 have d1 : w2.cell? ⟨b, 1, none⟩ = some v := by rw [Lib.cell_of_heap hb2]; rfl
 have f1 : w2.frozen? ⟨b, 1, none⟩ = false := Lib.frozen_of_heap hb2 1
 obtain ⟨q, cap, rfl, _⟩ := own_any hown'
 go_wp2
 go_ret2
 refine ⟨rfl, Lib.BuilderAt.put (T := 98) (e := 5) hB hb2 (bs' := bs ++ Lib.strCells s) (by rw [List.length_append, Lib.strCells_length]; exact hown') (by decide), ?_, (hk1.grown hgrow (Lib.ownsRow_kind hown)).setCell ⟨b, 1, none⟩ rfl _⟩
 exact (hb1.grown hgrow (by omega) (fun k hk => (hown.lt k hk).1)).setCell (p := ⟨b, 1, none⟩) hB _
theorem isB_alloc {B b : Nat} {bs : List Value} {w : World} (h : Lib.IsBuilder 98 5 B b bs w) (o : Obj) : Lib.IsBuilder 98 5 B b bs (w.alloc o) := by
 have key : ∀ p, Lib.BuilderAt 98 5 B b p bs w -> Lib.BuilderAt 98 5 B b p bs (w.alloc o) := fun p hh => by
  have hlt := hh.lt
  obtain ⟨hB, v, hb, hown, hne⟩ := hh
  exact ⟨hB, v, (Lib.alloc_old w o b hlt).trans hb, hown.alloc o, hne⟩
 rcases h with h | h
 ·exact .inl (key _ h)
 ·exact .inr (key _ h)
theorem cells_app (l : List UInt8) (s : ByteArray) : Lib.byteCells l ++ Lib.strCells s = Lib.byteCells (l ++ s.data.toList) := by unfold Lib.byteCells Lib.strCells; rw [List.map_append]

end Go.Proofs.YteaaikmejacpaaaGreatDoor.Ln


namespace Go.Proofs
open Go.Shelf

def Tryz.lays169_ren : Go.Shelf.Ren := ⟨fun | 169 => 77 | n => n, fun | 70 => 95 | 9 => 9 | 0 => 0 | 72 => 98 | 37 => 96 | 127 => 128 | 3 => 3 | 5 => 5 | n => n, fun | n => n⟩

theorem Tryz.lays169 : Go.Proofs.Lays.n169 Tryz.prog Tryz.lays169_ren := {
 mixed := by kernel_rfl
 f169 := Tryz.func77.trans (congrArg some (by kernel_rfl))
 t0 := Tryz.underlying0
 a0 := Tryz.isAgg0
 z0 := Tryz.sizeOf0
 v0 := Tryz.zeroValue0
 t3 := Tryz.underlying3
 a3 := Tryz.isAgg3
 z3 := Tryz.sizeOf3
 v3 := Tryz.zeroValue3
 t9 := Tryz.underlying9
 a9 := Tryz.isAgg9
 z9 := Tryz.sizeOf9
 v9 := Tryz.zeroValue9
 t37 := Tryz.underlying96
 a37 := Tryz.isAgg96
 z37 := Tryz.sizeOf96
 v37 := Tryz.zeroValue96
 t70 := Tryz.underlying95
 a70 := Tryz.isAgg95
 z70 := Tryz.sizeOf95
 v70 := Tryz.zeroValue95
 t72 := Tryz.underlying98
 a72 := Tryz.isAgg98
 z72 := Tryz.sizeOf98
 v72 := Tryz.zeroValue98
 t127 := Tryz.underlying128
 a127 := Tryz.isAgg128
 z127 := Tryz.sizeOf128
 v127 := Tryz.zeroValue128 }

theorem Tryz.Builder_Extra_169 : Builder.Extra Tryz.prog Tryz.lays169_ren := {
 sizeBuilder := by kernel_rfl
 liesBuilder := by kernel_rfl
 t5 := Tryz.underlying5
 a5 := Tryz.isAgg5
 z5 := Tryz.sizeOf5
 v5 := Tryz.zeroValue5
 infoByte := by kernel_rfl
 cellsByte := by kernel_rfl
 sizeByte := by kernel_rfl
 neB5 := by decide }

open Go.RowKit in
theorem Tryz.Builder_String_any (B b : Nat) (l : List UInt8) (w : World) (h : Lib.IsBuilder 98 5 B b (Lib.byteCells l) w) (hBw : B <= w.heap.size) :
  Calls Tryz.prog 77 #[.pointer (some ⟨b, 0, none⟩)] w fun e w' => e = .returned (.string ⟨l.toArray⟩) /\ Below B w w' := Any.Builder_String_any Tryz.lays169 Tryz.Builder_Extra_169 B b l w h hBw

end Go.Proofs


namespace Go.Proofs.YteaaikmejacpaaaGreatDoor.Te
open Go.ChangeShapes Go.WideShapes Go.ChangeAt Go.RowKit
open Fx Va Sh
set_option maxRecDepth 8000
set_option linter.unusedVariables false
set_option linter.unusedSimpArgs false

/-- The text of the first parts, with what stands between them. -/
def wtj (f : Nat -> List UInt8) : Nat -> List UInt8
 | 0 => []
 | i + 1 => wtj f i ++ ((if i = 0 then [] else [44, 32]) ++ f i)
/-- The text of a tensor. -/
def wtx (K B F R O : Int) : List Int -> List (Int × Int) -> List UInt8
 | [], vs => vfm K B F R O (vs.getD 0 (0, 0)).1 (vs.getD 0 (0, 0)).2
 | z :: zs, vs => 91 :: (wtj (fun i => wtx K B F R O zs ((vs.drop (i * (sp zs).toNat)).take (sp zs).toNat)) z.toNat ++ [93])
theorem wtx_nil (K B F R O : Int) (vs : List (Int × Int)) : wtx K B F R O [] vs = vfm K B F R O (vs.getD 0 (0, 0)).1 (vs.getD 0 (0, 0)).2 := rfl
theorem wtx_cons (K B F R O z : Int) (zs : List Int) (vs : List (Int × Int)) : wtx K B F R O (z :: zs) vs = 91 :: (wtj (fun i => wtx K B F R O zs ((vs.drop (i * (sp zs).toNat)).take (sp zs).toNat)) z.toNat ++ [93]) := rfl
theorem itoa_len {n : Int} (h0 : -9223372036854775808 <= n) (h1 : n <= 9223372036854775807) : (Lib.itoa n).length <= 21 := by
 unfold Lib.itoa
 split
 ·rw [List.length_cons, Lib.decDigits_length]
  have := Lib.nDigits_le20 n.natAbs (by omega)
  omega
 ·rw [Lib.decDigits_length]
  have := Lib.nDigits_le20 n.toNat (by omega)
  omega
theorem fmv_len (n d : Int) : (Tx.fmv n d).length <= 60 := by
 unfold Tx.fmv
 split
 ·simp
 ·rename_i h
  have hv : vv 1 0 0 0 0 n d = true := by rw [vv_frac]; simpa using h
  have hs := vv_small hv
  have l1 := itoa_len (n := n) (by omega) (by omega)
  have l2 := itoa_len (n := d) (by omega) (by omega)
  split
  ·omega
  ·rw [List.length_append, List.length_cons]; omega
theorem vfm_len (K B F R O n d : Int) : (vfm K B F R O n d).length <= 60 := by
 unfold vfm
 split
 ·simp
 ·exact fmv_len _ _
theorem wtj_len {f : Nat -> List UInt8} {X : Nat} (h : ∀ i, (f i).length <= X) : ∀ n, (wtj f n).length <= n * (X + 2)
 | 0 => by simp [wtj]
 | n + 1 => by
  have ih := wtj_len h n
  have h2 := h n
  show (wtj f n ++ ((if n = 0 then [] else [44, 32]) ++ f n)).length <= _
  rw [List.length_append, List.length_append, Nat.add_mul]
  have : (if n = 0 then ([] : List UInt8) else [44, 32]).length <= 2 := by split <;> simp
  omega
theorem wtx_len (K B F R O : Int) : ∀ (zs : List Int) (vs : List (Int × Int)), zs.any low = false -> (wtx K B F R O zs vs).length + 4 <= (64 + 4 * zs.length) * (sp zs).toNat
 | [], vs, _ => by
  have h := vfm_len K B F R O (vs.getD 0 (0, 0)).1 (vs.getD 0 (0, 0)).2
  have e : (sp []).toNat = 1 := by decide
  rw [wtx_nil, e, List.length_nil]
  omega
 | z :: zs, vs, hl => by
  rw [List.any_cons, Bool.or_eq_false_iff] at hl
  have hz : 1 <= z := by have := hl.1; unfold low at this; simp at this; omega
  have hs := sp_pos hl.2
  have e2 : (sp (z :: zs)).toNat = z.toNat * (sp zs).toNat := by
   have : sp (z :: zs) = z * sp zs := by simp [sp, Int.mul_comm]
   rw [this, Int.toNat_mul (by omega) (by omega)]
  obtain ⟨s, hs2⟩ : ∃ s, (sp zs).toNat = s := ⟨_, rfl⟩
  obtain ⟨y, hy⟩ : ∃ y, z.toNat = y := ⟨_, rfl⟩
  rw [wtx_cons, e2, hs2, hy, List.length_cons, List.length_append]
  have hX : ∀ i, (wtx K B F R O zs ((vs.drop (i * s)).take s)).length <= (64 + 4 * zs.length) * s - 4 := fun i => by
   have := wtx_len K B F R O zs ((vs.drop (i * s)).take s) hl.2
   rw [hs2] at this
   omega
  have h1 := wtj_len hX y
  have hy1 : 1 <= y := by omega
  have hs1 : 1 <= s := by omega
  have e3 : (64 + 4 * (z :: zs).length) * (y * s) = y * ((64 + 4 * zs.length) * s) + 4 * (y * s) := by
   rw [List.length_cons, show 64 + 4 * (zs.length + 1) = (64 + 4 * zs.length) + 4 by omega, Nat.add_mul]
   congr 1
   rw [Nat.mul_left_comm]
  have e4 : 64 * 1 <= (64 + 4 * zs.length) * s := Nat.mul_le_mul (by omega) hs1
  have e5 : y * ((64 + 4 * zs.length) * s - 4 + 2) + 2 * y <= y * ((64 + 4 * zs.length) * s) := by
   rw [Nat.mul_comm 2 y, <- Nat.mul_add]
   exact Nat.mul_le_mul_left _ (by omega)
  have e6 : y * 1 <= y * s := Nat.mul_le_mul_left _ hs1
  rw [e3]
  simp only [List.length_cons, List.length_nil]
  omega
/-- A builder's text, and what else is kept. -/
theorem isB_below {Bs b : Nat} {bs : List Value} {w w' : World} (h : Lib.IsBuilder 98 5 Bs b bs w) (hb : Below w.heap.size w w') : Lib.IsBuilder 98 5 Bs b bs w' := by
 have key : ∀ p, Lib.BuilderAt 98 5 Bs b p bs w -> Lib.BuilderAt 98 5 Bs b p bs w' := fun p hh => by
  have hlt := hh.lt
  obtain ⟨hB, v, hbk, hown, hne⟩ := hh
  exact ⟨hB, v, (hb.block b hlt).trans hbk, own_belowE hown hb, hne⟩
 rcases h with h | h
 ·exact .inl (key _ h)
 ·exact .inr (key _ h)
theorem oth_below {e : TypeId} {b : Option Nat} {a w w' : World} (h : Lib.OthersKept e b a w) (hb : Below w.heap.size w w') : Lib.OthersKept e b a w' := by
 intro k o hk hkb ho
 have h1 := h k o hk hkb ho
 exact (hb.block k (Array.getElem?_eq_some_iff.1 h1).1).trans h1
theorem box_cells {w : World} {b : Nat} {x0 x1 x2 x3 x4 x5 x6 : Value} (h : w.heap[b]? = some (.cells #[x0, x1, x2, x3, x4, x5, x6] 27 (0, 0))) : (w.cell? ⟨b, 0, none⟩ = some x0 /\ w.cell? ⟨b, 1, none⟩ = some x1 /\ w.cell? ⟨b, 2, none⟩ = some x2 /\ w.cell? ⟨b, 3, none⟩ = some x3 /\ w.cell? ⟨b, 4, none⟩ = some x4 /\ w.cell? ⟨b, 5, none⟩ = some x5 /\ w.cell? ⟨b, 6, none⟩ = some x6) := by
 refine ⟨?_, ?_, ?_, ?_, ?_, ?_, ?_⟩ <;> rw [Lib.cell_of_heap h] <;> rfl
end Go.Proofs.YteaaikmejacpaaaGreatDoor.Te


namespace Go.Proofs.YteaaikmejacpaaaGreatDoor.Te
open Go.ChangeShapes Go.WideShapes Go.ChangeAt Go.RowKit
open Fx Va Sh
set_option maxRecDepth 8000
set_option linter.unusedVariables false
set_option linter.unusedSimpArgs false

set_option maxRecDepth 100000 in
set_option maxHeartbeats 2000000 in
theorem wr_nil (K B F R O : Int) (b0 : -9223372036854775808 <= B) (b1 : B <= 9223372036854775807) (Bs bb : Nat) (zs : List Int) (vs : List (Int × Int)) (p : Option Addr) (c : Nat) (q : Option Addr) (d : Nat) (L : List UInt8) (w : World)
  (hw : Bs <= w.heap.size) (hIB : Lib.IsBuilder 98 5 Bs bb (Lib.byteCells L) w) (HL : ∀ u, Below Bs w u -> Tx.LA u) (PA : ∀ u, Below Bs w u -> SlI u p zs) (PB : ∀ u, Below Bs w u -> SlV u q vs) (hz : zs = []) (hl : vs.length = 1) (hlen : L.length + (wtx K B F R O zs vs).length <= 140737488355328) :
  Calls Tryz.prog 76 #[.pointer (some ⟨bb, 0, none⟩), Tn K B F R O p zs.length c q vs.length d] w fun e w' => e = .returned (.tuple #[]) /\ Lib.IsBuilder 98 5 Bs bb (Lib.byteCells (L ++ wtx K B F R O zs vs)) w' /\ Below Bs w w' /\ Lib.OthersKept 5 (some bb) w w' := by
 subst hz
 obtain ⟨vb, vo, rfl, v0, v1⟩ := PB w (Below.refl _ _) 0 (by omega)
 rw [wtx_nil] at hlen ⊢
 obtain ⟨y, hy⟩ : ∃ y, vs.getD 0 (0, 0) = y := ⟨_, rfl⟩
 rw [hy] at v0 v1 hlen ⊢
 have VF := Lib.hid fun u h => c_vfm K B F R O y.1 y.2 u b0 b1 h
 obtain ⟨X, hX⟩ : ∃ X, vfm K B F R O y.1 y.2 = X := ⟨_, rfl⟩
 rw [hX] at VF hlen ⊢
 have HLA := Lib.hid HL
 have HIB := Lib.hid hIB
 have WS := Lib.hid fun u (h : Lib.IsBuilder 98 5 Bs bb (Lib.byteCells L) u) (hs : Bs <= u.heap.size) => Ln.writeString Bs bb (Lib.byteCells L) ⟨X.toArray⟩ u h (by rw [Lib.byteCells_length]; show L.length + X.toArray.size <= _; simpa using hlen) hs
 obtain ⟨m, hmm⟩ : ∃ m, vs.length = m := ⟨_, rfl⟩
 have HM := Lib.hid hmm
 rw [hmm] at hl ⊢
 have g0 : (0 : Int) < m := by omega
 have g0n : 0 < m := by omega
 rw [Nat.zero_mul, Nat.add_zero] at v0 v1
 have hvb : vb < w.heap.size := World.block_lt_of_cell? _ _ v0
 replace v0 := Rg.keep ((Below.refl w.heap.size w).alloc (Nat.le_refl _) (Obj.cells #[Value.int .i64 K, Value.int .i64 B, Value.int .i64 F, Value.int .i64 R, Value.int .i64 O, Value.slice p 0 c, Value.slice (some ⟨vb, vo, none⟩) m d] 27)) hvb v0
 replace v1 := Rg.keep ((Below.refl w.heap.size w).alloc (Nat.le_refl _) (Obj.cells #[Value.int .i64 K, Value.int .i64 B, Value.int .i64 F, Value.int .i64 R, Value.int .i64 O, Value.slice p 0 c, Value.slice (some ⟨vb, vo, none⟩) m d] 27)) hvb v1
 have c0 : (w.alloc (Obj.cells #[Value.int .i64 K, Value.int .i64 B, Value.int .i64 F, Value.int .i64 R, Value.int .i64 O, Value.slice p 0 c, Value.slice (some ⟨vb, vo, none⟩) m d] 27)).cell? ⟨w.heap.size, 0, none⟩ = some (.int .i64 K) := by go_cell
 have c1 : (w.alloc (Obj.cells #[Value.int .i64 K, Value.int .i64 B, Value.int .i64 F, Value.int .i64 R, Value.int .i64 O, Value.slice p 0 c, Value.slice (some ⟨vb, vo, none⟩) m d] 27)).cell? ⟨w.heap.size, 1, none⟩ = some (.int .i64 B) := by go_cell
 have c2 : (w.alloc (Obj.cells #[Value.int .i64 K, Value.int .i64 B, Value.int .i64 F, Value.int .i64 R, Value.int .i64 O, Value.slice p 0 c, Value.slice (some ⟨vb, vo, none⟩) m d] 27)).cell? ⟨w.heap.size, 2, none⟩ = some (.int .i64 F) := by go_cell
 have c3 : (w.alloc (Obj.cells #[Value.int .i64 K, Value.int .i64 B, Value.int .i64 F, Value.int .i64 R, Value.int .i64 O, Value.slice p 0 c, Value.slice (some ⟨vb, vo, none⟩) m d] 27)).cell? ⟨w.heap.size, 3, none⟩ = some (.int .i64 R) := by go_cell
 have c4 : (w.alloc (Obj.cells #[Value.int .i64 K, Value.int .i64 B, Value.int .i64 F, Value.int .i64 R, Value.int .i64 O, Value.slice p 0 c, Value.slice (some ⟨vb, vo, none⟩) m d] 27)).cell? ⟨w.heap.size, 4, none⟩ = some (.int .i64 O) := by go_cell
 have c5 : (w.alloc (Obj.cells #[Value.int .i64 K, Value.int .i64 B, Value.int .i64 F, Value.int .i64 R, Value.int .i64 O, Value.slice p 0 c, Value.slice (some ⟨vb, vo, none⟩) m d] 27)).cell? ⟨w.heap.size, 5, none⟩ = some (.slice p 0 c) := by go_cell
 have c6 : (w.alloc (Obj.cells #[Value.int .i64 K, Value.int .i64 B, Value.int .i64 F, Value.int .i64 R, Value.int .i64 O, Value.slice p 0 c, Value.slice (some ⟨vb, vo, none⟩) m d] 27)).cell? ⟨w.heap.size, 6, none⟩ = some (.slice (some ⟨vb, vo, none⟩) m d) := by go_cell
 clear hmm hl hX hy hIB HL PA PB
 unfold Tn at *
 rw [List.length_nil]
 go_enter Tryz.func76, Tryz.ntmps76
 go_upto_region 2 with fail
 have HS : Hid (∀ u u' : World, ((u.cell? ⟨w.heap.size, 0, none⟩ = some (.int .i64 K) /\ u.cell? ⟨w.heap.size, 1, none⟩ = some (.int .i64 B) /\ u.cell? ⟨w.heap.size, 2, none⟩ = some (.int .i64 F) /\ u.cell? ⟨w.heap.size, 3, none⟩ = some (.int .i64 R) /\ u.cell? ⟨w.heap.size, 4, none⟩ = some (.int .i64 O) /\ u.cell? ⟨w.heap.size, 5, none⟩ = some (.slice p 0 c) /\ u.cell? ⟨w.heap.size, 6, none⟩ = some (.slice (some ⟨vb, vo, none⟩) m d)) /\ u.cell? ⟨vb, vo, none⟩ = some (.int .i64 y.1) /\ u.cell? ⟨vb, vo + 1, none⟩ = some (.int .i64 y.2) /\ Lib.IsBuilder 98 5 Bs bb (Lib.byteCells L) u /\ Below Bs w u /\ Lib.OthersKept 5 (some bb) w u) -> Below u.heap.size u u' -> ((u'.cell? ⟨w.heap.size, 0, none⟩ = some (.int .i64 K) /\ u'.cell? ⟨w.heap.size, 1, none⟩ = some (.int .i64 B) /\ u'.cell? ⟨w.heap.size, 2, none⟩ = some (.int .i64 F) /\ u'.cell? ⟨w.heap.size, 3, none⟩ = some (.int .i64 R) /\ u'.cell? ⟨w.heap.size, 4, none⟩ = some (.int .i64 O) /\ u'.cell? ⟨w.heap.size, 5, none⟩ = some (.slice p 0 c) /\ u'.cell? ⟨w.heap.size, 6, none⟩ = some (.slice (some ⟨vb, vo, none⟩) m d)) /\ u'.cell? ⟨vb, vo, none⟩ = some (.int .i64 y.1) /\ u'.cell? ⟨vb, vo + 1, none⟩ = some (.int .i64 y.2) /\ Lib.IsBuilder 98 5 Bs bb (Lib.byteCells L) u' /\ Below Bs w u' /\ Lib.OthersKept 5 (some bb) w u')) := Lib.hid (fun u u' h hb => ⟨⟨Rg.keep hb (World.block_lt_of_cell? _ _ h.1.1) h.1.1, Rg.keep hb (World.block_lt_of_cell? _ _ h.1.2.1) h.1.2.1, Rg.keep hb (World.block_lt_of_cell? _ _ h.1.2.2.1) h.1.2.2.1, Rg.keep hb (World.block_lt_of_cell? _ _ h.1.2.2.2.1) h.1.2.2.2.1, Rg.keep hb (World.block_lt_of_cell? _ _ h.1.2.2.2.2.1) h.1.2.2.2.2.1, Rg.keep hb (World.block_lt_of_cell? _ _ h.1.2.2.2.2.2.1) h.1.2.2.2.2.2.1, Rg.keep hb (World.block_lt_of_cell? _ _ h.1.2.2.2.2.2.2) h.1.2.2.2.2.2.2⟩, Rg.keep hb (World.block_lt_of_cell? _ _ h.2.1) h.2.1, Rg.keep hb (World.block_lt_of_cell? _ _ h.2.2.1) h.2.2.1, isB_below h.2.2.2.1 hb, h.2.2.2.2.1.trans (hb.mono (Nat.le_trans hw h.2.2.2.2.1.size)), oth_below h.2.2.2.2.2 hb⟩)
 refine Rk.begin (S := fun wS => (wS.cell? ⟨w.heap.size, 0, none⟩ = some (.int .i64 K) /\ wS.cell? ⟨w.heap.size, 1, none⟩ = some (.int .i64 B) /\ wS.cell? ⟨w.heap.size, 2, none⟩ = some (.int .i64 F) /\ wS.cell? ⟨w.heap.size, 3, none⟩ = some (.int .i64 R) /\ wS.cell? ⟨w.heap.size, 4, none⟩ = some (.int .i64 O) /\ wS.cell? ⟨w.heap.size, 5, none⟩ = some (.slice p 0 c) /\ wS.cell? ⟨w.heap.size, 6, none⟩ = some (.slice (some ⟨vb, vo, none⟩) m d)) /\ wS.cell? ⟨vb, vo, none⟩ = some (.int .i64 y.1) /\ wS.cell? ⟨vb, vo + 1, none⟩ = some (.int .i64 y.2) /\ Lib.IsBuilder 98 5 Bs bb (Lib.byteCells L) wS /\ Below Bs w wS /\ Lib.OthersKept 5 (some bb) w wS) 8 (by kernel_rfl) ⟨⟨c0, c1, c2, c3, c4, c5, c6⟩, v0, v1, Ln.isB_alloc HIB.out _, (Below.refl _ _).alloc hw _ |>.drew, (Lib.OthersKept.refl _ _ w).alloc _⟩ (fun hHeld => ?_)
 refine SqR.p 0 ?_
 refine SqR.p 1 ?_
 refine SqR.l [7, 8] 2 ?_
 refine SqR.p 3 ?_
 refine SqR.l [5, 6, 7, 8] 4 ?_
 refine SqR.p 5 ?_
 refine SqR.l [7, 8] 6 ?_
 refine Rk.one (i := 7) (by kernel_rfl) rfl (fun KK hK => ?_)
 rw [if_pos (by kernel_rfl)]
 go_simp
 ((with_reducible refine (VF.out _ (HLA.out _ hHeld.2.2.2.2.1)).mono ?_); rintro e u7 ⟨rfl, hb⟩)
 have hNew := HS.out _ _ hHeld hb
 first | (refine hK.out _ _ (fun _ => hNew) (fun _ => ?_)) | (refine hK.out _ _ hNew (fun _ => ?_)) | (go_wp2_with fail; refine hK.out _ _ hNew (fun _ => ?_))
 replace hHeld := hNew
 clear hNew hb
 clear hK KK
 refine Rk.tail [8] [_] (by kernel_rfl) (by kernel_rfl) rfl (by decide) ?_
 obtain ⟨-, -, -, IB2, KB2, OT2⟩ := hHeld
 go_wp2_with (go_at_call 105; (with_reducible refine (WS.out _ IB2 (Nat.le_trans hw KB2.size)).mono ?_); rintro e u8 ⟨rfl, h8, hb8, ho8⟩)
 refine bodyPost_ret (results_none rfl _ _ _) rfl ?_
 exact ⟨rfl, .inr (by have h9 := h8; rw [Ln.cells_app] at h9; exact h9), KB2.trans hb8, OT2.trans ho8⟩
end Go.Proofs.YteaaikmejacpaaaGreatDoor.Te


namespace Go.Proofs.YteaaikmejacpaaaGreatDoor.Te
open Go.ChangeShapes Go.WideShapes Go.ChangeAt Go.RowKit
open Fx Va Sh
set_option maxRecDepth 8000
set_option linter.unusedVariables false
set_option linter.unusedSimpArgs false

theorem SlV_cut {w : World} {b o : Nat} {vs : List (Int × Int)} (h : SlV w (some ⟨b, o, none⟩) vs) (k n : Nat) : SlV w (some ⟨b, o + k * 2, none⟩) ((vs.drop k).take n) := fun i hi => by
 rw [List.length_take, List.length_drop] at hi
 obtain ⟨b1, o1, e, c0, c1⟩ := h (k + i) (by omega)
 cases e
 have e2 : ((vs.drop k).take n).getD i (0, 0) = vs.getD (k + i) (0, 0) := by
  rw [List.getD_eq_getElem?_getD, List.getD_eq_getElem?_getD, List.getElem?_take_of_lt (by omega), List.getElem?_drop]
 rw [e2]
 exact ⟨b, o + k * 2, rfl, by rw [show o + k * 2 + i * 2 = o + (k + i) * 2 by omega]; exact c0, by rw [show o + k * 2 + i * 2 + 1 = o + (k + i) * 2 + 1 by omega]; exact c1⟩

theorem cut_nums {i s y m : Nat} (hi : i < y) (hm : m = y * s) (hms : m <= 4096) (hs : 1 <= s) : ∃ a1 a2 i1 : Nat, i * s = a1 /\ (i + 1) * s = a2 /\ i + 1 = i1 /\ IntKind.i64.wrap ((i : Int) * s) = a1 /\ IntKind.i64.wrap ((i : Int) + 1) = i1 /\ IntKind.i64.wrap ((i1 : Int) * s) = a2 /\ a1 <= a2 /\ a2 <= m /\ a2 = a1 + s /\ a1 + s <= m := by
 have h1 : (i + 1) * s <= m := by rw [hm]; exact Nat.mul_le_mul_right s hi
 have h2 : (i + 1) * s = i * s + s := by rw [Nat.add_mul, Nat.one_mul]
 have h3 : i + 1 <= m := Nat.le_trans (Nat.le_mul_of_pos_right _ (by omega)) h1
 refine ⟨i * s, (i + 1) * s, i + 1, rfl, rfl, rfl, ?_, ?_, ?_, by omega, h1, h2, by omega⟩
 ·rw [show (i : Int) * s = ((i * s : Nat) : Int) by push_cast; rfl]; exact wnI (by omega)
 ·rw [show (i : Int) + 1 = ((i + 1 : Nat) : Int) by push_cast; rfl]; exact wnI (by omega)
 ·rw [show ((i + 1 : Nat) : Int) * s = (((i + 1) * s : Nat) : Int) by push_cast; rfl]; exact wnI (by omega)
theorem wtj_le {f : Nat -> List UInt8} {n : Nat} : ∀ i, i <= n -> (wtj f i).length <= (wtj f n).length := by
 induction n with
 | zero =>
  intro i hi
  obtain rfl : i = 0 := by omega
  exact Nat.le_refl _
 | succ n ih =>
  intro i hi
  by_cases h : i = n + 1
  ·subst h; exact Nat.le_refl _
  ·have := ih i (by omega)
   have e : (wtj f (n + 1)).length = (wtj f n).length + ((if n = 0 then ([] : List UInt8) else [44, 32]) ++ f n).length := by
    show (wtj f n ++ _).length = _
    rw [List.length_append]
   omega

set_option maxRecDepth 100000 in
set_option maxHeartbeats 2000000 in
theorem wr_cons (K B F R O : Int) (b0 : -9223372036854775808 <= B) (b1 : B <= 9223372036854775807) (Bs bb : Nat) (zs : List Int) (vs : List (Int × Int)) (p : Option Addr) (c : Nat) (q : Option Addr) (d : Nat) (L : List UInt8) (w : World)
  (hw : Bs <= w.heap.size) (hIB : Lib.IsBuilder 98 5 Bs bb (Lib.byteCells L) w) (HL : ∀ u, Below Bs w u -> Tx.LA u) (PA : ∀ u, Below Bs w u -> SlI u p zs) (PB : ∀ u, Below Bs w u -> SlV u q vs) (z : Int) (zt : List Int) (hzs : zs = z :: zt) (hv : vE zs = 0) (hl : (vs.length : Int) = sp zs) (hc : zs.length <= c) (hc2 : c <= 9223372036854775807) (hd : vs.length <= d) (hd2 : d <= 9223372036854775807) (hlen : L.length + (wtx K B F R O zs vs).length <= 140737488355328) (IH : Hid (∀ (vs' : List (Int × Int)) (p' : Option Addr) (c' : Nat) (q' : Option Addr) (d' : Nat) (L' : List UInt8) (u : World), Bs <= u.heap.size -> Lib.IsBuilder 98 5 Bs bb (Lib.byteCells L') u -> (∀ u', Below Bs u u' -> Tx.LA u') -> (∀ u', Below Bs u u' -> SlI u' p' zt) -> (∀ u', Below Bs u u' -> SlV u' q' vs') -> (vs'.length : Int) = sp zt -> zt.length <= c' -> c' <= 9223372036854775807 -> vs'.length <= d' -> d' <= 9223372036854775807 -> L'.length + (wtx K B F R O zt vs').length <= 140737488355328 -> Calls Tryz.prog 76 #[.pointer (some ⟨bb, 0, none⟩), Tn K B F R O p' zt.length c' q' vs'.length d'] u fun e w' => e = .returned (.tuple #[]) /\ Lib.IsBuilder 98 5 Bs bb (Lib.byteCells (L' ++ wtx K B F R O zt vs')) w' /\ Below Bs u w' /\ Lib.OthersKept 5 (some bb) u w')) :
  Calls Tryz.prog 76 #[.pointer (some ⟨bb, 0, none⟩), Tn K B F R O p zs.length c q vs.length d] w fun e w' => e = .returned (.tuple #[]) /\ Lib.IsBuilder 98 5 Bs bb (Lib.byteCells (L ++ wtx K B F R O zs vs)) w' /\ Below Bs w w' /\ Lib.OthersKept 5 (some bb) w w' := by
 obtain ⟨h6, hlow, -, hsp, hdd⟩ := valid_of hv
 have hz0 : zs.getD 0 0 = z := by rw [hzs]; rfl
 have hz0l : 0 < zs.length := by rw [hzs]; simp
 have hzp := pos_of hlow hz0l
 rw [hz0] at hzp
 have hs1 := (hdd 1).1
 rw [hzs, List.drop_succ_cons, List.drop_zero] at hs1
 have hspz : sp zs = z * sp zt := by rw [hzs]; simp [sp, Int.mul_comm]
 obtain ⟨y, hy⟩ : ∃ y : Nat, z = y := ⟨z.toNat, by omega⟩
 obtain ⟨s, hs⟩ : ∃ s : Nat, sp zt = s := ⟨(sp zt).toNat, by omega⟩
 obtain ⟨n, hn⟩ : ∃ n, zs.length = n := ⟨_, rfl⟩
 have hnt : zt.length = n - 1 := by rw [<- hn, hzs]; simp
 obtain ⟨pb, po, hpp, -⟩ := PA w (Below.refl _ _) 0 hz0l
 subst hpp
 obtain ⟨vb, vo, hqq, -⟩ := PB w (Below.refl _ _) 0 (by have := (hdd 0).1; rw [List.drop_zero] at this; omega)
 subst hqq
 have hwx : wtx K B F R O zs vs = 91 :: (wtj (fun i => wtx K B F R O zt ((vs.drop (i * s)).take s)) y ++ [93]) := by rw [hzs, wtx_cons, hs, hy]; rfl
 rw [hwx] at hlen ⊢
 obtain ⟨f, hf⟩ : ∃ f, (fun i => wtx K B F R O zt ((vs.drop (i * s)).take s)) = f := ⟨_, rfl⟩
 rw [hf] at hlen ⊢
 have HF := Lib.hid fun i => congrFun hf.symm i
 have HZS : Hid (zs.drop 1 = zt) := Lib.hid (by rw [hzs]; rfl)
 have HLA := Lib.hid HL
 have HIB := Lib.hid hIB
 have hnb : some w.heap.size ≠ some bb := by intro e; injection e with e; rcases hIB with h | h <;> (have := h.lt; omega)
 have hn5 : ∀ c9 fz, (Obj.cells #[.int .i64 K, .int .i64 B, .int .i64 F, .int .i64 R, .int .i64 O, .slice (some ⟨pb, po, none⟩) zs.length c, .slice (some ⟨vb, vo, none⟩) vs.length d] 27 (0, 0)) ≠ .cells c9 5 fz := by intro c9 fz e; cases e
 have WS := Lib.hid fun (l : List UInt8) (sx : ByteArray) u (h : Lib.IsBuilder 98 5 Bs bb (Lib.byteCells l) u) (hs : Bs <= u.heap.size) (hl : l.length + sx.size <= 140737488355328) => Ln.writeString Bs bb (Lib.byteCells l) sx u h (by rw [Lib.byteCells_length]; exact hl) hs
 have hlj : ∀ i, i <= y -> L.length + 1 + (wtj f i).length + 1 <= 140737488355328 := fun i hi => by
  have := wtj_le (f := f) (n := y) i hi
  rw [List.length_cons, List.length_append] at hlen
  simp only [List.length_cons, List.length_nil] at hlen
  omega
 have HLJ := Lib.hid hlj
 have hl1 : L.length + (⟨#[91]⟩ : ByteArray).size <= 140737488355328 := by have := hlj 0 (Nat.zero_le _); show L.length + 1 <= _; simp [wtj] at this; omega
 have hw1 : ∀ o, Bs <= (w.alloc o).heap.size := fun o => by simp; omega
 have hmI : (vs.length : Int) = y * s := by rw [hl, hspz, hy, hs]
 have hm4 : vs.length = y * s := by exact_mod_cast hmI
 have hy1 : 1 <= y := by omega
 have hs2 : 1 <= s := by omega
 have hms : vs.length <= 4096 := by omega
 obtain ⟨m, hmm⟩ : ∃ m, vs.length = m := ⟨_, rfl⟩
 have HM := Lib.hid hmm
 have TBX : Hid ((w.alloc (Obj.cells #[Value.int .i64 K, Value.int .i64 B, Value.int .i64 F, Value.int .i64 R, Value.int .i64 O, Value.slice (some ⟨pb, po, none⟩) zs.length c, Value.slice (some ⟨vb, vo, none⟩) vs.length d] 27)).heap[w.heap.size]? = some (.cells #[.int .i64 K, .int .i64 B, .int .i64 F, .int .i64 R, .int .i64 O, .slice (some ⟨pb, po, none⟩) zs.length c, .slice (some ⟨vb, vo, none⟩) vs.length d] 27 (0, 0))) := Lib.hid (heap_alloc_new _ _)
 rw [hmm] at hl hm4 hms hd TBX hn5 ⊢
 rw [hn] at TBX hn5 hc h6 ⊢
 have hz9 : zs.getD 0 0 = (y : Int) := by rw [hz0, hy]
 have e1 : wrap64 ((m : Int) / (y : Int)) = (s : Int) := by
  have : (m : Int) / (y : Int) = (s : Int) := by rw [hm4]; push_cast; exact Int.mul_ediv_cancel_left _ (by omega)
  rw [this]; exact w64 (by have := Nat.le_mul_of_pos_left s hy1; omega) (by have := Nat.le_mul_of_pos_left s hy1; omega)
 have hy4 : y <= 4096 := Nat.le_trans (by rw [hm4]; exact Nat.le_mul_of_pos_right _ hs2) hms
 have HM4 := Lib.hid hm4
 have e0 : ¬ (y : Int) = 0 := by omega
 have g0 : (0 : Int) < n := by omega
 have g0n : 0 < n := by omega
 have gn0 : ((n : Int) == 0) = false := by simp; omega
 have gn1 : (n == 0) = false := by simp; omega
 have c4 : ((⟨pb, po, none⟩ : Addr)) = ⟨pb, po, none⟩ := rfl
 clear hm4 hf hwx hspz hmI hsp hdd hlow hv hzs hlen hl hz0 hIB HL c4 hs1 hzp
 unfold Tn at *
 subst hy
 replace hz0 := hz9
 clear hz9
 go_enter Tryz.func76, Tryz.ntmps76
 go_upto_region 4 with (go_at_call 105; (with_reducible refine (WS.out (L) ⟨#[91]⟩ _ (Ln.isB_alloc HIB.out _) (hw1 _) hl1).mono ?_); rintro e u3 ⟨rfl, h3, hb3, ho3⟩; rw [Ln.cells_app] at h3; have TB3 := ho3 _ _ TBX.out hnb hn5; have K3 := Lib.hid ((Below.refl _ _).alloc hw _ |>.trans hb3); have O3 := Lib.hid (((Lib.OthersKept.refl 5 (some bb) w).alloc (Obj.cells #[Value.int .i64 K, Value.int .i64 B, Value.int .i64 F, Value.int .i64 R, Value.int .i64 O, Value.slice (some ⟨pb, po, none⟩) n c, Value.slice (some ⟨vb, vo, none⟩) m d] 27)).trans ho3); have HI3 := Lib.hid (show Lib.IsBuilder 98 5 Bs bb (Lib.byteCells (L ++ [91])) u3 from Or.inr h3); have hc3 := box_cells TB3; obtain ⟨c0, c1, c2, c3, c4, c5, c6⟩ := hc3; have HT3 := Lib.hid TB3; have hs3 := K3.out.size; obtain ⟨b9, o9, e9, z9⟩ := PA u3 K3.out 0 hz0l; cases e9; rw [Nat.add_zero, hz0] at z9; clear TB3 h3 hb3 ho3)
 go_quiet (fail)
 try rw [e1]
 obtain ⟨wq, hwq⟩ : ∃ wq : World, wq = u3.drewN nq := ⟨_, rfl⟩
 rw [<- hwq]
 have HQ3 : Hid (Lib.IsBuilder 98 5 Bs bb (Lib.byteCells (L ++ [91])) wq) := by rw [hwq]; exact HI3
 have TQ3 : Hid (wq.heap[w.heap.size]? = some (.cells #[.int .i64 K, .int .i64 B, .int .i64 F, .int .i64 R, .int .i64 O, .slice (some ⟨pb, po, none⟩) n c, .slice (some ⟨vb, vo, none⟩) m d] 27 (0, 0))) := by rw [hwq]; exact HT3
 have KQ3 : Hid (Below Bs w wq) := by rw [hwq]; exact Lib.hid (below_drewN K3.out _)
 have OQ3 : Hid (Lib.OthersKept 5 (some bb) w wq) := by rw [hwq]; exact O3
 clear hwq HI3 HT3 K3 O3 c0 c1 c2 c3 c4 c5 c6 z9 e1 hs3
 obtain ⟨c0, c1, c2, c3, c4, c5, c6⟩ := box_cells TQ3.out
 obtain ⟨b9, o9, e9, z9⟩ := PA wq KQ3.out 0 hz0l
 cases e9
 rw [Nat.add_zero, hz0] at z9
 go_wp2_with fail
 go_loopw [33] (fun iv wr => ∃ i : Nat, iv = .int .i64 (i : Int) /\ i <= y /\ Hid (Lib.IsBuilder 98 5 Bs bb (Lib.byteCells (L ++ 91 :: wtj f i)) wr) /\ Hid (wr.heap[w.heap.size]? = some (.cells #[.int .i64 K, .int .i64 B, .int .i64 F, .int .i64 R, .int .i64 O, .slice (some ⟨pb, po, none⟩) n c, .slice (some ⟨vb, vo, none⟩) m d] 27 (0, 0))) /\ Hid (Below Bs w wr) /\ Hid (Lib.OthersKept 5 (some bb) w wr)) (fun iv _ => y - (intOf iv).toNat)
 case atStart => exact ⟨0, rfl, Nat.zero_le _, HQ3, TQ3, KQ3, OQ3⟩
 case round =>
  obtain ⟨i, rfl, hi, HI, HT, HK, HO⟩ := hrel
  clear c0 c1 c2 c3 c4 c5 c6 z9 HQ3 TQ3 KQ3 OQ3
  by_cases hiy : i < y
  ·have hi2 : (i : Int) < y := by omega
   have hi0 : (0 : Int) <= i := by omega
   obtain ⟨a1, a2, i1, ha1, ha2, hi1, e2, e3, e4, k1, k2, k3, k4⟩ := cut_nums (i := i) (s := s) (y := y) (m := m) hiy HM4.out hms hs2
   have k5 : a2 <= d := Nat.le_trans k2 hd
   have k6 : (a1 : Int) <= a2 := Int.ofNat_le.2 k1
   have k7 : (a2 : Int) <= d := Int.ofNat_le.2 k5
   have k8 : (0 : Int) <= a1 := Int.natCast_nonneg _
   have k9 : (1 : Int) <= n := Int.ofNat_le.2 g0n
   have k10 : (n : Int) <= c := Int.ofNat_le.2 hc
   have HA := Lib.hid (And.intro ha1 (And.intro ha2 (And.intro hi1 (And.intro k3 k4))))
   clear ha1 ha2 hi1 k3 k4
   rcases Nat.eq_zero_or_pos i with h0 | h0
   ·have p1 : decide ((0 : Int) < (i : Int)) = false := by simp; omega
    have p2 : decide (0 < i) = false := by simp; omega
    obtain ⟨Lb, hLb⟩ : ∃ Lb, L ++ 91 :: wtj f i = Lb := ⟨_, rfl⟩
    have HLb : Hid (Lb ++ f i = L ++ 91 :: wtj f (i + 1)) := Lib.hid (by rw [<- hLb]; show _ = L ++ 91 :: (wtj f i ++ ((if i = 0 then [] else [44, 32]) ++ f i)); rw [if_pos h0]; simp)
    rw [hLb] at HI
    clear hLb h0
    go_upto_region 10 with fail
    obtain ⟨wb, hwb⟩ : ∃ wb : World, wb = wr := ⟨wr, rfl⟩
    rw [<- hwb] at HI HT HK HO ⊢
    clear hwb
    obtain ⟨c0, c1, c2, c3, c4, c5, c6⟩ := box_cells HT.out
    refine Rk.begin (S := fun wS => wS.cell? ⟨w.heap.size, 0, none⟩ = some (.int .i64 K) /\ wS.cell? ⟨w.heap.size, 1, none⟩ = some (.int .i64 B) /\ wS.cell? ⟨w.heap.size, 2, none⟩ = some (.int .i64 F) /\ wS.cell? ⟨w.heap.size, 3, none⟩ = some (.int .i64 R) /\ wS.cell? ⟨w.heap.size, 4, none⟩ = some (.int .i64 O) /\ wS.cell? ⟨w.heap.size, 5, none⟩ = some (.slice (some ⟨pb, po, none⟩) n c) /\ wS.cell? ⟨w.heap.size, 6, none⟩ = some (.slice (some ⟨vb, vo, none⟩) m d) /\ Below wb.heap.size wb wS) 17 (by kernel_rfl) ⟨c0, c1, c2, c3, c4, c5, c6, Below.drew (Below.refl _ _)⟩ (fun hHeld => ?_)
    refine SqR.p 0 ?_
    refine SqR.p 1 ?_
    refine SqR.l [16, 17] 2 ?_
    refine SqR.p 3 ?_
    refine SqR.l [5, 16, 17] 4 ?_
    refine SqR.p 5 ?_
    refine SqR.p 6 ?_
    refine SqR.l [15, 16, 17] 7 ?_
    refine SqR.p 8 ?_
    refine SqR.p 9 ?_
    refine SqR.p 10 ?_
    refine SqR.p 11 ?_
    refine SqR.p 12 ?_
    refine SqR.p 13 ?_
    refine SqR.p 14 ?_
    refine SqR.p 15 ?_
    refine SqR.p 16 ?_
    refine Rk.tail [17] [_] (by kernel_rfl) (by kernel_rfl) rfl (by decide) ?_
    obtain ⟨c0, c1, c2, c3, c4, c5, c6, KBB⟩ := hHeld
    obtain ⟨ha1, ha2, hi1, k3, k4⟩ := HA.out
    have hvl : ((vs.drop (i * s)).take s).length = s := by rw [List.length_take, List.length_drop, HM.out, ha1]; omega
    have hll : Lb.length + (f i).length <= 140737488355328 := by
     have h1 := HLJ.out (i + 1) hiy
     have h2 := congrArg List.length HLb.out
     rw [List.length_append, List.length_append, List.length_cons] at h2
     omega
    have IHI := IH.out ((vs.drop (i * s)).take s) (if c = 1 then some ⟨pb, po, none⟩ else some ⟨pb, po + 1, none⟩) (c - 1) (some ⟨vb, vo + a1 * 2, none⟩) (d - a1) Lb wb.drew (Nat.le_trans hw HK.out.size) HI.out (fun u h => HLA.out u (HK.out.drew.trans h)) (fun u h => by
      have h1 := PA u (HK.out.drew.trans h)
      by_cases e : c = 1
      ·exact SlI.empty (by rw [hnt]; omega)
      ·rw [if_neg e]
       have h2 := SlI.drop h1 1
       rw [HZS.out] at h2
       exact h2)
     (fun u h => by rw [<- ha1]; exact SlV_cut (PB u (HK.out.drew.trans h)) (i * s) s) (by rw [hvl]; exact hs.symm) (by rw [hnt]; omega) (by omega) (by rw [hvl]; omega) (by omega) (by rw [<- HF.out i]; exact hll)
    rw [hvl, hnt, <- HF.out i] at IHI
    try unfold Tn at IHI
    have hda : ¬ d = a1 := by omega
    have hsub : a2 - a1 = s := by omega
    have IHH := Lib.hid IHI
    have TBB := Lib.hid (show wb.drew.heap[w.heap.size]? = some (.cells #[.int .i64 K, .int .i64 B, .int .i64 F, .int .i64 R, .int .i64 O, .slice (some ⟨pb, po, none⟩) n c, .slice (some ⟨vb, vo, none⟩) m d] 27 (0, 0)) from HT.out)
    clear IHI k3 k4 ha1 ha2 hi1 hvl hll e2 e3 e4
    go_wp2_with (go_at_call 76; rw [if_neg hda, hsub]; (with_reducible refine IHH.out.mono ?_); rintro e u9 ⟨rfl, h9, hb9, ho9⟩)
    go_roundw
    case rel => exact ⟨i + 1, by simp, by omega, Lib.hid (by rw [<- HLb.out]; exact h9), Lib.hid (ho9 _ _ TBB.out hnb hn5), Lib.hid (HK.out.drew.trans hb9), Lib.hid (HO.out.drew.trans ho9)⟩
    case measure => simp [intOf]; omega
   ·have p1 : decide ((0 : Int) < (i : Int)) = true := by simp; omega
    have p2 : decide (0 < i) = true := by simp; omega
    obtain ⟨Lc, hLc⟩ : ∃ Lc, L ++ 91 :: wtj f i = Lc := ⟨_, rfl⟩
    have HLb : Hid ((Lc ++ [44, 32]) ++ f i = L ++ 91 :: wtj f (i + 1)) := Lib.hid (by rw [<- hLc]; show _ = L ++ 91 :: (wtj f i ++ ((if i = 0 then [] else [44, 32]) ++ f i)); rw [if_neg (by omega)]; simp)
    rw [hLc] at HI
    have hlc : Lc.length + (⟨#[44, 32]⟩ : ByteArray).size <= 140737488355328 := by
     have h1 := HLJ.out (i + 1) hiy
     have h2 := congrArg List.length HLb.out
     rw [List.length_append, List.length_append, List.length_append, List.length_cons] at h2
     show Lc.length + 2 <= _
     simp only [List.length_cons, List.length_nil] at h2
     omega
    clear hLc
    go_upto_region 10 with (go_at_call 105; (with_reducible refine (WS.out (Lc) ⟨#[44, 32]⟩ _ HI.out (Nat.le_trans hw HK.out.size) hlc).mono ?_); rintro e u4 ⟨rfl, h4, hb4, ho4⟩; rw [Ln.cells_app] at h4)
    obtain ⟨Lb, hLb⟩ : ∃ Lb, Lc ++ [44, 32] = Lb := ⟨_, rfl⟩
    obtain ⟨wb, hwb⟩ : ∃ wb : World, wb = u4 := ⟨u4, rfl⟩
    replace HI := Lib.hid (show Lib.IsBuilder 98 5 Bs bb (Lib.byteCells (Lc ++ [44, 32])) u4 from Or.inr h4)
    replace HT := Lib.hid (ho4 _ _ HT.out hnb hn5)
    replace HK := Lib.hid (HK.out.trans hb4)
    replace HO := Lib.hid (HO.out.trans ho4)
    rw [hLb] at HI HLb
    rw [<- hwb] at HI HT HK HO ⊢
    clear hwb hLb h4 hb4 ho4 h0 hlc
    obtain ⟨c0, c1, c2, c3, c4, c5, c6⟩ := box_cells HT.out
    refine Rk.begin (S := fun wS => wS.cell? ⟨w.heap.size, 0, none⟩ = some (.int .i64 K) /\ wS.cell? ⟨w.heap.size, 1, none⟩ = some (.int .i64 B) /\ wS.cell? ⟨w.heap.size, 2, none⟩ = some (.int .i64 F) /\ wS.cell? ⟨w.heap.size, 3, none⟩ = some (.int .i64 R) /\ wS.cell? ⟨w.heap.size, 4, none⟩ = some (.int .i64 O) /\ wS.cell? ⟨w.heap.size, 5, none⟩ = some (.slice (some ⟨pb, po, none⟩) n c) /\ wS.cell? ⟨w.heap.size, 6, none⟩ = some (.slice (some ⟨vb, vo, none⟩) m d) /\ Below wb.heap.size wb wS) 17 (by kernel_rfl) ⟨c0, c1, c2, c3, c4, c5, c6, Below.drew (Below.refl _ _)⟩ (fun hHeld => ?_)
    refine SqR.p 0 ?_
    refine SqR.p 1 ?_
    refine SqR.l [16, 17] 2 ?_
    refine SqR.p 3 ?_
    refine SqR.l [5, 16, 17] 4 ?_
    refine SqR.p 5 ?_
    refine SqR.p 6 ?_
    refine SqR.l [15, 16, 17] 7 ?_
    refine SqR.p 8 ?_
    refine SqR.p 9 ?_
    refine SqR.p 10 ?_
    refine SqR.p 11 ?_
    refine SqR.p 12 ?_
    refine SqR.p 13 ?_
    refine SqR.p 14 ?_
    refine SqR.p 15 ?_
    refine SqR.p 16 ?_
    refine Rk.tail [17] [_] (by kernel_rfl) (by kernel_rfl) rfl (by decide) ?_
    obtain ⟨c0, c1, c2, c3, c4, c5, c6, KBB⟩ := hHeld
    obtain ⟨ha1, ha2, hi1, k3, k4⟩ := HA.out
    have hvl : ((vs.drop (i * s)).take s).length = s := by rw [List.length_take, List.length_drop, HM.out, ha1]; omega
    have hll : Lb.length + (f i).length <= 140737488355328 := by
     have h1 := HLJ.out (i + 1) hiy
     have h2 := congrArg List.length HLb.out
     rw [List.length_append, List.length_append, List.length_cons] at h2
     omega
    have IHI := IH.out ((vs.drop (i * s)).take s) (if c = 1 then some ⟨pb, po, none⟩ else some ⟨pb, po + 1, none⟩) (c - 1) (some ⟨vb, vo + a1 * 2, none⟩) (d - a1) Lb wb.drew (Nat.le_trans hw HK.out.size) HI.out (fun u h => HLA.out u (HK.out.drew.trans h)) (fun u h => by
      have h1 := PA u (HK.out.drew.trans h)
      by_cases e : c = 1
      ·exact SlI.empty (by rw [hnt]; omega)
      ·rw [if_neg e]
       have h2 := SlI.drop h1 1
       rw [HZS.out] at h2
       exact h2)
     (fun u h => by rw [<- ha1]; exact SlV_cut (PB u (HK.out.drew.trans h)) (i * s) s) (by rw [hvl]; exact hs.symm) (by rw [hnt]; omega) (by omega) (by rw [hvl]; omega) (by omega) (by rw [<- HF.out i]; exact hll)
    rw [hvl, hnt, <- HF.out i] at IHI
    try unfold Tn at IHI
    have hda : ¬ d = a1 := by omega
    have hsub : a2 - a1 = s := by omega
    have IHH := Lib.hid IHI
    have TBB := Lib.hid (show wb.drew.heap[w.heap.size]? = some (.cells #[.int .i64 K, .int .i64 B, .int .i64 F, .int .i64 R, .int .i64 O, .slice (some ⟨pb, po, none⟩) n c, .slice (some ⟨vb, vo, none⟩) m d] 27 (0, 0)) from HT.out)
    clear IHI k3 k4 ha1 ha2 hi1 hvl hll e2 e3 e4
    go_wp2_with (go_at_call 76; rw [if_neg hda, hsub]; (with_reducible refine IHH.out.mono ?_); rintro e u9 ⟨rfl, h9, hb9, ho9⟩)
    go_roundw
    case rel => exact ⟨i + 1, by simp, by omega, Lib.hid (by rw [<- HLb.out]; exact h9), Lib.hid (ho9 _ _ TBB.out hnb hn5), Lib.hid (HK.out.drew.trans hb9), Lib.hid (HO.out.drew.trans ho9)⟩
    case measure => simp [intOf]; omega
  ·obtain rfl : i = y := by omega
   have gN : decide ((i : Int) < (i : Int)) = false := by simp
   have hle : (L ++ 91 :: wtj f i).length + (⟨#[93]⟩ : ByteArray).size <= 140737488355328 := by
    have h1 := HLJ.out i (Nat.le_refl _)
    rw [List.length_append, List.length_cons]
    show _ + 1 <= _
    omega
   go_wp2_with (go_at_call 105; (with_reducible refine (WS.out (L ++ 91 :: wtj f i) ⟨#[93]⟩ _ HI.out (Nat.le_trans hw HK.out.size) hle).mono ?_); rintro e u5 ⟨rfl, h5, hb5, ho5⟩; rw [Ln.cells_app] at h5)
   go_end0
   exact ⟨rfl, .inr (by have h9 := h5; rw [List.append_assoc] at h9; exact h9), HK.out.trans hb5, HO.out.trans ho5⟩
end Go.Proofs.YteaaikmejacpaaaGreatDoor.Te


namespace Go.Proofs.YteaaikmejacpaaaGreatDoor.Te
open Go.ChangeShapes Go.WideShapes Go.ChangeAt Go.RowKit
open Fx Va Sh
set_option maxRecDepth 8000
set_option linter.unusedVariables false
set_option linter.unusedSimpArgs false

theorem twr (K B F R O : Int) (b0 : -9223372036854775808 <= B) (b1 : B <= 9223372036854775807) (Bs bb : Nat) : ∀ (zs : List Int) (vs : List (Int × Int)) (p : Option Addr) (c : Nat) (q : Option Addr) (d : Nat) (L : List UInt8) (w : World),
  Bs <= w.heap.size -> Lib.IsBuilder 98 5 Bs bb (Lib.byteCells L) w -> (∀ u, Below Bs w u -> Tx.LA u) -> (∀ u, Below Bs w u -> SlI u p zs) -> (∀ u, Below Bs w u -> SlV u q vs) -> vE zs = 0 -> (vs.length : Int) = sp zs -> zs.length <= c -> c <= 9223372036854775807 -> vs.length <= d -> d <= 9223372036854775807 -> L.length + (wtx K B F R O zs vs).length <= 140737488355328 ->
  Calls Tryz.prog 76 #[.pointer (some ⟨bb, 0, none⟩), Tn K B F R O p zs.length c q vs.length d] w fun e w' => e = .returned (.tuple #[]) /\ Lib.IsBuilder 98 5 Bs bb (Lib.byteCells (L ++ wtx K B F R O zs vs)) w' /\ Below Bs w w' /\ Lib.OthersKept 5 (some bb) w w'
 | [], vs, p, c, q, d, L, w, hw, hI, HL, PA, PB, hv, hl, hc, hc2, hd, hd2, hlen => wr_nil K B F R O b0 b1 Bs bb [] vs p c q d L w hw hI HL PA PB rfl (by have e : sp ([] : List Int) = 1 := rfl; rw [e] at hl; omega) hlen
 | z :: zt, vs, p, c, q, d, L, w, hw, hI, HL, PA, PB, hv, hl, hc, hc2, hd, hd2, hlen => wr_cons K B F R O b0 b1 Bs bb (z :: zt) vs p c q d L w hw hI HL PA PB z zt rfl hv hl hc hc2 hd hd2 hlen
   (Lib.hid fun vs' p' c' q' d' L' u h1 h2 h3 h4 h5 h6 h7 h8 h9 h10 h11 => twr K B F R O b0 b1 Bs bb zt vs' p' c' q' d' L' u h1 h2 h3 h4 h5 (vE_drop hv 1) h6 h7 h8 h9 h10 h11)
/-- The text of Format. -/
def fmX (K B F R O : Int) (zs : List Int) (vs : List (Int × Int)) : List UInt8 := if tE K B F R O zs vs ≠ 0 then [] else wtx K B F R O zs vs
set_option maxRecDepth 100000 in
set_option maxHeartbeats 2000000 in
theorem tfm (K B F R O : Int) (p : Option Addr) (zs : List Int) (c : Nat) (q : Option Addr) (vs : List (Int × Int)) (d : Nat) (w : World) (b0 : -9223372036854775808 <= B) (b1 : B <= 9223372036854775807) (hn : zs.length <= maxLen) (hm : vs.length <= maxLen) (RA : Hid (SlI w p zs)) (RB : Hid (SlV w q vs)) (hc : zs.length <= c) (hc2 : c <= 9223372036854775807) (hd : vs.length <= d) (hd2 : d <= 9223372036854775807) (hLA : Tx.LA w) :
  Calls Tryz.prog 42 #[Tn K B F R O p zs.length c q vs.length d] w fun e w' => e = .returned (.string ⟨(fmX K B F R O zs vs).toArray⟩) /\ Below w.heap.size w w' := by
 have TV0 := fun w h1 h2 => tval K B F R O p zs c q vs d w b0 b1 hn hm h1 h2
 unfold fmX
 obtain ⟨m, hmm⟩ : ∃ m, vs.length = m := ⟨_, rfl⟩
 have HM := Lib.hid hmm
 have B0 : Hid (Below w.heap.size w (w.alloc (Obj.cells #[Value.int .i64 K, Value.int .i64 B, Value.int .i64 F, Value.int .i64 R, Value.int .i64 O, Value.slice p zs.length c, Value.slice q m d] 27))) := Lib.hid ((Below.refl _ _).alloc (Nat.le_refl _) _)
 have T0 : Hid (B7 (w.alloc (Obj.cells #[Value.int .i64 K, Value.int .i64 B, Value.int .i64 F, Value.int .i64 R, Value.int .i64 O, Value.slice p zs.length c, Value.slice q m d] 27)) (w.heap.size) (.int .i64 K) (.int .i64 B) (.int .i64 F) (.int .i64 R) (.int .i64 O) (.slice p zs.length c) (.slice q m d)) := Lib.hid (B7.new w _ (.int .i64 K) (.int .i64 B) (.int .i64 F) (.int .i64 R) (.int .i64 O) (.slice p zs.length c) (.slice q m d))
 by_cases ht : tE K B F R O zs vs = 0
 ·rw [if_neg (by simpa using ht)]
  rw [ht] at TV0
  obtain ⟨-, hv, tl, -⟩ := tE_ok ht
  obtain ⟨h6, hlow, -, hsp, -⟩ := valid_of hv
  have hlen := wtx_len K B F R O zs vs hlow
  have hlen2 : ([] : List UInt8).length + (wtx K B F R O zs vs).length <= 140737488355328 := by
   have h3 : (64 + 4 * zs.length) * (sp zs).toNat <= 100 * 4096 := Nat.mul_le_mul (by omega) (by omega)
   rw [List.length_nil]; omega
  have WR := Lib.hid fun Bs bb u h1 h2 h3 h4 h5 => twr K B F R O b0 b1 Bs bb zs vs p c q d [] u h1 h2 h3 h4 h5 hv tl hc hc2 hd hd2 hlen2
  obtain ⟨X, hX⟩ : ∃ X, wtx K B F R O zs vs = X := ⟨_, rfl⟩
  rw [hX] at WR ⊢
  rw [hmm] at TV0 WR ⊢
  have TV := Lib.hid TV0
  have HLA := Lib.hid hLA
  clear TV0 ht hlen hlen2 hX hm hmm tl hv hsp hlow h6 hd hLA
  unfold Tn at *
  go_enter Tryz.func42, Tryz.ntmps42
  go_wp2_with (first | (go_at_call 20; (with_reducible refine (TV.out _ (Lib.hid (SlI.keep B0.out RA.out)) (Lib.hid (SlV.below RB.out B0.out))).mono ?_); rintro e w1 ⟨rfl, hb⟩; have KB := Lib.hid (B0.out.trans (hb.mono B0.out.size)); have TB := Lib.hid (B7.keep hb (by simp) T0.out); obtain ⟨⟨c0, c1, c2, c3, c4, c5, c6⟩, -⟩ := TB.out; have hs1 := KB.out.size; have lt1 : w.heap.size < w1.heap.size := TB.out.lt; have HIB := Lib.hid (show Lib.IsBuilder 98 5 w1.heap.size w1.heap.size (Lib.byteCells []) (w1.alloc (Obj.cells #[Value.pointer none, Value.slice none 0 0] 98)) from .inl ⟨Nat.le_refl _, .slice none 0 0, heap_alloc_new _ _, World.ownsRow_nil _ _ _ _, fun e => by cases e⟩); have W2 := Lib.hid (WR.out w1.heap.size w1.heap.size (w1.alloc (Obj.cells #[Value.pointer none, Value.slice none 0 0] 98)) (by simp) HIB.out (fun u h => HLA.out.below ((KB.out.alloc hs1 _).trans (h.mono hs1))) (fun u h => SlI.keep ((KB.out.alloc hs1 _).trans (h.mono hs1)) RA.out) (fun u h => SlV.below RB.out ((KB.out.alloc hs1 _).trans (h.mono hs1)))); clear hb) | (go_at_call 76; (with_reducible refine W2.out.mono ?_); rintro e w2 ⟨rfl, h2, hb2, ho2⟩; rw [List.nil_append] at h2; have K2 := Lib.hid ((KB.out.alloc hs1 (Obj.cells #[Value.pointer none, Value.slice none 0 0] 98)).trans (hb2.mono hs1)); have hs2 := hb2.size; have H2 := Lib.hid h2; clear ho2 hb2 h2) | (go_at_call 77; (with_reducible refine (Tryz.Builder_String_any w1.heap.size w1.heap.size X w2 H2.out (by simp at hs2; omega)).mono ?_); rintro e w3 ⟨rfl, hb3⟩; have K3 := Lib.hid (K2.out.trans (hb3.mono hs1)); clear hb3))
  go_ret
  exact ⟨rfl, K3.out⟩
 ·rw [if_pos ht]
  obtain ⟨E, hE⟩ : ∃ E, tE K B F R O zs vs = E := ⟨_, rfl⟩
  rw [hE] at TV0 ht
  have g1 : (E == 0) = false := by simpa using ht
  have g2 : (E != 0) = true := by simpa using ht
  rw [hmm] at TV0 ⊢
  have TV := Lib.hid TV0
  clear TV0 ht hE hm hmm hd
  unfold Tn at *
  go_enter Tryz.func42, Tryz.ntmps42
  go_wp2_with (go_at_call 20; (with_reducible refine (TV.out _ (Lib.hid (SlI.keep B0.out RA.out)) (Lib.hid (SlV.below RB.out B0.out))).mono ?_); rintro e w1 ⟨rfl, hb⟩; have KB := Lib.hid (B0.out.trans (hb.mono B0.out.size)); clear hb)
  go_ret
  exact ⟨rfl, KB.out⟩
end Go.Proofs.YteaaikmejacpaaaGreatDoor.Te
