/- The magnitude of a number as a text. -/
import Derived.Test.YtbicmlkjonaccaaDoorK0
import Derived.Test.YtbicmlkjonaccaaDoorK1
import Derived.Lib.AppendIntMem
import Derived.Lib.SmallJoins
import Derived.Lib.LaidTab
import Derived.IntWalk
import Derived.Lib.Builder
import Derived.Lib.AppendStr
import Derived.Lib.UnsafeStr
import Derived.Laws.Externs
import Derived.Lib.OthersKept
import Derived.Lib.OwnKind
import Derived.Test.YtbicmlkjonaccaaDoorK16
import Derived.Test.YtbicmlkjonaccaaDoorK3
import Derived.Test.YtbicmlkjonaccaaDoorK15

namespace Go.Proofs.YtbicmlkjonaccaaDoor.Ln
open Go.ChangeShapes Go.WideShapes Go.ChangeAt Go.RowKit

set_option linter.unusedVariables false
set_option linter.unusedSimpArgs false
set_option maxRecDepth 8000

open Go.Sort
/-- What the variables of Go's library hold. -/
def LA (w : World) : Prop := Lib.TabIs Tryd.prog w "internal/strconv.uint64pow10" .u64 Lib.pow10Tab /\ True
theorem LA.below {w w' : World} (h : LA w) (hb : Below w.heap.size w w') : LA w' := ⟨Joins.tab_stays (g := 1) (by kernel_rfl) h.1 hb (Nat.le_refl _), trivial⟩
set_option maxRecDepth 100000 in
set_option maxHeartbeats 4000000 in
theorem fmtU0 (u : Nat) (h2 : u < 18446744073709551616) (w : World) (hL : LA w) : Calls Tryd.prog 116 #[.int .u64 u, .int .i64 10] w fun e w' => e = .returned (.string ⟨(Lib.decDigits u).toArray⟩) /\ Below w.heap.size w w' := by
 by_cases hs : u < 100
 ·have g : decide ((u : Int) < 100) = true := by simp; omega
  have SM := Lib.hid fun w => Tryd.internal_strconv_small u hs w
  have u0 : (u : Int) <= 18446744073709551615 := by omega
  have hw : IntKind.i64.wrap (u : Int) = u := by rw [IntKind.wrap_i64]; omega
  clear hs
  go_enter Tryd.func116, Tryd.ntmps116
  go_wp2_with (go_at_call 124; refine (SM.out _).mono ?_; rintro e w' ⟨rfl, rfl⟩)
  go_ret
  exact ⟨rfl, Below.refl _ _⟩
 ·have g : decide ((u : Int) < 100) = false := by simp; omega
  have hu1 : 1 <= u := by omega
  have hnd20 : Lib.nDigits u <= 20 := by have := Lib.numDigits_eq u hu1 h2; split at this <;> omega
  have hb3 : Lib.nDigits u <= 24 := by omega
  have hal : Tryd.prog.arrayLen 149 = 24 := by simp [Program.arrayLen, Tryd.underlying149]
  have hH0 := Lib.holds_zero0 w 149 (Lib.nDigits u) (by omega)
  have hfmt := Tryd.internal_strconv_formatBase10 w.heap.size 0 24 u (Array.replicate (Lib.nDigits u) 0) (w.alloc (.cells Lib.zeros24 149)) hH0 (by rw [Array.size_replicate]; exact Lib.lt_pow_nDigits u) h2 (by rw [Array.size_replicate]; omega)
  rw [Array.size_replicate] at hfmt
  have ND := Lib.hid fun w (h : LA w) => Tryd.internal_strconv_numDigits u hu1 h2 w h.1
  have HL := Lib.hid (hL.below ((Below.refl _ _).alloc (Nat.le_refl _) (.cells Lib.zeros24 149)))
  have hsl : ∀ W, (Instr.sliceAt 149 (.pointer (some ⟨w.heap.size, 0, none⟩)) none (some (.int .i64 (Lib.nDigits u : Int))) none).run Tryd.prog W = .ok (.slice (some ⟨w.heap.size, 0, none⟩) (Lib.nDigits u) 24) W := fun W => by
   rw [run_sliceAt_array_h W 149 ⟨w.heap.size, 0, none⟩ (by simp [Program.arrayLen, Program.elem, Tryd.underlying149]) .i64 (Lib.nDigits u : Int) (by omega) (by rw [hal]; omega)]
   go_simp
  have HH0 := Lib.hid hH0
  have HF := Lib.hid hfmt
  clear hH0 hal hfmt hL hs
  go_enter Tryd.func116, Tryd.ntmps116
  go_wp2_with (go_at_call 125; refine (ND.out _ HL.out).mono ?_; rintro e w' ⟨rfl, rfl⟩)
  refine HF.out.mono ?_
  rintro e w' ⟨rfl, k, v', dk, rfl, hF⟩
  have hcv : (convert 66 9 (.slice (some ⟨w.heap.size, 0, none⟩) (Lib.nDigits u) 24)).run Tryd.prog ((putRow (fun (b : UInt8) => Value.int .u8 (b.toNat : Int)) (w.alloc (.cells Lib.zeros24 149)) w.heap.size 0 dk).drewN k) = .ok (.string ⟨(Lib.decDigits u).toArray⟩) ((putRow (fun (b : UInt8) => Value.int .u8 (b.toNat : Int)) (w.alloc (.cells Lib.zeros24 149)) w.heap.size 0 dk).drewN k) := by
   have h := run_convert_bytes_back (P := Tryd.prog) ((putRow (fun (b : UInt8) => Value.int .u8 (b.toNat : Int)) (w.alloc (.cells Lib.zeros24 149)) w.heap.size 0 dk).drewN k) 66 9 5 ⟨w.heap.size, 0, none⟩ 24 (Lib.decDigits u) Tryd.underlying66 Tryd.underlying5 Tryd.underlying9 (fun j hj => by
    rw [Lib.row_is_numeral hF j hj, Lib.add_plain, World.cell?_drewN]
    exact cell?_putRow (fun (b : UInt8) => Value.int .u8 (b.toNat : Int)) _ w.heap.size 0 _ dk HH0.out (by rw [hF.size, Array.size_replicate]) j (by rw [hF.size]; rw [Lib.decDigits_length] at hj; exact hj))
   rw [Lib.decDigits_length] at h
   exact h
  obtain ⟨os, eo⟩ := Lib.fin_at w (.cells Lib.zeros24 149) dk k 0
  have hbl : Below w.heap.size w ((putRow (fun (b : UInt8) => Value.int .u8 (b.toNat : Int)) (w.alloc (.cells Lib.zeros24 149)) w.heap.size 0 dk).drewN k) := by rw [eo]; exact Lib.below_grow _ _ (Nat.le_refl _) _ _
  clear eo
  go_wp2
  go_ret
  exact ⟨rfl, hbl⟩
theorem fmtU (u : Nat) (h2 : u < 18446744073709551616) (w : World) (hL : LA w) : Calls Tryd.prog 89 #[.int .u64 u, .int .i64 10] w fun e w' => e = .returned (.string ⟨(Lib.decDigits u).toArray⟩) /\ Below w.heap.size w w' := by
 have C := Lib.hid fun w h => fmtU0 u h2 w h
 generalize (⟨(Lib.decDigits u).toArray⟩ : ByteArray) = s at *
 have HL := Lib.hid hL
 clear hL
 go_enter Tryd.func89, Tryd.ntmps89
 go_wp2_with (go_at_call 116; refine (C.out _ HL.out).mono ?_; rintro e w' ⟨rfl, hb⟩)
 go_ret
 exact ⟨rfl, hb⟩
/-- digits of package lin: the magnitude. -/
theorem digs1 (n : Int) (n0 : -9223372036854775808 <= n) (n1 : n <= 9223372036854775807) (w : World) (hL : LA w) : Calls Tryd.prog 48 #[.int .i64 n] w fun e w' => e = .returned (.string ⟨(Lib.decDigits n.natAbs).toArray⟩) /\ Below w.heap.size w w' := by
 have HL := Lib.hid hL
 by_cases hn : n < 0
 ·obtain ⟨u, rfl⟩ : ∃ u : Nat, n = -(u : Int) := ⟨n.natAbs, by omega⟩
  have e : (-(u : Int)).natAbs = u := by omega
  rw [e]
  have C := Lib.hid fun w h => fmtU u (by omega) w h
  generalize (⟨(Lib.decDigits u).toArray⟩ : ByteArray) = s at *
  have hwr : IntKind.u64.wrap (-IntKind.u64.wrap (-(u : Int))) = (u : Int) := by rw [IntKind.wrap_u64, IntKind.wrap_u64]; omega
  have g : decide (-(u : Int) < 0) = true := by simp; omega
  clear hL e
  go_enter Tryd.func48, Tryd.ntmps48
  go_wp2_with (go_at_call 89; refine (C.out _ HL.out).mono ?_; rintro e w' ⟨rfl, hb⟩)
  go_ret
  exact ⟨rfl, hb⟩
 ·obtain ⟨u, rfl⟩ : ∃ u : Nat, n = (u : Int) := ⟨n.natAbs, by omega⟩
  have e : (u : Int).natAbs = u := by omega
  rw [e]
  have C := Lib.hid fun w (h : LA w) => Tryd.strconv_FormatInt_10 u n0 n1 w h.1
  rw [Lib.itoa_nonneg] at C
  generalize (⟨(Lib.decDigits u).toArray⟩ : ByteArray) = s at *
  have g : decide ((u : Int) < 0) = false := by simp
  clear hL e hn
  go_enter Tryd.func48, Tryd.ntmps48
  go_wp2_with (go_at_call 90; refine (C.out _ HL.out).mono ?_; rintro e w' ⟨rfl, k, os, rfl⟩)
  go_ret
  exact ⟨rfl, Lib.below_grow _ _ (Nat.le_refl _) _ _⟩
end Go.Proofs.YtbicmlkjonaccaaDoor.Ln


namespace Go.Proofs.YtbicmlkjonaccaaDoor.Ln
open Go.ChangeShapes Go.WideShapes Go.ChangeAt Go.RowKit

set_option linter.unusedVariables false
set_option linter.unusedSimpArgs false
set_option maxRecDepth 8000
open Go.Shelf
theorem own_any {w : World} {base n : Nat} {e : TypeId} {v : Value} {xs : List Value} (h : w.ownsRow base e 1 v n xs) : ∃ q cap, v = .slice q n cap /\ (0 < n -> ∃ g, q = some ⟨g, 0, none⟩) := by
 rcases h.2 with ⟨rfl, rfl⟩ | ⟨g, cap, cur, rfl, _⟩
 ·exact ⟨none, 0, rfl, fun h => by omega⟩
 ·exact ⟨_, cap, rfl, fun _ => ⟨g, rfl⟩⟩
theorem sizeB : (Tryd.prog.info? 68).map (·.size) = some 2 := by kernel_rfl
theorem liesB : liesAt Tryd.prog Tryd.prog.depth 68 (2 / Tryd.prog.cellsOf 68) 0 68 1 = true := by kernel_rfl
theorem info5 : (Tryd.prog.info? 5).map (fun i => (i.zero, i.size, i.bytes)) = some (some (.int .u8 0), 1, 1) := by kernel_rfl
set_option maxRecDepth 100000 in
set_option maxHeartbeats 2000000 in
theorem copyCheck (B b : Nat) (bs : List Value) (w : World) (h : Lib.IsBuilder 68 5 B b bs w) :
  Calls Tryd.prog 88 #[.pointer (some ⟨b, 0, none⟩)] w fun e w' => e = .returned (.tuple #[]) /\ (Lib.BuilderAt 68 5 B b (.pointer (some ⟨b, 0, none⟩)) bs w' /\ Below B w w' /\ Lib.OthersKept 5 (some b) w w') := by
 obtain ⟨j, hj, hjs⟩ := Option.map_eq_some_iff.1 sizeB
 rcases h with h | h
 ·have h0 := h.cell0
  have hsh := h.shape
  have hfz := h.frozen0
  go_enter Tryd.func88, Tryd.ntmps88
  go_wp2
  rw [Lib.run_to_unsafe w ⟨b, 0, none⟩ Tryd.underlying65 Tryd.underlying140 hj (by rw [hjs]; decide) hsh (Nat.zero_lt_succ 1)]
  simp only [Result.andThen]
  rw [Oper.upon_value]
  go_wp2
  rw [run_callFunc_extern Tryd.func115 (by kernel_rfl) (by kernel_rfl) (by kernel_rfl) (e := Extern.AbiNoEscape.same) (by kernel_rfl)]
  rw [Lib.run_noEscape]
  simp only [Result.andThen]
  rw [Oper.upon_value]
  go_wp2
  rw [Lib.run_from_unsafe w ⟨b, 0, none⟩ Tryd.underlying140 Tryd.underlying65 hj hsh liesB]
  simp only [Result.andThen]
  rw [Oper.upon_value]
  go_wp2
  go_end0
  exact ⟨rfl, h.used _, (Below.refl B w).setCell (p := ⟨b, 0, none⟩) h.1 _, (Lib.OthersKept.refl _ _ w).setCell ⟨b, 0, none⟩ rfl _⟩
 ·have h0 := h.cell0
  go_enter Tryd.func88, Tryd.ntmps88
  go_wp2
  rw [Lib.run_neq_ptr_same w _ Tryd.underlying65 hj]
  go_wp2
  go_end0
  exact ⟨rfl, h, Below.refl B _, Lib.OthersKept.refl _ _ _⟩
set_option maxRecDepth 100000 in
set_option maxHeartbeats 4000000 in
theorem writeString (B b : Nat) (bs : List Value) (s : ByteArray) (w : World) (h : Lib.IsBuilder 68 5 B b bs w) (hlen : bs.length + s.size <= 140737488355328) (hBw : B <= w.heap.size) :
  Calls Tryd.prog 47 #[.pointer (some ⟨b, 0, none⟩), .string s] w fun e w' => e = .returned (.tuple #[.int .i64 s.size, .nilIface]) /\ (Lib.BuilderAt 68 5 B b (.pointer (some ⟨b, 0, none⟩)) (bs ++ Lib.strCells s) w' /\ Below B w w' /\ Lib.OthersKept 5 (some b) w w') := by
 obtain ⟨i0, hi, hz0, hz1, hz2⟩ := info_parts info5
 have CC := Lib.hid (copyCheck B b bs w h)
 go_enter Tryd.func47, Tryd.ntmps47
 go_wp2_with fail
 refine (CC.out).mono ?_
 rintro e w1 ⟨rfl, h1, hb1, hk1⟩
 have hlt := h1.lt
 obtain ⟨hB, v, hbk, hown, hne⟩ := h1
 have c0 : w1.cell? ⟨b, 0, none⟩ = some (.pointer (some ⟨b, 0, none⟩)) := by rw [Lib.cell_of_heap hbk]; rfl
 have c1 : w1.cell? ⟨b, 1, none⟩ = some v := by rw [Lib.cell_of_heap hbk]; rfl
 have hs1 := hb1.size
 go_wp2_with (at_builtin; refine Lib.wpList_append_own_string _ rfl _ _ 66 9 rfl B 5 i0 Tryd.underlying66 Tryd.underlying9 hi hz0 hz1 hz2 _ _ _ rfl hown s rfl ?_ ?_ ?_ ?_)
 ·unfold maxLen; omega
 ·omega
 ·omega
 intro v' w2 hown' hgrow _
 have hb2 : w2.heap[b]? = some (.cells #[.pointer (some ⟨b, 0, none⟩), v] 68 (0, 0)) := by
  rw [hgrow.block b hlt (fun e => hne e.symm)]
  exact hbk
 have d0 : w2.cell? ⟨b, 0, none⟩ = some (.pointer (some ⟨b, 0, none⟩)) := by rw [Lib.cell_of_heap hb2]; rfl
 have d1 : w2.cell? ⟨b, 1, none⟩ = some v := by rw [Lib.cell_of_heap hb2]; rfl
 have f1 : w2.frozen? ⟨b, 1, none⟩ = false := Lib.frozen_of_heap hb2 1
 obtain ⟨q, cap, rfl, _⟩ := own_any hown'
 go_wp2
 go_ret2
 refine ⟨rfl, Lib.BuilderAt.put (T := 68) (e := 5) hB hb2 (bs' := bs ++ Lib.strCells s) (by rw [List.length_append, Lib.strCells_length]; exact hown') (by decide), ?_, (hk1.grown hgrow (Lib.ownsRow_kind hown)).setCell ⟨b, 1, none⟩ rfl _⟩
 exact (hb1.grown hgrow (by omega) (fun k hk => (hown.lt k hk).1)).setCell (p := ⟨b, 1, none⟩) hB _
theorem isB_alloc {B b : Nat} {bs : List Value} {w : World} (h : Lib.IsBuilder 68 5 B b bs w) (o : Obj) : Lib.IsBuilder 68 5 B b bs (w.alloc o) := by
 have key : ∀ p, Lib.BuilderAt 68 5 B b p bs w -> Lib.BuilderAt 68 5 B b p bs (w.alloc o) := fun p hh => by
  have hlt := hh.lt
  obtain ⟨hB, v, hb, hown, hne⟩ := hh
  exact ⟨hB, v, (Lib.alloc_old w o b hlt).trans hb, hown.alloc o, hne⟩
 rcases h with h | h
 ·exact .inl (key _ h)
 ·exact .inr (key _ h)
theorem cells_app (l : List UInt8) (s : ByteArray) : Lib.byteCells l ++ Lib.strCells s = Lib.byteCells (l ++ s.data.toList) := by unfold Lib.byteCells Lib.strCells; rw [List.map_append]

end Go.Proofs.YtbicmlkjonaccaaDoor.Ln


namespace Go.Proofs.YtbicmlkjonaccaaDoor.Ln
open Go.ChangeShapes Go.WideShapes Go.ChangeAt Go.RowKit

set_option linter.unusedVariables false
set_option linter.unusedSimpArgs false
set_option maxRecDepth 8000

set_option maxRecDepth 100000 in
/-- sign of package lin: what stands between two terms is written. -/
theorem sign1 (B b : Nat) (l : List UInt8) (neg : Bool) (w : World) (h : Lib.IsBuilder 68 5 B b (Lib.byteCells l) w) (hlen : l.length <= 100000) (hBw : B <= w.heap.size) :
  Calls Tryd.prog 46 #[.pointer (some ⟨b, 0, none⟩), .bool neg] w fun e w' => e = .returned (.tuple #[]) /\ Lib.IsBuilder 68 5 B b (Lib.byteCells (l ++ sgT l neg)) w' /\ Below B w w' /\ Lib.OthersKept 5 (some b) w w' := by
 have LN := Lib.hid fun w h => Tryd.Builder_Len B b (Lib.byteCells l) w h
 rw [Lib.byteCells_length] at LN
 have WS := Lib.hid fun s w h hl hB => writeString B b (Lib.byteCells l) s w h hl hB
 rw [Lib.byteCells_length] at WS
 have HI := Lib.hid h
 by_cases hl : l.length = 0
 ·obtain rfl : l = [] := List.eq_nil_of_length_eq_zero hl
  have g : ((([] : List UInt8).length : Int) == 0) = true := rfl
  cases neg
  ·have e : ([] : List UInt8) ++ sgT [] false = [] := rfl
   rw [e]
   go_enter Tryd.func46, Tryd.ntmps46
   go_wp2_with (go_at_call 87; refine (LN.out _ HI.out).mono ?_; rintro e w' ⟨rfl, rfl⟩)
   go_end0
   exact ⟨rfl, HI.out, Below.refl _ _, Lib.OthersKept.refl _ _ _⟩
  ·have e : Lib.byteCells (([] : List UInt8) ++ sgT [] true) = Lib.byteCells [] ++ Lib.strCells ⟨#[45]⟩ := rfl
   rw [e]
   go_enter Tryd.func46, Tryd.ntmps46
   go_wp2_with (first | (go_at_call 87; refine (LN.out _ HI.out).mono ?_; rintro e w' ⟨rfl, rfl⟩) | (go_at_call 47; refine (WS.out _ _ HI.out (by decide) hBw).mono ?_; rintro e w1 ⟨rfl, k1, k2, k3⟩))
   go_end0
   exact ⟨rfl, .inr k1, k2, k3⟩
 ·have hne : l ≠ [] := fun e => hl (by rw [e]; rfl)
  have g : ((l.length : Int) == 0) = false := by simp; exact hne
  cases neg
  ·have e : Lib.byteCells (l ++ sgT l false) = Lib.byteCells l ++ Lib.strCells ⟨#[32, 43, 32]⟩ := by
    unfold sgT; rw [if_neg hne, if_neg (by decide)]; unfold Lib.byteCells Lib.strCells; rw [List.map_append]
   rw [e]
   have h3 : (⟨#[32, 43, 32]⟩ : ByteArray).size = 3 := rfl
   clear e hne hl
   go_enter Tryd.func46, Tryd.ntmps46
   go_wp2_with (first | (go_at_call 87; refine (LN.out _ HI.out).mono ?_; rintro e w' ⟨rfl, rfl⟩) | (go_at_call 47; refine (WS.out _ _ HI.out (by rw [h3]; omega) hBw).mono ?_; rintro e w1 ⟨rfl, k1, k2, k3⟩))
   go_end0
   exact ⟨rfl, .inr k1, k2, k3⟩
  ·have e : Lib.byteCells (l ++ sgT l true) = Lib.byteCells l ++ Lib.strCells ⟨#[32, 45, 32]⟩ := by
    unfold sgT; rw [if_neg hne, if_pos rfl]; unfold Lib.byteCells Lib.strCells; rw [List.map_append]
   rw [e]
   have h3 : (⟨#[32, 45, 32]⟩ : ByteArray).size = 3 := rfl
   clear e hne hl
   go_enter Tryd.func46, Tryd.ntmps46
   go_wp2_with (first | (go_at_call 87; refine (LN.out _ HI.out).mono ?_; rintro e w' ⟨rfl, rfl⟩) | (go_at_call 47; refine (WS.out _ _ HI.out (by rw [h3]; omega) hBw).mono ?_; rintro e w1 ⟨rfl, k1, k2, k3⟩))
   go_end0
   exact ⟨rfl, .inr k1, k2, k3⟩
end Go.Proofs.YtbicmlkjonaccaaDoor.Ln


namespace Go.Proofs.YtbicmlkjonaccaaDoor.Ln
open Go.ChangeShapes Go.WideShapes Go.ChangeAt Go.RowKit
open Go.Proofs.YtbicmlkjonaccaaDoor.Nm
set_option linter.unusedVariables false
set_option linter.unusedSimpArgs false
set_option maxRecDepth 8000

theorem own_belowZ {w w' : World} {B : Nat} {e : TypeId} {size : Nat} {v : Value} {n : Nat} {xs : List Value} (h : w.ownsRow B e size v n xs) (hb : Below w.heap.size w w') : w'.ownsRow B e size v n xs := by
 obtain ⟨hl, h0 | ⟨g, cap, cur, hv, hb', hh, r⟩⟩ := h
 ·exact ⟨hl, .inl h0⟩
 ·have hg : g < w.heap.size := by
   rcases Nat.lt_or_ge g w.heap.size with h1 | h1
   ·exact h1
   ·rw [Array.getElem?_eq_none h1] at hh
    cases hh
  exact ⟨hl, .inr ⟨g, cap, cur, hv, hb', by rw [hb.block g hg]; exact hh, r⟩⟩
theorem isB_below {B b : Nat} {bs : List Value} {w w' : World} (h : Lib.IsBuilder 68 5 B b bs w) (hbl : Below w.heap.size w w') : Lib.IsBuilder 68 5 B b bs w' := by
 have key : ∀ p, Lib.BuilderAt 68 5 B b p bs w -> Lib.BuilderAt 68 5 B b p bs w' := fun p hh => by
  have hlt := hh.lt
  obtain ⟨hB, v, hb, hown, hne⟩ := hh
  exact ⟨hB, v, (hbl.block b hlt).trans hb, own_belowZ hown hbl, hne⟩
 rcases h with h | h
 ·exact .inl (key _ h)
 ·exact .inr (key _ h)
theorem isB_lt {B b : Nat} {bs : List Value} {w : World} (h : Lib.IsBuilder 68 5 B b bs w) : b < w.heap.size := by
 rcases h with h | h
 ·exact h.lt
 ·exact h.lt
theorem ok_name {xs : List Mo} (h : okL xs = true) {i : Nat} (hi : i < xs.length) : (xs.getD i mo0).1.size <= 16 := by
 have h1 := List.all_eq_true.1 h i (List.mem_range.2 hi)
 have h2 : nmB (xs.getD i mo0).1 = true := by
  cases q : nmB (xs.getD i mo0).1
  ·unfold bd at h1; rw [q] at h1; simp at h1
  ·rfl
 unfold nmB at h2
 rw [Bool.and_eq_true, decide_eq_true_iff] at h2
 exact h2.1.2
theorem ok_bd {xs : List Mo} (h : okL xs = true) (hb : ∀ i, i < xs.length -> -9223372036854775808 <= (xs.getD i mo0).2 /\ (xs.getD i mo0).2 <= 9223372036854775807) (hn : xs.length <= 40) {k : Nat} (hk : k <= xs.length) : (fl xs k).length <= 1600 := by
 have h1 := fl_len (B := 16) (fun i hi => ⟨ok_name h hi, hb i hi⟩) k hk
 have : k * (24 + 16) <= 40 * (24 + 16) := Nat.mul_le_mul_right _ (by omega)
 omega
theorem app_star (l : List UInt8) : (⟨l.toArray⟩ : ByteArray) ++ (⟨#[42]⟩ : ByteArray) = ⟨(l ++ [42]).toArray⟩ := by
 apply ByteArray.ext
 simp
theorem cells_list (l m : List UInt8) : Lib.byteCells l ++ Lib.strCells ⟨m.toArray⟩ = Lib.byteCells (l ++ m) := by unfold Lib.byteCells Lib.strCells; rw [List.map_append]
theorem arr_size (l : List UInt8) : (⟨l.toArray⟩ : ByteArray).size = l.length := by rw [Lib.size_eq]

set_option maxRecDepth 100000 in
set_option maxHeartbeats 8000000 in
theorem fmt1 (k : Int) (p : Option Addr) (xs : List Mo) (c : Nat) (w : World) (hn : xs.length <= 40) (RA : Hid (SlM w p xs)) (RS : Hid (∀ i, i < xs.length -> (xs.getD i mo0).1.size <= maxLen))
  (RB : Hid (∀ i, i < xs.length -> -9223372036854775808 <= (xs.getD i mo0).2 /\ (xs.getD i mo0).2 <= 9223372036854775807)) (k0 : -9223372036854775808 <= k) (k1 : k <= 9223372036854775807) (hL : LA w) :
  Calls Tryd.prog 18 #[Lv k p xs.length c] w fun e w' => e = .returned (.string (if okL xs = true then ⟨(fmL k xs).toArray⟩ else ⟨#[]⟩)) /\ Below w.heap.size w w' := by
 have VL := Lib.hid fun w h => val1 k p xs c w (by unfold maxLen; omega) h RS
 have B0 : Below w.heap.size w (w.alloc (Obj.cells #[Value.int .i64 k, Value.slice p xs.length c] 24)) := (Below.refl _ _).alloc (Nat.le_refl _) _
 cases hok : okL xs
 ·rw [if_neg (by decide)]
  unfold vL at VL
  rw [hok, if_neg (by decide)] at VL
  have RA2 := Lib.hid (SlM.keep B0 RA.out)
  unfold Lv at *
  clear hok RB RS hL
  go_enter Tryd.func18, Tryd.ntmps18
  go_wp2_with (go_at_call 16; refine (VL.out _ RA2).mono ?_; rintro e w1 ⟨rfl, hb⟩)
  go_ret
  exact ⟨rfl, B0.trans (hb.mono B0.size)⟩
 ·rw [if_pos rfl]
  unfold vL at VL
  rw [hok, if_pos rfl] at VL
  have HOK := Lib.hid hok
  have HLEN := Lib.hid fun k hk => ok_bd hok RB.out hn (k := k) hk
  have RA2 := Lib.hid (SlM.keep B0 RA.out)
  have DG := Lib.hid fun n n0 n1 w h => digs1 n n0 n1 w h
  unfold Lv at *
  clear hok RS
  obtain ⟨D, hD⟩ : ∃ D : ByteArray, ⟨(fmL k xs).toArray⟩ = D := ⟨_, rfl⟩
  rw [hD]
  have HD := Lib.hid hD
  clear hD
  go_enter Tryd.func18, Tryd.ntmps18
  go_wp2_with fail
  refine (VL.out _ RA2).mono ?_
  rintro e w1 ⟨rfl, hb⟩
  have c0 : w1.cell? ⟨w.heap.size, 0, none⟩ = some (.int .i64 k) := Rg.keep hb (by simp) (by go_cell)
  have c1 : w1.cell? ⟨w.heap.size, 1, none⟩ = some (.slice p xs.length c) := Rg.keep hb (by simp) (by go_cell)
  have K1 : Below w.heap.size w w1 := B0.trans (hb.mono B0.size)
  have l1 : w.heap.size < w1.heap.size := World.block_lt_of_cell? _ _ c0
  have HL1 := Lib.hid (hL.below K1)
  have RA1 := Lib.hid (SlM.keep K1 RA.out)
  clear hb VL B0 hL RA2 RA
  go_wp2_with fail
  have HS0 : Hid (Below w1.heap.size w1 (w1.alloc (Obj.cells #[.pointer none, .slice none 0 0] 68))) := Lib.hid ((Below.refl _ _).alloc (Nat.le_refl _) _)
  go_loopw [12] (fun a wr => ∃ j : Nat, a = .int .i64 (j : Int) /\ j <= xs.length /\ Hid (Below w1.heap.size w1 wr) /\ Hid (Lib.IsBuilder 68 5 w1.heap.size w1.heap.size (Lib.byteCells (fl xs j)) wr)) (fun a _ => xs.length - (intOf a).toNat)
  case atStart => exact ⟨0, rfl, by omega, HS0, Lib.hid (Lib.fresh_isBuilder 68 5 w1)⟩
  case round =>
   obtain ⟨j, rfl, hj, hB, hI⟩ := hrel
   clear HS0
   have d0 := Rg.keep hB.out l1 c0
   have d1 := Rg.keep hB.out l1 c1
   have lr := isB_lt hI.out
   have jj : (0 : Int) <= j := by omega
   by_cases hlt : j < xs.length
   ·obtain ⟨b, o, rfl, e0, e1⟩ := RA1.out j hlt
    have hbw : b < w1.heap.size := World.block_lt_of_cell? _ _ e0
    replace e0 := Rg.keep hB.out hbw e0
    replace e1 := Rg.keep hB.out hbw e1
    have j1 : (j : Int) < xs.length := by omega
    obtain ⟨y0, y1⟩ := RB.out j hlt
    have hst : fl xs (j + 1) = fl xs j ++ sgT (fl xs j) (decide ((xs.getD j mo0).2 < 0)) ++ tmt (xs.getD j mo0) := rfl
    have hl0 := HLEN.out j hj
    have hl1 := HLEN.out (j + 1) (by omega)
    obtain ⟨m, hm⟩ : ∃ m, xs.getD j mo0 = m := ⟨_, rfl⟩
    rw [hm] at e0 e1 hst y0 y1
    clear hm
    obtain ⟨z, by1⟩ := m
    dsimp only at e0 e1 hst y0 y1
    have HST := Lib.hid hst
    rw [hst, List.length_append, List.length_append] at hl1
    have hI2 := Lib.hid (isB_alloc hI.out (Obj.cells #[Value.string z, Value.int .i64 by1] 59))
    have hB2 : Below w1.heap.size w1 (wr.alloc (Obj.cells #[Value.string z, Value.int .i64 by1] 59)) := hB.out.alloc hB.out.size _
    have hX : (wr.alloc (Obj.cells #[Value.string z, Value.int .i64 by1] 59)).heap[wr.heap.size]? = some (.cells #[.string z, .int .i64 by1] 59 (0, 0)) := heap_alloc_new _ _
    have hsz := hB.out.size
    clear hst hI
    obtain ⟨ng, hng⟩ : ∃ ng, decide (by1 < 0) = ng := ⟨_, rfl⟩
    rw [hng] at HST hl1
    obtain ⟨A, hA⟩ : ∃ A, fl xs j ++ sgT (fl xs j) ng = A := ⟨_, rfl⟩
    have hAl : A.length <= 1600 := by rw [<- hA, List.length_append]; omega
    rw [hA] at HST
    have SG := Lib.hid fun w h hB => sign1 w1.heap.size w1.heap.size (fl xs j) ng w h (by omega) hB
    rw [hA] at SG
    clear hA hl1
    go_wp2_with fail
    refine (SG.out _ hI2.out (by simp; omega)).mono ?_
    rintro e w2 ⟨rfl, h2, b2, q2⟩
    have hX2 := q2 _ _ hX (by simp; omega) (fun c fz e => by cases e)
    have x0 : w2.cell? ⟨wr.heap.size, 0, none⟩ = some (.string z) := by rw [Lib.cell_of_heap hX2]; rfl
    have x1 : w2.cell? ⟨wr.heap.size, 1, none⟩ = some (.int .i64 by1) := by rw [Lib.cell_of_heap hX2]; rfl
    have B2 := hB2.trans b2
    have s2 := b2.size
    have hI3 := Lib.hid h2
    have HX2 := Lib.hid hX2
    clear h2 q2 hX hX2 hI2 SG b2
    by_cases h1 : by1.natAbs = 1
    ·have ht : tmt (z, by1) = z.data.toList := by unfold tmt; rw [if_pos h1]; rfl
     rw [ht] at HST
     have g1 : (by1 != 1 && by1 != -1) = false := by
      rcases (by omega : by1 = 1 \/ by1 = -1) with rfl | rfl <;> rfl
     have hz := HLEN.out (j + 1) (by omega)
     rw [HST.out, List.length_append] at hz
     have hzz : z.data.toList.length = z.size := by simp
     have hdone : ∀ w3, Lib.BuilderAt 68 5 w1.heap.size w1.heap.size (.pointer (some ⟨w1.heap.size, 0, none⟩)) (Lib.byteCells A ++ Lib.strCells z) w3 -> Hid (Lib.IsBuilder 68 5 w1.heap.size w1.heap.size (Lib.byteCells (fl xs (j + 1))) w3) := fun w3 h => Lib.hid (.inr (by rw [HST.out, <- cells_app]; exact h))
     have HDN := Lib.hid hdone
     clear hdone
     rcases (by omega : by1 = 1 \/ by1 = -1) with rfl | rfl
     all_goals
      go_wp2_with fail
      refine (writeString w1.heap.size w1.heap.size (Lib.byteCells A) z _ hI3.out (by rw [Lib.byteCells_length]; omega) (by simp at s2; omega)).mono ?_
      rintro e w3 ⟨rfl, h3, b3, q3⟩
      have B3 := Lib.hid (B2.trans b3)
      have hI4 := HDN.out _ h3
      clear h3 q3 b3 x0 x1
      go_wp2
      go_roundw
      case rel => exact ⟨j + 1, by go_num, by omega, B3, hI4⟩
      case measure => simp [intOf]; omega
    ·have ht : tmt (z, by1) = Lib.decDigits by1.natAbs ++ [42] ++ z.data.toList := by unfold tmt; rw [if_neg h1]
     rw [ht] at HST
     have g1 : (by1 == 1) = false := by simp; omega
     have g1' : (by1 != 1) = true := by simp; omega
     have g2 : (by1 == -1) = false := by simp; omega
     have g2' : (by1 != -1) = true := by simp; omega
     have hz := HLEN.out (j + 1) (by omega)
     rw [HST.out, List.length_append, List.length_append] at hz
     have hzz : z.data.toList.length = z.size := by simp
     have hdl := dec20 by1.natAbs (by omega)
     have L2 := Lib.hid (HL1.out.below B2)
     obtain ⟨T, hT⟩ : ∃ T, Lib.decDigits by1.natAbs = T := ⟨_, rfl⟩
     have DGb := Lib.hid fun w h => DG.out by1 y0 y1 w h
     rw [hT] at HST hz hdl DGb
     have HST2 : Hid (fl xs (j + 1) = (A ++ (T ++ [42])) ++ z.data.toList) := Lib.hid (by rw [HST.out]; simp)
     clear hT ht HST h1 y0 y1
     obtain ⟨tb, htb⟩ : ∃ tb : ByteArray, ⟨T.toArray⟩ = tb := ⟨_, rfl⟩
     have htl : tb.size = T.length := by rw [<- htb]; exact arr_size T
     have hstar : Lib.byteCells A ++ Lib.strCells (tb ++ (⟨#[42]⟩ : ByteArray)) = Lib.byteCells (A ++ (T ++ [42])) := by rw [<- htb, app_star]; exact cells_list _ _
     have hts : (tb ++ (⟨#[42]⟩ : ByteArray)).size = T.length + 1 := by rw [ByteArray.size_append, htl]; rfl
     rw [htb] at DGb
     have HSTAR := Lib.hid hstar
     have h42 : (⟨#[42]⟩ : ByteArray).size = 1 := rfl
     clear htb hstar
     go_wp2_with fail
     refine (DGb.out _ L2.out).mono ?_
     rintro e w3 ⟨rfl, b3⟩
     have hI5 := Lib.hid (isB_below hI3.out b3)
     have lx : wr.heap.size < w2.heap.size := World.block_lt_of_cell? _ _ x0
     have x0' := Rg.keep b3 lx x0
     have B3 := B2.trans (b3.mono (by simp at s2; omega))
     have s3 := b3.size
     have hX3 := (b3.block wr.heap.size lx).trans HX2.out
     clear DGb b3 x1 hI3
     go_wp2_with fail
     refine (writeString w1.heap.size w1.heap.size (Lib.byteCells A) (tb ++ (⟨#[42]⟩ : ByteArray)) _ hI5.out (by rw [Lib.byteCells_length, hts]; omega) (by simp at s2; omega)).mono ?_
     rintro e w4 ⟨rfl, h4, b4, q4⟩
     have hX4 := q4 _ _ hX3 (by simp; omega) (fun c fz e => by cases e)
     have x4 : w4.cell? ⟨wr.heap.size, 0, none⟩ = some (.string z) := by rw [Lib.cell_of_heap hX4]; rfl
     have B4 := B3.trans b4
     have s4 := b4.size
     rw [HSTAR.out] at h4
     have hI6 := Lib.hid h4
     clear h4 q4 b4 x0 x0' hX3 hX4 hI5 B3 HX2
     go_wp2_with fail
     refine (writeString w1.heap.size w1.heap.size (Lib.byteCells (A ++ (T ++ [42]))) z _ (.inr hI6.out) (by rw [Lib.byteCells_length, List.length_append, List.length_append]; simp; omega) (by simp at s2; omega)).mono ?_
     rintro e w5 ⟨rfl, h5, b5, q5⟩
     have B5 := Lib.hid (B4.trans b5)
     rw [cells_app] at h5
     have hI7 : Hid (Lib.IsBuilder 68 5 w1.heap.size w1.heap.size (Lib.byteCells (fl xs (j + 1))) w5) := Lib.hid (.inr (by rw [HST2.out]; exact h5))
     clear h5 q5 b5 x4 hI6 B4
     go_wp2
     go_roundw
     case rel => exact ⟨j + 1, by go_num, by omega, B5, hI7⟩
     case measure => simp [intOf]; omega
   ·obtain rfl : j = xs.length := by omega
    have hl0 := HLEN.out xs.length (Nat.le_refl _)
    have hB3 := hB.out
    have hsz := hB.out.size
    have KW := K1.trans (hB.out.mono K1.size)
    have LW := Lib.hid (HL1.out.below hB.out)
    by_cases hk : k ≠ 0 \/ xs.length = 0
    ·obtain ⟨ng, hng⟩ : ∃ ng, decide (k < 0) = ng := ⟨_, rfl⟩
     have hD1 := HD.out
     have hfm : fmL k xs = fl xs xs.length ++ sgT (fl xs xs.length) ng ++ Lib.decDigits k.natAbs := by unfold fmL; rw [if_pos hk, hng]
     rw [hfm] at hD1
     have hdl := dec20 k.natAbs (by omega)
     have hsl := sgT_len (fl xs xs.length) ng
     obtain ⟨A, hA⟩ : ∃ A, fl xs xs.length ++ sgT (fl xs xs.length) ng = A := ⟨_, rfl⟩
     have hAl : A.length <= 1603 := by rw [<- hA, List.length_append]; omega
     have SG := Lib.hid fun w h hB => sign1 w1.heap.size w1.heap.size (fl xs xs.length) ng w h (by omega) hB
     rw [hA] at SG hD1
     have DGb := Lib.hid fun w h => DG.out k k0 k1 w h
     obtain ⟨T, hT⟩ : ∃ T, Lib.decDigits k.natAbs = T := ⟨_, rfl⟩
     rw [hT] at DGb hD1 hdl
     obtain ⟨tb, htb⟩ : ∃ tb : ByteArray, ⟨T.toArray⟩ = tb := ⟨_, rfl⟩
     have htl : tb.size = T.length := by rw [<- htb]; exact arr_size T
     rw [htb] at DGb
     have hcl : Lib.byteCells A ++ Lib.strCells tb = Lib.byteCells (A ++ T) := by rw [<- htb]; exact cells_list _ _
     have HCL := Lib.hid hcl
     have HD1 := Lib.hid hD1
     clear hfm hA hT htb hcl hD1 hsl
     have hgo : (k != 0) = true \/ ((k != 0) = false /\ ((xs.length : Int) == 0) = true) := by
      by_cases q : k = 0
      ·right; exact ⟨by simp [q], by rcases hk with h | h; exact absurd q h; simp [h]⟩
      ·left; simpa using q
     clear hk
     have hfin : ∀ (P : Prop), True -> True := fun _ _ => trivial
     rcases hgo with hg | ⟨hg, hg2⟩
     all_goals
      have hg' : (k == 0) = !(k != 0) := by simp [bne]
      rw [hg] at hg'
      simp only [Bool.not_true, Bool.not_false] at hg'
      go_wp2_with fail
      refine (SG.out _ hI.out hsz).mono ?_
      rintro e w2 ⟨rfl, h2, b2, q2⟩
      have B2 := hB3.trans b2
      have s2 := b2.size
      have d0' := Rg.keep B2 l1 c0
      have L2 := Lib.hid (HL1.out.below B2)
      have hI3 := Lib.hid h2
      clear h2 q2 b2 d0 d1
      go_wp2_with fail
      refine (DGb.out _ L2.out).mono ?_
      rintro e w3 ⟨rfl, b3⟩
      have hI4 := Lib.hid (isB_below hI3.out b3)
      have B3 := B2.trans (b3.mono B2.size)
      have s3 := b3.size
      clear b3 hI3
      go_wp2_with fail
      refine (writeString w1.heap.size w1.heap.size (Lib.byteCells A) tb _ hI4.out (by rw [Lib.byteCells_length]; omega) (by omega)).mono ?_
      rintro e w4 ⟨rfl, h4, b4, q4⟩
      rw [HCL.out] at h4
      have B4 := B3.trans b4
      have s4 := b4.size
      have hI5 := Lib.hid h4
      clear h4 q4 b4 hI4
      go_wp2_with (go_at_call 49; refine (Tryd.Builder_String_any w1.heap.size w1.heap.size _ _ (.inr hI5.out) (by omega)).mono ?_; rintro e w5 ⟨rfl, b5⟩)
      go_ret
      refine ⟨by rw [HD1.out]; rfl, K1.trans ((B4.trans b5).mono K1.size)⟩
    ·have hD1 := HD.out
     have hfm : fmL k xs = fl xs xs.length := by unfold fmL; rw [if_neg hk]
     rw [hfm] at hD1
     have HD1 := Lib.hid hD1
     have h1 : ¬ k ≠ 0 := fun h => hk (.inl h)
     have h2 : ¬ xs.length = 0 := fun h => hk (.inr h)
     have g1 : (k != 0) = false := by simpa using h1
     have g1' : (k == 0) = true := by simpa using h1
     have g2 : ((xs.length : Int) == 0) = false := by
      rw [beq_eq_false_iff_ne]; omega
     clear hk hfm hD1 h1 h2
     go_wp2_with (go_at_call 49; refine (Tryd.Builder_String_any w1.heap.size w1.heap.size _ _ hI.out (by omega)).mono ?_; rintro e w5 ⟨rfl, b5⟩)
     go_ret
     refine ⟨by rw [HD1.out]; rfl, K1.trans ((hB3.trans b5).mono K1.size)⟩
end Go.Proofs.YtbicmlkjonaccaaDoor.Ln


namespace Go.Proofs.YtbicmlkjonaccaaDoor.Ln
open Go.ChangeShapes Go.WideShapes Go.ChangeAt Go.RowKit
open Go.Proofs.YtbicmlkjonaccaaDoor.Nm
set_option linter.unusedVariables false
set_option linter.unusedSimpArgs false
set_option maxRecDepth 8000

end Go.Proofs.YtbicmlkjonaccaaDoor.Ln


namespace Go.Proofs.YtbicmlkjonaccaaDoor.Ln
open Go.ChangeShapes Go.WideShapes Go.ChangeAt Go.RowKit
open Go.Proofs.YtbicmlkjonaccaaDoor.Nm
set_option linter.unusedVariables false
set_option linter.unusedSimpArgs false
set_option maxRecDepth 8000

def pfx (eq : Bool) : ByteArray := if eq then ⟨#[48, 32, 61, 61, 32]⟩ else ⟨#[48, 32, 60, 61, 32]⟩
/-- The text of a constraint. -/
def cfm (k : Int) (xs : List Mo) (eq : Bool) : ByteArray := if okL xs = true then pfx eq ++ ⟨(fmL k xs).toArray⟩ else ⟨#[]⟩
theorem fmL_len {k : Int} {xs : List Mo} (h : okL xs = true) (hb : ∀ i, i < xs.length -> -9223372036854775808 <= (xs.getD i mo0).2 /\ (xs.getD i mo0).2 <= 9223372036854775807) (hn : xs.length <= 40) (k0 : -9223372036854775808 <= k) (k1 : k <= 9223372036854775807) : (fmL k xs).length <= 1700 := by
 have h1 := ok_bd h hb hn (Nat.le_refl xs.length)
 have h2 := sgT_len (fl xs xs.length) (decide (k < 0))
 have h3 := dec20 k.natAbs (by omega)
 unfold fmL
 split
 ·rw [List.length_append, List.length_append]; omega
 ·omega

set_option maxHeartbeats 4000000 in
theorem cfmt1 (k : Int) (p : Option Addr) (xs : List Mo) (c : Nat) (eq : Bool) (w : World) (hn : xs.length <= 40) (RA : Hid (SlM w p xs)) (RS : Hid (∀ i, i < xs.length -> (xs.getD i mo0).1.size <= maxLen))
  (RB : Hid (∀ i, i < xs.length -> -9223372036854775808 <= (xs.getD i mo0).2 /\ (xs.getD i mo0).2 <= 9223372036854775807)) (k0 : -9223372036854775808 <= k) (k1 : k <= 9223372036854775807) (hL : LA w) :
  Calls Tryd.prog 38 #[Cv k p xs.length c eq] w fun e w' => e = .returned (.string (cfm k xs eq)) /\ Below w.heap.size w w' := by
 have VL := Lib.hid fun w h => cval1 k p xs c eq w (by unfold maxLen; omega) h RS
 have FM := Lib.hid fun w h hl => fmt1 k p xs c w hn h RS RB k0 k1 hl
 have B0 : Below w.heap.size w (w.alloc (Obj.cells #[Value.int .i64 k, Value.slice p xs.length c, Value.bool eq] 36)) := (Below.refl _ _).alloc (Nat.le_refl _) _
 have RA2 := Lib.hid (SlM.keep B0 RA.out)
 have HL := Lib.hid hL
 unfold Cv Lv cfm vL at *
 cases hok : okL xs
 ·rw [hok] at VL FM
  rw [if_neg (by decide)] at VL FM ⊢
  clear hok RB RS
  go_enter Tryd.func38, Tryd.ntmps38
  go_wp2_with (go_at_call 24; refine (VL.out _ RA2).mono ?_; rintro e w1 ⟨rfl, hb⟩)
  go_ret
  exact ⟨rfl, B0.trans (hb.mono B0.size)⟩
 ·have hlen := fmL_len (k := k) hok RB.out hn k0 k1
  rw [hok] at VL FM
  rw [if_pos rfl] at VL FM ⊢
  obtain ⟨D, hD⟩ : ∃ D : ByteArray, ⟨(fmL k xs).toArray⟩ = D := ⟨_, rfl⟩
  have hDl : D.size <= 1700 := by rw [<- hD, arr_size]; exact hlen
  rw [hD] at FM ⊢
  clear hok RB RS hlen hD k0 k1
  have h5 : ∀ b, (pfx b).size = 5 := fun b => by cases b <;> rfl
  cases eq
  ·have q5 := h5 false
   have e5 : (⟨#[48, 32, 60, 61, 32]⟩ : ByteArray) = pfx false := rfl
   clear h5
   go_enter Tryd.func38, Tryd.ntmps38
   go_wp2_with (first | (go_at_call 24; refine (VL.out _ RA2).mono ?_; rintro e w1 ⟨rfl, hb⟩; have K1 : Below w.heap.size w w1 := B0.trans (hb.mono B0.size); have c0 : w1.cell? ⟨w.heap.size, 0, none⟩ = some (.int .i64 k) := Rg.keep hb (by simp) (by go_cell); have c1 : w1.cell? ⟨w.heap.size, 1, none⟩ = some (.slice p xs.length c) := Rg.keep hb (by simp) (by go_cell); have c2 : w1.cell? ⟨w.heap.size, 2, none⟩ = some (.bool false) := Rg.keep hb (by simp) (by go_cell)) | (go_at_call 18; refine (FM.out _ (Lib.hid (SlM.keep K1 RA.out)) (HL.out.below K1)).mono ?_; rintro e w2 ⟨rfl, hb2⟩))
   go_ret
   exact ⟨rfl, K1.trans (hb2.mono K1.size)⟩
  ·have q5 := h5 true
   have e5 : (⟨#[48, 32, 61, 61, 32]⟩ : ByteArray) = pfx true := rfl
   clear h5
   go_enter Tryd.func38, Tryd.ntmps38
   go_wp2_with (first | (go_at_call 24; refine (VL.out _ RA2).mono ?_; rintro e w1 ⟨rfl, hb⟩; have K1 : Below w.heap.size w w1 := B0.trans (hb.mono B0.size); have c0 : w1.cell? ⟨w.heap.size, 0, none⟩ = some (.int .i64 k) := Rg.keep hb (by simp) (by go_cell); have c1 : w1.cell? ⟨w.heap.size, 1, none⟩ = some (.slice p xs.length c) := Rg.keep hb (by simp) (by go_cell); have c2 : w1.cell? ⟨w.heap.size, 2, none⟩ = some (.bool true) := Rg.keep hb (by simp) (by go_cell)) | (go_at_call 18; refine (FM.out _ (Lib.hid (SlM.keep K1 RA.out)) (HL.out.below K1)).mono ?_; rintro e w2 ⟨rfl, hb2⟩))
   go_ret
   exact ⟨rfl, K1.trans (hb2.mono K1.size)⟩

end Go.Proofs.YtbicmlkjonaccaaDoor.Ln


namespace Go.Proofs.YtbicmlkjonaccaaDoor.Ln
open Go.ChangeShapes Go.WideShapes Go.ChangeAt Go.RowKit
open Go.Proofs.YtbicmlkjonaccaaDoor.Nm
set_option linter.unusedVariables false
set_option linter.unusedSimpArgs false
set_option maxRecDepth 8000

theorem rsA (l : List Mo) (h : l.all (fun m => decide (m.1.size <= maxLen) && decide (-9223372036854775808 <= m.2) && decide (m.2 <= 9223372036854775807)) = true) : Hid (∀ i, i < l.length -> (l.getD i mo0).1.size <= maxLen /\ -9223372036854775808 <= (l.getD i mo0).2 /\ (l.getD i mo0).2 <= 9223372036854775807) := Lib.hid fun i hi => by
 have e1 : l.getD i mo0 = l[i] := by unfold List.getD; rw [List.getElem?_eq_getElem hi]; rfl
 have h2 := List.all_eq_true.1 h l[i] (List.getElem_mem hi)
 simp only [Bool.and_eq_true, decide_eq_true_eq] at h2
 rw [e1]
 exact ⟨h2.1.1, h2.1.2, h2.2⟩
theorem ti1 (p : Option Addr) (c : Nat) (w : World) (h : SlM w p [mI 2, mJ 4]) : Calls Tryd.prog 28 #[Cv (-3) p 2 c false] w (TR (-2, [mI 1, mJ 2], false, 0, 0) w) := by
 have T := tig_ge (-3) p [mI 2, mJ 4] c w (by simp) (Lib.hid h) (rsA _ (by decide +kernel)) (by decide) (by decide) (by decide +kernel) (by simp)
 rw [show (-3 / (gcdL 0 [mI 2, mJ 4] : Int)) = -2 by decide +kernel, show tdY (gcdL 0 [mI 2, mJ 4]) [mI 2, mJ 4] = [mI 1, mJ 2] by decide +kernel] at T
 exact T
theorem ti2 (p : Option Addr) (c : Nat) (w : World) (h : SlM w p [mI 2]) : Calls Tryd.prog 28 #[Cv (-3) p 1 c true] w (TR (-1, [], false, 2, 0) w) :=
 tig_no (-3) p [mI 2] c true w (by simp) (Lib.hid h) (rsA _ (by decide +kernel)) (by decide) (by decide) (by decide +kernel) (by simp) rfl (by decide +kernel)
theorem ti3 (k : Int) (k1 : -9223372036854775808 <= k) (k2 : k <= 9223372036854775807) (p : Option Addr) (c : Nat) (w : World) (h : SlM w p [mI 1]) : Calls Tryd.prog 28 #[Cv k p 1 c false] w (TR (k, [mI 1], false, 0, 0) w) := by
 have T := tig_ge k p [mI 1] c w (by simp) (Lib.hid h) (rsA _ (by decide +kernel)) k1 k2 (by decide +kernel) (by simp)
 rw [show (gcdL 0 [mI 1] : Int) = 1 by decide +kernel, show tdY (gcdL 0 [mI 1]) [mI 1] = [mI 1] by decide +kernel, Int.ediv_one] at T
 exact T
theorem ni1 (p : Option Addr) (c : Nat) (w : World) (h : SlM w p [mI 1]) : Calls Tryd.prog 31 #[Cv (-3) p 1 c false] w (NR 2 [mI (-1)] w) :=
 neg_ge (-3) p [mI 1] c w (by simp) (Lib.hid h) (rsA _ (by decide +kernel)) (by decide) (by decide) (by decide +kernel) [mI (-1)] 0 (by decide +kernel)
theorem no1 (p : Option Addr) (c : Nat) (w : World) (h : SlC w p [(0, [mI 1]), (-2, [mI 1])]) : Calls Tryd.prog 36 #[.slice p 2 c] w (NF (-2) [mI 1] w) :=
 norm2 p c 0 (-2) 0 (-2) [mI 1] [mI 1] w (by decide) (Lib.hid h) (Lib.hid fun p c w h => ti3 0 (by decide) (by decide) p c w h) (Lib.hid fun p c w h => ti3 (-2) (by decide) (by decide) p c w h) (by decide +kernel) (by decide +kernel)
theorem fo1 (p : Option Addr) (c : Nat) (w : World) (h : SlM w p [mI 1]) (hL : LA w) : Calls Tryd.prog 38 #[Cv (-3) p 1 c true] w fun e w' => e = .returned (.string ⟨#[48, 32, 61, 61, 32, 105, 32, 45, 32, 51]⟩) /\ Below w.heap.size w w' := by
 have T := cfmt1 (-3) p [mI 1] c true w (by simp) (Lib.hid h) (Lib.hid fun i hi => ((rsA [mI 1] (by decide +kernel)).out i hi).1) (Lib.hid fun i hi => ((rsA [mI 1] (by decide +kernel)).out i hi).2) (by decide) (by decide) hL
 rw [show cfm (-3) [mI 1] true = ⟨#[48, 32, 61, 61, 32, 105, 32, 45, 32, 51]⟩ by decide +kernel] at T
 exact T
end Go.Proofs.YtbicmlkjonaccaaDoor.Ln
