/- The magnitude of a number as a text. -/
import Derived.Test.YtbicmlkjonaccaaDoorShelf
import Derived.Test.YtbicmlkjonaccaaDoorReg
import Derived.Lib.AppendIntMem
import Derived.Lib.SmallJoins
import Derived.Lib.LaidTab
import Derived.IntWalk
namespace Go.Proofs.YtbicmlkjonaccaaDoor.Ln
open Go.ChangeShapes Go.WideShapes Go.ChangeAt Go.RowKit

set_option linter.unusedVariables false
set_option linter.unusedSimpArgs false
set_option maxRecDepth 8000

open Go.Sort
/-- What the variables of Go's library hold. -/
def LA (w : World) : Prop := Lib.TabIs Tryd.prog w "internal/strconv.uint64pow10" .u64 Lib.pow10Tab ∧ True
theorem LA.below {w w' : World} (h : LA w) (hb : Below w.heap.size w w') : LA w' := ⟨Joins.tab_stays (g := 1) (by kernel_rfl) h.1 hb (Nat.le_refl _), trivial⟩
set_option maxRecDepth 100000 in
set_option maxHeartbeats 4000000 in
theorem fmtU0 (u : Nat) (h2 : u < 18446744073709551616) (w : World) (hL : LA w) : Calls Tryd.prog 116 #[.int .u64 u, .int .i64 10] w fun e w' => e = .returned (.string ⟨(Lib.decDigits u).toArray⟩) ∧ Below w.heap.size w w' := by
  by_cases hs : u < 100
  · have g : decide ((u : Int) < 100) = true := by simp; omega
    have SM := Lib.hid fun w => Tryd.internal_strconv_small u hs w
    have u0 : (u : Int) ≤ 18446744073709551615 := by omega
    have hw : IntKind.i64.wrap (u : Int) = u := by rw [IntKind.wrap_i64]; omega
    clear hs
    go_enter Tryd.func116, Tryd.ntmps116
    go_wp2_with (go_at_call 124; refine (SM.out _).mono ?_; rintro e w' ⟨rfl, rfl⟩)
    go_ret
    exact ⟨rfl, Below.refl _ _⟩
  · have g : decide ((u : Int) < 100) = false := by simp; omega
    have hu1 : 1 ≤ u := by omega
    have hnd20 : Lib.nDigits u ≤ 20 := by have := Lib.numDigits_eq u hu1 h2; split at this <;> omega
    have hb3 : Lib.nDigits u ≤ 24 := by omega
    have hal : Tryd.prog.arrayLen 149 = 24 := by simp [Program.arrayLen, Tryd.underlying149]
    have hH0 := Lib.holds_zero0 w 149 (Lib.nDigits u) (by omega)
    have hfmt := Tryd.internal_strconv_formatBase10 w.heap.size 0 24 u (Array.replicate (Lib.nDigits u) 0) (w.alloc (.cells Lib.zeros24 149)) hH0 (by rw [Array.size_replicate]; exact Lib.lt_pow_nDigits u) h2 (by rw [Array.size_replicate]; omega)
    rw [Array.size_replicate] at hfmt
    have ND := Lib.hid fun w (h : LA w) => Tryd.internal_strconv_numDigits u hu1 h2 w h.1
    have HL := Lib.hid (hL.below ((Below.refl _ _).alloc (Nat.le_refl _) (.cells Lib.zeros24 149)))
    have hsl : ∀ W, (Instr.sliceAt 149 (.pointer (some ⟨w.heap.size, 0, none⟩)) none (some (.int .i64 (Lib.nDigits u : Int))) none).run Tryd.prog W = .ok (.slice (some ⟨w.heap.size, 0, none⟩) (Lib.nDigits u) 24) W := fun W => by
      rw [run_sliceAt_array_h W 149 ⟨w.heap.size, 0, none⟩ (by simp [Program.arrayLen, Program.elem, Tryd.underlying149]) .i64 (Lib.nDigits u : Int) (by omega) (by rw [hal]; omega)]
      go_simp
    have HH0 := Lib.hid hH0
    have HF := Lib.hid hfmt
    clear hH0 hal hfmt hL hs
    go_enter Tryd.func116, Tryd.ntmps116
    go_wp2_with (go_at_call 125; refine (ND.out _ HL.out).mono ?_; rintro e w' ⟨rfl, rfl⟩)
    refine HF.out.mono ?_
    rintro e w' ⟨rfl, k, v', dk, rfl, hF⟩
    have hcv : (convert 66 9 (.slice (some ⟨w.heap.size, 0, none⟩) (Lib.nDigits u) 24)).run Tryd.prog ((putRow (fun (b : UInt8) => Value.int .u8 (b.toNat : Int)) (w.alloc (.cells Lib.zeros24 149)) w.heap.size 0 dk).drewN k) = .ok (.string ⟨(Lib.decDigits u).toArray⟩) ((putRow (fun (b : UInt8) => Value.int .u8 (b.toNat : Int)) (w.alloc (.cells Lib.zeros24 149)) w.heap.size 0 dk).drewN k) := by
      have h := run_convert_bytes_back (P := Tryd.prog) ((putRow (fun (b : UInt8) => Value.int .u8 (b.toNat : Int)) (w.alloc (.cells Lib.zeros24 149)) w.heap.size 0 dk).drewN k) 66 9 5 ⟨w.heap.size, 0, none⟩ 24 (Lib.decDigits u) Tryd.underlying66 Tryd.underlying5 Tryd.underlying9 (fun j hj => by
        rw [Lib.row_is_numeral hF j hj, Lib.add_plain, World.cell?_drewN]
        exact cell?_putRow (fun (b : UInt8) => Value.int .u8 (b.toNat : Int)) _ w.heap.size 0 _ dk HH0.out (by rw [hF.size, Array.size_replicate]) j (by rw [hF.size]; rw [Lib.decDigits_length] at hj; exact hj))
      rw [Lib.decDigits_length] at h
      exact h
    obtain ⟨os, eo⟩ := Lib.fin_at w (.cells Lib.zeros24 149) dk k 0
    have hbl : Below w.heap.size w ((putRow (fun (b : UInt8) => Value.int .u8 (b.toNat : Int)) (w.alloc (.cells Lib.zeros24 149)) w.heap.size 0 dk).drewN k) := by rw [eo]; exact Lib.below_grow _ _ (Nat.le_refl _) _ _
    clear eo
    go_wp2
    go_ret
    exact ⟨rfl, hbl⟩
theorem fmtU (u : Nat) (h2 : u < 18446744073709551616) (w : World) (hL : LA w) : Calls Tryd.prog 89 #[.int .u64 u, .int .i64 10] w fun e w' => e = .returned (.string ⟨(Lib.decDigits u).toArray⟩) ∧ Below w.heap.size w w' := by
  have C := Lib.hid fun w h => fmtU0 u h2 w h
  generalize (⟨(Lib.decDigits u).toArray⟩ : ByteArray) = s at *
  have HL := Lib.hid hL
  clear hL
  go_enter Tryd.func89, Tryd.ntmps89
  go_wp2_with (go_at_call 116; refine (C.out _ HL.out).mono ?_; rintro e w' ⟨rfl, hb⟩)
  go_ret
  exact ⟨rfl, hb⟩
/-- digits of package lin: the magnitude. -/
theorem digs1 (n : Int) (n0 : -9223372036854775808 ≤ n) (n1 : n ≤ 9223372036854775807) (w : World) (hL : LA w) : Calls Tryd.prog 48 #[.int .i64 n] w fun e w' => e = .returned (.string ⟨(Lib.decDigits n.natAbs).toArray⟩) ∧ Below w.heap.size w w' := by
  have HL := Lib.hid hL
  by_cases hn : n < 0
  · obtain ⟨u, rfl⟩ : ∃ u : Nat, n = -(u : Int) := ⟨n.natAbs, by omega⟩
    have e : (-(u : Int)).natAbs = u := by omega
    rw [e]
    have C := Lib.hid fun w h => fmtU u (by omega) w h
    generalize (⟨(Lib.decDigits u).toArray⟩ : ByteArray) = s at *
    have hwr : IntKind.u64.wrap (-IntKind.u64.wrap (-(u : Int))) = (u : Int) := by rw [IntKind.wrap_u64, IntKind.wrap_u64]; omega
    have g : decide (-(u : Int) < 0) = true := by simp; omega
    clear hL e
    go_enter Tryd.func48, Tryd.ntmps48
    go_wp2_with (go_at_call 89; refine (C.out _ HL.out).mono ?_; rintro e w' ⟨rfl, hb⟩)
    go_ret
    exact ⟨rfl, hb⟩
  · obtain ⟨u, rfl⟩ : ∃ u : Nat, n = (u : Int) := ⟨n.natAbs, by omega⟩
    have e : (u : Int).natAbs = u := by omega
    rw [e]
    have C := Lib.hid fun w (h : LA w) => Tryd.strconv_FormatInt_10 u n0 n1 w h.1
    rw [Lib.itoa_nonneg] at C
    generalize (⟨(Lib.decDigits u).toArray⟩ : ByteArray) = s at *
    have g : decide ((u : Int) < 0) = false := by simp
    clear hL e hn
    go_enter Tryd.func48, Tryd.ntmps48
    go_wp2_with (go_at_call 90; refine (C.out _ HL.out).mono ?_; rintro e w' ⟨rfl, k, os, rfl⟩)
    go_ret
    exact ⟨rfl, Lib.below_grow _ _ (Nat.le_refl _) _ _⟩
end Go.Proofs.YtbicmlkjonaccaaDoor.Ln
