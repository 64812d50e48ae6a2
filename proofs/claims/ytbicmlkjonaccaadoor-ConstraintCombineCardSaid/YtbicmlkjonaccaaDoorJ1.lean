/- Contracts of the library of Go at this dump: Builder, strconv, Mul64, Compare. -/
import Derived.Shelf.Strings.Builder1
import Derived.Shelf.Small.Strs
import Derived.Shelf.Strings.BuilderF
import Derived.Shelf.Strings.BuilderK
import Derived.Shelf.Strconv.Itoa0
import Derived.Shelf.Strconv.Itoa1
import Derived.Shelf.LaysM
import Derived.Shelf.Strconv.Itoa2
import Derived.Shelf.Strconv.Itoa3
import Derived.Shelf.Strconv.Itoa4
import Derived.Shelf.Bits.Mul64
import Derived.Shelf.Strings.BuilderCap
import Derived.Test.YtbicmlkjonaccaaDoorProg
import Derived.Test.YtbicmlkjonaccaaDoorRows
import Derived.WalkKit
import Derived.ProofKit
import Derived.OpenShut
import Derived.WalkLawsBesides
import Derived.WalkSpells
import Derived.Outline
import Derived.Handy
import Derived.IntWalk
import Derived.Deep.QuietTactic
import Derived.BigQuiet
import Derived.Lib.Hide
import Derived.Test.YtbicmlkjonaccaaDoorJ0
import Derived.WalkSmall
import Derived.OwnWalk
import Derived.Deep.RegionHeld
import Derived.Deep.RegionHeld3
import Derived.Deep.RegionWith
import Derived.Laws.Externs
import Derived.Shelf.Spec.BitsCarry
import Derived.Deep.Quiet

namespace Go.Proofs
open Go.Shelf

def Tryd.lays170_ren : Go.Shelf.Ren := ⟨fun | 170 => 87 | n => n, fun | 70 => 65 | 3 => 3 | 0 => 0 | 72 => 68 | 37 => 66 | 5 => 5 | n => n, fun | n => n⟩

theorem Tryd.lays170 : Go.Proofs.Lays.n170 Tryd.prog Tryd.lays170_ren := {
  mixed := by kernel_rfl
  f170 := Tryd.func87.trans (congrArg some (by kernel_rfl))
  t0 := Tryd.underlying0
  a0 := Tryd.isAgg0
  z0 := Tryd.sizeOf0
  v0 := Tryd.zeroValue0
  t3 := Tryd.underlying3
  a3 := Tryd.isAgg3
  z3 := Tryd.sizeOf3
  v3 := Tryd.zeroValue3
  t37 := Tryd.underlying66
  a37 := Tryd.isAgg66
  z37 := Tryd.sizeOf66
  v37 := Tryd.zeroValue66
  t70 := Tryd.underlying65
  a70 := Tryd.isAgg65
  z70 := Tryd.sizeOf65
  v70 := Tryd.zeroValue65
  t72 := Tryd.underlying68
  a72 := Tryd.isAgg68
  z72 := Tryd.sizeOf68
  v72 := Tryd.zeroValue68 }

open Go.RowKit in
/-- (*strings.Builder).Len: "Len returns the number of accumulated bytes; b.Len() == len(b.String()).": the world is as it was. (LAID: no walk: one application.) -/
theorem Tryd.Builder_Len (B b : Nat) (bs : List Value) (w : World) (h : Lib.IsBuilder 68 5 B b bs w) :
    Calls Tryd.prog 87 #[.pointer (some ⟨b, 0, none⟩)] w fun e w' => e = .returned (.int .i64 bs.length) ∧ w' = w := Any.Builder_Len Tryd.lays170 B b bs w h

def Tryd.lays169_ren : Go.Shelf.Ren := ⟨fun | 169 => 49 | n => n, fun | 70 => 65 | 9 => 9 | 0 => 0 | 72 => 68 | 37 => 66 | 127 => 112 | 3 => 3 | 5 => 5 | n => n, fun | n => n⟩

theorem Tryd.lays169 : Go.Proofs.Lays.n169 Tryd.prog Tryd.lays169_ren := {
  mixed := by kernel_rfl
  f169 := Tryd.func49.trans (congrArg some (by kernel_rfl))
  t0 := Tryd.underlying0
  a0 := Tryd.isAgg0
  z0 := Tryd.sizeOf0
  v0 := Tryd.zeroValue0
  t3 := Tryd.underlying3
  a3 := Tryd.isAgg3
  z3 := Tryd.sizeOf3
  v3 := Tryd.zeroValue3
  t9 := Tryd.underlying9
  a9 := Tryd.isAgg9
  z9 := Tryd.sizeOf9
  v9 := Tryd.zeroValue9
  t37 := Tryd.underlying66
  a37 := Tryd.isAgg66
  z37 := Tryd.sizeOf66
  v37 := Tryd.zeroValue66
  t70 := Tryd.underlying65
  a70 := Tryd.isAgg65
  z70 := Tryd.sizeOf65
  v70 := Tryd.zeroValue65
  t72 := Tryd.underlying68
  a72 := Tryd.isAgg68
  z72 := Tryd.sizeOf68
  v72 := Tryd.zeroValue68
  t127 := Tryd.underlying112
  a127 := Tryd.isAgg112
  z127 := Tryd.sizeOf112
  v127 := Tryd.zeroValue112 }

theorem Tryd.Builder_Extra_169 : Builder.Extra Tryd.prog Tryd.lays169_ren := {
  sizeBuilder := by kernel_rfl
  liesBuilder := by kernel_rfl
  t5 := Tryd.underlying5
  a5 := Tryd.isAgg5
  z5 := Tryd.sizeOf5
  v5 := Tryd.zeroValue5
  infoByte := by kernel_rfl
  cellsByte := by kernel_rfl
  sizeByte := by kernel_rfl
  neB5 := by decide }

open Go.RowKit in
/-- (*strings.Builder).String: "String returns the accumulated string.": WHATEVER THE BUILDER HOLDS. (LAID: no walk: one application.) -/
theorem Tryd.Builder_String_any (B b : Nat) (l : List UInt8) (w : World) (h : Lib.IsBuilder 68 5 B b (Lib.byteCells l) w) (hBw : B ≤ w.heap.size) :
    Calls Tryd.prog 49 #[.pointer (some ⟨b, 0, none⟩)] w fun e w' => e = .returned (.string ⟨l.toArray⟩) ∧ Below B w w' := Any.Builder_String_any Tryd.lays169 Tryd.Builder_Extra_169 B b l w h hBw

def Tryd.lays106_ren : Go.Shelf.Ren := ⟨fun | 106 => 106 | 213 => 122 | 265 => 129 | n => n, fun | 9 => 9 | 3 => 3 | n => n, fun | n => n⟩

theorem Tryd.lays106 : Go.Proofs.Lays.n106 Tryd.prog Tryd.lays106_ren := {
  mixed := by kernel_rfl
  f106 := Tryd.func106.trans (congrArg some (by kernel_rfl))
  f213 := Tryd.func122.trans (congrArg some (by kernel_rfl))
  f265 := Tryd.func129.trans (congrArg some (by kernel_rfl))
  t3 := Tryd.underlying3
  a3 := Tryd.isAgg3
  z3 := Tryd.sizeOf3
  v3 := Tryd.zeroValue3
  t9 := Tryd.underlying9
  a9 := Tryd.isAgg9
  z9 := Tryd.sizeOf9
  v9 := Tryd.zeroValue9 }

open Go.RowKit in
/-- strings.Compare: "Compare returns an integer comparing two strings lexicographically. The result will be 0 if a == b, -1 if a < b, and +1 if a > b.": IT RETURNS 'Lib.compareBytes a b'; the world is as it was. (LAID: no walk: one application.) -/
theorem Tryd.strings_Compare (a b : ByteArray) (w : World) :
    Calls Tryd.prog 106 #[.string a, .string b] w fun e w' => e = .returned (.int .i64 (Lib.compareBytes a.data.toList b.data.toList)) ∧ w' = w := Any.strings_Compare Tryd.lays106 a b w

def Tryd.lays283_ren : Go.Shelf.Ren := ⟨fun | 283 => 124 | n => n, fun | 3 => 3 | 9 => 9 | 4 => 4 | n => n, fun | n => n⟩

theorem Tryd.lays283 : Go.Proofs.Lays.n283 Tryd.prog Tryd.lays283_ren := {
  mixed := by kernel_rfl
  f283 := Tryd.func124.trans (congrArg some (by kernel_rfl))
  t3 := Tryd.underlying3
  a3 := Tryd.isAgg3
  z3 := Tryd.sizeOf3
  v3 := Tryd.zeroValue3
  t4 := Tryd.underlying4
  a4 := Tryd.isAgg4
  z4 := Tryd.sizeOf4
  v4 := Tryd.zeroValue4
  t9 := Tryd.underlying9
  a9 := Tryd.isAgg9
  z9 := Tryd.sizeOf9
  v9 := Tryd.zeroValue9 }

open Go.Lib in
/-- internal/strconv.small: "small returns the string for an i with 0 <= i < nSmalls.": i's decimal numeral. The world is as it was. (LAID: no walk: one application.) -/
theorem Tryd.internal_strconv_small (i : Nat) (h : i < 100) (w : World) :
    Calls Tryd.prog 124 #[.int .i64 i] w fun e w' => e = .returned (.string ⟨(Lib.decDigits i).toArray⟩) ∧ w' = w := Any.internal_strconv_small Tryd.lays283 i h w

def Tryd.laysM284_ren : Go.Shelf.Ren := ⟨fun | 284 => 125 | 129 => 131 | 317 => 130 | 318 => 132 | n => n, fun | 53 => 76 | 3 => 3 | 212 => 156 | 0 => 0 | 4 => 4 | 46 => 119 | 5 => 5 | 9 => 9 | n => n, fun | 17 => 1 | n => n⟩

theorem Tryd.laysM284 : Go.Proofs.LaysM.n284 Tryd.prog Tryd.laysM284_ren := {
  mixed := by kernel_rfl
  f129 := Tryd.func131.trans (congrArg some (by kernel_rfl))
  f284 := Tryd.func125.trans (congrArg some (by kernel_rfl))
  f317 := Tryd.func130.trans (congrArg some (by kernel_rfl))
  f318 := Tryd.func132.trans (congrArg some (by kernel_rfl))
  t0 := Tryd.underlying0
  a0 := Tryd.isAgg0
  z0 := Tryd.sizeOf0
  v0 := Tryd.zeroValue0
  t3 := Tryd.underlying3
  a3 := Tryd.isAgg3
  z3 := Tryd.sizeOf3
  v3 := Tryd.zeroValue3
  t4 := Tryd.underlying4
  a4 := Tryd.isAgg4
  z4 := Tryd.sizeOf4
  v4 := Tryd.zeroValue4
  t5 := Tryd.underlying5
  a5 := Tryd.isAgg5
  z5 := Tryd.sizeOf5
  v5 := Tryd.zeroValue5
  t9 := Tryd.underlying9
  a9 := Tryd.isAgg9
  z9 := Tryd.sizeOf9
  v9 := Tryd.zeroValue9
  t46 := Tryd.underlying119
  a46 := Tryd.isAgg119
  z46 := Tryd.sizeOf119
  v46 := Tryd.zeroValue119
  t53 := Tryd.underlying76
  a53 := Tryd.isAgg76
  z53 := Tryd.sizeOf76
  v53 := Tryd.zeroValue76
  t212 := Tryd.underlying156
  a212 := Tryd.isAgg156
  z212 := Tryd.sizeOf156
  v212 := Tryd.zeroValue156
  g17 := by kernel_rfl
  i0 := by kernel_rfl
  i3 := by kernel_rfl
  i4 := by kernel_rfl
  i5 := by kernel_rfl
  i9 := by kernel_rfl
  i46 := by kernel_rfl
  i53 := by kernel_rfl
  i212 := by kernel_rfl
  m17 := by kernel_rfl }

open Go.Lib in
/-- internal/strconv.numDigits, at a d that is not 0: THE NUMBER OF d's DECIMAL DIGITS. The world is as it was. (LAID: no walk: one application.) -/
theorem Tryd.internal_strconv_numDigits (u : Nat) (h1 : 1 ≤ u) (h2 : u < 18446744073709551616) (w : World) (htab : Lib.TabIs Tryd.prog w "internal/strconv.uint64pow10" .u64 Lib.pow10Tab) :
    Calls Tryd.prog 125 #[.int .u64 u] w fun e w' => e = .returned (.int .i64 (Lib.nDigits u)) ∧ w' = w := Any.internal_strconv_numDigits Tryd.laysM284 u h1 h2 w htab

def Tryd.lays285_ren : Go.Shelf.Ren := ⟨fun | 285 => 126 | n => n, fun | 37 => 66 | 53 => 76 | 3 => 3 | 4 => 4 | 51 => 157 | 9 => 9 | 5 => 5 | 0 => 0 | n => n, fun | n => n⟩

theorem Tryd.lays285 : Go.Proofs.Lays.n285 Tryd.prog Tryd.lays285_ren := {
  mixed := by kernel_rfl
  f285 := Tryd.func126.trans (congrArg some (by kernel_rfl))
  t0 := Tryd.underlying0
  a0 := Tryd.isAgg0
  z0 := Tryd.sizeOf0
  v0 := Tryd.zeroValue0
  t3 := Tryd.underlying3
  a3 := Tryd.isAgg3
  z3 := Tryd.sizeOf3
  v3 := Tryd.zeroValue3
  t4 := Tryd.underlying4
  a4 := Tryd.isAgg4
  z4 := Tryd.sizeOf4
  v4 := Tryd.zeroValue4
  t5 := Tryd.underlying5
  a5 := Tryd.isAgg5
  z5 := Tryd.sizeOf5
  v5 := Tryd.zeroValue5
  t9 := Tryd.underlying9
  a9 := Tryd.isAgg9
  z9 := Tryd.sizeOf9
  v9 := Tryd.zeroValue9
  t37 := Tryd.underlying66
  a37 := Tryd.isAgg66
  z37 := Tryd.sizeOf66
  v37 := Tryd.zeroValue66
  t51 := Tryd.underlying157
  a51 := Tryd.isAgg157
  z51 := Tryd.sizeOf157
  v51 := Tryd.zeroValue157
  t53 := Tryd.underlying76
  a53 := Tryd.isAgg76
  z53 := Tryd.sizeOf76
  v53 := Tryd.zeroValue76 }

open Go.RowKit Go.Sort Go.Lib in
/-- internal/strconv.formatBase10: "formatBase10 formats the decimal representation of u into a. The caller is responsible for ensuring that a is big enough to hold u. If a is too big, leading zeros will be filled in as needed.": THE ROW HOLDS u's DIGITS ('FmtInv .. 0 ..': every place t holds 'dg u (len - 1 - t)'); all else is as it was but for the count of draws. (LAID: no walk: one application.) -/
theorem Tryd.internal_strconv_formatBase10 (blk off cap : Nat) (u : Nat) (d : Array UInt8) (w : World) (hH : Holds (fun (b : UInt8) => Value.int .u8 (b.toNat : Int)) w blk off d) (hu : u < 10 ^ d.size) (hu64 : u < 18446744073709551616) (hsz : d.size < 4611686018427387904) :
    Calls Tryd.prog 126 #[.slice (some ⟨blk, off, none⟩) d.size cap, .int .u64 u] w fun e w' =>
      e = .returned (.tuple #[]) ∧ ∃ (n v' : Nat) (dk : Array UInt8), w' = (putRow (fun (b : UInt8) => Value.int .u8 (b.toNat : Int)) w blk off dk).drewN n ∧ FmtInv d.size u 0 v' dk := Any.internal_strconv_formatBase10 Tryd.lays285 blk off cap u d w hH hu hu64 hsz

def Tryd.laysM173_ren : Go.Shelf.Ren := ⟨fun | 173 => 90 | 246 => 117 | 283 => 124 | 284 => 125 | 285 => 126 | 286 => 127 | 129 => 131 | 317 => 130 | 318 => 132 | 319 => 133 | 320 => 134 | 337 => 136 | 338 => 137 | n => n, fun | 2 => 2 | 3 => 3 | 9 => 9 | 4 => 4 | 171 => 149 | 0 => 0 | 53 => 76 | 37 => 66 | 5 => 5 | 173 => 152 | 212 => 156 | 51 => 157 | 20 => 20 | 213 => 158 | 46 => 119 | 232 => 162 | 233 => 163 | n => n, fun | 17 => 1 | 18 => 2 | 19 => 3 | n => n⟩

theorem Tryd.laysM173 : Go.Proofs.LaysM.n173 Tryd.prog Tryd.laysM173_ren := {
  mixed := by kernel_rfl
  f129 := Tryd.func131.trans (congrArg some (by kernel_rfl))
  f173 := Tryd.func90.trans (congrArg some (by kernel_rfl))
  f246 := Tryd.func117.trans (congrArg some (by kernel_rfl))
  f283 := Tryd.func124.trans (congrArg some (by kernel_rfl))
  f284 := Tryd.func125.trans (congrArg some (by kernel_rfl))
  f285 := Tryd.func126.trans (congrArg some (by kernel_rfl))
  f286 := Tryd.func127.trans (congrArg some (by kernel_rfl))
  f317 := Tryd.func130.trans (congrArg some (by kernel_rfl))
  f318 := Tryd.func132.trans (congrArg some (by kernel_rfl))
  f319 := Tryd.func133.trans (congrArg some (by kernel_rfl))
  f320 := Tryd.func134.trans (congrArg some (by kernel_rfl))
  f337 := Tryd.func136.trans (congrArg some (by kernel_rfl))
  f338 := Tryd.func137.trans (congrArg some (by kernel_rfl))
  t0 := Tryd.underlying0
  a0 := Tryd.isAgg0
  z0 := Tryd.sizeOf0
  v0 := Tryd.zeroValue0
  t2 := Tryd.underlying2
  a2 := Tryd.isAgg2
  z2 := Tryd.sizeOf2
  v2 := Tryd.zeroValue2
  t3 := Tryd.underlying3
  a3 := Tryd.isAgg3
  z3 := Tryd.sizeOf3
  v3 := Tryd.zeroValue3
  t4 := Tryd.underlying4
  a4 := Tryd.isAgg4
  z4 := Tryd.sizeOf4
  v4 := Tryd.zeroValue4
  t5 := Tryd.underlying5
  a5 := Tryd.isAgg5
  z5 := Tryd.sizeOf5
  v5 := Tryd.zeroValue5
  t9 := Tryd.underlying9
  a9 := Tryd.isAgg9
  z9 := Tryd.sizeOf9
  v9 := Tryd.zeroValue9
  t20 := Tryd.underlying20
  a20 := Tryd.isAgg20
  z20 := Tryd.sizeOf20
  v20 := Tryd.zeroValue20
  t37 := Tryd.underlying66
  a37 := Tryd.isAgg66
  z37 := Tryd.sizeOf66
  v37 := Tryd.zeroValue66
  t46 := Tryd.underlying119
  a46 := Tryd.isAgg119
  z46 := Tryd.sizeOf119
  v46 := Tryd.zeroValue119
  t51 := Tryd.underlying157
  a51 := Tryd.isAgg157
  z51 := Tryd.sizeOf157
  v51 := Tryd.zeroValue157
  t53 := Tryd.underlying76
  a53 := Tryd.isAgg76
  z53 := Tryd.sizeOf76
  v53 := Tryd.zeroValue76
  t171 := Tryd.underlying149
  a171 := Tryd.isAgg149
  z171 := Tryd.sizeOf149
  v171 := Tryd.zeroValue149
  t173 := Tryd.underlying152
  a173 := Tryd.isAgg152
  z173 := Tryd.sizeOf152
  v173 := Tryd.zeroValue152
  t212 := Tryd.underlying156
  a212 := Tryd.isAgg156
  z212 := Tryd.sizeOf156
  v212 := Tryd.zeroValue156
  t213 := Tryd.underlying158
  a213 := Tryd.isAgg158
  z213 := Tryd.sizeOf158
  t232 := Tryd.underlying162
  a232 := Tryd.isAgg162
  z232 := Tryd.sizeOf162
  v232 := Tryd.zeroValue162
  t233 := Tryd.underlying163
  a233 := Tryd.isAgg163
  z233 := Tryd.sizeOf163
  v233 := Tryd.zeroValue163
  g17 := by kernel_rfl
  g18 := by kernel_rfl
  g19 := by kernel_rfl
  i0 := by kernel_rfl
  i2 := by kernel_rfl
  i3 := by kernel_rfl
  i4 := by kernel_rfl
  i5 := by kernel_rfl
  i9 := by kernel_rfl
  i20 := by kernel_rfl
  i37 := by kernel_rfl
  i46 := by kernel_rfl
  i51 := by kernel_rfl
  i53 := by kernel_rfl
  i171 := by kernel_rfl
  i173 := by kernel_rfl
  i212 := by kernel_rfl
  i232 := by kernel_rfl
  i233 := by kernel_rfl
  m17 := by kernel_rfl
  m18 := by kernel_rfl
  m19 := by kernel_rfl }

open Go.RowKit Go.Sort Go.Lib in
/-- strconv.FormatInt: "FormatInt returns the string representation of i in the given base": AT BASE 10: i's decimal numeral, for every int64. (LAID: no walk: one application.) -/
theorem Tryd.strconv_FormatInt_10 (n : Int) (h0 : -9223372036854775808 ≤ n) (h1 : n ≤ 9223372036854775807) (w : World) (htab : Lib.TabIs Tryd.prog w "internal/strconv.uint64pow10" .u64 Lib.pow10Tab) :
    Calls Tryd.prog 90 #[.int .i64 n, .int .i64 10] w fun e w' => e = .returned (.string ⟨(Lib.itoa n).toArray⟩) ∧ ∃ k os, w' = grow (w.drewN k) os := Any.strconv_FormatInt_10 Tryd.laysM173 n h0 h1 w htab

def Tryd.lays264_ren : Go.Shelf.Ren := ⟨fun | 264 => 111 | n => n, fun | 53 => 76 | 46 => 119 | n => n, fun | n => n⟩

theorem Tryd.lays264 : Go.Proofs.Lays.n264 Tryd.prog Tryd.lays264_ren := {
  mixed := by kernel_rfl
  f264 := Tryd.func111.trans (congrArg some (by kernel_rfl))
  t46 := Tryd.underlying119
  a46 := Tryd.isAgg119
  z46 := Tryd.sizeOf119
  v46 := Tryd.zeroValue119
  t53 := Tryd.underlying76
  a53 := Tryd.isAgg76
  z53 := Tryd.sizeOf76
  v53 := Tryd.zeroValue76 }

open Go.RowKit Go.Lib in
theorem Tryd.bits_Mul64 (x y : Nat) (hx : x < 18446744073709551616) (hy : y < 18446744073709551616) (w : World) :
    Calls Tryd.prog 111 #[.int .u64 x, .int .u64 y] w fun e w' => e = .returned (.tuple #[.int .u64 ((x * y / 18446744073709551616 : Nat) : Int), .int .u64 ((x * y % 18446744073709551616 : Nat) : Int)]) ∧ w' = w := Any.bits_Mul64 Tryd.lays264 x y hx hy w

end Go.Proofs


namespace Go.Proofs.YtbicmlkjonaccaaDoor.Ln
open Go.ChangeShapes Go.WideShapes Go.ChangeAt Go.RowKit
set_option linter.unusedVariables false
set_option linter.unusedSimpArgs false
theorem kp {y y' : World} {b o : Nat} {v : Value} (hy : Below y.heap.size y y') (hb : b < y.heap.size) (h : y.cell? ⟨b, o, none⟩ = some v) : y'.cell? ⟨b, o, none⟩ = some v := (hy.cell (p := ⟨b, o, none⟩) hb).trans h
def SlM (w : World) (p : Option Addr) (xs : List Mo) : Prop := ∀ i, i < xs.length → ∃ b o, p = some ⟨b, o, none⟩ ∧ w.cell? ⟨b, o + i * 2, none⟩ = some (.string (xs.getD i mo0).1) ∧ w.cell? ⟨b, o + i * 2 + 1, none⟩ = some (.int .i64 (xs.getD i mo0).2)
theorem SlM.keep {w w' : World} {p : Option Addr} {xs : List Mo} (hB : Below w.heap.size w w') (h : SlM w p xs) : SlM w' p xs := fun i hi => by
  obtain ⟨b, o, rfl, c0, c1⟩ := h i hi
  have hb : b < w.heap.size := by have := World.block_lt_of_cell? w _ c0; simpa using this
  exact ⟨b, o, rfl, kp hB hb c0, kp hB hb c1⟩
theorem ret_int {a b : Int} (h : a = b) : Ending.returned (.int .i64 a) = .returned (.int .i64 b) := by rw [h]
theorem ret_bool {a b : Bool} (h : a = b) : Ending.returned (.bool a) = .returned (.bool b) := by rw [h]
def Lv (k : Int) (p : Option Addr) (n c : Nat) : Value := .agg #[.int .i64 k, .slice p n c]
theorem below_drewN {B : Nat} {a w : World} (h : Below B a w) (n : Nat) : Below B a (w.drewN n) := ⟨h.os, h.tape, h.output, h.size, h.block⟩
theorem two_below {w : World} (o o' : Obj) : Below w.heap.size w ((w.alloc o).alloc o') := ((Below.refl _ _).alloc (Nat.le_refl _) _).alloc (by simp) _
theorem two_size {w : World} (o o' : Obj) : w.heap.size < ((w.alloc o).alloc o').heap.size ∧ w.heap.size + 1 < ((w.alloc o).alloc o').heap.size := by
  constructor <;> (simp <;> omega)
end Go.Proofs.YtbicmlkjonaccaaDoor.Ln


namespace Go.Proofs.YtbicmlkjonaccaaDoor.Ln
open Go.ChangeShapes Go.WideShapes Go.ChangeAt Go.RowKit
open Go.Proofs.YtbicmlkjonaccaaDoor.Nm
set_option linter.unusedVariables false
set_option linter.unusedSimpArgs false
set_option maxRecDepth 100000 in
set_option maxHeartbeats 8000000 in
theorem small (k : Int) (p : Option Addr) (xs : List Mo) (c : Nat) (w : World) (hn : xs.length ≤ maxLen) (RA : Hid (SlM w p xs)) :
    Calls Tryd.prog 14 #[Lv k p xs.length c] w fun e w' => (∃ v : Bool, e = .returned (.bool v)) ∧ Below w.heap.size w w' := by
  have B0 : Below w.heap.size w (w.alloc (Obj.cells #[Value.int .i64 k, Value.slice p xs.length c] 24)) := (Below.refl _ _).alloc (Nat.le_refl _) _
  have f1 : (w.alloc (Obj.cells #[Value.int .i64 k, Value.slice p xs.length c] 24)).cell? ⟨w.heap.size, 1, none⟩ = some (.slice p xs.length c) := by go_cell
  unfold maxLen at hn
  unfold Lv
  by_cases h40 : 40 < xs.length
  · have d1 : (40 : Int) < xs.length := by omega
    go_enter Tryd.func14, Tryd.ntmps14
    go_wp2
    go_ret
    exact ⟨⟨_, rfl⟩, B0⟩
  · have d1 : ¬ (40 : Int) < xs.length := by omega
    go_enter Tryd.func14, Tryd.ntmps14
    go_wp2
    have RA1 := Lib.hid (SlM.keep B0 RA.out)
    generalize w.alloc (Obj.cells #[Value.int .i64 k, Value.slice p xs.length c] 24) = z at *
    go_loopw [3] (fun i wr => ∃ j : Nat, i = .int .i64 (j : Int) ∧ j ≤ xs.length ∧ wr = z) (fun i _ => xs.length - (intOf i).toNat)
    case atStart => exact ⟨0, rfl, by omega, rfl⟩
    case round =>
      obtain ⟨j, rfl, hk, rfl⟩ := hrel
      have k0 : (0 : Int) ≤ j := by omega
      by_cases hlt : j < xs.length
      · obtain ⟨b, o, rfl, c0, c1⟩ := RA1.out j hlt
        obtain ⟨x, hx⟩ : ∃ x, xs.getD j mo0 = x := ⟨_, rfl⟩
        rw [hx] at c0 c1
        clear hx
        obtain ⟨s, a⟩ := x
        simp only at c0 c1
        have k1 : (j : Int) < xs.length := by omega
        by_cases hs : 40 < s.size
        · have d2 : (40 : Int) < s.size := by omega
          go_wp2
          go_ret
          exact ⟨⟨_, rfl⟩, B0⟩
        · have d2 : ¬ (40 : Int) < s.size := by omega
          go_wp2
          go_roundw
          case rel => exact ⟨j + 1, by go_num, by omega, by first | rfl | trivial⟩
          case measure => simp [intOf]; omega
      · have k1 : ¬ (j : Int) < xs.length := by omega
        go_wp2
        go_ret
        exact ⟨by first | exact ⟨_, rfl⟩ | rfl | simp, B0⟩
theorem const1 (k : Int) (w : World) : Calls Tryd.prog 42 #[.int .i64 k] w fun e w' => e = .returned (.agg #[.int .i64 k, .slice none 0 0]) ∧ Below w.heap.size w w' := by
  go_enter Tryd.func42, Tryd.ntmps42
  go_wp2
  exact bodyPost_ret (v := .agg #[.int .i64 k, .slice none 0 0]) (by simp [results, Tryd.results42, go_sem]) rfl ⟨rfl, (Below.refl _ _).alloc (Nat.le_refl _) _⟩
def VW (s : ByteArray) (w : World) (e : Ending) (w' : World) : Prop := ∃ g c, e = .returned (.agg #[.int .i64 0, .slice (some ⟨g, 0, none⟩) 1 c]) ∧ w'.cell? ⟨g, 0, none⟩ = some (.string s) ∧ w'.cell? ⟨g, 1, none⟩ = some (.int .i64 1) ∧ Below w.heap.size w w'
theorem var1_ok (s : ByteArray) (w : World) (hs : s.size ≤ maxLen) (h : nmB s = true) : Calls Tryd.prog 43 #[.string s] w (VW s w) := by
  have C := Lib.hid fun w => isName s w hs
  rw [h] at C
  go_enter Tryd.func43, Tryd.ntmps43
  go_wp2_with (go_at_call 44; refine (C.out _).mono ?_; rintro e w' ⟨rfl, rfl⟩)
  refine bodyPost_ret (v := .agg #[.int .i64 0, .slice (some ⟨w.heap.size + 1, 0, none⟩) 1 1]) (by simp [results, Tryd.results43, go_sem]) rfl ⟨w.heap.size + 1, 1, rfl, by go_cell, by go_cell, ((Below.refl _ _).alloc (Nat.le_refl _) _).alloc (by simp) _⟩
set_option maxHeartbeats 4000000 in
theorem val0 (k : Int) (w : World) : Calls Tryd.prog 16 #[.agg #[.int .i64 k, .slice none 0 0]] w fun e w' => e = .returned (.int .i64 0) ∧ Below w.heap.size w w' := by
  go_enter Tryd.func16, Tryd.ntmps16
  go_wp2
  refine wp_loop_rounds 1 ?_
  rw [rounds_succ]
  go_wp2
  go_ret
  exact ⟨rfl, (Below.refl _ _).alloc (Nat.le_refl _) _⟩
theorem add7 (w : World) : (callFunc 112 #[.int .u64 0, .int .u64 7, .int .u64 0]).run Tryd.prog w = .ok (.value (.tuple #[.int .u64 7, .int .u64 0])) w := by
  rw [run_callFunc_extern Tryd.func112 (by kernel_rfl) (by kernel_rfl) (by kernel_rfl) (e := add64Entry) (by kernel_rfl), run_add64 0 7 0 (by omega) (by omega) (by omega) (by omega)]
  rfl
theorem add0 (w : World) : (callFunc 112 #[.int .u64 0, .int .u64 0, .int .u64 0]).run Tryd.prog w = .ok (.value (.tuple #[.int .u64 0, .int .u64 0])) w := by
  rw [run_callFunc_extern Tryd.func112 (by kernel_rfl) (by kernel_rfl) (by kernel_rfl) (e := add64Entry) (by kernel_rfl), run_add64 0 0 0 (by omega) (by omega) (by omega) (by omega)]
  rfl
theorem mul7 (w : World) : Calls Tryd.prog 111 #[.int .u64 7, .int .u64 1] w fun e w' => e = .returned (.tuple #[.int .u64 0, .int .u64 7]) ∧ w' = w := Tryd.bits_Mul64 7 1 (by decide) (by decide) w
set_option maxRecDepth 100000 in
set_option maxHeartbeats 8000000 in
theorem wadd (g : Nat) (w : World) (a0 : w.cell? ⟨g, 0, none⟩ = some (.int .u64 0)) (a1 : w.cell? ⟨g, 1, none⟩ = some (.int .u64 0)) (a2 : w.cell? ⟨g, 2, none⟩ = some (.int .u64 0)) (z0 : w.frozen? ⟨g, 0, none⟩ = false) (z1 : w.frozen? ⟨g, 1, none⟩ = false) (z2 : w.frozen? ⟨g, 2, none⟩ = false) :
    Calls Tryd.prog 80 #[.pointer (some ⟨g, 0, none⟩), .int .i64 7, .int .i64 1] w fun e w' => e = .returned (.tuple #[]) ∧ w' = ((w.setCell ⟨g, 2, none⟩ (.int .u64 7)).setCell ⟨g, 1, none⟩ (.int .u64 0)).setCell ⟨g, 0, none⟩ (.int .u64 0) := by
  have C := Lib.hid mul7
  go_enter Tryd.func80, Tryd.ntmps80
  go_wp2_with (first | (go_at_call 111; refine (C.out _).mono ?_; rintro e w' ⟨rfl, rfl⟩) | (simp only [add7, add0]))
  go_end0
  exact ⟨rfl, rfl⟩
set_option maxRecDepth 100000 in
set_option maxHeartbeats 8000000 in
theorem wfits (g : Nat) (w : World) (a0 : w.cell? ⟨g, 0, none⟩ = some (.int .u64 0)) (a1 : w.cell? ⟨g, 1, none⟩ = some (.int .u64 0)) (a2 : w.cell? ⟨g, 2, none⟩ = some (.int .u64 7)) :
    Calls Tryd.prog 83 #[.pointer (some ⟨g, 0, none⟩)] w fun e w' => e = .returned (.bool true) ∧ w = w' := by
  go_enter Tryd.func83, Tryd.ntmps83
  go_wp2
  go_ret
  exact ⟨rfl, rfl⟩
set_option maxRecDepth 100000 in
set_option maxHeartbeats 8000000 in
theorem eval7 (w : World) : Calls Tryd.prog 41 #[.agg #[.int .i64 7, .slice none 0 0], .slice none 0 0] w fun e w' => e = .returned (.tuple #[.int .i64 7, .int .i64 0]) ∧ Below w.heap.size w w' := by
  have C1 := Lib.hid val0
  have C2 := Lib.hid wadd
  have C3 := Lib.hid wfits
  have B0 : Below w.heap.size w (w.alloc (Obj.cells #[Value.int .i64 7, Value.slice none 0 0] 24)) := (Below.refl _ _).alloc (Nat.le_refl _) _
  have S0 : w.heap.size < (w.alloc (Obj.cells #[Value.int .i64 7, Value.slice none 0 0] 24)).heap.size := by simp
  have f0 : (w.alloc (Obj.cells #[Value.int .i64 7, Value.slice none 0 0] 24)).cell? ⟨w.heap.size, 0, none⟩ = some (.int .i64 7) := by go_cell
  have f1 : (w.alloc (Obj.cells #[Value.int .i64 7, Value.slice none 0 0] 24)).cell? ⟨w.heap.size, 1, none⟩ = some (.slice none 0 0) := by go_cell
  go_enter Tryd.func41, Tryd.ntmps41
  go_wp2_with fail
  generalize w.alloc (Obj.cells #[Value.int .i64 7, Value.slice none 0 0] 24) = z at *
  refine (C1.out _ _).mono ?_
  rintro e w1 ⟨rfl, hb⟩
  have g0 := kp hb S0 f0
  have g1 := kp hb S0 f1
  have S1 : w.heap.size < w1.heap.size := Nat.lt_of_lt_of_le S0 hb.size
  have K := B0.trans (hb.mono B0.size)
  clear hb f0 f1 B0 S0
  go_wp2_with fail
  have h0 := kp ((Below.refl w1.heap.size w1).alloc (Nat.le_refl _) (Obj.cells #[Value.int .u64 0, Value.int .u64 0, Value.int .u64 0] 102)) S1 g0
  have h1 := kp ((Below.refl w1.heap.size w1).alloc (Nat.le_refl _) (Obj.cells #[Value.int .u64 0, Value.int .u64 0, Value.int .u64 0] 102)) S1 g1
  refine (C2.out w1.heap.size (w1.alloc (Obj.cells #[Value.int .u64 0, Value.int .u64 0, Value.int .u64 0] 102)) (by go_cell) (by go_cell) (by go_cell) (by first | go_cell | simp) (by first | go_cell | simp) (by first | go_cell | simp)).mono ?_
  rintro e w2 ⟨rfl, h2⟩
  have r0 : w2.cell? ⟨w1.heap.size, 0, none⟩ = some (.int .u64 0) := by rw [h2]; go_cell
  have r1 : w2.cell? ⟨w1.heap.size, 1, none⟩ = some (.int .u64 0) := by rw [h2]; go_cell
  have r2 : w2.cell? ⟨w1.heap.size, 2, none⟩ = some (.int .u64 7) := by rw [h2]; go_cell
  have r3 : w2.cell? ⟨w.heap.size, 0, none⟩ = some (.int .i64 7) := by rw [h2]; go_cell
  have r4 : w2.cell? ⟨w.heap.size, 1, none⟩ = some (.slice none 0 0) := by rw [h2]; go_cell
  have K2 : Below w.heap.size w w2 := by
    rw [h2]
    exact ((((K.alloc K.size _).setCell (p := ⟨w1.heap.size, 2, none⟩) K.size _).setCell (p := ⟨w1.heap.size, 1, none⟩) K.size _).setCell (p := ⟨w1.heap.size, 0, none⟩) K.size _)
  clear h0 h1 g0 g1 S1 K h2
  go_wp2_with fail
  refine wp_loop_rounds 1 ?_
  rw [rounds_succ]
  go_wp2_with fail
  refine (C3.out _ _ r0 r1 r2).mono ?_
  rintro e w' ⟨rfl, rfl⟩
  go_wp2
  exact bodyPost_ret (v := .tuple #[.int .i64 7, .int .i64 0]) (by simp [results, Tryd.results41, go_sem]) rfl ⟨rfl, K2⟩
theorem name_i : nmB ⟨#[105]⟩ = true := by
  unfold nmB
  rw [ByteArray.toList_eq]
  decide +kernel
set_option maxRecDepth 100000 in
set_option maxHeartbeats 8000000 in
theorem alive (w : World) : Calls Tryd.prog 15 #[] w fun e w' => e = .returned (.bool true) ∧ Below w.heap.size w w' := by
  have C1 := Lib.hid fun w => const1 7 w
  have C2 := Lib.hid eval7
  have C3 := Lib.hid fun w => var1_ok ⟨#[105]⟩ w (by show 1 ≤ maxLen; unfold maxLen; decide) name_i
  go_enter Tryd.func15, Tryd.ntmps15
  go_wp2_with fail
  refine (C1.out _).mono ?_
  rintro e w1 ⟨rfl, hb1⟩
  go_wp2_with fail
  refine (C2.out _).mono ?_
  rintro e w2 ⟨rfl, hb2⟩
  have K2 := hb1.trans (hb2.mono hb1.size)
  clear hb1 hb2
  go_wp2_with fail
  refine (C3.out _).mono ?_
  rintro e w3 ⟨g, c, rfl, c0, c1, hb3⟩
  have K3 := K2.trans (hb3.mono K2.size)
  have hg : g < w3.heap.size := by have := World.block_lt_of_cell? w3 _ c0; simpa using this
  clear hb3 K2
  go_wp2
  go_ret
  exact ⟨rfl, K3.alloc K3.size _⟩
end Go.Proofs.YtbicmlkjonaccaaDoor.Ln


namespace Go.Proofs.YtbicmlkjonaccaaDoor.Ln
open Go.ChangeShapes Go.WideShapes Go.ChangeAt Go.RowKit
open Go.Proofs.YtbicmlkjonaccaaDoor.Nm
set_option linter.unusedVariables false
set_option linter.unusedSimpArgs false
def bd (xs : List Mo) (k : Nat) : Bool := !nmB (xs.getD k mo0).1 || ((xs.getD k mo0).2 == 0 || (decide (0 < k) && !Op.bytesLess (xs.getD (k - 1) mo0).1.toList (xs.getD k mo0).1.toList))
def okL (xs : List Mo) : Bool := (List.range xs.length).all fun k => !bd xs k
theorem ok_bad {xs : List Mo} {k : Nat} (hk : k < xs.length) (h : bd xs k = true) : okL xs = false := by
  unfold okL
  rw [List.all_eq_false]
  exact ⟨k, List.mem_range.2 hk, by rw [h]; simp⟩
theorem ok_all {xs : List Mo} {k : Nat} (hk : k = xs.length) (h : ∀ j, j < k → bd xs j = false) : okL xs = true := by
  unfold okL
  rw [List.all_eq_true]
  intro j hj
  rw [h j (by rw [hk]; exact List.mem_range.1 hj)]
  rfl
theorem all_next {xs : List Mo} {k : Nat} (h : ∀ j, j < k → bd xs j = false) (hb : bd xs k = false) : ∀ j, j < k + 1 → bd xs j = false := fun j hj => by
  by_cases hjk : j = k
  · rw [hjk]; exact hb
  · exact h j (by omega)
def vL (xs : List Mo) : Int := if okL xs = true then 0 else 1
set_option maxRecDepth 100000 in
set_option maxHeartbeats 8000000 in
theorem val1 (k : Int) (p : Option Addr) (xs : List Mo) (c : Nat) (w : World) (hn : xs.length ≤ maxLen) (RA : Hid (SlM w p xs)) (RS : Hid (∀ i, i < xs.length → (xs.getD i mo0).1.size ≤ maxLen)) :
    Calls Tryd.prog 16 #[Lv k p xs.length c] w fun e w' => e = .returned (.int .i64 (vL xs)) ∧ Below w.heap.size w w' := by
  have B0 : Below w.heap.size w (w.alloc (Obj.cells #[Value.int .i64 k, Value.slice p xs.length c] 24)) := (Below.refl _ _).alloc (Nat.le_refl _) _
  have S0 : w.heap.size < ((w.alloc (Obj.cells #[Value.int .i64 k, Value.slice p xs.length c] 24))).heap.size := by simp
  have f1 : ((w.alloc (Obj.cells #[Value.int .i64 k, Value.slice p xs.length c] 24))).cell? ⟨w.heap.size, 1, none⟩ = some (.slice p xs.length c) := by go_cell
  unfold maxLen at hn
  unfold Lv
  go_enter Tryd.func16, Tryd.ntmps16
  go_wp2
  have RA1 := Lib.hid (SlM.keep B0 RA.out)
  generalize (w.alloc (Obj.cells #[Value.int .i64 k, Value.slice p xs.length c] 24)) = z at *
  go_loopw [8] (fun i wr => ∃ j : Nat, i = .int .i64 (j : Int) ∧ j ≤ xs.length ∧ Below z.heap.size z wr ∧ Hid (∀ i, i < j → bd xs i = false)) (fun i _ => xs.length - (intOf i).toNat)
  case atStart => exact ⟨0, rfl, by omega, Below.refl _ _, Lib.hid fun i hi => absurd hi (by omega)⟩
  case round =>
    obtain ⟨j, rfl, hk, hB, HG⟩ := hrel
    have k0 : (0 : Int) ≤ j := by omega
    have BK : Below w.heap.size w wr := B0.trans (hB.mono B0.size)
    by_cases hlt : j < xs.length
    · obtain ⟨b, o, rfl, c0, c1⟩ := SlM.keep hB RA1.out j hlt
      have hbd : bd xs j = (!nmB (xs.getD j mo0).1 || ((xs.getD j mo0).2 == 0 || (decide (0 < j) && !Op.bytesLess (xs.getD (j - 1) mo0).1.toList (xs.getD j mo0).1.toList))) := rfl
      have hsz := RS.out j hlt
      have k1 : (j : Int) < xs.length := by omega
      have F1 := kp hB S0 f1
      have u1 : w.heap.size < wr.heap.size := Nat.lt_of_lt_of_le S0 hB.size
      obtain ⟨⟨t, e⟩, hy⟩ : ∃ y, xs.getD (j - 1) mo0 = y := ⟨_, rfl⟩
      have hprev : 0 < j → wr.cell? ⟨b, o + (j - 1) * 2, none⟩ = some (.string t) := fun h0 => by
        obtain ⟨b', o', he, d0, d1⟩ := SlM.keep hB RA1.out (j - 1) (by omega)
        cases he
        rw [hy] at d0
        exact d0
      obtain ⟨⟨s, a⟩, hx⟩ : ∃ x, xs.getD j mo0 = x := ⟨_, rfl⟩
      have hb : b < wr.heap.size := by have := World.block_lt_of_cell? wr _ c0; simpa using this
      rw [hx] at c0 c1 hsz
      rw [hx, hy] at hbd
      simp only at c0 c1 hsz hbd
      clear hx hy f1
      have C := Lib.hid fun w => isName s w hsz
      obtain ⟨q1, hq1⟩ : ∃ q, nmB s = q := ⟨_, rfl⟩
      obtain ⟨q3, hq3⟩ : ∃ q, Op.bytesLess t.toList s.toList = q := ⟨_, rfl⟩
      rw [hq1] at C hbd
      have CQ := Lib.hid fun w => (C.out w).mono fun e w' h => (show e = .returned (.bool q1) ∧ w' = w from ⟨h.1, h.2.symm⟩)
      clear C
      rw [hq3] at hbd
      go_wp2
      have H0 : (wr.alloc (Obj.cells #[Value.string s, Value.int .i64 a] 59)).cell? ⟨wr.heap.size, 0, none⟩ = some (.string s) := by go_cell
      have H1 : (wr.alloc (Obj.cells #[Value.string s, Value.int .i64 a] 59)).cell? ⟨wr.heap.size, 1, none⟩ = some (.int .i64 a) := by go_cell
      have B1 : Below wr.heap.size wr (wr.alloc (Obj.cells #[Value.string s, Value.int .i64 a] 59)) := (Below.refl _ _).alloc (Nat.le_refl _) _
      have F2 := kp B1 u1 F1
      have P2 : 0 < j → (wr.alloc (Obj.cells #[Value.string s, Value.int .i64 a] 59)).cell? ⟨b, o + (j - 1) * 2, none⟩ = some (.string t) := fun h0 => kp B1 hb (hprev h0)
      have BZ : Below z.heap.size z (wr.alloc (Obj.cells #[Value.string s, Value.int .i64 a] 59)) := hB.alloc hB.size _
      have BW : Below w.heap.size w (wr.alloc (Obj.cells #[Value.string s, Value.int .i64 a] 59)) := BK.alloc BK.size _
      generalize wr.heap.size = g at *
      generalize wr.alloc (Obj.cells #[Value.string s, Value.int .i64 a] 59) = zz at *
      clear c0 c1 hprev F1 B1 hB BK hb u1
      have HBAD : Hid (bd xs j = true → vL xs = 1) := Lib.hid fun h => by unfold vL; rw [ok_bad hlt h]; rfl
      have HOK : Hid (bd xs j = false → ∀ i, i < j + 1 → bd xs i = false) := Lib.hid (all_next HG.out)
      clear HG
      by_cases ha : a = 0
      · subst ha
        have HT := Lib.hid (HBAD.out (by rw [hbd]; cases q1 <;> simp))
        clear hbd HBAD HOK P2 hq3 hq1
        cases q1
        all_goals
          go_quiet ((go_at_call 44; exact Calls.quiet_of_same (CQ.out _)))
          go_wp2
          go_ret
          exact ⟨ret_int (by rw [HT.out]), below_drewN BW _⟩
      · have ha2 : (a == 0) = false := beq_false_of_ne ha
        rw [ha2, Bool.false_or] at hbd
        cases q1
        · have HT := Lib.hid (HBAD.out (by rw [hbd]; simp))
          clear hbd HBAD HOK P2 hq3 hq1
          go_quiet ((go_at_call 44; exact Calls.quiet_of_same (CQ.out _)))
          go_wp2
          go_ret
          exact ⟨ret_int (by rw [HT.out]), below_drewN BW _⟩
        · by_cases hj : 0 < j
          · obtain ⟨i, rfl⟩ : ∃ i, j = i + 1 := ⟨j - 1, by omega⟩
            have P3 := P2 (by omega)
            rw [show i + 1 - 1 = i by omega] at P3
            have e1 : (0 : Int) < ((i + 1 : Nat) : Int) := by omega
            have e2 : decide ((0 : Int) < ((i + 1 : Nat) : Int)) = true := decide_eq_true e1
            have e3 : (0 : Int) < (i : Int) + 1 := by omega
            have e4 : decide ((0 : Int) < (i : Int) + 1) = true := decide_eq_true e3
            have w1 : IntKind.i64.wrap (((i + 1 : Nat) : Int) - 1) = (i : Int) := by rw [show ((i + 1 : Nat) : Int) - 1 = (i : Int) by omega]; exact IntWalk.i64_in _ (by omega)
            have w2 : IntKind.i64.wrap ((i : Int) + 1 - 1) = (i : Int) := by rw [show (i : Int) + 1 - 1 = (i : Int) by omega]; exact IntWalk.i64_in _ (by omega)
            have i0 : (0 : Int) ≤ i := by omega
            have i1 : (i : Int) < xs.length := by omega
            rw [decide_eq_true (show 0 < i + 1 by omega), Bool.true_and] at hbd
            clear P2
            cases q3
            · have HT := Lib.hid (HBAD.out (by rw [hbd]; simp))
              clear hbd HBAD HOK
              go_quiet ((go_at_call 44; exact Calls.quiet_of_same (CQ.out _)))
              go_wp2
              go_ret
              exact ⟨ret_int (by rw [HT.out]), below_drewN BW _⟩
            · have HT := Lib.hid (HOK.out (by rw [hbd]; simp))
              clear hbd HBAD HOK
              go_quiet ((go_at_call 44; exact Calls.quiet_of_same (CQ.out _)))
              go_wp2
              go_roundw
              case rel => exact ⟨i + 1 + 1, by go_num, by omega, below_drewN BZ _, HT⟩
              case measure => simp [intOf]; omega
          · obtain rfl : j = 0 := by omega
            have HT := Lib.hid (HOK.out (by rw [hbd]; simp))
            clear hbd HBAD HOK P2
            go_quiet ((go_at_call 44; exact Calls.quiet_of_same (CQ.out _)))
            go_wp2
            go_roundw
            case rel => exact ⟨0 + 1, by go_num, by omega, below_drewN BZ _, HT⟩
            case measure => simp [intOf]; omega
    · have k1 : ¬ (j : Int) < xs.length := by omega
      have HT := Lib.hid (show vL xs = 0 by unfold vL; rw [ok_all (show j = xs.length by omega) HG.out]; rfl)
      go_wp2
      go_ret
      exact ⟨ret_int (by rw [HT.out]), BK⟩
end Go.Proofs.YtbicmlkjonaccaaDoor.Ln


namespace Go.Proofs.YtbicmlkjonaccaaDoor.Rg
open Go.ChangeShapes Go.WideShapes Go.ChangeAt Go.RowKit
set_option linter.unusedVariables false
set_option linter.unusedSimpArgs false

section
variable {P : Program} {ops : Array Oper} {Q : Exit → Act → World → Prop} {md : Region.Mode} {S : World → Prop}
theorem at_of {i : Nat} {oi : Oper} (h : ops.toList[i]? = some oi) : ops[i]? = some oi := by rw [← Array.getElem?_toList]; exact h
/-- An operation that is carried out, or left out, first. -/
theorem take {i : Nat} {oi : Oper} {v : Value} {fuel : Nat} {listed : Array Bool} {a : Act} {w : World} (hi : ops.toList[i]? = some oi)
    (hs : Region.noSelect ops = true) (hf : Region.free md ops listed i = true) (hr : (Region.ready md ops listed).contains i = true)
    (hQ : ∀ c a w, Q (.panic c) (a.put oi.dst v) w → Q (.panic c) a w) (hy : YieldsIf P ops S oi v a) (hS : S w)
    (h : wpAnyH P md ops Q S fuel (listed.setIfInBounds i true) (a.put oi.dst v) w) : wpAnyH P md ops Q S (fuel + 1) listed a w :=
  wpAnyH_take (at_of hi) hs hf hr hQ hy hS h
/-- The one operation that may come up. -/
theorem one {i : Nat} {o : Oper} {fuel : Nat} {listed : Array Bool} {a : Act} {w : World} (hr : Region.ready md ops listed = [i]) (ho : ops.toList[i]? = some o)
    (h : ∀ K' : Act → World → Prop, Shut (∀ a w, S w → (S w → wpAnyH P md ops Q S fuel (listed.setIfInBounds i true) a w) → K' a w) → if Region.wanted o (yielded ops a.tmps) = true then Oper.wp P o a w K' Q else K' (a.put o.dst undef) w) :
    wpAnyH P md ops Q S (fuel + 1) listed a w :=
  wpAnyH_ready hr (by simp) (AllReadyH.cons (at_of ho) h AllReadyH.nil)
end
/-- Two cells of a result, whatever they hold. -/
def RC (r : Nat) (w : World) : Prop := (∃ a, w.cell? ⟨r, 0, none⟩ = some (.int .i64 a)) ∧ (∃ b, w.cell? ⟨r, 1, none⟩ = some (.int .i64 b)) ∧ w.frozen? ⟨r, 0, none⟩ = false ∧ w.frozen? ⟨r, 1, none⟩ = false
theorem keep {y y' : World} {b o : Nat} {v : Value} (hy : Below y.heap.size y y') (hb : b < y.heap.size) (h : y.cell? ⟨b, o, none⟩ = some v) : y'.cell? ⟨b, o, none⟩ = some v := (hy.cell (p := ⟨b, o, none⟩) hb).trans h
theorem keepF {y y' : World} {b o : Nat} {v : Bool} (hy : Below y.heap.size y y') (hb : b < y.heap.size) (h : y.frozen? ⟨b, o, none⟩ = v) : y'.frozen? ⟨b, o, none⟩ = v := (hy.frozen (p := ⟨b, o, none⟩) hb).trans h
theorem notFrozen {w : World} {b o : Nat} (h : w.heap.size ≤ b) : w.frozen? ⟨b, o, none⟩ = false := by
  unfold World.frozen?
  rw [Array.getElem?_eq_none (by simpa using h)]
theorem RC.keep {y y' : World} {r : Nat} (hy : Below y.heap.size y y') (hb : r < y.heap.size) (h : RC r y) : RC r y' := by
  obtain ⟨⟨a, ha⟩, ⟨b, hb'⟩, f, g⟩ := h
  exact ⟨⟨a, Rg.keep hy hb ha⟩, ⟨b, Rg.keep hy hb hb'⟩, keepF hy hb f, keepF hy hb g⟩
theorem RC.store {u : World} {r : Nat} {x y : Int} (h : RC r u) : RC r ((u.setCell ⟨r, 0, none⟩ (.int .i64 x)).setCell ⟨r, 1, none⟩ (.int .i64 y)) := by
  obtain ⟨⟨a, ha⟩, ⟨b, hb⟩, f, g⟩ := h
  have h0 : (u.setCell ⟨r, 0, none⟩ (.int .i64 x)).cell? ⟨r, 0, none⟩ = some (.int .i64 x) := World.cell?_setCell_same _ _ _ ha
  have h1 : (u.setCell ⟨r, 0, none⟩ (.int .i64 x)).cell? ⟨r, 1, none⟩ = some (.int .i64 b) := (World.cell?_setCell_other _ _ _ _ (by simp)).trans hb
  exact ⟨⟨x, (World.cell?_setCell_other _ _ _ _ (by simp)).trans h0⟩, ⟨y, World.cell?_setCell_same _ _ _ h1⟩, by simpa [World.frozen?_setCell] using f, by simpa [World.frozen?_setCell] using g⟩
theorem RC.read0 {u : World} {r : Nat} {x y : Int} (h : RC r u) : ((u.setCell ⟨r, 0, none⟩ (.int .i64 x)).setCell ⟨r, 1, none⟩ (.int .i64 y)).cell? ⟨r, 0, none⟩ = some (.int .i64 x) := by
  obtain ⟨⟨a, ha⟩, _, f, g⟩ := h
  exact (World.cell?_setCell_other _ _ _ _ (by simp)).trans (World.cell?_setCell_same _ _ _ ha)
theorem RC.read00 {u : World} {r : Nat} {x : Int} (h : RC r u) : (u.setCell ⟨r, 0, none⟩ (.int .i64 x)).cell? ⟨r, 0, none⟩ = some (.int .i64 x) := by
  obtain ⟨⟨a, ha⟩, _, f, g⟩ := h
  exact World.cell?_setCell_same _ _ _ ha
theorem RC.read1 {u : World} {r : Nat} {x y : Int} (h : RC r u) : ((u.setCell ⟨r, 0, none⟩ (.int .i64 x)).setCell ⟨r, 1, none⟩ (.int .i64 y)).cell? ⟨r, 1, none⟩ = some (.int .i64 y) := by
  obtain ⟨_, ⟨b, hb⟩, f, g⟩ := h
  have h1 : (u.setCell ⟨r, 0, none⟩ (.int .i64 x)).cell? ⟨r, 1, none⟩ = some (.int .i64 b) := (World.cell?_setCell_other _ _ _ _ (by simp)).trans hb
  exact World.cell?_setCell_same _ _ _ h1
theorem RC.far {u : World} {r b : Nat} {x y : Value} (h : r ≠ b) (hc : RC b u) : RC b ((u.setCell ⟨r, 0, none⟩ x).setCell ⟨r, 1, none⟩ y) := by
  obtain ⟨⟨a, ha⟩, ⟨c, hb⟩, f, g⟩ := hc
  refine ⟨⟨a, ?_⟩, ⟨c, ?_⟩, by simpa [World.frozen?_setCell] using f, by simpa [World.frozen?_setCell] using g⟩
  · rw [World.cell?_setCell_far _ _ _ _ h, World.cell?_setCell_far _ _ _ _ h]; exact ha
  · rw [World.cell?_setCell_far _ _ _ _ h, World.cell?_setCell_far _ _ _ _ h]; exact hb
theorem RC.mk {u : World} {r : Nat} {a b : Int} (ha : u.cell? ⟨r, 0, none⟩ = some (.int .i64 a)) (hb : u.cell? ⟨r, 1, none⟩ = some (.int .i64 b)) (f : u.frozen? ⟨r, 0, none⟩ = false) (g : u.frozen? ⟨r, 1, none⟩ = false) : RC r u := ⟨⟨a, ha⟩, ⟨b, hb⟩, f, g⟩
theorem far {u : World} {r b o : Nat} {v x y : Value} (h : r ≠ b) (hc : u.cell? ⟨b, o, none⟩ = some v) : ((u.setCell ⟨r, 0, none⟩ x).setCell ⟨r, 1, none⟩ y).cell? ⟨b, o, none⟩ = some v := by
  rw [World.cell?_setCell_far _ _ _ _ h, World.cell?_setCell_far _ _ _ _ h]
  exact hc
theorem size2 {u : World} {r : Nat} {x y : Value} : ((u.setCell ⟨r, 0, none⟩ x).setCell ⟨r, 1, none⟩ y).heap.size = u.heap.size := by simp
theorem bcell {W w1 : World} (hb : Below W.heap.size W w1) : (∀ b o, b < W.heap.size → w1.cell? ⟨b, o, none⟩ = W.cell? ⟨b, o, none⟩) ∧ (∀ b o, b < W.heap.size → w1.frozen? ⟨b, o, none⟩ = W.frozen? ⟨b, o, none⟩) :=
  ⟨fun b o h => hb.cell (p := ⟨b, o, none⟩) h, fun b o h => hb.frozen (p := ⟨b, o, none⟩) h⟩
end Go.Proofs.YtbicmlkjonaccaaDoor.Rg
