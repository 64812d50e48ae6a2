/-
  NARROWER THAN 'FOR EVERY INPUT', by the rows' own cells (each row's printed sentence says how): TensorValidates: laid · TensorIndependent: laid · TensorElements: laid · TensorSetGet: laid · TensorZips: laid · TensorReduces: laid · TensorScanTotal: laid · TensorPermutes: laid · TensorConcats: laid · TensorRoundTrips: laid · TensorFormats: laid.
  DERIVED. THE GIVEN ROWS OF THIS SEAT. 11 by the template 'for every input the law returns true; each argument reads behind the call as it read before'; 0 by the template 'total and deterministic' (their statements: YteaaikmejacpaaaGreatDoorTotals.lean).
  GIVEN WITH THE SEED: the statements are not yours to turn. If you find one false, say at which input.
  Laid BY PROGRAM, IN A SANDBOX (cutbox-rows.mjs): the forced cells as the released guide's own fill.sh prints them over the translation 6e06855aa6eaf338… (all of the seat's roots in one cut). By AI agents, Wed Nov 11 2026. No macro, syntax, notation, axiom, sorry.
-/
import Derived.Test.YteaaikmejacpaaaGreatDoorChecked
import GoSem.Claim
import GoSem.ClaimJoined
import GoSem.ClaimMapViews
import Derived.JoinedTies
import Derived.KernelRfl
namespace Go.Proofs.YteaaikmejacpaaaGreatDoor
/- THE CELL 'sum', in the pinned program and in every row, IS THE sha256 OF THE DUMP (.gsa) THAT YteaaikmejacpaaaGreatDoorProg.lean LOADS. Nothing in Lean hashes anything: it is a label: what it is worth is what the hold of that sum in a sandbox is worth. -/
noncomputable def Tryz.pinned : Pinned := { name := "yteaaikmejacpaaagreatdoor", sum := "6e06855aa6eaf338cf56a9cc365048500aedc0d3f2dd02009bbcf5da379cf0d0", checked := Tryz.checked }
namespace Rows
def none {H : Type} : Left H := { results := [], args := [] }

/- WHAT THE LISTED PACKAGE-LEVEL VARIABLES READ AS WHEN THE CALL BEGINS. Each datum BY PROGRAM (the guide's laid-datum.mjs) off the statement by which the dump's own 'gosem.cut.vars' lays the variable. In a bare row this is a premise. The card (YteaaikmejacpaaaGreatDoorCards.lean) ties it to the program's text. -/
def laid_math_bits_deBruijn32tab {H : Type} : DataW H := .agg [.lit (.int .u8 0), .lit (.int .u8 1), .lit (.int .u8 28), .lit (.int .u8 2), .lit (.int .u8 29), .lit (.int .u8 14), .lit (.int .u8 24), .lit (.int .u8 3), .lit (.int .u8 30), .lit (.int .u8 22), .lit (.int .u8 20), .lit (.int .u8 15), .lit (.int .u8 25), .lit (.int .u8 17), .lit (.int .u8 4), .lit (.int .u8 8), .lit (.int .u8 31), .lit (.int .u8 27), .lit (.int .u8 13), .lit (.int .u8 23), .lit (.int .u8 21), .lit (.int .u8 19), .lit (.int .u8 16), .lit (.int .u8 7), .lit (.int .u8 26), .lit (.int .u8 12), .lit (.int .u8 18), .lit (.int .u8 6), .lit (.int .u8 11), .lit (.int .u8 5), .lit (.int .u8 10), .lit (.int .u8 9)]
def laid_math_bits_deBruijn64tab {H : Type} : DataW H := .agg [.lit (.int .u8 0), .lit (.int .u8 1), .lit (.int .u8 56), .lit (.int .u8 2), .lit (.int .u8 57), .lit (.int .u8 49), .lit (.int .u8 28), .lit (.int .u8 3), .lit (.int .u8 61), .lit (.int .u8 58), .lit (.int .u8 42), .lit (.int .u8 50), .lit (.int .u8 38), .lit (.int .u8 29), .lit (.int .u8 17), .lit (.int .u8 4), .lit (.int .u8 62), .lit (.int .u8 47), .lit (.int .u8 59), .lit (.int .u8 36), .lit (.int .u8 45), .lit (.int .u8 43), .lit (.int .u8 51), .lit (.int .u8 22), .lit (.int .u8 53), .lit (.int .u8 39), .lit (.int .u8 33), .lit (.int .u8 30), .lit (.int .u8 24), .lit (.int .u8 18), .lit (.int .u8 12), .lit (.int .u8 5), .lit (.int .u8 63), .lit (.int .u8 55), .lit (.int .u8 48), .lit (.int .u8 27), .lit (.int .u8 60), .lit (.int .u8 41), .lit (.int .u8 37), .lit (.int .u8 16), .lit (.int .u8 46), .lit (.int .u8 35), .lit (.int .u8 44), .lit (.int .u8 21), .lit (.int .u8 52), .lit (.int .u8 32), .lit (.int .u8 23), .lit (.int .u8 11), .lit (.int .u8 54), .lit (.int .u8 26), .lit (.int .u8 40), .lit (.int .u8 15), .lit (.int .u8 34), .lit (.int .u8 20), .lit (.int .u8 31), .lit (.int .u8 10), .lit (.int .u8 25), .lit (.int .u8 14), .lit (.int .u8 19), .lit (.int .u8 9), .lit (.int .u8 13), .lit (.int .u8 8), .lit (.int .u8 7), .lit (.int .u8 6)]
def laid_internal_strconv_uint64pow10 {H : Type} : DataW H := .agg [.lit (.int .u64 1), .lit (.int .u64 10), .lit (.int .u64 100), .lit (.int .u64 1000), .lit (.int .u64 10000), .lit (.int .u64 100000), .lit (.int .u64 1000000), .lit (.int .u64 10000000), .lit (.int .u64 100000000), .lit (.int .u64 1000000000), .lit (.int .u64 10000000000), .lit (.int .u64 100000000000), .lit (.int .u64 1000000000000), .lit (.int .u64 10000000000000), .lit (.int .u64 100000000000000), .lit (.int .u64 1000000000000000), .lit (.int .u64 10000000000000000), .lit (.int .u64 100000000000000000), .lit (.int .u64 1000000000000000000), .lit (.int .u64 10000000000000000000)]

/-- 'brocadelaw12.TensorValidates': WHATEVER THE INPUT: true; the input reads as it did. -/
def tensorValidatesSpec : ChangeSpec := { name := "tensorValidates", fn := fun _ => fun
  | [d1, d2] => { results := [.lit (.bool true)], args := [d1, d2] }
  | _ => none }
def tensorValidatesRow : OpenClaim := { program := "yteaaikmejacpaaagreatdoor", sum := "6e06855aa6eaf338cf56a9cc365048500aedc0d3f2dd02009bbcf5da379cf0d0", func := "brocade/brocadelaw12.TensorValidates", spec := "tensorValidates", inPlace := ["internal/abi.NoEscape"], unfollowed := true, recurses := true, named := ["internal/strconv.uint64pow10", "math/bits.deBruijn32tab", "math/bits.deBruijn64tab"], apart := false, laid := [("math/bits.deBruijn32tab", laid_math_bits_deBruijn32tab), ("math/bits.deBruijn64tab", laid_math_bits_deBruijn64tab), ("internal/strconv.uint64pow10", laid_internal_strconv_uint64pow10)] }
def TensorValidatesSaid : Prop := tensorValidatesRow.holds Tryz.pinned (OpenSpec.ofChange tensorValidatesSpec)

/-- ITS FALSE NEIGHBOUR: 'it returns false'. Refute it at one input. -/
def tensorValidatesWrong : ChangeSpec := { name := "tensorValidates", fn := fun _ => fun
  | [d1, d2] => { results := [.lit (.bool false)], args := [d1, d2] }
  | _ => none }
def TensorValidatesWrongFalsely : Prop := tensorValidatesRow.holds Tryz.pinned (OpenSpec.ofChange tensorValidatesWrong)

/-- 'brocadelaw12.TensorIndependent': WHATEVER THE INPUT: true; the input reads as it did. -/
def tensorIndependentSpec : ChangeSpec := { name := "tensorIndependent", fn := fun _ => fun
  | [d1, d2, d3] => { results := [.lit (.bool true)], args := [d1, d2, d3] }
  | _ => none }
def tensorIndependentRow : OpenClaim := { program := "yteaaikmejacpaaagreatdoor", sum := "6e06855aa6eaf338cf56a9cc365048500aedc0d3f2dd02009bbcf5da379cf0d0", func := "brocade/brocadelaw12.TensorIndependent", spec := "tensorIndependent", inPlace := ["internal/abi.NoEscape"], unfollowed := true, recurses := true, named := ["internal/strconv.uint64pow10", "math/bits.deBruijn32tab", "math/bits.deBruijn64tab"], apart := false, laid := [("math/bits.deBruijn32tab", laid_math_bits_deBruijn32tab), ("math/bits.deBruijn64tab", laid_math_bits_deBruijn64tab), ("internal/strconv.uint64pow10", laid_internal_strconv_uint64pow10)] }
def TensorIndependentSaid : Prop := tensorIndependentRow.holds Tryz.pinned (OpenSpec.ofChange tensorIndependentSpec)

/-- ITS FALSE NEIGHBOUR: 'it returns false'. Refute it at one input. -/
def tensorIndependentWrong : ChangeSpec := { name := "tensorIndependent", fn := fun _ => fun
  | [d1, d2, d3] => { results := [.lit (.bool false)], args := [d1, d2, d3] }
  | _ => none }
def TensorIndependentWrongFalsely : Prop := tensorIndependentRow.holds Tryz.pinned (OpenSpec.ofChange tensorIndependentWrong)

/-- 'brocadelaw12.TensorElements': WHATEVER THE INPUT: true; the input reads as it did. -/
def tensorElementsSpec : ChangeSpec := { name := "tensorElements", fn := fun _ => fun
  | [d1, d2, d3] => { results := [.lit (.bool true)], args := [d1, d2, d3] }
  | _ => none }
def tensorElementsRow : OpenClaim := { program := "yteaaikmejacpaaagreatdoor", sum := "6e06855aa6eaf338cf56a9cc365048500aedc0d3f2dd02009bbcf5da379cf0d0", func := "brocade/brocadelaw12.TensorElements", spec := "tensorElements", inPlace := ["internal/abi.NoEscape"], unfollowed := true, recurses := true, named := ["internal/strconv.uint64pow10", "math/bits.deBruijn32tab", "math/bits.deBruijn64tab"], apart := false, laid := [("math/bits.deBruijn32tab", laid_math_bits_deBruijn32tab), ("math/bits.deBruijn64tab", laid_math_bits_deBruijn64tab), ("internal/strconv.uint64pow10", laid_internal_strconv_uint64pow10)] }
def TensorElementsSaid : Prop := tensorElementsRow.holds Tryz.pinned (OpenSpec.ofChange tensorElementsSpec)

/-- ITS FALSE NEIGHBOUR: 'it returns false'. Refute it at one input. -/
def tensorElementsWrong : ChangeSpec := { name := "tensorElements", fn := fun _ => fun
  | [d1, d2, d3] => { results := [.lit (.bool false)], args := [d1, d2, d3] }
  | _ => none }
def TensorElementsWrongFalsely : Prop := tensorElementsRow.holds Tryz.pinned (OpenSpec.ofChange tensorElementsWrong)

/-- 'brocadelaw12.TensorSetGet': WHATEVER THE INPUT: true; the input reads as it did. -/
def tensorSetGetSpec : ChangeSpec := { name := "tensorSetGet", fn := fun _ => fun
  | [d1, d2, d3] => { results := [.lit (.bool true)], args := [d1, d2, d3] }
  | _ => none }
def tensorSetGetRow : OpenClaim := { program := "yteaaikmejacpaaagreatdoor", sum := "6e06855aa6eaf338cf56a9cc365048500aedc0d3f2dd02009bbcf5da379cf0d0", func := "brocade/brocadelaw12.TensorSetGet", spec := "tensorSetGet", inPlace := ["internal/abi.NoEscape"], unfollowed := true, recurses := true, named := ["internal/strconv.uint64pow10", "math/bits.deBruijn32tab", "math/bits.deBruijn64tab"], apart := false, laid := [("math/bits.deBruijn32tab", laid_math_bits_deBruijn32tab), ("math/bits.deBruijn64tab", laid_math_bits_deBruijn64tab), ("internal/strconv.uint64pow10", laid_internal_strconv_uint64pow10)] }
def TensorSetGetSaid : Prop := tensorSetGetRow.holds Tryz.pinned (OpenSpec.ofChange tensorSetGetSpec)

/-- ITS FALSE NEIGHBOUR: 'it returns false'. Refute it at one input. -/
def tensorSetGetWrong : ChangeSpec := { name := "tensorSetGet", fn := fun _ => fun
  | [d1, d2, d3] => { results := [.lit (.bool false)], args := [d1, d2, d3] }
  | _ => none }
def TensorSetGetWrongFalsely : Prop := tensorSetGetRow.holds Tryz.pinned (OpenSpec.ofChange tensorSetGetWrong)

/-- 'brocadelaw12.TensorZips': WHATEVER THE INPUT: true; the input reads as it did. -/
def tensorZipsSpec : ChangeSpec := { name := "tensorZips", fn := fun _ => fun
  | [d1, d2, d3, d4] => { results := [.lit (.bool true)], args := [d1, d2, d3, d4] }
  | _ => none }
def tensorZipsRow : OpenClaim := { program := "yteaaikmejacpaaagreatdoor", sum := "6e06855aa6eaf338cf56a9cc365048500aedc0d3f2dd02009bbcf5da379cf0d0", func := "brocade/brocadelaw12.TensorZips", spec := "tensorZips", inPlace := ["internal/abi.NoEscape"], unfollowed := true, recurses := true, named := ["internal/strconv.uint64pow10", "math/bits.deBruijn32tab", "math/bits.deBruijn64tab"], apart := false, laid := [("math/bits.deBruijn32tab", laid_math_bits_deBruijn32tab), ("math/bits.deBruijn64tab", laid_math_bits_deBruijn64tab), ("internal/strconv.uint64pow10", laid_internal_strconv_uint64pow10)] }
def TensorZipsSaid : Prop := tensorZipsRow.holds Tryz.pinned (OpenSpec.ofChange tensorZipsSpec)

/-- ITS FALSE NEIGHBOUR: 'it returns false'. Refute it at one input. -/
def tensorZipsWrong : ChangeSpec := { name := "tensorZips", fn := fun _ => fun
  | [d1, d2, d3, d4] => { results := [.lit (.bool false)], args := [d1, d2, d3, d4] }
  | _ => none }
def TensorZipsWrongFalsely : Prop := tensorZipsRow.holds Tryz.pinned (OpenSpec.ofChange tensorZipsWrong)

/-- 'brocadelaw12.TensorReduces': WHATEVER THE INPUT: true; the input reads as it did. -/
def tensorReducesSpec : ChangeSpec := { name := "tensorReduces", fn := fun _ => fun
  | [d1, d2, d3] => { results := [.lit (.bool true)], args := [d1, d2, d3] }
  | _ => none }
def tensorReducesRow : OpenClaim := { program := "yteaaikmejacpaaagreatdoor", sum := "6e06855aa6eaf338cf56a9cc365048500aedc0d3f2dd02009bbcf5da379cf0d0", func := "brocade/brocadelaw12.TensorReduces", spec := "tensorReduces", inPlace := ["internal/abi.NoEscape"], unfollowed := true, recurses := true, named := ["internal/strconv.uint64pow10", "math/bits.deBruijn32tab", "math/bits.deBruijn64tab"], apart := false, laid := [("math/bits.deBruijn32tab", laid_math_bits_deBruijn32tab), ("math/bits.deBruijn64tab", laid_math_bits_deBruijn64tab), ("internal/strconv.uint64pow10", laid_internal_strconv_uint64pow10)] }
def TensorReducesSaid : Prop := tensorReducesRow.holds Tryz.pinned (OpenSpec.ofChange tensorReducesSpec)

/-- ITS FALSE NEIGHBOUR: 'it returns false'. Refute it at one input. -/
def tensorReducesWrong : ChangeSpec := { name := "tensorReduces", fn := fun _ => fun
  | [d1, d2, d3] => { results := [.lit (.bool false)], args := [d1, d2, d3] }
  | _ => none }
def TensorReducesWrongFalsely : Prop := tensorReducesRow.holds Tryz.pinned (OpenSpec.ofChange tensorReducesWrong)

/-- 'brocadelaw12.TensorScanTotal': WHATEVER THE INPUT: true; the input reads as it did. -/
def tensorScanTotalSpec : ChangeSpec := { name := "tensorScanTotal", fn := fun _ => fun
  | [d1, d2] => { results := [.lit (.bool true)], args := [d1, d2] }
  | _ => none }
def tensorScanTotalRow : OpenClaim := { program := "yteaaikmejacpaaagreatdoor", sum := "6e06855aa6eaf338cf56a9cc365048500aedc0d3f2dd02009bbcf5da379cf0d0", func := "brocade/brocadelaw12.TensorScanTotal", spec := "tensorScanTotal", inPlace := ["internal/abi.NoEscape"], unfollowed := true, recurses := true, named := ["internal/strconv.uint64pow10", "math/bits.deBruijn32tab", "math/bits.deBruijn64tab"], apart := false, laid := [("math/bits.deBruijn32tab", laid_math_bits_deBruijn32tab), ("math/bits.deBruijn64tab", laid_math_bits_deBruijn64tab), ("internal/strconv.uint64pow10", laid_internal_strconv_uint64pow10)] }
def TensorScanTotalSaid : Prop := tensorScanTotalRow.holds Tryz.pinned (OpenSpec.ofChange tensorScanTotalSpec)

/-- ITS FALSE NEIGHBOUR: 'it returns false'. Refute it at one input. -/
def tensorScanTotalWrong : ChangeSpec := { name := "tensorScanTotal", fn := fun _ => fun
  | [d1, d2] => { results := [.lit (.bool false)], args := [d1, d2] }
  | _ => none }
def TensorScanTotalWrongFalsely : Prop := tensorScanTotalRow.holds Tryz.pinned (OpenSpec.ofChange tensorScanTotalWrong)

/-- 'brocadelaw12.TensorPermutes': WHATEVER THE INPUT: true; the input reads as it did. -/
def tensorPermutesSpec : ChangeSpec := { name := "tensorPermutes", fn := fun _ => fun
  | [d1, d2, d3, d4, d5] => { results := [.lit (.bool true)], args := [d1, d2, d3, d4, d5] }
  | _ => none }
def tensorPermutesRow : OpenClaim := { program := "yteaaikmejacpaaagreatdoor", sum := "6e06855aa6eaf338cf56a9cc365048500aedc0d3f2dd02009bbcf5da379cf0d0", func := "brocade/brocadelaw12.TensorPermutes", spec := "tensorPermutes", inPlace := ["internal/abi.NoEscape"], unfollowed := true, recurses := true, named := ["internal/strconv.uint64pow10", "math/bits.deBruijn32tab", "math/bits.deBruijn64tab"], apart := false, laid := [("math/bits.deBruijn32tab", laid_math_bits_deBruijn32tab), ("math/bits.deBruijn64tab", laid_math_bits_deBruijn64tab), ("internal/strconv.uint64pow10", laid_internal_strconv_uint64pow10)] }
def TensorPermutesSaid : Prop := tensorPermutesRow.holds Tryz.pinned (OpenSpec.ofChange tensorPermutesSpec)

/-- ITS FALSE NEIGHBOUR: 'it returns false'. Refute it at one input. -/
def tensorPermutesWrong : ChangeSpec := { name := "tensorPermutes", fn := fun _ => fun
  | [d1, d2, d3, d4, d5] => { results := [.lit (.bool false)], args := [d1, d2, d3, d4, d5] }
  | _ => none }
def TensorPermutesWrongFalsely : Prop := tensorPermutesRow.holds Tryz.pinned (OpenSpec.ofChange tensorPermutesWrong)

/-- 'brocadelaw12.TensorConcats': WHATEVER THE INPUT: true; the input reads as it did. -/
def tensorConcatsSpec : ChangeSpec := { name := "tensorConcats", fn := fun _ => fun
  | [d1, d2] => { results := [.lit (.bool true)], args := [d1, d2] }
  | _ => none }
def tensorConcatsRow : OpenClaim := { program := "yteaaikmejacpaaagreatdoor", sum := "6e06855aa6eaf338cf56a9cc365048500aedc0d3f2dd02009bbcf5da379cf0d0", func := "brocade/brocadelaw12.TensorConcats", spec := "tensorConcats", inPlace := ["internal/abi.NoEscape"], unfollowed := true, recurses := true, named := ["internal/strconv.uint64pow10", "math/bits.deBruijn32tab", "math/bits.deBruijn64tab"], apart := false, laid := [("math/bits.deBruijn32tab", laid_math_bits_deBruijn32tab), ("math/bits.deBruijn64tab", laid_math_bits_deBruijn64tab), ("internal/strconv.uint64pow10", laid_internal_strconv_uint64pow10)] }
def TensorConcatsSaid : Prop := tensorConcatsRow.holds Tryz.pinned (OpenSpec.ofChange tensorConcatsSpec)

/-- ITS FALSE NEIGHBOUR: 'it returns false'. Refute it at one input. -/
def tensorConcatsWrong : ChangeSpec := { name := "tensorConcats", fn := fun _ => fun
  | [d1, d2] => { results := [.lit (.bool false)], args := [d1, d2] }
  | _ => none }
def TensorConcatsWrongFalsely : Prop := tensorConcatsRow.holds Tryz.pinned (OpenSpec.ofChange tensorConcatsWrong)

/-- 'brocadelaw12.TensorRoundTrips': WHATEVER THE INPUT: true; the input reads as it did. -/
def tensorRoundTripsSpec : ChangeSpec := { name := "tensorRoundTrips", fn := fun _ => fun
  | [d1, d2, d3, d4] => { results := [.lit (.bool true)], args := [d1, d2, d3, d4] }
  | _ => none }
def tensorRoundTripsRow : OpenClaim := { program := "yteaaikmejacpaaagreatdoor", sum := "6e06855aa6eaf338cf56a9cc365048500aedc0d3f2dd02009bbcf5da379cf0d0", func := "brocade/brocadelaw12.TensorRoundTrips", spec := "tensorRoundTrips", inPlace := ["internal/abi.NoEscape"], unfollowed := true, recurses := true, named := ["internal/strconv.uint64pow10", "math/bits.deBruijn32tab", "math/bits.deBruijn64tab"], apart := false, laid := [("math/bits.deBruijn32tab", laid_math_bits_deBruijn32tab), ("math/bits.deBruijn64tab", laid_math_bits_deBruijn64tab), ("internal/strconv.uint64pow10", laid_internal_strconv_uint64pow10)] }
def TensorRoundTripsSaid : Prop := tensorRoundTripsRow.holds Tryz.pinned (OpenSpec.ofChange tensorRoundTripsSpec)

/-- ITS FALSE NEIGHBOUR: 'it returns false'. Refute it at one input. -/
def tensorRoundTripsWrong : ChangeSpec := { name := "tensorRoundTrips", fn := fun _ => fun
  | [d1, d2, d3, d4] => { results := [.lit (.bool false)], args := [d1, d2, d3, d4] }
  | _ => none }
def TensorRoundTripsWrongFalsely : Prop := tensorRoundTripsRow.holds Tryz.pinned (OpenSpec.ofChange tensorRoundTripsWrong)

/-- 'brocadelaw12.TensorFormats': WHATEVER THE INPUT: true; the input reads as it did. -/
def tensorFormatsSpec : ChangeSpec := { name := "tensorFormats", fn := fun _ => fun
  | [d1, d2] => { results := [.lit (.bool true)], args := [d1, d2] }
  | _ => none }
def tensorFormatsRow : OpenClaim := { program := "yteaaikmejacpaaagreatdoor", sum := "6e06855aa6eaf338cf56a9cc365048500aedc0d3f2dd02009bbcf5da379cf0d0", func := "brocade/brocadelaw12.TensorFormats", spec := "tensorFormats", inPlace := ["internal/abi.NoEscape"], unfollowed := true, recurses := true, named := ["internal/strconv.uint64pow10", "math/bits.deBruijn32tab", "math/bits.deBruijn64tab"], apart := false, laid := [("math/bits.deBruijn32tab", laid_math_bits_deBruijn32tab), ("math/bits.deBruijn64tab", laid_math_bits_deBruijn64tab), ("internal/strconv.uint64pow10", laid_internal_strconv_uint64pow10)] }
def TensorFormatsSaid : Prop := tensorFormatsRow.holds Tryz.pinned (OpenSpec.ofChange tensorFormatsSpec)

/-- ITS FALSE NEIGHBOUR: 'it returns false'. Refute it at one input. -/
def tensorFormatsWrong : ChangeSpec := { name := "tensorFormats", fn := fun _ => fun
  | [d1, d2] => { results := [.lit (.bool false)], args := [d1, d2] }
  | _ => none }
def TensorFormatsWrongFalsely : Prop := tensorFormatsRow.holds Tryz.pinned (OpenSpec.ofChange tensorFormatsWrong)

/- THE SECOND FORM. 'bulk': how many values and letters a reading holds, each counted each time it is reached (what is shared counts as often as it is met; a slice's spare places count too). A statement '..UptoSaid' is the law's where the arguments, and the package variables that the reading takes, are together of bulk at most 1048576: NARROWER than '..Said'. Prove '..Said' where nothing that the law and all that it calls make is longer than what came in: it says more and counts as full. Else prove '..UptoSaid'. A law counts once. -/
mutual
def uptoBulk {H : Type} : DataW H → Nat
  | .lit (.string bytes) => bytes.length + 1
  | .lit _ => 1
  | .nil => 1
  | .ptr d => uptoBulk d + 1
  | .slice elems spare => uptoBulkAll elems + uptoBulkAll spare + 1
  | .agg parts => uptoBulkAll parts + 1
  | .iface _ d => uptoBulk d + 1
  | .map entries => uptoBulkEntries entries + 1
  | .held _ => 1
def uptoBulkAll {H : Type} : List (DataW H) → Nat
  | [] => 0
  | d :: r => uptoBulk d + uptoBulkAll r
def uptoBulkEntries {H : Type} : List (Lit × DataW H) → Nat
  | [] => 0
  | x :: r => uptoBulkEntry x + uptoBulkEntries r
def uptoBulkEntry {H : Type} : Lit × DataW H → Nat
  | (.string bytes, d) => bytes.length + uptoBulk d + 1
  | (_, d) => uptoBulk d + 1
 end
def uptoSmall : (H : Type) → List (DataW H) → Bool := fun _ ds => decide (uptoBulkAll ds ≤ 1048576)
def OpenSpec.upto (s : _root_.Go.ChangeSpec) : _root_.Go.OpenSpec := { _root_.Go.OpenSpec.ofChange s with cond := some uptoSmall }

/-- 'brocadelaw12.TensorValidates', WHERE WHAT IT READS IS OF BULK AT MOST 1048576: true; the input reads as it did. -/
def tensorValidatesUptoRow : OpenClaim := { program := "yteaaikmejacpaaagreatdoor", sum := "6e06855aa6eaf338cf56a9cc365048500aedc0d3f2dd02009bbcf5da379cf0d0", func := "brocade/brocadelaw12.TensorValidates", spec := "tensorValidates", inPlace := ["internal/abi.NoEscape"], unfollowed := true, recurses := true, named := ["internal/strconv.uint64pow10", "math/bits.deBruijn32tab", "math/bits.deBruijn64tab"], apart := false, laid := [("math/bits.deBruijn32tab", laid_math_bits_deBruijn32tab), ("math/bits.deBruijn64tab", laid_math_bits_deBruijn64tab), ("internal/strconv.uint64pow10", laid_internal_strconv_uint64pow10)], narrowed := true }
def TensorValidatesUptoSaid : Prop := tensorValidatesUptoRow.holds Tryz.pinned (OpenSpec.upto tensorValidatesSpec)

/-- 'brocadelaw12.TensorIndependent', WHERE WHAT IT READS IS OF BULK AT MOST 1048576: true; the input reads as it did. -/
def tensorIndependentUptoRow : OpenClaim := { program := "yteaaikmejacpaaagreatdoor", sum := "6e06855aa6eaf338cf56a9cc365048500aedc0d3f2dd02009bbcf5da379cf0d0", func := "brocade/brocadelaw12.TensorIndependent", spec := "tensorIndependent", inPlace := ["internal/abi.NoEscape"], unfollowed := true, recurses := true, named := ["internal/strconv.uint64pow10", "math/bits.deBruijn32tab", "math/bits.deBruijn64tab"], apart := false, laid := [("math/bits.deBruijn32tab", laid_math_bits_deBruijn32tab), ("math/bits.deBruijn64tab", laid_math_bits_deBruijn64tab), ("internal/strconv.uint64pow10", laid_internal_strconv_uint64pow10)], narrowed := true }
def TensorIndependentUptoSaid : Prop := tensorIndependentUptoRow.holds Tryz.pinned (OpenSpec.upto tensorIndependentSpec)

/-- 'brocadelaw12.TensorElements', WHERE WHAT IT READS IS OF BULK AT MOST 1048576: true; the input reads as it did. -/
def tensorElementsUptoRow : OpenClaim := { program := "yteaaikmejacpaaagreatdoor", sum := "6e06855aa6eaf338cf56a9cc365048500aedc0d3f2dd02009bbcf5da379cf0d0", func := "brocade/brocadelaw12.TensorElements", spec := "tensorElements", inPlace := ["internal/abi.NoEscape"], unfollowed := true, recurses := true, named := ["internal/strconv.uint64pow10", "math/bits.deBruijn32tab", "math/bits.deBruijn64tab"], apart := false, laid := [("math/bits.deBruijn32tab", laid_math_bits_deBruijn32tab), ("math/bits.deBruijn64tab", laid_math_bits_deBruijn64tab), ("internal/strconv.uint64pow10", laid_internal_strconv_uint64pow10)], narrowed := true }
def TensorElementsUptoSaid : Prop := tensorElementsUptoRow.holds Tryz.pinned (OpenSpec.upto tensorElementsSpec)

/-- 'brocadelaw12.TensorSetGet', WHERE WHAT IT READS IS OF BULK AT MOST 1048576: true; the input reads as it did. -/
def tensorSetGetUptoRow : OpenClaim := { program := "yteaaikmejacpaaagreatdoor", sum := "6e06855aa6eaf338cf56a9cc365048500aedc0d3f2dd02009bbcf5da379cf0d0", func := "brocade/brocadelaw12.TensorSetGet", spec := "tensorSetGet", inPlace := ["internal/abi.NoEscape"], unfollowed := true, recurses := true, named := ["internal/strconv.uint64pow10", "math/bits.deBruijn32tab", "math/bits.deBruijn64tab"], apart := false, laid := [("math/bits.deBruijn32tab", laid_math_bits_deBruijn32tab), ("math/bits.deBruijn64tab", laid_math_bits_deBruijn64tab), ("internal/strconv.uint64pow10", laid_internal_strconv_uint64pow10)], narrowed := true }
def TensorSetGetUptoSaid : Prop := tensorSetGetUptoRow.holds Tryz.pinned (OpenSpec.upto tensorSetGetSpec)

/-- 'brocadelaw12.TensorZips', WHERE WHAT IT READS IS OF BULK AT MOST 1048576: true; the input reads as it did. -/
def tensorZipsUptoRow : OpenClaim := { program := "yteaaikmejacpaaagreatdoor", sum := "6e06855aa6eaf338cf56a9cc365048500aedc0d3f2dd02009bbcf5da379cf0d0", func := "brocade/brocadelaw12.TensorZips", spec := "tensorZips", inPlace := ["internal/abi.NoEscape"], unfollowed := true, recurses := true, named := ["internal/strconv.uint64pow10", "math/bits.deBruijn32tab", "math/bits.deBruijn64tab"], apart := false, laid := [("math/bits.deBruijn32tab", laid_math_bits_deBruijn32tab), ("math/bits.deBruijn64tab", laid_math_bits_deBruijn64tab), ("internal/strconv.uint64pow10", laid_internal_strconv_uint64pow10)], narrowed := true }
def TensorZipsUptoSaid : Prop := tensorZipsUptoRow.holds Tryz.pinned (OpenSpec.upto tensorZipsSpec)

/-- 'brocadelaw12.TensorReduces', WHERE WHAT IT READS IS OF BULK AT MOST 1048576: true; the input reads as it did. -/
def tensorReducesUptoRow : OpenClaim := { program := "yteaaikmejacpaaagreatdoor", sum := "6e06855aa6eaf338cf56a9cc365048500aedc0d3f2dd02009bbcf5da379cf0d0", func := "brocade/brocadelaw12.TensorReduces", spec := "tensorReduces", inPlace := ["internal/abi.NoEscape"], unfollowed := true, recurses := true, named := ["internal/strconv.uint64pow10", "math/bits.deBruijn32tab", "math/bits.deBruijn64tab"], apart := false, laid := [("math/bits.deBruijn32tab", laid_math_bits_deBruijn32tab), ("math/bits.deBruijn64tab", laid_math_bits_deBruijn64tab), ("internal/strconv.uint64pow10", laid_internal_strconv_uint64pow10)], narrowed := true }
def TensorReducesUptoSaid : Prop := tensorReducesUptoRow.holds Tryz.pinned (OpenSpec.upto tensorReducesSpec)

/-- 'brocadelaw12.TensorScanTotal', WHERE WHAT IT READS IS OF BULK AT MOST 1048576: true; the input reads as it did. -/
def tensorScanTotalUptoRow : OpenClaim := { program := "yteaaikmejacpaaagreatdoor", sum := "6e06855aa6eaf338cf56a9cc365048500aedc0d3f2dd02009bbcf5da379cf0d0", func := "brocade/brocadelaw12.TensorScanTotal", spec := "tensorScanTotal", inPlace := ["internal/abi.NoEscape"], unfollowed := true, recurses := true, named := ["internal/strconv.uint64pow10", "math/bits.deBruijn32tab", "math/bits.deBruijn64tab"], apart := false, laid := [("math/bits.deBruijn32tab", laid_math_bits_deBruijn32tab), ("math/bits.deBruijn64tab", laid_math_bits_deBruijn64tab), ("internal/strconv.uint64pow10", laid_internal_strconv_uint64pow10)], narrowed := true }
def TensorScanTotalUptoSaid : Prop := tensorScanTotalUptoRow.holds Tryz.pinned (OpenSpec.upto tensorScanTotalSpec)

/-- 'brocadelaw12.TensorPermutes', WHERE WHAT IT READS IS OF BULK AT MOST 1048576: true; the input reads as it did. -/
def tensorPermutesUptoRow : OpenClaim := { program := "yteaaikmejacpaaagreatdoor", sum := "6e06855aa6eaf338cf56a9cc365048500aedc0d3f2dd02009bbcf5da379cf0d0", func := "brocade/brocadelaw12.TensorPermutes", spec := "tensorPermutes", inPlace := ["internal/abi.NoEscape"], unfollowed := true, recurses := true, named := ["internal/strconv.uint64pow10", "math/bits.deBruijn32tab", "math/bits.deBruijn64tab"], apart := false, laid := [("math/bits.deBruijn32tab", laid_math_bits_deBruijn32tab), ("math/bits.deBruijn64tab", laid_math_bits_deBruijn64tab), ("internal/strconv.uint64pow10", laid_internal_strconv_uint64pow10)], narrowed := true }
def TensorPermutesUptoSaid : Prop := tensorPermutesUptoRow.holds Tryz.pinned (OpenSpec.upto tensorPermutesSpec)

/-- 'brocadelaw12.TensorConcats', WHERE WHAT IT READS IS OF BULK AT MOST 1048576: true; the input reads as it did. -/
def tensorConcatsUptoRow : OpenClaim := { program := "yteaaikmejacpaaagreatdoor", sum := "6e06855aa6eaf338cf56a9cc365048500aedc0d3f2dd02009bbcf5da379cf0d0", func := "brocade/brocadelaw12.TensorConcats", spec := "tensorConcats", inPlace := ["internal/abi.NoEscape"], unfollowed := true, recurses := true, named := ["internal/strconv.uint64pow10", "math/bits.deBruijn32tab", "math/bits.deBruijn64tab"], apart := false, laid := [("math/bits.deBruijn32tab", laid_math_bits_deBruijn32tab), ("math/bits.deBruijn64tab", laid_math_bits_deBruijn64tab), ("internal/strconv.uint64pow10", laid_internal_strconv_uint64pow10)], narrowed := true }
def TensorConcatsUptoSaid : Prop := tensorConcatsUptoRow.holds Tryz.pinned (OpenSpec.upto tensorConcatsSpec)

/-- 'brocadelaw12.TensorRoundTrips', WHERE WHAT IT READS IS OF BULK AT MOST 1048576: true; the input reads as it did. -/
def tensorRoundTripsUptoRow : OpenClaim := { program := "yteaaikmejacpaaagreatdoor", sum := "6e06855aa6eaf338cf56a9cc365048500aedc0d3f2dd02009bbcf5da379cf0d0", func := "brocade/brocadelaw12.TensorRoundTrips", spec := "tensorRoundTrips", inPlace := ["internal/abi.NoEscape"], unfollowed := true, recurses := true, named := ["internal/strconv.uint64pow10", "math/bits.deBruijn32tab", "math/bits.deBruijn64tab"], apart := false, laid := [("math/bits.deBruijn32tab", laid_math_bits_deBruijn32tab), ("math/bits.deBruijn64tab", laid_math_bits_deBruijn64tab), ("internal/strconv.uint64pow10", laid_internal_strconv_uint64pow10)], narrowed := true }
def TensorRoundTripsUptoSaid : Prop := tensorRoundTripsUptoRow.holds Tryz.pinned (OpenSpec.upto tensorRoundTripsSpec)

/-- 'brocadelaw12.TensorFormats', WHERE WHAT IT READS IS OF BULK AT MOST 1048576: true; the input reads as it did. -/
def tensorFormatsUptoRow : OpenClaim := { program := "yteaaikmejacpaaagreatdoor", sum := "6e06855aa6eaf338cf56a9cc365048500aedc0d3f2dd02009bbcf5da379cf0d0", func := "brocade/brocadelaw12.TensorFormats", spec := "tensorFormats", inPlace := ["internal/abi.NoEscape"], unfollowed := true, recurses := true, named := ["internal/strconv.uint64pow10", "math/bits.deBruijn32tab", "math/bits.deBruijn64tab"], apart := false, laid := [("math/bits.deBruijn32tab", laid_math_bits_deBruijn32tab), ("math/bits.deBruijn64tab", laid_math_bits_deBruijn64tab), ("internal/strconv.uint64pow10", laid_internal_strconv_uint64pow10)], narrowed := true }
def TensorFormatsUptoSaid : Prop := tensorFormatsUptoRow.holds Tryz.pinned (OpenSpec.upto tensorFormatsSpec)

end Rows
end Go.Proofs.YteaaikmejacpaaaGreatDoor
