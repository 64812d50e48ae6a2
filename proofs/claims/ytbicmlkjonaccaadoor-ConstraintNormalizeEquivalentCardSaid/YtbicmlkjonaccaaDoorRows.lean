/-
  NARROWER THAN 'FOR EVERY INPUT', by the rows' own cells (each row's printed sentence says how): LinValidates: laid · ConstraintEval: laid · ConstraintTighten: laid · ConstraintTightenExact: laid · ConstraintNegate: laid · ConstraintComplement: laid · ConstraintCombine: laid · ConstraintCombineSound: laid · ConstraintNormalize: laid · ConstraintNormalizeEquivalent: laid · ConstraintFormat: laid.
  DERIVED. THE GIVEN ROWS OF THIS SEAT. 11 by the template 'for every input the law returns true; each argument reads behind the call as it read before'; 0 by the template 'total and deterministic' (their statements: YtbicmlkjonaccaaDoorTotals.lean).
  GIVEN WITH THE SEED: the statements are not yours to turn. If you find one false, say at which input.
  Laid BY PROGRAM, IN A SANDBOX (cutbox-rows.mjs): the forced cells as the released guide's own fill.sh prints them over the translation d0893084e88f2b08… (all of the seat's roots in one cut). By AI agents, Wed Nov 11 2026. No macro, syntax, notation, axiom, sorry.
-/
import Derived.Test.YtbicmlkjonaccaaDoorChecked
import GoSem.Claim
import GoSem.ClaimJoined
import GoSem.ClaimMapViews
import Derived.JoinedTies
import Derived.KernelRfl
namespace Go.Proofs.YtbicmlkjonaccaaDoor
/- THE CELL 'sum', in the pinned program and in every row, IS THE sha256 OF THE DUMP (.gsa) THAT YtbicmlkjonaccaaDoorProg.lean LOADS. Nothing in Lean hashes anything: it is a label: what it is worth is what the hold of that sum in a sandbox is worth. -/
noncomputable def Tryd.pinned : Pinned := { name := "ytbicmlkjonaccaadoor", sum := "d0893084e88f2b089b195ae70c4e1073bbbd2fa67d0e90b10f6bb73a64b4171b", checked := Tryd.checked }
namespace Rows
def none {H : Type} : Left H := { results := [], args := [] }

/- WHAT THE LISTED PACKAGE-LEVEL VARIABLES READ AS WHEN THE CALL BEGINS. Each datum BY PROGRAM (the guide's laid-datum.mjs) off the statement by which the dump's own 'gosem.cut.vars' lays the variable. In a bare row this is a premise. The card (YtbicmlkjonaccaaDoorCards.lean) ties it to the program's text. -/
def laid_math_bits_deBruijn32tab {H : Type} : DataW H := .agg [.lit (.int .u8 0), .lit (.int .u8 1), .lit (.int .u8 28), .lit (.int .u8 2), .lit (.int .u8 29), .lit (.int .u8 14), .lit (.int .u8 24), .lit (.int .u8 3), .lit (.int .u8 30), .lit (.int .u8 22), .lit (.int .u8 20), .lit (.int .u8 15), .lit (.int .u8 25), .lit (.int .u8 17), .lit (.int .u8 4), .lit (.int .u8 8), .lit (.int .u8 31), .lit (.int .u8 27), .lit (.int .u8 13), .lit (.int .u8 23), .lit (.int .u8 21), .lit (.int .u8 19), .lit (.int .u8 16), .lit (.int .u8 7), .lit (.int .u8 26), .lit (.int .u8 12), .lit (.int .u8 18), .lit (.int .u8 6), .lit (.int .u8 11), .lit (.int .u8 5), .lit (.int .u8 10), .lit (.int .u8 9)]
def laid_math_bits_deBruijn64tab {H : Type} : DataW H := .agg [.lit (.int .u8 0), .lit (.int .u8 1), .lit (.int .u8 56), .lit (.int .u8 2), .lit (.int .u8 57), .lit (.int .u8 49), .lit (.int .u8 28), .lit (.int .u8 3), .lit (.int .u8 61), .lit (.int .u8 58), .lit (.int .u8 42), .lit (.int .u8 50), .lit (.int .u8 38), .lit (.int .u8 29), .lit (.int .u8 17), .lit (.int .u8 4), .lit (.int .u8 62), .lit (.int .u8 47), .lit (.int .u8 59), .lit (.int .u8 36), .lit (.int .u8 45), .lit (.int .u8 43), .lit (.int .u8 51), .lit (.int .u8 22), .lit (.int .u8 53), .lit (.int .u8 39), .lit (.int .u8 33), .lit (.int .u8 30), .lit (.int .u8 24), .lit (.int .u8 18), .lit (.int .u8 12), .lit (.int .u8 5), .lit (.int .u8 63), .lit (.int .u8 55), .lit (.int .u8 48), .lit (.int .u8 27), .lit (.int .u8 60), .lit (.int .u8 41), .lit (.int .u8 37), .lit (.int .u8 16), .lit (.int .u8 46), .lit (.int .u8 35), .lit (.int .u8 44), .lit (.int .u8 21), .lit (.int .u8 52), .lit (.int .u8 32), .lit (.int .u8 23), .lit (.int .u8 11), .lit (.int .u8 54), .lit (.int .u8 26), .lit (.int .u8 40), .lit (.int .u8 15), .lit (.int .u8 34), .lit (.int .u8 20), .lit (.int .u8 31), .lit (.int .u8 10), .lit (.int .u8 25), .lit (.int .u8 14), .lit (.int .u8 19), .lit (.int .u8 9), .lit (.int .u8 13), .lit (.int .u8 8), .lit (.int .u8 7), .lit (.int .u8 6)]
def laid_internal_strconv_uint64pow10 {H : Type} : DataW H := .agg [.lit (.int .u64 1), .lit (.int .u64 10), .lit (.int .u64 100), .lit (.int .u64 1000), .lit (.int .u64 10000), .lit (.int .u64 100000), .lit (.int .u64 1000000), .lit (.int .u64 10000000), .lit (.int .u64 100000000), .lit (.int .u64 1000000000), .lit (.int .u64 10000000000), .lit (.int .u64 100000000000), .lit (.int .u64 1000000000000), .lit (.int .u64 10000000000000), .lit (.int .u64 100000000000000), .lit (.int .u64 1000000000000000), .lit (.int .u64 10000000000000000), .lit (.int .u64 100000000000000000), .lit (.int .u64 1000000000000000000), .lit (.int .u64 10000000000000000000)]

/-- 'brocadelaw05.LinValidates': WHATEVER THE INPUT: true; the input reads as it did. -/
def linValidatesSpec : ChangeSpec := { name := "linValidates", fn := fun _ => fun
  | [d] => { results := [.lit (.bool true)], args := [d] }
  | _ => none }
def linValidatesRow : OpenClaim := { program := "ytbicmlkjonaccaadoor", sum := "d0893084e88f2b089b195ae70c4e1073bbbd2fa67d0e90b10f6bb73a64b4171b", func := "brocade/brocadelaw05.LinValidates", spec := "linValidates", inPlace := ["math/bits.Add64", "internal/abi.NoEscape"], unfollowed := true, recurses := true, named := ["internal/strconv.uint64pow10", "math/bits.deBruijn32tab", "math/bits.deBruijn64tab"], apart := false, laid := [("math/bits.deBruijn32tab", laid_math_bits_deBruijn32tab), ("math/bits.deBruijn64tab", laid_math_bits_deBruijn64tab), ("internal/strconv.uint64pow10", laid_internal_strconv_uint64pow10)] }
def LinValidatesSaid : Prop := linValidatesRow.holds Tryd.pinned (OpenSpec.ofChange linValidatesSpec)

/-- ITS FALSE NEIGHBOUR: 'it returns false'. Refute it at one input. -/
def linValidatesWrong : ChangeSpec := { name := "linValidates", fn := fun _ => fun
  | [d] => { results := [.lit (.bool false)], args := [d] }
  | _ => none }
def LinValidatesWrongFalsely : Prop := linValidatesRow.holds Tryd.pinned (OpenSpec.ofChange linValidatesWrong)

/-- 'brocadelaw06.ConstraintEval': WHATEVER THE INPUT: true; the input reads as it did. -/
def constraintEvalSpec : ChangeSpec := { name := "constraintEval", fn := fun _ => fun
  | [d1, d2] => { results := [.lit (.bool true)], args := [d1, d2] }
  | _ => none }
def constraintEvalRow : OpenClaim := { program := "ytbicmlkjonaccaadoor", sum := "d0893084e88f2b089b195ae70c4e1073bbbd2fa67d0e90b10f6bb73a64b4171b", func := "brocade/brocadelaw06.ConstraintEval", spec := "constraintEval", inPlace := ["math/bits.Add64", "internal/bytealg.abigen_runtime_cmpstring", "internal/abi.NoEscape"], unfollowed := true, recurses := true, named := ["internal/strconv.uint64pow10", "math/bits.deBruijn32tab", "math/bits.deBruijn64tab"], apart := false, laid := [("math/bits.deBruijn32tab", laid_math_bits_deBruijn32tab), ("math/bits.deBruijn64tab", laid_math_bits_deBruijn64tab), ("internal/strconv.uint64pow10", laid_internal_strconv_uint64pow10)] }
def ConstraintEvalSaid : Prop := constraintEvalRow.holds Tryd.pinned (OpenSpec.ofChange constraintEvalSpec)

/-- ITS FALSE NEIGHBOUR: 'it returns false'. Refute it at one input. -/
def constraintEvalWrong : ChangeSpec := { name := "constraintEval", fn := fun _ => fun
  | [d1, d2] => { results := [.lit (.bool false)], args := [d1, d2] }
  | _ => none }
def ConstraintEvalWrongFalsely : Prop := constraintEvalRow.holds Tryd.pinned (OpenSpec.ofChange constraintEvalWrong)

/-- 'brocadelaw06.ConstraintTighten': WHATEVER THE INPUT: true; the input reads as it did. -/
def constraintTightenSpec : ChangeSpec := { name := "constraintTighten", fn := fun _ => fun
  | [d] => { results := [.lit (.bool true)], args := [d] }
  | _ => none }
def constraintTightenRow : OpenClaim := { program := "ytbicmlkjonaccaadoor", sum := "d0893084e88f2b089b195ae70c4e1073bbbd2fa67d0e90b10f6bb73a64b4171b", func := "brocade/brocadelaw06.ConstraintTighten", spec := "constraintTighten", inPlace := ["math/bits.Add64", "internal/bytealg.abigen_runtime_cmpstring", "internal/abi.NoEscape"], unfollowed := true, recurses := true, named := ["internal/strconv.uint64pow10", "math/bits.deBruijn32tab", "math/bits.deBruijn64tab"], apart := false, laid := [("math/bits.deBruijn32tab", laid_math_bits_deBruijn32tab), ("math/bits.deBruijn64tab", laid_math_bits_deBruijn64tab), ("internal/strconv.uint64pow10", laid_internal_strconv_uint64pow10)] }
def ConstraintTightenSaid : Prop := constraintTightenRow.holds Tryd.pinned (OpenSpec.ofChange constraintTightenSpec)

/-- ITS FALSE NEIGHBOUR: 'it returns false'. Refute it at one input. -/
def constraintTightenWrong : ChangeSpec := { name := "constraintTighten", fn := fun _ => fun
  | [d] => { results := [.lit (.bool false)], args := [d] }
  | _ => none }
def ConstraintTightenWrongFalsely : Prop := constraintTightenRow.holds Tryd.pinned (OpenSpec.ofChange constraintTightenWrong)

/-- 'brocadelaw06.ConstraintTightenExact': WHATEVER THE INPUT: true; the input reads as it did. -/
def constraintTightenExactSpec : ChangeSpec := { name := "constraintTightenExact", fn := fun _ => fun
  | [d1, d2] => { results := [.lit (.bool true)], args := [d1, d2] }
  | _ => none }
def constraintTightenExactRow : OpenClaim := { program := "ytbicmlkjonaccaadoor", sum := "d0893084e88f2b089b195ae70c4e1073bbbd2fa67d0e90b10f6bb73a64b4171b", func := "brocade/brocadelaw06.ConstraintTightenExact", spec := "constraintTightenExact", inPlace := ["math/bits.Add64", "internal/bytealg.abigen_runtime_cmpstring", "internal/abi.NoEscape"], unfollowed := true, recurses := true, named := ["internal/strconv.uint64pow10", "math/bits.deBruijn32tab", "math/bits.deBruijn64tab"], apart := false, laid := [("math/bits.deBruijn32tab", laid_math_bits_deBruijn32tab), ("math/bits.deBruijn64tab", laid_math_bits_deBruijn64tab), ("internal/strconv.uint64pow10", laid_internal_strconv_uint64pow10)] }
def ConstraintTightenExactSaid : Prop := constraintTightenExactRow.holds Tryd.pinned (OpenSpec.ofChange constraintTightenExactSpec)

/-- ITS FALSE NEIGHBOUR: 'it returns false'. Refute it at one input. -/
def constraintTightenExactWrong : ChangeSpec := { name := "constraintTightenExact", fn := fun _ => fun
  | [d1, d2] => { results := [.lit (.bool false)], args := [d1, d2] }
  | _ => none }
def ConstraintTightenExactWrongFalsely : Prop := constraintTightenExactRow.holds Tryd.pinned (OpenSpec.ofChange constraintTightenExactWrong)

/-- 'brocadelaw06.ConstraintNegate': WHATEVER THE INPUT: true; the input reads as it did. -/
def constraintNegateSpec : ChangeSpec := { name := "constraintNegate", fn := fun _ => fun
  | [d] => { results := [.lit (.bool true)], args := [d] }
  | _ => none }
def constraintNegateRow : OpenClaim := { program := "ytbicmlkjonaccaadoor", sum := "d0893084e88f2b089b195ae70c4e1073bbbd2fa67d0e90b10f6bb73a64b4171b", func := "brocade/brocadelaw06.ConstraintNegate", spec := "constraintNegate", inPlace := ["math/bits.Add64", "internal/bytealg.abigen_runtime_cmpstring", "internal/abi.NoEscape"], unfollowed := true, recurses := true, named := ["internal/strconv.uint64pow10", "math/bits.deBruijn32tab", "math/bits.deBruijn64tab"], apart := false, laid := [("math/bits.deBruijn32tab", laid_math_bits_deBruijn32tab), ("math/bits.deBruijn64tab", laid_math_bits_deBruijn64tab), ("internal/strconv.uint64pow10", laid_internal_strconv_uint64pow10)] }
def ConstraintNegateSaid : Prop := constraintNegateRow.holds Tryd.pinned (OpenSpec.ofChange constraintNegateSpec)

/-- ITS FALSE NEIGHBOUR: 'it returns false'. Refute it at one input. -/
def constraintNegateWrong : ChangeSpec := { name := "constraintNegate", fn := fun _ => fun
  | [d] => { results := [.lit (.bool false)], args := [d] }
  | _ => none }
def ConstraintNegateWrongFalsely : Prop := constraintNegateRow.holds Tryd.pinned (OpenSpec.ofChange constraintNegateWrong)

/-- 'brocadelaw06.ConstraintComplement': WHATEVER THE INPUT: true; the input reads as it did. -/
def constraintComplementSpec : ChangeSpec := { name := "constraintComplement", fn := fun _ => fun
  | [d1, d2] => { results := [.lit (.bool true)], args := [d1, d2] }
  | _ => none }
def constraintComplementRow : OpenClaim := { program := "ytbicmlkjonaccaadoor", sum := "d0893084e88f2b089b195ae70c4e1073bbbd2fa67d0e90b10f6bb73a64b4171b", func := "brocade/brocadelaw06.ConstraintComplement", spec := "constraintComplement", inPlace := ["math/bits.Add64", "internal/bytealg.abigen_runtime_cmpstring", "internal/abi.NoEscape"], unfollowed := true, recurses := true, named := ["internal/strconv.uint64pow10", "math/bits.deBruijn32tab", "math/bits.deBruijn64tab"], apart := false, laid := [("math/bits.deBruijn32tab", laid_math_bits_deBruijn32tab), ("math/bits.deBruijn64tab", laid_math_bits_deBruijn64tab), ("internal/strconv.uint64pow10", laid_internal_strconv_uint64pow10)] }
def ConstraintComplementSaid : Prop := constraintComplementRow.holds Tryd.pinned (OpenSpec.ofChange constraintComplementSpec)

/-- ITS FALSE NEIGHBOUR: 'it returns false'. Refute it at one input. -/
def constraintComplementWrong : ChangeSpec := { name := "constraintComplement", fn := fun _ => fun
  | [d1, d2] => { results := [.lit (.bool false)], args := [d1, d2] }
  | _ => none }
def ConstraintComplementWrongFalsely : Prop := constraintComplementRow.holds Tryd.pinned (OpenSpec.ofChange constraintComplementWrong)

/-- 'brocadelaw06.ConstraintCombine': WHATEVER THE INPUT: true; the input reads as it did. -/
def constraintCombineSpec : ChangeSpec := { name := "constraintCombine", fn := fun _ => fun
  | [d1, d2] => { results := [.lit (.bool true)], args := [d1, d2] }
  | _ => none }
def constraintCombineRow : OpenClaim := { program := "ytbicmlkjonaccaadoor", sum := "d0893084e88f2b089b195ae70c4e1073bbbd2fa67d0e90b10f6bb73a64b4171b", func := "brocade/brocadelaw06.ConstraintCombine", spec := "constraintCombine", inPlace := ["math/bits.Add64", "internal/bytealg.abigen_runtime_cmpstring", "internal/abi.NoEscape"], unfollowed := true, recurses := true, named := ["internal/strconv.uint64pow10", "math/bits.deBruijn32tab", "math/bits.deBruijn64tab"], apart := false, laid := [("math/bits.deBruijn32tab", laid_math_bits_deBruijn32tab), ("math/bits.deBruijn64tab", laid_math_bits_deBruijn64tab), ("internal/strconv.uint64pow10", laid_internal_strconv_uint64pow10)] }
def ConstraintCombineSaid : Prop := constraintCombineRow.holds Tryd.pinned (OpenSpec.ofChange constraintCombineSpec)

/-- ITS FALSE NEIGHBOUR: 'it returns false'. Refute it at one input. -/
def constraintCombineWrong : ChangeSpec := { name := "constraintCombine", fn := fun _ => fun
  | [d1, d2] => { results := [.lit (.bool false)], args := [d1, d2] }
  | _ => none }
def ConstraintCombineWrongFalsely : Prop := constraintCombineRow.holds Tryd.pinned (OpenSpec.ofChange constraintCombineWrong)

/-- 'brocadelaw06.ConstraintCombineSound': WHATEVER THE INPUT: true; the input reads as it did. -/
def constraintCombineSoundSpec : ChangeSpec := { name := "constraintCombineSound", fn := fun _ => fun
  | [d1, d2, d3] => { results := [.lit (.bool true)], args := [d1, d2, d3] }
  | _ => none }
def constraintCombineSoundRow : OpenClaim := { program := "ytbicmlkjonaccaadoor", sum := "d0893084e88f2b089b195ae70c4e1073bbbd2fa67d0e90b10f6bb73a64b4171b", func := "brocade/brocadelaw06.ConstraintCombineSound", spec := "constraintCombineSound", inPlace := ["math/bits.Add64", "internal/bytealg.abigen_runtime_cmpstring", "internal/abi.NoEscape"], unfollowed := true, recurses := true, named := ["internal/strconv.uint64pow10", "math/bits.deBruijn32tab", "math/bits.deBruijn64tab"], apart := false, laid := [("math/bits.deBruijn32tab", laid_math_bits_deBruijn32tab), ("math/bits.deBruijn64tab", laid_math_bits_deBruijn64tab), ("internal/strconv.uint64pow10", laid_internal_strconv_uint64pow10)] }
def ConstraintCombineSoundSaid : Prop := constraintCombineSoundRow.holds Tryd.pinned (OpenSpec.ofChange constraintCombineSoundSpec)

/-- ITS FALSE NEIGHBOUR: 'it returns false'. Refute it at one input. -/
def constraintCombineSoundWrong : ChangeSpec := { name := "constraintCombineSound", fn := fun _ => fun
  | [d1, d2, d3] => { results := [.lit (.bool false)], args := [d1, d2, d3] }
  | _ => none }
def ConstraintCombineSoundWrongFalsely : Prop := constraintCombineSoundRow.holds Tryd.pinned (OpenSpec.ofChange constraintCombineSoundWrong)

/-- 'brocadelaw06.ConstraintNormalize': WHATEVER THE INPUT: true; the input reads as it did. -/
def constraintNormalizeSpec : ChangeSpec := { name := "constraintNormalize", fn := fun _ => fun
  | [d] => { results := [.lit (.bool true)], args := [d] }
  | _ => none }
def constraintNormalizeRow : OpenClaim := { program := "ytbicmlkjonaccaadoor", sum := "d0893084e88f2b089b195ae70c4e1073bbbd2fa67d0e90b10f6bb73a64b4171b", func := "brocade/brocadelaw06.ConstraintNormalize", spec := "constraintNormalize", inPlace := ["math/bits.Add64", "internal/bytealg.abigen_runtime_cmpstring", "internal/abi.NoEscape"], unfollowed := true, recurses := true, named := ["internal/strconv.uint64pow10", "math/bits.deBruijn32tab", "math/bits.deBruijn64tab"], apart := false, laid := [("math/bits.deBruijn32tab", laid_math_bits_deBruijn32tab), ("math/bits.deBruijn64tab", laid_math_bits_deBruijn64tab), ("internal/strconv.uint64pow10", laid_internal_strconv_uint64pow10)] }
def ConstraintNormalizeSaid : Prop := constraintNormalizeRow.holds Tryd.pinned (OpenSpec.ofChange constraintNormalizeSpec)

/-- ITS FALSE NEIGHBOUR: 'it returns false'. Refute it at one input. -/
def constraintNormalizeWrong : ChangeSpec := { name := "constraintNormalize", fn := fun _ => fun
  | [d] => { results := [.lit (.bool false)], args := [d] }
  | _ => none }
def ConstraintNormalizeWrongFalsely : Prop := constraintNormalizeRow.holds Tryd.pinned (OpenSpec.ofChange constraintNormalizeWrong)

/-- 'brocadelaw06.ConstraintNormalizeEquivalent': WHATEVER THE INPUT: true; the input reads as it did. -/
def constraintNormalizeEquivalentSpec : ChangeSpec := { name := "constraintNormalizeEquivalent", fn := fun _ => fun
  | [d1, d2] => { results := [.lit (.bool true)], args := [d1, d2] }
  | _ => none }
def constraintNormalizeEquivalentRow : OpenClaim := { program := "ytbicmlkjonaccaadoor", sum := "d0893084e88f2b089b195ae70c4e1073bbbd2fa67d0e90b10f6bb73a64b4171b", func := "brocade/brocadelaw06.ConstraintNormalizeEquivalent", spec := "constraintNormalizeEquivalent", inPlace := ["math/bits.Add64", "internal/bytealg.abigen_runtime_cmpstring", "internal/abi.NoEscape"], unfollowed := true, recurses := true, named := ["internal/strconv.uint64pow10", "math/bits.deBruijn32tab", "math/bits.deBruijn64tab"], apart := false, laid := [("math/bits.deBruijn32tab", laid_math_bits_deBruijn32tab), ("math/bits.deBruijn64tab", laid_math_bits_deBruijn64tab), ("internal/strconv.uint64pow10", laid_internal_strconv_uint64pow10)] }
def ConstraintNormalizeEquivalentSaid : Prop := constraintNormalizeEquivalentRow.holds Tryd.pinned (OpenSpec.ofChange constraintNormalizeEquivalentSpec)

/-- ITS FALSE NEIGHBOUR: 'it returns false'. Refute it at one input. -/
def constraintNormalizeEquivalentWrong : ChangeSpec := { name := "constraintNormalizeEquivalent", fn := fun _ => fun
  | [d1, d2] => { results := [.lit (.bool false)], args := [d1, d2] }
  | _ => none }
def ConstraintNormalizeEquivalentWrongFalsely : Prop := constraintNormalizeEquivalentRow.holds Tryd.pinned (OpenSpec.ofChange constraintNormalizeEquivalentWrong)

/-- 'brocadelaw06.ConstraintFormat': WHATEVER THE INPUT: true; the input reads as it did. -/
def constraintFormatSpec : ChangeSpec := { name := "constraintFormat", fn := fun _ => fun
  | [d1, d2] => { results := [.lit (.bool true)], args := [d1, d2] }
  | _ => none }
def constraintFormatRow : OpenClaim := { program := "ytbicmlkjonaccaadoor", sum := "d0893084e88f2b089b195ae70c4e1073bbbd2fa67d0e90b10f6bb73a64b4171b", func := "brocade/brocadelaw06.ConstraintFormat", spec := "constraintFormat", inPlace := ["math/bits.Add64", "internal/bytealg.abigen_runtime_cmpstring", "internal/abi.NoEscape"], unfollowed := true, recurses := true, named := ["internal/strconv.uint64pow10", "math/bits.deBruijn32tab", "math/bits.deBruijn64tab"], apart := false, laid := [("math/bits.deBruijn32tab", laid_math_bits_deBruijn32tab), ("math/bits.deBruijn64tab", laid_math_bits_deBruijn64tab), ("internal/strconv.uint64pow10", laid_internal_strconv_uint64pow10)] }
def ConstraintFormatSaid : Prop := constraintFormatRow.holds Tryd.pinned (OpenSpec.ofChange constraintFormatSpec)

/-- ITS FALSE NEIGHBOUR: 'it returns false'. Refute it at one input. -/
def constraintFormatWrong : ChangeSpec := { name := "constraintFormat", fn := fun _ => fun
  | [d1, d2] => { results := [.lit (.bool false)], args := [d1, d2] }
  | _ => none }
def ConstraintFormatWrongFalsely : Prop := constraintFormatRow.holds Tryd.pinned (OpenSpec.ofChange constraintFormatWrong)

/- THE SECOND FORM. 'bulk': how many values and letters a reading holds, each counted each time it is reached (what is shared counts as often as it is met; a slice's spare places count too). A statement '..UptoSaid' is the law's where the arguments, and the package variables that the reading takes, are together of bulk at most 1048576: NARROWER than '..Said'. Prove '..Said' where nothing that the law and all that it calls make is longer than what came in: it says more and counts as full. Else prove '..UptoSaid'. A law counts once. -/
mutual
def uptoBulk {H : Type} : DataW H → Nat
  | .lit (.string bytes) => bytes.length + 1
  | .lit _ => 1
  | .nil => 1
  | .ptr d => uptoBulk d + 1
  | .slice elems spare => uptoBulkAll elems + uptoBulkAll spare + 1
  | .agg parts => uptoBulkAll parts + 1
  | .iface _ d => uptoBulk d + 1
  | .map entries => uptoBulkEntries entries + 1
  | .held _ => 1
def uptoBulkAll {H : Type} : List (DataW H) → Nat
  | [] => 0
  | d :: r => uptoBulk d + uptoBulkAll r
def uptoBulkEntries {H : Type} : List (Lit × DataW H) → Nat
  | [] => 0
  | x :: r => uptoBulkEntry x + uptoBulkEntries r
def uptoBulkEntry {H : Type} : Lit × DataW H → Nat
  | (.string bytes, d) => bytes.length + uptoBulk d + 1
  | (_, d) => uptoBulk d + 1
 end
def uptoSmall : (H : Type) → List (DataW H) → Bool := fun _ ds => decide (uptoBulkAll ds ≤ 1048576)
def OpenSpec.upto (s : _root_.Go.ChangeSpec) : _root_.Go.OpenSpec := { _root_.Go.OpenSpec.ofChange s with cond := some uptoSmall }

/-- 'brocadelaw05.LinValidates', WHERE WHAT IT READS IS OF BULK AT MOST 1048576: true; the input reads as it did. -/
def linValidatesUptoRow : OpenClaim := { program := "ytbicmlkjonaccaadoor", sum := "d0893084e88f2b089b195ae70c4e1073bbbd2fa67d0e90b10f6bb73a64b4171b", func := "brocade/brocadelaw05.LinValidates", spec := "linValidates", inPlace := ["math/bits.Add64", "internal/abi.NoEscape"], unfollowed := true, recurses := true, named := ["internal/strconv.uint64pow10", "math/bits.deBruijn32tab", "math/bits.deBruijn64tab"], apart := false, laid := [("math/bits.deBruijn32tab", laid_math_bits_deBruijn32tab), ("math/bits.deBruijn64tab", laid_math_bits_deBruijn64tab), ("internal/strconv.uint64pow10", laid_internal_strconv_uint64pow10)], narrowed := true }
def LinValidatesUptoSaid : Prop := linValidatesUptoRow.holds Tryd.pinned (OpenSpec.upto linValidatesSpec)

/-- 'brocadelaw06.ConstraintEval', WHERE WHAT IT READS IS OF BULK AT MOST 1048576: true; the input reads as it did. -/
def constraintEvalUptoRow : OpenClaim := { program := "ytbicmlkjonaccaadoor", sum := "d0893084e88f2b089b195ae70c4e1073bbbd2fa67d0e90b10f6bb73a64b4171b", func := "brocade/brocadelaw06.ConstraintEval", spec := "constraintEval", inPlace := ["math/bits.Add64", "internal/bytealg.abigen_runtime_cmpstring", "internal/abi.NoEscape"], unfollowed := true, recurses := true, named := ["internal/strconv.uint64pow10", "math/bits.deBruijn32tab", "math/bits.deBruijn64tab"], apart := false, laid := [("math/bits.deBruijn32tab", laid_math_bits_deBruijn32tab), ("math/bits.deBruijn64tab", laid_math_bits_deBruijn64tab), ("internal/strconv.uint64pow10", laid_internal_strconv_uint64pow10)], narrowed := true }
def ConstraintEvalUptoSaid : Prop := constraintEvalUptoRow.holds Tryd.pinned (OpenSpec.upto constraintEvalSpec)

/-- 'brocadelaw06.ConstraintTighten', WHERE WHAT IT READS IS OF BULK AT MOST 1048576: true; the input reads as it did. -/
def constraintTightenUptoRow : OpenClaim := { program := "ytbicmlkjonaccaadoor", sum := "d0893084e88f2b089b195ae70c4e1073bbbd2fa67d0e90b10f6bb73a64b4171b", func := "brocade/brocadelaw06.ConstraintTighten", spec := "constraintTighten", inPlace := ["math/bits.Add64", "internal/bytealg.abigen_runtime_cmpstring", "internal/abi.NoEscape"], unfollowed := true, recurses := true, named := ["internal/strconv.uint64pow10", "math/bits.deBruijn32tab", "math/bits.deBruijn64tab"], apart := false, laid := [("math/bits.deBruijn32tab", laid_math_bits_deBruijn32tab), ("math/bits.deBruijn64tab", laid_math_bits_deBruijn64tab), ("internal/strconv.uint64pow10", laid_internal_strconv_uint64pow10)], narrowed := true }
def ConstraintTightenUptoSaid : Prop := constraintTightenUptoRow.holds Tryd.pinned (OpenSpec.upto constraintTightenSpec)

/-- 'brocadelaw06.ConstraintTightenExact', WHERE WHAT IT READS IS OF BULK AT MOST 1048576: true; the input reads as it did. -/
def constraintTightenExactUptoRow : OpenClaim := { program := "ytbicmlkjonaccaadoor", sum := "d0893084e88f2b089b195ae70c4e1073bbbd2fa67d0e90b10f6bb73a64b4171b", func := "brocade/brocadelaw06.ConstraintTightenExact", spec := "constraintTightenExact", inPlace := ["math/bits.Add64", "internal/bytealg.abigen_runtime_cmpstring", "internal/abi.NoEscape"], unfollowed := true, recurses := true, named := ["internal/strconv.uint64pow10", "math/bits.deBruijn32tab", "math/bits.deBruijn64tab"], apart := false, laid := [("math/bits.deBruijn32tab", laid_math_bits_deBruijn32tab), ("math/bits.deBruijn64tab", laid_math_bits_deBruijn64tab), ("internal/strconv.uint64pow10", laid_internal_strconv_uint64pow10)], narrowed := true }
def ConstraintTightenExactUptoSaid : Prop := constraintTightenExactUptoRow.holds Tryd.pinned (OpenSpec.upto constraintTightenExactSpec)

/-- 'brocadelaw06.ConstraintNegate', WHERE WHAT IT READS IS OF BULK AT MOST 1048576: true; the input reads as it did. -/
def constraintNegateUptoRow : OpenClaim := { program := "ytbicmlkjonaccaadoor", sum := "d0893084e88f2b089b195ae70c4e1073bbbd2fa67d0e90b10f6bb73a64b4171b", func := "brocade/brocadelaw06.ConstraintNegate", spec := "constraintNegate", inPlace := ["math/bits.Add64", "internal/bytealg.abigen_runtime_cmpstring", "internal/abi.NoEscape"], unfollowed := true, recurses := true, named := ["internal/strconv.uint64pow10", "math/bits.deBruijn32tab", "math/bits.deBruijn64tab"], apart := false, laid := [("math/bits.deBruijn32tab", laid_math_bits_deBruijn32tab), ("math/bits.deBruijn64tab", laid_math_bits_deBruijn64tab), ("internal/strconv.uint64pow10", laid_internal_strconv_uint64pow10)], narrowed := true }
def ConstraintNegateUptoSaid : Prop := constraintNegateUptoRow.holds Tryd.pinned (OpenSpec.upto constraintNegateSpec)

/-- 'brocadelaw06.ConstraintComplement', WHERE WHAT IT READS IS OF BULK AT MOST 1048576: true; the input reads as it did. -/
def constraintComplementUptoRow : OpenClaim := { program := "ytbicmlkjonaccaadoor", sum := "d0893084e88f2b089b195ae70c4e1073bbbd2fa67d0e90b10f6bb73a64b4171b", func := "brocade/brocadelaw06.ConstraintComplement", spec := "constraintComplement", inPlace := ["math/bits.Add64", "internal/bytealg.abigen_runtime_cmpstring", "internal/abi.NoEscape"], unfollowed := true, recurses := true, named := ["internal/strconv.uint64pow10", "math/bits.deBruijn32tab", "math/bits.deBruijn64tab"], apart := false, laid := [("math/bits.deBruijn32tab", laid_math_bits_deBruijn32tab), ("math/bits.deBruijn64tab", laid_math_bits_deBruijn64tab), ("internal/strconv.uint64pow10", laid_internal_strconv_uint64pow10)], narrowed := true }
def ConstraintComplementUptoSaid : Prop := constraintComplementUptoRow.holds Tryd.pinned (OpenSpec.upto constraintComplementSpec)

/-- 'brocadelaw06.ConstraintCombine', WHERE WHAT IT READS IS OF BULK AT MOST 1048576: true; the input reads as it did. -/
def constraintCombineUptoRow : OpenClaim := { program := "ytbicmlkjonaccaadoor", sum := "d0893084e88f2b089b195ae70c4e1073bbbd2fa67d0e90b10f6bb73a64b4171b", func := "brocade/brocadelaw06.ConstraintCombine", spec := "constraintCombine", inPlace := ["math/bits.Add64", "internal/bytealg.abigen_runtime_cmpstring", "internal/abi.NoEscape"], unfollowed := true, recurses := true, named := ["internal/strconv.uint64pow10", "math/bits.deBruijn32tab", "math/bits.deBruijn64tab"], apart := false, laid := [("math/bits.deBruijn32tab", laid_math_bits_deBruijn32tab), ("math/bits.deBruijn64tab", laid_math_bits_deBruijn64tab), ("internal/strconv.uint64pow10", laid_internal_strconv_uint64pow10)], narrowed := true }
def ConstraintCombineUptoSaid : Prop := constraintCombineUptoRow.holds Tryd.pinned (OpenSpec.upto constraintCombineSpec)

/-- 'brocadelaw06.ConstraintCombineSound', WHERE WHAT IT READS IS OF BULK AT MOST 1048576: true; the input reads as it did. -/
def constraintCombineSoundUptoRow : OpenClaim := { program := "ytbicmlkjonaccaadoor", sum := "d0893084e88f2b089b195ae70c4e1073bbbd2fa67d0e90b10f6bb73a64b4171b", func := "brocade/brocadelaw06.ConstraintCombineSound", spec := "constraintCombineSound", inPlace := ["math/bits.Add64", "internal/bytealg.abigen_runtime_cmpstring", "internal/abi.NoEscape"], unfollowed := true, recurses := true, named := ["internal/strconv.uint64pow10", "math/bits.deBruijn32tab", "math/bits.deBruijn64tab"], apart := false, laid := [("math/bits.deBruijn32tab", laid_math_bits_deBruijn32tab), ("math/bits.deBruijn64tab", laid_math_bits_deBruijn64tab), ("internal/strconv.uint64pow10", laid_internal_strconv_uint64pow10)], narrowed := true }
def ConstraintCombineSoundUptoSaid : Prop := constraintCombineSoundUptoRow.holds Tryd.pinned (OpenSpec.upto constraintCombineSoundSpec)

/-- 'brocadelaw06.ConstraintNormalize', WHERE WHAT IT READS IS OF BULK AT MOST 1048576: true; the input reads as it did. -/
def constraintNormalizeUptoRow : OpenClaim := { program := "ytbicmlkjonaccaadoor", sum := "d0893084e88f2b089b195ae70c4e1073bbbd2fa67d0e90b10f6bb73a64b4171b", func := "brocade/brocadelaw06.ConstraintNormalize", spec := "constraintNormalize", inPlace := ["math/bits.Add64", "internal/bytealg.abigen_runtime_cmpstring", "internal/abi.NoEscape"], unfollowed := true, recurses := true, named := ["internal/strconv.uint64pow10", "math/bits.deBruijn32tab", "math/bits.deBruijn64tab"], apart := false, laid := [("math/bits.deBruijn32tab", laid_math_bits_deBruijn32tab), ("math/bits.deBruijn64tab", laid_math_bits_deBruijn64tab), ("internal/strconv.uint64pow10", laid_internal_strconv_uint64pow10)], narrowed := true }
def ConstraintNormalizeUptoSaid : Prop := constraintNormalizeUptoRow.holds Tryd.pinned (OpenSpec.upto constraintNormalizeSpec)

/-- 'brocadelaw06.ConstraintNormalizeEquivalent', WHERE WHAT IT READS IS OF BULK AT MOST 1048576: true; the input reads as it did. -/
def constraintNormalizeEquivalentUptoRow : OpenClaim := { program := "ytbicmlkjonaccaadoor", sum := "d0893084e88f2b089b195ae70c4e1073bbbd2fa67d0e90b10f6bb73a64b4171b", func := "brocade/brocadelaw06.ConstraintNormalizeEquivalent", spec := "constraintNormalizeEquivalent", inPlace := ["math/bits.Add64", "internal/bytealg.abigen_runtime_cmpstring", "internal/abi.NoEscape"], unfollowed := true, recurses := true, named := ["internal/strconv.uint64pow10", "math/bits.deBruijn32tab", "math/bits.deBruijn64tab"], apart := false, laid := [("math/bits.deBruijn32tab", laid_math_bits_deBruijn32tab), ("math/bits.deBruijn64tab", laid_math_bits_deBruijn64tab), ("internal/strconv.uint64pow10", laid_internal_strconv_uint64pow10)], narrowed := true }
def ConstraintNormalizeEquivalentUptoSaid : Prop := constraintNormalizeEquivalentUptoRow.holds Tryd.pinned (OpenSpec.upto constraintNormalizeEquivalentSpec)

/-- 'brocadelaw06.ConstraintFormat', WHERE WHAT IT READS IS OF BULK AT MOST 1048576: true; the input reads as it did. -/
def constraintFormatUptoRow : OpenClaim := { program := "ytbicmlkjonaccaadoor", sum := "d0893084e88f2b089b195ae70c4e1073bbbd2fa67d0e90b10f6bb73a64b4171b", func := "brocade/brocadelaw06.ConstraintFormat", spec := "constraintFormat", inPlace := ["math/bits.Add64", "internal/bytealg.abigen_runtime_cmpstring", "internal/abi.NoEscape"], unfollowed := true, recurses := true, named := ["internal/strconv.uint64pow10", "math/bits.deBruijn32tab", "math/bits.deBruijn64tab"], apart := false, laid := [("math/bits.deBruijn32tab", laid_math_bits_deBruijn32tab), ("math/bits.deBruijn64tab", laid_math_bits_deBruijn64tab), ("internal/strconv.uint64pow10", laid_internal_strconv_uint64pow10)], narrowed := true }
def ConstraintFormatUptoSaid : Prop := constraintFormatUptoRow.holds Tryd.pinned (OpenSpec.upto constraintFormatSpec)

end Rows
end Go.Proofs.YtbicmlkjonaccaaDoor
