/-
  No cell of these rows narrows 'for every input' (looked for: loops, veiled, ifaces, maps, wideKeys, modest, calm, conditions, laid).
  DERIVED. THE GIVEN ROWS OF THIS SEAT. 12 by the template 'for every input the law returns true; each argument reads behind the call as it read before'; 0 by the template 'total and deterministic' (their statements: YtipeapjbodnagaaTotals.lean).
  GIVEN WITH THE SEED: the statements are not yours to turn. If you find one false, say at which input.
  Laid BY PROGRAM, IN A SANDBOX (cutbox-rows.mjs): the forced cells as the released guide's own fill.sh prints them over the translation 11f921727ff408b9… (all of the seat's roots in one cut). By AI agents, Wed Nov 11 2026. No macro, syntax, notation, axiom, sorry.
-/
import Derived.Test.YtipeapjbodnagaaChecked
import GoSem.Claim
import GoSem.ClaimJoined
import GoSem.ClaimMapViews
import Derived.JoinedTies
import Derived.KernelRfl
namespace Go.Proofs.Ytipeapjbodnagaa
/- THE CELL 'sum', in the pinned program and in every row, IS THE sha256 OF THE DUMP (.gsa) THAT YtipeapjbodnagaaProg.lean LOADS. Nothing in Lean hashes anything: it is a label: what it is worth is what the hold of that sum in a sandbox is worth. -/
noncomputable def Try.pinned : Pinned := { name := "ytipeapjbodnagaa", sum := "11f921727ff408b9ba5658553a1ceb078425a40208bc6f8bc7b7131837cc1b82", checked := Try.checked }
namespace Rows
def none {H : Type} : Left H := { results := [], args := [] }

/-- 'brocadelaw05.LinScales': WHATEVER THE INPUT: true; the input reads as it did. -/
def linScalesSpec : ChangeSpec := { name := "linScales", fn := fun _ => fun
  | [d1, d2] => { results := [.lit (.bool true)], args := [d1, d2] }
  | _ => none }
def linScalesRow : OpenClaim := { program := "ytipeapjbodnagaa", sum := "11f921727ff408b9ba5658553a1ceb078425a40208bc6f8bc7b7131837cc1b82", func := "brocade/brocadelaw05.LinScales", spec := "linScales", inPlace := ["math/bits.Add64"], unfollowed := true, recurses := true, apart := false }
def LinScalesSaid : Prop := linScalesRow.holds Try.pinned (OpenSpec.ofChange linScalesSpec)

/-- ITS FALSE NEIGHBOUR: 'it returns false'. Refute it at one input. -/
def linScalesWrong : ChangeSpec := { name := "linScales", fn := fun _ => fun
  | [d1, d2] => { results := [.lit (.bool false)], args := [d1, d2] }
  | _ => none }
def LinScalesWrongFalsely : Prop := linScalesRow.holds Try.pinned (OpenSpec.ofChange linScalesWrong)

/-- 'brocadelaw05.LinQueries': WHATEVER THE INPUT: true; the input reads as it did. -/
def linQueriesSpec : ChangeSpec := { name := "linQueries", fn := fun _ => fun
  | [d1, d2] => { results := [.lit (.bool true)], args := [d1, d2] }
  | _ => none }
def linQueriesRow : OpenClaim := { program := "ytipeapjbodnagaa", sum := "11f921727ff408b9ba5658553a1ceb078425a40208bc6f8bc7b7131837cc1b82", func := "brocade/brocadelaw05.LinQueries", spec := "linQueries", inPlace := ["math/bits.Add64"], unfollowed := true, recurses := true, apart := false }
def LinQueriesSaid : Prop := linQueriesRow.holds Try.pinned (OpenSpec.ofChange linQueriesSpec)

/-- ITS FALSE NEIGHBOUR: 'it returns false'. Refute it at one input. -/
def linQueriesWrong : ChangeSpec := { name := "linQueries", fn := fun _ => fun
  | [d1, d2] => { results := [.lit (.bool false)], args := [d1, d2] }
  | _ => none }
def LinQueriesWrongFalsely : Prop := linQueriesRow.holds Try.pinned (OpenSpec.ofChange linQueriesWrong)

/-- 'brocadelaw05.LinCompares': WHATEVER THE INPUT: true; the input reads as it did. -/
def linComparesSpec : ChangeSpec := { name := "linCompares", fn := fun _ => fun
  | [d1, d2] => { results := [.lit (.bool true)], args := [d1, d2] }
  | _ => none }
def linComparesRow : OpenClaim := { program := "ytipeapjbodnagaa", sum := "11f921727ff408b9ba5658553a1ceb078425a40208bc6f8bc7b7131837cc1b82", func := "brocade/brocadelaw05.LinCompares", spec := "linCompares", inPlace := ["math/bits.Add64", "internal/bytealg.abigen_runtime_cmpstring"], unfollowed := true, recurses := true, apart := false }
def LinComparesSaid : Prop := linComparesRow.holds Try.pinned (OpenSpec.ofChange linComparesSpec)

/-- ITS FALSE NEIGHBOUR: 'it returns false'. Refute it at one input. -/
def linComparesWrong : ChangeSpec := { name := "linCompares", fn := fun _ => fun
  | [d1, d2] => { results := [.lit (.bool false)], args := [d1, d2] }
  | _ => none }
def LinComparesWrongFalsely : Prop := linComparesRow.holds Try.pinned (OpenSpec.ofChange linComparesWrong)

/-- 'brocadelaw13.LexerTokenizes': WHATEVER THE INPUT: true; the input reads as it did. -/
def lexerTokenizesSpec : ChangeSpec := { name := "lexerTokenizes", fn := fun _ => fun
  | [d] => { results := [.lit (.bool true)], args := [d] }
  | _ => none }
def lexerTokenizesRow : OpenClaim := { program := "ytipeapjbodnagaa", sum := "11f921727ff408b9ba5658553a1ceb078425a40208bc6f8bc7b7131837cc1b82", func := "brocade/brocadelaw13.LexerTokenizes", spec := "lexerTokenizes", inPlace := ["internal/bytealg.IndexByteString", "internal/abi.NoEscape"], apart := false }
def LexerTokenizesSaid : Prop := lexerTokenizesRow.holds Try.pinned (OpenSpec.ofChange lexerTokenizesSpec)

/-- ITS FALSE NEIGHBOUR: 'it returns false'. Refute it at one input. -/
def lexerTokenizesWrong : ChangeSpec := { name := "lexerTokenizes", fn := fun _ => fun
  | [d] => { results := [.lit (.bool false)], args := [d] }
  | _ => none }
def LexerTokenizesWrongFalsely : Prop := lexerTokenizesRow.holds Try.pinned (OpenSpec.ofChange lexerTokenizesWrong)

/-- 'brocadelaw13.LexerWords': WHATEVER THE INPUT: true; the input reads as it did. -/
def lexerWordsSpec : ChangeSpec := { name := "lexerWords", fn := fun _ => fun
  | [d1, d2] => { results := [.lit (.bool true)], args := [d1, d2] }
  | _ => none }
def lexerWordsRow : OpenClaim := { program := "ytipeapjbodnagaa", sum := "11f921727ff408b9ba5658553a1ceb078425a40208bc6f8bc7b7131837cc1b82", func := "brocade/brocadelaw13.LexerWords", spec := "lexerWords", inPlace := ["internal/bytealg.IndexByteString", "internal/abi.NoEscape"], apart := false }
def LexerWordsSaid : Prop := lexerWordsRow.holds Try.pinned (OpenSpec.ofChange lexerWordsSpec)

/-- ITS FALSE NEIGHBOUR: 'it returns false'. Refute it at one input. -/
def lexerWordsWrong : ChangeSpec := { name := "lexerWords", fn := fun _ => fun
  | [d1, d2] => { results := [.lit (.bool false)], args := [d1, d2] }
  | _ => none }
def LexerWordsWrongFalsely : Prop := lexerWordsRow.holds Try.pinned (OpenSpec.ofChange lexerWordsWrong)

/-- 'brocadelaw13.LexerJoinRoundTrip': WHATEVER THE INPUT: true; the input reads as it did. -/
def lexerJoinRoundTripSpec : ChangeSpec := { name := "lexerJoinRoundTrip", fn := fun _ => fun
  | [d] => { results := [.lit (.bool true)], args := [d] }
  | _ => none }
def lexerJoinRoundTripRow : OpenClaim := { program := "ytipeapjbodnagaa", sum := "11f921727ff408b9ba5658553a1ceb078425a40208bc6f8bc7b7131837cc1b82", func := "brocade/brocadelaw13.LexerJoinRoundTrip", spec := "lexerJoinRoundTrip", inPlace := ["internal/bytealg.IndexByteString", "internal/abi.NoEscape"], apart := false }
def LexerJoinRoundTripSaid : Prop := lexerJoinRoundTripRow.holds Try.pinned (OpenSpec.ofChange lexerJoinRoundTripSpec)

/-- ITS FALSE NEIGHBOUR: 'it returns false'. Refute it at one input. -/
def lexerJoinRoundTripWrong : ChangeSpec := { name := "lexerJoinRoundTrip", fn := fun _ => fun
  | [d] => { results := [.lit (.bool false)], args := [d] }
  | _ => none }
def LexerJoinRoundTripWrongFalsely : Prop := lexerJoinRoundTripRow.holds Try.pinned (OpenSpec.ofChange lexerJoinRoundTripWrong)

/-- 'brocadelaw13.LexerCoversText': WHATEVER THE INPUT: true; the input reads as it did. -/
def lexerCoversTextSpec : ChangeSpec := { name := "lexerCoversText", fn := fun _ => fun
  | [d] => { results := [.lit (.bool true)], args := [d] }
  | _ => none }
def lexerCoversTextRow : OpenClaim := { program := "ytipeapjbodnagaa", sum := "11f921727ff408b9ba5658553a1ceb078425a40208bc6f8bc7b7131837cc1b82", func := "brocade/brocadelaw13.LexerCoversText", spec := "lexerCoversText", inPlace := ["internal/bytealg.IndexByteString", "internal/abi.NoEscape"], apart := false }
def LexerCoversTextSaid : Prop := lexerCoversTextRow.holds Try.pinned (OpenSpec.ofChange lexerCoversTextSpec)

/-- ITS FALSE NEIGHBOUR: 'it returns false'. Refute it at one input. -/
def lexerCoversTextWrong : ChangeSpec := { name := "lexerCoversText", fn := fun _ => fun
  | [d] => { results := [.lit (.bool false)], args := [d] }
  | _ => none }
def LexerCoversTextWrongFalsely : Prop := lexerCoversTextRow.holds Try.pinned (OpenSpec.ofChange lexerCoversTextWrong)

/-- 'brocadelaw13.LexerLongWords': WHATEVER THE INPUT: true; the input reads as it did. -/
def lexerLongWordsSpec : ChangeSpec := { name := "lexerLongWords", fn := fun _ => fun
  | [d1, d2, d3] => { results := [.lit (.bool true)], args := [d1, d2, d3] }
  | _ => none }
def lexerLongWordsRow : OpenClaim := { program := "ytipeapjbodnagaa", sum := "11f921727ff408b9ba5658553a1ceb078425a40208bc6f8bc7b7131837cc1b82", func := "brocade/brocadelaw13.LexerLongWords", spec := "lexerLongWords", inPlace := ["internal/bytealg.IndexByteString", "internal/abi.NoEscape"], apart := false }
def LexerLongWordsSaid : Prop := lexerLongWordsRow.holds Try.pinned (OpenSpec.ofChange lexerLongWordsSpec)

/-- ITS FALSE NEIGHBOUR: 'it returns false'. Refute it at one input. -/
def lexerLongWordsWrong : ChangeSpec := { name := "lexerLongWords", fn := fun _ => fun
  | [d1, d2, d3] => { results := [.lit (.bool false)], args := [d1, d2, d3] }
  | _ => none }
def LexerLongWordsWrongFalsely : Prop := lexerLongWordsRow.holds Try.pinned (OpenSpec.ofChange lexerLongWordsWrong)

/-- 'brocadelaw41.LivenessOverlaps': WHATEVER THE INPUT: true; the input reads as it did. -/
def livenessOverlapsSpec : ChangeSpec := { name := "livenessOverlaps", fn := fun _ => fun
  | [d1, d2] => { results := [.lit (.bool true)], args := [d1, d2] }
  | _ => none }
def livenessOverlapsRow : OpenClaim := { program := "ytipeapjbodnagaa", sum := "11f921727ff408b9ba5658553a1ceb078425a40208bc6f8bc7b7131837cc1b82", func := "brocade/brocadelaw41.LivenessOverlaps", spec := "livenessOverlaps", recurses := true, apart := false }
def LivenessOverlapsSaid : Prop := livenessOverlapsRow.holds Try.pinned (OpenSpec.ofChange livenessOverlapsSpec)

/-- ITS FALSE NEIGHBOUR: 'it returns false'. Refute it at one input. -/
def livenessOverlapsWrong : ChangeSpec := { name := "livenessOverlaps", fn := fun _ => fun
  | [d1, d2] => { results := [.lit (.bool false)], args := [d1, d2] }
  | _ => none }
def LivenessOverlapsWrongFalsely : Prop := livenessOverlapsRow.holds Try.pinned (OpenSpec.ofChange livenessOverlapsWrong)

/-- 'brocadelaw41.LivenessCounts': WHATEVER THE INPUT: true; the input reads as it did. -/
def livenessCountsSpec : ChangeSpec := { name := "livenessCounts", fn := fun _ => fun
  | [d] => { results := [.lit (.bool true)], args := [d] }
  | _ => none }
def livenessCountsRow : OpenClaim := { program := "ytipeapjbodnagaa", sum := "11f921727ff408b9ba5658553a1ceb078425a40208bc6f8bc7b7131837cc1b82", func := "brocade/brocadelaw41.LivenessCounts", spec := "livenessCounts", recurses := true, apart := false }
def LivenessCountsSaid : Prop := livenessCountsRow.holds Try.pinned (OpenSpec.ofChange livenessCountsSpec)

/-- ITS FALSE NEIGHBOUR: 'it returns false'. Refute it at one input. -/
def livenessCountsWrong : ChangeSpec := { name := "livenessCounts", fn := fun _ => fun
  | [d] => { results := [.lit (.bool false)], args := [d] }
  | _ => none }
def LivenessCountsWrongFalsely : Prop := livenessCountsRow.holds Try.pinned (OpenSpec.ofChange livenessCountsWrong)

/-- 'brocadelaw41.LivenessValidates': WHATEVER THE INPUT: true; the input reads as it did. -/
def livenessValidatesSpec : ChangeSpec := { name := "livenessValidates", fn := fun _ => fun
  | [d] => { results := [.lit (.bool true)], args := [d] }
  | _ => none }
def livenessValidatesRow : OpenClaim := { program := "ytipeapjbodnagaa", sum := "11f921727ff408b9ba5658553a1ceb078425a40208bc6f8bc7b7131837cc1b82", func := "brocade/brocadelaw41.LivenessValidates", spec := "livenessValidates", recurses := true, apart := false }
def LivenessValidatesSaid : Prop := livenessValidatesRow.holds Try.pinned (OpenSpec.ofChange livenessValidatesSpec)

/-- ITS FALSE NEIGHBOUR: 'it returns false'. Refute it at one input. -/
def livenessValidatesWrong : ChangeSpec := { name := "livenessValidates", fn := fun _ => fun
  | [d] => { results := [.lit (.bool false)], args := [d] }
  | _ => none }
def LivenessValidatesWrongFalsely : Prop := livenessValidatesRow.holds Try.pinned (OpenSpec.ofChange livenessValidatesWrong)

/-- 'brocadelaw41.LivenessExtremes': WHATEVER THE INPUT: true; the input reads as it did. -/
def livenessExtremesSpec : ChangeSpec := { name := "livenessExtremes", fn := fun _ => fun
  | [d] => { results := [.lit (.bool true)], args := [d] }
  | _ => none }
def livenessExtremesRow : OpenClaim := { program := "ytipeapjbodnagaa", sum := "11f921727ff408b9ba5658553a1ceb078425a40208bc6f8bc7b7131837cc1b82", func := "brocade/brocadelaw41.LivenessExtremes", spec := "livenessExtremes", recurses := true, apart := false }
def LivenessExtremesSaid : Prop := livenessExtremesRow.holds Try.pinned (OpenSpec.ofChange livenessExtremesSpec)

/-- ITS FALSE NEIGHBOUR: 'it returns false'. Refute it at one input. -/
def livenessExtremesWrong : ChangeSpec := { name := "livenessExtremes", fn := fun _ => fun
  | [d] => { results := [.lit (.bool false)], args := [d] }
  | _ => none }
def LivenessExtremesWrongFalsely : Prop := livenessExtremesRow.holds Try.pinned (OpenSpec.ofChange livenessExtremesWrong)

/- THE SECOND FORM. 'bulk': how many values and letters a reading holds, each counted each time it is reached (what is shared counts as often as it is met; a slice's spare places count too). A statement '..UptoSaid' is the law's where the arguments, and the package variables that the reading takes, are together of bulk at most 1048576: NARROWER than '..Said'. Prove '..Said' where nothing that the law and all that it calls make is longer than what came in: it says more and counts as full. Else prove '..UptoSaid'. A law counts once. -/
mutual
def uptoBulk {H : Type} : DataW H → Nat
  | .lit (.string bytes) => bytes.length + 1
  | .lit _ => 1
  | .nil => 1
  | .ptr d => uptoBulk d + 1
  | .slice elems spare => uptoBulkAll elems + uptoBulkAll spare + 1
  | .agg parts => uptoBulkAll parts + 1
  | .iface _ d => uptoBulk d + 1
  | .map entries => uptoBulkEntries entries + 1
  | .held _ => 1
def uptoBulkAll {H : Type} : List (DataW H) → Nat
  | [] => 0
  | d :: r => uptoBulk d + uptoBulkAll r
def uptoBulkEntries {H : Type} : List (Lit × DataW H) → Nat
  | [] => 0
  | x :: r => uptoBulkEntry x + uptoBulkEntries r
def uptoBulkEntry {H : Type} : Lit × DataW H → Nat
  | (.string bytes, d) => bytes.length + uptoBulk d + 1
  | (_, d) => uptoBulk d + 1
 end
def uptoSmall : (H : Type) → List (DataW H) → Bool := fun _ ds => decide (uptoBulkAll ds ≤ 1048576)
def OpenSpec.upto (s : _root_.Go.ChangeSpec) : _root_.Go.OpenSpec := { _root_.Go.OpenSpec.ofChange s with cond := some uptoSmall }

/-- 'brocadelaw05.LinScales', WHERE WHAT IT READS IS OF BULK AT MOST 1048576: true; the input reads as it did. -/
def linScalesUptoRow : OpenClaim := { program := "ytipeapjbodnagaa", sum := "11f921727ff408b9ba5658553a1ceb078425a40208bc6f8bc7b7131837cc1b82", func := "brocade/brocadelaw05.LinScales", spec := "linScales", inPlace := ["math/bits.Add64"], unfollowed := true, recurses := true, apart := false, narrowed := true }
def LinScalesUptoSaid : Prop := linScalesUptoRow.holds Try.pinned (OpenSpec.upto linScalesSpec)

/-- 'brocadelaw05.LinQueries', WHERE WHAT IT READS IS OF BULK AT MOST 1048576: true; the input reads as it did. -/
def linQueriesUptoRow : OpenClaim := { program := "ytipeapjbodnagaa", sum := "11f921727ff408b9ba5658553a1ceb078425a40208bc6f8bc7b7131837cc1b82", func := "brocade/brocadelaw05.LinQueries", spec := "linQueries", inPlace := ["math/bits.Add64"], unfollowed := true, recurses := true, apart := false, narrowed := true }
def LinQueriesUptoSaid : Prop := linQueriesUptoRow.holds Try.pinned (OpenSpec.upto linQueriesSpec)

/-- 'brocadelaw05.LinCompares', WHERE WHAT IT READS IS OF BULK AT MOST 1048576: true; the input reads as it did. -/
def linComparesUptoRow : OpenClaim := { program := "ytipeapjbodnagaa", sum := "11f921727ff408b9ba5658553a1ceb078425a40208bc6f8bc7b7131837cc1b82", func := "brocade/brocadelaw05.LinCompares", spec := "linCompares", inPlace := ["math/bits.Add64", "internal/bytealg.abigen_runtime_cmpstring"], unfollowed := true, recurses := true, apart := false, narrowed := true }
def LinComparesUptoSaid : Prop := linComparesUptoRow.holds Try.pinned (OpenSpec.upto linComparesSpec)

/-- 'brocadelaw13.LexerTokenizes', WHERE WHAT IT READS IS OF BULK AT MOST 1048576: true; the input reads as it did. -/
def lexerTokenizesUptoRow : OpenClaim := { program := "ytipeapjbodnagaa", sum := "11f921727ff408b9ba5658553a1ceb078425a40208bc6f8bc7b7131837cc1b82", func := "brocade/brocadelaw13.LexerTokenizes", spec := "lexerTokenizes", inPlace := ["internal/bytealg.IndexByteString", "internal/abi.NoEscape"], apart := false, narrowed := true }
def LexerTokenizesUptoSaid : Prop := lexerTokenizesUptoRow.holds Try.pinned (OpenSpec.upto lexerTokenizesSpec)

/-- 'brocadelaw13.LexerWords', WHERE WHAT IT READS IS OF BULK AT MOST 1048576: true; the input reads as it did. -/
def lexerWordsUptoRow : OpenClaim := { program := "ytipeapjbodnagaa", sum := "11f921727ff408b9ba5658553a1ceb078425a40208bc6f8bc7b7131837cc1b82", func := "brocade/brocadelaw13.LexerWords", spec := "lexerWords", inPlace := ["internal/bytealg.IndexByteString", "internal/abi.NoEscape"], apart := false, narrowed := true }
def LexerWordsUptoSaid : Prop := lexerWordsUptoRow.holds Try.pinned (OpenSpec.upto lexerWordsSpec)

/-- 'brocadelaw13.LexerJoinRoundTrip', WHERE WHAT IT READS IS OF BULK AT MOST 1048576: true; the input reads as it did. -/
def lexerJoinRoundTripUptoRow : OpenClaim := { program := "ytipeapjbodnagaa", sum := "11f921727ff408b9ba5658553a1ceb078425a40208bc6f8bc7b7131837cc1b82", func := "brocade/brocadelaw13.LexerJoinRoundTrip", spec := "lexerJoinRoundTrip", inPlace := ["internal/bytealg.IndexByteString", "internal/abi.NoEscape"], apart := false, narrowed := true }
def LexerJoinRoundTripUptoSaid : Prop := lexerJoinRoundTripUptoRow.holds Try.pinned (OpenSpec.upto lexerJoinRoundTripSpec)

/-- 'brocadelaw13.LexerCoversText', WHERE WHAT IT READS IS OF BULK AT MOST 1048576: true; the input reads as it did. -/
def lexerCoversTextUptoRow : OpenClaim := { program := "ytipeapjbodnagaa", sum := "11f921727ff408b9ba5658553a1ceb078425a40208bc6f8bc7b7131837cc1b82", func := "brocade/brocadelaw13.LexerCoversText", spec := "lexerCoversText", inPlace := ["internal/bytealg.IndexByteString", "internal/abi.NoEscape"], apart := false, narrowed := true }
def LexerCoversTextUptoSaid : Prop := lexerCoversTextUptoRow.holds Try.pinned (OpenSpec.upto lexerCoversTextSpec)

/-- 'brocadelaw13.LexerLongWords', WHERE WHAT IT READS IS OF BULK AT MOST 1048576: true; the input reads as it did. -/
def lexerLongWordsUptoRow : OpenClaim := { program := "ytipeapjbodnagaa", sum := "11f921727ff408b9ba5658553a1ceb078425a40208bc6f8bc7b7131837cc1b82", func := "brocade/brocadelaw13.LexerLongWords", spec := "lexerLongWords", inPlace := ["internal/bytealg.IndexByteString", "internal/abi.NoEscape"], apart := false, narrowed := true }
def LexerLongWordsUptoSaid : Prop := lexerLongWordsUptoRow.holds Try.pinned (OpenSpec.upto lexerLongWordsSpec)

/-- 'brocadelaw41.LivenessOverlaps', WHERE WHAT IT READS IS OF BULK AT MOST 1048576: true; the input reads as it did. -/
def livenessOverlapsUptoRow : OpenClaim := { program := "ytipeapjbodnagaa", sum := "11f921727ff408b9ba5658553a1ceb078425a40208bc6f8bc7b7131837cc1b82", func := "brocade/brocadelaw41.LivenessOverlaps", spec := "livenessOverlaps", recurses := true, apart := false, narrowed := true }
def LivenessOverlapsUptoSaid : Prop := livenessOverlapsUptoRow.holds Try.pinned (OpenSpec.upto livenessOverlapsSpec)

/-- 'brocadelaw41.LivenessCounts', WHERE WHAT IT READS IS OF BULK AT MOST 1048576: true; the input reads as it did. -/
def livenessCountsUptoRow : OpenClaim := { program := "ytipeapjbodnagaa", sum := "11f921727ff408b9ba5658553a1ceb078425a40208bc6f8bc7b7131837cc1b82", func := "brocade/brocadelaw41.LivenessCounts", spec := "livenessCounts", recurses := true, apart := false, narrowed := true }
def LivenessCountsUptoSaid : Prop := livenessCountsUptoRow.holds Try.pinned (OpenSpec.upto livenessCountsSpec)

/-- 'brocadelaw41.LivenessValidates', WHERE WHAT IT READS IS OF BULK AT MOST 1048576: true; the input reads as it did. -/
def livenessValidatesUptoRow : OpenClaim := { program := "ytipeapjbodnagaa", sum := "11f921727ff408b9ba5658553a1ceb078425a40208bc6f8bc7b7131837cc1b82", func := "brocade/brocadelaw41.LivenessValidates", spec := "livenessValidates", recurses := true, apart := false, narrowed := true }
def LivenessValidatesUptoSaid : Prop := livenessValidatesUptoRow.holds Try.pinned (OpenSpec.upto livenessValidatesSpec)

/-- 'brocadelaw41.LivenessExtremes', WHERE WHAT IT READS IS OF BULK AT MOST 1048576: true; the input reads as it did. -/
def livenessExtremesUptoRow : OpenClaim := { program := "ytipeapjbodnagaa", sum := "11f921727ff408b9ba5658553a1ceb078425a40208bc6f8bc7b7131837cc1b82", func := "brocade/brocadelaw41.LivenessExtremes", spec := "livenessExtremes", recurses := true, apart := false, narrowed := true }
def LivenessExtremesUptoSaid : Prop := livenessExtremesUptoRow.holds Try.pinned (OpenSpec.upto livenessExtremesSpec)

end Rows
end Go.Proofs.Ytipeapjbodnagaa
