/-
  No cell of these rows narrows 'for every input' (looked for: loops, veiled, ifaces, maps, wideKeys, modest, calm, conditions, laid).
  DERIVED. THE GIVEN ROWS OF THIS SEAT. 7 by the template 'for every input the law returns true; each argument reads behind the call as it read before'; 0 by the template 'total and deterministic' (their statements: YthdeaneffnlffaaTotals.lean).
  GIVEN WITH THE SEED: the statements are not yours to turn. If you find one false, say at which input.
  Laid BY PROGRAM, IN A SANDBOX (cutbox-rows.mjs): the forced cells as the released guide's own fill.sh prints them over the translation 34c977372f96f893… (all of the seat's roots in one cut). By AI agents, Wed Nov 11 2026. No macro, syntax, notation, axiom, sorry.
-/
import Derived.Test.YthdeaneffnlffaaChecked
import GoSem.Claim
import GoSem.ClaimJoined
import GoSem.ClaimMapViews
import Derived.JoinedTies
import Derived.KernelRfl
namespace Go.Proofs.Ythdeaneffnlffaa
/- THE CELL 'sum', in the pinned program and in every row, IS THE sha256 OF THE DUMP (.gsa) THAT YthdeaneffnlffaaProg.lean LOADS. Nothing in Lean hashes anything: it is a label: what it is worth is what the hold of that sum in a sandbox is worth. -/
noncomputable def Try.pinned : Pinned := { name := "ythdeaneffnlffaa", sum := "34c977372f96f89350704a21cc051236236421925a5a8c2a230ef515283080ec", checked := Try.checked }
namespace Rows
def none {H : Type} : Left H := { results := [], args := [] }

/-- 'brocadelaw05.LinAdds': WHATEVER THE INPUT: true; the input reads as it did. -/
def linAddsSpec : ChangeSpec := { name := "linAdds", fn := fun _ => fun
  | [d1, d2] => { results := [.lit (.bool true)], args := [d1, d2] }
  | _ => none }
def linAddsRow : OpenClaim := { program := "ythdeaneffnlffaa", sum := "34c977372f96f89350704a21cc051236236421925a5a8c2a230ef515283080ec", func := "brocade/brocadelaw05.LinAdds", spec := "linAdds", inPlace := ["math/bits.Add64"], unfollowed := true, recurses := true, apart := false }
def LinAddsSaid : Prop := linAddsRow.holds Try.pinned (OpenSpec.ofChange linAddsSpec)

/-- ITS FALSE NEIGHBOUR: 'it returns false'. Refute it at one input. -/
def linAddsWrong : ChangeSpec := { name := "linAdds", fn := fun _ => fun
  | [d1, d2] => { results := [.lit (.bool false)], args := [d1, d2] }
  | _ => none }
def LinAddsWrongFalsely : Prop := linAddsRow.holds Try.pinned (OpenSpec.ofChange linAddsWrong)

/-- 'brocadelaw05.LinScales': WHATEVER THE INPUT: true; the input reads as it did. -/
def linScalesSpec : ChangeSpec := { name := "linScales", fn := fun _ => fun
  | [d1, d2] => { results := [.lit (.bool true)], args := [d1, d2] }
  | _ => none }
def linScalesRow : OpenClaim := { program := "ythdeaneffnlffaa", sum := "34c977372f96f89350704a21cc051236236421925a5a8c2a230ef515283080ec", func := "brocade/brocadelaw05.LinScales", spec := "linScales", inPlace := ["math/bits.Add64"], unfollowed := true, recurses := true, apart := false }
def LinScalesSaid : Prop := linScalesRow.holds Try.pinned (OpenSpec.ofChange linScalesSpec)

/-- ITS FALSE NEIGHBOUR: 'it returns false'. Refute it at one input. -/
def linScalesWrong : ChangeSpec := { name := "linScales", fn := fun _ => fun
  | [d1, d2] => { results := [.lit (.bool false)], args := [d1, d2] }
  | _ => none }
def LinScalesWrongFalsely : Prop := linScalesRow.holds Try.pinned (OpenSpec.ofChange linScalesWrong)

/-- 'brocadelaw05.LinSubstitutes': WHATEVER THE INPUT: true; the input reads as it did. -/
def linSubstitutesSpec : ChangeSpec := { name := "linSubstitutes", fn := fun _ => fun
  | [d1, d2, d3] => { results := [.lit (.bool true)], args := [d1, d2, d3] }
  | _ => none }
def linSubstitutesRow : OpenClaim := { program := "ythdeaneffnlffaa", sum := "34c977372f96f89350704a21cc051236236421925a5a8c2a230ef515283080ec", func := "brocade/brocadelaw05.LinSubstitutes", spec := "linSubstitutes", inPlace := ["math/bits.Add64"], unfollowed := true, recurses := true, apart := false }
def LinSubstitutesSaid : Prop := linSubstitutesRow.holds Try.pinned (OpenSpec.ofChange linSubstitutesSpec)

/-- ITS FALSE NEIGHBOUR: 'it returns false'. Refute it at one input. -/
def linSubstitutesWrong : ChangeSpec := { name := "linSubstitutes", fn := fun _ => fun
  | [d1, d2, d3] => { results := [.lit (.bool false)], args := [d1, d2, d3] }
  | _ => none }
def LinSubstitutesWrongFalsely : Prop := linSubstitutesRow.holds Try.pinned (OpenSpec.ofChange linSubstitutesWrong)

/-- 'brocadelaw05.LinEvals': WHATEVER THE INPUT: true; the input reads as it did. -/
def linEvalsSpec : ChangeSpec := { name := "linEvals", fn := fun _ => fun
  | [d1, d2] => { results := [.lit (.bool true)], args := [d1, d2] }
  | _ => none }
def linEvalsRow : OpenClaim := { program := "ythdeaneffnlffaa", sum := "34c977372f96f89350704a21cc051236236421925a5a8c2a230ef515283080ec", func := "brocade/brocadelaw05.LinEvals", spec := "linEvals", inPlace := ["math/bits.Add64"], unfollowed := true, recurses := true, apart := false }
def LinEvalsSaid : Prop := linEvalsRow.holds Try.pinned (OpenSpec.ofChange linEvalsSpec)

/-- ITS FALSE NEIGHBOUR: 'it returns false'. Refute it at one input. -/
def linEvalsWrong : ChangeSpec := { name := "linEvals", fn := fun _ => fun
  | [d1, d2] => { results := [.lit (.bool false)], args := [d1, d2] }
  | _ => none }
def LinEvalsWrongFalsely : Prop := linEvalsRow.holds Try.pinned (OpenSpec.ofChange linEvalsWrong)

/-- 'brocadelaw05.LinQueries': WHATEVER THE INPUT: true; the input reads as it did. -/
def linQueriesSpec : ChangeSpec := { name := "linQueries", fn := fun _ => fun
  | [d1, d2] => { results := [.lit (.bool true)], args := [d1, d2] }
  | _ => none }
def linQueriesRow : OpenClaim := { program := "ythdeaneffnlffaa", sum := "34c977372f96f89350704a21cc051236236421925a5a8c2a230ef515283080ec", func := "brocade/brocadelaw05.LinQueries", spec := "linQueries", inPlace := ["math/bits.Add64"], unfollowed := true, recurses := true, apart := false }
def LinQueriesSaid : Prop := linQueriesRow.holds Try.pinned (OpenSpec.ofChange linQueriesSpec)

/-- ITS FALSE NEIGHBOUR: 'it returns false'. Refute it at one input. -/
def linQueriesWrong : ChangeSpec := { name := "linQueries", fn := fun _ => fun
  | [d1, d2] => { results := [.lit (.bool false)], args := [d1, d2] }
  | _ => none }
def LinQueriesWrongFalsely : Prop := linQueriesRow.holds Try.pinned (OpenSpec.ofChange linQueriesWrong)

/-- 'brocadelaw05.LinSumEvals': WHATEVER THE INPUT: true; the input reads as it did. -/
def linSumEvalsSpec : ChangeSpec := { name := "linSumEvals", fn := fun _ => fun
  | [d1, d2, d3] => { results := [.lit (.bool true)], args := [d1, d2, d3] }
  | _ => none }
def linSumEvalsRow : OpenClaim := { program := "ythdeaneffnlffaa", sum := "34c977372f96f89350704a21cc051236236421925a5a8c2a230ef515283080ec", func := "brocade/brocadelaw05.LinSumEvals", spec := "linSumEvals", inPlace := ["math/bits.Add64"], unfollowed := true, recurses := true, apart := false }
def LinSumEvalsSaid : Prop := linSumEvalsRow.holds Try.pinned (OpenSpec.ofChange linSumEvalsSpec)

/-- ITS FALSE NEIGHBOUR: 'it returns false'. Refute it at one input. -/
def linSumEvalsWrong : ChangeSpec := { name := "linSumEvals", fn := fun _ => fun
  | [d1, d2, d3] => { results := [.lit (.bool false)], args := [d1, d2, d3] }
  | _ => none }
def LinSumEvalsWrongFalsely : Prop := linSumEvalsRow.holds Try.pinned (OpenSpec.ofChange linSumEvalsWrong)

/-- 'brocadelaw05.LinSubstEvals': WHATEVER THE INPUT: true; the input reads as it did. -/
def linSubstEvalsSpec : ChangeSpec := { name := "linSubstEvals", fn := fun _ => fun
  | [d1, d2, d3] => { results := [.lit (.bool true)], args := [d1, d2, d3] }
  | _ => none }
def linSubstEvalsRow : OpenClaim := { program := "ythdeaneffnlffaa", sum := "34c977372f96f89350704a21cc051236236421925a5a8c2a230ef515283080ec", func := "brocade/brocadelaw05.LinSubstEvals", spec := "linSubstEvals", inPlace := ["math/bits.Add64"], unfollowed := true, recurses := true, apart := false }
def LinSubstEvalsSaid : Prop := linSubstEvalsRow.holds Try.pinned (OpenSpec.ofChange linSubstEvalsSpec)

/-- ITS FALSE NEIGHBOUR: 'it returns false'. Refute it at one input. -/
def linSubstEvalsWrong : ChangeSpec := { name := "linSubstEvals", fn := fun _ => fun
  | [d1, d2, d3] => { results := [.lit (.bool false)], args := [d1, d2, d3] }
  | _ => none }
def LinSubstEvalsWrongFalsely : Prop := linSubstEvalsRow.holds Try.pinned (OpenSpec.ofChange linSubstEvalsWrong)

/- THE SECOND FORM. 'bulk': how many values and letters a reading holds, each counted each time it is reached (what is shared counts as often as it is met; a slice's spare places count too). A statement '..UptoSaid' is the law's where the arguments, and the package variables that the reading takes, are together of bulk at most 1048576: NARROWER than '..Said'. Prove '..Said' where nothing that the law and all that it calls make is longer than what came in: it says more and counts as full. Else prove '..UptoSaid'. A law counts once. -/
mutual
def uptoBulk {H : Type} : DataW H → Nat
  | .lit (.string bytes) => bytes.length + 1
  | .lit _ => 1
  | .nil => 1
  | .ptr d => uptoBulk d + 1
  | .slice elems spare => uptoBulkAll elems + uptoBulkAll spare + 1
  | .agg parts => uptoBulkAll parts + 1
  | .iface _ d => uptoBulk d + 1
  | .map entries => uptoBulkEntries entries + 1
  | .held _ => 1
def uptoBulkAll {H : Type} : List (DataW H) → Nat
  | [] => 0
  | d :: r => uptoBulk d + uptoBulkAll r
def uptoBulkEntries {H : Type} : List (Lit × DataW H) → Nat
  | [] => 0
  | x :: r => uptoBulkEntry x + uptoBulkEntries r
def uptoBulkEntry {H : Type} : Lit × DataW H → Nat
  | (.string bytes, d) => bytes.length + uptoBulk d + 1
  | (_, d) => uptoBulk d + 1
 end
def uptoSmall : (H : Type) → List (DataW H) → Bool := fun _ ds => decide (uptoBulkAll ds ≤ 1048576)
def OpenSpec.upto (s : _root_.Go.ChangeSpec) : _root_.Go.OpenSpec := { _root_.Go.OpenSpec.ofChange s with cond := some uptoSmall }

/-- 'brocadelaw05.LinAdds', WHERE WHAT IT READS IS OF BULK AT MOST 1048576: true; the input reads as it did. -/
def linAddsUptoRow : OpenClaim := { program := "ythdeaneffnlffaa", sum := "34c977372f96f89350704a21cc051236236421925a5a8c2a230ef515283080ec", func := "brocade/brocadelaw05.LinAdds", spec := "linAdds", inPlace := ["math/bits.Add64"], unfollowed := true, recurses := true, apart := false, narrowed := true }
def LinAddsUptoSaid : Prop := linAddsUptoRow.holds Try.pinned (OpenSpec.upto linAddsSpec)

/-- 'brocadelaw05.LinScales', WHERE WHAT IT READS IS OF BULK AT MOST 1048576: true; the input reads as it did. -/
def linScalesUptoRow : OpenClaim := { program := "ythdeaneffnlffaa", sum := "34c977372f96f89350704a21cc051236236421925a5a8c2a230ef515283080ec", func := "brocade/brocadelaw05.LinScales", spec := "linScales", inPlace := ["math/bits.Add64"], unfollowed := true, recurses := true, apart := false, narrowed := true }
def LinScalesUptoSaid : Prop := linScalesUptoRow.holds Try.pinned (OpenSpec.upto linScalesSpec)

/-- 'brocadelaw05.LinSubstitutes', WHERE WHAT IT READS IS OF BULK AT MOST 1048576: true; the input reads as it did. -/
def linSubstitutesUptoRow : OpenClaim := { program := "ythdeaneffnlffaa", sum := "34c977372f96f89350704a21cc051236236421925a5a8c2a230ef515283080ec", func := "brocade/brocadelaw05.LinSubstitutes", spec := "linSubstitutes", inPlace := ["math/bits.Add64"], unfollowed := true, recurses := true, apart := false, narrowed := true }
def LinSubstitutesUptoSaid : Prop := linSubstitutesUptoRow.holds Try.pinned (OpenSpec.upto linSubstitutesSpec)

/-- 'brocadelaw05.LinEvals', WHERE WHAT IT READS IS OF BULK AT MOST 1048576: true; the input reads as it did. -/
def linEvalsUptoRow : OpenClaim := { program := "ythdeaneffnlffaa", sum := "34c977372f96f89350704a21cc051236236421925a5a8c2a230ef515283080ec", func := "brocade/brocadelaw05.LinEvals", spec := "linEvals", inPlace := ["math/bits.Add64"], unfollowed := true, recurses := true, apart := false, narrowed := true }
def LinEvalsUptoSaid : Prop := linEvalsUptoRow.holds Try.pinned (OpenSpec.upto linEvalsSpec)

/-- 'brocadelaw05.LinQueries', WHERE WHAT IT READS IS OF BULK AT MOST 1048576: true; the input reads as it did. -/
def linQueriesUptoRow : OpenClaim := { program := "ythdeaneffnlffaa", sum := "34c977372f96f89350704a21cc051236236421925a5a8c2a230ef515283080ec", func := "brocade/brocadelaw05.LinQueries", spec := "linQueries", inPlace := ["math/bits.Add64"], unfollowed := true, recurses := true, apart := false, narrowed := true }
def LinQueriesUptoSaid : Prop := linQueriesUptoRow.holds Try.pinned (OpenSpec.upto linQueriesSpec)

/-- 'brocadelaw05.LinSumEvals', WHERE WHAT IT READS IS OF BULK AT MOST 1048576: true; the input reads as it did. -/
def linSumEvalsUptoRow : OpenClaim := { program := "ythdeaneffnlffaa", sum := "34c977372f96f89350704a21cc051236236421925a5a8c2a230ef515283080ec", func := "brocade/brocadelaw05.LinSumEvals", spec := "linSumEvals", inPlace := ["math/bits.Add64"], unfollowed := true, recurses := true, apart := false, narrowed := true }
def LinSumEvalsUptoSaid : Prop := linSumEvalsUptoRow.holds Try.pinned (OpenSpec.upto linSumEvalsSpec)

/-- 'brocadelaw05.LinSubstEvals', WHERE WHAT IT READS IS OF BULK AT MOST 1048576: true; the input reads as it did. -/
def linSubstEvalsUptoRow : OpenClaim := { program := "ythdeaneffnlffaa", sum := "34c977372f96f89350704a21cc051236236421925a5a8c2a230ef515283080ec", func := "brocade/brocadelaw05.LinSubstEvals", spec := "linSubstEvals", inPlace := ["math/bits.Add64"], unfollowed := true, recurses := true, apart := false, narrowed := true }
def LinSubstEvalsUptoSaid : Prop := linSubstEvalsUptoRow.holds Try.pinned (OpenSpec.upto linSubstEvalsSpec)

end Rows
end Go.Proofs.Ythdeaneffnlffaa
