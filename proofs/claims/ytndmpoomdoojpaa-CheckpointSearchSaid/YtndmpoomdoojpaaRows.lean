/-
  No cell of these rows narrows 'for every input' (looked for: loops, veiled, ifaces, maps, wideKeys, modest, calm, conditions, laid).
  DERIVED. THE GIVEN ROWS OF THIS SEAT. 11 by the template 'for every input the law returns true; each argument reads behind the call as it read before'; 0 by the template 'total and deterministic' (their statements: YtndmpoomdoojpaaTotals.lean).
  GIVEN WITH THE SEED: the statements are not yours to turn. If you find one false, say at which input.
  Laid BY PROGRAM, IN A SANDBOX (cutbox-rows.mjs): the forced cells as the released guide's own fill.sh prints them over the translation 3dcc7c03cfd03174… (all of the seat's roots in one cut). By AI agents, Wed Nov 11 2026. No macro, syntax, notation, axiom, sorry.
-/
import Derived.Test.YtndmpoomdoojpaaChecked
import GoSem.Claim
import GoSem.ClaimJoined
import GoSem.ClaimMapViews
import Derived.JoinedTies
import Derived.KernelRfl
namespace Go.Proofs.Ytndmpoomdoojpaa
/- THE CELL 'sum', in the pinned program and in every row, IS THE sha256 OF THE DUMP (.gsa) THAT YtndmpoomdoojpaaProg.lean LOADS. Nothing in Lean hashes anything: it is a label: what it is worth is what the hold of that sum in a sandbox is worth. -/
noncomputable def Try.pinned : Pinned := { name := "ytndmpoomdoojpaa", sum := "3dcc7c03cfd0317426fe748c4cf320f3f6c411ea1e72f12e4150a04eafe290f1", checked := Try.checked }
namespace Rows
def none {H : Type} : Left H := { results := [], args := [] }

/-- 'brocadelaw05.LinConstructs': WHATEVER THE INPUT: true; the input reads as it did. -/
def linConstructsSpec : ChangeSpec := { name := "linConstructs", fn := fun _ => fun
  | [d1, d2] => { results := [.lit (.bool true)], args := [d1, d2] }
  | _ => none }
def linConstructsRow : OpenClaim := { program := "ytndmpoomdoojpaa", sum := "3dcc7c03cfd0317426fe748c4cf320f3f6c411ea1e72f12e4150a04eafe290f1", func := "brocade/brocadelaw05.LinConstructs", spec := "linConstructs", apart := false }
def LinConstructsSaid : Prop := linConstructsRow.holds Try.pinned (OpenSpec.ofChange linConstructsSpec)

/-- ITS FALSE NEIGHBOUR: 'it returns false'. Refute it at one input. -/
def linConstructsWrong : ChangeSpec := { name := "linConstructs", fn := fun _ => fun
  | [d1, d2] => { results := [.lit (.bool false)], args := [d1, d2] }
  | _ => none }
def LinConstructsWrongFalsely : Prop := linConstructsRow.holds Try.pinned (OpenSpec.ofChange linConstructsWrong)

/-- 'brocadelaw28.CheckpointCost': WHATEVER THE INPUT: true; the input reads as it did. -/
def checkpointCostSpec : ChangeSpec := { name := "checkpointCost", fn := fun _ => fun
  | [d1, d2] => { results := [.lit (.bool true)], args := [d1, d2] }
  | _ => none }
def checkpointCostRow : OpenClaim := { program := "ytndmpoomdoojpaa", sum := "3dcc7c03cfd0317426fe748c4cf320f3f6c411ea1e72f12e4150a04eafe290f1", func := "brocade/brocadelaw28.CheckpointCost", spec := "checkpointCost", unfollowed := true, recurses := true, apart := false }
def CheckpointCostSaid : Prop := checkpointCostRow.holds Try.pinned (OpenSpec.ofChange checkpointCostSpec)

/-- ITS FALSE NEIGHBOUR: 'it returns false'. Refute it at one input. -/
def checkpointCostWrong : ChangeSpec := { name := "checkpointCost", fn := fun _ => fun
  | [d1, d2] => { results := [.lit (.bool false)], args := [d1, d2] }
  | _ => none }
def CheckpointCostWrongFalsely : Prop := checkpointCostRow.holds Try.pinned (OpenSpec.ofChange checkpointCostWrong)

/-- 'brocadelaw28.CheckpointRecurrence': WHATEVER THE INPUT: true; the input reads as it did. -/
def checkpointRecurrenceSpec : ChangeSpec := { name := "checkpointRecurrence", fn := fun _ => fun
  | [d1, d2] => { results := [.lit (.bool true)], args := [d1, d2] }
  | _ => none }
def checkpointRecurrenceRow : OpenClaim := { program := "ytndmpoomdoojpaa", sum := "3dcc7c03cfd0317426fe748c4cf320f3f6c411ea1e72f12e4150a04eafe290f1", func := "brocade/brocadelaw28.CheckpointRecurrence", spec := "checkpointRecurrence", unfollowed := true, recurses := true, apart := false }
def CheckpointRecurrenceSaid : Prop := checkpointRecurrenceRow.holds Try.pinned (OpenSpec.ofChange checkpointRecurrenceSpec)

/-- ITS FALSE NEIGHBOUR: 'it returns false'. Refute it at one input. -/
def checkpointRecurrenceWrong : ChangeSpec := { name := "checkpointRecurrence", fn := fun _ => fun
  | [d1, d2] => { results := [.lit (.bool false)], args := [d1, d2] }
  | _ => none }
def CheckpointRecurrenceWrongFalsely : Prop := checkpointRecurrenceRow.holds Try.pinned (OpenSpec.ofChange checkpointRecurrenceWrong)

/-- 'brocadelaw28.CheckpointBruteForce': WHATEVER THE INPUT: true; the input reads as it did. -/
def checkpointBruteForceSpec : ChangeSpec := { name := "checkpointBruteForce", fn := fun _ => fun
  | [d1, d2] => { results := [.lit (.bool true)], args := [d1, d2] }
  | _ => none }
def checkpointBruteForceRow : OpenClaim := { program := "ytndmpoomdoojpaa", sum := "3dcc7c03cfd0317426fe748c4cf320f3f6c411ea1e72f12e4150a04eafe290f1", func := "brocade/brocadelaw28.CheckpointBruteForce", spec := "checkpointBruteForce", unfollowed := true, recurses := true, apart := false }
def CheckpointBruteForceSaid : Prop := checkpointBruteForceRow.holds Try.pinned (OpenSpec.ofChange checkpointBruteForceSpec)

/-- ITS FALSE NEIGHBOUR: 'it returns false'. Refute it at one input. -/
def checkpointBruteForceWrong : ChangeSpec := { name := "checkpointBruteForce", fn := fun _ => fun
  | [d1, d2] => { results := [.lit (.bool false)], args := [d1, d2] }
  | _ => none }
def CheckpointBruteForceWrongFalsely : Prop := checkpointBruteForceRow.holds Try.pinned (OpenSpec.ofChange checkpointBruteForceWrong)

/-- 'brocadelaw28.CheckpointSearch': WHATEVER THE INPUT: true; the input reads as it did. -/
def checkpointSearchSpec : ChangeSpec := { name := "checkpointSearch", fn := fun _ => fun
  | [d1, d2] => { results := [.lit (.bool true)], args := [d1, d2] }
  | _ => none }
def checkpointSearchRow : OpenClaim := { program := "ytndmpoomdoojpaa", sum := "3dcc7c03cfd0317426fe748c4cf320f3f6c411ea1e72f12e4150a04eafe290f1", func := "brocade/brocadelaw28.CheckpointSearch", spec := "checkpointSearch", unfollowed := true, recurses := true, apart := false }
def CheckpointSearchSaid : Prop := checkpointSearchRow.holds Try.pinned (OpenSpec.ofChange checkpointSearchSpec)

/-- ITS FALSE NEIGHBOUR: 'it returns false'. Refute it at one input. -/
def checkpointSearchWrong : ChangeSpec := { name := "checkpointSearch", fn := fun _ => fun
  | [d1, d2] => { results := [.lit (.bool false)], args := [d1, d2] }
  | _ => none }
def CheckpointSearchWrongFalsely : Prop := checkpointSearchRow.holds Try.pinned (OpenSpec.ofChange checkpointSearchWrong)

/-- 'brocadelaw28.CheckpointPlan': WHATEVER THE INPUT: true; the input reads as it did. -/
def checkpointPlanSpec : ChangeSpec := { name := "checkpointPlan", fn := fun _ => fun
  | [d1, d2] => { results := [.lit (.bool true)], args := [d1, d2] }
  | _ => none }
def checkpointPlanRow : OpenClaim := { program := "ytndmpoomdoojpaa", sum := "3dcc7c03cfd0317426fe748c4cf320f3f6c411ea1e72f12e4150a04eafe290f1", func := "brocade/brocadelaw28.CheckpointPlan", spec := "checkpointPlan", unfollowed := true, recurses := true, apart := false }
def CheckpointPlanSaid : Prop := checkpointPlanRow.holds Try.pinned (OpenSpec.ofChange checkpointPlanSpec)

/-- ITS FALSE NEIGHBOUR: 'it returns false'. Refute it at one input. -/
def checkpointPlanWrong : ChangeSpec := { name := "checkpointPlan", fn := fun _ => fun
  | [d1, d2] => { results := [.lit (.bool false)], args := [d1, d2] }
  | _ => none }
def CheckpointPlanWrongFalsely : Prop := checkpointPlanRow.holds Try.pinned (OpenSpec.ofChange checkpointPlanWrong)

/-- 'brocadelaw28.CheckpointChecks': WHATEVER THE INPUT: true; the input reads as it did. -/
def checkpointChecksSpec : ChangeSpec := { name := "checkpointChecks", fn := fun _ => fun
  | [d1, d2, d3] => { results := [.lit (.bool true)], args := [d1, d2, d3] }
  | _ => none }
def checkpointChecksRow : OpenClaim := { program := "ytndmpoomdoojpaa", sum := "3dcc7c03cfd0317426fe748c4cf320f3f6c411ea1e72f12e4150a04eafe290f1", func := "brocade/brocadelaw28.CheckpointChecks", spec := "checkpointChecks", unfollowed := true, recurses := true, apart := false }
def CheckpointChecksSaid : Prop := checkpointChecksRow.holds Try.pinned (OpenSpec.ofChange checkpointChecksSpec)

/-- ITS FALSE NEIGHBOUR: 'it returns false'. Refute it at one input. -/
def checkpointChecksWrong : ChangeSpec := { name := "checkpointChecks", fn := fun _ => fun
  | [d1, d2, d3] => { results := [.lit (.bool false)], args := [d1, d2, d3] }
  | _ => none }
def CheckpointChecksWrongFalsely : Prop := checkpointChecksRow.holds Try.pinned (OpenSpec.ofChange checkpointChecksWrong)

/-- 'brocadelaw28.CheckpointMinimal': WHATEVER THE INPUT: true; the input reads as it did. -/
def checkpointMinimalSpec : ChangeSpec := { name := "checkpointMinimal", fn := fun _ => fun
  | [d1, d2, d3, d4] => { results := [.lit (.bool true)], args := [d1, d2, d3, d4] }
  | _ => none }
def checkpointMinimalRow : OpenClaim := { program := "ytndmpoomdoojpaa", sum := "3dcc7c03cfd0317426fe748c4cf320f3f6c411ea1e72f12e4150a04eafe290f1", func := "brocade/brocadelaw28.CheckpointMinimal", spec := "checkpointMinimal", unfollowed := true, recurses := true, apart := false }
def CheckpointMinimalSaid : Prop := checkpointMinimalRow.holds Try.pinned (OpenSpec.ofChange checkpointMinimalSpec)

/-- ITS FALSE NEIGHBOUR: 'it returns false'. Refute it at one input. -/
def checkpointMinimalWrong : ChangeSpec := { name := "checkpointMinimal", fn := fun _ => fun
  | [d1, d2, d3, d4] => { results := [.lit (.bool false)], args := [d1, d2, d3, d4] }
  | _ => none }
def CheckpointMinimalWrongFalsely : Prop := checkpointMinimalRow.holds Try.pinned (OpenSpec.ofChange checkpointMinimalWrong)

/-- 'brocadelaw28.CheckpointExtremes': WHATEVER THE INPUT: true; the input reads as it did. -/
def checkpointExtremesSpec : ChangeSpec := { name := "checkpointExtremes", fn := fun _ => fun
  | [d1, d2] => { results := [.lit (.bool true)], args := [d1, d2] }
  | _ => none }
def checkpointExtremesRow : OpenClaim := { program := "ytndmpoomdoojpaa", sum := "3dcc7c03cfd0317426fe748c4cf320f3f6c411ea1e72f12e4150a04eafe290f1", func := "brocade/brocadelaw28.CheckpointExtremes", spec := "checkpointExtremes", unfollowed := true, recurses := true, apart := false }
def CheckpointExtremesSaid : Prop := checkpointExtremesRow.holds Try.pinned (OpenSpec.ofChange checkpointExtremesSpec)

/-- ITS FALSE NEIGHBOUR: 'it returns false'. Refute it at one input. -/
def checkpointExtremesWrong : ChangeSpec := { name := "checkpointExtremes", fn := fun _ => fun
  | [d1, d2] => { results := [.lit (.bool false)], args := [d1, d2] }
  | _ => none }
def CheckpointExtremesWrongFalsely : Prop := checkpointExtremesRow.holds Try.pinned (OpenSpec.ofChange checkpointExtremesWrong)

/-- 'brocadelaw52.ShardValidates': WHATEVER THE INPUT: true; the input reads as it did. -/
def shardValidatesSpec : ChangeSpec := { name := "shardValidates", fn := fun _ => fun
  | [d1, d2] => { results := [.lit (.bool true)], args := [d1, d2] }
  | _ => none }
def shardValidatesRow : OpenClaim := { program := "ytndmpoomdoojpaa", sum := "3dcc7c03cfd0317426fe748c4cf320f3f6c411ea1e72f12e4150a04eafe290f1", func := "brocade/brocadelaw52.ShardValidates", spec := "shardValidates", unfollowed := true, recurses := true, apart := false }
def ShardValidatesSaid : Prop := shardValidatesRow.holds Try.pinned (OpenSpec.ofChange shardValidatesSpec)

/-- ITS FALSE NEIGHBOUR: 'it returns false'. Refute it at one input. -/
def shardValidatesWrong : ChangeSpec := { name := "shardValidates", fn := fun _ => fun
  | [d1, d2] => { results := [.lit (.bool false)], args := [d1, d2] }
  | _ => none }
def ShardValidatesWrongFalsely : Prop := shardValidatesRow.holds Try.pinned (OpenSpec.ofChange shardValidatesWrong)

/-- 'brocadelaw52.ShardOrigins': WHATEVER THE INPUT: true; the input reads as it did. -/
def shardOriginsSpec : ChangeSpec := { name := "shardOrigins", fn := fun _ => fun
  | [d1, d2, d3] => { results := [.lit (.bool true)], args := [d1, d2, d3] }
  | _ => none }
def shardOriginsRow : OpenClaim := { program := "ytndmpoomdoojpaa", sum := "3dcc7c03cfd0317426fe748c4cf320f3f6c411ea1e72f12e4150a04eafe290f1", func := "brocade/brocadelaw52.ShardOrigins", spec := "shardOrigins", unfollowed := true, recurses := true, apart := false }
def ShardOriginsSaid : Prop := shardOriginsRow.holds Try.pinned (OpenSpec.ofChange shardOriginsSpec)

/-- ITS FALSE NEIGHBOUR: 'it returns false'. Refute it at one input. -/
def shardOriginsWrong : ChangeSpec := { name := "shardOrigins", fn := fun _ => fun
  | [d1, d2, d3] => { results := [.lit (.bool false)], args := [d1, d2, d3] }
  | _ => none }
def ShardOriginsWrongFalsely : Prop := shardOriginsRow.holds Try.pinned (OpenSpec.ofChange shardOriginsWrong)

/- THE SECOND FORM. 'bulk': how many values and letters a reading holds, each counted each time it is reached (what is shared counts as often as it is met; a slice's spare places count too). A statement '..UptoSaid' is the law's where the arguments, and the package variables that the reading takes, are together of bulk at most 1048576: NARROWER than '..Said'. Prove '..Said' where nothing that the law and all that it calls make is longer than what came in: it says more and counts as full. Else prove '..UptoSaid'. A law counts once. -/
mutual
def uptoBulk {H : Type} : DataW H → Nat
  | .lit (.string bytes) => bytes.length + 1
  | .lit _ => 1
  | .nil => 1
  | .ptr d => uptoBulk d + 1
  | .slice elems spare => uptoBulkAll elems + uptoBulkAll spare + 1
  | .agg parts => uptoBulkAll parts + 1
  | .iface _ d => uptoBulk d + 1
  | .map entries => uptoBulkEntries entries + 1
  | .held _ => 1
def uptoBulkAll {H : Type} : List (DataW H) → Nat
  | [] => 0
  | d :: r => uptoBulk d + uptoBulkAll r
def uptoBulkEntries {H : Type} : List (Lit × DataW H) → Nat
  | [] => 0
  | x :: r => uptoBulkEntry x + uptoBulkEntries r
def uptoBulkEntry {H : Type} : Lit × DataW H → Nat
  | (.string bytes, d) => bytes.length + uptoBulk d + 1
  | (_, d) => uptoBulk d + 1
 end
def uptoSmall : (H : Type) → List (DataW H) → Bool := fun _ ds => decide (uptoBulkAll ds ≤ 1048576)
def OpenSpec.upto (s : _root_.Go.ChangeSpec) : _root_.Go.OpenSpec := { _root_.Go.OpenSpec.ofChange s with cond := some uptoSmall }

/-- 'brocadelaw05.LinConstructs', WHERE WHAT IT READS IS OF BULK AT MOST 1048576: true; the input reads as it did. -/
def linConstructsUptoRow : OpenClaim := { program := "ytndmpoomdoojpaa", sum := "3dcc7c03cfd0317426fe748c4cf320f3f6c411ea1e72f12e4150a04eafe290f1", func := "brocade/brocadelaw05.LinConstructs", spec := "linConstructs", apart := false, narrowed := true }
def LinConstructsUptoSaid : Prop := linConstructsUptoRow.holds Try.pinned (OpenSpec.upto linConstructsSpec)

/-- 'brocadelaw28.CheckpointCost', WHERE WHAT IT READS IS OF BULK AT MOST 1048576: true; the input reads as it did. -/
def checkpointCostUptoRow : OpenClaim := { program := "ytndmpoomdoojpaa", sum := "3dcc7c03cfd0317426fe748c4cf320f3f6c411ea1e72f12e4150a04eafe290f1", func := "brocade/brocadelaw28.CheckpointCost", spec := "checkpointCost", unfollowed := true, recurses := true, apart := false, narrowed := true }
def CheckpointCostUptoSaid : Prop := checkpointCostUptoRow.holds Try.pinned (OpenSpec.upto checkpointCostSpec)

/-- 'brocadelaw28.CheckpointRecurrence', WHERE WHAT IT READS IS OF BULK AT MOST 1048576: true; the input reads as it did. -/
def checkpointRecurrenceUptoRow : OpenClaim := { program := "ytndmpoomdoojpaa", sum := "3dcc7c03cfd0317426fe748c4cf320f3f6c411ea1e72f12e4150a04eafe290f1", func := "brocade/brocadelaw28.CheckpointRecurrence", spec := "checkpointRecurrence", unfollowed := true, recurses := true, apart := false, narrowed := true }
def CheckpointRecurrenceUptoSaid : Prop := checkpointRecurrenceUptoRow.holds Try.pinned (OpenSpec.upto checkpointRecurrenceSpec)

/-- 'brocadelaw28.CheckpointBruteForce', WHERE WHAT IT READS IS OF BULK AT MOST 1048576: true; the input reads as it did. -/
def checkpointBruteForceUptoRow : OpenClaim := { program := "ytndmpoomdoojpaa", sum := "3dcc7c03cfd0317426fe748c4cf320f3f6c411ea1e72f12e4150a04eafe290f1", func := "brocade/brocadelaw28.CheckpointBruteForce", spec := "checkpointBruteForce", unfollowed := true, recurses := true, apart := false, narrowed := true }
def CheckpointBruteForceUptoSaid : Prop := checkpointBruteForceUptoRow.holds Try.pinned (OpenSpec.upto checkpointBruteForceSpec)

/-- 'brocadelaw28.CheckpointSearch', WHERE WHAT IT READS IS OF BULK AT MOST 1048576: true; the input reads as it did. -/
def checkpointSearchUptoRow : OpenClaim := { program := "ytndmpoomdoojpaa", sum := "3dcc7c03cfd0317426fe748c4cf320f3f6c411ea1e72f12e4150a04eafe290f1", func := "brocade/brocadelaw28.CheckpointSearch", spec := "checkpointSearch", unfollowed := true, recurses := true, apart := false, narrowed := true }
def CheckpointSearchUptoSaid : Prop := checkpointSearchUptoRow.holds Try.pinned (OpenSpec.upto checkpointSearchSpec)

/-- 'brocadelaw28.CheckpointPlan', WHERE WHAT IT READS IS OF BULK AT MOST 1048576: true; the input reads as it did. -/
def checkpointPlanUptoRow : OpenClaim := { program := "ytndmpoomdoojpaa", sum := "3dcc7c03cfd0317426fe748c4cf320f3f6c411ea1e72f12e4150a04eafe290f1", func := "brocade/brocadelaw28.CheckpointPlan", spec := "checkpointPlan", unfollowed := true, recurses := true, apart := false, narrowed := true }
def CheckpointPlanUptoSaid : Prop := checkpointPlanUptoRow.holds Try.pinned (OpenSpec.upto checkpointPlanSpec)

/-- 'brocadelaw28.CheckpointChecks', WHERE WHAT IT READS IS OF BULK AT MOST 1048576: true; the input reads as it did. -/
def checkpointChecksUptoRow : OpenClaim := { program := "ytndmpoomdoojpaa", sum := "3dcc7c03cfd0317426fe748c4cf320f3f6c411ea1e72f12e4150a04eafe290f1", func := "brocade/brocadelaw28.CheckpointChecks", spec := "checkpointChecks", unfollowed := true, recurses := true, apart := false, narrowed := true }
def CheckpointChecksUptoSaid : Prop := checkpointChecksUptoRow.holds Try.pinned (OpenSpec.upto checkpointChecksSpec)

/-- 'brocadelaw28.CheckpointMinimal', WHERE WHAT IT READS IS OF BULK AT MOST 1048576: true; the input reads as it did. -/
def checkpointMinimalUptoRow : OpenClaim := { program := "ytndmpoomdoojpaa", sum := "3dcc7c03cfd0317426fe748c4cf320f3f6c411ea1e72f12e4150a04eafe290f1", func := "brocade/brocadelaw28.CheckpointMinimal", spec := "checkpointMinimal", unfollowed := true, recurses := true, apart := false, narrowed := true }
def CheckpointMinimalUptoSaid : Prop := checkpointMinimalUptoRow.holds Try.pinned (OpenSpec.upto checkpointMinimalSpec)

/-- 'brocadelaw28.CheckpointExtremes', WHERE WHAT IT READS IS OF BULK AT MOST 1048576: true; the input reads as it did. -/
def checkpointExtremesUptoRow : OpenClaim := { program := "ytndmpoomdoojpaa", sum := "3dcc7c03cfd0317426fe748c4cf320f3f6c411ea1e72f12e4150a04eafe290f1", func := "brocade/brocadelaw28.CheckpointExtremes", spec := "checkpointExtremes", unfollowed := true, recurses := true, apart := false, narrowed := true }
def CheckpointExtremesUptoSaid : Prop := checkpointExtremesUptoRow.holds Try.pinned (OpenSpec.upto checkpointExtremesSpec)

/-- 'brocadelaw52.ShardValidates', WHERE WHAT IT READS IS OF BULK AT MOST 1048576: true; the input reads as it did. -/
def shardValidatesUptoRow : OpenClaim := { program := "ytndmpoomdoojpaa", sum := "3dcc7c03cfd0317426fe748c4cf320f3f6c411ea1e72f12e4150a04eafe290f1", func := "brocade/brocadelaw52.ShardValidates", spec := "shardValidates", unfollowed := true, recurses := true, apart := false, narrowed := true }
def ShardValidatesUptoSaid : Prop := shardValidatesUptoRow.holds Try.pinned (OpenSpec.upto shardValidatesSpec)

/-- 'brocadelaw52.ShardOrigins', WHERE WHAT IT READS IS OF BULK AT MOST 1048576: true; the input reads as it did. -/
def shardOriginsUptoRow : OpenClaim := { program := "ytndmpoomdoojpaa", sum := "3dcc7c03cfd0317426fe748c4cf320f3f6c411ea1e72f12e4150a04eafe290f1", func := "brocade/brocadelaw52.ShardOrigins", spec := "shardOrigins", unfollowed := true, recurses := true, apart := false, narrowed := true }
def ShardOriginsUptoSaid : Prop := shardOriginsUptoRow.holds Try.pinned (OpenSpec.upto shardOriginsSpec)

end Rows
end Go.Proofs.Ytndmpoomdoojpaa
