/-
  No cell of these rows narrows 'for every input' (looked for: loops, veiled, ifaces, maps, wideKeys, modest, calm, conditions, laid).
  DERIVED. THE GIVEN ROWS OF THIS SEAT. 5 by the template 'for every input the law returns true; each argument reads behind the call as it read before'; 0 by the template 'total and deterministic' (their statements: YtghnigmmkenddaaTotals.lean).
  GIVEN WITH THE SEED: the statements are not yours to turn. If you find one false, say at which input.
  Laid BY PROGRAM, IN A SANDBOX (cutbox-rows.mjs): the forced cells as the released guide's own fill.sh prints them over the translation 6a22d29a1f81cc93… (all of the seat's roots in one cut). By AI agents, Wed Nov 11 2026. No macro, syntax, notation, axiom, sorry.
-/
import Derived.Test.YtghnigmmkenddaaChecked
import GoSem.Claim
import GoSem.ClaimJoined
import GoSem.ClaimMapViews
import Derived.JoinedTies
import Derived.KernelRfl
namespace Go.Proofs.Ytghnigmmkenddaa
/- THE CELL 'sum', in the pinned program and in every row, IS THE sha256 OF THE DUMP (.gsa) THAT YtghnigmmkenddaaProg.lean LOADS. Nothing in Lean hashes anything: it is a label: what it is worth is what the hold of that sum in a sandbox is worth. -/
noncomputable def Try.pinned : Pinned := { name := "ytghnigmmkenddaa", sum := "6a22d29a1f81cc930913308a3bbd9703837a76d58d2a882db188668d8faa3187", checked := Try.checked }
namespace Rows
def none {H : Type} : Left H := { results := [], args := [] }

/-- 'brocadelaw42.ArenaPlans': WHATEVER THE INPUT: true; the input reads as it did. -/
def arenaPlansSpec : ChangeSpec := { name := "arenaPlans", fn := fun _ => fun
  | [d] => { results := [.lit (.bool true)], args := [d] }
  | _ => none }
def arenaPlansRow : OpenClaim := { program := "ytghnigmmkenddaa", sum := "6a22d29a1f81cc930913308a3bbd9703837a76d58d2a882db188668d8faa3187", func := "brocade/brocadelaw42.ArenaPlans", spec := "arenaPlans", unfollowed := true, recurses := true, apart := false }
def ArenaPlansSaid : Prop := arenaPlansRow.holds Try.pinned (OpenSpec.ofChange arenaPlansSpec)

/-- ITS FALSE NEIGHBOUR: 'it returns false'. Refute it at one input. -/
def arenaPlansWrong : ChangeSpec := { name := "arenaPlans", fn := fun _ => fun
  | [d] => { results := [.lit (.bool false)], args := [d] }
  | _ => none }
def ArenaPlansWrongFalsely : Prop := arenaPlansRow.holds Try.pinned (OpenSpec.ofChange arenaPlansWrong)

/-- 'brocadelaw42.ArenaPlanValid': WHATEVER THE INPUT: true; the input reads as it did. -/
def arenaPlanValidSpec : ChangeSpec := { name := "arenaPlanValid", fn := fun _ => fun
  | [d] => { results := [.lit (.bool true)], args := [d] }
  | _ => none }
def arenaPlanValidRow : OpenClaim := { program := "ytghnigmmkenddaa", sum := "6a22d29a1f81cc930913308a3bbd9703837a76d58d2a882db188668d8faa3187", func := "brocade/brocadelaw42.ArenaPlanValid", spec := "arenaPlanValid", unfollowed := true, recurses := true, apart := false }
def ArenaPlanValidSaid : Prop := arenaPlanValidRow.holds Try.pinned (OpenSpec.ofChange arenaPlanValidSpec)

/-- ITS FALSE NEIGHBOUR: 'it returns false'. Refute it at one input. -/
def arenaPlanValidWrong : ChangeSpec := { name := "arenaPlanValid", fn := fun _ => fun
  | [d] => { results := [.lit (.bool false)], args := [d] }
  | _ => none }
def ArenaPlanValidWrongFalsely : Prop := arenaPlanValidRow.holds Try.pinned (OpenSpec.ofChange arenaPlanValidWrong)

/-- 'brocadelaw42.ArenaChecks': WHATEVER THE INPUT: true; the input reads as it did. -/
def arenaChecksSpec : ChangeSpec := { name := "arenaChecks", fn := fun _ => fun
  | [d1, d2, d3] => { results := [.lit (.bool true)], args := [d1, d2, d3] }
  | _ => none }
def arenaChecksRow : OpenClaim := { program := "ytghnigmmkenddaa", sum := "6a22d29a1f81cc930913308a3bbd9703837a76d58d2a882db188668d8faa3187", func := "brocade/brocadelaw42.ArenaChecks", spec := "arenaChecks", unfollowed := true, recurses := true, apart := false }
def ArenaChecksSaid : Prop := arenaChecksRow.holds Try.pinned (OpenSpec.ofChange arenaChecksSpec)

/-- ITS FALSE NEIGHBOUR: 'it returns false'. Refute it at one input. -/
def arenaChecksWrong : ChangeSpec := { name := "arenaChecks", fn := fun _ => fun
  | [d1, d2, d3] => { results := [.lit (.bool false)], args := [d1, d2, d3] }
  | _ => none }
def ArenaChecksWrongFalsely : Prop := arenaChecksRow.holds Try.pinned (OpenSpec.ofChange arenaChecksWrong)

/-- 'brocadelaw42.ArenaLowerBound': WHATEVER THE INPUT: true; the input reads as it did. -/
def arenaLowerBoundSpec : ChangeSpec := { name := "arenaLowerBound", fn := fun _ => fun
  | [d] => { results := [.lit (.bool true)], args := [d] }
  | _ => none }
def arenaLowerBoundRow : OpenClaim := { program := "ytghnigmmkenddaa", sum := "6a22d29a1f81cc930913308a3bbd9703837a76d58d2a882db188668d8faa3187", func := "brocade/brocadelaw42.ArenaLowerBound", spec := "arenaLowerBound", unfollowed := true, recurses := true, apart := false }
def ArenaLowerBoundSaid : Prop := arenaLowerBoundRow.holds Try.pinned (OpenSpec.ofChange arenaLowerBoundSpec)

/-- ITS FALSE NEIGHBOUR: 'it returns false'. Refute it at one input. -/
def arenaLowerBoundWrong : ChangeSpec := { name := "arenaLowerBound", fn := fun _ => fun
  | [d] => { results := [.lit (.bool false)], args := [d] }
  | _ => none }
def ArenaLowerBoundWrongFalsely : Prop := arenaLowerBoundRow.holds Try.pinned (OpenSpec.ofChange arenaLowerBoundWrong)

/-- 'brocadelaw42.ArenaOptimal': WHATEVER THE INPUT: true; the input reads as it did. -/
def arenaOptimalSpec : ChangeSpec := { name := "arenaOptimal", fn := fun _ => fun
  | [d] => { results := [.lit (.bool true)], args := [d] }
  | _ => none }
def arenaOptimalRow : OpenClaim := { program := "ytghnigmmkenddaa", sum := "6a22d29a1f81cc930913308a3bbd9703837a76d58d2a882db188668d8faa3187", func := "brocade/brocadelaw42.ArenaOptimal", spec := "arenaOptimal", unfollowed := true, recurses := true, apart := false }
def ArenaOptimalSaid : Prop := arenaOptimalRow.holds Try.pinned (OpenSpec.ofChange arenaOptimalSpec)

/-- ITS FALSE NEIGHBOUR: 'it returns false'. Refute it at one input. -/
def arenaOptimalWrong : ChangeSpec := { name := "arenaOptimal", fn := fun _ => fun
  | [d] => { results := [.lit (.bool false)], args := [d] }
  | _ => none }
def ArenaOptimalWrongFalsely : Prop := arenaOptimalRow.holds Try.pinned (OpenSpec.ofChange arenaOptimalWrong)

/- THE SECOND FORM. 'bulk': how many values and letters a reading holds, each counted each time it is reached (what is shared counts as often as it is met; a slice's spare places count too). A statement '..UptoSaid' is the law's where the arguments, and the package variables that the reading takes, are together of bulk at most 1048576: NARROWER than '..Said'. Prove '..Said' where nothing that the law and all that it calls make is longer than what came in: it says more and counts as full. Else prove '..UptoSaid'. A law counts once. -/
mutual
def uptoBulk {H : Type} : DataW H → Nat
  | .lit (.string bytes) => bytes.length + 1
  | .lit _ => 1
  | .nil => 1
  | .ptr d => uptoBulk d + 1
  | .slice elems spare => uptoBulkAll elems + uptoBulkAll spare + 1
  | .agg parts => uptoBulkAll parts + 1
  | .iface _ d => uptoBulk d + 1
  | .map entries => uptoBulkEntries entries + 1
  | .held _ => 1
def uptoBulkAll {H : Type} : List (DataW H) → Nat
  | [] => 0
  | d :: r => uptoBulk d + uptoBulkAll r
def uptoBulkEntries {H : Type} : List (Lit × DataW H) → Nat
  | [] => 0
  | x :: r => uptoBulkEntry x + uptoBulkEntries r
def uptoBulkEntry {H : Type} : Lit × DataW H → Nat
  | (.string bytes, d) => bytes.length + uptoBulk d + 1
  | (_, d) => uptoBulk d + 1
 end
def uptoSmall : (H : Type) → List (DataW H) → Bool := fun _ ds => decide (uptoBulkAll ds ≤ 1048576)
def OpenSpec.upto (s : _root_.Go.ChangeSpec) : _root_.Go.OpenSpec := { _root_.Go.OpenSpec.ofChange s with cond := some uptoSmall }

/-- 'brocadelaw42.ArenaPlans', WHERE WHAT IT READS IS OF BULK AT MOST 1048576: true; the input reads as it did. -/
def arenaPlansUptoRow : OpenClaim := { program := "ytghnigmmkenddaa", sum := "6a22d29a1f81cc930913308a3bbd9703837a76d58d2a882db188668d8faa3187", func := "brocade/brocadelaw42.ArenaPlans", spec := "arenaPlans", unfollowed := true, recurses := true, apart := false, narrowed := true }
def ArenaPlansUptoSaid : Prop := arenaPlansUptoRow.holds Try.pinned (OpenSpec.upto arenaPlansSpec)

/-- 'brocadelaw42.ArenaPlanValid', WHERE WHAT IT READS IS OF BULK AT MOST 1048576: true; the input reads as it did. -/
def arenaPlanValidUptoRow : OpenClaim := { program := "ytghnigmmkenddaa", sum := "6a22d29a1f81cc930913308a3bbd9703837a76d58d2a882db188668d8faa3187", func := "brocade/brocadelaw42.ArenaPlanValid", spec := "arenaPlanValid", unfollowed := true, recurses := true, apart := false, narrowed := true }
def ArenaPlanValidUptoSaid : Prop := arenaPlanValidUptoRow.holds Try.pinned (OpenSpec.upto arenaPlanValidSpec)

/-- 'brocadelaw42.ArenaChecks', WHERE WHAT IT READS IS OF BULK AT MOST 1048576: true; the input reads as it did. -/
def arenaChecksUptoRow : OpenClaim := { program := "ytghnigmmkenddaa", sum := "6a22d29a1f81cc930913308a3bbd9703837a76d58d2a882db188668d8faa3187", func := "brocade/brocadelaw42.ArenaChecks", spec := "arenaChecks", unfollowed := true, recurses := true, apart := false, narrowed := true }
def ArenaChecksUptoSaid : Prop := arenaChecksUptoRow.holds Try.pinned (OpenSpec.upto arenaChecksSpec)

/-- 'brocadelaw42.ArenaLowerBound', WHERE WHAT IT READS IS OF BULK AT MOST 1048576: true; the input reads as it did. -/
def arenaLowerBoundUptoRow : OpenClaim := { program := "ytghnigmmkenddaa", sum := "6a22d29a1f81cc930913308a3bbd9703837a76d58d2a882db188668d8faa3187", func := "brocade/brocadelaw42.ArenaLowerBound", spec := "arenaLowerBound", unfollowed := true, recurses := true, apart := false, narrowed := true }
def ArenaLowerBoundUptoSaid : Prop := arenaLowerBoundUptoRow.holds Try.pinned (OpenSpec.upto arenaLowerBoundSpec)

/-- 'brocadelaw42.ArenaOptimal', WHERE WHAT IT READS IS OF BULK AT MOST 1048576: true; the input reads as it did. -/
def arenaOptimalUptoRow : OpenClaim := { program := "ytghnigmmkenddaa", sum := "6a22d29a1f81cc930913308a3bbd9703837a76d58d2a882db188668d8faa3187", func := "brocade/brocadelaw42.ArenaOptimal", spec := "arenaOptimal", unfollowed := true, recurses := true, apart := false, narrowed := true }
def ArenaOptimalUptoSaid : Prop := arenaOptimalUptoRow.holds Try.pinned (OpenSpec.upto arenaOptimalSpec)

end Rows
end Go.Proofs.Ytghnigmmkenddaa
