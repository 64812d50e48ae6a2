/-
  No cell of these rows narrows 'for every input' (looked for: loops, veiled, ifaces, maps, wideKeys, modest, calm, conditions, laid).
  DERIVED. THE GIVEN ROWS OF THIS SEAT. 3 by the template 'for every input the law returns true; each argument reads behind the call as it read before'; 0 by the template 'total and deterministic' (their statements: YthkhlhibhkdkkaaTotals.lean).
  GIVEN WITH THE SEED: the statements are not yours to turn. If you find one false, say at which input.
  Laid BY PROGRAM, IN A SANDBOX (cutbox-rows.mjs): the forced cells as the released guide's own fill.sh prints them over the translation 2c3b9f9811c224b6… (all of the seat's roots in one cut). By AI agents, Wed Nov 11 2026. No macro, syntax, notation, axiom, sorry.
-/
import Derived.Test.YthkhlhibhkdkkaaChecked
import GoSem.Claim
import GoSem.ClaimJoined
import GoSem.ClaimMapViews
import Derived.JoinedTies
import Derived.KernelRfl
namespace Go.Proofs.Ythkhlhibhkdkkaa
/- THE CELL 'sum', in the pinned program and in every row, IS THE sha256 OF THE DUMP (.gsa) THAT YthkhlhibhkdkkaaProg.lean LOADS. Nothing in Lean hashes anything: it is a label: what it is worth is what the hold of that sum in a sandbox is worth. -/
noncomputable def Try.pinned : Pinned := { name := "ythkhlhibhkdkkaa", sum := "2c3b9f9811c224b60e3b1c98ac3955d7f87ae67c8985335b868b5b4f90b650e0", checked := Try.checked }
namespace Rows
def none {H : Type} : Left H := { results := [], args := [] }

/-- 'brocadelaw25.DualApplies': WHATEVER THE INPUT: true; the input reads as it did. -/
def dualAppliesSpec : ChangeSpec := { name := "dualApplies", fn := fun _ => fun
  | [d1, d2, d3] => { results := [.lit (.bool true)], args := [d1, d2, d3] }
  | _ => none }
def dualAppliesRow : OpenClaim := { program := "ythkhlhibhkdkkaa", sum := "2c3b9f9811c224b60e3b1c98ac3955d7f87ae67c8985335b868b5b4f90b650e0", func := "brocade/brocadelaw25.DualApplies", spec := "dualApplies", unfollowed := true, recurses := true, apart := false }
def DualAppliesSaid : Prop := dualAppliesRow.holds Try.pinned (OpenSpec.ofChange dualAppliesSpec)

/-- ITS FALSE NEIGHBOUR: 'it returns false'. Refute it at one input. -/
def dualAppliesWrong : ChangeSpec := { name := "dualApplies", fn := fun _ => fun
  | [d1, d2, d3] => { results := [.lit (.bool false)], args := [d1, d2, d3] }
  | _ => none }
def DualAppliesWrongFalsely : Prop := dualAppliesRow.holds Try.pinned (OpenSpec.ofChange dualAppliesWrong)

/-- 'brocadelaw25.DualReduces': WHATEVER THE INPUT: true; the input reads as it did. -/
def dualReducesSpec : ChangeSpec := { name := "dualReduces", fn := fun _ => fun
  | [d1, d2] => { results := [.lit (.bool true)], args := [d1, d2] }
  | _ => none }
def dualReducesRow : OpenClaim := { program := "ythkhlhibhkdkkaa", sum := "2c3b9f9811c224b60e3b1c98ac3955d7f87ae67c8985335b868b5b4f90b650e0", func := "brocade/brocadelaw25.DualReduces", spec := "dualReduces", unfollowed := true, recurses := true, apart := false }
def DualReducesSaid : Prop := dualReducesRow.holds Try.pinned (OpenSpec.ofChange dualReducesSpec)

/-- ITS FALSE NEIGHBOUR: 'it returns false'. Refute it at one input. -/
def dualReducesWrong : ChangeSpec := { name := "dualReduces", fn := fun _ => fun
  | [d1, d2] => { results := [.lit (.bool false)], args := [d1, d2] }
  | _ => none }
def DualReducesWrongFalsely : Prop := dualReducesRow.holds Try.pinned (OpenSpec.ofChange dualReducesWrong)

/-- 'brocadelaw25.DualDivides': WHATEVER THE INPUT: true; the input reads as it did. -/
def dualDividesSpec : ChangeSpec := { name := "dualDivides", fn := fun _ => fun
  | [d1, d2] => { results := [.lit (.bool true)], args := [d1, d2] }
  | _ => none }
def dualDividesRow : OpenClaim := { program := "ythkhlhibhkdkkaa", sum := "2c3b9f9811c224b60e3b1c98ac3955d7f87ae67c8985335b868b5b4f90b650e0", func := "brocade/brocadelaw25.DualDivides", spec := "dualDivides", unfollowed := true, recurses := true, apart := false }
def DualDividesSaid : Prop := dualDividesRow.holds Try.pinned (OpenSpec.ofChange dualDividesSpec)

/-- ITS FALSE NEIGHBOUR: 'it returns false'. Refute it at one input. -/
def dualDividesWrong : ChangeSpec := { name := "dualDivides", fn := fun _ => fun
  | [d1, d2] => { results := [.lit (.bool false)], args := [d1, d2] }
  | _ => none }
def DualDividesWrongFalsely : Prop := dualDividesRow.holds Try.pinned (OpenSpec.ofChange dualDividesWrong)

/- THE SECOND FORM. 'bulk': how many values and letters a reading holds, each counted each time it is reached (what is shared counts as often as it is met; a slice's spare places count too). A statement '..UptoSaid' is the law's where the arguments, and the package variables that the reading takes, are together of bulk at most 1048576: NARROWER than '..Said'. Prove '..Said' where nothing that the law and all that it calls make is longer than what came in: it says more and counts as full. Else prove '..UptoSaid'. A law counts once. -/
mutual
def uptoBulk {H : Type} : DataW H → Nat
  | .lit (.string bytes) => bytes.length + 1
  | .lit _ => 1
  | .nil => 1
  | .ptr d => uptoBulk d + 1
  | .slice elems spare => uptoBulkAll elems + uptoBulkAll spare + 1
  | .agg parts => uptoBulkAll parts + 1
  | .iface _ d => uptoBulk d + 1
  | .map entries => uptoBulkEntries entries + 1
  | .held _ => 1
def uptoBulkAll {H : Type} : List (DataW H) → Nat
  | [] => 0
  | d :: r => uptoBulk d + uptoBulkAll r
def uptoBulkEntries {H : Type} : List (Lit × DataW H) → Nat
  | [] => 0
  | x :: r => uptoBulkEntry x + uptoBulkEntries r
def uptoBulkEntry {H : Type} : Lit × DataW H → Nat
  | (.string bytes, d) => bytes.length + uptoBulk d + 1
  | (_, d) => uptoBulk d + 1
 end
def uptoSmall : (H : Type) → List (DataW H) → Bool := fun _ ds => decide (uptoBulkAll ds ≤ 1048576)
def OpenSpec.upto (s : _root_.Go.ChangeSpec) : _root_.Go.OpenSpec := { _root_.Go.OpenSpec.ofChange s with cond := some uptoSmall }

/-- 'brocadelaw25.DualApplies', WHERE WHAT IT READS IS OF BULK AT MOST 1048576: true; the input reads as it did. -/
def dualAppliesUptoRow : OpenClaim := { program := "ythkhlhibhkdkkaa", sum := "2c3b9f9811c224b60e3b1c98ac3955d7f87ae67c8985335b868b5b4f90b650e0", func := "brocade/brocadelaw25.DualApplies", spec := "dualApplies", unfollowed := true, recurses := true, apart := false, narrowed := true }
def DualAppliesUptoSaid : Prop := dualAppliesUptoRow.holds Try.pinned (OpenSpec.upto dualAppliesSpec)

/-- 'brocadelaw25.DualReduces', WHERE WHAT IT READS IS OF BULK AT MOST 1048576: true; the input reads as it did. -/
def dualReducesUptoRow : OpenClaim := { program := "ythkhlhibhkdkkaa", sum := "2c3b9f9811c224b60e3b1c98ac3955d7f87ae67c8985335b868b5b4f90b650e0", func := "brocade/brocadelaw25.DualReduces", spec := "dualReduces", unfollowed := true, recurses := true, apart := false, narrowed := true }
def DualReducesUptoSaid : Prop := dualReducesUptoRow.holds Try.pinned (OpenSpec.upto dualReducesSpec)

/-- 'brocadelaw25.DualDivides', WHERE WHAT IT READS IS OF BULK AT MOST 1048576: true; the input reads as it did. -/
def dualDividesUptoRow : OpenClaim := { program := "ythkhlhibhkdkkaa", sum := "2c3b9f9811c224b60e3b1c98ac3955d7f87ae67c8985335b868b5b4f90b650e0", func := "brocade/brocadelaw25.DualDivides", spec := "dualDivides", unfollowed := true, recurses := true, apart := false, narrowed := true }
def DualDividesUptoSaid : Prop := dualDividesUptoRow.holds Try.pinned (OpenSpec.upto dualDividesSpec)

end Rows
end Go.Proofs.Ythkhlhibhkdkkaa
