/-
  No cell of these rows narrows 'for every input' (looked for: loops, veiled, ifaces, maps, wideKeys, modest, calm, conditions, laid).
  DERIVED. THE GIVEN ROWS OF THIS SEAT. 10 by the template 'for every input the law returns true; each argument reads behind the call as it read before'; 0 by the template 'total and deterministic' (their statements: YtjpcpdaokgkaoaaTotals.lean).
  GIVEN WITH THE SEED: the statements are not yours to turn. If you find one false, say at which input.
  Laid BY PROGRAM, IN A SANDBOX (cutbox-rows.mjs): the forced cells as the released guide's own fill.sh prints them over the translation bce1121d9be11d95… (all of the seat's roots in one cut). By AI agents, Wed Nov 11 2026. No macro, syntax, notation, axiom, sorry.
-/
import Derived.Test.YtjpcpdaokgkaoaaChecked
import GoSem.Claim
import GoSem.ClaimJoined
import GoSem.ClaimMapViews
import Derived.JoinedTies
import Derived.KernelRfl
namespace Go.Proofs.Ytjpcpdaokgkaoaa
/- THE CELL 'sum', in the pinned program and in every row, IS THE sha256 OF THE DUMP (.gsa) THAT YtjpcpdaokgkaoaaProg.lean LOADS. Nothing in Lean hashes anything: it is a label: what it is worth is what the hold of that sum in a sandbox is worth. -/
noncomputable def Try.pinned : Pinned := { name := "ytjpcpdaokgkaoaa", sum := "bce1121d9be11d95eb91688e25280be3a799ce9cb55aa52f2bacc56793bf47b1", checked := Try.checked }
namespace Rows
def none {H : Type} : Left H := { results := [], args := [] }

/-- 'brocadelaw11.ShapeValidates': WHATEVER THE INPUT: true; the input reads as it did. -/
def shapeValidatesSpec : ChangeSpec := { name := "shapeValidates", fn := fun _ => fun
  | [d] => { results := [.lit (.bool true)], args := [d] }
  | _ => none }
def shapeValidatesRow : OpenClaim := { program := "ytjpcpdaokgkaoaa", sum := "bce1121d9be11d95eb91688e25280be3a799ce9cb55aa52f2bacc56793bf47b1", func := "brocade/brocadelaw11.ShapeValidates", spec := "shapeValidates", unfollowed := true, recurses := true, apart := false }
def ShapeValidatesSaid : Prop := shapeValidatesRow.holds Try.pinned (OpenSpec.ofChange shapeValidatesSpec)

/-- ITS FALSE NEIGHBOUR: 'it returns false'. Refute it at one input. -/
def shapeValidatesWrong : ChangeSpec := { name := "shapeValidates", fn := fun _ => fun
  | [d] => { results := [.lit (.bool false)], args := [d] }
  | _ => none }
def ShapeValidatesWrongFalsely : Prop := shapeValidatesRow.holds Try.pinned (OpenSpec.ofChange shapeValidatesWrong)

/-- 'brocadelaw11.ShapeIndexes': WHATEVER THE INPUT: true; the input reads as it did. -/
def shapeIndexesSpec : ChangeSpec := { name := "shapeIndexes", fn := fun _ => fun
  | [d1, d2, d3] => { results := [.lit (.bool true)], args := [d1, d2, d3] }
  | _ => none }
def shapeIndexesRow : OpenClaim := { program := "ytjpcpdaokgkaoaa", sum := "bce1121d9be11d95eb91688e25280be3a799ce9cb55aa52f2bacc56793bf47b1", func := "brocade/brocadelaw11.ShapeIndexes", spec := "shapeIndexes", unfollowed := true, recurses := true, apart := false }
def ShapeIndexesSaid : Prop := shapeIndexesRow.holds Try.pinned (OpenSpec.ofChange shapeIndexesSpec)

/-- ITS FALSE NEIGHBOUR: 'it returns false'. Refute it at one input. -/
def shapeIndexesWrong : ChangeSpec := { name := "shapeIndexes", fn := fun _ => fun
  | [d1, d2, d3] => { results := [.lit (.bool false)], args := [d1, d2, d3] }
  | _ => none }
def ShapeIndexesWrongFalsely : Prop := shapeIndexesRow.holds Try.pinned (OpenSpec.ofChange shapeIndexesWrong)

/-- 'brocadelaw11.ShapeBroadcasts': WHATEVER THE INPUT: true; the input reads as it did. -/
def shapeBroadcastsSpec : ChangeSpec := { name := "shapeBroadcasts", fn := fun _ => fun
  | [d1, d2] => { results := [.lit (.bool true)], args := [d1, d2] }
  | _ => none }
def shapeBroadcastsRow : OpenClaim := { program := "ytjpcpdaokgkaoaa", sum := "bce1121d9be11d95eb91688e25280be3a799ce9cb55aa52f2bacc56793bf47b1", func := "brocade/brocadelaw11.ShapeBroadcasts", spec := "shapeBroadcasts", unfollowed := true, recurses := true, apart := false }
def ShapeBroadcastsSaid : Prop := shapeBroadcastsRow.holds Try.pinned (OpenSpec.ofChange shapeBroadcastsSpec)

/-- ITS FALSE NEIGHBOUR: 'it returns false'. Refute it at one input. -/
def shapeBroadcastsWrong : ChangeSpec := { name := "shapeBroadcasts", fn := fun _ => fun
  | [d1, d2] => { results := [.lit (.bool false)], args := [d1, d2] }
  | _ => none }
def ShapeBroadcastsWrongFalsely : Prop := shapeBroadcastsRow.holds Try.pinned (OpenSpec.ofChange shapeBroadcastsWrong)

/-- 'brocadelaw11.ShapePermutes': WHATEVER THE INPUT: true; the input reads as it did. -/
def shapePermutesSpec : ChangeSpec := { name := "shapePermutes", fn := fun _ => fun
  | [d1, d2] => { results := [.lit (.bool true)], args := [d1, d2] }
  | _ => none }
def shapePermutesRow : OpenClaim := { program := "ytjpcpdaokgkaoaa", sum := "bce1121d9be11d95eb91688e25280be3a799ce9cb55aa52f2bacc56793bf47b1", func := "brocade/brocadelaw11.ShapePermutes", spec := "shapePermutes", unfollowed := true, recurses := true, apart := false }
def ShapePermutesSaid : Prop := shapePermutesRow.holds Try.pinned (OpenSpec.ofChange shapePermutesSpec)

/-- ITS FALSE NEIGHBOUR: 'it returns false'. Refute it at one input. -/
def shapePermutesWrong : ChangeSpec := { name := "shapePermutes", fn := fun _ => fun
  | [d1, d2] => { results := [.lit (.bool false)], args := [d1, d2] }
  | _ => none }
def ShapePermutesWrongFalsely : Prop := shapePermutesRow.holds Try.pinned (OpenSpec.ofChange shapePermutesWrong)

/-- 'brocadelaw11.ShapeSlices': WHATEVER THE INPUT: true; the input reads as it did. -/
def shapeSlicesSpec : ChangeSpec := { name := "shapeSlices", fn := fun _ => fun
  | [d1, d2] => { results := [.lit (.bool true)], args := [d1, d2] }
  | _ => none }
def shapeSlicesRow : OpenClaim := { program := "ytjpcpdaokgkaoaa", sum := "bce1121d9be11d95eb91688e25280be3a799ce9cb55aa52f2bacc56793bf47b1", func := "brocade/brocadelaw11.ShapeSlices", spec := "shapeSlices", unfollowed := true, recurses := true, apart := false }
def ShapeSlicesSaid : Prop := shapeSlicesRow.holds Try.pinned (OpenSpec.ofChange shapeSlicesSpec)

/-- ITS FALSE NEIGHBOUR: 'it returns false'. Refute it at one input. -/
def shapeSlicesWrong : ChangeSpec := { name := "shapeSlices", fn := fun _ => fun
  | [d1, d2] => { results := [.lit (.bool false)], args := [d1, d2] }
  | _ => none }
def ShapeSlicesWrongFalsely : Prop := shapeSlicesRow.holds Try.pinned (OpenSpec.ofChange shapeSlicesWrong)

/-- 'brocadelaw11.ShapeCounts': WHATEVER THE INPUT: true; the input reads as it did. -/
def shapeCountsSpec : ChangeSpec := { name := "shapeCounts", fn := fun _ => fun
  | [d] => { results := [.lit (.bool true)], args := [d] }
  | _ => none }
def shapeCountsRow : OpenClaim := { program := "ytjpcpdaokgkaoaa", sum := "bce1121d9be11d95eb91688e25280be3a799ce9cb55aa52f2bacc56793bf47b1", func := "brocade/brocadelaw11.ShapeCounts", spec := "shapeCounts", unfollowed := true, recurses := true, apart := false }
def ShapeCountsSaid : Prop := shapeCountsRow.holds Try.pinned (OpenSpec.ofChange shapeCountsSpec)

/-- ITS FALSE NEIGHBOUR: 'it returns false'. Refute it at one input. -/
def shapeCountsWrong : ChangeSpec := { name := "shapeCounts", fn := fun _ => fun
  | [d] => { results := [.lit (.bool false)], args := [d] }
  | _ => none }
def ShapeCountsWrongFalsely : Prop := shapeCountsRow.holds Try.pinned (OpenSpec.ofChange shapeCountsWrong)

/-- 'brocadelaw51.MeshCoordinates': WHATEVER THE INPUT: true; the input reads as it did. -/
def meshCoordinatesSpec : ChangeSpec := { name := "meshCoordinates", fn := fun _ => fun
  | [d1, d2, d3] => { results := [.lit (.bool true)], args := [d1, d2, d3] }
  | _ => none }
def meshCoordinatesRow : OpenClaim := { program := "ytjpcpdaokgkaoaa", sum := "bce1121d9be11d95eb91688e25280be3a799ce9cb55aa52f2bacc56793bf47b1", func := "brocade/brocadelaw51.MeshCoordinates", spec := "meshCoordinates", apart := false }
def MeshCoordinatesSaid : Prop := meshCoordinatesRow.holds Try.pinned (OpenSpec.ofChange meshCoordinatesSpec)

/-- ITS FALSE NEIGHBOUR: 'it returns false'. Refute it at one input. -/
def meshCoordinatesWrong : ChangeSpec := { name := "meshCoordinates", fn := fun _ => fun
  | [d1, d2, d3] => { results := [.lit (.bool false)], args := [d1, d2, d3] }
  | _ => none }
def MeshCoordinatesWrongFalsely : Prop := meshCoordinatesRow.holds Try.pinned (OpenSpec.ofChange meshCoordinatesWrong)

/-- 'brocadelaw51.MeshGroups': WHATEVER THE INPUT: true; the input reads as it did. -/
def meshGroupsSpec : ChangeSpec := { name := "meshGroups", fn := fun _ => fun
  | [d1, d2, d3] => { results := [.lit (.bool true)], args := [d1, d2, d3] }
  | _ => none }
def meshGroupsRow : OpenClaim := { program := "ytjpcpdaokgkaoaa", sum := "bce1121d9be11d95eb91688e25280be3a799ce9cb55aa52f2bacc56793bf47b1", func := "brocade/brocadelaw51.MeshGroups", spec := "meshGroups", apart := false }
def MeshGroupsSaid : Prop := meshGroupsRow.holds Try.pinned (OpenSpec.ofChange meshGroupsSpec)

/-- ITS FALSE NEIGHBOUR: 'it returns false'. Refute it at one input. -/
def meshGroupsWrong : ChangeSpec := { name := "meshGroups", fn := fun _ => fun
  | [d1, d2, d3] => { results := [.lit (.bool false)], args := [d1, d2, d3] }
  | _ => none }
def MeshGroupsWrongFalsely : Prop := meshGroupsRow.holds Try.pinned (OpenSpec.ofChange meshGroupsWrong)

/-- 'brocadelaw51.MeshRoundTrip': WHATEVER THE INPUT: true; the input reads as it did. -/
def meshRoundTripSpec : ChangeSpec := { name := "meshRoundTrip", fn := fun _ => fun
  | [d] => { results := [.lit (.bool true)], args := [d] }
  | _ => none }
def meshRoundTripRow : OpenClaim := { program := "ytjpcpdaokgkaoaa", sum := "bce1121d9be11d95eb91688e25280be3a799ce9cb55aa52f2bacc56793bf47b1", func := "brocade/brocadelaw51.MeshRoundTrip", spec := "meshRoundTrip", apart := false }
def MeshRoundTripSaid : Prop := meshRoundTripRow.holds Try.pinned (OpenSpec.ofChange meshRoundTripSpec)

/-- ITS FALSE NEIGHBOUR: 'it returns false'. Refute it at one input. -/
def meshRoundTripWrong : ChangeSpec := { name := "meshRoundTrip", fn := fun _ => fun
  | [d] => { results := [.lit (.bool false)], args := [d] }
  | _ => none }
def MeshRoundTripWrongFalsely : Prop := meshRoundTripRow.holds Try.pinned (OpenSpec.ofChange meshRoundTripWrong)

/-- 'brocadelaw51.MeshPartition': WHATEVER THE INPUT: true; the input reads as it did. -/
def meshPartitionSpec : ChangeSpec := { name := "meshPartition", fn := fun _ => fun
  | [d1, d2] => { results := [.lit (.bool true)], args := [d1, d2] }
  | _ => none }
def meshPartitionRow : OpenClaim := { program := "ytjpcpdaokgkaoaa", sum := "bce1121d9be11d95eb91688e25280be3a799ce9cb55aa52f2bacc56793bf47b1", func := "brocade/brocadelaw51.MeshPartition", spec := "meshPartition", apart := false }
def MeshPartitionSaid : Prop := meshPartitionRow.holds Try.pinned (OpenSpec.ofChange meshPartitionSpec)

/-- ITS FALSE NEIGHBOUR: 'it returns false'. Refute it at one input. -/
def meshPartitionWrong : ChangeSpec := { name := "meshPartition", fn := fun _ => fun
  | [d1, d2] => { results := [.lit (.bool false)], args := [d1, d2] }
  | _ => none }
def MeshPartitionWrongFalsely : Prop := meshPartitionRow.holds Try.pinned (OpenSpec.ofChange meshPartitionWrong)

/- THE SECOND FORM. 'bulk': how many values and letters a reading holds, each counted each time it is reached (what is shared counts as often as it is met; a slice's spare places count too). A statement '..UptoSaid' is the law's where the arguments, and the package variables that the reading takes, are together of bulk at most 1048576: NARROWER than '..Said'. Prove '..Said' where nothing that the law and all that it calls make is longer than what came in: it says more and counts as full. Else prove '..UptoSaid'. A law counts once. -/
mutual
def uptoBulk {H : Type} : DataW H → Nat
  | .lit (.string bytes) => bytes.length + 1
  | .lit _ => 1
  | .nil => 1
  | .ptr d => uptoBulk d + 1
  | .slice elems spare => uptoBulkAll elems + uptoBulkAll spare + 1
  | .agg parts => uptoBulkAll parts + 1
  | .iface _ d => uptoBulk d + 1
  | .map entries => uptoBulkEntries entries + 1
  | .held _ => 1
def uptoBulkAll {H : Type} : List (DataW H) → Nat
  | [] => 0
  | d :: r => uptoBulk d + uptoBulkAll r
def uptoBulkEntries {H : Type} : List (Lit × DataW H) → Nat
  | [] => 0
  | x :: r => uptoBulkEntry x + uptoBulkEntries r
def uptoBulkEntry {H : Type} : Lit × DataW H → Nat
  | (.string bytes, d) => bytes.length + uptoBulk d + 1
  | (_, d) => uptoBulk d + 1
 end
def uptoSmall : (H : Type) → List (DataW H) → Bool := fun _ ds => decide (uptoBulkAll ds ≤ 1048576)
def OpenSpec.upto (s : _root_.Go.ChangeSpec) : _root_.Go.OpenSpec := { _root_.Go.OpenSpec.ofChange s with cond := some uptoSmall }

/-- 'brocadelaw11.ShapeValidates', WHERE WHAT IT READS IS OF BULK AT MOST 1048576: true; the input reads as it did. -/
def shapeValidatesUptoRow : OpenClaim := { program := "ytjpcpdaokgkaoaa", sum := "bce1121d9be11d95eb91688e25280be3a799ce9cb55aa52f2bacc56793bf47b1", func := "brocade/brocadelaw11.ShapeValidates", spec := "shapeValidates", unfollowed := true, recurses := true, apart := false, narrowed := true }
def ShapeValidatesUptoSaid : Prop := shapeValidatesUptoRow.holds Try.pinned (OpenSpec.upto shapeValidatesSpec)

/-- 'brocadelaw11.ShapeIndexes', WHERE WHAT IT READS IS OF BULK AT MOST 1048576: true; the input reads as it did. -/
def shapeIndexesUptoRow : OpenClaim := { program := "ytjpcpdaokgkaoaa", sum := "bce1121d9be11d95eb91688e25280be3a799ce9cb55aa52f2bacc56793bf47b1", func := "brocade/brocadelaw11.ShapeIndexes", spec := "shapeIndexes", unfollowed := true, recurses := true, apart := false, narrowed := true }
def ShapeIndexesUptoSaid : Prop := shapeIndexesUptoRow.holds Try.pinned (OpenSpec.upto shapeIndexesSpec)

/-- 'brocadelaw11.ShapeBroadcasts', WHERE WHAT IT READS IS OF BULK AT MOST 1048576: true; the input reads as it did. -/
def shapeBroadcastsUptoRow : OpenClaim := { program := "ytjpcpdaokgkaoaa", sum := "bce1121d9be11d95eb91688e25280be3a799ce9cb55aa52f2bacc56793bf47b1", func := "brocade/brocadelaw11.ShapeBroadcasts", spec := "shapeBroadcasts", unfollowed := true, recurses := true, apart := false, narrowed := true }
def ShapeBroadcastsUptoSaid : Prop := shapeBroadcastsUptoRow.holds Try.pinned (OpenSpec.upto shapeBroadcastsSpec)

/-- 'brocadelaw11.ShapePermutes', WHERE WHAT IT READS IS OF BULK AT MOST 1048576: true; the input reads as it did. -/
def shapePermutesUptoRow : OpenClaim := { program := "ytjpcpdaokgkaoaa", sum := "bce1121d9be11d95eb91688e25280be3a799ce9cb55aa52f2bacc56793bf47b1", func := "brocade/brocadelaw11.ShapePermutes", spec := "shapePermutes", unfollowed := true, recurses := true, apart := false, narrowed := true }
def ShapePermutesUptoSaid : Prop := shapePermutesUptoRow.holds Try.pinned (OpenSpec.upto shapePermutesSpec)

/-- 'brocadelaw11.ShapeSlices', WHERE WHAT IT READS IS OF BULK AT MOST 1048576: true; the input reads as it did. -/
def shapeSlicesUptoRow : OpenClaim := { program := "ytjpcpdaokgkaoaa", sum := "bce1121d9be11d95eb91688e25280be3a799ce9cb55aa52f2bacc56793bf47b1", func := "brocade/brocadelaw11.ShapeSlices", spec := "shapeSlices", unfollowed := true, recurses := true, apart := false, narrowed := true }
def ShapeSlicesUptoSaid : Prop := shapeSlicesUptoRow.holds Try.pinned (OpenSpec.upto shapeSlicesSpec)

/-- 'brocadelaw11.ShapeCounts', WHERE WHAT IT READS IS OF BULK AT MOST 1048576: true; the input reads as it did. -/
def shapeCountsUptoRow : OpenClaim := { program := "ytjpcpdaokgkaoaa", sum := "bce1121d9be11d95eb91688e25280be3a799ce9cb55aa52f2bacc56793bf47b1", func := "brocade/brocadelaw11.ShapeCounts", spec := "shapeCounts", unfollowed := true, recurses := true, apart := false, narrowed := true }
def ShapeCountsUptoSaid : Prop := shapeCountsUptoRow.holds Try.pinned (OpenSpec.upto shapeCountsSpec)

/-- 'brocadelaw51.MeshCoordinates', WHERE WHAT IT READS IS OF BULK AT MOST 1048576: true; the input reads as it did. -/
def meshCoordinatesUptoRow : OpenClaim := { program := "ytjpcpdaokgkaoaa", sum := "bce1121d9be11d95eb91688e25280be3a799ce9cb55aa52f2bacc56793bf47b1", func := "brocade/brocadelaw51.MeshCoordinates", spec := "meshCoordinates", apart := false, narrowed := true }
def MeshCoordinatesUptoSaid : Prop := meshCoordinatesUptoRow.holds Try.pinned (OpenSpec.upto meshCoordinatesSpec)

/-- 'brocadelaw51.MeshGroups', WHERE WHAT IT READS IS OF BULK AT MOST 1048576: true; the input reads as it did. -/
def meshGroupsUptoRow : OpenClaim := { program := "ytjpcpdaokgkaoaa", sum := "bce1121d9be11d95eb91688e25280be3a799ce9cb55aa52f2bacc56793bf47b1", func := "brocade/brocadelaw51.MeshGroups", spec := "meshGroups", apart := false, narrowed := true }
def MeshGroupsUptoSaid : Prop := meshGroupsUptoRow.holds Try.pinned (OpenSpec.upto meshGroupsSpec)

/-- 'brocadelaw51.MeshRoundTrip', WHERE WHAT IT READS IS OF BULK AT MOST 1048576: true; the input reads as it did. -/
def meshRoundTripUptoRow : OpenClaim := { program := "ytjpcpdaokgkaoaa", sum := "bce1121d9be11d95eb91688e25280be3a799ce9cb55aa52f2bacc56793bf47b1", func := "brocade/brocadelaw51.MeshRoundTrip", spec := "meshRoundTrip", apart := false, narrowed := true }
def MeshRoundTripUptoSaid : Prop := meshRoundTripUptoRow.holds Try.pinned (OpenSpec.upto meshRoundTripSpec)

/-- 'brocadelaw51.MeshPartition', WHERE WHAT IT READS IS OF BULK AT MOST 1048576: true; the input reads as it did. -/
def meshPartitionUptoRow : OpenClaim := { program := "ytjpcpdaokgkaoaa", sum := "bce1121d9be11d95eb91688e25280be3a799ce9cb55aa52f2bacc56793bf47b1", func := "brocade/brocadelaw51.MeshPartition", spec := "meshPartition", apart := false, narrowed := true }
def MeshPartitionUptoSaid : Prop := meshPartitionUptoRow.holds Try.pinned (OpenSpec.upto meshPartitionSpec)

end Rows
end Go.Proofs.Ytjpcpdaokgkaoaa
