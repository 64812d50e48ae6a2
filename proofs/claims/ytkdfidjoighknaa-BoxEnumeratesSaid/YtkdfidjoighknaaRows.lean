/-
  NARROWER THAN 'FOR EVERY INPUT', by the rows' own cells (each row's printed sentence says how): DepgraphEdges: loops · DepgraphReachable: loops · DepgraphLevels: loops · DepgraphBetween: loops.
  DERIVED. THE GIVEN ROWS OF THIS SEAT. 11 by the template 'for every input the law returns true; each argument reads behind the call as it read before'; 0 by the template 'total and deterministic' (their statements: YtkdfidjoighknaaTotals.lean).
  GIVEN WITH THE SEED: the statements are not yours to turn. If you find one false, say at which input.
  Laid BY PROGRAM, IN A SANDBOX (cutbox-rows.mjs): the forced cells as the released guide's own fill.sh prints them over the translation 22b17aa9252fbb1e… (all of the seat's roots in one cut). By AI agents, Wed Nov 11 2026. No macro, syntax, notation, axiom, sorry.
-/
import Derived.Test.YtkdfidjoighknaaChecked
import GoSem.Claim
import GoSem.ClaimJoined
import GoSem.ClaimMapViews
import Derived.JoinedTies
import Derived.KernelRfl
namespace Go.Proofs.Ytkdfidjoighknaa
/- THE CELL 'sum', in the pinned program and in every row, IS THE sha256 OF THE DUMP (.gsa) THAT YtkdfidjoighknaaProg.lean LOADS. Nothing in Lean hashes anything: it is a label: what it is worth is what the hold of that sum in a sandbox is worth. -/
noncomputable def Try.pinned : Pinned := { name := "ytkdfidjoighknaa", sum := "22b17aa9252fbb1eae99a8d938a0f2ff4cc63a69a5ee256bc41919df8ee8db02", checked := Try.checked }
namespace Rows
def none {H : Type} : Left H := { results := [], args := [] }

/-- 'brocadelaw09.BoxValidates': WHATEVER THE INPUT: true; the input reads as it did. -/
def boxValidatesSpec : ChangeSpec := { name := "boxValidates", fn := fun _ => fun
  | [d] => { results := [.lit (.bool true)], args := [d] }
  | _ => none }
def boxValidatesRow : OpenClaim := { program := "ytkdfidjoighknaa", sum := "22b17aa9252fbb1eae99a8d938a0f2ff4cc63a69a5ee256bc41919df8ee8db02", func := "brocade/brocadelaw09.BoxValidates", spec := "boxValidates", unfollowed := true, recurses := true, apart := false }
def BoxValidatesSaid : Prop := boxValidatesRow.holds Try.pinned (OpenSpec.ofChange boxValidatesSpec)

/-- ITS FALSE NEIGHBOUR: 'it returns false'. Refute it at one input. -/
def boxValidatesWrong : ChangeSpec := { name := "boxValidates", fn := fun _ => fun
  | [d] => { results := [.lit (.bool false)], args := [d] }
  | _ => none }
def BoxValidatesWrongFalsely : Prop := boxValidatesRow.holds Try.pinned (OpenSpec.ofChange boxValidatesWrong)

/-- 'brocadelaw09.BoxPoints': WHATEVER THE INPUT: true; the input reads as it did. -/
def boxPointsSpec : ChangeSpec := { name := "boxPoints", fn := fun _ => fun
  | [d1, d2, d3] => { results := [.lit (.bool true)], args := [d1, d2, d3] }
  | _ => none }
def boxPointsRow : OpenClaim := { program := "ytkdfidjoighknaa", sum := "22b17aa9252fbb1eae99a8d938a0f2ff4cc63a69a5ee256bc41919df8ee8db02", func := "brocade/brocadelaw09.BoxPoints", spec := "boxPoints", unfollowed := true, recurses := true, apart := false }
def BoxPointsSaid : Prop := boxPointsRow.holds Try.pinned (OpenSpec.ofChange boxPointsSpec)

/-- ITS FALSE NEIGHBOUR: 'it returns false'. Refute it at one input. -/
def boxPointsWrong : ChangeSpec := { name := "boxPoints", fn := fun _ => fun
  | [d1, d2, d3] => { results := [.lit (.bool false)], args := [d1, d2, d3] }
  | _ => none }
def BoxPointsWrongFalsely : Prop := boxPointsRow.holds Try.pinned (OpenSpec.ofChange boxPointsWrong)

/-- 'brocadelaw09.BoxEnumerates': WHATEVER THE INPUT: true; the input reads as it did. -/
def boxEnumeratesSpec : ChangeSpec := { name := "boxEnumerates", fn := fun _ => fun
  | [d1, d2] => { results := [.lit (.bool true)], args := [d1, d2] }
  | _ => none }
def boxEnumeratesRow : OpenClaim := { program := "ytkdfidjoighknaa", sum := "22b17aa9252fbb1eae99a8d938a0f2ff4cc63a69a5ee256bc41919df8ee8db02", func := "brocade/brocadelaw09.BoxEnumerates", spec := "boxEnumerates", unfollowed := true, recurses := true, apart := false }
def BoxEnumeratesSaid : Prop := boxEnumeratesRow.holds Try.pinned (OpenSpec.ofChange boxEnumeratesSpec)

/-- ITS FALSE NEIGHBOUR: 'it returns false'. Refute it at one input. -/
def boxEnumeratesWrong : ChangeSpec := { name := "boxEnumerates", fn := fun _ => fun
  | [d1, d2] => { results := [.lit (.bool false)], args := [d1, d2] }
  | _ => none }
def BoxEnumeratesWrongFalsely : Prop := boxEnumeratesRow.holds Try.pinned (OpenSpec.ofChange boxEnumeratesWrong)

/-- 'brocadelaw09.BoxInverse': WHATEVER THE INPUT: true; the input reads as it did. -/
def boxInverseSpec : ChangeSpec := { name := "boxInverse", fn := fun _ => fun
  | [d1, d2] => { results := [.lit (.bool true)], args := [d1, d2] }
  | _ => none }
def boxInverseRow : OpenClaim := { program := "ytkdfidjoighknaa", sum := "22b17aa9252fbb1eae99a8d938a0f2ff4cc63a69a5ee256bc41919df8ee8db02", func := "brocade/brocadelaw09.BoxInverse", spec := "boxInverse", unfollowed := true, recurses := true, apart := false }
def BoxInverseSaid : Prop := boxInverseRow.holds Try.pinned (OpenSpec.ofChange boxInverseSpec)

/-- ITS FALSE NEIGHBOUR: 'it returns false'. Refute it at one input. -/
def boxInverseWrong : ChangeSpec := { name := "boxInverse", fn := fun _ => fun
  | [d1, d2] => { results := [.lit (.bool false)], args := [d1, d2] }
  | _ => none }
def BoxInverseWrongFalsely : Prop := boxInverseRow.holds Try.pinned (OpenSpec.ofChange boxInverseWrong)

/-- 'brocadelaw09.BoxTotalOrder': WHATEVER THE INPUT: true; the input reads as it did. -/
def boxTotalOrderSpec : ChangeSpec := { name := "boxTotalOrder", fn := fun _ => fun
  | [d1, d2, d3] => { results := [.lit (.bool true)], args := [d1, d2, d3] }
  | _ => none }
def boxTotalOrderRow : OpenClaim := { program := "ytkdfidjoighknaa", sum := "22b17aa9252fbb1eae99a8d938a0f2ff4cc63a69a5ee256bc41919df8ee8db02", func := "brocade/brocadelaw09.BoxTotalOrder", spec := "boxTotalOrder", unfollowed := true, recurses := true, apart := false }
def BoxTotalOrderSaid : Prop := boxTotalOrderRow.holds Try.pinned (OpenSpec.ofChange boxTotalOrderSpec)

/-- ITS FALSE NEIGHBOUR: 'it returns false'. Refute it at one input. -/
def boxTotalOrderWrong : ChangeSpec := { name := "boxTotalOrder", fn := fun _ => fun
  | [d1, d2, d3] => { results := [.lit (.bool false)], args := [d1, d2, d3] }
  | _ => none }
def BoxTotalOrderWrongFalsely : Prop := boxTotalOrderRow.holds Try.pinned (OpenSpec.ofChange boxTotalOrderWrong)

/-- 'brocadelaw09.BoxRange': WHATEVER THE INPUT: true; the input reads as it did. -/
def boxRangeSpec : ChangeSpec := { name := "boxRange", fn := fun _ => fun
  | [d1, d2, d3] => { results := [.lit (.bool true)], args := [d1, d2, d3] }
  | _ => none }
def boxRangeRow : OpenClaim := { program := "ytkdfidjoighknaa", sum := "22b17aa9252fbb1eae99a8d938a0f2ff4cc63a69a5ee256bc41919df8ee8db02", func := "brocade/brocadelaw09.BoxRange", spec := "boxRange", unfollowed := true, recurses := true, apart := false }
def BoxRangeSaid : Prop := boxRangeRow.holds Try.pinned (OpenSpec.ofChange boxRangeSpec)

/-- ITS FALSE NEIGHBOUR: 'it returns false'. Refute it at one input. -/
def boxRangeWrong : ChangeSpec := { name := "boxRange", fn := fun _ => fun
  | [d1, d2, d3] => { results := [.lit (.bool false)], args := [d1, d2, d3] }
  | _ => none }
def BoxRangeWrongFalsely : Prop := boxRangeRow.holds Try.pinned (OpenSpec.ofChange boxRangeWrong)

/-- 'brocadelaw09.BoxRangeBounds': WHATEVER THE INPUT: true; the input reads as it did. -/
def boxRangeBoundsSpec : ChangeSpec := { name := "boxRangeBounds", fn := fun _ => fun
  | [d1, d2, d3] => { results := [.lit (.bool true)], args := [d1, d2, d3] }
  | _ => none }
def boxRangeBoundsRow : OpenClaim := { program := "ytkdfidjoighknaa", sum := "22b17aa9252fbb1eae99a8d938a0f2ff4cc63a69a5ee256bc41919df8ee8db02", func := "brocade/brocadelaw09.BoxRangeBounds", spec := "boxRangeBounds", unfollowed := true, recurses := true, apart := false }
def BoxRangeBoundsSaid : Prop := boxRangeBoundsRow.holds Try.pinned (OpenSpec.ofChange boxRangeBoundsSpec)

/-- ITS FALSE NEIGHBOUR: 'it returns false'. Refute it at one input. -/
def boxRangeBoundsWrong : ChangeSpec := { name := "boxRangeBounds", fn := fun _ => fun
  | [d1, d2, d3] => { results := [.lit (.bool false)], args := [d1, d2, d3] }
  | _ => none }
def BoxRangeBoundsWrongFalsely : Prop := boxRangeBoundsRow.holds Try.pinned (OpenSpec.ofChange boxRangeBoundsWrong)

/-- 'brocadelaw20.DepgraphEdges': WHATEVER THE INPUT: true; the input reads as it did. -/
def depgraphEdgesSpec : ChangeSpec := { name := "depgraphEdges", fn := fun _ => fun
  | [d1, d2] => { results := [.lit (.bool true)], args := [d1, d2] }
  | _ => none }
def depgraphEdgesRow : OpenClaim := { program := "ytkdfidjoighknaa", sum := "22b17aa9252fbb1eae99a8d938a0f2ff4cc63a69a5ee256bc41919df8ee8db02", func := "brocade/brocadelaw20.DepgraphEdges", spec := "depgraphEdges", unfollowed := true, recurses := true, loops := true, apart := false }
def DepgraphEdgesSaid : Prop := depgraphEdgesRow.holds Try.pinned (OpenSpec.ofChange depgraphEdgesSpec)

/-- ITS FALSE NEIGHBOUR: 'it returns false'. Refute it at one input. -/
def depgraphEdgesWrong : ChangeSpec := { name := "depgraphEdges", fn := fun _ => fun
  | [d1, d2] => { results := [.lit (.bool false)], args := [d1, d2] }
  | _ => none }
def DepgraphEdgesWrongFalsely : Prop := depgraphEdgesRow.holds Try.pinned (OpenSpec.ofChange depgraphEdgesWrong)

/-- 'brocadelaw20.DepgraphReachable': WHATEVER THE INPUT: true; the input reads as it did. -/
def depgraphReachableSpec : ChangeSpec := { name := "depgraphReachable", fn := fun _ => fun
  | [d1, d2] => { results := [.lit (.bool true)], args := [d1, d2] }
  | _ => none }
def depgraphReachableRow : OpenClaim := { program := "ytkdfidjoighknaa", sum := "22b17aa9252fbb1eae99a8d938a0f2ff4cc63a69a5ee256bc41919df8ee8db02", func := "brocade/brocadelaw20.DepgraphReachable", spec := "depgraphReachable", unfollowed := true, recurses := true, loops := true, apart := false }
def DepgraphReachableSaid : Prop := depgraphReachableRow.holds Try.pinned (OpenSpec.ofChange depgraphReachableSpec)

/-- ITS FALSE NEIGHBOUR: 'it returns false'. Refute it at one input. -/
def depgraphReachableWrong : ChangeSpec := { name := "depgraphReachable", fn := fun _ => fun
  | [d1, d2] => { results := [.lit (.bool false)], args := [d1, d2] }
  | _ => none }
def DepgraphReachableWrongFalsely : Prop := depgraphReachableRow.holds Try.pinned (OpenSpec.ofChange depgraphReachableWrong)

/-- 'brocadelaw20.DepgraphLevels': WHATEVER THE INPUT: true; the input reads as it did. -/
def depgraphLevelsSpec : ChangeSpec := { name := "depgraphLevels", fn := fun _ => fun
  | [d] => { results := [.lit (.bool true)], args := [d] }
  | _ => none }
def depgraphLevelsRow : OpenClaim := { program := "ytkdfidjoighknaa", sum := "22b17aa9252fbb1eae99a8d938a0f2ff4cc63a69a5ee256bc41919df8ee8db02", func := "brocade/brocadelaw20.DepgraphLevels", spec := "depgraphLevels", unfollowed := true, recurses := true, loops := true, apart := false }
def DepgraphLevelsSaid : Prop := depgraphLevelsRow.holds Try.pinned (OpenSpec.ofChange depgraphLevelsSpec)

/-- ITS FALSE NEIGHBOUR: 'it returns false'. Refute it at one input. -/
def depgraphLevelsWrong : ChangeSpec := { name := "depgraphLevels", fn := fun _ => fun
  | [d] => { results := [.lit (.bool false)], args := [d] }
  | _ => none }
def DepgraphLevelsWrongFalsely : Prop := depgraphLevelsRow.holds Try.pinned (OpenSpec.ofChange depgraphLevelsWrong)

/-- 'brocadelaw20.DepgraphBetween': WHATEVER THE INPUT: true; the input reads as it did. -/
def depgraphBetweenSpec : ChangeSpec := { name := "depgraphBetween", fn := fun _ => fun
  | [d1, d2, d3] => { results := [.lit (.bool true)], args := [d1, d2, d3] }
  | _ => none }
def depgraphBetweenRow : OpenClaim := { program := "ytkdfidjoighknaa", sum := "22b17aa9252fbb1eae99a8d938a0f2ff4cc63a69a5ee256bc41919df8ee8db02", func := "brocade/brocadelaw20.DepgraphBetween", spec := "depgraphBetween", unfollowed := true, recurses := true, loops := true, apart := false }
def DepgraphBetweenSaid : Prop := depgraphBetweenRow.holds Try.pinned (OpenSpec.ofChange depgraphBetweenSpec)

/-- ITS FALSE NEIGHBOUR: 'it returns false'. Refute it at one input. -/
def depgraphBetweenWrong : ChangeSpec := { name := "depgraphBetween", fn := fun _ => fun
  | [d1, d2, d3] => { results := [.lit (.bool false)], args := [d1, d2, d3] }
  | _ => none }
def DepgraphBetweenWrongFalsely : Prop := depgraphBetweenRow.holds Try.pinned (OpenSpec.ofChange depgraphBetweenWrong)

/- THE SECOND FORM. 'bulk': how many values and letters a reading holds, each counted each time it is reached (what is shared counts as often as it is met; a slice's spare places count too). A statement '..UptoSaid' is the law's where the arguments, and the package variables that the reading takes, are together of bulk at most 1048576: NARROWER than '..Said'. Prove '..Said' where nothing that the law and all that it calls make is longer than what came in: it says more and counts as full. Else prove '..UptoSaid'. A law counts once. -/
mutual
def uptoBulk {H : Type} : DataW H → Nat
  | .lit (.string bytes) => bytes.length + 1
  | .lit _ => 1
  | .nil => 1
  | .ptr d => uptoBulk d + 1
  | .slice elems spare => uptoBulkAll elems + uptoBulkAll spare + 1
  | .agg parts => uptoBulkAll parts + 1
  | .iface _ d => uptoBulk d + 1
  | .map entries => uptoBulkEntries entries + 1
  | .held _ => 1
def uptoBulkAll {H : Type} : List (DataW H) → Nat
  | [] => 0
  | d :: r => uptoBulk d + uptoBulkAll r
def uptoBulkEntries {H : Type} : List (Lit × DataW H) → Nat
  | [] => 0
  | x :: r => uptoBulkEntry x + uptoBulkEntries r
def uptoBulkEntry {H : Type} : Lit × DataW H → Nat
  | (.string bytes, d) => bytes.length + uptoBulk d + 1
  | (_, d) => uptoBulk d + 1
 end
def uptoSmall : (H : Type) → List (DataW H) → Bool := fun _ ds => decide (uptoBulkAll ds ≤ 1048576)
def OpenSpec.upto (s : _root_.Go.ChangeSpec) : _root_.Go.OpenSpec := { _root_.Go.OpenSpec.ofChange s with cond := some uptoSmall }

/-- 'brocadelaw09.BoxValidates', WHERE WHAT IT READS IS OF BULK AT MOST 1048576: true; the input reads as it did. -/
def boxValidatesUptoRow : OpenClaim := { program := "ytkdfidjoighknaa", sum := "22b17aa9252fbb1eae99a8d938a0f2ff4cc63a69a5ee256bc41919df8ee8db02", func := "brocade/brocadelaw09.BoxValidates", spec := "boxValidates", unfollowed := true, recurses := true, apart := false, narrowed := true }
def BoxValidatesUptoSaid : Prop := boxValidatesUptoRow.holds Try.pinned (OpenSpec.upto boxValidatesSpec)

/-- 'brocadelaw09.BoxPoints', WHERE WHAT IT READS IS OF BULK AT MOST 1048576: true; the input reads as it did. -/
def boxPointsUptoRow : OpenClaim := { program := "ytkdfidjoighknaa", sum := "22b17aa9252fbb1eae99a8d938a0f2ff4cc63a69a5ee256bc41919df8ee8db02", func := "brocade/brocadelaw09.BoxPoints", spec := "boxPoints", unfollowed := true, recurses := true, apart := false, narrowed := true }
def BoxPointsUptoSaid : Prop := boxPointsUptoRow.holds Try.pinned (OpenSpec.upto boxPointsSpec)

/-- 'brocadelaw09.BoxEnumerates', WHERE WHAT IT READS IS OF BULK AT MOST 1048576: true; the input reads as it did. -/
def boxEnumeratesUptoRow : OpenClaim := { program := "ytkdfidjoighknaa", sum := "22b17aa9252fbb1eae99a8d938a0f2ff4cc63a69a5ee256bc41919df8ee8db02", func := "brocade/brocadelaw09.BoxEnumerates", spec := "boxEnumerates", unfollowed := true, recurses := true, apart := false, narrowed := true }
def BoxEnumeratesUptoSaid : Prop := boxEnumeratesUptoRow.holds Try.pinned (OpenSpec.upto boxEnumeratesSpec)

/-- 'brocadelaw09.BoxInverse', WHERE WHAT IT READS IS OF BULK AT MOST 1048576: true; the input reads as it did. -/
def boxInverseUptoRow : OpenClaim := { program := "ytkdfidjoighknaa", sum := "22b17aa9252fbb1eae99a8d938a0f2ff4cc63a69a5ee256bc41919df8ee8db02", func := "brocade/brocadelaw09.BoxInverse", spec := "boxInverse", unfollowed := true, recurses := true, apart := false, narrowed := true }
def BoxInverseUptoSaid : Prop := boxInverseUptoRow.holds Try.pinned (OpenSpec.upto boxInverseSpec)

/-- 'brocadelaw09.BoxTotalOrder', WHERE WHAT IT READS IS OF BULK AT MOST 1048576: true; the input reads as it did. -/
def boxTotalOrderUptoRow : OpenClaim := { program := "ytkdfidjoighknaa", sum := "22b17aa9252fbb1eae99a8d938a0f2ff4cc63a69a5ee256bc41919df8ee8db02", func := "brocade/brocadelaw09.BoxTotalOrder", spec := "boxTotalOrder", unfollowed := true, recurses := true, apart := false, narrowed := true }
def BoxTotalOrderUptoSaid : Prop := boxTotalOrderUptoRow.holds Try.pinned (OpenSpec.upto boxTotalOrderSpec)

/-- 'brocadelaw09.BoxRange', WHERE WHAT IT READS IS OF BULK AT MOST 1048576: true; the input reads as it did. -/
def boxRangeUptoRow : OpenClaim := { program := "ytkdfidjoighknaa", sum := "22b17aa9252fbb1eae99a8d938a0f2ff4cc63a69a5ee256bc41919df8ee8db02", func := "brocade/brocadelaw09.BoxRange", spec := "boxRange", unfollowed := true, recurses := true, apart := false, narrowed := true }
def BoxRangeUptoSaid : Prop := boxRangeUptoRow.holds Try.pinned (OpenSpec.upto boxRangeSpec)

/-- 'brocadelaw09.BoxRangeBounds', WHERE WHAT IT READS IS OF BULK AT MOST 1048576: true; the input reads as it did. -/
def boxRangeBoundsUptoRow : OpenClaim := { program := "ytkdfidjoighknaa", sum := "22b17aa9252fbb1eae99a8d938a0f2ff4cc63a69a5ee256bc41919df8ee8db02", func := "brocade/brocadelaw09.BoxRangeBounds", spec := "boxRangeBounds", unfollowed := true, recurses := true, apart := false, narrowed := true }
def BoxRangeBoundsUptoSaid : Prop := boxRangeBoundsUptoRow.holds Try.pinned (OpenSpec.upto boxRangeBoundsSpec)

/-- 'brocadelaw20.DepgraphEdges', WHERE WHAT IT READS IS OF BULK AT MOST 1048576: true; the input reads as it did. -/
def depgraphEdgesUptoRow : OpenClaim := { program := "ytkdfidjoighknaa", sum := "22b17aa9252fbb1eae99a8d938a0f2ff4cc63a69a5ee256bc41919df8ee8db02", func := "brocade/brocadelaw20.DepgraphEdges", spec := "depgraphEdges", unfollowed := true, recurses := true, loops := true, apart := false, narrowed := true }
def DepgraphEdgesUptoSaid : Prop := depgraphEdgesUptoRow.holds Try.pinned (OpenSpec.upto depgraphEdgesSpec)

/-- 'brocadelaw20.DepgraphReachable', WHERE WHAT IT READS IS OF BULK AT MOST 1048576: true; the input reads as it did. -/
def depgraphReachableUptoRow : OpenClaim := { program := "ytkdfidjoighknaa", sum := "22b17aa9252fbb1eae99a8d938a0f2ff4cc63a69a5ee256bc41919df8ee8db02", func := "brocade/brocadelaw20.DepgraphReachable", spec := "depgraphReachable", unfollowed := true, recurses := true, loops := true, apart := false, narrowed := true }
def DepgraphReachableUptoSaid : Prop := depgraphReachableUptoRow.holds Try.pinned (OpenSpec.upto depgraphReachableSpec)

/-- 'brocadelaw20.DepgraphLevels', WHERE WHAT IT READS IS OF BULK AT MOST 1048576: true; the input reads as it did. -/
def depgraphLevelsUptoRow : OpenClaim := { program := "ytkdfidjoighknaa", sum := "22b17aa9252fbb1eae99a8d938a0f2ff4cc63a69a5ee256bc41919df8ee8db02", func := "brocade/brocadelaw20.DepgraphLevels", spec := "depgraphLevels", unfollowed := true, recurses := true, loops := true, apart := false, narrowed := true }
def DepgraphLevelsUptoSaid : Prop := depgraphLevelsUptoRow.holds Try.pinned (OpenSpec.upto depgraphLevelsSpec)

/-- 'brocadelaw20.DepgraphBetween', WHERE WHAT IT READS IS OF BULK AT MOST 1048576: true; the input reads as it did. -/
def depgraphBetweenUptoRow : OpenClaim := { program := "ytkdfidjoighknaa", sum := "22b17aa9252fbb1eae99a8d938a0f2ff4cc63a69a5ee256bc41919df8ee8db02", func := "brocade/brocadelaw20.DepgraphBetween", spec := "depgraphBetween", unfollowed := true, recurses := true, loops := true, apart := false, narrowed := true }
def DepgraphBetweenUptoSaid : Prop := depgraphBetweenUptoRow.holds Try.pinned (OpenSpec.upto depgraphBetweenSpec)

end Rows
end Go.Proofs.Ytkdfidjoighknaa
