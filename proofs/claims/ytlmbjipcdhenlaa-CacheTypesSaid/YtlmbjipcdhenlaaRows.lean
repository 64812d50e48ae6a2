/-
  No cell of these rows narrows 'for every input' (looked for: loops, veiled, ifaces, maps, wideKeys, modest, calm, conditions, laid).
  DERIVED. THE GIVEN ROWS OF THIS SEAT. 10 by the template 'for every input the law returns true; each argument reads behind the call as it read before'; 0 by the template 'total and deterministic' (their statements: YtlmbjipcdhenlaaTotals.lean).
  GIVEN WITH THE SEED: the statements are not yours to turn. If you find one false, say at which input.
  Laid BY PROGRAM, IN A SANDBOX (cutbox-rows.mjs): the forced cells as the released guide's own fill.sh prints them over the translation 1234c596a4fd2b91… (all of the seat's roots in one cut). By AI agents, Wed Nov 11 2026. No macro, syntax, notation, axiom, sorry.
-/
import Derived.Test.YtlmbjipcdhenlaaChecked
import GoSem.Claim
import GoSem.ClaimJoined
import GoSem.ClaimMapViews
import Derived.JoinedTies
import Derived.KernelRfl
namespace Go.Proofs.Ytlmbjipcdhenlaa
/- THE CELL 'sum', in the pinned program and in every row, IS THE sha256 OF THE DUMP (.gsa) THAT YtlmbjipcdhenlaaProg.lean LOADS. Nothing in Lean hashes anything: it is a label: what it is worth is what the hold of that sum in a sandbox is worth. -/
noncomputable def Try.pinned : Pinned := { name := "ytlmbjipcdhenlaa", sum := "1234c596a4fd2b91d903df8f102aa6d3326ccc9ce075de1c221dcbfb6109587e", checked := Try.checked }
namespace Rows
def none {H : Type} : Left H := { results := [], args := [] }

/-- 'brocadelaw56.CachePlays': WHATEVER THE INPUT: true; the input reads as it did. -/
def cachePlaysSpec : ChangeSpec := { name := "cachePlays", fn := fun _ => fun
  | [d1, d2] => { results := [.lit (.bool true)], args := [d1, d2] }
  | _ => none }
def cachePlaysRow : OpenClaim := { program := "ytlmbjipcdhenlaa", sum := "1234c596a4fd2b91d903df8f102aa6d3326ccc9ce075de1c221dcbfb6109587e", func := "brocade/brocadelaw56.CachePlays", spec := "cachePlays", apart := false }
def CachePlaysSaid : Prop := cachePlaysRow.holds Try.pinned (OpenSpec.ofChange cachePlaysSpec)

/-- ITS FALSE NEIGHBOUR: 'it returns false'. Refute it at one input. -/
def cachePlaysWrong : ChangeSpec := { name := "cachePlays", fn := fun _ => fun
  | [d1, d2] => { results := [.lit (.bool false)], args := [d1, d2] }
  | _ => none }
def CachePlaysWrongFalsely : Prop := cachePlaysRow.holds Try.pinned (OpenSpec.ofChange cachePlaysWrong)

/-- 'brocadelaw56.CacheTypes': WHATEVER THE INPUT: true; the input reads as it did. -/
def cacheTypesSpec : ChangeSpec := { name := "cacheTypes", fn := fun _ => fun
  | [d1, d2] => { results := [.lit (.bool true)], args := [d1, d2] }
  | _ => none }
def cacheTypesRow : OpenClaim := { program := "ytlmbjipcdhenlaa", sum := "1234c596a4fd2b91d903df8f102aa6d3326ccc9ce075de1c221dcbfb6109587e", func := "brocade/brocadelaw56.CacheTypes", spec := "cacheTypes", apart := false }
def CacheTypesSaid : Prop := cacheTypesRow.holds Try.pinned (OpenSpec.ofChange cacheTypesSpec)

/-- ITS FALSE NEIGHBOUR: 'it returns false'. Refute it at one input. -/
def cacheTypesWrong : ChangeSpec := { name := "cacheTypes", fn := fun _ => fun
  | [d1, d2] => { results := [.lit (.bool false)], args := [d1, d2] }
  | _ => none }
def CacheTypesWrongFalsely : Prop := cacheTypesRow.holds Try.pinned (OpenSpec.ofChange cacheTypesWrong)

/-- 'brocadelaw56.CacheBounds': WHATEVER THE INPUT: true; the input reads as it did. -/
def cacheBoundsSpec : ChangeSpec := { name := "cacheBounds", fn := fun _ => fun
  | [d1, d2] => { results := [.lit (.bool true)], args := [d1, d2] }
  | _ => none }
def cacheBoundsRow : OpenClaim := { program := "ytlmbjipcdhenlaa", sum := "1234c596a4fd2b91d903df8f102aa6d3326ccc9ce075de1c221dcbfb6109587e", func := "brocade/brocadelaw56.CacheBounds", spec := "cacheBounds", apart := false }
def CacheBoundsSaid : Prop := cacheBoundsRow.holds Try.pinned (OpenSpec.ofChange cacheBoundsSpec)

/-- ITS FALSE NEIGHBOUR: 'it returns false'. Refute it at one input. -/
def cacheBoundsWrong : ChangeSpec := { name := "cacheBounds", fn := fun _ => fun
  | [d1, d2] => { results := [.lit (.bool false)], args := [d1, d2] }
  | _ => none }
def CacheBoundsWrongFalsely : Prop := cacheBoundsRow.holds Try.pinned (OpenSpec.ofChange cacheBoundsWrong)

/-- 'brocadelaw56.CacheKeeps': WHATEVER THE INPUT: true; the input reads as it did. -/
def cacheKeepsSpec : ChangeSpec := { name := "cacheKeeps", fn := fun _ => fun
  | [d1, d2, d3] => { results := [.lit (.bool true)], args := [d1, d2, d3] }
  | _ => none }
def cacheKeepsRow : OpenClaim := { program := "ytlmbjipcdhenlaa", sum := "1234c596a4fd2b91d903df8f102aa6d3326ccc9ce075de1c221dcbfb6109587e", func := "brocade/brocadelaw56.CacheKeeps", spec := "cacheKeeps", apart := false }
def CacheKeepsSaid : Prop := cacheKeepsRow.holds Try.pinned (OpenSpec.ofChange cacheKeepsSpec)

/-- ITS FALSE NEIGHBOUR: 'it returns false'. Refute it at one input. -/
def cacheKeepsWrong : ChangeSpec := { name := "cacheKeeps", fn := fun _ => fun
  | [d1, d2, d3] => { results := [.lit (.bool false)], args := [d1, d2, d3] }
  | _ => none }
def CacheKeepsWrongFalsely : Prop := cacheKeepsRow.holds Try.pinned (OpenSpec.ofChange cacheKeepsWrong)

/-- 'brocadelaw56.CacheNil': WHATEVER THE INPUT: true; the input reads as it did. -/
def cacheNilSpec : ChangeSpec := { name := "cacheNil", fn := fun _ => fun
  | [d1, d2] => { results := [.lit (.bool true)], args := [d1, d2] }
  | _ => none }
def cacheNilRow : OpenClaim := { program := "ytlmbjipcdhenlaa", sum := "1234c596a4fd2b91d903df8f102aa6d3326ccc9ce075de1c221dcbfb6109587e", func := "brocade/brocadelaw56.CacheNil", spec := "cacheNil", apart := false }
def CacheNilSaid : Prop := cacheNilRow.holds Try.pinned (OpenSpec.ofChange cacheNilSpec)

/-- ITS FALSE NEIGHBOUR: 'it returns false'. Refute it at one input. -/
def cacheNilWrong : ChangeSpec := { name := "cacheNil", fn := fun _ => fun
  | [d1, d2] => { results := [.lit (.bool false)], args := [d1, d2] }
  | _ => none }
def CacheNilWrongFalsely : Prop := cacheNilRow.holds Try.pinned (OpenSpec.ofChange cacheNilWrong)

/-- 'brocadelaw42.ArenaPlans': WHATEVER THE INPUT: true; the input reads as it did. -/
def arenaPlansSpec : ChangeSpec := { name := "arenaPlans", fn := fun _ => fun
  | [d] => { results := [.lit (.bool true)], args := [d] }
  | _ => none }
def arenaPlansRow : OpenClaim := { program := "ytlmbjipcdhenlaa", sum := "1234c596a4fd2b91d903df8f102aa6d3326ccc9ce075de1c221dcbfb6109587e", func := "brocade/brocadelaw42.ArenaPlans", spec := "arenaPlans", unfollowed := true, recurses := true, apart := false }
def ArenaPlansSaid : Prop := arenaPlansRow.holds Try.pinned (OpenSpec.ofChange arenaPlansSpec)

/-- ITS FALSE NEIGHBOUR: 'it returns false'. Refute it at one input. -/
def arenaPlansWrong : ChangeSpec := { name := "arenaPlans", fn := fun _ => fun
  | [d] => { results := [.lit (.bool false)], args := [d] }
  | _ => none }
def ArenaPlansWrongFalsely : Prop := arenaPlansRow.holds Try.pinned (OpenSpec.ofChange arenaPlansWrong)

/-- 'brocadelaw42.ArenaPlanValid': WHATEVER THE INPUT: true; the input reads as it did. -/
def arenaPlanValidSpec : ChangeSpec := { name := "arenaPlanValid", fn := fun _ => fun
  | [d] => { results := [.lit (.bool true)], args := [d] }
  | _ => none }
def arenaPlanValidRow : OpenClaim := { program := "ytlmbjipcdhenlaa", sum := "1234c596a4fd2b91d903df8f102aa6d3326ccc9ce075de1c221dcbfb6109587e", func := "brocade/brocadelaw42.ArenaPlanValid", spec := "arenaPlanValid", unfollowed := true, recurses := true, apart := false }
def ArenaPlanValidSaid : Prop := arenaPlanValidRow.holds Try.pinned (OpenSpec.ofChange arenaPlanValidSpec)

/-- ITS FALSE NEIGHBOUR: 'it returns false'. Refute it at one input. -/
def arenaPlanValidWrong : ChangeSpec := { name := "arenaPlanValid", fn := fun _ => fun
  | [d] => { results := [.lit (.bool false)], args := [d] }
  | _ => none }
def ArenaPlanValidWrongFalsely : Prop := arenaPlanValidRow.holds Try.pinned (OpenSpec.ofChange arenaPlanValidWrong)

/-- 'brocadelaw42.ArenaChecks': WHATEVER THE INPUT: true; the input reads as it did. -/
def arenaChecksSpec : ChangeSpec := { name := "arenaChecks", fn := fun _ => fun
  | [d1, d2, d3] => { results := [.lit (.bool true)], args := [d1, d2, d3] }
  | _ => none }
def arenaChecksRow : OpenClaim := { program := "ytlmbjipcdhenlaa", sum := "1234c596a4fd2b91d903df8f102aa6d3326ccc9ce075de1c221dcbfb6109587e", func := "brocade/brocadelaw42.ArenaChecks", spec := "arenaChecks", unfollowed := true, recurses := true, apart := false }
def ArenaChecksSaid : Prop := arenaChecksRow.holds Try.pinned (OpenSpec.ofChange arenaChecksSpec)

/-- ITS FALSE NEIGHBOUR: 'it returns false'. Refute it at one input. -/
def arenaChecksWrong : ChangeSpec := { name := "arenaChecks", fn := fun _ => fun
  | [d1, d2, d3] => { results := [.lit (.bool false)], args := [d1, d2, d3] }
  | _ => none }
def ArenaChecksWrongFalsely : Prop := arenaChecksRow.holds Try.pinned (OpenSpec.ofChange arenaChecksWrong)

/-- 'brocadelaw42.ArenaLowerBound': WHATEVER THE INPUT: true; the input reads as it did. -/
def arenaLowerBoundSpec : ChangeSpec := { name := "arenaLowerBound", fn := fun _ => fun
  | [d] => { results := [.lit (.bool true)], args := [d] }
  | _ => none }
def arenaLowerBoundRow : OpenClaim := { program := "ytlmbjipcdhenlaa", sum := "1234c596a4fd2b91d903df8f102aa6d3326ccc9ce075de1c221dcbfb6109587e", func := "brocade/brocadelaw42.ArenaLowerBound", spec := "arenaLowerBound", unfollowed := true, recurses := true, apart := false }
def ArenaLowerBoundSaid : Prop := arenaLowerBoundRow.holds Try.pinned (OpenSpec.ofChange arenaLowerBoundSpec)

/-- ITS FALSE NEIGHBOUR: 'it returns false'. Refute it at one input. -/
def arenaLowerBoundWrong : ChangeSpec := { name := "arenaLowerBound", fn := fun _ => fun
  | [d] => { results := [.lit (.bool false)], args := [d] }
  | _ => none }
def ArenaLowerBoundWrongFalsely : Prop := arenaLowerBoundRow.holds Try.pinned (OpenSpec.ofChange arenaLowerBoundWrong)

/-- 'brocadelaw42.ArenaOptimal': WHATEVER THE INPUT: true; the input reads as it did. -/
def arenaOptimalSpec : ChangeSpec := { name := "arenaOptimal", fn := fun _ => fun
  | [d] => { results := [.lit (.bool true)], args := [d] }
  | _ => none }
def arenaOptimalRow : OpenClaim := { program := "ytlmbjipcdhenlaa", sum := "1234c596a4fd2b91d903df8f102aa6d3326ccc9ce075de1c221dcbfb6109587e", func := "brocade/brocadelaw42.ArenaOptimal", spec := "arenaOptimal", unfollowed := true, recurses := true, apart := false }
def ArenaOptimalSaid : Prop := arenaOptimalRow.holds Try.pinned (OpenSpec.ofChange arenaOptimalSpec)

/-- ITS FALSE NEIGHBOUR: 'it returns false'. Refute it at one input. -/
def arenaOptimalWrong : ChangeSpec := { name := "arenaOptimal", fn := fun _ => fun
  | [d] => { results := [.lit (.bool false)], args := [d] }
  | _ => none }
def ArenaOptimalWrongFalsely : Prop := arenaOptimalRow.holds Try.pinned (OpenSpec.ofChange arenaOptimalWrong)

/- THE SECOND FORM. 'bulk': how many values and letters a reading holds, each counted each time it is reached (what is shared counts as often as it is met; a slice's spare places count too). A statement '..UptoSaid' is the law's where the arguments, and the package variables that the reading takes, are together of bulk at most 1048576: NARROWER than '..Said'. Prove '..Said' where nothing that the law and all that it calls make is longer than what came in: it says more and counts as full. Else prove '..UptoSaid'. A law counts once. -/
mutual
def uptoBulk {H : Type} : DataW H → Nat
  | .lit (.string bytes) => bytes.length + 1
  | .lit _ => 1
  | .nil => 1
  | .ptr d => uptoBulk d + 1
  | .slice elems spare => uptoBulkAll elems + uptoBulkAll spare + 1
  | .agg parts => uptoBulkAll parts + 1
  | .iface _ d => uptoBulk d + 1
  | .map entries => uptoBulkEntries entries + 1
  | .held _ => 1
def uptoBulkAll {H : Type} : List (DataW H) → Nat
  | [] => 0
  | d :: r => uptoBulk d + uptoBulkAll r
def uptoBulkEntries {H : Type} : List (Lit × DataW H) → Nat
  | [] => 0
  | x :: r => uptoBulkEntry x + uptoBulkEntries r
def uptoBulkEntry {H : Type} : Lit × DataW H → Nat
  | (.string bytes, d) => bytes.length + uptoBulk d + 1
  | (_, d) => uptoBulk d + 1
 end
def uptoSmall : (H : Type) → List (DataW H) → Bool := fun _ ds => decide (uptoBulkAll ds ≤ 1048576)
def OpenSpec.upto (s : _root_.Go.ChangeSpec) : _root_.Go.OpenSpec := { _root_.Go.OpenSpec.ofChange s with cond := some uptoSmall }

/-- 'brocadelaw56.CachePlays', WHERE WHAT IT READS IS OF BULK AT MOST 1048576: true; the input reads as it did. -/
def cachePlaysUptoRow : OpenClaim := { program := "ytlmbjipcdhenlaa", sum := "1234c596a4fd2b91d903df8f102aa6d3326ccc9ce075de1c221dcbfb6109587e", func := "brocade/brocadelaw56.CachePlays", spec := "cachePlays", apart := false, narrowed := true }
def CachePlaysUptoSaid : Prop := cachePlaysUptoRow.holds Try.pinned (OpenSpec.upto cachePlaysSpec)

/-- 'brocadelaw56.CacheTypes', WHERE WHAT IT READS IS OF BULK AT MOST 1048576: true; the input reads as it did. -/
def cacheTypesUptoRow : OpenClaim := { program := "ytlmbjipcdhenlaa", sum := "1234c596a4fd2b91d903df8f102aa6d3326ccc9ce075de1c221dcbfb6109587e", func := "brocade/brocadelaw56.CacheTypes", spec := "cacheTypes", apart := false, narrowed := true }
def CacheTypesUptoSaid : Prop := cacheTypesUptoRow.holds Try.pinned (OpenSpec.upto cacheTypesSpec)

/-- 'brocadelaw56.CacheBounds', WHERE WHAT IT READS IS OF BULK AT MOST 1048576: true; the input reads as it did. -/
def cacheBoundsUptoRow : OpenClaim := { program := "ytlmbjipcdhenlaa", sum := "1234c596a4fd2b91d903df8f102aa6d3326ccc9ce075de1c221dcbfb6109587e", func := "brocade/brocadelaw56.CacheBounds", spec := "cacheBounds", apart := false, narrowed := true }
def CacheBoundsUptoSaid : Prop := cacheBoundsUptoRow.holds Try.pinned (OpenSpec.upto cacheBoundsSpec)

/-- 'brocadelaw56.CacheKeeps', WHERE WHAT IT READS IS OF BULK AT MOST 1048576: true; the input reads as it did. -/
def cacheKeepsUptoRow : OpenClaim := { program := "ytlmbjipcdhenlaa", sum := "1234c596a4fd2b91d903df8f102aa6d3326ccc9ce075de1c221dcbfb6109587e", func := "brocade/brocadelaw56.CacheKeeps", spec := "cacheKeeps", apart := false, narrowed := true }
def CacheKeepsUptoSaid : Prop := cacheKeepsUptoRow.holds Try.pinned (OpenSpec.upto cacheKeepsSpec)

/-- 'brocadelaw56.CacheNil', WHERE WHAT IT READS IS OF BULK AT MOST 1048576: true; the input reads as it did. -/
def cacheNilUptoRow : OpenClaim := { program := "ytlmbjipcdhenlaa", sum := "1234c596a4fd2b91d903df8f102aa6d3326ccc9ce075de1c221dcbfb6109587e", func := "brocade/brocadelaw56.CacheNil", spec := "cacheNil", apart := false, narrowed := true }
def CacheNilUptoSaid : Prop := cacheNilUptoRow.holds Try.pinned (OpenSpec.upto cacheNilSpec)

/-- 'brocadelaw42.ArenaPlans', WHERE WHAT IT READS IS OF BULK AT MOST 1048576: true; the input reads as it did. -/
def arenaPlansUptoRow : OpenClaim := { program := "ytlmbjipcdhenlaa", sum := "1234c596a4fd2b91d903df8f102aa6d3326ccc9ce075de1c221dcbfb6109587e", func := "brocade/brocadelaw42.ArenaPlans", spec := "arenaPlans", unfollowed := true, recurses := true, apart := false, narrowed := true }
def ArenaPlansUptoSaid : Prop := arenaPlansUptoRow.holds Try.pinned (OpenSpec.upto arenaPlansSpec)

/-- 'brocadelaw42.ArenaPlanValid', WHERE WHAT IT READS IS OF BULK AT MOST 1048576: true; the input reads as it did. -/
def arenaPlanValidUptoRow : OpenClaim := { program := "ytlmbjipcdhenlaa", sum := "1234c596a4fd2b91d903df8f102aa6d3326ccc9ce075de1c221dcbfb6109587e", func := "brocade/brocadelaw42.ArenaPlanValid", spec := "arenaPlanValid", unfollowed := true, recurses := true, apart := false, narrowed := true }
def ArenaPlanValidUptoSaid : Prop := arenaPlanValidUptoRow.holds Try.pinned (OpenSpec.upto arenaPlanValidSpec)

/-- 'brocadelaw42.ArenaChecks', WHERE WHAT IT READS IS OF BULK AT MOST 1048576: true; the input reads as it did. -/
def arenaChecksUptoRow : OpenClaim := { program := "ytlmbjipcdhenlaa", sum := "1234c596a4fd2b91d903df8f102aa6d3326ccc9ce075de1c221dcbfb6109587e", func := "brocade/brocadelaw42.ArenaChecks", spec := "arenaChecks", unfollowed := true, recurses := true, apart := false, narrowed := true }
def ArenaChecksUptoSaid : Prop := arenaChecksUptoRow.holds Try.pinned (OpenSpec.upto arenaChecksSpec)

/-- 'brocadelaw42.ArenaLowerBound', WHERE WHAT IT READS IS OF BULK AT MOST 1048576: true; the input reads as it did. -/
def arenaLowerBoundUptoRow : OpenClaim := { program := "ytlmbjipcdhenlaa", sum := "1234c596a4fd2b91d903df8f102aa6d3326ccc9ce075de1c221dcbfb6109587e", func := "brocade/brocadelaw42.ArenaLowerBound", spec := "arenaLowerBound", unfollowed := true, recurses := true, apart := false, narrowed := true }
def ArenaLowerBoundUptoSaid : Prop := arenaLowerBoundUptoRow.holds Try.pinned (OpenSpec.upto arenaLowerBoundSpec)

/-- 'brocadelaw42.ArenaOptimal', WHERE WHAT IT READS IS OF BULK AT MOST 1048576: true; the input reads as it did. -/
def arenaOptimalUptoRow : OpenClaim := { program := "ytlmbjipcdhenlaa", sum := "1234c596a4fd2b91d903df8f102aa6d3326ccc9ce075de1c221dcbfb6109587e", func := "brocade/brocadelaw42.ArenaOptimal", spec := "arenaOptimal", unfollowed := true, recurses := true, apart := false, narrowed := true }
def ArenaOptimalUptoSaid : Prop := arenaOptimalUptoRow.holds Try.pinned (OpenSpec.upto arenaOptimalSpec)

end Rows
end Go.Proofs.Ytlmbjipcdhenlaa
