/-
  DERIVED. GIVEN WITH THE SEED: THE CARDS: each row of YtikcinkbkakkmaaGreatDoorRows.lean that lists a variable, with what it lists TIED to the program's text (the seventh form; the later family's looks); each row that meets fmt, with fmt's text TOLD by the authors' own Lean function (tested against real Go, not proved from fmt's source: count such statements apart). THE CARD IS WHAT COUNTS. Prove the row's statement (the work); the ties are given (YtikcinkbkakkmaaGreatDoorTie.lean); close each card by the builder's one call (the guide's Derived/Test/ToyasCard.lean, 'card_holds'). Laid BY PROGRAM, IN A SANDBOX (cutbox-door.mjs). By AI agents, Wed Nov 11 2026. No macro, syntax, notation, axiom, sorry.
-/
import Derived.Test.YtikcinkbkakkmaaGreatDoorRows
import GoSem.ClaimSeven
namespace Go.Proofs.YtikcinkbkakkmaaGreatDoor
namespace Rows

/-- THE TIED CARD OF 'brocadelaw04.ValueApply'. -/
def valueApplyCard : Claim7 := { stood := { row := valueApplyRow, standIns := [], harness := (true, "5592ea3744a1616a30940e2d1c6f294c4396d5c84d0e392480af1b1f208e63ed"), looks := true }, kinds := [], alts := [], laidByText := true, laidKinds := [.data, .data, .data], laidTests := true, laidLooks := .later }
def ValueApplyCardSaid : Prop := Claim7.holds Tryz.pinned (.plain (OpenSpec.ofChange valueApplySpec)) valueApplyCard

/-- THE TIED CARD OF 'brocadelaw04.ValueReduce'. -/
def valueReduceCard : Claim7 := { stood := { row := valueReduceRow, standIns := [], harness := (true, "5592ea3744a1616a30940e2d1c6f294c4396d5c84d0e392480af1b1f208e63ed"), looks := true }, kinds := [], alts := [], laidByText := true, laidKinds := [.data, .data, .data], laidTests := true, laidLooks := .later }
def ValueReduceCardSaid : Prop := Claim7.holds Tryz.pinned (.plain (OpenSpec.ofChange valueReduceSpec)) valueReduceCard

/-- THE TIED CARD OF 'brocadelaw04.ValueFormat'. -/
def valueFormatCard : Claim7 := { stood := { row := valueFormatRow, standIns := [], harness := (true, "5592ea3744a1616a30940e2d1c6f294c4396d5c84d0e392480af1b1f208e63ed"), looks := true }, kinds := [], alts := [], laidByText := true, laidKinds := [.data, .data, .data, .sentinel, .sentinel], laidTests := true, laidLooks := .later }
def ValueFormatCardSaid : Prop := Claim7.holds Tryz.pinned (.plain (OpenSpec.ofChange valueFormatSpec)) valueFormatCard

/-- THE TIED CARD OF 'brocadelaw04.ValueResultsValid'. -/
def valueResultsValidCard : Claim7 := { stood := { row := valueResultsValidRow, standIns := [], harness := (true, "5592ea3744a1616a30940e2d1c6f294c4396d5c84d0e392480af1b1f208e63ed"), looks := true }, kinds := [], alts := [], laidByText := true, laidKinds := [.data, .data, .data, .sentinel, .sentinel], laidTests := true, laidLooks := .later }
def ValueResultsValidCardSaid : Prop := Claim7.holds Tryz.pinned (.plain (OpenSpec.ofChange valueResultsValidSpec)) valueResultsValidCard

/-- THE SECOND FORM's CARD OF 'brocadelaw04.ValueApply'. -/
def valueApplyUptoCard : Claim7 := { stood := { row := valueApplyUptoRow, standIns := [], harness := (true, "5592ea3744a1616a30940e2d1c6f294c4396d5c84d0e392480af1b1f208e63ed"), looks := true }, kinds := [], alts := [], laidByText := true, laidKinds := [.data, .data, .data], laidTests := true, laidLooks := .later }
def ValueApplyUptoCardSaid : Prop := Claim7.holds Tryz.pinned (.plain (OpenSpec.upto valueApplySpec)) valueApplyUptoCard

/-- THE SECOND FORM's CARD OF 'brocadelaw04.ValueReduce'. -/
def valueReduceUptoCard : Claim7 := { stood := { row := valueReduceUptoRow, standIns := [], harness := (true, "5592ea3744a1616a30940e2d1c6f294c4396d5c84d0e392480af1b1f208e63ed"), looks := true }, kinds := [], alts := [], laidByText := true, laidKinds := [.data, .data, .data], laidTests := true, laidLooks := .later }
def ValueReduceUptoCardSaid : Prop := Claim7.holds Tryz.pinned (.plain (OpenSpec.upto valueReduceSpec)) valueReduceUptoCard

/-- THE SECOND FORM's CARD OF 'brocadelaw04.ValueFormat'. -/
def valueFormatUptoCard : Claim7 := { stood := { row := valueFormatUptoRow, standIns := [], harness := (true, "5592ea3744a1616a30940e2d1c6f294c4396d5c84d0e392480af1b1f208e63ed"), looks := true }, kinds := [], alts := [], laidByText := true, laidKinds := [.data, .data, .data, .sentinel, .sentinel], laidTests := true, laidLooks := .later }
def ValueFormatUptoCardSaid : Prop := Claim7.holds Tryz.pinned (.plain (OpenSpec.upto valueFormatSpec)) valueFormatUptoCard

/-- THE SECOND FORM's CARD OF 'brocadelaw04.ValueResultsValid'. -/
def valueResultsValidUptoCard : Claim7 := { stood := { row := valueResultsValidUptoRow, standIns := [], harness := (true, "5592ea3744a1616a30940e2d1c6f294c4396d5c84d0e392480af1b1f208e63ed"), looks := true }, kinds := [], alts := [], laidByText := true, laidKinds := [.data, .data, .data, .sentinel, .sentinel], laidTests := true, laidLooks := .later }
def ValueResultsValidUptoCardSaid : Prop := Claim7.holds Tryz.pinned (.plain (OpenSpec.upto valueResultsValidSpec)) valueResultsValidUptoCard
end Rows
end Go.Proofs.YtikcinkbkakkmaaGreatDoor
