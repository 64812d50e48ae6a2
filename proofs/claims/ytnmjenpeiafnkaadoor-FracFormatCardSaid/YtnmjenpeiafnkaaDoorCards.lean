/-
  DERIVED. GIVEN WITH THE SEED: THE CARDS: each row of YtnmjenpeiafnkaaDoorRows.lean that lists a variable, with what it lists TIED to the program's text (the seventh form; the later family's looks); each row that meets fmt, with fmt's text TOLD by the authors' own Lean function (tested against real Go, not proved from fmt's source: count such statements apart). THE CARD IS WHAT COUNTS. Prove the row's statement (the work); the ties are given (YtnmjenpeiafnkaaDoorTie.lean); close each card by the builder's one call (the guide's Derived/Test/ToyasCard.lean, 'card_holds'). Laid BY PROGRAM, IN A SANDBOX (cutbox-door.mjs). By AI agents, Wed Nov 11 2026. No macro, syntax, notation, axiom, sorry.
-/
import Derived.Test.YtnmjenpeiafnkaaDoorRows
import GoSem.ClaimSeven
namespace Go.Proofs.YtnmjenpeiafnkaaDoor
namespace Rows

/-- THE TIED CARD OF 'brocadelaw01.FracNew'. -/
def fracNewCard : Claim7 := { stood := { row := fracNewRow, standIns := [], harness := (true, "f9d0ccb4549076a1d8e0d532d515793d309ee8a3411979589464eb9b89725db3"), looks := true }, kinds := [], alts := [], laidByText := true, laidKinds := [.data, .data, .data, .sentinel, .sentinel], laidTests := true, laidLooks := .later }
def FracNewCardSaid : Prop := Claim7.holds Tryd.pinned (.plain (OpenSpec.ofChange fracNewSpec)) fracNewCard

/-- THE TIED CARD OF 'brocadelaw01.FracArithmetic'. -/
def fracArithmeticCard : Claim7 := { stood := { row := fracArithmeticRow, standIns := [], harness := (true, "f9d0ccb4549076a1d8e0d532d515793d309ee8a3411979589464eb9b89725db3"), looks := true }, kinds := [], alts := [], laidByText := true, laidKinds := [.data, .data, .data, .sentinel, .sentinel], laidTests := true, laidLooks := .later }
def FracArithmeticCardSaid : Prop := Claim7.holds Tryd.pinned (.plain (OpenSpec.ofChange fracArithmeticSpec)) fracArithmeticCard

/-- THE TIED CARD OF 'brocadelaw01.FracOrdering'. -/
def fracOrderingCard : Claim7 := { stood := { row := fracOrderingRow, standIns := [], harness := (true, "f9d0ccb4549076a1d8e0d532d515793d309ee8a3411979589464eb9b89725db3"), looks := true }, kinds := [], alts := [], laidByText := true, laidKinds := [.data, .data, .data, .sentinel, .sentinel], laidTests := true, laidLooks := .later }
def FracOrderingCardSaid : Prop := Claim7.holds Tryd.pinned (.plain (OpenSpec.ofChange fracOrderingSpec)) fracOrderingCard

/-- THE TIED CARD OF 'brocadelaw01.FracSum'. -/
def fracSumCard : Claim7 := { stood := { row := fracSumRow, standIns := [], harness := (true, "f9d0ccb4549076a1d8e0d532d515793d309ee8a3411979589464eb9b89725db3"), looks := true }, kinds := [], alts := [], laidByText := true, laidKinds := [.data, .data, .data, .sentinel, .sentinel], laidTests := true, laidLooks := .later }
def FracSumCardSaid : Prop := Claim7.holds Tryd.pinned (.plain (OpenSpec.ofChange fracSumSpec)) fracSumCard

/-- THE TIED CARD OF 'brocadelaw01.FracFormat'. -/
def fracFormatCard : Claim7 := { stood := { row := fracFormatRow, standIns := [], harness := (true, "f9d0ccb4549076a1d8e0d532d515793d309ee8a3411979589464eb9b89725db3"), looks := true }, kinds := [], alts := [], laidByText := true, laidKinds := [.data, .data, .data, .sentinel, .sentinel], laidTests := true, laidLooks := .later }
def FracFormatCardSaid : Prop := Claim7.holds Tryd.pinned (.plain (OpenSpec.ofChange fracFormatSpec)) fracFormatCard

/-- THE TIED CARD OF 'brocadelaw01.FracRoundTrip'. -/
def fracRoundTripCard : Claim7 := { stood := { row := fracRoundTripRow, standIns := [], harness := (true, "f9d0ccb4549076a1d8e0d532d515793d309ee8a3411979589464eb9b89725db3"), looks := true }, kinds := [], alts := [], laidByText := true, laidKinds := [.data, .data, .data, .sentinel, .sentinel], laidTests := true, laidLooks := .later }
def FracRoundTripCardSaid : Prop := Claim7.holds Tryd.pinned (.plain (OpenSpec.ofChange fracRoundTripSpec)) fracRoundTripCard

/-- THE TIED CARD OF 'brocadelaw01.FracRingLaws'. -/
def fracRingLawsCard : Claim7 := { stood := { row := fracRingLawsRow, standIns := [], harness := (true, "f9d0ccb4549076a1d8e0d532d515793d309ee8a3411979589464eb9b89725db3"), looks := true }, kinds := [], alts := [], laidByText := true, laidKinds := [.data, .data, .data, .sentinel, .sentinel], laidTests := true, laidLooks := .later }
def FracRingLawsCardSaid : Prop := Claim7.holds Tryd.pinned (.plain (OpenSpec.ofChange fracRingLawsSpec)) fracRingLawsCard

/-- THE TIED CARD OF 'brocadelaw01.FracSumOrder'. -/
def fracSumOrderCard : Claim7 := { stood := { row := fracSumOrderRow, standIns := [], harness := (true, "f9d0ccb4549076a1d8e0d532d515793d309ee8a3411979589464eb9b89725db3"), looks := true }, kinds := [], alts := [], laidByText := true, laidKinds := [.data, .data, .data, .sentinel, .sentinel], laidTests := true, laidLooks := .later }
def FracSumOrderCardSaid : Prop := Claim7.holds Tryd.pinned (.plain (OpenSpec.ofChange fracSumOrderSpec)) fracSumOrderCard

/-- THE TIED CARD OF 'brocadelaw01.FracFloorBounds'. -/
def fracFloorBoundsCard : Claim7 := { stood := { row := fracFloorBoundsRow, standIns := [], harness := (true, "f9d0ccb4549076a1d8e0d532d515793d309ee8a3411979589464eb9b89725db3"), looks := true }, kinds := [], alts := [], laidByText := true, laidKinds := [.data, .data, .data, .sentinel, .sentinel], laidTests := true, laidLooks := .later }
def FracFloorBoundsCardSaid : Prop := Claim7.holds Tryd.pinned (.plain (OpenSpec.ofChange fracFloorBoundsSpec)) fracFloorBoundsCard

/-- THE SECOND FORM's CARD OF 'brocadelaw01.FracNew'. -/
def fracNewUptoCard : Claim7 := { stood := { row := fracNewUptoRow, standIns := [], harness := (true, "f9d0ccb4549076a1d8e0d532d515793d309ee8a3411979589464eb9b89725db3"), looks := true }, kinds := [], alts := [], laidByText := true, laidKinds := [.data, .data, .data, .sentinel, .sentinel], laidTests := true, laidLooks := .later }
def FracNewUptoCardSaid : Prop := Claim7.holds Tryd.pinned (.plain (OpenSpec.upto fracNewSpec)) fracNewUptoCard

/-- THE SECOND FORM's CARD OF 'brocadelaw01.FracArithmetic'. -/
def fracArithmeticUptoCard : Claim7 := { stood := { row := fracArithmeticUptoRow, standIns := [], harness := (true, "f9d0ccb4549076a1d8e0d532d515793d309ee8a3411979589464eb9b89725db3"), looks := true }, kinds := [], alts := [], laidByText := true, laidKinds := [.data, .data, .data, .sentinel, .sentinel], laidTests := true, laidLooks := .later }
def FracArithmeticUptoCardSaid : Prop := Claim7.holds Tryd.pinned (.plain (OpenSpec.upto fracArithmeticSpec)) fracArithmeticUptoCard

/-- THE SECOND FORM's CARD OF 'brocadelaw01.FracOrdering'. -/
def fracOrderingUptoCard : Claim7 := { stood := { row := fracOrderingUptoRow, standIns := [], harness := (true, "f9d0ccb4549076a1d8e0d532d515793d309ee8a3411979589464eb9b89725db3"), looks := true }, kinds := [], alts := [], laidByText := true, laidKinds := [.data, .data, .data, .sentinel, .sentinel], laidTests := true, laidLooks := .later }
def FracOrderingUptoCardSaid : Prop := Claim7.holds Tryd.pinned (.plain (OpenSpec.upto fracOrderingSpec)) fracOrderingUptoCard

/-- THE SECOND FORM's CARD OF 'brocadelaw01.FracSum'. -/
def fracSumUptoCard : Claim7 := { stood := { row := fracSumUptoRow, standIns := [], harness := (true, "f9d0ccb4549076a1d8e0d532d515793d309ee8a3411979589464eb9b89725db3"), looks := true }, kinds := [], alts := [], laidByText := true, laidKinds := [.data, .data, .data, .sentinel, .sentinel], laidTests := true, laidLooks := .later }
def FracSumUptoCardSaid : Prop := Claim7.holds Tryd.pinned (.plain (OpenSpec.upto fracSumSpec)) fracSumUptoCard

/-- THE SECOND FORM's CARD OF 'brocadelaw01.FracFormat'. -/
def fracFormatUptoCard : Claim7 := { stood := { row := fracFormatUptoRow, standIns := [], harness := (true, "f9d0ccb4549076a1d8e0d532d515793d309ee8a3411979589464eb9b89725db3"), looks := true }, kinds := [], alts := [], laidByText := true, laidKinds := [.data, .data, .data, .sentinel, .sentinel], laidTests := true, laidLooks := .later }
def FracFormatUptoCardSaid : Prop := Claim7.holds Tryd.pinned (.plain (OpenSpec.upto fracFormatSpec)) fracFormatUptoCard

/-- THE SECOND FORM's CARD OF 'brocadelaw01.FracRoundTrip'. -/
def fracRoundTripUptoCard : Claim7 := { stood := { row := fracRoundTripUptoRow, standIns := [], harness := (true, "f9d0ccb4549076a1d8e0d532d515793d309ee8a3411979589464eb9b89725db3"), looks := true }, kinds := [], alts := [], laidByText := true, laidKinds := [.data, .data, .data, .sentinel, .sentinel], laidTests := true, laidLooks := .later }
def FracRoundTripUptoCardSaid : Prop := Claim7.holds Tryd.pinned (.plain (OpenSpec.upto fracRoundTripSpec)) fracRoundTripUptoCard

/-- THE SECOND FORM's CARD OF 'brocadelaw01.FracRingLaws'. -/
def fracRingLawsUptoCard : Claim7 := { stood := { row := fracRingLawsUptoRow, standIns := [], harness := (true, "f9d0ccb4549076a1d8e0d532d515793d309ee8a3411979589464eb9b89725db3"), looks := true }, kinds := [], alts := [], laidByText := true, laidKinds := [.data, .data, .data, .sentinel, .sentinel], laidTests := true, laidLooks := .later }
def FracRingLawsUptoCardSaid : Prop := Claim7.holds Tryd.pinned (.plain (OpenSpec.upto fracRingLawsSpec)) fracRingLawsUptoCard

/-- THE SECOND FORM's CARD OF 'brocadelaw01.FracSumOrder'. -/
def fracSumOrderUptoCard : Claim7 := { stood := { row := fracSumOrderUptoRow, standIns := [], harness := (true, "f9d0ccb4549076a1d8e0d532d515793d309ee8a3411979589464eb9b89725db3"), looks := true }, kinds := [], alts := [], laidByText := true, laidKinds := [.data, .data, .data, .sentinel, .sentinel], laidTests := true, laidLooks := .later }
def FracSumOrderUptoCardSaid : Prop := Claim7.holds Tryd.pinned (.plain (OpenSpec.upto fracSumOrderSpec)) fracSumOrderUptoCard

/-- THE SECOND FORM's CARD OF 'brocadelaw01.FracFloorBounds'. -/
def fracFloorBoundsUptoCard : Claim7 := { stood := { row := fracFloorBoundsUptoRow, standIns := [], harness := (true, "f9d0ccb4549076a1d8e0d532d515793d309ee8a3411979589464eb9b89725db3"), looks := true }, kinds := [], alts := [], laidByText := true, laidKinds := [.data, .data, .data, .sentinel, .sentinel], laidTests := true, laidLooks := .later }
def FracFloorBoundsUptoCardSaid : Prop := Claim7.holds Tryd.pinned (.plain (OpenSpec.upto fracFloorBoundsSpec)) fracFloorBoundsUptoCard
end Rows
end Go.Proofs.YtnmjenpeiafnkaaDoor
