/-
  DERIVED. GIVEN WITH THE SEED: THE CARDS: each row of YteaaikmejacpaaaGreatDoorRows.lean that lists a variable, with what it lists TIED to the program's text (the seventh form; the later family's looks); each row that meets fmt, with fmt's text TOLD by the authors' own Lean function (tested against real Go, not proved from fmt's source: count such statements apart). THE CARD IS WHAT COUNTS. Prove the row's statement (the work); the ties are given (YteaaikmejacpaaaGreatDoorTie.lean); close each card by the builder's one call (the guide's Derived/Test/ToyasCard.lean, 'card_holds'). Laid BY PROGRAM, IN A SANDBOX (cutbox-door.mjs). By AI agents, Wed Nov 11 2026. No macro, syntax, notation, axiom, sorry.
-/
import Derived.Test.YteaaikmejacpaaaGreatDoorRows
import GoSem.ClaimSeven
namespace Go.Proofs.YteaaikmejacpaaaGreatDoor
namespace Rows

/-- THE TIED CARD OF 'brocadelaw12.TensorValidates'. -/
def tensorValidatesCard : Claim7 := { stood := { row := tensorValidatesRow, standIns := [], harness := (true, "d6d38172c1cd416339d0edb99f4024993a566c89e8566c390aa11e549e13ce8d"), looks := false }, kinds := [], alts := [], laidByText := true, laidKinds := [.data, .data, .data], laidTests := true, laidLooks := .later }
def TensorValidatesCardSaid : Prop := Claim7.holds Tryz.pinned (.plain (OpenSpec.ofChange tensorValidatesSpec)) tensorValidatesCard

/-- THE TIED CARD OF 'brocadelaw12.TensorIndependent'. -/
def tensorIndependentCard : Claim7 := { stood := { row := tensorIndependentRow, standIns := [], harness := (true, "d6d38172c1cd416339d0edb99f4024993a566c89e8566c390aa11e549e13ce8d"), looks := false }, kinds := [], alts := [], laidByText := true, laidKinds := [.data, .data, .data], laidTests := true, laidLooks := .later }
def TensorIndependentCardSaid : Prop := Claim7.holds Tryz.pinned (.plain (OpenSpec.ofChange tensorIndependentSpec)) tensorIndependentCard

/-- THE TIED CARD OF 'brocadelaw12.TensorElements'. -/
def tensorElementsCard : Claim7 := { stood := { row := tensorElementsRow, standIns := [], harness := (true, "d6d38172c1cd416339d0edb99f4024993a566c89e8566c390aa11e549e13ce8d"), looks := false }, kinds := [], alts := [], laidByText := true, laidKinds := [.data, .data, .data], laidTests := true, laidLooks := .later }
def TensorElementsCardSaid : Prop := Claim7.holds Tryz.pinned (.plain (OpenSpec.ofChange tensorElementsSpec)) tensorElementsCard

/-- THE TIED CARD OF 'brocadelaw12.TensorSetGet'. -/
def tensorSetGetCard : Claim7 := { stood := { row := tensorSetGetRow, standIns := [], harness := (true, "d6d38172c1cd416339d0edb99f4024993a566c89e8566c390aa11e549e13ce8d"), looks := false }, kinds := [], alts := [], laidByText := true, laidKinds := [.data, .data, .data], laidTests := true, laidLooks := .later }
def TensorSetGetCardSaid : Prop := Claim7.holds Tryz.pinned (.plain (OpenSpec.ofChange tensorSetGetSpec)) tensorSetGetCard

/-- THE TIED CARD OF 'brocadelaw12.TensorZips'. -/
def tensorZipsCard : Claim7 := { stood := { row := tensorZipsRow, standIns := [], harness := (true, "d6d38172c1cd416339d0edb99f4024993a566c89e8566c390aa11e549e13ce8d"), looks := false }, kinds := [], alts := [], laidByText := true, laidKinds := [.data, .data, .data], laidTests := true, laidLooks := .later }
def TensorZipsCardSaid : Prop := Claim7.holds Tryz.pinned (.plain (OpenSpec.ofChange tensorZipsSpec)) tensorZipsCard

/-- THE TIED CARD OF 'brocadelaw12.TensorReduces'. -/
def tensorReducesCard : Claim7 := { stood := { row := tensorReducesRow, standIns := [], harness := (true, "d6d38172c1cd416339d0edb99f4024993a566c89e8566c390aa11e549e13ce8d"), looks := false }, kinds := [], alts := [], laidByText := true, laidKinds := [.data, .data, .data], laidTests := true, laidLooks := .later }
def TensorReducesCardSaid : Prop := Claim7.holds Tryz.pinned (.plain (OpenSpec.ofChange tensorReducesSpec)) tensorReducesCard

/-- THE TIED CARD OF 'brocadelaw12.TensorScanTotal'. -/
def tensorScanTotalCard : Claim7 := { stood := { row := tensorScanTotalRow, standIns := [], harness := (true, "d6d38172c1cd416339d0edb99f4024993a566c89e8566c390aa11e549e13ce8d"), looks := false }, kinds := [], alts := [], laidByText := true, laidKinds := [.data, .data, .data], laidTests := true, laidLooks := .later }
def TensorScanTotalCardSaid : Prop := Claim7.holds Tryz.pinned (.plain (OpenSpec.ofChange tensorScanTotalSpec)) tensorScanTotalCard

/-- THE TIED CARD OF 'brocadelaw12.TensorPermutes'. -/
def tensorPermutesCard : Claim7 := { stood := { row := tensorPermutesRow, standIns := [], harness := (true, "d6d38172c1cd416339d0edb99f4024993a566c89e8566c390aa11e549e13ce8d"), looks := false }, kinds := [], alts := [], laidByText := true, laidKinds := [.data, .data, .data], laidTests := true, laidLooks := .later }
def TensorPermutesCardSaid : Prop := Claim7.holds Tryz.pinned (.plain (OpenSpec.ofChange tensorPermutesSpec)) tensorPermutesCard

/-- THE TIED CARD OF 'brocadelaw12.TensorConcats'. -/
def tensorConcatsCard : Claim7 := { stood := { row := tensorConcatsRow, standIns := [], harness := (true, "d6d38172c1cd416339d0edb99f4024993a566c89e8566c390aa11e549e13ce8d"), looks := false }, kinds := [], alts := [], laidByText := true, laidKinds := [.data, .data, .data], laidTests := true, laidLooks := .later }
def TensorConcatsCardSaid : Prop := Claim7.holds Tryz.pinned (.plain (OpenSpec.ofChange tensorConcatsSpec)) tensorConcatsCard

/-- THE TIED CARD OF 'brocadelaw12.TensorRoundTrips'. -/
def tensorRoundTripsCard : Claim7 := { stood := { row := tensorRoundTripsRow, standIns := [], harness := (true, "d6d38172c1cd416339d0edb99f4024993a566c89e8566c390aa11e549e13ce8d"), looks := false }, kinds := [], alts := [], laidByText := true, laidKinds := [.data, .data, .data], laidTests := true, laidLooks := .later }
def TensorRoundTripsCardSaid : Prop := Claim7.holds Tryz.pinned (.plain (OpenSpec.ofChange tensorRoundTripsSpec)) tensorRoundTripsCard

/-- THE TIED CARD OF 'brocadelaw12.TensorFormats'. -/
def tensorFormatsCard : Claim7 := { stood := { row := tensorFormatsRow, standIns := [], harness := (true, "d6d38172c1cd416339d0edb99f4024993a566c89e8566c390aa11e549e13ce8d"), looks := false }, kinds := [], alts := [], laidByText := true, laidKinds := [.data, .data, .data], laidTests := true, laidLooks := .later }
def TensorFormatsCardSaid : Prop := Claim7.holds Tryz.pinned (.plain (OpenSpec.ofChange tensorFormatsSpec)) tensorFormatsCard

/-- THE SECOND FORM's CARD OF 'brocadelaw12.TensorValidates'. -/
def tensorValidatesUptoCard : Claim7 := { stood := { row := tensorValidatesUptoRow, standIns := [], harness := (true, "d6d38172c1cd416339d0edb99f4024993a566c89e8566c390aa11e549e13ce8d"), looks := false }, kinds := [], alts := [], laidByText := true, laidKinds := [.data, .data, .data], laidTests := true, laidLooks := .later }
def TensorValidatesUptoCardSaid : Prop := Claim7.holds Tryz.pinned (.plain (OpenSpec.upto tensorValidatesSpec)) tensorValidatesUptoCard

/-- THE SECOND FORM's CARD OF 'brocadelaw12.TensorIndependent'. -/
def tensorIndependentUptoCard : Claim7 := { stood := { row := tensorIndependentUptoRow, standIns := [], harness := (true, "d6d38172c1cd416339d0edb99f4024993a566c89e8566c390aa11e549e13ce8d"), looks := false }, kinds := [], alts := [], laidByText := true, laidKinds := [.data, .data, .data], laidTests := true, laidLooks := .later }
def TensorIndependentUptoCardSaid : Prop := Claim7.holds Tryz.pinned (.plain (OpenSpec.upto tensorIndependentSpec)) tensorIndependentUptoCard

/-- THE SECOND FORM's CARD OF 'brocadelaw12.TensorElements'. -/
def tensorElementsUptoCard : Claim7 := { stood := { row := tensorElementsUptoRow, standIns := [], harness := (true, "d6d38172c1cd416339d0edb99f4024993a566c89e8566c390aa11e549e13ce8d"), looks := false }, kinds := [], alts := [], laidByText := true, laidKinds := [.data, .data, .data], laidTests := true, laidLooks := .later }
def TensorElementsUptoCardSaid : Prop := Claim7.holds Tryz.pinned (.plain (OpenSpec.upto tensorElementsSpec)) tensorElementsUptoCard

/-- THE SECOND FORM's CARD OF 'brocadelaw12.TensorSetGet'. -/
def tensorSetGetUptoCard : Claim7 := { stood := { row := tensorSetGetUptoRow, standIns := [], harness := (true, "d6d38172c1cd416339d0edb99f4024993a566c89e8566c390aa11e549e13ce8d"), looks := false }, kinds := [], alts := [], laidByText := true, laidKinds := [.data, .data, .data], laidTests := true, laidLooks := .later }
def TensorSetGetUptoCardSaid : Prop := Claim7.holds Tryz.pinned (.plain (OpenSpec.upto tensorSetGetSpec)) tensorSetGetUptoCard

/-- THE SECOND FORM's CARD OF 'brocadelaw12.TensorZips'. -/
def tensorZipsUptoCard : Claim7 := { stood := { row := tensorZipsUptoRow, standIns := [], harness := (true, "d6d38172c1cd416339d0edb99f4024993a566c89e8566c390aa11e549e13ce8d"), looks := false }, kinds := [], alts := [], laidByText := true, laidKinds := [.data, .data, .data], laidTests := true, laidLooks := .later }
def TensorZipsUptoCardSaid : Prop := Claim7.holds Tryz.pinned (.plain (OpenSpec.upto tensorZipsSpec)) tensorZipsUptoCard

/-- THE SECOND FORM's CARD OF 'brocadelaw12.TensorReduces'. -/
def tensorReducesUptoCard : Claim7 := { stood := { row := tensorReducesUptoRow, standIns := [], harness := (true, "d6d38172c1cd416339d0edb99f4024993a566c89e8566c390aa11e549e13ce8d"), looks := false }, kinds := [], alts := [], laidByText := true, laidKinds := [.data, .data, .data], laidTests := true, laidLooks := .later }
def TensorReducesUptoCardSaid : Prop := Claim7.holds Tryz.pinned (.plain (OpenSpec.upto tensorReducesSpec)) tensorReducesUptoCard

/-- THE SECOND FORM's CARD OF 'brocadelaw12.TensorScanTotal'. -/
def tensorScanTotalUptoCard : Claim7 := { stood := { row := tensorScanTotalUptoRow, standIns := [], harness := (true, "d6d38172c1cd416339d0edb99f4024993a566c89e8566c390aa11e549e13ce8d"), looks := false }, kinds := [], alts := [], laidByText := true, laidKinds := [.data, .data, .data], laidTests := true, laidLooks := .later }
def TensorScanTotalUptoCardSaid : Prop := Claim7.holds Tryz.pinned (.plain (OpenSpec.upto tensorScanTotalSpec)) tensorScanTotalUptoCard

/-- THE SECOND FORM's CARD OF 'brocadelaw12.TensorPermutes'. -/
def tensorPermutesUptoCard : Claim7 := { stood := { row := tensorPermutesUptoRow, standIns := [], harness := (true, "d6d38172c1cd416339d0edb99f4024993a566c89e8566c390aa11e549e13ce8d"), looks := false }, kinds := [], alts := [], laidByText := true, laidKinds := [.data, .data, .data], laidTests := true, laidLooks := .later }
def TensorPermutesUptoCardSaid : Prop := Claim7.holds Tryz.pinned (.plain (OpenSpec.upto tensorPermutesSpec)) tensorPermutesUptoCard

/-- THE SECOND FORM's CARD OF 'brocadelaw12.TensorConcats'. -/
def tensorConcatsUptoCard : Claim7 := { stood := { row := tensorConcatsUptoRow, standIns := [], harness := (true, "d6d38172c1cd416339d0edb99f4024993a566c89e8566c390aa11e549e13ce8d"), looks := false }, kinds := [], alts := [], laidByText := true, laidKinds := [.data, .data, .data], laidTests := true, laidLooks := .later }
def TensorConcatsUptoCardSaid : Prop := Claim7.holds Tryz.pinned (.plain (OpenSpec.upto tensorConcatsSpec)) tensorConcatsUptoCard

/-- THE SECOND FORM's CARD OF 'brocadelaw12.TensorRoundTrips'. -/
def tensorRoundTripsUptoCard : Claim7 := { stood := { row := tensorRoundTripsUptoRow, standIns := [], harness := (true, "d6d38172c1cd416339d0edb99f4024993a566c89e8566c390aa11e549e13ce8d"), looks := false }, kinds := [], alts := [], laidByText := true, laidKinds := [.data, .data, .data], laidTests := true, laidLooks := .later }
def TensorRoundTripsUptoCardSaid : Prop := Claim7.holds Tryz.pinned (.plain (OpenSpec.upto tensorRoundTripsSpec)) tensorRoundTripsUptoCard

/-- THE SECOND FORM's CARD OF 'brocadelaw12.TensorFormats'. -/
def tensorFormatsUptoCard : Claim7 := { stood := { row := tensorFormatsUptoRow, standIns := [], harness := (true, "d6d38172c1cd416339d0edb99f4024993a566c89e8566c390aa11e549e13ce8d"), looks := false }, kinds := [], alts := [], laidByText := true, laidKinds := [.data, .data, .data], laidTests := true, laidLooks := .later }
def TensorFormatsUptoCardSaid : Prop := Claim7.holds Tryz.pinned (.plain (OpenSpec.upto tensorFormatsSpec)) tensorFormatsUptoCard
end Rows
end Go.Proofs.YteaaikmejacpaaaGreatDoor
