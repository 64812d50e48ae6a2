/-
  DERIVED. GIVEN WITH THE SEED: THE CARDS: each row of YtbicmlkjonaccaaDoorRows.lean that lists a variable, with what it lists TIED to the program's text (the seventh form; the later family's looks); each row that meets fmt, with fmt's text TOLD by the authors' own Lean function (tested against real Go, not proved from fmt's source: count such statements apart). THE CARD IS WHAT COUNTS. Prove the row's statement (the work); the ties are given (YtbicmlkjonaccaaDoorTie.lean); close each card by the builder's one call (the guide's Derived/Test/ToyasCard.lean, 'card_holds'). Laid BY PROGRAM, IN A SANDBOX (cutbox-door.mjs). By AI agents, Wed Nov 11 2026. No macro, syntax, notation, axiom, sorry.
-/
import Derived.Test.YtbicmlkjonaccaaDoorRows
import GoSem.ClaimSeven
namespace Go.Proofs.YtbicmlkjonaccaaDoor
namespace Rows

/-- THE TIED CARD OF 'brocadelaw05.LinValidates'. -/
def linValidatesCard : Claim7 := { stood := { row := linValidatesRow, standIns := [], harness := (true, "f879ec4be0f2f3cad4ff6a92189198b141b8ba091fc695a00204614cf6fce62a"), looks := false }, kinds := [], alts := [], laidByText := true, laidKinds := [.data, .data, .data], laidTests := true, laidLooks := .later }
def LinValidatesCardSaid : Prop := Claim7.holds Tryd.pinned (.plain (OpenSpec.ofChange linValidatesSpec)) linValidatesCard

/-- THE TIED CARD OF 'brocadelaw06.ConstraintEval'. -/
def constraintEvalCard : Claim7 := { stood := { row := constraintEvalRow, standIns := [], harness := (true, "f879ec4be0f2f3cad4ff6a92189198b141b8ba091fc695a00204614cf6fce62a"), looks := false }, kinds := [], alts := [], laidByText := true, laidKinds := [.data, .data, .data], laidTests := true, laidLooks := .later }
def ConstraintEvalCardSaid : Prop := Claim7.holds Tryd.pinned (.plain (OpenSpec.ofChange constraintEvalSpec)) constraintEvalCard

/-- THE TIED CARD OF 'brocadelaw06.ConstraintTighten'. -/
def constraintTightenCard : Claim7 := { stood := { row := constraintTightenRow, standIns := [], harness := (true, "f879ec4be0f2f3cad4ff6a92189198b141b8ba091fc695a00204614cf6fce62a"), looks := false }, kinds := [], alts := [], laidByText := true, laidKinds := [.data, .data, .data], laidTests := true, laidLooks := .later }
def ConstraintTightenCardSaid : Prop := Claim7.holds Tryd.pinned (.plain (OpenSpec.ofChange constraintTightenSpec)) constraintTightenCard

/-- THE TIED CARD OF 'brocadelaw06.ConstraintTightenExact'. -/
def constraintTightenExactCard : Claim7 := { stood := { row := constraintTightenExactRow, standIns := [], harness := (true, "f879ec4be0f2f3cad4ff6a92189198b141b8ba091fc695a00204614cf6fce62a"), looks := false }, kinds := [], alts := [], laidByText := true, laidKinds := [.data, .data, .data], laidTests := true, laidLooks := .later }
def ConstraintTightenExactCardSaid : Prop := Claim7.holds Tryd.pinned (.plain (OpenSpec.ofChange constraintTightenExactSpec)) constraintTightenExactCard

/-- THE TIED CARD OF 'brocadelaw06.ConstraintNegate'. -/
def constraintNegateCard : Claim7 := { stood := { row := constraintNegateRow, standIns := [], harness := (true, "f879ec4be0f2f3cad4ff6a92189198b141b8ba091fc695a00204614cf6fce62a"), looks := false }, kinds := [], alts := [], laidByText := true, laidKinds := [.data, .data, .data], laidTests := true, laidLooks := .later }
def ConstraintNegateCardSaid : Prop := Claim7.holds Tryd.pinned (.plain (OpenSpec.ofChange constraintNegateSpec)) constraintNegateCard

/-- THE TIED CARD OF 'brocadelaw06.ConstraintComplement'. -/
def constraintComplementCard : Claim7 := { stood := { row := constraintComplementRow, standIns := [], harness := (true, "f879ec4be0f2f3cad4ff6a92189198b141b8ba091fc695a00204614cf6fce62a"), looks := false }, kinds := [], alts := [], laidByText := true, laidKinds := [.data, .data, .data], laidTests := true, laidLooks := .later }
def ConstraintComplementCardSaid : Prop := Claim7.holds Tryd.pinned (.plain (OpenSpec.ofChange constraintComplementSpec)) constraintComplementCard

/-- THE TIED CARD OF 'brocadelaw06.ConstraintCombine'. -/
def constraintCombineCard : Claim7 := { stood := { row := constraintCombineRow, standIns := [], harness := (true, "f879ec4be0f2f3cad4ff6a92189198b141b8ba091fc695a00204614cf6fce62a"), looks := false }, kinds := [], alts := [], laidByText := true, laidKinds := [.data, .data, .data], laidTests := true, laidLooks := .later }
def ConstraintCombineCardSaid : Prop := Claim7.holds Tryd.pinned (.plain (OpenSpec.ofChange constraintCombineSpec)) constraintCombineCard

/-- THE TIED CARD OF 'brocadelaw06.ConstraintCombineSound'. -/
def constraintCombineSoundCard : Claim7 := { stood := { row := constraintCombineSoundRow, standIns := [], harness := (true, "f879ec4be0f2f3cad4ff6a92189198b141b8ba091fc695a00204614cf6fce62a"), looks := false }, kinds := [], alts := [], laidByText := true, laidKinds := [.data, .data, .data], laidTests := true, laidLooks := .later }
def ConstraintCombineSoundCardSaid : Prop := Claim7.holds Tryd.pinned (.plain (OpenSpec.ofChange constraintCombineSoundSpec)) constraintCombineSoundCard

/-- THE TIED CARD OF 'brocadelaw06.ConstraintNormalize'. -/
def constraintNormalizeCard : Claim7 := { stood := { row := constraintNormalizeRow, standIns := [], harness := (true, "f879ec4be0f2f3cad4ff6a92189198b141b8ba091fc695a00204614cf6fce62a"), looks := false }, kinds := [], alts := [], laidByText := true, laidKinds := [.data, .data, .data], laidTests := true, laidLooks := .later }
def ConstraintNormalizeCardSaid : Prop := Claim7.holds Tryd.pinned (.plain (OpenSpec.ofChange constraintNormalizeSpec)) constraintNormalizeCard

/-- THE TIED CARD OF 'brocadelaw06.ConstraintNormalizeEquivalent'. -/
def constraintNormalizeEquivalentCard : Claim7 := { stood := { row := constraintNormalizeEquivalentRow, standIns := [], harness := (true, "f879ec4be0f2f3cad4ff6a92189198b141b8ba091fc695a00204614cf6fce62a"), looks := false }, kinds := [], alts := [], laidByText := true, laidKinds := [.data, .data, .data], laidTests := true, laidLooks := .later }
def ConstraintNormalizeEquivalentCardSaid : Prop := Claim7.holds Tryd.pinned (.plain (OpenSpec.ofChange constraintNormalizeEquivalentSpec)) constraintNormalizeEquivalentCard

/-- THE TIED CARD OF 'brocadelaw06.ConstraintFormat'. -/
def constraintFormatCard : Claim7 := { stood := { row := constraintFormatRow, standIns := [], harness := (true, "f879ec4be0f2f3cad4ff6a92189198b141b8ba091fc695a00204614cf6fce62a"), looks := false }, kinds := [], alts := [], laidByText := true, laidKinds := [.data, .data, .data], laidTests := true, laidLooks := .later }
def ConstraintFormatCardSaid : Prop := Claim7.holds Tryd.pinned (.plain (OpenSpec.ofChange constraintFormatSpec)) constraintFormatCard

/-- THE SECOND FORM's CARD OF 'brocadelaw05.LinValidates'. -/
def linValidatesUptoCard : Claim7 := { stood := { row := linValidatesUptoRow, standIns := [], harness := (true, "f879ec4be0f2f3cad4ff6a92189198b141b8ba091fc695a00204614cf6fce62a"), looks := false }, kinds := [], alts := [], laidByText := true, laidKinds := [.data, .data, .data], laidTests := true, laidLooks := .later }
def LinValidatesUptoCardSaid : Prop := Claim7.holds Tryd.pinned (.plain (OpenSpec.upto linValidatesSpec)) linValidatesUptoCard

/-- THE SECOND FORM's CARD OF 'brocadelaw06.ConstraintEval'. -/
def constraintEvalUptoCard : Claim7 := { stood := { row := constraintEvalUptoRow, standIns := [], harness := (true, "f879ec4be0f2f3cad4ff6a92189198b141b8ba091fc695a00204614cf6fce62a"), looks := false }, kinds := [], alts := [], laidByText := true, laidKinds := [.data, .data, .data], laidTests := true, laidLooks := .later }
def ConstraintEvalUptoCardSaid : Prop := Claim7.holds Tryd.pinned (.plain (OpenSpec.upto constraintEvalSpec)) constraintEvalUptoCard

/-- THE SECOND FORM's CARD OF 'brocadelaw06.ConstraintTighten'. -/
def constraintTightenUptoCard : Claim7 := { stood := { row := constraintTightenUptoRow, standIns := [], harness := (true, "f879ec4be0f2f3cad4ff6a92189198b141b8ba091fc695a00204614cf6fce62a"), looks := false }, kinds := [], alts := [], laidByText := true, laidKinds := [.data, .data, .data], laidTests := true, laidLooks := .later }
def ConstraintTightenUptoCardSaid : Prop := Claim7.holds Tryd.pinned (.plain (OpenSpec.upto constraintTightenSpec)) constraintTightenUptoCard

/-- THE SECOND FORM's CARD OF 'brocadelaw06.ConstraintTightenExact'. -/
def constraintTightenExactUptoCard : Claim7 := { stood := { row := constraintTightenExactUptoRow, standIns := [], harness := (true, "f879ec4be0f2f3cad4ff6a92189198b141b8ba091fc695a00204614cf6fce62a"), looks := false }, kinds := [], alts := [], laidByText := true, laidKinds := [.data, .data, .data], laidTests := true, laidLooks := .later }
def ConstraintTightenExactUptoCardSaid : Prop := Claim7.holds Tryd.pinned (.plain (OpenSpec.upto constraintTightenExactSpec)) constraintTightenExactUptoCard

/-- THE SECOND FORM's CARD OF 'brocadelaw06.ConstraintNegate'. -/
def constraintNegateUptoCard : Claim7 := { stood := { row := constraintNegateUptoRow, standIns := [], harness := (true, "f879ec4be0f2f3cad4ff6a92189198b141b8ba091fc695a00204614cf6fce62a"), looks := false }, kinds := [], alts := [], laidByText := true, laidKinds := [.data, .data, .data], laidTests := true, laidLooks := .later }
def ConstraintNegateUptoCardSaid : Prop := Claim7.holds Tryd.pinned (.plain (OpenSpec.upto constraintNegateSpec)) constraintNegateUptoCard

/-- THE SECOND FORM's CARD OF 'brocadelaw06.ConstraintComplement'. -/
def constraintComplementUptoCard : Claim7 := { stood := { row := constraintComplementUptoRow, standIns := [], harness := (true, "f879ec4be0f2f3cad4ff6a92189198b141b8ba091fc695a00204614cf6fce62a"), looks := false }, kinds := [], alts := [], laidByText := true, laidKinds := [.data, .data, .data], laidTests := true, laidLooks := .later }
def ConstraintComplementUptoCardSaid : Prop := Claim7.holds Tryd.pinned (.plain (OpenSpec.upto constraintComplementSpec)) constraintComplementUptoCard

/-- THE SECOND FORM's CARD OF 'brocadelaw06.ConstraintCombine'. -/
def constraintCombineUptoCard : Claim7 := { stood := { row := constraintCombineUptoRow, standIns := [], harness := (true, "f879ec4be0f2f3cad4ff6a92189198b141b8ba091fc695a00204614cf6fce62a"), looks := false }, kinds := [], alts := [], laidByText := true, laidKinds := [.data, .data, .data], laidTests := true, laidLooks := .later }
def ConstraintCombineUptoCardSaid : Prop := Claim7.holds Tryd.pinned (.plain (OpenSpec.upto constraintCombineSpec)) constraintCombineUptoCard

/-- THE SECOND FORM's CARD OF 'brocadelaw06.ConstraintCombineSound'. -/
def constraintCombineSoundUptoCard : Claim7 := { stood := { row := constraintCombineSoundUptoRow, standIns := [], harness := (true, "f879ec4be0f2f3cad4ff6a92189198b141b8ba091fc695a00204614cf6fce62a"), looks := false }, kinds := [], alts := [], laidByText := true, laidKinds := [.data, .data, .data], laidTests := true, laidLooks := .later }
def ConstraintCombineSoundUptoCardSaid : Prop := Claim7.holds Tryd.pinned (.plain (OpenSpec.upto constraintCombineSoundSpec)) constraintCombineSoundUptoCard

/-- THE SECOND FORM's CARD OF 'brocadelaw06.ConstraintNormalize'. -/
def constraintNormalizeUptoCard : Claim7 := { stood := { row := constraintNormalizeUptoRow, standIns := [], harness := (true, "f879ec4be0f2f3cad4ff6a92189198b141b8ba091fc695a00204614cf6fce62a"), looks := false }, kinds := [], alts := [], laidByText := true, laidKinds := [.data, .data, .data], laidTests := true, laidLooks := .later }
def ConstraintNormalizeUptoCardSaid : Prop := Claim7.holds Tryd.pinned (.plain (OpenSpec.upto constraintNormalizeSpec)) constraintNormalizeUptoCard

/-- THE SECOND FORM's CARD OF 'brocadelaw06.ConstraintNormalizeEquivalent'. -/
def constraintNormalizeEquivalentUptoCard : Claim7 := { stood := { row := constraintNormalizeEquivalentUptoRow, standIns := [], harness := (true, "f879ec4be0f2f3cad4ff6a92189198b141b8ba091fc695a00204614cf6fce62a"), looks := false }, kinds := [], alts := [], laidByText := true, laidKinds := [.data, .data, .data], laidTests := true, laidLooks := .later }
def ConstraintNormalizeEquivalentUptoCardSaid : Prop := Claim7.holds Tryd.pinned (.plain (OpenSpec.upto constraintNormalizeEquivalentSpec)) constraintNormalizeEquivalentUptoCard

/-- THE SECOND FORM's CARD OF 'brocadelaw06.ConstraintFormat'. -/
def constraintFormatUptoCard : Claim7 := { stood := { row := constraintFormatUptoRow, standIns := [], harness := (true, "f879ec4be0f2f3cad4ff6a92189198b141b8ba091fc695a00204614cf6fce62a"), looks := false }, kinds := [], alts := [], laidByText := true, laidKinds := [.data, .data, .data], laidTests := true, laidLooks := .later }
def ConstraintFormatUptoCardSaid : Prop := Claim7.holds Tryd.pinned (.plain (OpenSpec.upto constraintFormatSpec)) constraintFormatUptoCard
end Rows
end Go.Proofs.YtbicmlkjonaccaaDoor
