/-
  DERIVED. GIVEN WITH THE SEED: THE CARDS: each row of YtikcinkbkakkmaaDoorRows.lean that lists a variable, with what it lists TIED to the program's text (the seventh form; the later family's looks); each row that meets fmt, with fmt's text TOLD by the authors' own Lean function (tested against real Go, not proved from fmt's source: count such statements apart). THE CARD IS WHAT COUNTS. Prove the row's statement (the work); the ties are given (YtikcinkbkakkmaaDoorTie.lean); close each card by the builder's one call (the guide's Derived/Test/ToyasCard.lean, 'card_holds'). Laid BY PROGRAM, IN A SANDBOX (cutbox-door.mjs). By AI agents, Wed Nov 11 2026. No macro, syntax, notation, axiom, sorry.
-/
import Derived.Test.YtikcinkbkakkmaaDoorRows
import GoSem.ClaimSeven
namespace Go.Proofs.YtikcinkbkakkmaaDoor
namespace Rows

/-- THE TIED CARD OF 'brocadelaw04.ValueTypeQueries'. -/
def valueTypeQueriesCard : Claim7 := { stood := { row := valueTypeQueriesRow, standIns := [], harness := (true, "04f1c342e95749058f01bc99b2dd1311da8cf5cc5ad25d54461f7e74bdee43e7"), looks := false }, kinds := [], alts := [], laidByText := true, laidKinds := [.data, .data, .data], laidTests := true, laidLooks := .later }
def ValueTypeQueriesCardSaid : Prop := Claim7.holds Tryd.pinned (.plain (OpenSpec.ofChange valueTypeQueriesSpec)) valueTypeQueriesCard

/-- THE TIED CARD OF 'brocadelaw04.ValueCast'. -/
def valueCastCard : Claim7 := { stood := { row := valueCastRow, standIns := [], harness := (true, "04f1c342e95749058f01bc99b2dd1311da8cf5cc5ad25d54461f7e74bdee43e7"), looks := false }, kinds := [], alts := [], laidByText := true, laidKinds := [.data, .data, .data], laidTests := true, laidLooks := .later }
def ValueCastCardSaid : Prop := Claim7.holds Tryd.pinned (.plain (OpenSpec.ofChange valueCastSpec)) valueCastCard

/-- THE TIED CARD OF 'brocadelaw04.ValueReorderable'. -/
def valueReorderableCard : Claim7 := { stood := { row := valueReorderableRow, standIns := [], harness := (true, "04f1c342e95749058f01bc99b2dd1311da8cf5cc5ad25d54461f7e74bdee43e7"), looks := false }, kinds := [], alts := [], laidByText := true, laidKinds := [.data, .data, .data], laidTests := true, laidLooks := .later }
def ValueReorderableCardSaid : Prop := Claim7.holds Tryd.pinned (.plain (OpenSpec.ofChange valueReorderableSpec)) valueReorderableCard

/-- THE TIED CARD OF 'brocadelaw04.ValueRoundingError'. -/
def valueRoundingErrorCard : Claim7 := { stood := { row := valueRoundingErrorRow, standIns := [], harness := (true, "04f1c342e95749058f01bc99b2dd1311da8cf5cc5ad25d54461f7e74bdee43e7"), looks := false }, kinds := [], alts := [], laidByText := true, laidKinds := [.data, .data, .data], laidTests := true, laidLooks := .later }
def ValueRoundingErrorCardSaid : Prop := Claim7.holds Tryd.pinned (.plain (OpenSpec.ofChange valueRoundingErrorSpec)) valueRoundingErrorCard

/-- THE SECOND FORM's CARD OF 'brocadelaw04.ValueTypeQueries'. -/
def valueTypeQueriesUptoCard : Claim7 := { stood := { row := valueTypeQueriesUptoRow, standIns := [], harness := (true, "04f1c342e95749058f01bc99b2dd1311da8cf5cc5ad25d54461f7e74bdee43e7"), looks := false }, kinds := [], alts := [], laidByText := true, laidKinds := [.data, .data, .data], laidTests := true, laidLooks := .later }
def ValueTypeQueriesUptoCardSaid : Prop := Claim7.holds Tryd.pinned (.plain (OpenSpec.upto valueTypeQueriesSpec)) valueTypeQueriesUptoCard

/-- THE SECOND FORM's CARD OF 'brocadelaw04.ValueCast'. -/
def valueCastUptoCard : Claim7 := { stood := { row := valueCastUptoRow, standIns := [], harness := (true, "04f1c342e95749058f01bc99b2dd1311da8cf5cc5ad25d54461f7e74bdee43e7"), looks := false }, kinds := [], alts := [], laidByText := true, laidKinds := [.data, .data, .data], laidTests := true, laidLooks := .later }
def ValueCastUptoCardSaid : Prop := Claim7.holds Tryd.pinned (.plain (OpenSpec.upto valueCastSpec)) valueCastUptoCard

/-- THE SECOND FORM's CARD OF 'brocadelaw04.ValueReorderable'. -/
def valueReorderableUptoCard : Claim7 := { stood := { row := valueReorderableUptoRow, standIns := [], harness := (true, "04f1c342e95749058f01bc99b2dd1311da8cf5cc5ad25d54461f7e74bdee43e7"), looks := false }, kinds := [], alts := [], laidByText := true, laidKinds := [.data, .data, .data], laidTests := true, laidLooks := .later }
def ValueReorderableUptoCardSaid : Prop := Claim7.holds Tryd.pinned (.plain (OpenSpec.upto valueReorderableSpec)) valueReorderableUptoCard

/-- THE SECOND FORM's CARD OF 'brocadelaw04.ValueRoundingError'. -/
def valueRoundingErrorUptoCard : Claim7 := { stood := { row := valueRoundingErrorUptoRow, standIns := [], harness := (true, "04f1c342e95749058f01bc99b2dd1311da8cf5cc5ad25d54461f7e74bdee43e7"), looks := false }, kinds := [], alts := [], laidByText := true, laidKinds := [.data, .data, .data], laidTests := true, laidLooks := .later }
def ValueRoundingErrorUptoCardSaid : Prop := Claim7.holds Tryd.pinned (.plain (OpenSpec.upto valueRoundingErrorSpec)) valueRoundingErrorUptoCard
end Rows
end Go.Proofs.YtikcinkbkakkmaaDoor
