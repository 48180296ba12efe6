/-
  DERIVED. GIVEN WITH THE SEED: THE CARDS: each row of YticapinlnlpbpaaDoorRows.lean that lists a variable, with what it lists TIED to the program's text (the seventh form; the later family's looks); each row that meets fmt, with fmt's text TOLD by the authors' own Lean function (tested against real Go, not proved from fmt's source: count such statements apart). THE CARD IS WHAT COUNTS. Prove the row's statement (the work); the ties are given (YticapinlnlpbpaaDoorTie.lean); close each card by the builder's one call (the guide's Derived/Test/ToyasCard.lean, 'card_holds'). Laid BY PROGRAM, IN A SANDBOX (cutbox-door.mjs). By AI agents, Wed Nov 11 2026. No macro, syntax, notation, axiom, sorry.
-/
import Derived.Test.YticapinlnlpbpaaDoorRows
import GoSem.ClaimSeven
namespace Go.Proofs.YticapinlnlpbpaaDoor
namespace Rows

/-- THE TIED CARD OF 'laws.FnExactDiscantConcords'. -/
def fnExactDiscantConcordsCard : Claim7 := { stood := { row := fnExactDiscantConcordsRow, standIns := [], harness := (true, "ccbee6b3df3b2fbc8d3d85157627c7081af790761040c4bacd548f9d5be0a6e0"), looks := false }, kinds := [], alts := [], laidByText := true, laidKinds := [.data, .data, .data, .data, .data], laidTests := true, laidLooks := .later }
def FnExactDiscantConcordsCardSaid : Prop := Claim7.holds Tryd.pinned (.plain (OpenSpec.ofChange fnExactDiscantConcordsSpec)) fnExactDiscantConcordsCard

/-- THE TIED CARD OF 'laws.FnExactDiscantOk'. -/
def fnExactDiscantOkCard : Claim7 := { stood := { row := fnExactDiscantOkRow, standIns := [], harness := (true, "ccbee6b3df3b2fbc8d3d85157627c7081af790761040c4bacd548f9d5be0a6e0"), looks := false }, kinds := [], alts := [], laidByText := true, laidKinds := [.data, .data, .data, .data, .data], laidTests := true, laidLooks := .later }
def FnExactDiscantOkCardSaid : Prop := Claim7.holds Tryd.pinned (.plain (OpenSpec.ofChange fnExactDiscantOkSpec)) fnExactDiscantOkCard

/-- THE TIED CARD OF 'laws.FnExactDiscantParallels'. -/
def fnExactDiscantParallelsCard : Claim7 := { stood := { row := fnExactDiscantParallelsRow, standIns := [], harness := (true, "ccbee6b3df3b2fbc8d3d85157627c7081af790761040c4bacd548f9d5be0a6e0"), looks := false }, kinds := [], alts := [], laidByText := true, laidKinds := [.data, .data, .data, .data, .data], laidTests := true, laidLooks := .later }
def FnExactDiscantParallelsCardSaid : Prop := Claim7.holds Tryd.pinned (.plain (OpenSpec.ofChange fnExactDiscantParallelsSpec)) fnExactDiscantParallelsCard

/-- THE TIED CARD OF 'laws.FnExactDiscantMove'. -/
def fnExactDiscantMoveCard : Claim7 := { stood := { row := fnExactDiscantMoveRow, standIns := [], harness := (true, "ccbee6b3df3b2fbc8d3d85157627c7081af790761040c4bacd548f9d5be0a6e0"), looks := false }, kinds := [], alts := [], laidByText := true, laidKinds := [.data], laidTests := true, laidLooks := .later }
def FnExactDiscantMoveCardSaid : Prop := Claim7.holds Tryd.pinned (.plain (OpenSpec.ofChange fnExactDiscantMoveSpec)) fnExactDiscantMoveCard

/-- THE TIED CARD OF 'laws.FnConcords'. -/
def fnConcordsCard : Claim7 := { stood := { row := fnConcordsRow, standIns := [], harness := (true, "ccbee6b3df3b2fbc8d3d85157627c7081af790761040c4bacd548f9d5be0a6e0"), looks := false }, kinds := [], alts := [], laidByText := true, laidKinds := [.data, .data, .data, .data, .data], laidTests := true, laidLooks := .later }
def FnConcordsCardSaid : Prop := Claim7.holds Tryd.pinned (.plain (OpenSpec.ofChange fnConcordsSpec)) fnConcordsCard

/-- THE TIED CARD OF 'laws.FnDiscantOk'. -/
def fnDiscantOkCard : Claim7 := { stood := { row := fnDiscantOkRow, standIns := [], harness := (true, "ccbee6b3df3b2fbc8d3d85157627c7081af790761040c4bacd548f9d5be0a6e0"), looks := false }, kinds := [], alts := [], laidByText := true, laidKinds := [.data, .data, .data, .data, .data], laidTests := true, laidLooks := .later }
def FnDiscantOkCardSaid : Prop := Claim7.holds Tryd.pinned (.plain (OpenSpec.ofChange fnDiscantOkSpec)) fnDiscantOkCard

/-- THE TIED CARD OF 'laws.FnParallels'. -/
def fnParallelsCard : Claim7 := { stood := { row := fnParallelsRow, standIns := [], harness := (true, "ccbee6b3df3b2fbc8d3d85157627c7081af790761040c4bacd548f9d5be0a6e0"), looks := false }, kinds := [], alts := [], laidByText := true, laidKinds := [.data, .data, .data, .data, .data], laidTests := true, laidLooks := .later }
def FnParallelsCardSaid : Prop := Claim7.holds Tryd.pinned (.plain (OpenSpec.ofChange fnParallelsSpec)) fnParallelsCard

/-- THE TIED CARD OF 'laws.FnCross'. -/
def fnCrossCard : Claim7 := { stood := { row := fnCrossRow, standIns := [], harness := (true, "ccbee6b3df3b2fbc8d3d85157627c7081af790761040c4bacd548f9d5be0a6e0"), looks := false }, kinds := [], alts := [], laidByText := true, laidKinds := [.data], laidTests := true, laidLooks := .later }
def FnCrossCardSaid : Prop := Claim7.holds Tryd.pinned (.plain (OpenSpec.ofChange fnCrossSpec)) fnCrossCard

/-- THE TIED CARD OF 'laws.FnDiscantMove'. -/
def fnDiscantMoveCard : Claim7 := { stood := { row := fnDiscantMoveRow, standIns := [], harness := (true, "ccbee6b3df3b2fbc8d3d85157627c7081af790761040c4bacd548f9d5be0a6e0"), looks := false }, kinds := [], alts := [], laidByText := true, laidKinds := [.data, .data, .data, .data, .data], laidTests := true, laidLooks := .later }
def FnDiscantMoveCardSaid : Prop := Claim7.holds Tryd.pinned (.plain (OpenSpec.ofChange fnDiscantMoveSpec)) fnDiscantMoveCard

/-- THE SECOND FORM's CARD OF 'laws.FnExactDiscantConcords'. -/
def fnExactDiscantConcordsUptoCard : Claim7 := { stood := { row := fnExactDiscantConcordsUptoRow, standIns := [], harness := (true, "ccbee6b3df3b2fbc8d3d85157627c7081af790761040c4bacd548f9d5be0a6e0"), looks := false }, kinds := [], alts := [], laidByText := true, laidKinds := [.data, .data, .data, .data, .data], laidTests := true, laidLooks := .later }
def FnExactDiscantConcordsUptoCardSaid : Prop := Claim7.holds Tryd.pinned (.plain (OpenSpec.upto fnExactDiscantConcordsSpec)) fnExactDiscantConcordsUptoCard

/-- THE SECOND FORM's CARD OF 'laws.FnExactDiscantOk'. -/
def fnExactDiscantOkUptoCard : Claim7 := { stood := { row := fnExactDiscantOkUptoRow, standIns := [], harness := (true, "ccbee6b3df3b2fbc8d3d85157627c7081af790761040c4bacd548f9d5be0a6e0"), looks := false }, kinds := [], alts := [], laidByText := true, laidKinds := [.data, .data, .data, .data, .data], laidTests := true, laidLooks := .later }
def FnExactDiscantOkUptoCardSaid : Prop := Claim7.holds Tryd.pinned (.plain (OpenSpec.upto fnExactDiscantOkSpec)) fnExactDiscantOkUptoCard

/-- THE SECOND FORM's CARD OF 'laws.FnExactDiscantParallels'. -/
def fnExactDiscantParallelsUptoCard : Claim7 := { stood := { row := fnExactDiscantParallelsUptoRow, standIns := [], harness := (true, "ccbee6b3df3b2fbc8d3d85157627c7081af790761040c4bacd548f9d5be0a6e0"), looks := false }, kinds := [], alts := [], laidByText := true, laidKinds := [.data, .data, .data, .data, .data], laidTests := true, laidLooks := .later }
def FnExactDiscantParallelsUptoCardSaid : Prop := Claim7.holds Tryd.pinned (.plain (OpenSpec.upto fnExactDiscantParallelsSpec)) fnExactDiscantParallelsUptoCard

/-- THE SECOND FORM's CARD OF 'laws.FnExactDiscantMove'. -/
def fnExactDiscantMoveUptoCard : Claim7 := { stood := { row := fnExactDiscantMoveUptoRow, standIns := [], harness := (true, "ccbee6b3df3b2fbc8d3d85157627c7081af790761040c4bacd548f9d5be0a6e0"), looks := false }, kinds := [], alts := [], laidByText := true, laidKinds := [.data], laidTests := true, laidLooks := .later }
def FnExactDiscantMoveUptoCardSaid : Prop := Claim7.holds Tryd.pinned (.plain (OpenSpec.upto fnExactDiscantMoveSpec)) fnExactDiscantMoveUptoCard

/-- THE SECOND FORM's CARD OF 'laws.FnConcords'. -/
def fnConcordsUptoCard : Claim7 := { stood := { row := fnConcordsUptoRow, standIns := [], harness := (true, "ccbee6b3df3b2fbc8d3d85157627c7081af790761040c4bacd548f9d5be0a6e0"), looks := false }, kinds := [], alts := [], laidByText := true, laidKinds := [.data, .data, .data, .data, .data], laidTests := true, laidLooks := .later }
def FnConcordsUptoCardSaid : Prop := Claim7.holds Tryd.pinned (.plain (OpenSpec.upto fnConcordsSpec)) fnConcordsUptoCard

/-- THE SECOND FORM's CARD OF 'laws.FnDiscantOk'. -/
def fnDiscantOkUptoCard : Claim7 := { stood := { row := fnDiscantOkUptoRow, standIns := [], harness := (true, "ccbee6b3df3b2fbc8d3d85157627c7081af790761040c4bacd548f9d5be0a6e0"), looks := false }, kinds := [], alts := [], laidByText := true, laidKinds := [.data, .data, .data, .data, .data], laidTests := true, laidLooks := .later }
def FnDiscantOkUptoCardSaid : Prop := Claim7.holds Tryd.pinned (.plain (OpenSpec.upto fnDiscantOkSpec)) fnDiscantOkUptoCard

/-- THE SECOND FORM's CARD OF 'laws.FnParallels'. -/
def fnParallelsUptoCard : Claim7 := { stood := { row := fnParallelsUptoRow, standIns := [], harness := (true, "ccbee6b3df3b2fbc8d3d85157627c7081af790761040c4bacd548f9d5be0a6e0"), looks := false }, kinds := [], alts := [], laidByText := true, laidKinds := [.data, .data, .data, .data, .data], laidTests := true, laidLooks := .later }
def FnParallelsUptoCardSaid : Prop := Claim7.holds Tryd.pinned (.plain (OpenSpec.upto fnParallelsSpec)) fnParallelsUptoCard

/-- THE SECOND FORM's CARD OF 'laws.FnCross'. -/
def fnCrossUptoCard : Claim7 := { stood := { row := fnCrossUptoRow, standIns := [], harness := (true, "ccbee6b3df3b2fbc8d3d85157627c7081af790761040c4bacd548f9d5be0a6e0"), looks := false }, kinds := [], alts := [], laidByText := true, laidKinds := [.data], laidTests := true, laidLooks := .later }
def FnCrossUptoCardSaid : Prop := Claim7.holds Tryd.pinned (.plain (OpenSpec.upto fnCrossSpec)) fnCrossUptoCard

/-- THE SECOND FORM's CARD OF 'laws.FnDiscantMove'. -/
def fnDiscantMoveUptoCard : Claim7 := { stood := { row := fnDiscantMoveUptoRow, standIns := [], harness := (true, "ccbee6b3df3b2fbc8d3d85157627c7081af790761040c4bacd548f9d5be0a6e0"), looks := false }, kinds := [], alts := [], laidByText := true, laidKinds := [.data, .data, .data, .data, .data], laidTests := true, laidLooks := .later }
def FnDiscantMoveUptoCardSaid : Prop := Claim7.holds Tryd.pinned (.plain (OpenSpec.upto fnDiscantMoveSpec)) fnDiscantMoveUptoCard
end Rows
end Go.Proofs.YticapinlnlpbpaaDoor
