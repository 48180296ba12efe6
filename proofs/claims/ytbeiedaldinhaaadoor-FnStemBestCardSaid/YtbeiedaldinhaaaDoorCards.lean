/-
  DERIVED. GIVEN WITH THE SEED: THE CARDS: each row of YtbeiedaldinhaaaDoorRows.lean that lists a variable, with what it lists TIED to the program's text (the seventh form; the later family's looks); each row that meets fmt, with fmt's text TOLD by the authors' own Lean function (tested against real Go, not proved from fmt's source: count such statements apart). THE CARD IS WHAT COUNTS. Prove the row's statement (the work); the ties are given (YtbeiedaldinhaaaDoorTie.lean); close each card by the builder's one call (the guide's Derived/Test/ToyasCard.lean, 'card_holds'). Laid BY PROGRAM, IN A SANDBOX (cutbox-door.mjs). By AI agents, Wed Nov 11 2026. No macro, syntax, notation, axiom, sorry.
-/
import Derived.Test.YtbeiedaldinhaaaDoorRows
import GoSem.ClaimSeven
namespace Go.Proofs.YtbeiedaldinhaaaDoor
namespace Rows

/-- THE TIED CARD OF 'laws.FnStemChanges'. -/
def fnStemChangesCard : Claim7 := { stood := { row := fnStemChangesRow, standIns := [], harness := (true, "e0f3d3dd090e65f5cd099981934ea6e3f9e82ae4aafaab8f17bf8c1edcdd9c30"), looks := false }, kinds := [], alts := [], laidByText := true, laidKinds := [.data, .pinned], laidTests := true, laidLooks := .later }
def FnStemChangesCardSaid : Prop := Claim7.holds Tryd.pinned (.plain (OpenSpec.ofChange fnStemChangesSpec)) fnStemChangesCard

/-- THE TIED CARD OF 'laws.FnStemFill'. -/
def fnStemFillCard : Claim7 := { stood := { row := fnStemFillRow, standIns := [], harness := (true, "e0f3d3dd090e65f5cd099981934ea6e3f9e82ae4aafaab8f17bf8c1edcdd9c30"), looks := false }, kinds := [], alts := [], laidByText := true, laidKinds := [.data, .pinned], laidTests := true, laidLooks := .later }
def FnStemFillCardSaid : Prop := Claim7.holds Tryd.pinned (.plain (OpenSpec.ofChange fnStemFillSpec)) fnStemFillCard

/-- THE TIED CARD OF 'laws.FnStemFewest'. -/
def fnStemFewestCard : Claim7 := { stood := { row := fnStemFewestRow, standIns := [], harness := (true, "e0f3d3dd090e65f5cd099981934ea6e3f9e82ae4aafaab8f17bf8c1edcdd9c30"), looks := false }, kinds := [], alts := [], laidByText := true, laidKinds := [.data, .pinned], laidTests := true, laidLooks := .later }
def FnStemFewestCardSaid : Prop := Claim7.holds Tryd.pinned (.plain (OpenSpec.ofChange fnStemFewestSpec)) fnStemFewestCard

/-- THE TIED CARD OF 'laws.FnStemLost'. -/
def fnStemLostCard : Claim7 := { stood := { row := fnStemLostRow, standIns := [], harness := (true, "e0f3d3dd090e65f5cd099981934ea6e3f9e82ae4aafaab8f17bf8c1edcdd9c30"), looks := false }, kinds := [], alts := [], laidByText := true, laidKinds := [.data, .pinned], laidTests := true, laidLooks := .later }
def FnStemLostCardSaid : Prop := Claim7.holds Tryd.pinned (.plain (OpenSpec.ofChange fnStemLostSpec)) fnStemLostCard

/-- THE TIED CARD OF 'laws.FnStemMove'. -/
def fnStemMoveCard : Claim7 := { stood := { row := fnStemMoveRow, standIns := [], harness := (true, "e0f3d3dd090e65f5cd099981934ea6e3f9e82ae4aafaab8f17bf8c1edcdd9c30"), looks := false }, kinds := [], alts := [], laidByText := true, laidKinds := [.data, .pinned], laidTests := true, laidLooks := .later }
def FnStemMoveCardSaid : Prop := Claim7.holds Tryd.pinned (.plain (OpenSpec.ofChange fnStemMoveSpec)) fnStemMoveCard

/-- THE TIED CARD OF 'laws.FnStemBest'. -/
def fnStemBestCard : Claim7 := { stood := { row := fnStemBestRow, standIns := [], harness := (true, "e0f3d3dd090e65f5cd099981934ea6e3f9e82ae4aafaab8f17bf8c1edcdd9c30"), looks := false }, kinds := [], alts := [], laidByText := true, laidKinds := [.data, .pinned], laidTests := true, laidLooks := .later }
def FnStemBestCardSaid : Prop := Claim7.holds Tryd.pinned (.plain (OpenSpec.ofChange fnStemBestSpec)) fnStemBestCard

/-- THE TIED CARD OF 'laws.FnStemDepth'. -/
def fnStemDepthCard : Claim7 := { stood := { row := fnStemDepthRow, standIns := [], harness := (true, "e0f3d3dd090e65f5cd099981934ea6e3f9e82ae4aafaab8f17bf8c1edcdd9c30"), looks := false }, kinds := [], alts := [], laidByText := true, laidKinds := [.data, .pinned], laidTests := true, laidLooks := .later }
def FnStemDepthCardSaid : Prop := Claim7.holds Tryd.pinned (.plain (OpenSpec.ofChange fnStemDepthSpec)) fnStemDepthCard

/-- THE SECOND FORM's CARD OF 'laws.FnStemChanges'. -/
def fnStemChangesUptoCard : Claim7 := { stood := { row := fnStemChangesUptoRow, standIns := [], harness := (true, "e0f3d3dd090e65f5cd099981934ea6e3f9e82ae4aafaab8f17bf8c1edcdd9c30"), looks := false }, kinds := [], alts := [], laidByText := true, laidKinds := [.data, .pinned], laidTests := true, laidLooks := .later }
def FnStemChangesUptoCardSaid : Prop := Claim7.holds Tryd.pinned (.plain (OpenSpec.upto fnStemChangesSpec)) fnStemChangesUptoCard

/-- THE SECOND FORM's CARD OF 'laws.FnStemFill'. -/
def fnStemFillUptoCard : Claim7 := { stood := { row := fnStemFillUptoRow, standIns := [], harness := (true, "e0f3d3dd090e65f5cd099981934ea6e3f9e82ae4aafaab8f17bf8c1edcdd9c30"), looks := false }, kinds := [], alts := [], laidByText := true, laidKinds := [.data, .pinned], laidTests := true, laidLooks := .later }
def FnStemFillUptoCardSaid : Prop := Claim7.holds Tryd.pinned (.plain (OpenSpec.upto fnStemFillSpec)) fnStemFillUptoCard

/-- THE SECOND FORM's CARD OF 'laws.FnStemFewest'. -/
def fnStemFewestUptoCard : Claim7 := { stood := { row := fnStemFewestUptoRow, standIns := [], harness := (true, "e0f3d3dd090e65f5cd099981934ea6e3f9e82ae4aafaab8f17bf8c1edcdd9c30"), looks := false }, kinds := [], alts := [], laidByText := true, laidKinds := [.data, .pinned], laidTests := true, laidLooks := .later }
def FnStemFewestUptoCardSaid : Prop := Claim7.holds Tryd.pinned (.plain (OpenSpec.upto fnStemFewestSpec)) fnStemFewestUptoCard

/-- THE SECOND FORM's CARD OF 'laws.FnStemLost'. -/
def fnStemLostUptoCard : Claim7 := { stood := { row := fnStemLostUptoRow, standIns := [], harness := (true, "e0f3d3dd090e65f5cd099981934ea6e3f9e82ae4aafaab8f17bf8c1edcdd9c30"), looks := false }, kinds := [], alts := [], laidByText := true, laidKinds := [.data, .pinned], laidTests := true, laidLooks := .later }
def FnStemLostUptoCardSaid : Prop := Claim7.holds Tryd.pinned (.plain (OpenSpec.upto fnStemLostSpec)) fnStemLostUptoCard

/-- THE SECOND FORM's CARD OF 'laws.FnStemMove'. -/
def fnStemMoveUptoCard : Claim7 := { stood := { row := fnStemMoveUptoRow, standIns := [], harness := (true, "e0f3d3dd090e65f5cd099981934ea6e3f9e82ae4aafaab8f17bf8c1edcdd9c30"), looks := false }, kinds := [], alts := [], laidByText := true, laidKinds := [.data, .pinned], laidTests := true, laidLooks := .later }
def FnStemMoveUptoCardSaid : Prop := Claim7.holds Tryd.pinned (.plain (OpenSpec.upto fnStemMoveSpec)) fnStemMoveUptoCard

/-- THE SECOND FORM's CARD OF 'laws.FnStemBest'. -/
def fnStemBestUptoCard : Claim7 := { stood := { row := fnStemBestUptoRow, standIns := [], harness := (true, "e0f3d3dd090e65f5cd099981934ea6e3f9e82ae4aafaab8f17bf8c1edcdd9c30"), looks := false }, kinds := [], alts := [], laidByText := true, laidKinds := [.data, .pinned], laidTests := true, laidLooks := .later }
def FnStemBestUptoCardSaid : Prop := Claim7.holds Tryd.pinned (.plain (OpenSpec.upto fnStemBestSpec)) fnStemBestUptoCard

/-- THE SECOND FORM's CARD OF 'laws.FnStemDepth'. -/
def fnStemDepthUptoCard : Claim7 := { stood := { row := fnStemDepthUptoRow, standIns := [], harness := (true, "e0f3d3dd090e65f5cd099981934ea6e3f9e82ae4aafaab8f17bf8c1edcdd9c30"), looks := false }, kinds := [], alts := [], laidByText := true, laidKinds := [.data, .pinned], laidTests := true, laidLooks := .later }
def FnStemDepthUptoCardSaid : Prop := Claim7.holds Tryd.pinned (.plain (OpenSpec.upto fnStemDepthSpec)) fnStemDepthUptoCard
end Rows
end Go.Proofs.YtbeiedaldinhaaaDoor
