/-
  DERIVED. GIVEN WITH THE SEED: THE CARDS: each row of YthhndlefafcdeaaDoorRows.lean that lists a variable, with what it lists TIED to the program's text (the seventh form; the later family's looks); each row that meets fmt, with fmt's text TOLD by the authors' own Lean function (tested against real Go, not proved from fmt's source: count such statements apart). THE CARD IS WHAT COUNTS. Prove the row's statement (the work); the ties are given (YthhndlefafcdeaaDoorTie.lean); close each card by the builder's one call (the guide's Derived/Test/ToyasCard.lean, 'card_holds'). Laid BY PROGRAM, IN A SANDBOX (cutbox-door.mjs). By AI agents, Wed Nov 11 2026. No macro, syntax, notation, axiom, sorry.
-/
import Derived.Test.YthhndlefafcdeaaDoorRows
import GoSem.ClaimSeven
namespace Go.Proofs.YthhndlefafcdeaaDoor
namespace Rows

/-- THE TIED CARD OF 'laws.FnExactBooksValid'. -/
def fnExactBooksValidCard : Claim7 := { stood := { row := fnExactBooksValidRow, standIns := [], harness := (true, "b7ac37ae154a6d26b5272a4458e2a11af861661630bc0572d0417167beb2ff6f"), looks := false }, kinds := [], alts := [], laidByText := true, laidKinds := [.data, .pinned], laidTests := true, laidLooks := .later }
def FnExactBooksValidCardSaid : Prop := Claim7.holds Tryd.pinned (.plain (OpenSpec.ofChange fnExactBooksValidSpec)) fnExactBooksValidCard

/-- THE TIED CARD OF 'laws.FnExactBooksFar'. -/
def fnExactBooksFarCard : Claim7 := { stood := { row := fnExactBooksFarRow, standIns := [], harness := (true, "b7ac37ae154a6d26b5272a4458e2a11af861661630bc0572d0417167beb2ff6f"), looks := false }, kinds := [], alts := [], laidByText := true, laidKinds := [.data, .pinned], laidTests := true, laidLooks := .later }
def FnExactBooksFarCardSaid : Prop := Claim7.holds Tryd.pinned (.plain (OpenSpec.ofChange fnExactBooksFarSpec)) fnExactBooksFarCard

/-- THE TIED CARD OF 'laws.FnExactBooksCommon'. -/
def fnExactBooksCommonCard : Claim7 := { stood := { row := fnExactBooksCommonRow, standIns := [], harness := (true, "b7ac37ae154a6d26b5272a4458e2a11af861661630bc0572d0417167beb2ff6f"), looks := false }, kinds := [], alts := [], laidByText := true, laidKinds := [.data, .pinned], laidTests := true, laidLooks := .later }
def FnExactBooksCommonCardSaid : Prop := Claim7.holds Tryd.pinned (.plain (OpenSpec.ofChange fnExactBooksCommonSpec)) fnExactBooksCommonCard

/-- THE TIED CARD OF 'laws.FnExactStemValid'. -/
def fnExactStemValidCard : Claim7 := { stood := { row := fnExactStemValidRow, standIns := [], harness := (true, "b7ac37ae154a6d26b5272a4458e2a11af861661630bc0572d0417167beb2ff6f"), looks := false }, kinds := [], alts := [], laidByText := true, laidKinds := [.data, .pinned], laidTests := true, laidLooks := .later }
def FnExactStemValidCardSaid : Prop := Claim7.holds Tryd.pinned (.plain (OpenSpec.ofChange fnExactStemValidSpec)) fnExactStemValidCard

/-- THE TIED CARD OF 'laws.FnExactStemChanges'. -/
def fnExactStemChangesCard : Claim7 := { stood := { row := fnExactStemChangesRow, standIns := [], harness := (true, "b7ac37ae154a6d26b5272a4458e2a11af861661630bc0572d0417167beb2ff6f"), looks := false }, kinds := [], alts := [], laidByText := true, laidKinds := [.data, .pinned], laidTests := true, laidLooks := .later }
def FnExactStemChangesCardSaid : Prop := Claim7.holds Tryd.pinned (.plain (OpenSpec.ofChange fnExactStemChangesSpec)) fnExactStemChangesCard

/-- THE TIED CARD OF 'laws.FnExactStemFewest'. -/
def fnExactStemFewestCard : Claim7 := { stood := { row := fnExactStemFewestRow, standIns := [], harness := (true, "b7ac37ae154a6d26b5272a4458e2a11af861661630bc0572d0417167beb2ff6f"), looks := false }, kinds := [], alts := [], laidByText := true, laidKinds := [.data, .pinned], laidTests := true, laidLooks := .later }
def FnExactStemFewestCardSaid : Prop := Claim7.holds Tryd.pinned (.plain (OpenSpec.ofChange fnExactStemFewestSpec)) fnExactStemFewestCard

/-- THE TIED CARD OF 'laws.FnExactStemFill'. -/
def fnExactStemFillCard : Claim7 := { stood := { row := fnExactStemFillRow, standIns := [], harness := (true, "b7ac37ae154a6d26b5272a4458e2a11af861661630bc0572d0417167beb2ff6f"), looks := false }, kinds := [], alts := [], laidByText := true, laidKinds := [.data, .pinned], laidTests := true, laidLooks := .later }
def FnExactStemFillCardSaid : Prop := Claim7.holds Tryd.pinned (.plain (OpenSpec.ofChange fnExactStemFillSpec)) fnExactStemFillCard

/-- THE TIED CARD OF 'laws.FnExactStemMove'. -/
def fnExactStemMoveCard : Claim7 := { stood := { row := fnExactStemMoveRow, standIns := [], harness := (true, "b7ac37ae154a6d26b5272a4458e2a11af861661630bc0572d0417167beb2ff6f"), looks := false }, kinds := [], alts := [], laidByText := true, laidKinds := [.data, .pinned], laidTests := true, laidLooks := .later }
def FnExactStemMoveCardSaid : Prop := Claim7.holds Tryd.pinned (.plain (OpenSpec.ofChange fnExactStemMoveSpec)) fnExactStemMoveCard

/-- THE TIED CARD OF 'laws.FnExactStemBest'. -/
def fnExactStemBestCard : Claim7 := { stood := { row := fnExactStemBestRow, standIns := [], harness := (true, "b7ac37ae154a6d26b5272a4458e2a11af861661630bc0572d0417167beb2ff6f"), looks := false }, kinds := [], alts := [], laidByText := true, laidKinds := [.data, .pinned], laidTests := true, laidLooks := .later }
def FnExactStemBestCardSaid : Prop := Claim7.holds Tryd.pinned (.plain (OpenSpec.ofChange fnExactStemBestSpec)) fnExactStemBestCard

/-- THE TIED CARD OF 'laws.FnExactStemDepth'. -/
def fnExactStemDepthCard : Claim7 := { stood := { row := fnExactStemDepthRow, standIns := [], harness := (true, "b7ac37ae154a6d26b5272a4458e2a11af861661630bc0572d0417167beb2ff6f"), looks := false }, kinds := [], alts := [], laidByText := true, laidKinds := [.data, .pinned], laidTests := true, laidLooks := .later }
def FnExactStemDepthCardSaid : Prop := Claim7.holds Tryd.pinned (.plain (OpenSpec.ofChange fnExactStemDepthSpec)) fnExactStemDepthCard

/-- THE TIED CARD OF 'laws.FnBooksFar'. -/
def fnBooksFarCard : Claim7 := { stood := { row := fnBooksFarRow, standIns := [], harness := (true, "b7ac37ae154a6d26b5272a4458e2a11af861661630bc0572d0417167beb2ff6f"), looks := false }, kinds := [], alts := [], laidByText := true, laidKinds := [.data, .pinned], laidTests := true, laidLooks := .later }
def FnBooksFarCardSaid : Prop := Claim7.holds Tryd.pinned (.plain (OpenSpec.ofChange fnBooksFarSpec)) fnBooksFarCard

/-- THE TIED CARD OF 'laws.FnBooksCommon'. -/
def fnBooksCommonCard : Claim7 := { stood := { row := fnBooksCommonRow, standIns := [], harness := (true, "b7ac37ae154a6d26b5272a4458e2a11af861661630bc0572d0417167beb2ff6f"), looks := false }, kinds := [], alts := [], laidByText := true, laidKinds := [.data, .pinned], laidTests := true, laidLooks := .later }
def FnBooksCommonCardSaid : Prop := Claim7.holds Tryd.pinned (.plain (OpenSpec.ofChange fnBooksCommonSpec)) fnBooksCommonCard

/-- THE SECOND FORM's CARD OF 'laws.FnExactBooksValid'. -/
def fnExactBooksValidUptoCard : Claim7 := { stood := { row := fnExactBooksValidUptoRow, standIns := [], harness := (true, "b7ac37ae154a6d26b5272a4458e2a11af861661630bc0572d0417167beb2ff6f"), looks := false }, kinds := [], alts := [], laidByText := true, laidKinds := [.data, .pinned], laidTests := true, laidLooks := .later }
def FnExactBooksValidUptoCardSaid : Prop := Claim7.holds Tryd.pinned (.plain (OpenSpec.upto fnExactBooksValidSpec)) fnExactBooksValidUptoCard

/-- THE SECOND FORM's CARD OF 'laws.FnExactBooksFar'. -/
def fnExactBooksFarUptoCard : Claim7 := { stood := { row := fnExactBooksFarUptoRow, standIns := [], harness := (true, "b7ac37ae154a6d26b5272a4458e2a11af861661630bc0572d0417167beb2ff6f"), looks := false }, kinds := [], alts := [], laidByText := true, laidKinds := [.data, .pinned], laidTests := true, laidLooks := .later }
def FnExactBooksFarUptoCardSaid : Prop := Claim7.holds Tryd.pinned (.plain (OpenSpec.upto fnExactBooksFarSpec)) fnExactBooksFarUptoCard

/-- THE SECOND FORM's CARD OF 'laws.FnExactBooksCommon'. -/
def fnExactBooksCommonUptoCard : Claim7 := { stood := { row := fnExactBooksCommonUptoRow, standIns := [], harness := (true, "b7ac37ae154a6d26b5272a4458e2a11af861661630bc0572d0417167beb2ff6f"), looks := false }, kinds := [], alts := [], laidByText := true, laidKinds := [.data, .pinned], laidTests := true, laidLooks := .later }
def FnExactBooksCommonUptoCardSaid : Prop := Claim7.holds Tryd.pinned (.plain (OpenSpec.upto fnExactBooksCommonSpec)) fnExactBooksCommonUptoCard

/-- THE SECOND FORM's CARD OF 'laws.FnExactStemValid'. -/
def fnExactStemValidUptoCard : Claim7 := { stood := { row := fnExactStemValidUptoRow, standIns := [], harness := (true, "b7ac37ae154a6d26b5272a4458e2a11af861661630bc0572d0417167beb2ff6f"), looks := false }, kinds := [], alts := [], laidByText := true, laidKinds := [.data, .pinned], laidTests := true, laidLooks := .later }
def FnExactStemValidUptoCardSaid : Prop := Claim7.holds Tryd.pinned (.plain (OpenSpec.upto fnExactStemValidSpec)) fnExactStemValidUptoCard

/-- THE SECOND FORM's CARD OF 'laws.FnExactStemChanges'. -/
def fnExactStemChangesUptoCard : Claim7 := { stood := { row := fnExactStemChangesUptoRow, standIns := [], harness := (true, "b7ac37ae154a6d26b5272a4458e2a11af861661630bc0572d0417167beb2ff6f"), looks := false }, kinds := [], alts := [], laidByText := true, laidKinds := [.data, .pinned], laidTests := true, laidLooks := .later }
def FnExactStemChangesUptoCardSaid : Prop := Claim7.holds Tryd.pinned (.plain (OpenSpec.upto fnExactStemChangesSpec)) fnExactStemChangesUptoCard

/-- THE SECOND FORM's CARD OF 'laws.FnExactStemFewest'. -/
def fnExactStemFewestUptoCard : Claim7 := { stood := { row := fnExactStemFewestUptoRow, standIns := [], harness := (true, "b7ac37ae154a6d26b5272a4458e2a11af861661630bc0572d0417167beb2ff6f"), looks := false }, kinds := [], alts := [], laidByText := true, laidKinds := [.data, .pinned], laidTests := true, laidLooks := .later }
def FnExactStemFewestUptoCardSaid : Prop := Claim7.holds Tryd.pinned (.plain (OpenSpec.upto fnExactStemFewestSpec)) fnExactStemFewestUptoCard

/-- THE SECOND FORM's CARD OF 'laws.FnExactStemFill'. -/
def fnExactStemFillUptoCard : Claim7 := { stood := { row := fnExactStemFillUptoRow, standIns := [], harness := (true, "b7ac37ae154a6d26b5272a4458e2a11af861661630bc0572d0417167beb2ff6f"), looks := false }, kinds := [], alts := [], laidByText := true, laidKinds := [.data, .pinned], laidTests := true, laidLooks := .later }
def FnExactStemFillUptoCardSaid : Prop := Claim7.holds Tryd.pinned (.plain (OpenSpec.upto fnExactStemFillSpec)) fnExactStemFillUptoCard

/-- THE SECOND FORM's CARD OF 'laws.FnExactStemMove'. -/
def fnExactStemMoveUptoCard : Claim7 := { stood := { row := fnExactStemMoveUptoRow, standIns := [], harness := (true, "b7ac37ae154a6d26b5272a4458e2a11af861661630bc0572d0417167beb2ff6f"), looks := false }, kinds := [], alts := [], laidByText := true, laidKinds := [.data, .pinned], laidTests := true, laidLooks := .later }
def FnExactStemMoveUptoCardSaid : Prop := Claim7.holds Tryd.pinned (.plain (OpenSpec.upto fnExactStemMoveSpec)) fnExactStemMoveUptoCard

/-- THE SECOND FORM's CARD OF 'laws.FnExactStemBest'. -/
def fnExactStemBestUptoCard : Claim7 := { stood := { row := fnExactStemBestUptoRow, standIns := [], harness := (true, "b7ac37ae154a6d26b5272a4458e2a11af861661630bc0572d0417167beb2ff6f"), looks := false }, kinds := [], alts := [], laidByText := true, laidKinds := [.data, .pinned], laidTests := true, laidLooks := .later }
def FnExactStemBestUptoCardSaid : Prop := Claim7.holds Tryd.pinned (.plain (OpenSpec.upto fnExactStemBestSpec)) fnExactStemBestUptoCard

/-- THE SECOND FORM's CARD OF 'laws.FnExactStemDepth'. -/
def fnExactStemDepthUptoCard : Claim7 := { stood := { row := fnExactStemDepthUptoRow, standIns := [], harness := (true, "b7ac37ae154a6d26b5272a4458e2a11af861661630bc0572d0417167beb2ff6f"), looks := false }, kinds := [], alts := [], laidByText := true, laidKinds := [.data, .pinned], laidTests := true, laidLooks := .later }
def FnExactStemDepthUptoCardSaid : Prop := Claim7.holds Tryd.pinned (.plain (OpenSpec.upto fnExactStemDepthSpec)) fnExactStemDepthUptoCard

/-- THE SECOND FORM's CARD OF 'laws.FnBooksFar'. -/
def fnBooksFarUptoCard : Claim7 := { stood := { row := fnBooksFarUptoRow, standIns := [], harness := (true, "b7ac37ae154a6d26b5272a4458e2a11af861661630bc0572d0417167beb2ff6f"), looks := false }, kinds := [], alts := [], laidByText := true, laidKinds := [.data, .pinned], laidTests := true, laidLooks := .later }
def FnBooksFarUptoCardSaid : Prop := Claim7.holds Tryd.pinned (.plain (OpenSpec.upto fnBooksFarSpec)) fnBooksFarUptoCard

/-- THE SECOND FORM's CARD OF 'laws.FnBooksCommon'. -/
def fnBooksCommonUptoCard : Claim7 := { stood := { row := fnBooksCommonUptoRow, standIns := [], harness := (true, "b7ac37ae154a6d26b5272a4458e2a11af861661630bc0572d0417167beb2ff6f"), looks := false }, kinds := [], alts := [], laidByText := true, laidKinds := [.data, .pinned], laidTests := true, laidLooks := .later }
def FnBooksCommonUptoCardSaid : Prop := Claim7.holds Tryd.pinned (.plain (OpenSpec.upto fnBooksCommonSpec)) fnBooksCommonUptoCard
end Rows
end Go.Proofs.YthhndlefafcdeaaDoor
