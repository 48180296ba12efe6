/-
  DERIVED. GIVEN WITH THE SEED: THE CARDS: each row of YtjodcaeohkjlnaaDoorRows.lean that lists a variable, with what it lists TIED to the program's text (the seventh form; the later family's looks); each row that meets fmt, with fmt's text TOLD by the authors' own Lean function (tested against real Go, not proved from fmt's source: count such statements apart). THE CARD IS WHAT COUNTS. Prove the row's statement (the work); the ties are given (YtjodcaeohkjlnaaDoorTie.lean); close each card by the builder's one call (the guide's Derived/Test/ToyasCard.lean, 'card_holds'). Laid BY PROGRAM, IN A SANDBOX (cutbox-door.mjs). By AI agents, Wed Nov 11 2026. No macro, syntax, notation, axiom, sorry.
-/
import Derived.Test.YtjodcaeohkjlnaaDoorRows
import GoSem.ClaimSeven
namespace Go.Proofs.YtjodcaeohkjlnaaDoor
namespace Rows

/-- THE TIED CARD OF 'laws.FnToneText'. -/
def fnToneTextCard : Claim7 := { stood := { row := fnToneTextRow, standIns := [], harness := (true, "9634ad2a6bbef72299b803c3ce1d83ca8a8db8cb898eeaa60a46ed4b75316192"), looks := false }, kinds := [], alts := [], laidByText := true, laidKinds := [.data, .data, .data], laidTests := true, laidLooks := .later }
def FnToneTextCardSaid : Prop := Claim7.holds Tryd.pinned (.plain (OpenSpec.ofChange fnToneTextSpec)) fnToneTextCard

/-- THE TIED CARD OF 'laws.FnToneFrom'. -/
def fnToneFromCard : Claim7 := { stood := { row := fnToneFromRow, standIns := [], harness := (true, "9634ad2a6bbef72299b803c3ce1d83ca8a8db8cb898eeaa60a46ed4b75316192"), looks := false }, kinds := [], alts := [], laidByText := true, laidKinds := [.data, .data, .data], laidTests := true, laidLooks := .later }
def FnToneFromCardSaid : Prop := Claim7.holds Tryd.pinned (.plain (OpenSpec.ofChange fnToneFromSpec)) fnToneFromCard

/-- THE TIED CARD OF 'laws.FnInterval'. -/
def fnIntervalCard : Claim7 := { stood := { row := fnIntervalRow, standIns := [], harness := (true, "9634ad2a6bbef72299b803c3ce1d83ca8a8db8cb898eeaa60a46ed4b75316192"), looks := false }, kinds := [], alts := [], laidByText := true, laidKinds := [.data, .data, .data, .data, .data], laidTests := true, laidLooks := .later }
def FnIntervalCardSaid : Prop := Claim7.holds Tryd.pinned (.plain (OpenSpec.ofChange fnIntervalSpec)) fnIntervalCard

/-- THE TIED CARD OF 'laws.FnIntervalSemis'. -/
def fnIntervalSemisCard : Claim7 := { stood := { row := fnIntervalSemisRow, standIns := [], harness := (true, "9634ad2a6bbef72299b803c3ce1d83ca8a8db8cb898eeaa60a46ed4b75316192"), looks := false }, kinds := [], alts := [], laidByText := true, laidKinds := [.data, .data, .data, .data, .data], laidTests := true, laidLooks := .later }
def FnIntervalSemisCardSaid : Prop := Claim7.holds Tryd.pinned (.plain (OpenSpec.ofChange fnIntervalSemisSpec)) fnIntervalSemisCard

/-- THE TIED CARD OF 'laws.FnHexAll'. -/
def fnHexAllCard : Claim7 := { stood := { row := fnHexAllRow, standIns := [], harness := (true, "9634ad2a6bbef72299b803c3ce1d83ca8a8db8cb898eeaa60a46ed4b75316192"), looks := false }, kinds := [], alts := [], laidByText := true, laidKinds := [.data], laidTests := true, laidLooks := .later }
def FnHexAllCardSaid : Prop := Claim7.holds Tryd.pinned (.plain (OpenSpec.ofChange fnHexAllSpec)) fnHexAllCard

/-- THE TIED CARD OF 'laws.FnMelodyMove'. -/
def fnMelodyMoveCard : Claim7 := { stood := { row := fnMelodyMoveRow, standIns := [], harness := (true, "9634ad2a6bbef72299b803c3ce1d83ca8a8db8cb898eeaa60a46ed4b75316192"), looks := false }, kinds := [], alts := [], laidByText := true, laidKinds := [.data], laidTests := true, laidLooks := .later }
def FnMelodyMoveCardSaid : Prop := Claim7.holds Tryd.pinned (.plain (OpenSpec.ofChange fnMelodyMoveSpec)) fnMelodyMoveCard

/-- THE TIED CARD OF 'laws.FnMelodyMoveOctave'. -/
def fnMelodyMoveOctaveCard : Claim7 := { stood := { row := fnMelodyMoveOctaveRow, standIns := [], harness := (true, "9634ad2a6bbef72299b803c3ce1d83ca8a8db8cb898eeaa60a46ed4b75316192"), looks := false }, kinds := [], alts := [], laidByText := true, laidKinds := [.data], laidTests := true, laidLooks := .later }
def FnMelodyMoveOctaveCardSaid : Prop := Claim7.holds Tryd.pinned (.plain (OpenSpec.ofChange fnMelodyMoveOctaveSpec)) fnMelodyMoveOctaveCard

/-- THE TIED CARD OF 'laws.FnMelodyJoin'. -/
def fnMelodyJoinCard : Claim7 := { stood := { row := fnMelodyJoinRow, standIns := [], harness := (true, "9634ad2a6bbef72299b803c3ce1d83ca8a8db8cb898eeaa60a46ed4b75316192"), looks := false }, kinds := [], alts := [], laidByText := true, laidKinds := [.data, .data, .data], laidTests := true, laidLooks := .later }
def FnMelodyJoinCardSaid : Prop := Claim7.holds Tryd.pinned (.plain (OpenSpec.ofChange fnMelodyJoinSpec)) fnMelodyJoinCard

/-- THE TIED CARD OF 'laws.FnMelodyText'. -/
def fnMelodyTextCard : Claim7 := { stood := { row := fnMelodyTextRow, standIns := [], harness := (true, "9634ad2a6bbef72299b803c3ce1d83ca8a8db8cb898eeaa60a46ed4b75316192"), looks := false }, kinds := [], alts := [], laidByText := true, laidKinds := [.data, .data, .data, .data, .pinned], laidTests := true, laidLooks := .later }
def FnMelodyTextCardSaid : Prop := Claim7.holds Tryd.pinned (.plain (OpenSpec.ofChange fnMelodyTextSpec)) fnMelodyTextCard

/-- THE TIED CARD OF 'laws.FnMelodyFrom'. -/
def fnMelodyFromCard : Claim7 := { stood := { row := fnMelodyFromRow, standIns := [], harness := (true, "9634ad2a6bbef72299b803c3ce1d83ca8a8db8cb898eeaa60a46ed4b75316192"), looks := false }, kinds := [], alts := [], laidByText := true, laidKinds := [.data, .data, .data, .data, .pinned], laidTests := true, laidLooks := .later }
def FnMelodyFromCardSaid : Prop := Claim7.holds Tryd.pinned (.plain (OpenSpec.ofChange fnMelodyFromSpec)) fnMelodyFromCard

/-- THE TIED CARD OF 'laws.FnMelodySame'. -/
def fnMelodySameCard : Claim7 := { stood := { row := fnMelodySameRow, standIns := [], harness := (true, "9634ad2a6bbef72299b803c3ce1d83ca8a8db8cb898eeaa60a46ed4b75316192"), looks := false }, kinds := [], alts := [], laidByText := true, laidKinds := [.data], laidTests := true, laidLooks := .later }
def FnMelodySameCardSaid : Prop := Claim7.holds Tryd.pinned (.plain (OpenSpec.ofChange fnMelodySameSpec)) fnMelodySameCard

/-- THE TIED CARD OF 'laws.FnSing'. -/
def fnSingCard : Claim7 := { stood := { row := fnSingRow, standIns := [], harness := (true, "9634ad2a6bbef72299b803c3ce1d83ca8a8db8cb898eeaa60a46ed4b75316192"), looks := false }, kinds := [], alts := [], laidByText := true, laidKinds := [.data], laidTests := true, laidLooks := .later }
def FnSingCardSaid : Prop := Claim7.holds Tryd.pinned (.plain (OpenSpec.ofChange fnSingSpec)) fnSingCard

/-- THE TIED CARD OF 'laws.FnExactToneInterval'. -/
def fnExactToneIntervalCard : Claim7 := { stood := { row := fnExactToneIntervalRow, standIns := [], harness := (true, "9634ad2a6bbef72299b803c3ce1d83ca8a8db8cb898eeaa60a46ed4b75316192"), looks := false }, kinds := [], alts := [], laidByText := true, laidKinds := [.data, .data, .data, .data, .data], laidTests := true, laidLooks := .later }
def FnExactToneIntervalCardSaid : Prop := Claim7.holds Tryd.pinned (.plain (OpenSpec.ofChange fnExactToneIntervalSpec)) fnExactToneIntervalCard

/-- THE TIED CARD OF 'laws.FnExactToneNames'. -/
def fnExactToneNamesCard : Claim7 := { stood := { row := fnExactToneNamesRow, standIns := [], harness := (true, "9634ad2a6bbef72299b803c3ce1d83ca8a8db8cb898eeaa60a46ed4b75316192"), looks := false }, kinds := [], alts := [], laidByText := true, laidKinds := [.data], laidTests := true, laidLooks := .later }
def FnExactToneNamesCardSaid : Prop := Claim7.holds Tryd.pinned (.plain (OpenSpec.ofChange fnExactToneNamesSpec)) fnExactToneNamesCard

/-- THE TIED CARD OF 'laws.FnExactMelodyMove'. -/
def fnExactMelodyMoveCard : Claim7 := { stood := { row := fnExactMelodyMoveRow, standIns := [], harness := (true, "9634ad2a6bbef72299b803c3ce1d83ca8a8db8cb898eeaa60a46ed4b75316192"), looks := false }, kinds := [], alts := [], laidByText := true, laidKinds := [.data], laidTests := true, laidLooks := .later }
def FnExactMelodyMoveCardSaid : Prop := Claim7.holds Tryd.pinned (.plain (OpenSpec.ofChange fnExactMelodyMoveSpec)) fnExactMelodyMoveCard

/-- THE TIED CARD OF 'laws.FnExactMelodyFrom'. -/
def fnExactMelodyFromCard : Claim7 := { stood := { row := fnExactMelodyFromRow, standIns := [], harness := (true, "9634ad2a6bbef72299b803c3ce1d83ca8a8db8cb898eeaa60a46ed4b75316192"), looks := false }, kinds := [], alts := [], laidByText := true, laidKinds := [.data, .pinned], laidTests := true, laidLooks := .later }
def FnExactMelodyFromCardSaid : Prop := Claim7.holds Tryd.pinned (.plain (OpenSpec.ofChange fnExactMelodyFromSpec)) fnExactMelodyFromCard

/-- THE TIED CARD OF 'laws.FnExactSingText'. -/
def fnExactSingTextCard : Claim7 := { stood := { row := fnExactSingTextRow, standIns := [], harness := (true, "9634ad2a6bbef72299b803c3ce1d83ca8a8db8cb898eeaa60a46ed4b75316192"), looks := false }, kinds := [], alts := [], laidByText := true, laidKinds := [.data], laidTests := true, laidLooks := .later }
def FnExactSingTextCardSaid : Prop := Claim7.holds Tryd.pinned (.plain (OpenSpec.ofChange fnExactSingTextSpec)) fnExactSingTextCard

/-- THE SECOND FORM's CARD OF 'laws.FnToneText'. -/
def fnToneTextUptoCard : Claim7 := { stood := { row := fnToneTextUptoRow, standIns := [], harness := (true, "9634ad2a6bbef72299b803c3ce1d83ca8a8db8cb898eeaa60a46ed4b75316192"), looks := false }, kinds := [], alts := [], laidByText := true, laidKinds := [.data, .data, .data], laidTests := true, laidLooks := .later }
def FnToneTextUptoCardSaid : Prop := Claim7.holds Tryd.pinned (.plain (OpenSpec.upto fnToneTextSpec)) fnToneTextUptoCard

/-- THE SECOND FORM's CARD OF 'laws.FnToneFrom'. -/
def fnToneFromUptoCard : Claim7 := { stood := { row := fnToneFromUptoRow, standIns := [], harness := (true, "9634ad2a6bbef72299b803c3ce1d83ca8a8db8cb898eeaa60a46ed4b75316192"), looks := false }, kinds := [], alts := [], laidByText := true, laidKinds := [.data, .data, .data], laidTests := true, laidLooks := .later }
def FnToneFromUptoCardSaid : Prop := Claim7.holds Tryd.pinned (.plain (OpenSpec.upto fnToneFromSpec)) fnToneFromUptoCard

/-- THE SECOND FORM's CARD OF 'laws.FnInterval'. -/
def fnIntervalUptoCard : Claim7 := { stood := { row := fnIntervalUptoRow, standIns := [], harness := (true, "9634ad2a6bbef72299b803c3ce1d83ca8a8db8cb898eeaa60a46ed4b75316192"), looks := false }, kinds := [], alts := [], laidByText := true, laidKinds := [.data, .data, .data, .data, .data], laidTests := true, laidLooks := .later }
def FnIntervalUptoCardSaid : Prop := Claim7.holds Tryd.pinned (.plain (OpenSpec.upto fnIntervalSpec)) fnIntervalUptoCard

/-- THE SECOND FORM's CARD OF 'laws.FnIntervalSemis'. -/
def fnIntervalSemisUptoCard : Claim7 := { stood := { row := fnIntervalSemisUptoRow, standIns := [], harness := (true, "9634ad2a6bbef72299b803c3ce1d83ca8a8db8cb898eeaa60a46ed4b75316192"), looks := false }, kinds := [], alts := [], laidByText := true, laidKinds := [.data, .data, .data, .data, .data], laidTests := true, laidLooks := .later }
def FnIntervalSemisUptoCardSaid : Prop := Claim7.holds Tryd.pinned (.plain (OpenSpec.upto fnIntervalSemisSpec)) fnIntervalSemisUptoCard

/-- THE SECOND FORM's CARD OF 'laws.FnHexAll'. -/
def fnHexAllUptoCard : Claim7 := { stood := { row := fnHexAllUptoRow, standIns := [], harness := (true, "9634ad2a6bbef72299b803c3ce1d83ca8a8db8cb898eeaa60a46ed4b75316192"), looks := false }, kinds := [], alts := [], laidByText := true, laidKinds := [.data], laidTests := true, laidLooks := .later }
def FnHexAllUptoCardSaid : Prop := Claim7.holds Tryd.pinned (.plain (OpenSpec.upto fnHexAllSpec)) fnHexAllUptoCard

/-- THE SECOND FORM's CARD OF 'laws.FnMelodyMove'. -/
def fnMelodyMoveUptoCard : Claim7 := { stood := { row := fnMelodyMoveUptoRow, standIns := [], harness := (true, "9634ad2a6bbef72299b803c3ce1d83ca8a8db8cb898eeaa60a46ed4b75316192"), looks := false }, kinds := [], alts := [], laidByText := true, laidKinds := [.data], laidTests := true, laidLooks := .later }
def FnMelodyMoveUptoCardSaid : Prop := Claim7.holds Tryd.pinned (.plain (OpenSpec.upto fnMelodyMoveSpec)) fnMelodyMoveUptoCard

/-- THE SECOND FORM's CARD OF 'laws.FnMelodyMoveOctave'. -/
def fnMelodyMoveOctaveUptoCard : Claim7 := { stood := { row := fnMelodyMoveOctaveUptoRow, standIns := [], harness := (true, "9634ad2a6bbef72299b803c3ce1d83ca8a8db8cb898eeaa60a46ed4b75316192"), looks := false }, kinds := [], alts := [], laidByText := true, laidKinds := [.data], laidTests := true, laidLooks := .later }
def FnMelodyMoveOctaveUptoCardSaid : Prop := Claim7.holds Tryd.pinned (.plain (OpenSpec.upto fnMelodyMoveOctaveSpec)) fnMelodyMoveOctaveUptoCard

/-- THE SECOND FORM's CARD OF 'laws.FnMelodyJoin'. -/
def fnMelodyJoinUptoCard : Claim7 := { stood := { row := fnMelodyJoinUptoRow, standIns := [], harness := (true, "9634ad2a6bbef72299b803c3ce1d83ca8a8db8cb898eeaa60a46ed4b75316192"), looks := false }, kinds := [], alts := [], laidByText := true, laidKinds := [.data, .data, .data], laidTests := true, laidLooks := .later }
def FnMelodyJoinUptoCardSaid : Prop := Claim7.holds Tryd.pinned (.plain (OpenSpec.upto fnMelodyJoinSpec)) fnMelodyJoinUptoCard

/-- THE SECOND FORM's CARD OF 'laws.FnMelodyText'. -/
def fnMelodyTextUptoCard : Claim7 := { stood := { row := fnMelodyTextUptoRow, standIns := [], harness := (true, "9634ad2a6bbef72299b803c3ce1d83ca8a8db8cb898eeaa60a46ed4b75316192"), looks := false }, kinds := [], alts := [], laidByText := true, laidKinds := [.data, .data, .data, .data, .pinned], laidTests := true, laidLooks := .later }
def FnMelodyTextUptoCardSaid : Prop := Claim7.holds Tryd.pinned (.plain (OpenSpec.upto fnMelodyTextSpec)) fnMelodyTextUptoCard

/-- THE SECOND FORM's CARD OF 'laws.FnMelodyFrom'. -/
def fnMelodyFromUptoCard : Claim7 := { stood := { row := fnMelodyFromUptoRow, standIns := [], harness := (true, "9634ad2a6bbef72299b803c3ce1d83ca8a8db8cb898eeaa60a46ed4b75316192"), looks := false }, kinds := [], alts := [], laidByText := true, laidKinds := [.data, .data, .data, .data, .pinned], laidTests := true, laidLooks := .later }
def FnMelodyFromUptoCardSaid : Prop := Claim7.holds Tryd.pinned (.plain (OpenSpec.upto fnMelodyFromSpec)) fnMelodyFromUptoCard

/-- THE SECOND FORM's CARD OF 'laws.FnMelodySame'. -/
def fnMelodySameUptoCard : Claim7 := { stood := { row := fnMelodySameUptoRow, standIns := [], harness := (true, "9634ad2a6bbef72299b803c3ce1d83ca8a8db8cb898eeaa60a46ed4b75316192"), looks := false }, kinds := [], alts := [], laidByText := true, laidKinds := [.data], laidTests := true, laidLooks := .later }
def FnMelodySameUptoCardSaid : Prop := Claim7.holds Tryd.pinned (.plain (OpenSpec.upto fnMelodySameSpec)) fnMelodySameUptoCard

/-- THE SECOND FORM's CARD OF 'laws.FnSing'. -/
def fnSingUptoCard : Claim7 := { stood := { row := fnSingUptoRow, standIns := [], harness := (true, "9634ad2a6bbef72299b803c3ce1d83ca8a8db8cb898eeaa60a46ed4b75316192"), looks := false }, kinds := [], alts := [], laidByText := true, laidKinds := [.data], laidTests := true, laidLooks := .later }
def FnSingUptoCardSaid : Prop := Claim7.holds Tryd.pinned (.plain (OpenSpec.upto fnSingSpec)) fnSingUptoCard

/-- THE SECOND FORM's CARD OF 'laws.FnExactToneInterval'. -/
def fnExactToneIntervalUptoCard : Claim7 := { stood := { row := fnExactToneIntervalUptoRow, standIns := [], harness := (true, "9634ad2a6bbef72299b803c3ce1d83ca8a8db8cb898eeaa60a46ed4b75316192"), looks := false }, kinds := [], alts := [], laidByText := true, laidKinds := [.data, .data, .data, .data, .data], laidTests := true, laidLooks := .later }
def FnExactToneIntervalUptoCardSaid : Prop := Claim7.holds Tryd.pinned (.plain (OpenSpec.upto fnExactToneIntervalSpec)) fnExactToneIntervalUptoCard

/-- THE SECOND FORM's CARD OF 'laws.FnExactToneNames'. -/
def fnExactToneNamesUptoCard : Claim7 := { stood := { row := fnExactToneNamesUptoRow, standIns := [], harness := (true, "9634ad2a6bbef72299b803c3ce1d83ca8a8db8cb898eeaa60a46ed4b75316192"), looks := false }, kinds := [], alts := [], laidByText := true, laidKinds := [.data], laidTests := true, laidLooks := .later }
def FnExactToneNamesUptoCardSaid : Prop := Claim7.holds Tryd.pinned (.plain (OpenSpec.upto fnExactToneNamesSpec)) fnExactToneNamesUptoCard

/-- THE SECOND FORM's CARD OF 'laws.FnExactMelodyMove'. -/
def fnExactMelodyMoveUptoCard : Claim7 := { stood := { row := fnExactMelodyMoveUptoRow, standIns := [], harness := (true, "9634ad2a6bbef72299b803c3ce1d83ca8a8db8cb898eeaa60a46ed4b75316192"), looks := false }, kinds := [], alts := [], laidByText := true, laidKinds := [.data], laidTests := true, laidLooks := .later }
def FnExactMelodyMoveUptoCardSaid : Prop := Claim7.holds Tryd.pinned (.plain (OpenSpec.upto fnExactMelodyMoveSpec)) fnExactMelodyMoveUptoCard

/-- THE SECOND FORM's CARD OF 'laws.FnExactMelodyFrom'. -/
def fnExactMelodyFromUptoCard : Claim7 := { stood := { row := fnExactMelodyFromUptoRow, standIns := [], harness := (true, "9634ad2a6bbef72299b803c3ce1d83ca8a8db8cb898eeaa60a46ed4b75316192"), looks := false }, kinds := [], alts := [], laidByText := true, laidKinds := [.data, .pinned], laidTests := true, laidLooks := .later }
def FnExactMelodyFromUptoCardSaid : Prop := Claim7.holds Tryd.pinned (.plain (OpenSpec.upto fnExactMelodyFromSpec)) fnExactMelodyFromUptoCard

/-- THE SECOND FORM's CARD OF 'laws.FnExactSingText'. -/
def fnExactSingTextUptoCard : Claim7 := { stood := { row := fnExactSingTextUptoRow, standIns := [], harness := (true, "9634ad2a6bbef72299b803c3ce1d83ca8a8db8cb898eeaa60a46ed4b75316192"), looks := false }, kinds := [], alts := [], laidByText := true, laidKinds := [.data], laidTests := true, laidLooks := .later }
def FnExactSingTextUptoCardSaid : Prop := Claim7.holds Tryd.pinned (.plain (OpenSpec.upto fnExactSingTextSpec)) fnExactSingTextUptoCard
end Rows
end Go.Proofs.YtjodcaeohkjlnaaDoor
