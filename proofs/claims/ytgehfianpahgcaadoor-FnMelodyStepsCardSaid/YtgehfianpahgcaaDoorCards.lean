/-
  DERIVED. GIVEN WITH THE SEED: THE CARDS: each row of YtgehfianpahgcaaDoorRows.lean that lists a variable, with what it lists TIED to the program's text (the seventh form; the later family's looks); each row that meets fmt, with fmt's text TOLD by the authors' own Lean function (tested against real Go, not proved from fmt's source: count such statements apart). THE CARD IS WHAT COUNTS. Prove the row's statement (the work); the ties are given (YtgehfianpahgcaaDoorTie.lean); close each card by the builder's one call (the guide's Derived/Test/ToyasCard.lean, 'card_holds'). Laid BY PROGRAM, IN A SANDBOX (cutbox-door.mjs). By AI agents, Wed Nov 11 2026. No macro, syntax, notation, axiom, sorry.
-/
import Derived.Test.YtgehfianpahgcaaDoorRows
import GoSem.ClaimSeven
namespace Go.Proofs.YtgehfianpahgcaaDoor
namespace Rows

/-- THE TIED CARD OF 'laws.FnToneText'. -/
def fnToneTextCard : Claim7 := { stood := { row := fnToneTextRow, standIns := [], harness := (true, "6fa39f220e1f25d549a5a7d4973466a4272a60e5478ed7a9f7672264fb8bcdd0"), looks := false }, kinds := [], alts := [], laidByText := true, laidKinds := [.data, .data, .data], laidTests := true, laidLooks := .later }
def FnToneTextCardSaid : Prop := Claim7.holds Tryd.pinned (.plain (OpenSpec.ofChange fnToneTextSpec)) fnToneTextCard

/-- THE TIED CARD OF 'laws.FnToneFrom'. -/
def fnToneFromCard : Claim7 := { stood := { row := fnToneFromRow, standIns := [], harness := (true, "6fa39f220e1f25d549a5a7d4973466a4272a60e5478ed7a9f7672264fb8bcdd0"), looks := false }, kinds := [], alts := [], laidByText := true, laidKinds := [.data, .data, .data], laidTests := true, laidLooks := .later }
def FnToneFromCardSaid : Prop := Claim7.holds Tryd.pinned (.plain (OpenSpec.ofChange fnToneFromSpec)) fnToneFromCard

/-- THE TIED CARD OF 'laws.FnInterval'. -/
def fnIntervalCard : Claim7 := { stood := { row := fnIntervalRow, standIns := [], harness := (true, "6fa39f220e1f25d549a5a7d4973466a4272a60e5478ed7a9f7672264fb8bcdd0"), looks := false }, kinds := [], alts := [], laidByText := true, laidKinds := [.data, .data, .data, .data, .data], laidTests := true, laidLooks := .later }
def FnIntervalCardSaid : Prop := Claim7.holds Tryd.pinned (.plain (OpenSpec.ofChange fnIntervalSpec)) fnIntervalCard

/-- THE TIED CARD OF 'laws.FnIntervalSemis'. -/
def fnIntervalSemisCard : Claim7 := { stood := { row := fnIntervalSemisRow, standIns := [], harness := (true, "6fa39f220e1f25d549a5a7d4973466a4272a60e5478ed7a9f7672264fb8bcdd0"), looks := false }, kinds := [], alts := [], laidByText := true, laidKinds := [.data, .data, .data, .data, .data], laidTests := true, laidLooks := .later }
def FnIntervalSemisCardSaid : Prop := Claim7.holds Tryd.pinned (.plain (OpenSpec.ofChange fnIntervalSemisSpec)) fnIntervalSemisCard

/-- THE TIED CARD OF 'laws.FnHexAll'. -/
def fnHexAllCard : Claim7 := { stood := { row := fnHexAllRow, standIns := [], harness := (true, "6fa39f220e1f25d549a5a7d4973466a4272a60e5478ed7a9f7672264fb8bcdd0"), looks := false }, kinds := [], alts := [], laidByText := true, laidKinds := [.data], laidTests := true, laidLooks := .later }
def FnHexAllCardSaid : Prop := Claim7.holds Tryd.pinned (.plain (OpenSpec.ofChange fnHexAllSpec)) fnHexAllCard

/-- THE TIED CARD OF 'laws.FnHexSyllable'. -/
def fnHexSyllableCard : Claim7 := { stood := { row := fnHexSyllableRow, standIns := [], harness := (true, "6fa39f220e1f25d549a5a7d4973466a4272a60e5478ed7a9f7672264fb8bcdd0"), looks := false }, kinds := [], alts := [], laidByText := true, laidKinds := [.data], laidTests := true, laidLooks := .later }
def FnHexSyllableCardSaid : Prop := Claim7.holds Tryd.pinned (.plain (OpenSpec.ofChange fnHexSyllableSpec)) fnHexSyllableCard

/-- THE TIED CARD OF 'laws.FnExactToneText'. -/
def fnExactToneTextCard : Claim7 := { stood := { row := fnExactToneTextRow, standIns := [], harness := (true, "6fa39f220e1f25d549a5a7d4973466a4272a60e5478ed7a9f7672264fb8bcdd0"), looks := false }, kinds := [], alts := [], laidByText := true, laidKinds := [.data, .data, .data], laidTests := true, laidLooks := .later }
def FnExactToneTextCardSaid : Prop := Claim7.holds Tryd.pinned (.plain (OpenSpec.ofChange fnExactToneTextSpec)) fnExactToneTextCard

/-- THE TIED CARD OF 'laws.FnExactToneInterval'. -/
def fnExactToneIntervalCard : Claim7 := { stood := { row := fnExactToneIntervalRow, standIns := [], harness := (true, "6fa39f220e1f25d549a5a7d4973466a4272a60e5478ed7a9f7672264fb8bcdd0"), looks := false }, kinds := [], alts := [], laidByText := true, laidKinds := [.data, .data, .data, .data, .data], laidTests := true, laidLooks := .later }
def FnExactToneIntervalCardSaid : Prop := Claim7.holds Tryd.pinned (.plain (OpenSpec.ofChange fnExactToneIntervalSpec)) fnExactToneIntervalCard

/-- THE TIED CARD OF 'laws.FnExactToneNames'. -/
def fnExactToneNamesCard : Claim7 := { stood := { row := fnExactToneNamesRow, standIns := [], harness := (true, "6fa39f220e1f25d549a5a7d4973466a4272a60e5478ed7a9f7672264fb8bcdd0"), looks := false }, kinds := [], alts := [], laidByText := true, laidKinds := [.data], laidTests := true, laidLooks := .later }
def FnExactToneNamesCardSaid : Prop := Claim7.holds Tryd.pinned (.plain (OpenSpec.ofChange fnExactToneNamesSpec)) fnExactToneNamesCard

/-- THE TIED CARD OF 'laws.FnMelodySteps'. -/
def fnMelodyStepsCard : Claim7 := { stood := { row := fnMelodyStepsRow, standIns := [], harness := (true, "6fa39f220e1f25d549a5a7d4973466a4272a60e5478ed7a9f7672264fb8bcdd0"), looks := false }, kinds := [], alts := [], laidByText := true, laidKinds := [.data], laidTests := true, laidLooks := .later }
def FnMelodyStepsCardSaid : Prop := Claim7.holds Tryd.pinned (.plain (OpenSpec.ofChange fnMelodyStepsSpec)) fnMelodyStepsCard

/-- THE TIED CARD OF 'laws.FnMelodyBack'. -/
def fnMelodyBackCard : Claim7 := { stood := { row := fnMelodyBackRow, standIns := [], harness := (true, "6fa39f220e1f25d549a5a7d4973466a4272a60e5478ed7a9f7672264fb8bcdd0"), looks := false }, kinds := [], alts := [], laidByText := true, laidKinds := [.data], laidTests := true, laidLooks := .later }
def FnMelodyBackCardSaid : Prop := Claim7.holds Tryd.pinned (.plain (OpenSpec.ofChange fnMelodyBackSpec)) fnMelodyBackCard

/-- THE TIED CARD OF 'laws.FnMelodyJoin'. -/
def fnMelodyJoinCard : Claim7 := { stood := { row := fnMelodyJoinRow, standIns := [], harness := (true, "6fa39f220e1f25d549a5a7d4973466a4272a60e5478ed7a9f7672264fb8bcdd0"), looks := false }, kinds := [], alts := [], laidByText := true, laidKinds := [.data, .data, .data], laidTests := true, laidLooks := .later }
def FnMelodyJoinCardSaid : Prop := Claim7.holds Tryd.pinned (.plain (OpenSpec.ofChange fnMelodyJoinSpec)) fnMelodyJoinCard

/-- THE TIED CARD OF 'laws.FnMelodyText'. -/
def fnMelodyTextCard : Claim7 := { stood := { row := fnMelodyTextRow, standIns := [], harness := (true, "6fa39f220e1f25d549a5a7d4973466a4272a60e5478ed7a9f7672264fb8bcdd0"), looks := false }, kinds := [], alts := [], laidByText := true, laidKinds := [.data, .data, .data, .data, .pinned], laidTests := true, laidLooks := .later }
def FnMelodyTextCardSaid : Prop := Claim7.holds Tryd.pinned (.plain (OpenSpec.ofChange fnMelodyTextSpec)) fnMelodyTextCard

/-- THE TIED CARD OF 'laws.FnMelodyFrom'. -/
def fnMelodyFromCard : Claim7 := { stood := { row := fnMelodyFromRow, standIns := [], harness := (true, "6fa39f220e1f25d549a5a7d4973466a4272a60e5478ed7a9f7672264fb8bcdd0"), looks := false }, kinds := [], alts := [], laidByText := true, laidKinds := [.data, .data, .data, .data, .pinned], laidTests := true, laidLooks := .later }
def FnMelodyFromCardSaid : Prop := Claim7.holds Tryd.pinned (.plain (OpenSpec.ofChange fnMelodyFromSpec)) fnMelodyFromCard

/-- THE SECOND FORM's CARD OF 'laws.FnToneText'. -/
def fnToneTextUptoCard : Claim7 := { stood := { row := fnToneTextUptoRow, standIns := [], harness := (true, "6fa39f220e1f25d549a5a7d4973466a4272a60e5478ed7a9f7672264fb8bcdd0"), looks := false }, kinds := [], alts := [], laidByText := true, laidKinds := [.data, .data, .data], laidTests := true, laidLooks := .later }
def FnToneTextUptoCardSaid : Prop := Claim7.holds Tryd.pinned (.plain (OpenSpec.upto fnToneTextSpec)) fnToneTextUptoCard

/-- THE SECOND FORM's CARD OF 'laws.FnToneFrom'. -/
def fnToneFromUptoCard : Claim7 := { stood := { row := fnToneFromUptoRow, standIns := [], harness := (true, "6fa39f220e1f25d549a5a7d4973466a4272a60e5478ed7a9f7672264fb8bcdd0"), looks := false }, kinds := [], alts := [], laidByText := true, laidKinds := [.data, .data, .data], laidTests := true, laidLooks := .later }
def FnToneFromUptoCardSaid : Prop := Claim7.holds Tryd.pinned (.plain (OpenSpec.upto fnToneFromSpec)) fnToneFromUptoCard

/-- THE SECOND FORM's CARD OF 'laws.FnInterval'. -/
def fnIntervalUptoCard : Claim7 := { stood := { row := fnIntervalUptoRow, standIns := [], harness := (true, "6fa39f220e1f25d549a5a7d4973466a4272a60e5478ed7a9f7672264fb8bcdd0"), looks := false }, kinds := [], alts := [], laidByText := true, laidKinds := [.data, .data, .data, .data, .data], laidTests := true, laidLooks := .later }
def FnIntervalUptoCardSaid : Prop := Claim7.holds Tryd.pinned (.plain (OpenSpec.upto fnIntervalSpec)) fnIntervalUptoCard

/-- THE SECOND FORM's CARD OF 'laws.FnIntervalSemis'. -/
def fnIntervalSemisUptoCard : Claim7 := { stood := { row := fnIntervalSemisUptoRow, standIns := [], harness := (true, "6fa39f220e1f25d549a5a7d4973466a4272a60e5478ed7a9f7672264fb8bcdd0"), looks := false }, kinds := [], alts := [], laidByText := true, laidKinds := [.data, .data, .data, .data, .data], laidTests := true, laidLooks := .later }
def FnIntervalSemisUptoCardSaid : Prop := Claim7.holds Tryd.pinned (.plain (OpenSpec.upto fnIntervalSemisSpec)) fnIntervalSemisUptoCard

/-- THE SECOND FORM's CARD OF 'laws.FnHexAll'. -/
def fnHexAllUptoCard : Claim7 := { stood := { row := fnHexAllUptoRow, standIns := [], harness := (true, "6fa39f220e1f25d549a5a7d4973466a4272a60e5478ed7a9f7672264fb8bcdd0"), looks := false }, kinds := [], alts := [], laidByText := true, laidKinds := [.data], laidTests := true, laidLooks := .later }
def FnHexAllUptoCardSaid : Prop := Claim7.holds Tryd.pinned (.plain (OpenSpec.upto fnHexAllSpec)) fnHexAllUptoCard

/-- THE SECOND FORM's CARD OF 'laws.FnHexSyllable'. -/
def fnHexSyllableUptoCard : Claim7 := { stood := { row := fnHexSyllableUptoRow, standIns := [], harness := (true, "6fa39f220e1f25d549a5a7d4973466a4272a60e5478ed7a9f7672264fb8bcdd0"), looks := false }, kinds := [], alts := [], laidByText := true, laidKinds := [.data], laidTests := true, laidLooks := .later }
def FnHexSyllableUptoCardSaid : Prop := Claim7.holds Tryd.pinned (.plain (OpenSpec.upto fnHexSyllableSpec)) fnHexSyllableUptoCard

/-- THE SECOND FORM's CARD OF 'laws.FnExactToneText'. -/
def fnExactToneTextUptoCard : Claim7 := { stood := { row := fnExactToneTextUptoRow, standIns := [], harness := (true, "6fa39f220e1f25d549a5a7d4973466a4272a60e5478ed7a9f7672264fb8bcdd0"), looks := false }, kinds := [], alts := [], laidByText := true, laidKinds := [.data, .data, .data], laidTests := true, laidLooks := .later }
def FnExactToneTextUptoCardSaid : Prop := Claim7.holds Tryd.pinned (.plain (OpenSpec.upto fnExactToneTextSpec)) fnExactToneTextUptoCard

/-- THE SECOND FORM's CARD OF 'laws.FnExactToneInterval'. -/
def fnExactToneIntervalUptoCard : Claim7 := { stood := { row := fnExactToneIntervalUptoRow, standIns := [], harness := (true, "6fa39f220e1f25d549a5a7d4973466a4272a60e5478ed7a9f7672264fb8bcdd0"), looks := false }, kinds := [], alts := [], laidByText := true, laidKinds := [.data, .data, .data, .data, .data], laidTests := true, laidLooks := .later }
def FnExactToneIntervalUptoCardSaid : Prop := Claim7.holds Tryd.pinned (.plain (OpenSpec.upto fnExactToneIntervalSpec)) fnExactToneIntervalUptoCard

/-- THE SECOND FORM's CARD OF 'laws.FnExactToneNames'. -/
def fnExactToneNamesUptoCard : Claim7 := { stood := { row := fnExactToneNamesUptoRow, standIns := [], harness := (true, "6fa39f220e1f25d549a5a7d4973466a4272a60e5478ed7a9f7672264fb8bcdd0"), looks := false }, kinds := [], alts := [], laidByText := true, laidKinds := [.data], laidTests := true, laidLooks := .later }
def FnExactToneNamesUptoCardSaid : Prop := Claim7.holds Tryd.pinned (.plain (OpenSpec.upto fnExactToneNamesSpec)) fnExactToneNamesUptoCard

/-- THE SECOND FORM's CARD OF 'laws.FnMelodySteps'. -/
def fnMelodyStepsUptoCard : Claim7 := { stood := { row := fnMelodyStepsUptoRow, standIns := [], harness := (true, "6fa39f220e1f25d549a5a7d4973466a4272a60e5478ed7a9f7672264fb8bcdd0"), looks := false }, kinds := [], alts := [], laidByText := true, laidKinds := [.data], laidTests := true, laidLooks := .later }
def FnMelodyStepsUptoCardSaid : Prop := Claim7.holds Tryd.pinned (.plain (OpenSpec.upto fnMelodyStepsSpec)) fnMelodyStepsUptoCard

/-- THE SECOND FORM's CARD OF 'laws.FnMelodyBack'. -/
def fnMelodyBackUptoCard : Claim7 := { stood := { row := fnMelodyBackUptoRow, standIns := [], harness := (true, "6fa39f220e1f25d549a5a7d4973466a4272a60e5478ed7a9f7672264fb8bcdd0"), looks := false }, kinds := [], alts := [], laidByText := true, laidKinds := [.data], laidTests := true, laidLooks := .later }
def FnMelodyBackUptoCardSaid : Prop := Claim7.holds Tryd.pinned (.plain (OpenSpec.upto fnMelodyBackSpec)) fnMelodyBackUptoCard

/-- THE SECOND FORM's CARD OF 'laws.FnMelodyJoin'. -/
def fnMelodyJoinUptoCard : Claim7 := { stood := { row := fnMelodyJoinUptoRow, standIns := [], harness := (true, "6fa39f220e1f25d549a5a7d4973466a4272a60e5478ed7a9f7672264fb8bcdd0"), looks := false }, kinds := [], alts := [], laidByText := true, laidKinds := [.data, .data, .data], laidTests := true, laidLooks := .later }
def FnMelodyJoinUptoCardSaid : Prop := Claim7.holds Tryd.pinned (.plain (OpenSpec.upto fnMelodyJoinSpec)) fnMelodyJoinUptoCard

/-- THE SECOND FORM's CARD OF 'laws.FnMelodyText'. -/
def fnMelodyTextUptoCard : Claim7 := { stood := { row := fnMelodyTextUptoRow, standIns := [], harness := (true, "6fa39f220e1f25d549a5a7d4973466a4272a60e5478ed7a9f7672264fb8bcdd0"), looks := false }, kinds := [], alts := [], laidByText := true, laidKinds := [.data, .data, .data, .data, .pinned], laidTests := true, laidLooks := .later }
def FnMelodyTextUptoCardSaid : Prop := Claim7.holds Tryd.pinned (.plain (OpenSpec.upto fnMelodyTextSpec)) fnMelodyTextUptoCard

/-- THE SECOND FORM's CARD OF 'laws.FnMelodyFrom'. -/
def fnMelodyFromUptoCard : Claim7 := { stood := { row := fnMelodyFromUptoRow, standIns := [], harness := (true, "6fa39f220e1f25d549a5a7d4973466a4272a60e5478ed7a9f7672264fb8bcdd0"), looks := false }, kinds := [], alts := [], laidByText := true, laidKinds := [.data, .data, .data, .data, .pinned], laidTests := true, laidLooks := .later }
def FnMelodyFromUptoCardSaid : Prop := Claim7.holds Tryd.pinned (.plain (OpenSpec.upto fnMelodyFromSpec)) fnMelodyFromUptoCard
end Rows
end Go.Proofs.YtgehfianpahgcaaDoor
