/-
  DERIVED. GIVEN WITH THE SEED: THE CARDS: each row of YtjpkmcappefolaaDoorRows.lean that lists a variable, with what it lists TIED to the program's text (the seventh form; the later family's looks); each row that meets fmt, with fmt's text TOLD by the authors' own Lean function (tested against real Go, not proved from fmt's source: count such statements apart). THE CARD IS WHAT COUNTS. Prove the row's statement (the work); the ties are given (YtjpkmcappefolaaDoorTie.lean); close each card by the builder's one call (the guide's Derived/Test/ToyasCard.lean, 'card_holds'). Laid BY PROGRAM, IN A SANDBOX (cutbox-door.mjs). By AI agents, Wed Nov 11 2026. No macro, syntax, notation, axiom, sorry.
-/
import Derived.Test.YtjpkmcappefolaaDoorRows
import GoSem.ClaimSeven
namespace Go.Proofs.YtjpkmcappefolaaDoor
namespace Rows

/-- THE TIED CARD OF 'laws.FnHeight'. -/
def fnHeightCard : Claim7 := { stood := { row := fnHeightRow, standIns := [], harness := (true, "50234966bbc9d870263b072b3af902380e75e0af27772c7bde995a1015440725"), looks := false }, kinds := [], alts := [], laidByText := true, laidKinds := [.data], laidTests := true, laidLooks := .later }
def FnHeightCardSaid : Prop := Claim7.holds Tryd.pinned (.plain (OpenSpec.ofChange fnHeightSpec)) fnHeightCard

/-- THE TIED CARD OF 'laws.FnToneText'. -/
def fnToneTextCard : Claim7 := { stood := { row := fnToneTextRow, standIns := [], harness := (true, "50234966bbc9d870263b072b3af902380e75e0af27772c7bde995a1015440725"), looks := false }, kinds := [], alts := [], laidByText := true, laidKinds := [.data, .data, .data], laidTests := true, laidLooks := .later }
def FnToneTextCardSaid : Prop := Claim7.holds Tryd.pinned (.plain (OpenSpec.ofChange fnToneTextSpec)) fnToneTextCard

/-- THE TIED CARD OF 'laws.FnToneFrom'. -/
def fnToneFromCard : Claim7 := { stood := { row := fnToneFromRow, standIns := [], harness := (true, "50234966bbc9d870263b072b3af902380e75e0af27772c7bde995a1015440725"), looks := false }, kinds := [], alts := [], laidByText := true, laidKinds := [.data, .data, .data], laidTests := true, laidLooks := .later }
def FnToneFromCardSaid : Prop := Claim7.holds Tryd.pinned (.plain (OpenSpec.ofChange fnToneFromSpec)) fnToneFromCard

/-- THE TIED CARD OF 'laws.FnInterval'. -/
def fnIntervalCard : Claim7 := { stood := { row := fnIntervalRow, standIns := [], harness := (true, "50234966bbc9d870263b072b3af902380e75e0af27772c7bde995a1015440725"), looks := false }, kinds := [], alts := [], laidByText := true, laidKinds := [.data, .data, .data, .data, .data], laidTests := true, laidLooks := .later }
def FnIntervalCardSaid : Prop := Claim7.holds Tryd.pinned (.plain (OpenSpec.ofChange fnIntervalSpec)) fnIntervalCard

/-- THE TIED CARD OF 'laws.FnIntervalSemis'. -/
def fnIntervalSemisCard : Claim7 := { stood := { row := fnIntervalSemisRow, standIns := [], harness := (true, "50234966bbc9d870263b072b3af902380e75e0af27772c7bde995a1015440725"), looks := false }, kinds := [], alts := [], laidByText := true, laidKinds := [.data, .data, .data, .data, .data], laidTests := true, laidLooks := .later }
def FnIntervalSemisCardSaid : Prop := Claim7.holds Tryd.pinned (.plain (OpenSpec.ofChange fnIntervalSemisSpec)) fnIntervalSemisCard

/-- THE TIED CARD OF 'laws.FnHexTone'. -/
def fnHexToneCard : Claim7 := { stood := { row := fnHexToneRow, standIns := [], harness := (true, "50234966bbc9d870263b072b3af902380e75e0af27772c7bde995a1015440725"), looks := false }, kinds := [], alts := [], laidByText := true, laidKinds := [.data], laidTests := true, laidLooks := .later }
def FnHexToneCardSaid : Prop := Claim7.holds Tryd.pinned (.plain (OpenSpec.ofChange fnHexToneSpec)) fnHexToneCard

/-- THE TIED CARD OF 'laws.FnHexAll'. -/
def fnHexAllCard : Claim7 := { stood := { row := fnHexAllRow, standIns := [], harness := (true, "50234966bbc9d870263b072b3af902380e75e0af27772c7bde995a1015440725"), looks := false }, kinds := [], alts := [], laidByText := true, laidKinds := [.data], laidTests := true, laidLooks := .later }
def FnHexAllCardSaid : Prop := Claim7.holds Tryd.pinned (.plain (OpenSpec.ofChange fnHexAllSpec)) fnHexAllCard

/-- THE TIED CARD OF 'laws.FnHexSyllable'. -/
def fnHexSyllableCard : Claim7 := { stood := { row := fnHexSyllableRow, standIns := [], harness := (true, "50234966bbc9d870263b072b3af902380e75e0af27772c7bde995a1015440725"), looks := false }, kinds := [], alts := [], laidByText := true, laidKinds := [.data], laidTests := true, laidLooks := .later }
def FnHexSyllableCardSaid : Prop := Claim7.holds Tryd.pinned (.plain (OpenSpec.ofChange fnHexSyllableSpec)) fnHexSyllableCard

/-- THE TIED CARD OF 'laws.FnExactToneHeight'. -/
def fnExactToneHeightCard : Claim7 := { stood := { row := fnExactToneHeightRow, standIns := [], harness := (true, "50234966bbc9d870263b072b3af902380e75e0af27772c7bde995a1015440725"), looks := false }, kinds := [], alts := [], laidByText := true, laidKinds := [.data], laidTests := true, laidLooks := .later }
def FnExactToneHeightCardSaid : Prop := Claim7.holds Tryd.pinned (.plain (OpenSpec.ofChange fnExactToneHeightSpec)) fnExactToneHeightCard

/-- THE TIED CARD OF 'laws.FnExactToneText'. -/
def fnExactToneTextCard : Claim7 := { stood := { row := fnExactToneTextRow, standIns := [], harness := (true, "50234966bbc9d870263b072b3af902380e75e0af27772c7bde995a1015440725"), looks := false }, kinds := [], alts := [], laidByText := true, laidKinds := [.data, .data, .data], laidTests := true, laidLooks := .later }
def FnExactToneTextCardSaid : Prop := Claim7.holds Tryd.pinned (.plain (OpenSpec.ofChange fnExactToneTextSpec)) fnExactToneTextCard

/-- THE TIED CARD OF 'laws.FnExactToneSemis'. -/
def fnExactToneSemisCard : Claim7 := { stood := { row := fnExactToneSemisRow, standIns := [], harness := (true, "50234966bbc9d870263b072b3af902380e75e0af27772c7bde995a1015440725"), looks := false }, kinds := [], alts := [], laidByText := true, laidKinds := [.data], laidTests := true, laidLooks := .later }
def FnExactToneSemisCardSaid : Prop := Claim7.holds Tryd.pinned (.plain (OpenSpec.ofChange fnExactToneSemisSpec)) fnExactToneSemisCard

/-- THE TIED CARD OF 'laws.FnExactToneInterval'. -/
def fnExactToneIntervalCard : Claim7 := { stood := { row := fnExactToneIntervalRow, standIns := [], harness := (true, "50234966bbc9d870263b072b3af902380e75e0af27772c7bde995a1015440725"), looks := false }, kinds := [], alts := [], laidByText := true, laidKinds := [.data, .data, .data, .data, .data], laidTests := true, laidLooks := .later }
def FnExactToneIntervalCardSaid : Prop := Claim7.holds Tryd.pinned (.plain (OpenSpec.ofChange fnExactToneIntervalSpec)) fnExactToneIntervalCard

/-- THE TIED CARD OF 'laws.FnExactToneNames'. -/
def fnExactToneNamesCard : Claim7 := { stood := { row := fnExactToneNamesRow, standIns := [], harness := (true, "50234966bbc9d870263b072b3af902380e75e0af27772c7bde995a1015440725"), looks := false }, kinds := [], alts := [], laidByText := true, laidKinds := [.data], laidTests := true, laidLooks := .later }
def FnExactToneNamesCardSaid : Prop := Claim7.holds Tryd.pinned (.plain (OpenSpec.ofChange fnExactToneNamesSpec)) fnExactToneNamesCard

/-- THE SECOND FORM's CARD OF 'laws.FnHeight'. -/
def fnHeightUptoCard : Claim7 := { stood := { row := fnHeightUptoRow, standIns := [], harness := (true, "50234966bbc9d870263b072b3af902380e75e0af27772c7bde995a1015440725"), looks := false }, kinds := [], alts := [], laidByText := true, laidKinds := [.data], laidTests := true, laidLooks := .later }
def FnHeightUptoCardSaid : Prop := Claim7.holds Tryd.pinned (.plain (OpenSpec.upto fnHeightSpec)) fnHeightUptoCard

/-- THE SECOND FORM's CARD OF 'laws.FnToneText'. -/
def fnToneTextUptoCard : Claim7 := { stood := { row := fnToneTextUptoRow, standIns := [], harness := (true, "50234966bbc9d870263b072b3af902380e75e0af27772c7bde995a1015440725"), looks := false }, kinds := [], alts := [], laidByText := true, laidKinds := [.data, .data, .data], laidTests := true, laidLooks := .later }
def FnToneTextUptoCardSaid : Prop := Claim7.holds Tryd.pinned (.plain (OpenSpec.upto fnToneTextSpec)) fnToneTextUptoCard

/-- THE SECOND FORM's CARD OF 'laws.FnToneFrom'. -/
def fnToneFromUptoCard : Claim7 := { stood := { row := fnToneFromUptoRow, standIns := [], harness := (true, "50234966bbc9d870263b072b3af902380e75e0af27772c7bde995a1015440725"), looks := false }, kinds := [], alts := [], laidByText := true, laidKinds := [.data, .data, .data], laidTests := true, laidLooks := .later }
def FnToneFromUptoCardSaid : Prop := Claim7.holds Tryd.pinned (.plain (OpenSpec.upto fnToneFromSpec)) fnToneFromUptoCard

/-- THE SECOND FORM's CARD OF 'laws.FnInterval'. -/
def fnIntervalUptoCard : Claim7 := { stood := { row := fnIntervalUptoRow, standIns := [], harness := (true, "50234966bbc9d870263b072b3af902380e75e0af27772c7bde995a1015440725"), looks := false }, kinds := [], alts := [], laidByText := true, laidKinds := [.data, .data, .data, .data, .data], laidTests := true, laidLooks := .later }
def FnIntervalUptoCardSaid : Prop := Claim7.holds Tryd.pinned (.plain (OpenSpec.upto fnIntervalSpec)) fnIntervalUptoCard

/-- THE SECOND FORM's CARD OF 'laws.FnIntervalSemis'. -/
def fnIntervalSemisUptoCard : Claim7 := { stood := { row := fnIntervalSemisUptoRow, standIns := [], harness := (true, "50234966bbc9d870263b072b3af902380e75e0af27772c7bde995a1015440725"), looks := false }, kinds := [], alts := [], laidByText := true, laidKinds := [.data, .data, .data, .data, .data], laidTests := true, laidLooks := .later }
def FnIntervalSemisUptoCardSaid : Prop := Claim7.holds Tryd.pinned (.plain (OpenSpec.upto fnIntervalSemisSpec)) fnIntervalSemisUptoCard

/-- THE SECOND FORM's CARD OF 'laws.FnHexTone'. -/
def fnHexToneUptoCard : Claim7 := { stood := { row := fnHexToneUptoRow, standIns := [], harness := (true, "50234966bbc9d870263b072b3af902380e75e0af27772c7bde995a1015440725"), looks := false }, kinds := [], alts := [], laidByText := true, laidKinds := [.data], laidTests := true, laidLooks := .later }
def FnHexToneUptoCardSaid : Prop := Claim7.holds Tryd.pinned (.plain (OpenSpec.upto fnHexToneSpec)) fnHexToneUptoCard

/-- THE SECOND FORM's CARD OF 'laws.FnHexAll'. -/
def fnHexAllUptoCard : Claim7 := { stood := { row := fnHexAllUptoRow, standIns := [], harness := (true, "50234966bbc9d870263b072b3af902380e75e0af27772c7bde995a1015440725"), looks := false }, kinds := [], alts := [], laidByText := true, laidKinds := [.data], laidTests := true, laidLooks := .later }
def FnHexAllUptoCardSaid : Prop := Claim7.holds Tryd.pinned (.plain (OpenSpec.upto fnHexAllSpec)) fnHexAllUptoCard

/-- THE SECOND FORM's CARD OF 'laws.FnHexSyllable'. -/
def fnHexSyllableUptoCard : Claim7 := { stood := { row := fnHexSyllableUptoRow, standIns := [], harness := (true, "50234966bbc9d870263b072b3af902380e75e0af27772c7bde995a1015440725"), looks := false }, kinds := [], alts := [], laidByText := true, laidKinds := [.data], laidTests := true, laidLooks := .later }
def FnHexSyllableUptoCardSaid : Prop := Claim7.holds Tryd.pinned (.plain (OpenSpec.upto fnHexSyllableSpec)) fnHexSyllableUptoCard

/-- THE SECOND FORM's CARD OF 'laws.FnExactToneHeight'. -/
def fnExactToneHeightUptoCard : Claim7 := { stood := { row := fnExactToneHeightUptoRow, standIns := [], harness := (true, "50234966bbc9d870263b072b3af902380e75e0af27772c7bde995a1015440725"), looks := false }, kinds := [], alts := [], laidByText := true, laidKinds := [.data], laidTests := true, laidLooks := .later }
def FnExactToneHeightUptoCardSaid : Prop := Claim7.holds Tryd.pinned (.plain (OpenSpec.upto fnExactToneHeightSpec)) fnExactToneHeightUptoCard

/-- THE SECOND FORM's CARD OF 'laws.FnExactToneText'. -/
def fnExactToneTextUptoCard : Claim7 := { stood := { row := fnExactToneTextUptoRow, standIns := [], harness := (true, "50234966bbc9d870263b072b3af902380e75e0af27772c7bde995a1015440725"), looks := false }, kinds := [], alts := [], laidByText := true, laidKinds := [.data, .data, .data], laidTests := true, laidLooks := .later }
def FnExactToneTextUptoCardSaid : Prop := Claim7.holds Tryd.pinned (.plain (OpenSpec.upto fnExactToneTextSpec)) fnExactToneTextUptoCard

/-- THE SECOND FORM's CARD OF 'laws.FnExactToneSemis'. -/
def fnExactToneSemisUptoCard : Claim7 := { stood := { row := fnExactToneSemisUptoRow, standIns := [], harness := (true, "50234966bbc9d870263b072b3af902380e75e0af27772c7bde995a1015440725"), looks := false }, kinds := [], alts := [], laidByText := true, laidKinds := [.data], laidTests := true, laidLooks := .later }
def FnExactToneSemisUptoCardSaid : Prop := Claim7.holds Tryd.pinned (.plain (OpenSpec.upto fnExactToneSemisSpec)) fnExactToneSemisUptoCard

/-- THE SECOND FORM's CARD OF 'laws.FnExactToneInterval'. -/
def fnExactToneIntervalUptoCard : Claim7 := { stood := { row := fnExactToneIntervalUptoRow, standIns := [], harness := (true, "50234966bbc9d870263b072b3af902380e75e0af27772c7bde995a1015440725"), looks := false }, kinds := [], alts := [], laidByText := true, laidKinds := [.data, .data, .data, .data, .data], laidTests := true, laidLooks := .later }
def FnExactToneIntervalUptoCardSaid : Prop := Claim7.holds Tryd.pinned (.plain (OpenSpec.upto fnExactToneIntervalSpec)) fnExactToneIntervalUptoCard

/-- THE SECOND FORM's CARD OF 'laws.FnExactToneNames'. -/
def fnExactToneNamesUptoCard : Claim7 := { stood := { row := fnExactToneNamesUptoRow, standIns := [], harness := (true, "50234966bbc9d870263b072b3af902380e75e0af27772c7bde995a1015440725"), looks := false }, kinds := [], alts := [], laidByText := true, laidKinds := [.data], laidTests := true, laidLooks := .later }
def FnExactToneNamesUptoCardSaid : Prop := Claim7.holds Tryd.pinned (.plain (OpenSpec.upto fnExactToneNamesSpec)) fnExactToneNamesUptoCard
end Rows
end Go.Proofs.YtjpkmcappefolaaDoor
