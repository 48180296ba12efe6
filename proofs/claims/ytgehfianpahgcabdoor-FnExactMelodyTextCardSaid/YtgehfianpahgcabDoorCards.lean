/-
  DERIVED. GIVEN WITH THE SEED: THE CARDS: each row of YtgehfianpahgcabDoorRows.lean that lists a variable, with what it lists TIED to the program's text (the seventh form; the later family's looks); each row that meets fmt, with fmt's text TOLD by the authors' own Lean function (tested against real Go, not proved from fmt's source: count such statements apart). THE CARD IS WHAT COUNTS. Prove the row's statement (the work); the ties are given (YtgehfianpahgcabDoorTie.lean); close each card by the builder's one call (the guide's Derived/Test/ToyasCard.lean, 'card_holds'). Laid BY PROGRAM, IN A SANDBOX (cutbox-door.mjs). By AI agents, Wed Nov 11 2026. No macro, syntax, notation, axiom, sorry.
-/
import Derived.Test.YtgehfianpahgcabDoorRows
import GoSem.ClaimSeven
namespace Go.Proofs.YtgehfianpahgcabDoor
namespace Rows

/-- THE TIED CARD OF 'laws.FnExactMelodyText'. -/
def fnExactMelodyTextCard : Claim7 := { stood := { row := fnExactMelodyTextRow, standIns := [], harness := (true, "1c1a9509942b97d74e9b1fe98709feae1a4ffaec323099ff3479ae7daee4de5e"), looks := false }, kinds := [], alts := [], laidByText := true, laidKinds := [.data, .data, .data], laidTests := true, laidLooks := .later }
def FnExactMelodyTextCardSaid : Prop := Claim7.holds Tryd.pinned (.plain (OpenSpec.ofChange fnExactMelodyTextSpec)) fnExactMelodyTextCard

/-- THE TIED CARD OF 'laws.FnExactMelodyFrom'. -/
def fnExactMelodyFromCard : Claim7 := { stood := { row := fnExactMelodyFromRow, standIns := [], harness := (true, "1c1a9509942b97d74e9b1fe98709feae1a4ffaec323099ff3479ae7daee4de5e"), looks := false }, kinds := [], alts := [], laidByText := true, laidKinds := [.data, .pinned], laidTests := true, laidLooks := .later }
def FnExactMelodyFromCardSaid : Prop := Claim7.holds Tryd.pinned (.plain (OpenSpec.ofChange fnExactMelodyFromSpec)) fnExactMelodyFromCard

/-- THE TIED CARD OF 'laws.FnExactMelodySemis'. -/
def fnExactMelodySemisCard : Claim7 := { stood := { row := fnExactMelodySemisRow, standIns := [], harness := (true, "1c1a9509942b97d74e9b1fe98709feae1a4ffaec323099ff3479ae7daee4de5e"), looks := false }, kinds := [], alts := [], laidByText := true, laidKinds := [.data], laidTests := true, laidLooks := .later }
def FnExactMelodySemisCardSaid : Prop := Claim7.holds Tryd.pinned (.plain (OpenSpec.ofChange fnExactMelodySemisSpec)) fnExactMelodySemisCard

/-- THE TIED CARD OF 'laws.FnExactMelodyMove'. -/
def fnExactMelodyMoveCard : Claim7 := { stood := { row := fnExactMelodyMoveRow, standIns := [], harness := (true, "1c1a9509942b97d74e9b1fe98709feae1a4ffaec323099ff3479ae7daee4de5e"), looks := false }, kinds := [], alts := [], laidByText := true, laidKinds := [.data], laidTests := true, laidLooks := .later }
def FnExactMelodyMoveCardSaid : Prop := Claim7.holds Tryd.pinned (.plain (OpenSpec.ofChange fnExactMelodyMoveSpec)) fnExactMelodyMoveCard

/-- THE TIED CARD OF 'laws.FnExactMelodySame'. -/
def fnExactMelodySameCard : Claim7 := { stood := { row := fnExactMelodySameRow, standIns := [], harness := (true, "1c1a9509942b97d74e9b1fe98709feae1a4ffaec323099ff3479ae7daee4de5e"), looks := false }, kinds := [], alts := [], laidByText := true, laidKinds := [.data], laidTests := true, laidLooks := .later }
def FnExactMelodySameCardSaid : Prop := Claim7.holds Tryd.pinned (.plain (OpenSpec.ofChange fnExactMelodySameSpec)) fnExactMelodySameCard

/-- THE TIED CARD OF 'laws.FnMelodyMove'. -/
def fnMelodyMoveCard : Claim7 := { stood := { row := fnMelodyMoveRow, standIns := [], harness := (true, "1c1a9509942b97d74e9b1fe98709feae1a4ffaec323099ff3479ae7daee4de5e"), looks := false }, kinds := [], alts := [], laidByText := true, laidKinds := [.data], laidTests := true, laidLooks := .later }
def FnMelodyMoveCardSaid : Prop := Claim7.holds Tryd.pinned (.plain (OpenSpec.ofChange fnMelodyMoveSpec)) fnMelodyMoveCard

/-- THE TIED CARD OF 'laws.FnMelodyMoveOctave'. -/
def fnMelodyMoveOctaveCard : Claim7 := { stood := { row := fnMelodyMoveOctaveRow, standIns := [], harness := (true, "1c1a9509942b97d74e9b1fe98709feae1a4ffaec323099ff3479ae7daee4de5e"), looks := false }, kinds := [], alts := [], laidByText := true, laidKinds := [.data], laidTests := true, laidLooks := .later }
def FnMelodyMoveOctaveCardSaid : Prop := Claim7.holds Tryd.pinned (.plain (OpenSpec.ofChange fnMelodyMoveOctaveSpec)) fnMelodyMoveOctaveCard

/-- THE TIED CARD OF 'laws.FnMelodySame'. -/
def fnMelodySameCard : Claim7 := { stood := { row := fnMelodySameRow, standIns := [], harness := (true, "1c1a9509942b97d74e9b1fe98709feae1a4ffaec323099ff3479ae7daee4de5e"), looks := false }, kinds := [], alts := [], laidByText := true, laidKinds := [.data], laidTests := true, laidLooks := .later }
def FnMelodySameCardSaid : Prop := Claim7.holds Tryd.pinned (.plain (OpenSpec.ofChange fnMelodySameSpec)) fnMelodySameCard

/-- THE TIED CARD OF 'laws.FnSing'. -/
def fnSingCard : Claim7 := { stood := { row := fnSingRow, standIns := [], harness := (true, "1c1a9509942b97d74e9b1fe98709feae1a4ffaec323099ff3479ae7daee4de5e"), looks := false }, kinds := [], alts := [], laidByText := true, laidKinds := [.data], laidTests := true, laidLooks := .later }
def FnSingCardSaid : Prop := Claim7.holds Tryd.pinned (.plain (OpenSpec.ofChange fnSingSpec)) fnSingCard

/-- THE TIED CARD OF 'laws.FnExactSingText'. -/
def fnExactSingTextCard : Claim7 := { stood := { row := fnExactSingTextRow, standIns := [], harness := (true, "1c1a9509942b97d74e9b1fe98709feae1a4ffaec323099ff3479ae7daee4de5e"), looks := false }, kinds := [], alts := [], laidByText := true, laidKinds := [.data], laidTests := true, laidLooks := .later }
def FnExactSingTextCardSaid : Prop := Claim7.holds Tryd.pinned (.plain (OpenSpec.ofChange fnExactSingTextSpec)) fnExactSingTextCard

/-- THE SECOND FORM's CARD OF 'laws.FnExactMelodyText'. -/
def fnExactMelodyTextUptoCard : Claim7 := { stood := { row := fnExactMelodyTextUptoRow, standIns := [], harness := (true, "1c1a9509942b97d74e9b1fe98709feae1a4ffaec323099ff3479ae7daee4de5e"), looks := false }, kinds := [], alts := [], laidByText := true, laidKinds := [.data, .data, .data], laidTests := true, laidLooks := .later }
def FnExactMelodyTextUptoCardSaid : Prop := Claim7.holds Tryd.pinned (.plain (OpenSpec.upto fnExactMelodyTextSpec)) fnExactMelodyTextUptoCard

/-- THE SECOND FORM's CARD OF 'laws.FnExactMelodyFrom'. -/
def fnExactMelodyFromUptoCard : Claim7 := { stood := { row := fnExactMelodyFromUptoRow, standIns := [], harness := (true, "1c1a9509942b97d74e9b1fe98709feae1a4ffaec323099ff3479ae7daee4de5e"), looks := false }, kinds := [], alts := [], laidByText := true, laidKinds := [.data, .pinned], laidTests := true, laidLooks := .later }
def FnExactMelodyFromUptoCardSaid : Prop := Claim7.holds Tryd.pinned (.plain (OpenSpec.upto fnExactMelodyFromSpec)) fnExactMelodyFromUptoCard

/-- THE SECOND FORM's CARD OF 'laws.FnExactMelodySemis'. -/
def fnExactMelodySemisUptoCard : Claim7 := { stood := { row := fnExactMelodySemisUptoRow, standIns := [], harness := (true, "1c1a9509942b97d74e9b1fe98709feae1a4ffaec323099ff3479ae7daee4de5e"), looks := false }, kinds := [], alts := [], laidByText := true, laidKinds := [.data], laidTests := true, laidLooks := .later }
def FnExactMelodySemisUptoCardSaid : Prop := Claim7.holds Tryd.pinned (.plain (OpenSpec.upto fnExactMelodySemisSpec)) fnExactMelodySemisUptoCard

/-- THE SECOND FORM's CARD OF 'laws.FnExactMelodyMove'. -/
def fnExactMelodyMoveUptoCard : Claim7 := { stood := { row := fnExactMelodyMoveUptoRow, standIns := [], harness := (true, "1c1a9509942b97d74e9b1fe98709feae1a4ffaec323099ff3479ae7daee4de5e"), looks := false }, kinds := [], alts := [], laidByText := true, laidKinds := [.data], laidTests := true, laidLooks := .later }
def FnExactMelodyMoveUptoCardSaid : Prop := Claim7.holds Tryd.pinned (.plain (OpenSpec.upto fnExactMelodyMoveSpec)) fnExactMelodyMoveUptoCard

/-- THE SECOND FORM's CARD OF 'laws.FnExactMelodySame'. -/
def fnExactMelodySameUptoCard : Claim7 := { stood := { row := fnExactMelodySameUptoRow, standIns := [], harness := (true, "1c1a9509942b97d74e9b1fe98709feae1a4ffaec323099ff3479ae7daee4de5e"), looks := false }, kinds := [], alts := [], laidByText := true, laidKinds := [.data], laidTests := true, laidLooks := .later }
def FnExactMelodySameUptoCardSaid : Prop := Claim7.holds Tryd.pinned (.plain (OpenSpec.upto fnExactMelodySameSpec)) fnExactMelodySameUptoCard

/-- THE SECOND FORM's CARD OF 'laws.FnMelodyMove'. -/
def fnMelodyMoveUptoCard : Claim7 := { stood := { row := fnMelodyMoveUptoRow, standIns := [], harness := (true, "1c1a9509942b97d74e9b1fe98709feae1a4ffaec323099ff3479ae7daee4de5e"), looks := false }, kinds := [], alts := [], laidByText := true, laidKinds := [.data], laidTests := true, laidLooks := .later }
def FnMelodyMoveUptoCardSaid : Prop := Claim7.holds Tryd.pinned (.plain (OpenSpec.upto fnMelodyMoveSpec)) fnMelodyMoveUptoCard

/-- THE SECOND FORM's CARD OF 'laws.FnMelodyMoveOctave'. -/
def fnMelodyMoveOctaveUptoCard : Claim7 := { stood := { row := fnMelodyMoveOctaveUptoRow, standIns := [], harness := (true, "1c1a9509942b97d74e9b1fe98709feae1a4ffaec323099ff3479ae7daee4de5e"), looks := false }, kinds := [], alts := [], laidByText := true, laidKinds := [.data], laidTests := true, laidLooks := .later }
def FnMelodyMoveOctaveUptoCardSaid : Prop := Claim7.holds Tryd.pinned (.plain (OpenSpec.upto fnMelodyMoveOctaveSpec)) fnMelodyMoveOctaveUptoCard

/-- THE SECOND FORM's CARD OF 'laws.FnMelodySame'. -/
def fnMelodySameUptoCard : Claim7 := { stood := { row := fnMelodySameUptoRow, standIns := [], harness := (true, "1c1a9509942b97d74e9b1fe98709feae1a4ffaec323099ff3479ae7daee4de5e"), looks := false }, kinds := [], alts := [], laidByText := true, laidKinds := [.data], laidTests := true, laidLooks := .later }
def FnMelodySameUptoCardSaid : Prop := Claim7.holds Tryd.pinned (.plain (OpenSpec.upto fnMelodySameSpec)) fnMelodySameUptoCard

/-- THE SECOND FORM's CARD OF 'laws.FnSing'. -/
def fnSingUptoCard : Claim7 := { stood := { row := fnSingUptoRow, standIns := [], harness := (true, "1c1a9509942b97d74e9b1fe98709feae1a4ffaec323099ff3479ae7daee4de5e"), looks := false }, kinds := [], alts := [], laidByText := true, laidKinds := [.data], laidTests := true, laidLooks := .later }
def FnSingUptoCardSaid : Prop := Claim7.holds Tryd.pinned (.plain (OpenSpec.upto fnSingSpec)) fnSingUptoCard

/-- THE SECOND FORM's CARD OF 'laws.FnExactSingText'. -/
def fnExactSingTextUptoCard : Claim7 := { stood := { row := fnExactSingTextUptoRow, standIns := [], harness := (true, "1c1a9509942b97d74e9b1fe98709feae1a4ffaec323099ff3479ae7daee4de5e"), looks := false }, kinds := [], alts := [], laidByText := true, laidKinds := [.data], laidTests := true, laidLooks := .later }
def FnExactSingTextUptoCardSaid : Prop := Claim7.holds Tryd.pinned (.plain (OpenSpec.upto fnExactSingTextSpec)) fnExactSingTextUptoCard
end Rows
end Go.Proofs.YtgehfianpahgcabDoor
