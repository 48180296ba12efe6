/-
  DERIVED. GIVEN WITH THE SEED: THE CARDS: each row of YtmipkodgkldmbaaDoorRows.lean that lists a variable, with what it lists TIED to the program's text (the seventh form; the later family's looks); each row that meets fmt, with fmt's text TOLD by the authors' own Lean function (tested against real Go, not proved from fmt's source: count such statements apart). THE CARD IS WHAT COUNTS. Prove the row's statement (the work); the ties are given (YtmipkodgkldmbaaDoorTie.lean); close each card by the builder's one call (the guide's Derived/Test/ToyasCard.lean, 'card_holds'). Laid BY PROGRAM, IN A SANDBOX (cutbox-door.mjs). By AI agents, Wed Nov 11 2026. No macro, syntax, notation, axiom, sorry.
-/
import Derived.Test.YtmipkodgkldmbaaDoorRows
import GoSem.ClaimSeven
namespace Go.Proofs.YtmipkodgkldmbaaDoor
namespace Rows

/-- THE TIED CARD OF 'laws.FnMode'. -/
def fnModeCard : Claim7 := { stood := { row := fnModeRow, standIns := [], harness := (true, "ed2e57b2d9d9894520a3b6451abb5b13f8a36e326bec0787c2c0052584c7e4a7"), looks := false }, kinds := [], alts := [], laidByText := true, laidKinds := [.data], laidTests := true, laidLooks := .later }
def FnModeCardSaid : Prop := Claim7.holds Tryd.pinned (.plain (OpenSpec.ofChange fnModeSpec)) fnModeCard

/-- THE TIED CARD OF 'laws.FnModeIn'. -/
def fnModeInCard : Claim7 := { stood := { row := fnModeInRow, standIns := [], harness := (true, "ed2e57b2d9d9894520a3b6451abb5b13f8a36e326bec0787c2c0052584c7e4a7"), looks := false }, kinds := [], alts := [], laidByText := true, laidKinds := [.data], laidTests := true, laidLooks := .later }
def FnModeInCardSaid : Prop := Claim7.holds Tryd.pinned (.plain (OpenSpec.ofChange fnModeInSpec)) fnModeInCard

/-- THE TIED CARD OF 'laws.FnModeAll'. -/
def fnModeAllCard : Claim7 := { stood := { row := fnModeAllRow, standIns := [], harness := (true, "ed2e57b2d9d9894520a3b6451abb5b13f8a36e326bec0787c2c0052584c7e4a7"), looks := false }, kinds := [], alts := [], laidByText := true, laidKinds := [.data], laidTests := true, laidLooks := .later }
def FnModeAllCardSaid : Prop := Claim7.holds Tryd.pinned (.plain (OpenSpec.ofChange fnModeAllSpec)) fnModeAllCard

/-- THE TIED CARD OF 'laws.FnModeLikely'. -/
def fnModeLikelyCard : Claim7 := { stood := { row := fnModeLikelyRow, standIns := [], harness := (true, "ed2e57b2d9d9894520a3b6451abb5b13f8a36e326bec0787c2c0052584c7e4a7"), looks := false }, kinds := [], alts := [], laidByText := true, laidKinds := [.data], laidTests := true, laidLooks := .later }
def FnModeLikelyCardSaid : Prop := Claim7.holds Tryd.pinned (.plain (OpenSpec.ofChange fnModeLikelySpec)) fnModeLikelyCard

/-- THE TIED CARD OF 'laws.FnModeMoves'. -/
def fnModeMovesCard : Claim7 := { stood := { row := fnModeMovesRow, standIns := [], harness := (true, "ed2e57b2d9d9894520a3b6451abb5b13f8a36e326bec0787c2c0052584c7e4a7"), looks := false }, kinds := [], alts := [], laidByText := true, laidKinds := [.data, .data], laidTests := true, laidLooks := .later }
def FnModeMovesCardSaid : Prop := Claim7.holds Tryd.pinned (.plain (OpenSpec.ofChange fnModeMovesSpec)) fnModeMovesCard

/-- THE TIED CARD OF 'laws.FnExactModeFinal'. -/
def fnExactModeFinalCard : Claim7 := { stood := { row := fnExactModeFinalRow, standIns := [], harness := (true, "ed2e57b2d9d9894520a3b6451abb5b13f8a36e326bec0787c2c0052584c7e4a7"), looks := false }, kinds := [], alts := [], laidByText := true, laidKinds := [.data], laidTests := true, laidLooks := .later }
def FnExactModeFinalCardSaid : Prop := Claim7.holds Tryd.pinned (.plain (OpenSpec.ofChange fnExactModeFinalSpec)) fnExactModeFinalCard

/-- THE TIED CARD OF 'laws.FnExactModeTenor'. -/
def fnExactModeTenorCard : Claim7 := { stood := { row := fnExactModeTenorRow, standIns := [], harness := (true, "ed2e57b2d9d9894520a3b6451abb5b13f8a36e326bec0787c2c0052584c7e4a7"), looks := false }, kinds := [], alts := [], laidByText := true, laidKinds := [.data], laidTests := true, laidLooks := .later }
def FnExactModeTenorCardSaid : Prop := Claim7.holds Tryd.pinned (.plain (OpenSpec.ofChange fnExactModeTenorSpec)) fnExactModeTenorCard

/-- THE TIED CARD OF 'laws.FnExactModeRange'. -/
def fnExactModeRangeCard : Claim7 := { stood := { row := fnExactModeRangeRow, standIns := [], harness := (true, "ed2e57b2d9d9894520a3b6451abb5b13f8a36e326bec0787c2c0052584c7e4a7"), looks := false }, kinds := [], alts := [], laidByText := true, laidKinds := [.data], laidTests := true, laidLooks := .later }
def FnExactModeRangeCardSaid : Prop := Claim7.holds Tryd.pinned (.plain (OpenSpec.ofChange fnExactModeRangeSpec)) fnExactModeRangeCard

/-- THE TIED CARD OF 'laws.FnExactModeIn'. -/
def fnExactModeInCard : Claim7 := { stood := { row := fnExactModeInRow, standIns := [], harness := (true, "ed2e57b2d9d9894520a3b6451abb5b13f8a36e326bec0787c2c0052584c7e4a7"), looks := false }, kinds := [], alts := [], laidByText := true, laidKinds := [.data], laidTests := true, laidLooks := .later }
def FnExactModeInCardSaid : Prop := Claim7.holds Tryd.pinned (.plain (OpenSpec.ofChange fnExactModeInSpec)) fnExactModeInCard

/-- THE TIED CARD OF 'laws.FnExactModeAll'. -/
def fnExactModeAllCard : Claim7 := { stood := { row := fnExactModeAllRow, standIns := [], harness := (true, "ed2e57b2d9d9894520a3b6451abb5b13f8a36e326bec0787c2c0052584c7e4a7"), looks := false }, kinds := [], alts := [], laidByText := true, laidKinds := [.data], laidTests := true, laidLooks := .later }
def FnExactModeAllCardSaid : Prop := Claim7.holds Tryd.pinned (.plain (OpenSpec.ofChange fnExactModeAllSpec)) fnExactModeAllCard

/-- THE TIED CARD OF 'laws.FnExactModeLikely'. -/
def fnExactModeLikelyCard : Claim7 := { stood := { row := fnExactModeLikelyRow, standIns := [], harness := (true, "ed2e57b2d9d9894520a3b6451abb5b13f8a36e326bec0787c2c0052584c7e4a7"), looks := false }, kinds := [], alts := [], laidByText := true, laidKinds := [.data], laidTests := true, laidLooks := .later }
def FnExactModeLikelyCardSaid : Prop := Claim7.holds Tryd.pinned (.plain (OpenSpec.ofChange fnExactModeLikelySpec)) fnExactModeLikelyCard

/-- THE TIED CARD OF 'laws.FnExactModeMoves'. -/
def fnExactModeMovesCard : Claim7 := { stood := { row := fnExactModeMovesRow, standIns := [], harness := (true, "ed2e57b2d9d9894520a3b6451abb5b13f8a36e326bec0787c2c0052584c7e4a7"), looks := false }, kinds := [], alts := [], laidByText := true, laidKinds := [.data, .data], laidTests := true, laidLooks := .later }
def FnExactModeMovesCardSaid : Prop := Claim7.holds Tryd.pinned (.plain (OpenSpec.ofChange fnExactModeMovesSpec)) fnExactModeMovesCard

/-- THE TIED CARD OF 'laws.FnExactModePair'. -/
def fnExactModePairCard : Claim7 := { stood := { row := fnExactModePairRow, standIns := [], harness := (true, "ed2e57b2d9d9894520a3b6451abb5b13f8a36e326bec0787c2c0052584c7e4a7"), looks := false }, kinds := [], alts := [], laidByText := true, laidKinds := [.data], laidTests := true, laidLooks := .later }
def FnExactModePairCardSaid : Prop := Claim7.holds Tryd.pinned (.plain (OpenSpec.ofChange fnExactModePairSpec)) fnExactModePairCard

/-- THE SECOND FORM's CARD OF 'laws.FnMode'. -/
def fnModeUptoCard : Claim7 := { stood := { row := fnModeUptoRow, standIns := [], harness := (true, "ed2e57b2d9d9894520a3b6451abb5b13f8a36e326bec0787c2c0052584c7e4a7"), looks := false }, kinds := [], alts := [], laidByText := true, laidKinds := [.data], laidTests := true, laidLooks := .later }
def FnModeUptoCardSaid : Prop := Claim7.holds Tryd.pinned (.plain (OpenSpec.upto fnModeSpec)) fnModeUptoCard

/-- THE SECOND FORM's CARD OF 'laws.FnModeIn'. -/
def fnModeInUptoCard : Claim7 := { stood := { row := fnModeInUptoRow, standIns := [], harness := (true, "ed2e57b2d9d9894520a3b6451abb5b13f8a36e326bec0787c2c0052584c7e4a7"), looks := false }, kinds := [], alts := [], laidByText := true, laidKinds := [.data], laidTests := true, laidLooks := .later }
def FnModeInUptoCardSaid : Prop := Claim7.holds Tryd.pinned (.plain (OpenSpec.upto fnModeInSpec)) fnModeInUptoCard

/-- THE SECOND FORM's CARD OF 'laws.FnModeAll'. -/
def fnModeAllUptoCard : Claim7 := { stood := { row := fnModeAllUptoRow, standIns := [], harness := (true, "ed2e57b2d9d9894520a3b6451abb5b13f8a36e326bec0787c2c0052584c7e4a7"), looks := false }, kinds := [], alts := [], laidByText := true, laidKinds := [.data], laidTests := true, laidLooks := .later }
def FnModeAllUptoCardSaid : Prop := Claim7.holds Tryd.pinned (.plain (OpenSpec.upto fnModeAllSpec)) fnModeAllUptoCard

/-- THE SECOND FORM's CARD OF 'laws.FnModeLikely'. -/
def fnModeLikelyUptoCard : Claim7 := { stood := { row := fnModeLikelyUptoRow, standIns := [], harness := (true, "ed2e57b2d9d9894520a3b6451abb5b13f8a36e326bec0787c2c0052584c7e4a7"), looks := false }, kinds := [], alts := [], laidByText := true, laidKinds := [.data], laidTests := true, laidLooks := .later }
def FnModeLikelyUptoCardSaid : Prop := Claim7.holds Tryd.pinned (.plain (OpenSpec.upto fnModeLikelySpec)) fnModeLikelyUptoCard

/-- THE SECOND FORM's CARD OF 'laws.FnModeMoves'. -/
def fnModeMovesUptoCard : Claim7 := { stood := { row := fnModeMovesUptoRow, standIns := [], harness := (true, "ed2e57b2d9d9894520a3b6451abb5b13f8a36e326bec0787c2c0052584c7e4a7"), looks := false }, kinds := [], alts := [], laidByText := true, laidKinds := [.data, .data], laidTests := true, laidLooks := .later }
def FnModeMovesUptoCardSaid : Prop := Claim7.holds Tryd.pinned (.plain (OpenSpec.upto fnModeMovesSpec)) fnModeMovesUptoCard

/-- THE SECOND FORM's CARD OF 'laws.FnExactModeFinal'. -/
def fnExactModeFinalUptoCard : Claim7 := { stood := { row := fnExactModeFinalUptoRow, standIns := [], harness := (true, "ed2e57b2d9d9894520a3b6451abb5b13f8a36e326bec0787c2c0052584c7e4a7"), looks := false }, kinds := [], alts := [], laidByText := true, laidKinds := [.data], laidTests := true, laidLooks := .later }
def FnExactModeFinalUptoCardSaid : Prop := Claim7.holds Tryd.pinned (.plain (OpenSpec.upto fnExactModeFinalSpec)) fnExactModeFinalUptoCard

/-- THE SECOND FORM's CARD OF 'laws.FnExactModeTenor'. -/
def fnExactModeTenorUptoCard : Claim7 := { stood := { row := fnExactModeTenorUptoRow, standIns := [], harness := (true, "ed2e57b2d9d9894520a3b6451abb5b13f8a36e326bec0787c2c0052584c7e4a7"), looks := false }, kinds := [], alts := [], laidByText := true, laidKinds := [.data], laidTests := true, laidLooks := .later }
def FnExactModeTenorUptoCardSaid : Prop := Claim7.holds Tryd.pinned (.plain (OpenSpec.upto fnExactModeTenorSpec)) fnExactModeTenorUptoCard

/-- THE SECOND FORM's CARD OF 'laws.FnExactModeRange'. -/
def fnExactModeRangeUptoCard : Claim7 := { stood := { row := fnExactModeRangeUptoRow, standIns := [], harness := (true, "ed2e57b2d9d9894520a3b6451abb5b13f8a36e326bec0787c2c0052584c7e4a7"), looks := false }, kinds := [], alts := [], laidByText := true, laidKinds := [.data], laidTests := true, laidLooks := .later }
def FnExactModeRangeUptoCardSaid : Prop := Claim7.holds Tryd.pinned (.plain (OpenSpec.upto fnExactModeRangeSpec)) fnExactModeRangeUptoCard

/-- THE SECOND FORM's CARD OF 'laws.FnExactModeIn'. -/
def fnExactModeInUptoCard : Claim7 := { stood := { row := fnExactModeInUptoRow, standIns := [], harness := (true, "ed2e57b2d9d9894520a3b6451abb5b13f8a36e326bec0787c2c0052584c7e4a7"), looks := false }, kinds := [], alts := [], laidByText := true, laidKinds := [.data], laidTests := true, laidLooks := .later }
def FnExactModeInUptoCardSaid : Prop := Claim7.holds Tryd.pinned (.plain (OpenSpec.upto fnExactModeInSpec)) fnExactModeInUptoCard

/-- THE SECOND FORM's CARD OF 'laws.FnExactModeAll'. -/
def fnExactModeAllUptoCard : Claim7 := { stood := { row := fnExactModeAllUptoRow, standIns := [], harness := (true, "ed2e57b2d9d9894520a3b6451abb5b13f8a36e326bec0787c2c0052584c7e4a7"), looks := false }, kinds := [], alts := [], laidByText := true, laidKinds := [.data], laidTests := true, laidLooks := .later }
def FnExactModeAllUptoCardSaid : Prop := Claim7.holds Tryd.pinned (.plain (OpenSpec.upto fnExactModeAllSpec)) fnExactModeAllUptoCard

/-- THE SECOND FORM's CARD OF 'laws.FnExactModeLikely'. -/
def fnExactModeLikelyUptoCard : Claim7 := { stood := { row := fnExactModeLikelyUptoRow, standIns := [], harness := (true, "ed2e57b2d9d9894520a3b6451abb5b13f8a36e326bec0787c2c0052584c7e4a7"), looks := false }, kinds := [], alts := [], laidByText := true, laidKinds := [.data], laidTests := true, laidLooks := .later }
def FnExactModeLikelyUptoCardSaid : Prop := Claim7.holds Tryd.pinned (.plain (OpenSpec.upto fnExactModeLikelySpec)) fnExactModeLikelyUptoCard

/-- THE SECOND FORM's CARD OF 'laws.FnExactModeMoves'. -/
def fnExactModeMovesUptoCard : Claim7 := { stood := { row := fnExactModeMovesUptoRow, standIns := [], harness := (true, "ed2e57b2d9d9894520a3b6451abb5b13f8a36e326bec0787c2c0052584c7e4a7"), looks := false }, kinds := [], alts := [], laidByText := true, laidKinds := [.data, .data], laidTests := true, laidLooks := .later }
def FnExactModeMovesUptoCardSaid : Prop := Claim7.holds Tryd.pinned (.plain (OpenSpec.upto fnExactModeMovesSpec)) fnExactModeMovesUptoCard

/-- THE SECOND FORM's CARD OF 'laws.FnExactModePair'. -/
def fnExactModePairUptoCard : Claim7 := { stood := { row := fnExactModePairUptoRow, standIns := [], harness := (true, "ed2e57b2d9d9894520a3b6451abb5b13f8a36e326bec0787c2c0052584c7e4a7"), looks := false }, kinds := [], alts := [], laidByText := true, laidKinds := [.data], laidTests := true, laidLooks := .later }
def FnExactModePairUptoCardSaid : Prop := Claim7.holds Tryd.pinned (.plain (OpenSpec.upto fnExactModePairSpec)) fnExactModePairUptoCard
end Rows
end Go.Proofs.YtmipkodgkldmbaaDoor
