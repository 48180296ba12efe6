/-
  DERIVED. GIVEN WITH THE SEED: THE CARDS: each row of YtaelkgpebhdlhaaGreatDoorRows.lean that lists a variable, with what it lists TIED to the program's text (the seventh form; the later family's looks); each row that meets fmt, with fmt's text TOLD by the authors' own Lean function (tested against real Go, not proved from fmt's source: count such statements apart). THE CARD IS WHAT COUNTS. Prove the row's statement (the work); the ties are given (YtaelkgpebhdlhaaGreatDoorTie.lean); close each card by the builder's one call (the guide's Derived/Test/ToyasCard.lean, 'card_holds'). Laid BY PROGRAM, IN A SANDBOX (cutbox-door.mjs). By AI agents, Wed Nov 11 2026. No macro, syntax, notation, axiom, sorry.
-/
import Derived.Test.YtaelkgpebhdlhaaGreatDoorRows
import GoSem.ClaimSeven
namespace Go.Proofs.YtaelkgpebhdlhaaGreatDoor
namespace Rows

/-- THE TIED CARD OF 'laws.FnExecuteNone'. -/
def fnExecuteNoneCard : Claim7 := { stood := { row := fnExecuteNoneRow, standIns := [], harness := (true, "c021ccb8ad09bfcdb092d4040d0fb8fe891255c62e00131115372c7c16b3fc33"), looks := true }, kinds := [], alts := [], laidByText := true, laidKinds := [.data, .data, .data, .data, .data, .data, .data, .data, .pinned], laidTests := true, laidLooks := .later }
def FnExecuteNoneCardSaid : Prop := Claim7.holds Tryz.pinned (.plain (OpenSpec.ofChange fnExecuteNoneSpec)) fnExecuteNoneCard

/-- THE TIED CARD OF 'laws.FnExecuteWhat'. -/
def fnExecuteWhatCard : Claim7 := { stood := { row := fnExecuteWhatRow, standIns := [], harness := (true, "c021ccb8ad09bfcdb092d4040d0fb8fe891255c62e00131115372c7c16b3fc33"), looks := true }, kinds := [], alts := [], laidByText := true, laidKinds := [.data, .data, .data, .data, .data, .data, .data, .data, .pinned], laidTests := true, laidLooks := .later }
def FnExecuteWhatCardSaid : Prop := Claim7.holds Tryz.pinned (.plain (OpenSpec.ofChange fnExecuteWhatSpec)) fnExecuteWhatCard

/-- THE TIED CARD OF 'laws.FnExecuteTwice'. -/
def fnExecuteTwiceCard : Claim7 := { stood := { row := fnExecuteTwiceRow, standIns := [], harness := (true, "c021ccb8ad09bfcdb092d4040d0fb8fe891255c62e00131115372c7c16b3fc33"), looks := true }, kinds := [], alts := [], laidByText := true, laidKinds := [.data, .data, .data, .data, .data, .data, .data, .data, .pinned], laidTests := true, laidLooks := .later }
def FnExecuteTwiceCardSaid : Prop := Claim7.holds Tryz.pinned (.plain (OpenSpec.ofChange fnExecuteTwiceSpec)) fnExecuteTwiceCard

/-- THE TIED CARD OF 'laws.FnExecuteMelody'. -/
def fnExecuteMelodyCard : Claim7 := { stood := { row := fnExecuteMelodyRow, standIns := [], harness := (true, "c021ccb8ad09bfcdb092d4040d0fb8fe891255c62e00131115372c7c16b3fc33"), looks := true }, kinds := [], alts := [], laidByText := true, laidKinds := [.data, .data, .data, .data, .data, .data, .data, .data, .pinned], laidTests := true, laidLooks := .later }
def FnExecuteMelodyCardSaid : Prop := Claim7.holds Tryz.pinned (.plain (OpenSpec.ofChange fnExecuteMelodySpec)) fnExecuteMelodyCard

/-- THE TIED CARD OF 'laws.FnExecuteMode'. -/
def fnExecuteModeCard : Claim7 := { stood := { row := fnExecuteModeRow, standIns := [], harness := (true, "c021ccb8ad09bfcdb092d4040d0fb8fe891255c62e00131115372c7c16b3fc33"), looks := true }, kinds := [], alts := [], laidByText := true, laidKinds := [.data, .data, .data, .data, .data, .data, .data, .data, .pinned], laidTests := true, laidLooks := .later }
def FnExecuteModeCardSaid : Prop := Claim7.holds Tryz.pinned (.plain (OpenSpec.ofChange fnExecuteModeSpec)) fnExecuteModeCard

/-- THE TIED CARD OF 'laws.FnExecuteMove'. -/
def fnExecuteMoveCard : Claim7 := { stood := { row := fnExecuteMoveRow, standIns := [], harness := (true, "c021ccb8ad09bfcdb092d4040d0fb8fe891255c62e00131115372c7c16b3fc33"), looks := true }, kinds := [], alts := [], laidByText := true, laidKinds := [.data, .data, .data, .data, .data, .data, .data, .data, .pinned], laidTests := true, laidLooks := .later }
def FnExecuteMoveCardSaid : Prop := Claim7.holds Tryz.pinned (.plain (OpenSpec.ofChange fnExecuteMoveSpec)) fnExecuteMoveCard

/-- THE TIED CARD OF 'laws.FnExecuteOrdo'. -/
def fnExecuteOrdoCard : Claim7 := { stood := { row := fnExecuteOrdoRow, standIns := [], harness := (true, "c021ccb8ad09bfcdb092d4040d0fb8fe891255c62e00131115372c7c16b3fc33"), looks := true }, kinds := [], alts := [], laidByText := true, laidKinds := [.data, .data, .data, .data, .data, .data, .data, .data, .pinned], laidTests := true, laidLooks := .later }
def FnExecuteOrdoCardSaid : Prop := Claim7.holds Tryz.pinned (.plain (OpenSpec.ofChange fnExecuteOrdoSpec)) fnExecuteOrdoCard

/-- THE TIED CARD OF 'laws.FnExactExecute'. -/
def fnExactExecuteCard : Claim7 := { stood := { row := fnExactExecuteRow, standIns := [], harness := (true, "c021ccb8ad09bfcdb092d4040d0fb8fe891255c62e00131115372c7c16b3fc33"), looks := true }, kinds := [], alts := [], laidByText := true, laidKinds := [.data, .data, .data, .data, .data, .data, .data, .data, .pinned], laidTests := true, laidLooks := .later }
def FnExactExecuteCardSaid : Prop := Claim7.holds Tryz.pinned (.plain (OpenSpec.ofChange fnExactExecuteSpec)) fnExactExecuteCard

/-- THE SECOND FORM's CARD OF 'laws.FnExecuteNone'. -/
def fnExecuteNoneUptoCard : Claim7 := { stood := { row := fnExecuteNoneUptoRow, standIns := [], harness := (true, "c021ccb8ad09bfcdb092d4040d0fb8fe891255c62e00131115372c7c16b3fc33"), looks := true }, kinds := [], alts := [], laidByText := true, laidKinds := [.data, .data, .data, .data, .data, .data, .data, .data, .pinned], laidTests := true, laidLooks := .later }
def FnExecuteNoneUptoCardSaid : Prop := Claim7.holds Tryz.pinned (.plain (OpenSpec.upto fnExecuteNoneSpec)) fnExecuteNoneUptoCard

/-- THE SECOND FORM's CARD OF 'laws.FnExecuteWhat'. -/
def fnExecuteWhatUptoCard : Claim7 := { stood := { row := fnExecuteWhatUptoRow, standIns := [], harness := (true, "c021ccb8ad09bfcdb092d4040d0fb8fe891255c62e00131115372c7c16b3fc33"), looks := true }, kinds := [], alts := [], laidByText := true, laidKinds := [.data, .data, .data, .data, .data, .data, .data, .data, .pinned], laidTests := true, laidLooks := .later }
def FnExecuteWhatUptoCardSaid : Prop := Claim7.holds Tryz.pinned (.plain (OpenSpec.upto fnExecuteWhatSpec)) fnExecuteWhatUptoCard

/-- THE SECOND FORM's CARD OF 'laws.FnExecuteTwice'. -/
def fnExecuteTwiceUptoCard : Claim7 := { stood := { row := fnExecuteTwiceUptoRow, standIns := [], harness := (true, "c021ccb8ad09bfcdb092d4040d0fb8fe891255c62e00131115372c7c16b3fc33"), looks := true }, kinds := [], alts := [], laidByText := true, laidKinds := [.data, .data, .data, .data, .data, .data, .data, .data, .pinned], laidTests := true, laidLooks := .later }
def FnExecuteTwiceUptoCardSaid : Prop := Claim7.holds Tryz.pinned (.plain (OpenSpec.upto fnExecuteTwiceSpec)) fnExecuteTwiceUptoCard

/-- THE SECOND FORM's CARD OF 'laws.FnExecuteMelody'. -/
def fnExecuteMelodyUptoCard : Claim7 := { stood := { row := fnExecuteMelodyUptoRow, standIns := [], harness := (true, "c021ccb8ad09bfcdb092d4040d0fb8fe891255c62e00131115372c7c16b3fc33"), looks := true }, kinds := [], alts := [], laidByText := true, laidKinds := [.data, .data, .data, .data, .data, .data, .data, .data, .pinned], laidTests := true, laidLooks := .later }
def FnExecuteMelodyUptoCardSaid : Prop := Claim7.holds Tryz.pinned (.plain (OpenSpec.upto fnExecuteMelodySpec)) fnExecuteMelodyUptoCard

/-- THE SECOND FORM's CARD OF 'laws.FnExecuteMode'. -/
def fnExecuteModeUptoCard : Claim7 := { stood := { row := fnExecuteModeUptoRow, standIns := [], harness := (true, "c021ccb8ad09bfcdb092d4040d0fb8fe891255c62e00131115372c7c16b3fc33"), looks := true }, kinds := [], alts := [], laidByText := true, laidKinds := [.data, .data, .data, .data, .data, .data, .data, .data, .pinned], laidTests := true, laidLooks := .later }
def FnExecuteModeUptoCardSaid : Prop := Claim7.holds Tryz.pinned (.plain (OpenSpec.upto fnExecuteModeSpec)) fnExecuteModeUptoCard

/-- THE SECOND FORM's CARD OF 'laws.FnExecuteMove'. -/
def fnExecuteMoveUptoCard : Claim7 := { stood := { row := fnExecuteMoveUptoRow, standIns := [], harness := (true, "c021ccb8ad09bfcdb092d4040d0fb8fe891255c62e00131115372c7c16b3fc33"), looks := true }, kinds := [], alts := [], laidByText := true, laidKinds := [.data, .data, .data, .data, .data, .data, .data, .data, .pinned], laidTests := true, laidLooks := .later }
def FnExecuteMoveUptoCardSaid : Prop := Claim7.holds Tryz.pinned (.plain (OpenSpec.upto fnExecuteMoveSpec)) fnExecuteMoveUptoCard

/-- THE SECOND FORM's CARD OF 'laws.FnExecuteOrdo'. -/
def fnExecuteOrdoUptoCard : Claim7 := { stood := { row := fnExecuteOrdoUptoRow, standIns := [], harness := (true, "c021ccb8ad09bfcdb092d4040d0fb8fe891255c62e00131115372c7c16b3fc33"), looks := true }, kinds := [], alts := [], laidByText := true, laidKinds := [.data, .data, .data, .data, .data, .data, .data, .data, .pinned], laidTests := true, laidLooks := .later }
def FnExecuteOrdoUptoCardSaid : Prop := Claim7.holds Tryz.pinned (.plain (OpenSpec.upto fnExecuteOrdoSpec)) fnExecuteOrdoUptoCard

/-- THE SECOND FORM's CARD OF 'laws.FnExactExecute'. -/
def fnExactExecuteUptoCard : Claim7 := { stood := { row := fnExactExecuteUptoRow, standIns := [], harness := (true, "c021ccb8ad09bfcdb092d4040d0fb8fe891255c62e00131115372c7c16b3fc33"), looks := true }, kinds := [], alts := [], laidByText := true, laidKinds := [.data, .data, .data, .data, .data, .data, .data, .data, .pinned], laidTests := true, laidLooks := .later }
def FnExactExecuteUptoCardSaid : Prop := Claim7.holds Tryz.pinned (.plain (OpenSpec.upto fnExactExecuteSpec)) fnExactExecuteUptoCard
end Rows
end Go.Proofs.YtaelkgpebhdlhaaGreatDoor
