/-
  DERIVED. GIVEN WITH THE SEED: THE CARDS: each row of YthnofdkkocpjhaaDoorRows.lean that lists a variable, with what it lists TIED to the program's text (the seventh form; the later family's looks); each row that meets fmt, with fmt's text TOLD by the authors' own Lean function (tested against real Go, not proved from fmt's source: count such statements apart). THE CARD IS WHAT COUNTS. Prove the row's statement (the work); the ties are given (YthnofdkkocpjhaaDoorTie.lean); close each card by the builder's one call (the guide's Derived/Test/ToyasCard.lean, 'card_holds'). Laid BY PROGRAM, IN A SANDBOX (cutbox-door.mjs). By AI agents, Wed Nov 11 2026. No macro, syntax, notation, axiom, sorry.
-/
import Derived.Test.YthnofdkkocpjhaaDoorRows
import GoSem.ClaimSeven
namespace Go.Proofs.YthnofdkkocpjhaaDoor
namespace Rows

/-- THE TIED CARD OF 'laws.FnMelodyJoin'. -/
def fnMelodyJoinCard : Claim7 := { stood := { row := fnMelodyJoinRow, standIns := [], harness := (true, "7758b80109996ba8911415e3492fbab58d27d9909607ff826f0be7e1dbbe05d0"), looks := false }, kinds := [], alts := [], laidByText := true, laidKinds := [.data, .data, .data], laidTests := true, laidLooks := .later }
def FnMelodyJoinCardSaid : Prop := Claim7.holds Tryd.pinned (.plain (OpenSpec.ofChange fnMelodyJoinSpec)) fnMelodyJoinCard

/-- THE TIED CARD OF 'laws.FnSing'. -/
def fnSingCard : Claim7 := { stood := { row := fnSingRow, standIns := [], harness := (true, "7758b80109996ba8911415e3492fbab58d27d9909607ff826f0be7e1dbbe05d0"), looks := false }, kinds := [], alts := [], laidByText := true, laidKinds := [.data], laidTests := true, laidLooks := .later }
def FnSingCardSaid : Prop := Claim7.holds Tryd.pinned (.plain (OpenSpec.ofChange fnSingSpec)) fnSingCard

/-- THE SECOND FORM's CARD OF 'laws.FnMelodyJoin'. -/
def fnMelodyJoinUptoCard : Claim7 := { stood := { row := fnMelodyJoinUptoRow, standIns := [], harness := (true, "7758b80109996ba8911415e3492fbab58d27d9909607ff826f0be7e1dbbe05d0"), looks := false }, kinds := [], alts := [], laidByText := true, laidKinds := [.data, .data, .data], laidTests := true, laidLooks := .later }
def FnMelodyJoinUptoCardSaid : Prop := Claim7.holds Tryd.pinned (.plain (OpenSpec.upto fnMelodyJoinSpec)) fnMelodyJoinUptoCard

/-- THE SECOND FORM's CARD OF 'laws.FnSing'. -/
def fnSingUptoCard : Claim7 := { stood := { row := fnSingUptoRow, standIns := [], harness := (true, "7758b80109996ba8911415e3492fbab58d27d9909607ff826f0be7e1dbbe05d0"), looks := false }, kinds := [], alts := [], laidByText := true, laidKinds := [.data], laidTests := true, laidLooks := .later }
def FnSingUptoCardSaid : Prop := Claim7.holds Tryd.pinned (.plain (OpenSpec.upto fnSingSpec)) fnSingUptoCard
end Rows
end Go.Proofs.YthnofdkkocpjhaaDoor
