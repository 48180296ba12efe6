/-
  NARROWER THAN 'FOR EVERY INPUT', by the rows' own cells (each row's printed sentence says how): FnStemChanges: laid · FnStemFill: laid · FnStemFewest: laid · FnStemLost: laid · FnStemMove: laid · FnStemBest: laid · FnStemDepth: laid.
  DERIVED. THE GIVEN ROWS OF THIS SEAT. 7 by the template 'for every input the law returns true; each argument reads behind the call as it read before'; 0 by the template 'total and deterministic' (their statements: YtbeiedaldinhaaaDoorTotals.lean).
  GIVEN WITH THE SEED: the statements are not yours to turn. If you find one false, say at which input.
  Laid BY PROGRAM, IN A SANDBOX (cutbox-rows.mjs): the forced cells as the released guide's own fill.sh prints them over the translation 85750fcdad9af425… (all of the seat's roots in one cut). By AI agents, Wed Nov 11 2026. No macro, syntax, notation, axiom, sorry.
-/
import Derived.Test.YtbeiedaldinhaaaDoorChecked
import GoSem.PinnedTables
import GoSem.Claim
import GoSem.ClaimJoined
import GoSem.ClaimMapViews
import Derived.JoinedTies
import Derived.KernelRfl
namespace Go.Proofs.YtbeiedaldinhaaaDoor
/- THE CELL 'sum', in the pinned program and in every row, IS THE sha256 OF THE DUMP (.gsa) THAT YtbeiedaldinhaaaDoorProg.lean LOADS. Nothing in Lean hashes anything: it is a label: what it is worth is what the hold of that sum in a sandbox is worth. -/
noncomputable def Tryd.pinned : Pinned := { name := "ytbeiedaldinhaaadoor", sum := "85750fcdad9af4250b0b84a9422dc63360bbc55dd05a179ca3e295f3a081097e", checked := Tryd.checked }
namespace Rows
def none {H : Type} : Left H := { results := [], args := [] }

/- WHAT THE LISTED PACKAGE-LEVEL VARIABLES READ AS WHEN THE CALL BEGINS. Each datum BY PROGRAM (the guide's laid-datum.mjs) off the statement by which the dump's own 'gosem.cut.vars' lays the variable. In a bare row this is a premise. The card (YtbeiedaldinhaaaDoorCards.lean) ties it to the program's text. -/
def laid_unicode_utf8_acceptRanges {H : Type} : DataW H := .agg [.agg [.lit (.int .u8 128), .lit (.int .u8 191)], .agg [.lit (.int .u8 160), .lit (.int .u8 191)], .agg [.lit (.int .u8 128), .lit (.int .u8 159)], .agg [.lit (.int .u8 144), .lit (.int .u8 191)], .agg [.lit (.int .u8 128), .lit (.int .u8 143)], .agg [.lit (.int .u8 0), .lit (.int .u8 0)], .agg [.lit (.int .u8 0), .lit (.int .u8 0)], .agg [.lit (.int .u8 0), .lit (.int .u8 0)], .agg [.lit (.int .u8 0), .lit (.int .u8 0)], .agg [.lit (.int .u8 0), .lit (.int .u8 0)], .agg [.lit (.int .u8 0), .lit (.int .u8 0)], .agg [.lit (.int .u8 0), .lit (.int .u8 0)], .agg [.lit (.int .u8 0), .lit (.int .u8 0)], .agg [.lit (.int .u8 0), .lit (.int .u8 0)], .agg [.lit (.int .u8 0), .lit (.int .u8 0)], .agg [.lit (.int .u8 0), .lit (.int .u8 0)]]
/-- One of Go's own tables, pinned by name: the form's constant. -/
def laid_unicode_utf8_first : DataW Unit := Go.Pinned.utf8First

/-- 'laws.FnStemChanges': WHATEVER THE INPUT: true; the input reads as it did. -/
def fnStemChangesSpec : ChangeSpec := { name := "fnStemChanges", fn := fun _ => fun
  | [d] => { results := [.lit (.bool true)], args := [d] }
  | _ => none }
def fnStemChangesRow : OpenClaim := { program := "ytbeiedaldinhaaadoor", sum := "85750fcdad9af4250b0b84a9422dc63360bbc55dd05a179ca3e295f3a081097e", func := "loop.example/neumes/laws.FnStemChanges", spec := "fnStemChanges", inPlace := ["internal/bytealg.IndexByteString", "internal/bytealg.IndexString"], recurses := true, named := ["unicode/utf8.first", "unicode/utf8.acceptRanges", "internal/bytealg.MaxLen"], apart := false, laid := [("unicode/utf8.acceptRanges", laid_unicode_utf8_acceptRanges), ("unicode/utf8.first", laid_unicode_utf8_first)] }
def FnStemChangesSaid : Prop := fnStemChangesRow.holds Tryd.pinned (OpenSpec.ofChange fnStemChangesSpec)

/-- ITS FALSE NEIGHBOUR: 'it returns false'. Refute it at one input. -/
def fnStemChangesWrong : ChangeSpec := { name := "fnStemChanges", fn := fun _ => fun
  | [d] => { results := [.lit (.bool false)], args := [d] }
  | _ => none }
def FnStemChangesWrongFalsely : Prop := fnStemChangesRow.holds Tryd.pinned (OpenSpec.ofChange fnStemChangesWrong)

/-- 'laws.FnStemFill': WHATEVER THE INPUT: true; the input reads as it did. -/
def fnStemFillSpec : ChangeSpec := { name := "fnStemFill", fn := fun _ => fun
  | [d1, d2] => { results := [.lit (.bool true)], args := [d1, d2] }
  | _ => none }
def fnStemFillRow : OpenClaim := { program := "ytbeiedaldinhaaadoor", sum := "85750fcdad9af4250b0b84a9422dc63360bbc55dd05a179ca3e295f3a081097e", func := "loop.example/neumes/laws.FnStemFill", spec := "fnStemFill", inPlace := ["internal/bytealg.IndexByteString", "internal/bytealg.IndexString"], recurses := true, named := ["unicode/utf8.first", "unicode/utf8.acceptRanges", "internal/bytealg.MaxLen"], apart := false, laid := [("unicode/utf8.acceptRanges", laid_unicode_utf8_acceptRanges), ("unicode/utf8.first", laid_unicode_utf8_first)] }
def FnStemFillSaid : Prop := fnStemFillRow.holds Tryd.pinned (OpenSpec.ofChange fnStemFillSpec)

/-- ITS FALSE NEIGHBOUR: 'it returns false'. Refute it at one input. -/
def fnStemFillWrong : ChangeSpec := { name := "fnStemFill", fn := fun _ => fun
  | [d1, d2] => { results := [.lit (.bool false)], args := [d1, d2] }
  | _ => none }
def FnStemFillWrongFalsely : Prop := fnStemFillRow.holds Tryd.pinned (OpenSpec.ofChange fnStemFillWrong)

/-- 'laws.FnStemFewest': WHATEVER THE INPUT: true; the input reads as it did. -/
def fnStemFewestSpec : ChangeSpec := { name := "fnStemFewest", fn := fun _ => fun
  | [d] => { results := [.lit (.bool true)], args := [d] }
  | _ => none }
def fnStemFewestRow : OpenClaim := { program := "ytbeiedaldinhaaadoor", sum := "85750fcdad9af4250b0b84a9422dc63360bbc55dd05a179ca3e295f3a081097e", func := "loop.example/neumes/laws.FnStemFewest", spec := "fnStemFewest", inPlace := ["internal/bytealg.IndexByteString", "internal/bytealg.IndexString"], recurses := true, named := ["unicode/utf8.first", "unicode/utf8.acceptRanges", "internal/bytealg.MaxLen"], apart := false, laid := [("unicode/utf8.acceptRanges", laid_unicode_utf8_acceptRanges), ("unicode/utf8.first", laid_unicode_utf8_first)] }
def FnStemFewestSaid : Prop := fnStemFewestRow.holds Tryd.pinned (OpenSpec.ofChange fnStemFewestSpec)

/-- ITS FALSE NEIGHBOUR: 'it returns false'. Refute it at one input. -/
def fnStemFewestWrong : ChangeSpec := { name := "fnStemFewest", fn := fun _ => fun
  | [d] => { results := [.lit (.bool false)], args := [d] }
  | _ => none }
def FnStemFewestWrongFalsely : Prop := fnStemFewestRow.holds Tryd.pinned (OpenSpec.ofChange fnStemFewestWrong)

/-- 'laws.FnStemLost': WHATEVER THE INPUT: true; the input reads as it did. -/
def fnStemLostSpec : ChangeSpec := { name := "fnStemLost", fn := fun _ => fun
  | [d] => { results := [.lit (.bool true)], args := [d] }
  | _ => none }
def fnStemLostRow : OpenClaim := { program := "ytbeiedaldinhaaadoor", sum := "85750fcdad9af4250b0b84a9422dc63360bbc55dd05a179ca3e295f3a081097e", func := "loop.example/neumes/laws.FnStemLost", spec := "fnStemLost", inPlace := ["internal/bytealg.IndexByteString", "internal/bytealg.IndexString"], recurses := true, named := ["unicode/utf8.first", "unicode/utf8.acceptRanges", "internal/bytealg.MaxLen"], apart := false, laid := [("unicode/utf8.acceptRanges", laid_unicode_utf8_acceptRanges), ("unicode/utf8.first", laid_unicode_utf8_first)] }
def FnStemLostSaid : Prop := fnStemLostRow.holds Tryd.pinned (OpenSpec.ofChange fnStemLostSpec)

/-- ITS FALSE NEIGHBOUR: 'it returns false'. Refute it at one input. -/
def fnStemLostWrong : ChangeSpec := { name := "fnStemLost", fn := fun _ => fun
  | [d] => { results := [.lit (.bool false)], args := [d] }
  | _ => none }
def FnStemLostWrongFalsely : Prop := fnStemLostRow.holds Tryd.pinned (OpenSpec.ofChange fnStemLostWrong)

/-- 'laws.FnStemMove': WHATEVER THE INPUT: true; the input reads as it did. -/
def fnStemMoveSpec : ChangeSpec := { name := "fnStemMove", fn := fun _ => fun
  | [d] => { results := [.lit (.bool true)], args := [d] }
  | _ => none }
def fnStemMoveRow : OpenClaim := { program := "ytbeiedaldinhaaadoor", sum := "85750fcdad9af4250b0b84a9422dc63360bbc55dd05a179ca3e295f3a081097e", func := "loop.example/neumes/laws.FnStemMove", spec := "fnStemMove", inPlace := ["internal/bytealg.IndexByteString", "internal/bytealg.IndexString"], recurses := true, named := ["unicode/utf8.first", "unicode/utf8.acceptRanges", "internal/bytealg.MaxLen"], apart := false, laid := [("unicode/utf8.acceptRanges", laid_unicode_utf8_acceptRanges), ("unicode/utf8.first", laid_unicode_utf8_first)] }
def FnStemMoveSaid : Prop := fnStemMoveRow.holds Tryd.pinned (OpenSpec.ofChange fnStemMoveSpec)

/-- ITS FALSE NEIGHBOUR: 'it returns false'. Refute it at one input. -/
def fnStemMoveWrong : ChangeSpec := { name := "fnStemMove", fn := fun _ => fun
  | [d] => { results := [.lit (.bool false)], args := [d] }
  | _ => none }
def FnStemMoveWrongFalsely : Prop := fnStemMoveRow.holds Tryd.pinned (OpenSpec.ofChange fnStemMoveWrong)

/-- 'laws.FnStemBest': WHATEVER THE INPUT: true; the input reads as it did. -/
def fnStemBestSpec : ChangeSpec := { name := "fnStemBest", fn := fun _ => fun
  | [d] => { results := [.lit (.bool true)], args := [d] }
  | _ => none }
def fnStemBestRow : OpenClaim := { program := "ytbeiedaldinhaaadoor", sum := "85750fcdad9af4250b0b84a9422dc63360bbc55dd05a179ca3e295f3a081097e", func := "loop.example/neumes/laws.FnStemBest", spec := "fnStemBest", inPlace := ["internal/bytealg.IndexByteString", "internal/bytealg.IndexString"], named := ["unicode/utf8.first", "unicode/utf8.acceptRanges", "internal/bytealg.MaxLen"], apart := false, laid := [("unicode/utf8.acceptRanges", laid_unicode_utf8_acceptRanges), ("unicode/utf8.first", laid_unicode_utf8_first)] }
def FnStemBestSaid : Prop := fnStemBestRow.holds Tryd.pinned (OpenSpec.ofChange fnStemBestSpec)

/-- ITS FALSE NEIGHBOUR: 'it returns false'. Refute it at one input. -/
def fnStemBestWrong : ChangeSpec := { name := "fnStemBest", fn := fun _ => fun
  | [d] => { results := [.lit (.bool false)], args := [d] }
  | _ => none }
def FnStemBestWrongFalsely : Prop := fnStemBestRow.holds Tryd.pinned (OpenSpec.ofChange fnStemBestWrong)

/-- 'laws.FnStemDepth': WHATEVER THE INPUT: true; the input reads as it did. -/
def fnStemDepthSpec : ChangeSpec := { name := "fnStemDepth", fn := fun _ => fun
  | [d] => { results := [.lit (.bool true)], args := [d] }
  | _ => none }
def fnStemDepthRow : OpenClaim := { program := "ytbeiedaldinhaaadoor", sum := "85750fcdad9af4250b0b84a9422dc63360bbc55dd05a179ca3e295f3a081097e", func := "loop.example/neumes/laws.FnStemDepth", spec := "fnStemDepth", inPlace := ["internal/bytealg.IndexByteString", "internal/bytealg.IndexString"], named := ["unicode/utf8.first", "unicode/utf8.acceptRanges", "internal/bytealg.MaxLen"], apart := false, laid := [("unicode/utf8.acceptRanges", laid_unicode_utf8_acceptRanges), ("unicode/utf8.first", laid_unicode_utf8_first)] }
def FnStemDepthSaid : Prop := fnStemDepthRow.holds Tryd.pinned (OpenSpec.ofChange fnStemDepthSpec)

/-- ITS FALSE NEIGHBOUR: 'it returns false'. Refute it at one input. -/
def fnStemDepthWrong : ChangeSpec := { name := "fnStemDepth", fn := fun _ => fun
  | [d] => { results := [.lit (.bool false)], args := [d] }
  | _ => none }
def FnStemDepthWrongFalsely : Prop := fnStemDepthRow.holds Tryd.pinned (OpenSpec.ofChange fnStemDepthWrong)

/- THE SECOND FORM. 'bulk': how many values and letters a reading holds, each counted each time it is reached (what is shared counts as often as it is met; a slice's spare places count too). A statement '..UptoSaid' is the law's where the arguments, and the package variables that the reading takes, are together of bulk at most 1048576: NARROWER than '..Said'. Prove '..Said' where nothing that the law and all that it calls make is longer than what came in: it says more and counts as full. Else prove '..UptoSaid'. A law counts once. -/
mutual
def uptoBulk {H : Type} : DataW H → Nat
  | .lit (.string bytes) => bytes.length + 1
  | .lit _ => 1
  | .nil => 1
  | .ptr d => uptoBulk d + 1
  | .slice elems spare => uptoBulkAll elems + uptoBulkAll spare + 1
  | .agg parts => uptoBulkAll parts + 1
  | .iface _ d => uptoBulk d + 1
  | .map entries => uptoBulkEntries entries + 1
  | .held _ => 1
def uptoBulkAll {H : Type} : List (DataW H) → Nat
  | [] => 0
  | d :: r => uptoBulk d + uptoBulkAll r
def uptoBulkEntries {H : Type} : List (Lit × DataW H) → Nat
  | [] => 0
  | x :: r => uptoBulkEntry x + uptoBulkEntries r
def uptoBulkEntry {H : Type} : Lit × DataW H → Nat
  | (.string bytes, d) => bytes.length + uptoBulk d + 1
  | (_, d) => uptoBulk d + 1
 end
def uptoSmall : (H : Type) → List (DataW H) → Bool := fun _ ds => decide (uptoBulkAll ds ≤ 1048576)
def OpenSpec.upto (s : _root_.Go.ChangeSpec) : _root_.Go.OpenSpec := { _root_.Go.OpenSpec.ofChange s with cond := some uptoSmall }

/-- 'laws.FnStemChanges', WHERE WHAT IT READS IS OF BULK AT MOST 1048576: true; the input reads as it did. -/
def fnStemChangesUptoRow : OpenClaim := { program := "ytbeiedaldinhaaadoor", sum := "85750fcdad9af4250b0b84a9422dc63360bbc55dd05a179ca3e295f3a081097e", func := "loop.example/neumes/laws.FnStemChanges", spec := "fnStemChanges", inPlace := ["internal/bytealg.IndexByteString", "internal/bytealg.IndexString"], recurses := true, named := ["unicode/utf8.first", "unicode/utf8.acceptRanges", "internal/bytealg.MaxLen"], apart := false, laid := [("unicode/utf8.acceptRanges", laid_unicode_utf8_acceptRanges), ("unicode/utf8.first", laid_unicode_utf8_first)], narrowed := true }
def FnStemChangesUptoSaid : Prop := fnStemChangesUptoRow.holds Tryd.pinned (OpenSpec.upto fnStemChangesSpec)

/-- 'laws.FnStemFill', WHERE WHAT IT READS IS OF BULK AT MOST 1048576: true; the input reads as it did. -/
def fnStemFillUptoRow : OpenClaim := { program := "ytbeiedaldinhaaadoor", sum := "85750fcdad9af4250b0b84a9422dc63360bbc55dd05a179ca3e295f3a081097e", func := "loop.example/neumes/laws.FnStemFill", spec := "fnStemFill", inPlace := ["internal/bytealg.IndexByteString", "internal/bytealg.IndexString"], recurses := true, named := ["unicode/utf8.first", "unicode/utf8.acceptRanges", "internal/bytealg.MaxLen"], apart := false, laid := [("unicode/utf8.acceptRanges", laid_unicode_utf8_acceptRanges), ("unicode/utf8.first", laid_unicode_utf8_first)], narrowed := true }
def FnStemFillUptoSaid : Prop := fnStemFillUptoRow.holds Tryd.pinned (OpenSpec.upto fnStemFillSpec)

/-- 'laws.FnStemFewest', WHERE WHAT IT READS IS OF BULK AT MOST 1048576: true; the input reads as it did. -/
def fnStemFewestUptoRow : OpenClaim := { program := "ytbeiedaldinhaaadoor", sum := "85750fcdad9af4250b0b84a9422dc63360bbc55dd05a179ca3e295f3a081097e", func := "loop.example/neumes/laws.FnStemFewest", spec := "fnStemFewest", inPlace := ["internal/bytealg.IndexByteString", "internal/bytealg.IndexString"], recurses := true, named := ["unicode/utf8.first", "unicode/utf8.acceptRanges", "internal/bytealg.MaxLen"], apart := false, laid := [("unicode/utf8.acceptRanges", laid_unicode_utf8_acceptRanges), ("unicode/utf8.first", laid_unicode_utf8_first)], narrowed := true }
def FnStemFewestUptoSaid : Prop := fnStemFewestUptoRow.holds Tryd.pinned (OpenSpec.upto fnStemFewestSpec)

/-- 'laws.FnStemLost', WHERE WHAT IT READS IS OF BULK AT MOST 1048576: true; the input reads as it did. -/
def fnStemLostUptoRow : OpenClaim := { program := "ytbeiedaldinhaaadoor", sum := "85750fcdad9af4250b0b84a9422dc63360bbc55dd05a179ca3e295f3a081097e", func := "loop.example/neumes/laws.FnStemLost", spec := "fnStemLost", inPlace := ["internal/bytealg.IndexByteString", "internal/bytealg.IndexString"], recurses := true, named := ["unicode/utf8.first", "unicode/utf8.acceptRanges", "internal/bytealg.MaxLen"], apart := false, laid := [("unicode/utf8.acceptRanges", laid_unicode_utf8_acceptRanges), ("unicode/utf8.first", laid_unicode_utf8_first)], narrowed := true }
def FnStemLostUptoSaid : Prop := fnStemLostUptoRow.holds Tryd.pinned (OpenSpec.upto fnStemLostSpec)

/-- 'laws.FnStemMove', WHERE WHAT IT READS IS OF BULK AT MOST 1048576: true; the input reads as it did. -/
def fnStemMoveUptoRow : OpenClaim := { program := "ytbeiedaldinhaaadoor", sum := "85750fcdad9af4250b0b84a9422dc63360bbc55dd05a179ca3e295f3a081097e", func := "loop.example/neumes/laws.FnStemMove", spec := "fnStemMove", inPlace := ["internal/bytealg.IndexByteString", "internal/bytealg.IndexString"], recurses := true, named := ["unicode/utf8.first", "unicode/utf8.acceptRanges", "internal/bytealg.MaxLen"], apart := false, laid := [("unicode/utf8.acceptRanges", laid_unicode_utf8_acceptRanges), ("unicode/utf8.first", laid_unicode_utf8_first)], narrowed := true }
def FnStemMoveUptoSaid : Prop := fnStemMoveUptoRow.holds Tryd.pinned (OpenSpec.upto fnStemMoveSpec)

/-- 'laws.FnStemBest', WHERE WHAT IT READS IS OF BULK AT MOST 1048576: true; the input reads as it did. -/
def fnStemBestUptoRow : OpenClaim := { program := "ytbeiedaldinhaaadoor", sum := "85750fcdad9af4250b0b84a9422dc63360bbc55dd05a179ca3e295f3a081097e", func := "loop.example/neumes/laws.FnStemBest", spec := "fnStemBest", inPlace := ["internal/bytealg.IndexByteString", "internal/bytealg.IndexString"], named := ["unicode/utf8.first", "unicode/utf8.acceptRanges", "internal/bytealg.MaxLen"], apart := false, laid := [("unicode/utf8.acceptRanges", laid_unicode_utf8_acceptRanges), ("unicode/utf8.first", laid_unicode_utf8_first)], narrowed := true }
def FnStemBestUptoSaid : Prop := fnStemBestUptoRow.holds Tryd.pinned (OpenSpec.upto fnStemBestSpec)

/-- 'laws.FnStemDepth', WHERE WHAT IT READS IS OF BULK AT MOST 1048576: true; the input reads as it did. -/
def fnStemDepthUptoRow : OpenClaim := { program := "ytbeiedaldinhaaadoor", sum := "85750fcdad9af4250b0b84a9422dc63360bbc55dd05a179ca3e295f3a081097e", func := "loop.example/neumes/laws.FnStemDepth", spec := "fnStemDepth", inPlace := ["internal/bytealg.IndexByteString", "internal/bytealg.IndexString"], named := ["unicode/utf8.first", "unicode/utf8.acceptRanges", "internal/bytealg.MaxLen"], apart := false, laid := [("unicode/utf8.acceptRanges", laid_unicode_utf8_acceptRanges), ("unicode/utf8.first", laid_unicode_utf8_first)], narrowed := true }
def FnStemDepthUptoSaid : Prop := fnStemDepthUptoRow.holds Tryd.pinned (OpenSpec.upto fnStemDepthSpec)

end Rows
end Go.Proofs.YtbeiedaldinhaaaDoor
