/-
  NARROWER THAN 'FOR EVERY INPUT', by the rows' own cells (each row's printed sentence says how): FnExactBooksValid: laid · FnExactBooksFar: laid · FnExactBooksCommon: laid · FnExactStemValid: laid · FnExactStemChanges: laid · FnExactStemFewest: laid · FnExactStemFill: laid · FnExactStemMove: laid · FnExactStemBest: laid · FnExactStemDepth: laid · FnBooksFar: laid · FnBooksCommon: laid.
  DERIVED. THE GIVEN ROWS OF THIS SEAT. 12 by the template 'for every input the law returns true; each argument reads behind the call as it read before'; 0 by the template 'total and deterministic' (their statements: YthhndlefafcdeaaDoorTotals.lean).
  GIVEN WITH THE SEED: the statements are not yours to turn. If you find one false, say at which input.
  Laid BY PROGRAM, IN A SANDBOX (cutbox-rows.mjs): the forced cells as the released guide's own fill.sh prints them over the translation 717c62754b112cd7… (all of the seat's roots in one cut). By AI agents, Wed Nov 11 2026. No macro, syntax, notation, axiom, sorry.
-/
import Derived.Test.YthhndlefafcdeaaDoorChecked
import GoSem.PinnedTables
import GoSem.Claim
import GoSem.ClaimJoined
import GoSem.ClaimMapViews
import Derived.JoinedTies
import Derived.KernelRfl
namespace Go.Proofs.YthhndlefafcdeaaDoor
/- THE CELL 'sum', in the pinned program and in every row, IS THE sha256 OF THE DUMP (.gsa) THAT YthhndlefafcdeaaDoorProg.lean LOADS. Nothing in Lean hashes anything: it is a label: what it is worth is what the hold of that sum in a sandbox is worth. -/
noncomputable def Tryd.pinned : Pinned := { name := "ythhndlefafcdeaadoor", sum := "717c62754b112cd7106c146909bfabd8d2850dfc64c678cbde1123a94514c6a4", checked := Tryd.checked }
namespace Rows
def none {H : Type} : Left H := { results := [], args := [] }

/- WHAT THE LISTED PACKAGE-LEVEL VARIABLES READ AS WHEN THE CALL BEGINS. Each datum BY PROGRAM (the guide's laid-datum.mjs) off the statement by which the dump's own 'gosem.cut.vars' lays the variable. In a bare row this is a premise. The card (YthhndlefafcdeaaDoorCards.lean) ties it to the program's text. -/
def laid_unicode_utf8_acceptRanges {H : Type} : DataW H := .agg [.agg [.lit (.int .u8 128), .lit (.int .u8 191)], .agg [.lit (.int .u8 160), .lit (.int .u8 191)], .agg [.lit (.int .u8 128), .lit (.int .u8 159)], .agg [.lit (.int .u8 144), .lit (.int .u8 191)], .agg [.lit (.int .u8 128), .lit (.int .u8 143)], .agg [.lit (.int .u8 0), .lit (.int .u8 0)], .agg [.lit (.int .u8 0), .lit (.int .u8 0)], .agg [.lit (.int .u8 0), .lit (.int .u8 0)], .agg [.lit (.int .u8 0), .lit (.int .u8 0)], .agg [.lit (.int .u8 0), .lit (.int .u8 0)], .agg [.lit (.int .u8 0), .lit (.int .u8 0)], .agg [.lit (.int .u8 0), .lit (.int .u8 0)], .agg [.lit (.int .u8 0), .lit (.int .u8 0)], .agg [.lit (.int .u8 0), .lit (.int .u8 0)], .agg [.lit (.int .u8 0), .lit (.int .u8 0)], .agg [.lit (.int .u8 0), .lit (.int .u8 0)]]
/-- One of Go's own tables, pinned by name: the form's constant. -/
def laid_unicode_utf8_first : DataW Unit := Go.Pinned.utf8First

/-- 'laws.FnExactBooksValid': WHATEVER THE INPUT: true; the input reads as it did. -/
def fnExactBooksValidSpec : ChangeSpec := { name := "fnExactBooksValid", fn := fun _ => fun
  | [d] => { results := [.lit (.bool true)], args := [d] }
  | _ => none }
def fnExactBooksValidRow : OpenClaim := { program := "ythhndlefafcdeaadoor", sum := "717c62754b112cd7106c146909bfabd8d2850dfc64c678cbde1123a94514c6a4", func := "loop.example/neumes/laws.FnExactBooksValid", spec := "fnExactBooksValid", inPlace := ["internal/bytealg.IndexByteString", "internal/bytealg.IndexString"], named := ["unicode/utf8.first", "unicode/utf8.acceptRanges", "internal/bytealg.MaxLen"], apart := false, laid := [("unicode/utf8.acceptRanges", laid_unicode_utf8_acceptRanges), ("unicode/utf8.first", laid_unicode_utf8_first)] }
def FnExactBooksValidSaid : Prop := fnExactBooksValidRow.holds Tryd.pinned (OpenSpec.ofChange fnExactBooksValidSpec)

/-- ITS FALSE NEIGHBOUR: 'it returns false'. Refute it at one input. -/
def fnExactBooksValidWrong : ChangeSpec := { name := "fnExactBooksValid", fn := fun _ => fun
  | [d] => { results := [.lit (.bool false)], args := [d] }
  | _ => none }
def FnExactBooksValidWrongFalsely : Prop := fnExactBooksValidRow.holds Tryd.pinned (OpenSpec.ofChange fnExactBooksValidWrong)

/-- 'laws.FnExactBooksFar': WHATEVER THE INPUT: true; the input reads as it did. -/
def fnExactBooksFarSpec : ChangeSpec := { name := "fnExactBooksFar", fn := fun _ => fun
  | [d1, d2, d3] => { results := [.lit (.bool true)], args := [d1, d2, d3] }
  | _ => none }
def fnExactBooksFarRow : OpenClaim := { program := "ythhndlefafcdeaadoor", sum := "717c62754b112cd7106c146909bfabd8d2850dfc64c678cbde1123a94514c6a4", func := "loop.example/neumes/laws.FnExactBooksFar", spec := "fnExactBooksFar", inPlace := ["internal/bytealg.IndexByteString", "internal/bytealg.IndexString"], named := ["unicode/utf8.first", "unicode/utf8.acceptRanges", "internal/bytealg.MaxLen"], apart := false, laid := [("unicode/utf8.acceptRanges", laid_unicode_utf8_acceptRanges), ("unicode/utf8.first", laid_unicode_utf8_first)] }
def FnExactBooksFarSaid : Prop := fnExactBooksFarRow.holds Tryd.pinned (OpenSpec.ofChange fnExactBooksFarSpec)

/-- ITS FALSE NEIGHBOUR: 'it returns false'. Refute it at one input. -/
def fnExactBooksFarWrong : ChangeSpec := { name := "fnExactBooksFar", fn := fun _ => fun
  | [d1, d2, d3] => { results := [.lit (.bool false)], args := [d1, d2, d3] }
  | _ => none }
def FnExactBooksFarWrongFalsely : Prop := fnExactBooksFarRow.holds Tryd.pinned (OpenSpec.ofChange fnExactBooksFarWrong)

/-- 'laws.FnExactBooksCommon': WHATEVER THE INPUT: true; the input reads as it did. -/
def fnExactBooksCommonSpec : ChangeSpec := { name := "fnExactBooksCommon", fn := fun _ => fun
  | [d] => { results := [.lit (.bool true)], args := [d] }
  | _ => none }
def fnExactBooksCommonRow : OpenClaim := { program := "ythhndlefafcdeaadoor", sum := "717c62754b112cd7106c146909bfabd8d2850dfc64c678cbde1123a94514c6a4", func := "loop.example/neumes/laws.FnExactBooksCommon", spec := "fnExactBooksCommon", inPlace := ["internal/bytealg.IndexByteString", "internal/bytealg.IndexString"], named := ["unicode/utf8.first", "unicode/utf8.acceptRanges", "internal/bytealg.MaxLen"], apart := false, laid := [("unicode/utf8.acceptRanges", laid_unicode_utf8_acceptRanges), ("unicode/utf8.first", laid_unicode_utf8_first)] }
def FnExactBooksCommonSaid : Prop := fnExactBooksCommonRow.holds Tryd.pinned (OpenSpec.ofChange fnExactBooksCommonSpec)

/-- ITS FALSE NEIGHBOUR: 'it returns false'. Refute it at one input. -/
def fnExactBooksCommonWrong : ChangeSpec := { name := "fnExactBooksCommon", fn := fun _ => fun
  | [d] => { results := [.lit (.bool false)], args := [d] }
  | _ => none }
def FnExactBooksCommonWrongFalsely : Prop := fnExactBooksCommonRow.holds Tryd.pinned (OpenSpec.ofChange fnExactBooksCommonWrong)

/-- 'laws.FnExactStemValid': WHATEVER THE INPUT: true; the input reads as it did. -/
def fnExactStemValidSpec : ChangeSpec := { name := "fnExactStemValid", fn := fun _ => fun
  | [d1, d2] => { results := [.lit (.bool true)], args := [d1, d2] }
  | _ => none }
def fnExactStemValidRow : OpenClaim := { program := "ythhndlefafcdeaadoor", sum := "717c62754b112cd7106c146909bfabd8d2850dfc64c678cbde1123a94514c6a4", func := "loop.example/neumes/laws.FnExactStemValid", spec := "fnExactStemValid", inPlace := ["internal/bytealg.IndexByteString", "internal/bytealg.IndexString"], named := ["unicode/utf8.first", "unicode/utf8.acceptRanges", "internal/bytealg.MaxLen"], apart := false, laid := [("unicode/utf8.acceptRanges", laid_unicode_utf8_acceptRanges), ("unicode/utf8.first", laid_unicode_utf8_first)] }
def FnExactStemValidSaid : Prop := fnExactStemValidRow.holds Tryd.pinned (OpenSpec.ofChange fnExactStemValidSpec)

/-- ITS FALSE NEIGHBOUR: 'it returns false'. Refute it at one input. -/
def fnExactStemValidWrong : ChangeSpec := { name := "fnExactStemValid", fn := fun _ => fun
  | [d1, d2] => { results := [.lit (.bool false)], args := [d1, d2] }
  | _ => none }
def FnExactStemValidWrongFalsely : Prop := fnExactStemValidRow.holds Tryd.pinned (OpenSpec.ofChange fnExactStemValidWrong)

/-- 'laws.FnExactStemChanges': WHATEVER THE INPUT: true; the input reads as it did. -/
def fnExactStemChangesSpec : ChangeSpec := { name := "fnExactStemChanges", fn := fun _ => fun
  | [d1, d2] => { results := [.lit (.bool true)], args := [d1, d2] }
  | _ => none }
def fnExactStemChangesRow : OpenClaim := { program := "ythhndlefafcdeaadoor", sum := "717c62754b112cd7106c146909bfabd8d2850dfc64c678cbde1123a94514c6a4", func := "loop.example/neumes/laws.FnExactStemChanges", spec := "fnExactStemChanges", inPlace := ["internal/bytealg.IndexByteString", "internal/bytealg.IndexString"], named := ["unicode/utf8.first", "unicode/utf8.acceptRanges", "internal/bytealg.MaxLen"], apart := false, laid := [("unicode/utf8.acceptRanges", laid_unicode_utf8_acceptRanges), ("unicode/utf8.first", laid_unicode_utf8_first)] }
def FnExactStemChangesSaid : Prop := fnExactStemChangesRow.holds Tryd.pinned (OpenSpec.ofChange fnExactStemChangesSpec)

/-- ITS FALSE NEIGHBOUR: 'it returns false'. Refute it at one input. -/
def fnExactStemChangesWrong : ChangeSpec := { name := "fnExactStemChanges", fn := fun _ => fun
  | [d1, d2] => { results := [.lit (.bool false)], args := [d1, d2] }
  | _ => none }
def FnExactStemChangesWrongFalsely : Prop := fnExactStemChangesRow.holds Tryd.pinned (OpenSpec.ofChange fnExactStemChangesWrong)

/-- 'laws.FnExactStemFewest': WHATEVER THE INPUT: true; the input reads as it did. -/
def fnExactStemFewestSpec : ChangeSpec := { name := "fnExactStemFewest", fn := fun _ => fun
  | [d1, d2] => { results := [.lit (.bool true)], args := [d1, d2] }
  | _ => none }
def fnExactStemFewestRow : OpenClaim := { program := "ythhndlefafcdeaadoor", sum := "717c62754b112cd7106c146909bfabd8d2850dfc64c678cbde1123a94514c6a4", func := "loop.example/neumes/laws.FnExactStemFewest", spec := "fnExactStemFewest", inPlace := ["internal/bytealg.IndexByteString", "internal/bytealg.IndexString"], recurses := true, named := ["unicode/utf8.first", "unicode/utf8.acceptRanges", "internal/bytealg.MaxLen"], apart := false, laid := [("unicode/utf8.acceptRanges", laid_unicode_utf8_acceptRanges), ("unicode/utf8.first", laid_unicode_utf8_first)] }
def FnExactStemFewestSaid : Prop := fnExactStemFewestRow.holds Tryd.pinned (OpenSpec.ofChange fnExactStemFewestSpec)

/-- ITS FALSE NEIGHBOUR: 'it returns false'. Refute it at one input. -/
def fnExactStemFewestWrong : ChangeSpec := { name := "fnExactStemFewest", fn := fun _ => fun
  | [d1, d2] => { results := [.lit (.bool false)], args := [d1, d2] }
  | _ => none }
def FnExactStemFewestWrongFalsely : Prop := fnExactStemFewestRow.holds Tryd.pinned (OpenSpec.ofChange fnExactStemFewestWrong)

/-- 'laws.FnExactStemFill': WHATEVER THE INPUT: true; the input reads as it did. -/
def fnExactStemFillSpec : ChangeSpec := { name := "fnExactStemFill", fn := fun _ => fun
  | [d1, d2] => { results := [.lit (.bool true)], args := [d1, d2] }
  | _ => none }
def fnExactStemFillRow : OpenClaim := { program := "ythhndlefafcdeaadoor", sum := "717c62754b112cd7106c146909bfabd8d2850dfc64c678cbde1123a94514c6a4", func := "loop.example/neumes/laws.FnExactStemFill", spec := "fnExactStemFill", inPlace := ["internal/bytealg.IndexByteString", "internal/bytealg.IndexString"], recurses := true, named := ["unicode/utf8.first", "unicode/utf8.acceptRanges", "internal/bytealg.MaxLen"], apart := false, laid := [("unicode/utf8.acceptRanges", laid_unicode_utf8_acceptRanges), ("unicode/utf8.first", laid_unicode_utf8_first)] }
def FnExactStemFillSaid : Prop := fnExactStemFillRow.holds Tryd.pinned (OpenSpec.ofChange fnExactStemFillSpec)

/-- ITS FALSE NEIGHBOUR: 'it returns false'. Refute it at one input. -/
def fnExactStemFillWrong : ChangeSpec := { name := "fnExactStemFill", fn := fun _ => fun
  | [d1, d2] => { results := [.lit (.bool false)], args := [d1, d2] }
  | _ => none }
def FnExactStemFillWrongFalsely : Prop := fnExactStemFillRow.holds Tryd.pinned (OpenSpec.ofChange fnExactStemFillWrong)

/-- 'laws.FnExactStemMove': WHATEVER THE INPUT: true; the input reads as it did. -/
def fnExactStemMoveSpec : ChangeSpec := { name := "fnExactStemMove", fn := fun _ => fun
  | [d1, d2, d3, d4] => { results := [.lit (.bool true)], args := [d1, d2, d3, d4] }
  | _ => none }
def fnExactStemMoveRow : OpenClaim := { program := "ythhndlefafcdeaadoor", sum := "717c62754b112cd7106c146909bfabd8d2850dfc64c678cbde1123a94514c6a4", func := "loop.example/neumes/laws.FnExactStemMove", spec := "fnExactStemMove", inPlace := ["internal/bytealg.IndexByteString", "internal/bytealg.IndexString"], named := ["unicode/utf8.first", "unicode/utf8.acceptRanges", "internal/bytealg.MaxLen"], apart := false, laid := [("unicode/utf8.acceptRanges", laid_unicode_utf8_acceptRanges), ("unicode/utf8.first", laid_unicode_utf8_first)] }
def FnExactStemMoveSaid : Prop := fnExactStemMoveRow.holds Tryd.pinned (OpenSpec.ofChange fnExactStemMoveSpec)

/-- ITS FALSE NEIGHBOUR: 'it returns false'. Refute it at one input. -/
def fnExactStemMoveWrong : ChangeSpec := { name := "fnExactStemMove", fn := fun _ => fun
  | [d1, d2, d3, d4] => { results := [.lit (.bool false)], args := [d1, d2, d3, d4] }
  | _ => none }
def FnExactStemMoveWrongFalsely : Prop := fnExactStemMoveRow.holds Tryd.pinned (OpenSpec.ofChange fnExactStemMoveWrong)

/-- 'laws.FnExactStemBest': WHATEVER THE INPUT: true; the input reads as it did. -/
def fnExactStemBestSpec : ChangeSpec := { name := "fnExactStemBest", fn := fun _ => fun
  | [d] => { results := [.lit (.bool true)], args := [d] }
  | _ => none }
def fnExactStemBestRow : OpenClaim := { program := "ythhndlefafcdeaadoor", sum := "717c62754b112cd7106c146909bfabd8d2850dfc64c678cbde1123a94514c6a4", func := "loop.example/neumes/laws.FnExactStemBest", spec := "fnExactStemBest", inPlace := ["internal/bytealg.IndexByteString", "internal/bytealg.IndexString"], named := ["unicode/utf8.first", "unicode/utf8.acceptRanges", "internal/bytealg.MaxLen"], apart := false, laid := [("unicode/utf8.acceptRanges", laid_unicode_utf8_acceptRanges), ("unicode/utf8.first", laid_unicode_utf8_first)] }
def FnExactStemBestSaid : Prop := fnExactStemBestRow.holds Tryd.pinned (OpenSpec.ofChange fnExactStemBestSpec)

/-- ITS FALSE NEIGHBOUR: 'it returns false'. Refute it at one input. -/
def fnExactStemBestWrong : ChangeSpec := { name := "fnExactStemBest", fn := fun _ => fun
  | [d] => { results := [.lit (.bool false)], args := [d] }
  | _ => none }
def FnExactStemBestWrongFalsely : Prop := fnExactStemBestRow.holds Tryd.pinned (OpenSpec.ofChange fnExactStemBestWrong)

/-- 'laws.FnExactStemDepth': WHATEVER THE INPUT: true; the input reads as it did. -/
def fnExactStemDepthSpec : ChangeSpec := { name := "fnExactStemDepth", fn := fun _ => fun
  | [d1, d2, d3] => { results := [.lit (.bool true)], args := [d1, d2, d3] }
  | _ => none }
def fnExactStemDepthRow : OpenClaim := { program := "ythhndlefafcdeaadoor", sum := "717c62754b112cd7106c146909bfabd8d2850dfc64c678cbde1123a94514c6a4", func := "loop.example/neumes/laws.FnExactStemDepth", spec := "fnExactStemDepth", inPlace := ["internal/bytealg.IndexByteString", "internal/bytealg.IndexString"], named := ["unicode/utf8.first", "unicode/utf8.acceptRanges", "internal/bytealg.MaxLen"], apart := false, laid := [("unicode/utf8.acceptRanges", laid_unicode_utf8_acceptRanges), ("unicode/utf8.first", laid_unicode_utf8_first)] }
def FnExactStemDepthSaid : Prop := fnExactStemDepthRow.holds Tryd.pinned (OpenSpec.ofChange fnExactStemDepthSpec)

/-- ITS FALSE NEIGHBOUR: 'it returns false'. Refute it at one input. -/
def fnExactStemDepthWrong : ChangeSpec := { name := "fnExactStemDepth", fn := fun _ => fun
  | [d1, d2, d3] => { results := [.lit (.bool false)], args := [d1, d2, d3] }
  | _ => none }
def FnExactStemDepthWrongFalsely : Prop := fnExactStemDepthRow.holds Tryd.pinned (OpenSpec.ofChange fnExactStemDepthWrong)

/-- 'laws.FnBooksFar': WHATEVER THE INPUT: true; the input reads as it did. -/
def fnBooksFarSpec : ChangeSpec := { name := "fnBooksFar", fn := fun _ => fun
  | [d1, d2] => { results := [.lit (.bool true)], args := [d1, d2] }
  | _ => none }
def fnBooksFarRow : OpenClaim := { program := "ythhndlefafcdeaadoor", sum := "717c62754b112cd7106c146909bfabd8d2850dfc64c678cbde1123a94514c6a4", func := "loop.example/neumes/laws.FnBooksFar", spec := "fnBooksFar", inPlace := ["internal/bytealg.IndexByteString", "internal/bytealg.IndexString"], named := ["unicode/utf8.first", "unicode/utf8.acceptRanges", "internal/bytealg.MaxLen"], apart := false, laid := [("unicode/utf8.acceptRanges", laid_unicode_utf8_acceptRanges), ("unicode/utf8.first", laid_unicode_utf8_first)] }
def FnBooksFarSaid : Prop := fnBooksFarRow.holds Tryd.pinned (OpenSpec.ofChange fnBooksFarSpec)

/-- ITS FALSE NEIGHBOUR: 'it returns false'. Refute it at one input. -/
def fnBooksFarWrong : ChangeSpec := { name := "fnBooksFar", fn := fun _ => fun
  | [d1, d2] => { results := [.lit (.bool false)], args := [d1, d2] }
  | _ => none }
def FnBooksFarWrongFalsely : Prop := fnBooksFarRow.holds Tryd.pinned (OpenSpec.ofChange fnBooksFarWrong)

/-- 'laws.FnBooksCommon': WHATEVER THE INPUT: true; the input reads as it did. -/
def fnBooksCommonSpec : ChangeSpec := { name := "fnBooksCommon", fn := fun _ => fun
  | [d] => { results := [.lit (.bool true)], args := [d] }
  | _ => none }
def fnBooksCommonRow : OpenClaim := { program := "ythhndlefafcdeaadoor", sum := "717c62754b112cd7106c146909bfabd8d2850dfc64c678cbde1123a94514c6a4", func := "loop.example/neumes/laws.FnBooksCommon", spec := "fnBooksCommon", inPlace := ["internal/bytealg.IndexByteString", "internal/bytealg.IndexString"], named := ["unicode/utf8.first", "unicode/utf8.acceptRanges", "internal/bytealg.MaxLen"], apart := false, laid := [("unicode/utf8.acceptRanges", laid_unicode_utf8_acceptRanges), ("unicode/utf8.first", laid_unicode_utf8_first)] }
def FnBooksCommonSaid : Prop := fnBooksCommonRow.holds Tryd.pinned (OpenSpec.ofChange fnBooksCommonSpec)

/-- ITS FALSE NEIGHBOUR: 'it returns false'. Refute it at one input. -/
def fnBooksCommonWrong : ChangeSpec := { name := "fnBooksCommon", fn := fun _ => fun
  | [d] => { results := [.lit (.bool false)], args := [d] }
  | _ => none }
def FnBooksCommonWrongFalsely : Prop := fnBooksCommonRow.holds Tryd.pinned (OpenSpec.ofChange fnBooksCommonWrong)

/- THE SECOND FORM. 'bulk': how many values and letters a reading holds, each counted each time it is reached (what is shared counts as often as it is met; a slice's spare places count too). A statement '..UptoSaid' is the law's where the arguments, and the package variables that the reading takes, are together of bulk at most 1048576: NARROWER than '..Said'. Prove '..Said' where nothing that the law and all that it calls make is longer than what came in: it says more and counts as full. Else prove '..UptoSaid'. A law counts once. -/
mutual
def uptoBulk {H : Type} : DataW H → Nat
  | .lit (.string bytes) => bytes.length + 1
  | .lit _ => 1
  | .nil => 1
  | .ptr d => uptoBulk d + 1
  | .slice elems spare => uptoBulkAll elems + uptoBulkAll spare + 1
  | .agg parts => uptoBulkAll parts + 1
  | .iface _ d => uptoBulk d + 1
  | .map entries => uptoBulkEntries entries + 1
  | .held _ => 1
def uptoBulkAll {H : Type} : List (DataW H) → Nat
  | [] => 0
  | d :: r => uptoBulk d + uptoBulkAll r
def uptoBulkEntries {H : Type} : List (Lit × DataW H) → Nat
  | [] => 0
  | x :: r => uptoBulkEntry x + uptoBulkEntries r
def uptoBulkEntry {H : Type} : Lit × DataW H → Nat
  | (.string bytes, d) => bytes.length + uptoBulk d + 1
  | (_, d) => uptoBulk d + 1
 end
def uptoSmall : (H : Type) → List (DataW H) → Bool := fun _ ds => decide (uptoBulkAll ds ≤ 1048576)
def OpenSpec.upto (s : _root_.Go.ChangeSpec) : _root_.Go.OpenSpec := { _root_.Go.OpenSpec.ofChange s with cond := some uptoSmall }

/-- 'laws.FnExactBooksValid', WHERE WHAT IT READS IS OF BULK AT MOST 1048576: true; the input reads as it did. -/
def fnExactBooksValidUptoRow : OpenClaim := { program := "ythhndlefafcdeaadoor", sum := "717c62754b112cd7106c146909bfabd8d2850dfc64c678cbde1123a94514c6a4", func := "loop.example/neumes/laws.FnExactBooksValid", spec := "fnExactBooksValid", inPlace := ["internal/bytealg.IndexByteString", "internal/bytealg.IndexString"], named := ["unicode/utf8.first", "unicode/utf8.acceptRanges", "internal/bytealg.MaxLen"], apart := false, laid := [("unicode/utf8.acceptRanges", laid_unicode_utf8_acceptRanges), ("unicode/utf8.first", laid_unicode_utf8_first)], narrowed := true }
def FnExactBooksValidUptoSaid : Prop := fnExactBooksValidUptoRow.holds Tryd.pinned (OpenSpec.upto fnExactBooksValidSpec)

/-- 'laws.FnExactBooksFar', WHERE WHAT IT READS IS OF BULK AT MOST 1048576: true; the input reads as it did. -/
def fnExactBooksFarUptoRow : OpenClaim := { program := "ythhndlefafcdeaadoor", sum := "717c62754b112cd7106c146909bfabd8d2850dfc64c678cbde1123a94514c6a4", func := "loop.example/neumes/laws.FnExactBooksFar", spec := "fnExactBooksFar", inPlace := ["internal/bytealg.IndexByteString", "internal/bytealg.IndexString"], named := ["unicode/utf8.first", "unicode/utf8.acceptRanges", "internal/bytealg.MaxLen"], apart := false, laid := [("unicode/utf8.acceptRanges", laid_unicode_utf8_acceptRanges), ("unicode/utf8.first", laid_unicode_utf8_first)], narrowed := true }
def FnExactBooksFarUptoSaid : Prop := fnExactBooksFarUptoRow.holds Tryd.pinned (OpenSpec.upto fnExactBooksFarSpec)

/-- 'laws.FnExactBooksCommon', WHERE WHAT IT READS IS OF BULK AT MOST 1048576: true; the input reads as it did. -/
def fnExactBooksCommonUptoRow : OpenClaim := { program := "ythhndlefafcdeaadoor", sum := "717c62754b112cd7106c146909bfabd8d2850dfc64c678cbde1123a94514c6a4", func := "loop.example/neumes/laws.FnExactBooksCommon", spec := "fnExactBooksCommon", inPlace := ["internal/bytealg.IndexByteString", "internal/bytealg.IndexString"], named := ["unicode/utf8.first", "unicode/utf8.acceptRanges", "internal/bytealg.MaxLen"], apart := false, laid := [("unicode/utf8.acceptRanges", laid_unicode_utf8_acceptRanges), ("unicode/utf8.first", laid_unicode_utf8_first)], narrowed := true }
def FnExactBooksCommonUptoSaid : Prop := fnExactBooksCommonUptoRow.holds Tryd.pinned (OpenSpec.upto fnExactBooksCommonSpec)

/-- 'laws.FnExactStemValid', WHERE WHAT IT READS IS OF BULK AT MOST 1048576: true; the input reads as it did. -/
def fnExactStemValidUptoRow : OpenClaim := { program := "ythhndlefafcdeaadoor", sum := "717c62754b112cd7106c146909bfabd8d2850dfc64c678cbde1123a94514c6a4", func := "loop.example/neumes/laws.FnExactStemValid", spec := "fnExactStemValid", inPlace := ["internal/bytealg.IndexByteString", "internal/bytealg.IndexString"], named := ["unicode/utf8.first", "unicode/utf8.acceptRanges", "internal/bytealg.MaxLen"], apart := false, laid := [("unicode/utf8.acceptRanges", laid_unicode_utf8_acceptRanges), ("unicode/utf8.first", laid_unicode_utf8_first)], narrowed := true }
def FnExactStemValidUptoSaid : Prop := fnExactStemValidUptoRow.holds Tryd.pinned (OpenSpec.upto fnExactStemValidSpec)

/-- 'laws.FnExactStemChanges', WHERE WHAT IT READS IS OF BULK AT MOST 1048576: true; the input reads as it did. -/
def fnExactStemChangesUptoRow : OpenClaim := { program := "ythhndlefafcdeaadoor", sum := "717c62754b112cd7106c146909bfabd8d2850dfc64c678cbde1123a94514c6a4", func := "loop.example/neumes/laws.FnExactStemChanges", spec := "fnExactStemChanges", inPlace := ["internal/bytealg.IndexByteString", "internal/bytealg.IndexString"], named := ["unicode/utf8.first", "unicode/utf8.acceptRanges", "internal/bytealg.MaxLen"], apart := false, laid := [("unicode/utf8.acceptRanges", laid_unicode_utf8_acceptRanges), ("unicode/utf8.first", laid_unicode_utf8_first)], narrowed := true }
def FnExactStemChangesUptoSaid : Prop := fnExactStemChangesUptoRow.holds Tryd.pinned (OpenSpec.upto fnExactStemChangesSpec)

/-- 'laws.FnExactStemFewest', WHERE WHAT IT READS IS OF BULK AT MOST 1048576: true; the input reads as it did. -/
def fnExactStemFewestUptoRow : OpenClaim := { program := "ythhndlefafcdeaadoor", sum := "717c62754b112cd7106c146909bfabd8d2850dfc64c678cbde1123a94514c6a4", func := "loop.example/neumes/laws.FnExactStemFewest", spec := "fnExactStemFewest", inPlace := ["internal/bytealg.IndexByteString", "internal/bytealg.IndexString"], recurses := true, named := ["unicode/utf8.first", "unicode/utf8.acceptRanges", "internal/bytealg.MaxLen"], apart := false, laid := [("unicode/utf8.acceptRanges", laid_unicode_utf8_acceptRanges), ("unicode/utf8.first", laid_unicode_utf8_first)], narrowed := true }
def FnExactStemFewestUptoSaid : Prop := fnExactStemFewestUptoRow.holds Tryd.pinned (OpenSpec.upto fnExactStemFewestSpec)

/-- 'laws.FnExactStemFill', WHERE WHAT IT READS IS OF BULK AT MOST 1048576: true; the input reads as it did. -/
def fnExactStemFillUptoRow : OpenClaim := { program := "ythhndlefafcdeaadoor", sum := "717c62754b112cd7106c146909bfabd8d2850dfc64c678cbde1123a94514c6a4", func := "loop.example/neumes/laws.FnExactStemFill", spec := "fnExactStemFill", inPlace := ["internal/bytealg.IndexByteString", "internal/bytealg.IndexString"], recurses := true, named := ["unicode/utf8.first", "unicode/utf8.acceptRanges", "internal/bytealg.MaxLen"], apart := false, laid := [("unicode/utf8.acceptRanges", laid_unicode_utf8_acceptRanges), ("unicode/utf8.first", laid_unicode_utf8_first)], narrowed := true }
def FnExactStemFillUptoSaid : Prop := fnExactStemFillUptoRow.holds Tryd.pinned (OpenSpec.upto fnExactStemFillSpec)

/-- 'laws.FnExactStemMove', WHERE WHAT IT READS IS OF BULK AT MOST 1048576: true; the input reads as it did. -/
def fnExactStemMoveUptoRow : OpenClaim := { program := "ythhndlefafcdeaadoor", sum := "717c62754b112cd7106c146909bfabd8d2850dfc64c678cbde1123a94514c6a4", func := "loop.example/neumes/laws.FnExactStemMove", spec := "fnExactStemMove", inPlace := ["internal/bytealg.IndexByteString", "internal/bytealg.IndexString"], named := ["unicode/utf8.first", "unicode/utf8.acceptRanges", "internal/bytealg.MaxLen"], apart := false, laid := [("unicode/utf8.acceptRanges", laid_unicode_utf8_acceptRanges), ("unicode/utf8.first", laid_unicode_utf8_first)], narrowed := true }
def FnExactStemMoveUptoSaid : Prop := fnExactStemMoveUptoRow.holds Tryd.pinned (OpenSpec.upto fnExactStemMoveSpec)

/-- 'laws.FnExactStemBest', WHERE WHAT IT READS IS OF BULK AT MOST 1048576: true; the input reads as it did. -/
def fnExactStemBestUptoRow : OpenClaim := { program := "ythhndlefafcdeaadoor", sum := "717c62754b112cd7106c146909bfabd8d2850dfc64c678cbde1123a94514c6a4", func := "loop.example/neumes/laws.FnExactStemBest", spec := "fnExactStemBest", inPlace := ["internal/bytealg.IndexByteString", "internal/bytealg.IndexString"], named := ["unicode/utf8.first", "unicode/utf8.acceptRanges", "internal/bytealg.MaxLen"], apart := false, laid := [("unicode/utf8.acceptRanges", laid_unicode_utf8_acceptRanges), ("unicode/utf8.first", laid_unicode_utf8_first)], narrowed := true }
def FnExactStemBestUptoSaid : Prop := fnExactStemBestUptoRow.holds Tryd.pinned (OpenSpec.upto fnExactStemBestSpec)

/-- 'laws.FnExactStemDepth', WHERE WHAT IT READS IS OF BULK AT MOST 1048576: true; the input reads as it did. -/
def fnExactStemDepthUptoRow : OpenClaim := { program := "ythhndlefafcdeaadoor", sum := "717c62754b112cd7106c146909bfabd8d2850dfc64c678cbde1123a94514c6a4", func := "loop.example/neumes/laws.FnExactStemDepth", spec := "fnExactStemDepth", inPlace := ["internal/bytealg.IndexByteString", "internal/bytealg.IndexString"], named := ["unicode/utf8.first", "unicode/utf8.acceptRanges", "internal/bytealg.MaxLen"], apart := false, laid := [("unicode/utf8.acceptRanges", laid_unicode_utf8_acceptRanges), ("unicode/utf8.first", laid_unicode_utf8_first)], narrowed := true }
def FnExactStemDepthUptoSaid : Prop := fnExactStemDepthUptoRow.holds Tryd.pinned (OpenSpec.upto fnExactStemDepthSpec)

/-- 'laws.FnBooksFar', WHERE WHAT IT READS IS OF BULK AT MOST 1048576: true; the input reads as it did. -/
def fnBooksFarUptoRow : OpenClaim := { program := "ythhndlefafcdeaadoor", sum := "717c62754b112cd7106c146909bfabd8d2850dfc64c678cbde1123a94514c6a4", func := "loop.example/neumes/laws.FnBooksFar", spec := "fnBooksFar", inPlace := ["internal/bytealg.IndexByteString", "internal/bytealg.IndexString"], named := ["unicode/utf8.first", "unicode/utf8.acceptRanges", "internal/bytealg.MaxLen"], apart := false, laid := [("unicode/utf8.acceptRanges", laid_unicode_utf8_acceptRanges), ("unicode/utf8.first", laid_unicode_utf8_first)], narrowed := true }
def FnBooksFarUptoSaid : Prop := fnBooksFarUptoRow.holds Tryd.pinned (OpenSpec.upto fnBooksFarSpec)

/-- 'laws.FnBooksCommon', WHERE WHAT IT READS IS OF BULK AT MOST 1048576: true; the input reads as it did. -/
def fnBooksCommonUptoRow : OpenClaim := { program := "ythhndlefafcdeaadoor", sum := "717c62754b112cd7106c146909bfabd8d2850dfc64c678cbde1123a94514c6a4", func := "loop.example/neumes/laws.FnBooksCommon", spec := "fnBooksCommon", inPlace := ["internal/bytealg.IndexByteString", "internal/bytealg.IndexString"], named := ["unicode/utf8.first", "unicode/utf8.acceptRanges", "internal/bytealg.MaxLen"], apart := false, laid := [("unicode/utf8.acceptRanges", laid_unicode_utf8_acceptRanges), ("unicode/utf8.first", laid_unicode_utf8_first)], narrowed := true }
def FnBooksCommonUptoSaid : Prop := fnBooksCommonUptoRow.holds Tryd.pinned (OpenSpec.upto fnBooksCommonSpec)

end Rows
end Go.Proofs.YthhndlefafcdeaaDoor
