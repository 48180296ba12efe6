/-
  NARROWER THAN 'FOR EVERY INPUT', by the rows' own cells (each row's printed sentence says how): FnMelodyJoin: laid · FnSing: laid · FnContour: laid · FnNeumeContour: laid · FnGroups: laid · FnGroupsCut: laid · FnGroupsRead: laid · FnExactGroupsNames: laid · FnExactGroupsRead: laid.
  DERIVED. THE GIVEN ROWS OF THIS SEAT. 9 by the template 'for every input the law returns true; each argument reads behind the call as it read before'; 0 by the template 'total and deterministic' (their statements: YtkjimilapgkajabDoorTotals.lean).
  GIVEN WITH THE SEED: the statements are not yours to turn. If you find one false, say at which input.
  Laid BY PROGRAM, IN A SANDBOX (cutbox-rows.mjs): the forced cells as the released guide's own fill.sh prints them over the translation 15c1997eb8b27c75… (all of the seat's roots in one cut). By AI agents, Wed Nov 11 2026. No macro, syntax, notation, axiom, sorry.
-/
import Derived.Test.YtkjimilapgkajabDoorChecked
import GoSem.PinnedTables
import GoSem.Claim
import GoSem.ClaimJoined
import GoSem.ClaimMapViews
import Derived.JoinedTies
import Derived.KernelRfl
namespace Go.Proofs.YtkjimilapgkajabDoor
/- THE CELL 'sum', in the pinned program and in every row, IS THE sha256 OF THE DUMP (.gsa) THAT YtkjimilapgkajabDoorProg.lean LOADS. Nothing in Lean hashes anything: it is a label: what it is worth is what the hold of that sum in a sandbox is worth. -/
noncomputable def Tryd.pinned : Pinned := { name := "ytkjimilapgkajabdoor", sum := "15c1997eb8b27c75c5f1a3c476d5c1311e1815fc76bb1859cdb3343968864b49", checked := Tryd.checked }
namespace Rows
def none {H : Type} : Left H := { results := [], args := [] }

/- WHAT THE LISTED PACKAGE-LEVEL VARIABLES READ AS WHEN THE CALL BEGINS. Each datum BY PROGRAM (the guide's laid-datum.mjs) off the statement by which the dump's own 'gosem.cut.vars' lays the variable. In a bare row this is a premise. The card (YtkjimilapgkajabDoorCards.lean) ties it to the program's text. -/
def laid_math_bits_deBruijn32tab {H : Type} : DataW H := .agg [.lit (.int .u8 0), .lit (.int .u8 1), .lit (.int .u8 28), .lit (.int .u8 2), .lit (.int .u8 29), .lit (.int .u8 14), .lit (.int .u8 24), .lit (.int .u8 3), .lit (.int .u8 30), .lit (.int .u8 22), .lit (.int .u8 20), .lit (.int .u8 15), .lit (.int .u8 25), .lit (.int .u8 17), .lit (.int .u8 4), .lit (.int .u8 8), .lit (.int .u8 31), .lit (.int .u8 27), .lit (.int .u8 13), .lit (.int .u8 23), .lit (.int .u8 21), .lit (.int .u8 19), .lit (.int .u8 16), .lit (.int .u8 7), .lit (.int .u8 26), .lit (.int .u8 12), .lit (.int .u8 18), .lit (.int .u8 6), .lit (.int .u8 11), .lit (.int .u8 5), .lit (.int .u8 10), .lit (.int .u8 9)]
def laid_math_bits_deBruijn64tab {H : Type} : DataW H := .agg [.lit (.int .u8 0), .lit (.int .u8 1), .lit (.int .u8 56), .lit (.int .u8 2), .lit (.int .u8 57), .lit (.int .u8 49), .lit (.int .u8 28), .lit (.int .u8 3), .lit (.int .u8 61), .lit (.int .u8 58), .lit (.int .u8 42), .lit (.int .u8 50), .lit (.int .u8 38), .lit (.int .u8 29), .lit (.int .u8 17), .lit (.int .u8 4), .lit (.int .u8 62), .lit (.int .u8 47), .lit (.int .u8 59), .lit (.int .u8 36), .lit (.int .u8 45), .lit (.int .u8 43), .lit (.int .u8 51), .lit (.int .u8 22), .lit (.int .u8 53), .lit (.int .u8 39), .lit (.int .u8 33), .lit (.int .u8 30), .lit (.int .u8 24), .lit (.int .u8 18), .lit (.int .u8 12), .lit (.int .u8 5), .lit (.int .u8 63), .lit (.int .u8 55), .lit (.int .u8 48), .lit (.int .u8 27), .lit (.int .u8 60), .lit (.int .u8 41), .lit (.int .u8 37), .lit (.int .u8 16), .lit (.int .u8 46), .lit (.int .u8 35), .lit (.int .u8 44), .lit (.int .u8 21), .lit (.int .u8 52), .lit (.int .u8 32), .lit (.int .u8 23), .lit (.int .u8 11), .lit (.int .u8 54), .lit (.int .u8 26), .lit (.int .u8 40), .lit (.int .u8 15), .lit (.int .u8 34), .lit (.int .u8 20), .lit (.int .u8 31), .lit (.int .u8 10), .lit (.int .u8 25), .lit (.int .u8 14), .lit (.int .u8 19), .lit (.int .u8 9), .lit (.int .u8 13), .lit (.int .u8 8), .lit (.int .u8 7), .lit (.int .u8 6)]
def laid_internal_strconv_uint64pow10 {H : Type} : DataW H := .agg [.lit (.int .u64 1), .lit (.int .u64 10), .lit (.int .u64 100), .lit (.int .u64 1000), .lit (.int .u64 10000), .lit (.int .u64 100000), .lit (.int .u64 1000000), .lit (.int .u64 10000000), .lit (.int .u64 100000000), .lit (.int .u64 1000000000), .lit (.int .u64 10000000000), .lit (.int .u64 100000000000), .lit (.int .u64 1000000000000), .lit (.int .u64 10000000000000), .lit (.int .u64 100000000000000), .lit (.int .u64 1000000000000000), .lit (.int .u64 10000000000000000), .lit (.int .u64 100000000000000000), .lit (.int .u64 1000000000000000000), .lit (.int .u64 10000000000000000000)]
def laid_loop_example_neumes_impl_syllableNames {H : Type} : DataW H := .agg [.lit (.string [117, 116]), .lit (.string [114, 101]), .lit (.string [109, 105]), .lit (.string [102, 97]), .lit (.string [115, 111, 108]), .lit (.string [108, 97])]
def laid_loop_example_neumes_impl_stepHeights {H : Type} : DataW H := .agg [.lit (.int .i64 0), .lit (.int .i64 2), .lit (.int .i64 4), .lit (.int .i64 5), .lit (.int .i64 7), .lit (.int .i64 9), .lit (.int .i64 10)]
def laid_unicode_utf8_acceptRanges {H : Type} : DataW H := .agg [.agg [.lit (.int .u8 128), .lit (.int .u8 191)], .agg [.lit (.int .u8 160), .lit (.int .u8 191)], .agg [.lit (.int .u8 128), .lit (.int .u8 159)], .agg [.lit (.int .u8 144), .lit (.int .u8 191)], .agg [.lit (.int .u8 128), .lit (.int .u8 143)], .agg [.lit (.int .u8 0), .lit (.int .u8 0)], .agg [.lit (.int .u8 0), .lit (.int .u8 0)], .agg [.lit (.int .u8 0), .lit (.int .u8 0)], .agg [.lit (.int .u8 0), .lit (.int .u8 0)], .agg [.lit (.int .u8 0), .lit (.int .u8 0)], .agg [.lit (.int .u8 0), .lit (.int .u8 0)], .agg [.lit (.int .u8 0), .lit (.int .u8 0)], .agg [.lit (.int .u8 0), .lit (.int .u8 0)], .agg [.lit (.int .u8 0), .lit (.int .u8 0)], .agg [.lit (.int .u8 0), .lit (.int .u8 0)], .agg [.lit (.int .u8 0), .lit (.int .u8 0)]]
def laid_loop_example_neumes_impl_neumes {H : Type} : DataW H := .agg [.agg [.lit (.string []), .lit (.string [112, 117, 110, 99, 116, 117, 109])], .agg [.lit (.string [117]), .lit (.string [112, 101, 115])], .agg [.lit (.string [100]), .lit (.string [99, 108, 105, 118, 105, 115])], .agg [.lit (.string [117, 100]), .lit (.string [116, 111, 114, 99, 117, 108, 117, 115])], .agg [.lit (.string [100, 117]), .lit (.string [112, 111, 114, 114, 101, 99, 116, 117, 115])], .agg [.lit (.string [117, 117]), .lit (.string [115, 99, 97, 110, 100, 105, 99, 117, 115])], .agg [.lit (.string [100, 100]), .lit (.string [99, 108, 105, 109, 97, 99, 117, 115])]]
/-- One of Go's own tables, pinned by name: the form's constant. -/
def laid_unicode_CaseRanges : DataW Unit := Go.Pinned.caseRanges
/-- One of Go's own tables, pinned by name: the form's constant. -/
def laid_unicode_utf8_first : DataW Unit := Go.Pinned.utf8First

/-- 'laws.FnMelodyJoin': WHATEVER THE INPUT: true; the input reads as it did. -/
def fnMelodyJoinSpec : ChangeSpec := { name := "fnMelodyJoin", fn := fun _ => fun
  | [d] => { results := [.lit (.bool true)], args := [d] }
  | _ => none }
def fnMelodyJoinRow : OpenClaim := { program := "ytkjimilapgkajabdoor", sum := "15c1997eb8b27c75c5f1a3c476d5c1311e1815fc76bb1859cdb3343968864b49", func := "loop.example/neumes/laws.FnMelodyJoin", spec := "fnMelodyJoin", inPlace := ["internal/abi.NoEscape", "internal/bytealg.MakeNoZero"], recurses := true, named := ["internal/strconv.uint64pow10", "math/bits.deBruijn32tab", "math/bits.deBruijn64tab"], apart := false, laid := [("math/bits.deBruijn32tab", laid_math_bits_deBruijn32tab), ("math/bits.deBruijn64tab", laid_math_bits_deBruijn64tab), ("internal/strconv.uint64pow10", laid_internal_strconv_uint64pow10)] }
def FnMelodyJoinSaid : Prop := fnMelodyJoinRow.holds Tryd.pinned (OpenSpec.ofChange fnMelodyJoinSpec)

/-- ITS FALSE NEIGHBOUR: 'it returns false'. Refute it at one input. -/
def fnMelodyJoinWrong : ChangeSpec := { name := "fnMelodyJoin", fn := fun _ => fun
  | [d] => { results := [.lit (.bool false)], args := [d] }
  | _ => none }
def FnMelodyJoinWrongFalsely : Prop := fnMelodyJoinRow.holds Tryd.pinned (OpenSpec.ofChange fnMelodyJoinWrong)

/-- 'laws.FnSing': WHATEVER THE INPUT: true; the input reads as it did. -/
def fnSingSpec : ChangeSpec := { name := "fnSing", vars := ["loop.example/neumes/impl.syllableNames"], fn := fun _ => fun
  | [d, g1] => { results := [.lit (.bool true)], args := [d], vars := [g1] }
  | _ => none }
def fnSingRow : OpenClaim := { program := "ytkjimilapgkajabdoor", sum := "15c1997eb8b27c75c5f1a3c476d5c1311e1815fc76bb1859cdb3343968864b49", func := "loop.example/neumes/laws.FnSing", spec := "fnSing", inPlace := ["internal/abi.NoEscape", "internal/bytealg.MakeNoZero"], named := ["loop.example/neumes/impl.syllableNames"], apart := false, laid := [("loop.example/neumes/impl.syllableNames", laid_loop_example_neumes_impl_syllableNames)] }
def FnSingSaid : Prop := fnSingRow.holds Tryd.pinned (OpenSpec.ofChange fnSingSpec)

/-- ITS FALSE NEIGHBOUR: 'it returns false'. Refute it at one input. -/
def fnSingWrong : ChangeSpec := { name := "fnSing", vars := ["loop.example/neumes/impl.syllableNames"], fn := fun _ => fun
  | [d, g1] => { results := [.lit (.bool false)], args := [d], vars := [g1] }
  | _ => none }
def FnSingWrongFalsely : Prop := fnSingRow.holds Tryd.pinned (OpenSpec.ofChange fnSingWrong)

/-- 'laws.FnContour': WHATEVER THE INPUT: true; the input reads as it did. -/
def fnContourSpec : ChangeSpec := { name := "fnContour", vars := ["loop.example/neumes/impl.stepHeights"], fn := fun _ => fun
  | [d, g1] => { results := [.lit (.bool true)], args := [d], vars := [g1] }
  | _ => none }
def fnContourRow : OpenClaim := { program := "ytkjimilapgkajabdoor", sum := "15c1997eb8b27c75c5f1a3c476d5c1311e1815fc76bb1859cdb3343968864b49", func := "loop.example/neumes/laws.FnContour", spec := "fnContour", unfollowed := true, recurses := true, named := ["loop.example/neumes/impl.stepHeights"], apart := false, laid := [("loop.example/neumes/impl.stepHeights", laid_loop_example_neumes_impl_stepHeights)] }
def FnContourSaid : Prop := fnContourRow.holds Tryd.pinned (OpenSpec.ofChange fnContourSpec)

/-- ITS FALSE NEIGHBOUR: 'it returns false'. Refute it at one input. -/
def fnContourWrong : ChangeSpec := { name := "fnContour", vars := ["loop.example/neumes/impl.stepHeights"], fn := fun _ => fun
  | [d, g1] => { results := [.lit (.bool false)], args := [d], vars := [g1] }
  | _ => none }
def FnContourWrongFalsely : Prop := fnContourRow.holds Tryd.pinned (OpenSpec.ofChange fnContourWrong)

/-- 'laws.FnNeumeContour': WHATEVER THE INPUT: true; the input reads as it did. -/
def fnNeumeContourSpec : ChangeSpec := { name := "fnNeumeContour", vars := ["loop.example/neumes/impl.neumes"], fn := fun _ => fun
  | [d, g1] => { results := [.lit (.bool true)], args := [d], vars := [g1] }
  | _ => none }
def fnNeumeContourRow : OpenClaim := { program := "ytkjimilapgkajabdoor", sum := "15c1997eb8b27c75c5f1a3c476d5c1311e1815fc76bb1859cdb3343968864b49", func := "loop.example/neumes/laws.FnNeumeContour", spec := "fnNeumeContour", inPlace := ["internal/abi.NoEscape", "internal/bytealg.MakeNoZero"], unfollowed := true, recurses := true, named := ["loop.example/neumes/impl.neumes", "unicode/utf8.first", "unicode/utf8.acceptRanges", "unicode.CaseRanges"], apart := false, laid := [("unicode/utf8.acceptRanges", laid_unicode_utf8_acceptRanges), ("loop.example/neumes/impl.neumes", laid_loop_example_neumes_impl_neumes), ("unicode.CaseRanges", laid_unicode_CaseRanges), ("unicode/utf8.first", laid_unicode_utf8_first)] }
def FnNeumeContourSaid : Prop := fnNeumeContourRow.holds Tryd.pinned (OpenSpec.ofChange fnNeumeContourSpec)

/-- ITS FALSE NEIGHBOUR: 'it returns false'. Refute it at one input. -/
def fnNeumeContourWrong : ChangeSpec := { name := "fnNeumeContour", vars := ["loop.example/neumes/impl.neumes"], fn := fun _ => fun
  | [d, g1] => { results := [.lit (.bool false)], args := [d], vars := [g1] }
  | _ => none }
def FnNeumeContourWrongFalsely : Prop := fnNeumeContourRow.holds Tryd.pinned (OpenSpec.ofChange fnNeumeContourWrong)

/-- 'laws.FnGroups': WHATEVER THE INPUT: true; the input reads as it did. -/
def fnGroupsSpec : ChangeSpec := { name := "fnGroups", vars := ["loop.example/neumes/impl.neumes"], fn := fun _ => fun
  | [d, g1] => { results := [.lit (.bool true)], args := [d], vars := [g1] }
  | _ => none }
def fnGroupsRow : OpenClaim := { program := "ytkjimilapgkajabdoor", sum := "15c1997eb8b27c75c5f1a3c476d5c1311e1815fc76bb1859cdb3343968864b49", func := "loop.example/neumes/laws.FnGroups", spec := "fnGroups", inPlace := ["internal/abi.NoEscape", "internal/bytealg.MakeNoZero"], unfollowed := true, recurses := true, named := ["loop.example/neumes/impl.neumes", "unicode/utf8.first", "unicode/utf8.acceptRanges", "unicode.CaseRanges"], apart := false, laid := [("unicode/utf8.acceptRanges", laid_unicode_utf8_acceptRanges), ("loop.example/neumes/impl.neumes", laid_loop_example_neumes_impl_neumes), ("unicode.CaseRanges", laid_unicode_CaseRanges), ("unicode/utf8.first", laid_unicode_utf8_first)] }
def FnGroupsSaid : Prop := fnGroupsRow.holds Tryd.pinned (OpenSpec.ofChange fnGroupsSpec)

/-- ITS FALSE NEIGHBOUR: 'it returns false'. Refute it at one input. -/
def fnGroupsWrong : ChangeSpec := { name := "fnGroups", vars := ["loop.example/neumes/impl.neumes"], fn := fun _ => fun
  | [d, g1] => { results := [.lit (.bool false)], args := [d], vars := [g1] }
  | _ => none }
def FnGroupsWrongFalsely : Prop := fnGroupsRow.holds Tryd.pinned (OpenSpec.ofChange fnGroupsWrong)

/-- 'laws.FnGroupsCut': WHATEVER THE INPUT: true; the input reads as it did. -/
def fnGroupsCutSpec : ChangeSpec := { name := "fnGroupsCut", vars := ["loop.example/neumes/impl.neumes"], fn := fun _ => fun
  | [d, g1] => { results := [.lit (.bool true)], args := [d], vars := [g1] }
  | _ => none }
def fnGroupsCutRow : OpenClaim := { program := "ytkjimilapgkajabdoor", sum := "15c1997eb8b27c75c5f1a3c476d5c1311e1815fc76bb1859cdb3343968864b49", func := "loop.example/neumes/laws.FnGroupsCut", spec := "fnGroupsCut", inPlace := ["internal/abi.NoEscape", "internal/bytealg.MakeNoZero"], unfollowed := true, recurses := true, named := ["loop.example/neumes/impl.neumes", "unicode/utf8.first", "unicode/utf8.acceptRanges", "unicode.CaseRanges"], apart := false, laid := [("unicode/utf8.acceptRanges", laid_unicode_utf8_acceptRanges), ("loop.example/neumes/impl.neumes", laid_loop_example_neumes_impl_neumes), ("unicode.CaseRanges", laid_unicode_CaseRanges), ("unicode/utf8.first", laid_unicode_utf8_first)] }
def FnGroupsCutSaid : Prop := fnGroupsCutRow.holds Tryd.pinned (OpenSpec.ofChange fnGroupsCutSpec)

/-- ITS FALSE NEIGHBOUR: 'it returns false'. Refute it at one input. -/
def fnGroupsCutWrong : ChangeSpec := { name := "fnGroupsCut", vars := ["loop.example/neumes/impl.neumes"], fn := fun _ => fun
  | [d, g1] => { results := [.lit (.bool false)], args := [d], vars := [g1] }
  | _ => none }
def FnGroupsCutWrongFalsely : Prop := fnGroupsCutRow.holds Tryd.pinned (OpenSpec.ofChange fnGroupsCutWrong)

/-- 'laws.FnGroupsRead': WHATEVER THE INPUT: true; the input reads as it did. -/
def fnGroupsReadSpec : ChangeSpec := { name := "fnGroupsRead", vars := ["loop.example/neumes/impl.neumes"], fn := fun _ => fun
  | [d1, d2, g1] => { results := [.lit (.bool true)], args := [d1, d2], vars := [g1] }
  | _ => none }
def fnGroupsReadRow : OpenClaim := { program := "ytkjimilapgkajabdoor", sum := "15c1997eb8b27c75c5f1a3c476d5c1311e1815fc76bb1859cdb3343968864b49", func := "loop.example/neumes/laws.FnGroupsRead", spec := "fnGroupsRead", inPlace := ["internal/abi.NoEscape", "internal/bytealg.MakeNoZero"], unfollowed := true, recurses := true, named := ["loop.example/neumes/impl.neumes", "unicode/utf8.first", "unicode/utf8.acceptRanges", "unicode.CaseRanges"], apart := false, laid := [("unicode/utf8.acceptRanges", laid_unicode_utf8_acceptRanges), ("loop.example/neumes/impl.neumes", laid_loop_example_neumes_impl_neumes), ("unicode.CaseRanges", laid_unicode_CaseRanges), ("unicode/utf8.first", laid_unicode_utf8_first)] }
def FnGroupsReadSaid : Prop := fnGroupsReadRow.holds Tryd.pinned (OpenSpec.ofChange fnGroupsReadSpec)

/-- ITS FALSE NEIGHBOUR: 'it returns false'. Refute it at one input. -/
def fnGroupsReadWrong : ChangeSpec := { name := "fnGroupsRead", vars := ["loop.example/neumes/impl.neumes"], fn := fun _ => fun
  | [d1, d2, g1] => { results := [.lit (.bool false)], args := [d1, d2], vars := [g1] }
  | _ => none }
def FnGroupsReadWrongFalsely : Prop := fnGroupsReadRow.holds Tryd.pinned (OpenSpec.ofChange fnGroupsReadWrong)

/-- 'laws.FnExactGroupsNames': WHATEVER THE INPUT: true; the input reads as it did. -/
def fnExactGroupsNamesSpec : ChangeSpec := { name := "fnExactGroupsNames", vars := ["loop.example/neumes/impl.neumes"], fn := fun _ => fun
  | [d1, d2, g1] => { results := [.lit (.bool true)], args := [d1, d2], vars := [g1] }
  | _ => none }
def fnExactGroupsNamesRow : OpenClaim := { program := "ytkjimilapgkajabdoor", sum := "15c1997eb8b27c75c5f1a3c476d5c1311e1815fc76bb1859cdb3343968864b49", func := "loop.example/neumes/laws.FnExactGroupsNames", spec := "fnExactGroupsNames", inPlace := ["internal/abi.NoEscape", "internal/bytealg.MakeNoZero"], unfollowed := true, recurses := true, named := ["loop.example/neumes/impl.neumes", "unicode/utf8.first", "unicode/utf8.acceptRanges", "unicode.CaseRanges"], apart := false, laid := [("unicode/utf8.acceptRanges", laid_unicode_utf8_acceptRanges), ("loop.example/neumes/impl.neumes", laid_loop_example_neumes_impl_neumes), ("unicode.CaseRanges", laid_unicode_CaseRanges), ("unicode/utf8.first", laid_unicode_utf8_first)] }
def FnExactGroupsNamesSaid : Prop := fnExactGroupsNamesRow.holds Tryd.pinned (OpenSpec.ofChange fnExactGroupsNamesSpec)

/-- ITS FALSE NEIGHBOUR: 'it returns false'. Refute it at one input. -/
def fnExactGroupsNamesWrong : ChangeSpec := { name := "fnExactGroupsNames", vars := ["loop.example/neumes/impl.neumes"], fn := fun _ => fun
  | [d1, d2, g1] => { results := [.lit (.bool false)], args := [d1, d2], vars := [g1] }
  | _ => none }
def FnExactGroupsNamesWrongFalsely : Prop := fnExactGroupsNamesRow.holds Tryd.pinned (OpenSpec.ofChange fnExactGroupsNamesWrong)

/-- 'laws.FnExactGroupsRead': WHATEVER THE INPUT: true; the input reads as it did. -/
def fnExactGroupsReadSpec : ChangeSpec := { name := "fnExactGroupsRead", vars := ["loop.example/neumes/impl.neumes"], fn := fun _ => fun
  | [d1, d2, d3, g1] => { results := [.lit (.bool true)], args := [d1, d2, d3], vars := [g1] }
  | _ => none }
def fnExactGroupsReadRow : OpenClaim := { program := "ytkjimilapgkajabdoor", sum := "15c1997eb8b27c75c5f1a3c476d5c1311e1815fc76bb1859cdb3343968864b49", func := "loop.example/neumes/laws.FnExactGroupsRead", spec := "fnExactGroupsRead", inPlace := ["internal/abi.NoEscape", "internal/bytealg.MakeNoZero"], unfollowed := true, recurses := true, named := ["loop.example/neumes/impl.neumes", "unicode/utf8.first", "unicode/utf8.acceptRanges", "unicode.CaseRanges"], apart := false, laid := [("unicode/utf8.acceptRanges", laid_unicode_utf8_acceptRanges), ("loop.example/neumes/impl.neumes", laid_loop_example_neumes_impl_neumes), ("unicode.CaseRanges", laid_unicode_CaseRanges), ("unicode/utf8.first", laid_unicode_utf8_first)] }
def FnExactGroupsReadSaid : Prop := fnExactGroupsReadRow.holds Tryd.pinned (OpenSpec.ofChange fnExactGroupsReadSpec)

/-- ITS FALSE NEIGHBOUR: 'it returns false'. Refute it at one input. -/
def fnExactGroupsReadWrong : ChangeSpec := { name := "fnExactGroupsRead", vars := ["loop.example/neumes/impl.neumes"], fn := fun _ => fun
  | [d1, d2, d3, g1] => { results := [.lit (.bool false)], args := [d1, d2, d3], vars := [g1] }
  | _ => none }
def FnExactGroupsReadWrongFalsely : Prop := fnExactGroupsReadRow.holds Tryd.pinned (OpenSpec.ofChange fnExactGroupsReadWrong)

/- THE SECOND FORM. 'bulk': how many values and letters a reading holds, each counted each time it is reached (what is shared counts as often as it is met; a slice's spare places count too). A statement '..UptoSaid' is the law's where the arguments, and the package variables that the reading takes, are together of bulk at most 1048576: NARROWER than '..Said'. Prove '..Said' where nothing that the law and all that it calls make is longer than what came in: it says more and counts as full. Else prove '..UptoSaid'. A law counts once. -/
mutual
def uptoBulk {H : Type} : DataW H → Nat
  | .lit (.string bytes) => bytes.length + 1
  | .lit _ => 1
  | .nil => 1
  | .ptr d => uptoBulk d + 1
  | .slice elems spare => uptoBulkAll elems + uptoBulkAll spare + 1
  | .agg parts => uptoBulkAll parts + 1
  | .iface _ d => uptoBulk d + 1
  | .map entries => uptoBulkEntries entries + 1
  | .held _ => 1
def uptoBulkAll {H : Type} : List (DataW H) → Nat
  | [] => 0
  | d :: r => uptoBulk d + uptoBulkAll r
def uptoBulkEntries {H : Type} : List (Lit × DataW H) → Nat
  | [] => 0
  | x :: r => uptoBulkEntry x + uptoBulkEntries r
def uptoBulkEntry {H : Type} : Lit × DataW H → Nat
  | (.string bytes, d) => bytes.length + uptoBulk d + 1
  | (_, d) => uptoBulk d + 1
 end
def uptoSmall : (H : Type) → List (DataW H) → Bool := fun _ ds => decide (uptoBulkAll ds ≤ 1048576)
def OpenSpec.upto (s : _root_.Go.ChangeSpec) : _root_.Go.OpenSpec := { _root_.Go.OpenSpec.ofChange s with cond := some uptoSmall }

/-- 'laws.FnMelodyJoin', WHERE WHAT IT READS IS OF BULK AT MOST 1048576: true; the input reads as it did. -/
def fnMelodyJoinUptoRow : OpenClaim := { program := "ytkjimilapgkajabdoor", sum := "15c1997eb8b27c75c5f1a3c476d5c1311e1815fc76bb1859cdb3343968864b49", func := "loop.example/neumes/laws.FnMelodyJoin", spec := "fnMelodyJoin", inPlace := ["internal/abi.NoEscape", "internal/bytealg.MakeNoZero"], recurses := true, named := ["internal/strconv.uint64pow10", "math/bits.deBruijn32tab", "math/bits.deBruijn64tab"], apart := false, laid := [("math/bits.deBruijn32tab", laid_math_bits_deBruijn32tab), ("math/bits.deBruijn64tab", laid_math_bits_deBruijn64tab), ("internal/strconv.uint64pow10", laid_internal_strconv_uint64pow10)], narrowed := true }
def FnMelodyJoinUptoSaid : Prop := fnMelodyJoinUptoRow.holds Tryd.pinned (OpenSpec.upto fnMelodyJoinSpec)

/-- 'laws.FnSing', WHERE WHAT IT READS IS OF BULK AT MOST 1048576: true; the input reads as it did. -/
def fnSingUptoRow : OpenClaim := { program := "ytkjimilapgkajabdoor", sum := "15c1997eb8b27c75c5f1a3c476d5c1311e1815fc76bb1859cdb3343968864b49", func := "loop.example/neumes/laws.FnSing", spec := "fnSing", inPlace := ["internal/abi.NoEscape", "internal/bytealg.MakeNoZero"], named := ["loop.example/neumes/impl.syllableNames"], apart := false, laid := [("loop.example/neumes/impl.syllableNames", laid_loop_example_neumes_impl_syllableNames)], narrowed := true }
def FnSingUptoSaid : Prop := fnSingUptoRow.holds Tryd.pinned (OpenSpec.upto fnSingSpec)

/-- 'laws.FnContour', WHERE WHAT IT READS IS OF BULK AT MOST 1048576: true; the input reads as it did. -/
def fnContourUptoRow : OpenClaim := { program := "ytkjimilapgkajabdoor", sum := "15c1997eb8b27c75c5f1a3c476d5c1311e1815fc76bb1859cdb3343968864b49", func := "loop.example/neumes/laws.FnContour", spec := "fnContour", unfollowed := true, recurses := true, named := ["loop.example/neumes/impl.stepHeights"], apart := false, laid := [("loop.example/neumes/impl.stepHeights", laid_loop_example_neumes_impl_stepHeights)], narrowed := true }
def FnContourUptoSaid : Prop := fnContourUptoRow.holds Tryd.pinned (OpenSpec.upto fnContourSpec)

/-- 'laws.FnNeumeContour', WHERE WHAT IT READS IS OF BULK AT MOST 1048576: true; the input reads as it did. -/
def fnNeumeContourUptoRow : OpenClaim := { program := "ytkjimilapgkajabdoor", sum := "15c1997eb8b27c75c5f1a3c476d5c1311e1815fc76bb1859cdb3343968864b49", func := "loop.example/neumes/laws.FnNeumeContour", spec := "fnNeumeContour", inPlace := ["internal/abi.NoEscape", "internal/bytealg.MakeNoZero"], unfollowed := true, recurses := true, named := ["loop.example/neumes/impl.neumes", "unicode/utf8.first", "unicode/utf8.acceptRanges", "unicode.CaseRanges"], apart := false, laid := [("unicode/utf8.acceptRanges", laid_unicode_utf8_acceptRanges), ("loop.example/neumes/impl.neumes", laid_loop_example_neumes_impl_neumes), ("unicode.CaseRanges", laid_unicode_CaseRanges), ("unicode/utf8.first", laid_unicode_utf8_first)], narrowed := true }
def FnNeumeContourUptoSaid : Prop := fnNeumeContourUptoRow.holds Tryd.pinned (OpenSpec.upto fnNeumeContourSpec)

/-- 'laws.FnGroups', WHERE WHAT IT READS IS OF BULK AT MOST 1048576: true; the input reads as it did. -/
def fnGroupsUptoRow : OpenClaim := { program := "ytkjimilapgkajabdoor", sum := "15c1997eb8b27c75c5f1a3c476d5c1311e1815fc76bb1859cdb3343968864b49", func := "loop.example/neumes/laws.FnGroups", spec := "fnGroups", inPlace := ["internal/abi.NoEscape", "internal/bytealg.MakeNoZero"], unfollowed := true, recurses := true, named := ["loop.example/neumes/impl.neumes", "unicode/utf8.first", "unicode/utf8.acceptRanges", "unicode.CaseRanges"], apart := false, laid := [("unicode/utf8.acceptRanges", laid_unicode_utf8_acceptRanges), ("loop.example/neumes/impl.neumes", laid_loop_example_neumes_impl_neumes), ("unicode.CaseRanges", laid_unicode_CaseRanges), ("unicode/utf8.first", laid_unicode_utf8_first)], narrowed := true }
def FnGroupsUptoSaid : Prop := fnGroupsUptoRow.holds Tryd.pinned (OpenSpec.upto fnGroupsSpec)

/-- 'laws.FnGroupsCut', WHERE WHAT IT READS IS OF BULK AT MOST 1048576: true; the input reads as it did. -/
def fnGroupsCutUptoRow : OpenClaim := { program := "ytkjimilapgkajabdoor", sum := "15c1997eb8b27c75c5f1a3c476d5c1311e1815fc76bb1859cdb3343968864b49", func := "loop.example/neumes/laws.FnGroupsCut", spec := "fnGroupsCut", inPlace := ["internal/abi.NoEscape", "internal/bytealg.MakeNoZero"], unfollowed := true, recurses := true, named := ["loop.example/neumes/impl.neumes", "unicode/utf8.first", "unicode/utf8.acceptRanges", "unicode.CaseRanges"], apart := false, laid := [("unicode/utf8.acceptRanges", laid_unicode_utf8_acceptRanges), ("loop.example/neumes/impl.neumes", laid_loop_example_neumes_impl_neumes), ("unicode.CaseRanges", laid_unicode_CaseRanges), ("unicode/utf8.first", laid_unicode_utf8_first)], narrowed := true }
def FnGroupsCutUptoSaid : Prop := fnGroupsCutUptoRow.holds Tryd.pinned (OpenSpec.upto fnGroupsCutSpec)

/-- 'laws.FnGroupsRead', WHERE WHAT IT READS IS OF BULK AT MOST 1048576: true; the input reads as it did. -/
def fnGroupsReadUptoRow : OpenClaim := { program := "ytkjimilapgkajabdoor", sum := "15c1997eb8b27c75c5f1a3c476d5c1311e1815fc76bb1859cdb3343968864b49", func := "loop.example/neumes/laws.FnGroupsRead", spec := "fnGroupsRead", inPlace := ["internal/abi.NoEscape", "internal/bytealg.MakeNoZero"], unfollowed := true, recurses := true, named := ["loop.example/neumes/impl.neumes", "unicode/utf8.first", "unicode/utf8.acceptRanges", "unicode.CaseRanges"], apart := false, laid := [("unicode/utf8.acceptRanges", laid_unicode_utf8_acceptRanges), ("loop.example/neumes/impl.neumes", laid_loop_example_neumes_impl_neumes), ("unicode.CaseRanges", laid_unicode_CaseRanges), ("unicode/utf8.first", laid_unicode_utf8_first)], narrowed := true }
def FnGroupsReadUptoSaid : Prop := fnGroupsReadUptoRow.holds Tryd.pinned (OpenSpec.upto fnGroupsReadSpec)

/-- 'laws.FnExactGroupsNames', WHERE WHAT IT READS IS OF BULK AT MOST 1048576: true; the input reads as it did. -/
def fnExactGroupsNamesUptoRow : OpenClaim := { program := "ytkjimilapgkajabdoor", sum := "15c1997eb8b27c75c5f1a3c476d5c1311e1815fc76bb1859cdb3343968864b49", func := "loop.example/neumes/laws.FnExactGroupsNames", spec := "fnExactGroupsNames", inPlace := ["internal/abi.NoEscape", "internal/bytealg.MakeNoZero"], unfollowed := true, recurses := true, named := ["loop.example/neumes/impl.neumes", "unicode/utf8.first", "unicode/utf8.acceptRanges", "unicode.CaseRanges"], apart := false, laid := [("unicode/utf8.acceptRanges", laid_unicode_utf8_acceptRanges), ("loop.example/neumes/impl.neumes", laid_loop_example_neumes_impl_neumes), ("unicode.CaseRanges", laid_unicode_CaseRanges), ("unicode/utf8.first", laid_unicode_utf8_first)], narrowed := true }
def FnExactGroupsNamesUptoSaid : Prop := fnExactGroupsNamesUptoRow.holds Tryd.pinned (OpenSpec.upto fnExactGroupsNamesSpec)

/-- 'laws.FnExactGroupsRead', WHERE WHAT IT READS IS OF BULK AT MOST 1048576: true; the input reads as it did. -/
def fnExactGroupsReadUptoRow : OpenClaim := { program := "ytkjimilapgkajabdoor", sum := "15c1997eb8b27c75c5f1a3c476d5c1311e1815fc76bb1859cdb3343968864b49", func := "loop.example/neumes/laws.FnExactGroupsRead", spec := "fnExactGroupsRead", inPlace := ["internal/abi.NoEscape", "internal/bytealg.MakeNoZero"], unfollowed := true, recurses := true, named := ["loop.example/neumes/impl.neumes", "unicode/utf8.first", "unicode/utf8.acceptRanges", "unicode.CaseRanges"], apart := false, laid := [("unicode/utf8.acceptRanges", laid_unicode_utf8_acceptRanges), ("loop.example/neumes/impl.neumes", laid_loop_example_neumes_impl_neumes), ("unicode.CaseRanges", laid_unicode_CaseRanges), ("unicode/utf8.first", laid_unicode_utf8_first)], narrowed := true }
def FnExactGroupsReadUptoSaid : Prop := fnExactGroupsReadUptoRow.holds Tryd.pinned (OpenSpec.upto fnExactGroupsReadSpec)

end Rows
end Go.Proofs.YtkjimilapgkajabDoor
