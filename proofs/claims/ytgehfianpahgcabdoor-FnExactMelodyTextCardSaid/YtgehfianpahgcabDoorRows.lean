/-
  NARROWER THAN 'FOR EVERY INPUT', by the rows' own cells (each row's printed sentence says how): FnExactMelodyText: laid · FnExactMelodyFrom: laid · FnExactMelodySemis: laid · FnExactMelodyMove: laid · FnExactMelodySame: laid · FnMelodyMove: laid · FnMelodyMoveOctave: laid · FnMelodySame: laid · FnSing: laid · FnExactSingText: laid.
  DERIVED. THE GIVEN ROWS OF THIS SEAT. 10 by the template 'for every input the law returns true; each argument reads behind the call as it read before'; 0 by the template 'total and deterministic' (their statements: YtgehfianpahgcabDoorTotals.lean).
  GIVEN WITH THE SEED: the statements are not yours to turn. If you find one false, say at which input.
  Laid BY PROGRAM, IN A SANDBOX (cutbox-rows.mjs): the forced cells as the released guide's own fill.sh prints them over the translation d5cb951edae8c02b… (all of the seat's roots in one cut). By AI agents, Wed Nov 11 2026. No macro, syntax, notation, axiom, sorry.
-/
import Derived.Test.YtgehfianpahgcabDoorChecked
import GoSem.PinnedTables
import GoSem.Claim
import GoSem.ClaimJoined
import GoSem.ClaimMapViews
import Derived.JoinedTies
import Derived.KernelRfl
namespace Go.Proofs.YtgehfianpahgcabDoor
/- THE CELL 'sum', in the pinned program and in every row, IS THE sha256 OF THE DUMP (.gsa) THAT YtgehfianpahgcabDoorProg.lean LOADS. Nothing in Lean hashes anything: it is a label: what it is worth is what the hold of that sum in a sandbox is worth. -/
noncomputable def Tryd.pinned : Pinned := { name := "ytgehfianpahgcabdoor", sum := "d5cb951edae8c02b54b868e1bead14747647aff076021108afb2c59895085bef", checked := Tryd.checked }
namespace Rows
def none {H : Type} : Left H := { results := [], args := [] }

/- WHAT THE LISTED PACKAGE-LEVEL VARIABLES READ AS WHEN THE CALL BEGINS. Each datum BY PROGRAM (the guide's laid-datum.mjs) off the statement by which the dump's own 'gosem.cut.vars' lays the variable. In a bare row this is a premise. The card (YtgehfianpahgcabDoorCards.lean) ties it to the program's text. -/
def laid_math_bits_deBruijn32tab {H : Type} : DataW H := .agg [.lit (.int .u8 0), .lit (.int .u8 1), .lit (.int .u8 28), .lit (.int .u8 2), .lit (.int .u8 29), .lit (.int .u8 14), .lit (.int .u8 24), .lit (.int .u8 3), .lit (.int .u8 30), .lit (.int .u8 22), .lit (.int .u8 20), .lit (.int .u8 15), .lit (.int .u8 25), .lit (.int .u8 17), .lit (.int .u8 4), .lit (.int .u8 8), .lit (.int .u8 31), .lit (.int .u8 27), .lit (.int .u8 13), .lit (.int .u8 23), .lit (.int .u8 21), .lit (.int .u8 19), .lit (.int .u8 16), .lit (.int .u8 7), .lit (.int .u8 26), .lit (.int .u8 12), .lit (.int .u8 18), .lit (.int .u8 6), .lit (.int .u8 11), .lit (.int .u8 5), .lit (.int .u8 10), .lit (.int .u8 9)]
def laid_math_bits_deBruijn64tab {H : Type} : DataW H := .agg [.lit (.int .u8 0), .lit (.int .u8 1), .lit (.int .u8 56), .lit (.int .u8 2), .lit (.int .u8 57), .lit (.int .u8 49), .lit (.int .u8 28), .lit (.int .u8 3), .lit (.int .u8 61), .lit (.int .u8 58), .lit (.int .u8 42), .lit (.int .u8 50), .lit (.int .u8 38), .lit (.int .u8 29), .lit (.int .u8 17), .lit (.int .u8 4), .lit (.int .u8 62), .lit (.int .u8 47), .lit (.int .u8 59), .lit (.int .u8 36), .lit (.int .u8 45), .lit (.int .u8 43), .lit (.int .u8 51), .lit (.int .u8 22), .lit (.int .u8 53), .lit (.int .u8 39), .lit (.int .u8 33), .lit (.int .u8 30), .lit (.int .u8 24), .lit (.int .u8 18), .lit (.int .u8 12), .lit (.int .u8 5), .lit (.int .u8 63), .lit (.int .u8 55), .lit (.int .u8 48), .lit (.int .u8 27), .lit (.int .u8 60), .lit (.int .u8 41), .lit (.int .u8 37), .lit (.int .u8 16), .lit (.int .u8 46), .lit (.int .u8 35), .lit (.int .u8 44), .lit (.int .u8 21), .lit (.int .u8 52), .lit (.int .u8 32), .lit (.int .u8 23), .lit (.int .u8 11), .lit (.int .u8 54), .lit (.int .u8 26), .lit (.int .u8 40), .lit (.int .u8 15), .lit (.int .u8 34), .lit (.int .u8 20), .lit (.int .u8 31), .lit (.int .u8 10), .lit (.int .u8 25), .lit (.int .u8 14), .lit (.int .u8 19), .lit (.int .u8 9), .lit (.int .u8 13), .lit (.int .u8 8), .lit (.int .u8 7), .lit (.int .u8 6)]
def laid_internal_strconv_uint64pow10 {H : Type} : DataW H := .agg [.lit (.int .u64 1), .lit (.int .u64 10), .lit (.int .u64 100), .lit (.int .u64 1000), .lit (.int .u64 10000), .lit (.int .u64 100000), .lit (.int .u64 1000000), .lit (.int .u64 10000000), .lit (.int .u64 100000000), .lit (.int .u64 1000000000), .lit (.int .u64 10000000000), .lit (.int .u64 100000000000), .lit (.int .u64 1000000000000), .lit (.int .u64 10000000000000), .lit (.int .u64 100000000000000), .lit (.int .u64 1000000000000000), .lit (.int .u64 10000000000000000), .lit (.int .u64 100000000000000000), .lit (.int .u64 1000000000000000000), .lit (.int .u64 10000000000000000000)]
def laid_unicode_utf8_acceptRanges {H : Type} : DataW H := .agg [.agg [.lit (.int .u8 128), .lit (.int .u8 191)], .agg [.lit (.int .u8 160), .lit (.int .u8 191)], .agg [.lit (.int .u8 128), .lit (.int .u8 159)], .agg [.lit (.int .u8 144), .lit (.int .u8 191)], .agg [.lit (.int .u8 128), .lit (.int .u8 143)], .agg [.lit (.int .u8 0), .lit (.int .u8 0)], .agg [.lit (.int .u8 0), .lit (.int .u8 0)], .agg [.lit (.int .u8 0), .lit (.int .u8 0)], .agg [.lit (.int .u8 0), .lit (.int .u8 0)], .agg [.lit (.int .u8 0), .lit (.int .u8 0)], .agg [.lit (.int .u8 0), .lit (.int .u8 0)], .agg [.lit (.int .u8 0), .lit (.int .u8 0)], .agg [.lit (.int .u8 0), .lit (.int .u8 0)], .agg [.lit (.int .u8 0), .lit (.int .u8 0)], .agg [.lit (.int .u8 0), .lit (.int .u8 0)], .agg [.lit (.int .u8 0), .lit (.int .u8 0)]]
/-- One of Go's own tables, pinned by name: the form's constant. -/
def laid_unicode_utf8_first : DataW Unit := Go.Pinned.utf8First
def laid_loop_example_neumes_impl_stepHeights {H : Type} : DataW H := .agg [.lit (.int .i64 0), .lit (.int .i64 2), .lit (.int .i64 4), .lit (.int .i64 5), .lit (.int .i64 7), .lit (.int .i64 9), .lit (.int .i64 10)]
def laid_loop_example_neumes_impl_syllableNames {H : Type} : DataW H := .agg [.lit (.string [117, 116]), .lit (.string [114, 101]), .lit (.string [109, 105]), .lit (.string [102, 97]), .lit (.string [115, 111, 108]), .lit (.string [108, 97])]

/-- 'laws.FnExactMelodyText': WHATEVER THE INPUT: true; the input reads as it did. -/
def fnExactMelodyTextSpec : ChangeSpec := { name := "fnExactMelodyText", fn := fun _ => fun
  | [d] => { results := [.lit (.bool true)], args := [d] }
  | _ => none }
def fnExactMelodyTextRow : OpenClaim := { program := "ytgehfianpahgcabdoor", sum := "d5cb951edae8c02b54b868e1bead14747647aff076021108afb2c59895085bef", func := "loop.example/neumes/laws.FnExactMelodyText", spec := "fnExactMelodyText", inPlace := ["internal/abi.NoEscape", "internal/bytealg.MakeNoZero"], recurses := true, named := ["internal/strconv.uint64pow10", "math/bits.deBruijn32tab", "math/bits.deBruijn64tab"], apart := false, laid := [("math/bits.deBruijn32tab", laid_math_bits_deBruijn32tab), ("math/bits.deBruijn64tab", laid_math_bits_deBruijn64tab), ("internal/strconv.uint64pow10", laid_internal_strconv_uint64pow10)] }
def FnExactMelodyTextSaid : Prop := fnExactMelodyTextRow.holds Tryd.pinned (OpenSpec.ofChange fnExactMelodyTextSpec)

/-- ITS FALSE NEIGHBOUR: 'it returns false'. Refute it at one input. -/
def fnExactMelodyTextWrong : ChangeSpec := { name := "fnExactMelodyText", fn := fun _ => fun
  | [d] => { results := [.lit (.bool false)], args := [d] }
  | _ => none }
def FnExactMelodyTextWrongFalsely : Prop := fnExactMelodyTextRow.holds Tryd.pinned (OpenSpec.ofChange fnExactMelodyTextWrong)

/-- 'laws.FnExactMelodyFrom': WHATEVER THE INPUT: true; the input reads as it did. -/
def fnExactMelodyFromSpec : ChangeSpec := { name := "fnExactMelodyFrom", fn := fun _ => fun
  | [d] => { results := [.lit (.bool true)], args := [d] }
  | _ => none }
def fnExactMelodyFromRow : OpenClaim := { program := "ytgehfianpahgcabdoor", sum := "d5cb951edae8c02b54b868e1bead14747647aff076021108afb2c59895085bef", func := "loop.example/neumes/laws.FnExactMelodyFrom", spec := "fnExactMelodyFrom", inPlace := ["internal/bytealg.CountString", "internal/bytealg.IndexByteString", "internal/bytealg.IndexString"], recurses := true, named := ["unicode/utf8.first", "unicode/utf8.acceptRanges", "internal/bytealg.MaxLen"], apart := false, laid := [("unicode/utf8.acceptRanges", laid_unicode_utf8_acceptRanges), ("unicode/utf8.first", laid_unicode_utf8_first)] }
def FnExactMelodyFromSaid : Prop := fnExactMelodyFromRow.holds Tryd.pinned (OpenSpec.ofChange fnExactMelodyFromSpec)

/-- ITS FALSE NEIGHBOUR: 'it returns false'. Refute it at one input. -/
def fnExactMelodyFromWrong : ChangeSpec := { name := "fnExactMelodyFrom", fn := fun _ => fun
  | [d] => { results := [.lit (.bool false)], args := [d] }
  | _ => none }
def FnExactMelodyFromWrongFalsely : Prop := fnExactMelodyFromRow.holds Tryd.pinned (OpenSpec.ofChange fnExactMelodyFromWrong)

/-- 'laws.FnExactMelodySemis': WHATEVER THE INPUT: true; the input reads as it did. -/
def fnExactMelodySemisSpec : ChangeSpec := { name := "fnExactMelodySemis", vars := ["loop.example/neumes/impl.stepHeights"], fn := fun _ => fun
  | [d, g1] => { results := [.lit (.bool true)], args := [d], vars := [g1] }
  | _ => none }
def fnExactMelodySemisRow : OpenClaim := { program := "ytgehfianpahgcabdoor", sum := "d5cb951edae8c02b54b868e1bead14747647aff076021108afb2c59895085bef", func := "loop.example/neumes/laws.FnExactMelodySemis", spec := "fnExactMelodySemis", unfollowed := true, recurses := true, named := ["loop.example/neumes/impl.stepHeights"], apart := false, laid := [("loop.example/neumes/impl.stepHeights", laid_loop_example_neumes_impl_stepHeights)] }
def FnExactMelodySemisSaid : Prop := fnExactMelodySemisRow.holds Tryd.pinned (OpenSpec.ofChange fnExactMelodySemisSpec)

/-- ITS FALSE NEIGHBOUR: 'it returns false'. Refute it at one input. -/
def fnExactMelodySemisWrong : ChangeSpec := { name := "fnExactMelodySemis", vars := ["loop.example/neumes/impl.stepHeights"], fn := fun _ => fun
  | [d, g1] => { results := [.lit (.bool false)], args := [d], vars := [g1] }
  | _ => none }
def FnExactMelodySemisWrongFalsely : Prop := fnExactMelodySemisRow.holds Tryd.pinned (OpenSpec.ofChange fnExactMelodySemisWrong)

/-- 'laws.FnExactMelodyMove': WHATEVER THE INPUT: true; the input reads as it did. -/
def fnExactMelodyMoveSpec : ChangeSpec := { name := "fnExactMelodyMove", vars := ["loop.example/neumes/impl.stepHeights"], fn := fun _ => fun
  | [d1, d2, g1] => { results := [.lit (.bool true)], args := [d1, d2], vars := [g1] }
  | _ => none }
def fnExactMelodyMoveRow : OpenClaim := { program := "ytgehfianpahgcabdoor", sum := "d5cb951edae8c02b54b868e1bead14747647aff076021108afb2c59895085bef", func := "loop.example/neumes/laws.FnExactMelodyMove", spec := "fnExactMelodyMove", recurses := true, named := ["loop.example/neumes/impl.stepHeights"], apart := false, laid := [("loop.example/neumes/impl.stepHeights", laid_loop_example_neumes_impl_stepHeights)] }
def FnExactMelodyMoveSaid : Prop := fnExactMelodyMoveRow.holds Tryd.pinned (OpenSpec.ofChange fnExactMelodyMoveSpec)

/-- ITS FALSE NEIGHBOUR: 'it returns false'. Refute it at one input. -/
def fnExactMelodyMoveWrong : ChangeSpec := { name := "fnExactMelodyMove", vars := ["loop.example/neumes/impl.stepHeights"], fn := fun _ => fun
  | [d1, d2, g1] => { results := [.lit (.bool false)], args := [d1, d2], vars := [g1] }
  | _ => none }
def FnExactMelodyMoveWrongFalsely : Prop := fnExactMelodyMoveRow.holds Tryd.pinned (OpenSpec.ofChange fnExactMelodyMoveWrong)

/-- 'laws.FnExactMelodySame': WHATEVER THE INPUT: true; the input reads as it did. -/
def fnExactMelodySameSpec : ChangeSpec := { name := "fnExactMelodySame", vars := ["loop.example/neumes/impl.stepHeights"], fn := fun _ => fun
  | [d1, d2, g1] => { results := [.lit (.bool true)], args := [d1, d2], vars := [g1] }
  | _ => none }
def fnExactMelodySameRow : OpenClaim := { program := "ytgehfianpahgcabdoor", sum := "d5cb951edae8c02b54b868e1bead14747647aff076021108afb2c59895085bef", func := "loop.example/neumes/laws.FnExactMelodySame", spec := "fnExactMelodySame", unfollowed := true, recurses := true, named := ["loop.example/neumes/impl.stepHeights"], apart := false, laid := [("loop.example/neumes/impl.stepHeights", laid_loop_example_neumes_impl_stepHeights)] }
def FnExactMelodySameSaid : Prop := fnExactMelodySameRow.holds Tryd.pinned (OpenSpec.ofChange fnExactMelodySameSpec)

/-- ITS FALSE NEIGHBOUR: 'it returns false'. Refute it at one input. -/
def fnExactMelodySameWrong : ChangeSpec := { name := "fnExactMelodySame", vars := ["loop.example/neumes/impl.stepHeights"], fn := fun _ => fun
  | [d1, d2, g1] => { results := [.lit (.bool false)], args := [d1, d2], vars := [g1] }
  | _ => none }
def FnExactMelodySameWrongFalsely : Prop := fnExactMelodySameRow.holds Tryd.pinned (OpenSpec.ofChange fnExactMelodySameWrong)

/-- 'laws.FnMelodyMove': WHATEVER THE INPUT: true; the input reads as it did. -/
def fnMelodyMoveSpec : ChangeSpec := { name := "fnMelodyMove", vars := ["loop.example/neumes/impl.stepHeights"], fn := fun _ => fun
  | [d, g1] => { results := [.lit (.bool true)], args := [d], vars := [g1] }
  | _ => none }
def fnMelodyMoveRow : OpenClaim := { program := "ytgehfianpahgcabdoor", sum := "d5cb951edae8c02b54b868e1bead14747647aff076021108afb2c59895085bef", func := "loop.example/neumes/laws.FnMelodyMove", spec := "fnMelodyMove", unfollowed := true, recurses := true, named := ["loop.example/neumes/impl.stepHeights"], apart := false, laid := [("loop.example/neumes/impl.stepHeights", laid_loop_example_neumes_impl_stepHeights)] }
def FnMelodyMoveSaid : Prop := fnMelodyMoveRow.holds Tryd.pinned (OpenSpec.ofChange fnMelodyMoveSpec)

/-- ITS FALSE NEIGHBOUR: 'it returns false'. Refute it at one input. -/
def fnMelodyMoveWrong : ChangeSpec := { name := "fnMelodyMove", vars := ["loop.example/neumes/impl.stepHeights"], fn := fun _ => fun
  | [d, g1] => { results := [.lit (.bool false)], args := [d], vars := [g1] }
  | _ => none }
def FnMelodyMoveWrongFalsely : Prop := fnMelodyMoveRow.holds Tryd.pinned (OpenSpec.ofChange fnMelodyMoveWrong)

/-- 'laws.FnMelodyMoveOctave': WHATEVER THE INPUT: true; the input reads as it did. -/
def fnMelodyMoveOctaveSpec : ChangeSpec := { name := "fnMelodyMoveOctave", vars := ["loop.example/neumes/impl.stepHeights"], fn := fun _ => fun
  | [d, g1] => { results := [.lit (.bool true)], args := [d], vars := [g1] }
  | _ => none }
def fnMelodyMoveOctaveRow : OpenClaim := { program := "ytgehfianpahgcabdoor", sum := "d5cb951edae8c02b54b868e1bead14747647aff076021108afb2c59895085bef", func := "loop.example/neumes/laws.FnMelodyMoveOctave", spec := "fnMelodyMoveOctave", recurses := true, named := ["loop.example/neumes/impl.stepHeights"], apart := false, laid := [("loop.example/neumes/impl.stepHeights", laid_loop_example_neumes_impl_stepHeights)] }
def FnMelodyMoveOctaveSaid : Prop := fnMelodyMoveOctaveRow.holds Tryd.pinned (OpenSpec.ofChange fnMelodyMoveOctaveSpec)

/-- ITS FALSE NEIGHBOUR: 'it returns false'. Refute it at one input. -/
def fnMelodyMoveOctaveWrong : ChangeSpec := { name := "fnMelodyMoveOctave", vars := ["loop.example/neumes/impl.stepHeights"], fn := fun _ => fun
  | [d, g1] => { results := [.lit (.bool false)], args := [d], vars := [g1] }
  | _ => none }
def FnMelodyMoveOctaveWrongFalsely : Prop := fnMelodyMoveOctaveRow.holds Tryd.pinned (OpenSpec.ofChange fnMelodyMoveOctaveWrong)

/-- 'laws.FnMelodySame': WHATEVER THE INPUT: true; the input reads as it did. -/
def fnMelodySameSpec : ChangeSpec := { name := "fnMelodySame", vars := ["loop.example/neumes/impl.stepHeights"], fn := fun _ => fun
  | [d, g1] => { results := [.lit (.bool true)], args := [d], vars := [g1] }
  | _ => none }
def fnMelodySameRow : OpenClaim := { program := "ytgehfianpahgcabdoor", sum := "d5cb951edae8c02b54b868e1bead14747647aff076021108afb2c59895085bef", func := "loop.example/neumes/laws.FnMelodySame", spec := "fnMelodySame", unfollowed := true, recurses := true, named := ["loop.example/neumes/impl.stepHeights"], apart := false, laid := [("loop.example/neumes/impl.stepHeights", laid_loop_example_neumes_impl_stepHeights)] }
def FnMelodySameSaid : Prop := fnMelodySameRow.holds Tryd.pinned (OpenSpec.ofChange fnMelodySameSpec)

/-- ITS FALSE NEIGHBOUR: 'it returns false'. Refute it at one input. -/
def fnMelodySameWrong : ChangeSpec := { name := "fnMelodySame", vars := ["loop.example/neumes/impl.stepHeights"], fn := fun _ => fun
  | [d, g1] => { results := [.lit (.bool false)], args := [d], vars := [g1] }
  | _ => none }
def FnMelodySameWrongFalsely : Prop := fnMelodySameRow.holds Tryd.pinned (OpenSpec.ofChange fnMelodySameWrong)

/-- 'laws.FnSing': WHATEVER THE INPUT: true; the input reads as it did. -/
def fnSingSpec : ChangeSpec := { name := "fnSing", vars := ["loop.example/neumes/impl.syllableNames"], fn := fun _ => fun
  | [d, g1] => { results := [.lit (.bool true)], args := [d], vars := [g1] }
  | _ => none }
def fnSingRow : OpenClaim := { program := "ytgehfianpahgcabdoor", sum := "d5cb951edae8c02b54b868e1bead14747647aff076021108afb2c59895085bef", func := "loop.example/neumes/laws.FnSing", spec := "fnSing", inPlace := ["internal/abi.NoEscape", "internal/bytealg.MakeNoZero"], named := ["loop.example/neumes/impl.syllableNames"], apart := false, laid := [("loop.example/neumes/impl.syllableNames", laid_loop_example_neumes_impl_syllableNames)] }
def FnSingSaid : Prop := fnSingRow.holds Tryd.pinned (OpenSpec.ofChange fnSingSpec)

/-- ITS FALSE NEIGHBOUR: 'it returns false'. Refute it at one input. -/
def fnSingWrong : ChangeSpec := { name := "fnSing", vars := ["loop.example/neumes/impl.syllableNames"], fn := fun _ => fun
  | [d, g1] => { results := [.lit (.bool false)], args := [d], vars := [g1] }
  | _ => none }
def FnSingWrongFalsely : Prop := fnSingRow.holds Tryd.pinned (OpenSpec.ofChange fnSingWrong)

/-- 'laws.FnExactSingText': WHATEVER THE INPUT: true; the input reads as it did. -/
def fnExactSingTextSpec : ChangeSpec := { name := "fnExactSingText", vars := ["loop.example/neumes/impl.syllableNames"], fn := fun _ => fun
  | [d1, d2, g1] => { results := [.lit (.bool true)], args := [d1, d2], vars := [g1] }
  | _ => none }
def fnExactSingTextRow : OpenClaim := { program := "ytgehfianpahgcabdoor", sum := "d5cb951edae8c02b54b868e1bead14747647aff076021108afb2c59895085bef", func := "loop.example/neumes/laws.FnExactSingText", spec := "fnExactSingText", inPlace := ["internal/abi.NoEscape", "internal/bytealg.MakeNoZero"], named := ["loop.example/neumes/impl.syllableNames"], apart := false, laid := [("loop.example/neumes/impl.syllableNames", laid_loop_example_neumes_impl_syllableNames)] }
def FnExactSingTextSaid : Prop := fnExactSingTextRow.holds Tryd.pinned (OpenSpec.ofChange fnExactSingTextSpec)

/-- ITS FALSE NEIGHBOUR: 'it returns false'. Refute it at one input. -/
def fnExactSingTextWrong : ChangeSpec := { name := "fnExactSingText", vars := ["loop.example/neumes/impl.syllableNames"], fn := fun _ => fun
  | [d1, d2, g1] => { results := [.lit (.bool false)], args := [d1, d2], vars := [g1] }
  | _ => none }
def FnExactSingTextWrongFalsely : Prop := fnExactSingTextRow.holds Tryd.pinned (OpenSpec.ofChange fnExactSingTextWrong)

/- THE SECOND FORM. 'bulk': how many values and letters a reading holds, each counted each time it is reached (what is shared counts as often as it is met; a slice's spare places count too). A statement '..UptoSaid' is the law's where the arguments, and the package variables that the reading takes, are together of bulk at most 1048576: NARROWER than '..Said'. Prove '..Said' where nothing that the law and all that it calls make is longer than what came in: it says more and counts as full. Else prove '..UptoSaid'. A law counts once. -/
mutual
def uptoBulk {H : Type} : DataW H → Nat
  | .lit (.string bytes) => bytes.length + 1
  | .lit _ => 1
  | .nil => 1
  | .ptr d => uptoBulk d + 1
  | .slice elems spare => uptoBulkAll elems + uptoBulkAll spare + 1
  | .agg parts => uptoBulkAll parts + 1
  | .iface _ d => uptoBulk d + 1
  | .map entries => uptoBulkEntries entries + 1
  | .held _ => 1
def uptoBulkAll {H : Type} : List (DataW H) → Nat
  | [] => 0
  | d :: r => uptoBulk d + uptoBulkAll r
def uptoBulkEntries {H : Type} : List (Lit × DataW H) → Nat
  | [] => 0
  | x :: r => uptoBulkEntry x + uptoBulkEntries r
def uptoBulkEntry {H : Type} : Lit × DataW H → Nat
  | (.string bytes, d) => bytes.length + uptoBulk d + 1
  | (_, d) => uptoBulk d + 1
 end
def uptoSmall : (H : Type) → List (DataW H) → Bool := fun _ ds => decide (uptoBulkAll ds ≤ 1048576)
def OpenSpec.upto (s : _root_.Go.ChangeSpec) : _root_.Go.OpenSpec := { _root_.Go.OpenSpec.ofChange s with cond := some uptoSmall }

/-- 'laws.FnExactMelodyText', WHERE WHAT IT READS IS OF BULK AT MOST 1048576: true; the input reads as it did. -/
def fnExactMelodyTextUptoRow : OpenClaim := { program := "ytgehfianpahgcabdoor", sum := "d5cb951edae8c02b54b868e1bead14747647aff076021108afb2c59895085bef", func := "loop.example/neumes/laws.FnExactMelodyText", spec := "fnExactMelodyText", inPlace := ["internal/abi.NoEscape", "internal/bytealg.MakeNoZero"], recurses := true, named := ["internal/strconv.uint64pow10", "math/bits.deBruijn32tab", "math/bits.deBruijn64tab"], apart := false, laid := [("math/bits.deBruijn32tab", laid_math_bits_deBruijn32tab), ("math/bits.deBruijn64tab", laid_math_bits_deBruijn64tab), ("internal/strconv.uint64pow10", laid_internal_strconv_uint64pow10)], narrowed := true }
def FnExactMelodyTextUptoSaid : Prop := fnExactMelodyTextUptoRow.holds Tryd.pinned (OpenSpec.upto fnExactMelodyTextSpec)

/-- 'laws.FnExactMelodyFrom', WHERE WHAT IT READS IS OF BULK AT MOST 1048576: true; the input reads as it did. -/
def fnExactMelodyFromUptoRow : OpenClaim := { program := "ytgehfianpahgcabdoor", sum := "d5cb951edae8c02b54b868e1bead14747647aff076021108afb2c59895085bef", func := "loop.example/neumes/laws.FnExactMelodyFrom", spec := "fnExactMelodyFrom", inPlace := ["internal/bytealg.CountString", "internal/bytealg.IndexByteString", "internal/bytealg.IndexString"], recurses := true, named := ["unicode/utf8.first", "unicode/utf8.acceptRanges", "internal/bytealg.MaxLen"], apart := false, laid := [("unicode/utf8.acceptRanges", laid_unicode_utf8_acceptRanges), ("unicode/utf8.first", laid_unicode_utf8_first)], narrowed := true }
def FnExactMelodyFromUptoSaid : Prop := fnExactMelodyFromUptoRow.holds Tryd.pinned (OpenSpec.upto fnExactMelodyFromSpec)

/-- 'laws.FnExactMelodySemis', WHERE WHAT IT READS IS OF BULK AT MOST 1048576: true; the input reads as it did. -/
def fnExactMelodySemisUptoRow : OpenClaim := { program := "ytgehfianpahgcabdoor", sum := "d5cb951edae8c02b54b868e1bead14747647aff076021108afb2c59895085bef", func := "loop.example/neumes/laws.FnExactMelodySemis", spec := "fnExactMelodySemis", unfollowed := true, recurses := true, named := ["loop.example/neumes/impl.stepHeights"], apart := false, laid := [("loop.example/neumes/impl.stepHeights", laid_loop_example_neumes_impl_stepHeights)], narrowed := true }
def FnExactMelodySemisUptoSaid : Prop := fnExactMelodySemisUptoRow.holds Tryd.pinned (OpenSpec.upto fnExactMelodySemisSpec)

/-- 'laws.FnExactMelodyMove', WHERE WHAT IT READS IS OF BULK AT MOST 1048576: true; the input reads as it did. -/
def fnExactMelodyMoveUptoRow : OpenClaim := { program := "ytgehfianpahgcabdoor", sum := "d5cb951edae8c02b54b868e1bead14747647aff076021108afb2c59895085bef", func := "loop.example/neumes/laws.FnExactMelodyMove", spec := "fnExactMelodyMove", recurses := true, named := ["loop.example/neumes/impl.stepHeights"], apart := false, laid := [("loop.example/neumes/impl.stepHeights", laid_loop_example_neumes_impl_stepHeights)], narrowed := true }
def FnExactMelodyMoveUptoSaid : Prop := fnExactMelodyMoveUptoRow.holds Tryd.pinned (OpenSpec.upto fnExactMelodyMoveSpec)

/-- 'laws.FnExactMelodySame', WHERE WHAT IT READS IS OF BULK AT MOST 1048576: true; the input reads as it did. -/
def fnExactMelodySameUptoRow : OpenClaim := { program := "ytgehfianpahgcabdoor", sum := "d5cb951edae8c02b54b868e1bead14747647aff076021108afb2c59895085bef", func := "loop.example/neumes/laws.FnExactMelodySame", spec := "fnExactMelodySame", unfollowed := true, recurses := true, named := ["loop.example/neumes/impl.stepHeights"], apart := false, laid := [("loop.example/neumes/impl.stepHeights", laid_loop_example_neumes_impl_stepHeights)], narrowed := true }
def FnExactMelodySameUptoSaid : Prop := fnExactMelodySameUptoRow.holds Tryd.pinned (OpenSpec.upto fnExactMelodySameSpec)

/-- 'laws.FnMelodyMove', WHERE WHAT IT READS IS OF BULK AT MOST 1048576: true; the input reads as it did. -/
def fnMelodyMoveUptoRow : OpenClaim := { program := "ytgehfianpahgcabdoor", sum := "d5cb951edae8c02b54b868e1bead14747647aff076021108afb2c59895085bef", func := "loop.example/neumes/laws.FnMelodyMove", spec := "fnMelodyMove", unfollowed := true, recurses := true, named := ["loop.example/neumes/impl.stepHeights"], apart := false, laid := [("loop.example/neumes/impl.stepHeights", laid_loop_example_neumes_impl_stepHeights)], narrowed := true }
def FnMelodyMoveUptoSaid : Prop := fnMelodyMoveUptoRow.holds Tryd.pinned (OpenSpec.upto fnMelodyMoveSpec)

/-- 'laws.FnMelodyMoveOctave', WHERE WHAT IT READS IS OF BULK AT MOST 1048576: true; the input reads as it did. -/
def fnMelodyMoveOctaveUptoRow : OpenClaim := { program := "ytgehfianpahgcabdoor", sum := "d5cb951edae8c02b54b868e1bead14747647aff076021108afb2c59895085bef", func := "loop.example/neumes/laws.FnMelodyMoveOctave", spec := "fnMelodyMoveOctave", recurses := true, named := ["loop.example/neumes/impl.stepHeights"], apart := false, laid := [("loop.example/neumes/impl.stepHeights", laid_loop_example_neumes_impl_stepHeights)], narrowed := true }
def FnMelodyMoveOctaveUptoSaid : Prop := fnMelodyMoveOctaveUptoRow.holds Tryd.pinned (OpenSpec.upto fnMelodyMoveOctaveSpec)

/-- 'laws.FnMelodySame', WHERE WHAT IT READS IS OF BULK AT MOST 1048576: true; the input reads as it did. -/
def fnMelodySameUptoRow : OpenClaim := { program := "ytgehfianpahgcabdoor", sum := "d5cb951edae8c02b54b868e1bead14747647aff076021108afb2c59895085bef", func := "loop.example/neumes/laws.FnMelodySame", spec := "fnMelodySame", unfollowed := true, recurses := true, named := ["loop.example/neumes/impl.stepHeights"], apart := false, laid := [("loop.example/neumes/impl.stepHeights", laid_loop_example_neumes_impl_stepHeights)], narrowed := true }
def FnMelodySameUptoSaid : Prop := fnMelodySameUptoRow.holds Tryd.pinned (OpenSpec.upto fnMelodySameSpec)

/-- 'laws.FnSing', WHERE WHAT IT READS IS OF BULK AT MOST 1048576: true; the input reads as it did. -/
def fnSingUptoRow : OpenClaim := { program := "ytgehfianpahgcabdoor", sum := "d5cb951edae8c02b54b868e1bead14747647aff076021108afb2c59895085bef", func := "loop.example/neumes/laws.FnSing", spec := "fnSing", inPlace := ["internal/abi.NoEscape", "internal/bytealg.MakeNoZero"], named := ["loop.example/neumes/impl.syllableNames"], apart := false, laid := [("loop.example/neumes/impl.syllableNames", laid_loop_example_neumes_impl_syllableNames)], narrowed := true }
def FnSingUptoSaid : Prop := fnSingUptoRow.holds Tryd.pinned (OpenSpec.upto fnSingSpec)

/-- 'laws.FnExactSingText', WHERE WHAT IT READS IS OF BULK AT MOST 1048576: true; the input reads as it did. -/
def fnExactSingTextUptoRow : OpenClaim := { program := "ytgehfianpahgcabdoor", sum := "d5cb951edae8c02b54b868e1bead14747647aff076021108afb2c59895085bef", func := "loop.example/neumes/laws.FnExactSingText", spec := "fnExactSingText", inPlace := ["internal/abi.NoEscape", "internal/bytealg.MakeNoZero"], named := ["loop.example/neumes/impl.syllableNames"], apart := false, laid := [("loop.example/neumes/impl.syllableNames", laid_loop_example_neumes_impl_syllableNames)], narrowed := true }
def FnExactSingTextUptoSaid : Prop := fnExactSingTextUptoRow.holds Tryd.pinned (OpenSpec.upto fnExactSingTextSpec)

end Rows
end Go.Proofs.YtgehfianpahgcabDoor
