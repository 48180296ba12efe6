/-
  NARROWER THAN 'FOR EVERY INPUT', by the rows' own cells (each row's printed sentence says how): FnToneText: laid · FnToneFrom: laid · FnInterval: laid · FnIntervalSemis: laid · FnHexAll: laid · FnMelodyMove: laid · FnMelodyMoveOctave: laid · FnMelodyJoin: laid · FnMelodyText: laid · FnMelodyFrom: laid · FnMelodySame: laid · FnSing: laid · FnExactToneInterval: laid · FnExactToneNames: laid · FnExactMelodyMove: laid · FnExactMelodyFrom: laid · FnExactSingText: laid.
  DERIVED. THE GIVEN ROWS OF THIS SEAT. 17 by the template 'for every input the law returns true; each argument reads behind the call as it read before'; 0 by the template 'total and deterministic' (their statements: YtjodcaeohkjlnaaDoorTotals.lean).
  GIVEN WITH THE SEED: the statements are not yours to turn. If you find one false, say at which input.
  Laid BY PROGRAM, IN A SANDBOX (cutbox-rows.mjs): the forced cells as the released guide's own fill.sh prints them over the translation 41ff2504ae817c6e… (all of the seat's roots in one cut). By AI agents, Wed Nov 11 2026. No macro, syntax, notation, axiom, sorry.
-/
import Derived.Test.YtjodcaeohkjlnaaDoorChecked
import GoSem.PinnedTables
import GoSem.Claim
import GoSem.ClaimJoined
import GoSem.ClaimMapViews
import Derived.JoinedTies
import Derived.KernelRfl
namespace Go.Proofs.YtjodcaeohkjlnaaDoor
/- THE CELL 'sum', in the pinned program and in every row, IS THE sha256 OF THE DUMP (.gsa) THAT YtjodcaeohkjlnaaDoorProg.lean LOADS. Nothing in Lean hashes anything: it is a label: what it is worth is what the hold of that sum in a sandbox is worth. -/
noncomputable def Tryd.pinned : Pinned := { name := "ytjodcaeohkjlnaadoor", sum := "41ff2504ae817c6eefeca3622312468cfaa9247b8a0b7f8af4600da5dfb25a75", checked := Tryd.checked }
namespace Rows
def none {H : Type} : Left H := { results := [], args := [] }

/- WHAT THE LISTED PACKAGE-LEVEL VARIABLES READ AS WHEN THE CALL BEGINS. Each datum BY PROGRAM (the guide's laid-datum.mjs) off the statement by which the dump's own 'gosem.cut.vars' lays the variable. In a bare row this is a premise. The card (YtjodcaeohkjlnaaDoorCards.lean) ties it to the program's text. -/
def laid_math_bits_deBruijn32tab {H : Type} : DataW H := .agg [.lit (.int .u8 0), .lit (.int .u8 1), .lit (.int .u8 28), .lit (.int .u8 2), .lit (.int .u8 29), .lit (.int .u8 14), .lit (.int .u8 24), .lit (.int .u8 3), .lit (.int .u8 30), .lit (.int .u8 22), .lit (.int .u8 20), .lit (.int .u8 15), .lit (.int .u8 25), .lit (.int .u8 17), .lit (.int .u8 4), .lit (.int .u8 8), .lit (.int .u8 31), .lit (.int .u8 27), .lit (.int .u8 13), .lit (.int .u8 23), .lit (.int .u8 21), .lit (.int .u8 19), .lit (.int .u8 16), .lit (.int .u8 7), .lit (.int .u8 26), .lit (.int .u8 12), .lit (.int .u8 18), .lit (.int .u8 6), .lit (.int .u8 11), .lit (.int .u8 5), .lit (.int .u8 10), .lit (.int .u8 9)]
def laid_math_bits_deBruijn64tab {H : Type} : DataW H := .agg [.lit (.int .u8 0), .lit (.int .u8 1), .lit (.int .u8 56), .lit (.int .u8 2), .lit (.int .u8 57), .lit (.int .u8 49), .lit (.int .u8 28), .lit (.int .u8 3), .lit (.int .u8 61), .lit (.int .u8 58), .lit (.int .u8 42), .lit (.int .u8 50), .lit (.int .u8 38), .lit (.int .u8 29), .lit (.int .u8 17), .lit (.int .u8 4), .lit (.int .u8 62), .lit (.int .u8 47), .lit (.int .u8 59), .lit (.int .u8 36), .lit (.int .u8 45), .lit (.int .u8 43), .lit (.int .u8 51), .lit (.int .u8 22), .lit (.int .u8 53), .lit (.int .u8 39), .lit (.int .u8 33), .lit (.int .u8 30), .lit (.int .u8 24), .lit (.int .u8 18), .lit (.int .u8 12), .lit (.int .u8 5), .lit (.int .u8 63), .lit (.int .u8 55), .lit (.int .u8 48), .lit (.int .u8 27), .lit (.int .u8 60), .lit (.int .u8 41), .lit (.int .u8 37), .lit (.int .u8 16), .lit (.int .u8 46), .lit (.int .u8 35), .lit (.int .u8 44), .lit (.int .u8 21), .lit (.int .u8 52), .lit (.int .u8 32), .lit (.int .u8 23), .lit (.int .u8 11), .lit (.int .u8 54), .lit (.int .u8 26), .lit (.int .u8 40), .lit (.int .u8 15), .lit (.int .u8 34), .lit (.int .u8 20), .lit (.int .u8 31), .lit (.int .u8 10), .lit (.int .u8 25), .lit (.int .u8 14), .lit (.int .u8 19), .lit (.int .u8 9), .lit (.int .u8 13), .lit (.int .u8 8), .lit (.int .u8 7), .lit (.int .u8 6)]
def laid_internal_strconv_uint64pow10 {H : Type} : DataW H := .agg [.lit (.int .u64 1), .lit (.int .u64 10), .lit (.int .u64 100), .lit (.int .u64 1000), .lit (.int .u64 10000), .lit (.int .u64 100000), .lit (.int .u64 1000000), .lit (.int .u64 10000000), .lit (.int .u64 100000000), .lit (.int .u64 1000000000), .lit (.int .u64 10000000000), .lit (.int .u64 100000000000), .lit (.int .u64 1000000000000), .lit (.int .u64 10000000000000), .lit (.int .u64 100000000000000), .lit (.int .u64 1000000000000000), .lit (.int .u64 10000000000000000), .lit (.int .u64 100000000000000000), .lit (.int .u64 1000000000000000000), .lit (.int .u64 10000000000000000000)]
def laid_loop_example_neumes_impl_stepHeights {H : Type} : DataW H := .agg [.lit (.int .i64 0), .lit (.int .i64 2), .lit (.int .i64 4), .lit (.int .i64 5), .lit (.int .i64 7), .lit (.int .i64 9), .lit (.int .i64 10)]
def laid_loop_example_neumes_impl_leastSemis {H : Type} : DataW H := .agg [.lit (.int .i64 0), .lit (.int .i64 1), .lit (.int .i64 3), .lit (.int .i64 5), .lit (.int .i64 7), .lit (.int .i64 8), .lit (.int .i64 10)]
def laid_loop_example_neumes_impl_syllableNames {H : Type} : DataW H := .agg [.lit (.string [117, 116]), .lit (.string [114, 101]), .lit (.string [109, 105]), .lit (.string [102, 97]), .lit (.string [115, 111, 108]), .lit (.string [108, 97])]
def laid_unicode_utf8_acceptRanges {H : Type} : DataW H := .agg [.agg [.lit (.int .u8 128), .lit (.int .u8 191)], .agg [.lit (.int .u8 160), .lit (.int .u8 191)], .agg [.lit (.int .u8 128), .lit (.int .u8 159)], .agg [.lit (.int .u8 144), .lit (.int .u8 191)], .agg [.lit (.int .u8 128), .lit (.int .u8 143)], .agg [.lit (.int .u8 0), .lit (.int .u8 0)], .agg [.lit (.int .u8 0), .lit (.int .u8 0)], .agg [.lit (.int .u8 0), .lit (.int .u8 0)], .agg [.lit (.int .u8 0), .lit (.int .u8 0)], .agg [.lit (.int .u8 0), .lit (.int .u8 0)], .agg [.lit (.int .u8 0), .lit (.int .u8 0)], .agg [.lit (.int .u8 0), .lit (.int .u8 0)], .agg [.lit (.int .u8 0), .lit (.int .u8 0)], .agg [.lit (.int .u8 0), .lit (.int .u8 0)], .agg [.lit (.int .u8 0), .lit (.int .u8 0)], .agg [.lit (.int .u8 0), .lit (.int .u8 0)]]
/-- One of Go's own tables, pinned by name: the form's constant. -/
def laid_unicode_utf8_first : DataW Unit := Go.Pinned.utf8First

/-- 'laws.FnToneText': WHATEVER THE INPUT: true; the input reads as it did. -/
def fnToneTextSpec : ChangeSpec := { name := "fnToneText", fn := fun _ => fun
  | [d] => { results := [.lit (.bool true)], args := [d] }
  | _ => none }
def fnToneTextRow : OpenClaim := { program := "ytjodcaeohkjlnaadoor", sum := "41ff2504ae817c6eefeca3622312468cfaa9247b8a0b7f8af4600da5dfb25a75", func := "loop.example/neumes/laws.FnToneText", spec := "fnToneText", inPlace := ["internal/bytealg.IndexByteString"], recurses := true, named := ["internal/strconv.uint64pow10", "math/bits.deBruijn32tab", "math/bits.deBruijn64tab"], apart := false, laid := [("math/bits.deBruijn32tab", laid_math_bits_deBruijn32tab), ("math/bits.deBruijn64tab", laid_math_bits_deBruijn64tab), ("internal/strconv.uint64pow10", laid_internal_strconv_uint64pow10)] }
def FnToneTextSaid : Prop := fnToneTextRow.holds Tryd.pinned (OpenSpec.ofChange fnToneTextSpec)

/-- ITS FALSE NEIGHBOUR: 'it returns false'. Refute it at one input. -/
def fnToneTextWrong : ChangeSpec := { name := "fnToneText", fn := fun _ => fun
  | [d] => { results := [.lit (.bool false)], args := [d] }
  | _ => none }
def FnToneTextWrongFalsely : Prop := fnToneTextRow.holds Tryd.pinned (OpenSpec.ofChange fnToneTextWrong)

/-- 'laws.FnToneFrom': WHATEVER THE INPUT: true; the input reads as it did. -/
def fnToneFromSpec : ChangeSpec := { name := "fnToneFrom", fn := fun _ => fun
  | [d] => { results := [.lit (.bool true)], args := [d] }
  | _ => none }
def fnToneFromRow : OpenClaim := { program := "ytjodcaeohkjlnaadoor", sum := "41ff2504ae817c6eefeca3622312468cfaa9247b8a0b7f8af4600da5dfb25a75", func := "loop.example/neumes/laws.FnToneFrom", spec := "fnToneFrom", inPlace := ["internal/bytealg.IndexByteString"], recurses := true, named := ["internal/strconv.uint64pow10", "math/bits.deBruijn32tab", "math/bits.deBruijn64tab"], apart := false, laid := [("math/bits.deBruijn32tab", laid_math_bits_deBruijn32tab), ("math/bits.deBruijn64tab", laid_math_bits_deBruijn64tab), ("internal/strconv.uint64pow10", laid_internal_strconv_uint64pow10)] }
def FnToneFromSaid : Prop := fnToneFromRow.holds Tryd.pinned (OpenSpec.ofChange fnToneFromSpec)

/-- ITS FALSE NEIGHBOUR: 'it returns false'. Refute it at one input. -/
def fnToneFromWrong : ChangeSpec := { name := "fnToneFrom", fn := fun _ => fun
  | [d] => { results := [.lit (.bool false)], args := [d] }
  | _ => none }
def FnToneFromWrongFalsely : Prop := fnToneFromRow.holds Tryd.pinned (OpenSpec.ofChange fnToneFromWrong)

/-- 'laws.FnInterval': WHATEVER THE INPUT: true; the input reads as it did. -/
def fnIntervalSpec : ChangeSpec := { name := "fnInterval", vars := ["loop.example/neumes/impl.stepHeights", "loop.example/neumes/impl.leastSemis"], fn := fun _ => fun
  | [d, g1, g2] => { results := [.lit (.bool true)], args := [d], vars := [g1, g2] }
  | _ => none }
def fnIntervalRow : OpenClaim := { program := "ytjodcaeohkjlnaadoor", sum := "41ff2504ae817c6eefeca3622312468cfaa9247b8a0b7f8af4600da5dfb25a75", func := "loop.example/neumes/laws.FnInterval", spec := "fnInterval", recurses := true, named := ["loop.example/neumes/impl.stepHeights", "internal/strconv.uint64pow10", "math/bits.deBruijn32tab", "math/bits.deBruijn64tab", "loop.example/neumes/impl.leastSemis"], apart := false, laid := [("math/bits.deBruijn32tab", laid_math_bits_deBruijn32tab), ("math/bits.deBruijn64tab", laid_math_bits_deBruijn64tab), ("internal/strconv.uint64pow10", laid_internal_strconv_uint64pow10), ("loop.example/neumes/impl.stepHeights", laid_loop_example_neumes_impl_stepHeights), ("loop.example/neumes/impl.leastSemis", laid_loop_example_neumes_impl_leastSemis)] }
def FnIntervalSaid : Prop := fnIntervalRow.holds Tryd.pinned (OpenSpec.ofChange fnIntervalSpec)

/-- ITS FALSE NEIGHBOUR: 'it returns false'. Refute it at one input. -/
def fnIntervalWrong : ChangeSpec := { name := "fnInterval", vars := ["loop.example/neumes/impl.stepHeights", "loop.example/neumes/impl.leastSemis"], fn := fun _ => fun
  | [d, g1, g2] => { results := [.lit (.bool false)], args := [d], vars := [g1, g2] }
  | _ => none }
def FnIntervalWrongFalsely : Prop := fnIntervalRow.holds Tryd.pinned (OpenSpec.ofChange fnIntervalWrong)

/-- 'laws.FnIntervalSemis': WHATEVER THE INPUT: true; the input reads as it did. -/
def fnIntervalSemisSpec : ChangeSpec := { name := "fnIntervalSemis", vars := ["loop.example/neumes/impl.stepHeights", "loop.example/neumes/impl.leastSemis"], fn := fun _ => fun
  | [d, g1, g2] => { results := [.lit (.bool true)], args := [d], vars := [g1, g2] }
  | _ => none }
def fnIntervalSemisRow : OpenClaim := { program := "ytjodcaeohkjlnaadoor", sum := "41ff2504ae817c6eefeca3622312468cfaa9247b8a0b7f8af4600da5dfb25a75", func := "loop.example/neumes/laws.FnIntervalSemis", spec := "fnIntervalSemis", recurses := true, named := ["loop.example/neumes/impl.stepHeights", "internal/strconv.uint64pow10", "math/bits.deBruijn32tab", "math/bits.deBruijn64tab", "loop.example/neumes/impl.leastSemis"], apart := false, laid := [("math/bits.deBruijn32tab", laid_math_bits_deBruijn32tab), ("math/bits.deBruijn64tab", laid_math_bits_deBruijn64tab), ("internal/strconv.uint64pow10", laid_internal_strconv_uint64pow10), ("loop.example/neumes/impl.stepHeights", laid_loop_example_neumes_impl_stepHeights), ("loop.example/neumes/impl.leastSemis", laid_loop_example_neumes_impl_leastSemis)] }
def FnIntervalSemisSaid : Prop := fnIntervalSemisRow.holds Tryd.pinned (OpenSpec.ofChange fnIntervalSemisSpec)

/-- ITS FALSE NEIGHBOUR: 'it returns false'. Refute it at one input. -/
def fnIntervalSemisWrong : ChangeSpec := { name := "fnIntervalSemis", vars := ["loop.example/neumes/impl.stepHeights", "loop.example/neumes/impl.leastSemis"], fn := fun _ => fun
  | [d, g1, g2] => { results := [.lit (.bool false)], args := [d], vars := [g1, g2] }
  | _ => none }
def FnIntervalSemisWrongFalsely : Prop := fnIntervalSemisRow.holds Tryd.pinned (OpenSpec.ofChange fnIntervalSemisWrong)

/-- 'laws.FnHexAll': WHATEVER THE INPUT: true; the input reads as it did. -/
def fnHexAllSpec : ChangeSpec := { name := "fnHexAll", vars := ["loop.example/neumes/impl.syllableNames"], fn := fun _ => fun
  | [d, g1] => { results := [.lit (.bool true)], args := [d], vars := [g1] }
  | _ => none }
def fnHexAllRow : OpenClaim := { program := "ytjodcaeohkjlnaadoor", sum := "41ff2504ae817c6eefeca3622312468cfaa9247b8a0b7f8af4600da5dfb25a75", func := "loop.example/neumes/laws.FnHexAll", spec := "fnHexAll", inPlace := ["internal/abi.NoEscape", "internal/bytealg.MakeNoZero"], named := ["loop.example/neumes/impl.syllableNames"], apart := false, laid := [("loop.example/neumes/impl.syllableNames", laid_loop_example_neumes_impl_syllableNames)] }
def FnHexAllSaid : Prop := fnHexAllRow.holds Tryd.pinned (OpenSpec.ofChange fnHexAllSpec)

/-- ITS FALSE NEIGHBOUR: 'it returns false'. Refute it at one input. -/
def fnHexAllWrong : ChangeSpec := { name := "fnHexAll", vars := ["loop.example/neumes/impl.syllableNames"], fn := fun _ => fun
  | [d, g1] => { results := [.lit (.bool false)], args := [d], vars := [g1] }
  | _ => none }
def FnHexAllWrongFalsely : Prop := fnHexAllRow.holds Tryd.pinned (OpenSpec.ofChange fnHexAllWrong)

/-- 'laws.FnMelodyMove': WHATEVER THE INPUT: true; the input reads as it did. -/
def fnMelodyMoveSpec : ChangeSpec := { name := "fnMelodyMove", vars := ["loop.example/neumes/impl.stepHeights"], fn := fun _ => fun
  | [d, g1] => { results := [.lit (.bool true)], args := [d], vars := [g1] }
  | _ => none }
def fnMelodyMoveRow : OpenClaim := { program := "ytjodcaeohkjlnaadoor", sum := "41ff2504ae817c6eefeca3622312468cfaa9247b8a0b7f8af4600da5dfb25a75", func := "loop.example/neumes/laws.FnMelodyMove", spec := "fnMelodyMove", unfollowed := true, recurses := true, named := ["loop.example/neumes/impl.stepHeights"], apart := false, laid := [("loop.example/neumes/impl.stepHeights", laid_loop_example_neumes_impl_stepHeights)] }
def FnMelodyMoveSaid : Prop := fnMelodyMoveRow.holds Tryd.pinned (OpenSpec.ofChange fnMelodyMoveSpec)

/-- ITS FALSE NEIGHBOUR: 'it returns false'. Refute it at one input. -/
def fnMelodyMoveWrong : ChangeSpec := { name := "fnMelodyMove", vars := ["loop.example/neumes/impl.stepHeights"], fn := fun _ => fun
  | [d, g1] => { results := [.lit (.bool false)], args := [d], vars := [g1] }
  | _ => none }
def FnMelodyMoveWrongFalsely : Prop := fnMelodyMoveRow.holds Tryd.pinned (OpenSpec.ofChange fnMelodyMoveWrong)

/-- 'laws.FnMelodyMoveOctave': WHATEVER THE INPUT: true; the input reads as it did. -/
def fnMelodyMoveOctaveSpec : ChangeSpec := { name := "fnMelodyMoveOctave", vars := ["loop.example/neumes/impl.stepHeights"], fn := fun _ => fun
  | [d, g1] => { results := [.lit (.bool true)], args := [d], vars := [g1] }
  | _ => none }
def fnMelodyMoveOctaveRow : OpenClaim := { program := "ytjodcaeohkjlnaadoor", sum := "41ff2504ae817c6eefeca3622312468cfaa9247b8a0b7f8af4600da5dfb25a75", func := "loop.example/neumes/laws.FnMelodyMoveOctave", spec := "fnMelodyMoveOctave", recurses := true, named := ["loop.example/neumes/impl.stepHeights"], apart := false, laid := [("loop.example/neumes/impl.stepHeights", laid_loop_example_neumes_impl_stepHeights)] }
def FnMelodyMoveOctaveSaid : Prop := fnMelodyMoveOctaveRow.holds Tryd.pinned (OpenSpec.ofChange fnMelodyMoveOctaveSpec)

/-- ITS FALSE NEIGHBOUR: 'it returns false'. Refute it at one input. -/
def fnMelodyMoveOctaveWrong : ChangeSpec := { name := "fnMelodyMoveOctave", vars := ["loop.example/neumes/impl.stepHeights"], fn := fun _ => fun
  | [d, g1] => { results := [.lit (.bool false)], args := [d], vars := [g1] }
  | _ => none }
def FnMelodyMoveOctaveWrongFalsely : Prop := fnMelodyMoveOctaveRow.holds Tryd.pinned (OpenSpec.ofChange fnMelodyMoveOctaveWrong)

/-- 'laws.FnMelodyJoin': WHATEVER THE INPUT: true; the input reads as it did. -/
def fnMelodyJoinSpec : ChangeSpec := { name := "fnMelodyJoin", fn := fun _ => fun
  | [d] => { results := [.lit (.bool true)], args := [d] }
  | _ => none }
def fnMelodyJoinRow : OpenClaim := { program := "ytjodcaeohkjlnaadoor", sum := "41ff2504ae817c6eefeca3622312468cfaa9247b8a0b7f8af4600da5dfb25a75", func := "loop.example/neumes/laws.FnMelodyJoin", spec := "fnMelodyJoin", inPlace := ["internal/abi.NoEscape", "internal/bytealg.MakeNoZero"], recurses := true, named := ["internal/strconv.uint64pow10", "math/bits.deBruijn32tab", "math/bits.deBruijn64tab"], apart := false, laid := [("math/bits.deBruijn32tab", laid_math_bits_deBruijn32tab), ("math/bits.deBruijn64tab", laid_math_bits_deBruijn64tab), ("internal/strconv.uint64pow10", laid_internal_strconv_uint64pow10)] }
def FnMelodyJoinSaid : Prop := fnMelodyJoinRow.holds Tryd.pinned (OpenSpec.ofChange fnMelodyJoinSpec)

/-- ITS FALSE NEIGHBOUR: 'it returns false'. Refute it at one input. -/
def fnMelodyJoinWrong : ChangeSpec := { name := "fnMelodyJoin", fn := fun _ => fun
  | [d] => { results := [.lit (.bool false)], args := [d] }
  | _ => none }
def FnMelodyJoinWrongFalsely : Prop := fnMelodyJoinRow.holds Tryd.pinned (OpenSpec.ofChange fnMelodyJoinWrong)

/-- 'laws.FnMelodyText': WHATEVER THE INPUT: true; the input reads as it did. -/
def fnMelodyTextSpec : ChangeSpec := { name := "fnMelodyText", fn := fun _ => fun
  | [d] => { results := [.lit (.bool true)], args := [d] }
  | _ => none }
def fnMelodyTextRow : OpenClaim := { program := "ytjodcaeohkjlnaadoor", sum := "41ff2504ae817c6eefeca3622312468cfaa9247b8a0b7f8af4600da5dfb25a75", func := "loop.example/neumes/laws.FnMelodyText", spec := "fnMelodyText", inPlace := ["internal/abi.NoEscape", "internal/bytealg.MakeNoZero", "internal/bytealg.CountString", "internal/bytealg.IndexByteString", "internal/bytealg.IndexString"], recurses := true, named := ["internal/strconv.uint64pow10", "math/bits.deBruijn32tab", "math/bits.deBruijn64tab", "unicode/utf8.first", "unicode/utf8.acceptRanges", "internal/bytealg.MaxLen"], apart := false, laid := [("math/bits.deBruijn32tab", laid_math_bits_deBruijn32tab), ("math/bits.deBruijn64tab", laid_math_bits_deBruijn64tab), ("internal/strconv.uint64pow10", laid_internal_strconv_uint64pow10), ("unicode/utf8.acceptRanges", laid_unicode_utf8_acceptRanges), ("unicode/utf8.first", laid_unicode_utf8_first)] }
def FnMelodyTextSaid : Prop := fnMelodyTextRow.holds Tryd.pinned (OpenSpec.ofChange fnMelodyTextSpec)

/-- ITS FALSE NEIGHBOUR: 'it returns false'. Refute it at one input. -/
def fnMelodyTextWrong : ChangeSpec := { name := "fnMelodyText", fn := fun _ => fun
  | [d] => { results := [.lit (.bool false)], args := [d] }
  | _ => none }
def FnMelodyTextWrongFalsely : Prop := fnMelodyTextRow.holds Tryd.pinned (OpenSpec.ofChange fnMelodyTextWrong)

/-- 'laws.FnMelodyFrom': WHATEVER THE INPUT: true; the input reads as it did. -/
def fnMelodyFromSpec : ChangeSpec := { name := "fnMelodyFrom", fn := fun _ => fun
  | [d] => { results := [.lit (.bool true)], args := [d] }
  | _ => none }
def fnMelodyFromRow : OpenClaim := { program := "ytjodcaeohkjlnaadoor", sum := "41ff2504ae817c6eefeca3622312468cfaa9247b8a0b7f8af4600da5dfb25a75", func := "loop.example/neumes/laws.FnMelodyFrom", spec := "fnMelodyFrom", inPlace := ["internal/bytealg.CountString", "internal/bytealg.IndexByteString", "internal/bytealg.IndexString", "internal/abi.NoEscape", "internal/bytealg.MakeNoZero"], recurses := true, named := ["unicode/utf8.first", "unicode/utf8.acceptRanges", "internal/bytealg.MaxLen", "internal/strconv.uint64pow10", "math/bits.deBruijn32tab", "math/bits.deBruijn64tab"], apart := false, laid := [("math/bits.deBruijn32tab", laid_math_bits_deBruijn32tab), ("math/bits.deBruijn64tab", laid_math_bits_deBruijn64tab), ("internal/strconv.uint64pow10", laid_internal_strconv_uint64pow10), ("unicode/utf8.acceptRanges", laid_unicode_utf8_acceptRanges), ("unicode/utf8.first", laid_unicode_utf8_first)] }
def FnMelodyFromSaid : Prop := fnMelodyFromRow.holds Tryd.pinned (OpenSpec.ofChange fnMelodyFromSpec)

/-- ITS FALSE NEIGHBOUR: 'it returns false'. Refute it at one input. -/
def fnMelodyFromWrong : ChangeSpec := { name := "fnMelodyFrom", fn := fun _ => fun
  | [d] => { results := [.lit (.bool false)], args := [d] }
  | _ => none }
def FnMelodyFromWrongFalsely : Prop := fnMelodyFromRow.holds Tryd.pinned (OpenSpec.ofChange fnMelodyFromWrong)

/-- 'laws.FnMelodySame': WHATEVER THE INPUT: true; the input reads as it did. -/
def fnMelodySameSpec : ChangeSpec := { name := "fnMelodySame", vars := ["loop.example/neumes/impl.stepHeights"], fn := fun _ => fun
  | [d, g1] => { results := [.lit (.bool true)], args := [d], vars := [g1] }
  | _ => none }
def fnMelodySameRow : OpenClaim := { program := "ytjodcaeohkjlnaadoor", sum := "41ff2504ae817c6eefeca3622312468cfaa9247b8a0b7f8af4600da5dfb25a75", func := "loop.example/neumes/laws.FnMelodySame", spec := "fnMelodySame", unfollowed := true, recurses := true, named := ["loop.example/neumes/impl.stepHeights"], apart := false, laid := [("loop.example/neumes/impl.stepHeights", laid_loop_example_neumes_impl_stepHeights)] }
def FnMelodySameSaid : Prop := fnMelodySameRow.holds Tryd.pinned (OpenSpec.ofChange fnMelodySameSpec)

/-- ITS FALSE NEIGHBOUR: 'it returns false'. Refute it at one input. -/
def fnMelodySameWrong : ChangeSpec := { name := "fnMelodySame", vars := ["loop.example/neumes/impl.stepHeights"], fn := fun _ => fun
  | [d, g1] => { results := [.lit (.bool false)], args := [d], vars := [g1] }
  | _ => none }
def FnMelodySameWrongFalsely : Prop := fnMelodySameRow.holds Tryd.pinned (OpenSpec.ofChange fnMelodySameWrong)

/-- 'laws.FnSing': WHATEVER THE INPUT: true; the input reads as it did. -/
def fnSingSpec : ChangeSpec := { name := "fnSing", vars := ["loop.example/neumes/impl.syllableNames"], fn := fun _ => fun
  | [d, g1] => { results := [.lit (.bool true)], args := [d], vars := [g1] }
  | _ => none }
def fnSingRow : OpenClaim := { program := "ytjodcaeohkjlnaadoor", sum := "41ff2504ae817c6eefeca3622312468cfaa9247b8a0b7f8af4600da5dfb25a75", func := "loop.example/neumes/laws.FnSing", spec := "fnSing", inPlace := ["internal/abi.NoEscape", "internal/bytealg.MakeNoZero"], named := ["loop.example/neumes/impl.syllableNames"], apart := false, laid := [("loop.example/neumes/impl.syllableNames", laid_loop_example_neumes_impl_syllableNames)] }
def FnSingSaid : Prop := fnSingRow.holds Tryd.pinned (OpenSpec.ofChange fnSingSpec)

/-- ITS FALSE NEIGHBOUR: 'it returns false'. Refute it at one input. -/
def fnSingWrong : ChangeSpec := { name := "fnSing", vars := ["loop.example/neumes/impl.syllableNames"], fn := fun _ => fun
  | [d, g1] => { results := [.lit (.bool false)], args := [d], vars := [g1] }
  | _ => none }
def FnSingWrongFalsely : Prop := fnSingRow.holds Tryd.pinned (OpenSpec.ofChange fnSingWrong)

/-- 'laws.FnExactToneInterval': WHATEVER THE INPUT: true; the input reads as it did. -/
def fnExactToneIntervalSpec : ChangeSpec := { name := "fnExactToneInterval", vars := ["loop.example/neumes/impl.stepHeights", "loop.example/neumes/impl.leastSemis"], fn := fun _ => fun
  | [d1, d2, g1, g2] => { results := [.lit (.bool true)], args := [d1, d2], vars := [g1, g2] }
  | _ => none }
def fnExactToneIntervalRow : OpenClaim := { program := "ytjodcaeohkjlnaadoor", sum := "41ff2504ae817c6eefeca3622312468cfaa9247b8a0b7f8af4600da5dfb25a75", func := "loop.example/neumes/laws.FnExactToneInterval", spec := "fnExactToneInterval", recurses := true, named := ["loop.example/neumes/impl.stepHeights", "internal/strconv.uint64pow10", "math/bits.deBruijn32tab", "math/bits.deBruijn64tab", "loop.example/neumes/impl.leastSemis"], apart := false, laid := [("math/bits.deBruijn32tab", laid_math_bits_deBruijn32tab), ("math/bits.deBruijn64tab", laid_math_bits_deBruijn64tab), ("internal/strconv.uint64pow10", laid_internal_strconv_uint64pow10), ("loop.example/neumes/impl.stepHeights", laid_loop_example_neumes_impl_stepHeights), ("loop.example/neumes/impl.leastSemis", laid_loop_example_neumes_impl_leastSemis)] }
def FnExactToneIntervalSaid : Prop := fnExactToneIntervalRow.holds Tryd.pinned (OpenSpec.ofChange fnExactToneIntervalSpec)

/-- ITS FALSE NEIGHBOUR: 'it returns false'. Refute it at one input. -/
def fnExactToneIntervalWrong : ChangeSpec := { name := "fnExactToneInterval", vars := ["loop.example/neumes/impl.stepHeights", "loop.example/neumes/impl.leastSemis"], fn := fun _ => fun
  | [d1, d2, g1, g2] => { results := [.lit (.bool false)], args := [d1, d2], vars := [g1, g2] }
  | _ => none }
def FnExactToneIntervalWrongFalsely : Prop := fnExactToneIntervalRow.holds Tryd.pinned (OpenSpec.ofChange fnExactToneIntervalWrong)

/-- 'laws.FnExactToneNames': WHATEVER THE INPUT: true; the input reads as it did. -/
def fnExactToneNamesSpec : ChangeSpec := { name := "fnExactToneNames", vars := ["loop.example/neumes/impl.syllableNames"], fn := fun _ => fun
  | [d, g1] => { results := [.lit (.bool true)], args := [d], vars := [g1] }
  | _ => none }
def fnExactToneNamesRow : OpenClaim := { program := "ytjodcaeohkjlnaadoor", sum := "41ff2504ae817c6eefeca3622312468cfaa9247b8a0b7f8af4600da5dfb25a75", func := "loop.example/neumes/laws.FnExactToneNames", spec := "fnExactToneNames", inPlace := ["internal/abi.NoEscape", "internal/bytealg.MakeNoZero"], named := ["loop.example/neumes/impl.syllableNames"], apart := false, laid := [("loop.example/neumes/impl.syllableNames", laid_loop_example_neumes_impl_syllableNames)] }
def FnExactToneNamesSaid : Prop := fnExactToneNamesRow.holds Tryd.pinned (OpenSpec.ofChange fnExactToneNamesSpec)

/-- ITS FALSE NEIGHBOUR: 'it returns false'. Refute it at one input. -/
def fnExactToneNamesWrong : ChangeSpec := { name := "fnExactToneNames", vars := ["loop.example/neumes/impl.syllableNames"], fn := fun _ => fun
  | [d, g1] => { results := [.lit (.bool false)], args := [d], vars := [g1] }
  | _ => none }
def FnExactToneNamesWrongFalsely : Prop := fnExactToneNamesRow.holds Tryd.pinned (OpenSpec.ofChange fnExactToneNamesWrong)

/-- 'laws.FnExactMelodyMove': WHATEVER THE INPUT: true; the input reads as it did. -/
def fnExactMelodyMoveSpec : ChangeSpec := { name := "fnExactMelodyMove", vars := ["loop.example/neumes/impl.stepHeights"], fn := fun _ => fun
  | [d1, d2, g1] => { results := [.lit (.bool true)], args := [d1, d2], vars := [g1] }
  | _ => none }
def fnExactMelodyMoveRow : OpenClaim := { program := "ytjodcaeohkjlnaadoor", sum := "41ff2504ae817c6eefeca3622312468cfaa9247b8a0b7f8af4600da5dfb25a75", func := "loop.example/neumes/laws.FnExactMelodyMove", spec := "fnExactMelodyMove", recurses := true, named := ["loop.example/neumes/impl.stepHeights"], apart := false, laid := [("loop.example/neumes/impl.stepHeights", laid_loop_example_neumes_impl_stepHeights)] }
def FnExactMelodyMoveSaid : Prop := fnExactMelodyMoveRow.holds Tryd.pinned (OpenSpec.ofChange fnExactMelodyMoveSpec)

/-- ITS FALSE NEIGHBOUR: 'it returns false'. Refute it at one input. -/
def fnExactMelodyMoveWrong : ChangeSpec := { name := "fnExactMelodyMove", vars := ["loop.example/neumes/impl.stepHeights"], fn := fun _ => fun
  | [d1, d2, g1] => { results := [.lit (.bool false)], args := [d1, d2], vars := [g1] }
  | _ => none }
def FnExactMelodyMoveWrongFalsely : Prop := fnExactMelodyMoveRow.holds Tryd.pinned (OpenSpec.ofChange fnExactMelodyMoveWrong)

/-- 'laws.FnExactMelodyFrom': WHATEVER THE INPUT: true; the input reads as it did. -/
def fnExactMelodyFromSpec : ChangeSpec := { name := "fnExactMelodyFrom", fn := fun _ => fun
  | [d] => { results := [.lit (.bool true)], args := [d] }
  | _ => none }
def fnExactMelodyFromRow : OpenClaim := { program := "ytjodcaeohkjlnaadoor", sum := "41ff2504ae817c6eefeca3622312468cfaa9247b8a0b7f8af4600da5dfb25a75", func := "loop.example/neumes/laws.FnExactMelodyFrom", spec := "fnExactMelodyFrom", inPlace := ["internal/bytealg.CountString", "internal/bytealg.IndexByteString", "internal/bytealg.IndexString"], recurses := true, named := ["unicode/utf8.first", "unicode/utf8.acceptRanges", "internal/bytealg.MaxLen"], apart := false, laid := [("unicode/utf8.acceptRanges", laid_unicode_utf8_acceptRanges), ("unicode/utf8.first", laid_unicode_utf8_first)] }
def FnExactMelodyFromSaid : Prop := fnExactMelodyFromRow.holds Tryd.pinned (OpenSpec.ofChange fnExactMelodyFromSpec)

/-- ITS FALSE NEIGHBOUR: 'it returns false'. Refute it at one input. -/
def fnExactMelodyFromWrong : ChangeSpec := { name := "fnExactMelodyFrom", fn := fun _ => fun
  | [d] => { results := [.lit (.bool false)], args := [d] }
  | _ => none }
def FnExactMelodyFromWrongFalsely : Prop := fnExactMelodyFromRow.holds Tryd.pinned (OpenSpec.ofChange fnExactMelodyFromWrong)

/-- 'laws.FnExactSingText': WHATEVER THE INPUT: true; the input reads as it did. -/
def fnExactSingTextSpec : ChangeSpec := { name := "fnExactSingText", vars := ["loop.example/neumes/impl.syllableNames"], fn := fun _ => fun
  | [d1, d2, g1] => { results := [.lit (.bool true)], args := [d1, d2], vars := [g1] }
  | _ => none }
def fnExactSingTextRow : OpenClaim := { program := "ytjodcaeohkjlnaadoor", sum := "41ff2504ae817c6eefeca3622312468cfaa9247b8a0b7f8af4600da5dfb25a75", func := "loop.example/neumes/laws.FnExactSingText", spec := "fnExactSingText", inPlace := ["internal/abi.NoEscape", "internal/bytealg.MakeNoZero"], named := ["loop.example/neumes/impl.syllableNames"], apart := false, laid := [("loop.example/neumes/impl.syllableNames", laid_loop_example_neumes_impl_syllableNames)] }
def FnExactSingTextSaid : Prop := fnExactSingTextRow.holds Tryd.pinned (OpenSpec.ofChange fnExactSingTextSpec)

/-- ITS FALSE NEIGHBOUR: 'it returns false'. Refute it at one input. -/
def fnExactSingTextWrong : ChangeSpec := { name := "fnExactSingText", vars := ["loop.example/neumes/impl.syllableNames"], fn := fun _ => fun
  | [d1, d2, g1] => { results := [.lit (.bool false)], args := [d1, d2], vars := [g1] }
  | _ => none }
def FnExactSingTextWrongFalsely : Prop := fnExactSingTextRow.holds Tryd.pinned (OpenSpec.ofChange fnExactSingTextWrong)

/- THE SECOND FORM. 'bulk': how many values and letters a reading holds, each counted each time it is reached (what is shared counts as often as it is met; a slice's spare places count too). A statement '..UptoSaid' is the law's where the arguments, and the package variables that the reading takes, are together of bulk at most 1048576: NARROWER than '..Said'. Prove '..Said' where nothing that the law and all that it calls make is longer than what came in: it says more and counts as full. Else prove '..UptoSaid'. A law counts once. -/
mutual
def uptoBulk {H : Type} : DataW H → Nat
  | .lit (.string bytes) => bytes.length + 1
  | .lit _ => 1
  | .nil => 1
  | .ptr d => uptoBulk d + 1
  | .slice elems spare => uptoBulkAll elems + uptoBulkAll spare + 1
  | .agg parts => uptoBulkAll parts + 1
  | .iface _ d => uptoBulk d + 1
  | .map entries => uptoBulkEntries entries + 1
  | .held _ => 1
def uptoBulkAll {H : Type} : List (DataW H) → Nat
  | [] => 0
  | d :: r => uptoBulk d + uptoBulkAll r
def uptoBulkEntries {H : Type} : List (Lit × DataW H) → Nat
  | [] => 0
  | x :: r => uptoBulkEntry x + uptoBulkEntries r
def uptoBulkEntry {H : Type} : Lit × DataW H → Nat
  | (.string bytes, d) => bytes.length + uptoBulk d + 1
  | (_, d) => uptoBulk d + 1
 end
def uptoSmall : (H : Type) → List (DataW H) → Bool := fun _ ds => decide (uptoBulkAll ds ≤ 1048576)
def OpenSpec.upto (s : _root_.Go.ChangeSpec) : _root_.Go.OpenSpec := { _root_.Go.OpenSpec.ofChange s with cond := some uptoSmall }

/-- 'laws.FnToneText', WHERE WHAT IT READS IS OF BULK AT MOST 1048576: true; the input reads as it did. -/
def fnToneTextUptoRow : OpenClaim := { program := "ytjodcaeohkjlnaadoor", sum := "41ff2504ae817c6eefeca3622312468cfaa9247b8a0b7f8af4600da5dfb25a75", func := "loop.example/neumes/laws.FnToneText", spec := "fnToneText", inPlace := ["internal/bytealg.IndexByteString"], recurses := true, named := ["internal/strconv.uint64pow10", "math/bits.deBruijn32tab", "math/bits.deBruijn64tab"], apart := false, laid := [("math/bits.deBruijn32tab", laid_math_bits_deBruijn32tab), ("math/bits.deBruijn64tab", laid_math_bits_deBruijn64tab), ("internal/strconv.uint64pow10", laid_internal_strconv_uint64pow10)], narrowed := true }
def FnToneTextUptoSaid : Prop := fnToneTextUptoRow.holds Tryd.pinned (OpenSpec.upto fnToneTextSpec)

/-- 'laws.FnToneFrom', WHERE WHAT IT READS IS OF BULK AT MOST 1048576: true; the input reads as it did. -/
def fnToneFromUptoRow : OpenClaim := { program := "ytjodcaeohkjlnaadoor", sum := "41ff2504ae817c6eefeca3622312468cfaa9247b8a0b7f8af4600da5dfb25a75", func := "loop.example/neumes/laws.FnToneFrom", spec := "fnToneFrom", inPlace := ["internal/bytealg.IndexByteString"], recurses := true, named := ["internal/strconv.uint64pow10", "math/bits.deBruijn32tab", "math/bits.deBruijn64tab"], apart := false, laid := [("math/bits.deBruijn32tab", laid_math_bits_deBruijn32tab), ("math/bits.deBruijn64tab", laid_math_bits_deBruijn64tab), ("internal/strconv.uint64pow10", laid_internal_strconv_uint64pow10)], narrowed := true }
def FnToneFromUptoSaid : Prop := fnToneFromUptoRow.holds Tryd.pinned (OpenSpec.upto fnToneFromSpec)

/-- 'laws.FnInterval', WHERE WHAT IT READS IS OF BULK AT MOST 1048576: true; the input reads as it did. -/
def fnIntervalUptoRow : OpenClaim := { program := "ytjodcaeohkjlnaadoor", sum := "41ff2504ae817c6eefeca3622312468cfaa9247b8a0b7f8af4600da5dfb25a75", func := "loop.example/neumes/laws.FnInterval", spec := "fnInterval", recurses := true, named := ["loop.example/neumes/impl.stepHeights", "internal/strconv.uint64pow10", "math/bits.deBruijn32tab", "math/bits.deBruijn64tab", "loop.example/neumes/impl.leastSemis"], apart := false, laid := [("math/bits.deBruijn32tab", laid_math_bits_deBruijn32tab), ("math/bits.deBruijn64tab", laid_math_bits_deBruijn64tab), ("internal/strconv.uint64pow10", laid_internal_strconv_uint64pow10), ("loop.example/neumes/impl.stepHeights", laid_loop_example_neumes_impl_stepHeights), ("loop.example/neumes/impl.leastSemis", laid_loop_example_neumes_impl_leastSemis)], narrowed := true }
def FnIntervalUptoSaid : Prop := fnIntervalUptoRow.holds Tryd.pinned (OpenSpec.upto fnIntervalSpec)

/-- 'laws.FnIntervalSemis', WHERE WHAT IT READS IS OF BULK AT MOST 1048576: true; the input reads as it did. -/
def fnIntervalSemisUptoRow : OpenClaim := { program := "ytjodcaeohkjlnaadoor", sum := "41ff2504ae817c6eefeca3622312468cfaa9247b8a0b7f8af4600da5dfb25a75", func := "loop.example/neumes/laws.FnIntervalSemis", spec := "fnIntervalSemis", recurses := true, named := ["loop.example/neumes/impl.stepHeights", "internal/strconv.uint64pow10", "math/bits.deBruijn32tab", "math/bits.deBruijn64tab", "loop.example/neumes/impl.leastSemis"], apart := false, laid := [("math/bits.deBruijn32tab", laid_math_bits_deBruijn32tab), ("math/bits.deBruijn64tab", laid_math_bits_deBruijn64tab), ("internal/strconv.uint64pow10", laid_internal_strconv_uint64pow10), ("loop.example/neumes/impl.stepHeights", laid_loop_example_neumes_impl_stepHeights), ("loop.example/neumes/impl.leastSemis", laid_loop_example_neumes_impl_leastSemis)], narrowed := true }
def FnIntervalSemisUptoSaid : Prop := fnIntervalSemisUptoRow.holds Tryd.pinned (OpenSpec.upto fnIntervalSemisSpec)

/-- 'laws.FnHexAll', WHERE WHAT IT READS IS OF BULK AT MOST 1048576: true; the input reads as it did. -/
def fnHexAllUptoRow : OpenClaim := { program := "ytjodcaeohkjlnaadoor", sum := "41ff2504ae817c6eefeca3622312468cfaa9247b8a0b7f8af4600da5dfb25a75", func := "loop.example/neumes/laws.FnHexAll", spec := "fnHexAll", inPlace := ["internal/abi.NoEscape", "internal/bytealg.MakeNoZero"], named := ["loop.example/neumes/impl.syllableNames"], apart := false, laid := [("loop.example/neumes/impl.syllableNames", laid_loop_example_neumes_impl_syllableNames)], narrowed := true }
def FnHexAllUptoSaid : Prop := fnHexAllUptoRow.holds Tryd.pinned (OpenSpec.upto fnHexAllSpec)

/-- 'laws.FnMelodyMove', WHERE WHAT IT READS IS OF BULK AT MOST 1048576: true; the input reads as it did. -/
def fnMelodyMoveUptoRow : OpenClaim := { program := "ytjodcaeohkjlnaadoor", sum := "41ff2504ae817c6eefeca3622312468cfaa9247b8a0b7f8af4600da5dfb25a75", func := "loop.example/neumes/laws.FnMelodyMove", spec := "fnMelodyMove", unfollowed := true, recurses := true, named := ["loop.example/neumes/impl.stepHeights"], apart := false, laid := [("loop.example/neumes/impl.stepHeights", laid_loop_example_neumes_impl_stepHeights)], narrowed := true }
def FnMelodyMoveUptoSaid : Prop := fnMelodyMoveUptoRow.holds Tryd.pinned (OpenSpec.upto fnMelodyMoveSpec)

/-- 'laws.FnMelodyMoveOctave', WHERE WHAT IT READS IS OF BULK AT MOST 1048576: true; the input reads as it did. -/
def fnMelodyMoveOctaveUptoRow : OpenClaim := { program := "ytjodcaeohkjlnaadoor", sum := "41ff2504ae817c6eefeca3622312468cfaa9247b8a0b7f8af4600da5dfb25a75", func := "loop.example/neumes/laws.FnMelodyMoveOctave", spec := "fnMelodyMoveOctave", recurses := true, named := ["loop.example/neumes/impl.stepHeights"], apart := false, laid := [("loop.example/neumes/impl.stepHeights", laid_loop_example_neumes_impl_stepHeights)], narrowed := true }
def FnMelodyMoveOctaveUptoSaid : Prop := fnMelodyMoveOctaveUptoRow.holds Tryd.pinned (OpenSpec.upto fnMelodyMoveOctaveSpec)

/-- 'laws.FnMelodyJoin', WHERE WHAT IT READS IS OF BULK AT MOST 1048576: true; the input reads as it did. -/
def fnMelodyJoinUptoRow : OpenClaim := { program := "ytjodcaeohkjlnaadoor", sum := "41ff2504ae817c6eefeca3622312468cfaa9247b8a0b7f8af4600da5dfb25a75", func := "loop.example/neumes/laws.FnMelodyJoin", spec := "fnMelodyJoin", inPlace := ["internal/abi.NoEscape", "internal/bytealg.MakeNoZero"], recurses := true, named := ["internal/strconv.uint64pow10", "math/bits.deBruijn32tab", "math/bits.deBruijn64tab"], apart := false, laid := [("math/bits.deBruijn32tab", laid_math_bits_deBruijn32tab), ("math/bits.deBruijn64tab", laid_math_bits_deBruijn64tab), ("internal/strconv.uint64pow10", laid_internal_strconv_uint64pow10)], narrowed := true }
def FnMelodyJoinUptoSaid : Prop := fnMelodyJoinUptoRow.holds Tryd.pinned (OpenSpec.upto fnMelodyJoinSpec)

/-- 'laws.FnMelodyText', WHERE WHAT IT READS IS OF BULK AT MOST 1048576: true; the input reads as it did. -/
def fnMelodyTextUptoRow : OpenClaim := { program := "ytjodcaeohkjlnaadoor", sum := "41ff2504ae817c6eefeca3622312468cfaa9247b8a0b7f8af4600da5dfb25a75", func := "loop.example/neumes/laws.FnMelodyText", spec := "fnMelodyText", inPlace := ["internal/abi.NoEscape", "internal/bytealg.MakeNoZero", "internal/bytealg.CountString", "internal/bytealg.IndexByteString", "internal/bytealg.IndexString"], recurses := true, named := ["internal/strconv.uint64pow10", "math/bits.deBruijn32tab", "math/bits.deBruijn64tab", "unicode/utf8.first", "unicode/utf8.acceptRanges", "internal/bytealg.MaxLen"], apart := false, laid := [("math/bits.deBruijn32tab", laid_math_bits_deBruijn32tab), ("math/bits.deBruijn64tab", laid_math_bits_deBruijn64tab), ("internal/strconv.uint64pow10", laid_internal_strconv_uint64pow10), ("unicode/utf8.acceptRanges", laid_unicode_utf8_acceptRanges), ("unicode/utf8.first", laid_unicode_utf8_first)], narrowed := true }
def FnMelodyTextUptoSaid : Prop := fnMelodyTextUptoRow.holds Tryd.pinned (OpenSpec.upto fnMelodyTextSpec)

/-- 'laws.FnMelodyFrom', WHERE WHAT IT READS IS OF BULK AT MOST 1048576: true; the input reads as it did. -/
def fnMelodyFromUptoRow : OpenClaim := { program := "ytjodcaeohkjlnaadoor", sum := "41ff2504ae817c6eefeca3622312468cfaa9247b8a0b7f8af4600da5dfb25a75", func := "loop.example/neumes/laws.FnMelodyFrom", spec := "fnMelodyFrom", inPlace := ["internal/bytealg.CountString", "internal/bytealg.IndexByteString", "internal/bytealg.IndexString", "internal/abi.NoEscape", "internal/bytealg.MakeNoZero"], recurses := true, named := ["unicode/utf8.first", "unicode/utf8.acceptRanges", "internal/bytealg.MaxLen", "internal/strconv.uint64pow10", "math/bits.deBruijn32tab", "math/bits.deBruijn64tab"], apart := false, laid := [("math/bits.deBruijn32tab", laid_math_bits_deBruijn32tab), ("math/bits.deBruijn64tab", laid_math_bits_deBruijn64tab), ("internal/strconv.uint64pow10", laid_internal_strconv_uint64pow10), ("unicode/utf8.acceptRanges", laid_unicode_utf8_acceptRanges), ("unicode/utf8.first", laid_unicode_utf8_first)], narrowed := true }
def FnMelodyFromUptoSaid : Prop := fnMelodyFromUptoRow.holds Tryd.pinned (OpenSpec.upto fnMelodyFromSpec)

/-- 'laws.FnMelodySame', WHERE WHAT IT READS IS OF BULK AT MOST 1048576: true; the input reads as it did. -/
def fnMelodySameUptoRow : OpenClaim := { program := "ytjodcaeohkjlnaadoor", sum := "41ff2504ae817c6eefeca3622312468cfaa9247b8a0b7f8af4600da5dfb25a75", func := "loop.example/neumes/laws.FnMelodySame", spec := "fnMelodySame", unfollowed := true, recurses := true, named := ["loop.example/neumes/impl.stepHeights"], apart := false, laid := [("loop.example/neumes/impl.stepHeights", laid_loop_example_neumes_impl_stepHeights)], narrowed := true }
def FnMelodySameUptoSaid : Prop := fnMelodySameUptoRow.holds Tryd.pinned (OpenSpec.upto fnMelodySameSpec)

/-- 'laws.FnSing', WHERE WHAT IT READS IS OF BULK AT MOST 1048576: true; the input reads as it did. -/
def fnSingUptoRow : OpenClaim := { program := "ytjodcaeohkjlnaadoor", sum := "41ff2504ae817c6eefeca3622312468cfaa9247b8a0b7f8af4600da5dfb25a75", func := "loop.example/neumes/laws.FnSing", spec := "fnSing", inPlace := ["internal/abi.NoEscape", "internal/bytealg.MakeNoZero"], named := ["loop.example/neumes/impl.syllableNames"], apart := false, laid := [("loop.example/neumes/impl.syllableNames", laid_loop_example_neumes_impl_syllableNames)], narrowed := true }
def FnSingUptoSaid : Prop := fnSingUptoRow.holds Tryd.pinned (OpenSpec.upto fnSingSpec)

/-- 'laws.FnExactToneInterval', WHERE WHAT IT READS IS OF BULK AT MOST 1048576: true; the input reads as it did. -/
def fnExactToneIntervalUptoRow : OpenClaim := { program := "ytjodcaeohkjlnaadoor", sum := "41ff2504ae817c6eefeca3622312468cfaa9247b8a0b7f8af4600da5dfb25a75", func := "loop.example/neumes/laws.FnExactToneInterval", spec := "fnExactToneInterval", recurses := true, named := ["loop.example/neumes/impl.stepHeights", "internal/strconv.uint64pow10", "math/bits.deBruijn32tab", "math/bits.deBruijn64tab", "loop.example/neumes/impl.leastSemis"], apart := false, laid := [("math/bits.deBruijn32tab", laid_math_bits_deBruijn32tab), ("math/bits.deBruijn64tab", laid_math_bits_deBruijn64tab), ("internal/strconv.uint64pow10", laid_internal_strconv_uint64pow10), ("loop.example/neumes/impl.stepHeights", laid_loop_example_neumes_impl_stepHeights), ("loop.example/neumes/impl.leastSemis", laid_loop_example_neumes_impl_leastSemis)], narrowed := true }
def FnExactToneIntervalUptoSaid : Prop := fnExactToneIntervalUptoRow.holds Tryd.pinned (OpenSpec.upto fnExactToneIntervalSpec)

/-- 'laws.FnExactToneNames', WHERE WHAT IT READS IS OF BULK AT MOST 1048576: true; the input reads as it did. -/
def fnExactToneNamesUptoRow : OpenClaim := { program := "ytjodcaeohkjlnaadoor", sum := "41ff2504ae817c6eefeca3622312468cfaa9247b8a0b7f8af4600da5dfb25a75", func := "loop.example/neumes/laws.FnExactToneNames", spec := "fnExactToneNames", inPlace := ["internal/abi.NoEscape", "internal/bytealg.MakeNoZero"], named := ["loop.example/neumes/impl.syllableNames"], apart := false, laid := [("loop.example/neumes/impl.syllableNames", laid_loop_example_neumes_impl_syllableNames)], narrowed := true }
def FnExactToneNamesUptoSaid : Prop := fnExactToneNamesUptoRow.holds Tryd.pinned (OpenSpec.upto fnExactToneNamesSpec)

/-- 'laws.FnExactMelodyMove', WHERE WHAT IT READS IS OF BULK AT MOST 1048576: true; the input reads as it did. -/
def fnExactMelodyMoveUptoRow : OpenClaim := { program := "ytjodcaeohkjlnaadoor", sum := "41ff2504ae817c6eefeca3622312468cfaa9247b8a0b7f8af4600da5dfb25a75", func := "loop.example/neumes/laws.FnExactMelodyMove", spec := "fnExactMelodyMove", recurses := true, named := ["loop.example/neumes/impl.stepHeights"], apart := false, laid := [("loop.example/neumes/impl.stepHeights", laid_loop_example_neumes_impl_stepHeights)], narrowed := true }
def FnExactMelodyMoveUptoSaid : Prop := fnExactMelodyMoveUptoRow.holds Tryd.pinned (OpenSpec.upto fnExactMelodyMoveSpec)

/-- 'laws.FnExactMelodyFrom', WHERE WHAT IT READS IS OF BULK AT MOST 1048576: true; the input reads as it did. -/
def fnExactMelodyFromUptoRow : OpenClaim := { program := "ytjodcaeohkjlnaadoor", sum := "41ff2504ae817c6eefeca3622312468cfaa9247b8a0b7f8af4600da5dfb25a75", func := "loop.example/neumes/laws.FnExactMelodyFrom", spec := "fnExactMelodyFrom", inPlace := ["internal/bytealg.CountString", "internal/bytealg.IndexByteString", "internal/bytealg.IndexString"], recurses := true, named := ["unicode/utf8.first", "unicode/utf8.acceptRanges", "internal/bytealg.MaxLen"], apart := false, laid := [("unicode/utf8.acceptRanges", laid_unicode_utf8_acceptRanges), ("unicode/utf8.first", laid_unicode_utf8_first)], narrowed := true }
def FnExactMelodyFromUptoSaid : Prop := fnExactMelodyFromUptoRow.holds Tryd.pinned (OpenSpec.upto fnExactMelodyFromSpec)

/-- 'laws.FnExactSingText', WHERE WHAT IT READS IS OF BULK AT MOST 1048576: true; the input reads as it did. -/
def fnExactSingTextUptoRow : OpenClaim := { program := "ytjodcaeohkjlnaadoor", sum := "41ff2504ae817c6eefeca3622312468cfaa9247b8a0b7f8af4600da5dfb25a75", func := "loop.example/neumes/laws.FnExactSingText", spec := "fnExactSingText", inPlace := ["internal/abi.NoEscape", "internal/bytealg.MakeNoZero"], named := ["loop.example/neumes/impl.syllableNames"], apart := false, laid := [("loop.example/neumes/impl.syllableNames", laid_loop_example_neumes_impl_syllableNames)], narrowed := true }
def FnExactSingTextUptoSaid : Prop := fnExactSingTextUptoRow.holds Tryd.pinned (OpenSpec.upto fnExactSingTextSpec)

end Rows
end Go.Proofs.YtjodcaeohkjlnaaDoor
