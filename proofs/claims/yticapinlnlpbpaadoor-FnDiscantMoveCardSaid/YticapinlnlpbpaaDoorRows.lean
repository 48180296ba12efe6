/-
  NARROWER THAN 'FOR EVERY INPUT', by the rows' own cells (each row's printed sentence says how): FnExactDiscantConcords: laid · FnExactDiscantOk: laid · FnExactDiscantParallels: laid · FnExactDiscantMove: laid · FnConcords: laid · FnDiscantOk: laid · FnParallels: laid · FnCross: laid · FnDiscantMove: laid.
  DERIVED. THE GIVEN ROWS OF THIS SEAT. 9 by the template 'for every input the law returns true; each argument reads behind the call as it read before'; 0 by the template 'total and deterministic' (their statements: YticapinlnlpbpaaDoorTotals.lean).
  GIVEN WITH THE SEED: the statements are not yours to turn. If you find one false, say at which input.
  Laid BY PROGRAM, IN A SANDBOX (cutbox-rows.mjs): the forced cells as the released guide's own fill.sh prints them over the translation 815c83d63ec7bbb8… (all of the seat's roots in one cut). By AI agents, Wed Nov 11 2026. No macro, syntax, notation, axiom, sorry.
-/
import Derived.Test.YticapinlnlpbpaaDoorChecked
import GoSem.Claim
import GoSem.ClaimJoined
import GoSem.ClaimMapViews
import Derived.JoinedTies
import Derived.KernelRfl
namespace Go.Proofs.YticapinlnlpbpaaDoor
/- THE CELL 'sum', in the pinned program and in every row, IS THE sha256 OF THE DUMP (.gsa) THAT YticapinlnlpbpaaDoorProg.lean LOADS. Nothing in Lean hashes anything: it is a label: what it is worth is what the hold of that sum in a sandbox is worth. -/
noncomputable def Tryd.pinned : Pinned := { name := "yticapinlnlpbpaadoor", sum := "815c83d63ec7bbb810ac4d3fecdd95ae042840c71de7a1b5ccafde355253a898", checked := Tryd.checked }
namespace Rows
def none {H : Type} : Left H := { results := [], args := [] }

/- WHAT THE LISTED PACKAGE-LEVEL VARIABLES READ AS WHEN THE CALL BEGINS. Each datum BY PROGRAM (the guide's laid-datum.mjs) off the statement by which the dump's own 'gosem.cut.vars' lays the variable. In a bare row this is a premise. The card (YticapinlnlpbpaaDoorCards.lean) ties it to the program's text. -/
def laid_math_bits_deBruijn32tab {H : Type} : DataW H := .agg [.lit (.int .u8 0), .lit (.int .u8 1), .lit (.int .u8 28), .lit (.int .u8 2), .lit (.int .u8 29), .lit (.int .u8 14), .lit (.int .u8 24), .lit (.int .u8 3), .lit (.int .u8 30), .lit (.int .u8 22), .lit (.int .u8 20), .lit (.int .u8 15), .lit (.int .u8 25), .lit (.int .u8 17), .lit (.int .u8 4), .lit (.int .u8 8), .lit (.int .u8 31), .lit (.int .u8 27), .lit (.int .u8 13), .lit (.int .u8 23), .lit (.int .u8 21), .lit (.int .u8 19), .lit (.int .u8 16), .lit (.int .u8 7), .lit (.int .u8 26), .lit (.int .u8 12), .lit (.int .u8 18), .lit (.int .u8 6), .lit (.int .u8 11), .lit (.int .u8 5), .lit (.int .u8 10), .lit (.int .u8 9)]
def laid_math_bits_deBruijn64tab {H : Type} : DataW H := .agg [.lit (.int .u8 0), .lit (.int .u8 1), .lit (.int .u8 56), .lit (.int .u8 2), .lit (.int .u8 57), .lit (.int .u8 49), .lit (.int .u8 28), .lit (.int .u8 3), .lit (.int .u8 61), .lit (.int .u8 58), .lit (.int .u8 42), .lit (.int .u8 50), .lit (.int .u8 38), .lit (.int .u8 29), .lit (.int .u8 17), .lit (.int .u8 4), .lit (.int .u8 62), .lit (.int .u8 47), .lit (.int .u8 59), .lit (.int .u8 36), .lit (.int .u8 45), .lit (.int .u8 43), .lit (.int .u8 51), .lit (.int .u8 22), .lit (.int .u8 53), .lit (.int .u8 39), .lit (.int .u8 33), .lit (.int .u8 30), .lit (.int .u8 24), .lit (.int .u8 18), .lit (.int .u8 12), .lit (.int .u8 5), .lit (.int .u8 63), .lit (.int .u8 55), .lit (.int .u8 48), .lit (.int .u8 27), .lit (.int .u8 60), .lit (.int .u8 41), .lit (.int .u8 37), .lit (.int .u8 16), .lit (.int .u8 46), .lit (.int .u8 35), .lit (.int .u8 44), .lit (.int .u8 21), .lit (.int .u8 52), .lit (.int .u8 32), .lit (.int .u8 23), .lit (.int .u8 11), .lit (.int .u8 54), .lit (.int .u8 26), .lit (.int .u8 40), .lit (.int .u8 15), .lit (.int .u8 34), .lit (.int .u8 20), .lit (.int .u8 31), .lit (.int .u8 10), .lit (.int .u8 25), .lit (.int .u8 14), .lit (.int .u8 19), .lit (.int .u8 9), .lit (.int .u8 13), .lit (.int .u8 8), .lit (.int .u8 7), .lit (.int .u8 6)]
def laid_internal_strconv_uint64pow10 {H : Type} : DataW H := .agg [.lit (.int .u64 1), .lit (.int .u64 10), .lit (.int .u64 100), .lit (.int .u64 1000), .lit (.int .u64 10000), .lit (.int .u64 100000), .lit (.int .u64 1000000), .lit (.int .u64 10000000), .lit (.int .u64 100000000), .lit (.int .u64 1000000000), .lit (.int .u64 10000000000), .lit (.int .u64 100000000000), .lit (.int .u64 1000000000000), .lit (.int .u64 10000000000000), .lit (.int .u64 100000000000000), .lit (.int .u64 1000000000000000), .lit (.int .u64 10000000000000000), .lit (.int .u64 100000000000000000), .lit (.int .u64 1000000000000000000), .lit (.int .u64 10000000000000000000)]
def laid_loop_example_neumes_impl_stepHeights {H : Type} : DataW H := .agg [.lit (.int .i64 0), .lit (.int .i64 2), .lit (.int .i64 4), .lit (.int .i64 5), .lit (.int .i64 7), .lit (.int .i64 9), .lit (.int .i64 10)]
def laid_loop_example_neumes_impl_leastSemis {H : Type} : DataW H := .agg [.lit (.int .i64 0), .lit (.int .i64 1), .lit (.int .i64 3), .lit (.int .i64 5), .lit (.int .i64 7), .lit (.int .i64 8), .lit (.int .i64 10)]

/-- 'laws.FnExactDiscantConcords': WHATEVER THE INPUT: true; the input reads as it did. -/
def fnExactDiscantConcordsSpec : ChangeSpec := { name := "fnExactDiscantConcords", vars := ["loop.example/neumes/impl.stepHeights", "loop.example/neumes/impl.leastSemis"], fn := fun _ => fun
  | [d1, d2, g1, g2] => { results := [.lit (.bool true)], args := [d1, d2], vars := [g1, g2] }
  | _ => none }
def fnExactDiscantConcordsRow : OpenClaim := { program := "yticapinlnlpbpaadoor", sum := "815c83d63ec7bbb810ac4d3fecdd95ae042840c71de7a1b5ccafde355253a898", func := "loop.example/neumes/laws.FnExactDiscantConcords", spec := "fnExactDiscantConcords", recurses := true, named := ["loop.example/neumes/impl.stepHeights", "internal/strconv.uint64pow10", "math/bits.deBruijn32tab", "math/bits.deBruijn64tab", "loop.example/neumes/impl.leastSemis"], apart := false, laid := [("math/bits.deBruijn32tab", laid_math_bits_deBruijn32tab), ("math/bits.deBruijn64tab", laid_math_bits_deBruijn64tab), ("internal/strconv.uint64pow10", laid_internal_strconv_uint64pow10), ("loop.example/neumes/impl.stepHeights", laid_loop_example_neumes_impl_stepHeights), ("loop.example/neumes/impl.leastSemis", laid_loop_example_neumes_impl_leastSemis)] }
def FnExactDiscantConcordsSaid : Prop := fnExactDiscantConcordsRow.holds Tryd.pinned (OpenSpec.ofChange fnExactDiscantConcordsSpec)

/-- ITS FALSE NEIGHBOUR: 'it returns false'. Refute it at one input. -/
def fnExactDiscantConcordsWrong : ChangeSpec := { name := "fnExactDiscantConcords", vars := ["loop.example/neumes/impl.stepHeights", "loop.example/neumes/impl.leastSemis"], fn := fun _ => fun
  | [d1, d2, g1, g2] => { results := [.lit (.bool false)], args := [d1, d2], vars := [g1, g2] }
  | _ => none }
def FnExactDiscantConcordsWrongFalsely : Prop := fnExactDiscantConcordsRow.holds Tryd.pinned (OpenSpec.ofChange fnExactDiscantConcordsWrong)

/-- 'laws.FnExactDiscantOk': WHATEVER THE INPUT: true; the input reads as it did. -/
def fnExactDiscantOkSpec : ChangeSpec := { name := "fnExactDiscantOk", vars := ["loop.example/neumes/impl.stepHeights", "loop.example/neumes/impl.leastSemis"], fn := fun _ => fun
  | [d1, d2, g1, g2] => { results := [.lit (.bool true)], args := [d1, d2], vars := [g1, g2] }
  | _ => none }
def fnExactDiscantOkRow : OpenClaim := { program := "yticapinlnlpbpaadoor", sum := "815c83d63ec7bbb810ac4d3fecdd95ae042840c71de7a1b5ccafde355253a898", func := "loop.example/neumes/laws.FnExactDiscantOk", spec := "fnExactDiscantOk", recurses := true, named := ["loop.example/neumes/impl.stepHeights", "internal/strconv.uint64pow10", "math/bits.deBruijn32tab", "math/bits.deBruijn64tab", "loop.example/neumes/impl.leastSemis"], apart := false, laid := [("math/bits.deBruijn32tab", laid_math_bits_deBruijn32tab), ("math/bits.deBruijn64tab", laid_math_bits_deBruijn64tab), ("internal/strconv.uint64pow10", laid_internal_strconv_uint64pow10), ("loop.example/neumes/impl.stepHeights", laid_loop_example_neumes_impl_stepHeights), ("loop.example/neumes/impl.leastSemis", laid_loop_example_neumes_impl_leastSemis)] }
def FnExactDiscantOkSaid : Prop := fnExactDiscantOkRow.holds Tryd.pinned (OpenSpec.ofChange fnExactDiscantOkSpec)

/-- ITS FALSE NEIGHBOUR: 'it returns false'. Refute it at one input. -/
def fnExactDiscantOkWrong : ChangeSpec := { name := "fnExactDiscantOk", vars := ["loop.example/neumes/impl.stepHeights", "loop.example/neumes/impl.leastSemis"], fn := fun _ => fun
  | [d1, d2, g1, g2] => { results := [.lit (.bool false)], args := [d1, d2], vars := [g1, g2] }
  | _ => none }
def FnExactDiscantOkWrongFalsely : Prop := fnExactDiscantOkRow.holds Tryd.pinned (OpenSpec.ofChange fnExactDiscantOkWrong)

/-- 'laws.FnExactDiscantParallels': WHATEVER THE INPUT: true; the input reads as it did. -/
def fnExactDiscantParallelsSpec : ChangeSpec := { name := "fnExactDiscantParallels", vars := ["loop.example/neumes/impl.stepHeights", "loop.example/neumes/impl.leastSemis"], fn := fun _ => fun
  | [d1, d2, g1, g2] => { results := [.lit (.bool true)], args := [d1, d2], vars := [g1, g2] }
  | _ => none }
def fnExactDiscantParallelsRow : OpenClaim := { program := "yticapinlnlpbpaadoor", sum := "815c83d63ec7bbb810ac4d3fecdd95ae042840c71de7a1b5ccafde355253a898", func := "loop.example/neumes/laws.FnExactDiscantParallels", spec := "fnExactDiscantParallels", unfollowed := true, recurses := true, named := ["loop.example/neumes/impl.stepHeights", "internal/strconv.uint64pow10", "math/bits.deBruijn32tab", "math/bits.deBruijn64tab", "loop.example/neumes/impl.leastSemis"], apart := false, laid := [("math/bits.deBruijn32tab", laid_math_bits_deBruijn32tab), ("math/bits.deBruijn64tab", laid_math_bits_deBruijn64tab), ("internal/strconv.uint64pow10", laid_internal_strconv_uint64pow10), ("loop.example/neumes/impl.stepHeights", laid_loop_example_neumes_impl_stepHeights), ("loop.example/neumes/impl.leastSemis", laid_loop_example_neumes_impl_leastSemis)] }
def FnExactDiscantParallelsSaid : Prop := fnExactDiscantParallelsRow.holds Tryd.pinned (OpenSpec.ofChange fnExactDiscantParallelsSpec)

/-- ITS FALSE NEIGHBOUR: 'it returns false'. Refute it at one input. -/
def fnExactDiscantParallelsWrong : ChangeSpec := { name := "fnExactDiscantParallels", vars := ["loop.example/neumes/impl.stepHeights", "loop.example/neumes/impl.leastSemis"], fn := fun _ => fun
  | [d1, d2, g1, g2] => { results := [.lit (.bool false)], args := [d1, d2], vars := [g1, g2] }
  | _ => none }
def FnExactDiscantParallelsWrongFalsely : Prop := fnExactDiscantParallelsRow.holds Tryd.pinned (OpenSpec.ofChange fnExactDiscantParallelsWrong)

/-- 'laws.FnExactDiscantMove': WHATEVER THE INPUT: true; the input reads as it did. -/
def fnExactDiscantMoveSpec : ChangeSpec := { name := "fnExactDiscantMove", vars := ["loop.example/neumes/impl.stepHeights"], fn := fun _ => fun
  | [d1, d2, g1] => { results := [.lit (.bool true)], args := [d1, d2], vars := [g1] }
  | _ => none }
def fnExactDiscantMoveRow : OpenClaim := { program := "yticapinlnlpbpaadoor", sum := "815c83d63ec7bbb810ac4d3fecdd95ae042840c71de7a1b5ccafde355253a898", func := "loop.example/neumes/laws.FnExactDiscantMove", spec := "fnExactDiscantMove", recurses := true, named := ["loop.example/neumes/impl.stepHeights"], apart := false, laid := [("loop.example/neumes/impl.stepHeights", laid_loop_example_neumes_impl_stepHeights)] }
def FnExactDiscantMoveSaid : Prop := fnExactDiscantMoveRow.holds Tryd.pinned (OpenSpec.ofChange fnExactDiscantMoveSpec)

/-- ITS FALSE NEIGHBOUR: 'it returns false'. Refute it at one input. -/
def fnExactDiscantMoveWrong : ChangeSpec := { name := "fnExactDiscantMove", vars := ["loop.example/neumes/impl.stepHeights"], fn := fun _ => fun
  | [d1, d2, g1] => { results := [.lit (.bool false)], args := [d1, d2], vars := [g1] }
  | _ => none }
def FnExactDiscantMoveWrongFalsely : Prop := fnExactDiscantMoveRow.holds Tryd.pinned (OpenSpec.ofChange fnExactDiscantMoveWrong)

/-- 'laws.FnConcords': WHATEVER THE INPUT: true; the input reads as it did. -/
def fnConcordsSpec : ChangeSpec := { name := "fnConcords", vars := ["loop.example/neumes/impl.stepHeights", "loop.example/neumes/impl.leastSemis"], fn := fun _ => fun
  | [d, g1, g2] => { results := [.lit (.bool true)], args := [d], vars := [g1, g2] }
  | _ => none }
def fnConcordsRow : OpenClaim := { program := "yticapinlnlpbpaadoor", sum := "815c83d63ec7bbb810ac4d3fecdd95ae042840c71de7a1b5ccafde355253a898", func := "loop.example/neumes/laws.FnConcords", spec := "fnConcords", recurses := true, named := ["loop.example/neumes/impl.stepHeights", "internal/strconv.uint64pow10", "math/bits.deBruijn32tab", "math/bits.deBruijn64tab", "loop.example/neumes/impl.leastSemis"], apart := false, laid := [("math/bits.deBruijn32tab", laid_math_bits_deBruijn32tab), ("math/bits.deBruijn64tab", laid_math_bits_deBruijn64tab), ("internal/strconv.uint64pow10", laid_internal_strconv_uint64pow10), ("loop.example/neumes/impl.stepHeights", laid_loop_example_neumes_impl_stepHeights), ("loop.example/neumes/impl.leastSemis", laid_loop_example_neumes_impl_leastSemis)] }
def FnConcordsSaid : Prop := fnConcordsRow.holds Tryd.pinned (OpenSpec.ofChange fnConcordsSpec)

/-- ITS FALSE NEIGHBOUR: 'it returns false'. Refute it at one input. -/
def fnConcordsWrong : ChangeSpec := { name := "fnConcords", vars := ["loop.example/neumes/impl.stepHeights", "loop.example/neumes/impl.leastSemis"], fn := fun _ => fun
  | [d, g1, g2] => { results := [.lit (.bool false)], args := [d], vars := [g1, g2] }
  | _ => none }
def FnConcordsWrongFalsely : Prop := fnConcordsRow.holds Tryd.pinned (OpenSpec.ofChange fnConcordsWrong)

/-- 'laws.FnDiscantOk': WHATEVER THE INPUT: true; the input reads as it did. -/
def fnDiscantOkSpec : ChangeSpec := { name := "fnDiscantOk", vars := ["loop.example/neumes/impl.stepHeights", "loop.example/neumes/impl.leastSemis"], fn := fun _ => fun
  | [d, g1, g2] => { results := [.lit (.bool true)], args := [d], vars := [g1, g2] }
  | _ => none }
def fnDiscantOkRow : OpenClaim := { program := "yticapinlnlpbpaadoor", sum := "815c83d63ec7bbb810ac4d3fecdd95ae042840c71de7a1b5ccafde355253a898", func := "loop.example/neumes/laws.FnDiscantOk", spec := "fnDiscantOk", recurses := true, named := ["loop.example/neumes/impl.stepHeights", "internal/strconv.uint64pow10", "math/bits.deBruijn32tab", "math/bits.deBruijn64tab", "loop.example/neumes/impl.leastSemis"], apart := false, laid := [("math/bits.deBruijn32tab", laid_math_bits_deBruijn32tab), ("math/bits.deBruijn64tab", laid_math_bits_deBruijn64tab), ("internal/strconv.uint64pow10", laid_internal_strconv_uint64pow10), ("loop.example/neumes/impl.stepHeights", laid_loop_example_neumes_impl_stepHeights), ("loop.example/neumes/impl.leastSemis", laid_loop_example_neumes_impl_leastSemis)] }
def FnDiscantOkSaid : Prop := fnDiscantOkRow.holds Tryd.pinned (OpenSpec.ofChange fnDiscantOkSpec)

/-- ITS FALSE NEIGHBOUR: 'it returns false'. Refute it at one input. -/
def fnDiscantOkWrong : ChangeSpec := { name := "fnDiscantOk", vars := ["loop.example/neumes/impl.stepHeights", "loop.example/neumes/impl.leastSemis"], fn := fun _ => fun
  | [d, g1, g2] => { results := [.lit (.bool false)], args := [d], vars := [g1, g2] }
  | _ => none }
def FnDiscantOkWrongFalsely : Prop := fnDiscantOkRow.holds Tryd.pinned (OpenSpec.ofChange fnDiscantOkWrong)

/-- 'laws.FnParallels': WHATEVER THE INPUT: true; the input reads as it did. -/
def fnParallelsSpec : ChangeSpec := { name := "fnParallels", vars := ["loop.example/neumes/impl.stepHeights", "loop.example/neumes/impl.leastSemis"], fn := fun _ => fun
  | [d, g1, g2] => { results := [.lit (.bool true)], args := [d], vars := [g1, g2] }
  | _ => none }
def fnParallelsRow : OpenClaim := { program := "yticapinlnlpbpaadoor", sum := "815c83d63ec7bbb810ac4d3fecdd95ae042840c71de7a1b5ccafde355253a898", func := "loop.example/neumes/laws.FnParallels", spec := "fnParallels", unfollowed := true, recurses := true, named := ["loop.example/neumes/impl.stepHeights", "internal/strconv.uint64pow10", "math/bits.deBruijn32tab", "math/bits.deBruijn64tab", "loop.example/neumes/impl.leastSemis"], apart := false, laid := [("math/bits.deBruijn32tab", laid_math_bits_deBruijn32tab), ("math/bits.deBruijn64tab", laid_math_bits_deBruijn64tab), ("internal/strconv.uint64pow10", laid_internal_strconv_uint64pow10), ("loop.example/neumes/impl.stepHeights", laid_loop_example_neumes_impl_stepHeights), ("loop.example/neumes/impl.leastSemis", laid_loop_example_neumes_impl_leastSemis)] }
def FnParallelsSaid : Prop := fnParallelsRow.holds Tryd.pinned (OpenSpec.ofChange fnParallelsSpec)

/-- ITS FALSE NEIGHBOUR: 'it returns false'. Refute it at one input. -/
def fnParallelsWrong : ChangeSpec := { name := "fnParallels", vars := ["loop.example/neumes/impl.stepHeights", "loop.example/neumes/impl.leastSemis"], fn := fun _ => fun
  | [d, g1, g2] => { results := [.lit (.bool false)], args := [d], vars := [g1, g2] }
  | _ => none }
def FnParallelsWrongFalsely : Prop := fnParallelsRow.holds Tryd.pinned (OpenSpec.ofChange fnParallelsWrong)

/-- 'laws.FnCross': WHATEVER THE INPUT: true; the input reads as it did. -/
def fnCrossSpec : ChangeSpec := { name := "fnCross", vars := ["loop.example/neumes/impl.stepHeights"], fn := fun _ => fun
  | [d, g1] => { results := [.lit (.bool true)], args := [d], vars := [g1] }
  | _ => none }
def fnCrossRow : OpenClaim := { program := "yticapinlnlpbpaadoor", sum := "815c83d63ec7bbb810ac4d3fecdd95ae042840c71de7a1b5ccafde355253a898", func := "loop.example/neumes/laws.FnCross", spec := "fnCross", recurses := true, named := ["loop.example/neumes/impl.stepHeights"], apart := false, laid := [("loop.example/neumes/impl.stepHeights", laid_loop_example_neumes_impl_stepHeights)] }
def FnCrossSaid : Prop := fnCrossRow.holds Tryd.pinned (OpenSpec.ofChange fnCrossSpec)

/-- ITS FALSE NEIGHBOUR: 'it returns false'. Refute it at one input. -/
def fnCrossWrong : ChangeSpec := { name := "fnCross", vars := ["loop.example/neumes/impl.stepHeights"], fn := fun _ => fun
  | [d, g1] => { results := [.lit (.bool false)], args := [d], vars := [g1] }
  | _ => none }
def FnCrossWrongFalsely : Prop := fnCrossRow.holds Tryd.pinned (OpenSpec.ofChange fnCrossWrong)

/-- 'laws.FnDiscantMove': WHATEVER THE INPUT: true; the input reads as it did. -/
def fnDiscantMoveSpec : ChangeSpec := { name := "fnDiscantMove", vars := ["loop.example/neumes/impl.stepHeights", "loop.example/neumes/impl.leastSemis"], fn := fun _ => fun
  | [d, g1, g2] => { results := [.lit (.bool true)], args := [d], vars := [g1, g2] }
  | _ => none }
def fnDiscantMoveRow : OpenClaim := { program := "yticapinlnlpbpaadoor", sum := "815c83d63ec7bbb810ac4d3fecdd95ae042840c71de7a1b5ccafde355253a898", func := "loop.example/neumes/laws.FnDiscantMove", spec := "fnDiscantMove", unfollowed := true, recurses := true, named := ["loop.example/neumes/impl.stepHeights", "internal/strconv.uint64pow10", "math/bits.deBruijn32tab", "math/bits.deBruijn64tab", "loop.example/neumes/impl.leastSemis"], apart := false, laid := [("math/bits.deBruijn32tab", laid_math_bits_deBruijn32tab), ("math/bits.deBruijn64tab", laid_math_bits_deBruijn64tab), ("internal/strconv.uint64pow10", laid_internal_strconv_uint64pow10), ("loop.example/neumes/impl.stepHeights", laid_loop_example_neumes_impl_stepHeights), ("loop.example/neumes/impl.leastSemis", laid_loop_example_neumes_impl_leastSemis)] }
def FnDiscantMoveSaid : Prop := fnDiscantMoveRow.holds Tryd.pinned (OpenSpec.ofChange fnDiscantMoveSpec)

/-- ITS FALSE NEIGHBOUR: 'it returns false'. Refute it at one input. -/
def fnDiscantMoveWrong : ChangeSpec := { name := "fnDiscantMove", vars := ["loop.example/neumes/impl.stepHeights", "loop.example/neumes/impl.leastSemis"], fn := fun _ => fun
  | [d, g1, g2] => { results := [.lit (.bool false)], args := [d], vars := [g1, g2] }
  | _ => none }
def FnDiscantMoveWrongFalsely : Prop := fnDiscantMoveRow.holds Tryd.pinned (OpenSpec.ofChange fnDiscantMoveWrong)

/- THE SECOND FORM. 'bulk': how many values and letters a reading holds, each counted each time it is reached (what is shared counts as often as it is met; a slice's spare places count too). A statement '..UptoSaid' is the law's where the arguments, and the package variables that the reading takes, are together of bulk at most 1048576: NARROWER than '..Said'. Prove '..Said' where nothing that the law and all that it calls make is longer than what came in: it says more and counts as full. Else prove '..UptoSaid'. A law counts once. -/
mutual
def uptoBulk {H : Type} : DataW H → Nat
  | .lit (.string bytes) => bytes.length + 1
  | .lit _ => 1
  | .nil => 1
  | .ptr d => uptoBulk d + 1
  | .slice elems spare => uptoBulkAll elems + uptoBulkAll spare + 1
  | .agg parts => uptoBulkAll parts + 1
  | .iface _ d => uptoBulk d + 1
  | .map entries => uptoBulkEntries entries + 1
  | .held _ => 1
def uptoBulkAll {H : Type} : List (DataW H) → Nat
  | [] => 0
  | d :: r => uptoBulk d + uptoBulkAll r
def uptoBulkEntries {H : Type} : List (Lit × DataW H) → Nat
  | [] => 0
  | x :: r => uptoBulkEntry x + uptoBulkEntries r
def uptoBulkEntry {H : Type} : Lit × DataW H → Nat
  | (.string bytes, d) => bytes.length + uptoBulk d + 1
  | (_, d) => uptoBulk d + 1
 end
def uptoSmall : (H : Type) → List (DataW H) → Bool := fun _ ds => decide (uptoBulkAll ds ≤ 1048576)
def OpenSpec.upto (s : _root_.Go.ChangeSpec) : _root_.Go.OpenSpec := { _root_.Go.OpenSpec.ofChange s with cond := some uptoSmall }

/-- 'laws.FnExactDiscantConcords', WHERE WHAT IT READS IS OF BULK AT MOST 1048576: true; the input reads as it did. -/
def fnExactDiscantConcordsUptoRow : OpenClaim := { program := "yticapinlnlpbpaadoor", sum := "815c83d63ec7bbb810ac4d3fecdd95ae042840c71de7a1b5ccafde355253a898", func := "loop.example/neumes/laws.FnExactDiscantConcords", spec := "fnExactDiscantConcords", recurses := true, named := ["loop.example/neumes/impl.stepHeights", "internal/strconv.uint64pow10", "math/bits.deBruijn32tab", "math/bits.deBruijn64tab", "loop.example/neumes/impl.leastSemis"], apart := false, laid := [("math/bits.deBruijn32tab", laid_math_bits_deBruijn32tab), ("math/bits.deBruijn64tab", laid_math_bits_deBruijn64tab), ("internal/strconv.uint64pow10", laid_internal_strconv_uint64pow10), ("loop.example/neumes/impl.stepHeights", laid_loop_example_neumes_impl_stepHeights), ("loop.example/neumes/impl.leastSemis", laid_loop_example_neumes_impl_leastSemis)], narrowed := true }
def FnExactDiscantConcordsUptoSaid : Prop := fnExactDiscantConcordsUptoRow.holds Tryd.pinned (OpenSpec.upto fnExactDiscantConcordsSpec)

/-- 'laws.FnExactDiscantOk', WHERE WHAT IT READS IS OF BULK AT MOST 1048576: true; the input reads as it did. -/
def fnExactDiscantOkUptoRow : OpenClaim := { program := "yticapinlnlpbpaadoor", sum := "815c83d63ec7bbb810ac4d3fecdd95ae042840c71de7a1b5ccafde355253a898", func := "loop.example/neumes/laws.FnExactDiscantOk", spec := "fnExactDiscantOk", recurses := true, named := ["loop.example/neumes/impl.stepHeights", "internal/strconv.uint64pow10", "math/bits.deBruijn32tab", "math/bits.deBruijn64tab", "loop.example/neumes/impl.leastSemis"], apart := false, laid := [("math/bits.deBruijn32tab", laid_math_bits_deBruijn32tab), ("math/bits.deBruijn64tab", laid_math_bits_deBruijn64tab), ("internal/strconv.uint64pow10", laid_internal_strconv_uint64pow10), ("loop.example/neumes/impl.stepHeights", laid_loop_example_neumes_impl_stepHeights), ("loop.example/neumes/impl.leastSemis", laid_loop_example_neumes_impl_leastSemis)], narrowed := true }
def FnExactDiscantOkUptoSaid : Prop := fnExactDiscantOkUptoRow.holds Tryd.pinned (OpenSpec.upto fnExactDiscantOkSpec)

/-- 'laws.FnExactDiscantParallels', WHERE WHAT IT READS IS OF BULK AT MOST 1048576: true; the input reads as it did. -/
def fnExactDiscantParallelsUptoRow : OpenClaim := { program := "yticapinlnlpbpaadoor", sum := "815c83d63ec7bbb810ac4d3fecdd95ae042840c71de7a1b5ccafde355253a898", func := "loop.example/neumes/laws.FnExactDiscantParallels", spec := "fnExactDiscantParallels", unfollowed := true, recurses := true, named := ["loop.example/neumes/impl.stepHeights", "internal/strconv.uint64pow10", "math/bits.deBruijn32tab", "math/bits.deBruijn64tab", "loop.example/neumes/impl.leastSemis"], apart := false, laid := [("math/bits.deBruijn32tab", laid_math_bits_deBruijn32tab), ("math/bits.deBruijn64tab", laid_math_bits_deBruijn64tab), ("internal/strconv.uint64pow10", laid_internal_strconv_uint64pow10), ("loop.example/neumes/impl.stepHeights", laid_loop_example_neumes_impl_stepHeights), ("loop.example/neumes/impl.leastSemis", laid_loop_example_neumes_impl_leastSemis)], narrowed := true }
def FnExactDiscantParallelsUptoSaid : Prop := fnExactDiscantParallelsUptoRow.holds Tryd.pinned (OpenSpec.upto fnExactDiscantParallelsSpec)

/-- 'laws.FnExactDiscantMove', WHERE WHAT IT READS IS OF BULK AT MOST 1048576: true; the input reads as it did. -/
def fnExactDiscantMoveUptoRow : OpenClaim := { program := "yticapinlnlpbpaadoor", sum := "815c83d63ec7bbb810ac4d3fecdd95ae042840c71de7a1b5ccafde355253a898", func := "loop.example/neumes/laws.FnExactDiscantMove", spec := "fnExactDiscantMove", recurses := true, named := ["loop.example/neumes/impl.stepHeights"], apart := false, laid := [("loop.example/neumes/impl.stepHeights", laid_loop_example_neumes_impl_stepHeights)], narrowed := true }
def FnExactDiscantMoveUptoSaid : Prop := fnExactDiscantMoveUptoRow.holds Tryd.pinned (OpenSpec.upto fnExactDiscantMoveSpec)

/-- 'laws.FnConcords', WHERE WHAT IT READS IS OF BULK AT MOST 1048576: true; the input reads as it did. -/
def fnConcordsUptoRow : OpenClaim := { program := "yticapinlnlpbpaadoor", sum := "815c83d63ec7bbb810ac4d3fecdd95ae042840c71de7a1b5ccafde355253a898", func := "loop.example/neumes/laws.FnConcords", spec := "fnConcords", recurses := true, named := ["loop.example/neumes/impl.stepHeights", "internal/strconv.uint64pow10", "math/bits.deBruijn32tab", "math/bits.deBruijn64tab", "loop.example/neumes/impl.leastSemis"], apart := false, laid := [("math/bits.deBruijn32tab", laid_math_bits_deBruijn32tab), ("math/bits.deBruijn64tab", laid_math_bits_deBruijn64tab), ("internal/strconv.uint64pow10", laid_internal_strconv_uint64pow10), ("loop.example/neumes/impl.stepHeights", laid_loop_example_neumes_impl_stepHeights), ("loop.example/neumes/impl.leastSemis", laid_loop_example_neumes_impl_leastSemis)], narrowed := true }
def FnConcordsUptoSaid : Prop := fnConcordsUptoRow.holds Tryd.pinned (OpenSpec.upto fnConcordsSpec)

/-- 'laws.FnDiscantOk', WHERE WHAT IT READS IS OF BULK AT MOST 1048576: true; the input reads as it did. -/
def fnDiscantOkUptoRow : OpenClaim := { program := "yticapinlnlpbpaadoor", sum := "815c83d63ec7bbb810ac4d3fecdd95ae042840c71de7a1b5ccafde355253a898", func := "loop.example/neumes/laws.FnDiscantOk", spec := "fnDiscantOk", recurses := true, named := ["loop.example/neumes/impl.stepHeights", "internal/strconv.uint64pow10", "math/bits.deBruijn32tab", "math/bits.deBruijn64tab", "loop.example/neumes/impl.leastSemis"], apart := false, laid := [("math/bits.deBruijn32tab", laid_math_bits_deBruijn32tab), ("math/bits.deBruijn64tab", laid_math_bits_deBruijn64tab), ("internal/strconv.uint64pow10", laid_internal_strconv_uint64pow10), ("loop.example/neumes/impl.stepHeights", laid_loop_example_neumes_impl_stepHeights), ("loop.example/neumes/impl.leastSemis", laid_loop_example_neumes_impl_leastSemis)], narrowed := true }
def FnDiscantOkUptoSaid : Prop := fnDiscantOkUptoRow.holds Tryd.pinned (OpenSpec.upto fnDiscantOkSpec)

/-- 'laws.FnParallels', WHERE WHAT IT READS IS OF BULK AT MOST 1048576: true; the input reads as it did. -/
def fnParallelsUptoRow : OpenClaim := { program := "yticapinlnlpbpaadoor", sum := "815c83d63ec7bbb810ac4d3fecdd95ae042840c71de7a1b5ccafde355253a898", func := "loop.example/neumes/laws.FnParallels", spec := "fnParallels", unfollowed := true, recurses := true, named := ["loop.example/neumes/impl.stepHeights", "internal/strconv.uint64pow10", "math/bits.deBruijn32tab", "math/bits.deBruijn64tab", "loop.example/neumes/impl.leastSemis"], apart := false, laid := [("math/bits.deBruijn32tab", laid_math_bits_deBruijn32tab), ("math/bits.deBruijn64tab", laid_math_bits_deBruijn64tab), ("internal/strconv.uint64pow10", laid_internal_strconv_uint64pow10), ("loop.example/neumes/impl.stepHeights", laid_loop_example_neumes_impl_stepHeights), ("loop.example/neumes/impl.leastSemis", laid_loop_example_neumes_impl_leastSemis)], narrowed := true }
def FnParallelsUptoSaid : Prop := fnParallelsUptoRow.holds Tryd.pinned (OpenSpec.upto fnParallelsSpec)

/-- 'laws.FnCross', WHERE WHAT IT READS IS OF BULK AT MOST 1048576: true; the input reads as it did. -/
def fnCrossUptoRow : OpenClaim := { program := "yticapinlnlpbpaadoor", sum := "815c83d63ec7bbb810ac4d3fecdd95ae042840c71de7a1b5ccafde355253a898", func := "loop.example/neumes/laws.FnCross", spec := "fnCross", recurses := true, named := ["loop.example/neumes/impl.stepHeights"], apart := false, laid := [("loop.example/neumes/impl.stepHeights", laid_loop_example_neumes_impl_stepHeights)], narrowed := true }
def FnCrossUptoSaid : Prop := fnCrossUptoRow.holds Tryd.pinned (OpenSpec.upto fnCrossSpec)

/-- 'laws.FnDiscantMove', WHERE WHAT IT READS IS OF BULK AT MOST 1048576: true; the input reads as it did. -/
def fnDiscantMoveUptoRow : OpenClaim := { program := "yticapinlnlpbpaadoor", sum := "815c83d63ec7bbb810ac4d3fecdd95ae042840c71de7a1b5ccafde355253a898", func := "loop.example/neumes/laws.FnDiscantMove", spec := "fnDiscantMove", unfollowed := true, recurses := true, named := ["loop.example/neumes/impl.stepHeights", "internal/strconv.uint64pow10", "math/bits.deBruijn32tab", "math/bits.deBruijn64tab", "loop.example/neumes/impl.leastSemis"], apart := false, laid := [("math/bits.deBruijn32tab", laid_math_bits_deBruijn32tab), ("math/bits.deBruijn64tab", laid_math_bits_deBruijn64tab), ("internal/strconv.uint64pow10", laid_internal_strconv_uint64pow10), ("loop.example/neumes/impl.stepHeights", laid_loop_example_neumes_impl_stepHeights), ("loop.example/neumes/impl.leastSemis", laid_loop_example_neumes_impl_leastSemis)], narrowed := true }
def FnDiscantMoveUptoSaid : Prop := fnDiscantMoveUptoRow.holds Tryd.pinned (OpenSpec.upto fnDiscantMoveSpec)

end Rows
end Go.Proofs.YticapinlnlpbpaaDoor
