/-
  NARROWER THAN 'FOR EVERY INPUT', by the rows' own cells (each row's printed sentence says how): FnMode: laid · FnModeIn: laid · FnModeAll: laid · FnModeLikely: laid · FnModeMoves: laid · FnExactModeFinal: laid · FnExactModeTenor: laid · FnExactModeRange: laid · FnExactModeIn: laid · FnExactModeAll: laid · FnExactModeLikely: laid · FnExactModeMoves: laid · FnExactModePair: laid.
  DERIVED. THE GIVEN ROWS OF THIS SEAT. 13 by the template 'for every input the law returns true; each argument reads behind the call as it read before'; 0 by the template 'total and deterministic' (their statements: YtmipkodgkldmbaaDoorTotals.lean).
  GIVEN WITH THE SEED: the statements are not yours to turn. If you find one false, say at which input.
  Laid BY PROGRAM, IN A SANDBOX (cutbox-rows.mjs): the forced cells as the released guide's own fill.sh prints them over the translation 32994bda29a49ac3… (all of the seat's roots in one cut). By AI agents, Wed Nov 11 2026. No macro, syntax, notation, axiom, sorry.
-/
import Derived.Test.YtmipkodgkldmbaaDoorChecked
import GoSem.Claim
import GoSem.ClaimJoined
import GoSem.ClaimMapViews
import Derived.JoinedTies
import Derived.KernelRfl
namespace Go.Proofs.YtmipkodgkldmbaaDoor
/- THE CELL 'sum', in the pinned program and in every row, IS THE sha256 OF THE DUMP (.gsa) THAT YtmipkodgkldmbaaDoorProg.lean LOADS. Nothing in Lean hashes anything: it is a label: what it is worth is what the hold of that sum in a sandbox is worth. -/
noncomputable def Tryd.pinned : Pinned := { name := "ytmipkodgkldmbaadoor", sum := "32994bda29a49ac327d10d763356b14a8c5cca4203ffddf197fb67282b1faf73", checked := Tryd.checked }
namespace Rows
def none {H : Type} : Left H := { results := [], args := [] }

/- WHAT THE LISTED PACKAGE-LEVEL VARIABLES READ AS WHEN THE CALL BEGINS. Each datum BY PROGRAM (the guide's laid-datum.mjs) off the statement by which the dump's own 'gosem.cut.vars' lays the variable. In a bare row this is a premise. The card (YtmipkodgkldmbaaDoorCards.lean) ties it to the program's text. -/
def laid_loop_example_neumes_impl_modeTenors {H : Type} : DataW H := .agg [.lit (.int .i64 8), .lit (.int .i64 6), .lit (.int .i64 10), .lit (.int .i64 8), .lit (.int .i64 10), .lit (.int .i64 8), .lit (.int .i64 11), .lit (.int .i64 10)]
def laid_loop_example_neumes_impl_stepHeights {H : Type} : DataW H := .agg [.lit (.int .i64 0), .lit (.int .i64 2), .lit (.int .i64 4), .lit (.int .i64 5), .lit (.int .i64 7), .lit (.int .i64 9), .lit (.int .i64 10)]

/-- 'laws.FnMode': WHATEVER THE INPUT: true; the input reads as it did. -/
def fnModeSpec : ChangeSpec := { name := "fnMode", vars := ["loop.example/neumes/impl.modeTenors"], fn := fun _ => fun
  | [d, g1] => { results := [.lit (.bool true)], args := [d], vars := [g1] }
  | _ => none }
def fnModeRow : OpenClaim := { program := "ytmipkodgkldmbaadoor", sum := "32994bda29a49ac327d10d763356b14a8c5cca4203ffddf197fb67282b1faf73", func := "loop.example/neumes/laws.FnMode", spec := "fnMode", named := ["loop.example/neumes/impl.modeTenors"], apart := false, laid := [("loop.example/neumes/impl.modeTenors", laid_loop_example_neumes_impl_modeTenors)] }
def FnModeSaid : Prop := fnModeRow.holds Tryd.pinned (OpenSpec.ofChange fnModeSpec)

/-- ITS FALSE NEIGHBOUR: 'it returns false'. Refute it at one input. -/
def fnModeWrong : ChangeSpec := { name := "fnMode", vars := ["loop.example/neumes/impl.modeTenors"], fn := fun _ => fun
  | [d, g1] => { results := [.lit (.bool false)], args := [d], vars := [g1] }
  | _ => none }
def FnModeWrongFalsely : Prop := fnModeRow.holds Tryd.pinned (OpenSpec.ofChange fnModeWrong)

/-- 'laws.FnModeIn': WHATEVER THE INPUT: true; the input reads as it did. -/
def fnModeInSpec : ChangeSpec := { name := "fnModeIn", vars := ["loop.example/neumes/impl.modeTenors"], fn := fun _ => fun
  | [d, g1] => { results := [.lit (.bool true)], args := [d], vars := [g1] }
  | _ => none }
def fnModeInRow : OpenClaim := { program := "ytmipkodgkldmbaadoor", sum := "32994bda29a49ac327d10d763356b14a8c5cca4203ffddf197fb67282b1faf73", func := "loop.example/neumes/laws.FnModeIn", spec := "fnModeIn", named := ["loop.example/neumes/impl.modeTenors"], apart := false, laid := [("loop.example/neumes/impl.modeTenors", laid_loop_example_neumes_impl_modeTenors)] }
def FnModeInSaid : Prop := fnModeInRow.holds Tryd.pinned (OpenSpec.ofChange fnModeInSpec)

/-- ITS FALSE NEIGHBOUR: 'it returns false'. Refute it at one input. -/
def fnModeInWrong : ChangeSpec := { name := "fnModeIn", vars := ["loop.example/neumes/impl.modeTenors"], fn := fun _ => fun
  | [d, g1] => { results := [.lit (.bool false)], args := [d], vars := [g1] }
  | _ => none }
def FnModeInWrongFalsely : Prop := fnModeInRow.holds Tryd.pinned (OpenSpec.ofChange fnModeInWrong)

/-- 'laws.FnModeAll': WHATEVER THE INPUT: true; the input reads as it did. -/
def fnModeAllSpec : ChangeSpec := { name := "fnModeAll", vars := ["loop.example/neumes/impl.modeTenors"], fn := fun _ => fun
  | [d, g1] => { results := [.lit (.bool true)], args := [d], vars := [g1] }
  | _ => none }
def fnModeAllRow : OpenClaim := { program := "ytmipkodgkldmbaadoor", sum := "32994bda29a49ac327d10d763356b14a8c5cca4203ffddf197fb67282b1faf73", func := "loop.example/neumes/laws.FnModeAll", spec := "fnModeAll", named := ["loop.example/neumes/impl.modeTenors"], apart := false, laid := [("loop.example/neumes/impl.modeTenors", laid_loop_example_neumes_impl_modeTenors)] }
def FnModeAllSaid : Prop := fnModeAllRow.holds Tryd.pinned (OpenSpec.ofChange fnModeAllSpec)

/-- ITS FALSE NEIGHBOUR: 'it returns false'. Refute it at one input. -/
def fnModeAllWrong : ChangeSpec := { name := "fnModeAll", vars := ["loop.example/neumes/impl.modeTenors"], fn := fun _ => fun
  | [d, g1] => { results := [.lit (.bool false)], args := [d], vars := [g1] }
  | _ => none }
def FnModeAllWrongFalsely : Prop := fnModeAllRow.holds Tryd.pinned (OpenSpec.ofChange fnModeAllWrong)

/-- 'laws.FnModeLikely': WHATEVER THE INPUT: true; the input reads as it did. -/
def fnModeLikelySpec : ChangeSpec := { name := "fnModeLikely", vars := ["loop.example/neumes/impl.modeTenors"], fn := fun _ => fun
  | [d, g1] => { results := [.lit (.bool true)], args := [d], vars := [g1] }
  | _ => none }
def fnModeLikelyRow : OpenClaim := { program := "ytmipkodgkldmbaadoor", sum := "32994bda29a49ac327d10d763356b14a8c5cca4203ffddf197fb67282b1faf73", func := "loop.example/neumes/laws.FnModeLikely", spec := "fnModeLikely", named := ["loop.example/neumes/impl.modeTenors"], apart := false, laid := [("loop.example/neumes/impl.modeTenors", laid_loop_example_neumes_impl_modeTenors)] }
def FnModeLikelySaid : Prop := fnModeLikelyRow.holds Tryd.pinned (OpenSpec.ofChange fnModeLikelySpec)

/-- ITS FALSE NEIGHBOUR: 'it returns false'. Refute it at one input. -/
def fnModeLikelyWrong : ChangeSpec := { name := "fnModeLikely", vars := ["loop.example/neumes/impl.modeTenors"], fn := fun _ => fun
  | [d, g1] => { results := [.lit (.bool false)], args := [d], vars := [g1] }
  | _ => none }
def FnModeLikelyWrongFalsely : Prop := fnModeLikelyRow.holds Tryd.pinned (OpenSpec.ofChange fnModeLikelyWrong)

/-- 'laws.FnModeMoves': WHATEVER THE INPUT: true; the input reads as it did. -/
def fnModeMovesSpec : ChangeSpec := { name := "fnModeMoves", vars := ["loop.example/neumes/impl.modeTenors", "loop.example/neumes/impl.stepHeights"], fn := fun _ => fun
  | [d, g1, g2] => { results := [.lit (.bool true)], args := [d], vars := [g1, g2] }
  | _ => none }
def fnModeMovesRow : OpenClaim := { program := "ytmipkodgkldmbaadoor", sum := "32994bda29a49ac327d10d763356b14a8c5cca4203ffddf197fb67282b1faf73", func := "loop.example/neumes/laws.FnModeMoves", spec := "fnModeMoves", recurses := true, named := ["loop.example/neumes/impl.modeTenors", "loop.example/neumes/impl.stepHeights"], apart := false, laid := [("loop.example/neumes/impl.stepHeights", laid_loop_example_neumes_impl_stepHeights), ("loop.example/neumes/impl.modeTenors", laid_loop_example_neumes_impl_modeTenors)] }
def FnModeMovesSaid : Prop := fnModeMovesRow.holds Tryd.pinned (OpenSpec.ofChange fnModeMovesSpec)

/-- ITS FALSE NEIGHBOUR: 'it returns false'. Refute it at one input. -/
def fnModeMovesWrong : ChangeSpec := { name := "fnModeMoves", vars := ["loop.example/neumes/impl.modeTenors", "loop.example/neumes/impl.stepHeights"], fn := fun _ => fun
  | [d, g1, g2] => { results := [.lit (.bool false)], args := [d], vars := [g1, g2] }
  | _ => none }
def FnModeMovesWrongFalsely : Prop := fnModeMovesRow.holds Tryd.pinned (OpenSpec.ofChange fnModeMovesWrong)

/-- 'laws.FnExactModeFinal': WHATEVER THE INPUT: true; the input reads as it did. -/
def fnExactModeFinalSpec : ChangeSpec := { name := "fnExactModeFinal", vars := ["loop.example/neumes/impl.modeTenors"], fn := fun _ => fun
  | [d, g1] => { results := [.lit (.bool true)], args := [d], vars := [g1] }
  | _ => none }
def fnExactModeFinalRow : OpenClaim := { program := "ytmipkodgkldmbaadoor", sum := "32994bda29a49ac327d10d763356b14a8c5cca4203ffddf197fb67282b1faf73", func := "loop.example/neumes/laws.FnExactModeFinal", spec := "fnExactModeFinal", named := ["loop.example/neumes/impl.modeTenors"], apart := false, laid := [("loop.example/neumes/impl.modeTenors", laid_loop_example_neumes_impl_modeTenors)] }
def FnExactModeFinalSaid : Prop := fnExactModeFinalRow.holds Tryd.pinned (OpenSpec.ofChange fnExactModeFinalSpec)

/-- ITS FALSE NEIGHBOUR: 'it returns false'. Refute it at one input. -/
def fnExactModeFinalWrong : ChangeSpec := { name := "fnExactModeFinal", vars := ["loop.example/neumes/impl.modeTenors"], fn := fun _ => fun
  | [d, g1] => { results := [.lit (.bool false)], args := [d], vars := [g1] }
  | _ => none }
def FnExactModeFinalWrongFalsely : Prop := fnExactModeFinalRow.holds Tryd.pinned (OpenSpec.ofChange fnExactModeFinalWrong)

/-- 'laws.FnExactModeTenor': WHATEVER THE INPUT: true; the input reads as it did. -/
def fnExactModeTenorSpec : ChangeSpec := { name := "fnExactModeTenor", vars := ["loop.example/neumes/impl.modeTenors"], fn := fun _ => fun
  | [d, g1] => { results := [.lit (.bool true)], args := [d], vars := [g1] }
  | _ => none }
def fnExactModeTenorRow : OpenClaim := { program := "ytmipkodgkldmbaadoor", sum := "32994bda29a49ac327d10d763356b14a8c5cca4203ffddf197fb67282b1faf73", func := "loop.example/neumes/laws.FnExactModeTenor", spec := "fnExactModeTenor", named := ["loop.example/neumes/impl.modeTenors"], apart := false, laid := [("loop.example/neumes/impl.modeTenors", laid_loop_example_neumes_impl_modeTenors)] }
def FnExactModeTenorSaid : Prop := fnExactModeTenorRow.holds Tryd.pinned (OpenSpec.ofChange fnExactModeTenorSpec)

/-- ITS FALSE NEIGHBOUR: 'it returns false'. Refute it at one input. -/
def fnExactModeTenorWrong : ChangeSpec := { name := "fnExactModeTenor", vars := ["loop.example/neumes/impl.modeTenors"], fn := fun _ => fun
  | [d, g1] => { results := [.lit (.bool false)], args := [d], vars := [g1] }
  | _ => none }
def FnExactModeTenorWrongFalsely : Prop := fnExactModeTenorRow.holds Tryd.pinned (OpenSpec.ofChange fnExactModeTenorWrong)

/-- 'laws.FnExactModeRange': WHATEVER THE INPUT: true; the input reads as it did. -/
def fnExactModeRangeSpec : ChangeSpec := { name := "fnExactModeRange", vars := ["loop.example/neumes/impl.modeTenors"], fn := fun _ => fun
  | [d, g1] => { results := [.lit (.bool true)], args := [d], vars := [g1] }
  | _ => none }
def fnExactModeRangeRow : OpenClaim := { program := "ytmipkodgkldmbaadoor", sum := "32994bda29a49ac327d10d763356b14a8c5cca4203ffddf197fb67282b1faf73", func := "loop.example/neumes/laws.FnExactModeRange", spec := "fnExactModeRange", named := ["loop.example/neumes/impl.modeTenors"], apart := false, laid := [("loop.example/neumes/impl.modeTenors", laid_loop_example_neumes_impl_modeTenors)] }
def FnExactModeRangeSaid : Prop := fnExactModeRangeRow.holds Tryd.pinned (OpenSpec.ofChange fnExactModeRangeSpec)

/-- ITS FALSE NEIGHBOUR: 'it returns false'. Refute it at one input. -/
def fnExactModeRangeWrong : ChangeSpec := { name := "fnExactModeRange", vars := ["loop.example/neumes/impl.modeTenors"], fn := fun _ => fun
  | [d, g1] => { results := [.lit (.bool false)], args := [d], vars := [g1] }
  | _ => none }
def FnExactModeRangeWrongFalsely : Prop := fnExactModeRangeRow.holds Tryd.pinned (OpenSpec.ofChange fnExactModeRangeWrong)

/-- 'laws.FnExactModeIn': WHATEVER THE INPUT: true; the input reads as it did. -/
def fnExactModeInSpec : ChangeSpec := { name := "fnExactModeIn", vars := ["loop.example/neumes/impl.modeTenors"], fn := fun _ => fun
  | [d1, d2, g1] => { results := [.lit (.bool true)], args := [d1, d2], vars := [g1] }
  | _ => none }
def fnExactModeInRow : OpenClaim := { program := "ytmipkodgkldmbaadoor", sum := "32994bda29a49ac327d10d763356b14a8c5cca4203ffddf197fb67282b1faf73", func := "loop.example/neumes/laws.FnExactModeIn", spec := "fnExactModeIn", named := ["loop.example/neumes/impl.modeTenors"], apart := false, laid := [("loop.example/neumes/impl.modeTenors", laid_loop_example_neumes_impl_modeTenors)] }
def FnExactModeInSaid : Prop := fnExactModeInRow.holds Tryd.pinned (OpenSpec.ofChange fnExactModeInSpec)

/-- ITS FALSE NEIGHBOUR: 'it returns false'. Refute it at one input. -/
def fnExactModeInWrong : ChangeSpec := { name := "fnExactModeIn", vars := ["loop.example/neumes/impl.modeTenors"], fn := fun _ => fun
  | [d1, d2, g1] => { results := [.lit (.bool false)], args := [d1, d2], vars := [g1] }
  | _ => none }
def FnExactModeInWrongFalsely : Prop := fnExactModeInRow.holds Tryd.pinned (OpenSpec.ofChange fnExactModeInWrong)

/-- 'laws.FnExactModeAll': WHATEVER THE INPUT: true; the input reads as it did. -/
def fnExactModeAllSpec : ChangeSpec := { name := "fnExactModeAll", vars := ["loop.example/neumes/impl.modeTenors"], fn := fun _ => fun
  | [d, g1] => { results := [.lit (.bool true)], args := [d], vars := [g1] }
  | _ => none }
def fnExactModeAllRow : OpenClaim := { program := "ytmipkodgkldmbaadoor", sum := "32994bda29a49ac327d10d763356b14a8c5cca4203ffddf197fb67282b1faf73", func := "loop.example/neumes/laws.FnExactModeAll", spec := "fnExactModeAll", named := ["loop.example/neumes/impl.modeTenors"], apart := false, laid := [("loop.example/neumes/impl.modeTenors", laid_loop_example_neumes_impl_modeTenors)] }
def FnExactModeAllSaid : Prop := fnExactModeAllRow.holds Tryd.pinned (OpenSpec.ofChange fnExactModeAllSpec)

/-- ITS FALSE NEIGHBOUR: 'it returns false'. Refute it at one input. -/
def fnExactModeAllWrong : ChangeSpec := { name := "fnExactModeAll", vars := ["loop.example/neumes/impl.modeTenors"], fn := fun _ => fun
  | [d, g1] => { results := [.lit (.bool false)], args := [d], vars := [g1] }
  | _ => none }
def FnExactModeAllWrongFalsely : Prop := fnExactModeAllRow.holds Tryd.pinned (OpenSpec.ofChange fnExactModeAllWrong)

/-- 'laws.FnExactModeLikely': WHATEVER THE INPUT: true; the input reads as it did. -/
def fnExactModeLikelySpec : ChangeSpec := { name := "fnExactModeLikely", vars := ["loop.example/neumes/impl.modeTenors"], fn := fun _ => fun
  | [d, g1] => { results := [.lit (.bool true)], args := [d], vars := [g1] }
  | _ => none }
def fnExactModeLikelyRow : OpenClaim := { program := "ytmipkodgkldmbaadoor", sum := "32994bda29a49ac327d10d763356b14a8c5cca4203ffddf197fb67282b1faf73", func := "loop.example/neumes/laws.FnExactModeLikely", spec := "fnExactModeLikely", named := ["loop.example/neumes/impl.modeTenors"], apart := false, laid := [("loop.example/neumes/impl.modeTenors", laid_loop_example_neumes_impl_modeTenors)] }
def FnExactModeLikelySaid : Prop := fnExactModeLikelyRow.holds Tryd.pinned (OpenSpec.ofChange fnExactModeLikelySpec)

/-- ITS FALSE NEIGHBOUR: 'it returns false'. Refute it at one input. -/
def fnExactModeLikelyWrong : ChangeSpec := { name := "fnExactModeLikely", vars := ["loop.example/neumes/impl.modeTenors"], fn := fun _ => fun
  | [d, g1] => { results := [.lit (.bool false)], args := [d], vars := [g1] }
  | _ => none }
def FnExactModeLikelyWrongFalsely : Prop := fnExactModeLikelyRow.holds Tryd.pinned (OpenSpec.ofChange fnExactModeLikelyWrong)

/-- 'laws.FnExactModeMoves': WHATEVER THE INPUT: true; the input reads as it did. -/
def fnExactModeMovesSpec : ChangeSpec := { name := "fnExactModeMoves", vars := ["loop.example/neumes/impl.modeTenors", "loop.example/neumes/impl.stepHeights"], fn := fun _ => fun
  | [d, g1, g2] => { results := [.lit (.bool true)], args := [d], vars := [g1, g2] }
  | _ => none }
def fnExactModeMovesRow : OpenClaim := { program := "ytmipkodgkldmbaadoor", sum := "32994bda29a49ac327d10d763356b14a8c5cca4203ffddf197fb67282b1faf73", func := "loop.example/neumes/laws.FnExactModeMoves", spec := "fnExactModeMoves", recurses := true, named := ["loop.example/neumes/impl.modeTenors", "loop.example/neumes/impl.stepHeights"], apart := false, laid := [("loop.example/neumes/impl.stepHeights", laid_loop_example_neumes_impl_stepHeights), ("loop.example/neumes/impl.modeTenors", laid_loop_example_neumes_impl_modeTenors)] }
def FnExactModeMovesSaid : Prop := fnExactModeMovesRow.holds Tryd.pinned (OpenSpec.ofChange fnExactModeMovesSpec)

/-- ITS FALSE NEIGHBOUR: 'it returns false'. Refute it at one input. -/
def fnExactModeMovesWrong : ChangeSpec := { name := "fnExactModeMoves", vars := ["loop.example/neumes/impl.modeTenors", "loop.example/neumes/impl.stepHeights"], fn := fun _ => fun
  | [d, g1, g2] => { results := [.lit (.bool false)], args := [d], vars := [g1, g2] }
  | _ => none }
def FnExactModeMovesWrongFalsely : Prop := fnExactModeMovesRow.holds Tryd.pinned (OpenSpec.ofChange fnExactModeMovesWrong)

/-- 'laws.FnExactModePair': WHATEVER THE INPUT: true; the input reads as it did. -/
def fnExactModePairSpec : ChangeSpec := { name := "fnExactModePair", vars := ["loop.example/neumes/impl.modeTenors"], fn := fun _ => fun
  | [d, g1] => { results := [.lit (.bool true)], args := [d], vars := [g1] }
  | _ => none }
def fnExactModePairRow : OpenClaim := { program := "ytmipkodgkldmbaadoor", sum := "32994bda29a49ac327d10d763356b14a8c5cca4203ffddf197fb67282b1faf73", func := "loop.example/neumes/laws.FnExactModePair", spec := "fnExactModePair", named := ["loop.example/neumes/impl.modeTenors"], apart := false, laid := [("loop.example/neumes/impl.modeTenors", laid_loop_example_neumes_impl_modeTenors)] }
def FnExactModePairSaid : Prop := fnExactModePairRow.holds Tryd.pinned (OpenSpec.ofChange fnExactModePairSpec)

/-- ITS FALSE NEIGHBOUR: 'it returns false'. Refute it at one input. -/
def fnExactModePairWrong : ChangeSpec := { name := "fnExactModePair", vars := ["loop.example/neumes/impl.modeTenors"], fn := fun _ => fun
  | [d, g1] => { results := [.lit (.bool false)], args := [d], vars := [g1] }
  | _ => none }
def FnExactModePairWrongFalsely : Prop := fnExactModePairRow.holds Tryd.pinned (OpenSpec.ofChange fnExactModePairWrong)

/- THE SECOND FORM. 'bulk': how many values and letters a reading holds, each counted each time it is reached (what is shared counts as often as it is met; a slice's spare places count too). A statement '..UptoSaid' is the law's where the arguments, and the package variables that the reading takes, are together of bulk at most 1048576: NARROWER than '..Said'. Prove '..Said' where nothing that the law and all that it calls make is longer than what came in: it says more and counts as full. Else prove '..UptoSaid'. A law counts once. -/
mutual
def uptoBulk {H : Type} : DataW H → Nat
  | .lit (.string bytes) => bytes.length + 1
  | .lit _ => 1
  | .nil => 1
  | .ptr d => uptoBulk d + 1
  | .slice elems spare => uptoBulkAll elems + uptoBulkAll spare + 1
  | .agg parts => uptoBulkAll parts + 1
  | .iface _ d => uptoBulk d + 1
  | .map entries => uptoBulkEntries entries + 1
  | .held _ => 1
def uptoBulkAll {H : Type} : List (DataW H) → Nat
  | [] => 0
  | d :: r => uptoBulk d + uptoBulkAll r
def uptoBulkEntries {H : Type} : List (Lit × DataW H) → Nat
  | [] => 0
  | x :: r => uptoBulkEntry x + uptoBulkEntries r
def uptoBulkEntry {H : Type} : Lit × DataW H → Nat
  | (.string bytes, d) => bytes.length + uptoBulk d + 1
  | (_, d) => uptoBulk d + 1
 end
def uptoSmall : (H : Type) → List (DataW H) → Bool := fun _ ds => decide (uptoBulkAll ds ≤ 1048576)
def OpenSpec.upto (s : _root_.Go.ChangeSpec) : _root_.Go.OpenSpec := { _root_.Go.OpenSpec.ofChange s with cond := some uptoSmall }

/-- 'laws.FnMode', WHERE WHAT IT READS IS OF BULK AT MOST 1048576: true; the input reads as it did. -/
def fnModeUptoRow : OpenClaim := { program := "ytmipkodgkldmbaadoor", sum := "32994bda29a49ac327d10d763356b14a8c5cca4203ffddf197fb67282b1faf73", func := "loop.example/neumes/laws.FnMode", spec := "fnMode", named := ["loop.example/neumes/impl.modeTenors"], apart := false, laid := [("loop.example/neumes/impl.modeTenors", laid_loop_example_neumes_impl_modeTenors)], narrowed := true }
def FnModeUptoSaid : Prop := fnModeUptoRow.holds Tryd.pinned (OpenSpec.upto fnModeSpec)

/-- 'laws.FnModeIn', WHERE WHAT IT READS IS OF BULK AT MOST 1048576: true; the input reads as it did. -/
def fnModeInUptoRow : OpenClaim := { program := "ytmipkodgkldmbaadoor", sum := "32994bda29a49ac327d10d763356b14a8c5cca4203ffddf197fb67282b1faf73", func := "loop.example/neumes/laws.FnModeIn", spec := "fnModeIn", named := ["loop.example/neumes/impl.modeTenors"], apart := false, laid := [("loop.example/neumes/impl.modeTenors", laid_loop_example_neumes_impl_modeTenors)], narrowed := true }
def FnModeInUptoSaid : Prop := fnModeInUptoRow.holds Tryd.pinned (OpenSpec.upto fnModeInSpec)

/-- 'laws.FnModeAll', WHERE WHAT IT READS IS OF BULK AT MOST 1048576: true; the input reads as it did. -/
def fnModeAllUptoRow : OpenClaim := { program := "ytmipkodgkldmbaadoor", sum := "32994bda29a49ac327d10d763356b14a8c5cca4203ffddf197fb67282b1faf73", func := "loop.example/neumes/laws.FnModeAll", spec := "fnModeAll", named := ["loop.example/neumes/impl.modeTenors"], apart := false, laid := [("loop.example/neumes/impl.modeTenors", laid_loop_example_neumes_impl_modeTenors)], narrowed := true }
def FnModeAllUptoSaid : Prop := fnModeAllUptoRow.holds Tryd.pinned (OpenSpec.upto fnModeAllSpec)

/-- 'laws.FnModeLikely', WHERE WHAT IT READS IS OF BULK AT MOST 1048576: true; the input reads as it did. -/
def fnModeLikelyUptoRow : OpenClaim := { program := "ytmipkodgkldmbaadoor", sum := "32994bda29a49ac327d10d763356b14a8c5cca4203ffddf197fb67282b1faf73", func := "loop.example/neumes/laws.FnModeLikely", spec := "fnModeLikely", named := ["loop.example/neumes/impl.modeTenors"], apart := false, laid := [("loop.example/neumes/impl.modeTenors", laid_loop_example_neumes_impl_modeTenors)], narrowed := true }
def FnModeLikelyUptoSaid : Prop := fnModeLikelyUptoRow.holds Tryd.pinned (OpenSpec.upto fnModeLikelySpec)

/-- 'laws.FnModeMoves', WHERE WHAT IT READS IS OF BULK AT MOST 1048576: true; the input reads as it did. -/
def fnModeMovesUptoRow : OpenClaim := { program := "ytmipkodgkldmbaadoor", sum := "32994bda29a49ac327d10d763356b14a8c5cca4203ffddf197fb67282b1faf73", func := "loop.example/neumes/laws.FnModeMoves", spec := "fnModeMoves", recurses := true, named := ["loop.example/neumes/impl.modeTenors", "loop.example/neumes/impl.stepHeights"], apart := false, laid := [("loop.example/neumes/impl.stepHeights", laid_loop_example_neumes_impl_stepHeights), ("loop.example/neumes/impl.modeTenors", laid_loop_example_neumes_impl_modeTenors)], narrowed := true }
def FnModeMovesUptoSaid : Prop := fnModeMovesUptoRow.holds Tryd.pinned (OpenSpec.upto fnModeMovesSpec)

/-- 'laws.FnExactModeFinal', WHERE WHAT IT READS IS OF BULK AT MOST 1048576: true; the input reads as it did. -/
def fnExactModeFinalUptoRow : OpenClaim := { program := "ytmipkodgkldmbaadoor", sum := "32994bda29a49ac327d10d763356b14a8c5cca4203ffddf197fb67282b1faf73", func := "loop.example/neumes/laws.FnExactModeFinal", spec := "fnExactModeFinal", named := ["loop.example/neumes/impl.modeTenors"], apart := false, laid := [("loop.example/neumes/impl.modeTenors", laid_loop_example_neumes_impl_modeTenors)], narrowed := true }
def FnExactModeFinalUptoSaid : Prop := fnExactModeFinalUptoRow.holds Tryd.pinned (OpenSpec.upto fnExactModeFinalSpec)

/-- 'laws.FnExactModeTenor', WHERE WHAT IT READS IS OF BULK AT MOST 1048576: true; the input reads as it did. -/
def fnExactModeTenorUptoRow : OpenClaim := { program := "ytmipkodgkldmbaadoor", sum := "32994bda29a49ac327d10d763356b14a8c5cca4203ffddf197fb67282b1faf73", func := "loop.example/neumes/laws.FnExactModeTenor", spec := "fnExactModeTenor", named := ["loop.example/neumes/impl.modeTenors"], apart := false, laid := [("loop.example/neumes/impl.modeTenors", laid_loop_example_neumes_impl_modeTenors)], narrowed := true }
def FnExactModeTenorUptoSaid : Prop := fnExactModeTenorUptoRow.holds Tryd.pinned (OpenSpec.upto fnExactModeTenorSpec)

/-- 'laws.FnExactModeRange', WHERE WHAT IT READS IS OF BULK AT MOST 1048576: true; the input reads as it did. -/
def fnExactModeRangeUptoRow : OpenClaim := { program := "ytmipkodgkldmbaadoor", sum := "32994bda29a49ac327d10d763356b14a8c5cca4203ffddf197fb67282b1faf73", func := "loop.example/neumes/laws.FnExactModeRange", spec := "fnExactModeRange", named := ["loop.example/neumes/impl.modeTenors"], apart := false, laid := [("loop.example/neumes/impl.modeTenors", laid_loop_example_neumes_impl_modeTenors)], narrowed := true }
def FnExactModeRangeUptoSaid : Prop := fnExactModeRangeUptoRow.holds Tryd.pinned (OpenSpec.upto fnExactModeRangeSpec)

/-- 'laws.FnExactModeIn', WHERE WHAT IT READS IS OF BULK AT MOST 1048576: true; the input reads as it did. -/
def fnExactModeInUptoRow : OpenClaim := { program := "ytmipkodgkldmbaadoor", sum := "32994bda29a49ac327d10d763356b14a8c5cca4203ffddf197fb67282b1faf73", func := "loop.example/neumes/laws.FnExactModeIn", spec := "fnExactModeIn", named := ["loop.example/neumes/impl.modeTenors"], apart := false, laid := [("loop.example/neumes/impl.modeTenors", laid_loop_example_neumes_impl_modeTenors)], narrowed := true }
def FnExactModeInUptoSaid : Prop := fnExactModeInUptoRow.holds Tryd.pinned (OpenSpec.upto fnExactModeInSpec)

/-- 'laws.FnExactModeAll', WHERE WHAT IT READS IS OF BULK AT MOST 1048576: true; the input reads as it did. -/
def fnExactModeAllUptoRow : OpenClaim := { program := "ytmipkodgkldmbaadoor", sum := "32994bda29a49ac327d10d763356b14a8c5cca4203ffddf197fb67282b1faf73", func := "loop.example/neumes/laws.FnExactModeAll", spec := "fnExactModeAll", named := ["loop.example/neumes/impl.modeTenors"], apart := false, laid := [("loop.example/neumes/impl.modeTenors", laid_loop_example_neumes_impl_modeTenors)], narrowed := true }
def FnExactModeAllUptoSaid : Prop := fnExactModeAllUptoRow.holds Tryd.pinned (OpenSpec.upto fnExactModeAllSpec)

/-- 'laws.FnExactModeLikely', WHERE WHAT IT READS IS OF BULK AT MOST 1048576: true; the input reads as it did. -/
def fnExactModeLikelyUptoRow : OpenClaim := { program := "ytmipkodgkldmbaadoor", sum := "32994bda29a49ac327d10d763356b14a8c5cca4203ffddf197fb67282b1faf73", func := "loop.example/neumes/laws.FnExactModeLikely", spec := "fnExactModeLikely", named := ["loop.example/neumes/impl.modeTenors"], apart := false, laid := [("loop.example/neumes/impl.modeTenors", laid_loop_example_neumes_impl_modeTenors)], narrowed := true }
def FnExactModeLikelyUptoSaid : Prop := fnExactModeLikelyUptoRow.holds Tryd.pinned (OpenSpec.upto fnExactModeLikelySpec)

/-- 'laws.FnExactModeMoves', WHERE WHAT IT READS IS OF BULK AT MOST 1048576: true; the input reads as it did. -/
def fnExactModeMovesUptoRow : OpenClaim := { program := "ytmipkodgkldmbaadoor", sum := "32994bda29a49ac327d10d763356b14a8c5cca4203ffddf197fb67282b1faf73", func := "loop.example/neumes/laws.FnExactModeMoves", spec := "fnExactModeMoves", recurses := true, named := ["loop.example/neumes/impl.modeTenors", "loop.example/neumes/impl.stepHeights"], apart := false, laid := [("loop.example/neumes/impl.stepHeights", laid_loop_example_neumes_impl_stepHeights), ("loop.example/neumes/impl.modeTenors", laid_loop_example_neumes_impl_modeTenors)], narrowed := true }
def FnExactModeMovesUptoSaid : Prop := fnExactModeMovesUptoRow.holds Tryd.pinned (OpenSpec.upto fnExactModeMovesSpec)

/-- 'laws.FnExactModePair', WHERE WHAT IT READS IS OF BULK AT MOST 1048576: true; the input reads as it did. -/
def fnExactModePairUptoRow : OpenClaim := { program := "ytmipkodgkldmbaadoor", sum := "32994bda29a49ac327d10d763356b14a8c5cca4203ffddf197fb67282b1faf73", func := "loop.example/neumes/laws.FnExactModePair", spec := "fnExactModePair", named := ["loop.example/neumes/impl.modeTenors"], apart := false, laid := [("loop.example/neumes/impl.modeTenors", laid_loop_example_neumes_impl_modeTenors)], narrowed := true }
def FnExactModePairUptoSaid : Prop := fnExactModePairUptoRow.holds Tryd.pinned (OpenSpec.upto fnExactModePairSpec)

end Rows
end Go.Proofs.YtmipkodgkldmbaaDoor
