/-
  No cell of these rows narrows 'for every input' (looked for: loops, veiled, ifaces, maps, wideKeys, modest, calm, conditions, laid).
  DERIVED. THE GIVEN ROWS OF THIS SEAT. 12 by the template 'for every input the law returns true; each argument reads behind the call as it read before'; 0 by the template 'total and deterministic' (their statements: YtjpkmcappefolaaTotals.lean).
  GIVEN WITH THE SEED: the statements are not yours to turn. If you find one false, say at which input.
  Laid BY PROGRAM, IN A SANDBOX (cutbox-rows.mjs): the forced cells as the released guide's own fill.sh prints them over the translation a28ee6847e763b3b… (all of the seat's roots in one cut). By AI agents, Wed Nov 11 2026. No macro, syntax, notation, axiom, sorry.
-/
import Derived.Test.YtjpkmcappefolaaChecked
import GoSem.Claim
import GoSem.ClaimJoined
import GoSem.ClaimMapViews
import Derived.JoinedTies
import Derived.KernelRfl
namespace Go.Proofs.Ytjpkmcappefolaa
/- THE CELL 'sum', in the pinned program and in every row, IS THE sha256 OF THE DUMP (.gsa) THAT YtjpkmcappefolaaProg.lean LOADS. Nothing in Lean hashes anything: it is a label: what it is worth is what the hold of that sum in a sandbox is worth. -/
noncomputable def Try.pinned : Pinned := { name := "ytjpkmcappefolaa", sum := "a28ee6847e763b3b87111faa971b8fc6aaf892180657dd3c63e8cb5e345a4d95", checked := Try.checked }
namespace Rows
def none {H : Type} : Left H := { results := [], args := [] }

/-- 'laws.FnToneAbove': WHATEVER THE INPUT: true; the input reads as it did. -/
def fnToneAboveSpec : ChangeSpec := { name := "fnToneAbove", fn := fun _ => fun
  | [d] => { results := [.lit (.bool true)], args := [d] }
  | _ => none }
def fnToneAboveRow : OpenClaim := { program := "ytjpkmcappefolaa", sum := "a28ee6847e763b3b87111faa971b8fc6aaf892180657dd3c63e8cb5e345a4d95", func := "loop.example/neumes/laws.FnToneAbove", spec := "fnToneAbove", apart := false }
def FnToneAboveSaid : Prop := fnToneAboveRow.holds Try.pinned (OpenSpec.ofChange fnToneAboveSpec)

/-- ITS FALSE NEIGHBOUR: 'it returns false'. Refute it at one input. -/
def fnToneAboveWrong : ChangeSpec := { name := "fnToneAbove", fn := fun _ => fun
  | [d] => { results := [.lit (.bool false)], args := [d] }
  | _ => none }
def FnToneAboveWrongFalsely : Prop := fnToneAboveRow.holds Try.pinned (OpenSpec.ofChange fnToneAboveWrong)

/-- 'laws.FnHexKind': WHATEVER THE INPUT: true; the input reads as it did. -/
def fnHexKindSpec : ChangeSpec := { name := "fnHexKind", fn := fun _ => fun
  | [d] => { results := [.lit (.bool true)], args := [d] }
  | _ => none }
def fnHexKindRow : OpenClaim := { program := "ytjpkmcappefolaa", sum := "a28ee6847e763b3b87111faa971b8fc6aaf892180657dd3c63e8cb5e345a4d95", func := "loop.example/neumes/laws.FnHexKind", spec := "fnHexKind", apart := false }
def FnHexKindSaid : Prop := fnHexKindRow.holds Try.pinned (OpenSpec.ofChange fnHexKindSpec)

/-- ITS FALSE NEIGHBOUR: 'it returns false'. Refute it at one input. -/
def fnHexKindWrong : ChangeSpec := { name := "fnHexKind", fn := fun _ => fun
  | [d] => { results := [.lit (.bool false)], args := [d] }
  | _ => none }
def FnHexKindWrongFalsely : Prop := fnHexKindRow.holds Try.pinned (OpenSpec.ofChange fnHexKindWrong)

/-- 'laws.FnExactToneValid': WHATEVER THE INPUT: true; the input reads as it did. -/
def fnExactToneValidSpec : ChangeSpec := { name := "fnExactToneValid", fn := fun _ => fun
  | [d] => { results := [.lit (.bool true)], args := [d] }
  | _ => none }
def fnExactToneValidRow : OpenClaim := { program := "ytjpkmcappefolaa", sum := "a28ee6847e763b3b87111faa971b8fc6aaf892180657dd3c63e8cb5e345a4d95", func := "loop.example/neumes/laws.FnExactToneValid", spec := "fnExactToneValid", apart := false }
def FnExactToneValidSaid : Prop := fnExactToneValidRow.holds Try.pinned (OpenSpec.ofChange fnExactToneValidSpec)

/-- ITS FALSE NEIGHBOUR: 'it returns false'. Refute it at one input. -/
def fnExactToneValidWrong : ChangeSpec := { name := "fnExactToneValid", fn := fun _ => fun
  | [d] => { results := [.lit (.bool false)], args := [d] }
  | _ => none }
def FnExactToneValidWrongFalsely : Prop := fnExactToneValidRow.holds Try.pinned (OpenSpec.ofChange fnExactToneValidWrong)

/-- 'laws.FnExactToneLetter': WHATEVER THE INPUT: true; the input reads as it did. -/
def fnExactToneLetterSpec : ChangeSpec := { name := "fnExactToneLetter", fn := fun _ => fun
  | [d] => { results := [.lit (.bool true)], args := [d] }
  | _ => none }
def fnExactToneLetterRow : OpenClaim := { program := "ytjpkmcappefolaa", sum := "a28ee6847e763b3b87111faa971b8fc6aaf892180657dd3c63e8cb5e345a4d95", func := "loop.example/neumes/laws.FnExactToneLetter", spec := "fnExactToneLetter", apart := false }
def FnExactToneLetterSaid : Prop := fnExactToneLetterRow.holds Try.pinned (OpenSpec.ofChange fnExactToneLetterSpec)

/-- ITS FALSE NEIGHBOUR: 'it returns false'. Refute it at one input. -/
def fnExactToneLetterWrong : ChangeSpec := { name := "fnExactToneLetter", fn := fun _ => fun
  | [d] => { results := [.lit (.bool false)], args := [d] }
  | _ => none }
def FnExactToneLetterWrongFalsely : Prop := fnExactToneLetterRow.holds Try.pinned (OpenSpec.ofChange fnExactToneLetterWrong)

/-- 'laws.FnExactToneFrom': WHATEVER THE INPUT: true; the input reads as it did. -/
def fnExactToneFromSpec : ChangeSpec := { name := "fnExactToneFrom", fn := fun _ => fun
  | [d] => { results := [.lit (.bool true)], args := [d] }
  | _ => none }
def fnExactToneFromRow : OpenClaim := { program := "ytjpkmcappefolaa", sum := "a28ee6847e763b3b87111faa971b8fc6aaf892180657dd3c63e8cb5e345a4d95", func := "loop.example/neumes/laws.FnExactToneFrom", spec := "fnExactToneFrom", inPlace := ["internal/bytealg.IndexByteString"], recurses := true, apart := false }
def FnExactToneFromSaid : Prop := fnExactToneFromRow.holds Try.pinned (OpenSpec.ofChange fnExactToneFromSpec)

/-- ITS FALSE NEIGHBOUR: 'it returns false'. Refute it at one input. -/
def fnExactToneFromWrong : ChangeSpec := { name := "fnExactToneFrom", fn := fun _ => fun
  | [d] => { results := [.lit (.bool false)], args := [d] }
  | _ => none }
def FnExactToneFromWrongFalsely : Prop := fnExactToneFromRow.holds Try.pinned (OpenSpec.ofChange fnExactToneFromWrong)

/-- 'laws.FnExactToneAbove': WHATEVER THE INPUT: true; the input reads as it did. -/
def fnExactToneAboveSpec : ChangeSpec := { name := "fnExactToneAbove", fn := fun _ => fun
  | [d1, d2, d3] => { results := [.lit (.bool true)], args := [d1, d2, d3] }
  | _ => none }
def fnExactToneAboveRow : OpenClaim := { program := "ytjpkmcappefolaa", sum := "a28ee6847e763b3b87111faa971b8fc6aaf892180657dd3c63e8cb5e345a4d95", func := "loop.example/neumes/laws.FnExactToneAbove", spec := "fnExactToneAbove", apart := false }
def FnExactToneAboveSaid : Prop := fnExactToneAboveRow.holds Try.pinned (OpenSpec.ofChange fnExactToneAboveSpec)

/-- ITS FALSE NEIGHBOUR: 'it returns false'. Refute it at one input. -/
def fnExactToneAboveWrong : ChangeSpec := { name := "fnExactToneAbove", fn := fun _ => fun
  | [d1, d2, d3] => { results := [.lit (.bool false)], args := [d1, d2, d3] }
  | _ => none }
def FnExactToneAboveWrongFalsely : Prop := fnExactToneAboveRow.holds Try.pinned (OpenSpec.ofChange fnExactToneAboveWrong)

/-- 'laws.FnExactToneSteps': WHATEVER THE INPUT: true; the input reads as it did. -/
def fnExactToneStepsSpec : ChangeSpec := { name := "fnExactToneSteps", fn := fun _ => fun
  | [d1, d2] => { results := [.lit (.bool true)], args := [d1, d2] }
  | _ => none }
def fnExactToneStepsRow : OpenClaim := { program := "ytjpkmcappefolaa", sum := "a28ee6847e763b3b87111faa971b8fc6aaf892180657dd3c63e8cb5e345a4d95", func := "loop.example/neumes/laws.FnExactToneSteps", spec := "fnExactToneSteps", apart := false }
def FnExactToneStepsSaid : Prop := fnExactToneStepsRow.holds Try.pinned (OpenSpec.ofChange fnExactToneStepsSpec)

/-- ITS FALSE NEIGHBOUR: 'it returns false'. Refute it at one input. -/
def fnExactToneStepsWrong : ChangeSpec := { name := "fnExactToneSteps", fn := fun _ => fun
  | [d1, d2] => { results := [.lit (.bool false)], args := [d1, d2] }
  | _ => none }
def FnExactToneStepsWrongFalsely : Prop := fnExactToneStepsRow.holds Try.pinned (OpenSpec.ofChange fnExactToneStepsWrong)

/-- 'laws.FnExactHexValid': WHATEVER THE INPUT: true; the input reads as it did. -/
def fnExactHexValidSpec : ChangeSpec := { name := "fnExactHexValid", fn := fun _ => fun
  | [d] => { results := [.lit (.bool true)], args := [d] }
  | _ => none }
def fnExactHexValidRow : OpenClaim := { program := "ytjpkmcappefolaa", sum := "a28ee6847e763b3b87111faa971b8fc6aaf892180657dd3c63e8cb5e345a4d95", func := "loop.example/neumes/laws.FnExactHexValid", spec := "fnExactHexValid", apart := false }
def FnExactHexValidSaid : Prop := fnExactHexValidRow.holds Try.pinned (OpenSpec.ofChange fnExactHexValidSpec)

/-- ITS FALSE NEIGHBOUR: 'it returns false'. Refute it at one input. -/
def fnExactHexValidWrong : ChangeSpec := { name := "fnExactHexValid", fn := fun _ => fun
  | [d] => { results := [.lit (.bool false)], args := [d] }
  | _ => none }
def FnExactHexValidWrongFalsely : Prop := fnExactHexValidRow.holds Try.pinned (OpenSpec.ofChange fnExactHexValidWrong)

/-- 'laws.FnExactHexTone': WHATEVER THE INPUT: true; the input reads as it did. -/
def fnExactHexToneSpec : ChangeSpec := { name := "fnExactHexTone", fn := fun _ => fun
  | [d1, d2] => { results := [.lit (.bool true)], args := [d1, d2] }
  | _ => none }
def fnExactHexToneRow : OpenClaim := { program := "ytjpkmcappefolaa", sum := "a28ee6847e763b3b87111faa971b8fc6aaf892180657dd3c63e8cb5e345a4d95", func := "loop.example/neumes/laws.FnExactHexTone", spec := "fnExactHexTone", apart := false }
def FnExactHexToneSaid : Prop := fnExactHexToneRow.holds Try.pinned (OpenSpec.ofChange fnExactHexToneSpec)

/-- ITS FALSE NEIGHBOUR: 'it returns false'. Refute it at one input. -/
def fnExactHexToneWrong : ChangeSpec := { name := "fnExactHexTone", fn := fun _ => fun
  | [d1, d2] => { results := [.lit (.bool false)], args := [d1, d2] }
  | _ => none }
def FnExactHexToneWrongFalsely : Prop := fnExactHexToneRow.holds Try.pinned (OpenSpec.ofChange fnExactHexToneWrong)

/-- 'laws.FnExactHexSyllable': WHATEVER THE INPUT: true; the input reads as it did. -/
def fnExactHexSyllableSpec : ChangeSpec := { name := "fnExactHexSyllable", fn := fun _ => fun
  | [d1, d2] => { results := [.lit (.bool true)], args := [d1, d2] }
  | _ => none }
def fnExactHexSyllableRow : OpenClaim := { program := "ytjpkmcappefolaa", sum := "a28ee6847e763b3b87111faa971b8fc6aaf892180657dd3c63e8cb5e345a4d95", func := "loop.example/neumes/laws.FnExactHexSyllable", spec := "fnExactHexSyllable", apart := false }
def FnExactHexSyllableSaid : Prop := fnExactHexSyllableRow.holds Try.pinned (OpenSpec.ofChange fnExactHexSyllableSpec)

/-- ITS FALSE NEIGHBOUR: 'it returns false'. Refute it at one input. -/
def fnExactHexSyllableWrong : ChangeSpec := { name := "fnExactHexSyllable", fn := fun _ => fun
  | [d1, d2] => { results := [.lit (.bool false)], args := [d1, d2] }
  | _ => none }
def FnExactHexSyllableWrongFalsely : Prop := fnExactHexSyllableRow.holds Try.pinned (OpenSpec.ofChange fnExactHexSyllableWrong)

/-- 'laws.FnExactHexAll': WHATEVER THE INPUT: true; the input reads as it did. -/
def fnExactHexAllSpec : ChangeSpec := { name := "fnExactHexAll", fn := fun _ => fun
  | [d] => { results := [.lit (.bool true)], args := [d] }
  | _ => none }
def fnExactHexAllRow : OpenClaim := { program := "ytjpkmcappefolaa", sum := "a28ee6847e763b3b87111faa971b8fc6aaf892180657dd3c63e8cb5e345a4d95", func := "loop.example/neumes/laws.FnExactHexAll", spec := "fnExactHexAll", apart := false }
def FnExactHexAllSaid : Prop := fnExactHexAllRow.holds Try.pinned (OpenSpec.ofChange fnExactHexAllSpec)

/-- ITS FALSE NEIGHBOUR: 'it returns false'. Refute it at one input. -/
def fnExactHexAllWrong : ChangeSpec := { name := "fnExactHexAll", fn := fun _ => fun
  | [d] => { results := [.lit (.bool false)], args := [d] }
  | _ => none }
def FnExactHexAllWrongFalsely : Prop := fnExactHexAllRow.holds Try.pinned (OpenSpec.ofChange fnExactHexAllWrong)

/-- 'laws.FnExactHexKind': WHATEVER THE INPUT: true; the input reads as it did. -/
def fnExactHexKindSpec : ChangeSpec := { name := "fnExactHexKind", fn := fun _ => fun
  | [d] => { results := [.lit (.bool true)], args := [d] }
  | _ => none }
def fnExactHexKindRow : OpenClaim := { program := "ytjpkmcappefolaa", sum := "a28ee6847e763b3b87111faa971b8fc6aaf892180657dd3c63e8cb5e345a4d95", func := "loop.example/neumes/laws.FnExactHexKind", spec := "fnExactHexKind", apart := false }
def FnExactHexKindSaid : Prop := fnExactHexKindRow.holds Try.pinned (OpenSpec.ofChange fnExactHexKindSpec)

/-- ITS FALSE NEIGHBOUR: 'it returns false'. Refute it at one input. -/
def fnExactHexKindWrong : ChangeSpec := { name := "fnExactHexKind", fn := fun _ => fun
  | [d] => { results := [.lit (.bool false)], args := [d] }
  | _ => none }
def FnExactHexKindWrongFalsely : Prop := fnExactHexKindRow.holds Try.pinned (OpenSpec.ofChange fnExactHexKindWrong)

/- THE SECOND FORM. 'bulk': how many values and letters a reading holds, each counted each time it is reached (what is shared counts as often as it is met; a slice's spare places count too). A statement '..UptoSaid' is the law's where the arguments, and the package variables that the reading takes, are together of bulk at most 1048576: NARROWER than '..Said'. Prove '..Said' where nothing that the law and all that it calls make is longer than what came in: it says more and counts as full. Else prove '..UptoSaid'. A law counts once. -/
mutual
def uptoBulk {H : Type} : DataW H → Nat
  | .lit (.string bytes) => bytes.length + 1
  | .lit _ => 1
  | .nil => 1
  | .ptr d => uptoBulk d + 1
  | .slice elems spare => uptoBulkAll elems + uptoBulkAll spare + 1
  | .agg parts => uptoBulkAll parts + 1
  | .iface _ d => uptoBulk d + 1
  | .map entries => uptoBulkEntries entries + 1
  | .held _ => 1
def uptoBulkAll {H : Type} : List (DataW H) → Nat
  | [] => 0
  | d :: r => uptoBulk d + uptoBulkAll r
def uptoBulkEntries {H : Type} : List (Lit × DataW H) → Nat
  | [] => 0
  | x :: r => uptoBulkEntry x + uptoBulkEntries r
def uptoBulkEntry {H : Type} : Lit × DataW H → Nat
  | (.string bytes, d) => bytes.length + uptoBulk d + 1
  | (_, d) => uptoBulk d + 1
 end
def uptoSmall : (H : Type) → List (DataW H) → Bool := fun _ ds => decide (uptoBulkAll ds ≤ 1048576)
def OpenSpec.upto (s : _root_.Go.ChangeSpec) : _root_.Go.OpenSpec := { _root_.Go.OpenSpec.ofChange s with cond := some uptoSmall }

/-- 'laws.FnToneAbove', WHERE WHAT IT READS IS OF BULK AT MOST 1048576: true; the input reads as it did. -/
def fnToneAboveUptoRow : OpenClaim := { program := "ytjpkmcappefolaa", sum := "a28ee6847e763b3b87111faa971b8fc6aaf892180657dd3c63e8cb5e345a4d95", func := "loop.example/neumes/laws.FnToneAbove", spec := "fnToneAbove", apart := false, narrowed := true }
def FnToneAboveUptoSaid : Prop := fnToneAboveUptoRow.holds Try.pinned (OpenSpec.upto fnToneAboveSpec)

/-- 'laws.FnHexKind', WHERE WHAT IT READS IS OF BULK AT MOST 1048576: true; the input reads as it did. -/
def fnHexKindUptoRow : OpenClaim := { program := "ytjpkmcappefolaa", sum := "a28ee6847e763b3b87111faa971b8fc6aaf892180657dd3c63e8cb5e345a4d95", func := "loop.example/neumes/laws.FnHexKind", spec := "fnHexKind", apart := false, narrowed := true }
def FnHexKindUptoSaid : Prop := fnHexKindUptoRow.holds Try.pinned (OpenSpec.upto fnHexKindSpec)

/-- 'laws.FnExactToneValid', WHERE WHAT IT READS IS OF BULK AT MOST 1048576: true; the input reads as it did. -/
def fnExactToneValidUptoRow : OpenClaim := { program := "ytjpkmcappefolaa", sum := "a28ee6847e763b3b87111faa971b8fc6aaf892180657dd3c63e8cb5e345a4d95", func := "loop.example/neumes/laws.FnExactToneValid", spec := "fnExactToneValid", apart := false, narrowed := true }
def FnExactToneValidUptoSaid : Prop := fnExactToneValidUptoRow.holds Try.pinned (OpenSpec.upto fnExactToneValidSpec)

/-- 'laws.FnExactToneLetter', WHERE WHAT IT READS IS OF BULK AT MOST 1048576: true; the input reads as it did. -/
def fnExactToneLetterUptoRow : OpenClaim := { program := "ytjpkmcappefolaa", sum := "a28ee6847e763b3b87111faa971b8fc6aaf892180657dd3c63e8cb5e345a4d95", func := "loop.example/neumes/laws.FnExactToneLetter", spec := "fnExactToneLetter", apart := false, narrowed := true }
def FnExactToneLetterUptoSaid : Prop := fnExactToneLetterUptoRow.holds Try.pinned (OpenSpec.upto fnExactToneLetterSpec)

/-- 'laws.FnExactToneFrom', WHERE WHAT IT READS IS OF BULK AT MOST 1048576: true; the input reads as it did. -/
def fnExactToneFromUptoRow : OpenClaim := { program := "ytjpkmcappefolaa", sum := "a28ee6847e763b3b87111faa971b8fc6aaf892180657dd3c63e8cb5e345a4d95", func := "loop.example/neumes/laws.FnExactToneFrom", spec := "fnExactToneFrom", inPlace := ["internal/bytealg.IndexByteString"], recurses := true, apart := false, narrowed := true }
def FnExactToneFromUptoSaid : Prop := fnExactToneFromUptoRow.holds Try.pinned (OpenSpec.upto fnExactToneFromSpec)

/-- 'laws.FnExactToneAbove', WHERE WHAT IT READS IS OF BULK AT MOST 1048576: true; the input reads as it did. -/
def fnExactToneAboveUptoRow : OpenClaim := { program := "ytjpkmcappefolaa", sum := "a28ee6847e763b3b87111faa971b8fc6aaf892180657dd3c63e8cb5e345a4d95", func := "loop.example/neumes/laws.FnExactToneAbove", spec := "fnExactToneAbove", apart := false, narrowed := true }
def FnExactToneAboveUptoSaid : Prop := fnExactToneAboveUptoRow.holds Try.pinned (OpenSpec.upto fnExactToneAboveSpec)

/-- 'laws.FnExactToneSteps', WHERE WHAT IT READS IS OF BULK AT MOST 1048576: true; the input reads as it did. -/
def fnExactToneStepsUptoRow : OpenClaim := { program := "ytjpkmcappefolaa", sum := "a28ee6847e763b3b87111faa971b8fc6aaf892180657dd3c63e8cb5e345a4d95", func := "loop.example/neumes/laws.FnExactToneSteps", spec := "fnExactToneSteps", apart := false, narrowed := true }
def FnExactToneStepsUptoSaid : Prop := fnExactToneStepsUptoRow.holds Try.pinned (OpenSpec.upto fnExactToneStepsSpec)

/-- 'laws.FnExactHexValid', WHERE WHAT IT READS IS OF BULK AT MOST 1048576: true; the input reads as it did. -/
def fnExactHexValidUptoRow : OpenClaim := { program := "ytjpkmcappefolaa", sum := "a28ee6847e763b3b87111faa971b8fc6aaf892180657dd3c63e8cb5e345a4d95", func := "loop.example/neumes/laws.FnExactHexValid", spec := "fnExactHexValid", apart := false, narrowed := true }
def FnExactHexValidUptoSaid : Prop := fnExactHexValidUptoRow.holds Try.pinned (OpenSpec.upto fnExactHexValidSpec)

/-- 'laws.FnExactHexTone', WHERE WHAT IT READS IS OF BULK AT MOST 1048576: true; the input reads as it did. -/
def fnExactHexToneUptoRow : OpenClaim := { program := "ytjpkmcappefolaa", sum := "a28ee6847e763b3b87111faa971b8fc6aaf892180657dd3c63e8cb5e345a4d95", func := "loop.example/neumes/laws.FnExactHexTone", spec := "fnExactHexTone", apart := false, narrowed := true }
def FnExactHexToneUptoSaid : Prop := fnExactHexToneUptoRow.holds Try.pinned (OpenSpec.upto fnExactHexToneSpec)

/-- 'laws.FnExactHexSyllable', WHERE WHAT IT READS IS OF BULK AT MOST 1048576: true; the input reads as it did. -/
def fnExactHexSyllableUptoRow : OpenClaim := { program := "ytjpkmcappefolaa", sum := "a28ee6847e763b3b87111faa971b8fc6aaf892180657dd3c63e8cb5e345a4d95", func := "loop.example/neumes/laws.FnExactHexSyllable", spec := "fnExactHexSyllable", apart := false, narrowed := true }
def FnExactHexSyllableUptoSaid : Prop := fnExactHexSyllableUptoRow.holds Try.pinned (OpenSpec.upto fnExactHexSyllableSpec)

/-- 'laws.FnExactHexAll', WHERE WHAT IT READS IS OF BULK AT MOST 1048576: true; the input reads as it did. -/
def fnExactHexAllUptoRow : OpenClaim := { program := "ytjpkmcappefolaa", sum := "a28ee6847e763b3b87111faa971b8fc6aaf892180657dd3c63e8cb5e345a4d95", func := "loop.example/neumes/laws.FnExactHexAll", spec := "fnExactHexAll", apart := false, narrowed := true }
def FnExactHexAllUptoSaid : Prop := fnExactHexAllUptoRow.holds Try.pinned (OpenSpec.upto fnExactHexAllSpec)

/-- 'laws.FnExactHexKind', WHERE WHAT IT READS IS OF BULK AT MOST 1048576: true; the input reads as it did. -/
def fnExactHexKindUptoRow : OpenClaim := { program := "ytjpkmcappefolaa", sum := "a28ee6847e763b3b87111faa971b8fc6aaf892180657dd3c63e8cb5e345a4d95", func := "loop.example/neumes/laws.FnExactHexKind", spec := "fnExactHexKind", apart := false, narrowed := true }
def FnExactHexKindUptoSaid : Prop := fnExactHexKindUptoRow.holds Try.pinned (OpenSpec.upto fnExactHexKindSpec)

end Rows
end Go.Proofs.Ytjpkmcappefolaa
