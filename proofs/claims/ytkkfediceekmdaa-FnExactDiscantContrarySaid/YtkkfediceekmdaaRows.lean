/-
  No cell of these rows narrows 'for every input' (looked for: loops, veiled, ifaces, maps, wideKeys, modest, calm, conditions, laid).
  DERIVED. THE GIVEN ROWS OF THIS SEAT. 12 by the template 'for every input the law returns true; each argument reads behind the call as it read before'; 0 by the template 'total and deterministic' (their statements: YtkkfediceekmdaaTotals.lean).
  GIVEN WITH THE SEED: the statements are not yours to turn. If you find one false, say at which input.
  Laid BY PROGRAM, IN A SANDBOX (cutbox-rows.mjs): the forced cells as the released guide's own fill.sh prints them over the translation c641442c0ed5a68c… (all of the seat's roots in one cut). By AI agents, Wed Nov 11 2026. No macro, syntax, notation, axiom, sorry.
-/
import Derived.Test.YtkkfediceekmdaaChecked
import GoSem.Claim
import GoSem.ClaimJoined
import GoSem.ClaimMapViews
import Derived.JoinedTies
import Derived.KernelRfl
namespace Go.Proofs.Ytkkfediceekmdaa
/- THE CELL 'sum', in the pinned program and in every row, IS THE sha256 OF THE DUMP (.gsa) THAT YtkkfediceekmdaaProg.lean LOADS. Nothing in Lean hashes anything: it is a label: what it is worth is what the hold of that sum in a sandbox is worth. -/
noncomputable def Try.pinned : Pinned := { name := "ytkkfediceekmdaa", sum := "c641442c0ed5a68c563085519cb68ca6cec593f1225942773f04f39add489130", checked := Try.checked }
namespace Rows
def none {H : Type} : Left H := { results := [], args := [] }

/-- 'laws.FnExactRhythmFoot': WHATEVER THE INPUT: true; the input reads as it did. -/
def fnExactRhythmFootSpec : ChangeSpec := { name := "fnExactRhythmFoot", fn := fun _ => fun
  | [d] => { results := [.lit (.bool true)], args := [d] }
  | _ => none }
def fnExactRhythmFootRow : OpenClaim := { program := "ytkkfediceekmdaa", sum := "c641442c0ed5a68c563085519cb68ca6cec593f1225942773f04f39add489130", func := "loop.example/neumes/laws.FnExactRhythmFoot", spec := "fnExactRhythmFoot", apart := false }
def FnExactRhythmFootSaid : Prop := fnExactRhythmFootRow.holds Try.pinned (OpenSpec.ofChange fnExactRhythmFootSpec)

/-- ITS FALSE NEIGHBOUR: 'it returns false'. Refute it at one input. -/
def fnExactRhythmFootWrong : ChangeSpec := { name := "fnExactRhythmFoot", fn := fun _ => fun
  | [d] => { results := [.lit (.bool false)], args := [d] }
  | _ => none }
def FnExactRhythmFootWrongFalsely : Prop := fnExactRhythmFootRow.holds Try.pinned (OpenSpec.ofChange fnExactRhythmFootWrong)

/-- 'laws.FnExactRhythmOrdo': WHATEVER THE INPUT: true; the input reads as it did. -/
def fnExactRhythmOrdoSpec : ChangeSpec := { name := "fnExactRhythmOrdo", fn := fun _ => fun
  | [d1, d2] => { results := [.lit (.bool true)], args := [d1, d2] }
  | _ => none }
def fnExactRhythmOrdoRow : OpenClaim := { program := "ytkkfediceekmdaa", sum := "c641442c0ed5a68c563085519cb68ca6cec593f1225942773f04f39add489130", func := "loop.example/neumes/laws.FnExactRhythmOrdo", spec := "fnExactRhythmOrdo", apart := false }
def FnExactRhythmOrdoSaid : Prop := fnExactRhythmOrdoRow.holds Try.pinned (OpenSpec.ofChange fnExactRhythmOrdoSpec)

/-- ITS FALSE NEIGHBOUR: 'it returns false'. Refute it at one input. -/
def fnExactRhythmOrdoWrong : ChangeSpec := { name := "fnExactRhythmOrdo", fn := fun _ => fun
  | [d1, d2] => { results := [.lit (.bool false)], args := [d1, d2] }
  | _ => none }
def FnExactRhythmOrdoWrongFalsely : Prop := fnExactRhythmOrdoRow.holds Try.pinned (OpenSpec.ofChange fnExactRhythmOrdoWrong)

/-- 'laws.FnExactRhythmBeats': WHATEVER THE INPUT: true; the input reads as it did. -/
def fnExactRhythmBeatsSpec : ChangeSpec := { name := "fnExactRhythmBeats", fn := fun _ => fun
  | [d1, d2] => { results := [.lit (.bool true)], args := [d1, d2] }
  | _ => none }
def fnExactRhythmBeatsRow : OpenClaim := { program := "ytkkfediceekmdaa", sum := "c641442c0ed5a68c563085519cb68ca6cec593f1225942773f04f39add489130", func := "loop.example/neumes/laws.FnExactRhythmBeats", spec := "fnExactRhythmBeats", apart := false }
def FnExactRhythmBeatsSaid : Prop := fnExactRhythmBeatsRow.holds Try.pinned (OpenSpec.ofChange fnExactRhythmBeatsSpec)

/-- ITS FALSE NEIGHBOUR: 'it returns false'. Refute it at one input. -/
def fnExactRhythmBeatsWrong : ChangeSpec := { name := "fnExactRhythmBeats", fn := fun _ => fun
  | [d1, d2] => { results := [.lit (.bool false)], args := [d1, d2] }
  | _ => none }
def FnExactRhythmBeatsWrongFalsely : Prop := fnExactRhythmBeatsRow.holds Try.pinned (OpenSpec.ofChange fnExactRhythmBeatsWrong)

/-- 'laws.FnExactRhythmModes': WHATEVER THE INPUT: true; the input reads as it did. -/
def fnExactRhythmModesSpec : ChangeSpec := { name := "fnExactRhythmModes", fn := fun _ => fun
  | [d] => { results := [.lit (.bool true)], args := [d] }
  | _ => none }
def fnExactRhythmModesRow : OpenClaim := { program := "ytkkfediceekmdaa", sum := "c641442c0ed5a68c563085519cb68ca6cec593f1225942773f04f39add489130", func := "loop.example/neumes/laws.FnExactRhythmModes", spec := "fnExactRhythmModes", apart := false }
def FnExactRhythmModesSaid : Prop := fnExactRhythmModesRow.holds Try.pinned (OpenSpec.ofChange fnExactRhythmModesSpec)

/-- ITS FALSE NEIGHBOUR: 'it returns false'. Refute it at one input. -/
def fnExactRhythmModesWrong : ChangeSpec := { name := "fnExactRhythmModes", fn := fun _ => fun
  | [d] => { results := [.lit (.bool false)], args := [d] }
  | _ => none }
def FnExactRhythmModesWrongFalsely : Prop := fnExactRhythmModesRow.holds Try.pinned (OpenSpec.ofChange fnExactRhythmModesWrong)

/-- 'laws.FnExactPartValid': WHATEVER THE INPUT: true; the input reads as it did. -/
def fnExactPartValidSpec : ChangeSpec := { name := "fnExactPartValid", fn := fun _ => fun
  | [d] => { results := [.lit (.bool true)], args := [d] }
  | _ => none }
def fnExactPartValidRow : OpenClaim := { program := "ytkkfediceekmdaa", sum := "c641442c0ed5a68c563085519cb68ca6cec593f1225942773f04f39add489130", func := "loop.example/neumes/laws.FnExactPartValid", spec := "fnExactPartValid", apart := false }
def FnExactPartValidSaid : Prop := fnExactPartValidRow.holds Try.pinned (OpenSpec.ofChange fnExactPartValidSpec)

/-- ITS FALSE NEIGHBOUR: 'it returns false'. Refute it at one input. -/
def fnExactPartValidWrong : ChangeSpec := { name := "fnExactPartValid", fn := fun _ => fun
  | [d] => { results := [.lit (.bool false)], args := [d] }
  | _ => none }
def FnExactPartValidWrongFalsely : Prop := fnExactPartValidRow.holds Try.pinned (OpenSpec.ofChange fnExactPartValidWrong)

/-- 'laws.FnExactPartMake': WHATEVER THE INPUT: true; the input reads as it did. -/
def fnExactPartMakeSpec : ChangeSpec := { name := "fnExactPartMake", fn := fun _ => fun
  | [d1, d2] => { results := [.lit (.bool true)], args := [d1, d2] }
  | _ => none }
def fnExactPartMakeRow : OpenClaim := { program := "ytkkfediceekmdaa", sum := "c641442c0ed5a68c563085519cb68ca6cec593f1225942773f04f39add489130", func := "loop.example/neumes/laws.FnExactPartMake", spec := "fnExactPartMake", apart := false }
def FnExactPartMakeSaid : Prop := fnExactPartMakeRow.holds Try.pinned (OpenSpec.ofChange fnExactPartMakeSpec)

/-- ITS FALSE NEIGHBOUR: 'it returns false'. Refute it at one input. -/
def fnExactPartMakeWrong : ChangeSpec := { name := "fnExactPartMake", fn := fun _ => fun
  | [d1, d2] => { results := [.lit (.bool false)], args := [d1, d2] }
  | _ => none }
def FnExactPartMakeWrongFalsely : Prop := fnExactPartMakeRow.holds Try.pinned (OpenSpec.ofChange fnExactPartMakeWrong)

/-- 'laws.FnExactPartBeats': WHATEVER THE INPUT: true; the input reads as it did. -/
def fnExactPartBeatsSpec : ChangeSpec := { name := "fnExactPartBeats", fn := fun _ => fun
  | [d] => { results := [.lit (.bool true)], args := [d] }
  | _ => none }
def fnExactPartBeatsRow : OpenClaim := { program := "ytkkfediceekmdaa", sum := "c641442c0ed5a68c563085519cb68ca6cec593f1225942773f04f39add489130", func := "loop.example/neumes/laws.FnExactPartBeats", spec := "fnExactPartBeats", apart := false }
def FnExactPartBeatsSaid : Prop := fnExactPartBeatsRow.holds Try.pinned (OpenSpec.ofChange fnExactPartBeatsSpec)

/-- ITS FALSE NEIGHBOUR: 'it returns false'. Refute it at one input. -/
def fnExactPartBeatsWrong : ChangeSpec := { name := "fnExactPartBeats", fn := fun _ => fun
  | [d] => { results := [.lit (.bool false)], args := [d] }
  | _ => none }
def FnExactPartBeatsWrongFalsely : Prop := fnExactPartBeatsRow.holds Try.pinned (OpenSpec.ofChange fnExactPartBeatsWrong)

/-- 'laws.FnExactPartAt': WHATEVER THE INPUT: true; the input reads as it did. -/
def fnExactPartAtSpec : ChangeSpec := { name := "fnExactPartAt", fn := fun _ => fun
  | [d1, d2] => { results := [.lit (.bool true)], args := [d1, d2] }
  | _ => none }
def fnExactPartAtRow : OpenClaim := { program := "ytkkfediceekmdaa", sum := "c641442c0ed5a68c563085519cb68ca6cec593f1225942773f04f39add489130", func := "loop.example/neumes/laws.FnExactPartAt", spec := "fnExactPartAt", apart := false }
def FnExactPartAtSaid : Prop := fnExactPartAtRow.holds Try.pinned (OpenSpec.ofChange fnExactPartAtSpec)

/-- ITS FALSE NEIGHBOUR: 'it returns false'. Refute it at one input. -/
def fnExactPartAtWrong : ChangeSpec := { name := "fnExactPartAt", fn := fun _ => fun
  | [d1, d2] => { results := [.lit (.bool false)], args := [d1, d2] }
  | _ => none }
def FnExactPartAtWrongFalsely : Prop := fnExactPartAtRow.holds Try.pinned (OpenSpec.ofChange fnExactPartAtWrong)

/-- 'laws.FnExactPartSlow': WHATEVER THE INPUT: true; the input reads as it did. -/
def fnExactPartSlowSpec : ChangeSpec := { name := "fnExactPartSlow", fn := fun _ => fun
  | [d] => { results := [.lit (.bool true)], args := [d] }
  | _ => none }
def fnExactPartSlowRow : OpenClaim := { program := "ytkkfediceekmdaa", sum := "c641442c0ed5a68c563085519cb68ca6cec593f1225942773f04f39add489130", func := "loop.example/neumes/laws.FnExactPartSlow", spec := "fnExactPartSlow", apart := false }
def FnExactPartSlowSaid : Prop := fnExactPartSlowRow.holds Try.pinned (OpenSpec.ofChange fnExactPartSlowSpec)

/-- ITS FALSE NEIGHBOUR: 'it returns false'. Refute it at one input. -/
def fnExactPartSlowWrong : ChangeSpec := { name := "fnExactPartSlow", fn := fun _ => fun
  | [d] => { results := [.lit (.bool false)], args := [d] }
  | _ => none }
def FnExactPartSlowWrongFalsely : Prop := fnExactPartSlowRow.holds Try.pinned (OpenSpec.ofChange fnExactPartSlowWrong)

/-- 'laws.FnExactDiscantTogether': WHATEVER THE INPUT: true; the input reads as it did. -/
def fnExactDiscantTogetherSpec : ChangeSpec := { name := "fnExactDiscantTogether", fn := fun _ => fun
  | [d1, d2] => { results := [.lit (.bool true)], args := [d1, d2] }
  | _ => none }
def fnExactDiscantTogetherRow : OpenClaim := { program := "ytkkfediceekmdaa", sum := "c641442c0ed5a68c563085519cb68ca6cec593f1225942773f04f39add489130", func := "loop.example/neumes/laws.FnExactDiscantTogether", spec := "fnExactDiscantTogether", apart := false }
def FnExactDiscantTogetherSaid : Prop := fnExactDiscantTogetherRow.holds Try.pinned (OpenSpec.ofChange fnExactDiscantTogetherSpec)

/-- ITS FALSE NEIGHBOUR: 'it returns false'. Refute it at one input. -/
def fnExactDiscantTogetherWrong : ChangeSpec := { name := "fnExactDiscantTogether", fn := fun _ => fun
  | [d1, d2] => { results := [.lit (.bool false)], args := [d1, d2] }
  | _ => none }
def FnExactDiscantTogetherWrongFalsely : Prop := fnExactDiscantTogetherRow.holds Try.pinned (OpenSpec.ofChange fnExactDiscantTogetherWrong)

/-- 'laws.FnExactDiscantContrary': WHATEVER THE INPUT: true; the input reads as it did. -/
def fnExactDiscantContrarySpec : ChangeSpec := { name := "fnExactDiscantContrary", fn := fun _ => fun
  | [d1, d2] => { results := [.lit (.bool true)], args := [d1, d2] }
  | _ => none }
def fnExactDiscantContraryRow : OpenClaim := { program := "ytkkfediceekmdaa", sum := "c641442c0ed5a68c563085519cb68ca6cec593f1225942773f04f39add489130", func := "loop.example/neumes/laws.FnExactDiscantContrary", spec := "fnExactDiscantContrary", unfollowed := true, recurses := true, apart := false }
def FnExactDiscantContrarySaid : Prop := fnExactDiscantContraryRow.holds Try.pinned (OpenSpec.ofChange fnExactDiscantContrarySpec)

/-- ITS FALSE NEIGHBOUR: 'it returns false'. Refute it at one input. -/
def fnExactDiscantContraryWrong : ChangeSpec := { name := "fnExactDiscantContrary", fn := fun _ => fun
  | [d1, d2] => { results := [.lit (.bool false)], args := [d1, d2] }
  | _ => none }
def FnExactDiscantContraryWrongFalsely : Prop := fnExactDiscantContraryRow.holds Try.pinned (OpenSpec.ofChange fnExactDiscantContraryWrong)

/-- 'laws.FnExactDiscantCross': WHATEVER THE INPUT: true; the input reads as it did. -/
def fnExactDiscantCrossSpec : ChangeSpec := { name := "fnExactDiscantCross", fn := fun _ => fun
  | [d1, d2] => { results := [.lit (.bool true)], args := [d1, d2] }
  | _ => none }
def fnExactDiscantCrossRow : OpenClaim := { program := "ytkkfediceekmdaa", sum := "c641442c0ed5a68c563085519cb68ca6cec593f1225942773f04f39add489130", func := "loop.example/neumes/laws.FnExactDiscantCross", spec := "fnExactDiscantCross", apart := false }
def FnExactDiscantCrossSaid : Prop := fnExactDiscantCrossRow.holds Try.pinned (OpenSpec.ofChange fnExactDiscantCrossSpec)

/-- ITS FALSE NEIGHBOUR: 'it returns false'. Refute it at one input. -/
def fnExactDiscantCrossWrong : ChangeSpec := { name := "fnExactDiscantCross", fn := fun _ => fun
  | [d1, d2] => { results := [.lit (.bool false)], args := [d1, d2] }
  | _ => none }
def FnExactDiscantCrossWrongFalsely : Prop := fnExactDiscantCrossRow.holds Try.pinned (OpenSpec.ofChange fnExactDiscantCrossWrong)

/- THE SECOND FORM. 'bulk': how many values and letters a reading holds, each counted each time it is reached (what is shared counts as often as it is met; a slice's spare places count too). A statement '..UptoSaid' is the law's where the arguments, and the package variables that the reading takes, are together of bulk at most 1048576: NARROWER than '..Said'. Prove '..Said' where nothing that the law and all that it calls make is longer than what came in: it says more and counts as full. Else prove '..UptoSaid'. A law counts once. -/
mutual
def uptoBulk {H : Type} : DataW H → Nat
  | .lit (.string bytes) => bytes.length + 1
  | .lit _ => 1
  | .nil => 1
  | .ptr d => uptoBulk d + 1
  | .slice elems spare => uptoBulkAll elems + uptoBulkAll spare + 1
  | .agg parts => uptoBulkAll parts + 1
  | .iface _ d => uptoBulk d + 1
  | .map entries => uptoBulkEntries entries + 1
  | .held _ => 1
def uptoBulkAll {H : Type} : List (DataW H) → Nat
  | [] => 0
  | d :: r => uptoBulk d + uptoBulkAll r
def uptoBulkEntries {H : Type} : List (Lit × DataW H) → Nat
  | [] => 0
  | x :: r => uptoBulkEntry x + uptoBulkEntries r
def uptoBulkEntry {H : Type} : Lit × DataW H → Nat
  | (.string bytes, d) => bytes.length + uptoBulk d + 1
  | (_, d) => uptoBulk d + 1
 end
def uptoSmall : (H : Type) → List (DataW H) → Bool := fun _ ds => decide (uptoBulkAll ds ≤ 1048576)
def OpenSpec.upto (s : _root_.Go.ChangeSpec) : _root_.Go.OpenSpec := { _root_.Go.OpenSpec.ofChange s with cond := some uptoSmall }

/-- 'laws.FnExactRhythmFoot', WHERE WHAT IT READS IS OF BULK AT MOST 1048576: true; the input reads as it did. -/
def fnExactRhythmFootUptoRow : OpenClaim := { program := "ytkkfediceekmdaa", sum := "c641442c0ed5a68c563085519cb68ca6cec593f1225942773f04f39add489130", func := "loop.example/neumes/laws.FnExactRhythmFoot", spec := "fnExactRhythmFoot", apart := false, narrowed := true }
def FnExactRhythmFootUptoSaid : Prop := fnExactRhythmFootUptoRow.holds Try.pinned (OpenSpec.upto fnExactRhythmFootSpec)

/-- 'laws.FnExactRhythmOrdo', WHERE WHAT IT READS IS OF BULK AT MOST 1048576: true; the input reads as it did. -/
def fnExactRhythmOrdoUptoRow : OpenClaim := { program := "ytkkfediceekmdaa", sum := "c641442c0ed5a68c563085519cb68ca6cec593f1225942773f04f39add489130", func := "loop.example/neumes/laws.FnExactRhythmOrdo", spec := "fnExactRhythmOrdo", apart := false, narrowed := true }
def FnExactRhythmOrdoUptoSaid : Prop := fnExactRhythmOrdoUptoRow.holds Try.pinned (OpenSpec.upto fnExactRhythmOrdoSpec)

/-- 'laws.FnExactRhythmBeats', WHERE WHAT IT READS IS OF BULK AT MOST 1048576: true; the input reads as it did. -/
def fnExactRhythmBeatsUptoRow : OpenClaim := { program := "ytkkfediceekmdaa", sum := "c641442c0ed5a68c563085519cb68ca6cec593f1225942773f04f39add489130", func := "loop.example/neumes/laws.FnExactRhythmBeats", spec := "fnExactRhythmBeats", apart := false, narrowed := true }
def FnExactRhythmBeatsUptoSaid : Prop := fnExactRhythmBeatsUptoRow.holds Try.pinned (OpenSpec.upto fnExactRhythmBeatsSpec)

/-- 'laws.FnExactRhythmModes', WHERE WHAT IT READS IS OF BULK AT MOST 1048576: true; the input reads as it did. -/
def fnExactRhythmModesUptoRow : OpenClaim := { program := "ytkkfediceekmdaa", sum := "c641442c0ed5a68c563085519cb68ca6cec593f1225942773f04f39add489130", func := "loop.example/neumes/laws.FnExactRhythmModes", spec := "fnExactRhythmModes", apart := false, narrowed := true }
def FnExactRhythmModesUptoSaid : Prop := fnExactRhythmModesUptoRow.holds Try.pinned (OpenSpec.upto fnExactRhythmModesSpec)

/-- 'laws.FnExactPartValid', WHERE WHAT IT READS IS OF BULK AT MOST 1048576: true; the input reads as it did. -/
def fnExactPartValidUptoRow : OpenClaim := { program := "ytkkfediceekmdaa", sum := "c641442c0ed5a68c563085519cb68ca6cec593f1225942773f04f39add489130", func := "loop.example/neumes/laws.FnExactPartValid", spec := "fnExactPartValid", apart := false, narrowed := true }
def FnExactPartValidUptoSaid : Prop := fnExactPartValidUptoRow.holds Try.pinned (OpenSpec.upto fnExactPartValidSpec)

/-- 'laws.FnExactPartMake', WHERE WHAT IT READS IS OF BULK AT MOST 1048576: true; the input reads as it did. -/
def fnExactPartMakeUptoRow : OpenClaim := { program := "ytkkfediceekmdaa", sum := "c641442c0ed5a68c563085519cb68ca6cec593f1225942773f04f39add489130", func := "loop.example/neumes/laws.FnExactPartMake", spec := "fnExactPartMake", apart := false, narrowed := true }
def FnExactPartMakeUptoSaid : Prop := fnExactPartMakeUptoRow.holds Try.pinned (OpenSpec.upto fnExactPartMakeSpec)

/-- 'laws.FnExactPartBeats', WHERE WHAT IT READS IS OF BULK AT MOST 1048576: true; the input reads as it did. -/
def fnExactPartBeatsUptoRow : OpenClaim := { program := "ytkkfediceekmdaa", sum := "c641442c0ed5a68c563085519cb68ca6cec593f1225942773f04f39add489130", func := "loop.example/neumes/laws.FnExactPartBeats", spec := "fnExactPartBeats", apart := false, narrowed := true }
def FnExactPartBeatsUptoSaid : Prop := fnExactPartBeatsUptoRow.holds Try.pinned (OpenSpec.upto fnExactPartBeatsSpec)

/-- 'laws.FnExactPartAt', WHERE WHAT IT READS IS OF BULK AT MOST 1048576: true; the input reads as it did. -/
def fnExactPartAtUptoRow : OpenClaim := { program := "ytkkfediceekmdaa", sum := "c641442c0ed5a68c563085519cb68ca6cec593f1225942773f04f39add489130", func := "loop.example/neumes/laws.FnExactPartAt", spec := "fnExactPartAt", apart := false, narrowed := true }
def FnExactPartAtUptoSaid : Prop := fnExactPartAtUptoRow.holds Try.pinned (OpenSpec.upto fnExactPartAtSpec)

/-- 'laws.FnExactPartSlow', WHERE WHAT IT READS IS OF BULK AT MOST 1048576: true; the input reads as it did. -/
def fnExactPartSlowUptoRow : OpenClaim := { program := "ytkkfediceekmdaa", sum := "c641442c0ed5a68c563085519cb68ca6cec593f1225942773f04f39add489130", func := "loop.example/neumes/laws.FnExactPartSlow", spec := "fnExactPartSlow", apart := false, narrowed := true }
def FnExactPartSlowUptoSaid : Prop := fnExactPartSlowUptoRow.holds Try.pinned (OpenSpec.upto fnExactPartSlowSpec)

/-- 'laws.FnExactDiscantTogether', WHERE WHAT IT READS IS OF BULK AT MOST 1048576: true; the input reads as it did. -/
def fnExactDiscantTogetherUptoRow : OpenClaim := { program := "ytkkfediceekmdaa", sum := "c641442c0ed5a68c563085519cb68ca6cec593f1225942773f04f39add489130", func := "loop.example/neumes/laws.FnExactDiscantTogether", spec := "fnExactDiscantTogether", apart := false, narrowed := true }
def FnExactDiscantTogetherUptoSaid : Prop := fnExactDiscantTogetherUptoRow.holds Try.pinned (OpenSpec.upto fnExactDiscantTogetherSpec)

/-- 'laws.FnExactDiscantContrary', WHERE WHAT IT READS IS OF BULK AT MOST 1048576: true; the input reads as it did. -/
def fnExactDiscantContraryUptoRow : OpenClaim := { program := "ytkkfediceekmdaa", sum := "c641442c0ed5a68c563085519cb68ca6cec593f1225942773f04f39add489130", func := "loop.example/neumes/laws.FnExactDiscantContrary", spec := "fnExactDiscantContrary", unfollowed := true, recurses := true, apart := false, narrowed := true }
def FnExactDiscantContraryUptoSaid : Prop := fnExactDiscantContraryUptoRow.holds Try.pinned (OpenSpec.upto fnExactDiscantContrarySpec)

/-- 'laws.FnExactDiscantCross', WHERE WHAT IT READS IS OF BULK AT MOST 1048576: true; the input reads as it did. -/
def fnExactDiscantCrossUptoRow : OpenClaim := { program := "ytkkfediceekmdaa", sum := "c641442c0ed5a68c563085519cb68ca6cec593f1225942773f04f39add489130", func := "loop.example/neumes/laws.FnExactDiscantCross", spec := "fnExactDiscantCross", apart := false, narrowed := true }
def FnExactDiscantCrossUptoSaid : Prop := fnExactDiscantCrossUptoRow.holds Try.pinned (OpenSpec.upto fnExactDiscantCrossSpec)

end Rows
end Go.Proofs.Ytkkfediceekmdaa
