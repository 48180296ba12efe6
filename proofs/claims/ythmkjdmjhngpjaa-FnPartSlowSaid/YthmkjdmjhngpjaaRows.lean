/-
  No cell of these rows narrows 'for every input' (looked for: loops, veiled, ifaces, maps, wideKeys, modest, calm, conditions, laid).
  DERIVED. THE GIVEN ROWS OF THIS SEAT. 7 by the template 'for every input the law returns true; each argument reads behind the call as it read before'; 0 by the template 'total and deterministic' (their statements: YthmkjdmjhngpjaaTotals.lean).
  GIVEN WITH THE SEED: the statements are not yours to turn. If you find one false, say at which input.
  Laid BY PROGRAM, IN A SANDBOX (cutbox-rows.mjs): the forced cells as the released guide's own fill.sh prints them over the translation b8c3b5ef39c1073b… (all of the seat's roots in one cut). By AI agents, Wed Nov 11 2026. No macro, syntax, notation, axiom, sorry.
-/
import Derived.Test.YthmkjdmjhngpjaaChecked
import GoSem.Claim
import GoSem.ClaimJoined
import GoSem.ClaimMapViews
import Derived.JoinedTies
import Derived.KernelRfl
namespace Go.Proofs.Ythmkjdmjhngpjaa
/- THE CELL 'sum', in the pinned program and in every row, IS THE sha256 OF THE DUMP (.gsa) THAT YthmkjdmjhngpjaaProg.lean LOADS. Nothing in Lean hashes anything: it is a label: what it is worth is what the hold of that sum in a sandbox is worth. -/
noncomputable def Try.pinned : Pinned := { name := "ythmkjdmjhngpjaa", sum := "b8c3b5ef39c1073b2cacf71c744c540f8f28d4af25e78626759063ca3b7a322b", checked := Try.checked }
namespace Rows
def none {H : Type} : Left H := { results := [], args := [] }

/-- 'laws.FnOrdo': WHATEVER THE INPUT: true; the input reads as it did. -/
def fnOrdoSpec : ChangeSpec := { name := "fnOrdo", fn := fun _ => fun
  | [d] => { results := [.lit (.bool true)], args := [d] }
  | _ => none }
def fnOrdoRow : OpenClaim := { program := "ythmkjdmjhngpjaa", sum := "b8c3b5ef39c1073b2cacf71c744c540f8f28d4af25e78626759063ca3b7a322b", func := "loop.example/neumes/laws.FnOrdo", spec := "fnOrdo", apart := false }
def FnOrdoSaid : Prop := fnOrdoRow.holds Try.pinned (OpenSpec.ofChange fnOrdoSpec)

/-- ITS FALSE NEIGHBOUR: 'it returns false'. Refute it at one input. -/
def fnOrdoWrong : ChangeSpec := { name := "fnOrdo", fn := fun _ => fun
  | [d] => { results := [.lit (.bool false)], args := [d] }
  | _ => none }
def FnOrdoWrongFalsely : Prop := fnOrdoRow.holds Try.pinned (OpenSpec.ofChange fnOrdoWrong)

/-- 'laws.FnRhythmModes': WHATEVER THE INPUT: true; the input reads as it did. -/
def fnRhythmModesSpec : ChangeSpec := { name := "fnRhythmModes", fn := fun _ => fun
  | [d] => { results := [.lit (.bool true)], args := [d] }
  | _ => none }
def fnRhythmModesRow : OpenClaim := { program := "ythmkjdmjhngpjaa", sum := "b8c3b5ef39c1073b2cacf71c744c540f8f28d4af25e78626759063ca3b7a322b", func := "loop.example/neumes/laws.FnRhythmModes", spec := "fnRhythmModes", apart := false }
def FnRhythmModesSaid : Prop := fnRhythmModesRow.holds Try.pinned (OpenSpec.ofChange fnRhythmModesSpec)

/-- ITS FALSE NEIGHBOUR: 'it returns false'. Refute it at one input. -/
def fnRhythmModesWrong : ChangeSpec := { name := "fnRhythmModes", fn := fun _ => fun
  | [d] => { results := [.lit (.bool false)], args := [d] }
  | _ => none }
def FnRhythmModesWrongFalsely : Prop := fnRhythmModesRow.holds Try.pinned (OpenSpec.ofChange fnRhythmModesWrong)

/-- 'laws.FnPart': WHATEVER THE INPUT: true; the input reads as it did. -/
def fnPartSpec : ChangeSpec := { name := "fnPart", fn := fun _ => fun
  | [d] => { results := [.lit (.bool true)], args := [d] }
  | _ => none }
def fnPartRow : OpenClaim := { program := "ythmkjdmjhngpjaa", sum := "b8c3b5ef39c1073b2cacf71c744c540f8f28d4af25e78626759063ca3b7a322b", func := "loop.example/neumes/laws.FnPart", spec := "fnPart", apart := false }
def FnPartSaid : Prop := fnPartRow.holds Try.pinned (OpenSpec.ofChange fnPartSpec)

/-- ITS FALSE NEIGHBOUR: 'it returns false'. Refute it at one input. -/
def fnPartWrong : ChangeSpec := { name := "fnPart", fn := fun _ => fun
  | [d] => { results := [.lit (.bool false)], args := [d] }
  | _ => none }
def FnPartWrongFalsely : Prop := fnPartRow.holds Try.pinned (OpenSpec.ofChange fnPartWrong)

/-- 'laws.FnPartOrdo': WHATEVER THE INPUT: true; the input reads as it did. -/
def fnPartOrdoSpec : ChangeSpec := { name := "fnPartOrdo", fn := fun _ => fun
  | [d1, d2] => { results := [.lit (.bool true)], args := [d1, d2] }
  | _ => none }
def fnPartOrdoRow : OpenClaim := { program := "ythmkjdmjhngpjaa", sum := "b8c3b5ef39c1073b2cacf71c744c540f8f28d4af25e78626759063ca3b7a322b", func := "loop.example/neumes/laws.FnPartOrdo", spec := "fnPartOrdo", apart := false }
def FnPartOrdoSaid : Prop := fnPartOrdoRow.holds Try.pinned (OpenSpec.ofChange fnPartOrdoSpec)

/-- ITS FALSE NEIGHBOUR: 'it returns false'. Refute it at one input. -/
def fnPartOrdoWrong : ChangeSpec := { name := "fnPartOrdo", fn := fun _ => fun
  | [d1, d2] => { results := [.lit (.bool false)], args := [d1, d2] }
  | _ => none }
def FnPartOrdoWrongFalsely : Prop := fnPartOrdoRow.holds Try.pinned (OpenSpec.ofChange fnPartOrdoWrong)

/-- 'laws.FnPartAt': WHATEVER THE INPUT: true; the input reads as it did. -/
def fnPartAtSpec : ChangeSpec := { name := "fnPartAt", fn := fun _ => fun
  | [d] => { results := [.lit (.bool true)], args := [d] }
  | _ => none }
def fnPartAtRow : OpenClaim := { program := "ythmkjdmjhngpjaa", sum := "b8c3b5ef39c1073b2cacf71c744c540f8f28d4af25e78626759063ca3b7a322b", func := "loop.example/neumes/laws.FnPartAt", spec := "fnPartAt", apart := false }
def FnPartAtSaid : Prop := fnPartAtRow.holds Try.pinned (OpenSpec.ofChange fnPartAtSpec)

/-- ITS FALSE NEIGHBOUR: 'it returns false'. Refute it at one input. -/
def fnPartAtWrong : ChangeSpec := { name := "fnPartAt", fn := fun _ => fun
  | [d] => { results := [.lit (.bool false)], args := [d] }
  | _ => none }
def FnPartAtWrongFalsely : Prop := fnPartAtRow.holds Try.pinned (OpenSpec.ofChange fnPartAtWrong)

/-- 'laws.FnPartSlow': WHATEVER THE INPUT: true; the input reads as it did. -/
def fnPartSlowSpec : ChangeSpec := { name := "fnPartSlow", fn := fun _ => fun
  | [d] => { results := [.lit (.bool true)], args := [d] }
  | _ => none }
def fnPartSlowRow : OpenClaim := { program := "ythmkjdmjhngpjaa", sum := "b8c3b5ef39c1073b2cacf71c744c540f8f28d4af25e78626759063ca3b7a322b", func := "loop.example/neumes/laws.FnPartSlow", spec := "fnPartSlow", apart := false }
def FnPartSlowSaid : Prop := fnPartSlowRow.holds Try.pinned (OpenSpec.ofChange fnPartSlowSpec)

/-- ITS FALSE NEIGHBOUR: 'it returns false'. Refute it at one input. -/
def fnPartSlowWrong : ChangeSpec := { name := "fnPartSlow", fn := fun _ => fun
  | [d] => { results := [.lit (.bool false)], args := [d] }
  | _ => none }
def FnPartSlowWrongFalsely : Prop := fnPartSlowRow.holds Try.pinned (OpenSpec.ofChange fnPartSlowWrong)

/-- 'laws.FnContrary': WHATEVER THE INPUT: true; the input reads as it did. -/
def fnContrarySpec : ChangeSpec := { name := "fnContrary", fn := fun _ => fun
  | [d] => { results := [.lit (.bool true)], args := [d] }
  | _ => none }
def fnContraryRow : OpenClaim := { program := "ythmkjdmjhngpjaa", sum := "b8c3b5ef39c1073b2cacf71c744c540f8f28d4af25e78626759063ca3b7a322b", func := "loop.example/neumes/laws.FnContrary", spec := "fnContrary", unfollowed := true, recurses := true, apart := false }
def FnContrarySaid : Prop := fnContraryRow.holds Try.pinned (OpenSpec.ofChange fnContrarySpec)

/-- ITS FALSE NEIGHBOUR: 'it returns false'. Refute it at one input. -/
def fnContraryWrong : ChangeSpec := { name := "fnContrary", fn := fun _ => fun
  | [d] => { results := [.lit (.bool false)], args := [d] }
  | _ => none }
def FnContraryWrongFalsely : Prop := fnContraryRow.holds Try.pinned (OpenSpec.ofChange fnContraryWrong)

/- THE SECOND FORM. 'bulk': how many values and letters a reading holds, each counted each time it is reached (what is shared counts as often as it is met; a slice's spare places count too). A statement '..UptoSaid' is the law's where the arguments, and the package variables that the reading takes, are together of bulk at most 1048576: NARROWER than '..Said'. Prove '..Said' where nothing that the law and all that it calls make is longer than what came in: it says more and counts as full. Else prove '..UptoSaid'. A law counts once. -/
mutual
def uptoBulk {H : Type} : DataW H → Nat
  | .lit (.string bytes) => bytes.length + 1
  | .lit _ => 1
  | .nil => 1
  | .ptr d => uptoBulk d + 1
  | .slice elems spare => uptoBulkAll elems + uptoBulkAll spare + 1
  | .agg parts => uptoBulkAll parts + 1
  | .iface _ d => uptoBulk d + 1
  | .map entries => uptoBulkEntries entries + 1
  | .held _ => 1
def uptoBulkAll {H : Type} : List (DataW H) → Nat
  | [] => 0
  | d :: r => uptoBulk d + uptoBulkAll r
def uptoBulkEntries {H : Type} : List (Lit × DataW H) → Nat
  | [] => 0
  | x :: r => uptoBulkEntry x + uptoBulkEntries r
def uptoBulkEntry {H : Type} : Lit × DataW H → Nat
  | (.string bytes, d) => bytes.length + uptoBulk d + 1
  | (_, d) => uptoBulk d + 1
 end
def uptoSmall : (H : Type) → List (DataW H) → Bool := fun _ ds => decide (uptoBulkAll ds ≤ 1048576)
def OpenSpec.upto (s : _root_.Go.ChangeSpec) : _root_.Go.OpenSpec := { _root_.Go.OpenSpec.ofChange s with cond := some uptoSmall }

/-- 'laws.FnOrdo', WHERE WHAT IT READS IS OF BULK AT MOST 1048576: true; the input reads as it did. -/
def fnOrdoUptoRow : OpenClaim := { program := "ythmkjdmjhngpjaa", sum := "b8c3b5ef39c1073b2cacf71c744c540f8f28d4af25e78626759063ca3b7a322b", func := "loop.example/neumes/laws.FnOrdo", spec := "fnOrdo", apart := false, narrowed := true }
def FnOrdoUptoSaid : Prop := fnOrdoUptoRow.holds Try.pinned (OpenSpec.upto fnOrdoSpec)

/-- 'laws.FnRhythmModes', WHERE WHAT IT READS IS OF BULK AT MOST 1048576: true; the input reads as it did. -/
def fnRhythmModesUptoRow : OpenClaim := { program := "ythmkjdmjhngpjaa", sum := "b8c3b5ef39c1073b2cacf71c744c540f8f28d4af25e78626759063ca3b7a322b", func := "loop.example/neumes/laws.FnRhythmModes", spec := "fnRhythmModes", apart := false, narrowed := true }
def FnRhythmModesUptoSaid : Prop := fnRhythmModesUptoRow.holds Try.pinned (OpenSpec.upto fnRhythmModesSpec)

/-- 'laws.FnPart', WHERE WHAT IT READS IS OF BULK AT MOST 1048576: true; the input reads as it did. -/
def fnPartUptoRow : OpenClaim := { program := "ythmkjdmjhngpjaa", sum := "b8c3b5ef39c1073b2cacf71c744c540f8f28d4af25e78626759063ca3b7a322b", func := "loop.example/neumes/laws.FnPart", spec := "fnPart", apart := false, narrowed := true }
def FnPartUptoSaid : Prop := fnPartUptoRow.holds Try.pinned (OpenSpec.upto fnPartSpec)

/-- 'laws.FnPartOrdo', WHERE WHAT IT READS IS OF BULK AT MOST 1048576: true; the input reads as it did. -/
def fnPartOrdoUptoRow : OpenClaim := { program := "ythmkjdmjhngpjaa", sum := "b8c3b5ef39c1073b2cacf71c744c540f8f28d4af25e78626759063ca3b7a322b", func := "loop.example/neumes/laws.FnPartOrdo", spec := "fnPartOrdo", apart := false, narrowed := true }
def FnPartOrdoUptoSaid : Prop := fnPartOrdoUptoRow.holds Try.pinned (OpenSpec.upto fnPartOrdoSpec)

/-- 'laws.FnPartAt', WHERE WHAT IT READS IS OF BULK AT MOST 1048576: true; the input reads as it did. -/
def fnPartAtUptoRow : OpenClaim := { program := "ythmkjdmjhngpjaa", sum := "b8c3b5ef39c1073b2cacf71c744c540f8f28d4af25e78626759063ca3b7a322b", func := "loop.example/neumes/laws.FnPartAt", spec := "fnPartAt", apart := false, narrowed := true }
def FnPartAtUptoSaid : Prop := fnPartAtUptoRow.holds Try.pinned (OpenSpec.upto fnPartAtSpec)

/-- 'laws.FnPartSlow', WHERE WHAT IT READS IS OF BULK AT MOST 1048576: true; the input reads as it did. -/
def fnPartSlowUptoRow : OpenClaim := { program := "ythmkjdmjhngpjaa", sum := "b8c3b5ef39c1073b2cacf71c744c540f8f28d4af25e78626759063ca3b7a322b", func := "loop.example/neumes/laws.FnPartSlow", spec := "fnPartSlow", apart := false, narrowed := true }
def FnPartSlowUptoSaid : Prop := fnPartSlowUptoRow.holds Try.pinned (OpenSpec.upto fnPartSlowSpec)

/-- 'laws.FnContrary', WHERE WHAT IT READS IS OF BULK AT MOST 1048576: true; the input reads as it did. -/
def fnContraryUptoRow : OpenClaim := { program := "ythmkjdmjhngpjaa", sum := "b8c3b5ef39c1073b2cacf71c744c540f8f28d4af25e78626759063ca3b7a322b", func := "loop.example/neumes/laws.FnContrary", spec := "fnContrary", unfollowed := true, recurses := true, apart := false, narrowed := true }
def FnContraryUptoSaid : Prop := fnContraryUptoRow.holds Try.pinned (OpenSpec.upto fnContrarySpec)

end Rows
end Go.Proofs.Ythmkjdmjhngpjaa
