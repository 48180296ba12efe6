/-
  No cell of these rows narrows 'for every input' (looked for: loops, veiled, ifaces, maps, wideKeys, modest, calm, conditions, laid).
  DERIVED. THE GIVEN ROWS OF THIS SEAT. 6 by the template 'for every input the law returns true; each argument reads behind the call as it read before'; 0 by the template 'total and deterministic' (their statements: YtjhigjbfnemdjaaTotals.lean).
  GIVEN WITH THE SEED: the statements are not yours to turn. If you find one false, say at which input.
  Laid BY PROGRAM, IN A SANDBOX (cutbox-rows.mjs): the forced cells as the released guide's own fill.sh prints them over the translation 5e4d3420edee0795… (all of the seat's roots in one cut). By AI agents, Wed Nov 11 2026. No macro, syntax, notation, axiom, sorry.
-/
import Derived.Test.YtjhigjbfnemdjaaChecked
import GoSem.Claim
import GoSem.ClaimJoined
import GoSem.ClaimMapViews
import Derived.JoinedTies
import Derived.KernelRfl
namespace Go.Proofs.Ytjhigjbfnemdjaa
/- THE CELL 'sum', in the pinned program and in every row, IS THE sha256 OF THE DUMP (.gsa) THAT YtjhigjbfnemdjaaProg.lean LOADS. Nothing in Lean hashes anything: it is a label: what it is worth is what the hold of that sum in a sandbox is worth. -/
noncomputable def Try.pinned : Pinned := { name := "ytjhigjbfnemdjaa", sum := "5e4d3420edee0795ed79a980189eb9c1676ead95298f49a38486f695bf4fa119", checked := Try.checked }
namespace Rows
def none {H : Type} : Left H := { results := [], args := [] }

/-- 'laws.FnExactFormulasFirst': WHATEVER THE INPUT: true; the input reads as it did. -/
def fnExactFormulasFirstSpec : ChangeSpec := { name := "fnExactFormulasFirst", fn := fun _ => fun
  | [d1, d2] => { results := [.lit (.bool true)], args := [d1, d2] }
  | _ => none }
def fnExactFormulasFirstRow : OpenClaim := { program := "ytjhigjbfnemdjaa", sum := "5e4d3420edee0795ed79a980189eb9c1676ead95298f49a38486f695bf4fa119", func := "loop.example/neumes/laws.FnExactFormulasFirst", spec := "fnExactFormulasFirst", unfollowed := true, recurses := true, plainKeys := false, apart := false }
def FnExactFormulasFirstSaid : Prop := fnExactFormulasFirstRow.holds Try.pinned (OpenSpec.ofChange fnExactFormulasFirstSpec)

/-- ITS FALSE NEIGHBOUR: 'it returns false'. Refute it at one input. -/
def fnExactFormulasFirstWrong : ChangeSpec := { name := "fnExactFormulasFirst", fn := fun _ => fun
  | [d1, d2] => { results := [.lit (.bool false)], args := [d1, d2] }
  | _ => none }
def FnExactFormulasFirstWrongFalsely : Prop := fnExactFormulasFirstRow.holds Try.pinned (OpenSpec.ofChange fnExactFormulasFirstWrong)

/-- 'laws.FnExactFormulasUsed': WHATEVER THE INPUT: true; the input reads as it did. -/
def fnExactFormulasUsedSpec : ChangeSpec := { name := "fnExactFormulasUsed", fn := fun _ => fun
  | [d1, d2] => { results := [.lit (.bool true)], args := [d1, d2] }
  | _ => none }
def fnExactFormulasUsedRow : OpenClaim := { program := "ytjhigjbfnemdjaa", sum := "5e4d3420edee0795ed79a980189eb9c1676ead95298f49a38486f695bf4fa119", func := "loop.example/neumes/laws.FnExactFormulasUsed", spec := "fnExactFormulasUsed", unfollowed := true, recurses := true, plainKeys := false, apart := false }
def FnExactFormulasUsedSaid : Prop := fnExactFormulasUsedRow.holds Try.pinned (OpenSpec.ofChange fnExactFormulasUsedSpec)

/-- ITS FALSE NEIGHBOUR: 'it returns false'. Refute it at one input. -/
def fnExactFormulasUsedWrong : ChangeSpec := { name := "fnExactFormulasUsed", fn := fun _ => fun
  | [d1, d2] => { results := [.lit (.bool false)], args := [d1, d2] }
  | _ => none }
def FnExactFormulasUsedWrongFalsely : Prop := fnExactFormulasUsedRow.holds Try.pinned (OpenSpec.ofChange fnExactFormulasUsedWrong)

/-- 'laws.FnExactFormulasClear': WHATEVER THE INPUT: true; the input reads as it did. -/
def fnExactFormulasClearSpec : ChangeSpec := { name := "fnExactFormulasClear", fn := fun _ => fun
  | [d1, d2] => { results := [.lit (.bool true)], args := [d1, d2] }
  | _ => none }
def fnExactFormulasClearRow : OpenClaim := { program := "ytjhigjbfnemdjaa", sum := "5e4d3420edee0795ed79a980189eb9c1676ead95298f49a38486f695bf4fa119", func := "loop.example/neumes/laws.FnExactFormulasClear", spec := "fnExactFormulasClear", unfollowed := true, recurses := true, plainKeys := false, apart := false }
def FnExactFormulasClearSaid : Prop := fnExactFormulasClearRow.holds Try.pinned (OpenSpec.ofChange fnExactFormulasClearSpec)

/-- ITS FALSE NEIGHBOUR: 'it returns false'. Refute it at one input. -/
def fnExactFormulasClearWrong : ChangeSpec := { name := "fnExactFormulasClear", fn := fun _ => fun
  | [d1, d2] => { results := [.lit (.bool false)], args := [d1, d2] }
  | _ => none }
def FnExactFormulasClearWrongFalsely : Prop := fnExactFormulasClearRow.holds Try.pinned (OpenSpec.ofChange fnExactFormulasClearWrong)

/-- 'laws.FnExactFormulasMelody': WHATEVER THE INPUT: true; the input reads as it did. -/
def fnExactFormulasMelodySpec : ChangeSpec := { name := "fnExactFormulasMelody", fn := fun _ => fun
  | [d1, d2, d3] => { results := [.lit (.bool true)], args := [d1, d2, d3] }
  | _ => none }
def fnExactFormulasMelodyRow : OpenClaim := { program := "ytjhigjbfnemdjaa", sum := "5e4d3420edee0795ed79a980189eb9c1676ead95298f49a38486f695bf4fa119", func := "loop.example/neumes/laws.FnExactFormulasMelody", spec := "fnExactFormulasMelody", unfollowed := true, recurses := true, plainKeys := false, apart := false }
def FnExactFormulasMelodySaid : Prop := fnExactFormulasMelodyRow.holds Try.pinned (OpenSpec.ofChange fnExactFormulasMelodySpec)

/-- ITS FALSE NEIGHBOUR: 'it returns false'. Refute it at one input. -/
def fnExactFormulasMelodyWrong : ChangeSpec := { name := "fnExactFormulasMelody", fn := fun _ => fun
  | [d1, d2, d3] => { results := [.lit (.bool false)], args := [d1, d2, d3] }
  | _ => none }
def FnExactFormulasMelodyWrongFalsely : Prop := fnExactFormulasMelodyRow.holds Try.pinned (OpenSpec.ofChange fnExactFormulasMelodyWrong)

/-- 'laws.FnExactFormulasRead': WHATEVER THE INPUT: true; the input reads as it did. -/
def fnExactFormulasReadSpec : ChangeSpec := { name := "fnExactFormulasRead", fn := fun _ => fun
  | [d1, d2] => { results := [.lit (.bool true)], args := [d1, d2] }
  | _ => none }
def fnExactFormulasReadRow : OpenClaim := { program := "ytjhigjbfnemdjaa", sum := "5e4d3420edee0795ed79a980189eb9c1676ead95298f49a38486f695bf4fa119", func := "loop.example/neumes/laws.FnExactFormulasRead", spec := "fnExactFormulasRead", unfollowed := true, recurses := true, plainKeys := false, apart := false }
def FnExactFormulasReadSaid : Prop := fnExactFormulasReadRow.holds Try.pinned (OpenSpec.ofChange fnExactFormulasReadSpec)

/-- ITS FALSE NEIGHBOUR: 'it returns false'. Refute it at one input. -/
def fnExactFormulasReadWrong : ChangeSpec := { name := "fnExactFormulasRead", fn := fun _ => fun
  | [d1, d2] => { results := [.lit (.bool false)], args := [d1, d2] }
  | _ => none }
def FnExactFormulasReadWrongFalsely : Prop := fnExactFormulasReadRow.holds Try.pinned (OpenSpec.ofChange fnExactFormulasReadWrong)

/-- 'laws.FnExactFormulasWithout': WHATEVER THE INPUT: true; the input reads as it did. -/
def fnExactFormulasWithoutSpec : ChangeSpec := { name := "fnExactFormulasWithout", fn := fun _ => fun
  | [d1, d2] => { results := [.lit (.bool true)], args := [d1, d2] }
  | _ => none }
def fnExactFormulasWithoutRow : OpenClaim := { program := "ytjhigjbfnemdjaa", sum := "5e4d3420edee0795ed79a980189eb9c1676ead95298f49a38486f695bf4fa119", func := "loop.example/neumes/laws.FnExactFormulasWithout", spec := "fnExactFormulasWithout", unfollowed := true, recurses := true, plainKeys := false, apart := false }
def FnExactFormulasWithoutSaid : Prop := fnExactFormulasWithoutRow.holds Try.pinned (OpenSpec.ofChange fnExactFormulasWithoutSpec)

/-- ITS FALSE NEIGHBOUR: 'it returns false'. Refute it at one input. -/
def fnExactFormulasWithoutWrong : ChangeSpec := { name := "fnExactFormulasWithout", fn := fun _ => fun
  | [d1, d2] => { results := [.lit (.bool false)], args := [d1, d2] }
  | _ => none }
def FnExactFormulasWithoutWrongFalsely : Prop := fnExactFormulasWithoutRow.holds Try.pinned (OpenSpec.ofChange fnExactFormulasWithoutWrong)

/- THE SECOND FORM. 'bulk': how many values and letters a reading holds, each counted each time it is reached (what is shared counts as often as it is met; a slice's spare places count too). A statement '..UptoSaid' is the law's where the arguments, and the package variables that the reading takes, are together of bulk at most 1048576: NARROWER than '..Said'. Prove '..Said' where nothing that the law and all that it calls make is longer than what came in: it says more and counts as full. Else prove '..UptoSaid'. A law counts once. -/
mutual
def uptoBulk {H : Type} : DataW H → Nat
  | .lit (.string bytes) => bytes.length + 1
  | .lit _ => 1
  | .nil => 1
  | .ptr d => uptoBulk d + 1
  | .slice elems spare => uptoBulkAll elems + uptoBulkAll spare + 1
  | .agg parts => uptoBulkAll parts + 1
  | .iface _ d => uptoBulk d + 1
  | .map entries => uptoBulkEntries entries + 1
  | .held _ => 1
def uptoBulkAll {H : Type} : List (DataW H) → Nat
  | [] => 0
  | d :: r => uptoBulk d + uptoBulkAll r
def uptoBulkEntries {H : Type} : List (Lit × DataW H) → Nat
  | [] => 0
  | x :: r => uptoBulkEntry x + uptoBulkEntries r
def uptoBulkEntry {H : Type} : Lit × DataW H → Nat
  | (.string bytes, d) => bytes.length + uptoBulk d + 1
  | (_, d) => uptoBulk d + 1
 end
def uptoSmall : (H : Type) → List (DataW H) → Bool := fun _ ds => decide (uptoBulkAll ds ≤ 1048576)
def OpenSpec.upto (s : _root_.Go.ChangeSpec) : _root_.Go.OpenSpec := { _root_.Go.OpenSpec.ofChange s with cond := some uptoSmall }

/-- 'laws.FnExactFormulasFirst', WHERE WHAT IT READS IS OF BULK AT MOST 1048576: true; the input reads as it did. -/
def fnExactFormulasFirstUptoRow : OpenClaim := { program := "ytjhigjbfnemdjaa", sum := "5e4d3420edee0795ed79a980189eb9c1676ead95298f49a38486f695bf4fa119", func := "loop.example/neumes/laws.FnExactFormulasFirst", spec := "fnExactFormulasFirst", unfollowed := true, recurses := true, plainKeys := false, apart := false, narrowed := true }
def FnExactFormulasFirstUptoSaid : Prop := fnExactFormulasFirstUptoRow.holds Try.pinned (OpenSpec.upto fnExactFormulasFirstSpec)

/-- 'laws.FnExactFormulasUsed', WHERE WHAT IT READS IS OF BULK AT MOST 1048576: true; the input reads as it did. -/
def fnExactFormulasUsedUptoRow : OpenClaim := { program := "ytjhigjbfnemdjaa", sum := "5e4d3420edee0795ed79a980189eb9c1676ead95298f49a38486f695bf4fa119", func := "loop.example/neumes/laws.FnExactFormulasUsed", spec := "fnExactFormulasUsed", unfollowed := true, recurses := true, plainKeys := false, apart := false, narrowed := true }
def FnExactFormulasUsedUptoSaid : Prop := fnExactFormulasUsedUptoRow.holds Try.pinned (OpenSpec.upto fnExactFormulasUsedSpec)

/-- 'laws.FnExactFormulasClear', WHERE WHAT IT READS IS OF BULK AT MOST 1048576: true; the input reads as it did. -/
def fnExactFormulasClearUptoRow : OpenClaim := { program := "ytjhigjbfnemdjaa", sum := "5e4d3420edee0795ed79a980189eb9c1676ead95298f49a38486f695bf4fa119", func := "loop.example/neumes/laws.FnExactFormulasClear", spec := "fnExactFormulasClear", unfollowed := true, recurses := true, plainKeys := false, apart := false, narrowed := true }
def FnExactFormulasClearUptoSaid : Prop := fnExactFormulasClearUptoRow.holds Try.pinned (OpenSpec.upto fnExactFormulasClearSpec)

/-- 'laws.FnExactFormulasMelody', WHERE WHAT IT READS IS OF BULK AT MOST 1048576: true; the input reads as it did. -/
def fnExactFormulasMelodyUptoRow : OpenClaim := { program := "ytjhigjbfnemdjaa", sum := "5e4d3420edee0795ed79a980189eb9c1676ead95298f49a38486f695bf4fa119", func := "loop.example/neumes/laws.FnExactFormulasMelody", spec := "fnExactFormulasMelody", unfollowed := true, recurses := true, plainKeys := false, apart := false, narrowed := true }
def FnExactFormulasMelodyUptoSaid : Prop := fnExactFormulasMelodyUptoRow.holds Try.pinned (OpenSpec.upto fnExactFormulasMelodySpec)

/-- 'laws.FnExactFormulasRead', WHERE WHAT IT READS IS OF BULK AT MOST 1048576: true; the input reads as it did. -/
def fnExactFormulasReadUptoRow : OpenClaim := { program := "ytjhigjbfnemdjaa", sum := "5e4d3420edee0795ed79a980189eb9c1676ead95298f49a38486f695bf4fa119", func := "loop.example/neumes/laws.FnExactFormulasRead", spec := "fnExactFormulasRead", unfollowed := true, recurses := true, plainKeys := false, apart := false, narrowed := true }
def FnExactFormulasReadUptoSaid : Prop := fnExactFormulasReadUptoRow.holds Try.pinned (OpenSpec.upto fnExactFormulasReadSpec)

/-- 'laws.FnExactFormulasWithout', WHERE WHAT IT READS IS OF BULK AT MOST 1048576: true; the input reads as it did. -/
def fnExactFormulasWithoutUptoRow : OpenClaim := { program := "ytjhigjbfnemdjaa", sum := "5e4d3420edee0795ed79a980189eb9c1676ead95298f49a38486f695bf4fa119", func := "loop.example/neumes/laws.FnExactFormulasWithout", spec := "fnExactFormulasWithout", unfollowed := true, recurses := true, plainKeys := false, apart := false, narrowed := true }
def FnExactFormulasWithoutUptoSaid : Prop := fnExactFormulasWithoutUptoRow.holds Try.pinned (OpenSpec.upto fnExactFormulasWithoutSpec)

end Rows
end Go.Proofs.Ytjhigjbfnemdjaa
