/-
  No cell of these rows narrows 'for every input' (looked for: loops, veiled, ifaces, maps, wideKeys, modest, calm, conditions, laid).
  DERIVED. THE GIVEN ROWS OF THIS SEAT. 4 by the template 'for every input the law returns true; each argument reads behind the call as it read before'; 0 by the template 'total and deterministic' (their statements: YtbmgejiinnnomabTotals.lean).
  GIVEN WITH THE SEED: the statements are not yours to turn. If you find one false, say at which input.
  Laid BY PROGRAM, IN A SANDBOX (cutbox-rows.mjs): the forced cells as the released guide's own fill.sh prints them over the translation de81fbb13ced674a… (all of the seat's roots in one cut). By AI agents, Wed Nov 11 2026. No macro, syntax, notation, axiom, sorry.
-/
import Derived.Test.YtbmgejiinnnomabChecked
import GoSem.Claim
import GoSem.ClaimJoined
import GoSem.ClaimMapViews
import Derived.JoinedTies
import Derived.KernelRfl
namespace Go.Proofs.Ytbmgejiinnnomab
/- THE CELL 'sum', in the pinned program and in every row, IS THE sha256 OF THE DUMP (.gsa) THAT YtbmgejiinnnomabProg.lean LOADS. Nothing in Lean hashes anything: it is a label: what it is worth is what the hold of that sum in a sandbox is worth. -/
noncomputable def Try.pinned : Pinned := { name := "ytbmgejiinnnomab", sum := "de81fbb13ced674a10edae26861b45dc3fdb8861ac721c9301df0e3a8b2b2bfd", checked := Try.checked }
namespace Rows
def none {H : Type} : Left H := { results := [], args := [] }

/-- 'laws.FnSingBest': WHATEVER THE INPUT: true; the input reads as it did. -/
def fnSingBestSpec : ChangeSpec := { name := "fnSingBest", fn := fun _ => fun
  | [d] => { results := [.lit (.bool true)], args := [d] }
  | _ => none }
def fnSingBestRow : OpenClaim := { program := "ytbmgejiinnnomab", sum := "de81fbb13ced674a10edae26861b45dc3fdb8861ac721c9301df0e3a8b2b2bfd", func := "loop.example/neumes/laws.FnSingBest", spec := "fnSingBest", apart := false }
def FnSingBestSaid : Prop := fnSingBestRow.holds Try.pinned (OpenSpec.ofChange fnSingBestSpec)

/-- ITS FALSE NEIGHBOUR: 'it returns false'. Refute it at one input. -/
def fnSingBestWrong : ChangeSpec := { name := "fnSingBest", fn := fun _ => fun
  | [d] => { results := [.lit (.bool false)], args := [d] }
  | _ => none }
def FnSingBestWrongFalsely : Prop := fnSingBestRow.holds Try.pinned (OpenSpec.ofChange fnSingBestWrong)

/-- 'laws.FnSingFew': WHATEVER THE INPUT: true; the input reads as it did. -/
def fnSingFewSpec : ChangeSpec := { name := "fnSingFew", fn := fun _ => fun
  | [d] => { results := [.lit (.bool true)], args := [d] }
  | _ => none }
def fnSingFewRow : OpenClaim := { program := "ytbmgejiinnnomab", sum := "de81fbb13ced674a10edae26861b45dc3fdb8861ac721c9301df0e3a8b2b2bfd", func := "loop.example/neumes/laws.FnSingFew", spec := "fnSingFew", apart := false }
def FnSingFewSaid : Prop := fnSingFewRow.holds Try.pinned (OpenSpec.ofChange fnSingFewSpec)

/-- ITS FALSE NEIGHBOUR: 'it returns false'. Refute it at one input. -/
def fnSingFewWrong : ChangeSpec := { name := "fnSingFew", fn := fun _ => fun
  | [d] => { results := [.lit (.bool false)], args := [d] }
  | _ => none }
def FnSingFewWrongFalsely : Prop := fnSingFewRow.holds Try.pinned (OpenSpec.ofChange fnSingFewWrong)

/-- 'laws.FnSingMany': WHATEVER THE INPUT: true; the input reads as it did. -/
def fnSingManySpec : ChangeSpec := { name := "fnSingMany", fn := fun _ => fun
  | [d] => { results := [.lit (.bool true)], args := [d] }
  | _ => none }
def fnSingManyRow : OpenClaim := { program := "ytbmgejiinnnomab", sum := "de81fbb13ced674a10edae26861b45dc3fdb8861ac721c9301df0e3a8b2b2bfd", func := "loop.example/neumes/laws.FnSingMany", spec := "fnSingMany", apart := false }
def FnSingManySaid : Prop := fnSingManyRow.holds Try.pinned (OpenSpec.ofChange fnSingManySpec)

/-- ITS FALSE NEIGHBOUR: 'it returns false'. Refute it at one input. -/
def fnSingManyWrong : ChangeSpec := { name := "fnSingMany", fn := fun _ => fun
  | [d] => { results := [.lit (.bool false)], args := [d] }
  | _ => none }
def FnSingManyWrongFalsely : Prop := fnSingManyRow.holds Try.pinned (OpenSpec.ofChange fnSingManyWrong)

/-- 'laws.FnExactSingBest': WHATEVER THE INPUT: true; the input reads as it did. -/
def fnExactSingBestSpec : ChangeSpec := { name := "fnExactSingBest", fn := fun _ => fun
  | [d] => { results := [.lit (.bool true)], args := [d] }
  | _ => none }
def fnExactSingBestRow : OpenClaim := { program := "ytbmgejiinnnomab", sum := "de81fbb13ced674a10edae26861b45dc3fdb8861ac721c9301df0e3a8b2b2bfd", func := "loop.example/neumes/laws.FnExactSingBest", spec := "fnExactSingBest", apart := false }
def FnExactSingBestSaid : Prop := fnExactSingBestRow.holds Try.pinned (OpenSpec.ofChange fnExactSingBestSpec)

/-- ITS FALSE NEIGHBOUR: 'it returns false'. Refute it at one input. -/
def fnExactSingBestWrong : ChangeSpec := { name := "fnExactSingBest", fn := fun _ => fun
  | [d] => { results := [.lit (.bool false)], args := [d] }
  | _ => none }
def FnExactSingBestWrongFalsely : Prop := fnExactSingBestRow.holds Try.pinned (OpenSpec.ofChange fnExactSingBestWrong)

/- THE SECOND FORM. 'bulk': how many values and letters a reading holds, each counted each time it is reached (what is shared counts as often as it is met; a slice's spare places count too). A statement '..UptoSaid' is the law's where the arguments, and the package variables that the reading takes, are together of bulk at most 1048576: NARROWER than '..Said'. Prove '..Said' where nothing that the law and all that it calls make is longer than what came in: it says more and counts as full. Else prove '..UptoSaid'. A law counts once. -/
mutual
def uptoBulk {H : Type} : DataW H → Nat
  | .lit (.string bytes) => bytes.length + 1
  | .lit _ => 1
  | .nil => 1
  | .ptr d => uptoBulk d + 1
  | .slice elems spare => uptoBulkAll elems + uptoBulkAll spare + 1
  | .agg parts => uptoBulkAll parts + 1
  | .iface _ d => uptoBulk d + 1
  | .map entries => uptoBulkEntries entries + 1
  | .held _ => 1
def uptoBulkAll {H : Type} : List (DataW H) → Nat
  | [] => 0
  | d :: r => uptoBulk d + uptoBulkAll r
def uptoBulkEntries {H : Type} : List (Lit × DataW H) → Nat
  | [] => 0
  | x :: r => uptoBulkEntry x + uptoBulkEntries r
def uptoBulkEntry {H : Type} : Lit × DataW H → Nat
  | (.string bytes, d) => bytes.length + uptoBulk d + 1
  | (_, d) => uptoBulk d + 1
 end
def uptoSmall : (H : Type) → List (DataW H) → Bool := fun _ ds => decide (uptoBulkAll ds ≤ 1048576)
def OpenSpec.upto (s : _root_.Go.ChangeSpec) : _root_.Go.OpenSpec := { _root_.Go.OpenSpec.ofChange s with cond := some uptoSmall }

/-- 'laws.FnSingBest', WHERE WHAT IT READS IS OF BULK AT MOST 1048576: true; the input reads as it did. -/
def fnSingBestUptoRow : OpenClaim := { program := "ytbmgejiinnnomab", sum := "de81fbb13ced674a10edae26861b45dc3fdb8861ac721c9301df0e3a8b2b2bfd", func := "loop.example/neumes/laws.FnSingBest", spec := "fnSingBest", apart := false, narrowed := true }
def FnSingBestUptoSaid : Prop := fnSingBestUptoRow.holds Try.pinned (OpenSpec.upto fnSingBestSpec)

/-- 'laws.FnSingFew', WHERE WHAT IT READS IS OF BULK AT MOST 1048576: true; the input reads as it did. -/
def fnSingFewUptoRow : OpenClaim := { program := "ytbmgejiinnnomab", sum := "de81fbb13ced674a10edae26861b45dc3fdb8861ac721c9301df0e3a8b2b2bfd", func := "loop.example/neumes/laws.FnSingFew", spec := "fnSingFew", apart := false, narrowed := true }
def FnSingFewUptoSaid : Prop := fnSingFewUptoRow.holds Try.pinned (OpenSpec.upto fnSingFewSpec)

/-- 'laws.FnSingMany', WHERE WHAT IT READS IS OF BULK AT MOST 1048576: true; the input reads as it did. -/
def fnSingManyUptoRow : OpenClaim := { program := "ytbmgejiinnnomab", sum := "de81fbb13ced674a10edae26861b45dc3fdb8861ac721c9301df0e3a8b2b2bfd", func := "loop.example/neumes/laws.FnSingMany", spec := "fnSingMany", apart := false, narrowed := true }
def FnSingManyUptoSaid : Prop := fnSingManyUptoRow.holds Try.pinned (OpenSpec.upto fnSingManySpec)

/-- 'laws.FnExactSingBest', WHERE WHAT IT READS IS OF BULK AT MOST 1048576: true; the input reads as it did. -/
def fnExactSingBestUptoRow : OpenClaim := { program := "ytbmgejiinnnomab", sum := "de81fbb13ced674a10edae26861b45dc3fdb8861ac721c9301df0e3a8b2b2bfd", func := "loop.example/neumes/laws.FnExactSingBest", spec := "fnExactSingBest", apart := false, narrowed := true }
def FnExactSingBestUptoSaid : Prop := fnExactSingBestUptoRow.holds Try.pinned (OpenSpec.upto fnExactSingBestSpec)

end Rows
end Go.Proofs.Ytbmgejiinnnomab
