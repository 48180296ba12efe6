/-
  No cell of these rows narrows 'for every input' (looked for: loops, veiled, ifaces, maps, wideKeys, modest, calm, conditions, laid).
  DERIVED. THE GIVEN ROWS OF THIS SEAT. 9 by the template 'for every input the law returns true; each argument reads behind the call as it read before'; 0 by the template 'total and deterministic' (their statements: YtgehfianpahgcabTotals.lean).
  GIVEN WITH THE SEED: the statements are not yours to turn. If you find one false, say at which input.
  Laid BY PROGRAM, IN A SANDBOX (cutbox-rows.mjs): the forced cells as the released guide's own fill.sh prints them over the translation 8bca2fcd4109f085… (all of the seat's roots in one cut). By AI agents, Wed Nov 11 2026. No macro, syntax, notation, axiom, sorry.
-/
import Derived.Test.YtgehfianpahgcabChecked
import GoSem.Claim
import GoSem.ClaimJoined
import GoSem.ClaimMapViews
import Derived.JoinedTies
import Derived.KernelRfl
namespace Go.Proofs.Ytgehfianpahgcab
/- THE CELL 'sum', in the pinned program and in every row, IS THE sha256 OF THE DUMP (.gsa) THAT YtgehfianpahgcabProg.lean LOADS. Nothing in Lean hashes anything: it is a label: what it is worth is what the hold of that sum in a sandbox is worth. -/
noncomputable def Try.pinned : Pinned := { name := "ytgehfianpahgcab", sum := "8bca2fcd4109f08586a4721a5c81977fa1093847a91e7a3e8e867a877cfea3df", checked := Try.checked }
namespace Rows
def none {H : Type} : Left H := { results := [], args := [] }

/-- 'laws.FnExactMelodyJoin': WHATEVER THE INPUT: true; the input reads as it did. -/
def fnExactMelodyJoinSpec : ChangeSpec := { name := "fnExactMelodyJoin", fn := fun _ => fun
  | [d1, d2] => { results := [.lit (.bool true)], args := [d1, d2] }
  | _ => none }
def fnExactMelodyJoinRow : OpenClaim := { program := "ytgehfianpahgcab", sum := "8bca2fcd4109f08586a4721a5c81977fa1093847a91e7a3e8e867a877cfea3df", func := "loop.example/neumes/laws.FnExactMelodyJoin", spec := "fnExactMelodyJoin", recurses := true, apart := false }
def FnExactMelodyJoinSaid : Prop := fnExactMelodyJoinRow.holds Try.pinned (OpenSpec.ofChange fnExactMelodyJoinSpec)

/-- ITS FALSE NEIGHBOUR: 'it returns false'. Refute it at one input. -/
def fnExactMelodyJoinWrong : ChangeSpec := { name := "fnExactMelodyJoin", fn := fun _ => fun
  | [d1, d2] => { results := [.lit (.bool false)], args := [d1, d2] }
  | _ => none }
def FnExactMelodyJoinWrongFalsely : Prop := fnExactMelodyJoinRow.holds Try.pinned (OpenSpec.ofChange fnExactMelodyJoinWrong)

/-- 'laws.FnSingBest': WHATEVER THE INPUT: true; the input reads as it did. -/
def fnSingBestSpec : ChangeSpec := { name := "fnSingBest", fn := fun _ => fun
  | [d] => { results := [.lit (.bool true)], args := [d] }
  | _ => none }
def fnSingBestRow : OpenClaim := { program := "ytgehfianpahgcab", sum := "8bca2fcd4109f08586a4721a5c81977fa1093847a91e7a3e8e867a877cfea3df", func := "loop.example/neumes/laws.FnSingBest", spec := "fnSingBest", apart := false }
def FnSingBestSaid : Prop := fnSingBestRow.holds Try.pinned (OpenSpec.ofChange fnSingBestSpec)

/-- ITS FALSE NEIGHBOUR: 'it returns false'. Refute it at one input. -/
def fnSingBestWrong : ChangeSpec := { name := "fnSingBest", fn := fun _ => fun
  | [d] => { results := [.lit (.bool false)], args := [d] }
  | _ => none }
def FnSingBestWrongFalsely : Prop := fnSingBestRow.holds Try.pinned (OpenSpec.ofChange fnSingBestWrong)

/-- 'laws.FnSingFew': WHATEVER THE INPUT: true; the input reads as it did. -/
def fnSingFewSpec : ChangeSpec := { name := "fnSingFew", fn := fun _ => fun
  | [d] => { results := [.lit (.bool true)], args := [d] }
  | _ => none }
def fnSingFewRow : OpenClaim := { program := "ytgehfianpahgcab", sum := "8bca2fcd4109f08586a4721a5c81977fa1093847a91e7a3e8e867a877cfea3df", func := "loop.example/neumes/laws.FnSingFew", spec := "fnSingFew", apart := false }
def FnSingFewSaid : Prop := fnSingFewRow.holds Try.pinned (OpenSpec.ofChange fnSingFewSpec)

/-- ITS FALSE NEIGHBOUR: 'it returns false'. Refute it at one input. -/
def fnSingFewWrong : ChangeSpec := { name := "fnSingFew", fn := fun _ => fun
  | [d] => { results := [.lit (.bool false)], args := [d] }
  | _ => none }
def FnSingFewWrongFalsely : Prop := fnSingFewRow.holds Try.pinned (OpenSpec.ofChange fnSingFewWrong)

/-- 'laws.FnSingMany': WHATEVER THE INPUT: true; the input reads as it did. -/
def fnSingManySpec : ChangeSpec := { name := "fnSingMany", fn := fun _ => fun
  | [d] => { results := [.lit (.bool true)], args := [d] }
  | _ => none }
def fnSingManyRow : OpenClaim := { program := "ytgehfianpahgcab", sum := "8bca2fcd4109f08586a4721a5c81977fa1093847a91e7a3e8e867a877cfea3df", func := "loop.example/neumes/laws.FnSingMany", spec := "fnSingMany", apart := false }
def FnSingManySaid : Prop := fnSingManyRow.holds Try.pinned (OpenSpec.ofChange fnSingManySpec)

/-- ITS FALSE NEIGHBOUR: 'it returns false'. Refute it at one input. -/
def fnSingManyWrong : ChangeSpec := { name := "fnSingMany", fn := fun _ => fun
  | [d] => { results := [.lit (.bool false)], args := [d] }
  | _ => none }
def FnSingManyWrongFalsely : Prop := fnSingManyRow.holds Try.pinned (OpenSpec.ofChange fnSingManyWrong)

/-- 'laws.FnSingMutations': WHATEVER THE INPUT: true; the input reads as it did. -/
def fnSingMutationsSpec : ChangeSpec := { name := "fnSingMutations", fn := fun _ => fun
  | [d1, d2] => { results := [.lit (.bool true)], args := [d1, d2] }
  | _ => none }
def fnSingMutationsRow : OpenClaim := { program := "ytgehfianpahgcab", sum := "8bca2fcd4109f08586a4721a5c81977fa1093847a91e7a3e8e867a877cfea3df", func := "loop.example/neumes/laws.FnSingMutations", spec := "fnSingMutations", apart := false }
def FnSingMutationsSaid : Prop := fnSingMutationsRow.holds Try.pinned (OpenSpec.ofChange fnSingMutationsSpec)

/-- ITS FALSE NEIGHBOUR: 'it returns false'. Refute it at one input. -/
def fnSingMutationsWrong : ChangeSpec := { name := "fnSingMutations", fn := fun _ => fun
  | [d1, d2] => { results := [.lit (.bool false)], args := [d1, d2] }
  | _ => none }
def FnSingMutationsWrongFalsely : Prop := fnSingMutationsRow.holds Try.pinned (OpenSpec.ofChange fnSingMutationsWrong)

/-- 'laws.FnExactSingOk': WHATEVER THE INPUT: true; the input reads as it did. -/
def fnExactSingOkSpec : ChangeSpec := { name := "fnExactSingOk", fn := fun _ => fun
  | [d1, d2] => { results := [.lit (.bool true)], args := [d1, d2] }
  | _ => none }
def fnExactSingOkRow : OpenClaim := { program := "ytgehfianpahgcab", sum := "8bca2fcd4109f08586a4721a5c81977fa1093847a91e7a3e8e867a877cfea3df", func := "loop.example/neumes/laws.FnExactSingOk", spec := "fnExactSingOk", apart := false }
def FnExactSingOkSaid : Prop := fnExactSingOkRow.holds Try.pinned (OpenSpec.ofChange fnExactSingOkSpec)

/-- ITS FALSE NEIGHBOUR: 'it returns false'. Refute it at one input. -/
def fnExactSingOkWrong : ChangeSpec := { name := "fnExactSingOk", fn := fun _ => fun
  | [d1, d2] => { results := [.lit (.bool false)], args := [d1, d2] }
  | _ => none }
def FnExactSingOkWrongFalsely : Prop := fnExactSingOkRow.holds Try.pinned (OpenSpec.ofChange fnExactSingOkWrong)

/-- 'laws.FnExactSingMutations': WHATEVER THE INPUT: true; the input reads as it did. -/
def fnExactSingMutationsSpec : ChangeSpec := { name := "fnExactSingMutations", fn := fun _ => fun
  | [d1, d2] => { results := [.lit (.bool true)], args := [d1, d2] }
  | _ => none }
def fnExactSingMutationsRow : OpenClaim := { program := "ytgehfianpahgcab", sum := "8bca2fcd4109f08586a4721a5c81977fa1093847a91e7a3e8e867a877cfea3df", func := "loop.example/neumes/laws.FnExactSingMutations", spec := "fnExactSingMutations", apart := false }
def FnExactSingMutationsSaid : Prop := fnExactSingMutationsRow.holds Try.pinned (OpenSpec.ofChange fnExactSingMutationsSpec)

/-- ITS FALSE NEIGHBOUR: 'it returns false'. Refute it at one input. -/
def fnExactSingMutationsWrong : ChangeSpec := { name := "fnExactSingMutations", fn := fun _ => fun
  | [d1, d2] => { results := [.lit (.bool false)], args := [d1, d2] }
  | _ => none }
def FnExactSingMutationsWrongFalsely : Prop := fnExactSingMutationsRow.holds Try.pinned (OpenSpec.ofChange fnExactSingMutationsWrong)

/-- 'laws.FnExactSingBest': WHATEVER THE INPUT: true; the input reads as it did. -/
def fnExactSingBestSpec : ChangeSpec := { name := "fnExactSingBest", fn := fun _ => fun
  | [d] => { results := [.lit (.bool true)], args := [d] }
  | _ => none }
def fnExactSingBestRow : OpenClaim := { program := "ytgehfianpahgcab", sum := "8bca2fcd4109f08586a4721a5c81977fa1093847a91e7a3e8e867a877cfea3df", func := "loop.example/neumes/laws.FnExactSingBest", spec := "fnExactSingBest", apart := false }
def FnExactSingBestSaid : Prop := fnExactSingBestRow.holds Try.pinned (OpenSpec.ofChange fnExactSingBestSpec)

/-- ITS FALSE NEIGHBOUR: 'it returns false'. Refute it at one input. -/
def fnExactSingBestWrong : ChangeSpec := { name := "fnExactSingBest", fn := fun _ => fun
  | [d] => { results := [.lit (.bool false)], args := [d] }
  | _ => none }
def FnExactSingBestWrongFalsely : Prop := fnExactSingBestRow.holds Try.pinned (OpenSpec.ofChange fnExactSingBestWrong)

/-- 'laws.FnExactSingMany': WHATEVER THE INPUT: true; the input reads as it did. -/
def fnExactSingManySpec : ChangeSpec := { name := "fnExactSingMany", fn := fun _ => fun
  | [d] => { results := [.lit (.bool true)], args := [d] }
  | _ => none }
def fnExactSingManyRow : OpenClaim := { program := "ytgehfianpahgcab", sum := "8bca2fcd4109f08586a4721a5c81977fa1093847a91e7a3e8e867a877cfea3df", func := "loop.example/neumes/laws.FnExactSingMany", spec := "fnExactSingMany", apart := false }
def FnExactSingManySaid : Prop := fnExactSingManyRow.holds Try.pinned (OpenSpec.ofChange fnExactSingManySpec)

/-- ITS FALSE NEIGHBOUR: 'it returns false'. Refute it at one input. -/
def fnExactSingManyWrong : ChangeSpec := { name := "fnExactSingMany", fn := fun _ => fun
  | [d] => { results := [.lit (.bool false)], args := [d] }
  | _ => none }
def FnExactSingManyWrongFalsely : Prop := fnExactSingManyRow.holds Try.pinned (OpenSpec.ofChange fnExactSingManyWrong)

/- THE SECOND FORM. 'bulk': how many values and letters a reading holds, each counted each time it is reached (what is shared counts as often as it is met; a slice's spare places count too). A statement '..UptoSaid' is the law's where the arguments, and the package variables that the reading takes, are together of bulk at most 1048576: NARROWER than '..Said'. Prove '..Said' where nothing that the law and all that it calls make is longer than what came in: it says more and counts as full. Else prove '..UptoSaid'. A law counts once. -/
mutual
def uptoBulk {H : Type} : DataW H → Nat
  | .lit (.string bytes) => bytes.length + 1
  | .lit _ => 1
  | .nil => 1
  | .ptr d => uptoBulk d + 1
  | .slice elems spare => uptoBulkAll elems + uptoBulkAll spare + 1
  | .agg parts => uptoBulkAll parts + 1
  | .iface _ d => uptoBulk d + 1
  | .map entries => uptoBulkEntries entries + 1
  | .held _ => 1
def uptoBulkAll {H : Type} : List (DataW H) → Nat
  | [] => 0
  | d :: r => uptoBulk d + uptoBulkAll r
def uptoBulkEntries {H : Type} : List (Lit × DataW H) → Nat
  | [] => 0
  | x :: r => uptoBulkEntry x + uptoBulkEntries r
def uptoBulkEntry {H : Type} : Lit × DataW H → Nat
  | (.string bytes, d) => bytes.length + uptoBulk d + 1
  | (_, d) => uptoBulk d + 1
 end
def uptoSmall : (H : Type) → List (DataW H) → Bool := fun _ ds => decide (uptoBulkAll ds ≤ 1048576)
def OpenSpec.upto (s : _root_.Go.ChangeSpec) : _root_.Go.OpenSpec := { _root_.Go.OpenSpec.ofChange s with cond := some uptoSmall }

/-- 'laws.FnExactMelodyJoin', WHERE WHAT IT READS IS OF BULK AT MOST 1048576: true; the input reads as it did. -/
def fnExactMelodyJoinUptoRow : OpenClaim := { program := "ytgehfianpahgcab", sum := "8bca2fcd4109f08586a4721a5c81977fa1093847a91e7a3e8e867a877cfea3df", func := "loop.example/neumes/laws.FnExactMelodyJoin", spec := "fnExactMelodyJoin", recurses := true, apart := false, narrowed := true }
def FnExactMelodyJoinUptoSaid : Prop := fnExactMelodyJoinUptoRow.holds Try.pinned (OpenSpec.upto fnExactMelodyJoinSpec)

/-- 'laws.FnSingBest', WHERE WHAT IT READS IS OF BULK AT MOST 1048576: true; the input reads as it did. -/
def fnSingBestUptoRow : OpenClaim := { program := "ytgehfianpahgcab", sum := "8bca2fcd4109f08586a4721a5c81977fa1093847a91e7a3e8e867a877cfea3df", func := "loop.example/neumes/laws.FnSingBest", spec := "fnSingBest", apart := false, narrowed := true }
def FnSingBestUptoSaid : Prop := fnSingBestUptoRow.holds Try.pinned (OpenSpec.upto fnSingBestSpec)

/-- 'laws.FnSingFew', WHERE WHAT IT READS IS OF BULK AT MOST 1048576: true; the input reads as it did. -/
def fnSingFewUptoRow : OpenClaim := { program := "ytgehfianpahgcab", sum := "8bca2fcd4109f08586a4721a5c81977fa1093847a91e7a3e8e867a877cfea3df", func := "loop.example/neumes/laws.FnSingFew", spec := "fnSingFew", apart := false, narrowed := true }
def FnSingFewUptoSaid : Prop := fnSingFewUptoRow.holds Try.pinned (OpenSpec.upto fnSingFewSpec)

/-- 'laws.FnSingMany', WHERE WHAT IT READS IS OF BULK AT MOST 1048576: true; the input reads as it did. -/
def fnSingManyUptoRow : OpenClaim := { program := "ytgehfianpahgcab", sum := "8bca2fcd4109f08586a4721a5c81977fa1093847a91e7a3e8e867a877cfea3df", func := "loop.example/neumes/laws.FnSingMany", spec := "fnSingMany", apart := false, narrowed := true }
def FnSingManyUptoSaid : Prop := fnSingManyUptoRow.holds Try.pinned (OpenSpec.upto fnSingManySpec)

/-- 'laws.FnSingMutations', WHERE WHAT IT READS IS OF BULK AT MOST 1048576: true; the input reads as it did. -/
def fnSingMutationsUptoRow : OpenClaim := { program := "ytgehfianpahgcab", sum := "8bca2fcd4109f08586a4721a5c81977fa1093847a91e7a3e8e867a877cfea3df", func := "loop.example/neumes/laws.FnSingMutations", spec := "fnSingMutations", apart := false, narrowed := true }
def FnSingMutationsUptoSaid : Prop := fnSingMutationsUptoRow.holds Try.pinned (OpenSpec.upto fnSingMutationsSpec)

/-- 'laws.FnExactSingOk', WHERE WHAT IT READS IS OF BULK AT MOST 1048576: true; the input reads as it did. -/
def fnExactSingOkUptoRow : OpenClaim := { program := "ytgehfianpahgcab", sum := "8bca2fcd4109f08586a4721a5c81977fa1093847a91e7a3e8e867a877cfea3df", func := "loop.example/neumes/laws.FnExactSingOk", spec := "fnExactSingOk", apart := false, narrowed := true }
def FnExactSingOkUptoSaid : Prop := fnExactSingOkUptoRow.holds Try.pinned (OpenSpec.upto fnExactSingOkSpec)

/-- 'laws.FnExactSingMutations', WHERE WHAT IT READS IS OF BULK AT MOST 1048576: true; the input reads as it did. -/
def fnExactSingMutationsUptoRow : OpenClaim := { program := "ytgehfianpahgcab", sum := "8bca2fcd4109f08586a4721a5c81977fa1093847a91e7a3e8e867a877cfea3df", func := "loop.example/neumes/laws.FnExactSingMutations", spec := "fnExactSingMutations", apart := false, narrowed := true }
def FnExactSingMutationsUptoSaid : Prop := fnExactSingMutationsUptoRow.holds Try.pinned (OpenSpec.upto fnExactSingMutationsSpec)

/-- 'laws.FnExactSingBest', WHERE WHAT IT READS IS OF BULK AT MOST 1048576: true; the input reads as it did. -/
def fnExactSingBestUptoRow : OpenClaim := { program := "ytgehfianpahgcab", sum := "8bca2fcd4109f08586a4721a5c81977fa1093847a91e7a3e8e867a877cfea3df", func := "loop.example/neumes/laws.FnExactSingBest", spec := "fnExactSingBest", apart := false, narrowed := true }
def FnExactSingBestUptoSaid : Prop := fnExactSingBestUptoRow.holds Try.pinned (OpenSpec.upto fnExactSingBestSpec)

/-- 'laws.FnExactSingMany', WHERE WHAT IT READS IS OF BULK AT MOST 1048576: true; the input reads as it did. -/
def fnExactSingManyUptoRow : OpenClaim := { program := "ytgehfianpahgcab", sum := "8bca2fcd4109f08586a4721a5c81977fa1093847a91e7a3e8e867a877cfea3df", func := "loop.example/neumes/laws.FnExactSingMany", spec := "fnExactSingMany", apart := false, narrowed := true }
def FnExactSingManyUptoSaid : Prop := fnExactSingManyUptoRow.holds Try.pinned (OpenSpec.upto fnExactSingManySpec)

end Rows
end Go.Proofs.Ytgehfianpahgcab
