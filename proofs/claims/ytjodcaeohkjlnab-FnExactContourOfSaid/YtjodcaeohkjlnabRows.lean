/-
  No cell of these rows narrows 'for every input' (looked for: loops, veiled, ifaces, maps, wideKeys, modest, calm, conditions, laid).
  DERIVED. THE GIVEN ROWS OF THIS SEAT. 15 by the template 'for every input the law returns true; each argument reads behind the call as it read before'; 0 by the template 'total and deterministic' (their statements: YtjodcaeohkjlnabTotals.lean).
  GIVEN WITH THE SEED: the statements are not yours to turn. If you find one false, say at which input.
  Laid BY PROGRAM, IN A SANDBOX (cutbox-rows.mjs): the forced cells as the released guide's own fill.sh prints them over the translation f4cbe84a4d2341de… (all of the seat's roots in one cut). By AI agents, Wed Nov 11 2026. No macro, syntax, notation, axiom, sorry.
-/
import Derived.Test.YtjodcaeohkjlnabChecked
import GoSem.Claim
import GoSem.ClaimJoined
import GoSem.ClaimMapViews
import Derived.JoinedTies
import Derived.KernelRfl
namespace Go.Proofs.Ytjodcaeohkjlnab
/- THE CELL 'sum', in the pinned program and in every row, IS THE sha256 OF THE DUMP (.gsa) THAT YtjodcaeohkjlnabProg.lean LOADS. Nothing in Lean hashes anything: it is a label: what it is worth is what the hold of that sum in a sandbox is worth. -/
noncomputable def Try.pinned : Pinned := { name := "ytjodcaeohkjlnab", sum := "f4cbe84a4d2341de711483e9e5dc4309b2ae264b5b345718d7199d16e9f151c5", checked := Try.checked }
namespace Rows
def none {H : Type} : Left H := { results := [], args := [] }

/-- 'laws.FnContourTurn': WHATEVER THE INPUT: true; the input reads as it did. -/
def fnContourTurnSpec : ChangeSpec := { name := "fnContourTurn", fn := fun _ => fun
  | [d] => { results := [.lit (.bool true)], args := [d] }
  | _ => none }
def fnContourTurnRow : OpenClaim := { program := "ytjodcaeohkjlnab", sum := "f4cbe84a4d2341de711483e9e5dc4309b2ae264b5b345718d7199d16e9f151c5", func := "loop.example/neumes/laws.FnContourTurn", spec := "fnContourTurn", apart := false }
def FnContourTurnSaid : Prop := fnContourTurnRow.holds Try.pinned (OpenSpec.ofChange fnContourTurnSpec)

/-- ITS FALSE NEIGHBOUR: 'it returns false'. Refute it at one input. -/
def fnContourTurnWrong : ChangeSpec := { name := "fnContourTurn", fn := fun _ => fun
  | [d] => { results := [.lit (.bool false)], args := [d] }
  | _ => none }
def FnContourTurnWrongFalsely : Prop := fnContourTurnRow.holds Try.pinned (OpenSpec.ofChange fnContourTurnWrong)

/-- 'laws.FnContourMany': WHATEVER THE INPUT: true; the input reads as it did. -/
def fnContourManySpec : ChangeSpec := { name := "fnContourMany", fn := fun _ => fun
  | [d] => { results := [.lit (.bool true)], args := [d] }
  | _ => none }
def fnContourManyRow : OpenClaim := { program := "ytjodcaeohkjlnab", sum := "f4cbe84a4d2341de711483e9e5dc4309b2ae264b5b345718d7199d16e9f151c5", func := "loop.example/neumes/laws.FnContourMany", spec := "fnContourMany", apart := false }
def FnContourManySaid : Prop := fnContourManyRow.holds Try.pinned (OpenSpec.ofChange fnContourManySpec)

/-- ITS FALSE NEIGHBOUR: 'it returns false'. Refute it at one input. -/
def fnContourManyWrong : ChangeSpec := { name := "fnContourMany", fn := fun _ => fun
  | [d] => { results := [.lit (.bool false)], args := [d] }
  | _ => none }
def FnContourManyWrongFalsely : Prop := fnContourManyRow.holds Try.pinned (OpenSpec.ofChange fnContourManyWrong)

/-- 'laws.FnContourLeast': WHATEVER THE INPUT: true; the input reads as it did. -/
def fnContourLeastSpec : ChangeSpec := { name := "fnContourLeast", fn := fun _ => fun
  | [d1, d2] => { results := [.lit (.bool true)], args := [d1, d2] }
  | _ => none }
def fnContourLeastRow : OpenClaim := { program := "ytjodcaeohkjlnab", sum := "f4cbe84a4d2341de711483e9e5dc4309b2ae264b5b345718d7199d16e9f151c5", func := "loop.example/neumes/laws.FnContourLeast", spec := "fnContourLeast", apart := false }
def FnContourLeastSaid : Prop := fnContourLeastRow.holds Try.pinned (OpenSpec.ofChange fnContourLeastSpec)

/-- ITS FALSE NEIGHBOUR: 'it returns false'. Refute it at one input. -/
def fnContourLeastWrong : ChangeSpec := { name := "fnContourLeast", fn := fun _ => fun
  | [d1, d2] => { results := [.lit (.bool false)], args := [d1, d2] }
  | _ => none }
def FnContourLeastWrongFalsely : Prop := fnContourLeastRow.holds Try.pinned (OpenSpec.ofChange fnContourLeastWrong)

/-- 'laws.FnContourLower': WHATEVER THE INPUT: true; the input reads as it did. -/
def fnContourLowerSpec : ChangeSpec := { name := "fnContourLower", fn := fun _ => fun
  | [d] => { results := [.lit (.bool true)], args := [d] }
  | _ => none }
def fnContourLowerRow : OpenClaim := { program := "ytjodcaeohkjlnab", sum := "f4cbe84a4d2341de711483e9e5dc4309b2ae264b5b345718d7199d16e9f151c5", func := "loop.example/neumes/laws.FnContourLower", spec := "fnContourLower", apart := false }
def FnContourLowerSaid : Prop := fnContourLowerRow.holds Try.pinned (OpenSpec.ofChange fnContourLowerSpec)

/-- ITS FALSE NEIGHBOUR: 'it returns false'. Refute it at one input. -/
def fnContourLowerWrong : ChangeSpec := { name := "fnContourLower", fn := fun _ => fun
  | [d] => { results := [.lit (.bool false)], args := [d] }
  | _ => none }
def FnContourLowerWrongFalsely : Prop := fnContourLowerRow.holds Try.pinned (OpenSpec.ofChange fnContourLowerWrong)

/-- 'laws.FnGroupsJoin': WHATEVER THE INPUT: true; the input reads as it did. -/
def fnGroupsJoinSpec : ChangeSpec := { name := "fnGroupsJoin", fn := fun _ => fun
  | [d] => { results := [.lit (.bool true)], args := [d] }
  | _ => none }
def fnGroupsJoinRow : OpenClaim := { program := "ytjodcaeohkjlnab", sum := "f4cbe84a4d2341de711483e9e5dc4309b2ae264b5b345718d7199d16e9f151c5", func := "loop.example/neumes/laws.FnGroupsJoin", spec := "fnGroupsJoin", inPlace := ["slices.overlaps[loop.example/neumes/impl.Melisma]"], apart := false }
def FnGroupsJoinSaid : Prop := fnGroupsJoinRow.holds Try.pinned (OpenSpec.ofChange fnGroupsJoinSpec)

/-- ITS FALSE NEIGHBOUR: 'it returns false'. Refute it at one input. -/
def fnGroupsJoinWrong : ChangeSpec := { name := "fnGroupsJoin", fn := fun _ => fun
  | [d] => { results := [.lit (.bool false)], args := [d] }
  | _ => none }
def FnGroupsJoinWrongFalsely : Prop := fnGroupsJoinRow.holds Try.pinned (OpenSpec.ofChange fnGroupsJoinWrong)

/-- 'laws.FnGroupsSplit': WHATEVER THE INPUT: true; the input reads as it did. -/
def fnGroupsSplitSpec : ChangeSpec := { name := "fnGroupsSplit", fn := fun _ => fun
  | [d] => { results := [.lit (.bool true)], args := [d] }
  | _ => none }
def fnGroupsSplitRow : OpenClaim := { program := "ytjodcaeohkjlnab", sum := "f4cbe84a4d2341de711483e9e5dc4309b2ae264b5b345718d7199d16e9f151c5", func := "loop.example/neumes/laws.FnGroupsSplit", spec := "fnGroupsSplit", inPlace := ["slices.overlaps[loop.example/neumes/impl.Melisma]"], unfollowed := true, recurses := true, apart := false }
def FnGroupsSplitSaid : Prop := fnGroupsSplitRow.holds Try.pinned (OpenSpec.ofChange fnGroupsSplitSpec)

/-- ITS FALSE NEIGHBOUR: 'it returns false'. Refute it at one input. -/
def fnGroupsSplitWrong : ChangeSpec := { name := "fnGroupsSplit", fn := fun _ => fun
  | [d] => { results := [.lit (.bool false)], args := [d] }
  | _ => none }
def FnGroupsSplitWrongFalsely : Prop := fnGroupsSplitRow.holds Try.pinned (OpenSpec.ofChange fnGroupsSplitWrong)

/-- 'laws.FnExactContourOf': WHATEVER THE INPUT: true; the input reads as it did. -/
def fnExactContourOfSpec : ChangeSpec := { name := "fnExactContourOf", fn := fun _ => fun
  | [d] => { results := [.lit (.bool true)], args := [d] }
  | _ => none }
def fnExactContourOfRow : OpenClaim := { program := "ytjodcaeohkjlnab", sum := "f4cbe84a4d2341de711483e9e5dc4309b2ae264b5b345718d7199d16e9f151c5", func := "loop.example/neumes/laws.FnExactContourOf", spec := "fnExactContourOf", unfollowed := true, recurses := true, apart := false }
def FnExactContourOfSaid : Prop := fnExactContourOfRow.holds Try.pinned (OpenSpec.ofChange fnExactContourOfSpec)

/-- ITS FALSE NEIGHBOUR: 'it returns false'. Refute it at one input. -/
def fnExactContourOfWrong : ChangeSpec := { name := "fnExactContourOf", fn := fun _ => fun
  | [d] => { results := [.lit (.bool false)], args := [d] }
  | _ => none }
def FnExactContourOfWrongFalsely : Prop := fnExactContourOfRow.holds Try.pinned (OpenSpec.ofChange fnExactContourOfWrong)

/-- 'laws.FnExactContourTurn': WHATEVER THE INPUT: true; the input reads as it did. -/
def fnExactContourTurnSpec : ChangeSpec := { name := "fnExactContourTurn", fn := fun _ => fun
  | [d] => { results := [.lit (.bool true)], args := [d] }
  | _ => none }
def fnExactContourTurnRow : OpenClaim := { program := "ytjodcaeohkjlnab", sum := "f4cbe84a4d2341de711483e9e5dc4309b2ae264b5b345718d7199d16e9f151c5", func := "loop.example/neumes/laws.FnExactContourTurn", spec := "fnExactContourTurn", apart := false }
def FnExactContourTurnSaid : Prop := fnExactContourTurnRow.holds Try.pinned (OpenSpec.ofChange fnExactContourTurnSpec)

/-- ITS FALSE NEIGHBOUR: 'it returns false'. Refute it at one input. -/
def fnExactContourTurnWrong : ChangeSpec := { name := "fnExactContourTurn", fn := fun _ => fun
  | [d] => { results := [.lit (.bool false)], args := [d] }
  | _ => none }
def FnExactContourTurnWrongFalsely : Prop := fnExactContourTurnRow.holds Try.pinned (OpenSpec.ofChange fnExactContourTurnWrong)

/-- 'laws.FnExactContourBack': WHATEVER THE INPUT: true; the input reads as it did. -/
def fnExactContourBackSpec : ChangeSpec := { name := "fnExactContourBack", fn := fun _ => fun
  | [d] => { results := [.lit (.bool true)], args := [d] }
  | _ => none }
def fnExactContourBackRow : OpenClaim := { program := "ytjodcaeohkjlnab", sum := "f4cbe84a4d2341de711483e9e5dc4309b2ae264b5b345718d7199d16e9f151c5", func := "loop.example/neumes/laws.FnExactContourBack", spec := "fnExactContourBack", apart := false }
def FnExactContourBackSaid : Prop := fnExactContourBackRow.holds Try.pinned (OpenSpec.ofChange fnExactContourBackSpec)

/-- ITS FALSE NEIGHBOUR: 'it returns false'. Refute it at one input. -/
def fnExactContourBackWrong : ChangeSpec := { name := "fnExactContourBack", fn := fun _ => fun
  | [d] => { results := [.lit (.bool false)], args := [d] }
  | _ => none }
def FnExactContourBackWrongFalsely : Prop := fnExactContourBackRow.holds Try.pinned (OpenSpec.ofChange fnExactContourBackWrong)

/-- 'laws.FnExactContourMany': WHATEVER THE INPUT: true; the input reads as it did. -/
def fnExactContourManySpec : ChangeSpec := { name := "fnExactContourMany", fn := fun _ => fun
  | [d1, d2] => { results := [.lit (.bool true)], args := [d1, d2] }
  | _ => none }
def fnExactContourManyRow : OpenClaim := { program := "ytjodcaeohkjlnab", sum := "f4cbe84a4d2341de711483e9e5dc4309b2ae264b5b345718d7199d16e9f151c5", func := "loop.example/neumes/laws.FnExactContourMany", spec := "fnExactContourMany", apart := false }
def FnExactContourManySaid : Prop := fnExactContourManyRow.holds Try.pinned (OpenSpec.ofChange fnExactContourManySpec)

/-- ITS FALSE NEIGHBOUR: 'it returns false'. Refute it at one input. -/
def fnExactContourManyWrong : ChangeSpec := { name := "fnExactContourMany", fn := fun _ => fun
  | [d1, d2] => { results := [.lit (.bool false)], args := [d1, d2] }
  | _ => none }
def FnExactContourManyWrongFalsely : Prop := fnExactContourManyRow.holds Try.pinned (OpenSpec.ofChange fnExactContourManyWrong)

/-- 'laws.FnExactContourLeast': WHATEVER THE INPUT: true; the input reads as it did. -/
def fnExactContourLeastSpec : ChangeSpec := { name := "fnExactContourLeast", fn := fun _ => fun
  | [d] => { results := [.lit (.bool true)], args := [d] }
  | _ => none }
def fnExactContourLeastRow : OpenClaim := { program := "ytjodcaeohkjlnab", sum := "f4cbe84a4d2341de711483e9e5dc4309b2ae264b5b345718d7199d16e9f151c5", func := "loop.example/neumes/laws.FnExactContourLeast", spec := "fnExactContourLeast", apart := false }
def FnExactContourLeastSaid : Prop := fnExactContourLeastRow.holds Try.pinned (OpenSpec.ofChange fnExactContourLeastSpec)

/-- ITS FALSE NEIGHBOUR: 'it returns false'. Refute it at one input. -/
def fnExactContourLeastWrong : ChangeSpec := { name := "fnExactContourLeast", fn := fun _ => fun
  | [d] => { results := [.lit (.bool false)], args := [d] }
  | _ => none }
def FnExactContourLeastWrongFalsely : Prop := fnExactContourLeastRow.holds Try.pinned (OpenSpec.ofChange fnExactContourLeastWrong)

/-- 'laws.FnExactGroupsValid': WHATEVER THE INPUT: true; the input reads as it did. -/
def fnExactGroupsValidSpec : ChangeSpec := { name := "fnExactGroupsValid", fn := fun _ => fun
  | [d1, d2] => { results := [.lit (.bool true)], args := [d1, d2] }
  | _ => none }
def fnExactGroupsValidRow : OpenClaim := { program := "ytjodcaeohkjlnab", sum := "f4cbe84a4d2341de711483e9e5dc4309b2ae264b5b345718d7199d16e9f151c5", func := "loop.example/neumes/laws.FnExactGroupsValid", spec := "fnExactGroupsValid", apart := false }
def FnExactGroupsValidSaid : Prop := fnExactGroupsValidRow.holds Try.pinned (OpenSpec.ofChange fnExactGroupsValidSpec)

/-- ITS FALSE NEIGHBOUR: 'it returns false'. Refute it at one input. -/
def fnExactGroupsValidWrong : ChangeSpec := { name := "fnExactGroupsValid", fn := fun _ => fun
  | [d1, d2] => { results := [.lit (.bool false)], args := [d1, d2] }
  | _ => none }
def FnExactGroupsValidWrongFalsely : Prop := fnExactGroupsValidRow.holds Try.pinned (OpenSpec.ofChange fnExactGroupsValidWrong)

/-- 'laws.FnExactGroupsCut': WHATEVER THE INPUT: true; the input reads as it did. -/
def fnExactGroupsCutSpec : ChangeSpec := { name := "fnExactGroupsCut", fn := fun _ => fun
  | [d1, d2, d3] => { results := [.lit (.bool true)], args := [d1, d2, d3] }
  | _ => none }
def fnExactGroupsCutRow : OpenClaim := { program := "ytjodcaeohkjlnab", sum := "f4cbe84a4d2341de711483e9e5dc4309b2ae264b5b345718d7199d16e9f151c5", func := "loop.example/neumes/laws.FnExactGroupsCut", spec := "fnExactGroupsCut", apart := false }
def FnExactGroupsCutSaid : Prop := fnExactGroupsCutRow.holds Try.pinned (OpenSpec.ofChange fnExactGroupsCutSpec)

/-- ITS FALSE NEIGHBOUR: 'it returns false'. Refute it at one input. -/
def fnExactGroupsCutWrong : ChangeSpec := { name := "fnExactGroupsCut", fn := fun _ => fun
  | [d1, d2, d3] => { results := [.lit (.bool false)], args := [d1, d2, d3] }
  | _ => none }
def FnExactGroupsCutWrongFalsely : Prop := fnExactGroupsCutRow.holds Try.pinned (OpenSpec.ofChange fnExactGroupsCutWrong)

/-- 'laws.FnExactGroupsJoin': WHATEVER THE INPUT: true; the input reads as it did. -/
def fnExactGroupsJoinSpec : ChangeSpec := { name := "fnExactGroupsJoin", fn := fun _ => fun
  | [d1, d2, d3] => { results := [.lit (.bool true)], args := [d1, d2, d3] }
  | _ => none }
def fnExactGroupsJoinRow : OpenClaim := { program := "ytjodcaeohkjlnab", sum := "f4cbe84a4d2341de711483e9e5dc4309b2ae264b5b345718d7199d16e9f151c5", func := "loop.example/neumes/laws.FnExactGroupsJoin", spec := "fnExactGroupsJoin", inPlace := ["slices.overlaps[loop.example/neumes/impl.Melisma]"], apart := false }
def FnExactGroupsJoinSaid : Prop := fnExactGroupsJoinRow.holds Try.pinned (OpenSpec.ofChange fnExactGroupsJoinSpec)

/-- ITS FALSE NEIGHBOUR: 'it returns false'. Refute it at one input. -/
def fnExactGroupsJoinWrong : ChangeSpec := { name := "fnExactGroupsJoin", fn := fun _ => fun
  | [d1, d2, d3] => { results := [.lit (.bool false)], args := [d1, d2, d3] }
  | _ => none }
def FnExactGroupsJoinWrongFalsely : Prop := fnExactGroupsJoinRow.holds Try.pinned (OpenSpec.ofChange fnExactGroupsJoinWrong)

/-- 'laws.FnExactGroupsSplit': WHATEVER THE INPUT: true; the input reads as it did. -/
def fnExactGroupsSplitSpec : ChangeSpec := { name := "fnExactGroupsSplit", fn := fun _ => fun
  | [d1, d2, d3, d4] => { results := [.lit (.bool true)], args := [d1, d2, d3, d4] }
  | _ => none }
def fnExactGroupsSplitRow : OpenClaim := { program := "ytjodcaeohkjlnab", sum := "f4cbe84a4d2341de711483e9e5dc4309b2ae264b5b345718d7199d16e9f151c5", func := "loop.example/neumes/laws.FnExactGroupsSplit", spec := "fnExactGroupsSplit", inPlace := ["slices.overlaps[loop.example/neumes/impl.Melisma]"], apart := false }
def FnExactGroupsSplitSaid : Prop := fnExactGroupsSplitRow.holds Try.pinned (OpenSpec.ofChange fnExactGroupsSplitSpec)

/-- ITS FALSE NEIGHBOUR: 'it returns false'. Refute it at one input. -/
def fnExactGroupsSplitWrong : ChangeSpec := { name := "fnExactGroupsSplit", fn := fun _ => fun
  | [d1, d2, d3, d4] => { results := [.lit (.bool false)], args := [d1, d2, d3, d4] }
  | _ => none }
def FnExactGroupsSplitWrongFalsely : Prop := fnExactGroupsSplitRow.holds Try.pinned (OpenSpec.ofChange fnExactGroupsSplitWrong)

/- THE SECOND FORM. 'bulk': how many values and letters a reading holds, each counted each time it is reached (what is shared counts as often as it is met; a slice's spare places count too). A statement '..UptoSaid' is the law's where the arguments, and the package variables that the reading takes, are together of bulk at most 1048576: NARROWER than '..Said'. Prove '..Said' where nothing that the law and all that it calls make is longer than what came in: it says more and counts as full. Else prove '..UptoSaid'. A law counts once. -/
mutual
def uptoBulk {H : Type} : DataW H → Nat
  | .lit (.string bytes) => bytes.length + 1
  | .lit _ => 1
  | .nil => 1
  | .ptr d => uptoBulk d + 1
  | .slice elems spare => uptoBulkAll elems + uptoBulkAll spare + 1
  | .agg parts => uptoBulkAll parts + 1
  | .iface _ d => uptoBulk d + 1
  | .map entries => uptoBulkEntries entries + 1
  | .held _ => 1
def uptoBulkAll {H : Type} : List (DataW H) → Nat
  | [] => 0
  | d :: r => uptoBulk d + uptoBulkAll r
def uptoBulkEntries {H : Type} : List (Lit × DataW H) → Nat
  | [] => 0
  | x :: r => uptoBulkEntry x + uptoBulkEntries r
def uptoBulkEntry {H : Type} : Lit × DataW H → Nat
  | (.string bytes, d) => bytes.length + uptoBulk d + 1
  | (_, d) => uptoBulk d + 1
 end
def uptoSmall : (H : Type) → List (DataW H) → Bool := fun _ ds => decide (uptoBulkAll ds ≤ 1048576)
def OpenSpec.upto (s : _root_.Go.ChangeSpec) : _root_.Go.OpenSpec := { _root_.Go.OpenSpec.ofChange s with cond := some uptoSmall }

/-- 'laws.FnContourTurn', WHERE WHAT IT READS IS OF BULK AT MOST 1048576: true; the input reads as it did. -/
def fnContourTurnUptoRow : OpenClaim := { program := "ytjodcaeohkjlnab", sum := "f4cbe84a4d2341de711483e9e5dc4309b2ae264b5b345718d7199d16e9f151c5", func := "loop.example/neumes/laws.FnContourTurn", spec := "fnContourTurn", apart := false, narrowed := true }
def FnContourTurnUptoSaid : Prop := fnContourTurnUptoRow.holds Try.pinned (OpenSpec.upto fnContourTurnSpec)

/-- 'laws.FnContourMany', WHERE WHAT IT READS IS OF BULK AT MOST 1048576: true; the input reads as it did. -/
def fnContourManyUptoRow : OpenClaim := { program := "ytjodcaeohkjlnab", sum := "f4cbe84a4d2341de711483e9e5dc4309b2ae264b5b345718d7199d16e9f151c5", func := "loop.example/neumes/laws.FnContourMany", spec := "fnContourMany", apart := false, narrowed := true }
def FnContourManyUptoSaid : Prop := fnContourManyUptoRow.holds Try.pinned (OpenSpec.upto fnContourManySpec)

/-- 'laws.FnContourLeast', WHERE WHAT IT READS IS OF BULK AT MOST 1048576: true; the input reads as it did. -/
def fnContourLeastUptoRow : OpenClaim := { program := "ytjodcaeohkjlnab", sum := "f4cbe84a4d2341de711483e9e5dc4309b2ae264b5b345718d7199d16e9f151c5", func := "loop.example/neumes/laws.FnContourLeast", spec := "fnContourLeast", apart := false, narrowed := true }
def FnContourLeastUptoSaid : Prop := fnContourLeastUptoRow.holds Try.pinned (OpenSpec.upto fnContourLeastSpec)

/-- 'laws.FnContourLower', WHERE WHAT IT READS IS OF BULK AT MOST 1048576: true; the input reads as it did. -/
def fnContourLowerUptoRow : OpenClaim := { program := "ytjodcaeohkjlnab", sum := "f4cbe84a4d2341de711483e9e5dc4309b2ae264b5b345718d7199d16e9f151c5", func := "loop.example/neumes/laws.FnContourLower", spec := "fnContourLower", apart := false, narrowed := true }
def FnContourLowerUptoSaid : Prop := fnContourLowerUptoRow.holds Try.pinned (OpenSpec.upto fnContourLowerSpec)

/-- 'laws.FnGroupsJoin', WHERE WHAT IT READS IS OF BULK AT MOST 1048576: true; the input reads as it did. -/
def fnGroupsJoinUptoRow : OpenClaim := { program := "ytjodcaeohkjlnab", sum := "f4cbe84a4d2341de711483e9e5dc4309b2ae264b5b345718d7199d16e9f151c5", func := "loop.example/neumes/laws.FnGroupsJoin", spec := "fnGroupsJoin", inPlace := ["slices.overlaps[loop.example/neumes/impl.Melisma]"], apart := false, narrowed := true }
def FnGroupsJoinUptoSaid : Prop := fnGroupsJoinUptoRow.holds Try.pinned (OpenSpec.upto fnGroupsJoinSpec)

/-- 'laws.FnGroupsSplit', WHERE WHAT IT READS IS OF BULK AT MOST 1048576: true; the input reads as it did. -/
def fnGroupsSplitUptoRow : OpenClaim := { program := "ytjodcaeohkjlnab", sum := "f4cbe84a4d2341de711483e9e5dc4309b2ae264b5b345718d7199d16e9f151c5", func := "loop.example/neumes/laws.FnGroupsSplit", spec := "fnGroupsSplit", inPlace := ["slices.overlaps[loop.example/neumes/impl.Melisma]"], unfollowed := true, recurses := true, apart := false, narrowed := true }
def FnGroupsSplitUptoSaid : Prop := fnGroupsSplitUptoRow.holds Try.pinned (OpenSpec.upto fnGroupsSplitSpec)

/-- 'laws.FnExactContourOf', WHERE WHAT IT READS IS OF BULK AT MOST 1048576: true; the input reads as it did. -/
def fnExactContourOfUptoRow : OpenClaim := { program := "ytjodcaeohkjlnab", sum := "f4cbe84a4d2341de711483e9e5dc4309b2ae264b5b345718d7199d16e9f151c5", func := "loop.example/neumes/laws.FnExactContourOf", spec := "fnExactContourOf", unfollowed := true, recurses := true, apart := false, narrowed := true }
def FnExactContourOfUptoSaid : Prop := fnExactContourOfUptoRow.holds Try.pinned (OpenSpec.upto fnExactContourOfSpec)

/-- 'laws.FnExactContourTurn', WHERE WHAT IT READS IS OF BULK AT MOST 1048576: true; the input reads as it did. -/
def fnExactContourTurnUptoRow : OpenClaim := { program := "ytjodcaeohkjlnab", sum := "f4cbe84a4d2341de711483e9e5dc4309b2ae264b5b345718d7199d16e9f151c5", func := "loop.example/neumes/laws.FnExactContourTurn", spec := "fnExactContourTurn", apart := false, narrowed := true }
def FnExactContourTurnUptoSaid : Prop := fnExactContourTurnUptoRow.holds Try.pinned (OpenSpec.upto fnExactContourTurnSpec)

/-- 'laws.FnExactContourBack', WHERE WHAT IT READS IS OF BULK AT MOST 1048576: true; the input reads as it did. -/
def fnExactContourBackUptoRow : OpenClaim := { program := "ytjodcaeohkjlnab", sum := "f4cbe84a4d2341de711483e9e5dc4309b2ae264b5b345718d7199d16e9f151c5", func := "loop.example/neumes/laws.FnExactContourBack", spec := "fnExactContourBack", apart := false, narrowed := true }
def FnExactContourBackUptoSaid : Prop := fnExactContourBackUptoRow.holds Try.pinned (OpenSpec.upto fnExactContourBackSpec)

/-- 'laws.FnExactContourMany', WHERE WHAT IT READS IS OF BULK AT MOST 1048576: true; the input reads as it did. -/
def fnExactContourManyUptoRow : OpenClaim := { program := "ytjodcaeohkjlnab", sum := "f4cbe84a4d2341de711483e9e5dc4309b2ae264b5b345718d7199d16e9f151c5", func := "loop.example/neumes/laws.FnExactContourMany", spec := "fnExactContourMany", apart := false, narrowed := true }
def FnExactContourManyUptoSaid : Prop := fnExactContourManyUptoRow.holds Try.pinned (OpenSpec.upto fnExactContourManySpec)

/-- 'laws.FnExactContourLeast', WHERE WHAT IT READS IS OF BULK AT MOST 1048576: true; the input reads as it did. -/
def fnExactContourLeastUptoRow : OpenClaim := { program := "ytjodcaeohkjlnab", sum := "f4cbe84a4d2341de711483e9e5dc4309b2ae264b5b345718d7199d16e9f151c5", func := "loop.example/neumes/laws.FnExactContourLeast", spec := "fnExactContourLeast", apart := false, narrowed := true }
def FnExactContourLeastUptoSaid : Prop := fnExactContourLeastUptoRow.holds Try.pinned (OpenSpec.upto fnExactContourLeastSpec)

/-- 'laws.FnExactGroupsValid', WHERE WHAT IT READS IS OF BULK AT MOST 1048576: true; the input reads as it did. -/
def fnExactGroupsValidUptoRow : OpenClaim := { program := "ytjodcaeohkjlnab", sum := "f4cbe84a4d2341de711483e9e5dc4309b2ae264b5b345718d7199d16e9f151c5", func := "loop.example/neumes/laws.FnExactGroupsValid", spec := "fnExactGroupsValid", apart := false, narrowed := true }
def FnExactGroupsValidUptoSaid : Prop := fnExactGroupsValidUptoRow.holds Try.pinned (OpenSpec.upto fnExactGroupsValidSpec)

/-- 'laws.FnExactGroupsCut', WHERE WHAT IT READS IS OF BULK AT MOST 1048576: true; the input reads as it did. -/
def fnExactGroupsCutUptoRow : OpenClaim := { program := "ytjodcaeohkjlnab", sum := "f4cbe84a4d2341de711483e9e5dc4309b2ae264b5b345718d7199d16e9f151c5", func := "loop.example/neumes/laws.FnExactGroupsCut", spec := "fnExactGroupsCut", apart := false, narrowed := true }
def FnExactGroupsCutUptoSaid : Prop := fnExactGroupsCutUptoRow.holds Try.pinned (OpenSpec.upto fnExactGroupsCutSpec)

/-- 'laws.FnExactGroupsJoin', WHERE WHAT IT READS IS OF BULK AT MOST 1048576: true; the input reads as it did. -/
def fnExactGroupsJoinUptoRow : OpenClaim := { program := "ytjodcaeohkjlnab", sum := "f4cbe84a4d2341de711483e9e5dc4309b2ae264b5b345718d7199d16e9f151c5", func := "loop.example/neumes/laws.FnExactGroupsJoin", spec := "fnExactGroupsJoin", inPlace := ["slices.overlaps[loop.example/neumes/impl.Melisma]"], apart := false, narrowed := true }
def FnExactGroupsJoinUptoSaid : Prop := fnExactGroupsJoinUptoRow.holds Try.pinned (OpenSpec.upto fnExactGroupsJoinSpec)

/-- 'laws.FnExactGroupsSplit', WHERE WHAT IT READS IS OF BULK AT MOST 1048576: true; the input reads as it did. -/
def fnExactGroupsSplitUptoRow : OpenClaim := { program := "ytjodcaeohkjlnab", sum := "f4cbe84a4d2341de711483e9e5dc4309b2ae264b5b345718d7199d16e9f151c5", func := "loop.example/neumes/laws.FnExactGroupsSplit", spec := "fnExactGroupsSplit", inPlace := ["slices.overlaps[loop.example/neumes/impl.Melisma]"], apart := false, narrowed := true }
def FnExactGroupsSplitUptoSaid : Prop := fnExactGroupsSplitUptoRow.holds Try.pinned (OpenSpec.upto fnExactGroupsSplitSpec)

end Rows
end Go.Proofs.Ytjodcaeohkjlnab
