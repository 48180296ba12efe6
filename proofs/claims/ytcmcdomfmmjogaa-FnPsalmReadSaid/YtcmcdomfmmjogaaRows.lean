/-
  No cell of these rows narrows 'for every input' (looked for: loops, veiled, ifaces, maps, wideKeys, modest, calm, conditions, laid).
  DERIVED. THE GIVEN ROWS OF THIS SEAT. 11 by the template 'for every input the law returns true; each argument reads behind the call as it read before'; 0 by the template 'total and deterministic' (their statements: YtcmcdomfmmjogaaTotals.lean).
  GIVEN WITH THE SEED: the statements are not yours to turn. If you find one false, say at which input.
  Laid BY PROGRAM, IN A SANDBOX (cutbox-rows.mjs): the forced cells as the released guide's own fill.sh prints them over the translation 91316ede60eadb61… (all of the seat's roots in one cut). By AI agents, Wed Nov 11 2026. No macro, syntax, notation, axiom, sorry.
-/
import Derived.Test.YtcmcdomfmmjogaaChecked
import GoSem.Claim
import GoSem.ClaimJoined
import GoSem.ClaimMapViews
import Derived.JoinedTies
import Derived.KernelRfl
namespace Go.Proofs.Ytcmcdomfmmjogaa
/- THE CELL 'sum', in the pinned program and in every row, IS THE sha256 OF THE DUMP (.gsa) THAT YtcmcdomfmmjogaaProg.lean LOADS. Nothing in Lean hashes anything: it is a label: what it is worth is what the hold of that sum in a sandbox is worth. -/
noncomputable def Try.pinned : Pinned := { name := "ytcmcdomfmmjogaa", sum := "91316ede60eadb612cbdfb39f21a82833da5ee316dfe9d830d5a2753a50a4af9", checked := Try.checked }
namespace Rows
def none {H : Type} : Left H := { results := [], args := [] }

/-- 'laws.FnPsalm': WHATEVER THE INPUT: true; the input reads as it did. -/
def fnPsalmSpec : ChangeSpec := { name := "fnPsalm", fn := fun _ => fun
  | [d] => { results := [.lit (.bool true)], args := [d] }
  | _ => none }
def fnPsalmRow : OpenClaim := { program := "ytcmcdomfmmjogaa", sum := "91316ede60eadb612cbdfb39f21a82833da5ee316dfe9d830d5a2753a50a4af9", func := "loop.example/neumes/laws.FnPsalm", spec := "fnPsalm", inPlace := ["internal/bytealg.IndexByteString", "internal/bytealg.IndexString"], unfollowed := true, recurses := true, named := ["internal/bytealg.MaxLen"], apart := false }
def FnPsalmSaid : Prop := fnPsalmRow.holds Try.pinned (OpenSpec.ofChange fnPsalmSpec)

/-- ITS FALSE NEIGHBOUR: 'it returns false'. Refute it at one input. -/
def fnPsalmWrong : ChangeSpec := { name := "fnPsalm", fn := fun _ => fun
  | [d] => { results := [.lit (.bool false)], args := [d] }
  | _ => none }
def FnPsalmWrongFalsely : Prop := fnPsalmRow.holds Try.pinned (OpenSpec.ofChange fnPsalmWrong)

/-- 'laws.FnPsalmMore': WHATEVER THE INPUT: true; the input reads as it did. -/
def fnPsalmMoreSpec : ChangeSpec := { name := "fnPsalmMore", fn := fun _ => fun
  | [d] => { results := [.lit (.bool true)], args := [d] }
  | _ => none }
def fnPsalmMoreRow : OpenClaim := { program := "ytcmcdomfmmjogaa", sum := "91316ede60eadb612cbdfb39f21a82833da5ee316dfe9d830d5a2753a50a4af9", func := "loop.example/neumes/laws.FnPsalmMore", spec := "fnPsalmMore", inPlace := ["internal/bytealg.IndexByteString", "internal/bytealg.IndexString"], unfollowed := true, recurses := true, named := ["internal/bytealg.MaxLen"], apart := false }
def FnPsalmMoreSaid : Prop := fnPsalmMoreRow.holds Try.pinned (OpenSpec.ofChange fnPsalmMoreSpec)

/-- ITS FALSE NEIGHBOUR: 'it returns false'. Refute it at one input. -/
def fnPsalmMoreWrong : ChangeSpec := { name := "fnPsalmMore", fn := fun _ => fun
  | [d] => { results := [.lit (.bool false)], args := [d] }
  | _ => none }
def FnPsalmMoreWrongFalsely : Prop := fnPsalmMoreRow.holds Try.pinned (OpenSpec.ofChange fnPsalmMoreWrong)

/-- 'laws.FnPsalmFits': WHATEVER THE INPUT: true; the input reads as it did. -/
def fnPsalmFitsSpec : ChangeSpec := { name := "fnPsalmFits", fn := fun _ => fun
  | [d] => { results := [.lit (.bool true)], args := [d] }
  | _ => none }
def fnPsalmFitsRow : OpenClaim := { program := "ytcmcdomfmmjogaa", sum := "91316ede60eadb612cbdfb39f21a82833da5ee316dfe9d830d5a2753a50a4af9", func := "loop.example/neumes/laws.FnPsalmFits", spec := "fnPsalmFits", inPlace := ["internal/bytealg.IndexByteString", "internal/bytealg.IndexString"], unfollowed := true, recurses := true, named := ["internal/bytealg.MaxLen"], apart := false }
def FnPsalmFitsSaid : Prop := fnPsalmFitsRow.holds Try.pinned (OpenSpec.ofChange fnPsalmFitsSpec)

/-- ITS FALSE NEIGHBOUR: 'it returns false'. Refute it at one input. -/
def fnPsalmFitsWrong : ChangeSpec := { name := "fnPsalmFits", fn := fun _ => fun
  | [d] => { results := [.lit (.bool false)], args := [d] }
  | _ => none }
def FnPsalmFitsWrongFalsely : Prop := fnPsalmFitsRow.holds Try.pinned (OpenSpec.ofChange fnPsalmFitsWrong)

/-- 'laws.FnPsalmAccents': WHATEVER THE INPUT: true; the input reads as it did. -/
def fnPsalmAccentsSpec : ChangeSpec := { name := "fnPsalmAccents", fn := fun _ => fun
  | [d] => { results := [.lit (.bool true)], args := [d] }
  | _ => none }
def fnPsalmAccentsRow : OpenClaim := { program := "ytcmcdomfmmjogaa", sum := "91316ede60eadb612cbdfb39f21a82833da5ee316dfe9d830d5a2753a50a4af9", func := "loop.example/neumes/laws.FnPsalmAccents", spec := "fnPsalmAccents", inPlace := ["internal/bytealg.IndexByteString", "internal/bytealg.IndexString"], unfollowed := true, recurses := true, named := ["internal/bytealg.MaxLen"], apart := false }
def FnPsalmAccentsSaid : Prop := fnPsalmAccentsRow.holds Try.pinned (OpenSpec.ofChange fnPsalmAccentsSpec)

/-- ITS FALSE NEIGHBOUR: 'it returns false'. Refute it at one input. -/
def fnPsalmAccentsWrong : ChangeSpec := { name := "fnPsalmAccents", fn := fun _ => fun
  | [d] => { results := [.lit (.bool false)], args := [d] }
  | _ => none }
def FnPsalmAccentsWrongFalsely : Prop := fnPsalmAccentsRow.holds Try.pinned (OpenSpec.ofChange fnPsalmAccentsWrong)

/-- 'laws.FnPsalmBest': WHATEVER THE INPUT: true; the input reads as it did. -/
def fnPsalmBestSpec : ChangeSpec := { name := "fnPsalmBest", fn := fun _ => fun
  | [d] => { results := [.lit (.bool true)], args := [d] }
  | _ => none }
def fnPsalmBestRow : OpenClaim := { program := "ytcmcdomfmmjogaa", sum := "91316ede60eadb612cbdfb39f21a82833da5ee316dfe9d830d5a2753a50a4af9", func := "loop.example/neumes/laws.FnPsalmBest", spec := "fnPsalmBest", inPlace := ["internal/bytealg.IndexByteString", "internal/bytealg.IndexString"], unfollowed := true, recurses := true, named := ["internal/bytealg.MaxLen"], apart := false }
def FnPsalmBestSaid : Prop := fnPsalmBestRow.holds Try.pinned (OpenSpec.ofChange fnPsalmBestSpec)

/-- ITS FALSE NEIGHBOUR: 'it returns false'. Refute it at one input. -/
def fnPsalmBestWrong : ChangeSpec := { name := "fnPsalmBest", fn := fun _ => fun
  | [d] => { results := [.lit (.bool false)], args := [d] }
  | _ => none }
def FnPsalmBestWrongFalsely : Prop := fnPsalmBestRow.holds Try.pinned (OpenSpec.ofChange fnPsalmBestWrong)

/-- 'laws.FnPsalmRead': WHATEVER THE INPUT: true; the input reads as it did. -/
def fnPsalmReadSpec : ChangeSpec := { name := "fnPsalmRead", fn := fun _ => fun
  | [d1, d2] => { results := [.lit (.bool true)], args := [d1, d2] }
  | _ => none }
def fnPsalmReadRow : OpenClaim := { program := "ytcmcdomfmmjogaa", sum := "91316ede60eadb612cbdfb39f21a82833da5ee316dfe9d830d5a2753a50a4af9", func := "loop.example/neumes/laws.FnPsalmRead", spec := "fnPsalmRead", inPlace := ["internal/bytealg.IndexByteString", "internal/bytealg.IndexString"], unfollowed := true, recurses := true, named := ["internal/bytealg.MaxLen"], apart := false }
def FnPsalmReadSaid : Prop := fnPsalmReadRow.holds Try.pinned (OpenSpec.ofChange fnPsalmReadSpec)

/-- ITS FALSE NEIGHBOUR: 'it returns false'. Refute it at one input. -/
def fnPsalmReadWrong : ChangeSpec := { name := "fnPsalmRead", fn := fun _ => fun
  | [d1, d2] => { results := [.lit (.bool false)], args := [d1, d2] }
  | _ => none }
def FnPsalmReadWrongFalsely : Prop := fnPsalmReadRow.holds Try.pinned (OpenSpec.ofChange fnPsalmReadWrong)

/-- 'laws.FnExactPsalmValid': WHATEVER THE INPUT: true; the input reads as it did. -/
def fnExactPsalmValidSpec : ChangeSpec := { name := "fnExactPsalmValid", fn := fun _ => fun
  | [d] => { results := [.lit (.bool true)], args := [d] }
  | _ => none }
def fnExactPsalmValidRow : OpenClaim := { program := "ytcmcdomfmmjogaa", sum := "91316ede60eadb612cbdfb39f21a82833da5ee316dfe9d830d5a2753a50a4af9", func := "loop.example/neumes/laws.FnExactPsalmValid", spec := "fnExactPsalmValid", apart := false }
def FnExactPsalmValidSaid : Prop := fnExactPsalmValidRow.holds Try.pinned (OpenSpec.ofChange fnExactPsalmValidSpec)

/-- ITS FALSE NEIGHBOUR: 'it returns false'. Refute it at one input. -/
def fnExactPsalmValidWrong : ChangeSpec := { name := "fnExactPsalmValid", fn := fun _ => fun
  | [d] => { results := [.lit (.bool false)], args := [d] }
  | _ => none }
def FnExactPsalmValidWrongFalsely : Prop := fnExactPsalmValidRow.holds Try.pinned (OpenSpec.ofChange fnExactPsalmValidWrong)

/-- 'laws.FnExactPsalmFits': WHATEVER THE INPUT: true; the input reads as it did. -/
def fnExactPsalmFitsSpec : ChangeSpec := { name := "fnExactPsalmFits", fn := fun _ => fun
  | [d1, d2] => { results := [.lit (.bool true)], args := [d1, d2] }
  | _ => none }
def fnExactPsalmFitsRow : OpenClaim := { program := "ytcmcdomfmmjogaa", sum := "91316ede60eadb612cbdfb39f21a82833da5ee316dfe9d830d5a2753a50a4af9", func := "loop.example/neumes/laws.FnExactPsalmFits", spec := "fnExactPsalmFits", inPlace := ["internal/bytealg.IndexByteString", "internal/bytealg.IndexString"], unfollowed := true, recurses := true, named := ["internal/bytealg.MaxLen"], apart := false }
def FnExactPsalmFitsSaid : Prop := fnExactPsalmFitsRow.holds Try.pinned (OpenSpec.ofChange fnExactPsalmFitsSpec)

/-- ITS FALSE NEIGHBOUR: 'it returns false'. Refute it at one input. -/
def fnExactPsalmFitsWrong : ChangeSpec := { name := "fnExactPsalmFits", fn := fun _ => fun
  | [d1, d2] => { results := [.lit (.bool false)], args := [d1, d2] }
  | _ => none }
def FnExactPsalmFitsWrongFalsely : Prop := fnExactPsalmFitsRow.holds Try.pinned (OpenSpec.ofChange fnExactPsalmFitsWrong)

/-- 'laws.FnExactPsalmSing': WHATEVER THE INPUT: true; the input reads as it did. -/
def fnExactPsalmSingSpec : ChangeSpec := { name := "fnExactPsalmSing", fn := fun _ => fun
  | [d1, d2] => { results := [.lit (.bool true)], args := [d1, d2] }
  | _ => none }
def fnExactPsalmSingRow : OpenClaim := { program := "ytcmcdomfmmjogaa", sum := "91316ede60eadb612cbdfb39f21a82833da5ee316dfe9d830d5a2753a50a4af9", func := "loop.example/neumes/laws.FnExactPsalmSing", spec := "fnExactPsalmSing", inPlace := ["internal/bytealg.IndexByteString", "internal/bytealg.IndexString"], unfollowed := true, recurses := true, named := ["internal/bytealg.MaxLen"], apart := false }
def FnExactPsalmSingSaid : Prop := fnExactPsalmSingRow.holds Try.pinned (OpenSpec.ofChange fnExactPsalmSingSpec)

/-- ITS FALSE NEIGHBOUR: 'it returns false'. Refute it at one input. -/
def fnExactPsalmSingWrong : ChangeSpec := { name := "fnExactPsalmSing", fn := fun _ => fun
  | [d1, d2] => { results := [.lit (.bool false)], args := [d1, d2] }
  | _ => none }
def FnExactPsalmSingWrongFalsely : Prop := fnExactPsalmSingRow.holds Try.pinned (OpenSpec.ofChange fnExactPsalmSingWrong)

/-- 'laws.FnExactPsalmTenors': WHATEVER THE INPUT: true; the input reads as it did. -/
def fnExactPsalmTenorsSpec : ChangeSpec := { name := "fnExactPsalmTenors", fn := fun _ => fun
  | [d1, d2] => { results := [.lit (.bool true)], args := [d1, d2] }
  | _ => none }
def fnExactPsalmTenorsRow : OpenClaim := { program := "ytcmcdomfmmjogaa", sum := "91316ede60eadb612cbdfb39f21a82833da5ee316dfe9d830d5a2753a50a4af9", func := "loop.example/neumes/laws.FnExactPsalmTenors", spec := "fnExactPsalmTenors", inPlace := ["internal/bytealg.IndexByteString", "internal/bytealg.IndexString"], unfollowed := true, recurses := true, named := ["internal/bytealg.MaxLen"], apart := false }
def FnExactPsalmTenorsSaid : Prop := fnExactPsalmTenorsRow.holds Try.pinned (OpenSpec.ofChange fnExactPsalmTenorsSpec)

/-- ITS FALSE NEIGHBOUR: 'it returns false'. Refute it at one input. -/
def fnExactPsalmTenorsWrong : ChangeSpec := { name := "fnExactPsalmTenors", fn := fun _ => fun
  | [d1, d2] => { results := [.lit (.bool false)], args := [d1, d2] }
  | _ => none }
def FnExactPsalmTenorsWrongFalsely : Prop := fnExactPsalmTenorsRow.holds Try.pinned (OpenSpec.ofChange fnExactPsalmTenorsWrong)

/-- 'laws.FnExactPsalmAccents': WHATEVER THE INPUT: true; the input reads as it did. -/
def fnExactPsalmAccentsSpec : ChangeSpec := { name := "fnExactPsalmAccents", fn := fun _ => fun
  | [d1, d2] => { results := [.lit (.bool true)], args := [d1, d2] }
  | _ => none }
def fnExactPsalmAccentsRow : OpenClaim := { program := "ytcmcdomfmmjogaa", sum := "91316ede60eadb612cbdfb39f21a82833da5ee316dfe9d830d5a2753a50a4af9", func := "loop.example/neumes/laws.FnExactPsalmAccents", spec := "fnExactPsalmAccents", inPlace := ["internal/bytealg.IndexByteString", "internal/bytealg.IndexString"], unfollowed := true, recurses := true, named := ["internal/bytealg.MaxLen"], apart := false }
def FnExactPsalmAccentsSaid : Prop := fnExactPsalmAccentsRow.holds Try.pinned (OpenSpec.ofChange fnExactPsalmAccentsSpec)

/-- ITS FALSE NEIGHBOUR: 'it returns false'. Refute it at one input. -/
def fnExactPsalmAccentsWrong : ChangeSpec := { name := "fnExactPsalmAccents", fn := fun _ => fun
  | [d1, d2] => { results := [.lit (.bool false)], args := [d1, d2] }
  | _ => none }
def FnExactPsalmAccentsWrongFalsely : Prop := fnExactPsalmAccentsRow.holds Try.pinned (OpenSpec.ofChange fnExactPsalmAccentsWrong)

/- THE SECOND FORM. 'bulk': how many values and letters a reading holds, each counted each time it is reached (what is shared counts as often as it is met; a slice's spare places count too). A statement '..UptoSaid' is the law's where the arguments, and the package variables that the reading takes, are together of bulk at most 1048576: NARROWER than '..Said'. Prove '..Said' where nothing that the law and all that it calls make is longer than what came in: it says more and counts as full. Else prove '..UptoSaid'. A law counts once. -/
mutual
def uptoBulk {H : Type} : DataW H → Nat
  | .lit (.string bytes) => bytes.length + 1
  | .lit _ => 1
  | .nil => 1
  | .ptr d => uptoBulk d + 1
  | .slice elems spare => uptoBulkAll elems + uptoBulkAll spare + 1
  | .agg parts => uptoBulkAll parts + 1
  | .iface _ d => uptoBulk d + 1
  | .map entries => uptoBulkEntries entries + 1
  | .held _ => 1
def uptoBulkAll {H : Type} : List (DataW H) → Nat
  | [] => 0
  | d :: r => uptoBulk d + uptoBulkAll r
def uptoBulkEntries {H : Type} : List (Lit × DataW H) → Nat
  | [] => 0
  | x :: r => uptoBulkEntry x + uptoBulkEntries r
def uptoBulkEntry {H : Type} : Lit × DataW H → Nat
  | (.string bytes, d) => bytes.length + uptoBulk d + 1
  | (_, d) => uptoBulk d + 1
 end
def uptoSmall : (H : Type) → List (DataW H) → Bool := fun _ ds => decide (uptoBulkAll ds ≤ 1048576)
def OpenSpec.upto (s : _root_.Go.ChangeSpec) : _root_.Go.OpenSpec := { _root_.Go.OpenSpec.ofChange s with cond := some uptoSmall }

/-- 'laws.FnPsalm', WHERE WHAT IT READS IS OF BULK AT MOST 1048576: true; the input reads as it did. -/
def fnPsalmUptoRow : OpenClaim := { program := "ytcmcdomfmmjogaa", sum := "91316ede60eadb612cbdfb39f21a82833da5ee316dfe9d830d5a2753a50a4af9", func := "loop.example/neumes/laws.FnPsalm", spec := "fnPsalm", inPlace := ["internal/bytealg.IndexByteString", "internal/bytealg.IndexString"], unfollowed := true, recurses := true, named := ["internal/bytealg.MaxLen"], apart := false, narrowed := true }
def FnPsalmUptoSaid : Prop := fnPsalmUptoRow.holds Try.pinned (OpenSpec.upto fnPsalmSpec)

/-- 'laws.FnPsalmMore', WHERE WHAT IT READS IS OF BULK AT MOST 1048576: true; the input reads as it did. -/
def fnPsalmMoreUptoRow : OpenClaim := { program := "ytcmcdomfmmjogaa", sum := "91316ede60eadb612cbdfb39f21a82833da5ee316dfe9d830d5a2753a50a4af9", func := "loop.example/neumes/laws.FnPsalmMore", spec := "fnPsalmMore", inPlace := ["internal/bytealg.IndexByteString", "internal/bytealg.IndexString"], unfollowed := true, recurses := true, named := ["internal/bytealg.MaxLen"], apart := false, narrowed := true }
def FnPsalmMoreUptoSaid : Prop := fnPsalmMoreUptoRow.holds Try.pinned (OpenSpec.upto fnPsalmMoreSpec)

/-- 'laws.FnPsalmFits', WHERE WHAT IT READS IS OF BULK AT MOST 1048576: true; the input reads as it did. -/
def fnPsalmFitsUptoRow : OpenClaim := { program := "ytcmcdomfmmjogaa", sum := "91316ede60eadb612cbdfb39f21a82833da5ee316dfe9d830d5a2753a50a4af9", func := "loop.example/neumes/laws.FnPsalmFits", spec := "fnPsalmFits", inPlace := ["internal/bytealg.IndexByteString", "internal/bytealg.IndexString"], unfollowed := true, recurses := true, named := ["internal/bytealg.MaxLen"], apart := false, narrowed := true }
def FnPsalmFitsUptoSaid : Prop := fnPsalmFitsUptoRow.holds Try.pinned (OpenSpec.upto fnPsalmFitsSpec)

/-- 'laws.FnPsalmAccents', WHERE WHAT IT READS IS OF BULK AT MOST 1048576: true; the input reads as it did. -/
def fnPsalmAccentsUptoRow : OpenClaim := { program := "ytcmcdomfmmjogaa", sum := "91316ede60eadb612cbdfb39f21a82833da5ee316dfe9d830d5a2753a50a4af9", func := "loop.example/neumes/laws.FnPsalmAccents", spec := "fnPsalmAccents", inPlace := ["internal/bytealg.IndexByteString", "internal/bytealg.IndexString"], unfollowed := true, recurses := true, named := ["internal/bytealg.MaxLen"], apart := false, narrowed := true }
def FnPsalmAccentsUptoSaid : Prop := fnPsalmAccentsUptoRow.holds Try.pinned (OpenSpec.upto fnPsalmAccentsSpec)

/-- 'laws.FnPsalmBest', WHERE WHAT IT READS IS OF BULK AT MOST 1048576: true; the input reads as it did. -/
def fnPsalmBestUptoRow : OpenClaim := { program := "ytcmcdomfmmjogaa", sum := "91316ede60eadb612cbdfb39f21a82833da5ee316dfe9d830d5a2753a50a4af9", func := "loop.example/neumes/laws.FnPsalmBest", spec := "fnPsalmBest", inPlace := ["internal/bytealg.IndexByteString", "internal/bytealg.IndexString"], unfollowed := true, recurses := true, named := ["internal/bytealg.MaxLen"], apart := false, narrowed := true }
def FnPsalmBestUptoSaid : Prop := fnPsalmBestUptoRow.holds Try.pinned (OpenSpec.upto fnPsalmBestSpec)

/-- 'laws.FnPsalmRead', WHERE WHAT IT READS IS OF BULK AT MOST 1048576: true; the input reads as it did. -/
def fnPsalmReadUptoRow : OpenClaim := { program := "ytcmcdomfmmjogaa", sum := "91316ede60eadb612cbdfb39f21a82833da5ee316dfe9d830d5a2753a50a4af9", func := "loop.example/neumes/laws.FnPsalmRead", spec := "fnPsalmRead", inPlace := ["internal/bytealg.IndexByteString", "internal/bytealg.IndexString"], unfollowed := true, recurses := true, named := ["internal/bytealg.MaxLen"], apart := false, narrowed := true }
def FnPsalmReadUptoSaid : Prop := fnPsalmReadUptoRow.holds Try.pinned (OpenSpec.upto fnPsalmReadSpec)

/-- 'laws.FnExactPsalmValid', WHERE WHAT IT READS IS OF BULK AT MOST 1048576: true; the input reads as it did. -/
def fnExactPsalmValidUptoRow : OpenClaim := { program := "ytcmcdomfmmjogaa", sum := "91316ede60eadb612cbdfb39f21a82833da5ee316dfe9d830d5a2753a50a4af9", func := "loop.example/neumes/laws.FnExactPsalmValid", spec := "fnExactPsalmValid", apart := false, narrowed := true }
def FnExactPsalmValidUptoSaid : Prop := fnExactPsalmValidUptoRow.holds Try.pinned (OpenSpec.upto fnExactPsalmValidSpec)

/-- 'laws.FnExactPsalmFits', WHERE WHAT IT READS IS OF BULK AT MOST 1048576: true; the input reads as it did. -/
def fnExactPsalmFitsUptoRow : OpenClaim := { program := "ytcmcdomfmmjogaa", sum := "91316ede60eadb612cbdfb39f21a82833da5ee316dfe9d830d5a2753a50a4af9", func := "loop.example/neumes/laws.FnExactPsalmFits", spec := "fnExactPsalmFits", inPlace := ["internal/bytealg.IndexByteString", "internal/bytealg.IndexString"], unfollowed := true, recurses := true, named := ["internal/bytealg.MaxLen"], apart := false, narrowed := true }
def FnExactPsalmFitsUptoSaid : Prop := fnExactPsalmFitsUptoRow.holds Try.pinned (OpenSpec.upto fnExactPsalmFitsSpec)

/-- 'laws.FnExactPsalmSing', WHERE WHAT IT READS IS OF BULK AT MOST 1048576: true; the input reads as it did. -/
def fnExactPsalmSingUptoRow : OpenClaim := { program := "ytcmcdomfmmjogaa", sum := "91316ede60eadb612cbdfb39f21a82833da5ee316dfe9d830d5a2753a50a4af9", func := "loop.example/neumes/laws.FnExactPsalmSing", spec := "fnExactPsalmSing", inPlace := ["internal/bytealg.IndexByteString", "internal/bytealg.IndexString"], unfollowed := true, recurses := true, named := ["internal/bytealg.MaxLen"], apart := false, narrowed := true }
def FnExactPsalmSingUptoSaid : Prop := fnExactPsalmSingUptoRow.holds Try.pinned (OpenSpec.upto fnExactPsalmSingSpec)

/-- 'laws.FnExactPsalmTenors', WHERE WHAT IT READS IS OF BULK AT MOST 1048576: true; the input reads as it did. -/
def fnExactPsalmTenorsUptoRow : OpenClaim := { program := "ytcmcdomfmmjogaa", sum := "91316ede60eadb612cbdfb39f21a82833da5ee316dfe9d830d5a2753a50a4af9", func := "loop.example/neumes/laws.FnExactPsalmTenors", spec := "fnExactPsalmTenors", inPlace := ["internal/bytealg.IndexByteString", "internal/bytealg.IndexString"], unfollowed := true, recurses := true, named := ["internal/bytealg.MaxLen"], apart := false, narrowed := true }
def FnExactPsalmTenorsUptoSaid : Prop := fnExactPsalmTenorsUptoRow.holds Try.pinned (OpenSpec.upto fnExactPsalmTenorsSpec)

/-- 'laws.FnExactPsalmAccents', WHERE WHAT IT READS IS OF BULK AT MOST 1048576: true; the input reads as it did. -/
def fnExactPsalmAccentsUptoRow : OpenClaim := { program := "ytcmcdomfmmjogaa", sum := "91316ede60eadb612cbdfb39f21a82833da5ee316dfe9d830d5a2753a50a4af9", func := "loop.example/neumes/laws.FnExactPsalmAccents", spec := "fnExactPsalmAccents", inPlace := ["internal/bytealg.IndexByteString", "internal/bytealg.IndexString"], unfollowed := true, recurses := true, named := ["internal/bytealg.MaxLen"], apart := false, narrowed := true }
def FnExactPsalmAccentsUptoSaid : Prop := fnExactPsalmAccentsUptoRow.holds Try.pinned (OpenSpec.upto fnExactPsalmAccentsSpec)

end Rows
end Go.Proofs.Ytcmcdomfmmjogaa
