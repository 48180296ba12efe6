/-
  The draw of a tone alone returns.
-/
import Derived.Test.YtjodcaeohkjlnaaDoorDraw2
namespace Go.Proofs.YtjodcaeohkjlnaaDoor
open Go.RowKit
set_option maxRecDepth 100000
set_option linter.unusedVariables false

def DrewTone (w : World) (e : Ending) (w' : World) : Prop :=
  ∃ (s : Int) (b : Bool), e = .returned (.agg #[.int .i64 s, .bool b]) ∧ -1 ≤ s ∧ s ≤ 21 ∧ Below w.heap.size w w'
end Go.Proofs.YtjodcaeohkjlnaaDoor
