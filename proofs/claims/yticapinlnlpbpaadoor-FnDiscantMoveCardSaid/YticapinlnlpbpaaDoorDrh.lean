/-
  The draw of a rhythmic mode and a number.
-/
import Derived.Test.YticapinlnlpbpaaDoorDraw2
import Derived.Test.YticapinlnlpbpaaDoorCode
namespace Go.Proofs.YticapinlnlpbpaaDoor
open Go.RowKit
set_option maxRecDepth 100000
set_option linter.unusedVariables false

/-- a rhythmic mode of a draw, and the reader -/
def FtPicked (B A q : Nat) (w : World) (e : Ending) (w' : World) : Prop :=
  ∃ k : Int, e = .returned (.int .i64 k) ∧ -1 ≤ k ∧ k ≤ 7 ∧ Rd w' B A (q + 2) ∧ w.grownBy w' (some B)
end Go.Proofs.YticapinlnlpbpaaDoor
