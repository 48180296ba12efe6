/-
  ToneSemis in the model.
-/
import Derived.Test.YticapinlnlpbpaaDoorHeights
namespace Go.Proofs.YticapinlnlpbpaaDoor
open Go.RowKit
set_option maxRecDepth 100000
set_option linter.unusedVariables false
end Go.Proofs.YticapinlnlpbpaaDoor
