/-
  ToneSemis in the model.
-/
import Derived.Test.YtgehfianpahgcaaDoorHeights
namespace Go.Proofs.YtgehfianpahgcaaDoor
open Go.RowKit
set_option linter.unusedVariables false
end Go.Proofs.YtgehfianpahgcaaDoor
