/-
  The range of a melody in the model.
-/
import Derived.Test.YtjodcaeohkjlnaaDoorMelR
namespace Go.Proofs.YtjodcaeohkjlnaaDoor
open Go.RowKit
set_option maxRecDepth 100000
set_option linter.unusedVariables false
end Go.Proofs.YtjodcaeohkjlnaaDoor
