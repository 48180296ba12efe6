/-
  A row of tones read as one slice, whether nil or a block.
-/
import Derived.Test.YthhndlefafcdeaaDoorTL2
namespace Go.Proofs.YthhndlefafcdeaaDoor
open Go.RowKit
set_option maxRecDepth 100000
set_option linter.unusedVariables false
end Go.Proofs.YthhndlefafcdeaaDoor
