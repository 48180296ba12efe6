/-
  Tones marked by the exact laws' helper: only the marked slice's block turns.
-/
import Derived.Test.YthhndlefafcdeaaDoorTL3
import Derived.Test.YthhndlefafcdeaaDoorTL2
import Derived.Test.YthhndlefafcdeaaDoorInts
namespace Go.Proofs.YthhndlefafcdeaaDoor
open Go.RowKit
set_option maxRecDepth 100000
set_option linter.unusedVariables false
end Go.Proofs.YthhndlefafcdeaaDoor
