/-
  The groups of a melody, made in the program.
-/
import Derived.Test.YthhndlefafcdeaaDoorGw
import Derived.Test.YthhndlefafcdeaaDoorGv
import Derived.Test.YthhndlefafcdeaaDoorMelV
import Derived.Test.YthhndlefafcdeaaDoorMelT
namespace Go.Proofs.YthhndlefafcdeaaDoor
open Go.RowKit
set_option maxRecDepth 100000
set_option linter.unusedVariables false
end Go.Proofs.YthhndlefafcdeaaDoor
