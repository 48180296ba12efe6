/-
  The draw of a melody and groups: the walk.
-/
import Derived.Test.YthhndlefafcdeaaDoorDrawG
import Derived.Test.YthhndlefafcdeaaDoorFlat
import Derived.Test.YthhndlefafcdeaaDoorVbl
namespace Go.Proofs.YthhndlefafcdeaaDoor
open Go.RowKit
set_option maxRecDepth 100000
set_option linter.unusedVariables false
end Go.Proofs.YthhndlefafcdeaaDoor
