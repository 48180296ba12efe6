/-
  The draw of a melody and groups returns: at most ten tones, at most ten melismas, perhaps without the first one.
-/
import Derived.Test.YthhndlefafcdeaaDoorDrawM
import Derived.Test.YthhndlefafcdeaaDoorGv2
namespace Go.Proofs.YthhndlefafcdeaaDoor
open Go.RowKit
set_option maxRecDepth 100000
set_option linter.unusedVariables false
end Go.Proofs.YthhndlefafcdeaaDoor
