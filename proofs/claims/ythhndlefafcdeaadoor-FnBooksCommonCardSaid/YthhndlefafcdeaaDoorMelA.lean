/-
  A melody made of any part of a list of tones.
-/
import Derived.Test.YthhndlefafcdeaaDoorMel
import Derived.Test.YthhndlefafcdeaaDoorTL2
namespace Go.Proofs.YthhndlefafcdeaaDoor
open Go.RowKit
set_option maxRecDepth 100000
set_option linter.unusedVariables false
end Go.Proofs.YthhndlefafcdeaaDoor
