/-
  Slices of melismas of a call's own: what they hold and what is kept; the exact laws' helpers on them.
-/
import Derived.Test.YthhndlefafcdeaaDoorTL2
namespace Go.Proofs.YthhndlefafcdeaaDoor
open Go.RowKit
set_option maxRecDepth 100000
set_option linter.unusedVariables false
end Go.Proofs.YthhndlefafcdeaaDoor
