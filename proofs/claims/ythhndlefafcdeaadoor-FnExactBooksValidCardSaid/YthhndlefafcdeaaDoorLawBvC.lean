/-
  The card of the law FnExactBooksValid, from its walk.
-/
import Derived.Test.YthhndlefafcdeaaDoorLawBvH
namespace Go.Proofs.YthhndlefafcdeaaDoor
open Go.RowKit Go.ChangeShapes Go.WideShapes Go.ChangeAt
set_option maxRecDepth 100000
set_option linter.unusedVariables false

end Go.Proofs.YthhndlefafcdeaaDoor
