/-
  The translation's head, in one text.
-/
import Derived.Test.YtjodcaeohkjlnaaDoorSeatA
import Derived.Test.YtjodcaeohkjlnaaDoorSeatB
import Derived.Test.YtjodcaeohkjlnaaDoorSeatC
import Derived.Test.YtjodcaeohkjlnaaDoorSeatD
namespace Go.Proofs.YtjodcaeohkjlnaaDoor
open Go.RowKit Go.ChangeShapes Go.WideShapes Go.ChangeAt
set_option maxRecDepth 100000
set_option linter.unusedVariables false


end Go.Proofs.YtjodcaeohkjlnaaDoor
