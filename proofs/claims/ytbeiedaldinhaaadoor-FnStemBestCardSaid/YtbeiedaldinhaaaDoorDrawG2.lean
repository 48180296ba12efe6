/-
  The draw of a melody and groups: the walk.
-/
import Derived.Test.YtbeiedaldinhaaaDoorDrawG
import Derived.Test.YtbeiedaldinhaaaDoorFlat
import Derived.Test.YtbeiedaldinhaaaDoorVbl
namespace Go.Proofs.YtbeiedaldinhaaaDoor
open Go.RowKit
set_option maxRecDepth 100000
set_option linter.unusedVariables false
end Go.Proofs.YtbeiedaldinhaaaDoor
