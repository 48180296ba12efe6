/-
  The groups of a melody, made in the program.
-/
import Derived.Test.YtbeiedaldinhaaaDoorGw
import Derived.Test.YtbeiedaldinhaaaDoorGv
import Derived.Test.YtbeiedaldinhaaaDoorMelV
import Derived.Test.YtbeiedaldinhaaaDoorMelT
namespace Go.Proofs.YtbeiedaldinhaaaDoor
open Go.RowKit
set_option maxRecDepth 100000
set_option linter.unusedVariables false
end Go.Proofs.YtbeiedaldinhaaaDoor
