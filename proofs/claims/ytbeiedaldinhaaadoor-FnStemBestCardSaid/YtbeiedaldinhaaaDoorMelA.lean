/-
  A melody made of any part of a list of tones.
-/
import Derived.Test.YtbeiedaldinhaaaDoorMel
import Derived.Test.YtbeiedaldinhaaaDoorTL2
namespace Go.Proofs.YtbeiedaldinhaaaDoor
open Go.RowKit
set_option maxRecDepth 100000
set_option linter.unusedVariables false
end Go.Proofs.YtbeiedaldinhaaaDoor
