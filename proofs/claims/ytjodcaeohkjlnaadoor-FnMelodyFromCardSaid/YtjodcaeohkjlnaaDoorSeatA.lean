/-
  What the translation's head says: it may be entered.
-/
import Derived.Test.YtjodcaeohkjlnaaDoorBase
import Derived.Test.YtjodcaeohkjlnaaDoorRows
namespace Go.Proofs.YtjodcaeohkjlnaaDoor
open Go.RowKit Go.ChangeShapes Go.WideShapes Go.ChangeAt
set_option maxRecDepth 100000
set_option linter.unusedVariables false

theorem seat_heard : Tryd.pinned.checked.prog.stopsHeard = true := by kernel_rfl
theorem seat_enter : Tryd.pinned.checked.prog.mayEnter = true := by kernel_rfl
end Go.Proofs.YtjodcaeohkjlnaaDoor
