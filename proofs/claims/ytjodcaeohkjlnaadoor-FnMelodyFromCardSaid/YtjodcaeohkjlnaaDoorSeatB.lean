/-
  What the translation's head says: what it lifts.
-/
import Derived.Test.YtjodcaeohkjlnaaDoorBase
import Derived.Test.YtjodcaeohkjlnaaDoorRows
namespace Go.Proofs.YtjodcaeohkjlnaaDoor
open Go.RowKit Go.ChangeShapes Go.WideShapes Go.ChangeAt
set_option maxRecDepth 100000
set_option linter.unusedVariables false

theorem seat_lifts : Tryd.pinned.checked.prog.liftsFinal = Rows.fnToneTextRow.lifted := by kernel_rfl
end Go.Proofs.YtjodcaeohkjlnaaDoor
