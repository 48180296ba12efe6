/-
  What the translation's head says: its make.
-/
import Derived.Test.YtjodcaeohkjlnaaDoorBase
import Derived.Test.YtjodcaeohkjlnaaDoorRows
namespace Go.Proofs.YtjodcaeohkjlnaaDoor
open Go.RowKit Go.ChangeShapes Go.WideShapes Go.ChangeAt
set_option maxRecDepth 100000
set_option linter.unusedVariables false

theorem seat_make : Tryd.pinned.checked.prog.make = some Rows.fnToneTextRow.make := by kernel_rfl
end Go.Proofs.YtjodcaeohkjlnaaDoor
