/-
  What the translation's head says: its main; it looks at no clock.
-/
import Derived.Test.YtjodcaeohkjlnaaDoorBase
import Derived.Test.YtjodcaeohkjlnaaDoorCards
namespace Go.Proofs.YtjodcaeohkjlnaaDoor
open Go.RowKit Go.ChangeShapes Go.WideShapes Go.ChangeAt
set_option maxRecDepth 100000
set_option linter.unusedVariables false

theorem seat_main : Tryd.pinned.checked.prog.mainIs = some (Rows.fnToneTextCard.stood.harness.1, Rows.fnToneTextCard.stood.harness.2.toList) := by kernel_rfl
theorem seat_looks : Tryd.pinned.checked.prog.looks [] = false := by kernel_rfl
end Go.Proofs.YtjodcaeohkjlnaaDoor
