/-
  The row of the law FnExactDiscantParallels, from its walk.
-/
import Derived.Test.YticapinlnlpbpaaDoorLawDp9
import Derived.Test.YticapinlnlpbpaaDoorSeat
namespace Go.Proofs.YticapinlnlpbpaaDoor
open Go.RowKit Go.ChangeShapes Go.WideShapes Go.ChangeAt
set_option maxRecDepth 100000
set_option linter.unusedVariables false

theorem fnExactDiscantParallels_closed : joinedFacts Tryd.pinned.checked.prog 5 Tryd.f5 Rows.fnExactDiscantParallelsSpec Rows.fnExactDiscantParallelsRow = true := by
  unfold joinedFacts
  rw [seat_heard, seat_enter, seat_lifts, seat_make]
  kernel_rfl
theorem fnExactDiscantParallels_holds : Rows.FnExactDiscantParallelsSaid :=
  OpenClaim.holds_of_cond 5 Tryd.f5 rfl rfl rfl rfl rfl rfl rfl ⟨rfl, rfl, rfl, rfl, rfl⟩ rfl rfl rfl rfl rfl (by kernel_rfl) Tryd.func5 fnExactDiscantParallels_closed
    (of_decide_eq_true (by kernel_rfl)) (by unfold Func.isWrapper; first | (rw [if_pos (by decide +kernel)]; kernel_rfl) | (rw [if_neg (by decide +kernel)]; exact ⟨rfl, rfl⟩))
    (fun os started H enc _ F => by rw [OpenClaim.pre_eq_preRow]; exact fnExactDiscantParallels_lifted os started H enc F)

end Go.Proofs.YticapinlnlpbpaaDoor
