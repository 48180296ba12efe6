/-
  The row of the law FnExactDiscantMove, from its walk.
-/
import Derived.Test.YticapinlnlpbpaaDoorLawDm8
import Derived.Test.YticapinlnlpbpaaDoorSeat
namespace Go.Proofs.YticapinlnlpbpaaDoor
open Go.RowKit Go.ChangeShapes Go.WideShapes Go.ChangeAt
set_option maxRecDepth 100000
set_option linter.unusedVariables false

theorem fnExactDiscantMove_closed : joinedFacts Tryd.pinned.checked.prog 6 Tryd.f6 Rows.fnExactDiscantMoveSpec Rows.fnExactDiscantMoveRow = true := by
  unfold joinedFacts
  rw [seat_heard, seat_enter, seat_lifts, seat_make]
  kernel_rfl
theorem fnExactDiscantMove_holds : Rows.FnExactDiscantMoveSaid :=
  OpenClaim.holds_of_cond 6 Tryd.f6 rfl rfl rfl rfl rfl rfl rfl ⟨rfl, rfl, rfl, rfl, rfl⟩ rfl rfl rfl rfl rfl (by kernel_rfl) Tryd.func6 fnExactDiscantMove_closed
    (of_decide_eq_true (by kernel_rfl)) (by unfold Func.isWrapper; first | (rw [if_pos (by decide +kernel)]; kernel_rfl) | (rw [if_neg (by decide +kernel)]; exact ⟨rfl, rfl⟩))
    (fun os started H enc _ F => by rw [OpenClaim.pre_eq_preRow]; exact fnExactDiscantMove_lifted os started H enc F)

end Go.Proofs.YticapinlnlpbpaaDoor
