/-
  The row of the law FnExactDiscantOk, from its walk.
-/
import Derived.Test.YticapinlnlpbpaaDoorLawDo8
import Derived.Test.YticapinlnlpbpaaDoorSeat
namespace Go.Proofs.YticapinlnlpbpaaDoor
open Go.RowKit Go.ChangeShapes Go.WideShapes Go.ChangeAt
set_option maxRecDepth 100000
set_option linter.unusedVariables false

theorem fnExactDiscantOk_closed : joinedFacts Tryd.pinned.checked.prog 4 Tryd.f4 Rows.fnExactDiscantOkSpec Rows.fnExactDiscantOkRow = true := by
  unfold joinedFacts
  rw [seat_heard, seat_enter, seat_lifts, seat_make]
  kernel_rfl
theorem fnExactDiscantOk_holds : Rows.FnExactDiscantOkSaid :=
  OpenClaim.holds_of_cond 4 Tryd.f4 rfl rfl rfl rfl rfl rfl rfl ⟨rfl, rfl, rfl, rfl, rfl⟩ rfl rfl rfl rfl rfl (by kernel_rfl) Tryd.func4 fnExactDiscantOk_closed
    (of_decide_eq_true (by kernel_rfl)) (by unfold Func.isWrapper; first | (rw [if_pos (by decide +kernel)]; kernel_rfl) | (rw [if_neg (by decide +kernel)]; exact ⟨rfl, rfl⟩))
    (fun os started H enc _ F => by rw [OpenClaim.pre_eq_preRow]; exact fnExactDiscantOk_lifted os started H enc F)

end Go.Proofs.YticapinlnlpbpaaDoor
