/-
  The row of the law FnBooksCommon, from its walk.
-/
import Derived.Test.YthhndlefafcdeaaDoorLawFnBc
import Derived.Test.YthhndlefafcdeaaDoorSeat
namespace Go.Proofs.YthhndlefafcdeaaDoor
open Go.RowKit Go.ChangeShapes Go.WideShapes Go.ChangeAt
set_option maxRecDepth 100000
set_option linter.unusedVariables false

theorem fnBooksCommon_closed : joinedFacts Tryd.pinned.checked.prog 14 Tryd.f14 Rows.fnBooksCommonSpec Rows.fnBooksCommonRow = true := by
  unfold joinedFacts
  rw [seat_heard, seat_enter, seat_lifts, seat_make]
  kernel_rfl
theorem fnBooksCommon_holds : Rows.FnBooksCommonSaid :=
  OpenClaim.holds_of_cond 14 Tryd.f14 rfl rfl rfl rfl rfl rfl rfl ⟨rfl, rfl, rfl, rfl, rfl⟩ rfl rfl rfl rfl rfl (by kernel_rfl) Tryd.func14 fnBooksCommon_closed
    (of_decide_eq_true (by kernel_rfl)) (by unfold Func.isWrapper; first | (rw [if_pos (by decide +kernel)]; kernel_rfl) | (rw [if_neg (by decide +kernel)]; exact ⟨rfl, rfl⟩))
    (fun os started H enc _ F => by rw [OpenClaim.pre_eq_preRow]; exact fnBooksCommon_lifted os started H enc F)

end Go.Proofs.YthhndlefafcdeaaDoor
