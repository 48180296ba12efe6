/-
  The row of the law FnExactStemDepth, from its walk.
-/
import Derived.Test.YthhndlefafcdeaaDoorLawStd
import Derived.Test.YthhndlefafcdeaaDoorSeat
namespace Go.Proofs.YthhndlefafcdeaaDoor
open Go.RowKit Go.ChangeShapes Go.WideShapes Go.ChangeAt
set_option maxRecDepth 100000
set_option linter.unusedVariables false

theorem fnExactStemDepth_closed : joinedFacts Tryd.pinned.checked.prog 12 Tryd.f12 Rows.fnExactStemDepthSpec Rows.fnExactStemDepthRow = true := by
  unfold joinedFacts
  rw [seat_heard, seat_enter, seat_lifts, seat_make]
  kernel_rfl
theorem fnExactStemDepth_holds : Rows.FnExactStemDepthSaid :=
  OpenClaim.holds_of_cond 12 Tryd.f12 rfl rfl rfl rfl rfl rfl rfl ⟨rfl, rfl, rfl, rfl, rfl⟩ rfl rfl rfl rfl rfl (by kernel_rfl) Tryd.func12 fnExactStemDepth_closed
    (of_decide_eq_true (by kernel_rfl)) (by unfold Func.isWrapper; first | (rw [if_pos (by decide +kernel)]; kernel_rfl) | (rw [if_neg (by decide +kernel)]; exact ⟨rfl, rfl⟩))
    (fun os started H enc _ F => by rw [OpenClaim.pre_eq_preRow]; exact fnExactStemDepth_lifted os started H enc F)

end Go.Proofs.YthhndlefafcdeaaDoor
