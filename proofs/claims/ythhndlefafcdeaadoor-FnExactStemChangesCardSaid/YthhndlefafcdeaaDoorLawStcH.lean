/-
  The row of the law FnExactStemChanges, from its walk.
-/
import Derived.Test.YthhndlefafcdeaaDoorLawStc
import Derived.Test.YthhndlefafcdeaaDoorSeat
namespace Go.Proofs.YthhndlefafcdeaaDoor
open Go.RowKit Go.ChangeShapes Go.WideShapes Go.ChangeAt
set_option maxRecDepth 100000
set_option linter.unusedVariables false

theorem fnExactStemChanges_closed : joinedFacts Tryd.pinned.checked.prog 7 Tryd.f7 Rows.fnExactStemChangesSpec Rows.fnExactStemChangesRow = true := by
  unfold joinedFacts
  rw [seat_heard, seat_enter, seat_lifts, seat_make]
  kernel_rfl
theorem fnExactStemChanges_holds : Rows.FnExactStemChangesSaid :=
  OpenClaim.holds_of_cond 7 Tryd.f7 rfl rfl rfl rfl rfl rfl rfl ⟨rfl, rfl, rfl, rfl, rfl⟩ rfl rfl rfl rfl rfl (by kernel_rfl) Tryd.func7 fnExactStemChanges_closed
    (of_decide_eq_true (by kernel_rfl)) (by unfold Func.isWrapper; first | (rw [if_pos (by decide +kernel)]; kernel_rfl) | (rw [if_neg (by decide +kernel)]; exact ⟨rfl, rfl⟩))
    (fun os started H enc _ F => by rw [OpenClaim.pre_eq_preRow]; exact fnExactStemChanges_lifted os started H enc F)

end Go.Proofs.YthhndlefafcdeaaDoor
