/-
  The row of the law FnExactBooksFar, from its walk.
-/
import Derived.Test.YthhndlefafcdeaaDoorLawBf
import Derived.Test.YthhndlefafcdeaaDoorSeat
namespace Go.Proofs.YthhndlefafcdeaaDoor
open Go.RowKit Go.ChangeShapes Go.WideShapes Go.ChangeAt
set_option maxRecDepth 100000
set_option linter.unusedVariables false

theorem fnExactBooksFar_closed : joinedFacts Tryd.pinned.checked.prog 4 Tryd.f4 Rows.fnExactBooksFarSpec Rows.fnExactBooksFarRow = true := by
  unfold joinedFacts
  rw [seat_heard, seat_enter, seat_lifts, seat_make]
  kernel_rfl
theorem fnExactBooksFar_holds : Rows.FnExactBooksFarSaid :=
  OpenClaim.holds_of_cond 4 Tryd.f4 rfl rfl rfl rfl rfl rfl rfl ⟨rfl, rfl, rfl, rfl, rfl⟩ rfl rfl rfl rfl rfl (by kernel_rfl) Tryd.func4 fnExactBooksFar_closed
    (of_decide_eq_true (by kernel_rfl)) (by unfold Func.isWrapper; first | (rw [if_pos (by decide +kernel)]; kernel_rfl) | (rw [if_neg (by decide +kernel)]; exact ⟨rfl, rfl⟩))
    (fun os started H enc _ F => by rw [OpenClaim.pre_eq_preRow]; exact fnExactBooksFar_lifted os started H enc F)

end Go.Proofs.YthhndlefafcdeaaDoor
