/-
  The row of the law FnBooksFar, from its walk.
-/
import Derived.Test.YthhndlefafcdeaaDoorLawFnBf
import Derived.Test.YthhndlefafcdeaaDoorSeat
namespace Go.Proofs.YthhndlefafcdeaaDoor
open Go.RowKit Go.ChangeShapes Go.WideShapes Go.ChangeAt
set_option maxRecDepth 100000
set_option linter.unusedVariables false

theorem fnBooksFar_closed : joinedFacts Tryd.pinned.checked.prog 13 Tryd.f13 Rows.fnBooksFarSpec Rows.fnBooksFarRow = true := by
  unfold joinedFacts
  rw [seat_heard, seat_enter, seat_lifts, seat_make]
  kernel_rfl
theorem fnBooksFar_holds : Rows.FnBooksFarSaid :=
  OpenClaim.holds_of_cond 13 Tryd.f13 rfl rfl rfl rfl rfl rfl rfl ⟨rfl, rfl, rfl, rfl, rfl⟩ rfl rfl rfl rfl rfl (by kernel_rfl) Tryd.func13 fnBooksFar_closed
    (of_decide_eq_true (by kernel_rfl)) (by unfold Func.isWrapper; first | (rw [if_pos (by decide +kernel)]; kernel_rfl) | (rw [if_neg (by decide +kernel)]; exact ⟨rfl, rfl⟩))
    (fun os started H enc _ F => by rw [OpenClaim.pre_eq_preRow]; exact fnBooksFar_lifted os started H enc F)

end Go.Proofs.YthhndlefafcdeaaDoor
