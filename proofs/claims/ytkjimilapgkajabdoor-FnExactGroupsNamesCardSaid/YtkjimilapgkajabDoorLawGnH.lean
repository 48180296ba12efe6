/-
  The row of the law FnExactGroupsNames, from its walk.
-/
import Derived.Test.YtkjimilapgkajabDoorLawGn
import Derived.Test.YtkjimilapgkajabDoorSeat
namespace Go.Proofs.YtkjimilapgkajabDoor
open Go.RowKit Go.ChangeShapes Go.WideShapes Go.ChangeAt
set_option maxRecDepth 100000
set_option linter.unusedVariables false

theorem fnExactGroupsNames_closed : joinedFacts Tryd.pinned.checked.prog 10 Tryd.f10 Rows.fnExactGroupsNamesSpec Rows.fnExactGroupsNamesRow = true := by
  unfold joinedFacts
  rw [seat_heard, seat_enter, seat_lifts, seat_make]
  kernel_rfl
theorem fnExactGroupsNames_holds : Rows.FnExactGroupsNamesSaid :=
  OpenClaim.holds_of_cond 10 Tryd.f10 rfl rfl rfl rfl rfl rfl rfl ⟨rfl, rfl, rfl, rfl, rfl⟩ rfl rfl rfl rfl rfl (by kernel_rfl) Tryd.func10 fnExactGroupsNames_closed
    (of_decide_eq_true (by kernel_rfl)) (by unfold Func.isWrapper; first | (rw [if_pos (by decide +kernel)]; kernel_rfl) | (rw [if_neg (by decide +kernel)]; exact ⟨rfl, rfl⟩))
    (fun os started H enc _ F => by rw [OpenClaim.pre_eq_preRow]; exact fnExactGroupsNames_lifted os started H enc F)

end Go.Proofs.YtkjimilapgkajabDoor
