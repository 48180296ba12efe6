/-
  The row of the law FnExactGroupsRead, from its walk.
-/
import Derived.Test.YtkjimilapgkajabDoorLawGr
import Derived.Test.YtkjimilapgkajabDoorSeat
namespace Go.Proofs.YtkjimilapgkajabDoor
open Go.RowKit Go.ChangeShapes Go.WideShapes Go.ChangeAt
set_option maxRecDepth 100000
set_option linter.unusedVariables false

theorem fnExactGroupsRead_closed : joinedFacts Tryd.pinned.checked.prog 11 Tryd.f11 Rows.fnExactGroupsReadSpec Rows.fnExactGroupsReadRow = true := by
  unfold joinedFacts
  rw [seat_heard, seat_enter, seat_lifts, seat_make]
  kernel_rfl
theorem fnExactGroupsRead_holds : Rows.FnExactGroupsReadSaid :=
  OpenClaim.holds_of_cond 11 Tryd.f11 rfl rfl rfl rfl rfl rfl rfl ⟨rfl, rfl, rfl, rfl, rfl⟩ rfl rfl rfl rfl rfl (by kernel_rfl) Tryd.func11 fnExactGroupsRead_closed
    (of_decide_eq_true (by kernel_rfl)) (by unfold Func.isWrapper; first | (rw [if_pos (by decide +kernel)]; kernel_rfl) | (rw [if_neg (by decide +kernel)]; exact ⟨rfl, rfl⟩))
    (fun os started H enc _ F => by rw [OpenClaim.pre_eq_preRow]; exact fnExactGroupsRead_lifted os started H enc F)

end Go.Proofs.YtkjimilapgkajabDoor
