/-
  The row of the law FnContour, from its walk.
-/
import Derived.Test.YtkjimilapgkajabDoorLawFnCo
import Derived.Test.YtkjimilapgkajabDoorSeat
namespace Go.Proofs.YtkjimilapgkajabDoor
open Go.RowKit Go.ChangeShapes Go.WideShapes Go.ChangeAt
set_option maxRecDepth 100000
set_option linter.unusedVariables false

theorem fnContour_closed : joinedFacts Tryd.pinned.checked.prog 5 Tryd.f5 Rows.fnContourSpec Rows.fnContourRow = true := by
  unfold joinedFacts
  rw [seat_heard, seat_enter, seat_lifts, seat_make]
  kernel_rfl
theorem fnContour_holds : Rows.FnContourSaid :=
  OpenClaim.holds_of_cond 5 Tryd.f5 rfl rfl rfl rfl rfl rfl rfl ⟨rfl, rfl, rfl, rfl, rfl⟩ rfl rfl rfl rfl rfl (by kernel_rfl) Tryd.func5 fnContour_closed
    (of_decide_eq_true (by kernel_rfl)) (by unfold Func.isWrapper; first | (rw [if_pos (by decide +kernel)]; kernel_rfl) | (rw [if_neg (by decide +kernel)]; exact ⟨rfl, rfl⟩))
    (fun os started H enc _ F => by rw [OpenClaim.pre_eq_preRow]; exact fnContour_lifted os started H enc F)

end Go.Proofs.YtkjimilapgkajabDoor
