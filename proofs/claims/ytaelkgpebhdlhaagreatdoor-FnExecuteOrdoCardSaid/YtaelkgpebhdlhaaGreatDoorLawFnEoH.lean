/-
  The row of the law FnExecuteOrdo, from its walk.
-/
import Derived.Test.YtaelkgpebhdlhaaGreatDoorLawFnEo
import Derived.Test.YtaelkgpebhdlhaaGreatDoorSeat
namespace Go.Proofs.YtaelkgpebhdlhaaGreatDoor
open Go.RowKit Go.ChangeShapes Go.WideShapes Go.ChangeAt
set_option maxRecDepth 100000
set_option linter.unusedVariables false

theorem fnExecuteOrdo_closed : joinedFacts Tryz.pinned.checked.prog 9 Tryz.f9 Rows.fnExecuteOrdoSpec Rows.fnExecuteOrdoRow = true := by
  unfold joinedFacts
  rw [seat_heard, seat_enter, seat_lifts, seat_make]
  kernel_rfl
theorem fnExecuteOrdo_holds : Rows.FnExecuteOrdoSaid :=
  OpenClaim.holds_of_cond 9 Tryz.f9 rfl rfl rfl rfl rfl rfl rfl ⟨rfl, rfl, rfl, rfl, rfl⟩ rfl rfl rfl rfl rfl (by kernel_rfl) Tryz.func9 fnExecuteOrdo_closed
    (of_decide_eq_true (by kernel_rfl)) (by unfold Func.isWrapper; first | (rw [if_pos (by decide +kernel)]; kernel_rfl) | (rw [if_neg (by decide +kernel)]; exact ⟨rfl, rfl⟩))
    (fun os started H enc _ F => by rw [OpenClaim.pre_eq_preRow]; exact fnExecuteOrdo_lifted os started H enc F)

end Go.Proofs.YtaelkgpebhdlhaaGreatDoor
