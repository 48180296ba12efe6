/-
  The row of the law FnStemBest, from its walk.
-/
import Derived.Test.YtbeiedaldinhaaaDoorLawFnSb7
import Derived.Test.YtbeiedaldinhaaaDoorSeat
namespace Go.Proofs.YtbeiedaldinhaaaDoor
open Go.RowKit Go.ChangeShapes Go.WideShapes Go.ChangeAt
set_option maxRecDepth 100000
set_option linter.unusedVariables false

theorem fnStemBest_closed : joinedFacts Tryd.pinned.checked.prog 8 Tryd.f8 Rows.fnStemBestSpec Rows.fnStemBestRow = true := by
  unfold joinedFacts
  rw [seat_heard, seat_enter, seat_lifts, seat_make]
  kernel_rfl
theorem fnStemBest_holds : Rows.FnStemBestSaid :=
  OpenClaim.holds_of_cond 8 Tryd.f8 rfl rfl rfl rfl rfl rfl rfl ⟨rfl, rfl, rfl, rfl, rfl⟩ rfl rfl rfl rfl rfl (by kernel_rfl) Tryd.func8 fnStemBest_closed
    (of_decide_eq_true (by kernel_rfl)) (by unfold Func.isWrapper; first | (rw [if_pos (by decide +kernel)]; kernel_rfl) | (rw [if_neg (by decide +kernel)]; exact ⟨rfl, rfl⟩))
    (fun os started H enc _ F => by rw [OpenClaim.pre_eq_preRow]; exact fnStemBest_lifted os started H enc F)

end Go.Proofs.YtbeiedaldinhaaaDoor
