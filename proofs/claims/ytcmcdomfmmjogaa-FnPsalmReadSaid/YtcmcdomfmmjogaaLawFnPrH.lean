/-
  The row of the law FnPsalmRead, from its walk.
-/
import Derived.Test.YtcmcdomfmmjogaaLawFnPr
import Derived.Test.YtcmcdomfmmjogaaSeatQ
namespace Go.Proofs.Ytcmcdomfmmjogaa
open Go.RowKit Go.ChangeShapes Go.WideShapes Go.ChangeAt
set_option maxRecDepth 100000
set_option linter.unusedVariables false

theorem fnPsalmRead_closed : joinedFacts Try.pinned.checked.prog 8 Try.f8 Rows.fnPsalmReadSpec Rows.fnPsalmReadRow = true := by
  unfold joinedFacts
  rw [seat_heard, seat_enter, seat_lifts, seat_make]
  kernel_rfl
theorem fnPsalmRead_holds : Rows.FnPsalmReadSaid :=
  OpenClaim.holds_of_cond 8 Try.f8 rfl rfl rfl rfl rfl rfl rfl ⟨rfl, rfl, rfl, rfl, rfl⟩ rfl rfl rfl rfl rfl (by kernel_rfl) Try.func8 fnPsalmRead_closed
    (of_decide_eq_true (by kernel_rfl)) (by unfold Func.isWrapper; first | (rw [if_pos (by decide +kernel)]; kernel_rfl) | (rw [if_neg (by decide +kernel)]; exact ⟨rfl, rfl⟩))
    (fun os started H enc _ F => by rw [OpenClaim.pre_eq_preRow]; exact fnPsalmRead_lifted os started H enc F)

end Go.Proofs.Ytcmcdomfmmjogaa
