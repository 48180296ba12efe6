/-
  The row of the law FnPsalmBest, from its walk.
-/
import Derived.Test.YtcmcdomfmmjogaaLawFnPb
import Derived.Test.YtcmcdomfmmjogaaSeatQ
namespace Go.Proofs.Ytcmcdomfmmjogaa
open Go.RowKit Go.ChangeShapes Go.WideShapes Go.ChangeAt
set_option maxRecDepth 100000
set_option linter.unusedVariables false

theorem fnPsalmBest_closed : joinedFacts Try.pinned.checked.prog 7 Try.f7 Rows.fnPsalmBestSpec Rows.fnPsalmBestRow = true := by
  unfold joinedFacts
  rw [seat_heard, seat_enter, seat_lifts, seat_make]
  kernel_rfl
theorem fnPsalmBest_holds : Rows.FnPsalmBestSaid :=
  OpenClaim.holds_of_cond 7 Try.f7 rfl rfl rfl rfl rfl rfl rfl ⟨rfl, rfl, rfl, rfl, rfl⟩ rfl rfl rfl rfl rfl (by kernel_rfl) Try.func7 fnPsalmBest_closed
    (of_decide_eq_true (by kernel_rfl)) (by unfold Func.isWrapper; first | (rw [if_pos (by decide +kernel)]; kernel_rfl) | (rw [if_neg (by decide +kernel)]; exact ⟨rfl, rfl⟩))
    (fun os started H enc _ F => by rw [OpenClaim.pre_eq_preRow]; exact fnPsalmBest_lifted os started H enc F)

end Go.Proofs.Ytcmcdomfmmjogaa
