/-
  The row of the law FnPsalmAccents, from its walk.
-/
import Derived.Test.YtcmcdomfmmjogaaLawFnPac
import Derived.Test.YtcmcdomfmmjogaaSeatQ
namespace Go.Proofs.Ytcmcdomfmmjogaa
open Go.RowKit Go.ChangeShapes Go.WideShapes Go.ChangeAt
set_option maxRecDepth 100000
set_option linter.unusedVariables false

theorem fnPsalmAccents_closed : joinedFacts Try.pinned.checked.prog 6 Try.f6 Rows.fnPsalmAccentsSpec Rows.fnPsalmAccentsRow = true := by
  unfold joinedFacts
  rw [seat_heard, seat_enter, seat_lifts, seat_make]
  kernel_rfl
theorem fnPsalmAccents_holds : Rows.FnPsalmAccentsSaid :=
  OpenClaim.holds_of_cond 6 Try.f6 rfl rfl rfl rfl rfl rfl rfl ⟨rfl, rfl, rfl, rfl, rfl⟩ rfl rfl rfl rfl rfl (by kernel_rfl) Try.func6 fnPsalmAccents_closed
    (of_decide_eq_true (by kernel_rfl)) (by unfold Func.isWrapper; first | (rw [if_pos (by decide +kernel)]; kernel_rfl) | (rw [if_neg (by decide +kernel)]; exact ⟨rfl, rfl⟩))
    (fun os started H enc _ F => by rw [OpenClaim.pre_eq_preRow]; exact fnPsalmAccents_lifted os started H enc F)

end Go.Proofs.Ytcmcdomfmmjogaa
