/-
  The row of the law FnExactPsalmRead, from its walk.
-/
import Derived.Test.YtcmcdomfmmjogabLawPsr2
import Derived.Test.YtcmcdomfmmjogabSeatQ
namespace Go.Proofs.Ytcmcdomfmmjogab
open Go.RowKit Go.ChangeShapes Go.WideShapes Go.ChangeAt
set_option maxRecDepth 100000
set_option linter.unusedVariables false

theorem fnExactPsalmRead_closed : joinedFacts Try.pinned.checked.prog 4 Try.f4 Rows.fnExactPsalmReadSpec Rows.fnExactPsalmReadRow = true := by
  unfold joinedFacts
  rw [seat_heard, seat_enter, seat_lifts, seat_make]
  kernel_rfl
theorem fnExactPsalmRead_holds : Rows.FnExactPsalmReadSaid :=
  OpenClaim.holds_of_cond 4 Try.f4 rfl rfl rfl rfl rfl rfl rfl ⟨rfl, rfl, rfl, rfl, rfl⟩ rfl rfl rfl rfl rfl (by kernel_rfl) Try.func4 fnExactPsalmRead_closed
    (of_decide_eq_true (by kernel_rfl)) (by unfold Func.isWrapper; first | (rw [if_pos (by decide +kernel)]; kernel_rfl) | (rw [if_neg (by decide +kernel)]; exact ⟨rfl, rfl⟩))
    (fun os started H enc _ F => by rw [OpenClaim.pre_eq_preRow]; exact fnExactPsalmRead_lifted os started H enc F)

end Go.Proofs.Ytcmcdomfmmjogab
