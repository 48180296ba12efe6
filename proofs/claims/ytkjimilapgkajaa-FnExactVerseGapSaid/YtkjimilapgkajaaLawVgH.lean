/-
  The row of the law FnExactVerseGap, from its walk.
-/
import Derived.Test.YtkjimilapgkajaaLawVg
import Derived.Test.YtkjimilapgkajaaSeatQ
namespace Go.Proofs.Ytkjimilapgkajaa
open Go.RowKit Go.ChangeShapes Go.WideShapes Go.ChangeAt
set_option maxRecDepth 100000
set_option linter.unusedVariables false

theorem fnExactVerseGap_closed : joinedFacts Try.pinned.checked.prog 7 Try.f7 Rows.fnExactVerseGapSpec Rows.fnExactVerseGapRow = true := by
  unfold joinedFacts
  rw [seat_heard, seat_enter, seat_lifts, seat_make]
  kernel_rfl
theorem fnExactVerseGap_holds : Rows.FnExactVerseGapSaid :=
  OpenClaim.holds_of_cond 7 Try.f7 rfl rfl rfl rfl rfl rfl rfl ⟨rfl, rfl, rfl, rfl, rfl⟩ rfl rfl rfl rfl rfl (by kernel_rfl) Try.func7 fnExactVerseGap_closed
    (of_decide_eq_true (by kernel_rfl)) (by unfold Func.isWrapper; first | (rw [if_pos (by decide +kernel)]; kernel_rfl) | (rw [if_neg (by decide +kernel)]; exact ⟨rfl, rfl⟩))
    (fun os started H enc _ F => by rw [OpenClaim.pre_eq_preRow]; exact fnExactVerseGap_lifted os started H enc F)

end Go.Proofs.Ytkjimilapgkajaa
