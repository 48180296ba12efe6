/-
  The row of the law FnExactVerseValid, from its walk.
-/
import Derived.Test.YtkjimilapgkajaaLawVv
import Derived.Test.YtkjimilapgkajaaSeatQ
namespace Go.Proofs.Ytkjimilapgkajaa
open Go.RowKit Go.ChangeShapes Go.WideShapes Go.ChangeAt
set_option maxRecDepth 100000
set_option linter.unusedVariables false

theorem fnExactVerseValid_closed : joinedFacts Try.pinned.checked.prog 3 Try.f3 Rows.fnExactVerseValidSpec Rows.fnExactVerseValidRow = true := by
  unfold joinedFacts
  rw [seat_heard, seat_enter, seat_lifts, seat_make]
  kernel_rfl
theorem fnExactVerseValid_holds : Rows.FnExactVerseValidSaid :=
  OpenClaim.holds_of_cond 3 Try.f3 rfl rfl rfl rfl rfl rfl rfl ⟨rfl, rfl, rfl, rfl, rfl⟩ rfl rfl rfl rfl rfl (by kernel_rfl) Try.func3 fnExactVerseValid_closed
    (of_decide_eq_true (by kernel_rfl)) (by unfold Func.isWrapper; first | (rw [if_pos (by decide +kernel)]; kernel_rfl) | (rw [if_neg (by decide +kernel)]; exact ⟨rfl, rfl⟩))
    (fun os started H enc _ F => by rw [OpenClaim.pre_eq_preRow]; exact fnExactVerseValid_lifted os started H enc F)

end Go.Proofs.Ytkjimilapgkajaa
