/-
  The row of the law FnVerseGap, from its walk.
-/
import Derived.Test.YtkjimilapgkajaaLawFnVg
import Derived.Test.YtkjimilapgkajaaSeatQ
namespace Go.Proofs.Ytkjimilapgkajaa
open Go.RowKit Go.ChangeShapes Go.WideShapes Go.ChangeAt
set_option maxRecDepth 100000
set_option linter.unusedVariables false

theorem fnVerseGap_closed : joinedFacts Try.pinned.checked.prog 18 Try.f18 Rows.fnVerseGapSpec Rows.fnVerseGapRow = true := by
  unfold joinedFacts
  rw [seat_heard, seat_enter, seat_lifts, seat_make]
  kernel_rfl
theorem fnVerseGap_holds : Rows.FnVerseGapSaid :=
  OpenClaim.holds_of_cond 18 Try.f18 rfl rfl rfl rfl rfl rfl rfl ⟨rfl, rfl, rfl, rfl, rfl⟩ rfl rfl rfl rfl rfl (by kernel_rfl) Try.func18 fnVerseGap_closed
    (of_decide_eq_true (by kernel_rfl)) (by unfold Func.isWrapper; first | (rw [if_pos (by decide +kernel)]; kernel_rfl) | (rw [if_neg (by decide +kernel)]; exact ⟨rfl, rfl⟩))
    (fun os started H enc _ F => by rw [OpenClaim.pre_eq_preRow]; exact fnVerseGap_lifted os started H enc F)

end Go.Proofs.Ytkjimilapgkajaa
