/-
  The row of the law FnMelodyMove, from its walk.
-/
import Derived.Test.YtjodcaeohkjlnaaDoorLawFnMv
import Derived.Test.YtjodcaeohkjlnaaDoorSeat
namespace Go.Proofs.YtjodcaeohkjlnaaDoor
open Go.RowKit Go.ChangeShapes Go.WideShapes Go.ChangeAt
set_option maxRecDepth 100000
set_option linter.unusedVariables false

theorem fnMelodyMove_closed : joinedFacts Tryd.pinned.checked.prog 8 Tryd.f8 Rows.fnMelodyMoveSpec Rows.fnMelodyMoveRow = true := by
  unfold joinedFacts
  rw [seat_heard, seat_enter, seat_lifts, seat_make]
  kernel_rfl
theorem fnMelodyMove_holds : Rows.FnMelodyMoveSaid :=
  OpenClaim.holds_of_cond 8 Tryd.f8 rfl rfl rfl rfl rfl rfl rfl ⟨rfl, rfl, rfl, rfl, rfl⟩ rfl rfl rfl rfl rfl (by kernel_rfl) Tryd.func8 fnMelodyMove_closed
    (of_decide_eq_true (by kernel_rfl)) (by unfold Func.isWrapper; first | (rw [if_pos (by decide +kernel)]; kernel_rfl) | (rw [if_neg (by decide +kernel)]; exact ⟨rfl, rfl⟩))
    (fun os started H enc _ F => by rw [OpenClaim.pre_eq_preRow]; exact fnMelodyMove_lifted os started H enc F)

end Go.Proofs.YtjodcaeohkjlnaaDoor
