/-
  The row of the law FnHexAll, from its walk.
-/
import Derived.Test.YtjodcaeohkjlnaaDoorLawFnHa
import Derived.Test.YtjodcaeohkjlnaaDoorSeat
namespace Go.Proofs.YtjodcaeohkjlnaaDoor
open Go.RowKit Go.ChangeShapes Go.WideShapes Go.ChangeAt
set_option maxRecDepth 100000
set_option linter.unusedVariables false

theorem fnHexAll_closed : joinedFacts Tryd.pinned.checked.prog 7 Tryd.f7 Rows.fnHexAllSpec Rows.fnHexAllRow = true := by
  unfold joinedFacts
  rw [seat_heard, seat_enter, seat_lifts, seat_make]
  kernel_rfl
theorem fnHexAll_holds : Rows.FnHexAllSaid :=
  OpenClaim.holds_of_cond 7 Tryd.f7 rfl rfl rfl rfl rfl rfl rfl ⟨rfl, rfl, rfl, rfl, rfl⟩ rfl rfl rfl rfl rfl (by kernel_rfl) Tryd.func7 fnHexAll_closed
    (of_decide_eq_true (by kernel_rfl)) (by unfold Func.isWrapper; first | (rw [if_pos (by decide +kernel)]; kernel_rfl) | (rw [if_neg (by decide +kernel)]; exact ⟨rfl, rfl⟩))
    (fun os started H enc _ F => by rw [OpenClaim.pre_eq_preRow]; exact fnHexAll_lifted os started H enc F)

end Go.Proofs.YtjodcaeohkjlnaaDoor
