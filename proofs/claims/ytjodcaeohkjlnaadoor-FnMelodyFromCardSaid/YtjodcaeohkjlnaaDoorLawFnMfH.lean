/-
  The row of the law FnMelodyFrom, from its walk.
-/
import Derived.Test.YtjodcaeohkjlnaaDoorLawFnMf
import Derived.Test.YtjodcaeohkjlnaaDoorSeat
namespace Go.Proofs.YtjodcaeohkjlnaaDoor
open Go.RowKit Go.ChangeShapes Go.WideShapes Go.ChangeAt
set_option maxRecDepth 100000
set_option linter.unusedVariables false

theorem fnMelodyFrom_closed : joinedFacts Tryd.pinned.checked.prog 12 Tryd.f12 Rows.fnMelodyFromSpec Rows.fnMelodyFromRow = true := by
  unfold joinedFacts
  rw [seat_heard, seat_enter, seat_lifts, seat_make]
  kernel_rfl
theorem fnMelodyFrom_holds : Rows.FnMelodyFromSaid :=
  OpenClaim.holds_of_cond 12 Tryd.f12 rfl rfl rfl rfl rfl rfl rfl ⟨rfl, rfl, rfl, rfl, rfl⟩ rfl rfl rfl rfl rfl (by kernel_rfl) Tryd.func12 fnMelodyFrom_closed
    (of_decide_eq_true (by kernel_rfl)) (by unfold Func.isWrapper; first | (rw [if_pos (by decide +kernel)]; kernel_rfl) | (rw [if_neg (by decide +kernel)]; exact ⟨rfl, rfl⟩))
    (fun os started H enc _ F => by rw [OpenClaim.pre_eq_preRow]; exact fnMelodyFrom_lifted os started H enc F)

end Go.Proofs.YtjodcaeohkjlnaaDoor
