/-
  The row of the law FnExactMelodyFrom, from its walk.
-/
import Derived.Test.YtjodcaeohkjlnaaDoorLawMf
import Derived.Test.YtjodcaeohkjlnaaDoorSeat
namespace Go.Proofs.YtjodcaeohkjlnaaDoor
open Go.RowKit Go.ChangeShapes Go.WideShapes Go.ChangeAt Go.ChangeMaps
set_option maxRecDepth 100000
set_option linter.unusedVariables false

theorem fnExactMelodyFrom_closed : joinedFacts Tryd.pinned.checked.prog 18 Tryd.f18 Rows.fnExactMelodyFromSpec Rows.fnExactMelodyFromRow = true := by
  unfold joinedFacts
  rw [seat_heard, seat_enter, seat_lifts, seat_make]
  kernel_rfl
theorem fnExactMelodyFrom_holds : Rows.FnExactMelodyFromSaid :=
  OpenClaim.holds_of_cond 18 Tryd.f18 rfl rfl rfl rfl rfl rfl rfl ⟨rfl, rfl, rfl, rfl, rfl⟩ rfl rfl rfl rfl rfl (by kernel_rfl) Tryd.func18 fnExactMelodyFrom_closed
    (of_decide_eq_true (by kernel_rfl)) (by unfold Func.isWrapper; first | (rw [if_pos (by decide +kernel)]; kernel_rfl) | (rw [if_neg (by decide +kernel)]; exact ⟨rfl, rfl⟩))
    (fun os started H enc _ F => by rw [OpenClaim.pre_eq_preRow]; exact fnExactMelodyFrom_lifted os started H enc F)

end Go.Proofs.YtjodcaeohkjlnaaDoor
