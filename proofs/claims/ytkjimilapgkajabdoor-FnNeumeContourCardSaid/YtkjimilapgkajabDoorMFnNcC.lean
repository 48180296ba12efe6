/-
  The card of the law FnNeumeContour, from its walk.
-/
import Derived.Test.YtkjimilapgkajabDoorMFnNc
import Derived.Test.YtkjimilapgkajabDoorSeat
namespace Go.Proofs.YtkjimilapgkajabDoor
open Go.RowKit Go.ChangeShapes Go.WideShapes Go.ChangeAt
set_option maxRecDepth 100000
set_option linter.unusedVariables false

theorem fnNeumeContour_closed : joinedFacts Tryd.pinned.checked.prog 6 Tryd.f6 Rows.fnNeumeContourSpec Rows.fnNeumeContourRow = true := by
  unfold joinedFacts
  rw [seat_heard, seat_enter, seat_lifts, seat_make]
  kernel_rfl
theorem fnNeumeContour_holds : Rows.FnNeumeContourSaid :=
  OpenClaim.holds_of_cond 6 Tryd.f6 rfl rfl rfl rfl rfl rfl rfl ⟨rfl, rfl, rfl, rfl, rfl⟩ rfl rfl rfl rfl rfl (by kernel_rfl) Tryd.func6 fnNeumeContour_closed
    (of_decide_eq_true (by kernel_rfl)) (by unfold Func.isWrapper; first | (rw [if_pos (by decide +kernel)]; kernel_rfl) | (rw [if_neg (by decide +kernel)]; exact ⟨rfl, rfl⟩))
    (fun os started H enc _ F => by rw [OpenClaim.pre_eq_preRow]; exact fnNeumeContour_lifted os started H enc F)


end Go.Proofs.YtkjimilapgkajabDoor

namespace Go.Proofs.YtkjimilapgkajabDoor
open Go.RowKit Go.ChangeShapes Go.WideShapes Go.ChangeAt
set_option maxRecDepth 100000
set_option linter.unusedVariables false

theorem fnNeumeContour_plain (f : FuncId) (fn : Func) (hf : Tryd.pinned.checked.prog.funcNamed "loop.example/neumes/laws.FnNeumeContour" = some f) (hfn : Tryd.pinned.checked.prog.funcs[f]? = some fn) :
    false = Tryd.pinned.checked.prog.looks [] ∧ ∀ (j : Nat) t, fn.params[j]? = some t → Tryd.pinned.checked.prog.wantsStandIn t = false := by
  obtain rfl : f = 6 := Option.some.inj ((show Tryd.prog.funcNamed "loop.example/neumes/laws.FnNeumeContour" = some 6 by kernel_rfl).symm.trans hf) |>.symm
  obtain rfl : fn = Tryd.f6 := (Option.some.inj (Tryd.func6.symm.trans hfn)).symm
  refine ⟨seat_looks.symm, fun j t ht => ?_⟩
  rw [Tryd.params6] at ht
  have hm := Array.mem_of_getElem? ht
  simp only [List.mem_toArray, List.mem_cons, List.not_mem_nil, or_false] at hm
  subst hm
  exact (show Tryd.prog.wantsStandIn _ = false by kernel_rfl)
/-- the card -/
theorem fnNeumeContour_card : Rows.FnNeumeContourCardSaid :=
  Claim7.holds_tied_plain_at .later [] _ _ _ _ fnNeumeContour_holds (fun _ h => by cases h) (by kernel_rfl) (fun _ h => by cases h) fnNeumeContour_row_tie rfl ⟨rfl, rfl⟩ seat_main rfl fnNeumeContour_plain (by kernel_rfl)


end Go.Proofs.YtkjimilapgkajabDoor
