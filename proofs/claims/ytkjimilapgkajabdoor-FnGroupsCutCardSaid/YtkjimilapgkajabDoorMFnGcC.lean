/-
  The card of the law FnGroupsCut, from its walk.
-/
import Derived.Test.YtkjimilapgkajabDoorMFnGc
import Derived.Test.YtkjimilapgkajabDoorSeat
namespace Go.Proofs.YtkjimilapgkajabDoor
open Go.RowKit Go.ChangeShapes Go.WideShapes Go.ChangeAt
set_option maxRecDepth 100000
set_option linter.unusedVariables false

theorem fnGroupsCut_closed : joinedFacts Tryd.pinned.checked.prog 8 Tryd.f8 Rows.fnGroupsCutSpec Rows.fnGroupsCutRow = true := by
  unfold joinedFacts
  rw [seat_heard, seat_enter, seat_lifts, seat_make]
  kernel_rfl
theorem fnGroupsCut_holds : Rows.FnGroupsCutSaid :=
  OpenClaim.holds_of_cond 8 Tryd.f8 rfl rfl rfl rfl rfl rfl rfl ⟨rfl, rfl, rfl, rfl, rfl⟩ rfl rfl rfl rfl rfl (by kernel_rfl) Tryd.func8 fnGroupsCut_closed
    (of_decide_eq_true (by kernel_rfl)) (by unfold Func.isWrapper; first | (rw [if_pos (by decide +kernel)]; kernel_rfl) | (rw [if_neg (by decide +kernel)]; exact ⟨rfl, rfl⟩))
    (fun os started H enc _ F => by rw [OpenClaim.pre_eq_preRow]; exact fnGroupsCut_lifted os started H enc F)


end Go.Proofs.YtkjimilapgkajabDoor

namespace Go.Proofs.YtkjimilapgkajabDoor
open Go.RowKit Go.ChangeShapes Go.WideShapes Go.ChangeAt
set_option maxRecDepth 100000
set_option linter.unusedVariables false

theorem fnGroupsCut_plain (f : FuncId) (fn : Func) (hf : Tryd.pinned.checked.prog.funcNamed "loop.example/neumes/laws.FnGroupsCut" = some f) (hfn : Tryd.pinned.checked.prog.funcs[f]? = some fn) :
    false = Tryd.pinned.checked.prog.looks [] ∧ ∀ (j : Nat) t, fn.params[j]? = some t → Tryd.pinned.checked.prog.wantsStandIn t = false := by
  obtain rfl : f = 8 := Option.some.inj ((show Tryd.prog.funcNamed "loop.example/neumes/laws.FnGroupsCut" = some 8 by kernel_rfl).symm.trans hf) |>.symm
  obtain rfl : fn = Tryd.f8 := (Option.some.inj (Tryd.func8.symm.trans hfn)).symm
  refine ⟨seat_looks.symm, fun j t ht => ?_⟩
  rw [Tryd.params8] at ht
  have hm := Array.mem_of_getElem? ht
  simp only [List.mem_toArray, List.mem_cons, List.not_mem_nil, or_false] at hm
  subst hm
  exact (show Tryd.prog.wantsStandIn _ = false by kernel_rfl)
/-- the card -/
theorem fnGroupsCut_card : Rows.FnGroupsCutCardSaid :=
  Claim7.holds_tied_plain_at .later [] _ _ _ _ fnGroupsCut_holds (fun _ h => by cases h) (by kernel_rfl) (fun _ h => by cases h) fnGroupsCut_row_tie rfl ⟨rfl, rfl⟩ seat_main rfl fnGroupsCut_plain (by kernel_rfl)


end Go.Proofs.YtkjimilapgkajabDoor
