/-
  The card of the law FnExactDiscantOk, from its walk.
-/
import Derived.Test.YticapinlnlpbpaaDoorLawDo8H
namespace Go.Proofs.YticapinlnlpbpaaDoor
open Go.RowKit Go.ChangeShapes Go.WideShapes Go.ChangeAt
set_option maxRecDepth 100000
set_option linter.unusedVariables false

theorem fnExactDiscantOk_plain (f : FuncId) (fn : Func) (hf : Tryd.pinned.checked.prog.funcNamed "loop.example/neumes/laws.FnExactDiscantOk" = some f) (hfn : Tryd.pinned.checked.prog.funcs[f]? = some fn) :
    false = Tryd.pinned.checked.prog.looks [] ∧ ∀ (j : Nat) t, fn.params[j]? = some t → Tryd.pinned.checked.prog.wantsStandIn t = false := by
  obtain rfl : f = 4 := Option.some.inj ((show Tryd.prog.funcNamed "loop.example/neumes/laws.FnExactDiscantOk" = some 4 by kernel_rfl).symm.trans hf) |>.symm
  obtain rfl : fn = Tryd.f4 := (Option.some.inj (Tryd.func4.symm.trans hfn)).symm
  refine ⟨seat_looks.symm, fun j t ht => ?_⟩
  rw [Tryd.params4] at ht
  have hm := Array.mem_of_getElem? ht
  simp only [List.mem_toArray, List.mem_cons, List.not_mem_nil, or_false] at hm
  rcases hm with rfl | rfl
  all_goals exact (show Tryd.prog.wantsStandIn _ = false by kernel_rfl)
/-- the card -/
theorem fnExactDiscantOk_card : Rows.FnExactDiscantOkCardSaid :=
  Claim7.holds_tied_plain_at .later [] _ _ _ _ fnExactDiscantOk_holds (fun _ h => by cases h) (by kernel_rfl) (fun _ h => by cases h) fnExactDiscantOk_row_tie rfl ⟨rfl, rfl⟩ seat_main rfl fnExactDiscantOk_plain (by kernel_rfl)

end Go.Proofs.YticapinlnlpbpaaDoor
