/-
  The card of the law FnExactStemMove, from its walk.
-/
import Derived.Test.YthhndlefafcdeaaDoorLawStmH
namespace Go.Proofs.YthhndlefafcdeaaDoor
open Go.RowKit Go.ChangeShapes Go.WideShapes Go.ChangeAt
set_option maxRecDepth 100000
set_option linter.unusedVariables false

theorem fnExactStemMove_plain (f : FuncId) (fn : Func) (hf : Tryd.pinned.checked.prog.funcNamed "loop.example/neumes/laws.FnExactStemMove" = some f) (hfn : Tryd.pinned.checked.prog.funcs[f]? = some fn) :
    false = Tryd.pinned.checked.prog.looks [] ∧ ∀ (j : Nat) t, fn.params[j]? = some t → Tryd.pinned.checked.prog.wantsStandIn t = false := by
  obtain rfl : f = 10 := Option.some.inj ((show Tryd.prog.funcNamed "loop.example/neumes/laws.FnExactStemMove" = some 10 by kernel_rfl).symm.trans hf) |>.symm
  obtain rfl : fn = Tryd.f10 := (Option.some.inj (Tryd.func10.symm.trans hfn)).symm
  refine ⟨seat_looks.symm, fun j t ht => ?_⟩
  rw [Tryd.params10] at ht
  have hm := Array.mem_of_getElem? ht
  simp only [List.mem_toArray, List.mem_cons, List.not_mem_nil, or_false] at hm
  rcases hm with rfl | rfl | rfl | rfl
  all_goals exact (show Tryd.prog.wantsStandIn _ = false by kernel_rfl)
/-- the card -/
theorem fnExactStemMove_card : Rows.FnExactStemMoveCardSaid :=
  Claim7.holds_tied_plain_at .later [] _ _ _ _ fnExactStemMove_holds (fun _ h => by cases h) (by kernel_rfl) (fun _ h => by cases h) fnExactStemMove_row_tie rfl ⟨rfl, rfl⟩ seat_main rfl fnExactStemMove_plain (by kernel_rfl)

end Go.Proofs.YthhndlefafcdeaaDoor
