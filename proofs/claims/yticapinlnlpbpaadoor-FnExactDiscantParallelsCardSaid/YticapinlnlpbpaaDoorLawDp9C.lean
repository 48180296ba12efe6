/-
  The card of the law FnExactDiscantParallels, from its walk.
-/
import Derived.Test.YticapinlnlpbpaaDoorLawDp9H
namespace Go.Proofs.YticapinlnlpbpaaDoor
open Go.RowKit Go.ChangeShapes Go.WideShapes Go.ChangeAt
set_option maxRecDepth 100000
set_option linter.unusedVariables false

theorem fnExactDiscantParallels_plain (f : FuncId) (fn : Func) (hf : Tryd.pinned.checked.prog.funcNamed "loop.example/neumes/laws.FnExactDiscantParallels" = some f) (hfn : Tryd.pinned.checked.prog.funcs[f]? = some fn) :
    false = Tryd.pinned.checked.prog.looks [] ∧ ∀ (j : Nat) t, fn.params[j]? = some t → Tryd.pinned.checked.prog.wantsStandIn t = false := by
  obtain rfl : f = 5 := Option.some.inj ((show Tryd.prog.funcNamed "loop.example/neumes/laws.FnExactDiscantParallels" = some 5 by kernel_rfl).symm.trans hf) |>.symm
  obtain rfl : fn = Tryd.f5 := (Option.some.inj (Tryd.func5.symm.trans hfn)).symm
  refine ⟨seat_looks.symm, fun j t ht => ?_⟩
  rw [Tryd.params5] at ht
  have hm := Array.mem_of_getElem? ht
  simp only [List.mem_toArray, List.mem_cons, List.not_mem_nil, or_false] at hm
  rcases hm with rfl | rfl
  all_goals exact (show Tryd.prog.wantsStandIn _ = false by kernel_rfl)
/-- the card -/
theorem fnExactDiscantParallels_card : Rows.FnExactDiscantParallelsCardSaid :=
  Claim7.holds_tied_plain_at .later [] _ _ _ _ fnExactDiscantParallels_holds (fun _ h => by cases h) (by kernel_rfl) (fun _ h => by cases h) fnExactDiscantParallels_row_tie rfl ⟨rfl, rfl⟩ seat_main rfl fnExactDiscantParallels_plain (by kernel_rfl)

end Go.Proofs.YticapinlnlpbpaaDoor
