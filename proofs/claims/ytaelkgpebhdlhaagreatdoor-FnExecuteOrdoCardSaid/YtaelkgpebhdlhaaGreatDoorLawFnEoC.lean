/-
  The card of the law FnExecuteOrdo, from its walk.
-/
import Derived.Test.YtaelkgpebhdlhaaGreatDoorLawFnEoH
namespace Go.Proofs.YtaelkgpebhdlhaaGreatDoor
open Go.RowKit Go.ChangeShapes Go.WideShapes Go.ChangeAt
set_option maxRecDepth 100000
set_option linter.unusedVariables false

theorem fnExecuteOrdo_plain (f : FuncId) (fn : Func) (hf : Tryz.pinned.checked.prog.funcNamed "loop.example/neumes/laws.FnExecuteOrdo" = some f) (hfn : Tryz.pinned.checked.prog.funcs[f]? = some fn) :
    Rows.fnExecuteOrdoCard.stood.looks = Tryz.pinned.checked.prog.looks [] ∧ ∀ (j : Nat) t, fn.params[j]? = some t → Tryz.pinned.checked.prog.wantsStandIn t = false := by
  obtain rfl : f = 9 := Option.some.inj ((show Tryz.prog.funcNamed "loop.example/neumes/laws.FnExecuteOrdo" = some 9 by kernel_rfl).symm.trans hf) |>.symm
  obtain rfl : fn = Tryz.f9 := (Option.some.inj (Tryz.func9.symm.trans hfn)).symm
  refine ⟨seat_looks.symm, fun j t ht => ?_⟩
  rw [Tryz.params9] at ht
  have hm := Array.mem_of_getElem? ht
  simp only [List.mem_toArray, List.mem_cons, List.not_mem_nil, or_false] at hm
  subst hm
  exact (show Tryz.prog.wantsStandIn _ = false by kernel_rfl)
/-- the card -/
theorem fnExecuteOrdo_card : Rows.FnExecuteOrdoCardSaid :=
  Claim7.holds_tied_plain_at .later [] _ _ _ _ fnExecuteOrdo_holds (fun _ h => by cases h) (by kernel_rfl) (fun _ h => by cases h) fnExecuteOrdo_row_tie rfl ⟨rfl, rfl⟩ seat_main rfl fnExecuteOrdo_plain (by kernel_rfl)

end Go.Proofs.YtaelkgpebhdlhaaGreatDoor
