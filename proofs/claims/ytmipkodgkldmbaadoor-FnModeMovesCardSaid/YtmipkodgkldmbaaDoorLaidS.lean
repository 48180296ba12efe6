/-
  The table of heights, wherever it stands on a law's list.
-/
import Derived.Test.YtmipkodgkldmbaaDoorLaid
import Derived.Lib.LaidU8
namespace Go.Proofs.YtmipkodgkldmbaaDoor
open Go.RowKit Go.ChangeShapes Go.WideShapes Go.ChangeAt
set_option maxRecDepth 100000
set_option linter.unusedVariables false

theorem stepTab_in {W : World} {l : List (String × DataW Unit)} (h : laidMet Tryd.prog l W) (hm : ("loop.example/neumes/impl.stepHeights", (Rows.laid_loop_example_neumes_impl_stepHeights : DataW Unit)) ∈ l) : StepTab W := by
  obtain ⟨g', t', cs, fuel, p, hg', ht', hvar, hd⟩ := Lib.laidMet.reads h hm
  obtain rfl := Option.some.inj (gStep.symm.trans hg')
  obtain rfl := Option.some.inj (gStepType.symm.trans ht')
  have ti : Lib.TabIs Tryd.prog W "loop.example/neumes/impl.stepHeights" .i64 [0, 2, 4, 5, 7, 9, 10] := by
    unfold Lib.TabIs
    rw [hvar, ← Lib.cells_of_tab Tryd.underlying86 Tryd.underlying3 cellsInt1 cellsTab7 hd]
  intro i hi
  exact ti.cell gStep i (by simpa using hi)
end Go.Proofs.YtmipkodgkldmbaaDoor
