/-
  The two tables of heights and of least semitones, wherever they stand on a law's list; a table of words.
-/
import Derived.Test.YticapinlnlpbpaaDoorLaid
import Derived.Test.YticapinlnlpbpaaDoorLaid2
import Derived.Test.YticapinlnlpbpaaDoorIvi
import Derived.Lib.LaidU8
namespace Go.Proofs.YticapinlnlpbpaaDoor
open Go.RowKit Go.ChangeShapes Go.WideShapes Go.ChangeAt
set_option maxRecDepth 100000
set_option linter.unusedVariables false

theorem gLeast : Tryd.prog.globalNamed "loop.example/neumes/impl.leastSemis" = some 0 := by kernel_rfl
theorem gLeastType : (Tryd.prog.globals[0]?).map (·.type) = some 113 := by kernel_rfl

theorem tab_at {W : World} {n : String} {zs : List Int} {g : Nat} {l : List (String × DataW Unit)} (hg : Tryd.prog.globalNamed n = some g) (hty : (Tryd.prog.globals[g]?).map (·.type) = some 113)
    (h : laidMet Tryd.prog l W) (hm : (n, (Lib.tabData .i64 zs : DataW Unit)) ∈ l) : Lib.TabIs Tryd.prog W n .i64 zs := by
  obtain ⟨g', t', cs, fuel, p, hg', ht', hvar, hd⟩ := Lib.laidMet.reads h hm
  obtain rfl := Option.some.inj (hg.symm.trans hg')
  obtain rfl := Option.some.inj (hty.symm.trans ht')
  unfold Lib.TabIs
  rw [hvar, ← Lib.cells_of_tab Tryd.underlying113 Tryd.underlying3 cellsInt1 cellsTab7 hd]
theorem stepTab_at {W : World} {l : List (String × DataW Unit)} (h : laidMet Tryd.prog l W) (hm : ("loop.example/neumes/impl.stepHeights", (Rows.laid_loop_example_neumes_impl_stepHeights : DataW Unit)) ∈ l) : StepTab W := fun i hi =>
  (tab_at (zs := [0, 2, 4, 5, 7, 9, 10]) gStep gStepType h hm).cell gStep i (by simpa using hi)
theorem leastTab_at {W : World} {l : List (String × DataW Unit)} (h : laidMet Tryd.prog l W) (hm : ("loop.example/neumes/impl.leastSemis", (Rows.laid_loop_example_neumes_impl_leastSemis : DataW Unit)) ∈ l) : LeastTab W := fun i hi =>
  (tab_at (zs := [0, 1, 3, 5, 7, 8, 10]) gLeast gLeastType h hm).cell gLeast i (by simpa using hi)
end Go.Proofs.YticapinlnlpbpaaDoor
