/-
  Both tables of tones, as a law's list has them.
-/
import Derived.Test.YticapinlnlpbpaaDoorLaidI
import Derived.Test.YticapinlnlpbpaaDoorCnp
namespace Go.Proofs.YticapinlnlpbpaaDoor
open Go.RowKit Go.ChangeShapes Go.WideShapes Go.ChangeAt
set_option maxRecDepth 100000
set_option linter.unusedVariables false

theorem twoTab_at {W : World} {l : List (String × DataW Unit)} (h : laidMet Tryd.prog l W) (hm : ("loop.example/neumes/impl.stepHeights", (Rows.laid_loop_example_neumes_impl_stepHeights : DataW Unit)) ∈ l) (hm2 : ("loop.example/neumes/impl.leastSemis", (Rows.laid_loop_example_neumes_impl_leastSemis : DataW Unit)) ∈ l) : TwoTab W :=
  ⟨stepTab_at h hm, leastTab_at h hm2⟩
end Go.Proofs.YticapinlnlpbpaaDoor
