/-
  What the listed tables hold when a law's call begins.
-/
import Derived.Test.YticapinlnlpbpaaDoorCards
import Derived.Test.YticapinlnlpbpaaDoorTie
import Derived.Test.YticapinlnlpbpaaDoorOpen
import Derived.Test.YticapinlnlpbpaaDoorHeight
import Derived.Deep.DeepHandedRow
import Derived.Lib.LaidTab
import Derived.OpenVars
namespace Go.Proofs.YticapinlnlpbpaaDoor
open Go.RowKit Go.ChangeShapes Go.WideShapes Go.ChangeAt
set_option maxRecDepth 100000
set_option linter.unusedVariables false

theorem gStep : Tryd.prog.globalNamed "loop.example/neumes/impl.stepHeights" = some 1 := by kernel_rfl
theorem gStepType : (Tryd.prog.globals[1]?).map (·.type) = some 113 := by kernel_rfl
theorem cellsTab7 : Tryd.prog.cellsOf 113 = 7 := by kernel_rfl
theorem cellsInt1 : Tryd.prog.cellsOf 3 = 1 := by kernel_rfl

theorem stepTab {W : World} {rest : List (String × DataW Unit)} (h : laidMet Tryd.prog (("loop.example/neumes/impl.stepHeights", Rows.laid_loop_example_neumes_impl_stepHeights) :: rest) W) : StepTab W := by
  have t : Lib.TabIs Tryd.prog W "loop.example/neumes/impl.stepHeights" .i64 [0, 2, 4, 5, 7, 9, 10] := Lib.tabIs_of_head gStep gStepType Tryd.underlying113 Tryd.underlying3 cellsInt1 cellsTab7 h
  intro i hi
  exact t.cell gStep i (by simpa using hi)

theorem vars1 {H : Type} {enc : TypeId × Value → H} {P : Program} {W : World} {sp : Nat → Bool} {n : String} {gs : List (DataW H)} {ps : List MemPlace} (h : DataW.TrodVars enc P W sp [n] gs ps) : ∃ g, gs = [g] := by
  match gs, h with
  | [], h => exact h.elim
  | [g], _ => exact ⟨g, rfl⟩
  | _ :: _ :: _, h =>
    obtain ⟨_, _, _, _, _, _, _, _, _, _, hs, _⟩ := h
    exact hs.elim
end Go.Proofs.YticapinlnlpbpaaDoor
