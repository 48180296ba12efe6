/-
  The table of the tenors, wherever it stands on a law's list.
-/
import Derived.Test.YtmipkodgkldmbaaDoorCards
import Derived.Test.YtmipkodgkldmbaaDoorTie
import Derived.Test.YtmipkodgkldmbaaDoorOpen
import Derived.Test.YtmipkodgkldmbaaDoorMdi
import Derived.Deep.DeepHandedRow
import Derived.Deep.DeepRowAt
import Derived.Lib.LaidTab
import Derived.Lib.LaidU8
import Derived.OpenVars
namespace Go.Proofs.YtmipkodgkldmbaaDoor
open Go.RowKit Go.ChangeShapes Go.WideShapes Go.ChangeAt
set_option maxRecDepth 100000
set_option linter.unusedVariables false

theorem gTen : Tryd.prog.globalNamed "loop.example/neumes/impl.modeTenors" = some 0 := by kernel_rfl
theorem gTenType : (Tryd.prog.globals[0]?).map (·.type) = some 78 := by kernel_rfl
theorem cellsTab8 : Tryd.prog.cellsOf 78 = 8 := by kernel_rfl
theorem cellsIntM : Tryd.prog.cellsOf 3 = 1 := by kernel_rfl

theorem tenTab_at {W : World} {l : List (String × DataW Unit)} (h : laidMet Tryd.prog l W) (hm : ("loop.example/neumes/impl.modeTenors", (Rows.laid_loop_example_neumes_impl_modeTenors : DataW Unit)) ∈ l) : TenTab W := by
  obtain ⟨g', t', cs, fuel, p, hg', ht', hvar, hd⟩ := Lib.laidMet.reads h hm
  obtain rfl := Option.some.inj (gTen.symm.trans hg')
  obtain rfl := Option.some.inj (gTenType.symm.trans ht')
  have ti : Lib.TabIs Tryd.prog W "loop.example/neumes/impl.modeTenors" .i64 [8, 6, 10, 8, 10, 8, 11, 10] := by
    unfold Lib.TabIs
    rw [hvar, ← Lib.cells_of_tab Tryd.underlying78 Tryd.underlying3 cellsIntM cellsTab8 hd]
  intro i hi
  exact ti.cell gTen i (by simpa using hi)
end Go.Proofs.YtmipkodgkldmbaaDoor
