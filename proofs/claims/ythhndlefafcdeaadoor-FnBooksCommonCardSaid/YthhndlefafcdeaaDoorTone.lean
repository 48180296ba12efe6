/-
  The contracts of the small functions on tones.
-/
import Derived.Test.YthhndlefafcdeaaDoorBase
import Derived.Test.YthhndlefafcdeaaDoorMath
import Derived.OpenShut
import Derived.WalkLawsBesides
import Derived.Handy
namespace Go.Proofs.YthhndlefafcdeaaDoor
open Go.RowKit
set_option maxRecDepth 100000
set_option linter.unusedVariables false

theorem slice_ltr (s : Int) (w : World) :
    (Instr.slice 9 (Value.string ⟨#[71, 65, 66, 67, 68, 69, 70]⟩) (some (Value.int .i64 (s % 7))) (some (Value.int .i64 (s % 7 + 1))) none).run Tryd.prog w = .ok (.string (ltr s)) w := by
  unfold ltr
  rcases mod7 s with h | h | h | h | h | h | h <;> rw [h] <;> kernel_rfl
end Go.Proofs.YthhndlefafcdeaaDoor
