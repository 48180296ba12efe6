/-
  MelodyValid in both programs.
-/
import Derived.Test.YthhndlefafcdeaaDoorMel
import Derived.Test.YthhndlefafcdeaaDoorTL2
import Derived.Test.YthhndlefafcdeaaDoorTL3
namespace Go.Proofs.YthhndlefafcdeaaDoor
open Go.RowKit
set_option maxRecDepth 100000
set_option linter.unusedVariables false

theorem allv_take {xs : List (Int × Bool)} {k : Nat} {t : Int × Bool} (h : allv (xs.take k) = true) (hx : xs[k]? = some t) (hv : vd t.1 t.2 = true) : allv (xs.take (k + 1)) = true := by
  rw [List.take_add_one, hx]
  unfold allv at h ⊢
  rw [List.all_append, h]
  simp [hv]
theorem mv_eq {xs : List (Int × Bool)} (h : allv (xs.take xs.length) = true) : mv xs = decide ((xs.length : Int) ≤ 24) := by
  rw [List.take_length] at h
  unfold mv
  rw [h, Bool.and_true]
  by_cases g : xs.length ≤ 24
  · simp [g]; omega
  · simp [g]; omega
end Go.Proofs.YthhndlefafcdeaaDoor
