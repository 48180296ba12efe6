/-
  Slices of tones of a call's own: what they hold and what is kept; the exact laws' helpers on them.
-/
import Derived.Test.YthhndlefafcdeaaDoorTones
import Derived.WalkLawsBesides
import Derived.Handy
import Derived.OwnWalk
import Derived.Laws.Rows
import Derived.Deep.QuietTactic
import Derived.BigQuiet
import Derived.Deep.RegionWith
import Derived.Deep.RegionHeld3
namespace Go.Proofs.YthhndlefafcdeaaDoor
open Go.RowKit
set_option maxRecDepth 100000
set_option linter.unusedVariables false

/-- the cells of a list of tones -/
def tcs : List (Int × Bool) → List Value
  | [] => []
  | t :: r => .int .i64 t.1 :: .bool t.2 :: tcs r
theorem tcs_len (xs : List (Int × Bool)) : (tcs xs).length = xs.length * 2 := by
  induction xs with
  | nil => rfl
  | cons t r ih => simp [tcs, ih]; omega
theorem tcs_app (xs ys : List (Int × Bool)) : tcs (xs ++ ys) = tcs xs ++ tcs ys := by
  induction xs with
  | nil => rfl
  | cons t r ih => simp [tcs, ih]
theorem tcs_get {xs : List (Int × Bool)} {i : Nat} {t : Int × Bool} (h : xs[i]? = some t) : (tcs xs)[i * 2]? = some (.int .i64 t.1) ∧ (tcs xs)[i * 2 + 1]? = some (.bool t.2) := by
  induction xs generalizing i with
  | nil => simp at h
  | cons u r ih =>
    cases i with
    | zero => simp at h; subst h; exact ⟨rfl, rfl⟩
    | succ j =>
      have := ih (i := j) (by simpa using h)
      rw [show (j + 1) * 2 = j * 2 + 1 + 1 by omega]
      exact this
theorem tcs_one (xs : List (Int × Bool)) : ∀ u ∈ tcs xs, u.oneCell' = true := by
  induction xs with
  | nil => intro u hu; cases hu
  | cons t r ih =>
    intro u hu
    simp [tcs] at hu
    rcases hu with rfl | rfl | hu
    · rfl
    · rfl
    · exact ih u hu
end Go.Proofs.YthhndlefafcdeaaDoor
