/-
  The contracts of the small functions on tones, second part: impl's wrappers, spec's functions, the laws' helpers.
-/
import Derived.Test.YthhndlefafcdeaaDoorTone
namespace Go.Proofs.YthhndlefafcdeaaDoor
open Go.RowKit
set_option maxRecDepth 100000
set_option linter.unusedVariables false

theorem in_any (n lo hi : Int) (w : World) :
    Calls Tryd.prog 48 #[.int .i64 n, .int .i64 lo, .int .i64 hi] w fun e w' => e = .returned (.bool (decide (lo ≤ n) && decide (n ≤ hi))) ∧ w = w' := by
  by_cases h : lo ≤ n
  · go_enter Tryd.func48, Tryd.ntmps48
    go_wp2
    go_ret
    exact ⟨by simp [h], rfl⟩
  · go_enter Tryd.func48, Tryd.ntmps48
    go_wp2
    go_ret
    exact ⟨by simp; omega, rfl⟩

theorem in_no (n lo hi : Int) (h : n < lo ∨ hi < n) (w : World) :
    Calls Tryd.prog 48 #[.int .i64 n, .int .i64 lo, .int .i64 hi] w fun e w' => e = .returned (.bool false) ∧ w = w' := by
  have e : (decide (lo ≤ n) && decide (n ≤ hi)) = false := by simp; omega
  rw [← e]
  exact in_any n lo hi w

theorem in_yes (n lo hi : Int) (h : lo ≤ n) (k : n ≤ hi) (w : World) :
    Calls Tryd.prog 48 #[.int .i64 n, .int .i64 lo, .int .i64 hi] w fun e w' => e = .returned (.bool true) ∧ w = w' := by
  have e : (decide (lo ≤ n) && decide (n ≤ hi)) = true := by simp; omega
  rw [← e]
  exact in_any n lo hi w
end Go.Proofs.YthhndlefafcdeaaDoor
