/-
  MelodySame in both programs.
-/
import Derived.Test.YticapinlnlpbpaaDoorMelS3
import Derived.Test.YticapinlnlpbpaaDoorMelS2
import Derived.Test.YticapinlnlpbpaaDoorEqI
import Derived.Test.YticapinlnlpbpaaDoorMelV
namespace Go.Proofs.YticapinlnlpbpaaDoor
open Go.RowKit
set_option maxRecDepth 100000
set_option linter.unusedVariables false

def msame (xs ys : List (Int × Bool)) : Bool := mv xs && mv ys && decide (xs.length = ys.length) && ieq (semisOf xs) (semisOf ys) && ieq (stepsOf xs) (stepsOf ys)
theorem msame_1 {xs ys : List (Int × Bool)} (h : mv xs = false) : msame xs ys = false := by simp [msame, h]
theorem msame_2 {xs ys : List (Int × Bool)} (h : mv ys = false) : msame xs ys = false := by simp [msame, h]
theorem msame_3 {xs ys : List (Int × Bool)} (h : xs.length ≠ ys.length) : msame xs ys = false := by simp [msame, h]
theorem msame_4 {xs ys : List (Int × Bool)} (h : ieq (semisOf xs) (semisOf ys) = false) : msame xs ys = false := by simp [msame, h]
theorem msame_5 {xs ys : List (Int × Bool)} (h1 : mv xs = true) (h2 : mv ys = true) (h3 : xs.length = ys.length) (h4 : ieq (semisOf xs) (semisOf ys) = true) : msame xs ys = ieq (stepsOf xs) (stepsOf ys) := by simp [msame, h1, h2, h3, h4]
theorem trow_len {w : World} {lo hi : Nat} {v : Value} {xs : List (Int × Bool)} (h : TRow w lo hi v xs) : ∃ a c, v = .slice a xs.length c := by
  rcases h.form with ⟨rfl, rfl⟩ | ⟨g, cap, rfl, _⟩
  · exact ⟨none, 0, rfl⟩
  · exact ⟨_, _, rfl⟩
end Go.Proofs.YticapinlnlpbpaaDoor
