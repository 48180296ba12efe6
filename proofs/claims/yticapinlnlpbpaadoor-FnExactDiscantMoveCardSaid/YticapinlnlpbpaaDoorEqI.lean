/-
  Two lists of integers compared, in the model and in the library's function.
-/
import Derived.Test.YticapinlnlpbpaaDoorInts
namespace Go.Proofs.YticapinlnlpbpaaDoor
open Go.RowKit
set_option maxRecDepth 100000
set_option linter.unusedVariables false

theorem bl_drewN7 {B : Nat} {a w : World} (h : Below B a w) (n : Nat) : Below B a (w.drewN n) := ⟨h.os, h.tape, h.output, h.size, h.block⟩
/-- are two lists equal? -/
def ieq (xs ys : List Int) : Bool := decide (xs = ys)
theorem ieq_len {xs ys : List Int} (h : xs.length ≠ ys.length) : ieq xs ys = false := by
  unfold ieq; rw [decide_eq_false_iff_not]; intro e; exact h (by rw [e])
theorem ieq_at {xs ys : List Int} {k : Nat} (h : xs.getD k 0 ≠ ys.getD k 0) : ieq xs ys = false := by
  unfold ieq; rw [decide_eq_false_iff_not]; intro e; exact h (by rw [e])
theorem ieq_all {xs ys : List Int} (h : xs.length = ys.length) (g : ∀ i, i < xs.length → xs.getD i 0 = ys.getD i 0) : ieq xs ys = true := by
  unfold ieq
  rw [decide_eq_true_iff]
  apply List.ext_getElem h
  intro i h1 h2
  have := g i h1
  simpa [List.getD_eq_getElem?_getD, List.getElem?_eq_getElem h1, List.getElem?_eq_getElem h2] using this
theorem irow_len {w : World} {lo hi : Nat} {v : Value} {xs : List Int} (h : IRow w lo hi v xs) : ∃ a c, v = .slice a xs.length c := by
  rcases h.form with ⟨rfl, rfl⟩ | ⟨g, cap, cur, rfl, _⟩
  · exact ⟨none, 0, rfl⟩
  · exact ⟨_, _, rfl⟩
end Go.Proofs.YticapinlnlpbpaaDoor
