/-
  A row of tones read as one slice, whether nil or a block.
-/
import Derived.Test.YthnofdkkocpjhaaDoorTL2
namespace Go.Proofs.YthnofdkkocpjhaaDoor
open Go.RowKit
set_option maxRecDepth 100000
set_option linter.unusedVariables false

theorem TRow.flat {w : World} {lo hi n : Nat} {v : Value} {xs : List (Int × Bool)} (h : TRow w lo hi v xs) (hn : xs.length = n) : ∃ a cap, v = .slice a n cap ∧ (0 < n → ∃ g, a = some ⟨g, 0, none⟩ ∧ g < w.heap.size ∧ ∀ i, i < n → w.cell? ⟨g, i * 2, none⟩ = some (.int .i64 (xs.getD i (0, false)).1) ∧ w.cell? ⟨g, i * 2 + 1, none⟩ = some (.bool (xs.getD i (0, false)).2)) := by
  subst hn
  rcases h.form with ⟨rfl, rfl⟩ | ⟨g, cap, rfl, _, _, hg, _, _, hc⟩
  · exact ⟨none, 0, rfl, fun h => by simp at h⟩
  · refine ⟨_, cap, rfl, fun _ => ⟨g, rfl, hg, fun i hi => ?_⟩⟩
    have e : xs[i]? = some (xs.getD i (0, false)) := by rw [List.getD_eq_getElem?_getD, List.getElem?_eq_getElem hi]; rfl
    exact hc i _ e
end Go.Proofs.YthnofdkkocpjhaaDoor
