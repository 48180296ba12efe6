/-
  The laws' comparison of equal lists of integers and their sum; the draw of MelodySteps' argument.
-/
import Derived.Test.YthnofdkkocpjhaaDoorSmT
import Derived.Test.YthnofdkkocpjhaaDoorMelS
namespace Go.Proofs.YthnofdkkocpjhaaDoor
open Go.RowKit
set_option maxRecDepth 100000
set_option linter.unusedVariables false

theorem IRow.flat' {w : World} {lo hi n : Nat} {v : Value} {xs : List Int} (h : IRow w lo hi v xs) (hn : xs.length = n) : ∃ a cap, v = .slice a n cap ∧ (0 < n → ∃ g, a = some ⟨g, 0, none⟩ ∧ g < w.heap.size ∧ ∀ i, i < n → w.cell? ⟨g, i, none⟩ = some (.int .i64 (xs.getD i 0))) := by
  rcases h.form with ⟨rfl, rfl⟩ | ⟨g, cap, cur, rfl, _, _, hg, _, _, _, _, _, hc, _⟩
  · subst hn; exact ⟨none, 0, rfl, fun h => by simp at h⟩
  · subst hn; exact ⟨_, cap, rfl, fun _ => ⟨g, rfl, hg, hc⟩⟩

/-- the sum of the first k -/
def sumT (xs : List Int) : Nat → Int
  | 0 => 0
  | k + 1 => sumT xs k + xs.getD k 0
theorem sumT_lim {xs : List Int} {n : Nat} (h : ∀ i, i < n → -100 ≤ xs.getD i 0 ∧ xs.getD i 0 ≤ 100) {k : Nat} (hk : k ≤ n) : -(100 * (k : Int)) ≤ sumT xs k ∧ sumT xs k ≤ 100 * (k : Int) := by
  induction k with
  | zero => exact ⟨Int.le_refl _, Int.le_refl _⟩
  | succ j ih =>
    have h1 := ih (by omega)
    have h2 := h j (by omega)
    simp only [sumT]
    omega
end Go.Proofs.YthnofdkkocpjhaaDoor
