/-
  A law's tones made into the program's: a new slice of the same tones.
-/
import Derived.Test.YthhndlefafcdeaaDoorTL
namespace Go.Proofs.YthhndlefafcdeaaDoor
open Go.RowKit
set_option maxRecDepth 100000
set_option linter.unusedVariables false

/-- a []laws.Tone that came in: it reads as the tones xs -/
def ArgT (w : World) (a : Option Addr) (xs : List (Int × Bool)) : Prop :=
  xs = [] ∨ ∃ A off, a = some ⟨A, off, none⟩ ∧ A < w.heap.size ∧ ∀ i t, xs[i]? = some t → w.cell? ⟨A, off + i * 2, none⟩ = some (.int .i64 t.1) ∧ w.cell? ⟨A, off + i * 2 + 1, none⟩ = some (.bool t.2)
theorem ArgT.below {w w' : World} {a : Option Addr} {xs : List (Int × Bool)} (h : ArgT w a xs) (hb : Below w.heap.size w w') : ArgT w' a xs := by
  rcases h with h | ⟨A, off, ha, hA, hc⟩
  · exact .inl h
  · refine .inr ⟨A, off, ha, Nat.lt_of_lt_of_le hA hb.size, fun i t ht => ?_⟩
    exact ⟨(hb.cell (p := ⟨A, off + i * 2, none⟩) hA).trans (hc i t ht).1, (hb.cell (p := ⟨A, off + i * 2 + 1, none⟩) hA).trans (hc i t ht).2⟩
end Go.Proofs.YthhndlefafcdeaaDoor
