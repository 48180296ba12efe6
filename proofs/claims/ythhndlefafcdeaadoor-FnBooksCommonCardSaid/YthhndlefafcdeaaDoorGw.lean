/-
  A slice of melismas that may begin inside its block.
-/
import Derived.Test.YthhndlefafcdeaaDoorGl
namespace Go.Proofs.YthhndlefafcdeaaDoor
open Go.RowKit
set_option maxRecDepth 100000
set_option linter.unusedVariables false

/-- v is a slice of just the melismas xs, from any place of a block on that lies from lo on and below hi -/
def GRw (w : World) (lo hi : Nat) (v : Value) (xs : List (Int × Bool)) : Prop :=
  (v = .slice none 0 0 ∧ xs = []) ∨
    ∃ g o cap, v = .slice (some ⟨g, o, none⟩) xs.length cap ∧ lo ≤ g ∧ g < hi ∧ g < w.heap.size ∧ xs.length ≤ cap ∧ cap ≤ maxLen ∧
      (∀ i t, xs[i]? = some t → w.cell? ⟨g, o + i * 2, none⟩ = some (.int .i64 t.1) ∧ w.cell? ⟨g, o + i * 2 + 1, none⟩ = some (.bool t.2))

theorem GRw.form {w : World} {lo hi : Nat} {v : Value} {xs : List (Int × Bool)} (h : GRw w lo hi v xs) : (v = .slice none 0 0 ∧ xs = []) ∨
    ∃ g o cap, v = .slice (some ⟨g, o, none⟩) xs.length cap ∧ lo ≤ g ∧ g < hi ∧ g < w.heap.size ∧ xs.length ≤ cap ∧ cap ≤ maxLen ∧
      (∀ i t, xs[i]? = some t → w.cell? ⟨g, o + i * 2, none⟩ = some (.int .i64 t.1) ∧ w.cell? ⟨g, o + i * 2 + 1, none⟩ = some (.bool t.2)) := h

theorem GRw.keep {w w' : World} {lo hi : Nat} {v : Value} {xs : List (Int × Bool)} (h : GRw w lo hi v xs) (hz : w.heap.size ≤ w'.heap.size) (hk : ∀ k, k < w.heap.size → lo ≤ k → k < hi → w'.heap[k]? = w.heap[k]?) : GRw w' lo hi v xs := by
  rcases h with h | ⟨g, o, cap, rfl, h1, h2, h3, h4, h5, hc⟩
  · exact .inl h
  · have e : ∀ i, w'.cell? ⟨g, i, none⟩ = w.cell? ⟨g, i, none⟩ := fun i => by simp [World.cell?, hk g h3 h1 h2]
    exact .inr ⟨g, o, cap, rfl, h1, h2, Nat.lt_of_lt_of_le h3 hz, h4, h5, fun i t ht => ⟨(e _).trans (hc i t ht).1, (e _).trans (hc i t ht).2⟩⟩

theorem GRw.below {w w' : World} {lo hi B : Nat} {v : Value} {xs : List (Int × Bool)} (h : GRw w lo hi v xs) (hb : Below B w w') (hB : hi ≤ B ∨ w.heap.size ≤ B) : GRw w' lo hi v xs :=
  h.keep hb.size fun k h1 h2 h3 => hb.block k (by omega)

/-- what is behind the first one -/
theorem GRw.tail {w : World} {lo hi g o L cap : Nat} {t : Int × Bool} {xs : List (Int × Bool)} (h : GRw w lo hi (.slice (some ⟨g, o, none⟩) L cap) (t :: xs)) (hL : L = xs.length + 1) : GRw w lo hi (.slice (some ⟨g, o + 2, none⟩) xs.length (cap - 1)) xs ∧ (xs = [] → GRw w lo hi (.slice (some ⟨g, o, none⟩) xs.length (cap - 1)) xs) := by
  rcases h with ⟨h, _⟩ | ⟨g', o', cap', h0, h1, h2, h3, h4, h5, hc⟩
  · cases h
  · injection h0 with e1 e2 e3
    injection e1 with e1
    injection e1 with e1 e4
    subst e1 e3 e4
    simp only [List.length_cons] at h4
    refine ⟨.inr ⟨g, o + 2, cap - 1, rfl, h1, h2, h3, by omega, by unfold maxLen at *; omega, fun i u hu => ?_⟩, fun hx => ?_⟩
    · have := hc (i + 1) u (by simpa using hu)
      rw [show o + 2 + i * 2 = o + (i + 1) * 2 by omega]
      exact this
    · subst hx
      exact .inr ⟨g, o, cap - 1, rfl, h1, h2, h3, by simp, by unfold maxLen at *; omega, fun i u hu => by simp at hu⟩
end Go.Proofs.YthhndlefafcdeaaDoor
