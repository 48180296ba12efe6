/-
  How many readings there are, the best one, the fewest formulas: in the program; how many: in the model.
-/
import Derived.Test.YtjhigjbfnemdjaaEw
namespace Go.Proofs.Ytjhigjbfnemdjaa
open Go.RowKit Go.Maps
set_option maxRecDepth 100000
set_option linter.unusedVariables false

/-- how many readings there are, or -1 -/
def fmany (fs : List Fm) (s : List Int) : Int := if fok fs s = true then ((R fs s 0).many : Int) else -1
theorem fmany_yes {fs : List Fm} {s : List Int} (h : fok fs s = true) : fmany fs s = ((R fs s 0).many : Int) := by unfold fmany; rw [if_pos h]
theorem fmany_no {fs : List Fm} {s : List Int} (h : fok fs s = false) : fmany fs s = -1 := by unfold fmany; rw [if_neg (by rw [h]; decide)]

theorem finder_yes [Lo] (v u : Value) (fs : List Fm) (s : List Int) (hk : fok fs s = true) (w : World) (h : FV w v fs) (k : IV w u s) : Calls Try.prog 41 #[v, u] w fun e w' => ∃ b, e = .returned (.tuple #[.agg #[v, u, .map (some b)], .bool true]) ∧ FInv fs s s.length w' b ∧ w.heap.size ≤ b ∧ Below w.heap.size w w' :=
  (newFinder_any v u fs s w h k).mono fun e w' hc => by
    obtain ⟨⟨_, b, he, hf, hb0⟩ | ⟨h1, _⟩, hb⟩ := hc
    · exact ⟨b, he, hf, hb0, hb⟩
    · rw [hk] at h1; cases h1
theorem finder_no (v u : Value) (fs : List Fm) (s : List Int) (hk : fok fs s = false) (w : World) (h : FV w v fs) (k : IV w u s) : Calls Try.prog 41 #[v, u] w fun e w' => e = .returned (.tuple #[.agg #[.slice none 0 0, .slice none 0 0, .map none], .bool false]) ∧ Below w.heap.size w w' :=
  (@newFinder_any ⟨0⟩ v u fs s w h k).mono fun e w' hc => by
    obtain ⟨⟨h1, _⟩ | ⟨_, he⟩, hb⟩ := hc
    · rw [hk] at h1; cases h1
    · exact ⟨he, hb⟩
end Go.Proofs.Ytjhigjbfnemdjaa
