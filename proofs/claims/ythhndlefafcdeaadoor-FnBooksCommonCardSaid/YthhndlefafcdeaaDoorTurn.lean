/-
  Tones marked by the exact laws' helper: only the marked slice's block turns.
-/
import Derived.Test.YthhndlefafcdeaaDoorTL3
import Derived.Test.YthhndlefafcdeaaDoorTL2
import Derived.Test.YthhndlefafcdeaaDoorInts
namespace Go.Proofs.YthhndlefafcdeaaDoor
open Go.RowKit
set_option maxRecDepth 100000
set_option linter.unusedVariables false

/-- only blocks from lo on and below hi have turned, and new ones -/
structure Turned (lo hi : Nat) (w w' : World) : Prop where
  os : w'.os = w.os
  tape : w'.tape = w.tape
  output : w'.output = w.output
  size : w.heap.size ≤ w'.heap.size
  block : ∀ k, k < w.heap.size → k < lo ∨ hi ≤ k → w'.heap[k]? = w.heap[k]?
theorem Turned.below {lo hi B : Nat} {w w' : World} (h : Turned lo hi w w') (hB : B ≤ lo) (hs : lo ≤ w.heap.size) : Below B w w' := ⟨h.os, h.tape, h.output, h.size, fun k hk => h.block k (by omega) (.inl (by omega))⟩

theorem IRow.turned {w w' : World} {lo hi lo' hi' : Nat} {v : Value} {xs : List Int} (h : IRow w lo hi v xs) (t : Turned lo' hi' w w') (hd : hi ≤ lo' ∨ hi' ≤ lo) : IRow w' lo hi v xs :=
  h.keep fun k h1 h2 h3 => t.block k h1 (by omega)
end Go.Proofs.YthhndlefafcdeaaDoor
