/-
  The draw of a melody returns: a list of at most so many tones in memory of its own.
-/
import Derived.Test.YthhndlefafcdeaaDoorPick
import Derived.Test.YthhndlefafcdeaaDoorDraw1
import Derived.Test.YthhndlefafcdeaaDoorDraw2
import Derived.Test.YthhndlefafcdeaaDoorMelT
import Derived.Test.YthhndlefafcdeaaDoorTurn
namespace Go.Proofs.YthhndlefafcdeaaDoor
open Go.RowKit
set_option maxRecDepth 100000
set_option linter.unusedVariables false

theorem Rd.grown {w w' : World} {B A q : Nat} {row : Option Nat} (h : Rd w B A q) (hg : w.grownBy w' row) (hB : some B ≠ row) (hA : some A ≠ row) : Rd w' B A q := by
  have hlB := h.lt
  have hlA := h.ltA
  obtain ⟨p, hp, a, n, cap, hh, hn, hl, hby⟩ := h
  exact ⟨p, hp, a, n, cap, (hg.block B hlB hB).trans hh, hn, Nat.lt_of_lt_of_le hl hg.size, hby.keep (fun _ => hg.block A hlA hA)⟩
theorem gb_own {a w w' : World} {B : Nat} {row : Option Nat} {o : Obj} (h : a.grownBy w (some B)) (hg : (w.alloc o).grownBy w' row) (hr : ∀ g, row = some g → a.heap.size ≤ g) : a.grownBy w' (some B) := by
  have h1 := gb_alloc h o
  exact ⟨hg.os.trans h1.os, hg.tape.trans h1.tape, hg.output.trans h1.output, Nat.le_trans h1.size hg.size, fun i hi hne => (hg.block i (Nat.lt_of_lt_of_le hi h1.size) (fun e => by have := hr i e.symm; omega)).trans (h1.block i hi hne)⟩
end Go.Proofs.YthhndlefafcdeaaDoor
