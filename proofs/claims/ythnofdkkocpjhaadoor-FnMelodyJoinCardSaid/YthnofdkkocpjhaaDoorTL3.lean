/-
  Slices of tones marked and read again by the exact laws' helpers.
-/
import Derived.Test.YthnofdkkocpjhaaDoorTL
namespace Go.Proofs.YthnofdkkocpjhaaDoor
open Go.RowKit
set_option maxRecDepth 100000
set_option linter.unusedVariables false

/-- the marks of n tones from s on -/
def mkt (s : Int) (n : Nat) : List (Int × Bool) := (List.range n).map fun i : Nat => (s + 2 * (i : Int), (s + 2 * (i : Int) + 1) % 3 == 0)
theorem mkt_len (s : Int) (n : Nat) : (mkt s n).length = n := by simp [mkt]
theorem mkt_get (s : Int) (n i : Nat) (h : i < n) : (mkt s n)[i]? = some (s + 2 * (i : Int), (s + 2 * (i : Int) + 1) % 3 == 0) := by
  simp [mkt, List.getElem?_map, List.getElem?_range h]
theorem mkt_succ (s : Int) (n : Nat) : mkt s (n + 1) = mkt s n ++ [(s + 2 * (n : Int), (s + 2 * (n : Int) + 1) % 3 == 0)] := by simp [mkt, List.range_succ]
end Go.Proofs.YthnofdkkocpjhaaDoor
