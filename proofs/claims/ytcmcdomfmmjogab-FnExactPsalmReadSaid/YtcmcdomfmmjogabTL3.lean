/-
  Slices of tones marked and read again by the exact laws' helpers.
-/
import Derived.Test.YtcmcdomfmmjogabTL
namespace Go.Proofs.Ytcmcdomfmmjogab
open Go.RowKit
set_option maxRecDepth 100000
set_option linter.unusedVariables false

theorem szToneS_any (a : Option Addr) (n c : Nat) (hn : n ≤ 9223372036854775807) (w : World) :
    Calls Try.prog 10 #[.slice a n c, .int .i64 1048576] w fun e w' => e = .returned (.int .i64 (if n ≤ 1048576 then 1048576 - (n : Int) else -1)) ∧ w = w' := by
  by_cases h : n ≤ 1048576
  · rw [if_pos h]
    go_enter Try.func10, Try.ntmps10
    go_wp2
    go_ret
    exact ⟨rfl, rfl⟩
  · rw [if_neg h]
    have g : (1048576 : Int) < (n : Int) := by omega
    go_enter Try.func10, Try.ntmps10
    go_wp2
    go_ret
    exact ⟨rfl, rfl⟩

/-- the marks of n tones from s on -/
def mkt (s : Int) (n : Nat) : List (Int × Bool) := (List.range n).map fun i : Nat => (s + 2 * (i : Int), (s + 2 * (i : Int) + 1) % 3 == 0)
theorem mkt_len (s : Int) (n : Nat) : (mkt s n).length = n := by simp [mkt]
theorem mkt_get (s : Int) (n i : Nat) (h : i < n) : (mkt s n)[i]? = some (s + 2 * (i : Int), (s + 2 * (i : Int) + 1) % 3 == 0) := by
  simp [mkt, List.getElem?_map, List.getElem?_range h]
theorem mkt_succ (s : Int) (n : Nat) : mkt s (n + 1) = mkt s n ++ [(s + 2 * (n : Int), (s + 2 * (n : Int) + 1) % 3 == 0)] := by simp [mkt, List.range_succ]
end Go.Proofs.Ytcmcdomfmmjogab
