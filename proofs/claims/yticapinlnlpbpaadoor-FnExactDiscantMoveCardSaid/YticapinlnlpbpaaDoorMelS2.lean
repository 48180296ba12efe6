/-
  The steps between a melody's neighbours, in the model.
-/
import Derived.Test.YticapinlnlpbpaaDoorMelS
import Derived.Deep.RegionHeld3
import Derived.Deep.AppendLies
import Derived.WalkSpells
import Derived.IntWalk
namespace Go.Proofs.YticapinlnlpbpaaDoor
open Go.RowKit
set_option maxRecDepth 100000
set_option linter.unusedVariables false

theorem difs_stp {xs : List (Int × Bool)} (h : allv xs = true) {k : Nat} {t u : Int × Bool} (ht : xs[k]? = some t) (hu : xs[k + 1]? = some u) : difs stp xs (k + 1) = difs stp xs k ++ [u.1 - t.1] := by
  rw [difs_succ stp ht hu, stp_yes (allv_at h ht) (allv_at h hu)]
end Go.Proofs.YticapinlnlpbpaaDoor
