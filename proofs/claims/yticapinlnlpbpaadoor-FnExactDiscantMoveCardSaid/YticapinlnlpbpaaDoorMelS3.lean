/-
  The semitones between a melody's neighbours, in the model.
-/
import Derived.Test.YticapinlnlpbpaaDoorMelSd
import Derived.Deep.RegionHeld3
import Derived.Deep.AppendLies
import Derived.WalkSpells
import Derived.IntWalk
namespace Go.Proofs.YticapinlnlpbpaaDoor
open Go.RowKit
set_option maxRecDepth 100000
set_option linter.unusedVariables false

theorem difs_sem {xs : List (Int × Bool)} (h : allv xs = true) {k : Nat} {t u : Int × Bool} (ht : xs[k]? = some t) (hu : xs[k + 1]? = some u) : difs sem xs (k + 1) = difs sem xs k ++ [hgt u.1 u.2 - hgt t.1 t.2] := by
  rw [difs_succ sem ht hu, sem_yes (allv_at h ht) (allv_at h hu)]
end Go.Proofs.YticapinlnlpbpaaDoor
