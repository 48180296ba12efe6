/-
  A row of integers that a helper has marked: what has turned.
-/
import Derived.Test.YticapinlnlpbpaaDoorIv
namespace Go.Proofs.YticapinlnlpbpaaDoor
open Go.RowKit
set_option maxRecDepth 100000
set_option linter.unusedVariables false

theorem OwnT.turned {w w' : World} {lo hi : Nat} {u : Value} {zs : List Int} (h : OwnT u w w') (hu : IRow w lo hi u zs) : Turned lo hi w w' :=
  ⟨h.os, h.tape, h.output, h.size, fun k hk ho => h.block k hk (fun e => by
    obtain ⟨⟨_, h1 | ⟨b', cap2, cur2, rfl, hb2, _⟩⟩, hlt⟩ := hu
    · rw [h1.1] at e; simp [Value.ownBlock] at e
    · have e2 : b' = k := by simpa [Value.ownBlock] using e
      subst e2
      have := hlt b' rfl
      omega)⟩
end Go.Proofs.YticapinlnlpbpaaDoor
