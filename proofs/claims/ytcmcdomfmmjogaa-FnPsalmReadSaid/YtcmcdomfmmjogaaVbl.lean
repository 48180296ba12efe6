/-
  A call that only draws leaves old memory alone.
-/
import Derived.Test.YtcmcdomfmmjogaaBase
import Derived.Deep.QuietTactic
import Derived.BigQuiet
namespace Go.Proofs.Ytcmcdomfmmjogaa
open Go.RowKit
theorem bl_drewN {B : Nat} {a w : World} (h : Below B a w) (n : Nat) : Below B a (w.drewN n) := ⟨h.os, h.tape, h.output, h.size, h.block⟩
end Go.Proofs.Ytcmcdomfmmjogaa
