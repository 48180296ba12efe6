/-
  The texts of tones in the model.
-/
import Derived.Test.YthnofdkkocpjhaaDoorTones
import Derived.Test.YthnofdkkocpjhaaDoorTxm
import Derived.Laws.IdiomStrings
import Derived.Laws.Concat
import Derived.Deep.RegionHeld3
import Derived.Deep.RegionWith
import Derived.IntWalk
namespace Go.Proofs.YthnofdkkocpjhaaDoor
open Go.RowKit
set_option maxRecDepth 100000
set_option linter.unusedVariables false

theorem conv_one (c : UInt8) (w : World) :
    (convert 22 9 (.slice (some ⟨w.heap.size, 0, none⟩) 1 1)).run Tryd.prog (w.alloc (.cells #[.int .u8 (c.toNat : Int)] 5)) = .ok (.string ⟨#[c]⟩) (w.alloc (.cells #[.int .u8 (c.toNat : Int)] 5)) := by
  have h := run_convert_bytes_back (P := Tryd.prog) (w.alloc (.cells #[.int .u8 (c.toNat : Int)] 5)) 22 9 5 ⟨w.heap.size, 0, none⟩ 1 [c] Tryd.underlying22 Tryd.underlying5 Tryd.underlying9 (fun j hj => by
    have : j = 0 := by simpa using hj
    subst this
    simp [Addr.add])
  exact h

/-- one digit as a text -/
def dg (d : Int) : ByteArray := ⟨#[([48, 49, 50] : List UInt8).getD d.toNat 0]⟩

theorem add_one (a b : UInt8) : (⟨#[a]⟩ : ByteArray) ++ (⟨#[b]⟩ : ByteArray) = ⟨#[a, b]⟩ := rfl
end Go.Proofs.YthnofdkkocpjhaaDoor
