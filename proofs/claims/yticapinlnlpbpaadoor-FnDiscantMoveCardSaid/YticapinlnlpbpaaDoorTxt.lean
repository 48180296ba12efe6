/-
  The texts of tones in the model.
-/
import Derived.Test.YticapinlnlpbpaaDoorTones
import Derived.Test.YticapinlnlpbpaaDoorTxm
import Derived.Laws.IdiomStrings
import Derived.Laws.Concat
import Derived.Deep.RegionHeld3
import Derived.Deep.RegionWith
import Derived.IntWalk
namespace Go.Proofs.YticapinlnlpbpaaDoor
open Go.RowKit
set_option maxRecDepth 100000
set_option linter.unusedVariables false

theorem conv_one (c : UInt8) (w : World) :
    (convert 37 9 (.slice (some ⟨w.heap.size, 0, none⟩) 1 1)).run Tryd.prog (w.alloc (.cells #[.int .u8 (c.toNat : Int)] 5)) = .ok (.string ⟨#[c]⟩) (w.alloc (.cells #[.int .u8 (c.toNat : Int)] 5)) := by
  have h := run_convert_bytes_back (P := Tryd.prog) (w.alloc (.cells #[.int .u8 (c.toNat : Int)] 5)) 37 9 5 ⟨w.heap.size, 0, none⟩ 1 [c] Tryd.underlying37 Tryd.underlying5 Tryd.underlying9 (fun j hj => by
    have : j = 0 := by simpa using hj
    subst this
    simp [Addr.add])
  exact h

/-- one digit as a text -/
def dg (d : Int) : ByteArray := ⟨#[([48, 49, 50] : List UInt8).getD d.toNat 0]⟩

set_option maxHeartbeats 1000000 in
theorem l6Dec_any (d : Int) (h0 : 0 ≤ d) (h1 : d ≤ 2) (w : World) :
    Calls Tryd.prog 96 #[.int .i64 d] w fun e w' => e = .returned (.string (dg d)) ∧ Below w.heap.size w w' := by
  have c0 := conv_one 48
  have c1 := conv_one 49
  have c2 := conv_one 50
  have k0 : ((48 : UInt8).toNat : Int) = 48 := rfl
  have k1 : ((49 : UInt8).toNat : Int) = 49 := rfl
  have k2 : ((50 : UInt8).toNat : Int) = 50 := rfl
  rw [k0] at c0
  rw [k1] at c1
  rw [k2] at c2
  clear k0 k1 k2
  have : d = 0 ∨ d = 1 ∨ d = 2 := by omega
  clear h0 h1
  rcases this with rfl | rfl | rfl
  all_goals
    go_enter Tryd.func96, Tryd.ntmps96
    go_wp2_with (fail)
    go_ret
    exact ⟨rfl, by (repeat' (first | (with_reducible exact Below.refl _ _) | (with_reducible refine Below.alloc ?_ ?_ _) | (with_reducible refine Below.drew ?_) | (with_reducible refine Below.setCell ?_ ?_ _) | (with_reducible refine bl_step ?_ (by assumption)) | go_size))⟩

theorem add_one (a b : UInt8) : (⟨#[a]⟩ : ByteArray) ++ (⟨#[b]⟩ : ByteArray) = ⟨#[a, b]⟩ := rfl
end Go.Proofs.YticapinlnlpbpaaDoor
