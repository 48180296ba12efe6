/-
  A law's helper: the melismas left behind the tones.
-/
import Derived.Test.YtkjimilapgkajabDoorGl
namespace Go.Proofs.YtkjimilapgkajabDoor
open Go.RowKit
set_option maxRecDepth 100000
set_option linter.unusedVariables false

theorem szMelS_left (a : Option Addr) (n c m : Nat) (hm : m ≤ 1048576) (hn : n ≤ 9223372036854775807) (w : World) :
    Calls Tryd.prog 47 #[.slice a n c, .int .i64 (m : Int)] w fun e w' => e = .returned (.int .i64 (if n ≤ m then (m : Int) - (n : Int) else -1)) ∧ w = w' := by
  by_cases h : n ≤ m
  · rw [if_pos h]
    have g : decide ((m : Int) - (n : Int) < 0) = false := by simp; omega
    go_enter Tryd.func47, Tryd.ntmps47
    go_wp2
    go_ret
    exact ⟨rfl, rfl⟩
  · rw [if_neg h]
    have g : (m : Int) - (n : Int) < 0 := by omega
    go_enter Tryd.func47, Tryd.ntmps47
    go_wp2
    go_ret
    exact ⟨rfl, rfl⟩
end Go.Proofs.YtkjimilapgkajabDoor
