/-
  ToneHeight in both programs.
-/
import Derived.Test.YticapinlnlpbpaaDoorHeight
import Derived.Deep.RegionHeld3
namespace Go.Proofs.YticapinlnlpbpaaDoor
open Go.RowKit
set_option maxRecDepth 100000
set_option linter.unusedVariables false

/-- the semitones between two tones, 0 if they are none -/
def sem (s : Int) (b : Bool) (t : Int) (c : Bool) : Int := if vd s b && vd t c then hgt t c - hgt s b else 0
theorem sem_no1 {s t : Int} {b c : Bool} (h : vd s b = false) : sem s b t c = 0 := by simp [sem, h]
theorem sem_no2 {s t : Int} {b c : Bool} (h : vd t c = false) : sem s b t c = 0 := by simp [sem, h]
theorem sem_yes {s t : Int} {b c : Bool} (h : vd s b = true) (k : vd t c = true) : sem s b t c = hgt t c - hgt s b := by simp [sem, h, k]
theorem hgt_bd {s : Int} {b : Bool} (h0 : 0 ≤ s) (h1 : s ≤ 20) : -1 ≤ hgt s b ∧ hgt s b ≤ 34 := by
  have h := hT_bd (s % 7).toNat (by omega)
  unfold hgt
  cases b <;> simp <;> omega
end Go.Proofs.YticapinlnlpbpaaDoor
