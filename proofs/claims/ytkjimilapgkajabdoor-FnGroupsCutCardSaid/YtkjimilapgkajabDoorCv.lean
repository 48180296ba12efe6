/-
  Is a text a contour? Plain facts.
-/
import Derived.Test.YtkjimilapgkajabDoorBase
import Derived.WalkLawsBesides
import Derived.Handy
namespace Go.Proofs.YtkjimilapgkajabDoor
open Go.RowKit
set_option maxRecDepth 100000
set_option linter.unusedVariables false

/-- is a byte a way? -/
def wayb (c : UInt8) : Bool := c == 117 || c == 100 || c == 115
/-- is a text a contour? -/
def cv (s : ByteArray) : Bool := decide (s.size ≤ 23) && s.data.toList.all wayb
theorem wayb_yes {c : UInt8} (h : wayb c = true) : c.toNat = 117 ∨ c.toNat = 100 ∨ c.toNat = 115 := by
  simp [wayb] at h
  rcases h with (rfl | rfl) | rfl
  · exact .inl rfl
  · exact .inr (.inl rfl)
  · exact .inr (.inr rfl)
theorem wayb_no {c : UInt8} (h : wayb c = false) : c.toNat ≠ 117 ∧ c.toNat ≠ 100 ∧ c.toNat ≠ 115 := by
  refine ⟨fun e => ?_, fun e => ?_, fun e => ?_⟩
  · rw [show c = 117 from UInt8.toNat_inj.1 e] at h; exact absurd h (by decide)
  · rw [show c = 100 from UInt8.toNat_inj.1 e] at h; exact absurd h (by decide)
  · rw [show c = 115 from UInt8.toNat_inj.1 e] at h; exact absurd h (by decide)
theorem cv_long {s : ByteArray} (h : 23 < s.size) : cv s = false := by
  have : decide (s.size ≤ 23) = false := by simp; omega
  simp [cv, this]
theorem cv_bad {s : ByteArray} {k : Nat} (hk : k < s.size) (h : wayb s[k] = false) : cv s = false := by
  have hm : s[k] ∈ s.data.toList := by
    show s.data[k] ∈ s.data.toList
    simp
  have : s.data.toList.all wayb = false := by
    rw [List.all_eq_false]
    exact ⟨_, hm, by simp [h]⟩
  simp [cv, this]
theorem take_snoc (s : ByteArray) (k : Nat) (h : k < s.size) : s.data.toList.take (k + 1) = s.data.toList.take k ++ [s[k]] := by
  rw [List.take_succ_eq_append_getElem (by simpa using h)]; rfl
/-- the first k bytes are ways -/
def Ways (s : ByteArray) (k : Nat) : Prop := (s.data.toList.take k).all wayb = true
theorem Ways.zero (s : ByteArray) : Ways s 0 := by simp [Ways]
theorem Ways.next {s : ByteArray} {k : Nat} (h : Ways s k) (hk : k < s.size) (hw : wayb s[k] = true) : Ways s (k + 1) := by
  unfold Ways at h ⊢
  rw [take_snoc s k hk, List.all_append, h]
  simp [hw]
theorem Ways.cv {s : ByteArray} (h : Ways s s.size) : cv s = decide (s.size ≤ 23) := by
  unfold Ways at h
  rw [List.take_of_length_le (by simp)] at h
  unfold Go.Proofs.YtkjimilapgkajabDoor.cv
  rw [h, Bool.and_true]
theorem way_cases {s : ByteArray} {k : Nat} (hk : k < s.size) :
    (wayb s[k] = true ∧ (((s[k].toNat : Int) != 117) = false ∨ ((s[k].toNat : Int) != 117) = true ∧ ((s[k].toNat : Int) != 100) = false ∨ ((s[k].toNat : Int) != 117) = true ∧ ((s[k].toNat : Int) != 100) = true ∧ ((s[k].toNat : Int) != 115) = false)) ∨
      (wayb s[k] = false ∧ ((s[k].toNat : Int) != 117) = true ∧ ((s[k].toNat : Int) != 100) = true ∧ ((s[k].toNat : Int) != 115) = true) := by
  cases h : wayb s[k]
  · right
    obtain ⟨a, b, c⟩ := wayb_no h
    refine ⟨rfl, ?_, ?_, ?_⟩ <;> (rw [bne_iff_ne]; omega)
  · left
    refine ⟨rfl, ?_⟩
    rcases wayb_yes h with a | a | a <;> rw [a] <;> simp
end Go.Proofs.YtkjimilapgkajabDoor
