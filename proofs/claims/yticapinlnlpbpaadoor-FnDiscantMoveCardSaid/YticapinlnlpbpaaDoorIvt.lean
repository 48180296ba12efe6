/-
  The interval of two tones in both programs.
-/
import Derived.Test.YticapinlnlpbpaaDoorIvi
namespace Go.Proofs.YticapinlnlpbpaaDoor
open Go.RowKit
set_option maxRecDepth 100000
set_option linter.unusedVariables false

theorem iv_down {s t : Int} {b c : Bool} (h : t - s < 0 ∨ (t - s = 0 ∧ hgt t c - hgt s b < 0)) : ivN s t = -(t - s) ∧ ivX s b t c = -(hgt t c - hgt s b) := by
  unfold ivN ivX
  by_cases e : t = s
  · subst e
    have h2 : hgt t c < hgt t b := by omega
    rw [swp_eq, if_neg (by omega), if_pos (by simpa using h2), hgm_hgt, hgm_hgt]
    omega
  · have h2 : t < s := by omega
    rw [swp_ne e, if_pos h2, if_pos (by simpa using h2), hgm_hgt, hgm_hgt]
    omega
theorem iv_up {s t : Int} {b c : Bool} (h : 0 < t - s ∨ (t - s = 0 ∧ 0 ≤ hgt t c - hgt s b)) : ivN s t = t - s ∧ ivX s b t c = hgt t c - hgt s b := by
  unfold ivN ivX
  by_cases e : t = s
  · subst e
    have h2 : ¬ hgt t c < hgt t b := by omega
    rw [swp_eq, if_neg (by omega), if_neg (by simpa using h2), hgm_hgt, hgm_hgt]
    exact ⟨rfl, rfl⟩
  · have h2 : ¬ t < s := by omega
    rw [swp_ne e, if_neg h2, if_neg (by simpa using h2), hgm_hgt, hgm_hgt]
    exact ⟨rfl, rfl⟩
theorem dec2_len (k : Nat) : (dec2 k).length ≤ 2 := by unfold dec2; split <;> simp
theorem iv_add (n x : Int) (W : World) : (Op.stringOp .add (decS (n + 1)) ⟨#[ivl n x]⟩).run Tryd.prog W = .ok (.string (ivw n x)) W := by
  rw [run_string_add_sum W (decS (n + 1)) ⟨#[ivl n x]⟩ (by
    have := dec2_len (n + 1).toNat
    show (dec2 (n + 1).toNat).toArray.size + 1 ≤ 9223372036854775807
    simp; omega)]
  congr 2
end Go.Proofs.YticapinlnlpbpaaDoor
