/-
  Plain mathematics of tones and hexachords: no program stands in it.
-/
import Derived.Below
namespace Go.Proofs.Ytjpkmcappefolaa

/-- the letter of a step -/
def ltr (s : Int) : ByteArray := ⟨#[([71, 65, 66, 67, 68, 69, 70] : List UInt8).getD (s % 7).toNat 0]⟩
/-- is it a tone of the gamut? -/
def vd (s : Int) (b : Bool) : Bool := decide (0 ≤ s) && decide (s ≤ 20) && (!b || s % 7 == 2)

theorem vd_lo {s : Int} {b : Bool} (h : s < 0) : vd s b = false := by simp [vd]; omega
theorem vd_hi {s : Int} {b : Bool} (h : 20 < s) : vd s b = false := by simp [vd]; omega
theorem vd_in {s : Int} {b : Bool} (h : vd s b = true) : 0 ≤ s ∧ s ≤ 20 := by simp [vd] at h; omega
theorem vd_soft {s : Int} (h : vd s true = true) : s % 7 = 2 := by simp [vd] at h; omega
theorem vd_hard {s : Int} (h0 : 0 ≤ s) (h1 : s ≤ 20) : vd s false = true := by simp [vd]; omega
theorem mod7 (s : Int) : s % 7 = 0 ∨ s % 7 = 1 ∨ s % 7 = 2 ∨ s % 7 = 3 ∨ s % 7 = 4 ∨ s % 7 = 5 ∨ s % 7 = 6 := by omega
theorem vd_mid {s : Int} {b : Bool} (h0 : 0 ≤ s) (h1 : s ≤ 20) : vd s b = (!b || s % 7 == 2) := by
  simp [vd, h0, h1]
theorem ltr_b (s : Int) : ((ltr s).toList == [66]) = (s % 7 == 2) := by
  unfold ltr
  rcases mod7 s with h | h | h | h | h | h | h <;> rw [h] <;> decide +kernel

/-- both are tones -/
def both (s : Int) (b : Bool) (t : Int) (c : Bool) : Bool := vd s b && vd t c
/-- the steps between two tones, 0 if they are none -/
def stp (s : Int) (b : Bool) (t : Int) (c : Bool) : Int := if vd s b && vd t c then t - s else 0
theorem both_no1 {s t : Int} {b c : Bool} (h : vd s b = false) : both s b t c = false := by simp [both, h]
theorem both_no2 {s t : Int} {b c : Bool} (h : vd t c = false) : both s b t c = false := by simp [both, h]
theorem both_yes {s t : Int} {b c : Bool} (h : vd s b = true) (k : vd t c = true) : both s b t c = true := by simp [both, h, k]
theorem stp_no1 {s t : Int} {b c : Bool} (h : vd s b = false) : stp s b t c = 0 := by simp [stp, h]
theorem stp_no2 {s t : Int} {b c : Bool} (h : vd t c = false) : stp s b t c = 0 := by simp [stp, h]
theorem stp_yes {s t : Int} {b c : Bool} (h : vd s b = true) (k : vd t c = true) : stp s b t c = t - s := by simp [stp, h, k]

/-- a tone some steps above -/
def abv (s : Int) (b : Bool) (k : Int) (c : Bool) : Bool := vd s b && decide (-20 ≤ k) && decide (k ≤ 20) && vd (s + k) c
def abS (s : Int) (b : Bool) (k : Int) (c : Bool) : Int := if abv s b k c then s + k else 0
def abB (s : Int) (b : Bool) (k : Int) (c : Bool) : Bool := if abv s b k c then c else false
theorem ab_no {s k : Int} {b c : Bool} (h : abv s b k c = false) : abS s b k c = 0 ∧ abB s b k c = false := by simp [abS, abB, h]
theorem ab_yes {s k : Int} {b c : Bool} (h : abv s b k c = true) : abS s b k c = s + k ∧ abB s b k c = c := by simp [abS, abB, h]
theorem ab_no1 {s k : Int} {b c : Bool} (h : vd s b = false) : abv s b k c = false := by simp [abv, h]
theorem ab_no2 {s k : Int} {b c : Bool} (h : k < -20) : abv s b k c = false := by simp [abv]; omega
theorem ab_no3 {s k : Int} {b c : Bool} (h : 20 < k) : abv s b k c = false := by simp [abv]; omega
theorem ab_no4 {s k : Int} {b c : Bool} (h : vd (s + k) c = false) : abv s b k c = false := by simp [abv, h]
theorem ab_all {s k : Int} {b c : Bool} (h : vd s b = true) (h1 : -20 ≤ k) (h2 : k ≤ 20) (h3 : vd (s + k) c = true) : abv s b k c = true := by simp [abv, h, h1, h2, h3]

/-- the letter of a tone, none if it is none -/
def tl (s : Int) (b : Bool) : ByteArray := if vd s b then ltr s else ⟨#[]⟩
theorem tl_no {s : Int} {b : Bool} (h : vd s b = false) : tl s b = ⟨#[]⟩ := by simp [tl, h]
theorem tl_yes {s : Int} {b : Bool} (h : vd s b = true) : tl s b = ltr s := by simp [tl, h]
/-- two tones are equal -/
def teq (s : Int) (b : Bool) (t : Int) (c : Bool) : Bool := decide (s = t) && (b == c)
theorem teq_no1 {s t : Int} {b c : Bool} (h : s ≠ t) : teq s b t c = false := by simp [teq, h]
theorem teq_no2 {s t : Int} {b c : Bool} (h : b ≠ c) : teq s b t c = false := by simp [teq, h]
theorem teq_yes {s : Int} {b : Bool} : teq s b s b = true := by simp [teq]
end Go.Proofs.Ytjpkmcappefolaa
