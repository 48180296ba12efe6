/-
  Plain mathematics of tones and hexachords: no program stands in it.
-/
import Derived.Below
namespace Go.Proofs.Ytcmcdomfmmjogaa

/-- the letter of a step -/
def ltr (s : Int) : ByteArray := ⟨#[([71, 65, 66, 67, 68, 69, 70] : List UInt8).getD (s % 7).toNat 0]⟩
/-- is it a tone of the gamut? -/
def vd (s : Int) (b : Bool) : Bool := decide (0 ≤ s) && decide (s ≤ 20) && (!b || s % 7 == 2)

theorem vd_lo {s : Int} {b : Bool} (h : s < 0) : vd s b = false := by simp [vd]; omega
theorem vd_hi {s : Int} {b : Bool} (h : 20 < s) : vd s b = false := by simp [vd]; omega
theorem vd_in {s : Int} {b : Bool} (h : vd s b = true) : 0 ≤ s ∧ s ≤ 20 := by simp [vd] at h; omega
theorem vd_soft {s : Int} (h : vd s true = true) : s % 7 = 2 := by simp [vd] at h; omega
theorem vd_hard {s : Int} (h0 : 0 ≤ s) (h1 : s ≤ 20) : vd s false = true := by simp [vd]; omega
theorem mod7 (s : Int) : s % 7 = 0 ∨ s % 7 = 1 ∨ s % 7 = 2 ∨ s % 7 = 3 ∨ s % 7 = 4 ∨ s % 7 = 5 ∨ s % 7 = 6 := by omega
theorem vd_mid {s : Int} {b : Bool} (h0 : 0 ≤ s) (h1 : s ≤ 20) : vd s b = (!b || s % 7 == 2) := by
  simp [vd, h0, h1]
theorem ltr_b (s : Int) : ((ltr s).toList == [66]) = (s % 7 == 2) := by
  unfold ltr
  rcases mod7 s with h | h | h | h | h | h | h <;> rw [h] <;> decide +kernel

/-- both are tones -/
def both (s : Int) (b : Bool) (t : Int) (c : Bool) : Bool := vd s b && vd t c
/-- the steps between two tones, 0 if they are none -/
def stp (s : Int) (b : Bool) (t : Int) (c : Bool) : Int := if vd s b && vd t c then t - s else 0
theorem both_no1 {s t : Int} {b c : Bool} (h : vd s b = false) : both s b t c = false := by simp [both, h]
theorem both_no2 {s t : Int} {b c : Bool} (h : vd t c = false) : both s b t c = false := by simp [both, h]
theorem both_yes {s t : Int} {b c : Bool} (h : vd s b = true) (k : vd t c = true) : both s b t c = true := by simp [both, h, k]
theorem stp_no1 {s t : Int} {b c : Bool} (h : vd s b = false) : stp s b t c = 0 := by simp [stp, h]
theorem stp_no2 {s t : Int} {b c : Bool} (h : vd t c = false) : stp s b t c = 0 := by simp [stp, h]
theorem stp_yes {s t : Int} {b c : Bool} (h : vd s b = true) (k : vd t c = true) : stp s b t c = t - s := by simp [stp, h, k]

/-- a tone some steps above -/
def abv (s : Int) (b : Bool) (k : Int) (c : Bool) : Bool := vd s b && decide (-20 ≤ k) && decide (k ≤ 20) && vd (s + k) c
def abS (s : Int) (b : Bool) (k : Int) (c : Bool) : Int := if abv s b k c then s + k else 0
def abB (s : Int) (b : Bool) (k : Int) (c : Bool) : Bool := if abv s b k c then c else false
theorem ab_no {s k : Int} {b c : Bool} (h : abv s b k c = false) : abS s b k c = 0 ∧ abB s b k c = false := by simp [abS, abB, h]
theorem ab_yes {s k : Int} {b c : Bool} (h : abv s b k c = true) : abS s b k c = s + k ∧ abB s b k c = c := by simp [abS, abB, h]
theorem ab_no1 {s k : Int} {b c : Bool} (h : vd s b = false) : abv s b k c = false := by simp [abv, h]
theorem ab_no2 {s k : Int} {b c : Bool} (h : k < -20) : abv s b k c = false := by simp [abv]; omega
theorem ab_no3 {s k : Int} {b c : Bool} (h : 20 < k) : abv s b k c = false := by simp [abv]; omega
theorem ab_no4 {s k : Int} {b c : Bool} (h : vd (s + k) c = false) : abv s b k c = false := by simp [abv, h]
theorem ab_all {s k : Int} {b c : Bool} (h : vd s b = true) (h1 : -20 ≤ k) (h2 : k ≤ 20) (h3 : vd (s + k) c = true) : abv s b k c = true := by simp [abv, h, h1, h2, h3]

/-- the letter of a tone, none if it is none -/
def tl (s : Int) (b : Bool) : ByteArray := if vd s b then ltr s else ⟨#[]⟩
theorem tl_no {s : Int} {b : Bool} (h : vd s b = false) : tl s b = ⟨#[]⟩ := by simp [tl, h]
theorem tl_yes {s : Int} {b : Bool} (h : vd s b = true) : tl s b = ltr s := by simp [tl, h]
/-- two tones are equal -/
def teq (s : Int) (b : Bool) (t : Int) (c : Bool) : Bool := decide (s = t) && (b == c)
theorem teq_no1 {s t : Int} {b c : Bool} (h : s ≠ t) : teq s b t c = false := by simp [teq, h]
theorem teq_no2 {s t : Int} {b c : Bool} (h : b ≠ c) : teq s b t c = false := by simp [teq, h]
theorem teq_yes {s : Int} {b : Bool} : teq s b s b = true := by simp [teq]

/-- does a hexachord begin at a step? -/
def hxv (n : Int) : Bool := n == 0 || n == 3 || n == 6 || n == 7 || n == 10 || n == 13 || n == 14
theorem hxv_cases {n : Int} (h : hxv n = true) : n = 0 ∨ n = 3 ∨ n = 6 ∨ n = 7 ∨ n = 10 ∨ n = 13 ∨ n = 14 := by
  simp [hxv] at h; omega
theorem hxv_not {n : Int} (h : hxv n = false) : n ≠ 0 ∧ n ≠ 3 ∧ n ≠ 6 ∧ n ≠ 7 ∧ n ≠ 10 ∧ n ≠ 13 ∧ n ≠ 14 := by
  simp [hxv] at h; omega
/-- its place in the table -/
def hix (n : Int) : Nat := if n = 0 then 0 else if n = 3 then 1 else if n = 6 then 2 else if n = 7 then 3 else if n = 10 then 4 else if n = 13 then 5 else 6
/-- its kind, as a word -/
def hkd (n : Int) : ByteArray := if n % 7 = 0 then ⟨#[104, 97, 114, 100]⟩ else if n % 7 = 3 then ⟨#[110, 97, 116, 117, 114, 97, 108]⟩ else ⟨#[115, 111, 102, 116]⟩
/-- the word HexKind returns -/
def hkw (n : Int) : ByteArray := if hxv n then hkd n else ⟨#[]⟩
theorem hkw_no {n : Int} (h : hxv n = false) : hkw n = ⟨#[]⟩ := by simp [hkw, h]
theorem hkw_yes {n : Int} (h : hxv n = true) : hkw n = hkd n := by simp [hkw, h]
theorem hkd_soft {n : Int} (h : hxv n = true) : ((hkd n).toList == [115, 111, 102, 116]) = (n % 7 == 6) := by
  rcases hxv_cases h with rfl | rfl | rfl | rfl | rfl | rfl | rfl <;> decide +kernel
/-- is the syllable k of a hexachord Soft? -/
def hsf (n k : Int) : Bool := n % 7 == 6 && k == 3
theorem hsf_mod {n k : Int} (h : hxv n = true) (h0 : 0 ≤ k) (h1 : k ≤ 5) : ((n % 7 == 6) && ((n + k) % 7 == 2)) = hsf n k := by
  have : k = 0 ∨ k = 1 ∨ k = 2 ∨ k = 3 ∨ k = 4 ∨ k = 5 := by omega
  rcases hxv_cases h with rfl | rfl | rfl | rfl | rfl | rfl | rfl <;> rcases this with rfl | rfl | rfl | rfl | rfl | rfl <;> decide
/-- is there such a syllable? -/
def hok (n k : Int) : Bool := hxv n && decide (0 ≤ k) && decide (k ≤ 5)
def htS (n k : Int) : Int := if hok n k then n + k else 0
def htB (n k : Int) : Bool := if hok n k then hsf n k else false
theorem ht_no {n k : Int} (h : hok n k = false) : htS n k = 0 ∧ htB n k = false := by simp [htS, htB, h]
theorem ht_yes {n k : Int} (h : hok n k = true) : htS n k = n + k ∧ htB n k = hsf n k := by simp [htS, htB, h]
theorem hok_no1 {n k : Int} (h : hxv n = false) : hok n k = false := by simp [hok, h]
theorem hok_no2 {n k : Int} (h : k < 0) : hok n k = false := by simp [hok]; omega
theorem hok_no3 {n k : Int} (h : 5 < k) : hok n k = false := by simp [hok]; omega
theorem hok_yes {n k : Int} (h : hxv n = true) (h0 : 0 ≤ k) (h1 : k ≤ 5) : hok n k = true := by simp [hok, h, h0, h1]
theorem hok_in {n k : Int} (h : hok n k = true) : hxv n = true ∧ 0 ≤ k ∧ k ≤ 5 := by simp [hok] at h; exact ⟨h.1.1, h.1.2, h.2⟩
theorem hxv_in {n : Int} (h : hxv n = true) : 0 ≤ n ∧ n ≤ 14 := by rcases hxv_cases h with rfl | rfl | rfl | rfl | rfl | rfl | rfl <;> decide
/-- a hexachord's tones are of the gamut -/
theorem vd_hex {n k : Int} (h : hok n k = true) : vd (n + k) (hsf n k) = true := by
  obtain ⟨h, h0, h1⟩ := hok_in h
  have : k = 0 ∨ k = 1 ∨ k = 2 ∨ k = 3 ∨ k = 4 ∨ k = 5 := by omega
  rcases hxv_cases h with rfl | rfl | rfl | rfl | rfl | rfl | rfl <;> rcases this with rfl | rfl | rfl | rfl | rfl | rfl <;> decide
/-- the syllable of a tone in a hexachord, -1 if none -/
def hsy (n s : Int) (b : Bool) : Int := if hok n (s - n) && (b == hsf n (s - n)) then s - n else -1
theorem hsy_none {n s : Int} {b : Bool} (h : ∀ k : Int, hok n k = true → ¬ (n + k = s ∧ hsf n k = b)) : hsy n s b = -1 := by
  unfold hsy
  split
  · rename_i g
    simp at g
    exact absurd ⟨by omega, g.2.symm⟩ (h _ g.1)
  · rfl
theorem hsy_at {n s k : Int} {b : Bool} (h : hok n k = true) (h1 : n + k = s) (h2 : hsf n k = b) : hsy n s b = k := by
  have e : s - n = k := by omega
  simp [hsy, e, h, h2]
end Go.Proofs.Ytcmcdomfmmjogaa
