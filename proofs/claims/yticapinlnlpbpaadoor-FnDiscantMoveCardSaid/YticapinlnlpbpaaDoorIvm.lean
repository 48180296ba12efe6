/-
  Plain mathematics of the intervals of tones: no program stands in it.
-/
import Derived.Test.YticapinlnlpbpaaDoorMath
import Derived.Test.YticapinlnlpbpaaDoorTxm
import Derived.Lib.ItoaNum
namespace Go.Proofs.YticapinlnlpbpaaDoor

/-- the small or pure number of semitones -/
def lS (i : Nat) : Int := ([0, 1, 3, 5, 7, 8, 10] : List Int).getD i 0
theorem lS_bd (i : Nat) (h : i < 7) : 0 ≤ lS i ∧ lS i ≤ 10 := by
  have : i = 0 ∨ i = 1 ∨ i = 2 ∨ i = 3 ∨ i = 4 ∨ i = 5 ∨ i = 6 := by omega
  rcases this with rfl | rfl | rfl | rfl | rfl | rfl | rfl <;> decide
/-- is the interval of so many steps pure? -/
def pur (n : Int) : Bool := n % 7 == 0 || n % 7 == 3 || n % 7 == 4
/-- how many semitones it is wider than the small or pure one -/
def ovr (n x : Int) : Int := x - n / 7 * 12 - lS (n % 7).toNat
/-- the letter of an interval -/
def ivl (n x : Int) : UInt8 := if ovr n x < 0 then 100 else if ovr n x = 0 then (if pur n then 112 else 115) else if ovr n x = 1 ∧ pur n = false then 103 else 97
/-- a number below a hundred in decimals -/
def dec2 (n : Nat) : List UInt8 := if n < 10 then [48 + n.toUInt8] else [48 + (n / 10).toUInt8, 48 + (n % 10).toUInt8]

/-- the height of a tone (the table written out) -/
def hgm (s : Int) (b : Bool) : Int := ([0, 2, 4, 5, 7, 9, 10] : List Int).getD (s % 7).toNat 0 + s / 7 * 12 - (if b then 1 else 0)
/-- is the second tone below the first one? -/
def swp (s : Int) (b : Bool) (t : Int) (c : Bool) : Bool := if t = s then decide (hgm t c < hgm s b) else decide (t < s)
def ivN (s t : Int) : Int := if t < s then s - t else t - s
def ivX (s : Int) (b : Bool) (t : Int) (c : Bool) : Int := if swp s b t c then hgm s b - hgm t c else hgm t c - hgm s b
/-- the interval of two tones as a text, none if one is none -/
def ivw (n x : Int) : ByteArray := ⟨(dec2 (n + 1).toNat ++ [ivl n x]).toArray⟩
def ivt (s : Int) (b : Bool) (t : Int) (c : Bool) : ByteArray := if both s b t c then ivw (ivN s t) (ivX s b t c) else ⟨#[]⟩
theorem ivt_no1 {s t : Int} {b c : Bool} (h : vd s b = false) : ivt s b t c = ⟨#[]⟩ := by simp [ivt, both, h]
theorem ivt_no2 {s t : Int} {b c : Bool} (h : vd t c = false) : ivt s b t c = ⟨#[]⟩ := by simp [ivt, both, h]
theorem ivt_yes {s t : Int} {b c : Bool} (h : vd s b = true) (k : vd t c = true) : ivt s b t c = ivw (ivN s t) (ivX s b t c) := by simp [ivt, both, h, k]

theorem iv_all : ∀ t ∈ allT, ∀ u ∈ allT,
    ((ivt u.1 u.2 t.1 t.2).toList == (ivt t.1 t.2 u.1 u.2).toList) = true ∧ ((ivt t.1 t.2 u.1 u.2).toList == []) = false ∧
    (vd (t.1 + 7) t.2 = true → vd (u.1 + 7) u.2 = true → ((ivt (t.1 + 7) t.2 (u.1 + 7) u.2).toList == (ivt t.1 t.2 u.1 u.2).toList) = true) := by decide +kernel
theorem iv_one : ∀ t ∈ allT, ((ivt t.1 t.2 t.1 t.2).toList == [49, 112]) = true ∧ (vd (t.1 + 7) t.2 = true → ((ivt t.1 t.2 (t.1 + 7) t.2).toList == [56, 112]) = true) := by decide +kernel
theorem iv_next : ∀ t ∈ allT, ∀ u ∈ allT, vd (t.1 + 1) false = true → vd (u.1 + 1) false = true → t.1 ≠ u.1 →
    ((ivt (t.1 + 1) false (u.1 + 1) false).toList == (ivt t.1 t.2 u.1 u.2).toList) = (hgm u.1 u.2 - hgm t.1 t.2 == hgm (u.1 + 1) false - hgm (t.1 + 1) false) := by decide +kernel
theorem iv_bd : ∀ t ∈ allT, ∀ u ∈ allT, 0 ≤ ivN t.1 u.1 ∧ ivN t.1 u.1 ≤ 20 ∧ -1 ≤ ivX t.1 t.2 u.1 u.2 ∧ ivX t.1 t.2 u.1 u.2 ≤ 36 := by decide +kernel
theorem decd : ∀ n, n < 22 → Lib.decDigits n = dec2 n := by
  intro n hn
  match n, hn with
  | 0, _ => first | decide +kernel | simp [Lib.decDigits, dec2]
  | 1, _ => first | decide +kernel | simp [Lib.decDigits, dec2]
  | 2, _ => first | decide +kernel | simp [Lib.decDigits, dec2]
  | 3, _ => first | decide +kernel | simp [Lib.decDigits, dec2]
  | 4, _ => first | decide +kernel | simp [Lib.decDigits, dec2]
  | 5, _ => first | decide +kernel | simp [Lib.decDigits, dec2]
  | 6, _ => first | decide +kernel | simp [Lib.decDigits, dec2]
  | 7, _ => first | decide +kernel | simp [Lib.decDigits, dec2]
  | 8, _ => first | decide +kernel | simp [Lib.decDigits, dec2]
  | 9, _ => first | decide +kernel | simp [Lib.decDigits, dec2]
  | 10, _ => first | decide +kernel | simp [Lib.decDigits, dec2]
  | 11, _ => first | decide +kernel | simp [Lib.decDigits, dec2]
  | 12, _ => first | decide +kernel | simp [Lib.decDigits, dec2]
  | 13, _ => first | decide +kernel | simp [Lib.decDigits, dec2]
  | 14, _ => first | decide +kernel | simp [Lib.decDigits, dec2]
  | 15, _ => first | decide +kernel | simp [Lib.decDigits, dec2]
  | 16, _ => first | decide +kernel | simp [Lib.decDigits, dec2]
  | 17, _ => first | decide +kernel | simp [Lib.decDigits, dec2]
  | 18, _ => first | decide +kernel | simp [Lib.decDigits, dec2]
  | 19, _ => first | decide +kernel | simp [Lib.decDigits, dec2]
  | 20, _ => first | decide +kernel | simp [Lib.decDigits, dec2]
  | 21, _ => first | decide +kernel | simp [Lib.decDigits, dec2]
  | n + 22, hn => omega
end Go.Proofs.YticapinlnlpbpaaDoor
