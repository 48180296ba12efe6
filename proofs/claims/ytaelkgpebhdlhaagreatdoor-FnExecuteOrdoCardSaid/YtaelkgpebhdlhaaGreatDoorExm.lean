/-
  Scripts (mathematics): numbers in words, numbers behind a word.
-/
import Derived.Test.YtaelkgpebhdlhaaGreatDoorBase
namespace Go.Proofs.YtaelkgpebhdlhaaGreatDoor
set_option maxRecDepth 100000
set_option linter.unusedVariables false

/-- is a byte a digit -/
def isd (c : UInt8) : Bool := decide (48 ≤ c.toNat) && decide (c.toNat ≤ 57)
def dval (c : UInt8) : Int := (c.toNat : Int) - 48
/-- the number of one or two digits, or 999 -/
def numD : List UInt8 → Int
  | [c] => if isd c then dval c else 999
  | [c, d] => if isd c && isd d then dval c * 10 + dval d else 999
  | _ => 999
/-- the number of a word, or 999 -/
def num (l : List UInt8) : Int :=
  match l with
  | [] => 999
  | c :: r => if c = 45 then (if numD r = 999 then 999 else -(numD r)) else numD (c :: r)
theorem isd_in {c : UInt8} (h : isd c = true) : 48 ≤ c.toNat ∧ c.toNat ≤ 57 := by simpa [isd] using h
theorem isd_no {c : UInt8} (h : isd c = false) : c.toNat < 48 ∨ 57 < c.toNat := by
  rcases Nat.lt_or_ge c.toNat 48 with h1 | h1
  · exact .inl h1
  · right
    rcases Nat.lt_or_ge 57 c.toNat with h2 | h2
    · exact h2
    · simp [isd, h1, h2] at h
theorem dval_in {c : UInt8} (h : isd c = true) : 0 ≤ dval c ∧ dval c ≤ 9 := by have := isd_in h; unfold dval; omega
theorem numD_in (l : List UInt8) : (0 ≤ numD l ∧ numD l ≤ 99) ∨ numD l = 999 := by
  match l with
  | [] => exact .inr rfl
  | [c] =>
    by_cases h : isd c = true
    · left; have := dval_in h; simp only [numD, h, if_true]; omega
    · right; simp [numD, h]
  | [c, d] =>
    by_cases h : isd c = true
    · by_cases h2 : isd d = true
      · left; have := dval_in h; have := dval_in h2; simp only [numD, h, h2, Bool.and_true, if_true]; omega
      · right; simp [numD, h2]
    · right; simp [numD, h]
  | _ :: _ :: _ :: _ => exact .inr rfl
theorem num_in (l : List UInt8) : (-99 ≤ num l ∧ num l ≤ 99) ∨ num l = 999 := by
  match l with
  | [] => exact .inr rfl
  | c :: r =>
    unfold num
    simp only
    split
    · split
      · exact .inr rfl
      · rcases numD_in r with h | h
        · left; omega
        · exact absurd h (by assumption)
    · rcases numD_in (c :: r) with h | h
      · left; omega
      · exact .inr h
theorem num_neg (r : List UInt8) : num (45 :: r) = if numD r = 999 then 999 else -(numD r) := rfl
theorem num_pos {l : List UInt8} (h : ∀ r, l ≠ 45 :: r) : num l = numD l := by
  match l with
  | [] => rfl
  | c :: r =>
    have : ¬ c = 45 := fun e => h r (by rw [e])
    simp [num, this]
theorem numD_long {l : List UInt8} (h : l.length = 0 ∨ 2 < l.length) : numD l = 999 := by
  match l with
  | [] => rfl
  | [c] => simp at h
  | [c, d] => simp at h
  | _ :: _ :: _ :: _ => rfl
end Go.Proofs.YtaelkgpebhdlhaaGreatDoor
