/-
  Parts and discant (mathematics): what a part sounds beat by beat, and what two parts make of it.
-/
import Derived.Test.YticapinlnlpbpaaDoorMath
import Derived.Test.YticapinlnlpbpaaDoorRhm
namespace Go.Proofs.YticapinlnlpbpaaDoor
set_option maxRecDepth 100000
set_option linter.unusedVariables false

/-- a voice: its tone and its beats -/
abbrev Vc := (Int × Bool) × Int
def vok (x : Vc) : Bool := vd x.1.1 x.1.2 && (decide (1 ≤ x.2) && decide (x.2 ≤ 3))
theorem vok_in {x : Vc} (h : vok x = true) : vd x.1.1 x.1.2 = true ∧ 1 ≤ x.2 ∧ x.2 ≤ 3 := by simpa [vok] using h
theorem vok_yes {x : Vc} (h : vd x.1.1 x.1.2 = true) (h1 : 1 ≤ x.2) (h2 : x.2 ≤ 3) : vok x = true := by simp [vok, h, h1, h2]
theorem vok_no1 {x : Vc} (h : vd x.1.1 x.1.2 = false) : vok x = false := by simp [vok, h]
theorem vok_no2 {x : Vc} (h : ¬ (1 ≤ x.2 ∧ x.2 ≤ 3)) : vok x = false := by
  cases e : vok x with
  | false => rfl
  | true => exact absurd (vok_in e).2 h
/-- the beats of a list -/
def bsm (xs : List Vc) : Int := smL (xs.map fun x => x.2)
theorem bsm_nil : bsm [] = 0 := rfl
theorem bsm_cons (x : Vc) (r : List Vc) : bsm (x :: r) = x.2 + bsm r := by unfold bsm; rw [List.map_cons, smL_cons]
theorem bsm_app (xs ys : List Vc) : bsm (xs ++ ys) = bsm xs + bsm ys := by unfold bsm; rw [List.map_append, smL_app]
theorem bsm_take {xs : List Vc} {k : Nat} {x : Vc} (h : xs[k]? = some x) : bsm (xs.take (k + 1)) = bsm (xs.take k) + x.2 := by
  rw [List.take_add_one, h, bsm_app, Option.toList_some, bsm_cons, bsm_nil]; omega
theorem bsm_in {xs : List Vc} (h : xs.all vok = true) : 0 ≤ bsm xs ∧ (xs.length : Int) ≤ bsm xs ∧ bsm xs ≤ 3 * (xs.length : Int) := by
  induction xs with
  | nil => simp [bsm_nil]
  | cons x r ih =>
    simp only [List.all_cons, Bool.and_eq_true] at h
    have := ih h.2
    have h2 := vok_in h.1
    rw [bsm_cons]
    simp only [List.length_cons]
    omega
theorem all_take {xs : List Vc} (h : xs.all vok = true) (k : Nat) : (xs.take k).all vok = true := by
  rw [List.all_eq_true] at h ⊢
  exact fun x hx => h x (List.mem_of_mem_take hx)
theorem all_get {xs : List Vc} (h : xs.all vok = true) {k : Nat} {x : Vc} (hx : xs[k]? = some x) : vok x = true := by
  rw [List.all_eq_true] at h
  exact h x (List.mem_of_getElem? hx)
theorem all_next {xs : List Vc} {k : Nat} {x : Vc} (h : (xs.take k).all vok = true) (hx : xs[k]? = some x) (h2 : vok x = true) : (xs.take (k + 1)).all vok = true := by
  rw [List.take_add_one, hx, List.all_append, h]
  simp [h2]
theorem all_bad {xs : List Vc} {k : Nat} {x : Vc} (hx : xs[k]? = some x) (h2 : vok x = false) : xs.all vok = false := by
  cases e : xs.all vok with
  | false => rfl
  | true => rw [all_get e hx] at h2; cases h2

/-- is it a part -/
def pval (xs : List Vc) : Bool := xs.all vok && (decide (xs.length ≤ 12) && decide (bsm xs ≤ 24))
theorem pval_in {xs : List Vc} (h : pval xs = true) : xs.all vok = true ∧ xs.length ≤ 12 ∧ bsm xs ≤ 24 := by simpa [pval] using h
theorem pval_yes {xs : List Vc} (h : xs.all vok = true) (h1 : xs.length ≤ 12) (h2 : bsm xs ≤ 24) : pval xs = true := by simp [pval, h, h1, h2]
theorem pval_no1 {xs : List Vc} (h : xs.all vok = false) : pval xs = false := by simp [pval, h]
theorem pval_no2 {xs : List Vc} (h : ¬ xs.length ≤ 12) : pval xs = false := by simp [pval, h]
theorem pval_no3 {xs : List Vc} (h : ¬ bsm xs ≤ 24) : pval xs = false := by simp [pval, h]
/-- the beats of a part, or -1 -/
def pbt (xs : List Vc) : Int := if pval xs then bsm xs else -1
theorem pbt_yes {xs : List Vc} (h : pval xs = true) : pbt xs = bsm xs := by simp [pbt, h]
theorem pbt_no {xs : List Vc} (h : pval xs = false) : pbt xs = -1 := by simp [pbt, h]

/-- the tones that sound, beat by beat -/
def snd8 (xs : List Vc) : List (Int × Bool) := xs.flatMap fun x => List.replicate x.2.toNat x.1
theorem snd_nil : snd8 [] = [] := rfl
theorem snd_cons (x : Vc) (r : List Vc) : snd8 (x :: r) = List.replicate x.2.toNat x.1 ++ snd8 r := by simp [snd8]
theorem snd_app (xs ys : List Vc) : snd8 (xs ++ ys) = snd8 xs ++ snd8 ys := by simp [snd8]
theorem snd_len {xs : List Vc} (h : xs.all vok = true) : ((snd8 xs).length : Int) = bsm xs := by
  induction xs with
  | nil => rfl
  | cons x r ih =>
    simp only [List.all_cons, Bool.and_eq_true] at h
    have := ih h.2
    have h2 := vok_in h.1
    rw [bsm_cons, snd_cons, List.length_append, List.length_replicate]
    omega
theorem snd_take {xs : List Vc} {k : Nat} {x : Vc} (h : xs[k]? = some x) : snd8 (xs.take (k + 1)) = snd8 (xs.take k) ++ List.replicate x.2.toNat x.1 := by
  rw [List.take_add_one, h, snd_app, Option.toList_some, snd_cons, snd_nil, List.append_nil]
/-- the tone at a beat of a list -/
def tnA (ts : List (Int × Bool)) (k : Nat) : Int × Bool := ts.getD k (0, false)
theorem tnA_get {ts : List (Int × Bool)} {k : Nat} (h : k < ts.length) : ts[k]? = some (tnA ts k) := by
  unfold tnA; rw [List.getD_eq_getElem?_getD, List.getElem?_eq_getElem h]; rfl
theorem tnA_cons {x : Vc} {r : List Vc} {j : Nat} (h : (j : Int) < x.2) : tnA (snd8 (x :: r)) j = x.1 := by
  unfold tnA
  rw [snd_cons, List.getD_eq_getElem?_getD, List.getElem?_append_left (by simp; omega), List.getElem?_replicate, if_pos (by omega)]
  rfl
theorem tnA_skip {x : Vc} {r : List Vc} {j m : Nat} (h : (m : Int) = x.2) (hj : m ≤ j) : tnA (snd8 (x :: r)) j = tnA (snd8 r) (j - m) := by
  unfold tnA
  have e : x.2.toNat = m := by omega
  rw [snd_cons, e, List.getD_eq_getElem?_getD, List.getElem?_append_right (by simp; omega), List.length_replicate, List.getD_eq_getElem?_getD]
theorem drop_get {xs : List Vc} {k : Nat} {x : Vc} (h : xs[k]? = some x) : xs.drop k = x :: xs.drop (k + 1) := by
  obtain ⟨h1, h2⟩ := List.getElem?_eq_some_iff.1 h
  rw [List.drop_eq_getElem_cons h1, h2]
theorem snd_valid {xs : List Vc} (h : xs.all vok = true) {t : Int × Bool} (ht : t ∈ snd8 xs) : vd t.1 t.2 = true := by
  simp only [snd8, List.mem_flatMap] at ht
  obtain ⟨x, hx, ht⟩ := ht
  rw [List.all_eq_true] at h
  rw [(List.mem_replicate.1 ht).2]
  exact (vok_in (h x hx)).1
theorem tnA_valid {xs : List Vc} (h : xs.all vok = true) {k : Nat} (hk : k < (snd8 xs).length) : vd (tnA (snd8 xs) k).1 (tnA (snd8 xs) k).2 = true :=
  snd_valid h (List.mem_of_getElem? (tnA_get hk))

/-- do both make parts of as many beats -/
def tog (xs ys : List Vc) : Bool := pval xs && (pval ys && (bsm xs == bsm ys))
theorem tog_in {xs ys : List Vc} (h : tog xs ys = true) : pval xs = true ∧ pval ys = true ∧ bsm xs = bsm ys := by simpa [tog] using h
theorem tog_yes {xs ys : List Vc} (h : pval xs = true) (h2 : pval ys = true) (h3 : bsm xs = bsm ys) : tog xs ys = true := by simp [tog, h, h2, h3]
theorem tog_no1 {xs ys : List Vc} (h : pval xs = false) : tog xs ys = false := by simp [tog, h]
theorem tog_no2 {xs ys : List Vc} (h : pval ys = false) : tog xs ys = false := by simp [tog, h]
theorem tog_no3 {xs ys : List Vc} (h : bsm xs ≠ bsm ys) : tog xs ys = false := by simp [tog, h]

/-- at how many of the first beats something holds -/
def cnt (p : Nat → Bool) : Nat → Int
  | 0 => 0
  | k + 1 => cnt p k + (if p k then 1 else 0)
theorem cnt_hit {p : Nat → Bool} {k : Nat} (h : p k = true) : cnt p (k + 1) = cnt p k + 1 := by simp [cnt, h]
theorem cnt_miss {p : Nat → Bool} {k : Nat} (h : p k = false) : cnt p (k + 1) = cnt p k := by simp [cnt, h]
theorem cnt_in (p : Nat → Bool) : ∀ k, 0 ≤ cnt p k ∧ cnt p k ≤ k
  | 0 => by simp [cnt]
  | k + 1 => by
    have := cnt_in p k
    simp only [cnt]
    split <;> omega
/-- the first part is higher at a beat -/
def crs (ts us : List (Int × Bool)) (k : Nat) : Bool := decide ((tnA us k).1 < (tnA ts k).1)
def dcr (xs ys : List Vc) : Int := if tog xs ys then cnt (crs (snd8 xs) (snd8 ys)) (snd8 xs).length else -1
/-- by how many steps a part goes to the next beat -/
def chg8 (ts : List (Int × Bool)) (k : Nat) : Int := (tnA ts (k + 1)).1 - (tnA ts k).1
def ctr (ts us : List (Int × Bool)) (k : Nat) : Bool := (decide (chg8 ts k < 0) && decide (0 < chg8 us k)) || (decide (0 < chg8 ts k) && decide (chg8 us k < 0))
def dct (xs ys : List Vc) : Int := if tog xs ys then cnt (ctr (snd8 xs) (snd8 ys)) ((snd8 xs).length - 1) else -1
theorem dcr_in (xs ys : List Vc) : -1 ≤ dcr xs ys ∧ dcr xs ys ≤ 24 := by
  unfold dcr
  split
  · rename_i h
    have h1 := pval_in (tog_in h).1
    have h2 := snd_len h1.1
    have h3 := cnt_in (crs (snd8 xs) (snd8 ys)) (snd8 xs).length
    omega
  · omega
theorem mul_neg {x y : Int} : x * y < 0 ↔ (x < 0 ∧ 0 < y) ∨ (0 < x ∧ y < 0) := by
  constructor
  · intro h
    rcases Int.lt_trichotomy x 0 with h1 | h1 | h1
    · left
      refine ⟨h1, ?_⟩
      rcases Int.lt_or_le 0 y with h2 | h2
      · exact h2
      · have := Int.mul_nonneg_of_nonpos_of_nonpos (Int.le_of_lt h1) h2; omega
    · subst h1; simp at h
    · right
      refine ⟨h1, ?_⟩
      rcases Int.lt_or_le y 0 with h2 | h2
      · exact h2
      · have := Int.mul_nonneg (Int.le_of_lt h1) h2; omega
  · rintro (⟨h1, h2⟩ | ⟨h1, h2⟩)
    · exact Int.mul_neg_of_neg_of_pos h1 h2
    · exact Int.mul_neg_of_pos_of_neg h1 h2
theorem ctr_mul (ts us : List (Int × Bool)) (k : Nat) : decide (chg8 ts k * chg8 us k < 0) = ctr ts us k := by
  unfold ctr
  by_cases h : chg8 ts k * chg8 us k < 0
  · have := mul_neg.1 h
    rw [decide_eq_true h]
    simpa using this
  · rw [decide_eq_false h]
    have := fun e => h (mul_neg.2 e)
    symm
    rw [← Bool.not_eq_true]
    simpa using this
end Go.Proofs.YticapinlnlpbpaaDoor
