/-
  Groups of a melody: plain facts, and what a list of groups in memory is.
-/
import Derived.Test.YthhndlefafcdeaaDoorMelA
import Derived.Test.YthhndlefafcdeaaDoorGl
namespace Go.Proofs.YthhndlefafcdeaaDoor
open Go.RowKit
set_option maxRecDepth 100000
set_option linter.unusedVariables false

/-- may a group have this size? -/
def gok (g : Int × Bool) : Bool := decide (1 ≤ g.1) && decide (g.1 ≤ 4)
/-- all sizes together -/
def gsz : List (Int × Bool) → Nat
  | [] => 0
  | g :: r => g.1.toNat + gsz r
/-- are they groups of the tones? -/
def gv (xs gs : List (Int × Bool)) : Bool := mv xs && (gs.all gok && decide (gsz gs = xs.length))
theorem gok_in {g : Int × Bool} (h : gok g = true) : 1 ≤ g.1 ∧ g.1 ≤ 4 := by simp [gok] at h; exact h
theorem gok_no {g : Int × Bool} (h : gok g = false) : g.1 < 1 ∨ 4 < g.1 := by simp [gok] at h; omega
theorem gsz_app (a b : List (Int × Bool)) : gsz (a ++ b) = gsz a + gsz b := by
  induction a with
  | nil => simp [gsz]
  | cons g r ih => simp [gsz, ih]; omega
theorem gsz_snoc {gs : List (Int × Bool)} {k : Nat} {g : Int × Bool} (h : gs[k]? = some g) : gsz (gs.take (k + 1)) = gsz (gs.take k) + g.1.toNat := by
  rw [List.take_add_one, h, gsz_app]; simp [gsz]
theorem gsz_split (gs : List (Int × Bool)) (k : Nat) : gsz gs = gsz (gs.take k) + gsz (gs.drop k) := by
  rw [← gsz_app, List.take_append_drop]
theorem gall_snoc {gs : List (Int × Bool)} {k : Nat} {g : Int × Bool} (h : gs[k]? = some g) (ha : (gs.take k).all gok = true) (hg : gok g = true) : (gs.take (k + 1)).all gok = true := by
  rw [List.take_add_one, h, List.all_append, ha]; simp [hg]
theorem gall_len {gs : List (Int × Bool)} (h : gs.all gok = true) : gs.length ≤ gsz gs ∧ gsz gs ≤ 4 * gs.length := by
  induction gs with
  | nil => simp [gsz]
  | cons g r ih =>
    rw [List.all_cons, Bool.and_eq_true] at h
    have := ih h.2
    have := gok_in h.1
    simp [gsz]
    omega
theorem gv_no1 {xs gs : List (Int × Bool)} (h : mv xs = false) : gv xs gs = false := by simp [gv, h]
theorem gv_bad {xs gs : List (Int × Bool)} {k : Nat} {g : Int × Bool} (h : gs[k]? = some g) (hg : gok g = false) : gv xs gs = false := by
  have : gs.all gok = false := by
    rw [List.all_eq_false]
    exact ⟨g, List.mem_of_getElem? h, by simp [hg]⟩
  simp [gv, this]
theorem gv_over {xs gs : List (Int × Bool)} {k : Nat} {g : Int × Bool} (h : gs[k]? = some g) (ho : xs.length < gsz (gs.take k) + g.1.toNat) : gv xs gs = false := by
  have e := gsz_split gs (k + 1)
  rw [gsz_snoc h] at e
  have : ¬ gsz gs = xs.length := by omega
  simp [gv, this]
theorem gv_rest {xs gs : List (Int × Bool)} (h : gsz gs ≠ xs.length) : gv xs gs = false := by simp [gv, h]
theorem gv_yes {xs gs : List (Int × Bool)} (hv : mv xs = true) (h : gs.all gok = true) (hz : gsz gs = xs.length) : gv xs gs = true := by simp [gv, hv, h, hz]
theorem gv_in {xs gs : List (Int × Bool)} (h : gv xs gs = true) : mv xs = true ∧ gs.all gok = true ∧ gsz gs = xs.length := by
  unfold gv at h
  rw [Bool.and_eq_true, Bool.and_eq_true] at h
  exact ⟨h.1, h.2.1, by simpa using h.2.2⟩
theorem gv_len {xs gs : List (Int × Bool)} (h : gv xs gs = true) : gs.length ≤ 24 ∧ xs.length ≤ 24 := by
  obtain ⟨a, b, c⟩ := gv_in h
  have := (gall_len b).1
  have : xs.length ≤ 24 := by simp [mv] at a; exact a.1
  omega
theorem gv_long {xs gs : List (Int × Bool)} (h : 24 < gs.length) : gv xs gs = false := by
  by_cases e : gv xs gs = true
  · have := gv_len e; omega
  · simpa using e
/-- the tones of a group -/
def prt (xs gs : List (Int × Bool)) (k : Nat) : List (Int × Bool) := (xs.drop (gsz (gs.take k))).take (gs.getD k (0, false)).1.toNat
end Go.Proofs.YthhndlefafcdeaaDoor
