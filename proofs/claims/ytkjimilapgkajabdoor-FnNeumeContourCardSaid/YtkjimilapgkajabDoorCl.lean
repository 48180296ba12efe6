/-
  The lowest steps of a contour: plain mathematics.
-/
import Derived.Test.YtkjimilapgkajabDoorCm
namespace Go.Proofs.YtkjimilapgkajabDoor
set_option maxRecDepth 100000
set_option linter.unusedVariables false

/-- how many ways up lead to the k-th tone from the last way down ahead of it -/
def ups (l : List UInt8) : Nat → Nat
  | 0 => 0
  | k + 1 => if l.getD k 0 = 117 then ups l k + 1 else if l.getD k 0 = 100 then 0 else ups l k
/-- the same from behind: r tones before the end -/
def dnr (l : List UInt8) : Nat → Nat
  | 0 => 0
  | r + 1 => if l.getD (l.length - (r + 1)) 0 = 100 then dnr l r + 1 else if l.getD (l.length - (r + 1)) 0 = 117 then 0 else dnr l r
def dn (l : List UInt8) (k : Nat) : Nat := dnr l (l.length - k)
def lst (l : List UInt8) (k : Nat) : Nat := max (ups l k) (dn l k)
theorem ups_le (l : List UInt8) (k : Nat) : ups l k ≤ k := by
  induction k with
  | zero => simp [ups]
  | succ k ih => unfold ups; split <;> (try split) <;> omega
theorem dnr_le (l : List UInt8) (k : Nat) : dnr l k ≤ k := by
  induction k with
  | zero => simp [dnr]
  | succ k ih => unfold dnr; split <;> (try split) <;> omega
theorem lst_le {l : List UInt8} {k : Nat} (h : k ≤ l.length) : lst l k ≤ l.length := by
  unfold lst dn; have := ups_le l k; have := dnr_le l (l.length - k); omega
theorem dn_step {l : List UInt8} {k : Nat} (h : k < l.length) : dn l k = if l.getD k 0 = 100 then dn l (k + 1) + 1 else if l.getD k 0 = 117 then 0 else dn l (k + 1) := by
  unfold dn
  obtain ⟨r, hr⟩ : ∃ r, l.length - k = r + 1 := ⟨l.length - k - 1, by omega⟩
  rw [hr, dnr, show l.length - (r + 1) = k by omega, show l.length - (k + 1) = r by omega]
theorem dn_end (l : List UInt8) : dn l l.length = 0 := by unfold dn; rw [Nat.sub_self]; rfl
theorem ups_step (l : List UInt8) (k : Nat) : ups l (k + 1) = if l.getD k 0 = 117 then ups l k + 1 else if l.getD k 0 = 100 then 0 else ups l k := rfl

/-- one way's turn -/
def rlx (c : UInt8) (k : Nat) (f : Nat → Int) : Nat → Int :=
  if c = 117 then fun j => if j = k + 1 then max (f (k + 1)) (f k + 1) else f j
  else if c = 100 then fun j => if j = k then max (f k) (f (k + 1) + 1) else f j
  else fun j => if j = k ∨ j = k + 1 then max (f k) (f (k + 1)) else f j

structure LRel (l : List UInt8) (r k : Nat) (f : Nat → Int) : Prop where
  lo : ∀ j, 0 ≤ f j
  hi : ∀ j, j ≤ l.length → f j ≤ lst l j
  up : ∀ j, j ≤ l.length → (1 ≤ r ∨ j ≤ k) → (ups l j : Int) ≤ f j
  dw : ∀ j, j ≤ l.length → (l.length ≤ j + r ∨ j < k ∧ l.length ≤ j + r + 1) → (dn l j : Int) ≤ f j

theorem LRel.zero (l : List UInt8) : LRel l 0 0 (fun _ => 0) := by
  refine ⟨fun _ => Int.le_refl _, fun j _ => by simp, fun j _ h => ?_, fun j hj h => ?_⟩
  · have : j = 0 := by omega
    subst this; simp [ups]
  · have : j = l.length := by omega
    subst this; rw [dn_end]; simp
theorem LRel.next {l : List UInt8} {r : Nat} {f : Nat → Int} (h : LRel l r l.length f) : LRel l (r + 1) 0 f :=
  ⟨h.lo, h.hi, fun j hj _ => h.up j hj (.inr hj), fun j hj g => h.dw j hj (by omega)⟩
theorem LRel.step {l : List UInt8} {r k : Nat} {f : Nat → Int} (h : LRel l r k f) (hk : k < l.length) : LRel l r (k + 1) (rlx (l.getD k 0) k f) := by
  obtain ⟨h1, h2, h3, h4⟩ := h
  have u := ups_step l k
  have d := dn_step hk
  have a1 := h1 k
  have a2 := h1 (k + 1)
  have b1 := h2 k (by omega)
  have b2 := h2 (k + 1) (by omega)
  have c1 := h3 k (by omega)
  have c2 := h3 (k + 1) (by omega)
  have e1 := h4 k (by omega)
  have e2 := h4 (k + 1) (by omega)
  unfold lst at b1 b2
  unfold rlx
  generalize l.getD k 0 = c at *
  by_cases q1 : c = 117
  · subst q1
    simp only [if_true] at u ⊢
    rw [if_neg (by decide), if_pos rfl] at d
    refine ⟨fun j => ?_, fun j hj => ?_, fun j hj g => ?_, fun j hj g => ?_⟩
    · have := h1 j; split <;> omega
    · skip
      split
      · subst j; unfold lst; omega
      · exact h2 j hj
    · skip
      split
      · subst j; omega
      · exact h3 j hj (by omega)
    · skip
      split
      · subst j; by_cases g2 : l.length ≤ k + 1 + r ∨ k + 1 < k ∧ l.length ≤ k + 1 + r + 1
        · have := e2 g2; omega
        · omega
      · by_cases g3 : j = k
        · subst g3; have := h1 j; omega
        · exact h4 j hj (by omega)
  by_cases q2 : c = 100
  · subst q2
    simp only [if_neg (show ¬ (100 : UInt8) = 117 by decide), if_true] at u d ⊢
    refine ⟨fun j => ?_, fun j hj => ?_, fun j hj g => ?_, fun j hj g => ?_⟩
    · have := h1 j; split <;> omega
    · skip
      split
      · subst j; unfold lst; omega
      · exact h2 j hj
    · skip
      split
      · subst j; omega
      · by_cases g3 : j = k + 1
        · subst g3; rw [u]; have := h1 (k + 1); omega
        · exact h3 j hj (by omega)
    · skip
      split
      · subst j
        have := e2 (by omega)
        omega
      · exact h4 j hj (by omega)
  · simp only [if_neg q1, if_neg q2] at u d ⊢
    refine ⟨fun j => ?_, fun j hj => ?_, fun j hj g => ?_, fun j hj g => ?_⟩
    · have := h1 j; split <;> omega
    · skip
      split
      · rename_i g
        rcases g with rfl | rfl <;> (unfold lst; omega)
      · exact h2 j hj
    · skip
      split
      · rename_i g2
        rcases g2 with rfl | rfl <;> omega
      · exact h3 j hj (by omega)
    · skip
      split
      · rename_i g2
        rcases g2 with rfl | rfl
        · have := e2 (by omega); omega
        · have := e2 (by omega); omega
      · exact h4 j hj (by omega)
theorem LRel.done {l : List UInt8} {r : Nat} {f : Nat → Int} (h : LRel l r 0 f) (hr : l.length ≤ r) (hr1 : 1 ≤ r) {j : Nat} (hj : j ≤ l.length) : f j = lst l j := by
  have a := h.hi j hj
  have b := h.up j hj (.inl hr1)
  have c := h.dw j hj (.inl (by omega))
  unfold lst at a ⊢
  omega

theorem tnb_u {c : UInt8} : tnb c = 117 ↔ c = 100 := by
  unfold tnb
  by_cases h : c = 117
  · subst h; decide
  · by_cases k : c = 100
    · subst k; decide
    · simp [h, k]
theorem tnb_d {c : UInt8} : tnb c = 100 ↔ c = 117 := by
  unfold tnb
  by_cases h : c = 117
  · subst h; decide
  · by_cases k : c = 100
    · subst k; decide
    · simp [h, k]
theorem ups_back (l : List UInt8) (k : Nat) (hk : k ≤ l.length) : ups ((l.map tnb).reverse) k = dn l (l.length - k) := by
  induction k with
  | zero => rw [Nat.sub_zero, dn_end]; rfl
  | succ k ih =>
    have e : ((l.map tnb).reverse).getD k 0 = tnb (l.getD (l.length - (k + 1)) 0) := by
      rw [List.getD_eq_getElem?_getD, List.getElem?_reverse (by simp; omega), List.getElem?_map, List.length_map, show l.length - 1 - k = l.length - (k + 1) by omega]
      rw [List.getElem?_eq_getElem (by omega)]
      simp [List.getD_eq_getElem?_getD]
      rw [List.getElem?_eq_getElem (by omega)]
      rfl
    rw [ups_step, e, dn_step (by omega : l.length - (k + 1) < l.length), show l.length - (k + 1) + 1 = l.length - k by omega, ih (by omega)]
    generalize l.getD (l.length - (k + 1)) 0 = c
    by_cases h : c = 100
    · rw [if_pos (tnb_u.2 h), if_pos h]
    · rw [if_neg (fun x => h (tnb_u.1 x)), if_neg h]
      by_cases k : c = 117
      · rw [if_pos (tnb_d.2 k), if_pos k]
      · rw [if_neg (fun x => k (tnb_d.1 x)), if_neg k]
end Go.Proofs.YtkjimilapgkajabDoor
