/-
  The contour of steps: plain mathematics. No steps with a contour are lower than its lowest ones, and these have it.
-/
import Derived.Test.YtjodcaeohkjlnabCl
namespace Go.Proofs.Ytjodcaeohkjlnab
set_option maxRecDepth 100000
set_option linter.unusedVariables false

/-- the way from a step to another one -/
def wyi (a b : Int) : UInt8 := if a < b then 117 else if b < a then 100 else 115
theorem wyi_up {a b : Int} (h : a < b) : wyi a b = 117 := by unfold wyi; rw [if_pos h]
theorem wyi_down {a b : Int} (h : b < a) : wyi a b = 100 := by unfold wyi; rw [if_neg (by omega), if_pos h]
theorem wyi_same {a b : Int} (h : a = b) : wyi a b = 115 := by unfold wyi; rw [if_neg (by omega), if_neg (by omega)]
theorem wyi_nat (a b : Nat) : wyi (a : Int) (b : Int) = wy a b := by
  unfold wyi wy
  by_cases h : a < b
  · rw [if_pos (by omega), if_pos h]
  · by_cases k : b < a
    · rw [if_neg (by omega), if_pos (by omega), if_neg h, if_pos k]
    · rw [if_neg (by omega), if_neg (by omega), if_neg h, if_neg k]
theorem wyi_u {a b : Int} (h : wyi a b = 117) : a < b := by
  by_cases p : a < b
  · exact p
  · by_cases q : b < a
    · rw [wyi_down q] at h; exact absurd h (by decide)
    · rw [wyi_same (by omega)] at h; exact absurd h (by decide)
theorem wyi_d {a b : Int} (h : wyi a b = 100) : b < a := by
  by_cases p : a < b
  · rw [wyi_up p] at h; exact absurd h (by decide)
  · by_cases q : b < a
    · exact q
    · rw [wyi_same (by omega)] at h; exact absurd h (by decide)
theorem wyi_s {a b : Int} (h : ¬ wyi a b = 117) (g : ¬ wyi a b = 100) : a = b := by
  by_cases p : a < b
  · exact absurd (wyi_up p) h
  · by_cases q : b < a
    · exact absurd (wyi_down q) g
    · omega
theorem wyi_way (a b : Int) : wayb (wyi a b) = true := by unfold wyi; split <;> (try split) <;> decide

/-- the contour of n + 1 steps -/
def cofl (f : Nat → Int) (n : Nat) : List UInt8 := (List.range n).map fun i => wyi (f i) (f (i + 1))
theorem cofl_len (f : Nat → Int) (n : Nat) : (cofl f n).length = n := by simp [cofl]
theorem cofl_succ (f : Nat → Int) (n : Nat) : cofl f (n + 1) = cofl f n ++ [wyi (f n) (f (n + 1))] := by simp [cofl, List.range_succ]
theorem cofl_at {f : Nat → Int} {n k : Nat} (h : k < n) : (cofl f n).getD k 0 = wyi (f k) (f (k + 1)) := by simp [cofl, List.getD_eq_getElem?_getD, h]
theorem cofl_ways (f : Nat → Int) (n : Nat) : (cofl f n).all wayb = true := by
  rw [List.all_eq_true]
  intro c hc
  obtain ⟨i, _, rfl⟩ := List.mem_map.1 hc
  exact wyi_way _ _

/-- no steps with the contour are lower -/
theorem lst_low {l : List UInt8} {f : Nat → Int} (h0 : ∀ j, j ≤ l.length → 0 ≤ f j) (h : ∀ k, k < l.length → wyi (f k) (f (k + 1)) = l.getD k 0) : ∀ j, j ≤ l.length → ((lst l j : Nat) : Int) ≤ f j := by
  have hu : ∀ j, j ≤ l.length → ((ups l j : Nat) : Int) ≤ f j := by
    intro j
    induction j with
    | zero => intro hj; have := h0 0 hj; simp [ups]; exact this
    | succ k ih =>
      intro hj
      have e := h k (by omega)
      have i := ih (by omega)
      have z := h0 (k + 1) hj
      rw [ups_step, ← e]
      by_cases p : wyi (f k) (f (k + 1)) = 117
      · have := wyi_u p
        rw [if_pos p]
        omega
      · rw [if_neg p]
        by_cases q : wyi (f k) (f (k + 1)) = 100
        · rw [if_pos q]
          omega
        · have := wyi_s p q
          rw [if_neg q]
          omega
  have hd : ∀ r, r ≤ l.length → ((dn l (l.length - r) : Nat) : Int) ≤ f (l.length - r) := by
    intro r
    induction r with
    | zero => intro _; rw [Nat.sub_zero, dn_end]; exact h0 _ (Nat.le_refl _)
    | succ r ih =>
      intro hr
      obtain ⟨k, hk⟩ : ∃ k, l.length - (r + 1) = k := ⟨_, rfl⟩
      have e := h k (by omega)
      have i := ih (by omega)
      rw [show l.length - r = k + 1 by omega] at i
      have z := h0 k (by omega)
      rw [hk, dn_step (by omega), ← e]
      by_cases p : wyi (f k) (f (k + 1)) = 100
      · have := wyi_d p
        rw [if_pos p]
        omega
      · rw [if_neg p]
        by_cases q : wyi (f k) (f (k + 1)) = 117
        · rw [if_pos q]
          omega
        · have := wyi_s q p
          rw [if_neg q]
          omega
  intro j hj
  have a := hu j hj
  have b := hd (l.length - j) (by omega)
  rw [show l.length - (l.length - j) = j by omega] at b
  unfold lst
  omega
/-- the lowest steps have the contour -/
theorem lst_way {l : List UInt8} {k : Nat} (hk : k < l.length) (hw : wayb (l.getD k 0) = true) : wyi ((lst l k : Nat) : Int) ((lst l (k + 1) : Nat) : Int) = l.getD k 0 := by
  have u := ups_step l k
  have d := dn_step hk
  simp only [wayb, Bool.or_eq_true, beq_iff_eq] at hw
  unfold lst
  rcases hw with (h | h) | h
  · rw [h] at u d ⊢
    rw [if_pos rfl] at u
    rw [if_neg (by decide), if_pos rfl] at d
    exact wyi_up (by omega)
  · rw [h] at u d ⊢
    rw [if_neg (by decide), if_pos rfl] at u
    rw [if_pos rfl] at d
    exact wyi_down (by omega)
  · rw [h] at u d ⊢
    rw [if_neg (by decide), if_neg (by decide)] at u
    rw [if_neg (by decide), if_neg (by decide)] at d
    exact wyi_same (by omega)
theorem lst_cof {l : List UInt8} (hl : l.all wayb = true) : cofl (fun j => ((lst l j : Nat) : Int)) l.length = l := by
  apply List.ext_getElem (by rw [cofl_len])
  intro k h1 h2
  have hw : wayb (l.getD k 0) = true := by
    rw [List.getD_eq_getElem?_getD, List.getElem?_eq_getElem h2]
    exact List.all_eq_true.1 hl _ (List.getElem_mem h2)
  have e := lst_way h2 hw
  have c := cofl_at (f := fun j => ((lst l j : Nat) : Int)) h2
  rw [List.getD_eq_getElem?_getD, List.getElem?_eq_getElem h1] at c
  rw [List.getD_eq_getElem?_getD, List.getElem?_eq_getElem h2] at e
  simp only [Option.getD_some] at c e
  rw [c, e]
/-- steps that are lower at one place have another contour -/
theorem lower_no {l : List UInt8} {i : Nat} (hi : i ≤ l.length) (hp : 0 < lst l i) : ¬ cofl (fun j => if j = i then ((lst l j : Nat) : Int) - 1 else ((lst l j : Nat) : Int)) l.length = l := by
  intro e
  have h := lst_low (l := l) (f := fun j => if j = i then ((lst l j : Nat) : Int) - 1 else ((lst l j : Nat) : Int)) (fun j hj => by (try dsimp only); split; (rename_i e; subst e; omega); omega) (fun k hk => by
    have c := cofl_at (f := fun j => if j = i then ((lst l j : Nat) : Int) - 1 else ((lst l j : Nat) : Int)) hk
    rw [e] at c
    exact c.symm) i hi
  simp only [if_true] at h
  omega
/-- among the lowest steps is 0 -/
theorem lst_zero (l : List UInt8) : ∃ j, j ≤ l.length ∧ lst l j = 0 := by
  by_cases h : ∃ j, j ≤ l.length ∧ lst l j = 0
  · exact h
  · have hp : ∀ j, j ≤ l.length → 0 < lst l j := fun j hj => by
      rcases Nat.eq_zero_or_pos (lst l j) with e | e
      · exact absurd ⟨j, hj, e⟩ h
      · exact e
    -- the first tone has only ways down ahead of it, the last one only ways up behind it
    have hu : ∀ k, k ≤ l.length → 0 < dn l k ∨ 0 < ups l k := fun k hk => by have := hp k hk; unfold lst at this; omega
    have key : ∀ k, k ≤ l.length → 0 < dn l k := by
      intro k
      induction k with
      | zero => intro hk; rcases hu 0 hk with h | h
                · exact h
                · simp [ups] at h
      | succ k ih =>
        intro hk
        have a := ih (by omega)
        rcases hu (k + 1) hk with h1 | h1
        · exact h1
        · rw [dn_step (by omega)] at a
          rw [ups_step] at h1
          by_cases p : l.getD k 0 = 117
          · rw [if_neg (by rw [p]; decide), if_pos p] at a
            omega
          · by_cases q : l.getD k 0 = 100
            · rw [if_neg p, if_pos q] at h1
              omega
            · rw [if_neg q, if_neg p] at a
              exact a
    have := key l.length (Nat.le_refl _)
    rw [dn_end] at this
    omega
end Go.Proofs.Ytjodcaeohkjlnab
