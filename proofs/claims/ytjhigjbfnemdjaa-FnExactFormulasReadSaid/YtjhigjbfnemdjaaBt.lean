/-
  The best reading, in the model.
-/
import Derived.Test.YtjhigjbfnemdjaaLe
import Derived.Test.YtjhigjbfnemdjaaFb
namespace Go.Proofs.Ytjhigjbfnemdjaa
open Go.RowKit
set_option maxRecDepth 100000
set_option linter.unusedVariables false

/-- a formula leads to the least weight -/
def leads (fs : List Fm) (s : List Int) (p k : Nat) : Bool :=
  match fs[k]? with
  | some f => mt s p f.1 && decide (0 < (R fs s (p + f.1.length)).many) && decide ((R fs s (p + f.1.length)).wt + f.2 = (R fs s p).wt)
  | none => false
/-- what is so of the best one among the first k formulas -/
theorem Rk_best {fs : List Fm} {s : List Int} {p : Nat} (hv : fv fs = true) : ∀ k, k ≤ fs.length →
    ((Rk fs s p k).many = 0 ∧ Rk fs s p k = Rs.zero ∧ (∀ j f, j < k → fs[j]? = some f → mt s p f.1 = true → (R fs s (p + f.1.length)).many = 0)) ∨
    (0 < (Rk fs s p k).many ∧ ∃ j f, j < k ∧ fs[j]? = some f ∧ mt s p f.1 = true ∧ 0 < (R fs s (p + f.1.length)).many ∧ (R fs s (p + f.1.length)).wt + f.2 = (Rk fs s p k).wt ∧
      (Rk fs s p k).best = (j : Int) :: (R fs s (p + f.1.length)).best ∧
      (∀ i g, i < k → fs[i]? = some g → mt s p g.1 = true → 0 < (R fs s (p + g.1.length)).many → (Rk fs s p k).wt ≤ (R fs s (p + g.1.length)).wt + g.2 ∧ (i < j → (Rk fs s p k).wt < (R fs s (p + g.1.length)).wt + g.2))) := by
  intro k
  induction k with
  | zero => intro _; exact .inl ⟨rfl, rfl, fun j f hj => by omega⟩
  | succ k ih =>
    intro hk
    have hf : fs[k]? = some fs[k] := List.getElem?_eq_getElem (by omega)
    have hfl := (fo_len (fv_fo hv hf)).1
    generalize hfe : fs[k] = f at hf hfl
    have old := ih (by omega)
    have hlast : ∀ j g, j < k + 1 → fs[j]? = some g → j < k ∨ (j = k ∧ g = f) := fun j g hj hg => by
      rcases Nat.lt_or_ge j k with h | h
      · exact .inl h
      · have : j = k := by omega
        subst this
        rw [hf] at hg
        injection hg with hg
        exact .inr ⟨rfl, hg.symm⟩
    by_cases hm : mt s p f.1 = true ∧ 0 < (R fs s (p + f.1.length)).many
    · have hstep : Rk fs s p (k + 1) = addR (Rk fs s p k) (behR k f.2 (R fs s (p + f.1.length))) := by rw [Rk_succ, stR_yes _ hf hfl hm.1, addK_yes hm.2]
      right
      rw [hstep]
      refine ⟨by show 0 < (Rk fs s p k).many + (R fs s (p + f.1.length)).many; omega, ?_⟩
      cases hl : lessR (Rk fs s p k) ((R fs s (p + f.1.length)).wt + f.2) (Rk fs s p k).wt with
      | true =>
        refine ⟨k, f, by omega, hf, hm.1, hm.2, by simp [addR, behR, hl], by simp [addR, behR, hl], fun i g hi hg hmg hmany => ?_⟩
        have hw : (addR (Rk fs s p k) (behR k f.2 (R fs s (p + f.1.length)))).wt = (R fs s (p + f.1.length)).wt + f.2 := by simp [addR, behR, hl]
        rw [hw]
        rcases hlast i g hi hg with h | ⟨rfl, rfl⟩
        · rcases old with ⟨h0, _, hno⟩ | ⟨hpos, j, f', _, _, _, _, _, _, hmin⟩
          · have := hno i g h hg hmg; omega
          · have h1 := (hmin i g h hg hmg hmany).1
            have h2 : (R fs s (p + f.1.length)).wt + f.2 < (Rk fs s p k).wt := by
              unfold lessR at hl
              simp at hl
              rcases hl with hl | hl
              · omega
              · exact hl
            exact ⟨by omega, fun _ => by omega⟩
        · exact ⟨Int.le_refl _, fun h => by omega⟩
      | false =>
        have hl' : ¬ (Rk fs s p k).many = 0 ∧ ¬ (R fs s (p + f.1.length)).wt + f.2 < (Rk fs s p k).wt := by
          unfold lessR at hl
          simp at hl
          exact ⟨hl.1, by omega⟩
        rcases old with ⟨h0, _, _⟩ | ⟨hpos, j, f', hj, hfj, hmj, hmanyj, hwj, hbj, hmin⟩
        · exact absurd h0 hl'.1
        · have hw : (addR (Rk fs s p k) (behR k f.2 (R fs s (p + f.1.length)))).wt = (Rk fs s p k).wt := by simp [addR, behR, hl]
          have hbst : (addR (Rk fs s p k) (behR k f.2 (R fs s (p + f.1.length)))).best = (Rk fs s p k).best := by simp [addR, behR, hl]
          refine ⟨j, f', by omega, hfj, hmj, hmanyj, by rw [hw]; exact hwj, by rw [hbst]; exact hbj, fun i g hi hg hmg hmany => ?_⟩
          rw [hw]
          rcases hlast i g hi hg with h | ⟨rfl, rfl⟩
          · exact hmin i g h hg hmg hmany
          · exact ⟨by omega, fun h => by omega⟩
    · have hstep : Rk fs s p (k + 1) = Rk fs s p k := by
        rw [Rk_succ]
        cases hm1 : mt s p f.1 with
        | false => exact stR_no _ hf hm1
        | true => rw [stR_yes _ hf hfl hm1, addK_no (by have h3 : ¬ 0 < (R fs s (p + f.1.length)).many := fun h => hm ⟨hm1, h⟩; omega)]
      rw [hstep]
      rcases old with ⟨h0, hz, hno⟩ | ⟨hpos, j, f', hj, hfj, hmj, hmanyj, hwj, hbj, hmin⟩
      · refine .inl ⟨h0, hz, fun j g hj hg hmg => ?_⟩
        rcases hlast j g hj hg with h | ⟨rfl, rfl⟩
        · exact hno j g h hg hmg
        · have h3 : ¬ 0 < (R fs s (p + g.1.length)).many := fun h => hm ⟨hmg, h⟩
          omega
      · refine .inr ⟨hpos, j, f', by omega, hfj, hmj, hmanyj, hwj, hbj, fun i g hi hg hmg hmany => ?_⟩
        rcases hlast i g hi hg with h | ⟨rfl, rfl⟩
        · exact hmin i g h hg hmg hmany
        · exact absurd ⟨hmg, hmany⟩ hm
theorem R_none {fs : List Fm} {s : List Int} {p : Nat} (hv : fv fs = true) (h : (R fs s p).many = 0) : R fs s p = Rs.zero := by
  by_cases hp : p < s.length
  · rw [R_lt hp] at h ⊢
    rcases Rk_best (s := s) (p := p) hv _ (Nat.le_refl _) with ⟨_, hz, _⟩ | ⟨h1, _⟩
    · exact hz
    · omega
  · rw [R_ge hp] at h; cases h
/-- the first formula that leads to the least weight -/
theorem R_first {fs : List Fm} {s : List Int} {p : Nat} (hv : fv fs = true) (hp : p < s.length) (h : 0 < (R fs s p).many) : ∃ (j : Nat) (f : Fm), fs[j]? = some f ∧ mt s p f.1 = true ∧ 0 < (R fs s (p + f.1.length)).many ∧ (R fs s (p + f.1.length)).wt + f.2 = (R fs s p).wt ∧
    (R fs s p).best = (j : Int) :: (R fs s (p + f.1.length)).best ∧ ∀ (i : Nat) (g : Fm), i < j → fs[i]? = some g → mt s p g.1 = true → 0 < (R fs s (p + g.1.length)).many → (R fs s (p + g.1.length)).wt + g.2 ≠ (R fs s p).wt := by
  have e := R_lt (fs := fs) hp
  rw [e] at h ⊢
  rcases Rk_best (s := s) (p := p) hv _ (Nat.le_refl _) with ⟨h0, _, _⟩ | ⟨_, j, f, hj, hf, hm, hmany, hw, hb, hmin⟩
  · omega
  · refine ⟨j, f, hf, hm, hmany, hw, hb, fun i g hi hg hmg hmg2 => ?_⟩
    have := (hmin i g (by omega) hg hmg hmg2).2 hi
    omega
end Go.Proofs.Ytjhigjbfnemdjaa
