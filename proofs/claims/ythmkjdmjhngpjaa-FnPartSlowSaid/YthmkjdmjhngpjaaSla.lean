/-
  No two neighbours of a slower part can be joined (mathematics).
-/
import Derived.Test.YthmkjdmjhngpjaaSlm
namespace Go.Proofs.Ythmkjdmjhngpjaa
set_option maxRecDepth 100000
set_option linter.unusedVariables false

def adj (ys : List Vc) : Prop := ∀ i x y, ys[i]? = some x → ys[i + 1]? = some y → ¬ (y.1 = x.1 ∧ y.2 + x.2 ≤ 3)
theorem app_get {ys : List Vc} {l : Vc} {i : Nat} {x : Vc} (h : (ys ++ [l])[i]? = some x) : (i < ys.length ∧ ys[i]? = some x) ∨ (i = ys.length ∧ x = l) := by
  rcases Nat.lt_or_ge i ys.length with hi | hi
  · rw [List.getElem?_append_left hi] at h
    exact .inl ⟨hi, h⟩
  · rw [List.getElem?_append_right hi] at h
    cases e : i - ys.length with
    | zero =>
      rw [e] at h
      simp at h
      exact .inr ⟨by omega, h.symm⟩
    | succ k => rw [e] at h; simp at h
theorem slow_adj {ys : List Vc} {x : Vc} (h : adj ys) (hx : vok x = true) : adj (slow ys x) := by
  have h2 := vok_in hx
  rcases List.eq_nil_or_concat ys with rfl | ⟨zs, l, rfl⟩
  · rw [slow_nil]
    intro i a b ha hb
    simp at hb
  · rw [List.concat_eq_append] at h ⊢
    by_cases e : l.1 = x.1 ∧ l.2 + x.2 ≤ 3
    · rw [slow_yes e.1 e.2]
      intro i a b ha hb
      rcases app_get hb with ⟨hi, hb⟩ | ⟨hi, rfl⟩
      · rcases app_get ha with ⟨hi2, ha⟩ | ⟨hi2, rfl⟩
        · exact h i a b (by rw [List.getElem?_append_left hi2]; exact ha) (by rw [List.getElem?_append_left hi]; exact hb)
        · omega
      · rcases app_get ha with ⟨hi2, ha⟩ | ⟨hi2, rfl⟩
        · have := h i a l (by rw [List.getElem?_append_left hi2]; exact ha) (by rw [hi]; simp)
          intro ⟨e1, e2⟩
          exact this ⟨e1, by simp only at e2; omega⟩
        · omega
    · rw [slow_no e]
      intro i a b ha hb
      rcases app_get hb with ⟨hi, hb⟩ | ⟨hi, rfl⟩
      · rcases app_get ha with ⟨hi2, ha⟩ | ⟨hi2, rfl⟩
        · exact h i a b ha hb
        · omega
      · rcases app_get ha with ⟨hi2, ha⟩ | ⟨hi2, rfl⟩
        · rcases app_get ha with ⟨hi3, _⟩ | ⟨_, rfl⟩
          · simp at hi; omega
          · intro ⟨e1, e2⟩
            exact e ⟨e1.symm, by omega⟩
        · omega
theorem slw_adj {xs : List Vc} (h : xs.all vok = true) : adj (slw xs) := by
  have key : ∀ k, adj (slw (xs.take k)) := fun k => by
    induction k with
    | zero => intro i a b ha; simp [slw] at ha
    | succ k ih =>
      cases hx : xs[k]? with
      | none => rw [List.take_add_one, hx]; simpa using ih
      | some x => rw [slw_take hx]; exact slow_adj ih (all_get h hx)
  have := key xs.length
  rwa [List.take_length] at this
end Go.Proofs.Ythmkjdmjhngpjaa
