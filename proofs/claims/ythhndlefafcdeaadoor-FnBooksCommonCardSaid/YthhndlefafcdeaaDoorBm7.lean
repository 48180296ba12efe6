/-
  Plain mathematics of manuscripts: how far they are is a distance. No program stands in it.
-/
import Derived.Test.YthhndlefafcdeaaDoorStm
namespace Go.Proofs.YthhndlefafcdeaaDoor

theorem frk_zero {a b : ByteArray} : ∀ {k : Nat}, frk a b k = 0 → ∀ i, i < k → a.data.toList[i]? = b.data.toList[i]?
  | 0, _, i, hi => by omega
  | k + 1, h, i, hi => by
    unfold frk at h
    by_cases e : a.data.toList[k]? = b.data.toList[k]?
    · by_cases hk : i = k
      · subst hk; exact e
      · rw [if_pos e] at h; exact frk_zero (k := k) h i (by omega)
    · rw [if_neg e] at h; omega
theorem frk_self (a : ByteArray) : ∀ k, frk a a k = 0
  | 0 => rfl
  | k + 1 => by unfold frk; rw [frk_self a k, if_pos rfl]
theorem fr_self (a : ByteArray) : fr a a = 0 := frk_self a _
theorem fr_zero {a b : ByteArray} (hs : a.size = b.size) (h : fr a b = 0) : a = b := by
  have h1 := frk_zero h
  have h2 : a.data.toList = b.data.toList := by
    apply List.ext_getElem?
    intro i
    by_cases hi : i < a.size
    · exact h1 i hi
    · rw [List.getElem?_eq_none (by simpa using (by omega : a.size ≤ i)), List.getElem?_eq_none (by simpa using (by omega : b.size ≤ i))]
  have h3 : a.data = b.data := Array.toList_inj.1 h2
  cases a; cases b; simpa using h3
theorem frk_tri (a b c : ByteArray) : ∀ k, frk a b k ≤ frk a c k + frk c b k
  | 0 => Nat.le_refl _
  | k + 1 => by
    have := frk_tri a b c k
    unfold frk
    by_cases h1 : a.data.toList[k]? = c.data.toList[k]?
    · by_cases h2 : c.data.toList[k]? = b.data.toList[k]?
      · rw [if_pos h1, if_pos h2, if_pos (h1.trans h2)]; omega
      · rw [if_pos h1, if_neg h2]; split <;> omega
    · rw [if_neg h1]; split <;> split <;> omega
theorem fr_tri {a b c : ByteArray} (h : a.size = c.size) : fr a b ≤ fr a c + fr c b := by
  unfold fr
  rw [← h]
  exact frk_tri a b c _
end Go.Proofs.YthhndlefafcdeaaDoor
