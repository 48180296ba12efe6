/-
  The readings from a place on, told one formula after the other.
-/
import Derived.Test.YtjhigjbfnemdjaaNf
import Derived.Deep.LoopGhost
namespace Go.Proofs.Ytjhigjbfnemdjaa
open Go.RowKit Go.Maps
set_option maxRecDepth 100000
set_option linter.unusedVariables false

/-- only blocks b and t turn, and new ones -/
structure Fr (b t : Nat) (w w' : World) : Prop where
  os : w'.os = w.os
  tape : w'.tape = w.tape
  output : w'.output = w.output
  size : w.heap.size ≤ w'.heap.size
  block : ∀ j, j < w.heap.size → j ≠ b → j ≠ t → w'.heap[j]? = w.heap[j]?
theorem Fr.refl (b t : Nat) (w : World) : Fr b t w w := ⟨rfl, rfl, rfl, Nat.le_refl _, fun _ _ _ _ => rfl⟩
theorem Fr.trans {b t t2 : Nat} {w w1 w2 : World} (h : Fr b t w w1) (k : Fr b t2 w1 w2) (ht : t2 = t ∨ w.heap.size ≤ t2) : Fr b t w w2 :=
  ⟨k.os.trans h.os, k.tape.trans h.tape, k.output.trans h.output, Nat.le_trans h.size k.size, fun j hj h1 h2 => (k.block j (Nat.lt_of_lt_of_le hj h.size) h1 (by omega)).trans (h.block j hj h1 h2)⟩
theorem Fr.below {b t : Nat} {w w1 w2 : World} (h : Fr b t w w1) (k : Below w1.heap.size w1 w2) : Fr b t w w2 :=
  h.trans (t2 := t) ⟨k.os, k.tape, k.output, k.size, fun j hj _ _ => k.block j hj⟩ (.inl rfl)
theorem Fr.tell {b t t2 : Nat} {w w1 w2 : World} (h : Fr b t w w1) (k : FrT t2 w1 w2) (ht : t2 = t ∨ w.heap.size ≤ t2) : Fr b t w w2 :=
  h.trans (t2 := t2) ⟨k.os, k.tape, k.output, k.size, fun j hj _ h2 => k.block j hj h2⟩ ht
theorem Fr.map {b t : Nat} {w w1 w2 : World} (h : Fr b t w w1) (k : w1.grownBy w2 (some b)) : Fr b t w w2 :=
  h.trans (t2 := t) ⟨k.os, k.tape, k.output, k.size, fun j hj h1 _ => k.block j hj (fun e => h1 (by injection e))⟩ (.inl rfl)
/-- lists of integers stay -/
theorem Fr.ints {b t : Nat} {w w' : World} (h : Fr b t w w') (hb : ∃ es c, w.heap[b]? = some (.map es c)) (ht : w.heap.size ≤ t ∨ ∃ r x, Kept w t r x) : ∀ (g : Nat) (cur : Array Value), w.heap[g]? = some (.cells cur 3 (0, 0)) → w'.heap[g]? = w.heap[g]? := fun g cur hg => by
  have hl : g < w.heap.size := by
    rcases Nat.lt_or_ge g w.heap.size with h | h
    · exact h
    · rw [Array.getElem?_eq_none h] at hg; cases hg
  refine h.block g hl (fun e => ?_) (fun e => ?_)
  · subst e; obtain ⟨es, c, h2⟩ := hb; rw [h2] at hg; cases hg
  · subst e
    rcases ht with ht | ⟨r, x, hk⟩
    · omega
    · unfold Kept at hk; rw [hk] at hg; simp at hg
theorem FrT.ints {t : Nat} {w w' : World} (h : FrT t w w') {r : Rs} {x : Value} (ht : Kept w t r x) : ∀ (g : Nat) (cur : Array Value), w.heap[g]? = some (.cells cur 3 (0, 0)) → w'.heap[g]? = w.heap[g]? := fun g cur hg => by
  have hl : g < w.heap.size := by
    rcases Nat.lt_or_ge g w.heap.size with h | h
    · exact h
    · rw [Array.getElem?_eq_none h] at hg; cases hg
  refine h.block g hl (fun e => ?_)
  subst e
  unfold Kept at ht; rw [ht] at hg; simp at hg
theorem Kept.keep {w w' : World} {t : Nat} {r : Rs} {x : Value} (h : Kept w t r x) (hk : w'.heap[t]? = w.heap[t]?) : Kept w' t r x := hk.trans h

/-- k formulas told to what was there -/
def RkA (fs : List Fm) (s : List Int) (p : Nat) (acc : Rs) (k : Nat) : Rs := (List.range k).foldl (stR fs s p) acc
theorem RkA_zero (fs : List Fm) (s : List Int) (p k : Nat) : RkA fs s p Rs.zero k = Rk fs s p k := rfl
theorem RkA_succ (fs : List Fm) (s : List Int) (p : Nat) (acc : Rs) (k : Nat) : RkA fs s p acc (k + 1) = stR fs s p (RkA fs s p acc k) k := by
  unfold RkA
  rw [List.range_succ, List.foldl_append]
  rfl
theorem RkA_no {fs : List Fm} {s : List Int} {p k : Nat} {f : Fm} (acc : Rs) (hf : fs[k]? = some f) (h : mt s p f.1 = false) : RkA fs s p acc (k + 1) = RkA fs s p acc k := by rw [RkA_succ, stR_no _ hf h]
theorem RkA_none {fs : List Fm} {s : List Int} {p k : Nat} {f : Fm} (acc : Rs) (hf : fs[k]? = some f) (h0 : 0 < f.1.length) (h : mt s p f.1 = true) (hm : (R fs s (p + f.1.length)).many = 0) : RkA fs s p acc (k + 1) = RkA fs s p acc k := by
  rw [RkA_succ, stR_yes _ hf h0 h, addK_no hm]
theorem RkA_yes {fs : List Fm} {s : List Int} {p k : Nat} {f : Fm} (acc : Rs) (hf : fs[k]? = some f) (h0 : 0 < f.1.length) (h : mt s p f.1 = true) (hm : 0 < (R fs s (p + f.1.length)).many) : RkA fs s p acc (k + 1) = addR (RkA fs s p acc k) (behR k f.2 (R fs s (p + f.1.length))) := by
  rw [RkA_succ, stR_yes _ hf h0 h, addK_yes hm]
theorem RkA_many (fs : List Fm) (s : List Int) (p : Nat) (acc : Rs) (k : Nat) : (RkA fs s p acc k).many = acc.many + (Rk fs s p k).many := by
  induction k with
  | zero => show acc.many = acc.many + 0; omega
  | succ k ih =>
    rw [RkA_succ, Rk_succ]
    unfold stR
    cases hf : fs[k]? with
    | none => simpa using ih
    | some f =>
      simp only
      split
      · unfold addK
        cases decide (0 < (R fs s (p + f.1.length)).many) <;> simp [addR, ih]
        omega
      · exact ih
end Go.Proofs.Ytjhigjbfnemdjaa
