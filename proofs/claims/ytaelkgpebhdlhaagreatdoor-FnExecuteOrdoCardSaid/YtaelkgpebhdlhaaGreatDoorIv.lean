/-
  Lists of integers that are only read: they may begin anywhere in a block.
-/
import Derived.Test.YtaelkgpebhdlhaaGreatDoorTI
import Derived.Test.YtaelkgpebhdlhaaGreatDoorTurn
namespace Go.Proofs.YtaelkgpebhdlhaaGreatDoor
open Go.RowKit
set_option maxRecDepth 100000
set_option linter.unusedVariables false

/-- v is read as the integers zs -/
def IV (w : World) (v : Value) (zs : List Int) : Prop := ∃ a c, v = .slice a zs.length c ∧ ArgI w a zs ∧ zs.length ≤ c ∧ c ≤ maxLen
theorem ArgI.keep {w w' : World} {a : Option Addr} {zs : List Int} (h : ArgI w a zs) (hs : w.heap.size ≤ w'.heap.size) (hk : ∀ A off, a = some ⟨A, off, none⟩ → A < w.heap.size → w'.heap[A]? = w.heap[A]?) : ArgI w' a zs := by
  rcases h with h | ⟨A, off, ha, hA, hc⟩
  · exact .inl h
  · refine .inr ⟨A, off, ha, Nat.lt_of_lt_of_le hA hs, fun i hi => ?_⟩
    rw [← hc i hi]
    simp [World.cell?, hk A off ha hA]
theorem IV.below {w w' : World} {v : Value} {zs : List Int} (h : IV w v zs) (hb : Below w.heap.size w w') : IV w' v zs := by
  obtain ⟨a, c, e, ha, h1, h2⟩ := h
  exact ⟨a, c, e, ha.below hb, h1, h2⟩
theorem IRow.view {w : World} {lo hi : Nat} {v : Value} {xs : List Int} (h : IRow w lo hi v xs) : IV w v xs := by
  rcases h.form with ⟨rfl, rfl⟩ | ⟨g, cap, cur, rfl, hg, hg2, hgs, hcap, hmax, hh, hsz, htk, hc, hfz⟩
  · exact ⟨none, 0, rfl, .inl rfl, Nat.le_refl _, Nat.zero_le _⟩
  · exact ⟨_, cap, rfl, .inr ⟨g, 0, rfl, hgs, fun i hi => by rw [Nat.zero_add]; exact hc i hi⟩, hcap, hmax⟩
theorem IV.len {w : World} {v : Value} {zs : List Int} (h : IV w v zs) : zs.length ≤ 9223372036854775807 := by
  obtain ⟨a, c, e, ha, h1, h2⟩ := h
  unfold maxLen at h2
  omega
theorem IV.nil (w : World) : IV w (.slice none 0 0) [] := ⟨none, 0, rfl, .inl rfl, Nat.le_refl _, Nat.zero_le _⟩
/-- the part of a list from k on -/
theorem ArgI.from_ {w : World} {A off : Nat} {zs : List Int} (h : ArgI w (some ⟨A, off, none⟩) zs) (k : Nat) : ArgI w (some ⟨A, off + k, none⟩) (zs.drop k) := by
  rcases h with rfl | ⟨A', off', e, hA, hc⟩
  · exact .inl (by simp)
  · injection e with e
    injection e with e1 e2
    subst e1 e2
    refine .inr ⟨A, off + k, rfl, hA, fun i hi => ?_⟩
    have hi' : k + i < zs.length := by simp at hi; omega
    rw [Nat.add_assoc, hc (k + i) hi']
    simp [List.getD_eq_getElem?_getD, List.getElem?_drop]
theorem ArgI.take {w : World} {a : Option Addr} {zs : List Int} (h : ArgI w a zs) (k : Nat) : ArgI w a (zs.take k) := by
  rcases h with rfl | ⟨A, off, e, hA, hc⟩
  · exact .inl (by simp)
  · refine .inr ⟨A, off, e, hA, fun i hi => ?_⟩
    have hi' : i < k ∧ i < zs.length := by simp at hi; omega
    rw [hc i hi'.2]
    simp [List.getD_eq_getElem?_getD, List.getElem?_take_of_lt hi'.1]

/-- only the block of v turns, and new ones -/
structure OwnT (v : Value) (w w' : World) : Prop where
  os : w'.os = w.os
  tape : w'.tape = w.tape
  output : w'.output = w.output
  size : w.heap.size ≤ w'.heap.size
  block : ∀ k, k < w.heap.size → v.ownBlock ≠ some k → w'.heap[k]? = w.heap[k]?
end Go.Proofs.YtaelkgpebhdlhaaGreatDoor
