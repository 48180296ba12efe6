/-
  The ends of a melody.
-/
import Derived.Test.YtjodcaeohkjlnaaDoorMelR2
namespace Go.Proofs.YtjodcaeohkjlnaaDoor
open Go.RowKit
set_option maxRecDepth 100000
set_option linter.unusedVariables false

theorem loF_spec (a : Int) (xs : List (Int × Bool)) : loF a xs ≤ a ∧ (∀ t, t ∈ xs → loF a xs ≤ t.1) ∧ (loF a xs = a ∨ ∃ t, t ∈ xs ∧ t.1 = loF a xs) := by
  induction xs generalizing a with
  | nil => exact ⟨Int.le_refl _, fun t h => (by cases h), .inl rfl⟩
  | cons u r ih =>
    have e : loF a (u :: r) = loF (min a u.1) r := rfl
    obtain ⟨h1, h2, h3⟩ := ih (min a u.1)
    rw [e]
    refine ⟨by omega, fun t ht => ?_, ?_⟩
    · rcases List.mem_cons.1 ht with rfl | ht
      · omega
      · exact h2 t ht
    · rcases h3 with h3 | ⟨t, ht, h3⟩
      · by_cases g : a ≤ u.1
        · left; omega
        · exact .inr ⟨u, List.mem_cons_self, by omega⟩
      · exact .inr ⟨t, List.mem_cons_of_mem _ ht, h3⟩
theorem hiF_spec (a : Int) (xs : List (Int × Bool)) : a ≤ hiF a xs ∧ (∀ t, t ∈ xs → t.1 ≤ hiF a xs) ∧ (hiF a xs = a ∨ ∃ t, t ∈ xs ∧ t.1 = hiF a xs) := by
  induction xs generalizing a with
  | nil => exact ⟨Int.le_refl _, fun t h => (by cases h), .inl rfl⟩
  | cons u r ih =>
    have e : hiF a (u :: r) = hiF (max a u.1) r := rfl
    obtain ⟨h1, h2, h3⟩ := ih (max a u.1)
    rw [e]
    refine ⟨by omega, fun t ht => ?_, ?_⟩
    · rcases List.mem_cons.1 ht with rfl | ht
      · omega
      · exact h2 t ht
    · rcases h3 with h3 | ⟨t, ht, h3⟩
      · by_cases g : u.1 ≤ a
        · left; omega
        · exact .inr ⟨u, List.mem_cons_self, by omega⟩
      · exact .inr ⟨t, List.mem_cons_of_mem _ ht, h3⟩
theorem hdS_mem {xs : List (Int × Bool)} (h : xs ≠ []) : ∃ t, t ∈ xs ∧ t.1 = hdS xs := by
  cases xs with
  | nil => exact absurd rfl h
  | cons u r => exact ⟨u, List.mem_cons_self, rfl⟩
theorem rg_facts {xs : List (Int × Bool)} (h : rgOk xs = true) : mv xs = true ∧ xs ≠ [] ∧ (∀ t, t ∈ xs → rgL xs ≤ t.1 ∧ t.1 ≤ rgH xs) ∧ (∃ t, t ∈ xs ∧ t.1 = rgL xs) ∧ (∃ t, t ∈ xs ∧ t.1 = rgH xs) := by
  obtain ⟨e1, e2⟩ := rg_yes h
  simp [rgOk] at h
  obtain ⟨t0, h0, g0⟩ := hdS_mem h.2
  obtain ⟨a1, a2, a3⟩ := loF_spec (hdS xs) xs
  obtain ⟨b1, b2, b3⟩ := hiF_spec (hdS xs) xs
  rw [← e1] at a1 a2 a3
  rw [← e2] at b1 b2 b3
  refine ⟨h.1, h.2, fun t ht => ⟨a2 t ht, b2 t ht⟩, ?_, ?_⟩
  · rcases a3 with a3 | a3
    · exact ⟨t0, h0, by omega⟩
    · exact a3
  · rcases b3 with b3 | b3
    · exact ⟨t0, h0, by omega⟩
    · exact b3
end Go.Proofs.YtjodcaeohkjlnaaDoor
