/-
  The contour of a melody moved and turned round: plain mathematics.
-/
import Derived.Test.YtkjimilapgkajabDoorMma
import Derived.Test.YtkjimilapgkajabDoorSco
import Derived.Test.YtkjimilapgkajabDoorCt
namespace Go.Proofs.YtkjimilapgkajabDoor
set_option maxRecDepth 100000
set_option linter.unusedVariables false

theorem wyc_way (a b : Int) : wayb (wyc a b) = true := by
  unfold wyc
  split
  · rfl
  · split <;> rfl
theorem wyc_tnb (a b : Int) : tnb (wyc a b) = wyc b a := by
  unfold wyc
  by_cases h : a < b
  · rw [if_pos h, if_neg (by omega), if_pos h]; decide
  · by_cases h2 : b < a
    · rw [if_neg h, if_pos h2, if_pos h2]; decide
    · rw [if_neg h, if_neg h2, if_neg h2, if_neg h]; decide
theorem wyc_add (a b k : Int) : wyc (a + k) (b + k) = wyc a b := by
  unfold wyc
  simp only [Int.add_lt_add_iff_right]
theorem ctO_list {xs : List (Int × Bool)} (h : mv xs = true) : (ctO xs).data.toList = ctw xs (xs.length - 1) := by rw [ctO_yes h]
theorem ctO_size {xs : List (Int × Bool)} (h : mv xs = true) : (ctO xs).size = xs.length - 1 := by
  rw [ctO_yes h]
  show (ctw xs (xs.length - 1)).toArray.size = _
  simp [ctw]
theorem ctO_cv {xs : List (Int × Bool)} (h : mv xs = true) : cv (ctO xs) = true := by
  unfold cv
  rw [ctO_list h, ctO_size h]
  have := mv_len h
  rw [Bool.and_eq_true]
  refine ⟨decide_eq_true (by omega), List.all_eq_true.2 fun c hc => ?_⟩
  unfold ctw at hc
  obtain ⟨i, _, rfl⟩ := List.mem_map.1 hc
  exact wyc_way _ _
theorem ctO_moved {xs : List (Int × Bool)} {k : Int} (h : mmB k xs = true) : ctO (mmL k xs) = ctO xs := by
  obtain ⟨z, hM⟩ := mm_mvd h
  rw [ctO_yes hM.vy, ctO_yes hM.vx, ← hM.len]
  congr 2
  unfold ctw
  refine List.map_congr_left fun i hi => ?_
  have hi := List.mem_range.1 hi
  rw [(hM.at_ i (by omega)).1, (hM.at_ (i + 1) (by omega)).1, wyc_add]
theorem ctw_back (xs : List (Int × Bool)) : ctw xs.reverse (xs.length - 1) = ((ctw xs (xs.length - 1)).map tnb).reverse := by
  refine List.ext_getElem (by simp [ctw]) fun i h1 h2 => ?_
  have hi : i < xs.length - 1 := by simpa [ctw] using h1
  have e : ∀ (l : List (Int × Bool)) (j : Nat) (h : j < (ctw l (xs.length - 1)).length), (ctw l (xs.length - 1))[j] = wyc (l.getD j (0, false)).1 (l.getD (j + 1) (0, false)).1 := fun l j h => by simp [ctw]
  simp only [List.getElem_reverse, List.getElem_map, e, wyc_tnb, List.length_map, ctw_len]
  rw [rvd_at (xs := xs) (i := i) (j := xs.length - 1 - i) (by omega), rvd_at (xs := xs) (i := i + 1) (j := xs.length - 2 - i) (by omega)]
  have q1 : xs.length - 1 - i = xs.length - 1 - 1 - i + 1 := by omega
  have q2 : xs.length - 2 - i = xs.length - 1 - 1 - i := by omega
  rw [q1, q2]
theorem ctO_back {xs : List (Int × Bool)} (h : mv xs = true) : ctO (mvl xs).reverse = ctB (ctO xs) := by
  rw [mvl_yes h, ctO_yes (mv_rvd h), ctB_yes (ctO_cv h), ctO_list h, List.length_reverse, ctw_back]
theorem ctO_nil {xs : List (Int × Bool)} (h : ctO xs ≠ ⟨#[]⟩) : mv xs = true ∧ 2 ≤ xs.length := by
  cases hm : mv xs
  · exact absurd (ctO_no hm) h
  · refine ⟨rfl, ?_⟩
    by_cases hl : 2 ≤ xs.length
    · exact hl
    · exact absurd (by rw [ctO_yes hm, show xs.length - 1 = 0 by omega]; rfl) h
end Go.Proofs.YtkjimilapgkajabDoor
