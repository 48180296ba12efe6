/-
  No stem has fewer changes than the one of the nearest manuscripts: one step of a move.
-/
import Derived.Test.YtbeiedaldinhaaaDoorBk
import Derived.Test.YtbeiedaldinhaaaDoorStm
namespace Go.Proofs.YtbeiedaldinhaaaDoor
open Go.RowKit
set_option maxRecDepth 100000
set_option linter.unusedVariables false

theorem near_ge (ss : List ByteArray) (i : Nat) : ∀ k j, j < k → fr (bka ss i) (bka ss (near ss i k)) ≤ fr (bka ss i) (bka ss j)
  | 0, j, h => by omega
  | k + 1, j, h => by
    by_cases h1 : fr (bka ss i) (bka ss k) < fr (bka ss i) (bka ss (near ss i k))
    · rw [near_more h1]
      by_cases hj : j = k
      · subst hj; exact Nat.le_refl _
      · have := near_ge ss i k j (by omega); omega
    · rw [near_same h1]
      by_cases hj : j = k
      · subst hj; omega
      · exact near_ge ss i k j (by omega)
theorem near_first (ss : List ByteArray) (i : Nat) : ∀ k j, j < near ss i k → fr (bka ss i) (bka ss (near ss i k)) < fr (bka ss i) (bka ss j)
  | 0, j, h => by simp [near] at h
  | k + 1, j, h => by
    by_cases h1 : fr (bka ss i) (bka ss k) < fr (bka ss i) (bka ss (near ss i k))
    · rw [near_more h1] at h ⊢
      have := near_ge ss i k j h
      omega
    · rw [near_same h1] at h ⊢
      exact near_first ss i k j h
theorem sbk_zero (ss : List ByteArray) : ∀ n, (sbk ss n).getD 0 0 = -1
  | 0 => rfl
  | n + 1 => by
    have := sbk_zero ss n
    have hl := sbk_len ss n
    rw [List.getD_eq_getElem?_getD] at this ⊢
    rw [sbk, List.getElem?_append_left (by omega)]
    exact this
theorem sbk_get (ss : List ByteArray) : ∀ n i, 0 < i → i ≤ n → (sbk ss n).getD i 0 = (near ss i i : Int)
  | 0, i, h0, h => by omega
  | n + 1, i, h0, h => by
    have hl := sbk_len ss n
    rw [List.getD_eq_getElem?_getD, sbk]
    by_cases hi : i = n + 1
    · subst hi
      rw [List.getElem?_append_right (by omega), hl]
      simp
    · rw [List.getElem?_append_left (by omega)]
      have := sbk_get ss n i h0 (by omega)
      rw [List.getD_eq_getElem?_getD] at this
      exact this
theorem getD_set {st : List Int} {i j : Nat} {x : Int} (hi : i < st.length) : (st.set i x).getD j 0 = if j = i then x else st.getD j 0 := by
  rw [List.getD_eq_getElem?_getD, List.getD_eq_getElem?_getD, List.getElem?_set]
  by_cases h : j = i
  · subst h; simp [hi]
  · rw [if_neg (fun e => h e.symm), if_neg h]
theorem svl_set {ss : List ByteArray} {st : List Int} {i k : Nat} (h : svl ss st = true) (h0 : 0 < i) (hi : i < st.length) (hk : k < i) : svl ss (st.set i (k : Int)) = true := by
  obtain ⟨h1, h2, h3, h4, h5⟩ := svl_in h
  refine svl_yes h1 h2 (by simpa using h3) ?_ ?_
  · rw [getD_set hi, if_neg (by omega)]; exact h4
  · intro j hj hj0
    rw [List.length_set] at hj
    rw [getD_set hi]
    by_cases e : j = i
    · subst e; rw [if_pos rfl]; omega
    · rw [if_neg e]; exact h5 j hj hj0
theorem svl_sbst {ss : List ByteArray} (hv : bval ss = true) : svl ss (sbst ss) = true := by
  have hin := bkIn_parts (bval_in hv).1
  have hb : bkOk ss = true ∧ bkL ss = 0 := by
    unfold bval at hv
    rw [Bool.and_eq_true, decide_eq_true_eq] at hv
    exact hv
  rw [sbst_yes hv]
  refine svl_yes hb.1 (by rw [hb.2]; omega) (by rw [sbk_len]; omega) (sbk_zero _ _) ?_
  intro i hi h0
  rw [sbk_len] at hi
  rw [sbk_get ss _ i h0 (by omega)]
  have := near_lt ss i i
  omega
theorem chgk_lo {rds : Nat → ByteArray} {st : List Int} {i : Nat} {x : Int} (hi : i < st.length) : ∀ n, n ≤ i → chgk rds (st.set i x) n = chgk rds st n
  | 0, _ => rfl
  | n + 1, h => by
    have ih := chgk_lo (rds := rds) (x := x) hi n (by omega)
    rw [chgk, chgk, ih, getD_set hi, if_neg (show ¬ n = i by omega)]
theorem chgk_set {rds : Nat → ByteArray} {st : List Int} {i : Nat} {x : Int} (h0 : 0 < i) (hi : i < st.length) : ∀ n, i < n → chgk rds (st.set i x) n + fr (rds i) (rds (st.getD i 0).toNat) = chgk rds st n + fr (rds i) (rds x.toNat)
  | 0, h => by omega
  | n + 1, h => by
    by_cases e : n = i
    · subst e
      have := chgk_lo (rds := rds) (x := x) hi n (Nat.le_refl _)
      rw [chgk_next _ _ (by omega), chgk_next _ _ (by omega), this, getD_set hi, if_pos rfl]
      omega
    · have ih := chgk_set (rds := rds) (x := x) h0 hi n (by omega)
      rw [chgk_next _ _ (by omega), chgk_next _ _ (by omega), getD_set hi, if_neg e]
      omega
/-- what one move of the best stem does -/
theorem best_step {ss : List ByteArray} (hv : bval ss = true) {i k : Nat} (h0 : 0 < i) (hi : i < ss.length) (hk : k < i) :
    mvOk ss (sbst ss) i k = true ∧ sch ss (sbst ss) ≤ sch ss (smv ss (sbst ss) i k) ∧ (sch ss (smv ss (sbst ss) i k) = sch ss (sbst ss) → (sbst ss).getD i 0 ≤ k) := by
  have hs := svl_sbst hv
  obtain ⟨_, _, hl, _, _⟩ := svl_in hs
  have hi' : i < (sbst ss).length := by omega
  obtain ⟨h1, h2⟩ := mv_yes hs hi' hk
  refine ⟨h1, ?_⟩
  rw [h2, sch_yes (svl_set hs h0 hi' hk) hv, sch_yes hs hv, List.length_set]
  have hc := chgk_set (rds := bka ss) (x := (k : Int)) h0 hi' _ hi'
  have hg : (sbst ss).getD i 0 = (near ss i i : Int) := by rw [sbst_yes hv]; exact sbk_get ss _ i h0 (by omega)
  rw [hg, Int.toNat_natCast, Int.toNat_natCast] at hc
  rw [hg]
  have hge := near_ge ss i i k hk
  refine ⟨by omega, fun e => ?_⟩
  rcases Nat.lt_or_ge k (near ss i i) with h | h
  · have := near_first ss i i k h
    omega
  · omega
theorem sch_best_pos {ss : List ByteArray} (hv : bval ss = true) : 0 ≤ sch ss (sbst ss) := by
  rw [sch_yes (svl_sbst hv) hv]; omega
theorem sbst_get {ss : List ByteArray} (hv : bval ss = true) : (sbst ss).length = ss.length := (svl_in (svl_sbst hv)).2.2.1
end Go.Proofs.YtbeiedaldinhaaaDoor
