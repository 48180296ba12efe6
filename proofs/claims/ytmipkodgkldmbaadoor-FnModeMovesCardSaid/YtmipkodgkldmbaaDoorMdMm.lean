/-
  The moves of a melody to finals: plain mathematics.
-/
import Derived.Test.YtmipkodgkldmbaaDoorMdm
import Derived.Test.YtmipkodgkldmbaaDoorMma
namespace Go.Proofs.YtmipkodgkldmbaaDoor
open Go.RowKit
set_option maxRecDepth 100000
set_option linter.unusedVariables false

/-- is the melody moved by k in some mode? -/
def mmo (xs : List (Int × Bool)) (k : Int) : Bool := mmB k xs && !(allM (mmL k xs) 8).isEmpty
theorem allM_nil : allM [] 8 = [] := by decide
theorem mmL_no {k : Int} {xs : List (Int × Bool)} (h : mmB k xs = false) : mmL k xs = [] := by
  by_cases hm : mv xs = false
  · exact (mm_no1 hm).1
  rw [Bool.not_eq_false] at hm
  cases xs with
  | nil => rw [(mm_nil k).2] at h; cases h
  | cons t r =>
    have h' := h
    unfold mmB at h'
    rw [hm] at h'
    simp at h'
    exact (mm_miss hm h'.1 h'.2).1
theorem mmo_len (xs : List (Int × Bool)) (k : Int) : mmo xs k = decide ((0 : Int) < ((allM (mmL k xs) 8).length : Int)) := by
  cases h : mmB k xs
  · rw [mmL_no h, allM_nil]; simp [mmo, h]
  · simp only [mmo, h, Bool.true_and]
    cases hL : allM (mmL k xs) 8 with
    | nil => simp
    | cons a r => simp
theorem mmo_and (xs : List (Int × Bool)) (k : Int) (h : mmB k xs = true) : mmo xs k = decide ((0 : Int) < ((allM (mmL k xs) 8).length : Int)) := mmo_len xs k
theorem mm_lst {k : Int} {xs : List (Int × Bool)} (h : mmB k xs = true) (hl : 0 < xs.length) : (lst (mmL k xs)).1 = (lst xs).1 + k ∧ 0 ≤ (lst xs).1 ∧ (lst xs).1 ≤ 20 := by
  obtain ⟨_, _, _, _, _, _, f⟩ := mm_there_back h
  have e := mm_len h
  have := f (xs.length - 1) (by omega)
  unfold lst
  rw [e]
  exact ⟨this.1, this.2.2.1, this.2.2.2.1⟩
theorem mmo_in {xs : List (Int × Bool)} {k : Int} (h : mmo xs k = true) (hl : 0 < xs.length) : mmB k xs = true ∧ 4 ≤ (lst xs).1 + k ∧ (lst xs).1 + k ≤ 7 := by
  unfold mmo at h
  rw [Bool.and_eq_true] at h
  obtain ⟨h1, h2⟩ := h
  have e := (mm_lst h1 hl).1
  rcases hA : allM (mmL k xs) 8 with _ | ⟨j, r⟩
  · rw [hA] at h2; simp at h2
  · have hj : j ∈ allM (mmL k xs) 8 := by rw [hA]; exact List.mem_cons_self
    obtain ⟨a, b⟩ := inM_last (allM_mem hj).1
    have := md_in a
    exact ⟨h1, by omega, by omega⟩
theorem mmo_bad {xs : List (Int × Bool)} (h : rgOk xs = false) (k : Int) : mmo xs k = false := by
  have h' : mv xs = false ∨ xs = [] := by
    unfold rgOk at h
    cases hm : mv xs
    · exact .inl rfl
    · rw [hm] at h; right; simpa using h
  rcases h' with hm | rfl
  · simp [mmo, (mm_no1 hm).2]
  · rw [mmo_len, (mm_nil k).1, allM_nil]; rfl
theorem mmo_zero {xs : List (Int × Bool)} (h : mv xs = true) : mmB 0 xs = true := (Mvd.refl h).mm

/-- the moves that the program tries, the first n of them; those of the model -/
def mvsI (xs : List (Int × Bool)) (n : Nat) : List Int := ((List.range n).map (fun i : Nat => (i : Int) + 4 - (lst xs).1)).filter (mmo xs)
def mvsS (xs : List (Int × Bool)) (n : Nat) : List Int := ((List.range n).map (fun i : Nat => (i : Int) - 20)).filter (mmo xs)
def mvI (xs : List (Int × Bool)) : List Int := if rgOk xs then mvsI xs 4 else []
theorem mvsI_hit {xs : List (Int × Bool)} {n : Nat} (h : mmo xs ((n : Int) + 4 - (lst xs).1) = true) : mvsI xs (n + 1) = mvsI xs n ++ [(n : Int) + 4 - (lst xs).1] := by
  simp [mvsI, List.range_succ, List.filter_append, h]
theorem mvsI_miss {xs : List (Int × Bool)} {n : Nat} (h : mmo xs ((n : Int) + 4 - (lst xs).1) = false) : mvsI xs (n + 1) = mvsI xs n := by
  simp [mvsI, List.range_succ, List.filter_append, h]
theorem mvsS_hit {xs : List (Int × Bool)} {n : Nat} (h : mmo xs ((n : Int) - 20) = true) : mvsS xs (n + 1) = mvsS xs n ++ [(n : Int) - 20] := by
  simp [mvsS, List.range_succ, List.filter_append, h]
theorem mvsS_miss {xs : List (Int × Bool)} {n : Nat} (h : mmo xs ((n : Int) - 20) = false) : mvsS xs (n + 1) = mvsS xs n := by
  simp [mvsS, List.range_succ, List.filter_append, h]
theorem mvsI_len (xs : List (Int × Bool)) (n : Nat) : (mvsI xs n).length ≤ n := by
  unfold mvsI; exact Nat.le_trans (List.length_filter_le _ _) (by simp)
theorem mvsS_len (xs : List (Int × Bool)) (n : Nat) : (mvsS xs n).length ≤ n := by
  unfold mvsS; exact Nat.le_trans (List.length_filter_le _ _) (by simp)
theorem mvI_len (xs : List (Int × Bool)) : (mvI xs).length ≤ 4 := by
  unfold mvI; split
  · exact mvsI_len xs 4
  · simp
theorem mv_win (n : Nat) (h : n < 21) : ((List.range 41).map (fun i : Nat => (i : Int) - 20)).filter (fun k => decide (4 ≤ (n : Int) + k) && decide ((n : Int) + k ≤ 7)) = (List.range 4).map (fun i : Nat => (i : Int) + 4 - (n : Int)) := by
  have : ∀ n : Fin 21, ((List.range 41).map (fun i : Nat => (i : Int) - 20)).filter (fun k => decide (4 ≤ ((n.val : Nat) : Int) + k) && decide (((n.val : Nat) : Int) + k ≤ 7)) = (List.range 4).map (fun i : Nat => (i : Int) + 4 - ((n.val : Nat) : Int)) := by decide +kernel
  exact this ⟨n, h⟩
theorem filter_none {p : Int → Bool} {L : List Int} (h : ∀ k, p k = false) : L.filter p = [] := by
  rw [List.filter_eq_nil_iff]; intro a _; simp [h a]
theorem mvS_mvI (xs : List (Int × Bool)) : mvsS xs 41 = mvI xs := by
  cases h : rgOk xs
  · unfold mvI; rw [h]
    exact filter_none (mmo_bad h)
  · have hl := (rgOk_len h).1
    have hv : mv xs = true := by simp [rgOk] at h; exact h.1
    have hb := (mm_lst (mmo_zero hv) hl).2
    obtain ⟨n, hn⟩ := Int.eq_ofNat_of_zero_le hb.1
    unfold mvI mvsI mvsS
    rw [h, if_pos rfl, hn]
    have e : ∀ L : List Int, L.filter (mmo xs) = (L.filter (fun k => decide (4 ≤ (n : Int) + k) && decide ((n : Int) + k ≤ 7))).filter (mmo xs) := fun L => by
      rw [List.filter_filter]
      refine List.filter_congr fun k _ => ?_
      cases hk : mmo xs k
      · simp
      · have := (mmo_in hk hl).2
        rw [hn] at this
        have a1 : decide (4 ≤ (n : Int) + k) = true := decide_eq_true this.1
        have a2 : decide ((n : Int) + k ≤ 7) = true := decide_eq_true this.2
        rw [a1, a2]; rfl
    rw [e, mv_win n (by omega)]
theorem mvI_mem {xs : List (Int × Bool)} {k : Int} (h : k ∈ mvI xs) : rgOk xs = true ∧ mmo xs k = true ∧ mmB k xs = true ∧ 4 ≤ (lst xs).1 + k ∧ (lst xs).1 + k ≤ 7 ∧ (allM (mmL k xs) 8).length ≠ 0 := by
  unfold mvI at h
  cases hr : rgOk xs
  · rw [hr] at h; cases h
  · rw [hr, if_pos rfl] at h
    have hk := (List.mem_filter.1 h).2
    have := mmo_in hk (rgOk_len hr).1
    have hm := mmo_len xs k
    rw [hk] at hm
    have hm := of_decide_eq_true hm.symm
    exact ⟨rfl, hk, this.1, this.2.1, this.2.2, by omega⟩
theorem mvI_sorted (xs : List (Int × Bool)) : (mvI xs).Pairwise (· < ·) := by
  rw [← mvS_mvI]
  unfold mvsS
  refine List.Pairwise.filter _ (List.pairwise_map.2 ?_)
  refine List.Pairwise.imp (R := (· < ·)) (fun h => ?_) List.pairwise_lt_range
  omega
theorem mvI_zero {xs : List (Int × Bool)} (h : rgOk xs = true) : (mvI xs).contains 0 = mmo xs 0 := by
  rw [← mvS_mvI]
  cases hz : mmo xs 0
  · rw [Bool.eq_false_iff]
    intro hc
    rw [List.contains_iff_mem] at hc
    have := (List.mem_filter.1 hc).2
    rw [hz] at this; cases this
  · rw [List.contains_iff_mem]
    refine List.mem_filter.2 ⟨List.mem_map.2 ⟨20, by simp, by omega⟩, hz⟩
end Go.Proofs.YtmipkodgkldmbaaDoor
