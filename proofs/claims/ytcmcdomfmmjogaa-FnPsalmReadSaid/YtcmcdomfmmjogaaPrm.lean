/-
  What PsalmRead's answer is: how it lies to the number of psalm tones, to a melody sung, and to one with a tone more.
-/
import Derived.Test.YtcmcdomfmmjogaaPsl6
namespace Go.Proofs.Ytcmcdomfmmjogaa
open Go.RowKit
set_option maxRecDepth 100000
set_option linter.unusedVariables false

theorem pR_top (ps : List Psa) (s : ByteArray) (xs : List (Int × Bool)) : pR ps s xs ≤ (ps.length : Int) ∧ -1 ≤ pR ps s xs := by
  cases h : vvl s.data.toList && (mv xs && ps.all pv) with
  | false => rw [pR_no h]; omega
  | true =>
    rw [pR_yes h]
    have : rdC s xs ps ≤ ps.length := List.length_filter_le _ _
    omega
theorem psL_size {p : Psa} {s : ByteArray} (h : pfit p s = true) : (psL p s).length = (vFst s).size + (vSnd s).size := by
  obtain ⟨_, _, h3, h4⟩ := pfit_in h
  rw [psL_yes h, List.length_append, sgH_len h3, sgH_len (by simpa using h4)]
theorem psL_one {p : Psa} {s : ByteArray} (h : pfit p s = true) : 0 < (psL p s).length := by
  obtain ⟨h1, _, h3, _⟩ := pfit_in h
  have h5 := (partV_in (pv_in h1).2.2.1).1
  rw [psL_size h]
  omega
/-- a melody that some psalm tone sings -/
theorem pR_some {ps : List Psa} {s : ByteArray} {xs : List (Int × Bool)} (h : 0 < pR ps s xs) : ∃ p, p ∈ ps ∧ pfit p s = true ∧ psL p s = xs := by
  cases hc : vvl s.data.toList && (mv xs && ps.all pv) with
  | false => rw [pR_no hc] at h; omega
  | true =>
    rw [pR_yes hc] at h
    have h1 : 0 < (ps.filter (rdQ s xs)).length := by unfold rdC at h; omega
    obtain ⟨p, hp⟩ := List.exists_mem_of_length_pos h1
    rw [List.mem_filter] at hp
    have h2 := hp.2
    unfold rdQ at h2
    rw [Bool.and_eq_true] at h2
    exact ⟨p, hp.1, h2.1, of_decide_eq_true h2.2⟩
/-- no psalm tone sings one with a tone more -/
theorem pR_more {ps : List Psa} {s : ByteArray} {xs : List (Int × Bool)} {t : Int × Bool} (h : 0 < pR ps s xs) (hm : mv (xs ++ [t]) = true) : pR ps s (xs ++ [t]) = 0 := by
  obtain ⟨p, hp, hf, rfl⟩ := pR_some h
  cases hc : vvl s.data.toList && (mv (psL p s) && ps.all pv) with
  | false => rw [pR_no hc] at h; omega
  | true =>
    rw [Bool.and_eq_true, Bool.and_eq_true] at hc
    rw [pR_yes (by rw [hc.1, hm, hc.2.2]; rfl)]
    have h0 : rdC s (psL p s ++ [t]) ps = 0 := by
      unfold rdC
      rw [List.length_eq_zero_iff, List.filter_eq_nil_iff]
      intro q hq hk
      unfold rdQ at hk
      rw [Bool.and_eq_true] at hk
      have e := congrArg List.length (of_decide_eq_true hk.2)
      rw [psL_size hk.1, List.length_append, psL_size hf] at e
      simp at e
    rw [h0]; rfl
/-- the melody of a psalm tone of the list is read by one at least -/
theorem pR_own {ps : List Psa} {s : ByteArray} {xs : List (Int × Bool)} {p : Psa} (h : 0 ≤ pR ps s xs) (hp : p ∈ ps) (hf : pfit p s = true) (hm : mv (psL p s) = true) : 1 ≤ pR ps s (psL p s) := by
  cases hc : vvl s.data.toList && (mv xs && ps.all pv) with
  | false => rw [pR_no hc] at h; omega
  | true =>
    rw [Bool.and_eq_true, Bool.and_eq_true] at hc
    rw [pR_yes (by rw [hc.1, hm, hc.2.2]; rfl)]
    have h1 : p ∈ ps.filter (rdQ s (psL p s)) := List.mem_filter.2 ⟨hp, by unfold rdQ; rw [hf]; simp⟩
    have h2 := List.length_pos_of_mem h1
    unfold rdC
    omega
end Go.Proofs.Ytcmcdomfmmjogaa
