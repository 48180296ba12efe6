/-
  What is promised of the modes of beats (mathematics).
-/
import Derived.Test.YthmkjdmjhngpjaaRhm
namespace Go.Proofs.Ythmkjdmjhngpjaa
set_option maxRecDepth 100000
set_option linter.unusedVariables false

def rmChk (m : Int) (n : Nat) : Bool :=
  let ys := rmds (oLst m n) 6
  ys.all (fun q => oOk q n && (oLst q n == oLst m n)) && ((List.range ys.length).all (fun i => i == 0 || decide (ys.getD (i - 1) 0 < ys.getD i 0)) && (if n < 3 then decide (ys.length ≤ 3) else ys.length == 1))
theorem rmChk_all : ∀ a : Nat, a < 6 → ∀ b : Nat, b < 12 → rmChk ((a : Int) + 1) (b + 1) = true := by decide +kernel
theorem rmds_mem {zs : List Int} : ∀ k, rmds zs k ≠ [] → ∃ j : Nat, j < k ∧ oOk ((j : Int) + 1) zs.length = true ∧ oLst ((j : Int) + 1) zs.length = zs
  | 0, h => absurd rfl h
  | k + 1, h => by
    by_cases hc : (oOk ((k : Int) + 1) zs.length && (oLst ((k : Int) + 1) zs.length == zs)) = true
    · rw [Bool.and_eq_true, beq_iff_eq] at hc
      exact ⟨k, by omega, hc.1, hc.2⟩
    · simp only [rmds] at h
      rw [if_neg hc] at h
      obtain ⟨j, h1, h2⟩ := rmds_mem k h
      exact ⟨j, by omega, h2⟩
/-- what holds of the modes of a list of beats, if there are any -/
theorem rm_facts {zs : List Int} (h : rmds zs 6 ≠ []) :
    (∀ i, i < (rmds zs 6).length → oOk ((rmds zs 6).getD i 0) zs.length = true ∧ oLst ((rmds zs 6).getD i 0) zs.length = zs) ∧
    (∀ i, i + 1 < (rmds zs 6).length → (rmds zs 6).getD i 0 < (rmds zs 6).getD (i + 1) 0) ∧ (if zs.length < 3 then (rmds zs 6).length ≤ 3 else (rmds zs 6).length = 1) := by
  obtain ⟨j, hj, ho, he⟩ := rmds_mem 6 h
  have hn := (oOk_in ho).2
  have hc := rmChk_all j hj (zs.length - 1) (by omega)
  rw [show zs.length - 1 + 1 = zs.length by omega] at hc
  unfold rmChk at hc
  rw [he] at hc
  simp only [Bool.and_eq_true, List.all_eq_true, List.mem_range, Bool.or_eq_true, beq_iff_eq, decide_eq_true_eq] at hc
  obtain ⟨h1, h2, h3⟩ := hc
  refine ⟨fun i hi => ?_, fun i hi => ?_, ?_⟩
  · have := h1 ((rmds zs 6).getD i 0) (by rw [List.getD_eq_getElem?_getD, List.getElem?_eq_getElem hi]; exact List.getElem_mem hi)
    exact this
  · rcases h2 (i + 1) hi with h | h
    · omega
    · exact h
  · by_cases h4 : zs.length < 3
    · rw [if_pos h4] at h3 ⊢
      simpa using h3
    · rw [if_neg h4] at h3 ⊢
      simpa using h3
end Go.Proofs.Ythmkjdmjhngpjaa
