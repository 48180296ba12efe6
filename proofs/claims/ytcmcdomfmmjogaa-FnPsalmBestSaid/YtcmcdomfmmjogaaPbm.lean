/-
  What PsalmBest's answer is: the first of those with the most accents.
-/
import Derived.Test.YtcmcdomfmmjogaaPsl4
namespace Go.Proofs.Ytcmcdomfmmjogaa
open Go.RowKit
set_option maxRecDepth 100000
set_option linter.unusedVariables false

def bInv (s : ByteArray) (ps : List Psa) (k b : Nat) (m : Int) : Prop :=
  b ≤ k ∧ (∀ i p, i < k → ps[i]? = some p → psA p s ≤ m ∧ (psA p s = m → b ≤ i)) ∧ (m = -1 ∨ ∃ p, ps[b]? = some p ∧ psA p s = m)
theorem bG_inv (s : ByteArray) (ps : List Psa) : ∀ d k b m, ps.length - k = d → k ≤ ps.length → -1 ≤ m → bInv s ps k b m → bInv s ps ps.length (bG s (ps.drop k) k b m).1 (bG s (ps.drop k) k b m).2 := by
  intro d
  induction d with
  | zero =>
    intro k b m hd hk hm h
    have e : k = ps.length := by omega
    subst e
    rw [List.drop_length]
    exact h
  | succ d ih =>
    intro k b m hd hk hm h
    obtain ⟨p, hp⟩ := ps_get (ps := ps) (k := k) (by omega)
    obtain ⟨h1, h2, h3⟩ := h
    have H3 := Lib.hid h3
    clear h3
    rw [bG_step hp]
    by_cases hg : m < psA p s
    · rw [if_pos hg]
      refine ih (k + 1) k (psA p s) (by omega) (by omega) (by omega) ⟨by omega, fun i q hi hq => ?_, .inr ⟨p, hp, rfl⟩⟩
      by_cases e : i = k
      · subst e
        obtain rfl : p = q := Option.some.inj (hp.symm.trans hq)
        exact ⟨Int.le_refl _, fun _ => Nat.le_refl _⟩
      · have h4 := (h2 i q (by omega) hq).1
        exact ⟨by omega, fun e => absurd e (by omega)⟩
    · rw [if_neg hg]
      refine ih (k + 1) b m (by omega) (by omega) hm ⟨by omega, fun i q hi hq => ?_, H3.out⟩
      by_cases e : i = k
      · subst e
        obtain rfl : p = q := Option.some.inj (hp.symm.trans hq)
        exact ⟨Int.not_lt.1 hg, fun _ => h1⟩
      · exact h2 i q (by omega) hq
theorem pB_best {ps : List Psa} {s : ByteArray} (h : (pB ps s).2 = true) : ∃ p, ps[(pB ps s).1]? = some p ∧ pfit p s = true ∧ 0 ≤ psA p s ∧ ∀ i q, ps[i]? = some q → psA q s ≤ psA p s ∧ (psA q s = psA p s → (pB ps s).1 ≤ i) := by
  cases hc : vvl s.data.toList && ps.all pv with
  | false => rw [pB_no hc] at h; cases h
  | true =>
    rw [pB_yes hc] at h ⊢
    have h0 := bG_inv s ps ps.length 0 0 (-1) (by omega) (Nat.zero_le _) (by omega) ⟨Nat.le_refl _, fun i p hi => absurd hi (Nat.not_lt_zero _), .inl rfl⟩
    rw [List.drop_zero] at h0
    generalize bG s ps 0 0 (-1) = r at h h0 ⊢
    obtain ⟨b, m⟩ := r
    obtain ⟨_, h2, h3⟩ := h0
    have hm : 0 ≤ m := by simpa using h
    rcases h3 with h3 | ⟨p, hp, rfl⟩
    · have h3 : m = -1 := h3
      omega
    · refine ⟨p, hp, ?_, hm, fun i q hq => h2 i q (List.getElem?_eq_some_iff.1 hq).1 hq⟩
      cases hf : pfit p s with
      | true => rfl
      | false => have := psA_no hf; have hm : 0 ≤ psA p s := hm; omega
end Go.Proofs.Ytcmcdomfmmjogaa
