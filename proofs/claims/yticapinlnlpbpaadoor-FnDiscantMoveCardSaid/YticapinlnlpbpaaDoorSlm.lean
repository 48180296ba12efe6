/-
  The slower part sounds alike; discant in opposite motion (mathematics).
-/
import Derived.Test.YticapinlnlpbpaaDoorVb
namespace Go.Proofs.YticapinlnlpbpaaDoor
set_option maxRecDepth 100000
set_option linter.unusedVariables false

theorem slow_snd {ys : List Vc} {x : Vc} (h : ys.all vok = true) (hx : vok x = true) : snd8 (slow ys x) = snd8 ys ++ List.replicate x.2.toNat x.1 := by
  rcases List.eq_nil_or_concat ys with rfl | ⟨zs, l, rfl⟩
  · rw [slow_nil, snd_cons, snd_nil, List.append_nil, List.nil_append]
  · rw [List.concat_eq_append] at h ⊢
    rw [List.all_append, Bool.and_eq_true] at h
    have hl : vok l = true := by simpa using h.2
    by_cases e : l.1 = x.1 ∧ l.2 + x.2 ≤ 3
    · rw [slow_yes e.1 e.2, snd_app, snd_app, snd_cons, snd_cons, snd_nil, List.append_nil, List.append_nil, List.append_assoc, ← e.1]
      have h1 := vok_in hl
      have h2 := vok_in hx
      simp only
      rw [show (l.2 + x.2).toNat = l.2.toNat + x.2.toNat by omega, List.replicate_append_replicate]
    · rw [slow_no e, snd_app (zs ++ [l]), snd_cons, snd_nil, List.append_nil]
theorem slw_snd {xs : List Vc} (h : xs.all vok = true) : snd8 (slw xs) = snd8 xs := by
  have key : ∀ k, snd8 (slw (xs.take k)) = snd8 (xs.take k) := fun k => by
    induction k with
    | zero => simp [slw, snd8]
    | succ k ih =>
      cases hx : xs[k]? with
      | none => rw [List.take_add_one, hx]; simpa using ih
      | some x => rw [slw_take hx, slow_snd (slw_ok h k) (all_get h hx), ih, snd_take hx]
  have := key xs.length
  rwa [List.take_length] at this
theorem slw_val {xs : List Vc} (h : pval xs = true) : pval (slw xs) = true ∧ bsm (slw xs) = bsm xs := by
  obtain ⟨h1, h2, h3⟩ := pval_in h
  have ho := slw_ok h1 xs.length
  have hl := slw_len xs xs.length
  rw [List.take_length] at ho hl
  have e : bsm (slw xs) = bsm xs := by rw [← snd_len ho, ← snd_len h1, slw_snd h1]
  exact ⟨pval_yes ho (by omega) (by omega), e⟩
theorem tog_sym (xs ys : List Vc) : tog xs ys = tog ys xs := by
  unfold tog
  cases pval xs <;> cases pval ys <;> simp
  rw [Bool.eq_iff_iff, beq_iff_eq, beq_iff_eq]
  exact eq_comm
theorem ctr_sym (ts us : List (Int × Bool)) : ctr ts us = ctr us ts := by
  funext k
  unfold ctr
  rw [Bool.or_comm, Bool.and_comm (decide (0 < chg8 ts k)), Bool.and_comm (decide (chg8 ts k < 0))]
theorem tog_len {xs ys : List Vc} (h : tog xs ys = true) : (snd8 xs).length = (snd8 ys).length := by
  obtain ⟨h1, h2, h3⟩ := tog_in h
  have := snd_len (pval_in h1).1
  have := snd_len (pval_in h2).1
  omega
theorem dct_yes {xs ys : List Vc} (h : tog xs ys = true) : dct xs ys = cnt (ctr (snd8 xs) (snd8 ys)) ((snd8 xs).length - 1) := by simp [dct, h]
theorem dct_no {xs ys : List Vc} (h : tog xs ys = false) : dct xs ys = -1 := by simp [dct, h]
theorem dct_sym {xs ys : List Vc} (h : tog xs ys = true) : dct ys xs = dct xs ys := by
  rw [dct_yes h, dct_yes (by rw [tog_sym]; exact h), ctr_sym, tog_len h]
theorem cnt_none {p : Nat → Bool} (h : ∀ k, p k = false) : ∀ n, cnt p n = 0
  | 0 => rfl
  | n + 1 => by rw [cnt_miss (h n), cnt_none h n]
theorem dct_self {xs ys : List Vc} (h : tog xs ys = true) : dct xs xs = 0 := by
  have h1 := (tog_in h).1
  rw [dct_yes (tog_yes h1 h1 rfl)]
  refine cnt_none (fun k => ?_) _
  unfold ctr
  rw [Bool.or_eq_false_iff, Bool.and_eq_false_iff, Bool.and_eq_false_iff]
  simp only [decide_eq_false_iff_not]
  omega
theorem dct_slow {xs ys : List Vc} (h : tog xs ys = true) : dct (psL xs) (psL ys) = dct xs ys := by
  obtain ⟨h1, h2, h3⟩ := tog_in h
  have a := slw_val h1
  have b := slw_val h2
  unfold psL
  rw [if_pos h1, if_pos h2, dct_yes h, dct_yes (tog_yes a.1 b.1 (by rw [a.2, b.2, h3])), slw_snd (pval_in h1).1, slw_snd (pval_in h2).1]
theorem dct_in {xs ys : List Vc} : -1 ≤ dct xs ys ∧ dct xs ys ≤ 24 := by
  unfold dct
  split
  · rename_i h
    have h1 := pval_in (tog_in h).1
    have h2 := snd_len h1.1
    have h3 := cnt_in (ctr (snd8 xs) (snd8 ys)) ((snd8 xs).length - 1)
    omega
  · omega
end Go.Proofs.YticapinlnlpbpaaDoor
