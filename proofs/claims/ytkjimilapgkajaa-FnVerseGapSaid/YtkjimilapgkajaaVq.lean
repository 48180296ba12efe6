/-
  Facts of verses for the laws: plain mathematics.
-/
import Derived.Test.YtkjimilapgkajaaVx
import Derived.Test.YtkjimilapgkajaaVy
namespace Go.Proofs.Ytkjimilapgkajaa
set_option maxRecDepth 100000
set_option linter.unusedVariables false

theorem sy_nobar {l : List UInt8} (h : l.all vsy = true) : vBar l = false := by
  induction l with
  | nil => rfl
  | cons c l ih =>
    rw [List.all_cons, Bool.and_eq_true] at h
    have hc : c ≠ 124 := by
      intro e; subst e; exact absurd h.1 (by decide)
    unfold vBar
    rw [if_neg hc]
    exact ih h.2
theorem v_app {l r : List UInt8} (h : vBar l = false) : vA (l ++ 124 :: r) = l ∧ vB (l ++ 124 :: r) = r := by
  induction l with
  | nil => simp [vA, vB]
  | cons c l ih =>
    unfold vBar at h
    by_cases hc : c = 124
    · rw [if_pos hc] at h; cases h
    · rw [if_neg hc] at h
      have := ih h
      rw [List.cons_append]
      unfold vA vB
      rw [if_neg hc, if_neg hc, this.1, this.2]
      exact ⟨rfl, rfl⟩
theorem vq1 {s : ByteArray} (h : vvl s.data.toList = true) : vFst s ++ ⟨#[124]⟩ ++ vSnd s = s := by
  rw [(vFst_yes h).1, (vFst_yes h).2, ByteArray.mk_append_mk, ByteArray.mk_append_mk]
  have := vyes (vvl_in h).2.2.2
  obtain ⟨⟨d⟩⟩ := s
  congr 1
  show _ = Array.mk d
  have e : d = vA d ++ 124 :: vB d := this
  conv => rhs; rw [e]
  simp
theorem vq2 {s : ByteArray} (h : vvl s.data.toList = true) : vsyl (vSnd s ++ ⟨#[124]⟩ ++ vFst s) = vsyl s := by
  obtain ⟨h1, h2, h3, h4⟩ := vvl_in h
  have e : (vSnd s ++ ⟨#[124]⟩ ++ vFst s).data.toList = vB s.data.toList ++ 124 :: vA s.data.toList := by
    rw [(vFst_yes h).1, (vFst_yes h).2, ByteArray.mk_append_mk, ByteArray.mk_append_mk]
    simp
  obtain ⟨e1, e2⟩ := v_app (r := vA s.data.toList) (sy_nobar (hvl_in h2).1)
  have hv : vvl (vSnd s ++ ⟨#[124]⟩ ++ vFst s).data.toList = true := by
    rw [e]
    exact vvl_yes (by rw [e1]; exact h2) (by rw [e2]; exact h1) (by rw [e1, e2]; omega)
  rw [vsyl_yes hv, vsyl_yes h, e, e1, e2]
  omega
theorem vq3 {s : ByteArray} (h : vvl s.data.toList = true) : vvl (vFst s ++ vSnd s).data.toList = false := by
  obtain ⟨h1, h2, h3, h4⟩ := vvl_in h
  have e : (vFst s ++ vSnd s).data.toList = vA s.data.toList ++ vB s.data.toList := by
    rw [(vFst_yes h).1, (vFst_yes h).2, ByteArray.mk_append_mk]
    (try simp)
  rw [e]
  refine vvl_no0 (sy_nobar ?_)
  rw [List.all_append, (hvl_in h1).1, (hvl_in h2).1]; rfl

/-- the places found so far are the first of all -/
theorem acc_pre (l : List UInt8) (k d : Nat) : acc l k <+: acc l (k + d) := by
  induction d with
  | zero => exact List.prefix_refl _
  | succ d ih =>
    refine ih.trans ?_
    unfold acc
    rw [← Nat.add_assoc, List.range_succ, List.filter_append, List.map_append]
    exact List.prefix_append _ _
theorem acc_at {l : List UInt8} {k n : Nat} {c : UInt8} (hk : l[k]? = some c) (hc : c = 47) (hn : k < n) : (acc l k).length < (acc l n).length ∧ (acc l n).getD (acc l k).length 0 = (k : Int) ∧ (acc l (k + 1)).length = (acc l k).length + 1 := by
  have e := acc_hit hk hc
  have hp := acc_pre l (k + 1) (n - (k + 1))
  rw [show k + 1 + (n - (k + 1)) = n by omega, e] at hp
  obtain ⟨r, hr⟩ := hp
  rw [← hr, e]
  refine ⟨by (try simp); (try omega), ?_, by simp⟩
  rw [List.getD_eq_getElem?_getD, List.append_assoc, List.getElem?_append_right (Nat.le_refl _)]
  simp
/-- the last place -/
theorem acc_last (x : ByteArray) : ∀ k, k ≤ x.size → (acc x.data.toList k).getLast? = if Lib.lastIdx x 47 k = -1 then none else some (Lib.lastIdx x 47 k) := by
  intro k
  induction k with
  | zero => intro _; rfl
  | succ k ih =>
    intro hk
    have hx := at_list x k (by omega)
    by_cases hc : x[k].toNat = 47
    · rw [acc_hit hx (UInt8.toNat_inj.1 hc), lastIx_hit (by omega) hc, List.getLast?_append]
      rw [if_neg (by omega)]
      rfl
    · rw [acc_miss hx (fun e => hc (by rw [e]; rfl)), lastIx_miss (by omega) hc]
      exact ih (by omega)
theorem app_at_left {a b : ByteArray} {k : Nat} (h : k < a.size) : ∃ h2 : k < (a ++ b).size, (a ++ b)[k] = a[k] := by
  have h2 : k < (a ++ b).size := by rw [ByteArray.size_append]; omega
  refine ⟨h2, ?_⟩
  have e1 := at_list (a ++ b) k h2
  have e2 := at_list a k h
  rw [ByteArray.data_append, Array.toList_append, List.getElem?_append_left (by simpa using h), e2] at e1
  exact (Option.some.inj e1).symm
theorem app_at_right {a b : ByteArray} {k : Nat} (h : k < b.size) : ∃ h2 : a.size + k < (a ++ b).size, (a ++ b)[a.size + k] = b[k] := by
  have h2 : a.size + k < (a ++ b).size := by rw [ByteArray.size_append]; omega
  refine ⟨h2, ?_⟩
  have e1 := at_list (a ++ b) (a.size + k) h2
  have e2 := at_list b k h
  have hl : a.data.toList.length = a.size := by simp
  rw [ByteArray.data_append, Array.toList_append, List.getElem?_append_right (by rw [hl]; omega), hl, Nat.add_sub_cancel_left, e2] at e1
  exact (Option.some.inj e1).symm
theorem last_left (a b : ByteArray) : ∀ k, k ≤ a.size → Lib.lastIdx (a ++ b) 47 k = Lib.lastIdx a 47 k := by
  intro k
  induction k with
  | zero => intro _; rfl
  | succ k ih =>
    intro hk
    obtain ⟨h2, e⟩ := app_at_left (b := b) (show k < a.size by omega)
    by_cases hc : a[k].toNat = 47
    · rw [lastIx_hit h2 (by rw [e]; exact hc), lastIx_hit (by omega) hc]
    · rw [lastIx_miss h2 (by rw [e]; exact hc), lastIx_miss (by omega) hc, ih (by omega)]
theorem last_app (a b : ByteArray) : ∀ k, k ≤ b.size → Lib.lastIdx (a ++ b) 47 (a.size + k) = if Lib.lastIdx b 47 k = -1 then Lib.lastIdx a 47 a.size else (a.size : Int) + Lib.lastIdx b 47 k := by
  intro k
  induction k with
  | zero =>
    intro _
    rw [Nat.add_zero, last_left a b _ (Nat.le_refl _)]
    rfl
  | succ k ih =>
    intro hk
    obtain ⟨h2, e⟩ := app_at_right (a := a) (show k < b.size by omega)
    rw [← Nat.add_assoc]
    by_cases hc : b[k].toNat = 47
    · rw [lastIx_hit h2 (by rw [e]; exact hc), lastIx_hit (by omega) hc, if_neg (by omega)]
      omega
    · rw [lastIx_miss h2 (by rw [e]; exact hc), lastIx_miss (by omega) hc, ih (by omega)]
/-- where the last accent of two halves stands, seen from the second one's end -/
theorem acc_end (a b : ByteArray) {z : Int} (h : (acc (a ++ b).data.toList (a ++ b).size).getLast? = some z) :
    (z < (a.size : Int) ∧ enx b = (b.size : Int)) ∨ ((a.size : Int) ≤ z ∧ z < (a.size : Int) + (b.size : Int) ∧ enx b = (a.size : Int) + (b.size : Int) - 1 - z) := by
  rw [acc_last (a ++ b) _ (Nat.le_refl _)] at h
  have hsz : (a ++ b).size = a.size + b.size := ByteArray.size_append
  rw [hsz, last_app a b _ (Nat.le_refl _)] at h
  have he : enx b = (b.size : Int) - 1 - Lib.lastIdx b 47 b.size := rfl
  obtain ⟨b0, b1⟩ := lastIx_bd b 47 b.size
  obtain ⟨a0, a1⟩ := lastIx_bd a 47 a.size
  rw [he]
  by_cases hb : Lib.lastIdx b 47 b.size = -1
  · rw [if_pos hb] at h
    left
    split at h
    · cases h
    · have := Option.some.inj h
      omega
  · rw [if_neg hb] at h
    right
    split at h
    · cases h
    · have := Option.some.inj h
      omega
end Go.Proofs.Ytkjimilapgkajaa
