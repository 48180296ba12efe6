/-
  The text of the letters that most have is nearest to all manuscripts together. No program stands in it.
-/
import Derived.Test.YthhndlefafcdeaaDoorBm7
namespace Go.Proofs.YthhndlefafcdeaaDoor
set_option maxRecDepth 100000
set_option linter.unusedVariables false

/-- how many of the first k have something else at a place -/
def ms (ss : List ByteArray) (x : Option UInt8) (p : Nat) : Nat → Nat
  | 0 => 0
  | k + 1 => ms ss x p k + if (bka ss k).data.toList[p]? = x then 0 else 1
/-- how far the first k are from a text, at its first p places -/
def dsum (ss : List ByteArray) (t : ByteArray) (p : Nat) : Nat → Nat
  | 0 => 0
  | k + 1 => dsum ss t p k + frk (bka ss k) t p
theorem dsum_zero (ss : List ByteArray) (t : ByteArray) : ∀ k, dsum ss t 0 k = 0
  | 0 => rfl
  | k + 1 => by rw [dsum, dsum_zero ss t k]; rfl
theorem dsum_next (ss : List ByteArray) (t : ByteArray) (p : Nat) : ∀ k, dsum ss t (p + 1) k = dsum ss t p k + ms ss (t.data.toList[p]?) p k
  | 0 => rfl
  | k + 1 => by
    rw [dsum, dsum, ms, dsum_next ss t p k]
    rw [show frk (bka ss k) t (p + 1) = frk (bka ss k) t p + (if (bka ss k).data.toList[p]? = t.data.toList[p]? then 0 else 1) from rfl]
    omega
theorem ms_cnk (ss : List ByteArray) (p c : Nat) : ∀ k, k ≤ ss.length → ms ss (some (l4 c)) p k + cnk ss p c k = k
  | 0, _ => by simp [ms, cnk]
  | k + 1, h => by
    have ih := ms_cnk ss p c k (by omega)
    obtain ⟨s, hs⟩ : ∃ s, ss[k]? = some s := ⟨ss[k], List.getElem?_eq_getElem (by omega)⟩
    have e : cnk ss p c (k + 1) = cnk ss p c k + if s.data.toList[p]? = some (l4 c) then 1 else 0 := by
      unfold cnk
      rw [List.take_add_one, hs, List.countP_append, Option.toList_some, List.countP_cons, List.countP_nil]
      by_cases h1 : s.data.toList[p]? = some (l4 c)
      · rw [if_pos h1, h1]; simp
      · rw [if_neg h1]
        have : (s.data.toList[p]? == some (l4 c)) = false := by rw [beq_eq_false_iff_ne]; exact h1
        rw [this]; simp
    rw [e, ms, bka_get hs]
    split <;> omega
theorem bst_cnt (ss : List ByteArray) (p : Nat) : ∀ c, 0 < (bst ss p c).2 → (bst ss p c).2 = cnt ss p (bst ss p c).1
  | 0, h => by simp [bst] at h
  | c + 1, h => by
    by_cases h1 : (bst ss p c).2 < cnt ss p c
    · rw [bst_more h1]
    · rw [bst_same h1] at h ⊢
      exact bst_cnt ss p c h
theorem bcom_get {ss : List ByteArray} {p : Nat} (hv : bval ss = true) (hp : p < plc ss) : (bcom ss).data.toList[p]? = some (l4 (bst ss p 4).1) := by
  rw [bcom_yes hv]
  show (cmk ss (plc ss)).toArray.toList[p]? = _
  simp [cmk, hp, cml]
theorem bcom_size {ss : List ByteArray} (hv : bval ss = true) : (bcom ss).size = plc ss := by
  rw [bcom_yes hv]
  show (cmk ss (plc ss)).toArray.size = _
  simp [cmk]
theorem bka_letter {ss : List ByteArray} {i p : Nat} (hv : bval ss = true) (hi : i < ss.length) (hp : p < plc ss) : ∃ c, c < 4 ∧ (bka ss i).data.toList[p]? = some (l4 c) := by
  obtain ⟨s, hs⟩ : ∃ s, ss[i]? = some s := ⟨ss[i], List.getElem?_eq_getElem hi⟩
  obtain ⟨h1, h2⟩ := (bval_in hv).2 i s hs
  have hb := rd_byte h2 (by omega : p < s.size)
  refine ⟨s[p].toNat - 97, by omega, ?_⟩
  rw [bka_get hs, allp_get (by omega : p < s.size)]
  exact congrArg some (UInt8.toNat_inj.1 (by rw [l4_nat (by omega)]; omega))
theorem dsum_least {ss : List ByteArray} {i : Nat} (hv : bval ss = true) (hi : i < ss.length) : ∀ p, p ≤ plc ss → dsum ss (bcom ss) p ss.length ≤ dsum ss (bka ss i) p ss.length
  | 0, _ => by rw [dsum_zero, dsum_zero]; exact Nat.le_refl _
  | p + 1, h => by
    have ih := dsum_least hv hi p (by omega)
    obtain ⟨c, hc, e⟩ := bka_letter (i := i) (p := p) hv hi (by omega)
    rw [dsum_next, dsum_next, bcom_get hv (by omega), e]
    have h1 := ms_cnk ss p c ss.length (Nat.le_refl _)
    have h2 := ms_cnk ss p (bst ss p 4).1 ss.length (Nat.le_refl _)
    have h3 := bst_ge ss p 4 c hc
    have h4 := bst_cnt ss p 4 (bst_pos hv (by omega))
    unfold cnt at h3 h4
    omega
/-- how far one is from the first k -/
def osum (ss : List ByteArray) (i : Nat) : Nat → Nat
  | 0 => 0
  | k + 1 => osum ss i k + fr (bka ss i) (bka ss k)
theorem bka_size {ss : List ByteArray} {i : Nat} (hv : bval ss = true) (hi : i < ss.length) : (bka ss i).size = plc ss := by
  obtain ⟨s, hs⟩ : ∃ s, ss[i]? = some s := ⟨ss[i], List.getElem?_eq_getElem hi⟩
  rw [bka_get hs]
  exact ((bval_in hv).2 i s hs).1
theorem osum_dsum {ss : List ByteArray} {i : Nat} (hv : bval ss = true) (hi : i < ss.length) : ∀ k, osum ss i k = dsum ss (bka ss i) (plc ss) k
  | 0 => rfl
  | k + 1 => by
    rw [osum, dsum, osum_dsum hv hi k, frk_comm]
    unfold fr
    rw [bka_size hv hi]
theorem osum_least {ss : List ByteArray} {i : Nat} (hv : bval ss = true) (hi : i < ss.length) : dsum ss (bcom ss) (plc ss) ss.length ≤ osum ss i ss.length := by
  rw [osum_dsum hv hi]; exact dsum_least hv hi _ (Nat.le_refl _)
theorem dsum_self {ss : List ByteArray} {t : ByteArray} {p : Nat} : ∀ k, (∀ j, j < k → bka ss j = t) → dsum ss t p k = 0
  | 0, _ => rfl
  | k + 1, h => by rw [dsum, dsum_self k (fun j hj => h j (by omega)), h k (by omega), frk_self]
theorem dsum_one {ss : List ByteArray} {t : ByteArray} {p : Nat} : ∀ k j, j < k → frk (bka ss j) t p ≤ dsum ss t p k
  | 0, j, h => by omega
  | k + 1, j, h => by
    rw [dsum]
    by_cases e : j = k
    · subst e; omega
    · have := dsum_one (ss := ss) (t := t) (p := p) k j (by omega); omega
theorem dsum_le (ss : List ByteArray) (t : ByteArray) (p : Nat) : ∀ k, dsum ss t p k ≤ k * p
  | 0 => Nat.zero_le _
  | k + 1 => by
    have h1 := dsum_le ss t p k
    have h2 := frk_le (bka ss k) t p
    rw [dsum, Nat.succ_mul]
    omega
theorem dsum_small {ss : List ByteArray} (t : ByteArray) {k : Nat} (hv : bval ss = true) (hk : k ≤ 5) : dsum ss t (plc ss) k ≤ 40 := by
  have h1 := dsum_le ss t (plc ss) k
  have h2 := (bkIn_parts (bval_in hv).1).2.2.2
  have h3 : k * plc ss ≤ 5 * 8 := Nat.mul_le_mul hk h2
  omega
theorem osum_small {ss : List ByteArray} {i k : Nat} (hv : bval ss = true) (hi : i < ss.length) (hk : k ≤ 5) : osum ss i k ≤ 40 := by
  rw [osum_dsum hv hi]; exact dsum_small _ hv hk
/-- equal manuscripts: the text is theirs -/
theorem bcom_equal {ss : List ByteArray} (hv : bval ss = true) (h : ∀ j, j < ss.length → bka ss j = bka ss 0) : dsum ss (bcom ss) (plc ss) ss.length = 0 ∧ bcom ss = bka ss 0 := by
  have hn := (bkIn_parts (bval_in hv).1).1
  have h1 := dsum_least (i := 0) hv (by omega) (plc ss) (Nat.le_refl _)
  rw [dsum_self ss.length h] at h1
  refine ⟨by omega, ?_⟩
  have h2 := dsum_one (ss := ss) (t := bcom ss) (p := plc ss) ss.length 0 (by omega)
  have hs := bka_size (i := 0) hv (by omega)
  have hb := bcom_size hv
  exact (fr_zero (by omega) (by unfold fr; rw [hs]; omega)).symm
end Go.Proofs.YthhndlefafcdeaaDoor
