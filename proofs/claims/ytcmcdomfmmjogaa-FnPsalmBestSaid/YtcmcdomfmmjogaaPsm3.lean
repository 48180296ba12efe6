/-
  Weak verses, longer verses, and what psalm tones tell of them: plain mathematics.
-/
import Derived.Test.YtcmcdomfmmjogaaPsm2
namespace Go.Proofs.Ytcmcdomfmmjogaa
set_option maxRecDepth 100000
set_option linter.unusedVariables false

theorem ace_le (l : List UInt8) (k : Nat) : ace l k ≤ k := by
  unfold ace
  refine Nat.le_trans List.count_le_length ?_
  rw [List.length_drop]; omega
theorem count_drop_le (l : List UInt8) : ∀ n, (l.drop n).count 47 ≤ l.count 47 := fun n => (List.drop_sublist n l).count_le 47
theorem ace_le2 (l : List UInt8) (k : Nat) : ace l k ≤ l.count 47 := count_drop_le l _
theorem acc_count (l : List UInt8) : (acc l l.length).length = l.count 47 := by
  unfold acc
  rw [List.length_map]
  have h := cnt_drop l 0 l.length (Nat.le_refl _)
  have e : (fun i : Nat => decide (0 ≤ i) && (l.getD i 0 == 47)) = fun i : Nat => (l.getD i 0 == 47) := funext fun i => by simp
  rw [e] at h
  rw [h, List.take_length, List.drop_zero]
theorem vacc_count (s : ByteArray) : (vacc s).length = (vFst s).data.toList.count 47 + (vSnd s).data.toList.count 47 := by
  have e : (vall s).size = (vall s).data.toList.length := by simp
  unfold vacc
  rw [e, acc_count]
  unfold vall
  have e2 : (vFst s ++ vSnd s).data.toList = (vFst s).data.toList ++ (vSnd s).data.toList := by
    obtain ⟨⟨x⟩⟩ := vFst s
    obtain ⟨⟨y⟩⟩ := vSnd s
    simp [ByteArray.mk_append_mk]
  rw [e2, List.count_append]
theorem psA_le {p : Psa} {s : ByteArray} (h : pfit p s = true) : psA p s ≤ ((vacc s).length : Int) ∧ psA p s ≤ (p.mi.length : Int) + (p.en.length : Int) ∧ 0 ≤ psA p s := by
  rw [psA_yes h, vacc_count]
  have a1 := ace_le (vFst s).data.toList p.mi.length
  have a2 := ace_le (vSnd s).data.toList p.en.length
  have b1 := ace_le2 (vFst s).data.toList p.mi.length
  have b2 := ace_le2 (vSnd s).data.toList p.en.length
  omega
/-- a text cut at its bar -/
theorem vA_app {l : List UInt8} (h : ∀ c ∈ l, c ≠ 124) (m : List UInt8) : vA (l ++ 124 :: m) = l ∧ vB (l ++ 124 :: m) = m := by
  induction l with
  | nil => simp [vA, vB]
  | cons c l ih =>
    have hc : c ≠ 124 := h c List.mem_cons_self
    obtain ⟨i1, i2⟩ := ih (fun c hc => h c (List.mem_cons_of_mem _ hc))
    rw [List.cons_append]
    simp [vA, vB, hc, i1, i2]
theorem hvl_all {l : List UInt8} (h : hvl l = true) : l.all vsy = true ∧ l ≠ [] := by
  unfold hvl at h
  rw [Bool.and_eq_true] at h
  refine ⟨h.1, ?_⟩
  rintro rfl
  exact absurd h.2 (by simp)
theorem vsy_ne {c : UInt8} (h : vsy c = true) : c ≠ 124 := by rintro rfl; exact absurd h (by decide)
theorem hvl_ne {l : List UInt8} (h : hvl l = true) : ∀ c ∈ l, c ≠ 124 := fun c hc => vsy_ne (List.all_eq_true.1 (hvl_all h).1 c hc)
/-- two halves put together are a verse -/
theorem two_halves {a b : List UInt8} (ha : hvl a = true) (hb : hvl b = true) (hl : a.length + b.length ≤ 20) : vvl (a ++ 124 :: b) = true ∧ vA (a ++ 124 :: b) = a ∧ vB (a ++ 124 :: b) = b := by
  obtain ⟨e1, e2⟩ := vA_app (hvl_ne ha) b
  refine ⟨?_, e1, e2⟩
  unfold vvl
  rw [e1, e2, ha, hb]
  simpa using hl
/-- weak syllables -/
def wk (k : Nat) : ByteArray := ⟨(List.replicate k (120 : UInt8)).toArray⟩
def wk2 (k j : Nat) : ByteArray := ⟨(List.replicate k (120 : UInt8) ++ 124 :: List.replicate j (120 : UInt8)).toArray⟩
theorem wk_succ (k : Nat) : wk k ++ ⟨#[120]⟩ = wk (k + 1) := by
  unfold wk
  rw [ByteArray.mk_append_mk, List.replicate_succ']
  try simp
theorem wk_bar (k : Nat) : wk k ++ ⟨#[124]⟩ = wk2 k 0 := by
  unfold wk wk2
  rw [ByteArray.mk_append_mk]
  simp
theorem wk2_succ (k j : Nat) : wk2 k j ++ ⟨#[120]⟩ = wk2 k (j + 1) := by
  unfold wk2
  rw [ByteArray.mk_append_mk, List.replicate_succ']
  simp
theorem wk_size (k : Nat) : (wk k).size = k := by unfold wk; show (List.replicate k (120 : UInt8)).toArray.size = k; simp
theorem wk2_size (k j : Nat) : (wk2 k j).size = k + 1 + j := by unfold wk2; show (List.replicate k (120 : UInt8) ++ 124 :: List.replicate j (120 : UInt8)).toArray.size = _; simp; omega
theorem hvl_weak {k : Nat} (h : 0 < k) : hvl (List.replicate k (120 : UInt8)) = true := by
  refine hvl_yes ?_ ?_
  · rw [List.all_eq_true]
    intro c hc
    rw [List.eq_of_mem_replicate hc]
    decide
  · intro e
    have := congrArg List.length e
    simp at this
    omega
theorem ace_weak (k n : Nat) : ace (List.replicate k (120 : UInt8)) n = 0 := by
  have h := ace_le2 (List.replicate k (120 : UInt8)) n
  have h2 : (List.replicate k (120 : UInt8)).count 47 = 0 := by
    rw [List.count_eq_zero]
    intro hm
    exact absurd (List.eq_of_mem_replicate hm) (by decide)
  omega
theorem psA_weak {p : Psa} {s : ByteArray} (h : pfit p s = true) : psA p (wk2 (vFst s).size (vSnd s).size) = 0 := by
  obtain ⟨h1, h2, h3, h4⟩ := pfit_in h
  obtain ⟨v1, v2, v3, _⟩ := vvl_in h2
  obtain ⟨e1, e2⟩ := vFst_yes h2
  have s1 : (vFst s).size = (vA s.data.toList).length := by rw [e1, mk_size]
  have s2 : (vSnd s).size = (vB s.data.toList).length := by rw [e2, mk_size]
  have n1 : 0 < (vFst s).size := by rw [s1]; exact List.length_pos_iff.2 (hvl_all v1).2
  have n2 : 0 < (vSnd s).size := by rw [s2]; exact List.length_pos_iff.2 (hvl_all v2).2
  generalize (vFst s).size = X at *
  generalize (vSnd s).size = Y at *
  obtain ⟨w1, w2, w3⟩ := two_halves (hvl_weak n1) (hvl_weak n2) (by simp; omega)
  have w1' : vvl (wk2 X Y).data.toList = true := w1
  obtain ⟨f1, f2⟩ := vFst_yes w1'
  have g1 : vFst (wk2 X Y) = wk X := by rw [f1]; show (⟨(vA (List.replicate X (120 : UInt8) ++ 124 :: List.replicate Y (120 : UInt8))).toArray⟩ : ByteArray) = _; rw [w2]; rfl
  have g2 : vSnd (wk2 X Y) = wk Y := by rw [f2]; show (⟨(vB (List.replicate X (120 : UInt8) ++ 124 :: List.replicate Y (120 : UInt8))).toArray⟩ : ByteArray) = _; rw [w3]; rfl
  have hf : pfit p (wk2 X Y) = true := pfit_yes h1 w1' (by rw [g1, wk_size]; exact h3) (by rw [g2, wk_size]; exact h4)
  rw [psA_yes hf, g1, g2]
  show ((ace (List.replicate X (120 : UInt8)) _ + ace (List.replicate Y (120 : UInt8)) _ : Nat) : Int) = 0
  rw [ace_weak, ace_weak]
  rfl
end Go.Proofs.Ytcmcdomfmmjogaa
