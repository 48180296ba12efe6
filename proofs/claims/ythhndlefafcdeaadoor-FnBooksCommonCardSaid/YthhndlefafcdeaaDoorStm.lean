/-
  Plain mathematics of stems. No program stands in it.
-/
import Derived.Test.YthhndlefafcdeaaDoorBk
namespace Go.Proofs.YthhndlefafcdeaaDoor

/-- each of the first k behind the first one was copied from an earlier one -/
def StTo (st : List Int) (k : Nat) : Prop := ∀ i, i < k → 0 < i → 0 ≤ st.getD i 0 ∧ st.getD i 0 < i
instance (st : List Int) (k : Nat) : Decidable (StTo st k) := by unfold StTo; infer_instance
/-- a stem of manuscripts, of which some can be lost -/
def svl (ss : List ByteArray) (st : List Int) : Bool :=
  bkOk ss && decide (bkL ss ≠ ss.length) && decide (st.length = ss.length) && decide (st.getD 0 0 = -1) && decide (StTo st st.length)
theorem svl_no1 {ss : List ByteArray} {st : List Int} (h : bkOk ss = false) : svl ss st = false := by unfold svl; rw [h]; rfl
theorem svl_no2 {ss : List ByteArray} {st : List Int} (h : bkL ss = ss.length) : svl ss st = false := by unfold svl; simp [h]
theorem svl_no3 {ss : List ByteArray} {st : List Int} (h : st.length ≠ ss.length) : svl ss st = false := by unfold svl; simp [h]
theorem svl_no4 {ss : List ByteArray} {st : List Int} (h : st.getD 0 0 ≠ -1) : svl ss st = false := by unfold svl; rw [decide_eq_false h]; simp
theorem svl_no5 {ss : List ByteArray} {st : List Int} {i : Nat} (hi : i < st.length) (h0 : 0 < i) (h : ¬ (0 ≤ st.getD i 0 ∧ st.getD i 0 < i)) : svl ss st = false := by
  unfold svl; rw [decide_eq_false (fun hh : StTo st st.length => h (hh i hi h0))]; simp
theorem svl_yes {ss : List ByteArray} {st : List Int} (h1 : bkOk ss = true) (h2 : bkL ss ≠ ss.length) (h3 : st.length = ss.length) (h4 : st.getD 0 0 = -1) (h5 : StTo st st.length) : svl ss st = true := by
  unfold svl; rw [h1, decide_eq_true h2, decide_eq_true h3, decide_eq_true h4, decide_eq_true h5]; rfl
theorem svl_in {ss : List ByteArray} {st : List Int} (h : svl ss st = true) : bkOk ss = true ∧ bkL ss ≠ ss.length ∧ st.length = ss.length ∧ st.getD 0 0 = -1 ∧ StTo st st.length := by
  unfold svl at h
  simp only [Bool.and_eq_true] at h
  obtain ⟨⟨⟨⟨h1, h2⟩, h3⟩, h4⟩, h5⟩ := h
  exact ⟨h1, of_decide_eq_true h2, of_decide_eq_true h3, of_decide_eq_true h4, of_decide_eq_true h5⟩
theorem StTo.one (st : List Int) : StTo st 1 := fun i h h0 => by omega
theorem StTo.next {st : List Int} {k : Nat} (h : StTo st k) (h1 : 0 ≤ st.getD k 0) (h2 : st.getD k 0 < k) : StTo st (k + 1) := fun i hi h0 => by
  by_cases e : i = k
  · subst e; exact ⟨h1, h2⟩
  · exact h i (by omega) h0

/-- those of the first n that were copied from i -/
def kids (st : List Int) (i n : Nat) : List Nat := (List.range n).filter fun k => decide (0 < k) && (st.getD k 0 == (i : Int))
theorem kids_yes {st : List Int} {i n : Nat} (h0 : 0 < n) (h : st.getD n 0 = (i : Int)) : kids st i (n + 1) = kids st i n ++ [n] := by
  unfold kids
  rw [List.range_succ, List.filter_append]
  congr 1
  rw [List.filter_cons_of_pos (by rw [decide_eq_true h0, h]; simp), List.filter_nil]
theorem kids_no {st : List Int} {i n : Nat} (h : st.getD n 0 ≠ (i : Int)) : kids st i (n + 1) = kids st i n := by
  unfold kids
  rw [List.range_succ, List.filter_append, List.filter_cons_of_neg (by simp only [Bool.and_eq_true, not_and, beq_iff_eq]; intro _; exact h), List.filter_nil, List.append_nil]
theorem kids_zero {st : List Int} {n : Nat} (i : Nat) (h : StTo st n) (hi : n ≤ i + 1) : kids st i n = [] := by
  unfold kids
  rw [List.filter_eq_nil_iff]
  intro k hk
  rw [List.mem_range] at hk
  simp only [Bool.and_eq_true, decide_eq_true_eq, beq_iff_eq, not_and]
  intro h0 e
  have := (h k hk h0).2
  omega
theorem kids_mem {st : List Int} {i n k : Nat} (h : k ∈ kids st i n) : k < n ∧ 0 < k ∧ st.getD k 0 = (i : Int) := by
  unfold kids at h
  rw [List.mem_filter, List.mem_range] at h
  simpa using h
theorem kids_len (st : List Int) (i n : Nat) : (kids st i n).length ≤ n := by
  unfold kids
  have := List.length_filter_le (fun k => decide (0 < k) && (st.getD k 0 == (i : Int))) (List.range n)
  rwa [List.length_range] at this

/-- how often a manuscript was copied from the first one on, in at most f steps -/
def dpf (st : List Int) : Nat → Nat → Nat
  | 0, _ => 0
  | f + 1, i => if i = 0 then 0 else dpf st f (st.getD i 0).toNat + 1
theorem dpf_zero (st : List Int) (f : Nat) : dpf st f 0 = 0 := by cases f <;> simp [dpf]
theorem dpf_next {st : List Int} {f i : Nat} (h : i ≠ 0) : dpf st (f + 1) i = dpf st f (st.getD i 0).toNat + 1 := by rw [dpf, if_neg h]
theorem dpf_le (st : List Int) : ∀ f i, dpf st f i ≤ f
  | 0, _ => Nat.le_refl _
  | f + 1, i => by
    by_cases h : i = 0
    · rw [h, dpf_zero]; omega
    · rw [dpf_next h]; have := dpf_le st f (st.getD i 0).toNat; omega
theorem dpf_fuel {st : List Int} {n : Nat} (h : StTo st n) : ∀ j f, j < n → j ≤ f → dpf st f j = dpf st j j := by
  intro j
  induction j using Nat.strongRecOn with
  | ind j ih =>
    intro f hj hf
    by_cases h0 : j = 0
    · subst h0; rw [dpf_zero]; rfl
    · obtain ⟨j', rfl⟩ : ∃ j', j = j' + 1 := ⟨j - 1, by omega⟩
      obtain ⟨f', rfl⟩ : ∃ f', f = f' + 1 := ⟨f - 1, by omega⟩
      have hs := h (j' + 1) hj (by omega)
      rw [dpf_next h0, dpf_next h0, ih _ (by omega) f' (by omega) (by omega), ih _ (by omega) j' (by omega) (by omega)]
theorem dpf_step {st : List Int} {n j : Nat} (h : StTo st n) (hj : j < n) (h0 : j ≠ 0) : dpf st j j = dpf st (st.getD j 0).toNat (st.getD j 0).toNat + 1 := by
  obtain ⟨j', rfl⟩ : ∃ j', j = j' + 1 := ⟨j - 1, by omega⟩
  have hs := h (j' + 1) hj (by omega)
  rw [dpf_next h0, dpf_fuel h _ j' (by omega) (by omega)]
/-- what StemDepth answers -/
def sdOk (ss : List ByteArray) (st : List Int) (i : Int) : Bool := svl ss st && decide (0 ≤ i) && decide (i < st.length)
def sdp (ss : List ByteArray) (st : List Int) (i : Int) : Int := if sdOk ss st i = true then (dpf st i.toNat i.toNat : Int) else -1
theorem sdp_no {ss : List ByteArray} {st : List Int} {i : Int} (h : sdOk ss st i = false) : sdp ss st i = -1 := by unfold sdp; rw [h]; rfl
theorem sdp_no0 {ss : List ByteArray} {st : List Int} {i : Int} (h : svl ss st = false) : sdp ss st i = -1 := sdp_no (by unfold sdOk; rw [h]; rfl)
theorem sdp_no1 {ss : List ByteArray} {st : List Int} {i : Int} (h : i < 0) : sdp ss st i = -1 := sdp_no (by unfold sdOk; rw [decide_eq_false (by omega : ¬ 0 ≤ i)]; simp)
theorem sdp_no2 {ss : List ByteArray} {st : List Int} {i : Int} (h : ¬ i < st.length) : sdp ss st i = -1 := sdp_no (by unfold sdOk; rw [decide_eq_false h]; simp)
theorem sdp_yes {ss : List ByteArray} {st : List Int} {i : Nat} (h : svl ss st = true) (hi : i < st.length) : sdp ss st (i : Int) = (dpf st i i : Int) := by
  unfold sdp
  rw [if_pos (by unfold sdOk; rw [h]; simp; omega), Int.toNat_natCast]

/-- what StemMove answers -/
def mvOk (ss : List ByteArray) (st : List Int) (i dd : Int) : Bool := svl ss st && decide (i < st.length) && decide (0 ≤ dd) && decide (dd < i)
def smv (ss : List ByteArray) (st : List Int) (i dd : Int) : List Int := if mvOk ss st i dd = true then st.set i.toNat dd else []
theorem mv_no {ss : List ByteArray} {st : List Int} {i dd : Int} (h : ¬ (svl ss st = true ∧ i < st.length ∧ 0 ≤ dd ∧ dd < i)) : mvOk ss st i dd = false ∧ smv ss st i dd = [] := by
  have h1 : mvOk ss st i dd = false := by
    rw [← Bool.not_eq_true]
    intro e
    unfold mvOk at e
    simp only [Bool.and_eq_true, decide_eq_true_eq] at e
    exact h ⟨e.1.1.1, e.1.1.2, e.1.2, e.2⟩
  exact ⟨h1, by unfold smv; rw [h1]; rfl⟩
theorem mv_yes {ss : List ByteArray} {st : List Int} {i dd : Nat} (h1 : svl ss st = true) (h2 : i < st.length) (h3 : dd < i) : mvOk ss st i dd = true ∧ smv ss st i dd = st.set i dd := by
  have h4 : mvOk ss st i dd = true := by unfold mvOk; rw [h1]; simp; omega
  exact ⟨h4, by unfold smv; rw [if_pos h4, Int.toNat_natCast]⟩
theorem smv_len (ss : List ByteArray) (st : List Int) (i dd : Int) : (smv ss st i dd).length ≤ st.length := by
  unfold smv
  split
  · simp
  · simp

/-- the changes of the first k manuscripts, for readings as they are -/
def chgk (rds : Nat → ByteArray) (st : List Int) : Nat → Nat
  | 0 => 0
  | k + 1 => chgk rds st k + if k = 0 then 0 else fr (rds k) (rds (st.getD k 0).toNat)
theorem chgk_one (rds : Nat → ByteArray) (st : List Int) : chgk rds st 1 = 0 := rfl
theorem chgk_next (rds : Nat → ByteArray) (st : List Int) {k : Nat} (h : k ≠ 0) : chgk rds st (k + 1) = chgk rds st k + fr (rds k) (rds (st.getD k 0).toNat) := by rw [chgk, if_neg h]
theorem fr_le (a b : ByteArray) : fr a b ≤ a.size := frk_le a b a.size
theorem chgk_le {rds : Nat → ByteArray} {m : Nat} (hr : ∀ i, (rds i).size ≤ m) (st : List Int) : ∀ k, chgk rds st k ≤ k * m
  | 0 => Nat.zero_le _
  | k + 1 => by
    have h1 := chgk_le hr st k
    have h2 := fr_le (rds k) (rds (st.getD k 0).toNat)
    have h3 := hr k
    rw [Nat.succ_mul]
    unfold chgk
    split <;> omega
theorem chgk_le8 {rds : Nat → ByteArray} {st : List Int} {m n : Nat} (hst : StTo st n) (hr : ∀ i, i < n → (rds i).size = m) (hm : m ≤ 8) : ∀ k, k ≤ n → chgk rds st k ≤ k * 8
  | 0, _ => Nat.zero_le _
  | k + 1, h => by
    have h1 := chgk_le8 hst hr hm k (by omega)
    have h2 := fr_le (rds k) (rds (st.getD k 0).toNat)
    have h3 := hr k (by omega)
    unfold chgk
    split <;> omega
/-- what StemChanges answers -/
def sch (ss : List ByteArray) (st : List Int) : Int := if (svl ss st && bval ss) = true then (chgk (bka ss) st st.length : Int) else -1
theorem sch_no1 {ss : List ByteArray} {st : List Int} (h : svl ss st = false) : sch ss st = -1 := by unfold sch; rw [h]; rfl
theorem sch_no2 {ss : List ByteArray} {st : List Int} (h : bval ss = false) : sch ss st = -1 := by unfold sch; rw [h, Bool.and_false]; rfl
theorem sch_yes {ss : List ByteArray} {st : List Int} (h1 : svl ss st = true) (h2 : bval ss = true) : sch ss st = (chgk (bka ss) st st.length : Int) := by unfold sch; rw [h1, h2]; rfl
end Go.Proofs.YthhndlefafcdeaaDoor
