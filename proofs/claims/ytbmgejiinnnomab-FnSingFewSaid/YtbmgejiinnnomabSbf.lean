/-
  When the best list has no mutation, and how many steps differ: plain mathematics.
-/
import Derived.Test.YtbmgejiinnnomabSbn
import Derived.Test.YtbmgejiinnnomabSing5
namespace Go.Proofs.Ytbmgejiinnnomab
set_option maxRecDepth 100000
set_option linter.unusedVariables false

/-- the first j tones are in the hexachord of a step -/
def allIn (xs : List (Int × Bool)) (k j : Nat) : Bool := decide (0 < xs.length) && (xs.take j).all fun t => decide (0 ≤ hsy k t.1 t.2)
def comm (xs : List (Int × Bool)) (n : Nat) : Bool := (xs.length == 0) || (List.range n).any fun k => allIn xs k xs.length
theorem comm_snoc (xs : List (Int × Bool)) (n : Nat) : comm xs (n + 1) = (comm xs n || allIn xs n xs.length) := by
  unfold comm; rw [List.range_succ, List.any_append]; simp [Bool.or_assoc]
theorem allIn_snoc {xs : List (Int × Bool)} {k j : Nat} {t : Int × Bool} (h : xs[j]? = some t) : allIn xs k (j + 1) = (allIn xs k j && decide (0 ≤ hsy k t.1 t.2)) := by
  unfold allIn; rw [List.take_add_one, h, List.all_append]; simp [Bool.and_assoc]
theorem chs_zero {a : Int} {l : List Int} (h : chs (a :: l) = 0) : ∀ x ∈ l, x = a := by
  induction l generalizing a with
  | nil => intro x hx; cases hx
  | cons b l ih =>
    have h1 : chg a b + chs (b :: l) = 0 := h
    have e : a = b := by
      unfold chg at h1
      by_cases e : a = b
      · exact e
      · rw [if_neg e] at h1; omega
    subst e
    intro x hx
    rcases List.mem_cons.1 hx with rfl | hx
    · rfl
    · exact ih (by omega) x hx
theorem sings_all {a : Int} {l : List Int} {xs : List (Int × Bool)} (h : sings l xs) (ha : ∀ x ∈ l, x = a) : ∀ t ∈ xs, a ∈ hx t := by
  induction l generalizing xs with
  | nil => cases xs with
    | nil => intro t ht; cases ht
    | cons t r => exact absurd h (by simp [sings])
  | cons y l ih => cases xs with
    | nil => exact absurd h (by simp [sings])
    | cons u r =>
      intro t ht
      rcases List.mem_cons.1 ht with rfl | ht
      · have := ha y List.mem_cons_self
        subst this
        exact h.1
      · exact ih h.2 (fun x hx => ha x (List.mem_cons_of_mem _ hx)) t ht
theorem sings_rep {k : Int} {xs : List (Int × Bool)} (h : ∀ t ∈ xs, k ∈ hx t) : sings (List.replicate xs.length k) xs := by
  induction xs with
  | nil => trivial
  | cons t r ih => exact ⟨h t List.mem_cons_self, ih fun u hu => h u (List.mem_cons_of_mem _ hu)⟩
theorem chs_rep (n : Nat) (k : Int) : chs (List.replicate n k) = 0 := by
  induction n with
  | zero => rfl
  | succ n ih => cases n with
    | zero => rfl
    | succ n =>
      show chg k k + chs (List.replicate (n + 1) k) = 0
      rw [ih]; simp [chg]
theorem hx_mem {t : Int × Bool} {a : Int} : a ∈ hx t ↔ ∃ k : Nat, k < 21 ∧ a = (k : Int) ∧ 0 ≤ hsy k t.1 t.2 := by
  unfold hx hall
  rw [List.mem_filter, List.mem_map]
  constructor
  · rintro ⟨⟨k, hk, rfl⟩, h⟩
    exact ⟨k, by simpa using hk, rfl, by simpa [inHex] using h⟩
  · rintro ⟨k, hk, rfl, h⟩
    exact ⟨⟨k, by simpa using hk, rfl⟩, by simpa [inHex] using h⟩
theorem few_zero {xs : List (Int × Bool)} (hg : sgo xs = true) : ((chs (sgb xs) : Int) == 0) = comm xs 21 := by
  rw [Bool.eq_iff_iff, beq_iff_eq]
  constructor
  · intro h
    have h0 : chs (sgb xs) = 0 := by omega
    have hs := sgb_sings hg
    cases hxs : xs with
    | nil => rfl
    | cons t r =>
      rw [hxs] at h0 hs
      cases hl : sgb (t :: r) with
      | nil => rw [hl] at hs; exact absurd hs (by simp [sings])
      | cons a l =>
        rw [hl] at h0 hs
        have ha := chs_zero h0
        have hall := sings_all hs (a := a) (fun x hx => by rcases List.mem_cons.1 hx with rfl | hx; rfl; exact ha x hx)
        obtain ⟨k, hk, e, _⟩ := hx_mem.1 (hall t List.mem_cons_self)
        unfold comm
        rw [Bool.or_eq_true]
        right
        rw [List.any_eq_true]
        refine ⟨k, by simpa using hk, ?_⟩
        unfold allIn
        rw [Bool.and_eq_true, List.take_length, List.all_eq_true]
        refine ⟨by simp, fun u hu => ?_⟩
        obtain ⟨k', _, e', h'⟩ := hx_mem.1 (hall u hu)
        have : k' = k := by omega
        subst this
        simpa using h'
  · intro h
    unfold comm at h
    rw [Bool.or_eq_true] at h
    rcases h with h | h
    · have : xs = [] := List.eq_nil_of_length_eq_zero (by simpa using h)
      subst this; rfl
    · rw [List.any_eq_true] at h
      obtain ⟨k, hk, h⟩ := h
      unfold allIn at h
      rw [Bool.and_eq_true, List.take_length, List.all_eq_true] at h
      have hr : sings (List.replicate xs.length (k : Int)) xs := sings_rep fun t ht => hx_mem.2 ⟨k, by simpa using hk, rfl, by simpa using h.2 t ht⟩
      have := chs_rep xs.length (k : Int)
      rcases sgb_best hg hr with h1 | ⟨h1, _⟩ <;> omega

/-- is step i none of the first j? -/
def isnew (l : List Int) (i j : Nat) : Bool := (List.range j).all fun k => l.getD k 0 != l.getD i 0
def dif (l : List Int) (n : Nat) : Nat := ((List.range n).filter fun i => isnew l i i).length
theorem isnew_snoc (l : List Int) (i j : Nat) : isnew l i (j + 1) = (isnew l i j && (l.getD j 0 != l.getD i 0)) := by
  unfold isnew; rw [List.range_succ, List.all_append]; simp
theorem dif_yes {l : List Int} {n : Nat} (h : isnew l n n = true) : dif l (n + 1) = dif l n + 1 := by
  unfold dif; rw [List.range_succ, List.filter_append]; simp [h]
theorem dif_no {l : List Int} {n : Nat} (h : isnew l n n = false) : dif l (n + 1) = dif l n := by
  unfold dif; rw [List.range_succ, List.filter_append]; simp [h]
theorem dif_le (l : List Int) (n : Nat) : (dif l (n + 1) : Int) ≤ mutTo l n + 1 := by
  induction n with
  | zero => rw [dif_yes (by rfl)]; simp [dif, mutTo]
  | succ n ih =>
    cases hn : isnew l (n + 1) (n + 1) with
    | false =>
      rw [dif_no hn]
      cases hm : (l.getD (n + 1) 0 != l.getD n 0) with
      | true => rw [mutTo_hit hm]; omega
      | false => rw [mutTo_miss hm]; exact ih
    | true =>
      rw [dif_yes hn]
      have hm : (l.getD (n + 1) 0 != l.getD n 0) = true := by
        rw [isnew_snoc, Bool.and_eq_true] at hn
        have := hn.2
        rw [bne_iff_ne] at this ⊢
        exact fun e => this e.symm
      rw [mutTo_hit hm]; omega
theorem dif_lim (l : List Int) (n : Nat) : dif l n ≤ n := by
  unfold dif
  have := List.length_filter_le (fun i => isnew l i i) (List.range n)
  simpa using this
end Go.Proofs.Ytbmgejiinnnomab
