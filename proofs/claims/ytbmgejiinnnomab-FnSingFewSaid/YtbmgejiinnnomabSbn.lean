/-
  No list that sings the melody is better than the best: plain mathematics.
-/
import Derived.Test.YtbmgejiinnnomabSg5
namespace Go.Proofs.Ytbmgejiinnnomab
set_option maxRecDepth 100000
set_option linter.unusedVariables false

/-- one list stands ahead of another or is it -/
def lexle : List Int → List Int → Prop
  | x :: a, y :: l => x < y ∨ (x = y ∧ lexle a l)
  | [], [] => True
  | _, _ => False
/-- each step is a hexachord of its tone -/
def sings : List Int → List (Int × Bool) → Prop
  | k :: l, t :: r => k ∈ hx t ∧ sings l r
  | [], [] => True
  | _, _ => False
theorem hx_sorted (t : Int × Bool) : (hx t).Pairwise (· < ·) := by
  unfold hx hall
  refine List.Pairwise.filter _ ?_
  rw [List.pairwise_map]
  exact List.pairwise_lt_range.imp fun h => by omega
theorem gre_best {r : List (Int × Bool)} (hg : sgo r = true) (h : Int) {l : List Int} (hl : sings l r) : chs (h :: gre r h) < chs (h :: l) ∨ (chs (h :: gre r h) = chs (h :: l) ∧ lexle (gre r h) l) := by
  induction r generalizing h l with
  | nil =>
    cases l with
    | nil => exact .inr ⟨rfl, trivial⟩
    | cons k l => exact absurd hl (by simp [sings])
  | cons t r ih =>
    cases l with
    | nil => exact absurd hl (by simp [sings])
    | cons k l =>
      obtain ⟨hk, hl⟩ := hl
      obtain ⟨hn, hg'⟩ := sgo_cons hg
      have IH := fun x => ih hg' x hl
      have eF : ∀ x, few (t :: r) x + chg h x = chs (h :: x :: gre r x) := fun x => by
        simp only [chs]; rw [← few_chs (t := t) hg']; omega
      rcases bst_spec (fun x => few (t :: r) x + chg h x) (hx t) with ⟨h1, _⟩ | ⟨a, b, z, h1, h2, h3, h4⟩
      · exact absurd h1 hn
      have ez : bstI (fun x => few (t :: r) x + chg h x) (hx t) = z := by unfold bstI; rw [h2]; rfl
      show chs (h :: bstI (fun x => few (t :: r) x + chg h x) (hx t) :: gre r (bstI (fun x => few (t :: r) x + chg h x) (hx t))) < chs (h :: k :: l) ∨ (chs (h :: bstI (fun x => few (t :: r) x + chg h x) (hx t) :: gre r (bstI (fun x => few (t :: r) x + chg h x) (hx t))) = chs (h :: k :: l) ∧ lexle (bstI (fun x => few (t :: r) x + chg h x) (hx t) :: gre r (bstI (fun x => few (t :: r) x + chg h x) (hx t))) (k :: l))
      rw [ez]
      have hz := h4 k hk
      simp only [eF] at hz h3
      have e2 : ∀ m : List Int, chs (h :: k :: m) = chg h k + chs (k :: m) := fun m => rfl
      have ik := IH k
      rw [e2] at hz ⊢
      have hord : k ∈ a ∨ k = z ∨ z < k := by
        rw [h1] at hk
        rcases List.mem_append.1 hk with hk | hk
        · exact .inl hk
        · rcases List.mem_cons.1 hk with hk | hk
          · exact .inr (.inl hk)
          · right; right
            have hs := hx_sorted t
            rw [h1, List.pairwise_append] at hs
            exact (List.pairwise_cons.1 hs.2.1).1 k hk
      rcases hord with ho | rfl | ho
      · have := h3 k ho
        rw [e2] at this
        left
        rcases ik with ik | ik <;> omega
      · rw [e2]
        rcases ik with ik | ⟨ik, il⟩
        · left; omega
        · right; exact ⟨by omega, .inr ⟨rfl, il⟩⟩
      · rcases Nat.lt_or_ge (chs (h :: z :: gre r z)) (chg h k + chs (k :: l)) with hlt | hge
        · exact .inl hlt
        · right
          refine ⟨?_, .inl ho⟩
          rcases ik with ik | ⟨ik, _⟩ <;> omega
theorem sgb_best {xs : List (Int × Bool)} (hg : sgo xs = true) {l : List Int} (hl : sings l xs) : chs (sgb xs) < chs l ∨ (chs (sgb xs) = chs l ∧ lexle (sgb xs) l) := by
  cases xs with
  | nil => cases l with
    | nil => exact .inr ⟨rfl, trivial⟩
    | cons k l => exact absurd hl (by simp [sings])
  | cons t r => cases l with
    | nil => exact absurd hl (by simp [sings])
    | cons k l =>
      obtain ⟨hk, hl⟩ := hl
      obtain ⟨hn, hg'⟩ := sgo_cons hg
      rcases bst_spec (few (t :: r)) (hx t) with ⟨h1, _⟩ | ⟨a, b, z, h1, h2, h3, h4⟩
      · exact absurd h1 hn
      have ez : bstI (few (t :: r)) (hx t) = z := by unfold bstI; rw [h2]; rfl
      show chs (bstI (few (t :: r)) (hx t) :: gre r (bstI (few (t :: r)) (hx t))) < chs (k :: l) ∨ (chs (bstI (few (t :: r)) (hx t) :: gre r (bstI (few (t :: r)) (hx t))) = chs (k :: l) ∧ lexle (bstI (few (t :: r)) (hx t) :: gre r (bstI (few (t :: r)) (hx t))) (k :: l))
      rw [ez]
      have hz := h4 k hk
      have ik := gre_best hg' k hl
      have eF : ∀ x, few (t :: r) x = chs (x :: gre r x) := fun x => few_chs hg' x
      simp only [eF] at hz h3
      have hord : k ∈ a ∨ k = z ∨ z < k := by
        rw [h1] at hk
        rcases List.mem_append.1 hk with hk | hk
        · exact .inl hk
        · rcases List.mem_cons.1 hk with hk | hk
          · exact .inr (.inl hk)
          · right; right
            have hs := hx_sorted t
            rw [h1, List.pairwise_append] at hs
            exact (List.pairwise_cons.1 hs.2.1).1 k hk
      rcases hord with ho | rfl | ho
      · have := h3 k ho
        left
        rcases ik with ik | ik <;> omega
      · rcases ik with ik | ⟨ik, il⟩
        · left; omega
        · right; exact ⟨by omega, .inr ⟨rfl, il⟩⟩
      · rcases Nat.lt_or_ge (chs (z :: gre r z)) (chs (k :: l)) with hlt | hge
        · exact .inl hlt
        · right
          refine ⟨?_, .inl ho⟩
          rcases ik with ik | ⟨ik, _⟩ <;> omega
theorem lexle_set {a : List Int} {i : Nat} {k : Int} (h : lexle a (a.set i k)) (hi : i < a.length) : a[i] ≤ k := by
  induction a generalizing i with
  | nil => simp at hi
  | cons x a ih =>
    cases i with
    | zero =>
      simp only [List.set_cons_zero, lexle] at h
      simp only [List.getElem_cons_zero]
      rcases h with h | ⟨h, _⟩ <;> omega
    | succ i =>
      simp only [List.set_cons_succ, lexle] at h
      simp only [List.getElem_cons_succ]
      rcases h with h | ⟨_, h⟩
      · omega
      · exact ih h (by simpa using hi)
theorem sings_set {l : List Int} {xs : List (Int × Bool)} {i : Nat} {k : Int} {t : Int × Bool} (h : sings l xs) (ht : xs[i]? = some t) (hk : k ∈ hx t) : sings (l.set i k) xs := by
  induction l generalizing xs i with
  | nil => cases xs with
    | nil => simp at ht
    | cons t r => exact absurd h (by simp [sings])
  | cons y l ih => cases xs with
    | nil => exact absurd h (by simp [sings])
    | cons u r => cases i with
      | zero =>
        simp at ht; subst ht
        exact ⟨hk, h.2⟩
      | succ i => exact ⟨h.1, ih h.2 (by simpa using ht)⟩
theorem gre_sings {r : List (Int × Bool)} (hg : sgo r = true) (h : Int) : sings (gre r h) r := by
  induction r generalizing h with
  | nil => trivial
  | cons t r ih =>
    obtain ⟨hn, hg'⟩ := sgo_cons hg
    exact ⟨(bst_in hn).2.1, ih hg' _⟩
theorem sgb_sings {xs : List (Int × Bool)} (hg : sgo xs = true) : sings (sgb xs) xs := by
  cases xs with
  | nil => trivial
  | cons t r =>
    obtain ⟨hn, hg'⟩ := sgo_cons hg
    exact ⟨(bst_in hn).2.1, gre_sings hg' _⟩
/-- the promise's mathematics: one step replaced -/
theorem sgb_swap {xs : List (Int × Bool)} (hg : sgo xs = true) {i : Nat} {k : Int} {t : Int × Bool} (ht : xs[i]? = some t) (hk : k ∈ hx t) (hi : i < (sgb xs).length) :
    chs (sgb xs) ≤ chs ((sgb xs).set i k) ∧ (chs (sgb xs) = chs ((sgb xs).set i k) → (sgb xs)[i] ≤ k) := by
  rcases sgb_best hg (sings_set (sgb_sings hg) ht hk) with h | ⟨h, hl⟩
  · exact ⟨by omega, fun e => by omega⟩
  · exact ⟨by omega, fun _ => lexle_set hl hi⟩
end Go.Proofs.Ytbmgejiinnnomab
