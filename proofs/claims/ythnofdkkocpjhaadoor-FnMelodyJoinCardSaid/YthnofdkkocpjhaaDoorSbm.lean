/-
  The list that sings a melody with the fewest mutations: plain mathematics.
-/
import Derived.Test.YthnofdkkocpjhaaDoorSing1
namespace Go.Proofs.YthnofdkkocpjhaaDoor
set_option maxRecDepth 100000
set_option linter.unusedVariables false

/-- the hexachords of a tone -/
def hx (t : Int × Bool) : List Int := hall t.1 t.2 21
def chg (a b : Int) : Nat := if a = b then 0 else 1
/-- the mutations of a list -/
def chs : List Int → Nat
  | a :: b :: r => chg a b + chs (b :: r)
  | _ => 0
theorem chs_le (l : List Int) : chs l ≤ l.length := by
  match l with
  | [] => simp [chs]
  | [a] => simp [chs]
  | a :: b :: r =>
    have := chs_le (b :: r)
    have h1 : chg a b ≤ 1 := by unfold chg; split <;> omega
    simp only [chs, List.length_cons] at this ⊢
    omega

/-- one step of a search for the least: the first of the least stays -/
def bstep (f : Int → Nat) (o : Option (Int × Nat)) (x : Int) : Option (Int × Nat) :=
  match o with
  | none => some (x, f x)
  | some p => if f x < p.2 then some (x, f x) else some p
def bst (f : Int → Nat) (l : List Int) : Option (Int × Nat) := l.foldl (bstep f) none
theorem bst_snoc (f : Int → Nat) (l : List Int) (x : Int) : bst f (l ++ [x]) = bstep f (bst f l) x := by
  unfold bst; rw [List.foldl_append]; rfl
theorem bst_nil (f : Int → Nat) : bst f [] = none := rfl
/-- what is found: it is one of the list, no other is less, and those ahead of it are more -/
theorem bst_spec (f : Int → Nat) (l : List Int) : (l = [] ∧ bst f l = none) ∨ ∃ a b k, l = a ++ k :: b ∧ bst f l = some (k, f k) ∧ (∀ x ∈ a, f k < f x) ∧ ∀ x ∈ l, f k ≤ f x := by
  suffices h : ∀ m : List Int, (m.reverse = [] ∧ bst f m.reverse = none) ∨ ∃ a b k, m.reverse = a ++ k :: b ∧ bst f m.reverse = some (k, f k) ∧ (∀ x ∈ a, f k < f x) ∧ ∀ x ∈ m.reverse, f k ≤ f x by
    have := h l.reverse
    rwa [List.reverse_reverse] at this
  intro m
  induction m with
  | nil => exact .inl ⟨rfl, rfl⟩
  | cons x m ih =>
    right
    rw [List.reverse_cons, bst_snoc]
    rcases ih with ⟨h1, h2⟩ | ⟨a, b, k, h1, h2, h3, h4⟩
    · rw [h2, h1]
      exact ⟨[], [], x, rfl, rfl, by simp, by simp⟩
    · rw [h2]
      by_cases hlt : f x < f k
      · refine ⟨m.reverse, [], x, rfl, by simp [bstep, hlt], fun y hy => ?_, fun y hy => ?_⟩
        · have := h4 y hy; omega
        · rcases List.mem_append.1 hy with hy | hy
          · have := h4 y hy; omega
          · have : y = x := by simpa using hy
            subst this; exact Nat.le_refl _
      · refine ⟨a, b ++ [x], k, by rw [h1]; simp, by simp [bstep, hlt], h3, fun y hy => ?_⟩
        rcases List.mem_append.1 hy with hy | hy
        · exact h4 y hy
        · have : y = x := by simpa using hy
          subst this; omega
def bstI (f : Int → Nat) (l : List Int) : Int := ((bst f l).map Prod.fst).getD 0
def bstN (f : Int → Nat) (l : List Int) : Nat := ((bst f l).map Prod.snd).getD 0
theorem bst_in {f : Int → Nat} {l : List Int} (h : l ≠ []) : bst f l = some (bstI f l, f (bstI f l)) ∧ bstI f l ∈ l ∧ bstN f l = f (bstI f l) ∧ ∀ x ∈ l, f (bstI f l) ≤ f x := by
  rcases bst_spec f l with ⟨h1, _⟩ | ⟨a, b, k, h1, h2, h3, h4⟩
  · exact absurd h1 h
  · have e : bstI f l = k := by unfold bstI; rw [h2]; rfl
    have e2 : bstN f l = f k := by unfold bstN; rw [h2]; rfl
    rw [e, e2]
    exact ⟨h2, by rw [h1]; simp, rfl, h4⟩

def nxt : List (Int × Bool) → List Int
  | [] => []
  | t :: _ => hx t
/-- the fewest mutations from a tone on that is sung in a hexachord -/
def few : List (Int × Bool) → Int → Nat
  | [] => fun _ => 0
  | _ :: r => fun h => bstN (fun k => few r k + chg h k) (nxt r)
/-- the best list behind a hexachord -/
def gre : List (Int × Bool) → Int → List Int
  | [], _ => []
  | t :: r, h => bstI (fun k => few (t :: r) k + chg h k) (hx t) :: gre r (bstI (fun k => few (t :: r) k + chg h k) (hx t))
/-- the best list -/
def sgb : List (Int × Bool) → List Int
  | [] => []
  | t :: r => bstI (few (t :: r)) (hx t) :: gre r (bstI (few (t :: r)) (hx t))
/-- has each tone a hexachord? -/
def sgo (xs : List (Int × Bool)) : Bool := xs.all fun t => !(hx t).isEmpty
theorem sgo_cons {t : Int × Bool} {r : List (Int × Bool)} (h : sgo (t :: r) = true) : hx t ≠ [] ∧ sgo r = true := by
  unfold sgo at h ⊢
  rw [List.all_cons, Bool.and_eq_true] at h
  exact ⟨by simpa using h.1, h.2⟩
theorem gre_len (r : List (Int × Bool)) (h : Int) : (gre r h).length = r.length := by
  induction r generalizing h with
  | nil => rfl
  | cons t r ih => simp [gre, ih]
theorem sgb_len (xs : List (Int × Bool)) : (sgb xs).length = xs.length := by
  cases xs with
  | nil => rfl
  | cons t r => simp [sgb, gre_len]
theorem few_chs {t : Int × Bool} {r : List (Int × Bool)} (hr : sgo r = true) (h : Int) : few (t :: r) h = chs (h :: gre r h) := by
  induction r generalizing t h with
  | nil => rfl
  | cons u r ih =>
    obtain ⟨h1, h2⟩ := sgo_cons hr
    have hb := (bst_in (f := fun k => few (u :: r) k + chg h k) h1).2.2.1
    show bstN (fun k => few (u :: r) k + chg h k) (hx u) = chs (h :: bstI (fun k => few (u :: r) k + chg h k) (hx u) :: gre r (bstI (fun k => few (u :: r) k + chg h k) (hx u)))
    rw [hb]
    simp only [chs]
    rw [← ih (t := u) h2]
    omega

/-- the songs of a melody's last tones: the best one for each hexachord of the first of them -/
def sgs : List (Int × Bool) → List (List Int)
  | [] => [[]]
  | t :: r => (hx t).map fun h => h :: gre r h
/-- one step of the program's search -/
def sstep (b s : List Int) : List Int := if b = [] ∨ chs s < chs b then s else b
def bso (h : Int) (R : List (List Int)) : List Int := R.foldl (fun b r => sstep b (h :: r)) []
theorem bso_snoc (h : Int) (R : List (List Int)) (r : List Int) : bso h (R ++ [r]) = sstep (bso h R) (h :: r) := by
  unfold bso; rw [List.foldl_append]; rfl
def bsl (R : List (List Int)) : List Int := R.foldl sstep []
theorem bsl_snoc (R : List (List Int)) (s : List Int) : bsl (R ++ [s]) = sstep (bsl R) s := by
  unfold bsl; rw [List.foldl_append]; rfl

theorem bso_sgs {r : List (Int × Bool)} (hr : sgo r = true) (h : Int) : bso h (sgs r) = h :: gre r h := by
  cases r with
  | nil => rfl
  | cons u r =>
    obtain ⟨h1, h2⟩ := sgo_cons hr
    have key : ∀ l : List Int, bso h (l.map fun k => k :: gre r k) = match bst (fun k => few (u :: r) k + chg h k) l with
        | none => []
        | some p => h :: p.1 :: gre r p.1 := by
      intro l
      suffices hs : ∀ m : List Int, bso h (m.reverse.map fun k => k :: gre r k) = (match bst (fun k => few (u :: r) k + chg h k) m.reverse with
          | none => []
          | some p => h :: p.1 :: gre r p.1) by
        have := hs l.reverse
        rwa [List.reverse_reverse] at this
      intro m
      induction m with
      | nil => rfl
      | cons x m ih =>
        rw [List.reverse_cons, List.map_append, bst_snoc]
        show bso h (m.reverse.map (fun k => k :: gre r k) ++ [x :: gre r x]) = _
        rw [bso_snoc, ih]
        rcases bst_spec (fun k => few (u :: r) k + chg h k) m.reverse with ⟨_, h3⟩ | ⟨a, b, k, _, h3, _, _⟩
        · rw [h3]; rfl
        · rw [h3]
          have e : ∀ y, chs (h :: y :: gre r y) = few (u :: r) y + chg h y := fun y => by
            simp only [chs]
            rw [← few_chs (t := u) h2]
            omega
          simp only [bstep, sstep, List.cons_ne_nil, false_or]
          rw [e, e]
          split <;> rfl
    show bso h ((hx u).map fun k => k :: gre r k) = _
    rw [key, (bst_in h1).1]
    rfl
theorem sgs_step {t : Int × Bool} {r : List (Int × Bool)} (hr : sgo r = true) : (hx t).map (fun h => bso h (sgs r)) = sgs (t :: r) := by
  show _ = (hx t).map fun h => h :: gre r h
  exact List.map_congr_left fun h _ => bso_sgs hr h
theorem bsl_sgs {xs : List (Int × Bool)} (hr : sgo xs = true) : bsl (sgs xs) = sgb xs := by
  cases xs with
  | nil => rfl
  | cons u r =>
    obtain ⟨h1, h2⟩ := sgo_cons hr
    have key : ∀ m : List Int, bsl (m.reverse.map fun k => k :: gre r k) = (match bst (few (u :: r)) m.reverse with
        | none => []
        | some p => p.1 :: gre r p.1) := by
      intro m
      induction m with
      | nil => rfl
      | cons x m ih =>
        rw [List.reverse_cons, List.map_append, bst_snoc]
        show bsl (m.reverse.map (fun k => k :: gre r k) ++ [x :: gre r x]) = _
        rw [bsl_snoc, ih]
        rcases bst_spec (few (u :: r)) m.reverse with ⟨_, h3⟩ | ⟨a, b, k, _, h3, _, _⟩
        · rw [h3]; rfl
        · rw [h3]
          have e : ∀ y, chs (y :: gre r y) = few (u :: r) y := fun y => (few_chs (t := u) h2 y).symm
          simp only [bstep, sstep, List.cons_ne_nil, false_or]
          rw [e, e]
          split <;> rfl
    have := key (hx u).reverse
    rw [List.reverse_reverse, (bst_in h1).1] at this
    exact this
theorem sgs_ne {t : Int × Bool} {r : List (Int × Bool)} : ∀ s ∈ sgs (t :: r), s ≠ [] := by
  intro s hs
  obtain ⟨h, _, rfl⟩ := List.mem_map.1 hs
  simp

/-- the answers: the list, and whether there is one -/
def sbB (xs : List (Int × Bool)) : Bool := mv xs && sgo xs
def sbL (xs : List (Int × Bool)) : List Int := if sbB xs then sgb xs else []
theorem sb_no1 {xs : List (Int × Bool)} (h : mv xs = false) : sbL xs = [] ∧ sbB xs = false := by
  have : sbB xs = false := by simp [sbB, h]
  exact ⟨by simp [sbL, this], this⟩
theorem sb_no2 {xs : List (Int × Bool)} (h : sgo xs = false) : sbL xs = [] ∧ sbB xs = false := by
  have : sbB xs = false := by simp [sbB, h]
  exact ⟨by simp [sbL, this], this⟩
theorem sb_yes {xs : List (Int × Bool)} (h : mv xs = true) (k : sgo xs = true) : sbL xs = sgb xs ∧ sbB xs = true := by
  have : sbB xs = true := by simp [sbB, h, k]
  exact ⟨by simp [sbL, this], this⟩
theorem sbL_len (xs : List (Int × Bool)) : (sbL xs).length ≤ 24 := by
  unfold sbL
  by_cases h : sbB xs = true
  · rw [if_pos h, sgb_len]
    have : mv xs = true := by unfold sbB at h; rw [Bool.and_eq_true] at h; exact h.1
    simp [mv] at this
    exact this.1
  · rw [if_neg h]; simp
/-- no list sings it exactly if some tone has no hexachord -/
theorem manyOf_zero (xs : List (Int × Bool)) : manyOf xs = 0 ↔ sgo xs = false := by
  suffices h : ∀ (m : Int), xs.foldl (fun m t => m * ic t) m = 0 ↔ m = 0 ∨ sgo xs = false by
    have := h 1
    unfold manyOf
    rw [this]
    constructor
    · rintro (h | h)
      · cases h
      · exact h
    · exact .inr
  induction xs with
  | nil => intro m; simp [sgo]
  | cons t r ih =>
    intro m
    rw [List.foldl_cons, ih, Int.mul_eq_zero]
    have e : ic t = 0 ↔ (hx t).isEmpty = true := by
      unfold ic hx
      rw [List.isEmpty_iff]
      constructor
      · intro h; exact List.eq_nil_of_length_eq_zero (by omega)
      · intro h; rw [h]; rfl
    have e2 : sgo (t :: r) = false ↔ (hx t).isEmpty = true ∨ sgo r = false := by
      unfold sgo
      rw [List.all_cons, Bool.and_eq_false_iff, Bool.not_eq_false']
    rw [e, e2, or_assoc]
end Go.Proofs.YthnofdkkocpjhaaDoor
