/-
  Plain mathematics of modes and of melodies in them: no program stands in it.
-/
import Derived.Test.YtmipkodgkldmbaaDoorMelR
namespace Go.Proofs.YtmipkodgkldmbaaDoor
open Go.RowKit
set_option maxRecDepth 100000
set_option linter.unusedVariables false

/-- is there a mode? -/
def mdv (k : Int) : Bool := decide (1 ≤ k) && decide (k ≤ 8)
def tnr (i : Nat) : Int := ([8, 6, 10, 8, 10, 8, 11, 10] : List Int).getD i 0
/-- the final and the tenor, -1 if there is no mode; the same, 0 if there is none; both ends of the range; the other mode with the final -/
def mdF (k : Int) : Int := if mdv k then 4 + (k - 1) / 2 else -1
def mdT (k : Int) : Int := if mdv k then tnr (k - 1).toNat else -1
def nF (k : Int) : Int := if mdv k then 4 + (k - 1) / 2 else 0
def nT (k : Int) : Int := if mdv k then tnr (k - 1).toNat else 0
def mdL (k : Int) : Int := if mdv k then (if k % 2 = 1 then 4 + (k - 1) / 2 - 1 else 4 + (k - 1) / 2 - 4) else 0
def mdH (k : Int) : Int := if mdv k then (if k % 2 = 1 then 4 + (k - 1) / 2 + 8 else 4 + (k - 1) / 2 + 5) else 0
def mdP (k : Int) : Int := if mdv k then (if k % 2 = 1 then k + 1 else k - 1) else -1
theorem mdv_lo {k : Int} (h : k < 1) : mdv k = false := by simp [mdv]; omega
theorem mdv_hi {k : Int} (h : 8 < k) : mdv k = false := by simp [mdv]; omega
theorem mdv_in {k : Int} (h : mdv k = true) : 1 ≤ k ∧ k ≤ 8 := by simp [mdv] at h; omega
theorem mdv_yes {k : Int} (h0 : 1 ≤ k) (h1 : k ≤ 8) : mdv k = true := by simp [mdv]; omega
theorem eight {k : Int} (h0 : 1 ≤ k) (h1 : k ≤ 8) : k = 1 ∨ k = 2 ∨ k = 3 ∨ k = 4 ∨ k = 5 ∨ k = 6 ∨ k = 7 ∨ k = 8 := by omega
theorem md_no {k : Int} (h : mdv k = false) : mdF k = -1 ∧ mdT k = -1 ∧ nF k = 0 ∧ nT k = 0 ∧ mdL k = 0 ∧ mdH k = 0 ∧ mdP k = -1 := by simp [mdF, mdT, nF, nT, mdL, mdH, mdP, h]
theorem md_yes {k : Int} (h : mdv k = true) : nF k = mdF k ∧ nT k = mdT k := by simp [mdF, mdT, nF, nT, h]
theorem md_in {k : Int} (h : mdv k = true) : 4 ≤ mdF k ∧ mdF k ≤ 7 ∧ mdL k ≤ mdF k ∧ mdF k ≤ mdH k ∧ mdP (mdP k) = k ∧ mdF (mdP k) = mdF k ∧ mdP k ≠ k ∧ mdv (mdP k) = true := by
  obtain ⟨h0, h1⟩ := mdv_in h
  rcases eight h0 h1 with rfl | rfl | rfl | rfl | rfl | rfl | rfl | rfl <;> decide
theorem mdP_only {k j : Int} (h : mdv k = true) (hj : mdv j = true) (he : mdF j = mdF k) : j = k ∨ j = mdP k := by
  obtain ⟨h0, h1⟩ := mdv_in h
  obtain ⟨j0, j1⟩ := mdv_in hj
  unfold mdF at he
  rw [h, hj] at he
  simp at he
  unfold mdP
  rw [h]
  simp
  split <;> omega
theorem mdP_least {k j : Int} (h : mdv k = true) (hj : mdv j = true) (hn : j ≠ k) (he : mdF j = mdF k) : mdP k = j := by
  rcases mdP_only h hj he with e | e
  · exact absurd e hn
  · exact e.symm

/-- the last tone -/
def lst (xs : List (Int × Bool)) : Int × Bool := xs.getD (xs.length - 1) (0, false)
/-- is a list a melody in a mode? -/
def inM (xs : List (Int × Bool)) (k : Int) : Bool := mdv k && (rgOk xs && (decide (mdL k ≤ rgL xs) && (decide (rgH xs ≤ mdH k) && teq (lst xs).1 (lst xs).2 (mdF k) false)))
theorem inM_no1 {xs : List (Int × Bool)} {k : Int} (h : mdv k = false) : inM xs k = false := by simp [inM, h]
theorem inM_no2 {xs : List (Int × Bool)} {k : Int} (h : rgOk xs = false) : inM xs k = false := by simp [inM, h]
theorem inM_no3 {xs : List (Int × Bool)} {k : Int} (h : rgL xs < mdL k) : inM xs k = false := by
  have : decide (mdL k ≤ rgL xs) = false := by simp; omega
  simp [inM, this]
theorem inM_no4 {xs : List (Int × Bool)} {k : Int} (h : mdH k < rgH xs) : inM xs k = false := by
  have : decide (rgH xs ≤ mdH k) = false := by simp; omega
  simp [inM, this]
theorem inM_mid {xs : List (Int × Bool)} {k : Int} (h1 : mdv k = true) (h2 : rgOk xs = true) (h3 : ¬ rgL xs < mdL k) (h4 : ¬ mdH k < rgH xs) : inM xs k = teq (lst xs).1 (lst xs).2 (mdF k) false := by
  have e3 : decide (mdL k ≤ rgL xs) = true := by simp; omega
  have e4 : decide (rgH xs ≤ mdH k) = true := by simp; omega
  simp [inM, h1, h2, e3, e4]
theorem rgOk_len {xs : List (Int × Bool)} (h : rgOk xs = true) : 0 < xs.length ∧ xs.length ≤ 24 := by
  simp [rgOk, mv] at h
  exact ⟨List.length_pos_iff.2 h.2, h.1.1⟩
theorem lst_at {xs : List (Int × Bool)} (h : 0 < xs.length) : xs[xs.length - 1]? = some (lst xs) := by
  unfold lst
  rw [List.getD_eq_getElem?_getD, List.getElem?_eq_getElem (by omega)]; rfl

theorem loF_le {a c : Int} {xs : List (Int × Bool)} : c ≤ loF a xs ↔ c ≤ a ∧ ∀ t ∈ xs, c ≤ t.1 := by
  induction xs generalizing a with
  | nil => simp [loF]
  | cons t r ih =>
    show c ≤ loF (min a t.1) r ↔ _
    rw [ih]
    simp only [List.mem_cons, forall_eq_or_imp]
    constructor
    · rintro ⟨h1, h2⟩; exact ⟨by omega, by omega, h2⟩
    · rintro ⟨h1, h2, h3⟩; exact ⟨by omega, h3⟩
theorem hiF_le {a c : Int} {xs : List (Int × Bool)} : hiF a xs ≤ c ↔ a ≤ c ∧ ∀ t ∈ xs, t.1 ≤ c := by
  induction xs generalizing a with
  | nil => simp [hiF]
  | cons t r ih =>
    show hiF (max a t.1) r ≤ c ↔ _
    rw [ih]
    simp only [List.mem_cons, forall_eq_or_imp]
    constructor
    · rintro ⟨h1, h2⟩; exact ⟨by omega, by omega, h2⟩
    · rintro ⟨h1, h2, h3⟩; exact ⟨by omega, h3⟩
theorem rgL_le {xs : List (Int × Bool)} (h : rgOk xs = true) (c : Int) : c ≤ rgL xs ↔ ∀ t ∈ xs, c ≤ t.1 := by
  rw [(rg_yes h).1, loF_le]
  refine ⟨fun g => g.2, fun g => ⟨?_, g⟩⟩
  have hl := (rgOk_len h).1
  have : hdS xs = xs[0].1 := by simp [hdS, List.getD_eq_getElem?_getD, List.getElem?_eq_getElem hl]
  rw [this]
  exact g _ (List.getElem_mem hl)
theorem rgH_le {xs : List (Int × Bool)} (h : rgOk xs = true) (c : Int) : rgH xs ≤ c ↔ ∀ t ∈ xs, t.1 ≤ c := by
  rw [(rg_yes h).2, hiF_le]
  refine ⟨fun g => g.2, fun g => ⟨?_, g⟩⟩
  have hl := (rgOk_len h).1
  have : hdS xs = xs[0].1 := by simp [hdS, List.getD_eq_getElem?_getD, List.getElem?_eq_getElem hl]
  rw [this]
  exact g _ (List.getElem_mem hl)
theorem teq_iff {s t : Int} {b c : Bool} : teq s b t c = true ↔ s = t ∧ b = c := by simp [teq]
theorem inM_iff {xs : List (Int × Bool)} {k : Int} : inM xs k = true ↔ mdv k = true ∧ mv xs = true ∧ xs ≠ [] ∧ (∀ t ∈ xs, mdL k ≤ t.1 ∧ t.1 ≤ mdH k) ∧ (lst xs).1 = mdF k ∧ (lst xs).2 = false := by
  by_cases hr : rgOk xs = true
  · have hr2 : mv xs = true ∧ xs ≠ [] := by simpa [rgOk] using hr
    simp only [inM, Bool.and_eq_true, decide_eq_true_eq, hr, rgL_le hr, rgH_le hr, teq_iff]
    constructor
    · rintro ⟨a, _, b, c, d, e⟩; exact ⟨a, hr2.1, hr2.2, fun t ht => ⟨b t ht, c t ht⟩, d, e⟩
    · rintro ⟨a, _, _, b, d, e⟩; exact ⟨a, trivial, fun t ht => (b t ht).1, fun t ht => (b t ht).2, d, e⟩
  · rw [Bool.not_eq_true] at hr
    rw [inM_no2 hr]
    refine ⟨fun h => (by cases h), fun ⟨_, a, b, _⟩ => ?_⟩
    simp [rgOk, a, b] at hr
theorem inM_last {xs : List (Int × Bool)} {k : Int} (h : inM xs k = true) : mdv k = true ∧ (lst xs).1 = mdF k := ⟨(inM_iff.1 h).1, (inM_iff.1 h).2.2.2.2.1⟩

/-- the first n modes that a melody is in -/
def allM (xs : List (Int × Bool)) (n : Nat) : List Int := ((List.range n).map (fun i : Nat => (i : Int) + 1)).filter (inM xs)
theorem allM_hit {xs : List (Int × Bool)} {n : Nat} (h : inM xs ((n : Int) + 1) = true) : allM xs (n + 1) = allM xs n ++ [(n : Int) + 1] := by
  simp [allM, List.range_succ, List.filter_append, h]
theorem allM_miss {xs : List (Int × Bool)} {n : Nat} (h : inM xs ((n : Int) + 1) = false) : allM xs (n + 1) = allM xs n := by
  simp [allM, List.range_succ, List.filter_append, h]
theorem allM_len (xs : List (Int × Bool)) (n : Nat) : (allM xs n).length ≤ n := by
  unfold allM; exact Nat.le_trans (List.length_filter_le _ _) (by simp)
theorem allM_mem {xs : List (Int × Bool)} {n : Nat} {k : Int} (h : k ∈ allM xs n) : inM xs k = true ∧ 1 ≤ k ∧ k ≤ n := by
  unfold allM at h
  rw [List.mem_filter, List.mem_map] at h
  obtain ⟨⟨i, hi, rfl⟩, h2⟩ := h
  rw [List.mem_range] at hi
  exact ⟨h2, by omega, by omega⟩
theorem allM_more (xs : List (Int × Bool)) (n d : Nat) : ∃ r, allM xs (n + d) = allM xs n ++ r := by
  induction d with
  | zero => exact ⟨[], by simp⟩
  | succ d ih =>
    obtain ⟨r, hr⟩ := ih
    cases h : inM xs (((n + d : Nat) : Int) + 1)
    · exact ⟨r, by rw [show n + (d + 1) = (n + d) + 1 by omega, allM_miss h, hr]⟩
    · exact ⟨r ++ [((n + d : Nat) : Int) + 1], by rw [show n + (d + 1) = (n + d) + 1 by omega, allM_hit h, hr, List.append_assoc]⟩
theorem allM_at {xs : List (Int × Bool)} {n : Nat} (hn : n < 8) (h : inM xs ((n : Int) + 1) = true) : (allM xs 8)[(allM xs n).length]? = some ((n : Int) + 1) := by
  obtain ⟨r, hr⟩ := allM_more xs (n + 1) (7 - n)
  rw [show n + 1 + (7 - n) = 8 by omega, allM_hit h] at hr
  rw [hr, List.append_assoc, List.getElem?_append_right (Nat.le_refl _)]
  simp
theorem allM_two (xs : List (Int × Bool)) : allM xs 8 = [] ∨ (∃ k, allM xs 8 = [k] ∧ mdv k = true) ∨ ∃ k, allM xs 8 = [k, mdP k] ∧ mdv k = true := by
  have e : (List.range 8).map (fun i : Nat => (i : Int) + 1) = [1, 2, 3, 4, 5, 6, 7, 8] := by decide
  have hne : ∀ k : Int, mdF k ≠ (lst xs).1 → inM xs k = false := fun k hk => by
    cases h : inM xs k
    · rfl
    · exact absurd (inM_last h).2.symm hk
  unfold allM
  rw [e]
  have f1 : mdF 1 = 4 := by decide
  have f2 : mdF 2 = 4 := by decide
  have f3 : mdF 3 = 5 := by decide
  have f4 : mdF 4 = 5 := by decide
  have f5 : mdF 5 = 6 := by decide
  have f6 : mdF 6 = 6 := by decide
  have f7 : mdF 7 = 7 := by decide
  have f8 : mdF 8 = 7 := by decide
  by_cases g4 : (lst xs).1 = 4
  · have h3 := hne 3 (by omega); have h4 := hne 4 (by omega); have h5 := hne 5 (by omega); have h6 := hne 6 (by omega); have h7 := hne 7 (by omega); have h8 := hne 8 (by omega)
    cases h1 : inM xs 1 <;> cases h2 : inM xs 2 <;> simp [h1, h2, h3, h4, h5, h6, h7, h8] <;> first | decide | exact ⟨_, ⟨rfl, by decide⟩, by decide⟩
  by_cases g5 : (lst xs).1 = 5
  · have h3 := hne 1 (by omega); have h4 := hne 2 (by omega); have h5 := hne 5 (by omega); have h6 := hne 6 (by omega); have h7 := hne 7 (by omega); have h8 := hne 8 (by omega)
    cases h1 : inM xs 3 <;> cases h2 : inM xs 4 <;> simp [h1, h2, h3, h4, h5, h6, h7, h8] <;> first | decide | exact ⟨_, ⟨rfl, by decide⟩, by decide⟩
  by_cases g6 : (lst xs).1 = 6
  · have h3 := hne 3 (by omega); have h4 := hne 4 (by omega); have h5 := hne 1 (by omega); have h6 := hne 2 (by omega); have h7 := hne 7 (by omega); have h8 := hne 8 (by omega)
    cases h1 : inM xs 5 <;> cases h2 : inM xs 6 <;> simp [h1, h2, h3, h4, h5, h6, h7, h8] <;> first | decide | exact ⟨_, ⟨rfl, by decide⟩, by decide⟩
  by_cases g7 : (lst xs).1 = 7
  · have h3 := hne 3 (by omega); have h4 := hne 4 (by omega); have h5 := hne 5 (by omega); have h6 := hne 6 (by omega); have h7 := hne 1 (by omega); have h8 := hne 2 (by omega)
    cases h1 : inM xs 7 <;> cases h2 : inM xs 8 <;> simp [h1, h2, h3, h4, h5, h6, h7, h8] <;> first | decide | exact ⟨_, ⟨rfl, by decide⟩, by decide⟩
  have h1 := hne 1 (by omega); have h2 := hne 2 (by omega); have h3 := hne 3 (by omega); have h4 := hne 4 (by omega); have h5 := hne 5 (by omega); have h6 := hne 6 (by omega); have h7 := hne 7 (by omega); have h8 := hne 8 (by omega)
  simp [h1, h2, h3, h4, h5, h6, h7, h8]

/-- how many tones stand at the tenor of a mode -/
def tnM (xs : List (Int × Bool)) (k : Int) : Int := ((xs.countP fun t => t.1 == mdT k : Nat) : Int)
theorem tnM_hit {xs : List (Int × Bool)} {j : Nat} {t : Int × Bool} {k : Int} (h : xs[j]? = some t) (he : t.1 = mdT k) : tnM (xs.take (j + 1)) k = tnM (xs.take j) k + 1 := by
  unfold tnM; rw [List.take_add_one, h, List.countP_append]; simp [he]
theorem tnM_miss {xs : List (Int × Bool)} {j : Nat} {t : Int × Bool} {k : Int} (h : xs[j]? = some t) (he : t.1 ≠ mdT k) : tnM (xs.take (j + 1)) k = tnM (xs.take j) k := by
  unfold tnM; rw [List.take_add_one, h, List.countP_append]; simp [he]
theorem tnM_bd (xs : List (Int × Bool)) (k : Int) : 0 ≤ tnM xs k ∧ tnM xs k ≤ xs.length := by
  unfold tnM; have := List.countP_le_length (p := fun t : Int × Bool => t.1 == mdT k) (l := xs); omega

/-- the likely one of modes, and how many tones stand at its tenor: the state of the loop -/
def lkF (xs : List (Int × Bool)) (a : Int × Int) (k : Int) : Int × Int := if a.2 < tnM xs k then (k, tnM xs k) else a
def lkS (xs : List (Int × Bool)) (L : List Int) : Int × Int := L.foldl (lkF xs) (0, -1)
theorem lkS_snoc {xs : List (Int × Bool)} {L : List Int} {j : Nat} {k : Int} (h : L[j]? = some k) : lkS xs (L.take (j + 1)) = lkF xs (lkS xs (L.take j)) k := by
  unfold lkS; rw [List.take_add_one, h, List.foldl_append]; rfl
theorem lkS_pos {xs : List (Int × Bool)} {L : List Int} (j : Nat) : j < L.length → (lkS xs (L.take (j + 1))).2 = tnM xs (lkS xs (L.take (j + 1))).1 ∧ (lkS xs (L.take (j + 1))).1 ∈ L := by
  induction j with
  | zero =>
    intro h
    have hk : L[0]? = some L[0] := List.getElem?_eq_getElem h
    have hb := tnM_bd xs L[0]
    rw [lkS_snoc hk]
    have e : lkS xs (L.take 0) = (0, -1) := rfl
    rw [e]
    unfold lkF
    rw [if_pos (by show (-1 : Int) < _; omega)]
    exact ⟨rfl, List.getElem_mem h⟩
  | succ j ih =>
    intro h
    have hk : L[j + 1]? = some L[j + 1] := List.getElem?_eq_getElem h
    obtain ⟨i1, i2⟩ := ih (by omega)
    rw [lkS_snoc hk]
    unfold lkF
    split
    · exact ⟨rfl, List.getElem_mem h⟩
    · exact ⟨i1, i2⟩
theorem lkS_full {xs : List (Int × Bool)} {L : List Int} (h : L ≠ []) : (lkS xs L).2 = tnM xs (lkS xs L).1 ∧ (lkS xs L).1 ∈ L ∧ 0 ≤ (lkS xs L).2 := by
  have hl : 0 < L.length := List.length_pos_iff.2 h
  have := lkS_pos (xs := xs) (L := L) (L.length - 1) (by omega)
  rw [show L.length - 1 + 1 = L.length by omega, List.take_length] at this
  exact ⟨this.1, this.2, by rw [this.1]; exact (tnM_bd _ _).1⟩
/-- the likely mode of a melody -/
def lkB (xs : List (Int × Bool)) : Bool := !(allM xs 8).isEmpty
def lkM (xs : List (Int × Bool)) : Int := (lkS xs (allM xs 8)).1
theorem lkM_no {xs : List (Int × Bool)} (h : allM xs 8 = []) : lkB xs = false ∧ lkM xs = 0 := by simp [lkB, lkM, h, lkS]
theorem lkB_eq (xs : List (Int × Bool)) : lkB xs = decide (0 ≤ (lkS xs (allM xs 8)).2) := by
  by_cases h : allM xs 8 = []
  · simp [lkB, h, lkS]
  · have := lkS_full (xs := xs) h
    simp [lkB, h, this.2.2]
/-- a maximum: no other one has more, nor as many ahead of it -/
theorem lkS_max {xs : List (Int × Bool)} {L : List Int} (hs : L.Pairwise (· < ·)) (j : Nat) (hj : j ≤ L.length) : ∀ k ∈ L.take j, tnM xs k ≤ (lkS xs (L.take j)).2 ∧ (tnM xs k = (lkS xs (L.take j)).2 → (lkS xs (L.take j)).1 ≤ k) := by
  induction j with
  | zero => intro k hk; simp at hk
  | succ j ih =>
    intro k hk
    have hlt : j < L.length := by omega
    have hx : L[j]? = some L[j] := List.getElem?_eq_getElem hlt
    rw [List.take_add_one, hx, List.mem_append] at hk
    rw [lkS_snoc hx]
    have hlt2 : ∀ k ∈ L.take j, k < L[j] := fun k hk => by
      obtain ⟨i, hi, rfl⟩ := List.mem_iff_getElem.1 hk
      rw [List.length_take] at hi
      rw [List.getElem_take]
      exact List.pairwise_iff_getElem.1 hs i j (by omega) hlt (by omega)
    unfold lkF
    split
    · rename_i hg
      rcases hk with hk | hk
      · have := ih (by omega) k hk
        exact ⟨by show _ ≤ tnM xs L[j]; omega, fun e => by exfalso; have e' : tnM xs k = tnM xs L[j] := e; omega⟩
      · simp at hk; subst hk; exact ⟨Int.le_refl _, fun _ => Int.le_refl _⟩
    · rename_i hg
      rcases hk with hk | hk
      · exact ih (by omega) k hk
      · simp at hk; subst hk
        refine ⟨by omega, fun e => ?_⟩
        cases j with
        | zero =>
          exfalso
          have hb := tnM_bd xs L[0]
          have e0 : (lkS xs (L.take 0)).2 = -1 := rfl
          omega
        | succ i =>
          have h1 := (lkS_pos (xs := xs) (L := L) i (by omega)).2
          have h2 : (lkS xs (L.take (i + 1))).1 ∈ L.take (i + 1) := by
            have h3 := (lkS_pos (xs := xs) (L := L.take (i + 1)) i (by simp; omega)).2
            rw [List.take_take, Nat.min_self] at h3
            exact h3
          exact Int.le_of_lt (hlt2 _ h2)
theorem allM_sorted (xs : List (Int × Bool)) (n : Nat) : (allM xs n).Pairwise (· < ·) := by
  unfold allM
  refine List.Pairwise.filter _ (List.pairwise_map.2 ?_)
  refine List.Pairwise.imp (R := (· < ·)) (fun h => ?_) List.pairwise_lt_range
  omega
end Go.Proofs.YtmipkodgkldmbaaDoor
