/-
  How many lists of steps have a contour: some, where the greatest step is not below the greatest of the lowest ones. Plain mathematics.
-/
import Derived.Test.YtjodcaeohkjlnabCo
import Derived.Test.YtjodcaeohkjlnabCn
namespace Go.Proofs.Ytjodcaeohkjlnab
set_option maxRecDepth 100000
set_option linter.unusedVariables false

theorem ctot_in {e : Nat → Int} : ∀ {n : Nat}, 0 < ctot e n → ∃ a, a < n ∧ 0 < e a := by
  intro n
  induction n with
  | zero => intro h; exact absurd h (Int.lt_irrefl 0)
  | succ n ih =>
    intro h
    by_cases g : 0 < e n
    · exact ⟨n, Nat.lt_succ_self n, g⟩
    · have h' : ctot e n + e n > 0 := h
      obtain ⟨a, ha, hp⟩ := ih (by omega)
      exact ⟨a, by omega, hp⟩
theorem ctot_some {e : Nat → Int} (h0 : ∀ a, 0 ≤ e a) : ∀ {n a : Nat}, a < n → 0 < e a → 0 < ctot e n := by
  intro n
  induction n with
  | zero => intro a h; omega
  | succ n ih =>
    intro a h hp
    show 0 < ctot e n + e n
    have hn : 0 ≤ ctot e n := (ctot_more h0 (Nat.zero_le n))
    by_cases g : a = n
    · subst g; omega
    · have := ih (a := a) (by omega) hp
      have := h0 n
      omega
theorem take_get {l : List UInt8} {k : Nat} (h : k < l.length) : l.take (k + 1) = l.take k ++ [l.getD k 0] := by
  rw [List.take_add_one, List.getElem?_eq_getElem h, List.getD_eq_getElem?_getD, List.getElem?_eq_getElem h]
  rfl
theorem cone_pos (m : Nat) (l : List UInt8) (b : Nat) : 0 ≤ cfin m l cone b := cfin_nonneg m l cone (fun _ => by simp [cone]) b
/-- a list that is counted -/
theorem cfin_in {m : Nat} {l : List UInt8} : ∀ {k b : Nat}, k ≤ l.length → b ≤ m → 0 < cfin m (l.take k) cone b → ∃ f : Nat → Nat, (∀ j, j ≤ k → f j ≤ m) ∧ (∀ j, j < k → wy (f j) (f (j + 1)) = l.getD j 0) ∧ f k = b := by
  intro k
  induction k with
  | zero => intro b _ hb _; exact ⟨fun _ => b, fun _ _ => hb, fun j hj => by omega, rfl⟩
  | succ k ih =>
    intro b hk hb hp
    rw [take_get (by omega), cfin_snoc] at hp
    obtain ⟨a, ha, hpa⟩ := ctot_in (e := fun a => if wy a b = l.getD k 0 then cfin m (l.take k) cone a else 0) hp
    (try dsimp only at hpa)
    by_cases hw : wy a b = l.getD k 0
    · rw [if_pos hw] at hpa
      obtain ⟨f, h1, h2, h3⟩ := ih (b := a) (by omega) (by omega) hpa
      refine ⟨fun j => if j = k + 1 then b else f j, fun j hj => ?_, fun j hj => ?_, by simp⟩
      · (try dsimp only)
        split
        · exact hb
        · exact h1 j (by omega)
      · (try dsimp only)
        by_cases g : j = k
        · subst g
          rw [if_neg (by omega), if_pos rfl, h3]
          exact hw
        · rw [if_neg (by omega), if_neg (by omega)]
          exact h2 j (by omega)
    · rw [if_neg hw] at hpa
      exact absurd hpa (Int.lt_irrefl 0)
theorem cfin_some {m : Nat} {l : List UInt8} {f : Nat → Nat} (h1 : ∀ j, j ≤ l.length → f j ≤ m) (h2 : ∀ j, j < l.length → wy (f j) (f (j + 1)) = l.getD j 0) : ∀ {k : Nat}, k ≤ l.length → 0 < cfin m (l.take k) cone (f k) := by
  intro k
  induction k with
  | zero => intro _; rw [List.take_zero]; show (0 : Int) < 1; decide
  | succ k ih =>
    intro hk
    rw [take_get (by omega), cfin_snoc]
    show 0 < ctot (fun a => if wy a (f (k + 1)) = l.getD k 0 then cfin m (l.take k) cone a else 0) (m + 1)
    refine ctot_some (fun a => ?_) (a := f k) (by have := h1 k (by omega); omega) ?_
    · (try dsimp only)
      split
      · exact cone_pos m _ a
      · exact Int.le_refl _
    · (try dsimp only)
      rw [if_pos (h2 k (by omega))]
      exact ih (by omega)
/-- some lists have the contour just where the lowest steps are none too high -/
theorem ccnt_pos {m : Nat} {l : List UInt8} (hl : l.all wayb = true) : 0 < ccnt m l ↔ ∀ j, j ≤ l.length → lst l j ≤ m := by
  constructor
  · intro h j hj
    obtain ⟨b, hb, hp⟩ := ctot_in h
    have hp' : 0 < cfin m (l.take l.length) cone b := by rw [List.take_length]; exact hp
    obtain ⟨f, h1, h2, h3⟩ := cfin_in (Nat.le_refl _) (by omega) hp'
    have := lst_low (l := l) (f := fun j => ((f j : Nat) : Int)) (fun j _ => by simp) (fun k hk => by rw [wyi_nat]; exact h2 k hk) j hj
    have := h1 j hj
    omega
  · intro h
    have hp := cfin_some (m := m) (l := l) (f := lst l) h (fun j hj => by
      rw [← wyi_nat]
      refine lst_way hj ?_
      rw [List.getD_eq_getElem?_getD, List.getElem?_eq_getElem hj]
      exact List.all_eq_true.1 hl _ (List.getElem_mem hj)) (Nat.le_refl l.length)
    rw [List.take_length] at hp
    exact ctot_some (cone_pos m l) (a := lst l l.length) (by have := h l.length (Nat.le_refl _); omega) hp

/-- the least and the greatest of the first places, the first one with them -/
def mnf (f : Nat → Int) : Nat → Int
  | 0 => f 0
  | k + 1 => if f k < mnf f k then f k else mnf f k
def mxf (f : Nat → Int) : Nat → Int
  | 0 => f 0
  | k + 1 => if mxf f k < f k then f k else mxf f k
theorem mnf_le {f : Nat → Int} : ∀ {k j : Nat}, j < k → mnf f k ≤ f j := by
  intro k
  induction k with
  | zero => intro j h; omega
  | succ k ih =>
    intro j h
    unfold mnf
    by_cases g : j = k
    · subst g; split <;> omega
    · have := ih (j := j) (by omega); split <;> omega
theorem mnf_in {f : Nat → Int} {n : Nat} (hn : 0 < n) : ∀ {k : Nat}, k ≤ n → ∃ j, j < n ∧ mnf f k = f j := by
  intro k
  induction k with
  | zero => intro _; exact ⟨0, hn, rfl⟩
  | succ k ih =>
    intro h
    unfold mnf
    split
    · exact ⟨k, by omega, rfl⟩
    · exact ih (by omega)
theorem mxf_le {f : Nat → Int} : ∀ {k j : Nat}, j < k → f j ≤ mxf f k := by
  intro k
  induction k with
  | zero => intro j h; omega
  | succ k ih =>
    intro j h
    unfold mxf
    by_cases g : j = k
    · subst g; split <;> omega
    · have := ih (j := j) (by omega); split <;> omega
theorem mxf_in {f : Nat → Int} {n : Nat} (hn : 0 < n) : ∀ {k : Nat}, k ≤ n → ∃ j, j < n ∧ mxf f k = f j := by
  intro k
  induction k with
  | zero => intro _; exact ⟨0, hn, rfl⟩
  | succ k ih =>
    intro h
    unfold mxf
    split
    · exact ⟨k, by omega, rfl⟩
    · exact ih (by omega)
/-- the ends of the lowest steps -/
theorem lst_ends {l : List UInt8} (hl : l.all wayb = true) : mnf (fun j => ((lst l j : Nat) : Int)) (l.length + 1) = 0 ∧ ∀ m : Nat, (0 < ccnt m l ↔ mxf (fun j => ((lst l j : Nat) : Int)) (l.length + 1) ≤ (m : Int)) := by
  constructor
  · obtain ⟨j, hj, h0⟩ := lst_zero l
    have a := mnf_le (f := fun j => ((lst l j : Nat) : Int)) (k := l.length + 1) (j := j) (by omega)
    obtain ⟨i, hi, e⟩ := mnf_in (f := fun j => ((lst l j : Nat) : Int)) (n := l.length + 1) (by omega) (k := l.length + 1) (Nat.le_refl _)
    (try dsimp only at a e)
    rw [h0] at a
    omega
  · intro m
    rw [ccnt_pos hl]
    constructor
    · intro h
      obtain ⟨i, hi, e⟩ := mxf_in (f := fun j => ((lst l j : Nat) : Int)) (n := l.length + 1) (by omega) (k := l.length + 1) (Nat.le_refl _)
      rw [e]
      have := h i (by omega)
      (try dsimp only)
      omega
    · intro h j hj
      have a := mxf_le (f := fun j => ((lst l j : Nat) : Int)) (k := l.length + 1) (j := j) (by omega)
      (try dsimp only at a)
      omega
end Go.Proofs.Ytjodcaeohkjlnab
