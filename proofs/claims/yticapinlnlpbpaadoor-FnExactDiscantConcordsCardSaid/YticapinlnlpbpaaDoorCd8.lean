/-
  Concords of two parts (mathematics): what strong beats and parallels are.
-/
import Derived.Test.YticapinlnlpbpaaDoorSlm
import Derived.Test.YticapinlnlpbpaaDoorIvm
namespace Go.Proofs.YticapinlnlpbpaaDoor
set_option maxRecDepth 100000
set_option linter.unusedVariables false

/-- do two tones make a concord -/
def cnc (t u : Int × Bool) : Bool := ivl (ivN t.1 u.1) (ivX t.1 t.2 u.1 u.2) == 112
theorem cnc_sym_all : ∀ t ∈ allT, ∀ u ∈ allT, cnc t u = cnc u t := by decide +kernel
theorem cnc_self_all : ∀ t ∈ allT, cnc t t = true := by decide +kernel
theorem cnc_up_all : ∀ t ∈ allT, ∀ u ∈ allT, vd (u.1 + 7) u.2 = true → cnc t u = true → cnc t (u.1 + 7, u.2) = true := by decide +kernel
theorem cnc_pur_all : ∀ t ∈ allT, ∀ u ∈ allT, cnc t u = true → pur (ivN t.1 u.1) = true := by decide +kernel

/-- do both parts make a concord at a beat -/
def cnk (ts us : List (Int × Bool)) (k : Nat) : Bool := cnc (tnA ts k) (tnA us k)
/-- the strong beats among the first ones at which they do -/
def cnL (ts us : List (Int × Bool)) : Nat → List Int
  | 0 => []
  | k + 1 => if k % 3 = 0 ∧ cnk ts us k = true then cnL ts us k ++ [(k : Int)] else cnL ts us k
theorem cnL_hit {ts us : List (Int × Bool)} {k : Nat} (h : k % 3 = 0) (h2 : cnk ts us k = true) : cnL ts us (k + 1) = cnL ts us k ++ [(k : Int)] := by simp [cnL, h, h2]
theorem cnL_weak {ts us : List (Int × Bool)} {k : Nat} (h : k % 3 ≠ 0) : cnL ts us (k + 1) = cnL ts us k := by simp [cnL, h]
theorem cnL_miss {ts us : List (Int × Bool)} {k : Nat} (h : cnk ts us k = false) : cnL ts us (k + 1) = cnL ts us k := by simp [cnL, h]
theorem cnL_len (ts us : List (Int × Bool)) : ∀ n, (cnL ts us n).length ≤ (n + 2) / 3
  | 0 => by simp [cnL]
  | n + 1 => by
    have := cnL_len ts us n
    by_cases h : n % 3 = 0
    · cases h2 : cnk ts us n with
      | true => rw [cnL_hit h h2, List.length_append, List.length_singleton]; omega
      | false => rw [cnL_miss h2]; omega
    · rw [cnL_weak h]; omega
/-- are all strong beats among the first n concords -/
theorem cnL_full (ts us : List (Int × Bool)) : ∀ n, (cnL ts us n).length = (n + 2) / 3 ↔ ∀ k, k < n → k % 3 = 0 → cnk ts us k = true
  | 0 => by simp [cnL]
  | n + 1 => by
    have ih := cnL_full ts us n
    have hl := cnL_len ts us n
    by_cases h : n % 3 = 0
    · cases h2 : cnk ts us n with
      | true =>
        rw [cnL_hit h h2, List.length_append, List.length_singleton]
        constructor
        · intro e k hk h3
          by_cases e2 : k = n
          · rw [e2]; exact h2
          · exact ih.1 (by omega) k (by omega) h3
        · intro e
          have := ih.2 (fun k hk h3 => e k (by omega) h3)
          omega
      | false =>
        rw [cnL_miss h2]
        constructor
        · intro e; omega
        · intro e
          have := e n (by omega) h
          rw [h2] at this
          cases this
    · rw [cnL_weak h]
      constructor
      · intro e k hk h3
        have : k ≠ n := fun e2 => h (by rw [← e2]; exact h3)
        exact ih.1 (by omega) k (by omega) h3
      · intro e
        have := ih.2 (fun k hk h3 => e k (by omega) h3)
        omega
/-- the next three beats -/
theorem cnL_three_hit {ts us : List (Int × Bool)} {j : Nat} (h2 : cnk ts us (3 * j) = true) : cnL ts us (3 * (j + 1)) = cnL ts us (3 * j) ++ [((3 * j : Nat) : Int)] := by
  rw [show 3 * (j + 1) = 3 * j + 1 + 1 + 1 by omega, cnL_weak (by omega), cnL_weak (by omega), cnL_hit (by omega) h2]
theorem cnL_three_miss {ts us : List (Int × Bool)} {j : Nat} (h2 : cnk ts us (3 * j) = false) : cnL ts us (3 * (j + 1)) = cnL ts us (3 * j) := by
  rw [show 3 * (j + 1) = 3 * j + 1 + 1 + 1 by omega, cnL_weak (by omega), cnL_weak (by omega), cnL_miss h2]
theorem cnL_end {ts us : List (Int × Bool)} {j n : Nat} (h : n ≤ 3 * j) (h2 : 3 * j < n + 3) : cnL ts us (3 * j) = cnL ts us n := by
  have : 3 * j = n ∨ 3 * j = n + 1 ∨ 3 * j = n + 2 := by omega
  rcases this with e | e | e
  · rw [e]
  · rw [e, cnL_weak (by omega)]
  · rw [e, cnL_weak (by omega), cnL_weak (by omega)]
theorem cnL_mem {ts us : List (Int × Bool)} : ∀ {n : Nat} {z : Int}, z ∈ cnL ts us n → ∃ k : Nat, z = (k : Int) ∧ k < n ∧ k % 3 = 0 ∧ cnk ts us k = true
  | 0, z, h => by simp [cnL] at h
  | n + 1, z, h => by
    by_cases h3 : n % 3 = 0 ∧ cnk ts us n = true
    · rw [cnL_hit h3.1 h3.2, List.mem_append] at h
      rcases h with h | h
      · obtain ⟨k, e, hk, r⟩ := cnL_mem h
        exact ⟨k, e, by omega, r⟩
      · rw [List.mem_singleton] at h
        exact ⟨n, h, by omega, h3⟩
    · have e : cnL ts us (n + 1) = cnL ts us n := by simp [cnL, h3]
      rw [e] at h
      obtain ⟨k, e, hk, r⟩ := cnL_mem h
      exact ⟨k, e, by omega, r⟩
theorem cnL_congr {ts us ps qs : List (Int × Bool)} : ∀ n, (∀ k, k < n → cnk ts us k = cnk ps qs k) → cnL ts us n = cnL ps qs n
  | 0, _ => rfl
  | n + 1, h => by
    have ih := cnL_congr n (fun k hk => h k (by omega))
    have e := h n (by omega)
    simp only [cnL, e, ih]
def dcc (xs ys : List Vc) : List Int := if tog xs ys then cnL (snd8 xs) (snd8 ys) (snd8 xs).length else []
theorem dcc_yes {xs ys : List Vc} (h : tog xs ys = true) : dcc xs ys = cnL (snd8 xs) (snd8 ys) (snd8 xs).length := by simp [dcc, h]
theorem dcc_no {xs ys : List Vc} (h : tog xs ys = false) : dcc xs ys = [] := by simp [dcc, h]
theorem tog_24 {xs ys : List Vc} (h : tog xs ys = true) : (snd8 xs).length ≤ 24 := by
  have h1 := pval_in (tog_in h).1
  have h2 := snd_len h1.1
  omega
theorem dcc_len (xs ys : List Vc) : (dcc xs ys).length ≤ 8 := by
  unfold dcc
  split
  · rename_i h
    have h1 := tog_24 h
    have h2 := cnL_len (snd8 xs) (snd8 ys) (snd8 xs).length
    omega
  · simp

/-- what must hold at a beat of good discant of n beats -/
def okk (ts us : List (Int × Bool)) (n k : Nat) : Bool := !(decide (k % 3 = 0) || decide (k + 1 = n)) || cnk ts us k
def okA (ts us : List (Int × Bool)) (n : Nat) : Nat → Bool
  | 0 => true
  | k + 1 => okA ts us n k && okk ts us n k
theorem okA_all {ts us : List (Int × Bool)} {n : Nat} : ∀ {m : Nat}, okA ts us n m = true ↔ ∀ k, k < m → okk ts us n k = true
  | 0 => by simp [okA]
  | m + 1 => by
    have ih := okA_all (ts := ts) (us := us) (n := n) (m := m)
    simp only [okA, Bool.and_eq_true, ih]
    constructor
    · rintro ⟨h, h2⟩ k hk
      by_cases e : k = m
      · rw [e]; exact h2
      · exact h k (by omega)
    · intro h
      exact ⟨fun k hk => h k (by omega), h m (by omega)⟩
theorem okA_bad {ts us : List (Int × Bool)} {n k m : Nat} (h : okk ts us n k = false) (hk : k < m) : okA ts us n m = false := by
  rw [← Bool.not_eq_true]
  intro e
  rw [okA_all.1 e k hk] at h
  cases h
theorem okA_next {ts us : List (Int × Bool)} {n k : Nat} (h : okA ts us n k = true) (h2 : okk ts us n k = true) : okA ts us n (k + 1) = true := by simp [okA, h, h2]
theorem okA_model {ts us : List (Int × Bool)} {n : Nat} (h : 0 < n) : okA ts us n n = (((cnL ts us n).length == (n + 2) / 3) && cnk ts us (n - 1)) := by
  rw [Bool.eq_iff_iff, Bool.and_eq_true, beq_iff_eq, cnL_full, okA_all]
  constructor
  · intro e
    refine ⟨fun k hk h3 => ?_, ?_⟩
    · have := e k hk
      simpa [okk, h3] using this
    · have := e (n - 1) (by omega)
      simpa [okk, show n - 1 + 1 = n by omega] using this
  · rintro ⟨e, e2⟩ k hk
    unfold okk
    by_cases h3 : k % 3 = 0
    · rw [e k hk h3]; simp
    · by_cases h4 : k + 1 = n
      · have : k = n - 1 := by omega
        rw [this, e2]; simp
      · simp [h3, h4]
def dok (xs ys : List Vc) : Bool := tog xs ys && okA (snd8 xs) (snd8 ys) (snd8 xs).length (snd8 xs).length
theorem dok_no {xs ys : List Vc} (h : tog xs ys = false) : dok xs ys = false := by simp [dok, h]
theorem dok_yes {xs ys : List Vc} (h : tog xs ys = true) : dok xs ys = okA (snd8 xs) (snd8 ys) (snd8 xs).length (snd8 xs).length := by simp [dok, h]

/-- do both parts go in parallel to the next beat -/
def prl (ts us : List (Int × Bool)) (k : Nat) : Bool := (decide (chg8 ts k ≠ 0) && decide (chg8 ts k = chg8 us k)) && (cnk ts us k && cnk ts us (k + 1))
def dpl (xs ys : List Vc) : Int := if tog xs ys then cnt (prl (snd8 xs) (snd8 ys)) ((snd8 xs).length - 1) else -1
theorem dpl_no {xs ys : List Vc} (h : tog xs ys = false) : dpl xs ys = -1 := by simp [dpl, h]
theorem dpl_yes {xs ys : List Vc} (h : tog xs ys = true) : dpl xs ys = cnt (prl (snd8 xs) (snd8 ys)) ((snd8 xs).length - 1) := by simp [dpl, h]
end Go.Proofs.YticapinlnlpbpaaDoor
