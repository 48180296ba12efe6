/-
  The rhythmic modes: their feet, ordines and rests (mathematics).
-/
import Derived.Lib.Hide
namespace Go.Proofs.YtaelkgpebhdlhaaGreatDoor
set_option maxRecDepth 100000
set_option linter.unusedVariables false

/-- the foot of a rhythmic mode -/
def foot (m : Int) : List Int :=
  if m = 1 then [2, 1] else if m = 2 then [1, 2] else if m = 3 then [3, 1, 2] else if m = 4 then [1, 2, 3] else if m = 5 then [3, 3] else if m = 6 then [1, 1, 1] else []
theorem foot_no {m : Int} (h : ¬ (1 ≤ m ∧ m ≤ 6)) : foot m = [] := by
  unfold foot
  repeat (rw [if_neg (by omega)])
theorem six {m : Int} (h : 1 ≤ m ∧ m ≤ 6) : m = 1 ∨ m = 2 ∨ m = 3 ∨ m = 4 ∨ m = 5 ∨ m = 6 := by omega
/-- what every foot is -/
theorem foot_yes {m : Int} (h : 1 ≤ m ∧ m ≤ 6) : ((foot m).length = 2 ∨ (foot m).length = 3) ∧ ∀ j, j < (foot m).length → 1 ≤ (foot m).getD j 0 ∧ (foot m).getD j 0 ≤ 3 := by
  rcases six h with rfl | rfl | rfl | rfl | rfl | rfl <;> exact ⟨by decide, by decide⟩

/-- the first n beats of feet -/
def cyc (f : List Int) (n : Nat) : List Int := (List.range n).map fun i => f.getD (i % f.length) 0
theorem cyc_len (f : List Int) (n : Nat) : (cyc f n).length = n := by simp [cyc]
theorem cyc_succ (f : List Int) (n : Nat) : cyc f (n + 1) = cyc f n ++ [f.getD (n % f.length) 0] := by simp [cyc, List.range_succ]
/-- j beats from the n-th one on -/
def rsm (f : List Int) (n : Nat) : Nat → Int
  | 0 => 0
  | j + 1 => rsm f n j + f.getD ((n + j) % f.length) 0
/-- how many beats are lacking -/
def lack (L n : Nat) : Nat := (L - n % L) % L
/-- the rest behind n beats -/
def rst (f : List Int) (n : Nat) : Int := rsm f n (lack f.length n)
theorem rsm_le {f : List Int} (h : ∀ j, j < f.length → 1 ≤ f.getD j 0 ∧ f.getD j 0 ≤ 3) (hl : 0 < f.length) (n : Nat) : ∀ j, 0 ≤ rsm f n j ∧ rsm f n j ≤ 3 * (j : Int)
  | 0 => ⟨by simp [rsm], by simp [rsm]⟩
  | j + 1 => by
    have := rsm_le h hl n j
    have h2 := h ((n + j) % f.length) (Nat.mod_lt _ hl)
    simp only [rsm]
    omega
theorem lack_two {n j : Nat} : (j < lack 2 n → (n + j) % 2 ≠ 0) ∧ (n + lack 2 n) % 2 = 0 ∧ lack 2 n < 2 := by unfold lack; omega
theorem lack_three {n j : Nat} : (j < lack 3 n → (n + j) % 3 ≠ 0) ∧ (n + lack 3 n) % 3 = 0 ∧ lack 3 n < 3 := by unfold lack; omega
theorem cyc_in {f : List Int} (h : ∀ j, j < f.length → 1 ≤ f.getD j 0 ∧ f.getD j 0 ≤ 3) (hl : 0 < f.length) {n : Nat} {z : Int} (hz : z ∈ cyc f n) : 1 ≤ z ∧ z ≤ 3 := by
  simp only [cyc, List.mem_map, List.mem_range] at hz
  obtain ⟨i, _, rfl⟩ := hz
  exact h _ (Nat.mod_lt _ hl)

/-- is there an ordo of n tones in mode m -/
def oOk (m n : Int) : Bool := decide (1 ≤ m) && decide (m ≤ 6) && (decide (1 ≤ n) && decide (n ≤ 12))
def oLst (m n : Int) : List Int := if oOk m n then cyc (foot m) n.toNat else []
def oRst (m n : Int) : Int := if oOk m n then rst (foot m) n.toNat else 0
theorem oOk_yes {m n : Int} (hm : 1 ≤ m ∧ m ≤ 6) (hn : 1 ≤ n ∧ n ≤ 12) : oOk m n = true := by simp [oOk, hm, hn]
theorem oOk_in {m n : Int} (h : oOk m n = true) : (1 ≤ m ∧ m ≤ 6) ∧ (1 ≤ n ∧ n ≤ 12) := by simpa [oOk, and_assoc] using h
theorem oOk_no1 {m n : Int} (h : ¬ (1 ≤ m ∧ m ≤ 6)) : oOk m n = false := by
  cases e : oOk m n with
  | false => rfl
  | true => exact absurd (oOk_in e).1 h
theorem oOk_no2 {m n : Int} (h : ¬ (1 ≤ n ∧ n ≤ 12)) : oOk m n = false := by
  cases e : oOk m n with
  | false => rfl
  | true => exact absurd (oOk_in e).2 h
theorem oNo {m n : Int} (h : oOk m n = false) : oLst m n = [] ∧ oRst m n = 0 := by simp [oLst, oRst, h]
theorem oYes {m n : Int} (h : oOk m n = true) : oLst m n = cyc (foot m) n.toNat ∧ oRst m n = rst (foot m) n.toNat := by simp [oLst, oRst, h]
theorem oLst_len {m n : Int} : (oLst m n).length ≤ 12 := by
  cases h : oOk m n with
  | false => rw [(oNo h).1]; simp
  | true => rw [(oYes h).1, cyc_len]; have := oOk_in h; omega
theorem oLst_in {m n z : Int} (hz : z ∈ oLst m n) : 1 ≤ z ∧ z ≤ 3 := by
  cases h : oOk m n with
  | false => rw [(oNo h).1] at hz; cases hz
  | true =>
    rw [(oYes h).1] at hz
    have hf := foot_yes (oOk_in h).1
    exact cyc_in hf.2 (by omega) hz
theorem oRst_in {m n : Int} : 0 ≤ oRst m n ∧ oRst m n ≤ 6 := by
  cases h : oOk m n with
  | false => rw [(oNo h).2]; omega
  | true =>
    rw [(oYes h).2]
    have hf := foot_yes (oOk_in h).1
    unfold rst
    have h2 := rsm_le hf.2 (by omega) n.toNat (lack (foot m).length n.toNat)
    have h3 : lack (foot m).length n.toNat ≤ 2 := by
      rcases hf.1 with e | e <;> rw [e]
      · have := (lack_two (n := n.toNat) (j := 0)).2.2; omega
      · have := (lack_three (n := n.toNat) (j := 0)).2.2; omega
    omega

/-- the sum of a list -/
def smL (xs : List Int) : Int := xs.foldl (· + ·) 0
theorem smF (a : Int) (xs : List Int) : xs.foldl (· + ·) a = a + xs.foldl (· + ·) 0 := by
  induction xs generalizing a with
  | nil => simp
  | cons x r ih => simp only [List.foldl_cons]; rw [ih (a + x), ih (0 + x)]; omega
theorem smL_cons (x : Int) (xs : List Int) : smL (x :: xs) = x + smL xs := by unfold smL; rw [List.foldl_cons, smF]; omega
theorem smL_nil : smL [] = 0 := rfl
theorem smL_app (xs ys : List Int) : smL (xs ++ ys) = smL xs + smL ys := by
  induction xs with
  | nil => simp [smL_nil]
  | cons x r ih => rw [List.cons_append, smL_cons, smL_cons, ih]; omega
theorem smL_take {xs : List Int} {k : Nat} (h : k < xs.length) : smL (xs.take (k + 1)) = smL (xs.take k) + xs.getD k 0 := by
  rw [List.take_add_one, smL_app, List.getElem?_eq_getElem h, List.getD_eq_getElem?_getD, List.getElem?_eq_getElem h]
  simp [smL]
theorem smL_in {xs : List Int} {a : Int} (h : ∀ z ∈ xs, 0 ≤ z ∧ z ≤ a) : 0 ≤ smL xs ∧ smL xs ≤ a * (xs.length : Int) := by
  induction xs with
  | nil => simp [smL_nil]
  | cons x r ih =>
    have h1 := ih fun z hz => h z (List.mem_cons_of_mem _ hz)
    have h2 := h x List.mem_cons_self
    rw [smL_cons]
    have e : a * ((x :: r).length : Int) = a * (r.length : Int) + a := by simp [Int.mul_add]
    omega
def oBts (m n : Int) : Int := if oOk m n then smL (oLst m n) + oRst m n else -1

/-- the modes up to k whose ordo the beats are -/
def rmds (zs : List Int) : Nat → List Int
  | 0 => []
  | k + 1 => if oOk ((k : Int) + 1) zs.length && (oLst ((k : Int) + 1) zs.length == zs) then rmds zs k ++ [(k : Int) + 1] else rmds zs k
theorem rmds_len (zs : List Int) : ∀ k, (rmds zs k).length ≤ k
  | 0 => by simp [rmds]
  | k + 1 => by
    have := rmds_len zs k
    simp only [rmds]
    split
    · simp; omega
    · omega
theorem rmds_hit {zs : List Int} {k : Nat} (h : oOk ((k : Int) + 1) zs.length = true) (h2 : oLst ((k : Int) + 1) zs.length = zs) : rmds zs (k + 1) = rmds zs k ++ [(k : Int) + 1] := by
  simp only [rmds]
  rw [if_pos (by rw [h, h2]; simp)]
theorem rmds_miss1 {zs : List Int} {k : Nat} (h : oOk ((k : Int) + 1) zs.length = false) : rmds zs (k + 1) = rmds zs k := by
  simp only [rmds]
  rw [if_neg (by rw [h]; simp)]
theorem rmds_miss2 {zs : List Int} {k : Nat} (h : oLst ((k : Int) + 1) zs.length ≠ zs) : rmds zs (k + 1) = rmds zs k := by
  simp only [rmds]
  rw [if_neg (by simp [h])]
end Go.Proofs.YtaelkgpebhdlhaaGreatDoor
