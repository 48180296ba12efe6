/-
  A text cut at its spaces: plain mathematics.
-/
import Derived.Test.YtjodcaeohkjlnaaDoorBase
import Derived.Lib.SplitLaws
import Derived.Lib.Join
namespace Go.Proofs.YtjodcaeohkjlnaaDoor
set_option maxRecDepth 100000
set_option linter.unusedVariables false

/-- c in front of the first word -/
def pre1 (c : UInt8) : List (List UInt8) → List (List UInt8)
  | [] => [[c]]
  | w :: ws => (c :: w) :: ws
/-- the words between spaces -/
def cutW : List UInt8 → List (List UInt8)
  | [] => [[]]
  | c :: l => if c = 32 then [] :: cutW l else pre1 c (cutW l)
theorem cutW_ne (l : List UInt8) : cutW l ≠ [] := by
  cases l with
  | nil => simp [cutW]
  | cons c l =>
    unfold cutW
    split
    · simp
    · unfold pre1; split <;> simp
theorem cutW_cons_sp (l : List UInt8) : cutW (32 :: l) = [] :: cutW l := by simp [cutW]
theorem cutW_cons {c : UInt8} (h : c ≠ 32) (l : List UInt8) : cutW (c :: l) = pre1 c (cutW l) := by simp [cutW, h]

theorem index_cons_ne {b : UInt8} (h : b ≠ 32) (l : List UInt8) : Lib.index (b :: l) [32] = if Lib.index l [32] == -1 then -1 else Lib.index l [32] + 1 := by
  have e : ([32] : List UInt8).isPrefixOf (b :: l) = false := by
    simp [List.isPrefixOf]; exact fun e => h e.symm
  rw [Lib.index, e]; rfl
theorem index_cons_eq (l : List UInt8) : Lib.index (32 :: l) [32] = 0 := by
  have e : ([32] : List UInt8).isPrefixOf (32 :: l) = true := by simp [List.isPrefixOf]
  rw [Lib.index, e]; rfl
theorem index_ge1 (l : List UInt8) : -1 ≤ Lib.index l [32] := by
  induction l with
  | nil => simp [Lib.index]
  | cons b l ih =>
    by_cases h : b = 32
    · subst h; rw [index_cons_eq]; omega
    · rw [index_cons_ne h]; split <;> omega
theorem splitK_ne {b : UInt8} (h : b ≠ 32) (k : Nat) (l : List UInt8) : Lib.splitK [32] 0 k (b :: l) = pre1 b (Lib.splitK [32] 0 k l) := by
  cases k with
  | zero => rfl
  | succ k =>
    have hg := index_ge1 l
    unfold Lib.splitK
    rw [index_cons_ne h]
    by_cases g : Lib.index l [32] = -1
    · simp [g, pre1]
    · have g1 : (Lib.index l [32] == -1) = false := by simpa using g
      have g2 : (Lib.index l [32] + 1 == -1) = false := by simp; omega
      obtain ⟨i, hi⟩ : ∃ i : Nat, Lib.index l [32] = i := ⟨(Lib.index l [32]).toNat, by omega⟩
      rw [hi] at g1 g2 ⊢
      have e : ((i : Int) + 1).toNat = i + 1 := by omega
      simp only [g1, g2, Bool.false_eq_true, if_false, e, pre1]
      simp
theorem splitK_eq (k : Nat) (l : List UInt8) : Lib.splitK [32] 0 (k + 1) (32 :: l) = [] :: Lib.splitK [32] 0 k l := by
  show (if Lib.index (32 :: l) [32] == -1 then [32 :: l] else (32 :: l).take ((Lib.index (32 :: l) [32]).toNat + 0) :: Lib.splitK [32] 0 k ((32 :: l).drop ((Lib.index (32 :: l) [32]).toNat + 1))) = _
  rw [index_cons_eq]
  rfl
theorem split_cut (l : List UInt8) : Lib.splitK [32] 0 (Lib.count l [32]) l = cutW l := by
  induction l with
  | nil => rfl
  | cons b l ih =>
    by_cases h : b = 32
    · subst h
      rw [Lib.count_cons_eq, Nat.add_comm, splitK_eq, ih, cutW_cons_sp]
    · rw [Lib.count_cons_ne _ _ _ h, splitK_ne h, ih, cutW_cons h]

/-- one byte more behind -/
theorem pre1_app {c : UInt8} {a b : List (List UInt8)} (h : a ≠ []) : pre1 c (a ++ b) = pre1 c a ++ b := by
  cases a with
  | nil => exact absurd rfl h
  | cons w ws => rfl
theorem cutW_snoc_sp (l : List UInt8) : cutW (l ++ [32]) = cutW l ++ [[]] := by
  induction l with
  | nil => rfl
  | cons b l ih =>
    by_cases h : b = 32
    · subst h
      rw [List.cons_append, cutW_cons_sp, cutW_cons_sp, ih]; rfl
    · rw [List.cons_append, cutW_cons h, cutW_cons h, ih, pre1_app (cutW_ne l)]
theorem cutW_word {m : List UInt8} (h : ∀ c ∈ m, c ≠ 32) : cutW m = [m] := by
  induction m with
  | nil => rfl
  | cons b l ih =>
    rw [cutW_cons (h b List.mem_cons_self), ih (fun c hc => h c (List.mem_cons_of_mem _ hc))]; rfl
/-- what stands behind a space is cut by itself -/
theorem cutW_app (l m : List UInt8) : cutW (l ++ 32 :: m) = cutW l ++ cutW m := by
  induction l with
  | nil => rfl
  | cons b l ih =>
    by_cases h : b = 32
    · subst h
      rw [List.cons_append, cutW_cons_sp, cutW_cons_sp, ih]; rfl
    · rw [List.cons_append, cutW_cons h, cutW_cons h, ih, pre1_app (cutW_ne l)]
/-- the words joined again are the text -/
theorem join_cut (l : List UInt8) : Lib.join (cutW l) [32] = l := by
  induction l with
  | nil => rfl
  | cons b l ih =>
    obtain ⟨w, ws, e⟩ : ∃ w ws, cutW l = w :: ws := by
      cases h : cutW l with
      | nil => exact absurd h (cutW_ne l)
      | cons w ws => exact ⟨w, ws, rfl⟩
    by_cases h : b = 32
    · subst h
      rw [cutW_cons_sp, e]
      rw [e] at ih
      rw [Lib.join_cons] at ih ⊢
      rw [← ih]
      simp [Lib.joinTail]
    · rw [cutW_cons h, e]
      rw [e] at ih
      show Lib.join ((b :: w) :: ws) [32] = _
      rw [Lib.join_cons] at ih ⊢
      rw [← ih]; rfl
theorem cutW_len (l : List UInt8) : (cutW l).length = l.count 32 + 1 := by
  induction l with
  | nil => rfl
  | cons b l ih =>
    by_cases h : b = 32
    · subst h; rw [cutW_cons_sp, List.length_cons, ih]; simp
    · rw [cutW_cons h]
      have : (pre1 b (cutW l)).length = (cutW l).length := by
        cases hc : cutW l with
        | nil => exact absurd hc (cutW_ne l)
        | cons w ws => rfl
      rw [this, ih, List.count_cons]
      simp [h]
end Go.Proofs.YtjodcaeohkjlnaaDoor
