/-
  Does a list sing a melody? In both programs.
-/
import Derived.Test.YtbmgejiinnnomabMelV
import Derived.Test.YtbmgejiinnnomabHexs
import Derived.Test.YtbmgejiinnnomabInts
import Derived.IntWalk
namespace Go.Proofs.Ytbmgejiinnnomab
open Go.RowKit
set_option maxRecDepth 100000
set_option linter.unusedVariables false

/-- the first k tones have their syllables -/
def sung (xs : List (Int × Bool)) (zs : List Int) (k : Nat) : Bool :=
  (List.range k).all fun i => decide (0 ≤ hsy (zs.getD i 0) (xs.getD i (0, false)).1 (xs.getD i (0, false)).2)
def sok (xs : List (Int × Bool)) (zs : List Int) : Bool := mv xs && decide (zs.length = xs.length) && sung xs zs xs.length
theorem sok_no1 {xs : List (Int × Bool)} {zs : List Int} (h : mv xs = false) : sok xs zs = false := by simp [sok, h]
theorem sok_no2 {xs : List (Int × Bool)} {zs : List Int} (h : zs.length ≠ xs.length) : sok xs zs = false := by simp [sok, h]
theorem sok_no3 {xs : List (Int × Bool)} {zs : List Int} {k : Nat} {t : Int × Bool} (ht : xs[k]? = some t) (h : hsy (zs.getD k 0) t.1 t.2 < 0) : sok xs zs = false := by
  have hk : k < xs.length := (List.getElem?_eq_some_iff.1 ht).1
  have : sung xs zs xs.length = false := by
    unfold sung
    rw [List.all_eq_false]
    refine ⟨k, by simpa using hk, ?_⟩
    simp [List.getD_eq_getElem?_getD, ht] at h ⊢
    exact h
  simp [sok, this]
theorem sok_yes {xs : List (Int × Bool)} {zs : List Int} (h1 : mv xs = true) (h2 : zs.length = xs.length) (h3 : sung xs zs xs.length = true) : sok xs zs = true := by simp [sok, h1, h2, h3]
theorem sung_snoc {xs : List (Int × Bool)} {zs : List Int} {k : Nat} {t : Int × Bool} (ht : xs[k]? = some t) (h : sung xs zs k = true) (g : 0 ≤ hsy (zs.getD k 0) t.1 t.2) : sung xs zs (k + 1) = true := by
  unfold sung at h ⊢
  rw [List.range_succ, List.all_append, h]
  simp [List.getD_eq_getElem?_getD, ht] at g ⊢
  exact g
end Go.Proofs.Ytbmgejiinnnomab
