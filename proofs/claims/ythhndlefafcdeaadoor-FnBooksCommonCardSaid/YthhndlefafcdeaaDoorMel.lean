/-
  Melodies as linked lists: what hangs on a pointer, and how it is built.
-/
import Derived.Test.YthhndlefafcdeaaDoorTL
import Derived.LaidEqlPtr
namespace Go.Proofs.YthhndlefafcdeaaDoor
open Go.RowKit
set_option maxRecDepth 100000
set_option linter.unusedVariables false

/-- are all of them tones? -/
def allv (xs : List (Int × Bool)) : Bool := xs.all fun t => vd t.1 t.2
/-- is the list a melody? -/
def mv (xs : List (Int × Bool)) : Bool := decide (xs.length ≤ 24) && allv xs
/-- the melody, the empty one if the list is none -/
def mvl (xs : List (Int × Bool)) : List (Int × Bool) := if mv xs then xs else []

theorem mv_long {xs : List (Int × Bool)} (h : 24 < xs.length) : mv xs = false := by simp [mv]; omega
theorem mv_bad {xs : List (Int × Bool)} {k : Nat} {t : Int × Bool} (h : xs[k]? = some t) (hv : vd t.1 t.2 = false) : mv xs = false := by
  have : allv xs = false := by
    unfold allv
    rw [List.all_eq_false]
    exact ⟨t, List.mem_of_getElem? h, by simp [hv]⟩
  simp [mv, this]
theorem mv_all {xs : List (Int × Bool)} (h : xs.length ≤ 24) (hv : allv xs = true) : mv xs = true := by simp [mv, h, hv]
theorem mvl_no {xs : List (Int × Bool)} (h : mv xs = false) : mvl xs = [] := by simp [mvl, h]
theorem mvl_yes {xs : List (Int × Bool)} (h : mv xs = true) : mvl xs = xs := by simp [mvl, h]
theorem mvl_len (xs : List (Int × Bool)) : (mvl xs).length ≤ 24 := by
  unfold mvl
  split
  · rename_i h; simp [mv] at h; exact h.1
  · simp
theorem mvl_mem {xs : List (Int × Bool)} {t : Int × Bool} (h : t ∈ mvl xs) : vd t.1 t.2 = true := by
  unfold mvl at h
  split at h
  · rename_i g
    have g2 : allv xs = true := by simp [mv] at g; exact g.2
    exact List.all_eq_true.1 g2 t h
  · cases h
end Go.Proofs.YthhndlefafcdeaaDoor
