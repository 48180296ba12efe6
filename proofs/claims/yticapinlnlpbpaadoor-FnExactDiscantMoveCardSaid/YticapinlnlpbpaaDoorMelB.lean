/-
  A melody backwards, in both programs.
-/
import Derived.Test.YticapinlnlpbpaaDoorMelT
import Derived.Test.YticapinlnlpbpaaDoorMelV
namespace Go.Proofs.YticapinlnlpbpaaDoor
open Go.RowKit
set_option maxRecDepth 100000
set_option linter.unusedVariables false

def MBuilt (w : World) (xs : List (Int × Bool)) (e : Ending) (w' : World) : Prop :=
  ∃ p, e = .returned (.pointer p) ∧ Mel w' w.heap.size p xs ∧ Below w.heap.size w w'
def BkInv (w wr : World) (m o : Value) (xs ys : List (Int × Bool)) : Prop :=
  ∃ p q, m = .pointer p ∧ o = .pointer q ∧ (∃ lo, Mel wr lo p ys) ∧ Mel wr w.heap.size q xs ∧ Below w.heap.size w wr

/-- a list of tones that a call has built, and whether it succeeds -/
def TBuilt2 (w : World) (xs : List (Int × Bool)) (ok : Bool) (e : Ending) (w' : World) : Prop :=
  ∃ v, e = .returned (.tuple #[v, .bool ok]) ∧ TRow w' w.heap.size w'.heap.size v xs ∧ Below w.heap.size w w'

theorem mvl_back (xs : List (Int × Bool)) : (mvl xs).reverse.length ≤ 24 := by rw [List.length_reverse]; exact mvl_len xs

/-- the model's loop behind all but k tones -/
def SbInv (w wr : World) (xs : List (Int × Bool)) (k : Nat) (o i : Value) : Prop :=
  i = .int .i64 ((k : Int) - 1) ∧ k ≤ xs.length ∧ wr.ownsRow w.heap.size 41 2 o (xs.length - k) (tcs (xs.drop k).reverse) ∧ Below w.heap.size w wr
end Go.Proofs.YticapinlnlpbpaaDoor
