/-
  The differences of a melody's neighbours, in the program.
-/
import Derived.Test.YthnofdkkocpjhaaDoorMelT
import Derived.Test.YthnofdkkocpjhaaDoorMelV
import Derived.Test.YthnofdkkocpjhaaDoorInts
namespace Go.Proofs.YthnofdkkocpjhaaDoor
open Go.RowKit
set_option maxRecDepth 100000
set_option linter.unusedVariables false

theorem infoInt' : (Tryd.prog.info? 3).map (fun i => (i.zero, i.size, i.bytes)) = some (some (.int .i64 0), 1, 8) := by kernel_rfl

/-- a list of integers that a call has built: its block is its own -/
def IBuilt (w : World) (xs : List Int) (e : Ending) (w' : World) : Prop :=
  ∃ v, e = .returned v ∧ IRow w' w.heap.size w'.heap.size v xs ∧ Below w.heap.size w w'

/-- the first k differences of neighbours -/
def difs (d : Int → Bool → Int → Bool → Int) (xs : List (Int × Bool)) (k : Nat) : List Int :=
  (List.range k).map fun i => d (xs.getD i (0, false)).1 (xs.getD i (0, false)).2 (xs.getD (i + 1) (0, false)).1 (xs.getD (i + 1) (0, false)).2
theorem difs_len (d : Int → Bool → Int → Bool → Int) (xs : List (Int × Bool)) (k : Nat) : (difs d xs k).length = k := by simp [difs]
theorem difs_succ (d : Int → Bool → Int → Bool → Int) {xs : List (Int × Bool)} {k : Nat} {t u : Int × Bool} (h : xs[k]? = some t) (g : xs[k + 1]? = some u) : difs d xs (k + 1) = difs d xs k ++ [d t.1 t.2 u.1 u.2] := by
  simp [difs, List.range_succ, List.getD_eq_getElem?_getD, h, g]
theorem inews {w : World} {z : Int} {t : TypeId} : ∀ j u, ([.int .i64 z] : List Value)[j]? = some u → (w.alloc (.cells #[.int .i64 z] t)).cell? ((⟨w.heap.size, 0, none⟩ : Addr).add j) = some u := by
  intro j u hj
  match j, hj with
  | 0, hj => simp at hj; subst hj; simp [Addr.add]
theorem inews_one {z : Int} : ∀ u ∈ ([.int .i64 z] : List Value), u.oneCell' = true := by
  intro u hu; simp at hu; subst hu; rfl
theorem allv_at {xs : List (Int × Bool)} {k : Nat} {t : Int × Bool} (h : allv xs = true) (hx : xs[k]? = some t) : vd t.1 t.2 = true := List.all_eq_true.1 h t (List.mem_of_getElem? hx)

def DfInv (d : Int → Bool → Int → Bool → Int) (w wr : World) (m v : Value) (xs : List (Int × Bool)) (j : Nat) : Prop :=
  ∃ p, m = .pointer p ∧ wr.ownsRow w.heap.size 3 1 v j ((difs d xs j).map (Value.int .i64)) ∧ (∃ lo, Mel wr lo p (xs.drop j)) ∧ Below w.heap.size w wr

def stepsOf (xs : List (Int × Bool)) : List Int := difs stp (mvl xs) ((mvl xs).length - 1)
theorem mvl_allv (xs : List (Int × Bool)) : allv (mvl xs) = true := List.all_eq_true.2 fun t ht => mvl_mem ht
end Go.Proofs.YthnofdkkocpjhaaDoor
