/-
  What is promised of ordines (mathematics).
-/
import Derived.Test.YthmkjdmjhngpjaaRhm
namespace Go.Proofs.Ythmkjdmjhngpjaa
set_option maxRecDepth 100000
set_option linter.unusedVariables false

/-- an ordo fills whole feet, a longer one begins alike, and its beats tell its mode -/
def ordChk (m : Int) (n : Nat) : Bool :=
  let F := smL (foot m); let T := smL (oLst m n); let R := oRst m n
  (F == 3 || F == 6) && ((T + R) % F == 0 && (decide (R < F) && (oBts m n == T + R && (oOk m ((n : Int) + 1) == decide (n ≠ 12) && ((n == 12 || (oLst m ((n : Int) + 1)).take n == oLst m n) && (rmds (oLst m n) 6).contains m)))))
theorem ordChk_all : ∀ a : Nat, a < 6 → ∀ b : Nat, b < 12 → ordChk ((a : Int) + 1) (b + 1) = true := by decide +kernel
theorem ord_facts {m : Int} {n : Nat} (h : oOk m n = true) : ordChk m n = true := by
  obtain ⟨h1, h2⟩ := oOk_in h
  have := ordChk_all (m - 1).toNat (by omega) (n - 1) (by omega)
  rw [show (((m - 1).toNat : Nat) : Int) + 1 = m by omega, show n - 1 + 1 = n by omega] at this
  exact this
theorem foot_get {m : Int} (h : 1 ≤ m ∧ m ≤ 6) : ∀ z ∈ foot m, 0 ≤ z ∧ z ≤ 3 := by
  rcases six h with rfl | rfl | rfl | rfl | rfl | rfl <;> decide
theorem any_take {xs : List Int} {m : Int} {k : Nat} (h : k < xs.length) : (xs.take (k + 1)).contains m = ((xs.take k).contains m || (xs.getD k 0 == m)) := by
  rw [List.take_add_one, List.getElem?_eq_getElem h, List.getD_eq_getElem?_getD, List.getElem?_eq_getElem h]
  simp only [Option.toList_some, Option.getD_some, List.contains_append, List.contains_cons, List.contains_nil, Bool.or_false]
  congr 1
  rw [Bool.eq_iff_iff, beq_iff_eq, beq_iff_eq]
  exact eq_comm
end Go.Proofs.Ythmkjdmjhngpjaa
