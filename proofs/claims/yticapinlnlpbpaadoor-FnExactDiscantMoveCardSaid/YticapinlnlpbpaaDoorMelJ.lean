/-
  Two melodies joined, in both programs.
-/
import Derived.Test.YticapinlnlpbpaaDoorMelB
import Derived.Test.YticapinlnlpbpaaDoorTurn
import Derived.Laws.AppendOwnNone
namespace Go.Proofs.YticapinlnlpbpaaDoor
open Go.RowKit
set_option maxRecDepth 100000
set_option linter.unusedVariables false

def jok (xs ys : List (Int × Bool)) : Bool := mv xs && mv ys && decide (xs.length + ys.length ≤ 24)
def jn (xs ys : List (Int × Bool)) : List (Int × Bool) := if jok xs ys then xs ++ ys else []
theorem jn_no {xs ys : List (Int × Bool)} (h : jok xs ys = false) : jn xs ys = [] := by simp [jn, h]
theorem jn_yes {xs ys : List (Int × Bool)} (h : jok xs ys = true) : jn xs ys = xs ++ ys := by simp [jn, h]
theorem jok_mv (xs ys : List (Int × Bool)) : (mv xs && mv ys && mv (xs ++ ys)) = jok xs ys := by
  unfold jok
  by_cases h1 : mv xs = true
  · by_cases h2 : mv ys = true
    · have a1 : allv xs = true := by simp [mv] at h1; exact h1.2
      have a2 : allv ys = true := by simp [mv] at h2; exact h2.2
      have a3 : allv (xs ++ ys) = true := by unfold allv at *; rw [List.all_append, a1, a2]; rfl
      have e : mv (xs ++ ys) = decide (xs.length + ys.length ≤ 24) := by unfold mv; rw [a3, List.length_append, Bool.and_true]
      rw [e]
    · simp [h2]
  · simp [h1]

theorem Mel.join_ {w : World} {lo : Nat} {p : Option Addr} {xs : List (Int × Bool)} (h : Mel w lo p xs) : xs = [] ↔ p = none := by
  cases xs with
  | nil => simp [Mel] at h; simp [h]
  | cons t r => obtain ⟨B, q, rfl, _⟩ := h; simp

def JBuilt (w : World) (lo : Nat) (xs : List (Int × Bool)) (e : Ending) (w' : World) : Prop :=
  ∃ p, e = .returned (.pointer p) ∧ Mel w' lo p xs ∧ Below w.heap.size w w'

theorem empty_row (w : World) : TRow (w.alloc (.cells #[] 41)) w.heap.size (w.alloc (.cells #[] 41)).heap.size (.slice (some ⟨w.heap.size, 0, none⟩) 0 0) [] := by
  refine ⟨⟨rfl, .inr ⟨w.heap.size, 0, #[], rfl, Nat.le_refl _, heap_alloc_new w _, by simp, by simp [maxLen], by simp, by simp [tcs]⟩⟩, fun g hg => ?_⟩
  have : g = w.heap.size := by simpa [Value.ownBlock] using hg.symm
  simp
  omega
theorem own_trow {w : World} {lo hi : Nat} {v : Value} {xs : List (Int × Bool)} (h : TRow w lo hi v xs) : ∃ a c, v = .slice a xs.length c := by
  rcases h.form with ⟨rfl, rfl⟩ | ⟨g, cap, rfl, _⟩
  · exact ⟨none, 0, rfl⟩
  · exact ⟨_, _, rfl⟩

/-- tones appended to a row of the call's own, out of another slice *)-/
theorem append_tones {w : World} {ops : Array Oper} {rest : List Oper} {o : Oper} {a : Act} {Q : Exit → Act → World → Prop} (hgd : o.guard = none) (s x : Operand)
    (ho : o.op = .call { callee := .builtin .append, args := #[s, x], argTypes := #[52, 52] })
    (base lo hi : Nat) (v u : Value) (n : Nat) (cs : List Value) (ys : List (Int × Bool)) (hs : a.eval s = v) (hown : w.ownsRow base 41 2 v n cs) (hx : a.eval x = u) (hu : TRow w lo hi u ys)
    (hn : n ≤ 4000000) (hy : ys.length ≤ 4000000) (hbase : base ≤ w.heap.size)
    (h : ∀ v' w', w'.ownsRow base 41 2 v' (n + ys.length) (cs ++ tcs ys) → w.grownBy w' v.ownBlock → wpList Tryd.prog ops Q rest (a.put o.dst v') w') : wpList Tryd.prog ops Q (o :: rest) a w := by
  obtain ⟨i0, hi, hq0, hq1, hq2⟩ := info_parts infoTone
  rcases hu.1.2 with ⟨rfl, h0⟩ | ⟨g, cap, cur, rfl, _, hh, hc, _, hsz, htk⟩
  · have hy0 : ys = [] := List.eq_nil_of_length_eq_zero h0
    subst hy0
    exact wpList_append_own_none hgd s x _ ho base _ i0 2 Tryd.underlying52 hi v n cs hs hown hx (h v w (by simpa [tcs] using hown) (World.grownBy.refl _ _))
  · refine wpList_append_own w hgd s x _ ho base _ i0 (.agg #[.int .i64 0, .bool false]) 2 16 Tryd.underlying52 hi hq0 hq1 hq2 rfl (by decide) v n cs hs hown ⟨g, 0, none⟩ ys.length cap (tcs ys) hx (tcs_len ys) (fun j z hz => ?_) (tcs_one ys) (by unfold maxLen; omega) (by omega) hbase
      (fun v' w' h1 h2 _ => h v' w' h1 h2)
    exact hu.1.cells (g := g) rfl j z hz
end Go.Proofs.YticapinlnlpbpaaDoor
