/-
  Rows of integers that a call builds, one by one.
-/
import Derived.Test.YthnofdkkocpjhaaDoorInts
import Derived.OwnWalk
import Derived.Laws.Rows
namespace Go.Proofs.YthnofdkkocpjhaaDoor
open Go.RowKit
set_option maxRecDepth 100000
set_option linter.unusedVariables false

theorem infoIb : (Tryd.prog.info? 3).map (fun i => (i.zero, i.size, i.bytes)) = some (some (.int .i64 0), 1, 8) := by kernel_rfl
theorem own_ltb {w : World} {base e size n g : Nat} {v : Value} {xs : List Value} (h : w.ownsRow base e size v n xs) (hg : v.ownBlock = some g) : base ≤ g ∧ g < w.heap.size := by
  obtain ⟨_, h | ⟨g', cap, cur, rfl, hb, hh, _⟩⟩ := h
  · rw [h.1] at hg; simp [Value.ownBlock] at hg
  · have e : g' = g := by simpa [Value.ownBlock] using hg
    subst e
    refine ⟨hb, ?_⟩
    rcases Nat.lt_or_ge g' w.heap.size with h | h
    · exact h
    · rw [Array.getElem?_eq_none h] at hh; cases hh
/-- a list that a call has built: its block is its own -/
def IbMade (w : World) (xs : List Int) (e : Ending) (w' : World) : Prop :=
  ∃ v, e = .returned v ∧ IRow w' w.heap.size w'.heap.size v xs ∧ Below w.heap.size w w'
/-- a row of integers of a call's own, while it grows -/
structure IbInv (w wr : World) (v : Value) (xs : List Int) : Prop where
  own : wr.ownsRow w.heap.size 3 1 v xs.length (xs.map (Value.int .i64))
  bl : Below w.heap.size w wr
theorem IbInv.start (w : World) : IbInv w (w.alloc (.cells #[] 3)) (.slice (some ⟨w.heap.size, 0, none⟩) 0 0) [] :=
  ⟨⟨by simp, .inr ⟨w.heap.size, 0, #[], rfl, Nat.le_refl _, heap_alloc_new w _, by simp, by simp [maxLen], by simp, by simp⟩⟩, (Below.refl _ _).alloc (Nat.le_refl _) _⟩
theorem IbInv.below {w wr w1 : World} {v : Value} {xs : List Int} (h : IbInv w wr v xs) (hb : Below wr.heap.size wr w1) : IbInv w w1 v xs :=
  ⟨(IRow.below (lo := w.heap.size) (hi := wr.heap.size) ⟨h.own, fun g hg => (own_ltb h.own hg).2⟩ hb (.inl (Nat.le_refl _))).1, bl_step h.bl hb⟩
theorem IbInv.app {w w1 w2 : World} {v v' : Value} {xs : List Int} {z : Int} {o : Obj} (h : IbInv w w1 v xs)
    (hown : w2.ownsRow w.heap.size 3 1 v' (xs.length + 1) (xs.map (Value.int .i64) ++ [.int .i64 z])) (hg : (w1.alloc o).grownBy w2 v.ownBlock) : IbInv w w2 v' (xs ++ [z]) :=
  ⟨by simpa using hown, (h.bl.alloc h.bl.size o).grown hg (by have := h.bl.size; simp; omega) (fun k hk => (own_ltb h.own hk).1)⟩
theorem IbInv.built {w wr : World} {v : Value} {xs : List Int} (h : IbInv w wr v xs) : IbMade w xs (.returned v) wr :=
  ⟨v, rfl, ⟨h.own, fun g hg => (own_ltb h.own hg).2⟩, h.bl⟩
theorem IRow.sl {w : World} {lo hi n : Nat} {v : Value} {xs : List Int} (h : IRow w lo hi v xs) (hn : xs.length = n) : ∃ a cap, v = .slice a n cap := by
  subst hn
  rcases h.form with ⟨rfl, rfl⟩ | ⟨g, cap, cur, rfl, _⟩
  · exact ⟨none, 0, rfl⟩
  · exact ⟨_, cap, rfl⟩
end Go.Proofs.YthnofdkkocpjhaaDoor
