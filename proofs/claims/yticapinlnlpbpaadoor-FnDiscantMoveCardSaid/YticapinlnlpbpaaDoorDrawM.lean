/-
  The draw of a melody returns: a list of at most so many tones in memory of its own.
-/
import Derived.Test.YticapinlnlpbpaaDoorPick
import Derived.Test.YticapinlnlpbpaaDoorDraw1
import Derived.Test.YticapinlnlpbpaaDoorDraw2
import Derived.Test.YticapinlnlpbpaaDoorMelT
import Derived.Test.YticapinlnlpbpaaDoorTurn
namespace Go.Proofs.YticapinlnlpbpaaDoor
open Go.RowKit
set_option maxRecDepth 100000
set_option linter.unusedVariables false

theorem Rd.grown {w w' : World} {B A q : Nat} {row : Option Nat} (h : Rd w B A q) (hg : w.grownBy w' row) (hB : some B ≠ row) (hA : some A ≠ row) : Rd w' B A q := by
  have hlB := h.lt
  have hlA := h.ltA
  obtain ⟨p, hp, a, n, cap, hh, hn, hl, hby⟩ := h
  exact ⟨p, hp, a, n, cap, (hg.block B hlB hB).trans hh, hn, Nat.lt_of_lt_of_le hl hg.size, hby.keep (fun _ => hg.block A hlA hA)⟩
theorem gb_own {a w w' : World} {B : Nat} {row : Option Nat} {o : Obj} (h : a.grownBy w (some B)) (hg : (w.alloc o).grownBy w' row) (hr : ∀ g, row = some g → a.heap.size ≤ g) : a.grownBy w' (some B) := by
  have h1 := gb_alloc h o
  exact ⟨hg.os.trans h1.os, hg.tape.trans h1.tape, hg.output.trans h1.output, Nat.le_trans h1.size hg.size, fun i hi hne => (hg.block i (Nat.lt_of_lt_of_le hi h1.size) (fun e => by have := hr i e.symm; omega)).trans (h1.block i hi hne)⟩

/-- the drawing loop's state -/
structure DmInv (w wr : World) (B A q : Nat) (v : Value) (xs : List (Int × Bool)) : Prop where
  own : wr.ownsRow w.heap.size 41 2 v xs.length (tcs xs)
  rd : Rd wr B A q
  gb : w.grownBy wr (some B)
theorem DmInv.pick {w wr w1 : World} {B A q q' : Nat} {v : Value} {xs : List (Int × Bool)} (h : DmInv w wr B A q v xs) (hr : Rd w1 B A q') (hg : wr.grownBy w1 (some B)) (hB : B < w.heap.size) : DmInv w w1 B A q' v xs := by
  refine ⟨h.own.kept hg ?_, hr, gb_step h.gb hg⟩
  right
  intro e
  have := (h.own.lt B e).1
  omega
theorem DmInv.app {w wr w2 : World} {B A q : Nat} {v v' : Value} {xs : List (Int × Bool)} {t : Int × Bool} {o : Obj} (h : DmInv w wr B A q v xs) (hB : B < w.heap.size) (hA : A < w.heap.size)
    (hown : w2.ownsRow w.heap.size 41 2 v' (xs.length + 1) (tcs xs ++ [.int .i64 t.1, .bool t.2])) (hg : (wr.alloc o).grownBy w2 v.ownBlock) : DmInv w w2 B A q v' (xs ++ [t]) := by
  have hlt : ∀ g, v.ownBlock = some g → w.heap.size ≤ g := fun g hg => (h.own.lt g hg).1
  refine ⟨?_, (h.rd.alloc o).grown hg (fun e => by have := hlt B e.symm; omega) (fun e => by have := hlt A e.symm; omega), gb_own h.gb hg hlt⟩
  have e : tcs (xs ++ [t]) = tcs xs ++ [.int .i64 t.1, .bool t.2] := by rw [tcs_app]; rfl
  rw [e]; simpa using hown

def MelPicked (B A q : Nat) (most : Nat) (w : World) (e : Ending) (w' : World) : Prop :=
  ∃ v xs, e = .returned v ∧ DmInv w w' B A (q + 2 * most + 4) v xs ∧ xs.length ≤ most
theorem melPicked {B A q q' most : Nat} {w w' : World} {v : Value} {xs : List (Int × Bool)} (h : DmInv w w' B A q' v xs) (hq : q' ≤ q + 2 * most + 4) (hl : xs.length ≤ most) : MelPicked B A q most w (.returned v) w' :=
  ⟨v, xs, rfl, ⟨h.own, h.rd.more hq, h.gb⟩, hl⟩

/-- a store into the row -/
theorem DmInv.store {w wr : World} {B A q : Nat} {v : Value} {xs ys : List (Int × Bool)} {g i : Nat} {u : Value} (h : DmInv w wr B A q v xs) (hv : v.ownBlock = some g) (hB : B < w.heap.size) (hA : A < w.heap.size)
    (hi : i < xs.length * 2) (hy : tcs ys = (tcs xs).set i u) (hl : ys.length = xs.length) : DmInv w (wr.setCell ⟨g, i, none⟩ u) B A q v ys := by
  have hg := (h.own.lt g hv).1
  refine ⟨?_, h.rd.set_ (by show g ≠ B; omega) (by show g ≠ A; omega) u, ?_⟩
  · obtain ⟨hln, h1 | ⟨g', cap, cur, rfl, hb, hh, hc, hm, hsz, htk⟩⟩ := h.own
    · rw [h1.1] at hv; simp [Value.ownBlock] at hv
    · have e : g' = g := by simpa [Value.ownBlock] using hv
      subst e
      rw [hl]
      refine ⟨by rw [tcs_len, hl], .inr ⟨g', cap, cur.setIfInBounds i u, rfl, hb, by simp [World.setCell, Array.getElem?_modify, hh], hc, hm, by simpa using hsz, ?_⟩⟩
      rw [Array.toList_setIfInBounds, hy, ← htk, List.take_set]
  · exact gb_set h.gb (.inr hg) u
theorem tcs_set0 (t : Int × Bool) (r : List (Int × Bool)) (k : Int) : tcs ((k, t.2) :: r) = (tcs (t :: r)).set 0 (.int .i64 k) := rfl
theorem tcs_setA {xs : List (Int × Bool)} {t : Int × Bool} (h : xs[0]? = some t) (k : Int) : tcs (xs.set 0 (k, t.2)) = (tcs xs).set 0 (.int .i64 k) := by
  cases xs with
  | nil => simp at h
  | cons u r => simp at h; subst h; rfl
theorem tcs_setB {xs : List (Int × Bool)} {i : Nat} {t : Int × Bool} (h : xs[i]? = some t) (b : Bool) : tcs (xs.set i (t.1, b)) = (tcs xs).set (i * 2 + 1) (.bool b) := by
  induction xs generalizing i with
  | nil => simp at h
  | cons u r ih =>
    cases i with
    | zero => simp at h; subst h; rfl
    | succ j =>
      have := ih (i := j) (by simpa using h)
      rw [show (j + 1) * 2 + 1 = (j * 2 + 1) + 1 + 1 by omega]
      simp [tcs, this]
end Go.Proofs.YticapinlnlpbpaaDoor
