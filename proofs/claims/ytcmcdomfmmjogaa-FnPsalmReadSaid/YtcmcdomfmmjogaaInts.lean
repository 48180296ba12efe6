/-
  Slices of integers of a call's own: compared, marked and read again by the exact laws' helpers.
-/
import Derived.Test.YtcmcdomfmmjogaaBase
import Derived.WalkLawsBesides
import Derived.Handy
import Derived.Deep.QuietTactic
import Derived.BigQuiet
namespace Go.Proofs.Ytcmcdomfmmjogaa
open Go.RowKit
set_option maxRecDepth 100000
set_option linter.unusedVariables false

/-- v is a slice of just the integers xs, in a block from lo on and below hi -/
def IRow (w : World) (lo hi : Nat) (v : Value) (xs : List Int) : Prop :=
  w.ownsRow lo 3 1 v xs.length (xs.map (Value.int .i64)) ∧ ∀ g, v.ownBlock = some g → g < hi

theorem IRow.form {w : World} {lo hi : Nat} {v : Value} {xs : List Int} (h : IRow w lo hi v xs) : (v = .slice none 0 0 ∧ xs = []) ∨
    ∃ g cap cur, v = .slice (some ⟨g, 0, none⟩) xs.length cap ∧ lo ≤ g ∧ g < hi ∧ g < w.heap.size ∧ xs.length ≤ cap ∧ cap ≤ maxLen ∧ w.heap[g]? = some (.cells cur 3 (0, 0)) ∧ cur.size = cap ∧ cur.toList.take xs.length = xs.map (Value.int .i64) ∧
      (∀ i, i < xs.length → w.cell? ⟨g, i, none⟩ = some (.int .i64 (xs.getD i 0))) ∧ (∀ o, w.frozen? ⟨g, o, none⟩ = false) := by
  obtain ⟨⟨hl, h | ⟨g, cap, cur, rfl, hg, hh, hn, hcap, hsz, htake⟩⟩, hlt⟩ := h
  · exact .inl ⟨h.1, List.eq_nil_of_length_eq_zero h.2⟩
  · have hgs : g < w.heap.size := by
      rcases Nat.lt_or_ge g w.heap.size with h | h
      · exact h
      · rw [Array.getElem?_eq_none h] at hh; cases hh
    rw [Nat.mul_one] at hsz htake
    refine .inr ⟨g, cap, cur, rfl, hg, hlt g rfl, hgs, hn, hcap, hh, hsz, htake, fun i hi => ?_, fun o => by simp [World.frozen?, hh]⟩
    have e : (cur.toList.take xs.length)[i]? = (xs.map (Value.int .i64))[i]? := by rw [htake]
    rw [List.getElem?_take_of_lt hi, List.getElem?_map, Array.getElem?_toList] at e
    simp [World.cell?, hh, e, List.getD_eq_getElem?_getD, List.getElem?_eq_getElem hi]

theorem IRow.keep {w w' : World} {lo hi : Nat} {v : Value} {xs : List Int} (h : IRow w lo hi v xs) (hk : ∀ k, k < w.heap.size → lo ≤ k → k < hi → w'.heap[k]? = w.heap[k]?) : IRow w' lo hi v xs := by
  obtain ⟨⟨hl, h | ⟨g, cap, cur, rfl, hg, hh, hn, hcap, hsz, htake⟩⟩, hlt⟩ := h
  · exact ⟨⟨hl, .inl h⟩, hlt⟩
  · have hgs : g < w.heap.size := by
      rcases Nat.lt_or_ge g w.heap.size with h | h
      · exact h
      · rw [Array.getElem?_eq_none h] at hh; cases hh
    exact ⟨⟨hl, .inr ⟨g, cap, cur, rfl, hg, (hk g hgs hg (hlt g rfl)).trans hh, hn, hcap, hsz, htake⟩⟩, hlt⟩
theorem IRow.below {w w' : World} {lo hi B : Nat} {v : Value} {xs : List Int} (h : IRow w lo hi v xs) (hb : Below B w w') (hB : hi ≤ B ∨ w.heap.size ≤ B) : IRow w' lo hi v xs :=
  h.keep fun k h1 h2 h3 => hb.block k (by omega)

/-- the marks from s on -/
def mk (s : Int) (n : Nat) : List Int := (List.range n).map (fun i : Nat => s + (i : Int))
theorem mk_len (s : Int) (n : Nat) : (mk s n).length = n := by simp [mk]
theorem mk_get (s : Int) (n i : Nat) (h : i < n) : (mk s n).getD i 0 = s + (i : Int) := by
  simp [mk, List.getD_eq_getElem?_getD, List.getElem?_map, List.getElem?_range h]
theorem mk_succ (s : Int) (n : Nat) : mk s (n + 1) = mk s n ++ [s + (n : Int)] := by simp [mk, List.range_succ]

/-- k cells of block g are marked -/
def MkInv (w wr : World) (g cap : Nat) (s : Int) (k : Nat) : Prop :=
  ∃ cur, wr.heap[g]? = some (.cells cur 3 (0, 0)) ∧ cur.size = cap ∧ cur.toList.take k = (mk s k).map (Value.int .i64) ∧ w.grownBy wr (some g)

theorem MkInv.next {w wr : World} {g cap : Nat} {s : Int} {k : Nat} (h : MkInv w wr g cap s k) (hk : k < cap) : MkInv w (wr.setCell ⟨g, k, none⟩ (.int .i64 (s + (k : Int)))) g cap s (k + 1) := by
  obtain ⟨cur, hh, hsz, ht, hg⟩ := h
  refine ⟨cur.setIfInBounds k (.int .i64 (s + (k : Int))), by simp [World.setCell, Array.getElem?_modify, hh], by simp [hsz], ?_, ⟨hg.os, hg.tape, hg.output, by simpa [World.setCell] using hg.size, fun i hi hne => ?_⟩⟩
  · rw [mk_succ, List.map_append, Array.toList_setIfInBounds, List.take_add_one, List.take_set_of_le (Nat.le_refl k), ht]
    have hkc : k < cur.toList.length := by simpa using (by omega : k < cur.size)
    simp [List.getElem?_set]
    omega
  · rw [Below.heap_setCell _ _ _ _ (fun e => hne (by rw [e]))]
    exact hg.block i hi hne
theorem MkInv.cell {w wr : World} {g cap : Nat} {s : Int} {k : Nat} (h : MkInv w wr g cap s k) (hk : k < cap) : (∃ u, wr.cell? ⟨g, k, none⟩ = some u) ∧ wr.frozen? ⟨g, k, none⟩ = false := by
  obtain ⟨cur, hh, hsz, _, _⟩ := h
  refine ⟨⟨cur[k]'(by omega), ?_⟩, by simp [World.frozen?, hh]⟩
  simp [World.cell?, hh, Array.getElem?_eq_getElem (by omega : k < cur.size)]

def Marked (w : World) (lo hi : Nat) (v : Value) (s : Int) (n : Nat) (e : Ending) (w' : World) : Prop :=
  e = .returned (.int .i64 (s + (n : Int))) ∧ IRow w' lo hi v (mk s n) ∧ Below lo w w'
end Go.Proofs.Ytcmcdomfmmjogaa
