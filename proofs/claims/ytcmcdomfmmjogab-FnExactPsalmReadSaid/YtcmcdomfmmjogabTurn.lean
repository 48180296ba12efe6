/-
  Tones marked by the exact laws' helper: only the marked slice's block turns.
-/
import Derived.Test.YtcmcdomfmmjogabTL3
import Derived.Test.YtcmcdomfmmjogabTL2
import Derived.Test.YtcmcdomfmmjogabInts
namespace Go.Proofs.Ytcmcdomfmmjogab
open Go.RowKit
set_option maxRecDepth 100000
set_option linter.unusedVariables false

/-- only blocks from lo on and below hi have turned, and new ones -/
structure Turned (lo hi : Nat) (w w' : World) : Prop where
  os : w'.os = w.os
  tape : w'.tape = w.tape
  output : w'.output = w.output
  size : w.heap.size ≤ w'.heap.size
  block : ∀ k, k < w.heap.size → k < lo ∨ hi ≤ k → w'.heap[k]? = w.heap[k]?
theorem Turned.below {lo hi B : Nat} {w w' : World} (h : Turned lo hi w w') (hB : B ≤ lo) (hs : lo ≤ w.heap.size) : Below B w w' := ⟨h.os, h.tape, h.output, h.size, fun k hk => h.block k (by omega) (.inl (by omega))⟩

theorem TRow.turned {w w' : World} {lo hi lo' hi' : Nat} {v : Value} {xs : List (Int × Bool)} (h : TRow w lo hi v xs) (t : Turned lo' hi' w w') (hd : hi ≤ lo' ∨ hi' ≤ lo) : TRow w' lo hi v xs :=
  h.keep fun k h1 h2 h3 => t.block k h1 (by omega)

theorem IRow.turned {w w' : World} {lo hi lo' hi' : Nat} {v : Value} {xs : List Int} (h : IRow w lo hi v xs) (t : Turned lo' hi' w w') (hd : hi ≤ lo' ∨ hi' ≤ lo) : IRow w' lo hi v xs :=
  h.keep fun k h1 h2 h3 => t.block k h1 (by omega)

theorem TRow.lohi {w : World} {lo hi : Nat} {v : Value} {xs : List (Int × Bool)} (h : TRow w lo hi v xs) {lo' hi' : Nat} (h1 : lo' ≤ lo) (h2 : hi ≤ hi') : TRow w lo' hi' v xs := by
  obtain ⟨⟨hl, h | ⟨g, cap, cur, rfl, hg, hr⟩⟩, hlt⟩ := h
  · exact ⟨⟨hl, .inl h⟩, fun g hg => Nat.lt_of_lt_of_le (hlt g hg) h2⟩
  · exact ⟨⟨hl, .inr ⟨g, cap, cur, rfl, Nat.le_trans h1 hg, hr⟩⟩, fun g hg => Nat.lt_of_lt_of_le (hlt g hg) h2⟩

/-- k tones of block g are marked -/
def MtInv (w wr : World) (g cap : Nat) (s : Int) (k : Nat) : Prop :=
  ∃ cur, wr.heap[g]? = some (.cells cur 45 (0, 0)) ∧ cur.size = cap * 2 ∧ cur.toList.take (k * 2) = tcs (mkt s k) ∧ w.grownBy wr (some g)
theorem MtInv.cells {w wr : World} {g cap : Nat} {s : Int} {k : Nat} (h : MtInv w wr g cap s k) (hk : k < cap) : (∃ u, wr.cell? ⟨g, k * 2, none⟩ = some u) ∧ (∃ u, wr.cell? ⟨g, k * 2 + 1, none⟩ = some u) ∧ (∀ o, wr.frozen? ⟨g, o, none⟩ = false) := by
  obtain ⟨cur, hh, hsz, _, _⟩ := h
  refine ⟨⟨cur[k * 2]'(by omega), ?_⟩, ⟨cur[k * 2 + 1]'(by omega), ?_⟩, fun o => by simp [World.frozen?, hh]⟩
  · simp [World.cell?, hh, Array.getElem?_eq_getElem (by omega : k * 2 < cur.size)]
  · simp [World.cell?, hh, Array.getElem?_eq_getElem (by omega : k * 2 + 1 < cur.size)]
theorem MtInv.next {w wr : World} {g cap : Nat} {s : Int} {k : Nat} (h : MtInv w wr g cap s k) (hk : k < cap) :
    MtInv w ((wr.setCell ⟨g, k * 2, none⟩ (.int .i64 (s + 2 * (k : Int)))).setCell ⟨g, k * 2 + 1, none⟩ (.bool ((s + 2 * (k : Int) + 1) % 3 == 0))) g cap s (k + 1) := by
  obtain ⟨cur, hh, hsz, ht, hg⟩ := h
  refine ⟨(cur.setIfInBounds (k * 2) (.int .i64 (s + 2 * (k : Int)))).setIfInBounds (k * 2 + 1) (.bool ((s + 2 * (k : Int) + 1) % 3 == 0)), by simp [World.setCell, Array.getElem?_modify, hh], by simp [hsz], ?_, ⟨hg.os, hg.tape, hg.output, by simpa [World.setCell] using hg.size, fun i hi hne => ?_⟩⟩
  · have hk2 : k * 2 + 1 < cur.toList.length := by simp; omega
    rw [mkt_succ, tcs_app, ← ht, Array.toList_setIfInBounds, Array.toList_setIfInBounds]
    generalize cur.toList = l at hk2
    rw [show (k + 1) * 2 = k * 2 + 1 + 1 by omega, List.take_add_one, List.take_add_one, List.take_set_of_le (by omega), List.take_set_of_le (by omega)]
    have a1 : k * 2 < l.length := by omega
    simp [tcs, a1, hk2]
  · rw [Below.heap_setCell _ _ _ _ (fun e => hne (by rw [e])), Below.heap_setCell _ _ _ _ (fun e => hne (by rw [e]))]
    exact hg.block i hi hne

def TMarked (w : World) (lo hi : Nat) (v : Value) (s : Int) (n : Nat) (e : Ending) (w' : World) : Prop :=
  e = .returned (.int .i64 (s + 2 * (n : Int))) ∧ TRow w' lo hi v (mkt s n) ∧ Turned lo hi w w'
end Go.Proofs.Ytcmcdomfmmjogab
