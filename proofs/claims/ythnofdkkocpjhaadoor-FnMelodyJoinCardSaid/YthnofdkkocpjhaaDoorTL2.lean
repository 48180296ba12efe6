/-
  A law's tones made into the program's: a new slice of the same tones.
-/
import Derived.Test.YthnofdkkocpjhaaDoorTL
namespace Go.Proofs.YthnofdkkocpjhaaDoor
open Go.RowKit
set_option maxRecDepth 100000
set_option linter.unusedVariables false

/-- a []laws.Tone that came in: it reads as the tones xs -/
def ArgT (w : World) (a : Option Addr) (xs : List (Int × Bool)) : Prop :=
  xs = [] ∨ ∃ A off, a = some ⟨A, off, none⟩ ∧ A < w.heap.size ∧ ∀ i t, xs[i]? = some t → w.cell? ⟨A, off + i * 2, none⟩ = some (.int .i64 t.1) ∧ w.cell? ⟨A, off + i * 2 + 1, none⟩ = some (.bool t.2)
theorem ArgT.below {w w' : World} {a : Option Addr} {xs : List (Int × Bool)} (h : ArgT w a xs) (hb : Below w.heap.size w w') : ArgT w' a xs := by
  rcases h with h | ⟨A, off, ha, hA, hc⟩
  · exact .inl h
  · refine .inr ⟨A, off, ha, Nat.lt_of_lt_of_le hA hb.size, fun i t ht => ?_⟩
    exact ⟨(hb.cell (p := ⟨A, off + i * 2, none⟩) hA).trans (hc i t ht).1, (hb.cell (p := ⟨A, off + i * 2 + 1, none⟩) hA).trans (hc i t ht).2⟩

theorem infoTone : (Tryd.prog.info? 52).map (fun i => (i.zero, i.size, i.bytes)) = some (some (.agg #[.int .i64 0, .bool false]), 2, 16) := by kernel_rfl

/-- k tones have been stored -/
def TsInv (w wr : World) (g n : Nat) (xs : List (Int × Bool)) (k : Nat) : Prop :=
  ∃ cur, wr.heap[g]? = some (.cells cur 52 (0, 0)) ∧ cur.size = n * 2 ∧ cur.toList.take (k * 2) = tcs (xs.take k) ∧ Below w.heap.size w wr

theorem TsInv.next {w w2 : World} {n k : Nat} {xs : List (Int × Bool)} {cur : Array Value} {s : Int} {b : Bool} (hh : w2.heap[w.heap.size]? = some (.cells cur 52 (0, 0))) (hsz : cur.size = n * 2)
    (htk : cur.toList.take (k * 2) = tcs (xs.take k)) (hb : Below w.heap.size w w2) (ht : xs[k]? = some (s, b)) (hk : k < n) :
    TsInv w ((w2.setCell ⟨w.heap.size, k * 2, none⟩ (.int .i64 s)).setCell ⟨w.heap.size, k * 2 + 1, none⟩ (.bool b)) w.heap.size n xs (k + 1) := by
  refine ⟨(cur.setIfInBounds (k * 2) (.int .i64 s)).setIfInBounds (k * 2 + 1) (.bool b), ?_, by simp [hsz], ?_, (hb.setCell (by simp) _).setCell (by simp) _⟩
  · simp [World.setCell, Array.getElem?_modify, hh]
  · have hk2 : k * 2 + 1 < cur.toList.length := by simp; omega
    have hx : xs.take (k + 1) = xs.take k ++ [(s, b)] := by rw [List.take_add_one, ht]; rfl
    rw [hx, tcs_app, ← htk, Array.toList_setIfInBounds, Array.toList_setIfInBounds]
    generalize cur.toList = l at hk2
    rw [show (k + 1) * 2 = k * 2 + 1 + 1 by omega, List.take_add_one, List.take_add_one, List.take_set_of_le (by omega), List.take_set_of_le (by omega)]
    have a1 : k * 2 < l.length := by omega
    simp [tcs, a1, hk2]
theorem tsEnd {w wr : World} {xs : List (Int × Bool)} {cur : Array Value} (hh : wr.heap[w.heap.size]? = some (.cells cur 52 (0, 0))) (hsz : cur.size = xs.length * 2)
    (htk : cur.toList.take (xs.length * 2) = tcs xs) (hb : Below w.heap.size w wr) (hm : xs.length ≤ maxLen) : TBuilt w xs (.returned (.slice (some ⟨w.heap.size, 0, none⟩) xs.length xs.length)) wr := by
  have hgs : w.heap.size < wr.heap.size := by
    rcases Nat.lt_or_ge w.heap.size wr.heap.size with h | h
    · exact h
    · rw [Array.getElem?_eq_none h] at hh; cases hh
  refine ⟨_, rfl, ⟨⟨tcs_len xs, .inr ⟨_, _, cur, rfl, Nat.le_refl _, hh, Nat.le_refl _, hm, hsz, htk⟩⟩, fun g hg => ?_⟩, hb⟩
  have : g = w.heap.size := by simpa [Value.ownBlock] using hg.symm
  omega
end Go.Proofs.YthnofdkkocpjhaaDoor
