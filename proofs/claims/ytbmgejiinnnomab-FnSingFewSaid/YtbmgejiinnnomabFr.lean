/-
  A row of integers that a call has made and writes cell by cell: block B holds f 0, f 1, ..
-/
import Derived.Test.YtbmgejiinnnomabInts
import Derived.OwnWalk
import Derived.Laws.Rows
import Derived.Laws.CopyOwn
import Derived.IntWalk
namespace Go.Proofs.Ytbmgejiinnnomab
open Go.RowKit
set_option maxRecDepth 100000
set_option linter.unusedVariables false

def FR (w : World) (B n c : Nat) (f : Nat → Int) : Prop := ∃ cur : Array Value, w.heap[B]? = some (.cells cur 3 (0, 0)) ∧ (cur.size = c ∧ n ≤ c) ∧ ∀ p, p < n → cur[p]? = some (.int .i64 (f p))
theorem FR.cell {w : World} {B n c p : Nat} {f : Nat → Int} (h : FR w B n c f) (hp : p < n) : w.cell? ⟨B, p, none⟩ = some (.int .i64 (f p)) := by
  obtain ⟨cur, hh, _, hc⟩ := h
  simp [World.cell?, hh, hc p hp]
theorem FR.free {w : World} {B n c : Nat} {f : Nat → Int} (h : FR w B n c f) (o : Nat) : w.frozen? ⟨B, o, none⟩ = false := by
  obtain ⟨cur, hh, _, _⟩ := h
  simp [World.frozen?, hh]
theorem FR.lt {w : World} {B n c : Nat} {f : Nat → Int} (h : FR w B n c f) : B < w.heap.size := by
  obtain ⟨cur, hh, _, _⟩ := h
  rcases Nat.lt_or_ge B w.heap.size with h' | h'
  · exact h'
  · rw [Array.getElem?_eq_none h'] at hh; cases hh
theorem FR.congr {w : World} {B n c : Nat} {f g : Nat → Int} (h : FR w B n c f) (hg : ∀ p, p < n → g p = f p) : FR w B n c g := by
  obtain ⟨cur, hh, hs, hc⟩ := h
  exact ⟨cur, hh, hs, fun p hp => by rw [hc p hp, hg p hp]⟩
theorem FR.keep {w w' : World} {B n c : Nat} {f : Nat → Int} (h : FR w B n c f) (he : w'.heap[B]? = w.heap[B]?) : FR w' B n c f := by
  obtain ⟨cur, hh, hs, hc⟩ := h
  exact ⟨cur, he.trans hh, hs, hc⟩
theorem FR.below {w w' : World} {B n c : Nat} {f : Nat → Int} (h : FR w B n c f) (hb : Below w.heap.size w w') : FR w' B n c f := h.keep (hb.block B h.lt)
theorem FR.drewN {w : World} {B n c : Nat} {f : Nat → Int} (h : FR w B n c f) (k : Nat) : FR (w.drewN k) B n c f := h
theorem FR.drew {w : World} {B n c : Nat} {f : Nat → Int} (h : FR w B n c f) : FR w.drew B n c f := h
theorem FR.set {w : World} {B n c k : Nat} {f : Nat → Int} (h : FR w B n c f) (hk : k < n) (x : Int) : FR (w.setCell ⟨B, k, none⟩ (.int .i64 x)) B n c (fun p => if p = k then x else f p) := by
  obtain ⟨cur, hh, hs, hc⟩ := h
  refine ⟨cur.setIfInBounds k (.int .i64 x), by simp [World.setCell, Array.getElem?_modify, hh], by simpa using hs, fun p hp => ?_⟩
  show (cur.setIfInBounds k (.int .i64 x))[p]? = some (.int .i64 (if p = k then x else f p))
  by_cases e : p = k
  · subst e
    have : p < cur.size := by omega
    rw [if_pos rfl]
    simp [this]
  · rw [if_neg e, Array.getElem?_setIfInBounds, if_neg (fun h => e h.symm)]
    exact hc p hp
theorem FR.other {w : World} {B B' n c k : Nat} {f : Nat → Int} {v : Value} (h : FR w B n c f) (hB : B ≠ B') : FR (w.setCell ⟨B', k, none⟩ v) B n c f := h.keep (Below.heap_setCell _ _ _ _ hB)
theorem FR.made {w' : World} {base B n : Nat} (hown : w'.ownsRow base 3 1 (.slice (some ⟨B, 0, none⟩) n n) n (madeCells #[Value.int .i64 0] n).toList) : FR w' B n n (fun _ => 0) := by
  obtain ⟨hl, h1 | ⟨g, cap, cur, hv, _, hh, _, _, hsz, htk⟩⟩ := hown
  · cases h1.1
  · injection hv with hv1 _ hv2
    injection hv1 with hv1
    injection hv1 with hv1
    subst hv1 hv2
    refine ⟨cur, hh, ⟨by omega, Nat.le_refl _⟩, fun p hp => ?_⟩
    have e : (cur.toList.take (n * 1))[p]? = (madeCells #[Value.int .i64 0] n).toList[p]? := by rw [htk]
    rw [List.getElem?_take_of_lt (by omega), Array.getElem?_toList] at e
    rw [e]
    simp [madeCells, hp, Nat.mod_one]
/-- what such a row is as a list -/
theorem FR.irow {w : World} {lo hi B n c : Nat} {f : Nat → Int} {xs : List Int} (h : FR w B n c f) (hlo : lo ≤ B) (hhi : B < hi) (hn : c ≤ maxLen) (hx : xs = (List.range n).map f) : IRow w lo hi (.slice (some ⟨B, 0, none⟩) n c) xs := by
  obtain ⟨cur, hh, hs, hc⟩ := h
  have hl : xs.length = n := by rw [hx]; simp
  refine ⟨⟨by simp, .inr ⟨B, c, cur, by rw [hl], hlo, hh, by omega, hn, by omega, ?_⟩⟩, fun g hg => ?_⟩
  · rw [hl, Nat.mul_one, hx]
    refine List.ext_getElem? fun p => ?_
    by_cases hp : p < n
    · rw [List.getElem?_take_of_lt hp, Array.getElem?_toList, hc p hp]
      simp [hp]
    · rw [List.getElem?_eq_none (by simp; omega), List.getElem?_eq_none (by simp; omega)]
  · have : g = B := by simpa [Value.ownBlock] using hg.symm
    omega

theorem FR.of_irow {w : World} {lo hi : Nat} {v : Value} {xs : List Int} (h : IRow w lo hi v xs) (hn : 0 < xs.length) : ∃ g c, v = .slice (some ⟨g, 0, none⟩) xs.length c ∧ lo ≤ g ∧ g < hi ∧ c ≤ maxLen ∧ xs.length ≤ c ∧ FR w g xs.length c (fun j => xs.getD j 0) := by
  rcases h.form with ⟨rfl, rfl⟩ | ⟨g, cap, cur, rfl, hg, hg2, hgs, hcap, hmax, hh, hsz, htk, hc, hfz⟩
  · simp at hn
  · refine ⟨g, cap, rfl, hg, hg2, hmax, hcap, cur, hh, ⟨hsz, hcap⟩, fun p hp => ?_⟩
    have e : (cur.toList.take xs.length)[p]? = (xs.map (Value.int .i64))[p]? := by rw [htk]
    rw [List.getElem?_take_of_lt hp, Array.getElem?_toList, List.getElem?_map] at e
    rw [e, List.getElem?_eq_getElem hp]
    simp [List.getD_eq_getElem?_getD, List.getElem?_eq_getElem hp]
theorem FR.le {w : World} {B n c : Nat} {f : Nat → Int} (h : FR w B n c f) : n ≤ c := by obtain ⟨_, _, ⟨_, h⟩, _⟩ := h; exact h
end Go.Proofs.Ytbmgejiinnnomab
