/-
  A law's []int argument, opened, and made into a slice of the call's own.
-/
import Derived.Test.YthnofdkkocpjhaaDoorInts
import Derived.Test.YthnofdkkocpjhaaDoorOpen
import Derived.OwnWalk
import Derived.Laws.Rows
namespace Go.Proofs.YthnofdkkocpjhaaDoor
open Go.RowKit Go.ChangeShapes Go.WideShapes Go.ChangeAt
set_option maxRecDepth 100000
set_option linter.unusedVariables false

/-- a []int that came in: it reads as zs -/
def ArgI (w : World) (a : Option Addr) (zs : List Int) : Prop :=
  zs = [] ∨ ∃ A off, a = some ⟨A, off, none⟩ ∧ A < w.heap.size ∧ ∀ i, i < zs.length → w.cell? ⟨A, off + i, none⟩ = some (.int .i64 (zs.getD i 0))
theorem ArgI.below {w w' : World} {a : Option Addr} {zs : List Int} (h : ArgI w a zs) (hb : Below w.heap.size w w') : ArgI w' a zs := by
  rcases h with h | ⟨A, off, ha, hA, hc⟩
  · exact .inl h
  · exact .inr ⟨A, off, ha, Nat.lt_of_lt_of_le hA hb.size, fun i hi => (hb.cell (p := ⟨A, off + i, none⟩) hA).trans (hc i hi)⟩

section
variable {H : Type} {enc : TypeId × Value → H} {w : World} {base : Nat} {spare : Nat → Bool} {held : Bool}
theorem ints_in {a : Option Addr} {n c : Nat} {d : DataW H} {p : List MemPlace} (h : DataW.Trod enc Tryd.prog w base spare held 29 (.slice a n c) d p) : ∃ zs : List Int, n = zs.length ∧ ArgI w a zs ∧ n ≤ c ∧ c ≤ maxLen := by
  obtain ⟨fuel, hf⟩ := h
  rcases open_ints Tryd.underlying29 Tryd.underlying3 (by kernel_rfl) hf with ⟨hcs, _⟩ | ⟨x, l, c', zs, hcs, _, hl, hm, hz, _, hcell, hwz⟩
  · simp [Value.cells] at hcs
    obtain ⟨rfl, rfl, rfl⟩ := hcs
    exact ⟨[], rfl, .inl rfl, Nat.le_refl _, Nat.zero_le _⟩
  · simp [Value.cells] at hcs
    obtain ⟨rfl, rfl, rfl⟩ := hcs
    have hlen : n ≤ zs.length := by rw [hz]; split <;> omega
    refine ⟨zs.take n, by simp; omega, ?_, hl, hm⟩
    by_cases hn : n = 0
    · subst hn; exact .inl rfl
    obtain ⟨A, off, rfl, hc'⟩ := ints_at hcell (by omega)
    refine .inr ⟨A, off, rfl, World.block_lt_of_cell? w _ (hc' 0 (by omega)), fun i hi => ?_⟩
    have hi2 : i < n := by simp at hi; omega
    have e : (zs.take n).getD i 0 = zs.getD i 0 := by simp [List.getD_eq_getElem?_getD, List.getElem?_take_of_lt hi2]
    rw [e]
    exact hc' i (by omega)
end

theorem infoIntI : (Tryd.prog.info? 3).map (fun i => (i.zero, i.size, i.bytes)) = some (some (.int .i64 0), 1, 8) := by kernel_rfl
def IBuiltI (w : World) (xs : List Int) (e : Ending) (w' : World) : Prop :=
  ∃ v, e = .returned v ∧ IRow w' w.heap.size w'.heap.size v xs ∧ Below w.heap.size w w'

def TiInv (w wr : World) (n : Nat) (zs : List Int) (k : Nat) : Prop :=
  ∃ cur, wr.heap[w.heap.size]? = some (.cells cur 3 (0, 0)) ∧ cur.size = n ∧ cur.toList.take k = (zs.take k).map (Value.int .i64) ∧ Below w.heap.size w wr
theorem TiInv.next {w wr : World} {n k : Nat} {zs : List Int} (h : TiInv w wr n zs k) (hn : n = zs.length) (hk : k < n) : TiInv w (wr.setCell ⟨w.heap.size, k, none⟩ (.int .i64 (zs.getD k 0))) n zs (k + 1) := by
  obtain ⟨cur, hh, hsz, ht, hb⟩ := h
  refine ⟨cur.setIfInBounds k (.int .i64 (zs.getD k 0)), by simp [World.setCell, Array.getElem?_modify, hh], by simp [hsz], ?_, hb.setCell (by simp) _⟩
  have hkc : k < cur.toList.length := by simpa using (by omega : k < cur.size)
  have hkz : k < zs.length := by omega
  rw [Array.toList_setIfInBounds, List.take_add_one, List.take_set_of_le (Nat.le_refl k), ht, List.take_add_one, List.map_append]
  generalize cur.toList = l at hkc
  simp [List.getElem?_eq_getElem hkz, List.getD_eq_getElem?_getD, hkc]
theorem TiInv.bl {w wr : World} {n k : Nat} {zs : List Int} (h : TiInv w wr n zs k) : Below w.heap.size w wr := by obtain ⟨_, _, _, _, hb⟩ := h; exact hb
theorem TiInv.cell {w wr : World} {n k : Nat} {zs : List Int} (h : TiInv w wr n zs k) (hk : k < n) : (∃ u, wr.cell? ⟨w.heap.size, k, none⟩ = some u) ∧ wr.frozen? ⟨w.heap.size, k, none⟩ = false := by
  obtain ⟨cur, hh, hsz, _, _⟩ := h
  exact ⟨⟨cur[k]'(by omega), by simp [World.cell?, hh, Array.getElem?_eq_getElem (by omega : k < cur.size)]⟩, by simp [World.frozen?, hh]⟩
theorem TiInv.built {w wr : World} {zs : List Int} (h : TiInv w wr zs.length zs zs.length) (hm : zs.length ≤ maxLen) : IBuiltI w zs (.returned (.slice (some ⟨w.heap.size, 0, none⟩) zs.length zs.length)) wr := by
  obtain ⟨cur, hh, hsz, ht, hb⟩ := h
  have hgs : w.heap.size < wr.heap.size := by
    rcases Nat.lt_or_ge w.heap.size wr.heap.size with h | h
    · exact h
    · rw [Array.getElem?_eq_none h] at hh; cases hh
  refine ⟨_, rfl, ⟨⟨by simp, .inr ⟨_, _, cur, rfl, Nat.le_refl _, hh, Nat.le_refl _, hm, by simpa using hsz, by simpa using ht⟩⟩, fun g hg => ?_⟩, hb⟩
  have : g = w.heap.size := by simpa [Value.ownBlock] using hg.symm
  omega
end Go.Proofs.YthnofdkkocpjhaaDoor
