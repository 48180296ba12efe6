/-
  Lists of texts: what a law's argument holds, what a call reads, rows of a call's own, and the exact laws' helpers on them.
-/
import Derived.Test.YtaelkgpebhdlhaaGreatDoorIv
import Derived.SliceStrings
namespace Go.Proofs.YtaelkgpebhdlhaaGreatDoor
open Go.RowKit Go.ChangeShapes Go.WideShapes Go.ChangeAt
set_option maxRecDepth 100000
set_option linter.unusedVariables false

/-- texts at an address -/
def ArgS (w : World) (a : Option Addr) (ss : List ByteArray) : Prop :=
  ss = [] ∨ ∃ A off, a = some ⟨A, off, none⟩ ∧ A < w.heap.size ∧ ∀ i s, ss[i]? = some s → w.cell? ⟨A, off + i, none⟩ = some (.string s)
/-- v is read as the texts ss -/
def SV (w : World) (v : Value) (ss : List ByteArray) : Prop := ∃ a c, v = .slice a ss.length c ∧ ArgS w a ss ∧ ss.length ≤ c ∧ c ≤ maxLen
theorem ArgS.below {w w' : World} {a : Option Addr} {ss : List ByteArray} (h : ArgS w a ss) (hb : Below w.heap.size w w') : ArgS w' a ss := by
  rcases h with h | ⟨A, off, ha, hA, hc⟩
  · exact .inl h
  · exact .inr ⟨A, off, ha, Nat.lt_of_lt_of_le hA hb.size, fun i s hi => (hb.cell (p := ⟨A, off + i, none⟩) hA).trans (hc i s hi)⟩
theorem SV.below {w w' : World} {v : Value} {ss : List ByteArray} (h : SV w v ss) (hb : Below w.heap.size w w') : SV w' v ss := by
  obtain ⟨a, c, e, ha, h1, h2⟩ := h
  exact ⟨a, c, e, ha.below hb, h1, h2⟩
theorem SV.len {w : World} {v : Value} {ss : List ByteArray} (h : SV w v ss) : ss.length ≤ 9223372036854775807 := by
  obtain ⟨a, c, e, ha, h1, h2⟩ := h
  unfold maxLen at h2
  omega
theorem ss_get {ss : List ByteArray} {k : Nat} (h : k < ss.length) : ∃ s, ss[k]? = some s := ⟨ss[k], List.getElem?_eq_getElem h⟩

/-- v is a slice of just the texts ss, in a block from lo on and below hi -/
def SRow (w : World) (lo hi : Nat) (v : Value) (ss : List ByteArray) : Prop :=
  w.ownsRow lo 9 1 v ss.length (ss.map Value.string) ∧ ∀ g, v.ownBlock = some g → g < hi

theorem SRow.form {w : World} {lo hi : Nat} {v : Value} {ss : List ByteArray} (h : SRow w lo hi v ss) : (v = .slice none 0 0 ∧ ss = []) ∨
    ∃ g cap cur, v = .slice (some ⟨g, 0, none⟩) ss.length cap ∧ lo ≤ g ∧ g < hi ∧ g < w.heap.size ∧ ss.length ≤ cap ∧ cap ≤ maxLen ∧ w.heap[g]? = some (.cells cur 9 (0, 0)) ∧ cur.size = cap ∧ cur.toList.take ss.length = ss.map Value.string ∧
      (∀ i s, ss[i]? = some s → w.cell? ⟨g, i, none⟩ = some (.string s)) ∧ (∀ o, w.frozen? ⟨g, o, none⟩ = false) := by
  obtain ⟨⟨hl, h | ⟨g, cap, cur, rfl, hg, hh, hn, hcap, hsz, htake⟩⟩, hlt⟩ := h
  · exact .inl ⟨h.1, List.eq_nil_of_length_eq_zero h.2⟩
  · have hgs : g < w.heap.size := by
      rcases Nat.lt_or_ge g w.heap.size with h | h
      · exact h
      · rw [Array.getElem?_eq_none h] at hh; cases hh
    rw [Nat.mul_one] at hsz htake
    refine .inr ⟨g, cap, cur, rfl, hg, hlt g rfl, hgs, hn, hcap, hh, hsz, htake, fun i s hi => ?_, fun o => by simp [World.frozen?, hh]⟩
    have hil : i < ss.length := (List.getElem?_eq_some_iff.1 hi).1
    have e : (cur.toList.take ss.length)[i]? = (ss.map Value.string)[i]? := by rw [htake]
    rw [List.getElem?_take_of_lt hil, List.getElem?_map, Array.getElem?_toList, hi] at e
    simp [World.cell?, hh, e]

theorem SRow.keep {w w' : World} {lo hi : Nat} {v : Value} {ss : List ByteArray} (h : SRow w lo hi v ss) (hk : ∀ k, k < w.heap.size → lo ≤ k → k < hi → w'.heap[k]? = w.heap[k]?) : SRow w' lo hi v ss := by
  obtain ⟨⟨hl, h | ⟨g, cap, cur, rfl, hg, hh, hn, hcap, hsz, htake⟩⟩, hlt⟩ := h
  · exact ⟨⟨hl, .inl h⟩, hlt⟩
  · have hgs : g < w.heap.size := by
      rcases Nat.lt_or_ge g w.heap.size with h | h
      · exact h
      · rw [Array.getElem?_eq_none h] at hh; cases hh
    exact ⟨⟨hl, .inr ⟨g, cap, cur, rfl, hg, (hk g hgs hg (hlt g rfl)).trans hh, hn, hcap, hsz, htake⟩⟩, hlt⟩

theorem SRow.below {w w' : World} {lo hi B : Nat} {v : Value} {ss : List ByteArray} (h : SRow w lo hi v ss) (hb : Below B w w') (hB : hi ≤ B ∨ w.heap.size ≤ B) : SRow w' lo hi v ss :=
  h.keep fun k h1 h2 h3 => hb.block k (by omega)

theorem SRow.turned {w w' : World} {lo hi lo' hi' : Nat} {v : Value} {ss : List ByteArray} (h : SRow w lo hi v ss) (t : Turned lo' hi' w w') (hd : hi ≤ lo' ∨ hi' ≤ lo) : SRow w' lo hi v ss :=
  h.keep fun k h1 h2 h3 => t.block k h1 (by omega)

theorem SRow.view {w : World} {lo hi : Nat} {v : Value} {ss : List ByteArray} (h : SRow w lo hi v ss) : SV w v ss := by
  rcases h.form with ⟨rfl, rfl⟩ | ⟨g, cap, cur, rfl, hg, hg2, hgs, hcap, hmax, hh, hsz, htk, hc, hfz⟩
  · exact ⟨none, 0, rfl, .inl rfl, Nat.le_refl _, Nat.zero_le _⟩
  · exact ⟨_, cap, rfl, .inr ⟨g, 0, rfl, hgs, fun i s hi => by rw [Nat.zero_add]; exact hc i s hi⟩, hcap, hmax⟩

/-- a list of texts that a call has built -/
def SBuilt (w : World) (ss : List ByteArray) (e : Ending) (w' : World) : Prop :=
  ∃ v, e = .returned v ∧ SRow w' w.heap.size w'.heap.size v ss ∧ Below w.heap.size w w'

section
variable {H : Type} {enc : TypeId × Value → H} {w : World} {base : Nat} {spare : Nat → Bool} {held : Bool}
theorem strings_in {a : Option Addr} {n c : Nat} {d : DataW H} {p : List MemPlace} (h : DataW.Trod enc Tryz.prog w base spare held 59 (.slice a n c) d p) : ∃ ss : List ByteArray, n = ss.length ∧ (ArgS w a ss ∧ ∀ s ∈ ss, s.size ≤ maxLen) ∧ n ≤ c ∧ c ≤ maxLen := by
  obtain ⟨fuel, hf⟩ := h
  rcases open_strings Tryz.underlying59 Tryz.underlying9 (by kernel_rfl) hf with ⟨hcs, _⟩ | ⟨x, l, c', ss, hcs, _, hl, hm, hz, _, hcell, hwz⟩
  · simp [Value.cells] at hcs
    obtain ⟨rfl, rfl, rfl⟩ := hcs
    exact ⟨[], rfl, ⟨.inl rfl, by simp⟩, Nat.le_refl _, Nat.zero_le _⟩
  · simp [Value.cells] at hcs
    obtain ⟨rfl, rfl, rfl⟩ := hcs
    have hlen : n ≤ ss.length := by rw [hz]; split <;> omega
    refine ⟨ss.take n, by simp; omega, ⟨?_, fun s hs => hwz s (List.mem_of_mem_take hs)⟩, hl, hm⟩
    by_cases hn : n = 0
    · subst hn; exact .inl rfl
    obtain ⟨A, off, spot⟩ := x
    have h0 := hcell 0 (by omega)
    have hspot : spot = none := by simpa [Addr.add] using World.cell?_spot h0
    subst hspot
    refine .inr ⟨A, off, rfl, ?_, fun i s hi => ?_⟩
    · exact World.block_lt_of_cell? w ⟨A, off, none⟩ (by simpa [Addr.add] using h0)
    · have hin : i < n := by
        have := (List.getElem?_eq_some_iff.1 hi).1
        simp at this
        omega
      rw [List.getElem?_take_of_lt hin] at hi
      have := hcell i (by omega)
      rw [List.getD_eq_getElem?_getD, hi, Option.getD_some, Go.WideShapes.add_plain] at this
      exact this
end

/-- how much a list of texts holds -/
def szt (ss : List ByteArray) : Nat := (ss.map fun s => s.size).sum
theorem szt_succ {ss : List ByteArray} {k : Nat} {s : ByteArray} (h : ss[k]? = some s) : szt (ss.take (k + 1)) = szt (ss.take k) + s.size := by
  unfold szt
  rw [List.take_add_one, h]
  simp
theorem sumt_take_le (l : List Nat) (k : Nat) : (l.take k).sum ≤ l.sum := by
  induction l generalizing k with
  | nil => simp
  | cons a r ih => cases k with
    | zero => simp
    | succ j => simp; exact ih j
theorem szt_take_le (ss : List ByteArray) (k : Nat) : szt (ss.take k) ≤ szt ss := by
  unfold szt
  rw [List.map_take]
  exact sumt_take_le _ _
theorem szt_get {ss : List ByteArray} {k : Nat} {s : ByteArray} (h : ss[k]? = some s) : s.size ≤ szt ss := by
  have h1 := szt_succ h
  have h2 := szt_take_le ss (k + 1)
  omega

theorem szt_mem {ss : List ByteArray} {s : ByteArray} (h : s ∈ ss) : s.size ≤ szt ss := by
  obtain ⟨k, hk⟩ := List.getElem?_of_mem h
  exact szt_get hk
theorem bl_ofN {w w' : World} (h : ∃ m, w' = w.drewN m) : Below w.heap.size w w' := by
  obtain ⟨m, rfl⟩ := h
  exact ⟨rfl, rfl, rfl, Nat.le_refl _, fun _ _ => rfl⟩

theorem infoStrS : (Tryz.prog.info? 9).map (fun i => (i.zero, i.size, i.bytes)) = some (some (.string ⟨#[]⟩), 1, 16) := by kernel_rfl

def SsInv (w wr : World) (n : Nat) (ss : List ByteArray) (k : Nat) : Prop :=
  ∃ cur, wr.heap[w.heap.size]? = some (.cells cur 9 (0, 0)) ∧ cur.size = n ∧ cur.toList.take k = (ss.take k).map Value.string ∧ Below w.heap.size w wr

theorem SsInv.next {w wr : World} {n k : Nat} {ss : List ByteArray} {s : ByteArray} (h : SsInv w wr n ss k) (hn : n = ss.length) (hs : ss[k]? = some s) : SsInv w (wr.setCell ⟨w.heap.size, k, none⟩ (.string s)) n ss (k + 1) := by
  obtain ⟨cur, hh, hsz, ht, hb⟩ := h
  refine ⟨cur.setIfInBounds k (.string s), by simp [World.setCell, Array.getElem?_modify, hh], by simp [hsz], ?_, hb.setCell (by simp) _⟩
  have hkz : k < ss.length := (List.getElem?_eq_some_iff.1 hs).1
  have hkc : k < cur.toList.length := by simpa using (by omega : k < cur.size)
  rw [Array.toList_setIfInBounds, List.take_add_one, List.take_set_of_le (Nat.le_refl k), ht, List.take_add_one, List.map_append, hs]
  generalize cur.toList = l at hkc
  simp [hkc]

theorem SsInv.bl {w wr : World} {n k : Nat} {ss : List ByteArray} (h : SsInv w wr n ss k) : Below w.heap.size w wr := by obtain ⟨_, _, _, _, hb⟩ := h; exact hb

theorem SsInv.cell {w wr : World} {n k : Nat} {ss : List ByteArray} (h : SsInv w wr n ss k) (hk : k < n) : (∃ u, wr.cell? ⟨w.heap.size, k, none⟩ = some u) ∧ wr.frozen? ⟨w.heap.size, k, none⟩ = false := by
  obtain ⟨cur, hh, hsz, _, _⟩ := h
  exact ⟨⟨cur[k]'(by omega), by simp [World.cell?, hh, Array.getElem?_eq_getElem (by omega : k < cur.size)]⟩, by simp [World.frozen?, hh]⟩

theorem SsInv.built {w wr : World} {ss : List ByteArray} (h : SsInv w wr ss.length ss ss.length) (hm : ss.length ≤ maxLen) : SBuilt w ss (.returned (.slice (some ⟨w.heap.size, 0, none⟩) ss.length ss.length)) wr := by
  obtain ⟨cur, hh, hsz, ht, hb⟩ := h
  have hgs : w.heap.size < wr.heap.size := by
    rcases Nat.lt_or_ge w.heap.size wr.heap.size with h | h
    · exact h
    · rw [Array.getElem?_eq_none h] at hh; cases hh
  refine ⟨_, rfl, ⟨⟨by simp, .inr ⟨_, _, cur, rfl, Nat.le_refl _, hh, Nat.le_refl _, hm, by simpa using hsz, by simpa using ht⟩⟩, fun g hg => ?_⟩, hb⟩
  have : g = w.heap.size := by simpa [Value.ownBlock] using hg.symm
  omega
end Go.Proofs.YtaelkgpebhdlhaaGreatDoor
