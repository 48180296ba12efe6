/-
  Lists of formulas: what a law's argument holds, what a call reads, and rows of a call's own.
-/
import Derived.Test.YtjhigjbfnemdjaaIv
import Derived.Deep.SlicePairs
namespace Go.Proofs.Ytjhigjbfnemdjaa
open Go.RowKit Go.ChangeShapes Go.WideShapes Go.ChangeAt Go.Joins
set_option maxRecDepth 100000
set_option linter.unusedVariables false

/-- a formula: its differences and its weight -/
abbrev Fm := List Int × Int
/-- formulas at an address -/
def ArgF (w : World) (a : Option Addr) (fs : List Fm) : Prop :=
  fs = [] ∨ ∃ A off, a = some ⟨A, off, none⟩ ∧ A < w.heap.size ∧ ∀ i f, fs[i]? = some f → ∃ u, w.cell? ⟨A, off + i * 2, none⟩ = some u ∧ IV w u f.1 ∧ w.cell? ⟨A, off + i * 2 + 1, none⟩ = some (.int .i64 f.2)
/-- v is read as the formulas fs -/
def FV (w : World) (v : Value) (fs : List Fm) : Prop := ∃ a c, v = .slice a fs.length c ∧ ArgF w a fs ∧ fs.length ≤ c ∧ c ≤ maxLen
theorem ArgF.below {w w' : World} {a : Option Addr} {fs : List Fm} (h : ArgF w a fs) (hb : Below w.heap.size w w') : ArgF w' a fs := by
  rcases h with h | ⟨A, off, ha, hA, hc⟩
  · exact .inl h
  · refine .inr ⟨A, off, ha, Nat.lt_of_lt_of_le hA hb.size, fun i f hf => ?_⟩
    obtain ⟨u, h0, h1, h2⟩ := hc i f hf
    exact ⟨u, (hb.cell (p := ⟨A, off + i * 2, none⟩) hA).trans h0, h1.below hb, (hb.cell (p := ⟨A, off + i * 2 + 1, none⟩) hA).trans h2⟩
theorem FV.below {w w' : World} {v : Value} {fs : List Fm} (h : FV w v fs) (hb : Below w.heap.size w w') : FV w' v fs := by
  obtain ⟨a, c, e, ha, h1, h2⟩ := h
  exact ⟨a, c, e, ha.below hb, h1, h2⟩

/-- the cells of a list of formulas -/
def fcs : List Value → List Fm → List Value
  | u :: us, f :: fs => u :: .int .i64 f.2 :: fcs us fs
  | _, _ => []
theorem fcs_len {us : List Value} {fs : List Fm} (h : us.length = fs.length) : (fcs us fs).length = fs.length * 2 := by
  induction us generalizing fs with
  | nil => cases fs with
    | nil => rfl
    | cons f r => simp at h
  | cons u us ih => cases fs with
    | nil => simp at h
    | cons f r => simp [fcs, ih (by simpa using h)]; omega
theorem fcs_app {us vs : List Value} {fs gs : List Fm} (h : us.length = fs.length) : fcs (us ++ vs) (fs ++ gs) = fcs us fs ++ fcs vs gs := by
  induction us generalizing fs with
  | nil => cases fs with
    | nil => rfl
    | cons f r => simp at h
  | cons u us ih => cases fs with
    | nil => simp at h
    | cons f r => simp [fcs, ih (by simpa using h)]
theorem fcs_get {us : List Value} {fs : List Fm} {i : Nat} {u : Value} {f : Fm} (hu : us[i]? = some u) (hf : fs[i]? = some f) : (fcs us fs)[i * 2]? = some u ∧ (fcs us fs)[i * 2 + 1]? = some (.int .i64 f.2) := by
  induction us generalizing fs i with
  | nil => simp at hu
  | cons v us ih => cases fs with
    | nil => simp at hf
    | cons g r =>
      cases i with
      | zero => simp at hu hf; subst hu hf; exact ⟨rfl, rfl⟩
      | succ j =>
        have := ih (i := j) (by simpa using hu) (by simpa using hf)
        rw [show (j + 1) * 2 = j * 2 + 1 + 1 by omega]
        exact this

/-- v is a slice of just the formulas fs, whose lists are us, all in blocks from lo on and below hi -/
structure FRow (w : World) (lo hi : Nat) (v : Value) (us : List Value) (fs : List Fm) : Prop where
  own : w.ownsRow lo 59 2 v fs.length (fcs us fs)
  lt : ∀ g, v.ownBlock = some g → g < hi
  len : us.length = fs.length
  row : ∀ (i : Nat) (u : Value) (f : Fm), us[i]? = some u → fs[i]? = some f → IRow w lo hi u f.1
/-- no two lists have one block -/
def Sep (us : List Value) : Prop := ∀ (i j : Nat) (u v : Value), us[i]? = some u → us[j]? = some v → i < j → ∀ g, u.ownBlock = some g → v.ownBlock ≠ some g

theorem FRow.view {w : World} {lo hi : Nat} {v : Value} {us : List Value} {fs : List Fm} (h : FRow w lo hi v us fs) : FV w v fs := by
  obtain ⟨⟨hl, h0 | ⟨g, cap, cur, rfl, hg, hh, hn, hcap, hsz, htake⟩⟩, hlt, hlen, hrow⟩ := h
  · obtain ⟨rfl, h1⟩ := h0
    have h2 : fs = [] := List.eq_nil_of_length_eq_zero h1
    subst h2
    exact ⟨none, 0, rfl, .inl rfl, Nat.le_refl _, Nat.zero_le _⟩
  · have hgs : g < w.heap.size := by
      rcases Nat.lt_or_ge g w.heap.size with h | h
      · exact h
      · rw [Array.getElem?_eq_none h] at hh; cases hh
    refine ⟨_, cap, rfl, .inr ⟨g, 0, rfl, hgs, fun i f hf => ?_⟩, hn, hcap⟩
    have hi : i < fs.length := (List.getElem?_eq_some_iff.1 hf).1
    have hu : us[i]? = some us[i] := List.getElem?_eq_getElem (by omega)
    obtain ⟨h0, h1⟩ := fcs_get hu hf
    rw [← htake, List.getElem?_take_of_lt (by omega), Array.getElem?_toList] at h0 h1
    exact ⟨us[i], by simp [World.cell?, hh, h0], (hrow i _ f hu hf).view, by simp [World.cell?, hh, h1]⟩
theorem FRow.keep {w w' : World} {lo hi : Nat} {v : Value} {us : List Value} {fs : List Fm} (h : FRow w lo hi v us fs) (hk : ∀ k, k < w.heap.size → lo ≤ k → k < hi → w'.heap[k]? = w.heap[k]?) : FRow w' lo hi v us fs := by
  obtain ⟨⟨hl, h0 | ⟨g, cap, cur, rfl, hg, hh, hn, hcap, hsz, htake⟩⟩, hlt, hlen, hrow⟩ := h
  · exact ⟨⟨hl, .inl h0⟩, hlt, hlen, fun i u f hu hf => (hrow i u f hu hf).keep hk⟩
  · have hgs : g < w.heap.size := by
      rcases Nat.lt_or_ge g w.heap.size with h | h
      · exact h
      · rw [Array.getElem?_eq_none h] at hh; cases hh
    exact ⟨⟨hl, .inr ⟨g, cap, cur, rfl, hg, (hk g hgs hg (hlt g rfl)).trans hh, hn, hcap, hsz, htake⟩⟩, hlt, hlen, fun i u f hu hf => (hrow i u f hu hf).keep hk⟩
theorem FRow.below {w w' : World} {lo hi B : Nat} {v : Value} {us : List Value} {fs : List Fm} (h : FRow w lo hi v us fs) (hb : Below B w w') (hB : hi ≤ B ∨ w.heap.size ≤ B) : FRow w' lo hi v us fs :=
  h.keep fun k h1 h2 h3 => hb.block k (by omega)
theorem FRow.turned {w w' : World} {lo hi lo' hi' : Nat} {v : Value} {us : List Value} {fs : List Fm} (h : FRow w lo hi v us fs) (t : Turned lo' hi' w w') (hd : hi ≤ lo' ∨ hi' ≤ lo) : FRow w' lo hi v us fs :=
  h.keep fun k h1 h2 h3 => t.block k h1 (by omega)
theorem IRow.lohi {w : World} {lo hi : Nat} {v : Value} {xs : List Int} (h : IRow w lo hi v xs) {lo' hi' : Nat} (h1 : lo' ≤ lo) (h2 : hi ≤ hi') : IRow w lo' hi' v xs := by
  obtain ⟨⟨hl, h | ⟨g, cap, cur, rfl, hg, hr⟩⟩, hlt⟩ := h
  · exact ⟨⟨hl, .inl h⟩, fun g hg => Nat.lt_of_lt_of_le (hlt g hg) h2⟩
  · exact ⟨⟨hl, .inr ⟨g, cap, cur, rfl, Nat.le_trans h1 hg, hr⟩⟩, fun g hg => Nat.lt_of_lt_of_le (hlt g hg) h2⟩
theorem FRow.lohi {w : World} {lo hi : Nat} {v : Value} {us : List Value} {fs : List Fm} (h : FRow w lo hi v us fs) {lo' hi' : Nat} (h1 : lo' ≤ lo) (h2 : hi ≤ hi') : FRow w lo' hi' v us fs := by
  obtain ⟨⟨hl, h0 | ⟨g, cap, cur, rfl, hg, hr⟩⟩, hlt, hlen, hrow⟩ := h
  · exact ⟨⟨hl, .inl h0⟩, fun g hg => Nat.lt_of_lt_of_le (hlt g hg) h2, hlen, fun i u f hu hf => (hrow i u f hu hf).lohi h1 h2⟩
  · exact ⟨⟨hl, .inr ⟨g, cap, cur, rfl, Nat.le_trans h1 hg, hr⟩⟩, fun g hg => Nat.lt_of_lt_of_le (hlt g hg) h2, hlen, fun i u f hu hf => (hrow i u f hu hf).lohi h1 h2⟩

theorem cellsForm : Try.prog.cellsOf 56 = 2 := by kernel_rfl
section
variable {H : Type} {enc : TypeId × Value → H} {w : World} {base : Nat} {spare : Nat → Bool} {held : Bool}
set_option maxRecDepth 100000 in
theorem ints_cell {n : Nat} {c : Value} {y : DataW H × List MemPlace} (h : DataW.trod enc Try.prog w base spare held n 23 [c] = some y) : ∃ xs, IV w c xs := by
  obtain ⟨a, l, k, e⟩ := slice_form Try.underlying23 h
  injection e with e _
  subst e
  obtain ⟨xs, hl, hA, h1, h2⟩ := ints_in (d := y.1) (p := y.2) ⟨n, by simpa [Value.cells] using h⟩
  subst hl
  exact ⟨xs, a, k, rfl, hA, h1, h2⟩
set_option maxRecDepth 100000 in
theorem formulas_in {a : Option Addr} {n c : Nat} {d : DataW H} {p : List MemPlace} (h : DataW.Trod enc Try.prog w base spare held 22 (.slice a n c) d p) : ∃ xs : List Fm, n = xs.length ∧ ArgF w a xs ∧ n ≤ c ∧ c ≤ maxLen := by
  obtain ⟨fuel, hf⟩ := h
  rcases Deep.open_slice_pairs Try.underlying22 Try.underlying56 cellsForm rfl rfl (by kernel_rfl) (by kernel_rfl) hf with ⟨hcs, _⟩ | ⟨x, l, c', m, k, V0, V1, D0, D1, P0, P1, hcs, _, hl, hm, hmm, _, hcell⟩
  · simp [Value.cells] at hcs
    obtain ⟨rfl, rfl, rfl⟩ := hcs
    exact ⟨[], rfl, .inl rfl, Nat.le_refl _, Nat.zero_le _⟩
  · simp [Value.cells] at hcs
    obtain ⟨rfl, rfl, rfl⟩ := hcs
    have hnm : n ≤ m := by rw [hmm]; split <;> omega
    have each : ∀ i, i < n → ∃ t : Fm × Value, w.cell? (x.add (i * 2)) = some t.2 ∧ IV w t.2 t.1.1 ∧ w.cell? (x.add (i * 2 + 1)) = some (.int .i64 t.1.2) := fun i hi => by
      obtain ⟨h0, h1, t0, t1⟩ := hcell i (by omega)
      obtain ⟨xs, hx⟩ := ints_cell t0
      obtain ⟨b, e1, _⟩ := DataW.trod_int Try.underlying3 t1
      simp at e1
      exact ⟨((xs, b), V0 i), h0, hx, by rw [h1, e1]⟩
    obtain ⟨f, hf2⟩ := Deep.choose_lt each
    refine ⟨(List.range n).map fun i => (f i).1, by simp, ?_, hl, hm⟩
    by_cases hn : n = 0
    · subst hn; exact .inl rfl
    obtain ⟨A, off, spot⟩ := x
    have hspot : spot = none := by simpa [Addr.add] using World.cell?_spot (hf2 0 (by omega)).1
    subst hspot
    refine .inr ⟨A, off, rfl, ?_, fun i t ht => ?_⟩
    · exact World.block_lt_of_cell? w ⟨A, off, none⟩ (by simpa [Addr.add] using (hf2 0 (by omega)).1)
    · rw [List.getElem?_map] at ht
      obtain ⟨j, hj, rfl⟩ := Option.map_eq_some_iff.1 ht
      have hji : i < n ∧ j = i := by
        obtain ⟨h1, h2⟩ := List.getElem?_eq_some_iff.1 hj
        simp at h1 h2
        exact ⟨h1, h2.symm⟩
      obtain ⟨hi, rfl⟩ := hji
      have := hf2 j hi
      rw [Go.WideShapes.add_plain, Go.WideShapes.add_plain, ← Nat.add_assoc] at this
      exact ⟨_, this⟩
end
end Go.Proofs.Ytjhigjbfnemdjaa
