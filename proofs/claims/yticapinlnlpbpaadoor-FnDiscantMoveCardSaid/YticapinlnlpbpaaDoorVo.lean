/-
  Lists of voices: what a law's argument holds, what a call reads, and rows of a call's own.
-/
import Derived.Test.YticapinlnlpbpaaDoorIv
import Derived.Test.YticapinlnlpbpaaDoorPm8
import Derived.Test.YticapinlnlpbpaaDoorOpen
import Derived.Deep.SlicePairs
namespace Go.Proofs.YticapinlnlpbpaaDoor
open Go.RowKit Go.ChangeShapes Go.WideShapes Go.ChangeAt Go.Joins
set_option maxRecDepth 100000
set_option linter.unusedVariables false

/-- voices at an address -/
def ArgV (w : World) (a : Option Addr) (xs : List Vc) : Prop :=
  xs = [] ∨ ∃ A off, a = some ⟨A, off, none⟩ ∧ A < w.heap.size ∧ ∀ i x, xs[i]? = some x → w.cell? ⟨A, off + i * 3, none⟩ = some (.int .i64 x.1.1) ∧ w.cell? ⟨A, off + i * 3 + 1, none⟩ = some (.bool x.1.2) ∧ w.cell? ⟨A, off + i * 3 + 2, none⟩ = some (.int .i64 x.2)
/-- v is read as the voices xs -/
def VV (w : World) (v : Value) (xs : List Vc) : Prop := ∃ a c, v = .slice a xs.length c ∧ ArgV w a xs ∧ xs.length ≤ c ∧ c ≤ maxLen
theorem ArgV.below {w w' : World} {a : Option Addr} {xs : List Vc} (h : ArgV w a xs) (hb : Below w.heap.size w w') : ArgV w' a xs := by
  rcases h with h | ⟨A, off, ha, hA, hc⟩
  · exact .inl h
  · refine .inr ⟨A, off, ha, Nat.lt_of_lt_of_le hA hb.size, fun i x hx => ?_⟩
    obtain ⟨h0, h1, h2⟩ := hc i x hx
    exact ⟨(hb.cell (p := ⟨A, off + i * 3, none⟩) hA).trans h0, (hb.cell (p := ⟨A, off + i * 3 + 1, none⟩) hA).trans h1, (hb.cell (p := ⟨A, off + i * 3 + 2, none⟩) hA).trans h2⟩
theorem VV.below {w w' : World} {v : Value} {xs : List Vc} (h : VV w v xs) (hb : Below w.heap.size w w') : VV w' v xs := by
  obtain ⟨a, c, e, ha, h1, h2⟩ := h
  exact ⟨a, c, e, ha.below hb, h1, h2⟩
theorem VV.len {w : World} {v : Value} {xs : List Vc} (h : VV w v xs) : xs.length ≤ 9223372036854775807 := by
  obtain ⟨a, c, e, ha, h1, h2⟩ := h
  unfold maxLen at h2
  omega

/-- the cells of a list of voices -/
def vcs : List Vc → List Value
  | [] => []
  | x :: r => .int .i64 x.1.1 :: .bool x.1.2 :: .int .i64 x.2 :: vcs r
theorem vcs_len (xs : List Vc) : (vcs xs).length = xs.length * 3 := by
  induction xs with
  | nil => rfl
  | cons t r ih => simp [vcs, ih]; omega
theorem vcs_app (xs ys : List Vc) : vcs (xs ++ ys) = vcs xs ++ vcs ys := by
  induction xs with
  | nil => rfl
  | cons t r ih => simp [vcs, ih]
theorem vcs_get {xs : List Vc} {i : Nat} {t : Vc} (h : xs[i]? = some t) : (vcs xs)[i * 3]? = some (.int .i64 t.1.1) ∧ (vcs xs)[i * 3 + 1]? = some (.bool t.1.2) ∧ (vcs xs)[i * 3 + 2]? = some (.int .i64 t.2) := by
  induction xs generalizing i with
  | nil => simp at h
  | cons u r ih =>
    cases i with
    | zero => simp at h; subst h; exact ⟨rfl, rfl, rfl⟩
    | succ j =>
      have := ih (i := j) (by simpa using h)
      rw [show (j + 1) * 3 = j * 3 + 1 + 1 + 1 by omega]
      exact this
theorem vcs_one (xs : List Vc) : ∀ u ∈ vcs xs, u.oneCell' = true := by
  induction xs with
  | nil => intro u hu; cases hu
  | cons t r ih =>
    intro u hu
    simp [vcs] at hu
    rcases hu with rfl | rfl | rfl | hu
    · rfl
    · rfl
    · rfl
    · exact ih u hu

/-- v is a slice of just the voices xs, in a block from lo on and below hi -/
def VRow (w : World) (lo hi : Nat) (v : Value) (xs : List Vc) : Prop :=
  w.ownsRow lo 49 3 v xs.length (vcs xs) ∧ ∀ g, v.ownBlock = some g → g < hi

theorem VRow.form {w : World} {lo hi : Nat} {v : Value} {xs : List Vc} (h : VRow w lo hi v xs) : (v = .slice none 0 0 ∧ xs = []) ∨
    ∃ g cap cur, v = .slice (some ⟨g, 0, none⟩) xs.length cap ∧ lo ≤ g ∧ g < hi ∧ g < w.heap.size ∧ xs.length ≤ cap ∧ cap ≤ maxLen ∧ w.heap[g]? = some (.cells cur 49 (0, 0)) ∧ cur.size = cap * 3 ∧ cur.toList.take (xs.length * 3) = vcs xs ∧
      (∀ i t, xs[i]? = some t → w.cell? ⟨g, i * 3, none⟩ = some (.int .i64 t.1.1) ∧ w.cell? ⟨g, i * 3 + 1, none⟩ = some (.bool t.1.2) ∧ w.cell? ⟨g, i * 3 + 2, none⟩ = some (.int .i64 t.2)) := by
  obtain ⟨⟨hl, h | ⟨g, cap, cur, rfl, hg, hh, hn, hcap, hsz, htake⟩⟩, hlt⟩ := h
  · exact .inl ⟨h.1, List.eq_nil_of_length_eq_zero h.2⟩
  · have hgs : g < w.heap.size := by
      rcases Nat.lt_or_ge g w.heap.size with h | h
      · exact h
      · rw [Array.getElem?_eq_none h] at hh; cases hh
    refine .inr ⟨g, cap, cur, rfl, hg, hlt g rfl, hgs, hn, hcap, hh, hsz, htake, fun i t ht => ?_⟩
    obtain ⟨h0, h1, h2⟩ := vcs_get ht
    have hi : i < xs.length := (List.getElem?_eq_some_iff.1 ht).1
    rw [← htake, List.getElem?_take_of_lt (by omega), Array.getElem?_toList] at h0 h1 h2
    exact ⟨by simp [World.cell?, hh, h0], by simp [World.cell?, hh, h1], by simp [World.cell?, hh, h2]⟩

theorem VRow.keep {w w' : World} {lo hi : Nat} {v : Value} {xs : List Vc} (h : VRow w lo hi v xs) (hk : ∀ k, k < w.heap.size → lo ≤ k → k < hi → w'.heap[k]? = w.heap[k]?) : VRow w' lo hi v xs := by
  obtain ⟨⟨hl, h | ⟨g, cap, cur, rfl, hg, hh, hn, hcap, hsz, htake⟩⟩, hlt⟩ := h
  · exact ⟨⟨hl, .inl h⟩, hlt⟩
  · have hgs : g < w.heap.size := by
      rcases Nat.lt_or_ge g w.heap.size with h | h
      · exact h
      · rw [Array.getElem?_eq_none h] at hh; cases hh
    exact ⟨⟨hl, .inr ⟨g, cap, cur, rfl, hg, (hk g hgs hg (hlt g rfl)).trans hh, hn, hcap, hsz, htake⟩⟩, hlt⟩
theorem VRow.below {w w' : World} {lo hi B : Nat} {v : Value} {xs : List Vc} (h : VRow w lo hi v xs) (hb : Below B w w') (hB : hi ≤ B ∨ w.heap.size ≤ B) : VRow w' lo hi v xs :=
  h.keep fun k h1 h2 h3 => hb.block k (by omega)
theorem VRow.turned {w w' : World} {lo hi lo' hi' : Nat} {v : Value} {xs : List Vc} (h : VRow w lo hi v xs) (t : Turned lo' hi' w w') (hd : hi ≤ lo' ∨ hi' ≤ lo) : VRow w' lo hi v xs :=
  h.keep fun k h1 h2 h3 => t.block k h1 (by omega)
theorem VRow.view {w : World} {lo hi : Nat} {v : Value} {xs : List Vc} (h : VRow w lo hi v xs) : VV w v xs := by
  rcases h.form with ⟨rfl, rfl⟩ | ⟨g, cap, cur, rfl, hg, hg2, hgs, hcap, hmax, hh, hsz, htk, hc⟩
  · exact ⟨none, 0, rfl, .inl rfl, Nat.le_refl _, Nat.zero_le _⟩
  · exact ⟨_, cap, rfl, .inr ⟨g, 0, rfl, hgs, fun i t hi => by rw [Nat.zero_add]; exact hc i t hi⟩, hcap, hmax⟩

/-- a list of voices that a call has built: its block is its own -/
def VBuilt (w : World) (xs : List Vc) (e : Ending) (w' : World) : Prop :=
  ∃ v, e = .returned v ∧ VRow w' w.heap.size w'.heap.size v xs ∧ Below w.heap.size w w'
/-- .. and whether there is one -/
def VBuilt2 (w : World) (xs : List Vc) (ok : Bool) (e : Ending) (w' : World) : Prop :=
  ∃ v, e = .returned (.tuple #[v, .bool ok]) ∧ VRow w' w.heap.size w'.heap.size v xs ∧ Below w.heap.size w w'

theorem cellsVoice : Tryd.prog.cellsOf 61 = 3 := by kernel_rfl

section
variable {H : Type} {enc : TypeId × Value → H} {w : World} {base : Nat} {spare : Nat → Bool} {held : Bool}
set_option maxRecDepth 100000 in
theorem voice_cells {n : Nat} {cs : List Value} {x : DataW H × List MemPlace} (hl : cs.length = 3) (h : DataW.trod enc Tryd.prog w base spare held n 61 cs = some x) :
    ∃ t : Vc, cs = [.int .i64 t.1.1, .bool t.1.2, .int .i64 t.2] := by
  match cs, hl with
  | [v0, v1, v2], _ =>
    obtain ⟨xs, k, hk, hxy, _, hxl, hf⟩ := DataW.trod_struct Tryd.underlying61 h
    match xs, hxl with
    | [y0, y1], _ =>
      have g0 := hf 0 _ rfl
      have g1 := hf 1 _ rfl
      simp [cellsTone, show Tryd.prog.cellsOf 3 = 1 from by kernel_rfl] at g0 g1
      obtain ⟨ys, k2, hk2, hyy, _, hyl, hf2⟩ := DataW.trod_struct Tryd.underlying59 g0
      match ys, hyl with
      | [z0, z1], _ =>
        have g2 := hf2 0 _ rfl
        have g3 := hf2 1 _ rfl
        simp [show Tryd.prog.cellsOf 4 = 1 from by kernel_rfl, show Tryd.prog.cellsOf 3 = 1 from by kernel_rfl] at g2 g3
        obtain ⟨s, e0, _, _⟩ := DataW.trod_int Tryd.underlying3 g2
        obtain ⟨b, e1, _⟩ := DataW.trod_bool Tryd.underlying4 g3
        obtain ⟨m, e2, _, _⟩ := DataW.trod_int Tryd.underlying3 g1
        simp at e0 e1 e2
        subst e0 e1 e2
        exact ⟨((s, b), m), rfl⟩

set_option maxRecDepth 100000 in
theorem voices_in {a : Option Addr} {n c : Nat} {d : DataW H} {p : List MemPlace} (h : DataW.Trod enc Tryd.prog w base spare held 22 (.slice a n c) d p) : ∃ xs : List Vc, n = xs.length ∧ ArgV w a xs ∧ n ≤ c ∧ c ≤ maxLen := by
  obtain ⟨fuel, hf⟩ := h
  rcases Deep.open_slice Tryd.underlying22 hf with ⟨hcs, _⟩ | ⟨x, l, c', m, k, D, Pl, hcs, _, hl, hm, hmm, _, hcell⟩
  · simp [Value.cells] at hcs
    obtain ⟨rfl, rfl, rfl⟩ := hcs
    exact ⟨[], rfl, .inl rfl, Nat.le_refl _, Nat.zero_le _⟩
  · simp [Value.cells] at hcs
    obtain ⟨rfl, rfl, rfl⟩ := hcs
    have hnm : n ≤ m := by rw [hmm]; split <;> omega
    have each : ∀ i, i < n → ∃ t : Vc, w.cell? (x.add (i * 3)) = some (.int .i64 t.1.1) ∧ w.cell? (x.add (i * 3 + 1)) = some (.bool t.1.2) ∧ w.cell? (x.add (i * 3 + 2)) = some (.int .i64 t.2) := fun i hi => by
      obtain ⟨cs', h1, h2⟩ := hcell i (by omega)
      rw [cellsVoice] at h1
      obtain ⟨_, hlen, hc⟩ := World.cells?_some h1
      obtain ⟨t, rfl⟩ := voice_cells hlen h2
      have e0 := hc 0 (by omega)
      have e1 := hc 1 (by omega)
      have e2 := hc 2 (by omega)
      rw [Deep.add_add] at e0 e1 e2
      exact ⟨t, by simpa using e0, by simpa using e1, by simpa using e2⟩
    obtain ⟨f, hf2⟩ := Deep.choose_lt each
    refine ⟨(List.range n).map f, by simp, ?_, hl, hm⟩
    by_cases hn : n = 0
    · subst hn; exact .inl rfl
    obtain ⟨A, off, spot⟩ := x
    have hspot : spot = none := by simpa [Addr.add] using World.cell?_spot (hf2 0 (by omega)).1
    subst hspot
    refine .inr ⟨A, off, rfl, ?_, fun i t ht => ?_⟩
    · exact World.block_lt_of_cell? w ⟨A, off, none⟩ (by simpa [Addr.add] using (hf2 0 (by omega)).1)
    · rw [List.getElem?_map] at ht
      obtain ⟨j, hj, rfl⟩ := Option.map_eq_some_iff.1 ht
      have hji : i < n ∧ j = i := by
        obtain ⟨h1, h2⟩ := List.getElem?_eq_some_iff.1 hj
        simp at h1 h2
        exact ⟨h1, h2.symm⟩
      obtain ⟨hi, rfl⟩ := hji
      have := hf2 j hi
      rw [Go.WideShapes.add_plain, Go.WideShapes.add_plain, Go.WideShapes.add_plain, ← Nat.add_assoc, ← Nat.add_assoc] at this
      exact this
end
end Go.Proofs.YticapinlnlpbpaaDoor
