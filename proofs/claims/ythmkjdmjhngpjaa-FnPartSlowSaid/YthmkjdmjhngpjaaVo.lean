/-
  Lists of voices: what a law's argument holds, what a call reads, and rows of a call's own.
-/
import Derived.Test.YthmkjdmjhngpjaaIv
import Derived.Test.YthmkjdmjhngpjaaPm8
import Derived.Test.YthmkjdmjhngpjaaOpen
import Derived.Deep.SlicePairs
namespace Go.Proofs.Ythmkjdmjhngpjaa
open Go.RowKit Go.ChangeShapes Go.WideShapes Go.ChangeAt Go.Joins
set_option maxRecDepth 100000
set_option linter.unusedVariables false

/-- voices at an address -/
def ArgV (w : World) (a : Option Addr) (xs : List Vc) : Prop :=
  xs = [] ∨ ∃ A off, a = some ⟨A, off, none⟩ ∧ A < w.heap.size ∧ ∀ i x, xs[i]? = some x → w.cell? ⟨A, off + i * 3, none⟩ = some (.int .i64 x.1.1) ∧ w.cell? ⟨A, off + i * 3 + 1, none⟩ = some (.bool x.1.2) ∧ w.cell? ⟨A, off + i * 3 + 2, none⟩ = some (.int .i64 x.2)
/-- v is read as the voices xs -/
def VV (w : World) (v : Value) (xs : List Vc) : Prop := ∃ a c, v = .slice a xs.length c ∧ ArgV w a xs ∧ xs.length ≤ c ∧ c ≤ maxLen
theorem ArgV.below {w w' : World} {a : Option Addr} {xs : List Vc} (h : ArgV w a xs) (hb : Below w.heap.size w w') : ArgV w' a xs := by
  rcases h with h | ⟨A, off, ha, hA, hc⟩
  · exact .inl h
  · refine .inr ⟨A, off, ha, Nat.lt_of_lt_of_le hA hb.size, fun i x hx => ?_⟩
    obtain ⟨h0, h1, h2⟩ := hc i x hx
    exact ⟨(hb.cell (p := ⟨A, off + i * 3, none⟩) hA).trans h0, (hb.cell (p := ⟨A, off + i * 3 + 1, none⟩) hA).trans h1, (hb.cell (p := ⟨A, off + i * 3 + 2, none⟩) hA).trans h2⟩
theorem VV.below {w w' : World} {v : Value} {xs : List Vc} (h : VV w v xs) (hb : Below w.heap.size w w') : VV w' v xs := by
  obtain ⟨a, c, e, ha, h1, h2⟩ := h
  exact ⟨a, c, e, ha.below hb, h1, h2⟩
theorem VV.len {w : World} {v : Value} {xs : List Vc} (h : VV w v xs) : xs.length ≤ 9223372036854775807 := by
  obtain ⟨a, c, e, ha, h1, h2⟩ := h
  unfold maxLen at h2
  omega

/-- the cells of a list of voices -/
def vcs : List Vc → List Value
  | [] => []
  | x :: r => .int .i64 x.1.1 :: .bool x.1.2 :: .int .i64 x.2 :: vcs r
theorem vcs_len (xs : List Vc) : (vcs xs).length = xs.length * 3 := by
  induction xs with
  | nil => rfl
  | cons t r ih => simp [vcs, ih]; omega
theorem vcs_app (xs ys : List Vc) : vcs (xs ++ ys) = vcs xs ++ vcs ys := by
  induction xs with
  | nil => rfl
  | cons t r ih => simp [vcs, ih]
theorem vcs_get {xs : List Vc} {i : Nat} {t : Vc} (h : xs[i]? = some t) : (vcs xs)[i * 3]? = some (.int .i64 t.1.1) ∧ (vcs xs)[i * 3 + 1]? = some (.bool t.1.2) ∧ (vcs xs)[i * 3 + 2]? = some (.int .i64 t.2) := by
  induction xs generalizing i with
  | nil => simp at h
  | cons u r ih =>
    cases i with
    | zero => simp at h; subst h; exact ⟨rfl, rfl, rfl⟩
    | succ j =>
      have := ih (i := j) (by simpa using h)
      rw [show (j + 1) * 3 = j * 3 + 1 + 1 + 1 by omega]
      exact this
theorem vcs_one (xs : List Vc) : ∀ u ∈ vcs xs, u.oneCell' = true := by
  induction xs with
  | nil => intro u hu; cases hu
  | cons t r ih =>
    intro u hu
    simp [vcs] at hu
    rcases hu with rfl | rfl | rfl | hu
    · rfl
    · rfl
    · rfl
    · exact ih u hu

/-- v is a slice of just the voices xs, in a block from lo on and below hi -/
def VRow (w : World) (lo hi : Nat) (v : Value) (xs : List Vc) : Prop :=
  w.ownsRow lo 51 3 v xs.length (vcs xs) ∧ ∀ g, v.ownBlock = some g → g < hi

theorem VRow.form {w : World} {lo hi : Nat} {v : Value} {xs : List Vc} (h : VRow w lo hi v xs) : (v = .slice none 0 0 ∧ xs = []) ∨
    ∃ g cap cur, v = .slice (some ⟨g, 0, none⟩) xs.length cap ∧ lo ≤ g ∧ g < hi ∧ g < w.heap.size ∧ xs.length ≤ cap ∧ cap ≤ maxLen ∧ w.heap[g]? = some (.cells cur 51 (0, 0)) ∧ cur.size = cap * 3 ∧ cur.toList.take (xs.length * 3) = vcs xs ∧
      (∀ i t, xs[i]? = some t → w.cell? ⟨g, i * 3, none⟩ = some (.int .i64 t.1.1) ∧ w.cell? ⟨g, i * 3 + 1, none⟩ = some (.bool t.1.2) ∧ w.cell? ⟨g, i * 3 + 2, none⟩ = some (.int .i64 t.2)) := by
  obtain ⟨⟨hl, h | ⟨g, cap, cur, rfl, hg, hh, hn, hcap, hsz, htake⟩⟩, hlt⟩ := h
  · exact .inl ⟨h.1, List.eq_nil_of_length_eq_zero h.2⟩
  · have hgs : g < w.heap.size := by
      rcases Nat.lt_or_ge g w.heap.size with h | h
      · exact h
      · rw [Array.getElem?_eq_none h] at hh; cases hh
    refine .inr ⟨g, cap, cur, rfl, hg, hlt g rfl, hgs, hn, hcap, hh, hsz, htake, fun i t ht => ?_⟩
    obtain ⟨h0, h1, h2⟩ := vcs_get ht
    have hi : i < xs.length := (List.getElem?_eq_some_iff.1 ht).1
    rw [← htake, List.getElem?_take_of_lt (by omega), Array.getElem?_toList] at h0 h1 h2
    exact ⟨by simp [World.cell?, hh, h0], by simp [World.cell?, hh, h1], by simp [World.cell?, hh, h2]⟩

theorem VRow.keep {w w' : World} {lo hi : Nat} {v : Value} {xs : List Vc} (h : VRow w lo hi v xs) (hk : ∀ k, k < w.heap.size → lo ≤ k → k < hi → w'.heap[k]? = w.heap[k]?) : VRow w' lo hi v xs := by
  obtain ⟨⟨hl, h | ⟨g, cap, cur, rfl, hg, hh, hn, hcap, hsz, htake⟩⟩, hlt⟩ := h
  · exact ⟨⟨hl, .inl h⟩, hlt⟩
  · have hgs : g < w.heap.size := by
      rcases Nat.lt_or_ge g w.heap.size with h | h
      · exact h
      · rw [Array.getElem?_eq_none h] at hh; cases hh
    exact ⟨⟨hl, .inr ⟨g, cap, cur, rfl, hg, (hk g hgs hg (hlt g rfl)).trans hh, hn, hcap, hsz, htake⟩⟩, hlt⟩
theorem VRow.below {w w' : World} {lo hi B : Nat} {v : Value} {xs : List Vc} (h : VRow w lo hi v xs) (hb : Below B w w') (hB : hi ≤ B ∨ w.heap.size ≤ B) : VRow w' lo hi v xs :=
  h.keep fun k h1 h2 h3 => hb.block k (by omega)
theorem VRow.turned {w w' : World} {lo hi lo' hi' : Nat} {v : Value} {xs : List Vc} (h : VRow w lo hi v xs) (t : Turned lo' hi' w w') (hd : hi ≤ lo' ∨ hi' ≤ lo) : VRow w' lo hi v xs :=
  h.keep fun k h1 h2 h3 => t.block k h1 (by omega)
theorem VRow.view {w : World} {lo hi : Nat} {v : Value} {xs : List Vc} (h : VRow w lo hi v xs) : VV w v xs := by
  rcases h.form with ⟨rfl, rfl⟩ | ⟨g, cap, cur, rfl, hg, hg2, hgs, hcap, hmax, hh, hsz, htk, hc⟩
  · exact ⟨none, 0, rfl, .inl rfl, Nat.le_refl _, Nat.zero_le _⟩
  · exact ⟨_, cap, rfl, .inr ⟨g, 0, rfl, hgs, fun i t hi => by rw [Nat.zero_add]; exact hc i t hi⟩, hcap, hmax⟩

/-- a list of voices that a call has built: its block is its own -/
def VBuilt (w : World) (xs : List Vc) (e : Ending) (w' : World) : Prop :=
  ∃ v, e = .returned v ∧ VRow w' w.heap.size w'.heap.size v xs ∧ Below w.heap.size w w'
/-- .. and whether there is one -/
def VBuilt2 (w : World) (xs : List Vc) (ok : Bool) (e : Ending) (w' : World) : Prop :=
  ∃ v, e = .returned (.tuple #[v, .bool ok]) ∧ VRow w' w.heap.size w'.heap.size v xs ∧ Below w.heap.size w w'
end Go.Proofs.Ythmkjdmjhngpjaa
