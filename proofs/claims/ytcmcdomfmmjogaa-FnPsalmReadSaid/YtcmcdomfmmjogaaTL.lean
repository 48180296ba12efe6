/-
  Slices of tones of a call's own: what they hold and what is kept; the exact laws' helpers on them.
-/
import Derived.Test.YtcmcdomfmmjogaaTones
import Derived.WalkLawsBesides
import Derived.Handy
import Derived.OwnWalk
import Derived.Laws.Rows
import Derived.Deep.QuietTactic
import Derived.BigQuiet
import Derived.Deep.RegionWith
import Derived.Deep.RegionHeld3
namespace Go.Proofs.Ytcmcdomfmmjogaa
open Go.RowKit
set_option maxRecDepth 100000
set_option linter.unusedVariables false

/-- the cells of a list of tones -/
def tcs : List (Int × Bool) → List Value
  | [] => []
  | t :: r => .int .i64 t.1 :: .bool t.2 :: tcs r
theorem tcs_len (xs : List (Int × Bool)) : (tcs xs).length = xs.length * 2 := by
  induction xs with
  | nil => rfl
  | cons t r ih => simp [tcs, ih]; omega
theorem tcs_app (xs ys : List (Int × Bool)) : tcs (xs ++ ys) = tcs xs ++ tcs ys := by
  induction xs with
  | nil => rfl
  | cons t r ih => simp [tcs, ih]
theorem tcs_get {xs : List (Int × Bool)} {i : Nat} {t : Int × Bool} (h : xs[i]? = some t) : (tcs xs)[i * 2]? = some (.int .i64 t.1) ∧ (tcs xs)[i * 2 + 1]? = some (.bool t.2) := by
  induction xs generalizing i with
  | nil => simp at h
  | cons u r ih =>
    cases i with
    | zero => simp at h; subst h; exact ⟨rfl, rfl⟩
    | succ j =>
      have := ih (i := j) (by simpa using h)
      rw [show (j + 1) * 2 = j * 2 + 1 + 1 by omega]
      exact this
theorem tcs_one (xs : List (Int × Bool)) : ∀ u ∈ tcs xs, u.oneCell' = true := by
  induction xs with
  | nil => intro u hu; cases hu
  | cons t r ih =>
    intro u hu
    simp [tcs] at hu
    rcases hu with rfl | rfl | hu
    · rfl
    · rfl
    · exact ih u hu

/-- v is a slice of just the tones xs, in a block from lo on and below hi -/
def TRow (w : World) (lo hi : Nat) (v : Value) (xs : List (Int × Bool)) : Prop :=
  w.ownsRow lo 25 2 v xs.length (tcs xs) ∧ ∀ g, v.ownBlock = some g → g < hi

theorem TRow.form {w : World} {lo hi : Nat} {v : Value} {xs : List (Int × Bool)} (h : TRow w lo hi v xs) : (v = .slice none 0 0 ∧ xs = []) ∨
    ∃ g cap, v = .slice (some ⟨g, 0, none⟩) xs.length cap ∧ lo ≤ g ∧ g < hi ∧ g < w.heap.size ∧ xs.length ≤ cap ∧ cap ≤ maxLen ∧
      (∀ i t, xs[i]? = some t → w.cell? ⟨g, i * 2, none⟩ = some (.int .i64 t.1) ∧ w.cell? ⟨g, i * 2 + 1, none⟩ = some (.bool t.2)) := by
  obtain ⟨⟨hl, h | ⟨g, cap, cur, rfl, hg, hh, hn, hcap, hsz, htake⟩⟩, hlt⟩ := h
  · exact .inl ⟨h.1, List.eq_nil_of_length_eq_zero h.2⟩
  · have hgs : g < w.heap.size := by
      rcases Nat.lt_or_ge g w.heap.size with h | h
      · exact h
      · rw [Array.getElem?_eq_none h] at hh; cases hh
    refine .inr ⟨g, cap, rfl, hg, hlt g rfl, hgs, hn, hcap, fun i t ht => ?_⟩
    obtain ⟨h0, h1⟩ := tcs_get ht
    have hi : i < xs.length := (List.getElem?_eq_some_iff.1 ht).1
    rw [← htake, List.getElem?_take_of_lt (by omega), Array.getElem?_toList] at h0 h1
    exact ⟨by simp [World.cell?, hh, h0], by simp [World.cell?, hh, h1]⟩

theorem TRow.keep {w w' : World} {lo hi : Nat} {v : Value} {xs : List (Int × Bool)} (h : TRow w lo hi v xs) (hk : ∀ k, k < w.heap.size → lo ≤ k → k < hi → w'.heap[k]? = w.heap[k]?) : TRow w' lo hi v xs := by
  obtain ⟨⟨hl, h | ⟨g, cap, cur, rfl, hg, hh, hn, hcap, hsz, htake⟩⟩, hlt⟩ := h
  · exact ⟨⟨hl, .inl h⟩, hlt⟩
  · have hgs : g < w.heap.size := by
      rcases Nat.lt_or_ge g w.heap.size with h | h
      · exact h
      · rw [Array.getElem?_eq_none h] at hh; cases hh
    exact ⟨⟨hl, .inr ⟨g, cap, cur, rfl, hg, (hk g hgs hg (hlt g rfl)).trans hh, hn, hcap, hsz, htake⟩⟩, hlt⟩
theorem TRow.below {w w' : World} {lo hi B : Nat} {v : Value} {xs : List (Int × Bool)} (h : TRow w lo hi v xs) (hb : Below B w w') (hB : hi ≤ B ∨ w.heap.size ≤ B) : TRow w' lo hi v xs :=
  h.keep fun k h1 h2 h3 => hb.block k (by omega)

/-- a list of tones that a call has built: its block is its own -/
def TBuilt (w : World) (xs : List (Int × Bool)) (e : Ending) (w' : World) : Prop :=
  ∃ v, e = .returned v ∧ TRow w' w.heap.size w'.heap.size v xs ∧ Below w.heap.size w w'

theorem eqTone_yes (s : Int) (b : Bool) (w : World) :
    Calls Try.prog 74 #[.agg #[.int .i64 s, .bool b], .agg #[.int .i64 s, .bool b]] w fun e w' => e = .returned (.bool true) ∧ Below w.heap.size w w' := by
  have h := eqTone_any s s b b w
  rw [teq_yes] at h
  exact h

set_option maxHeartbeats 1000000 in
theorem eqToneS_any (lo hi lo' hi' : Nat) (v u : Value) (xs : List (Int × Bool)) (w : World) (h : TRow w lo hi v xs) (k : TRow w lo' hi' u xs) :
    Calls Try.prog 42 #[v, u] w fun e w' => e = .returned (.bool true) ∧ Below w.heap.size w w' := by
  rcases h.form with ⟨rfl, rfl⟩ | ⟨g, cap, rfl, hg, hg2, hgs, hcap, hmax, hc⟩
  · rcases k.form with ⟨rfl, _⟩ | ⟨g', cap', rfl, _, _, _, _, _, _⟩
    all_goals
      go_enter Try.func42, Try.ntmps42
      go_wp2
      go_rounds 1
      go_ret
      exact ⟨rfl, Below.refl _ _⟩
  · rcases k.form with ⟨rfl, hx⟩ | ⟨g', cap', rfl, hg', hg2', hgs', hcap', hmax', hc'⟩
    · subst hx
      go_enter Try.func42, Try.ntmps42
      go_wp2
      go_rounds 1
      go_ret
      exact ⟨rfl, Below.refl _ _⟩
    · unfold maxLen at hmax hmax'
      have hlen : xs.length ≤ 9223372036854775807 := by omega
      have HG : Hid (∀ i, i < xs.length → ∃ s b, xs[i]? = some (s, b)) := fun i hi => ⟨xs[i].1, xs[i].2, List.getElem?_eq_getElem hi⟩
      clear h k
      generalize hn : xs.length = n at *
      clear hn
      have HC := Lib.hid hc
      have HC' := Lib.hid hc'
      clear hc hc'
      go_enter Try.func42, Try.ntmps42
      go_wp2
      go_loopw [5] (fun i wr => ∃ k : Nat, k ≤ n ∧ i = .int .i64 k ∧ Below w.heap.size w wr) (fun i _ => n - (intOf i).toNat)
      case atStart => exact ⟨0, Nat.zero_le _, rfl, Below.refl _ _⟩
      case round =>
        obtain ⟨k, hk, rfl, hb⟩ := hrel
        by_cases hlt : k < n
        · obtain ⟨s, b, hg0⟩ := HG.out k hlt
          have e1 : wr.cell? ⟨g, k * 2, none⟩ = some (.int .i64 s) := (hb.cell (p := ⟨g, k * 2, none⟩) hgs).trans (HC.out k _ hg0).1
          have e2 : wr.cell? ⟨g, k * 2 + 1, none⟩ = some (.bool b) := (hb.cell (p := ⟨g, k * 2 + 1, none⟩) hgs).trans (HC.out k _ hg0).2
          have e3 : wr.cell? ⟨g', k * 2, none⟩ = some (.int .i64 s) := (hb.cell (p := ⟨g', k * 2, none⟩) hgs').trans (HC'.out k _ hg0).1
          have e4 : wr.cell? ⟨g', k * 2 + 1, none⟩ = some (.bool b) := (hb.cell (p := ⟨g', k * 2 + 1, none⟩) hgs').trans (HC'.out k _ hg0).2
          have hk0 : (0 : Int) ≤ (k : Int) := by omega
          have hk1 : (k : Int) < (n : Int) := by omega
          clear hg0
          go_wp2
          go_region_with (go_at_call 74; refine (eqTone_yes _ _ _).mono ?_; rintro e w1 ⟨rfl, hb1⟩)
          all_goals
            go_wp2
            go_roundw
            case rel => exact ⟨k + 1, by omega, by go_num, (bl_step hb.drew hb1)⟩
            case measure => simp [intOf]; omega
        · go_wp2
          go_ret
          exact ⟨rfl, hb⟩
end Go.Proofs.Ytcmcdomfmmjogaa
