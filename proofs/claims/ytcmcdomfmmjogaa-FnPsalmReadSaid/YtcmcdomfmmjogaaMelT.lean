/-
  A melody's tones as a slice, and the melody backwards.
-/
import Derived.Test.YtcmcdomfmmjogaaMel
import Derived.Test.YtcmcdomfmmjogaaTL2
import Derived.Test.YtcmcdomfmmjogaaTL3
import Derived.Deep.LoopGhost
namespace Go.Proofs.Ytcmcdomfmmjogaa
open Go.RowKit
set_option maxRecDepth 100000
set_option linter.unusedVariables false

theorem tlt {w : World} {base e size n g : Nat} {v : Value} {xs : List Value} (h : w.ownsRow base e size v n xs) (hg : v.ownBlock = some g) : base ≤ g ∧ g < w.heap.size := h.lt g hg
theorem tmono {w : World} {base base' e size n : Nat} {v : Value} {xs : List Value} (h : w.ownsRow base e size v n xs) (hb : base' ≤ base) : w.ownsRow base' e size v n xs := by
  obtain ⟨hl, h | ⟨g', cap, cur, hv, hg, hr⟩⟩ := h
  · exact ⟨hl, .inl h⟩
  · exact ⟨hl, .inr ⟨g', cap, cur, hv, Nat.le_trans hb hg, hr⟩⟩
theorem tbelow {w w1 : World} {base e size n : Nat} {v : Value} {xs : List Value} (h : w.ownsRow base e size v n xs) (hb : Below w.heap.size w w1) : w1.ownsRow base e size v n xs := by
  obtain ⟨hl, h | ⟨g, cap, cur, hv, hg, hh, hr⟩⟩ := h
  · exact ⟨hl, .inl h⟩
  · have hgs : g < w.heap.size := by
      rcases Nat.lt_or_ge g w.heap.size with h | h
      · exact h
      · rw [Array.getElem?_eq_none h] at hh; cases hh
    exact ⟨hl, .inr ⟨g, cap, cur, hv, hg, (hb.block g hgs).trans hh, hr⟩⟩

/-- a block of another type than a row's stands behind an append to the row -/
theorem app_blk {w w' : World} {base n e size B : Nat} {v : Value} {xs : List Value} {o : Obj} {cs : Array Value} {t : TypeId} (he : e ≠ t) (hh : w.heap[B]? = some (.cells cs t (0, 0))) (hown : w.ownsRow base e size v n xs)
    (hg : (w.alloc o).grownBy w' v.ownBlock) : w'.heap[B]? = some (.cells cs t (0, 0)) := by
  have hl : B < w.heap.size := by
    rcases Nat.lt_or_ge B w.heap.size with h | h
    · exact h
    · rw [Array.getElem?_eq_none h] at hh; cases hh
  have hne : some B ≠ v.ownBlock := by
    intro e'
    obtain ⟨_, h1 | ⟨g, cap, cur, rfl, _, hh', _⟩⟩ := hown
    · rw [h1.1] at e'; simp [Value.ownBlock] at e'
    · have e2 : g = B := by simpa [Value.ownBlock] using e'.symm
      subst e2
      rw [hh] at hh'
      injection hh' with hh'
      injection hh' with _ ht
      exact he ht.symm
  exact (hg.block B (Nat.lt_of_lt_of_le hl (by simp)) hne).trans ((Below.heap_alloc w o B hl).trans hh)
theorem Mel.app {w w' : World} {lo base n e size : Nat} {p : Option Addr} {ts : List (Int × Bool)} {v : Value} {xs : List Value} {o : Obj} (he : e ≠ 114) (h : Mel w lo p ts) (hown : w.ownsRow base e size v n xs)
    (hg : (w.alloc o).grownBy w' v.ownBlock) : Mel w' lo p ts := by
  induction ts generalizing p with
  | nil => exact h
  | cons t r ih =>
    obtain ⟨B, q, hp, hlo, hh, hr⟩ := h
    exact ⟨B, q, hp, hlo, app_blk he hh hown hg, ih hr⟩

theorem news2 {w : World} {s : Int} {b : Bool} {t : TypeId} : ∀ j u, ([.int .i64 s, .bool b] : List Value)[j]? = some u → (w.alloc (.cells #[.int .i64 s, .bool b] t)).cell? ((⟨w.heap.size, 0, none⟩ : Addr).add j) = some u := by
  intro j u hj
  match j, hj with
  | 0, hj => simp at hj; subst hj; simp [Addr.add]
  | 1, hj => simp at hj; subst hj; simp [Addr.add]
theorem news2_one {s : Int} {b : Bool} : ∀ u ∈ ([.int .i64 s, .bool b] : List Value), u.oneCell' = true := by
  intro u hu
  simp at hu
  rcases hu with rfl | rfl <;> rfl

/-- what has been collected, and what is still to come -/
def ToInv (w wr : World) (v m : Value) (xs ys : List (Int × Bool)) : Prop :=
  ∃ p, m = .pointer p ∧ wr.ownsRow w.heap.size 25 2 v xs.length (tcs xs) ∧ (∃ lo, Mel wr lo p ys) ∧ Below w.heap.size w wr

theorem ToInv.app {w w1 w2 : World} {v v' : Value} {q : Option Addr} {lo : Nat} {xs ys : List (Int × Bool)} {t : Int × Bool} {o : Obj} (h1 : w1.ownsRow w.heap.size 25 2 v xs.length (tcs xs)) (h2 : Mel w1 lo q ys) (h3 : Below w.heap.size w w1)
    (hown : w2.ownsRow w.heap.size 25 2 v' (xs.length + 1) (tcs xs ++ [.int .i64 t.1, .bool t.2])) (hg : (w1.alloc o).grownBy w2 v.ownBlock) : ToInv w w2 v' (.pointer q) (xs ++ [t]) ys := by
  refine ⟨q, rfl, ?_, ⟨lo, h2.app (by decide) h1 hg⟩, ?_⟩
  · have e : tcs (xs ++ [t]) = tcs xs ++ [.int .i64 t.1, .bool t.2] := by rw [tcs_app]; rfl
    rw [e]; simpa using hown
  · exact (h3.alloc h3.size o).grown hg (by have := h3.size; simp; omega) (fun k hk => (h1.lt k hk).1)

theorem ToInv.built {w wr : World} {v m : Value} {xs ys : List (Int × Bool)} (h : ToInv w wr v m xs ys) : TBuilt w xs (.returned v) wr := by
  obtain ⟨p, _, h1, _, h3⟩ := h
  exact ⟨v, rfl, ⟨h1, fun g hg => (h1.lt g hg).2⟩, h3⟩

theorem ToInv.start {w : World} {p : Option Addr} {lo : Nat} {ys : List (Int × Bool)} (h : Mel w lo p ys) : ToInv w (w.alloc (.cells #[] 25)) (.slice (some ⟨w.heap.size, 0, none⟩) 0 0) (.pointer p) [] ys := by
  refine ⟨p, rfl, ⟨rfl, .inr ⟨w.heap.size, 0, #[], rfl, Nat.le_refl _, heap_alloc_new w _, by simp, by simp [maxLen], by simp, by simp [tcs]⟩⟩, ⟨lo, h.below ((Below.refl _ _).alloc (Nat.le_refl _) _)⟩, (Below.refl _ _).alloc (Nat.le_refl _) _⟩
end Go.Proofs.Ytcmcdomfmmjogaa
