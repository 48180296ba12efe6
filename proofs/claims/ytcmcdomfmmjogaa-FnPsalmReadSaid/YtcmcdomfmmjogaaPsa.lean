/-
  Psalm tones in memory.
-/
import Derived.Test.YtcmcdomfmmjogaaPsm
import Derived.Test.YtcmcdomfmmjogaaTL3
import Derived.Test.YtcmcdomfmmjogaaTurn
import Derived.Test.YtcmcdomfmmjogaaMelV
namespace Go.Proofs.Ytcmcdomfmmjogaa
open Go.RowKit
set_option maxRecDepth 100000
set_option linter.unusedVariables false

/-- a list of tones of a call's own or not: a row somewhere -/
def LV (w : World) (v : Value) (xs : List (Int × Bool)) : Prop := ∃ lo hi, TRow w lo hi v xs
theorem LV.below {w w' : World} {v : Value} {xs : List (Int × Bool)} (h : LV w v xs) (hb : Below w.heap.size w w') : LV w' v xs := by
  obtain ⟨lo, hi, h⟩ := h
  exact ⟨lo, hi, h.below hb (.inr (Nat.le_refl _))⟩
theorem LV.sl {w : World} {v : Value} {xs : List (Int × Bool)} (h : LV w v xs) : ∃ a c, v = .slice a xs.length c ∧ xs.length ≤ c ∧ c ≤ maxLen := by
  obtain ⟨lo, hi, h⟩ := h
  rcases h.form with ⟨rfl, rfl⟩ | ⟨g, cap, rfl, _, _, _, h1, h2, _⟩
  · exact ⟨none, 0, rfl, Nat.le_refl _, Nat.zero_le _⟩
  · exact ⟨_, _, rfl, h1, h2⟩
theorem LV.cells {w : World} {a : Option Addr} {n c : Nat} {xs : List (Int × Bool)} (h : LV w (.slice a n c) xs) {i : Nat} {s : Int} {b : Bool} (hx : xs[i]? = some (s, b)) :
    ∃ g, a = some ⟨g, 0, none⟩ ∧ g < w.heap.size ∧ w.cell? ⟨g, i * 2, none⟩ = some (.int .i64 s) ∧ w.cell? ⟨g, i * 2 + 1, none⟩ = some (.bool b) := by
  obtain ⟨lo, hi, h⟩ := h
  rcases h.form with ⟨e, rfl⟩ | ⟨g, cap, e, _, _, hg, _, _, hc⟩
  · simp at hx
  · injection e with e _ _
    exact ⟨g, e, hg, hc i _ hx⟩
/-- a psalm tone -/
def PV (w : World) (v : Value) (p : Psa) : Prop :=
  ∃ v0 v1 v2, v = .agg #[v0, .int .i64 p.tn.1, .bool p.tn.2, v1, v2] ∧ LV w v0 p.st ∧ LV w v1 p.mi ∧ LV w v2 p.en
theorem PV.below {w w' : World} {v : Value} {p : Psa} (h : PV w v p) (hb : Below w.heap.size w w') : PV w' v p := by
  obtain ⟨v0, v1, v2, e, a, b, c⟩ := h
  exact ⟨v0, v1, v2, e, a.below hb, b.below hb, c.below hb⟩
/-- one whose parts lie in memory of its own, part behind part -/
structure PRow (w : World) (lo m1 m2 hi : Nat) (v0 v1 v2 : Value) (p : Psa) : Prop where
  st : TRow w lo m1 v0 p.st
  mi : TRow w m1 m2 v1 p.mi
  en : TRow w m2 hi v2 p.en
  le0 : lo ≤ m1
  le1 : m1 ≤ m2
  le2 : m2 ≤ hi
theorem PRow.view {w : World} {lo m1 m2 hi : Nat} {v0 v1 v2 : Value} {p : Psa} (h : PRow w lo m1 m2 hi v0 v1 v2 p) : PV w (.agg #[v0, .int .i64 p.tn.1, .bool p.tn.2, v1, v2]) p :=
  ⟨v0, v1, v2, rfl, ⟨_, _, h.st⟩, ⟨_, _, h.mi⟩, ⟨_, _, h.en⟩⟩
theorem PRow.below {w w' : World} {lo m1 m2 hi B : Nat} {v0 v1 v2 : Value} {p : Psa} (h : PRow w lo m1 m2 hi v0 v1 v2 p) (hb : Below B w w') (hB : hi ≤ B ∨ w.heap.size ≤ B) : PRow w' lo m1 m2 hi v0 v1 v2 p := by
  have := h.le0; have := h.le1; have := h.le2
  exact ⟨h.st.below hb (by omega), h.mi.below hb (by omega), h.en.below hb (by omega), h.le0, h.le1, h.le2⟩
theorem PRow.turned {w w' : World} {lo m1 m2 hi lo' hi' : Nat} {v0 v1 v2 : Value} {p : Psa} (h : PRow w lo m1 m2 hi v0 v1 v2 p) (t : Turned lo' hi' w w') (hd : hi ≤ lo' ∨ hi' ≤ lo) : PRow w' lo m1 m2 hi v0 v1 v2 p := by
  have := h.le0; have := h.le1; have := h.le2
  exact ⟨h.st.turned t (by omega), h.mi.turned t (by omega), h.en.turned t (by omega), h.le0, h.le1, h.le2⟩
/-- a psalm tone that a call has built -/
def PsBuilt (w : World) (p : Psa) (e : Ending) (w' : World) : Prop :=
  ∃ v0 v1 v2 m1 m2, e = .returned (.agg #[v0, .int .i64 p.tn.1, .bool p.tn.2, v1, v2]) ∧ PRow w' w.heap.size m1 m2 w'.heap.size v0 v1 v2 p ∧ Below w.heap.size w w'

theorem melodyValid_lv (v : Value) (xs : List (Int × Bool)) (w : World) (h : LV w v xs) :
    Calls Try.prog 65 #[v] w fun e w' => e = .returned (.bool (mv xs)) ∧ Below w.heap.size w w' := by
  obtain ⟨lo, hi, h⟩ := h
  exact melodyValid_any lo hi v xs w h
theorem sMelodyValid_lv (v : Value) (xs : List (Int × Bool)) (w : World) (h : LV w v xs) :
    Calls Try.prog 67 #[v] w fun e w' => e = .returned (.bool (mv xs)) ∧ Below w.heap.size w w' := by
  obtain ⟨lo, hi, h⟩ := h
  exact sMelodyValid_any lo hi v xs w h
end Go.Proofs.Ytcmcdomfmmjogaa
