/-
  Lists of psalm tones: opened, measured, made into the program's, compared.
-/
import Derived.Test.YtcmcdomfmmjogaaPsh
import Derived.Test.YtcmcdomfmmjogaaOpenP
import Derived.Deep.SlicePairs
import Derived.WalkLawsBesides
import Derived.OwnWalk
namespace Go.Proofs.Ytcmcdomfmmjogaa
open Go.RowKit Go.ChangeShapes Go.WideShapes Go.ChangeAt Go.Joins
set_option maxRecDepth 100000
set_option linter.unusedVariables false

instance : Inhabited Psa := ⟨⟨[], (0, false), [], []⟩⟩
/-- a list of psalm tones in memory, its parts' slices as L says -/
def PLst (L : World → Value → List (Int × Bool) → Prop) (w : World) (a : Option Addr) (ps : List Psa) : Prop :=
  ps = [] ∨ ∃ A off, a = some ⟨A, off, none⟩ ∧ A < w.heap.size ∧ ∀ i p, ps[i]? = some p → ∃ v0 v1 v2, w.cell? ⟨A, off + i * 5, none⟩ = some v0 ∧ w.cell? ⟨A, off + i * 5 + 1, none⟩ = some (.int .i64 p.tn.1) ∧ w.cell? ⟨A, off + i * 5 + 2, none⟩ = some (.bool p.tn.2) ∧
    w.cell? ⟨A, off + i * 5 + 3, none⟩ = some v1 ∧ w.cell? ⟨A, off + i * 5 + 4, none⟩ = some v2 ∧ L w v0 p.st ∧ L w v1 p.mi ∧ L w v2 p.en
theorem PLst.below {L : World → Value → List (Int × Bool) → Prop} (HL : ∀ w w' v xs, L w v xs → Below w.heap.size w w' → L w' v xs) {w w' : World} {a : Option Addr} {ps : List Psa} (h : PLst L w a ps) (hb : Below w.heap.size w w') : PLst L w' a ps := by
  rcases h with h | ⟨A, off, ha, hA, hc⟩
  · exact .inl h
  · refine .inr ⟨A, off, ha, Nat.lt_of_lt_of_le hA hb.size, fun i p hp => ?_⟩
    obtain ⟨v0, v1, v2, e0, e1, e2, e3, e4, l0, l1, l2⟩ := hc i p hp
    exact ⟨v0, v1, v2, (hb.cell (p := ⟨A, off + i * 5, none⟩) hA).trans e0, (hb.cell (p := ⟨A, off + i * 5 + 1, none⟩) hA).trans e1, (hb.cell (p := ⟨A, off + i * 5 + 2, none⟩) hA).trans e2, (hb.cell (p := ⟨A, off + i * 5 + 3, none⟩) hA).trans e3, (hb.cell (p := ⟨A, off + i * 5 + 4, none⟩) hA).trans e4, HL _ _ _ _ l0 hb, HL _ _ _ _ l1 hb, HL _ _ _ _ l2 hb⟩
theorem ArgL.below {w w' : World} {v : Value} {xs : List (Int × Bool)} (h : ArgL w v xs) (hb : Below w.heap.size w w') : ArgL w' v xs := by
  obtain ⟨a, c, e, ha, h1, h2⟩ := h
  exact ⟨a, c, e, ha.below hb, h1, h2⟩
theorem argPs_below {w w' : World} {a : Option Addr} {ps : List Psa} (h : PLst ArgL w a ps) (hb : Below w.heap.size w w') : PLst ArgL w' a ps := h.below (fun _ _ _ _ h hb => h.below hb) hb
/-- the program's list of psalm tones -/
def PLV (w : World) (v : Value) (ps : List Psa) : Prop := ∃ a c, v = .slice a ps.length c ∧ PLst LV w a ps ∧ ps.length ≤ c ∧ c ≤ maxLen
theorem PLV.below {w w' : World} {v : Value} {ps : List Psa} (h : PLV w v ps) (hb : Below w.heap.size w w') : PLV w' v ps := by
  obtain ⟨a, c, e, ha, h1, h2⟩ := h
  exact ⟨a, c, e, ha.below (fun _ _ _ _ h hb => h.below hb) hb, h1, h2⟩

section
variable {H : Type} {enc : TypeId × Value → H} {w : World} {base : Nat} {spare : Nat → Bool} {held : Bool}
theorem list5 {α : Type} {cs : List α} (h : cs.length = 5) : ∃ c0 c1 c2 c3 c4, cs = [c0, c1, c2, c3, c4] := by
  match cs, h with
  | [c0, c1, c2, c3, c4], _ => exact ⟨c0, c1, c2, c3, c4, rfl⟩

end

/-- how much a list of psalm tones holds -/
def psz (p : Psa) : Nat := p.st.length + p.mi.length + p.en.length
def szp (ps : List Psa) : Nat := (ps.map psz).sum
theorem szp_succ {ps : List Psa} {k : Nat} {p : Psa} (h : ps[k]? = some p) : szp (ps.take (k + 1)) = szp (ps.take k) + psz p := by
  unfold szp
  rw [List.take_add_one, h]
  simp
theorem sum_take9 (l : List Nat) (k : Nat) : (l.take k).sum ≤ l.sum := by
  induction l generalizing k with
  | nil => simp
  | cons a r ih => cases k with
    | zero => simp
    | succ j => simp; exact ih j
theorem szp_take_le (ps : List Psa) (k : Nat) : szp (ps.take k) ≤ szp ps := by
  unfold szp
  rw [List.map_take]
  exact sum_take9 _ _
theorem szp_get {ps : List Psa} {k : Nat} {p : Psa} (h : ps[k]? = some p) : psz p ≤ szp ps := by
  have h1 := szp_succ h
  have h2 := szp_take_le ps (k + 1)
  omega
theorem ps_get {ps : List Psa} {k : Nat} (h : k < ps.length) : ∃ p, ps[k]? = some p := ⟨ps[k], List.getElem?_eq_getElem h⟩
end Go.Proofs.Ytcmcdomfmmjogaa
