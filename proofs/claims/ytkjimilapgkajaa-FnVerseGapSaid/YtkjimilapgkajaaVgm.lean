/-
  The greatest gap of a verse: plain mathematics.
-/
import Derived.Test.YtkjimilapgkajaaVm
import Derived.Lib.FieldsP
import Derived.Laws.RangeString
namespace Go.Proofs.Ytkjimilapgkajaa
open Go.RowKit
set_option maxRecDepth 100000
set_option linter.unusedVariables false

/-- one byte: the weak syllables that now follow each other, and the most that have -/
def gstep (a : Nat × Nat) (c : UInt8) : Nat × Nat := (if c = 120 then a.1 + 1 else 0, max a.2 (if c = 120 then a.1 + 1 else 0))
/-- behind the first k bytes -/
def gst (l : List UInt8) (k : Nat) : Nat × Nat := (l.take k).foldl gstep (0, 0)
theorem gst_succ {l : List UInt8} {k : Nat} {c : UInt8} (h : l[k]? = some c) : gst l (k + 1) = gstep (gst l k) c := by
  unfold gst; rw [List.take_add_one, h, List.foldl_append]; rfl
theorem gst_le (l : List UInt8) (k : Nat) : (gst l k).1 ≤ k ∧ (gst l k).2 ≤ k := by
  induction k with
  | zero => simp [gst]
  | succ k ih =>
    by_cases hk : k < l.length
    · rw [gst_succ (List.getElem?_eq_getElem hk)]
      unfold gstep
      constructor
      · show (if l[k] = 120 then (gst l k).1 + 1 else 0) ≤ k + 1
        split <;> omega
      · show max (gst l k).2 (if l[k] = 120 then (gst l k).1 + 1 else 0) ≤ k + 1
        split <;> omega
    · have e : gst l (k + 1) = gst l k := by unfold gst; rw [List.take_of_length_le (by omega), List.take_of_length_le (by omega)]
      rw [e]; omega
/-- the greatest gap; -1 for no verse -/
def vgap (s : ByteArray) : Int := if vvl s.data.toList then ((gst s.data.toList s.size).2 : Nat) else -1
theorem vgap_no {s : ByteArray} (h : vvl s.data.toList = false) : vgap s = -1 := by unfold vgap; rw [h]; rfl
theorem vgap_yes {s : ByteArray} (h : vvl s.data.toList = true) : vgap s = ((gst s.data.toList s.size).2 : Nat) := by unfold vgap; rw [h]; rfl

/-- the separators of the program's fields: what is no weak syllable -/
def gsep (r : Nat) : Bool := r != 120
def mxs (n : Nat) (acc : List (Nat × Nat)) : Nat := acc.foldl (fun m x => max m (min x.2 n - x.1)) 0
theorem mxs_snoc (n : Nat) (acc : List (Nat × Nat)) (x : Nat × Nat) : mxs n (acc ++ [x]) = max (mxs n acc) (min x.2 n - x.1) := by
  unfold mxs; rw [List.foldl_append]; rfl
theorem foldl_mono (l : List UInt8) (a : Nat × Nat) : l.foldl gstep a = ((l.foldl gstep (a.1, 0)).1, max a.2 (l.foldl gstep (a.1, 0)).2) := by
  induction l generalizing a with
  | nil => simp
  | cons c l ih =>
    rw [List.foldl_cons, ih (gstep a c), List.foldl_cons, ih (gstep (a.1, 0) c)]
    unfold gstep
    simp only [Prod.mk.injEq]
    refine ⟨trivial, ?_⟩
    omega
theorem at_list' (s : ByteArray) (k : Nat) (h : k < s.size) : s.data.toList[k]? = some s[k] := by
  rw [List.getElem?_eq_getElem (by simpa using h)]; rfl
theorem spans_max (s : ByteArray) (hA : ∀ c ∈ s.data.toList, c.toNat < 128) : ∀ (f pos : Nat) (st : Option Nat) (acc : List (Nat × Nat)), s.size ≤ pos + f → pos ≤ s.size → (∀ a, st = some a → a < pos) →
    mxs s.size (Lib.closeSpans s (Lib.spansFromP gsep s f pos st acc)) = max (mxs s.size acc) (((s.data.toList.drop pos).foldl gstep (match st with | none => 0 | some a => pos - a, match st with | none => 0 | some a => pos - a)).2) := by
  intro f
  induction f with
  | zero =>
    intro pos st acc h1 h2 h3
    have he : pos = s.size := by omega
    have hd : s.data.toList.drop pos = [] := List.drop_eq_nil_of_le (by simp; omega)
    rw [hd]
    unfold Lib.spansFromP Lib.closeSpans
    cases st with
    | none => simp
    | some a => simp only [mxs_snoc, List.foldl_nil]; rw [he, Nat.min_self]
  | succ f ih =>
    intro pos st acc h1 h2 h3
    by_cases hlt : pos < s.size
    · have hc := at_list' s pos hlt
      have hd : s.data.toList.drop pos = s[pos] :: s.data.toList.drop (pos + 1) := by
        rw [List.drop_eq_getElem_cons (by simpa using hlt)]
        rfl
      have ha : (s[pos]).toNat < 128 := hA _ (List.mem_of_getElem? hc)
      have hdec := decode_ascii s pos hlt ha
      rw [hd, List.foldl_cons]
      unfold Lib.spansFromP
      rw [if_pos hlt, hdec]
      by_cases hx : s[pos] = 120
      · have hp : gsep (s[pos]).toNat = false := by unfold gsep; rw [hx]; rfl
        simp only [hp, Bool.false_eq_true, if_false]
        cases st with
        | none =>
          rw [ih (pos + 1) (some pos) acc (by omega) (by omega) (fun a e => by injection e; omega)]
          simp only [gstep, hx, if_true]
          have e : pos + 1 - pos = 0 + 1 := by omega
          simp only [e]
          congr 2
        | some a =>
          have h4 := h3 a rfl
          rw [ih (pos + 1) (some a) acc (by omega) (by omega) (fun b e => by injection e; omega)]
          simp only [gstep, hx, if_true]
          have e : pos + 1 - a = pos - a + 1 := by omega
          have e2 : max (pos - a) (pos - a + 1) = pos - a + 1 := by omega
          simp only [e, e2]
      · have hp : gsep (s[pos]).toNat = true := by
          unfold gsep
          rw [bne_iff_ne]
          intro e
          exact hx (UInt8.toNat_inj.1 e)
        simp only [hp, if_true]
        cases st with
        | none =>
          rw [ih (pos + 1) none acc (by omega) (by omega) (fun a e => by cases e)]
          simp only [gstep, hx, if_false]
          congr 2
        | some a =>
          have h4 := h3 a rfl
          rw [ih (pos + 1) none (acc ++ [(a, pos)]) (by omega) (by omega) (fun a e => by cases e), mxs_snoc]
          simp only [gstep, hx, if_false]
          rw [foldl_mono _ (0, max (pos - a) 0), show min pos s.size = pos by omega]
          rw [foldl_mono _ (0, 0)]
          simp only
          omega
    · have hd : s.data.toList.drop pos = [] := List.drop_eq_nil_of_le (by simp; omega)
      rw [hd, Lib.spansFromP_end _ _ _ _ _ _ hlt]
      unfold Lib.closeSpans
      cases st with
      | none => simp
      | some a =>
        have he : pos = s.size := by omega
        simp only [mxs_snoc, List.foldl_nil]; rw [he, Nat.min_self]
theorem spans_gap (s : ByteArray) (hA : ∀ c ∈ s.data.toList, c.toNat < 128) : mxs s.size (Lib.spansOfP gsep s) = (gst s.data.toList s.size).2 := by
  unfold Lib.spansOfP
  rw [spans_max s hA s.size 0 none [] (by omega) (by omega) (fun a e => by cases e)]
  unfold gst
  rw [List.take_of_length_le (by simp)]
  simp [mxs]
/-- the greatest of the first k sizes -/
def mxp (l : List ByteArray) (k : Nat) : Nat := (l.take k).foldl (fun m x => max m x.size) 0
theorem mxp_succ {l : List ByteArray} {k : Nat} {x : ByteArray} (h : l[k]? = some x) : mxp l (k + 1) = max (mxp l k) x.size := by
  unfold mxp; rw [List.take_add_one, h, List.foldl_append]; rfl
theorem mxp_all (s : ByteArray) : mxp (Lib.goFieldsP gsep s) (Lib.goFieldsP gsep s).length = mxs s.size (Lib.spansOfP gsep s) := by
  unfold mxp
  rw [List.take_length]
  unfold Lib.goFieldsP mxs
  rw [List.foldl_map]
  congr 1
  funext m x
  rw [ByteArray.size_extract]
theorem verse_gap {s : ByteArray} (h : vvl s.data.toList = true) : vgap s = (mxp (Lib.goFieldsP gsep s) (Lib.goFieldsP gsep s).length : Nat) := by
  rw [vgap_yes h, mxp_all, spans_gap]
  intro c hc
  obtain ⟨h1, h2, _, h4⟩ := vvl_in h
  rw [vyes h4] at hc
  have ok : ∀ {l : List UInt8}, hvl l = true → ∀ x ∈ l, x.toNat < 128 := by
    intro l hl x hx
    have := List.all_eq_true.1 (hvl_in hl).1 x hx
    simp [vsy] at this
    rcases this with rfl | rfl <;> decide
  rcases List.mem_append.1 hc with hc | hc
  · exact ok h1 c hc
  · rcases List.mem_cons.1 hc with rfl | hc
    · decide
    · exact ok h2 c hc
end Go.Proofs.Ytkjimilapgkajaa
