/-
  What the text of a melody tells: plain mathematics.
-/
import Derived.Test.YtjodcaeohkjlnaaDoorCut
import Derived.Test.YtjodcaeohkjlnaaDoorTxm
namespace Go.Proofs.YtjodcaeohkjlnaaDoor
set_option maxRecDepth 100000
set_option linter.unusedVariables false

/-- the words of a text -/
def wds (s : ByteArray) : List ByteArray := (cutW s.data.toList).map fun x => ⟨x.toArray⟩
def wok (ws : List ByteArray) : Bool := ws.all fun x => (tfr x).2.2
def wts (ws : List ByteArray) : List (Int × Bool) := ws.map fun x => ((tfr x).1, (tfr x).2.1)
/-- is it the text of a melody? -/
def mfB (s : ByteArray) : Bool := s.data.toList.isEmpty || (decide ((wds s).length ≤ 24) && wok (wds s))
def mfL (s : ByteArray) : List (Int × Bool) := if s.data.toList.isEmpty then [] else if mfB s then wts (wds s) else []
theorem wds_ne (s : ByteArray) : wds s ≠ [] := by
  unfold wds
  intro e
  exact cutW_ne _ (List.map_eq_nil_iff.1 e)
theorem mf_nil {s : ByteArray} (h : s.data.toList = []) : mfB s = true ∧ mfL s = [] := by simp [mfB, mfL, h]
theorem mf_long {s : ByteArray} (h : s.data.toList ≠ []) (hl : 24 < (wds s).length) : mfB s = false ∧ mfL s = [] := by
  have e : s.data.toList.isEmpty = false := by simpa using h
  have d : decide ((wds s).length ≤ 24) = false := by simp; omega
  have b : mfB s = false := by unfold mfB; rw [e, d]; rfl
  exact ⟨b, by unfold mfL; rw [e, b]; rfl⟩
theorem mf_bad {s x : ByteArray} {k : Nat} (h : s.data.toList ≠ []) (hx : (wds s)[k]? = some x) (hb : (tfr x).2.2 = false) : mfB s = false ∧ mfL s = [] := by
  have e : s.data.toList.isEmpty = false := by simpa using h
  have d : wok (wds s) = false := by
    unfold wok
    rw [List.all_eq_false]
    exact ⟨x, List.mem_of_getElem? hx, by simp [hb]⟩
  have b : mfB s = false := by unfold mfB; rw [e, d, Bool.and_false]; rfl
  exact ⟨b, by unfold mfL; rw [e, b]; rfl⟩
theorem mf_yes {s : ByteArray} (h : s.data.toList ≠ []) (hl : (wds s).length ≤ 24) (ho : wok (wds s) = true) : mfB s = true ∧ mfL s = wts (wds s) := by
  have e : s.data.toList.isEmpty = false := by simpa using h
  have d : decide ((wds s).length ≤ 24) = true := by simpa using hl
  have b : mfB s = true := by unfold mfB; rw [e, d, ho]; rfl
  exact ⟨b, by unfold mfL; rw [e, b]; rfl⟩
theorem wok_snoc {ws : List ByteArray} {k : Nat} {x : ByteArray} (h : wok (ws.take k) = true) (hx : ws[k]? = some x) (ho : (tfr x).2.2 = true) : wok (ws.take (k + 1)) = true := by
  rw [List.take_add_one, hx]
  unfold wok at h ⊢
  rw [List.all_append, h]
  simp [ho]
theorem wts_snoc {ws : List ByteArray} {k : Nat} {x : ByteArray} (hx : ws[k]? = some x) : wts (ws.take (k + 1)) = wts (ws.take k) ++ [((tfr x).1, (tfr x).2.1)] := by
  rw [List.take_add_one, hx]
  unfold wts
  rw [List.map_append]
  rfl
theorem tfr_ok {l : ByteArray} (h : (tfr l).2.2 = true) : vd (tfr l).1 (tfr l).2.1 = true ∧ (ttx (tfr l).1 (tfr l).2.1).data.toList = l.data.toList := by
  unfold tfr at h ⊢
  cases hf : allT.find? (fun t => (ttx t.1 t.2).data.toList == l.data.toList) with
  | none => rw [hf] at h; cases h
  | some t =>
    have h1 := List.find?_some hf
    have h2 := List.mem_of_find?_eq_some hf
    exact ⟨allT_vd t h2, by simpa using h1⟩
theorem mfL_vd {s : ByteArray} {t : Int × Bool} (h : t ∈ mfL s) : vd t.1 t.2 = true := by
  unfold mfL at h
  split at h
  · cases h
  · rename_i e
    split at h
    · rename_i b
      unfold mfB at b
      rw [Bool.or_eq_true, Bool.and_eq_true] at b
      rcases b with b | b
      · exact absurd b e
      · unfold wts at h
        obtain ⟨x, hx, rfl⟩ := List.mem_map.1 h
        exact (tfr_ok (List.all_eq_true.1 b.2 x hx)).1
    · cases h
theorem mfL_len (s : ByteArray) : (mfL s).length ≤ 24 := by
  unfold mfL
  split
  · simp
  · rename_i e
    split
    · rename_i b
      unfold mfB at b
      rw [Bool.or_eq_true, Bool.and_eq_true] at b
      rcases b with b | b
      · exact absurd b e
      · unfold wts
        rw [List.length_map]
        exact of_decide_eq_true b.1
    · simp
end Go.Proofs.YtjodcaeohkjlnaaDoor
