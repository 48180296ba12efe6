/-
  What is in a mode stays in it: plain mathematics.
-/
import Derived.Test.YtmipkodgkldmbaaDoorMdm
import Derived.Test.YtmipkodgkldmbaaDoorTone
namespace Go.Proofs.YtmipkodgkldmbaaDoor
open Go.RowKit
set_option maxRecDepth 100000
set_option linter.unusedVariables false

theorem mv_drop1 {xs : List (Int × Bool)} (h : mv xs = true) : mv (xs.drop 1) = true := by
  simp only [mv, allv, Bool.and_eq_true, decide_eq_true_eq, List.all_eq_true] at h ⊢
  exact ⟨by rw [List.length_drop]; omega, fun t ht => h.2 t (List.mem_of_mem_drop ht)⟩
theorem mv_app {xs ys : List (Int × Bool)} (h : mv xs = true) (k : mv ys = true) (hl : xs.length + ys.length ≤ 24) : mv (xs ++ ys) = true := by
  simp only [mv, allv, Bool.and_eq_true, decide_eq_true_eq, List.all_eq_true] at h k ⊢
  refine ⟨by rw [List.length_append]; omega, fun t ht => ?_⟩
  rcases List.mem_append.1 ht with ht | ht
  · exact h.2 t ht
  · exact k.2 t ht
theorem lst_snoc (xs : List (Int × Bool)) (t : Int × Bool) : lst (xs ++ [t]) = t := by
  unfold lst; rw [List.getD_eq_getElem?_getD]; simp
theorem lst_cons {xs : List (Int × Bool)} (t : Int × Bool) (h : xs ≠ []) : lst (t :: xs) = lst xs := by
  have hl := List.length_pos_iff.2 h
  unfold lst
  rw [List.getD_eq_getElem?_getD, List.getD_eq_getElem?_getD, List.length_cons, show xs.length + 1 - 1 = (xs.length - 1) + 1 by omega, List.getElem?_cons_succ]
theorem lst_drop1 {xs : List (Int × Bool)} (h : 2 ≤ xs.length) : lst (xs.drop 1) = lst xs := by
  cases xs with
  | nil => simp at h
  | cons t r =>
    have : r ≠ [] := by rintro rfl; simp at h
    rw [lst_cons t this]; rfl
theorem mdF_tone {k : Int} (h : mdv k = true) : mv [(mdF k, false)] = true := by
  have := md_in h
  have hv : vd (mdF k) false = true := vd_hard (by omega) (by omega)
  simp [mv, allv, hv]
theorem inM_tail {xs : List (Int × Bool)} {k : Int} (h : inM xs k = true) (hl : 2 ≤ xs.length) : inM (xs.drop 1) k = true := by
  obtain ⟨a, b, c, d, e, f⟩ := inM_iff.1 h
  refine inM_iff.2 ⟨a, mv_drop1 b, fun g => ?_, fun t ht => d t (List.mem_of_mem_drop ht), by rw [lst_drop1 hl]; exact e, by rw [lst_drop1 hl]; exact f⟩
  have := congrArg List.length g
  rw [List.length_drop] at this
  simp at this; omega
theorem inM_snoc {xs : List (Int × Bool)} {k : Int} (h : inM xs k = true) (hl : xs.length < 24) : inM (xs ++ [(mdF k, false)]) k = true := by
  obtain ⟨a, b, c, d, e, f⟩ := inM_iff.1 h
  have m := md_in a
  refine inM_iff.2 ⟨a, mv_app b (mdF_tone a) (by simp; omega), by simp, fun t ht => ?_, by rw [lst_snoc], by rw [lst_snoc]⟩
  rcases List.mem_append.1 ht with ht | ht
  · exact d t ht
  · have : t = (mdF k, false) := by simpa using ht
    subst this; exact ⟨m.2.2.1, m.2.2.2.1⟩
theorem inM_cons {xs : List (Int × Bool)} {k : Int} (h : inM xs k = true) (hl : xs.length < 24) : inM ((mdF k, false) :: xs) k = true := by
  obtain ⟨a, b, c, d, e, f⟩ := inM_iff.1 h
  have m := md_in a
  refine inM_iff.2 ⟨a, mv_app (xs := [(mdF k, false)]) (mdF_tone a) b (by simp; omega), by simp, fun t ht => ?_, by rw [lst_cons _ c]; exact e, by rw [lst_cons _ c]; exact f⟩
  rcases List.mem_cons.1 ht with rfl | ht
  · exact ⟨m.2.2.1, m.2.2.2.1⟩
  · exact d t ht
end Go.Proofs.YtmipkodgkldmbaaDoor
