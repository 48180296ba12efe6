/-
  How many notes of a verse are of a kind: plain mathematics.
-/
import Derived.Test.YtcmcdomfmmjogaaPsm
namespace Go.Proofs.Ytcmcdomfmmjogaa
set_option maxRecDepth 100000
set_option linter.unusedVariables false

/-- accents among the last k -/
def ace (l : List UInt8) (k : Nat) : Nat := (l.drop (l.length - k)).count 47
def psA (p : Psa) (s : ByteArray) : Int := if pfit p s then ((ace (vFst s).data.toList p.mi.length + ace (vSnd s).data.toList p.en.length : Nat) : Int) else -1
theorem psA_no {p : Psa} {s : ByteArray} (h : pfit p s = false) : psA p s = -1 := by unfold psA; rw [h]; rfl
theorem psA_yes {p : Psa} {s : ByteArray} (h : pfit p s = true) : psA p s = ((ace (vFst s).data.toList p.mi.length + ace (vSnd s).data.toList p.en.length : Nat) : Int) := by unfold psA; rw [h]; rfl
theorem cnt_drop (l : List UInt8) (a : Nat) : ∀ n, n ≤ l.length → ((List.range n).filter fun i => decide (a ≤ i) && (l.getD i 0 == 47)).length = ((l.take n).drop a).count 47
  | 0, _ => by simp
  | n + 1, h => by
    have ih := cnt_drop l a n (by omega)
    have hn : n < l.length := by omega
    have hx : l[n]? = some l[n] := List.getElem?_eq_getElem hn
    have hg : l.getD n 0 = l[n] := by rw [List.getD_eq_getElem?_getD, hx]; rfl
    rw [List.range_succ, List.filter_append, List.length_append, ih, List.take_add_one, hx, Option.toList_some]
    by_cases ha : a ≤ n
    · rw [List.drop_append_of_le_length (by rw [List.length_take]; omega), List.count_append]
      congr 1
      by_cases hc : l[n] = 47
      · rw [List.filter_cons_of_pos (by rw [hg, hc]; simp [ha])]
        rw [hc]; rfl
      · rw [List.filter_cons_of_neg (by rw [hg]; simp [hc])]
        rw [List.count_cons]
        simp [hc]
    · have e1 : (l.take n).drop a = [] := List.drop_eq_nil_of_le (by rw [List.length_take]; omega)
      have e2 : (l.take n ++ [l[n]]).drop a = [] := List.drop_eq_nil_of_le (by rw [List.length_append, List.length_take]; simp; omega)
      rw [e1, e2, List.filter_cons_of_neg (by simp [ha])]
      rfl
theorem nos_two {p : Psa} {s : ByteArray} (h : pfit p s = true) : nos p s = (List.range (vFst s).size).map (noH p.st p.tn p.mi (vFst s)) ++ (List.range (vSnd s).size).map (noH [] p.tn p.en (vSnd s)) := by
  rw [nos_yes h]
  unfold noK
  refine range_add_map _ _ _ _ _ (fun i hi => ?_) (fun j => ?_)
  · unfold noV; rw [if_pos hi]
  · unfold noV; rw [if_neg (by omega), Nat.add_sub_cancel_left]
theorem role_mid (st : List (Int × Bool)) (tn : Int × Bool) (en : List (Int × Bool)) (h : ByteArray) (i : Nat) : ((noH st tn en h i).2.1 == 1) = (decide (st.length ≤ i) && decide (i < h.size - en.length)) := by
  show (roH st en h.size i == 1) = _
  unfold roH
  by_cases h1 : i < st.length
  · rw [if_pos h1]
    have : decide (st.length ≤ i) = false := decide_eq_false (by omega)
    rw [this]; rfl
  · rw [if_neg h1]
    have : decide (st.length ≤ i) = true := decide_eq_true (by omega)
    rw [this]
    by_cases h2 : h.size - en.length ≤ i
    · rw [if_pos h2, decide_eq_false (by omega)]; rfl
    · rw [if_neg h2, decide_eq_true (by omega)]; rfl
theorem role_end {st : List (Int × Bool)} {tn : Int × Bool} {en : List (Int × Bool)} {h : ByteArray} (hl : st.length + en.length ≤ h.size) (i : Nat) : ((noH st tn en h i).2.2 && ((noH st tn en h i).2.1 == 2)) = (decide (h.size - en.length ≤ i) && (h.data.toList.getD i 0 == 47)) := by
  show ((h.data.toList.getD i 0 == 47) && (roH st en h.size i == 2)) = _
  rw [Bool.and_comm]
  congr 1
  unfold roH
  by_cases h1 : i < st.length
  · rw [if_pos h1, decide_eq_false (by omega)]; rfl
  · rw [if_neg h1]
    by_cases h2 : h.size - en.length ≤ i
    · rw [if_pos h2, decide_eq_true h2]; rfl
    · rw [if_neg h2, decide_eq_false h2]; rfl
theorem tenors_nos {p : Psa} {s : ByteArray} (h : pfit p s = true) : (((nos p s).filter fun n => n.2.1 == 1).length : Int) = psT p s := by
  obtain ⟨_, _, h3, h4⟩ := pfit_in h
  rw [psT_yes h, nos_two h, List.filter_append, List.length_append, List.filter_map, List.filter_map, List.length_map, List.length_map]
  have e1 : (fun n : Note => n.2.1 == 1) ∘ noH p.st p.tn p.mi (vFst s) = fun i => decide (p.st.length ≤ i) && decide (i < (vFst s).size - p.mi.length) := funext fun i => role_mid _ _ _ _ i
  have e2 : (fun n : Note => n.2.1 == 1) ∘ noH [] p.tn p.en (vSnd s) = fun i => decide (([] : List (Int × Bool)).length ≤ i) && decide (i < (vSnd s).size - p.en.length) := funext fun i => role_mid _ _ _ _ i
  rw [e1, e2, count_min, count_min]
  simp only [List.length_nil]
  omega
theorem accents_nos {p : Psa} {s : ByteArray} (h : pfit p s = true) : (((nos p s).filter fun n => n.2.2 && (n.2.1 == 2)).length : Int) = psA p s := by
  obtain ⟨_, _, h3, h4⟩ := pfit_in h
  rw [psA_yes h, nos_two h, List.filter_append, List.length_append, List.filter_map, List.filter_map, List.length_map, List.length_map]
  have e1 : (fun n : Note => n.2.2 && (n.2.1 == 2)) ∘ noH p.st p.tn p.mi (vFst s) = fun i => decide ((vFst s).size - p.mi.length ≤ i) && ((vFst s).data.toList.getD i 0 == 47) := funext fun i => role_end h3 i
  have e2 : (fun n : Note => n.2.2 && (n.2.1 == 2)) ∘ noH [] p.tn p.en (vSnd s) = fun i => decide ((vSnd s).size - p.en.length ≤ i) && ((vSnd s).data.toList.getD i 0 == 47) := funext fun i => role_end (by simpa using h4) i
  have l1 : (vFst s).data.toList.length = (vFst s).size := by simp
  have l2 : (vSnd s).data.toList.length = (vSnd s).size := by simp
  rw [e1, e2, cnt_drop _ _ _ (by rw [l1]; exact Nat.le_refl _), cnt_drop _ _ _ (by rw [l2]; exact Nat.le_refl _)]
  unfold ace
  rw [l1, l2, List.take_of_length_le (by rw [l1]; exact Nat.le_refl _), List.take_of_length_le (by rw [l2]; exact Nat.le_refl _)]
theorem count_take {α : Type} (q : α → Bool) (xs : List α) {k : Nat} {x : α} (h : xs[k]? = some x) : ((xs.take (k + 1)).filter q).length = ((xs.take k).filter q).length + (if q x then 1 else 0) := by
  rw [List.take_add_one, h, Option.toList_some, List.filter_append, List.length_append]
  congr 1
  by_cases hq : q x = true
  · rw [if_pos hq, List.filter_cons_of_pos hq]; rfl
  · rw [if_neg hq, List.filter_cons_of_neg hq]; rfl
/-- counting from a place on -/
theorem ace_step {l : List UInt8} {k : Nat} {c : UInt8} (h : l[k]? = some c) : (l.drop k).count 47 = (if c = 47 then 1 else 0) + (l.drop (k + 1)).count 47 := by
  obtain ⟨hk, hc⟩ := List.getElem?_eq_some_iff.1 h
  rw [List.drop_eq_getElem_cons hk, hc, List.count_cons]
  by_cases e : c = 47
  · rw [if_pos e, if_pos (by rw [e]; rfl)]; omega
  · rw [if_neg e, if_neg (by simpa using e)]; omega
end Go.Proofs.Ytcmcdomfmmjogaa
