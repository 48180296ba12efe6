/-
  The greatest gap of a verse: facts for its law, plain mathematics.
-/
import Derived.Test.YtkjimilapgkajaaVq
import Derived.Test.YtkjimilapgkajaaVgm
namespace Go.Proofs.Ytkjimilapgkajaa
set_option maxRecDepth 100000
set_option linter.unusedVariables false

/-- the whole walk -/
def gal (l : List UInt8) : Nat × Nat := l.foldl gstep (0, 0)
theorem gst_all {l : List UInt8} {k : Nat} (h : l.length ≤ k) : gst l k = gal l := by unfold gst gal; rw [List.take_of_length_le h]
theorem gal_snoc (l : List UInt8) (c : UInt8) : gal (l ++ [c]) = gstep (gal l) c := by unfold gal; rw [List.foldl_append]; rfl
theorem gal_le (l : List UInt8) : (gal l).1 ≤ l.length ∧ (gal l).2 ≤ l.length := by
  have := gst_le l l.length
  rw [gst_all (Nat.le_refl _)] at this
  exact this
theorem gst_mono (l : List UInt8) (k : Nat) : (gst l k).1 ≤ (gst l k).2 := by
  induction k with
  | zero => simp [gst]
  | succ k ih =>
    by_cases hk : k < l.length
    · rw [gst_succ (List.getElem?_eq_getElem hk)]
      unfold gstep
      exact Nat.le_max_right _ _
    · have e : gst l (k + 1) = gst l k := by unfold gst; rw [List.take_of_length_le (by omega), List.take_of_length_le (by omega)]
      rw [e]; exact ih
theorem gal_mono (l : List UInt8) : (gal l).1 ≤ (gal l).2 := by
  have := gst_mono l l.length
  rw [gst_all (Nat.le_refl _)] at this
  exact this
theorem gal_bar (a b : List UInt8) : gal (a ++ 124 :: b) = ((gal b).1, max (gal a).2 (gal b).2) := by
  unfold gal
  rw [List.foldl_append, List.foldl_cons]
  have e : gstep (List.foldl gstep (0, 0) a) 124 = (0, (List.foldl gstep (0, 0) a).2) := by
    unfold gstep
    rw [if_neg (by decide)]
    simp
  rw [e, foldl_mono b (0, (List.foldl gstep (0, 0) a).2)]
theorem gst_end (x : ByteArray) : (∀ c ∈ x.data.toList, vsy c = true) → ∀ k, k ≤ x.size → ((gst x.data.toList k).1 : Int) = (k : Int) - 1 - Lib.lastIdx x 47 k := by
  intro hx k
  induction k with
  | zero => intro _; rfl
  | succ k ih =>
    intro hk
    have ha := at_list x k (by omega)
    have hv := hx _ (List.mem_of_getElem? ha)
    rw [gst_succ ha]
    unfold gstep
    by_cases hc : x[k].toNat = 47
    · have h1 : x[k] ≠ 120 := by intro e; rw [e] at hc; exact absurd hc (by decide)
      rw [lastIx_hit (by omega) hc]
      simp only [if_neg h1]
      omega
    · have h1 : x[k] = 120 := by
        simp [vsy] at hv
        rcases hv with h | h
        · exact h
        · rw [h] at hc; exact absurd rfl hc
      rw [lastIx_miss (by omega) hc]
      have := ih (by omega)
      simp only [if_pos h1]
      omega
theorem gal_end (x : ByteArray) (h : x.data.toList.all vsy = true) : ((gal x.data.toList).1 : Int) = enx x := by
  have := gst_end x (fun c hc => List.all_eq_true.1 h c hc) x.size (Nat.le_refl _)
  rw [gst_all (by simp)] at this
  exact this
/-- what the law asks -/
theorem gap_facts {s : ByteArray} (h : vvl s.data.toList = true) :
    ∃ g : Nat, vgap s = (g : Int) ∧ enx (vFst s) ≤ (g : Int) ∧ enx (vSnd s) ≤ (g : Int) ∧ g ≤ max (vFst s).size (vSnd s).size ∧
      ((vgap (s ++ ⟨#[120]⟩) = -1 ∧ (vFst s).size + (vSnd s).size = 20) ∨ (vgap (s ++ ⟨#[120]⟩) = (g : Int)) ∨ (vgap (s ++ ⟨#[120]⟩) = (g : Int) + 1)) := by
  obtain ⟨h1, h2, h3, h4⟩ := vvl_in h
  have e := vyes h4
  have e1 := gal_bar (vA s.data.toList) (vB s.data.toList)
  rw [← e] at e1
  have hF := (vFst_yes h).1
  have hS := (vFst_yes h).2
  have k1 := gal_end (vFst s) (by rw [hF, mk_list]; exact (hvl_in h1).1)
  have k2 := gal_end (vSnd s) (by rw [hS, mk_list]; exact (hvl_in h2).1)
  rw [hF, mk_list] at k1
  rw [hS, mk_list] at k2
  have m1 := gal_mono (vA s.data.toList)
  have m2 := gal_mono (vB s.data.toList)
  have l1 := (gal_le (vA s.data.toList)).2
  have l2 := (gal_le (vB s.data.toList)).2
  have hgs : vgap s = ((gal s.data.toList).2 : Nat) := by rw [vgap_yes h, gst_all (by simp)]
  have g2 : (gal s.data.toList).2 = max (gal (vA s.data.toList)).2 (gal (vB s.data.toList)).2 := by rw [e1]
  have g1 : (gal s.data.toList).1 = (gal (vB s.data.toList)).1 := by rw [e1]
  refine ⟨(gal s.data.toList).2, hgs, ?_, ?_, ?_, ?_⟩
  · rw [hF, ← k1, g2]; omega
  · rw [hS, ← k2, g2]; omega
  · rw [hF, hS, mk_size, mk_size, g2]; omega
  · have el : (s ++ ⟨#[120]⟩).data.toList = s.data.toList ++ [120] := by simp
    have ea : s.data.toList ++ [120] = vA s.data.toList ++ 124 :: (vB s.data.toList ++ [120]) := by
      conv => lhs; rw [e]
      simp
    obtain ⟨p1, p2⟩ := v_app (r := vB s.data.toList ++ [120]) (sy_nobar (hvl_in h1).1)
    rw [← ea, ← el] at p1 p2
    by_cases h20 : (vA s.data.toList).length + (vB s.data.toList).length = 20
    · left
      refine ⟨vgap_no (vvl_no3 ?_), ?_⟩
      · rw [p1, p2, List.length_append]; show 20 < _ + (_ + 1); omega
      · rw [hF, hS, mk_size, mk_size]; exact h20
    · right
      have hvb : hvl (vB s.data.toList ++ [120]) = true := by
        have q := (hvl_in h2).1
        unfold hvl
        rw [List.all_append, q]
        simp [vsy]
      have hv2 : vvl (s ++ ⟨#[120]⟩).data.toList = true := vvl_yes (by rw [p1]; exact h1) (by rw [p2]; exact hvb) (by rw [p1, p2, List.length_append]; show _ + (_ + 1) ≤ 20; omega)
      have hg : vgap (s ++ ⟨#[120]⟩) = ((gal (s ++ ⟨#[120]⟩).data.toList).2 : Nat) := by rw [vgap_yes hv2, gst_all (l := (s ++ ⟨#[120]⟩).data.toList) (k := (s ++ ⟨#[120]⟩).size) (Nat.le_of_eq Array.length_toList)]
      rw [hg, el, gal_snoc]
      have m3 := gal_mono s.data.toList
      unfold gstep
      simp only [if_true]
      omega
end Go.Proofs.Ytkjimilapgkajaa
