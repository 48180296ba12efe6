/-
  The names of groups: plain mathematics.
-/
import Derived.Test.YtkjimilapgkajabDoorNnm
import Derived.Test.YtkjimilapgkajabDoorJn
import Derived.Test.YtkjimilapgkajabDoorSco
import Derived.Test.YtkjimilapgkajabDoorGc
import Derived.Test.YtkjimilapgkajabDoorCox
import Derived.Lib.Case
namespace Go.Proofs.YtkjimilapgkajabDoor
set_option maxRecDepth 100000
set_option linter.unusedVariables false

/-- a text with a capital first letter -/
def capL : List UInt8 → List UInt8
  | [] => []
  | c :: r => (c - 32) :: r
/-- the name of a group of these tones -/
def gnl (ps : List (Int × Bool)) (b : Bool) : ByteArray := if b then ⟨(capL (nnm (ctO ps)).data.toList).toArray⟩ else nnm (ctO ps)
/-- the names of the first k groups -/
def gnw (xs gs : List (Int × Bool)) (k : Nat) : List ByteArray := (List.range k).map fun i => gnl (prt xs gs i) (gs.getD i (0, false)).2
theorem gnw_succ (xs gs : List (Int × Bool)) (k : Nat) : gnw xs gs (k + 1) = gnw xs gs k ++ [gnl (prt xs gs k) (gs.getD k (0, false)).2] := by
  unfold gnw; rw [List.range_succ, List.map_append]; rfl
theorem gnw_len (xs gs : List (Int × Bool)) (k : Nat) : (gnw xs gs k).length = k := by unfold gnw; simp
def gnm (xs gs : List (Int × Bool)) : ByteArray := if gv xs gs then jns (gnw xs gs gs.length) else ⟨#[]⟩
theorem gnm_no {xs gs : List (Int × Bool)} (h : gv xs gs = false) : gnm xs gs = ⟨#[]⟩ := by unfold gnm; rw [h]; rfl
theorem gnm_yes {xs gs : List (Int × Bool)} (h : gv xs gs = true) : gnm xs gs = jns (gnw xs gs gs.length) := by unfold gnm; rw [h]; rfl
theorem gnm_nil (xs : List (Int × Bool)) : gnm xs [] = ⟨#[]⟩ := by
  cases h : gv xs []
  · exact gnm_no h
  · rw [gnm_yes h]; rfl

/-- what a neume's name is like -/
theorem nnl_facts : ∀ l ∈ allC, 1 ≤ (nnl l).length ∧ (nnl l).length ≤ 9 ∧ (∀ c ∈ nnl l, c.toNat < 128) ∧ 97 ≤ ((nnl l).getD 0 0).toNat ∧ ((nnl l).getD 0 0).toNat ≤ 122 ∧ Lib.toUpperA ((nnl l).take 1) ++ (nnl l).drop 1 = capL (nnl l) := by decide +kernel
theorem wys_way : ∀ xs : List (Int × Bool), (wys xs).all wayb = true
  | [] => rfl
  | [t] => rfl
  | t :: u :: r => by
    show (wyc t.1 u.1 :: wys (u :: r)).all wayb = true
    rw [List.all_cons, wys_way (u :: r)]
    unfold wyc
    split
    · rfl
    · split <;> rfl
theorem wys_length : ∀ xs : List (Int × Bool), (wys xs).length = xs.length - 1
  | [] => rfl
  | [t] => rfl
  | t :: u :: r => by
    have := wys_length (u :: r)
    simp only [wys, List.length_cons] at this ⊢
    omega
theorem cto_isn {ps : List (Int × Bool)} (h : mv ps = true) (hl : ps.length ≤ 4) : isn (ctO ps) = true := by
  have e := ctO_wys ps
  rw [mvl_yes h] at e
  rw [e]
  have hw := wys_length ps
  have hs : (⟨(wys ps).toArray⟩ : ByteArray).size = (wys ps).length := by show (wys ps).toArray.size = _; simp
  refine isn_yes ?_ (by rw [hs]; omega)
  unfold cv
  rw [hs, Bool.and_eq_true]
  exact ⟨by simp; omega, wys_way ps⟩
/-- .. of a group's name -/
structure NmOk (N : ByteArray) : Prop where
  one : 1 ≤ N.size
  nine : N.size ≤ 9
  asc : ∀ c ∈ N.data.toList, c.toNat < 128
  lo : 97 ≤ (N.data.toList.getD 0 0).toNat
  hi : (N.data.toList.getD 0 0).toNat ≤ 122
  cap : Lib.toUpperA (N.data.toList.take 1) ++ N.data.toList.drop 1 = capL N.data.toList
theorem nm_ok {ps : List (Int × Bool)} (h : mv ps = true) (hl : ps.length ≤ 4) : NmOk (nnm (ctO ps)) := by
  have hi := cto_isn h hl
  obtain ⟨a, b, c, d, e, f⟩ := nnl_facts _ (isn_mem hi)
  rw [nnm_yes hi]
  have hs : (⟨(nnl (ctO ps).data.toList).toArray⟩ : ByteArray).size = (nnl (ctO ps).data.toList).length := by show (nnl _).toArray.size = _; simp
  exact ⟨by rw [hs]; exact a, by rw [hs]; exact b, c, d, e, f⟩
theorem capL_size (l : List UInt8) : (capL l).length = l.length := by cases l <;> rfl
theorem gnl_size {ps : List (Int × Bool)} (h : mv ps = true) (hl : ps.length ≤ 4) (b : Bool) : 1 ≤ (gnl ps b).size ∧ (gnl ps b).size ≤ 9 := by
  have hn := nm_ok h hl
  cases b
  · exact ⟨hn.one, hn.nine⟩
  · have hs : (gnl ps true).size = (nnm (ctO ps)).size := by
      show (capL (nnm (ctO ps)).data.toList).toArray.size = _
      rw [List.size_toArray, capL_size]; simp
    rw [hs]
    exact ⟨hn.one, hn.nine⟩
theorem gp_ok {xs gs : List (Int × Bool)} {j : Nat} (h : gv xs gs = true) (hj : j < gs.length) : mv (prt xs gs j) = true ∧ (prt xs gs j).length ≤ 4 ∧ 1 ≤ (prt xs gs j).length := by
  obtain ⟨hmv, hall, hsz⟩ := gv_in h
  obtain ⟨p0, p1⟩ := gok_in (List.all_eq_true.1 hall _ (List.getElem_mem hj))
  have hsn := gsz_snoc (List.getElem?_eq_getElem hj)
  have hsp := gsz_split gs (j + 1)
  have hd : gs.getD j (0, false) = gs[j] := by rw [List.getD_eq_getElem?_getD, List.getElem?_eq_getElem hj]; rfl
  refine ⟨mv_sub hmv _ _, ?_, ?_⟩
  · unfold prt; rw [List.length_take, hd]; omega
  · unfold prt; rw [List.length_take, List.length_drop, hd]; omega
theorem gnw_size {xs gs : List (Int × Bool)} (h : gv xs gs = true) {k : Nat} (hk : k ≤ gs.length) : (jnw (gnw xs gs k)).length ≤ 240 := by
  have h1 : ∀ x, x ∈ gnw xs gs k → x.size ≤ 9 := by
    intro x hx
    unfold gnw at hx
    obtain ⟨i, hi, rfl⟩ := List.mem_map.1 hx
    have hik := List.mem_range.1 hi
    obtain ⟨a, b, c⟩ := gp_ok h (show i < gs.length by omega)
    exact (gnl_size a b _).2
  have := jnw_len h1
  rw [gnw_len] at this
  have := (gv_len h).1
  omega
end Go.Proofs.YtkjimilapgkajabDoor
