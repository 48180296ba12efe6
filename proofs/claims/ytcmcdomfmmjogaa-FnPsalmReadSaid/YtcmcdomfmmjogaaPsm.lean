/-
  Psalm tones: plain mathematics.
-/
import Derived.Test.YtcmcdomfmmjogaaVm
import Derived.Test.YtcmcdomfmmjogaaMel
namespace Go.Proofs.Ytcmcdomfmmjogaa
set_option maxRecDepth 100000
set_option linter.unusedVariables false

/-- a psalm tone -/
structure Psa where
  st : List (Int × Bool)
  tn : Int × Bool
  mi : List (Int × Bool)
  en : List (Int × Bool)

/-- is a list a part of so many tones? -/
def partV (xs : List (Int × Bool)) (lo hi : Nat) : Bool := decide (lo ≤ xs.length) && (decide (xs.length ≤ hi) && mv xs)
/-- is it one? -/
def pv (p : Psa) : Bool := vd p.tn.1 p.tn.2 && (partV p.st 0 3 && (partV p.mi 1 4 && partV p.en 1 4))
theorem partV_in {xs : List (Int × Bool)} {lo hi : Nat} (h : partV xs lo hi = true) : lo ≤ xs.length ∧ xs.length ≤ hi ∧ mv xs = true := by
  unfold partV at h
  rw [Bool.and_eq_true, Bool.and_eq_true, decide_eq_true_eq, decide_eq_true_eq] at h
  exact h
theorem partV_no1 {xs : List (Int × Bool)} {lo hi : Nat} (h : xs.length < lo) : partV xs lo hi = false := by
  have : decide (lo ≤ xs.length) = false := by simp; omega
  simp [partV, this]
theorem partV_no2 {xs : List (Int × Bool)} {lo hi : Nat} (h : hi < xs.length) : partV xs lo hi = false := by
  have : decide (xs.length ≤ hi) = false := by simp; omega
  simp [partV, this]
theorem partV_no3 {xs : List (Int × Bool)} {lo hi : Nat} (h : mv xs = false) : partV xs lo hi = false := by simp [partV, h]
theorem partV_yes {xs : List (Int × Bool)} {lo hi : Nat} (h : lo ≤ xs.length) (k : xs.length ≤ hi) (m : mv xs = true) : partV xs lo hi = true := by simp [partV, h, k, m]
theorem pv_in {p : Psa} (h : pv p = true) : vd p.tn.1 p.tn.2 = true ∧ partV p.st 0 3 = true ∧ partV p.mi 1 4 = true ∧ partV p.en 1 4 = true := by
  unfold pv at h
  rw [Bool.and_eq_true, Bool.and_eq_true, Bool.and_eq_true] at h
  exact h

/-- does it fit a verse? -/
def pfit (p : Psa) (s : ByteArray) : Bool := pv p && (vvl s.data.toList && (decide (p.st.length + p.mi.length ≤ (vFst s).size) && decide (p.en.length ≤ (vSnd s).size)))
theorem pfit_no1 {p : Psa} {s : ByteArray} (h : pv p = false) : pfit p s = false := by simp [pfit, h]
theorem pfit_no2 {p : Psa} {s : ByteArray} (h : vvl s.data.toList = false) : pfit p s = false := by simp [pfit, h]
theorem pfit_no3 {p : Psa} {s : ByteArray} (h : (vFst s).size < p.st.length + p.mi.length) : pfit p s = false := by
  have : decide (p.st.length + p.mi.length ≤ (vFst s).size) = false := by simp; omega
  simp [pfit, this]
theorem pfit_no4 {p : Psa} {s : ByteArray} (h : (vSnd s).size < p.en.length) : pfit p s = false := by
  have : decide (p.en.length ≤ (vSnd s).size) = false := by simp; omega
  simp [pfit, this]
theorem pfit_yes {p : Psa} {s : ByteArray} (h1 : pv p = true) (h2 : vvl s.data.toList = true) (h3 : p.st.length + p.mi.length ≤ (vFst s).size) (h4 : p.en.length ≤ (vSnd s).size) : pfit p s = true := by
  simp [pfit, h1, h2, h3, h4]
theorem pfit_in {p : Psa} {s : ByteArray} (h : pfit p s = true) : pv p = true ∧ vvl s.data.toList = true ∧ p.st.length + p.mi.length ≤ (vFst s).size ∧ p.en.length ≤ (vSnd s).size := by
  unfold pfit at h
  rw [Bool.and_eq_true, Bool.and_eq_true, Bool.and_eq_true, decide_eq_true_eq, decide_eq_true_eq] at h
  exact h
theorem vhalf_size (s : ByteArray) : (vFst s).size + (vSnd s).size ≤ 20 := by
  cases h : vvl s.data.toList
  · rw [(vFst_no h).1, (vFst_no h).2]; decide
  · rw [(vFst_yes h).1, (vFst_yes h).2, mk_size, mk_size]; exact (vvl_in h).2.2.1

/-- the tone of a syllable of a half -/
def ntH (st : List (Int × Bool)) (tn : Int × Bool) (en : List (Int × Bool)) (n i : Nat) : Int × Bool :=
  if i < st.length then st.getD i (0, false) else if n - en.length ≤ i then en.getD (i - (n - en.length)) (0, false) else tn
/-- its role: start, tenor, ending -/
def roH (st en : List (Int × Bool)) (n i : Nat) : Int := if i < st.length then 0 else if n - en.length ≤ i then 2 else 1
/-- a syllable as it is sung: tone, role, accent -/
abbrev Note := (Int × Bool) × Int × Bool
def noH (st : List (Int × Bool)) (tn : Int × Bool) (en : List (Int × Bool)) (h : ByteArray) (i : Nat) : Note :=
  (ntH st tn en h.size i, roH st en h.size i, h.data.toList.getD i 0 == 47)
def noV (p : Psa) (s : ByteArray) (i : Nat) : Note :=
  if i < (vFst s).size then noH p.st p.tn p.mi (vFst s) i else noH [] p.tn p.en (vSnd s) (i - (vFst s).size)
/-- the first k notes -/
def noK (p : Psa) (s : ByteArray) (k : Nat) : List Note := (List.range k).map (noV p s)
theorem noK_succ (p : Psa) (s : ByteArray) (k : Nat) : noK p s (k + 1) = noK p s k ++ [noV p s k] := by
  unfold noK; rw [List.range_succ, List.map_append]; rfl
theorem noK_len (p : Psa) (s : ByteArray) (k : Nat) : (noK p s k).length = k := by unfold noK; simp
def nos (p : Psa) (s : ByteArray) : List Note := if pfit p s then noK p s ((vFst s).size + (vSnd s).size) else []
theorem nos_no {p : Psa} {s : ByteArray} (h : pfit p s = false) : nos p s = [] := by unfold nos; rw [h]; rfl
theorem nos_yes {p : Psa} {s : ByteArray} (h : pfit p s = true) : nos p s = noK p s ((vFst s).size + (vSnd s).size) := by unfold nos; rw [h]; rfl
theorem nos_len (p : Psa) (s : ByteArray) : (nos p s).length ≤ 20 := by
  have := vhalf_size s
  cases h : pfit p s
  · rw [nos_no h]; simp
  · rw [nos_yes h, noK_len]; exact this

/-- the sung half -/
def sgH (st : List (Int × Bool)) (tn : Int × Bool) (en : List (Int × Bool)) (n : Nat) : List (Int × Bool) := st ++ List.replicate (n - st.length - en.length) tn ++ en
theorem sgH_len {st : List (Int × Bool)} {tn : Int × Bool} {en : List (Int × Bool)} {n : Nat} (h : st.length + en.length ≤ n) : (sgH st tn en n).length = n := by
  unfold sgH; simp; omega
theorem gA {A B : List (Int × Bool)} {i : Nat} {d : Int × Bool} (h : i < A.length) : (A ++ B).getD i d = A.getD i d := by
  rw [List.getD_eq_getElem?_getD, List.getD_eq_getElem?_getD, List.getElem?_append_left h]
theorem gB {A B : List (Int × Bool)} {i : Nat} {d : Int × Bool} (h : A.length ≤ i) : (A ++ B).getD i d = B.getD (i - A.length) d := by
  rw [List.getD_eq_getElem?_getD, List.getD_eq_getElem?_getD, List.getElem?_append_right h]
theorem gR {k i : Nat} {x d : Int × Bool} (h : i < k) : (List.replicate k x).getD i d = x := by
  rw [List.getD_eq_getElem?_getD, List.getElem?_replicate, if_pos h]; rfl
theorem extD {A B : List (Int × Bool)} (hl : A.length = B.length) (h : ∀ i, i < A.length → A.getD i (0, false) = B.getD i (0, false)) : A = B := by
  refine List.ext_getElem hl fun i h1 h2 => ?_
  have := h i h1
  rw [List.getD_eq_getElem?_getD, List.getD_eq_getElem?_getD, List.getElem?_eq_getElem h1, List.getElem?_eq_getElem h2] at this
  exact this
theorem sgH_get {st : List (Int × Bool)} {tn : Int × Bool} {en : List (Int × Bool)} {n i : Nat} (h : st.length + en.length ≤ n) (hi : i < n) : (sgH st tn en n).getD i (0, false) = ntH st tn en n i := by
  unfold ntH sgH
  by_cases ha : i < st.length
  · rw [if_pos ha, gA (by rw [List.length_append]; omega), gA ha]
  · rw [if_neg ha]
    have hx : (st ++ List.replicate (n - st.length - en.length) tn).length = n - en.length := by rw [List.length_append, List.length_replicate]; omega
    by_cases hb : n - en.length ≤ i
    · rw [if_pos hb, gB (by rw [hx]; exact hb), hx]
    · rw [if_neg hb, gA (by rw [hx]; omega), gB (by omega), gR (by omega)]
theorem sgH_eq {st : List (Int × Bool)} {tn : Int × Bool} {en : List (Int × Bool)} {n : Nat} (h : st.length + en.length ≤ n) : (List.range n).map (ntH st tn en n) = sgH st tn en n := by
  have hl : ((List.range n).map (ntH st tn en n)).length = n := by simp
  refine extD (by rw [hl, sgH_len h]) fun i hi => ?_
  rw [hl] at hi
  rw [sgH_get h hi, List.getD_eq_getElem?_getD, List.getElem?_map, List.getElem?_range hi]
  rfl
/-- the melody to which a verse is sung -/
def psL (p : Psa) (s : ByteArray) : List (Int × Bool) := if pfit p s then sgH p.st p.tn p.mi (vFst s).size ++ sgH [] p.tn p.en (vSnd s).size else []
theorem psL_no {p : Psa} {s : ByteArray} (h : pfit p s = false) : psL p s = [] := by unfold psL; rw [h]; rfl
theorem psL_yes {p : Psa} {s : ByteArray} (h : pfit p s = true) : psL p s = sgH p.st p.tn p.mi (vFst s).size ++ sgH [] p.tn p.en (vSnd s).size := by unfold psL; rw [h]; rfl
theorem range_add_map {α : Type} (f g : Nat → α) (a b : Nat) (F : Nat → α) (h1 : ∀ i, i < a → F i = f i) (h2 : ∀ j, F (a + j) = g j) : (List.range (a + b)).map F = (List.range a).map f ++ (List.range b).map g := by
  rw [List.range_add, List.map_append, List.map_map]
  congr 1
  · exact List.map_congr_left fun i hi => h1 i (List.mem_range.1 hi)
  · exact List.map_congr_left fun j _ => h2 j
theorem psL_nos (p : Psa) (s : ByteArray) : (nos p s).map (·.1) = psL p s := by
  cases h : pfit p s
  · rw [nos_no h, psL_no h]; rfl
  · obtain ⟨_, _, h3, h4⟩ := pfit_in h
    rw [nos_yes h, psL_yes h, ← sgH_eq h3, ← sgH_eq (st := []) (by simpa using h4)]
    unfold noK
    rw [List.map_map]
    refine range_add_map _ _ _ _ _ (fun i hi => ?_) (fun j => ?_)
    · show (noV p s i).1 = _
      unfold noV
      rw [if_pos hi]; rfl
    · show (noV p s ((vFst s).size + j)).1 = _
      unfold noV
      rw [if_neg (by omega), Nat.add_sub_cancel_left]; rfl
theorem psL_len (p : Psa) (s : ByteArray) : (psL p s).length ≤ 20 := by
  rw [← psL_nos, List.length_map]; exact nos_len p s

/-- how many are sung to the tenor -/
def psT (p : Psa) (s : ByteArray) : Int := if pfit p s then (((vFst s).size + (vSnd s).size - p.st.length - p.mi.length - p.en.length : Nat) : Int) else -1
theorem psT_no {p : Psa} {s : ByteArray} (h : pfit p s = false) : psT p s = -1 := by unfold psT; rw [h]; rfl
theorem psT_yes {p : Psa} {s : ByteArray} (h : pfit p s = true) : psT p s = (((vFst s).size + (vSnd s).size - p.st.length - p.mi.length - p.en.length : Nat) : Int) := by unfold psT; rw [h]; rfl
theorem count_min (a c n : Nat) : ((List.range n).filter fun i => decide (a ≤ i) && decide (i < c)).length = min n c - a := by
  induction n with
  | zero => simp
  | succ n ih =>
    rw [List.range_succ, List.filter_append, List.length_append, ih]
    by_cases h : a ≤ n ∧ n < c
    · rw [List.filter_cons_of_pos (by simp; exact h)]
      simp only [List.filter_nil, List.length_cons, List.length_nil]
      omega
    · rw [List.filter_cons_of_neg (by simp; omega)]
      simp only [List.filter_nil, List.length_nil]
      omega
end Go.Proofs.Ytcmcdomfmmjogaa
