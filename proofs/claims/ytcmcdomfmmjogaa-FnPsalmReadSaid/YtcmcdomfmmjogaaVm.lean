/-
  Verses: plain mathematics.
-/
import Derived.Test.YtcmcdomfmmjogaaBase
import Derived.Lib.IndexMore
import Derived.Lib.LastIndexByte
namespace Go.Proofs.Ytcmcdomfmmjogaa
set_option maxRecDepth 100000
set_option linter.unusedVariables false

/-- what is ahead of the first bar -/
def vA : List UInt8 → List UInt8
  | [] => []
  | c :: l => if c = 124 then [] else c :: vA l
/-- what is behind it -/
def vB : List UInt8 → List UInt8
  | [] => []
  | c :: l => if c = 124 then l else vB l
/-- is there a bar? -/
def vBar : List UInt8 → Bool
  | [] => false
  | c :: l => if c = 124 then true else vBar l

theorem vcut (l : List UInt8) : Lib.cut l [124] = (vA l, vB l, vBar l) := by
  induction l with
  | nil => rfl
  | cons b l ih =>
    by_cases h : b = 124
    · subst h
      have e : ([124] : List UInt8).isPrefixOf (124 :: l) = true := by simp [List.isPrefixOf]
      have e0 : Lib.index (124 :: l) [124] = 0 := by rw [Lib.index, e]; rfl
      unfold Lib.cut
      rw [e0]
      simp [vA, vB, vBar]
    · have e : ([124] : List UInt8).isPrefixOf (b :: l) = false := by
        simp [List.isPrefixOf]; exact fun e => h e.symm
      have hg := Lib.index_ge l [124]
      unfold Lib.cut at ih ⊢
      by_cases hn : Lib.index l [124] = -1
      · have e1 : Lib.index (b :: l) [124] = -1 := by rw [Lib.index, e, hn]; rfl
        rw [hn] at ih
        rw [e1]
        simp only [vA, vB, vBar, if_neg h]
        rw [if_neg (by omega)] at ih ⊢
        injection ih with h1 h2
        injection h2 with h3 h4
        rw [← h1, ← h3, ← h4]
      · obtain ⟨i, hi⟩ : ∃ i : Nat, Lib.index l [124] = i := ⟨(Lib.index l [124]).toNat, by omega⟩
        have e1 : Lib.index (b :: l) [124] = ((i + 1 : Nat) : Int) := by
          rw [Lib.index, e, hi]
          have : ((i : Int) == -1) = false := by rw [beq_eq_false_iff_ne]; omega
          rw [this]; rfl
        rw [hi] at ih
        rw [e1]
        simp only [vA, vB, vBar, if_neg h]
        rw [if_pos (by omega)] at ih ⊢
        injection ih with h1 h2
        injection h2 with h3 h4
        rw [← h1, ← h3, ← h4]
        simp only [Int.toNat_natCast, List.take_succ_cons, List.length_cons, List.length_nil]
        rfl

theorem vno {l : List UInt8} (h : vBar l = false) : vA l = l ∧ vB l = [] := by
  induction l with
  | nil => exact ⟨rfl, rfl⟩
  | cons c l ih =>
    unfold vBar at h
    by_cases hc : c = 124
    · rw [if_pos hc] at h; cases h
    · rw [if_neg hc] at h
      have := ih h
      exact ⟨by unfold vA; rw [if_neg hc, this.1], by unfold vB; rw [if_neg hc, this.2]⟩
theorem vyes {l : List UInt8} (h : vBar l = true) : l = vA l ++ 124 :: vB l := by
  induction l with
  | nil => cases h
  | cons c l ih =>
    by_cases hc : c = 124
    · subst hc; simp [vA, vB]
    · unfold vBar at h
      rw [if_neg hc] at h
      have := ih h
      unfold vA vB
      rw [if_neg hc, if_neg hc]
      exact congrArg (c :: ·) this
theorem vBar_snoc (l : List UInt8) (c : UInt8) : vBar (l ++ [c]) = (vBar l || decide (c = 124)) := by
  induction l with
  | nil => by_cases h : c = 124 <;> simp [vBar, h]
  | cons b l ih =>
    show (if b = 124 then true else vBar (l ++ [c])) = ((if b = 124 then true else vBar l) || decide (c = 124))
    split
    · rfl
    · exact ih
/-- the first bar stands at k -/
theorem vat {l : List UInt8} {k : Nat} {c : UInt8} (h : vBar (l.take k) = false) (hk : l[k]? = some c) (hc : c = 124) : vA l = l.take k ∧ vB l = l.drop (k + 1) ∧ vBar l = true := by
  induction l generalizing k with
  | nil => simp at hk
  | cons b l ih =>
    cases k with
    | zero =>
      have hb : b = 124 := by simp at hk; rw [hk]; exact hc
      subst hb
      simp [vA, vB, vBar]
    | succ k =>
      rw [List.take_succ_cons] at h ⊢
      unfold vBar at h
      by_cases hb : b = 124
      · rw [if_pos hb] at h; cases h
      · rw [if_neg hb] at h
        have := ih h (by simpa using hk)
        unfold vA vB vBar
        rw [if_neg hb, if_neg hb, if_neg hb, this.1, this.2.1, this.2.2]
        exact ⟨rfl, rfl, rfl⟩

/-- is a byte a syllable? -/
def vsy (c : UInt8) : Bool := c == 120 || c == 47
/-- are they the syllables of a half? -/
def hvl (l : List UInt8) : Bool := l.all vsy && !l.isEmpty
/-- is a text a verse? -/
def vvl (l : List UInt8) : Bool := hvl (vA l) && (hvl (vB l) && decide ((vA l).length + (vB l).length ≤ 20))
theorem hvl_nil : hvl [] = false := rfl
theorem vvl_in {l : List UInt8} (h : vvl l = true) : hvl (vA l) = true ∧ hvl (vB l) = true ∧ (vA l).length + (vB l).length ≤ 20 ∧ vBar l = true := by
  unfold vvl at h
  rw [Bool.and_eq_true, Bool.and_eq_true, decide_eq_true_eq] at h
  refine ⟨h.1, h.2.1, h.2.2, ?_⟩
  cases hb : vBar l
  · have := (vno hb).2
    rw [this] at h
    exact absurd h.2.1 (by rw [hvl_nil]; decide)
  · rfl
theorem vvl_no0 {l : List UInt8} (h : vBar l = false) : vvl l = false := by
  cases hv : vvl l
  · rfl
  · have := (vvl_in hv).2.2.2; rw [h] at this; cases this
theorem vvl_no1 {l : List UInt8} (h : hvl (vA l) = false) : vvl l = false := by simp [vvl, h]
theorem vvl_no2 {l : List UInt8} (h : hvl (vB l) = false) : vvl l = false := by simp [vvl, h]
theorem vvl_no3 {l : List UInt8} (h : 20 < (vA l).length + (vB l).length) : vvl l = false := by
  have : decide ((vA l).length + (vB l).length ≤ 20) = false := by simp; omega
  simp [vvl, this]
theorem vvl_yes {l : List UInt8} (h1 : hvl (vA l) = true) (h2 : hvl (vB l) = true) (h3 : (vA l).length + (vB l).length ≤ 20) : vvl l = true := by simp [vvl, h1, h2, h3]
theorem vvl_len {l : List UInt8} (h : vvl l = true) : l.length = (vA l).length + (vB l).length + 1 := by
  have := congrArg List.length (vyes (vvl_in h).2.2.2)
  rw [List.length_append, List.length_cons] at this
  omega
theorem vA_le (l : List UInt8) : (vA l).length ≤ l.length ∧ (vB l).length ≤ l.length := by
  cases h : vBar l
  · have := vno h; rw [this.1, this.2]; simp
  · have := congrArg List.length (vyes h)
    rw [List.length_append, List.length_cons] at this
    omega

theorem vAB_le (l : List UInt8) : (vA l).length + (vB l).length ≤ l.length := by
  cases h : vBar l
  · have := vno h; rw [this.1, this.2]; simp
  · have := congrArg List.length (vyes h)
    rw [List.length_append, List.length_cons] at this
    omega

/-- the first k bytes are syllables -/
theorem hvl_bad {l : List UInt8} {k : Nat} {c : UInt8} (hk : l[k]? = some c) (hc : vsy c = false) : hvl l = false := by
  have : l.all vsy = false := by
    rw [List.all_eq_false]
    exact ⟨c, List.mem_of_getElem? hk, by simp [hc]⟩
  simp [hvl, this]
theorem hvl_snoc {l : List UInt8} {k : Nat} {c : UInt8} (hk : l[k]? = some c) (ha : (l.take k).all vsy = true) (hc : vsy c = true) : (l.take (k + 1)).all vsy = true := by
  rw [List.take_add_one, hk, List.all_append, ha]; simp [hc]
theorem hvl_yes {l : List UInt8} (h : l.all vsy = true) (h0 : l ≠ []) : hvl l = true := by
  unfold hvl
  rw [h]
  cases l with
  | nil => exact absurd rfl h0
  | cons c r => rfl
theorem hvl_in {l : List UInt8} (h : hvl l = true) : l.all vsy = true ∧ l ≠ [] := by
  unfold hvl at h
  rw [Bool.and_eq_true] at h
  refine ⟨h.1, fun e => ?_⟩
  rw [e] at h
  exact absurd h.2 (by decide)

/-- the two halves as texts; empty ones of what is no verse -/
def vFst (s : ByteArray) : ByteArray := if vvl s.data.toList then ⟨(vA s.data.toList).toArray⟩ else ⟨#[]⟩
def vSnd (s : ByteArray) : ByteArray := if vvl s.data.toList then ⟨(vB s.data.toList).toArray⟩ else ⟨#[]⟩
theorem vFst_no {s : ByteArray} (h : vvl s.data.toList = false) : vFst s = ⟨#[]⟩ ∧ vSnd s = ⟨#[]⟩ := by
  unfold vFst vSnd; rw [h]; exact ⟨rfl, rfl⟩
theorem vFst_yes {s : ByteArray} (h : vvl s.data.toList = true) : vFst s = ⟨(vA s.data.toList).toArray⟩ ∧ vSnd s = ⟨(vB s.data.toList).toArray⟩ := by
  unfold vFst vSnd; rw [h]; exact ⟨rfl, rfl⟩
theorem mk_size (l : List UInt8) : (⟨l.toArray⟩ : ByteArray).size = l.length := by show l.toArray.size = _; simp
theorem mk_list (l : List UInt8) : (⟨l.toArray⟩ : ByteArray).data.toList = l := rfl

/-- how many syllables; -1 for no verse -/
def vsyl (s : ByteArray) : Int := if vvl s.data.toList then ((vA s.data.toList).length + (vB s.data.toList).length : Nat) else -1
theorem vsyl_no {s : ByteArray} (h : vvl s.data.toList = false) : vsyl s = -1 := by unfold vsyl; rw [h]; rfl
theorem vsyl_yes {s : ByteArray} (h : vvl s.data.toList = true) : vsyl s = ((vA s.data.toList).length + (vB s.data.toList).length : Nat) := by unfold vsyl; rw [h]; rfl

/-- the weak syllables behind the last accent -/
def enx (s : ByteArray) : Int := (s.size : Int) - 1 - Lib.lastIndexByte s 47
def vE1 (s : ByteArray) : Int := if vvl s.data.toList then enx (vFst s) else 0
def vE2 (s : ByteArray) : Int := if vvl s.data.toList then enx (vSnd s) else 0
theorem vE_no {s : ByteArray} (h : vvl s.data.toList = false) : vE1 s = 0 ∧ vE2 s = 0 := by unfold vE1 vE2; rw [h]; exact ⟨rfl, rfl⟩
theorem vE_yes {s : ByteArray} (h : vvl s.data.toList = true) : vE1 s = enx (vFst s) ∧ vE2 s = enx (vSnd s) := by unfold vE1 vE2; rw [h]; exact ⟨rfl, rfl⟩

/-- the places of accents among the first k bytes -/
def acc (l : List UInt8) (k : Nat) : List Int := ((List.range k).filter fun i => l.getD i 0 == 47).map fun i : Nat => (i : Int)
theorem acc_hit {l : List UInt8} {k : Nat} {c : UInt8} (hk : l[k]? = some c) (hc : c = 47) : acc l (k + 1) = acc l k ++ [(k : Int)] := by
  have e : (l.getD k 0 == 47) = true := by rw [List.getD_eq_getElem?_getD, hk, hc]; rfl
  unfold acc
  rw [List.range_succ, List.filter_append, List.map_append]
  rw [List.filter_cons_of_pos (by exact e)]; rfl
theorem acc_miss {l : List UInt8} {k : Nat} {c : UInt8} (hk : l[k]? = some c) (hc : c ≠ 47) : acc l (k + 1) = acc l k := by
  have e : (l.getD k 0 == 47) = false := by rw [List.getD_eq_getElem?_getD, hk]; simpa using hc
  unfold acc
  rw [List.range_succ, List.filter_append, List.map_append]
  rw [List.filter_cons_of_neg (by rw [e]; exact Bool.false_ne_true)]; exact List.append_nil _
theorem acc_len (l : List UInt8) (k : Nat) : (acc l k).length ≤ k := by
  unfold acc
  rw [List.length_map]
  exact Nat.le_trans (List.length_filter_le _ _) (by simp)
/-- all syllables of a verse, one half behind the other -/
def vall (s : ByteArray) : ByteArray := vFst s ++ vSnd s
def vacc (s : ByteArray) : List Int := acc (vall s).data.toList (vall s).size
theorem vall_no {s : ByteArray} (h : vvl s.data.toList = false) : vall s = ⟨#[]⟩ := by
  unfold vall; rw [(vFst_no h).1, (vFst_no h).2]; first | rfl | done
theorem vall_yes {s : ByteArray} (h : vvl s.data.toList = true) : vall s = ⟨(vA s.data.toList ++ vB s.data.toList).toArray⟩ := by
  unfold vall; rw [(vFst_yes h).1, (vFst_yes h).2, ByteArray.mk_append_mk]; (try simp)
theorem vall_size {s : ByteArray} : (vall s).size ≤ 20 := by
  cases h : vvl s.data.toList
  · rw [vall_no h]; decide
  · rw [vall_yes h, mk_size, List.length_append]; exact (vvl_in h).2.2.1
theorem vacc_no {s : ByteArray} (h : vvl s.data.toList = false) : vacc s = [] := by unfold vacc; rw [vall_no h]; rfl
theorem vacc_len (s : ByteArray) : (vacc s).length ≤ 20 := by
  have := acc_len (vall s).data.toList (vall s).size
  have := @vall_size s
  unfold vacc
  omega
end Go.Proofs.Ytcmcdomfmmjogaa
