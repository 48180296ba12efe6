/-
  Plain mathematics of manuscripts: readings, lost ones, places that differ, the letter that most have. No program stands in it.
-/
import Derived.Below
import Derived.Lib.Hide
namespace Go.Proofs.YthhndlefafcdeaaDoor

theorem allp_get {s : ByteArray} {k : Nat} (hk : k < s.size) : s.data.toList[k]? = some s[k] := by
  rw [List.getElem?_eq_getElem (by simpa using hk)]; rfl
theorem allp_next {p : UInt8 → Bool} {s : ByteArray} {k : Nat} (h : (s.data.toList.take k).all p = true) (hk : k < s.size) (hp : p s[k] = true) : (s.data.toList.take (k + 1)).all p = true := by
  rw [List.take_add_one, allp_get hk, List.all_append, h]
  simp [hp]
theorem allp_end {p : UInt8 → Bool} {s : ByteArray} (h : (s.data.toList.take s.size).all p = true) : s.data.toList.all p = true := by
  rwa [List.take_of_length_le (by simp)] at h
theorem allp_bad {p : UInt8 → Bool} {s : ByteArray} {k : Nat} (hk : k < s.size) (hp : p s[k] = false) : s.data.toList.all p = false := by
  rw [List.all_eq_false]
  exact ⟨s[k], List.mem_of_getElem? (allp_get hk), by simp [hp]⟩

def lsb (c : UInt8) : Bool := c == 63
def rdg (c : UInt8) : Bool := c == 97 || c == 98 || c == 99 || c == 100
theorem lsb_yes {c : UInt8} (h : lsb c = true) : c.toNat = 63 := by
  simp [lsb] at h; rw [h]; rfl
theorem lsb_no {c : UInt8} (h : lsb c = false) : c.toNat ≠ 63 := fun e => by
  rw [show c = 63 from UInt8.toNat_inj.1 e] at h; exact absurd h (by decide)
theorem rdg_yes {c : UInt8} (h : rdg c = true) : 97 ≤ c.toNat ∧ c.toNat ≤ 100 := by
  simp [rdg] at h
  rcases h with ((rfl | rfl) | rfl) | rfl <;> decide
theorem rdg_no {c : UInt8} (h : rdg c = false) : c.toNat < 97 ∨ 100 < c.toNat := by
  refine Decidable.byContradiction fun e => ?_
  have h2 : c.toNat = 97 ∨ c.toNat = 98 ∨ c.toNat = 99 ∨ c.toNat = 100 := by omega
  rcases h2 with h2 | h2 | h2 | h2
  · rw [show c = 97 from UInt8.toNat_inj.1 h2] at h; exact absurd h (by decide)
  · rw [show c = 98 from UInt8.toNat_inj.1 h2] at h; exact absurd h (by decide)
  · rw [show c = 99 from UInt8.toNat_inj.1 h2] at h; exact absurd h (by decide)
  · rw [show c = 100 from UInt8.toNat_inj.1 h2] at h; exact absurd h (by decide)

/-- is a text that of a lost manuscript? is it a reading? -/
def lostB (s : ByteArray) : Bool := s.data.toList.all lsb
def readB (s : ByteArray) : Bool := s.data.toList.all rdg
def bk1 (n : Nat) (s : ByteArray) : Bool := decide (s.size = n) && (lostB s || readB s)
/-- the places of the first manuscript -/
def plc (ss : List ByteArray) : Nat := (ss.headD ⟨#[]⟩).size
def bkIn (ss : List ByteArray) : Bool := decide (1 ≤ ss.length) && decide (ss.length ≤ 6) && decide (1 ≤ plc ss) && decide (plc ss ≤ 8)
def bkOk (ss : List ByteArray) : Bool := bkIn ss && ss.all (bk1 (plc ss))
def bkN (ss : List ByteArray) : Nat := ss.countP lostB
/-- how many are lost, 0 if they are no manuscripts -/
def bkL (ss : List ByteArray) : Nat := if bkOk ss = true then bkN ss else 0
/-- manuscripts, none of them lost -/
def bval (ss : List ByteArray) : Bool := bkOk ss && decide (bkL ss = 0)

theorem bkIn_parts {ss : List ByteArray} (h : bkIn ss = true) : 1 ≤ ss.length ∧ ss.length ≤ 6 ∧ 1 ≤ plc ss ∧ plc ss ≤ 8 := by
  unfold bkIn at h
  simp at h
  omega
theorem bkIn_no1 {ss : List ByteArray} (h : ss.length = 0) : bkIn ss = false := by unfold bkIn; simp [h]
theorem bkIn_no2 {ss : List ByteArray} (h : 6 < ss.length) : bkIn ss = false := by unfold bkIn; rw [decide_eq_false (by omega : ¬ ss.length ≤ 6)]; simp
theorem bkIn_no3 {ss : List ByteArray} (h : plc ss = 0) : bkIn ss = false := by unfold bkIn; simp [h]
theorem bkIn_no4 {ss : List ByteArray} (h : 8 < plc ss) : bkIn ss = false := by unfold bkIn; rw [decide_eq_false (by omega : ¬ plc ss ≤ 8)]; simp
theorem bkIn_yes {ss : List ByteArray} (h1 : ss.length ≠ 0) (h2 : ss.length ≤ 6) (h3 : plc ss ≠ 0) (h4 : plc ss ≤ 8) : bkIn ss = true := by
  unfold bkIn; simp; omega
theorem bkOk_no {ss : List ByteArray} (h : bkIn ss = false) : bkOk ss = false := by unfold bkOk; rw [h]; rfl
theorem bkL_no {ss : List ByteArray} (h : bkOk ss = false) : bkL ss = 0 := by unfold bkL; rw [h]; rfl
theorem bkL_yes {ss : List ByteArray} (h : bkOk ss = true) : bkL ss = bkN ss := by unfold bkL; rw [h]; rfl
theorem bkOk_bad {ss : List ByteArray} {k : Nat} {s : ByteArray} (hs : ss[k]? = some s) (h : bk1 (plc ss) s = false) : bkOk ss = false := by
  have : ss.all (bk1 (plc ss)) = false := by
    rw [List.all_eq_false]
    exact ⟨s, List.mem_of_getElem? hs, by simp [h]⟩
  unfold bkOk
  rw [this, Bool.and_false]
/-- the first k are fit, m of them lost -/
def BkTo (ss : List ByteArray) (k m : Nat) : Prop := (ss.take k).all (bk1 (plc ss)) = true ∧ (ss.take k).countP lostB = m
theorem BkTo.zero (ss : List ByteArray) : BkTo ss 0 0 := by simp [BkTo]
theorem BkTo.lost {ss : List ByteArray} {k m : Nat} {s : ByteArray} (h : BkTo ss k m) (hs : ss[k]? = some s) (h1 : s.size = plc ss) (h2 : lostB s = true) : BkTo ss (k + 1) (m + 1) := by
  unfold BkTo
  rw [List.take_add_one, hs, List.all_append, h.1, List.countP_append, h.2]
  simp [bk1, h1, h2]
theorem BkTo.kept {ss : List ByteArray} {k m : Nat} {s : ByteArray} (h : BkTo ss k m) (hs : ss[k]? = some s) (h1 : s.size = plc ss) (h2 : lostB s = false) (h3 : readB s = true) : BkTo ss (k + 1) m := by
  unfold BkTo
  rw [List.take_add_one, hs, List.all_append, h.1, List.countP_append, h.2]
  simp [bk1, h1, h2, h3]
theorem BkTo.le {ss : List ByteArray} {k m : Nat} (h : BkTo ss k m) (hk : k ≤ ss.length) : m ≤ k := by
  have := List.countP_le_length (p := lostB) (l := ss.take k)
  rw [h.2, List.length_take] at this
  omega
theorem BkTo.all {ss : List ByteArray} {m : Nat} (h : BkTo ss ss.length m) (hi : bkIn ss = true) : bkOk ss = true ∧ bkL ss = m := by
  have h1 := h.1
  have h2 := h.2
  rw [List.take_length] at h1 h2
  have h3 : bkOk ss = true := by unfold bkOk; rw [hi, h1]; rfl
  exact ⟨h3, by rw [bkL_yes h3]; exact h2⟩
theorem bk1_size {n : Nat} {s : ByteArray} (h : s.size ≠ n) : bk1 n s = false := by unfold bk1; rw [decide_eq_false h]; rfl
theorem bk1_none {n : Nat} {s : ByteArray} (h1 : lostB s = false) (h2 : readB s = false) : bk1 n s = false := by unfold bk1; rw [h1, h2]; simp
theorem plc_get {ss : List ByteArray} {s : ByteArray} (h : ss[0]? = some s) : plc ss = s.size := by
  cases ss with
  | nil => simp at h
  | cons a r => simp at h; subst h; rfl
theorem bval_no {ss : List ByteArray} (h : bkOk ss = false) : bval ss = false := by unfold bval; rw [h]; rfl
theorem bval_eq {ss : List ByteArray} (h : bkOk ss = true) : bval ss = decide ((bkL ss : Int) = 0) := by
  unfold bval; rw [h, Bool.true_and]
  by_cases h0 : bkL ss = 0
  · simp [h0]
  · rw [decide_eq_false h0, decide_eq_false (by omega)]
theorem bval_in {ss : List ByteArray} (h : bval ss = true) : bkIn ss = true ∧ ∀ (k : Nat) (s : ByteArray), ss[k]? = some s → s.size = plc ss ∧ readB s = true := by
  unfold bval at h
  rw [Bool.and_eq_true] at h
  obtain ⟨h1, h2⟩ := h
  have h3 := of_decide_eq_true h2
  rw [bkL_yes h1] at h3
  unfold bkOk at h1
  rw [Bool.and_eq_true] at h1
  refine ⟨h1.1, fun k s hs => ?_⟩
  have hm := List.mem_of_getElem? hs
  have h4 := List.all_eq_true.1 h1.2 s hm
  unfold bkN at h3
  rw [List.countP_eq_zero] at h3
  have h5 := h3 s hm
  unfold bk1 at h4
  rw [Bool.and_eq_true] at h4
  obtain ⟨h6, h7⟩ := h4
  refine ⟨of_decide_eq_true h6, ?_⟩
  rw [Bool.not_eq_true] at h5
  rw [h5, Bool.false_or] at h7
  exact h7
theorem bkOk_in {ss : List ByteArray} (h : bkOk ss = true) : bkIn ss = true ∧ ∀ (k : Nat) (s : ByteArray), ss[k]? = some s → s.size = plc ss ∧ (lostB s = true ∨ readB s = true) := by
  unfold bkOk at h
  rw [Bool.and_eq_true] at h
  refine ⟨h.1, fun k s hs => ?_⟩
  have h4 := List.all_eq_true.1 h.2 s (List.mem_of_getElem? hs)
  unfold bk1 at h4
  rw [Bool.and_eq_true] at h4
  exact ⟨of_decide_eq_true h4.1, by simpa using h4.2⟩

/-- the first k places at which two texts differ -/
def frk (a b : ByteArray) : Nat → Nat
  | 0 => 0
  | k + 1 => frk a b k + if a.data.toList[k]? = b.data.toList[k]? then 0 else 1
/-- at how many places they differ -/
def fr (a b : ByteArray) : Nat := frk a b a.size
theorem frk_le (a b : ByteArray) : ∀ k, frk a b k ≤ k
  | 0 => Nat.le_refl _
  | k + 1 => by have := frk_le a b k; unfold frk; split <;> omega
theorem frk_same {a b : ByteArray} {k : Nat} (ha : k < a.size) (hb : k < b.size) (h : a[k].toNat = b[k].toNat) : frk a b (k + 1) = frk a b k := by
  have e : a.data.toList[k]? = b.data.toList[k]? := by
    rw [allp_get ha, allp_get hb, UInt8.toNat_inj.1 h]
  rw [frk, if_pos e]; rfl
theorem frk_other {a b : ByteArray} {k : Nat} (ha : k < a.size) (hb : k < b.size) (h : a[k].toNat ≠ b[k].toNat) : frk a b (k + 1) = frk a b k + 1 := by
  have e : ¬ a.data.toList[k]? = b.data.toList[k]? := by
    rw [allp_get ha, allp_get hb]
    intro e
    exact h (congrArg UInt8.toNat (Option.some.inj e))
  rw [frk, if_neg e]
theorem frk_comm (a b : ByteArray) : ∀ k, frk a b k = frk b a k
  | 0 => rfl
  | k + 1 => by
    unfold frk
    rw [frk_comm a b k]
    by_cases h : a.data.toList[k]? = b.data.toList[k]?
    · rw [if_pos h, if_pos h.symm]
    · rw [if_neg h, if_neg (fun e => h e.symm)]
theorem fr_comm {a b : ByteArray} (h : a.size = b.size) : fr a b = fr b a := by unfold fr; rw [frk_comm, h]
/-- the text with an index, the empty one if there is none -/
def bka (ss : List ByteArray) (i : Nat) : ByteArray := (ss[i]?).getD ⟨#[]⟩
theorem bka_get {ss : List ByteArray} {i : Nat} {s : ByteArray} (h : ss[i]? = some s) : bka ss i = s := by unfold bka; rw [h]; rfl
/-- what BooksFar answers -/
def bfarOk (ss : List ByteArray) (i k : Int) : Bool := bval ss && decide (0 ≤ i) && decide (i < ss.length) && decide (0 ≤ k) && decide (k < ss.length)
def bfar (ss : List ByteArray) (i k : Int) : Int := if bfarOk ss i k = true then (fr (bka ss i.toNat) (bka ss k.toNat) : Int) else -1
theorem bfar_no {ss : List ByteArray} {i k : Int} (h : bfarOk ss i k = false) : bfar ss i k = -1 := by unfold bfar; rw [h]; rfl
theorem bfar_yes {ss : List ByteArray} {i k : Int} (h : bfarOk ss i k = true) : bfar ss i k = (fr (bka ss i.toNat) (bka ss k.toNat) : Int) := by unfold bfar; rw [if_pos h]
theorem bfar_no0 {ss : List ByteArray} {i k : Int} (h : bval ss = false) : bfar ss i k = -1 := bfar_no (by unfold bfarOk; rw [h]; rfl)
theorem bfar_no1 {ss : List ByteArray} {i k : Int} (h : i < 0) : bfar ss i k = -1 := bfar_no (by unfold bfarOk; rw [decide_eq_false (by omega : ¬ 0 ≤ i)]; simp)
theorem bfar_no2 {ss : List ByteArray} {i k : Int} (h : ¬ i < ss.length) : bfar ss i k = -1 := bfar_no (by unfold bfarOk; rw [decide_eq_false h]; simp)
theorem bfar_no3 {ss : List ByteArray} {i k : Int} (h : k < 0) : bfar ss i k = -1 := bfar_no (by unfold bfarOk; rw [decide_eq_false (by omega : ¬ 0 ≤ k)]; simp)
theorem bfar_no4 {ss : List ByteArray} {i k : Int} (h : ¬ k < ss.length) : bfar ss i k = -1 := bfar_no (by unfold bfarOk; rw [decide_eq_false h]; simp)
theorem bfar_at {ss : List ByteArray} {i k : Nat} {s t : ByteArray} (hv : bval ss = true) (hs : ss[i]? = some s) (ht : ss[k]? = some t) : bfar ss (i : Int) (k : Int) = (fr s t : Int) := by
  have h1 := (List.getElem?_eq_some_iff.1 hs).1
  have h2 := (List.getElem?_eq_some_iff.1 ht).1
  rw [bfar_yes (by unfold bfarOk; rw [hv]; simp; omega), Int.toNat_natCast, Int.toNat_natCast, bka_get hs, bka_get ht]

/-- the letter with an index -/
def l4 (c : Nat) : UInt8 := ([97, 98, 99, 100] : List UInt8).getD c 0
theorem l4_nat {c : Nat} (h : c < 4) : (l4 c).toNat = 97 + c := by
  have : c = 0 ∨ c = 1 ∨ c = 2 ∨ c = 3 := by omega
  rcases this with rfl | rfl | rfl | rfl <;> rfl
/-- how many of the first k have a letter at a place -/
def cnk (ss : List ByteArray) (p c k : Nat) : Nat := (ss.take k).countP (fun s => s.data.toList[p]? == some (l4 c))
def cnt (ss : List ByteArray) (p c : Nat) : Nat := cnk ss p c ss.length
theorem cnk_yes {ss : List ByteArray} {p c k : Nat} {s : ByteArray} (hs : ss[k]? = some s) (hp : p < s.size) (hc : c < 4) (h : s[p].toNat = 97 + c) : cnk ss p c (k + 1) = cnk ss p c k + 1 := by
  have e : s.data.toList[p]? = some (l4 c) := by
    rw [allp_get hp]
    exact congrArg some (UInt8.toNat_inj.1 (by rw [h, l4_nat hc]))
  unfold cnk
  rw [List.take_add_one, hs, List.countP_append, Option.toList_some, List.countP_cons, List.countP_nil, e]
  simp
theorem cnk_no {ss : List ByteArray} {p c k : Nat} {s : ByteArray} (hs : ss[k]? = some s) (hp : p < s.size) (hc : c < 4) (h : s[p].toNat ≠ 97 + c) : cnk ss p c (k + 1) = cnk ss p c k := by
  have e : (s.data.toList[p]? == some (l4 c)) = false := by
    rw [allp_get hp, beq_eq_false_iff_ne]
    intro e
    exact h (by rw [Option.some.inj e, l4_nat hc])
  unfold cnk
  rw [List.take_add_one, hs, List.countP_append, Option.toList_some, List.countP_cons, List.countP_nil, e]
  simp
theorem cnk_le (ss : List ByteArray) (p c k : Nat) : cnk ss p c k ≤ ss.length := by
  unfold cnk
  have h1 := List.countP_le_length (p := fun s : ByteArray => s.data.toList[p]? == some (l4 c)) (l := ss.take k)
  have h2 : (ss.take k).length ≤ ss.length := by rw [List.length_take]; omega
  omega
/-- the letter that most have among the first c, and how many -/
def bst (ss : List ByteArray) (p : Nat) : Nat → Nat × Nat
  | 0 => (0, 0)
  | c + 1 => if (bst ss p c).2 < cnt ss p c then (c, cnt ss p c) else bst ss p c
theorem bst_more {ss : List ByteArray} {p c : Nat} (h : (bst ss p c).2 < cnt ss p c) : bst ss p (c + 1) = (c, cnt ss p c) := by rw [bst, if_pos h]
theorem bst_same {ss : List ByteArray} {p c : Nat} (h : ¬ (bst ss p c).2 < cnt ss p c) : bst ss p (c + 1) = bst ss p c := by rw [bst, if_neg h]
theorem bst_le (ss : List ByteArray) (p : Nat) : ∀ c, (bst ss p c).1 ≤ c - 1 ∧ (bst ss p c).2 ≤ ss.length
  | 0 => ⟨Nat.le_refl _, Nat.zero_le _⟩
  | c + 1 => by
    have h := bst_le ss p c
    by_cases h1 : (bst ss p c).2 < cnt ss p c
    · rw [bst_more h1]; exact ⟨by show c ≤ _; omega, cnk_le _ _ _ _⟩
    · rw [bst_same h1]; omega
theorem bst_ge (ss : List ByteArray) (p : Nat) : ∀ c j, j < c → cnt ss p j ≤ (bst ss p c).2
  | 0, j, h => by omega
  | c + 1, j, h => by
    by_cases h1 : (bst ss p c).2 < cnt ss p c
    · rw [bst_more h1]
      show cnt ss p j ≤ cnt ss p c
      by_cases hj : j = c
      · subst hj; exact Nat.le_refl _
      · have := bst_ge ss p c j (by omega); omega
    · rw [bst_same h1]
      by_cases hj : j = c
      · subst hj; omega
      · exact bst_ge ss p c j (by omega)
theorem rd_byte {s : ByteArray} {p : Nat} (h : readB s = true) (hp : p < s.size) : 97 ≤ s[p].toNat ∧ s[p].toNat ≤ 100 :=
  rdg_yes (List.all_eq_true.1 h _ (List.mem_of_getElem? (allp_get hp)))
theorem bst_pos {ss : List ByteArray} {p : Nat} (hv : bval ss = true) (hp : p < plc ss) : 0 < (bst ss p 4).2 := by
  obtain ⟨hin, hall⟩ := bval_in hv
  obtain ⟨h1, _, _, _⟩ := bkIn_parts hin
  obtain ⟨s, hs⟩ : ∃ s, ss[0]? = some s := ⟨ss[0], List.getElem?_eq_getElem (by omega)⟩
  obtain ⟨hz, hr⟩ := hall 0 _ hs
  have hps : p < s.size := by omega
  have hb := rd_byte hr hps
  have hge := bst_ge ss p 4 (s[p].toNat - 97) (by omega)
  have h2 : 1 ≤ cnt ss p (s[p].toNat - 97) := by
    have e := cnk_yes (ss := ss) (k := 0) (c := s[p].toNat - 97) hs hps (by omega) (by omega)
    have hmono : cnk ss p (s[p].toNat - 97) 1 ≤ cnk ss p (s[p].toNat - 97) ss.length := by
      unfold cnk
      exact List.Sublist.countP_le (List.take_sublist_take_left (by omega))
    unfold cnt
    rw [Nat.zero_add] at e
    omega
  omega
/-- the text that has the letters that most have -/
def cml (ss : List ByteArray) (p : Nat) : UInt8 := l4 (bst ss p 4).1
def cmk (ss : List ByteArray) (n : Nat) : List UInt8 := (List.range n).map (cml ss)
def bcom (ss : List ByteArray) : ByteArray := if bval ss = true then ⟨(cmk ss (plc ss)).toArray⟩ else ⟨#[]⟩
theorem bcom_no {ss : List ByteArray} (h : bval ss = false) : bcom ss = ⟨#[]⟩ := by unfold bcom; rw [h]; rfl
theorem bcom_yes {ss : List ByteArray} (h : bval ss = true) : bcom ss = ⟨(cmk ss (plc ss)).toArray⟩ := by unfold bcom; rw [if_pos h]
theorem cmk_len (ss : List ByteArray) (n : Nat) : (cmk ss n).length = n := by simp [cmk]
theorem cmk_next (ss : List ByteArray) (n : Nat) : cmk ss (n + 1) = cmk ss n ++ [cml ss n] := by simp [cmk, List.range_succ]
/-- the program's letter: 0 where none is known -/
def lv7 (x : Nat × Nat) : Int := if x.2 = 0 then 0 else 97 + (x.1 : Int)
theorem lv7_zero : lv7 (0, 0) = 0 := rfl
theorem lv7_pos {x : Nat × Nat} (h : 0 < x.2) : lv7 x = 97 + (x.1 : Int) := by unfold lv7; rw [if_neg (by omega)]
theorem cml_lv {ss : List ByteArray} {p : Nat} (hv : bval ss = true) (hp : p < plc ss) : lv7 (bst ss p 4) = ((cml ss p).toNat : Int) := by
  rw [lv7_pos (bst_pos hv hp)]
  unfold cml
  rw [l4_nat (by have := (bst_le ss p 4).1; omega)]
  simp

/-- the nearest manuscript of the first k to one -/
def near (ss : List ByteArray) (i : Nat) : Nat → Nat
  | 0 => 0
  | k + 1 => if fr (bka ss i) (bka ss k) < fr (bka ss i) (bka ss (near ss i k)) then k else near ss i k
theorem near_more {ss : List ByteArray} {i k : Nat} (h : fr (bka ss i) (bka ss k) < fr (bka ss i) (bka ss (near ss i k))) : near ss i (k + 1) = k := by rw [near, if_pos h]
theorem near_same {ss : List ByteArray} {i k : Nat} (h : ¬ fr (bka ss i) (bka ss k) < fr (bka ss i) (bka ss (near ss i k))) : near ss i (k + 1) = near ss i k := by rw [near, if_neg h]
theorem near_lt (ss : List ByteArray) (i : Nat) : ∀ k, near ss i k ≤ k - 1
  | 0 => Nat.le_refl _
  | k + 1 => by
    have := near_lt ss i k
    by_cases h : fr (bka ss i) (bka ss k) < fr (bka ss i) (bka ss (near ss i k))
    · rw [near_more h]; omega
    · rw [near_same h]; omega
/-- the best stem, of the first manuscripts -/
def sbk (ss : List ByteArray) : Nat → List Int
  | 0 => [-1]
  | i + 1 => sbk ss i ++ [(near ss (i + 1) (i + 1) : Int)]
theorem sbk_len (ss : List ByteArray) : ∀ i, (sbk ss i).length = i + 1
  | 0 => rfl
  | i + 1 => by rw [sbk, List.length_append, sbk_len ss i]; rfl
def sbst (ss : List ByteArray) : List Int := if bval ss = true then sbk ss (ss.length - 1) else []
theorem sbst_no {ss : List ByteArray} (h : bval ss = false) : sbst ss = [] := by unfold sbst; rw [h]; rfl
theorem sbst_yes {ss : List ByteArray} (h : bval ss = true) : sbst ss = sbk ss (ss.length - 1) := by unfold sbst; rw [if_pos h]
theorem sbst_len (ss : List ByteArray) : (sbst ss).length ≤ ss.length + 1 := by
  by_cases h : bval ss = true
  · rw [sbst_yes h, sbk_len]; omega
  · rw [Bool.not_eq_true] at h
    rw [sbst_no h]; simp
end Go.Proofs.YthhndlefafcdeaaDoor
