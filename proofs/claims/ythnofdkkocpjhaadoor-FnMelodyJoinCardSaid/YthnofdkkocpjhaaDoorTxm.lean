/-
  Plain mathematics of the texts of tones: no program stands in it.
-/
import Derived.Test.YthnofdkkocpjhaaDoorMath
import Derived.Lib.Bytealg
namespace Go.Proofs.YthnofdkkocpjhaaDoor

/-- the first byte of a tone's text -/
def tb0 (s : Int) (b : Bool) : UInt8 := if b then 98 else ([71, 65, 66, 67, 68, 69, 70] : List UInt8).getD (s % 7).toNat 0
/-- the digit of the octave -/
def tb1 (s : Int) : UInt8 := ([48, 49, 50] : List UInt8).getD (s / 7).toNat 0
/-- the text of a tone, none if it is none -/
def ttx (s : Int) (b : Bool) : ByteArray := if vd s b then ⟨#[tb0 s b, tb1 s]⟩ else ⟨#[]⟩
theorem ttx_no {s : Int} {b : Bool} (h : vd s b = false) : ttx s b = ⟨#[]⟩ := by simp [ttx, h]
theorem ttx_yes {s : Int} {b : Bool} (h : vd s b = true) : ttx s b = ⟨#[tb0 s b, tb1 s]⟩ := by simp [ttx, h]

/-- the tones of one step -/
def stepT (k : Nat) : List (Int × Bool) := if k % 7 = 2 then [((k : Int), true), ((k : Int), false)] else [((k : Int), false)]
/-- the tones below a step -/
def allTo : Nat → List (Int × Bool)
  | 0 => []
  | k + 1 => allTo k ++ stepT k
def allT : List (Int × Bool) := allTo 21
theorem allTo_len (k : Nat) : (allTo k).length ≤ 2 * k := by
  induction k with
  | zero => simp [allTo]
  | succ k ih => simp [allTo, stepT]; split <;> simp <;> omega

theorem steps21 {s : Int} (h0 : 0 ≤ s) (h1 : s ≤ 20) : s = 0 ∨ s = 1 ∨ s = 2 ∨ s = 3 ∨ s = 4 ∨ s = 5 ∨ s = 6 ∨ s = 7 ∨ s = 8 ∨ s = 9 ∨ s = 10 ∨ s = 11 ∨ s = 12 ∨ s = 13 ∨ s = 14 ∨ s = 15 ∨ s = 16 ∨ s = 17 ∨ s = 18 ∨ s = 19 ∨ s = 20 := by omega
theorem allT_vd : ∀ t ∈ allT, vd t.1 t.2 = true := by decide
theorem vd_allT {s : Int} {b : Bool} (h : vd s b = true) : (s, b) ∈ allT := by
  obtain ⟨h0, h1⟩ := vd_in h
  rcases steps21 h0 h1 with rfl | rfl | rfl | rfl | rfl | rfl | rfl | rfl | rfl | rfl | rfl | rfl | rfl | rfl | rfl | rfl | rfl | rfl | rfl | rfl | rfl <;> cases b <;> first | decide | (revert h; decide)

/-- the text of the tone at a place of the list -/
def txAt (k : Nat) : ByteArray := ttx (allT.getD k (0, false)).1 (allT.getD k (0, false)).2
/-- what a text tells: a tone, or none -/
def tfr (l : ByteArray) : Int × Bool × Bool :=
  match allT.find? (fun t => (ttx t.1 t.2).data.toList == l.data.toList) with
  | some t => (t.1, t.2, true)
  | none => (0, false, false)

theorem tfr_hit {l : ByteArray} {k : Nat} {s : Int} {b : Bool} (h : allT[k]? = some (s, b)) (he : (ttx s b).data.toList = l.data.toList) (hno : ∀ j t, j < k → allT[j]? = some t → (ttx t.1 t.2).data.toList ≠ l.data.toList) : tfr l = (s, b, true) := by
  have : allT.find? (fun t => (ttx t.1 t.2).data.toList == l.data.toList) = some (s, b) := by
    rw [List.find?_eq_some_iff_getElem]
    obtain ⟨hk, hv⟩ := List.getElem?_eq_some_iff.1 h
    refine ⟨by simpa using he, k, hk, hv, fun j hj => ?_⟩
    simpa using hno j _ hj (List.getElem?_eq_getElem (by omega))
  unfold tfr; rw [this]
theorem tfr_miss {l : ByteArray} (hno : ∀ t ∈ allT, (ttx t.1 t.2).data.toList ≠ l.data.toList) : tfr l = (0, false, false) := by
  have : allT.find? (fun t => (ttx t.1 t.2).data.toList == l.data.toList) = none := by
    rw [List.find?_eq_none]
    intro t ht
    simpa using hno t ht
  unfold tfr; rw [this]
theorem tfr_valid {s : Int} {b : Bool} (h : vd s b = true) : tfr (ttx s b) = (s, b, true) := by
  obtain ⟨h0, h1⟩ := vd_in h
  rcases steps21 h0 h1 with rfl | rfl | rfl | rfl | rfl | rfl | rfl | rfl | rfl | rfl | rfl | rfl | rfl | rfl | rfl | rfl | rfl | rfl | rfl | rfl | rfl <;> cases b <;> first | decide +kernel | (revert h; decide)

/-- the bytes of a text that is a tone's: what the program reckons of them -/
def pl (c0 : UInt8) : Int := Lib.indexByte [71, 65, 66, 67, 68, 69, 70] (if c0 == 98 then 66 else c0)
def st (c0 c1 : UInt8) : Int := ((c1.toNat : Int) - 48) * 7 + pl c0
theorem all_bytes : ∀ t ∈ allT, pl (tb0 t.1 t.2) = t.1 % 7 ∧ 0 ≤ pl (tb0 t.1 t.2) ∧ st (tb0 t.1 t.2) (tb1 t.1) = t.1 ∧ ((tb0 t.1 t.2) == 98) = t.2 := by decide +kernel
theorem pl_cases (c0 : UInt8) : pl c0 = -1 ∨ (0 ≤ pl c0 ∧ pl c0 ≤ 6 ∧ (c0 == 98) = false ∧ c0 = ([71, 65, 66, 67, 68, 69, 70] : List UInt8).getD (pl c0).toNat 0) ∨ (pl c0 = 2 ∧ (c0 == 98) = true) := by
  by_cases h : (c0 == 98) = true
  · right; right; simp [pl, h]; decide
  · rw [Bool.not_eq_true] at h
    by_cases h0 : c0 = 71
    · subst h0; right; left; decide
    by_cases h1 : c0 = 65
    · subst h1; right; left; decide
    by_cases h2 : c0 = 66
    · subst h2; right; left; decide
    by_cases h3 : c0 = 67
    · subst h3; right; left; decide
    by_cases h4 : c0 = 68
    · subst h4; right; left; decide
    by_cases h5 : c0 = 69
    · subst h5; right; left; decide
    by_cases h6 : c0 = 70
    · subst h6; right; left; decide
    left
    have e : ∀ c : UInt8, c0 ≠ c → (c == c0) = false := fun c hc => by simpa using Ne.symm hc
    simp [pl, h, Lib.indexByte, e _ h0, e _ h1, e _ h2, e _ h3, e _ h4, e _ h5, e _ h6]

theorem tfr_two_no {l : ByteArray} {c0 c1 : UInt8} (hl : l.data.toList = [c0, c1]) (h : pl c0 < 0 ∨ vd (st c0 c1) (c0 == 98) = false) : tfr l = (0, false, false) := by
  refine tfr_miss fun t ht he => ?_
  rw [ttx_yes (allT_vd t ht), hl] at he
  simp at he
  obtain ⟨a0, a1, a2, a3⟩ := all_bytes t ht
  rw [he.1] at a0 a1 a3
  rw [he.1, he.2] at a2
  rcases h with h | h
  · omega
  · rw [a2, a3, allT_vd t ht] at h
    cases h
theorem tfr_two_yes {l : ByteArray} {c0 c1 : UInt8} (hl : l.data.toList = [c0, c1]) (h : 0 ≤ pl c0) (hv : vd (st c0 c1) (c0 == 98) = true) : tfr l = (st c0 c1, (c0 == 98), true) := by
  have hb := vd_in hv
  have hp : pl c0 ≤ 6 := by rcases pl_cases c0 with h | h | h <;> omega
  have hm : (st c0 c1) % 7 = pl c0 := by unfold st at hb ⊢; omega
  have hd : (st c0 c1) / 7 = (c1.toNat : Int) - 48 := by unfold st at hb ⊢; omega
  have h0 : tb0 (st c0 c1) (c0 == 98) = c0 := by
    unfold tb0
    rcases pl_cases c0 with g | ⟨_, _, g, g'⟩ | ⟨_, g⟩
    · omega
    · rw [g, hm, if_neg (by simp)]; exact g'.symm
    · rw [g, if_pos rfl]; simp at g; exact g.symm
  have h1 : tb1 (st c0 c1) = c1 := by
    unfold tb1
    rw [hd]
    have : c1.toNat = 48 ∨ c1.toNat = 49 ∨ c1.toNat = 50 := by unfold st at hb; omega
    rcases this with g | g | g <;> rw [g] <;> (apply UInt8.toNat_inj.1; rw [g]; rfl)
  have e := tfr_valid hv
  rw [ttx_yes hv, h0, h1] at e
  have : l = ⟨#[c0, c1]⟩ := by
    cases l with | mk d => cases d with | mk l => simp at hl; subst hl; rfl
  rw [this]; exact e
theorem tfr_len {l : ByteArray} (hl : l.size ≠ 2) : tfr l = (0, false, false) := by
  refine tfr_miss fun t ht he => ?_
  rw [ttx_yes (allT_vd t ht)] at he
  have := congrArg List.length he
  simp at this
  exact hl this.symm
end Go.Proofs.YthnofdkkocpjhaaDoor
