/-
  The readings of differences, kept together: how many there are, the fewest formulas, the least weight and its reading, what is used.
-/
import Derived.Test.YtjhigjbfnemdjaaFm
import Derived.Test.YtjhigjbfnemdjaaIe
namespace Go.Proofs.Ytjhigjbfnemdjaa
set_option maxRecDepth 100000
set_option linter.unusedVariables false

structure Rs where
  many : Nat
  few : Int
  wt : Int
  best : List Int
  used : Nat → Bool
def Rs.zero : Rs := ⟨0, 0, 0, [], fun _ => false⟩
def Rs.one : Rs := ⟨1, 0, 0, [], fun _ => false⟩
/-- with a formula in front -/
def behR (k : Nat) (z : Int) (r : Rs) : Rs := ⟨r.many, r.few + 1, r.wt + z, (k : Int) :: r.best, fun j => decide (j = k) || r.used j⟩
def lessR (r : Rs) (a b : Int) : Bool := decide (r.many = 0) || decide (a < b)
def addR (r f : Rs) : Rs :=
  ⟨r.many + f.many, bif lessR r f.few r.few then f.few else r.few, bif lessR r f.wt r.wt then f.wt else r.wt, bif lessR r f.wt r.wt then f.best else r.best, fun j => r.used j || f.used j⟩
def addK (k : Nat) (z : Int) (acc r : Rs) : Rs := bif decide (0 < r.many) then addR acc (behR k z r) else acc
/-- does a formula stand at a place? -/
def mt (s : List Int) (p : Nat) (xs : List Int) : Bool := decide (p + xs.length ≤ s.length) && ieq ((s.drop p).take xs.length) xs

def R (fs : List Fm) (s : List Int) (p : Nat) : Rs :=
  if hp : p < s.length then
    (List.range fs.length).foldl (fun acc k =>
      match fs[k]? with
      | some f => if h : 0 < f.1.length ∧ mt s p f.1 = true then addK k f.2 acc (R fs s (p + f.1.length)) else acc
      | none => acc) Rs.zero
  else Rs.one
termination_by s.length - p
decreasing_by
  have := h.1
  omega
/-- one formula more -/
def stR (fs : List Fm) (s : List Int) (p : Nat) (acc : Rs) (k : Nat) : Rs :=
  match fs[k]? with
  | some f => if 0 < f.1.length ∧ mt s p f.1 = true then addK k f.2 acc (R fs s (p + f.1.length)) else acc
  | none => acc
def Rk (fs : List Fm) (s : List Int) (p k : Nat) : Rs := (List.range k).foldl (stR fs s p) Rs.zero
theorem R_lt {fs : List Fm} {s : List Int} {p : Nat} (h : p < s.length) : R fs s p = Rk fs s p fs.length := by
  rw [R, dif_pos h]
  rfl
theorem R_ge {fs : List Fm} {s : List Int} {p : Nat} (h : ¬ p < s.length) : R fs s p = Rs.one := by rw [R, dif_neg h]
theorem Rk_zero (fs : List Fm) (s : List Int) (p : Nat) : Rk fs s p 0 = Rs.zero := rfl
theorem Rk_succ (fs : List Fm) (s : List Int) (p k : Nat) : Rk fs s p (k + 1) = stR fs s p (Rk fs s p k) k := by
  unfold Rk
  rw [List.range_succ, List.foldl_append]
  rfl
theorem stR_no {fs : List Fm} {s : List Int} {p k : Nat} {f : Fm} (acc : Rs) (hf : fs[k]? = some f) (h : mt s p f.1 = false) : stR fs s p acc k = acc := by
  unfold stR
  rw [hf]
  simp [h]
theorem stR_yes {fs : List Fm} {s : List Int} {p k : Nat} {f : Fm} (acc : Rs) (hf : fs[k]? = some f) (h0 : 0 < f.1.length) (h : mt s p f.1 = true) : stR fs s p acc k = addK k f.2 acc (R fs s (p + f.1.length)) := by
  unfold stR
  rw [hf]
  simp only
  rw [if_pos ⟨h0, h⟩]
theorem addK_no {k : Nat} {z : Int} {acc r : Rs} (h : r.many = 0) : addK k z acc r = acc := by unfold addK; rw [h]; rfl
theorem addK_yes {k : Nat} {z : Int} {acc r : Rs} (h : 0 < r.many) : addK k z acc r = addR acc (behR k z r) := by unfold addK; rw [decide_eq_true h]; rfl
theorem mt_le {s : List Int} {p : Nat} {xs : List Int} (h : mt s p xs = true) : p + xs.length ≤ s.length := by
  unfold mt at h
  rw [Bool.and_eq_true] at h
  simpa using h.1
theorem mt_eq {s : List Int} {p : Nat} {xs : List Int} (h : mt s p xs = true) : (s.drop p).take xs.length = xs := by
  unfold mt at h
  rw [Bool.and_eq_true] at h
  have := h.2
  unfold ieq at this
  simpa using this

/-- the fewest and the least lie within bounds -/
structure Rs.Ok (r : Rs) (d : Nat) (n : Nat) : Prop where
  few0 : 0 ≤ r.few
  few1 : r.few ≤ d
  wt0 : 0 ≤ r.wt
  wt1 : r.wt ≤ 9 * d
  blen : r.best.length ≤ d
  bin : ∀ b ∈ r.best, 0 ≤ b ∧ b < n
theorem Rs.Ok.zero (d n : Nat) : Rs.zero.Ok d n := ⟨by simp [Rs.zero], by simp [Rs.zero], by simp [Rs.zero], by simp [Rs.zero]; omega, by simp [Rs.zero], by simp [Rs.zero]⟩
theorem Rs.Ok.one (d n : Nat) : Rs.one.Ok d n := ⟨by simp [Rs.one], by simp [Rs.one], by simp [Rs.one], by simp [Rs.one]; omega, by simp [Rs.one], by simp [Rs.one]⟩
theorem Rs.Ok.beh {r : Rs} {d n k d' : Nat} {z : Int} (h : r.Ok d n) (hk : k < n) (hz : 1 ≤ z ∧ z ≤ 9) (hd : d < d') : (behR k z r).Ok d' n := by
  obtain ⟨h1, h2, h3, h4, h5, h6⟩ := h
  refine ⟨by simp [behR]; omega, by simp [behR]; omega, by simp [behR]; omega, by simp [behR]; omega, by simp [behR]; omega, ?_⟩
  intro b hb
  simp [behR] at hb
  rcases hb with rfl | hb
  · omega
  · exact h6 b hb
theorem Rs.Ok.add {r f : Rs} {d n : Nat} (h : r.Ok d n) (k : f.Ok d n) : (addR r f).Ok d n := by
  refine ⟨?_, ?_, ?_, ?_, ?_, ?_⟩ <;> simp only [addR]
  · cases lessR r f.few r.few <;> simp [h.few0, k.few0]
  · cases lessR r f.few r.few <;> simp [h.few1, k.few1]
  · cases lessR r f.wt r.wt <;> simp [h.wt0, k.wt0]
  · cases lessR r f.wt r.wt <;> simp [h.wt1, k.wt1]
  · cases lessR r f.wt r.wt <;> simp [h.blen, k.blen]
  · cases lessR r f.wt r.wt
    · simpa using h.bin
    · simpa using k.bin
theorem Rk_ok {fs : List Fm} {s : List Int} {p : Nat} (hv : fv fs = true) (hp : p < s.length) (ih : ∀ q, p < q → q ≤ s.length → (R fs s q).Ok (s.length - q) fs.length) : ∀ k, k ≤ fs.length → (Rk fs s p k).Ok (s.length - p) fs.length := by
  intro k
  induction k with
  | zero => intro _; exact Rs.Ok.zero _ _
  | succ k ihk =>
    intro hk
    rw [Rk_succ]
    have hf : fs[k]? = some fs[k] := List.getElem?_eq_getElem (by omega)
    have hfo := fv_fo hv hf
    cases hm : mt s p fs[k].1 with
    | false => rw [stR_no _ hf hm]; exact ihk (by omega)
    | true =>
      have hle := mt_le hm
      have hl := (fo_len hfo).1
      rw [stR_yes _ hf hl hm]
      by_cases h0 : 0 < (R fs s (p + fs[k].1.length)).many
      · rw [addK_yes h0]
        exact (ihk (by omega)).add ((ih _ (by omega) hle).beh (by omega) (fo_wt hfo) (by omega))
      · rw [addK_no (by omega)]; exact ihk (by omega)
theorem R_ok {fs : List Fm} {s : List Int} (hv : fv fs = true) : ∀ d p, s.length - p = d → p ≤ s.length → (R fs s p).Ok (s.length - p) fs.length := by
  intro d
  induction d using Nat.strongRecOn with
  | ind d ih =>
    intro p hd hp
    by_cases h : p < s.length
    · rw [R_lt h]
      exact Rk_ok hv h (fun q h1 h2 => ih (s.length - q) (by omega) q rfl h2) _ (Nat.le_refl _)
    · rw [R_ge h]; exact Rs.Ok.one _ _

/-- formulas that stand at one place have not one length -/
theorem mt_apart {fs : List Fm} {s : List Int} {p i j : Nat} {f g : Fm} (hv : fv fs = true) (hf : fs[i]? = some f) (hg : fs[j]? = some g) (hij : i < j) (h1 : mt s p f.1 = true) (h2 : mt s p g.1 = true) : f.1.length ≠ g.1.length := by
  intro e
  have e1 := mt_eq h1
  have e2 := mt_eq h2
  rw [e, e2] at e1
  have hd : dup fs j g.1 = true := dup_hit0 hf hij e1
  rw [fv_bad_dup hg hd] at hv
  cases hv
where
  dup_hit0 {fs : List Fm} {i j : Nat} {f g : Fm} (hf : fs[i]? = some f) (hij : i < j) (e : g.1 = f.1) : dup fs j g.1 = true :=
    dup_yes hf hij (by rw [e]; simp)

/-- does a formula of length l, the k-th at most, stand at the place? -/
def hasL (fs : List Fm) (s : List Int) (p l : Nat) : Nat → Bool
  | 0 => false
  | k + 1 => hasL fs s p l k || (match fs[k]? with | some f => decide (f.1.length = l) && mt s p f.1 | none => false)
theorem has_not {fs : List Fm} {s : List Int} {p : Nat} (hv : fv fs = true) {j : Nat} {g : Fm} (hg : fs[j]? = some g) (h2 : mt s p g.1 = true) : ∀ k, k ≤ j → hasL fs s p g.1.length k = false := by
  intro k
  induction k with
  | zero => intro _; rfl
  | succ k ih =>
    intro hk
    have hj := (List.getElem?_eq_some_iff.1 hg).1
    have hf : fs[k]? = some fs[k] := List.getElem?_eq_getElem (by omega)
    show (hasL fs s p g.1.length k || (match fs[k]? with | some f => decide (f.1.length = g.1.length) && mt s p f.1 | none => false)) = false
    rw [ih (by omega), hf]
    cases hm : mt s p fs[k].1 with
    | false => simp [hm]
    | true => simp [mt_apart hv hf hg (by omega) hm h2]
def oneB (b : Bool) (n : Nat) : Nat := bif b then n else 0
theorem one_le (b : Bool) (n : Nat) : oneB b n ≤ n := by cases b <;> simp [oneB]
/-- the readings counted by the lengths of their first formulas -/
def byl (fs : List Fm) (s : List Int) (p k : Nat) : Nat :=
  oneB (hasL fs s p 1 k) (R fs s (p + 1)).many + oneB (hasL fs s p 2 k) (R fs s (p + 2)).many + oneB (hasL fs s p 3 k) (R fs s (p + 3)).many + oneB (hasL fs s p 4 k) (R fs s (p + 4)).many + oneB (hasL fs s p 5 k) (R fs s (p + 5)).many
theorem Rk_many {fs : List Fm} {s : List Int} {p : Nat} (hv : fv fs = true) : ∀ k, k ≤ fs.length → (Rk fs s p k).many = byl fs s p k := by
  intro k
  induction k with
  | zero => intro _; rfl
  | succ k ih =>
    intro hk
    have hf : fs[k]? = some fs[k] := List.getElem?_eq_getElem (by omega)
    have hfo := fv_fo hv hf
    have hs : ∀ l, hasL fs s p l (k + 1) = (hasL fs s p l k || (decide (fs[k].1.length = l) && mt s p fs[k].1)) := fun l => by
      show (hasL fs s p l k || (match fs[k]? with | some f => decide (f.1.length = l) && mt s p f.1 | none => false)) = _
      rw [hf]
    rw [Rk_succ]
    unfold byl
    rw [hs, hs, hs, hs, hs]
    cases hm : mt s p fs[k].1 with
    | false =>
      rw [stR_no _ hf hm, ih (by omega)]
      simp [byl]
    | true =>
      have hl := fo_len hfo
      rw [stR_yes _ hf hl.1 hm]
      have e : (addK k fs[k].2 (Rk fs s p k) (R fs s (p + fs[k].1.length))).many = (Rk fs s p k).many + (R fs s (p + fs[k].1.length)).many := by
        by_cases h0 : 0 < (R fs s (p + fs[k].1.length)).many
        · rw [addK_yes h0]; rfl
        · rw [addK_no (by omega)]; omega
      rw [e, ih (by omega)]
      have hn := has_not hv hf hm k (Nat.le_refl _)
      unfold byl
      generalize fs[k].1.length = l at hl hn
      have hl5 : l = 1 ∨ l = 2 ∨ l = 3 ∨ l = 4 ∨ l = 5 := by omega
      rcases hl5 with rfl | rfl | rfl | rfl | rfl <;> simp [hn, oneB] <;> omega
theorem has_le {fs : List Fm} {s : List Int} {p l : Nat} : ∀ k, hasL fs s p l k = true → p + l ≤ s.length := by
  intro k
  induction k with
  | zero => intro h; cases h
  | succ k ih =>
    intro h
    have h' : (hasL fs s p l k || (match fs[k]? with | some f => decide (f.1.length = l) && mt s p f.1 | none => false)) = true := h
    rw [Bool.or_eq_true] at h'
    rcases h' with h' | h'
    · exact ih h'
    · cases hf : fs[k]? with
      | none => rw [hf] at h'; cases h'
      | some f =>
        rw [hf] at h'
        simp at h'
        rw [← h'.1]
        exact mt_le h'.2
theorem one_pow {b : Bool} {n m d l : Nat} (hb : b = true → l ≤ d) (hn : b = true → n ≤ 2 ^ (d - l)) (hl : d < l → m = 0) (hm : l ≤ d → m = 2 ^ (d - l)) : oneB b n ≤ m := by
  cases b with
  | false => simp [oneB]
  | true => rw [hm (hb rfl)]; exact hn rfl
theorem pow_sum (d : Nat) (hd : 0 < d) : (if 1 ≤ d then 2 ^ (d - 1) else 0) + (if 2 ≤ d then 2 ^ (d - 2) else 0) + (if 3 ≤ d then 2 ^ (d - 3) else 0) + (if 4 ≤ d then 2 ^ (d - 4) else 0) + (if 5 ≤ d then 2 ^ (d - 5) else 0) ≤ 2 ^ d := by
  by_cases h5 : 5 ≤ d
  · obtain ⟨x, rfl⟩ : ∃ x, d = x + 5 := ⟨d - 5, by omega⟩
    have e1 : x + 5 - 1 = x + 4 := by omega
    have e2 : x + 5 - 2 = x + 3 := by omega
    have e3 : x + 5 - 3 = x + 2 := by omega
    have e4 : x + 5 - 4 = x + 1 := by omega
    have e5 : x + 5 - 5 = x := by omega
    rw [if_pos (by omega), if_pos (by omega), if_pos (by omega), if_pos (by omega), if_pos (by omega), e1, e2, e3, e4, e5]
    simp only [Nat.pow_succ]
    omega
  · have : d = 1 ∨ d = 2 ∨ d = 3 ∨ d = 4 := by omega
    rcases this with rfl | rfl | rfl | rfl <;> decide
theorem R_many {fs : List Fm} {s : List Int} (hv : fv fs = true) : ∀ d p, s.length - p = d → p ≤ s.length → (R fs s p).many ≤ 2 ^ (s.length - p) := by
  intro d
  induction d using Nat.strongRecOn with
  | ind d ih =>
    intro p hd hp
    by_cases h : p < s.length
    · rw [R_lt h, Rk_many hv _ (Nat.le_refl _)]
      have key : ∀ l, 1 ≤ l → oneB (hasL fs s p l fs.length) (R fs s (p + l)).many ≤ (if l ≤ d then 2 ^ (d - l) else 0) := by
        intro l hl
        cases hh : hasL fs s p l fs.length with
        | false => simp [oneB]
        | true =>
          have h1 := has_le _ hh
          rw [if_pos (by omega)]
          have := ih (s.length - (p + l)) (by omega) (p + l) rfl h1
          rw [show s.length - (p + l) = d - l by omega] at this
          simpa [oneB] using this
      have k1 := key 1 (by omega); have k2 := key 2 (by omega); have k3 := key 3 (by omega); have k4 := key 4 (by omega); have k5 := key 5 (by omega)
      have hs := pow_sum d (by omega)
      unfold byl
      rw [hd]
      omega
    · rw [R_ge h]
      simp [Rs.one]
      exact Nat.one_le_two_pow
theorem byl_mono {fs : List Fm} {s : List Int} {p k : Nat} (hk : k ≤ fs.length) (hv : fv fs = true) (hp : p < s.length) : (Rk fs s p k).many ≤ (R fs s p).many := by
  rw [R_lt hp]
  have step : ∀ m, (Rk fs s p m).many ≤ (Rk fs s p (m + 1)).many := by
    intro m
    rw [Rk_succ]
    unfold stR
    cases hf : fs[m]? with
    | none => simp
    | some f =>
      simp only
      split
      · unfold addK
        cases decide (0 < (R fs s (p + f.1.length)).many) <;> simp [addR]
      · simp
  have up : ∀ d, (Rk fs s p k).many ≤ (Rk fs s p (k + d)).many := by
    intro d
    induction d with
    | zero => simp
    | succ d ih => exact Nat.le_trans ih (step (k + d))
  have := up (fs.length - k)
  rwa [show k + (fs.length - k) = fs.length by omega] at this
end Go.Proofs.Ytjhigjbfnemdjaa
