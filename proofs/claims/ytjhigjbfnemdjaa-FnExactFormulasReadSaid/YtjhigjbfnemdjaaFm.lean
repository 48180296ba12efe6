/-
  What formulas are: plain functions over lists, their prefixes and what loops over them need.
-/
import Derived.Test.YtjhigjbfnemdjaaFl
namespace Go.Proofs.Ytjhigjbfnemdjaa
set_option maxRecDepth 100000
set_option linter.unusedVariables false

/-- no difference goes further -/
def reaches (reach : Int) (xs : List Int) : Bool := xs.all fun d => decide (-reach ≤ d) && decide (d ≤ reach)
def stq (most : Int) (reach : Int) (xs : List Int) : Bool := reaches reach xs && decide ((xs.length : Int) ≤ most)
/-- a formula is one -/
def fo (f : Fm) : Bool := decide (0 < f.1.length) && stq 5 7 f.1 && decide (1 ≤ f.2) && decide (f.2 ≤ 9)
/-- another one ahead has the same differences -/
def dup (fs : List Fm) (k : Nat) (xs : List Int) : Bool := (fs.take k).any fun g => g.1 == xs
def fvTo (fs : List Fm) : Nat → Bool
  | 0 => true
  | k + 1 => fvTo fs k && (match fs[k]? with | some f => fo f && !dup fs k f.1 | none => true)
/-- a list are formulas -/
def fv (fs : List Fm) : Bool := decide (fs.length ≤ 8) && fvTo fs fs.length

theorem fvTo_succ {fs : List Fm} {k : Nat} {f : Fm} (h : fs[k]? = some f) : fvTo fs (k + 1) = (fvTo fs k && (fo f && !dup fs k f.1)) := by
  show (fvTo fs k && (match fs[k]? with | some f => fo f && !dup fs k f.1 | none => true)) = _
  rw [h]
theorem fvTo_mono {fs : List Fm} {k n : Nat} (hkn : k ≤ n) (h : fvTo fs n = true) : fvTo fs k = true := by
  induction n with
  | zero => have : k = 0 := by omega
            subst this; rfl
  | succ n ih =>
    by_cases e : k = n + 1
    · subst e; exact h
    · apply ih (by omega)
      show fvTo fs n = true
      have h' : (fvTo fs n && (match fs[n]? with | some f => fo f && !dup fs n f.1 | none => true)) = true := h
      rw [Bool.and_eq_true] at h'
      exact h'.1
theorem fv_bad {fs : List Fm} {k : Nat} (hk : k ≤ fs.length) (h : fvTo fs k = false) : fv fs = false := by
  unfold fv
  cases h2 : fvTo fs fs.length with
  | false => simp
  | true => rw [fvTo_mono hk h2] at h; cases h
theorem fv_bad_fo {fs : List Fm} {k : Nat} {f : Fm} (hf : fs[k]? = some f) (h : fo f = false) : fv fs = false := by
  have hk : k < fs.length := (List.getElem?_eq_some_iff.1 hf).1
  exact fv_bad (k := k + 1) hk (by rw [fvTo_succ hf, h]; simp)
theorem fv_bad_dup {fs : List Fm} {k : Nat} {f : Fm} (hf : fs[k]? = some f) (h : dup fs k f.1 = true) : fv fs = false := by
  have hk : k < fs.length := (List.getElem?_eq_some_iff.1 hf).1
  exact fv_bad (k := k + 1) hk (by rw [fvTo_succ hf, h]; simp)
theorem fvTo_next {fs : List Fm} {k : Nat} {f : Fm} (h0 : fvTo fs k = true) (hf : fs[k]? = some f) (h : fo f = true) (hd : dup fs k f.1 = false) : fvTo fs (k + 1) = true := by
  rw [fvTo_succ hf, h0, h, hd]; rfl
theorem fv_long {fs : List Fm} (h : 8 < fs.length) : fv fs = false := by unfold fv; simp; omega
theorem fv_end {fs : List Fm} (h : fvTo fs fs.length = true) : fv fs = decide (fs.length ≤ 8) := by unfold fv; rw [h, Bool.and_true]
theorem fv_len {fs : List Fm} (h : fv fs = true) : fs.length ≤ 8 := by unfold fv at h; simp at h; exact h.1
theorem fv_fo {fs : List Fm} {k : Nat} {f : Fm} (h : fv fs = true) (hf : fs[k]? = some f) : fo f = true := by
  cases e : fo f with
  | true => rfl
  | false => rw [fv_bad_fo hf e] at h; cases h
theorem dup_succ {fs : List Fm} {k : Nat} {g : Fm} {xs : List Int} (hg : fs[k]? = some g) : dup fs (k + 1) xs = (dup fs k xs || (g.1 == xs)) := by
  unfold dup
  rw [List.take_add_one, hg, List.any_append]
  simp
theorem dup_yes {fs : List Fm} {k n : Nat} {g : Fm} {xs : List Int} (hg : fs[k]? = some g) (hk : k < n) (e : (g.1 == xs) = true) : dup fs n xs = true := by
  unfold dup
  rw [List.any_eq_true]
  refine ⟨g, List.mem_of_getElem? (i := k) (by rw [List.getElem?_take_of_lt hk]; exact hg), e⟩
theorem reaches_take {r : Int} {xs : List Int} {k : Nat} (h : reaches r (xs.take k) = true) (hk : k < xs.length) (h1 : -r ≤ xs.getD k 0) (h2 : xs.getD k 0 ≤ r) : reaches r (xs.take (k + 1)) = true := by
  unfold reaches at h ⊢
  rw [List.take_add_one, List.getElem?_eq_getElem hk, List.all_append, h]
  rw [List.getD_eq_getElem?_getD, List.getElem?_eq_getElem hk] at h1 h2
  simp at h1 h2 ⊢
  exact ⟨h1, h2⟩
theorem reaches_bad {r : Int} {xs : List Int} {k : Nat} (hk : k < xs.length) (h : ¬(-r ≤ xs.getD k 0 ∧ xs.getD k 0 ≤ r)) : reaches r xs = false := by
  unfold reaches
  rw [List.all_eq_false]
  refine ⟨xs[k], List.getElem_mem hk, ?_⟩
  rw [List.getD_eq_getElem?_getD, List.getElem?_eq_getElem hk] at h
  simpa using h
theorem reaches_get {r : Int} {xs : List Int} {k : Nat} (h : reaches r xs = true) (hk : k < xs.length) : -r ≤ xs.getD k 0 ∧ xs.getD k 0 ≤ r := by
  refine Decidable.byContradiction fun hn => ?_
  rw [reaches_bad hk hn] at h
  cases h
theorem fo_parts {f : Fm} (h : fo f = true) : 0 < f.1.length ∧ reaches 7 f.1 = true ∧ f.1.length ≤ 5 ∧ 1 ≤ f.2 ∧ f.2 ≤ 9 := by
  unfold fo stq at h
  simp only [Bool.and_eq_true, decide_eq_true_eq] at h
  obtain ⟨⟨⟨h1, h2, h3⟩, h4⟩, h5⟩ := h
  exact ⟨h1, h2, by omega, h4, h5⟩
theorem fo_wt {f : Fm} (h : fo f = true) : 1 ≤ f.2 ∧ f.2 ≤ 9 := (fo_parts h).2.2.2
theorem fo_len {f : Fm} (h : fo f = true) : 0 < f.1.length ∧ f.1.length ≤ 5 := ⟨(fo_parts h).1, (fo_parts h).2.2.1⟩
theorem fo_reach {f : Fm} (h : fo f = true) : reaches 7 f.1 = true := (fo_parts h).2.1

/-- indexes of formulas -/
def idx (n : Nat) (r : Int) : Bool := decide (0 ≤ r) && decide (r < (n : Int))
def rok (n : Nat) (rd : List Int) : Bool := rd.all (idx n)
/-- the formulas of a reading -/
def chs (fs : List Fm) (rd : List Int) : List Fm := rd.map fun r => fs.getD r.toNat ([], 0)
theorem rok_bad {n : Nat} {rd : List Int} {k : Nat} (hk : k < rd.length) (h : idx n (rd.getD k 0) = false) : rok n rd = false := by
  unfold rok
  rw [List.all_eq_false]
  refine ⟨rd[k], List.getElem_mem hk, ?_⟩
  rw [List.getD_eq_getElem?_getD, List.getElem?_eq_getElem hk] at h
  simpa using h
theorem rok_take {n : Nat} {rd : List Int} {k : Nat} (hk : k < rd.length) (h0 : rok n (rd.take k) = true) (h : idx n (rd.getD k 0) = true) : rok n (rd.take (k + 1)) = true := by
  unfold rok at h0 ⊢
  rw [List.take_add_one, List.getElem?_eq_getElem hk, List.all_append, h0]
  rw [List.getD_eq_getElem?_getD, List.getElem?_eq_getElem hk] at h
  simpa using h
theorem chs_take {fs : List Fm} {rd : List Int} {k : Nat} (hk : k < rd.length) {j : Nat} {f : Fm} (hj : rd.getD k 0 = (j : Int)) (hf : fs[j]? = some f) : chs fs (rd.take (k + 1)) = chs fs (rd.take k) ++ [f] := by
  unfold chs
  rw [List.take_add_one, List.getElem?_eq_getElem hk, List.map_append]
  rw [List.getD_eq_getElem?_getD, List.getElem?_eq_getElem hk] at hj
  simp at hj
  simp [hj, List.getD_eq_getElem?_getD, hf]
theorem idx_yes {n : Nat} {r : Int} (h : idx n r = true) : ∃ j : Nat, r = (j : Int) ∧ j < n := by
  unfold idx at h
  simp at h
  exact ⟨r.toNat, by omega, by omega⟩
theorem idx_no {n : Nat} {r : Int} (h : idx n r = false) : r < 0 ∨ (n : Int) ≤ r := by
  unfold idx at h
  simp at h
  omega
def wts (gs : List Fm) : Int := (gs.map (·.2)).sum
def lns (gs : List Fm) : List Int := gs.flatMap (·.1)
theorem wts_snoc (gs : List Fm) (f : Fm) : wts (gs ++ [f]) = wts gs + f.2 := by simp [wts]
theorem lns_snoc (gs : List Fm) (f : Fm) : lns (gs ++ [f]) = lns gs ++ f.1 := by simp [lns]
theorem chs_fo {fs : List Fm} {rd : List Int} (hv : fv fs = true) (hr : rok fs.length rd = true) : ∀ f ∈ chs fs rd, fo f = true := by
  intro f hf
  unfold chs at hf
  rw [List.mem_map] at hf
  obtain ⟨r, hr1, rfl⟩ := hf
  unfold rok at hr
  rw [List.all_eq_true] at hr
  obtain ⟨j, rfl, hj⟩ := idx_yes (hr r hr1)
  refine fv_fo (k := j) hv ?_
  simp [List.getD_eq_getElem?_getD, List.getElem?_eq_getElem hj]
theorem wts_bounds {gs : List Fm} (h : ∀ f ∈ gs, fo f = true) : 0 ≤ wts gs ∧ wts gs ≤ 9 * (gs.length : Int) := by
  induction gs with
  | nil => simp [wts]
  | cons g r ih =>
    have h1 := fo_wt (h g (by simp))
    have h2 := ih (fun f hf => h f (by simp [hf]))
    simp only [wts, List.map_cons, List.sum_cons, List.length_cons] at h2 ⊢
    omega
theorem lns_bounds {gs : List Fm} (h : ∀ f ∈ gs, fo f = true) : (lns gs).length ≤ 5 * gs.length := by
  induction gs with
  | nil => simp [lns]
  | cons g r ih =>
    have h1 := fo_len (h g (by simp))
    have h2 := ih (fun f hf => h f (by simp [hf]))
    simp only [lns, List.flatMap_cons, List.length_append, List.length_cons] at h2 ⊢
    omega
theorem chs_len (fs : List Fm) (rd : List Int) : (chs fs rd).length = rd.length := by simp [chs]
/-- the weight of a reading, or -1 -/
def fwt (fs : List Fm) (rd : List Int) : Int := if fv fs = true ∧ rok fs.length rd = true then wts (chs fs rd) else -1
/-- what a reading builds, if it may -/
def fbOk (fs : List Fm) (rd : List Int) : Bool := fv fs && rok fs.length rd && decide ((lns (chs fs rd)).length ≤ 23)
def fbl (fs : List Fm) (rd : List Int) : List Int := if fbOk fs rd = true then lns (chs fs rd) else []
end Go.Proofs.Ytjhigjbfnemdjaa
