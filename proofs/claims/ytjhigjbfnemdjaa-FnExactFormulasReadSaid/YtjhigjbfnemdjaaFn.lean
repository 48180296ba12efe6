/-
  The readings that have been found, in a map by their places.
-/
import Derived.Test.YtjhigjbfnemdjaaRa
import Derived.Test.YtjhigjbfnemdjaaFx
import Derived.Maps.Own
import Derived.Maps.OwnOps
import Derived.Maps.OwnSet
import Derived.Maps.Views
namespace Go.Proofs.Ytjhigjbfnemdjaa
open Go.RowKit Go.Maps
set_option maxRecDepth 100000
set_option linter.unusedVariables false

/-- a value of the map reads as itself -/
def asIs (v : Value) : Option (DataW Value × List MemPlace) := some (.held v, [])
def kq (q : Nat) : Lit := .int .i64 (q : Int)
theorem kq_ne {a b : Nat} (h : a ≠ b) : kq a ≠ kq b := by
  intro e
  unfold kq at e
  injection e with _ e
  omega
theorem kq_key {q : Nat} (h : q ≤ 1000000) : keyOf Try.prog 3 (.int .i64 (q : Int)) = some (kq q) := keyOf_int_mk Try.underlying3 (WalkArith.wf_i64 (by omega))
theorem kq_is (q : Nat) : WideAt.IsKeyLit (kq q) := trivial
theorem keyedInt : Keyed Try.prog 3 := int_keyed Try.underlying3
def zeroR : Value := rdV Rs.zero (.slice none 0 0)
theorem zeroRun (w : World) : (zeroValue 69).run Try.prog w = .ok zeroR w := by kernel_rfl

/-- how many places up to m have not been found -/
def miss (D : DataW Value) (m : Nat) : Nat := ((List.range m).filter fun q => !Maps.has D (kq q)).length
theorem miss_le (D : DataW Value) (m : Nat) : miss D m ≤ m := by
  unfold miss
  have := List.length_filter_le (fun q => !Maps.has D (kq q)) (List.range m)
  simpa using this
theorem filter_one {f g : Nat → Bool} {q m : Nat} (hq : q < m) (h1 : f q = true) (h2 : g q = false) (h : ∀ i, i ≠ q → f i = g i) : ((List.range m).filter g).length + 1 = ((List.range m).filter f).length := by
  induction m with
  | zero => omega
  | succ m ih =>
    rw [List.range_succ, List.filter_append, List.filter_append, List.length_append, List.length_append]
    by_cases e : q = m
    · subst e
      have hs : (List.range q).filter g = (List.range q).filter f := by
        apply List.filter_congr
        intro i hi
        have : i < q := by simpa using hi
        rw [h i (by omega)]
      rw [hs]
      simp [h1, h2]
    · have := ih (by omega)
      have em : f m = g m := h m (fun e2 => e e2.symm)
      simp only [List.filter_cons, List.filter_nil, em]
      omega
theorem miss_put {D : DataW Value} {q m : Nat} {d : DataW Value} (hD : IsMap D) (hq : q < m) (h : Maps.has D (kq q) = false) : miss (D.put (kq q) d) m + 1 = miss D m := by
  unfold miss
  refine filter_one hq (by simp [h]) (by simp [has_put_same hD (kq_is q)]) fun i hi => ?_
  rw [has_put_other (kq_ne hi)]

theorem miss_same {D D' : DataW Value} {m : Nat} (h : ∀ q, Maps.has D' (kq q) = Maps.has D (kq q)) : miss D' m = miss D m := by
  unfold miss
  rw [List.filter_congr fun q _ => by rw [h q]]
theorem tight {w : World} {b n : Nat} {D : DataW Value} (h : w.ownsMap Try.prog 3 asIs b n D) : w.ownsMap Try.prog 3 asIs b (Maps.size D) D := by
  obtain ⟨es, c, h1, h2, h3, rfl⟩ := h
  refine ⟨es, c, h1, h2, ?_, rfl⟩
  rw [size_eq, length_sorted]
  simp

/-- block b holds readings that have been found: none ahead of place l, those behind the last difference for certain -/
def FD [Lo] (fs : List Fm) (s : List Int) (l : Nat) (w : World) (D : DataW Value) : Prop :=
  Maps.size D + miss D (s.length + 1) ≤ s.length + 1 ∧ Maps.has D (kq s.length) = true ∧ (∀ q, q < l → Maps.has D (kq q) = false) ∧
    ∀ q, q ≤ s.length → Maps.has D (kq q) = true → ∃ x, D.atKey (kq q) (.held zeroR) = .held (rdV (R fs s q) x) ∧ IB w x (R fs s q).best
def FInv [Lo] (fs : List Fm) (s : List Int) (l : Nat) (w : World) (b : Nat) : Prop :=
  ∃ D, w.ownsMap Try.prog 3 asIs b (Maps.size D) D ∧ FD fs s l w D
theorem FD.lt [Lo] {fs : List Fm} {s : List Int} {l : Nat} {w : World} {D : DataW Value} (h : FD fs s l w D) (hs : s.length ≤ 23) : Maps.size D < maxLen := by
  have := h.1
  unfold maxLen
  omega
theorem FInv.mono [Lo] {fs : List Fm} {s : List Int} {l l' : Nat} {w : World} {b : Nat} (h : FInv fs s l w b) (hl : l' ≤ l) : FInv fs s l' w b := by
  obtain ⟨D, h1, h2, h3, h4, h5⟩ := h
  exact ⟨D, h1, h2, h3, fun q hq => h4 q (by omega), h5⟩
theorem FInv.isMap [Lo] {fs : List Fm} {s : List Int} {l : Nat} {w : World} {b : Nat} (h : FInv fs s l w b) : ∃ es c, w.heap[b]? = some (.map es c) := by
  obtain ⟨D, ⟨es, c, h1, _⟩, _⟩ := h
  exact ⟨es, c, h1⟩
theorem FInv.lt [Lo] {fs : List Fm} {s : List Int} {l : Nat} {w : World} {b : Nat} (h : FInv fs s l w b) : b < w.heap.size := by
  obtain ⟨es, c, h1⟩ := h.isMap
  rcases Nat.lt_or_ge b w.heap.size with g | g
  · exact g
  · rw [Array.getElem?_eq_none g] at h1; cases h1
theorem FInv.keep [Lo] {fs : List Fm} {s : List Int} {l : Nat} {w w' : World} {b : Nat} (h : FInv fs s l w b) (hb : w'.heap[b]? = w.heap[b]?) (hk : ∀ (g : Nat) (cur : Array Value), w.heap[g]? = some (.cells cur 3 (0, 0)) → w'.heap[g]? = w.heap[g]?) : FInv fs s l w' b := by
  obtain ⟨D, ⟨es, c, h0, hr⟩, h2, h3, h4, h5⟩ := h
  exact ⟨D, ⟨es, c, hb.trans h0, hr⟩, h2, h3, h4, fun q hq hh => by
    obtain ⟨x, e, hx⟩ := h5 q hq hh
    exact ⟨x, e, hx.keepT hk⟩⟩
theorem below_ints {w w' : World} (hb : Below w.heap.size w w') : ∀ (g : Nat) (cur : Array Value), w.heap[g]? = some (.cells cur 3 (0, 0)) → w'.heap[g]? = w.heap[g]? := fun g cur hg => by
  refine hb.block g ?_
  rcases Nat.lt_or_ge g w.heap.size with h | h
  · exact h
  · rw [Array.getElem?_eq_none h] at hg; cases hg
theorem FInv.below [Lo] {fs : List Fm} {s : List Int} {l : Nat} {w w' : World} {b : Nat} (h : FInv fs s l w b) (hb : Below w.heap.size w w') : FInv fs s l w' b := h.keep (hb.block b h.lt) (below_ints hb)
/-- 'found[q]', with ok -/
theorem FInv.look [Lo] {fs : List Fm} {s : List Int} {l : Nat} {w : World} {b : Nat} (h : FInv fs s l w b) {q : Nat} (hq : q ≤ s.length) (hs : s.length ≤ 23) :
    ∃ v ok, (Instr.lookup 61 (.map (some b)) (.int .i64 (q : Int)) true).run Try.prog w = .ok (.tuple #[v, .bool ok]) w ∧
      ((ok = true ∧ ∃ x, v = rdV (R fs s q) x ∧ IB w x (R fs s q).best) ∨ (ok = false ∧ q < s.length ∧ v = zeroR)) := by
  obtain ⟨D, h1, h2, h3, h4, h5⟩ := h
  obtain ⟨v, ps, hrun, hv⟩ := h1.look_ok keyedInt Try.underlying61 (zeroRun w) (zd := .held zeroR) (zp := []) rfl (kq_key (q := q) (by omega))
  refine ⟨v, _, hrun, ?_⟩
  unfold asIs at hv
  have hv : DataW.held v = D.atKey (kq q) (.held zeroR) := by simpa using congrArg Prod.fst (Option.some.inj hv)
  cases hh : Maps.has D (kq q) with
  | true =>
    obtain ⟨x, e, hx⟩ := h5 q hq hh
    rw [e] at hv
    injection hv with hv
    exact .inl ⟨rfl, x, hv, hx⟩
  | false =>
    rw [atKey_of_not_has hh] at hv
    injection hv with hv
    refine .inr ⟨rfl, ?_, hv⟩
    rcases Nat.lt_or_ge q s.length with g | g
    · exact g
    · have : q = s.length := by omega
      subst this
      rw [h3] at hh; cases hh
/-- 'found[q]' of places that have not been found -/
theorem FInv.lookNew [Lo] {fs : List Fm} {s : List Int} {l : Nat} {w : World} {b : Nat} (h : FInv fs s l w b) (hs : s.length ≤ 23) (hl : l = s.length) :
    ∃ x, (Instr.lookup 61 (.map (some b)) (.int .i64 0) false).run Try.prog w = .ok (rdV (if s.length = 0 then Rs.one else Rs.zero) x) w ∧ IB w x [] := by
  obtain ⟨D, h1, h2, h3, h4, h5⟩ := h
  obtain ⟨v, ps, hrun, hv⟩ := h1.lookup keyedInt Try.underlying61 (zeroRun w) (zd := .held zeroR) (zp := []) rfl (kq_key (q := 0) (by omega))
  unfold asIs at hv
  have hv : DataW.held v = D.atKey (kq 0) (.held zeroR) := by simpa using congrArg Prod.fst (Option.some.inj hv)
  by_cases h0 : s.length = 0
  · rw [if_pos h0]
    rw [h0] at h3
    obtain ⟨x, e, hx⟩ := h5 0 (by omega) h3
    rw [e] at hv
    injection hv with hv
    rw [R_ge (by omega)] at hv hx
    exact ⟨x, by rw [← hv]; exact hrun, hx⟩
  · rw [if_neg h0]
    rw [atKey_of_not_has (h4 0 (by omega))] at hv
    injection hv with hv
    exact ⟨_, by rw [show rdV Rs.zero (.slice none 0 0) = v from hv.symm]; exact hrun, IB.nil w⟩
/-- 'found[q] = rest' -/
theorem FD.put [Lo] {fs : List Fm} {s : List Int} {l : Nat} {w w1 : World} {b : Nat} {D : DataW Value} {q : Nat} {x : Value} (h : FD fs s l w D) (hown : w.ownsMap Try.prog 3 asIs b (Maps.size D) D) (hq : q ≤ s.length) (hx : IB w x (R fs s q).best)
    (hown1 : w1.ownsMap Try.prog 3 asIs b (Maps.size D + 1) (D.put (kq q) (.held (rdV (R fs s q) x)))) (hk : ∀ (g : Nat) (cur : Array Value), w.heap[g]? = some (.cells cur 3 (0, 0)) → w1.heap[g]? = w.heap[g]?) : FInv fs s 0 w1 b := by
  obtain ⟨h1, h2, h3, h4⟩ := h
  have hT : Tidy D := hown.tidy keyedInt
  refine ⟨_, tight hown1, ?_, ?_, fun q hq => by omega, fun i hi hh => ?_⟩
  · rw [size_put hT]
    cases hh : Maps.has D (kq q) with
    | true =>
      rw [miss_same (D := D) (fun i => ?_)]
      · simpa using h1
      · by_cases e : i = q
        · subst e; rw [has_put_same hT.isMap (kq_is _), hh]
        · rw [has_put_other (kq_ne e)]
    | false =>
      have := miss_put (d := .held (rdV (R fs s q) x)) (m := s.length + 1) hT.isMap (by omega) hh
      simp
      omega
  · by_cases e : s.length = q
    · rw [e, has_put_same hT.isMap (kq_is _)]
    · rw [has_put_other (kq_ne e), h2]
  · by_cases e : i = q
    · subst e
      exact ⟨x, atKey_put_same hT.isMap (kq_is _) _ _, hx.keepT hk⟩
    · rw [has_put_other (kq_ne e)] at hh
      obtain ⟨y, e2, hy⟩ := h4 i hi hh
      exact ⟨y, by rw [atKey_put_other (kq_ne e)]; exact e2, hy.keepT hk⟩
theorem grown_ints {w w1 : World} {b : Nat} (hg : w.grownBy w1 (some b)) (hm : ∃ es c, w.heap[b]? = some (.map es c)) : ∀ (g : Nat) (cur : Array Value), w.heap[g]? = some (.cells cur 3 (0, 0)) → w1.heap[g]? = w.heap[g]? := fun g cur hh => by
  refine hg.block g ?_ (fun e => ?_)
  · rcases Nat.lt_or_ge g w.heap.size with h | h
    · exact h
    · rw [Array.getElem?_eq_none h] at hh; cases hh
  · injection e with e
    subst e
    obtain ⟨es, c, h2⟩ := hm
    rw [h2] at hh
    cases hh
/-- the map as it is made: the empty reading behind the last difference -/
theorem FInv.made [Lo] {fs : List Fm} {s : List Int} {w w1 : World} {b : Nat} (h0 : w.ownsMap Try.prog 3 asIs b 0 (.map []))
    (hown1 : w1.ownsMap Try.prog 3 asIs b 1 (DataW.put (.map []) (kq s.length) (.held (rdV Rs.one (.slice none 0 0))))) : FInv fs s s.length w1 b := by
  have hT : Tidy (.map [] : DataW Value) := tidy_empty
  have hno : ∀ q, Maps.has (.map [] : DataW Value) (kq q) = false := fun q => rfl
  refine ⟨_, tight hown1, ?_, has_put_same hT.isMap (kq_is _) _, fun q hq => ?_, fun i hi hh => ?_⟩
  · rw [size_put hT, hno]
    have := miss_put (D := .map []) (d := .held (rdV Rs.one (.slice none 0 0))) (q := s.length) (m := s.length + 1) hT.isMap (by omega) (hno _)
    have h2 := miss_le (.map []) (s.length + 1)
    simp [Maps.size]
    omega
  · rw [has_put_other (kq_ne (by omega))]
    exact hno q
  · by_cases e : i = s.length
    · subst e
      rw [R_ge (by omega)]
      exact ⟨_, atKey_put_same hT.isMap (kq_is _) _ _, IB.nil _⟩
    · rw [has_put_other (kq_ne e), hno] at hh
      cases hh
end Go.Proofs.Ytjhigjbfnemdjaa
