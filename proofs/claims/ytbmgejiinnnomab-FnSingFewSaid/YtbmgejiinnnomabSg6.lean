/-
  The fewest mutations from each tone on: the model's table.
-/
import Derived.Test.YtbmgejiinnnomabSg5
import Derived.Test.YtbmgejiinnnomabFr
namespace Go.Proofs.Ytbmgejiinnnomab
open Go.RowKit
set_option maxRecDepth 100000
set_option linter.unusedVariables false

def nv (o : Option (Int × Nat)) : Int := match o with | none => -1 | some p => (p.2 : Int)
/-- one place of the table -/
def ft (xs : List (Int × Bool)) (i k : Nat) : Int := match xs.drop i with
  | [] => -1
  | t :: r => if 0 ≤ hsy k t.1 t.2 then (few (t :: r) k : Int) else -1
theorem ft_eq {xs : List (Int × Bool)} {i : Nat} {s : Int} {b : Bool} {r : List (Int × Bool)} (h : xs.drop i = (s, b) :: r) (k : Nat) : ft xs i k = if 0 ≤ hsy k s b then (few ((s, b) :: r) k : Int) else -1 := by unfold ft; rw [h]
theorem gre_chs_le (r : List (Int × Bool)) (h : Int) : chs (h :: gre r h) ≤ r.length + 1 := by
  have := chs_le (h :: gre r h)
  simpa [gre_len] using this
theorem few_le {t : Int × Bool} {r : List (Int × Bool)} (hr : sgo r = true) (h : Int) : few (t :: r) h ≤ r.length + 1 := by
  rw [few_chs hr]; exact gre_chs_le r h
theorem sgo_drop {xs : List (Int × Bool)} (h : sgo xs = true) {i : Nat} {t : Int × Bool} {r : List (Int × Bool)} (e : xs.drop i = t :: r) : sgo (t :: r) = true := by
  have : xs = xs.take i ++ t :: r := by rw [← e, List.take_append_drop]
  rw [this, sgo_app, Bool.and_eq_true] at h
  exact h.2
/-- the search among the hexachords below m -/
theorem nx_miss {s : Int} {b : Bool} {m : Nat} (F : Int → Nat) (h : ¬ 0 ≤ hsy m s b) : bst F (hall s b (m + 1)) = bst F (hall s b m) := by rw [hall_miss (by omega)]
theorem nx_hit {s : Int} {b : Bool} {m : Nat} (F : Int → Nat) (h : 0 ≤ hsy m s b) : bst F (hall s b (m + 1)) = bstep F (bst F (hall s b m)) m := by rw [hall_hit h, bst_snoc]
theorem nv_take {F : Int → Nat} {o : Option (Int × Nat)} {x : Int} (h : (decide (nv o < 0) || decide ((F x : Int) < nv o)) = true) : nv (bstep F o x) = (F x : Int) := by
  cases o with
  | none => rfl
  | some p =>
    have h1 : F x < p.2 := by
      have h' : (decide (((p.2 : Nat) : Int) < 0) || decide (((F x : Nat) : Int) < ((p.2 : Nat) : Int))) = true := h
      rw [Bool.or_eq_true, decide_eq_true_iff, decide_eq_true_iff] at h'
      omega
    simp [bstep, h1, nv]
theorem nv_keep {F : Int → Nat} {o : Option (Int × Nat)} {x : Int} (h : (decide (nv o < 0) || decide ((F x : Int) < nv o)) = false) : bstep F o x = o := by
  cases o with
  | none => simp [nv] at h
  | some p =>
    have h1 : ¬ F x < p.2 := by
      have h' : (decide (((p.2 : Nat) : Int) < 0) || decide (((F x : Nat) : Int) < ((p.2 : Nat) : Int))) = false := h
      rw [Bool.or_eq_false_iff, decide_eq_false_iff_not, decide_eq_false_iff_not] at h'
      omega
    simp [bstep, h1]
theorem ft_last {xs : List (Int × Bool)} {i k : Nat} {s : Int} {b : Bool} (h : xs.drop i = [(s, b)]) (hk : 0 ≤ hsy k s b) : ft xs i k = 0 := by
  rw [ft_eq h, if_pos hk]; rfl
theorem ft_more {xs : List (Int × Bool)} {i k : Nat} {s s' : Int} {b b' : Bool} {r : List (Int × Bool)} (h : xs.drop i = (s, b) :: (s', b') :: r) (hk : 0 ≤ hsy k s b) (hn : hx (s', b') ≠ []) : ft xs i k = nv (bst (fun x => few ((s', b') :: r) x + chg k x) (hall s' b' 21)) := by
  rw [ft_eq h, if_pos hk]
  have h1 := bst_in (f := fun x => few ((s', b') :: r) x + chg k x) hn
  show ((bstN (fun x => few ((s', b') :: r) x + chg k x) (hx (s', b')) : Nat) : Int) = nv (bst (fun x => few ((s', b') :: r) x + chg k x) (hx (s', b')))
  rw [h1.1, h1.2.2.1]
  rfl

/-- the rows from i on are done -/
def Fw (w : World) (O n i : Nat) (T : Nat → Nat → Int) : Prop :=
  ∃ cur : Array Value, w.heap[O]? = some (.cells cur 25 (0, 0)) ∧ cur.size = n ∧ ∀ j : Nat, i ≤ j → j < n → ∃ g, O < g ∧ cur[j]? = some (.slice (some ⟨g, 0, none⟩) 21 21) ∧ FR w g 21 21 (T j)
/-- those behind i are done, row i, in block g0, is being filled -/
def Fc (w : World) (O n i g0 : Nat) (T : Nat → Nat → Int) (f : Nat → Int) : Prop :=
  (∃ cur : Array Value, w.heap[O]? = some (.cells cur 25 (0, 0)) ∧ cur.size = n ∧ cur[i]? = some (.slice (some ⟨g0, 0, none⟩) 21 21) ∧ ∀ j : Nat, i < j → j < n → ∃ g, g ≠ g0 ∧ O < g ∧ cur[j]? = some (.slice (some ⟨g, 0, none⟩) 21 21) ∧ FR w g 21 21 (T j)) ∧ O < g0 ∧ FR w g0 21 21 f
theorem fr_ne {w : World} {O g : Nat} {cur : Array Value} {f : Nat → Int} (h : FR w g 21 21 f) (hO : w.heap[O]? = some (.cells cur 25 (0, 0))) : O ≠ g := by
  rintro rfl
  obtain ⟨c, hh, _⟩ := h
  rw [hO] at hh
  injection hh with hh
  injection hh with _ e
  exact absurd e (by decide)
theorem Fw.below {w w' : World} {O n i : Nat} {T : Nat → Nat → Int} (h : Fw w O n i T) (hb : Below w.heap.size w w') : Fw w' O n i T := by
  obtain ⟨cur, hh, hs, hc⟩ := h
  refine ⟨cur, (hb.block O (heap_lt hh)).trans hh, hs, fun j h1 h2 => ?_⟩
  obtain ⟨g, ho, hg, hf⟩ := hc j h1 h2
  exact ⟨g, ho, hg, hf.below hb⟩
theorem Fc.below {w w' : World} {O n i g0 : Nat} {T : Nat → Nat → Int} {f : Nat → Int} (h : Fc w O n i g0 T f) (hb : Below w.heap.size w w') : Fc w' O n i g0 T f := by
  obtain ⟨⟨cur, hh, hs, hi, hc⟩, h0, hf⟩ := h
  refine ⟨⟨cur, (hb.block O (heap_lt hh)).trans hh, hs, hi, fun j h1 h2 => ?_⟩, h0, hf.below hb⟩
  obtain ⟨g, hg, ho, hj, hf⟩ := hc j h1 h2
  exact ⟨g, hg, ho, hj, hf.below hb⟩
theorem Fc.set {w : World} {O n i g0 k : Nat} {T : Nat → Nat → Int} {f : Nat → Int} (h : Fc w O n i g0 T f) (hk : k < 21) (x : Int) : Fc (w.setCell ⟨g0, k, none⟩ (.int .i64 x)) O n i g0 T (fun p => if p = k then x else f p) := by
  obtain ⟨⟨cur, hh, hs, hi, hc⟩, h0, hf⟩ := h
  refine ⟨⟨cur, (Below.heap_setCell _ _ _ _ (fr_ne hf hh)).trans hh, hs, hi, fun j h1 h2 => ?_⟩, h0, hf.set hk x⟩
  obtain ⟨g, hg, ho, hj, hf⟩ := hc j h1 h2
  exact ⟨g, hg, ho, hj, hf.other hg⟩
theorem Fc.done {w : World} {O n i g0 : Nat} {T : Nat → Nat → Int} {f : Nat → Int} (h : Fc w O n i g0 T f) (he : ∀ p, p < 21 → f p = T i p) : Fw w O n i T := by
  obtain ⟨⟨cur, hh, hs, hi, hc⟩, h0, hf⟩ := h
  refine ⟨cur, hh, hs, fun j h1 h2 => ?_⟩
  by_cases e : j = i
  · subst e
    exact ⟨g0, h0, hi, hf.congr fun p hp => (he p hp).symm⟩
  · obtain ⟨g, _, ho, hj, hf⟩ := hc j (by omega) h2
    exact ⟨g, ho, hj, hf⟩
theorem Fw.row {wr w2 : World} {O n i g0 : Nat} {T : Nat → Nat → Int} {f : Nat → Int} (h : Fw wr O n (i + 1) T) (hb : Below wr.heap.size wr w2) (hg : wr.heap.size ≤ g0) (hf : FR w2 g0 21 21 f) (hi : i < n) : Fc (w2.setCell ⟨O, i, none⟩ (.slice (some ⟨g0, 0, none⟩) 21 21)) O n i g0 T f := by
  obtain ⟨cur, hh, hs, hc⟩ := h
  have hO := heap_lt hh
  have hh2 := (hb.block O hO).trans hh
  refine ⟨⟨cur.setIfInBounds i (.slice (some ⟨g0, 0, none⟩) 21 21), by simp [World.setCell, Array.getElem?_modify, hh2], by simpa using hs, ?_, fun j h1 h2 => ?_⟩, by omega, hf.keep (Below.heap_setCell _ _ _ _ (by show g0 ≠ O; omega))⟩
  · have : i < cur.size := by omega
    simp [this]
  · obtain ⟨g, ho, hj, hf⟩ := hc j (by omega) h2
    refine ⟨g, by have := hf.lt; omega, ho, ?_, (hf.below hb).keep (Below.heap_setCell _ _ _ _ ?_)⟩
    · rw [Array.getElem?_setIfInBounds, if_neg (by omega)]; exact hj
    · show g ≠ O
      exact Ne.symm (fr_ne hf hh)
theorem Fc.cells {w : World} {O n i g0 : Nat} {T : Nat → Nat → Int} {f : Nat → Int} (h : Fc w O n i g0 T f) : w.cell? ⟨O, i, none⟩ = some (.slice (some ⟨g0, 0, none⟩) 21 21) ∧ ∀ k, k < 21 → w.cell? ⟨g0, k, none⟩ = some (.int .i64 (f k)) ∧ w.frozen? ⟨g0, k, none⟩ = false := by
  obtain ⟨⟨cur, hh, hs, hi, hc⟩, h0, hf⟩ := h
  exact ⟨by simp [World.cell?, hh, hi], fun k hk => ⟨hf.cell hk, hf.free k⟩⟩
theorem Fc.next {w : World} {O n i g0 : Nat} {T : Nat → Nat → Int} {f : Nat → Int} (h : Fc w O n i g0 T f) (hi : i + 1 < n) : ∃ g, w.cell? ⟨O, i + 1, none⟩ = some (.slice (some ⟨g, 0, none⟩) 21 21) ∧ ∀ k, k < 21 → w.cell? ⟨g, k, none⟩ = some (.int .i64 (T (i + 1) k)) := by
  obtain ⟨⟨cur, hh, hs, _, hc⟩, h0, hf⟩ := h
  obtain ⟨g, _, _, hj, hf⟩ := hc (i + 1) (by omega) hi
  exact ⟨g, by simp [World.cell?, hh, hj], fun k hk => hf.cell hk⟩
theorem Fw.at_ {w : World} {O n i k : Nat} {T : Nat → Nat → Int} (h : Fw w O n 0 T) (hi : i < n) (hk : k < 21) : ∃ g, w.cell? ⟨O, i, none⟩ = some (.slice (some ⟨g, 0, none⟩) 21 21) ∧ w.cell? ⟨g, k, none⟩ = some (.int .i64 (T i k)) := by
  obtain ⟨cur, hh, hs, hc⟩ := h
  obtain ⟨g, _, hj, hf⟩ := hc i (Nat.zero_le _) hi
  exact ⟨g, by simp [World.cell?, hh, hj], hf.cell hk⟩
theorem Fw.free {w : World} {O n i : Nat} {T : Nat → Nat → Int} (h : Fw w O n i T) (k : Nat) : w.frozen? ⟨O, k, none⟩ = false := by
  obtain ⟨cur, hh, _⟩ := h
  simp [World.frozen?, hh]
theorem Fw.lt {w : World} {O n i : Nat} {T : Nat → Nat → Int} (h : Fw w O n i T) : O < w.heap.size := by obtain ⟨cur, hh, _⟩ := h; exact heap_lt hh
theorem Fw.has {w : World} {O n i k : Nat} {T : Nat → Nat → Int} (h : Fw w O n i T) (hk : k < n) : ∃ v, w.cell? ⟨O, k, none⟩ = some v := by
  obtain ⟨cur, hh, hs, _⟩ := h
  exact ⟨cur[k], by simp [World.cell?, hh]⟩
theorem Fw.made {w : World} {base O n : Nat} {T : Nat → Nat → Int} {z : Array Value} (h : w.ownsRow base 25 1 (.slice (some ⟨O, 0, none⟩) n n) n z.toList) : Fw w O n n T := by
  obtain ⟨_, h1 | ⟨g, cap, cur, hv, _, hh, _, _, hsz, ht⟩⟩ := h
  · cases h1.1
  · injection hv with hv1 _ hv2
    injection hv1 with hv1
    injection hv1 with hv1
    subst hv1 hv2
    exact ⟨cur, hh, by omega, fun j h1 h2 => by omega⟩
end Go.Proofs.Ytbmgejiinnnomab
