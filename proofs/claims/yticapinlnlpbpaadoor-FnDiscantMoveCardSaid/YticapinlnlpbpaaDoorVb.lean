/-
  Rows of voices that a call builds, one by one; the part of a melody, and the slower part (mathematics).
-/
import Derived.Test.YticapinlnlpbpaaDoorVo
import Derived.Test.YticapinlnlpbpaaDoorIb
import Derived.Test.YticapinlnlpbpaaDoorMelV
namespace Go.Proofs.YticapinlnlpbpaaDoor
open Go.RowKit
set_option maxRecDepth 100000
set_option linter.unusedVariables false

theorem infoVb : (Tryd.prog.info? 49).map (fun i => (i.zero, i.size, i.bytes)) = some (some (.agg #[.int .i64 0, .bool false, .int .i64 0]), 3, 24) := by kernel_rfl
/-- a row of voices of a call's own, while it grows -/
structure VbInv (w wr : World) (v : Value) (xs : List Vc) : Prop where
  own : wr.ownsRow w.heap.size 49 3 v xs.length (vcs xs)
  bl : Below w.heap.size w wr
theorem VbInv.start (w : World) : VbInv w (w.alloc (.cells #[] 49)) (.slice (some ⟨w.heap.size, 0, none⟩) 0 0) [] :=
  ⟨⟨by simp [vcs], .inr ⟨w.heap.size, 0, #[], rfl, Nat.le_refl _, heap_alloc_new w _, by simp, by simp [maxLen], by simp, by simp [vcs]⟩⟩, (Below.refl _ _).alloc (Nat.le_refl _) _⟩
theorem VbInv.row {w wr : World} {v : Value} {xs : List Vc} (h : VbInv w wr v xs) : VRow wr w.heap.size wr.heap.size v xs := ⟨h.own, fun g hg => (own_ltb h.own hg).2⟩
theorem VbInv.below {w wr w1 : World} {v : Value} {xs : List Vc} (h : VbInv w wr v xs) (hb : Below wr.heap.size wr w1) : VbInv w w1 v xs :=
  ⟨(h.row.below hb (.inl (Nat.le_refl _))).1, bl_step h.bl hb⟩
theorem VbInv.app {w w1 w2 : World} {v v' : Value} {xs : List Vc} {s : Int} {b : Bool} {m : Int} {o : Obj} (h : VbInv w w1 v xs)
    (hown : w2.ownsRow w.heap.size 49 3 v' (xs.length + 1) (vcs xs ++ [.int .i64 s, .bool b, .int .i64 m])) (hg : (w1.alloc o).grownBy w2 v.ownBlock) : VbInv w w2 v' (xs ++ [((s, b), m)]) :=
  ⟨by rw [vcs_app, List.length_append]; exact hown, (h.bl.alloc h.bl.size o).grown hg (by have := h.bl.size; simp; omega) (fun k hk => (own_ltb h.own hk).1)⟩
theorem VbInv.built {w wr : World} {v : Value} {xs : List Vc} (h : VbInv w wr v xs) : VBuilt w xs (.returned v) wr := ⟨v, rfl, h.row, h.bl⟩
theorem VbInv.built2 {w wr : World} {v : Value} {xs : List Vc} (h : VbInv w wr v xs) (ok : Bool) : VBuilt2 w xs ok (.returned (.tuple #[v, .bool ok])) wr := ⟨v, rfl, h.row, h.bl⟩
/-- as seen from an earlier world -/
theorem VBuilt2.from_ {w w1 w' : World} {xs : List Vc} {ok : Bool} {e : Ending} (h : VBuilt2 w1 xs ok e w') (hb : Below w.heap.size w w1) : VBuilt2 w xs ok e w' := by
  obtain ⟨v, he, ⟨⟨hl, hr⟩, hlt⟩, hbl⟩ := h
  refine ⟨v, he, ⟨⟨hl, ?_⟩, hlt⟩, bl_step hb hbl⟩
  rcases hr with h0 | ⟨g, cap, cur, hv, hg, hr⟩
  · exact .inl h0
  · exact .inr ⟨g, cap, cur, hv, Nat.le_trans hb.size hg, hr⟩
theorem VBuilt2.none_ (w w1 : World) (hb : Below w.heap.size w w1) : VBuilt2 w [] false (.returned (.tuple #[.slice (some ⟨w1.heap.size, 0, none⟩) 0 0, .bool false])) (w1.alloc (.cells #[] 49)) :=
  ((VbInv.start w1).built2 false).from_ hb
theorem VRow.sl {w : World} {lo hi n : Nat} {v : Value} {xs : List Vc} (h : VRow w lo hi v xs) (hn : xs.length = n) : ∃ a cap, v = .slice a n cap := by
  subst hn
  rcases h.form with ⟨rfl, rfl⟩ | ⟨g, cap, cur, rfl, _⟩
  · exact ⟨none, 0, rfl⟩
  · exact ⟨_, cap, rfl⟩
theorem news3 {w : World} {s : Int} {b : Bool} {m : Int} {t : TypeId} : ∀ j u, ([.int .i64 s, .bool b, .int .i64 m] : List Value)[j]? = some u → (w.alloc (.cells #[.int .i64 s, .bool b, .int .i64 m] t)).cell? ((⟨w.heap.size, 0, none⟩ : Addr).add j) = some u := by
  intro j u hj
  match j, hj with
  | 0, hj => simp at hj; subst hj; simp [Addr.add]
  | 1, hj => simp at hj; subst hj; simp [Addr.add]
  | 2, hj => simp at hj; subst hj; simp [Addr.add]
theorem news3_one {s : Int} {b : Bool} {m : Int} : ∀ u ∈ ([.int .i64 s, .bool b, .int .i64 m] : List Value), u.oneCell' = true := by
  intro u hu
  simp at hu
  rcases hu with rfl | rfl | rfl <;> rfl

/-- the part of a melody with beats, tone by tone -/
def pmOk (ts : List (Int × Bool)) (zs : List Int) : Bool := mv ts && (decide (ts.length = zs.length) && pval (ts.zip zs))
def pmL (ts : List (Int × Bool)) (zs : List Int) : List Vc := if pmOk ts zs then ts.zip zs else []
theorem pm_no {ts : List (Int × Bool)} {zs : List Int} (h : pmOk ts zs = false) : pmL ts zs = [] := by simp [pmL, h]
theorem pm_yes {ts : List (Int × Bool)} {zs : List Int} (h : pmOk ts zs = true) : pmL ts zs = ts.zip zs := by simp [pmL, h]
theorem zip_take {ts : List (Int × Bool)} {zs : List Int} {k : Nat} {t : Int × Bool} {z : Int} (ht : ts[k]? = some t) (hz : zs[k]? = some z) : (ts.zip zs).take (k + 1) = (ts.zip zs).take k ++ [(t, z)] := by
  rw [List.take_add_one]
  have : (ts.zip zs)[k]? = some (t, z) := by
    rw [List.getElem?_zip_eq_some]
    exact ⟨ht, hz⟩
  rw [this]
  rfl

/-- one voice more in the slower part -/
def slow (ys : List Vc) (x : Vc) : List Vc :=
  match ys.getLast? with
  | some l => if l.1 = x.1 ∧ l.2 + x.2 ≤ 3 then ys.dropLast ++ [(l.1, l.2 + x.2)] else ys ++ [x]
  | none => ys ++ [x]
def slw (xs : List Vc) : List Vc := xs.foldl slow []
theorem slow_nil (x : Vc) : slow [] x = [x] := rfl
theorem slow_yes {ys : List Vc} {l x : Vc} (h : l.1 = x.1) (h2 : l.2 + x.2 ≤ 3) : slow (ys ++ [l]) x = ys ++ [(l.1, l.2 + x.2)] := by
  unfold slow
  rw [List.getLast?_concat, List.dropLast_concat]
  simp only
  rw [if_pos ⟨h, h2⟩]
theorem slow_no {ys : List Vc} {l x : Vc} (h : ¬ (l.1 = x.1 ∧ l.2 + x.2 ≤ 3)) : slow (ys ++ [l]) x = ys ++ [l] ++ [x] := by
  unfold slow
  rw [List.getLast?_concat]
  simp only
  rw [if_neg h]
theorem slw_take {xs : List Vc} {k : Nat} {x : Vc} (h : xs[k]? = some x) : slw (xs.take (k + 1)) = slow (slw (xs.take k)) x := by
  unfold slw
  rw [List.take_add_one, h, Option.toList_some, List.foldl_append]
  rfl
theorem slow_len (ys : List Vc) (x : Vc) : (slow ys x).length ≤ ys.length + 1 := by
  rcases List.eq_nil_or_concat ys with rfl | ⟨zs, l, rfl⟩
  · simp [slow_nil]
  · by_cases h : l.1 = x.1 ∧ l.2 + x.2 ≤ 3
    · rw [List.concat_eq_append, slow_yes h.1 h.2]; simp
    · rw [List.concat_eq_append, slow_no h]; simp
theorem slw_len (xs : List Vc) : ∀ k, (slw (xs.take k)).length ≤ k
  | 0 => by simp [slw]
  | k + 1 => by
    have := slw_len xs k
    cases h : xs[k]? with
    | none => rw [List.take_add_one, h]; simp; omega
    | some x => rw [slw_take h]; have := slow_len (slw (xs.take k)) x; omega
theorem slow_ok {ys : List Vc} {x : Vc} (h : ys.all vok = true) (hx : vok x = true) : (slow ys x).all vok = true := by
  rcases List.eq_nil_or_concat ys with rfl | ⟨zs, l, rfl⟩
  · simp [slow_nil, hx]
  · rw [List.concat_eq_append] at h ⊢
    rw [List.all_append, Bool.and_eq_true] at h
    have hl : vok l = true := by simpa using h.2
    by_cases e : l.1 = x.1 ∧ l.2 + x.2 ≤ 3
    · rw [slow_yes e.1 e.2, List.all_append, h.1]
      have h1 := vok_in hl
      have h2 := vok_in hx
      simp [vok_yes (x := (l.1, l.2 + x.2)) h1.1 (by simp only; omega) e.2]
    · rw [slow_no e, List.all_append, List.all_append, h.1, h.2]
      simp [hx]
theorem slw_ok {xs : List Vc} (h : xs.all vok = true) : ∀ k, (slw (xs.take k)).all vok = true
  | 0 => by simp [slw]
  | k + 1 => by
    have := slw_ok h k
    cases hx : xs[k]? with
    | none => rw [List.take_add_one, hx]; simpa using this
    | some x => rw [slw_take hx]; exact slow_ok this (all_get h hx)
def psL (xs : List Vc) : List Vc := if pval xs then slw xs else []
end Go.Proofs.YticapinlnlpbpaaDoor
