/-
  Lists of psalm tones made into the program's, and compared.
-/
import Derived.Test.YtcmcdomfmmjogaaPsl
import Derived.Laws.MakeOwn
namespace Go.Proofs.Ytcmcdomfmmjogaa
open Go.RowKit
set_option maxRecDepth 100000
set_option linter.unusedVariables false

theorem infoPsalm : (Try.prog.info? 27).map (fun i => (i.zero, i.size, i.bytes)) = some (some (.agg #[.slice none 0 0, .int .i64 0, .bool false, .slice none 0 0, .slice none 0 0]), 5, 88) := by kernel_rfl
/-- k psalm tones have been stored -/
def PsAt (g : Nat) (cur : Array Value) (wr : World) (i : Nat) (p : Psa) : Prop :=
  ∃ v0 v1 v2, cur[i * 5]? = some v0 ∧ cur[i * 5 + 1]? = some (.int .i64 p.tn.1) ∧ cur[i * 5 + 2]? = some (.bool p.tn.2) ∧ cur[i * 5 + 3]? = some v1 ∧ cur[i * 5 + 4]? = some v2 ∧
    TRow wr (g + 1) wr.heap.size v0 p.st ∧ TRow wr (g + 1) wr.heap.size v1 p.mi ∧ TRow wr (g + 1) wr.heap.size v2 p.en
structure PsI (w wr : World) (n : Nat) (ps : List Psa) (k : Nat) : Prop where
  at_ : ∃ cur, wr.heap[w.heap.size]? = some (.cells cur 27 (0, 0)) ∧ cur.size = n * 5 ∧ ∀ i p, i < k → ps[i]? = some p → PsAt w.heap.size cur wr i p
  bl : Below w.heap.size w wr
theorem PsI.next {w wr w2 : World} {n k : Nat} {ps : List Psa} {p : Psa} {v0 v1 v2 : Value} {m1 m2 : Nat} (h : PsI w wr n ps k) (hb : Below wr.heap.size wr w2) (hr : PRow w2 wr.heap.size m1 m2 w2.heap.size v0 v1 v2 p) (hp : ps[k]? = some p) (hk : k < n) (hg : w.heap.size < wr.heap.size) :
    PsI w (((((w2.setCell ⟨w.heap.size, k * 5, none⟩ v0).setCell ⟨w.heap.size, k * 5 + 1, none⟩ (.int .i64 p.tn.1)).setCell ⟨w.heap.size, k * 5 + 2, none⟩ (.bool p.tn.2)).setCell ⟨w.heap.size, k * 5 + 3, none⟩ v1).setCell ⟨w.heap.size, k * 5 + 4, none⟩ v2) n ps (k + 1) := by
  obtain ⟨⟨cur, hh, hsz, hat⟩, hbw⟩ := h
  have hh2 := (hb.block _ hg).trans hh
  refine ⟨⟨((((cur.setIfInBounds (k * 5) v0).setIfInBounds (k * 5 + 1) (.int .i64 p.tn.1)).setIfInBounds (k * 5 + 2) (.bool p.tn.2)).setIfInBounds (k * 5 + 3) v1).setIfInBounds (k * 5 + 4) v2, ?_, by simpa using hsz, fun i q hi hq => ?_⟩, ?_⟩
  · simp [World.setCell, Array.getElem?_modify, hh2]
  · have hset : ∀ {lo hi : Nat} {v : Value} {xs : List (Int × Bool)}, TRow w2 lo hi v xs → w.heap.size < lo → TRow (((((w2.setCell ⟨w.heap.size, k * 5, none⟩ v0).setCell ⟨w.heap.size, k * 5 + 1, none⟩ (.int .i64 p.tn.1)).setCell ⟨w.heap.size, k * 5 + 2, none⟩ (.bool p.tn.2)).setCell ⟨w.heap.size, k * 5 + 3, none⟩ v1).setCell ⟨w.heap.size, k * 5 + 4, none⟩ v2) lo hi v xs := fun h hl => ((((h.set hl).set hl).set hl).set hl).set hl
    have hse : (((((w2.setCell ⟨w.heap.size, k * 5, none⟩ v0).setCell ⟨w.heap.size, k * 5 + 1, none⟩ (.int .i64 p.tn.1)).setCell ⟨w.heap.size, k * 5 + 2, none⟩ (.bool p.tn.2)).setCell ⟨w.heap.size, k * 5 + 3, none⟩ v1).setCell ⟨w.heap.size, k * 5 + 4, none⟩ v2).heap.size = w2.heap.size := by simp [World.setCell]
    by_cases e : i = k
    · subst e
      obtain rfl : p = q := Option.some.inj (hp.symm.trans hq)
      have l0 := hr.le0
      have l1 := hr.le1
      have l2 := hr.le2
      have z := hb.size
      refine ⟨v0, v1, v2, ?_, ?_, ?_, ?_, ?_, ?_, ?_, ?_⟩
      · simp [Array.getElem?_setIfInBounds, hsz]; omega
      · simp [Array.getElem?_setIfInBounds, hsz]; omega
      · simp [Array.getElem?_setIfInBounds, hsz]; omega
      · simp [Array.getElem?_setIfInBounds, hsz]; omega
      · simp [Array.getElem?_setIfInBounds, hsz]; omega
      · rw [hse]; exact hset (hr.st.lohi (by omega) (by omega)) (by omega)
      · rw [hse]; exact hset (hr.mi.lohi (by omega) (by omega)) (by omega)
      · rw [hse]; exact hset (hr.en.lohi (by omega) (by omega)) (by omega)
    · obtain ⟨u0, u1, u2, e0, e1, e2, e3, e4, r0, r1, r2⟩ := hat i q (by omega) hq
      have z := hb.size
      refine ⟨u0, u1, u2, ?_, ?_, ?_, ?_, ?_, ?_, ?_, ?_⟩
      · rw [← e0]; simp only [Array.getElem?_setIfInBounds]; (repeat rw [if_neg (by omega)])
      · rw [← e1]; simp only [Array.getElem?_setIfInBounds]; (repeat rw [if_neg (by omega)])
      · rw [← e2]; simp only [Array.getElem?_setIfInBounds]; (repeat rw [if_neg (by omega)])
      · rw [← e3]; simp only [Array.getElem?_setIfInBounds]; (repeat rw [if_neg (by omega)])
      · rw [← e4]; simp only [Array.getElem?_setIfInBounds]; (repeat rw [if_neg (by omega)])
      · rw [hse]; exact hset ((r0.below hb (.inr (Nat.le_refl _))).lohi (Nat.le_refl _) z) (by omega)
      · rw [hse]; exact hset ((r1.below hb (.inr (Nat.le_refl _))).lohi (Nat.le_refl _) z) (by omega)
      · rw [hse]; exact hset ((r2.below hb (.inr (Nat.le_refl _))).lohi (Nat.le_refl _) z) (by omega)
  · exact (((((bl_step hbw hb).setCell (by simp) _).setCell (by simp) _).setCell (by simp) _).setCell (by simp) _).setCell (by simp) _
theorem PsI.done {w wr : World} {n : Nat} {ps : List Psa} (h : PsI w wr n ps n) (hn : n = ps.length) (hm : n ≤ maxLen) : PLV wr (.slice (some ⟨w.heap.size, 0, none⟩) n n) ps := by
  obtain ⟨⟨cur, hh, hsz, hat⟩, hbw⟩ := h
  have hgs : w.heap.size < wr.heap.size := by
    rcases Nat.lt_or_ge w.heap.size wr.heap.size with h | h
    · exact h
    · rw [Array.getElem?_eq_none h] at hh; cases hh
  refine ⟨_, n, by rw [hn], .inr ⟨w.heap.size, 0, rfl, hgs, fun i p hp => ?_⟩, by omega, hm⟩
  obtain ⟨v0, v1, v2, e0, e1, e2, e3, e4, r0, r1, r2⟩ := hat i p (by rw [hn]; exact (List.getElem?_eq_some_iff.1 hp).1) hp
  refine ⟨v0, v1, v2, ?_, ?_, ?_, ?_, ?_, ⟨_, _, r0⟩, ⟨_, _, r1⟩, ⟨_, _, r2⟩⟩
  all_goals (rw [Nat.zero_add]; simp [World.cell?, hh, e0, e1, e2, e3, e4])
end Go.Proofs.Ytcmcdomfmmjogaa
