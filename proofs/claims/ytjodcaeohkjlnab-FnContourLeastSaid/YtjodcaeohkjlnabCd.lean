/-
  ContourLeast in the model: steps are raised until all ways are right.
-/
import Derived.Test.YtjodcaeohkjlnabCc
import Derived.Test.YtjodcaeohkjlnabFr
import Derived.RegionTactic
import Derived.BigRegion
namespace Go.Proofs.Ytjodcaeohkjlnab
open Go.RowKit
set_option maxRecDepth 100000
set_option linter.unusedVariables false

/-- the lowest steps of a text, none if it is no contour -/
def cls (s : ByteArray) : List Int := if cv s then (List.range (s.size + 1)).map fun j => ((lst s.data.toList j : Nat) : Int) else []
theorem cls_no {s : ByteArray} (h : cv s = false) : cls s = [] := by simp [cls, h]
theorem cls_yes {s : ByteArray} (h : cv s = true) : cls s = (List.range (s.size + 1)).map fun j => ((lst s.data.toList j : Nat) : Int) := by simp [cls, h]
def ClBuilt2 (w : World) (xs : List Int) (ok : Bool) (e : Ending) (w' : World) : Prop :=
  ∃ v, e = .returned (.tuple #[v, .bool ok]) ∧ IRow w' w.heap.size w'.heap.size v xs ∧ Below w.heap.size w w'
theorem empty_irow (w : World) : IRow (w.alloc (.cells #[] 3)) w.heap.size (w.alloc (.cells #[] 3)).heap.size (.slice (some ⟨w.heap.size, 0, none⟩) 0 0) [] := by
  refine ⟨⟨rfl, .inr ⟨w.heap.size, 0, #[], rfl, Nat.le_refl _, heap_alloc_new w _, by simp, by simp [maxLen], by simp, by simp⟩⟩, fun g hg => ?_⟩
  have : g = w.heap.size := by simpa [Value.ownBlock] using hg.symm
  simp
  omega
theorem IRow.lohi {w : World} {lo hi lo' hi' : Nat} {v : Value} {xs : List Int} (h : IRow w lo hi v xs) (h1 : lo' ≤ lo) (h2 : hi ≤ hi') : IRow w lo' hi' v xs := by
  obtain ⟨⟨hl, h | ⟨g, cap, cur, rfl, hg, hr⟩⟩, hlt⟩ := h
  · exact ⟨⟨hl, .inl h⟩, fun g hg => Nat.lt_of_lt_of_le (hlt g hg) h2⟩
  · exact ⟨⟨hl, .inr ⟨g, cap, cur, rfl, Nat.le_trans h1 hg, hr⟩⟩, fun g hg => Nat.lt_of_lt_of_le (hlt g hg) h2⟩
theorem empty_cl2 {w w1 : World} {ok : Bool} (hb : Below w.heap.size w w1) : ClBuilt2 w [] ok (.returned (.tuple #[.slice (some ⟨w1.heap.size, 0, none⟩) 0 0, .bool ok])) (w1.alloc (.cells #[] 3)) :=
  ⟨_, rfl, (empty_irow w1).lohi hb.size (Nat.le_refl _), hb.alloc hb.size _⟩
/-- the state: rounds that are over, ways that have been looked at -/
def LdInv (w wr : World) (l : List UInt8) (n B r k : Nat) : Prop :=
  ∃ f, LRel l r k f ∧ FR wr B (n + 1) (n + 1) f ∧ (∀ p, p ≤ n → 0 ≤ f p ∧ f p ≤ 100) ∧ Below w.heap.size w wr
theorem lrel_bd {l : List UInt8} {n r k : Nat} {f : Nat → Int} (hl : l.length = n) (hn : n ≤ 23) (h : LRel l r k f) : ∀ p, p ≤ n → 0 ≤ f p ∧ f p ≤ 100 := fun p hp => by
  have h1 := h.hi p (by omega)
  have h2 := lst_le (l := l) (k := p) (by omega)
  have h3 := h.lo p
  omega
theorem LdInv.start {w wr : World} {l : List UInt8} {n B : Nat} (hf : FR wr B (n + 1) (n + 1) (fun _ => 0)) (hb : Below w.heap.size w wr) : LdInv w wr l n B 0 0 := ⟨_, LRel.zero l, hf, fun _ _ => by decide, hb⟩
theorem LdInv.next {w wr : World} {l : List UInt8} {n B r : Nat} (hl : l.length = n) (h : LdInv w wr l n B r n) : LdInv w wr l n B (r + 1) 0 := by
  subst hl
  obtain ⟨f, h1, h2, h3, h4⟩ := h
  exact ⟨f, h1.next, h2, h3, h4⟩
theorem LdInv.drewN {w wr : World} {l : List UInt8} {n B r k : Nat} (h : LdInv w wr l n B r k) (q : Nat) : LdInv w (wr.drewN q) l n B r k := by
  obtain ⟨f, h1, h2, h3, h4⟩ := h
  exact ⟨f, h1, h2, h3, ⟨h4.os, h4.tape, h4.output, h4.size, h4.block⟩⟩
theorem ld_step {w wr W : World} {l : List UInt8} {n B r k : Nat} {f g : Nat → Int} (hl : l.length = n) (hn : n ≤ 23) (hk : k < n) (h1 : LRel l r k f) (hb : Below w.heap.size w W) (hW : FR W B (n + 1) (n + 1) g) (hg : ∀ p, p < n + 1 → g p = rlx (l.getD k 0) k f p) :
    LdInv w W l n B r (k + 1) := by
  have hs := h1.step (by omega : k < l.length)
  exact ⟨_, hs, hW.congr fun p hp => (hg p hp).symm, lrel_bd hl hn hs, hb⟩
theorem ld_u {w wr : World} {l : List UInt8} {n B r k : Nat} {f : Nat → Int} {v : Int} (hl : l.length = n) (hn : n ≤ 23) (hk : k < n) (hB : w.heap.size ≤ B) (hc : l.getD k 0 = 117) (h1 : LRel l r k f) (h2 : FR wr B (n + 1) (n + 1) f) (h4 : Below w.heap.size w wr)
    (hv : v = max (f (k + 1)) (f k + 1)) : LdInv w (wr.setCell ⟨B, k + 1, none⟩ (.int .i64 v)) l n B r (k + 1) := by
  refine ld_step (wr := wr) hl hn hk h1 (h4.setCell (p := ⟨B, k + 1, none⟩) hB _) (h2.set (by omega) v) fun p _ => ?_
  rw [hc]
  unfold rlx
  rw [if_pos rfl, hv]
theorem ld_d {w wr : World} {l : List UInt8} {n B r k : Nat} {f : Nat → Int} {v : Int} (hl : l.length = n) (hn : n ≤ 23) (hk : k < n) (hB : w.heap.size ≤ B) (hc : l.getD k 0 = 100) (h1 : LRel l r k f) (h2 : FR wr B (n + 1) (n + 1) f) (h4 : Below w.heap.size w wr)
    (hv : v = max (f k) (f (k + 1) + 1)) : LdInv w (wr.setCell ⟨B, k, none⟩ (.int .i64 v)) l n B r (k + 1) := by
  refine ld_step (wr := wr) hl hn hk h1 (h4.setCell (p := ⟨B, k, none⟩) hB _) (h2.set (by omega) v) fun p _ => ?_
  rw [hc]
  unfold rlx
  rw [if_neg (show ¬ (100 : UInt8) = 117 by decide), if_pos rfl, hv]
theorem ld_s {w wr : World} {l : List UInt8} {n B r k : Nat} {f : Nat → Int} {v : Int} (hl : l.length = n) (hn : n ≤ 23) (hk : k < n) (hB : w.heap.size ≤ B) (hc : l.getD k 0 ≠ 117) (hc2 : l.getD k 0 ≠ 100) (h1 : LRel l r k f) (h2 : FR wr B (n + 1) (n + 1) f) (h4 : Below w.heap.size w wr)
    (hv : v = max (f k) (f (k + 1))) : LdInv w ((wr.setCell ⟨B, k, none⟩ (.int .i64 v)).setCell ⟨B, k + 1, none⟩ (.int .i64 v)) l n B r (k + 1) := by
  refine ld_step (wr := wr) hl hn hk h1 ((h4.setCell (p := ⟨B, k, none⟩) hB _).setCell (p := ⟨B, k + 1, none⟩) hB _) ((h2.set (by omega) v).set (by omega) v) fun p _ => ?_
  unfold rlx
  rw [if_neg hc, if_neg hc2, hv]
  by_cases e1 : p = k + 1
  · rw [if_pos e1, if_pos (.inr e1)]
  · rw [if_neg e1]
    by_cases e2 : p = k
    · rw [if_pos e2, if_pos (.inl e2)]
    · rw [if_neg e2, if_neg (fun h => h.elim e2 e1)]
theorem LdInv.done {w wr : World} {s : ByteArray} {B r : Nat} (hc : cv s = true) (hB : w.heap.size ≤ B) (h : LdInv w wr s.data.toList s.size B r 0) (hr : s.size ≤ r) (hr1 : 1 ≤ r) :
    ClBuilt2 w (cls s) true (.returned (.tuple #[.slice (some ⟨B, 0, none⟩) (s.size + 1) (s.size + 1), .bool true])) wr := by
  obtain ⟨f, h1, h2, _, h4⟩ := h
  have hl : s.data.toList.length = s.size := by simp
  have hz := (cv_in hc).1
  refine ⟨_, rfl, ?_, h4⟩
  refine h2.irow hB h2.lt (by unfold maxLen; omega) ?_
  rw [cls_yes hc]
  refine List.map_congr_left fun j hj => ?_
  rw [List.mem_range] at hj
  exact (h1.done (by omega) hr1 (by omega)).symm
end Go.Proofs.Ytjodcaeohkjlnab
