/-
  The letters that most manuscripts have, in both programs.
-/
import Derived.Test.YtbeiedaldinhaaaDoorBc
import Derived.OwnWalk
import Derived.Laws.Rows
import Derived.Laws.Concat
import Derived.Laws.IdiomStrings
import Derived.Lib.BufferRead
namespace Go.Proofs.YtbeiedaldinhaaaDoor
open Go.RowKit
set_option maxRecDepth 100000
set_option linter.unusedVariables false

theorem abcd_cut {b : Nat} (h : b < 4) : (⟨#[97, 98, 99, 100]⟩ : ByteArray).extract b (b + 1) = ⟨#[l4 b]⟩ := by
  have : b = 0 ∨ b = 1 ∨ b = 2 ∨ b = 3 := by omega
  rcases this with rfl | rfl | rfl | rfl <;> rfl

theorem abcd_at {c : Nat} (h : c < 4) (h2 : c < (⟨#[97, 98, 99, 100]⟩ : ByteArray).size) : ((⟨#[97, 98, 99, 100]⟩ : ByteArray)[c]'h2).toNat = 97 + c := by
  have : c = 0 ∨ c = 1 ∨ c = 2 ∨ c = 3 := by omega
  rcases this with rfl | rfl | rfl | rfl <;> rfl

/-- the cells of a list of bytes -/
def btc (l : List UInt8) : List Value := l.map fun c => .int .u8 (c.toNat : Int)
theorem btc_app (l m : List UInt8) : btc (l ++ m) = btc l ++ btc m := by simp [btc]
theorem infoB8 : (Tryd.prog.info? 5).map (fun i => (i.zero, i.size, i.bytes)) = some (some (.int .u8 0), 1, 1) := by kernel_rfl
/-- bytes that a call has put together -/
def BtInv (w wr : World) (v : Value) (l : List UInt8) : Prop :=
  wr.ownsRow w.heap.size 5 1 v l.length (btc l) ∧ Below w.heap.size w wr
theorem BtInv.start (w w1 : World) (hb : Below w.heap.size w w1) : BtInv w (w1.alloc (.cells #[] 5)) (.slice (some ⟨w1.heap.size, 0, none⟩) 0 0) [] :=
  ⟨⟨rfl, .inr ⟨w1.heap.size, 0, #[], rfl, hb.size, heap_alloc_new w1 _, by simp, by simp [maxLen], by simp, by simp [btc]⟩⟩, hb.alloc hb.size _⟩
theorem BtInv.app {w wr w2 : World} {v v' : Value} {l : List UInt8} {c : UInt8} {o : Obj} (h : BtInv w wr v l)
    (hown : w2.ownsRow w.heap.size 5 1 v' (l.length + 1) (btc l ++ [.int .u8 (c.toNat : Int)])) (hg : (wr.alloc o).grownBy w2 v.ownBlock) : BtInv w w2 v' (l ++ [c]) := by
  refine ⟨?_, (h.2.alloc h.2.size o).grown hg (by have := h.2.size; simp; omega) (fun k hk => (h.1.lt k hk).1)⟩
  rw [btc_app]
  simpa [btc] using hown
theorem BtInv.below {w wr w2 : World} {v : Value} {l : List UInt8} (h : BtInv w wr v l) (hb : Below wr.heap.size wr w2) : BtInv w w2 v l := by
  refine ⟨?_, bl_step h.2 hb⟩
  obtain ⟨hl, h1 | ⟨g, cap, cur, rfl, hg, hh, hn, hcap, hsz, htake⟩⟩ := h.1
  · exact ⟨hl, .inl h1⟩
  · have hgs : g < wr.heap.size := by
      rcases Nat.lt_or_ge g wr.heap.size with h | h
      · exact h
      · rw [Array.getElem?_eq_none h] at hh; cases hh
    exact ⟨hl, .inr ⟨g, cap, cur, rfl, hg, (hb.block g hgs).trans hh, hn, hcap, hsz, htake⟩⟩
/-- what such a list reads as -/
theorem BtInv.text {w wr : World} {v : Value} {l : List UInt8} (h : BtInv w wr v l) : (convert 22 9 v).run Tryd.prog wr = .ok (.string ⟨l.toArray⟩) wr := by
  obtain ⟨⟨hl, h1 | ⟨g, cap, cur, rfl, hg, hh, hn, hcap, hsz, htake⟩⟩, _⟩ := h
  · obtain ⟨rfl, hz⟩ := h1
    have : l = [] := List.eq_nil_of_length_eq_zero hz
    subst this
    exact Lib.run_convert_nil_bytes wr _ _ _ _ Tryd.underlying22 Tryd.underlying5 Tryd.underlying9
  · refine run_convert_bytes_back wr _ _ _ _ cap l Tryd.underlying22 Tryd.underlying5 Tryd.underlying9 fun j hj => ?_
    have e : (cur.toList.take (l.length * 1))[j]? = (btc l)[j]? := by rw [htake]
    rw [Nat.mul_one, List.getElem?_take_of_lt hj, Array.getElem?_toList] at e
    rw [Go.WideShapes.add_plain, Nat.zero_add]
    simp [World.cell?, hh, e, btc, List.getElem?_eq_getElem hj]
theorem btnews {W : World} {z : Int} {t : TypeId} : ∀ j u, ([.int .u8 z] : List Value)[j]? = some u → (W.alloc (.cells #[.int .u8 z] t)).cell? ((⟨W.heap.size, 0, none⟩ : Addr).add j) = some u := by
  intro j u hj
  match j, hj with
  | 0, hj => simp at hj; subst hj; simp [Addr.add]
theorem btnews_one {z : Int} : ∀ u ∈ ([.int .u8 z] : List Value), u.oneCell' = true := by
  intro u hu; simp at hu; subst hu; rfl
end Go.Proofs.YtbeiedaldinhaaaDoor
