/-
  The reader of a draw's code: it opens, and each pick lies in its range. Only the reader's own block turns.
-/
import Derived.Test.YtcmcdomfmmjogaaBase
import Derived.WalkLawsBesides
import Derived.Handy
import Derived.Deep.QuietTactic
import Derived.BigQuiet
namespace Go.Proofs.Ytcmcdomfmmjogaa
open Go.RowKit
set_option maxRecDepth 100000
set_option linter.unusedVariables false

/-- the n bytes from a on lie in block A, which is not B -/
def BytesAt (w : World) (B A : Nat) (a : Option Addr) (n : Nat) : Prop :=
  n = 0 ∨ ∃ off, a = some ⟨A, off, none⟩ ∧ A ≠ B ∧ ∀ i, i < n → ∃ z : Int, 0 ≤ z ∧ z ≤ 255 ∧ w.cell? ⟨A, off + i, none⟩ = some (.int .u8 z)

/-- block B is a reader of bytes in block A that has made p picks -/
def RdAt (w : World) (B A : Nat) (p : Nat) : Prop :=
  ∃ a n cap, w.heap[B]? = some (.cells #[.slice a n cap, .int .i64 p] 95 (0, 0)) ∧ n ≤ 2000 ∧ A < w.heap.size ∧ BytesAt w B A a n

/-- .. at most q picks -/
def Rd (w : World) (B A : Nat) (q : Nat) : Prop := ∃ p, p ≤ q ∧ RdAt w B A p

theorem BytesAt.keep {w w' : World} {B A n : Nat} {a : Option Addr} (h : BytesAt w B A a n) (hk : A ≠ B → w'.heap[A]? = w.heap[A]?) : BytesAt w' B A a n := by
  rcases h with h | ⟨off, ha, hne, hc⟩
  · exact .inl h
  · refine .inr ⟨off, ha, hne, fun i hi => ?_⟩
    obtain ⟨z, h0, h1, hz⟩ := hc i hi
    exact ⟨z, h0, h1, (World.cell?_of_block (w := w) (a := ⟨A, off + i, none⟩) (hk hne)).trans hz⟩

theorem RdAt.lt {w : World} {B A p : Nat} (h : RdAt w B A p) : B < w.heap.size := by
  obtain ⟨a, n, cap, hh, _⟩ := h
  rcases Nat.lt_or_ge B w.heap.size with hlt | hge
  · exact hlt
  · rw [Array.getElem?_eq_none hge] at hh; cases hh
theorem Rd.lt {w : World} {B A q : Nat} (h : Rd w B A q) : B < w.heap.size := by obtain ⟨p, _, h⟩ := h; exact h.lt
theorem Rd.ltA {w : World} {B A q : Nat} (h : Rd w B A q) : A < w.heap.size := by obtain ⟨p, _, _, _, _, _, _, h, _⟩ := h; exact h
theorem RdAt.below {w w' : World} {B A p : Nat} (h : RdAt w B A p) (hb : Below w.heap.size w w') : RdAt w' B A p := by
  have hl := h.lt
  obtain ⟨a, n, cap, hh, hn, hA, hby⟩ := h
  exact ⟨a, n, cap, (hb.block B hl).trans hh, hn, Nat.lt_of_lt_of_le hA hb.size, hby.keep (fun _ => hb.block A hA)⟩
theorem Rd.below {w w' : World} {B A q : Nat} (h : Rd w B A q) (hb : Below w.heap.size w w') : Rd w' B A q := by
  obtain ⟨p, hp, h⟩ := h; exact ⟨p, hp, h.below hb⟩
theorem Rd.more {w : World} {B A q q' : Nat} (h : Rd w B A q) (hq : q ≤ q') : Rd w B A q' := by
  obtain ⟨p, hp, h⟩ := h; exact ⟨p, Nat.le_trans hp hq, h⟩
theorem Rd.alloc {w : World} {B A q : Nat} (h : Rd w B A q) (o : Obj) : Rd (w.alloc o) B A q := h.below ((Below.refl _ _).alloc (Nat.le_refl _) o)
theorem Rd.drew {w : World} {B A q : Nat} (h : Rd w B A q) : Rd w.drew B A q := h
/-- a store into another block -/
theorem Rd.set_ {w : World} {B A q : Nat} (h : Rd w B A q) {p : Addr} (hp : p.block ≠ B) (hA : p.block ≠ A) (v : Value) : Rd (w.setCell p v) B A q := by
  obtain ⟨r, hr, a, n, cap, hh, hn, hl, hby⟩ := h
  have hk : ∀ k, k ≠ p.block → (w.setCell p v).heap[k]? = w.heap[k]? := fun k hk => Below.heap_setCell _ _ _ _ hk
  exact ⟨r, hr, a, n, cap, (hk B (Ne.symm hp)).trans hh, hn, by simpa [World.setCell] using hl, hby.keep (fun _ => hk A (Ne.symm hA))⟩

/-- a pick from n: it lies in the range, the reader has made one pick more, only its block has turned -/
def Picked (n : Int) (B A q : Nat) (w : World) (e : Ending) (w' : World) : Prop :=
  ∃ k : Int, e = .returned (.int .i64 k) ∧ 0 ≤ k ∧ k < n ∧ Rd w' B A (q + 1) ∧ w.grownBy w' (some B)

theorem RdAt.cells {w : World} {B A p : Nat} (h : RdAt w B A p) : ∃ a n cap, w.cell? ⟨B, 0, none⟩ = some (.slice a n cap) ∧ w.cell? ⟨B, 1, none⟩ = some (.int .i64 p) ∧ w.frozen? ⟨B, 1, none⟩ = false ∧ n ≤ 2000 ∧ BytesAt w B A a n := by
  obtain ⟨a, n, cap, hh, hn, _, hby⟩ := h
  exact ⟨a, n, cap, by simp [World.cell?, hh], by simp [World.cell?, hh], by simp [World.frozen?, hh], hn, hby⟩

/-- the reader behind its own store -/
theorem RdAt.set_ {w : World} {B A p : Nat} (h : RdAt w B A p) (nq : Nat) : RdAt ((w.setCell ⟨B, 1, none⟩ (.int .i64 ((p : Int) + 1))).drewN nq) B A (p + 1) ∧ w.grownBy ((w.setCell ⟨B, 1, none⟩ (.int .i64 ((p : Int) + 1))).drewN nq) (some B) := by
  obtain ⟨a, n, cap, hh, hn, hl, hby⟩ := h
  have hk : ∀ k, k ≠ B → (w.setCell ⟨B, 1, none⟩ (.int .i64 ((p : Int) + 1))).heap[k]? = w.heap[k]? := fun k hk => Below.heap_setCell _ _ _ _ hk
  have hs : (w.setCell ⟨B, 1, none⟩ (.int .i64 ((p : Int) + 1))).heap.size = w.heap.size := by simp
  refine ⟨⟨a, n, cap, ?_, hn, ?_, hby.keep (w' := w.setCell ⟨B, 1, none⟩ (.int .i64 ((p : Int) + 1))) (fun h => hk A h)⟩, ⟨rfl, rfl, rfl, ?_, ?_⟩⟩
  · show (w.setCell ⟨B, 1, none⟩ (.int .i64 ((p : Int) + 1))).heap[B]? = _
    simp [World.setCell, Array.getElem?_modify, hh]
  · show A < (w.setCell ⟨B, 1, none⟩ (.int .i64 ((p : Int) + 1))).heap.size
    rw [hs]; exact hl
  · show w.heap.size ≤ (w.setCell ⟨B, 1, none⟩ (.int .i64 ((p : Int) + 1))).heap.size
    rw [hs]; exact Nat.le_refl _
  · intro k _ hne
    exact hk k (fun e => hne (by rw [e]))

/-- what a call keeps that turns block B and new ones alone -/
theorem bg {W w1 : World} {B : Nat} (hg : W.grownBy w1 (some B)) :
    (∀ b o, b < W.heap.size → b ≠ B → w1.cell? ⟨b, o, none⟩ = W.cell? ⟨b, o, none⟩) ∧ (∀ b o, b < W.heap.size → b ≠ B → w1.frozen? ⟨b, o, none⟩ = W.frozen? ⟨b, o, none⟩) ∧ W.heap.size ≤ w1.heap.size :=
  ⟨fun b o h hn => World.cell?_of_block (hg.block b h (fun e => hn (by injection e))), fun b o h hn => World.frozen?_of_block (hg.block b h (fun e => hn (by injection e))), hg.size⟩
theorem gb_refl (w : World) (B : Nat) : w.grownBy w (some B) := World.grownBy.refl w _
theorem gb_drew {a w : World} {B : Nat} (h : a.grownBy w (some B)) : a.grownBy w.drew (some B) := ⟨h.os, h.tape, h.output, h.size, h.block⟩
theorem gb_alloc {a w : World} {B : Nat} (h : a.grownBy w (some B)) (o : Obj) : a.grownBy (w.alloc o) (some B) :=
  ⟨h.os, h.tape, h.output, Nat.le_trans h.size (by simp), fun i hi hne => (Below.heap_alloc w o i (Nat.lt_of_lt_of_le hi h.size)).trans (h.block i hi hne)⟩
theorem gb_set {a w : World} {B : Nat} (h : a.grownBy w (some B)) {p : Addr} (hp : p.block = B ∨ a.heap.size ≤ p.block) (u : Value) : a.grownBy (w.setCell p u) (some B) :=
  ⟨h.os, h.tape, h.output, by simpa [World.setCell] using h.size, fun i hi hne => (Below.heap_setCell w p u i (by
    rintro rfl
    rcases hp with hp | hp
    · exact hne (by rw [hp])
    · omega)).trans (h.block i hi hne)⟩
theorem gb_step {a W w : World} {B : Nat} (h : a.grownBy W (some B)) (k : W.grownBy w (some B)) : a.grownBy w (some B) :=
  ⟨k.os.trans h.os, k.tape.trans h.tape, k.output.trans h.output, Nat.le_trans h.size k.size, fun i hi hne => (k.block i (Nat.lt_of_lt_of_le hi h.size) hne).trans (h.block i hi hne)⟩
theorem gb_bl {a W w : World} {B : Nat} (h : a.grownBy W (some B)) (k : Below W.heap.size W w) : a.grownBy w (some B) :=
  ⟨k.os.trans h.os, k.tape.trans h.tape, k.output.trans h.output, Nat.le_trans h.size k.size, fun i hi hne => (k.block i (Nat.lt_of_lt_of_le hi h.size)).trans (h.block i hi hne)⟩
end Go.Proofs.Ytcmcdomfmmjogaa
