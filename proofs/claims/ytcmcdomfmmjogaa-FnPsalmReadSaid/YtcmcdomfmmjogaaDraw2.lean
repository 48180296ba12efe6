/-
  The draws of ToneAbove's and HexTone's arguments return.
-/
import Derived.Test.YtcmcdomfmmjogaaDraw1
namespace Go.Proofs.Ytcmcdomfmmjogaa
open Go.RowKit
set_option maxRecDepth 100000
set_option linter.unusedVariables false

theorem CodeAt.below {w w' : World} {a : Option Addr} {n : Nat} (h : CodeAt w a n) (hb : Below w.heap.size w w') : CodeAt w' a n := by
  rcases h with h | ⟨A, off, ha, hA, hc⟩
  · exact .inl h
  · refine .inr ⟨A, off, ha, Nat.lt_of_lt_of_le hA hb.size, fun i hi => ?_⟩
    obtain ⟨z, h0, h1, hz⟩ := hc i hi
    exact ⟨z, h0, h1, (hb.cell (p := ⟨A, off + i, none⟩) hA).trans hz⟩
theorem CodeAt.alloc {w : World} {a : Option Addr} {n : Nat} (h : CodeAt w a n) (o : Obj) : CodeAt (w.alloc o) a n := h.below ((Below.refl _ _).alloc (Nat.le_refl _) o)

def sel3 (x y z k : Int) : Int := if k = 0 then x else if k = 1 then y else z

theorem sel3_cell {w : World} {b : Nat} {x y z k : Int} (h0 : 0 ≤ k) (h1 : k < 3) (c0 : w.cell? ⟨b, 0, none⟩ = some (.int .i64 x)) (c1 : w.cell? ⟨b, 1, none⟩ = some (.int .i64 y)) (c2 : w.cell? ⟨b, 2, none⟩ = some (.int .i64 z)) :
    w.cell? ⟨b, k.toNat, none⟩ = some (.int .i64 (sel3 x y z k)) := by
  have : k = 0 ∨ k = 1 ∨ k = 2 := by omega
  rcases this with rfl | rfl | rfl
  · exact c0
  · exact c1
  · exact c2
theorem sel2_cell {w : World} {b : Nat} {x y k : Int} (h0 : 0 ≤ k) (h1 : k < 2) (c0 : w.cell? ⟨b, 0, none⟩ = some (.int .i64 x)) (c1 : w.cell? ⟨b, 1, none⟩ = some (.int .i64 y)) :
    w.cell? ⟨b, k.toNat, none⟩ = some (.int .i64 (sel3 x y 0 k)) := by
  have : k = 0 ∨ k = 1 := by omega
  rcases this with rfl | rfl
  · exact c0
  · exact c1
theorem sel3_arr {x y z k : Int} (h0 : 0 ≤ k) (h1 : k < 3) : (#[.int .i64 x, .int .i64 y, .int .i64 z] : Array Value)[k.toNat]? = some (.int .i64 (sel3 x y z k)) := by
  have : k = 0 ∨ k = 1 ∨ k = 2 := by omega
  rcases this with rfl | rfl | rfl <;> rfl
theorem sel3_list {x y z k : Int} (h0 : 0 ≤ k) (h1 : k < 3) : ([.int .i64 x, .int .i64 y, .int .i64 z] : List Value)[k.toNat]? = some (.int .i64 (sel3 x y z k)) := by
  have : k = 0 ∨ k = 1 ∨ k = 2 := by omega
  rcases this with rfl | rfl | rfl <;> rfl
theorem sel2_arr {x y k : Int} (h0 : 0 ≤ k) (h1 : k < 2) : (#[.int .i64 x, .int .i64 y] : Array Value)[k.toNat]? = some (.int .i64 (sel3 x y 0 k)) := by
  have : k = 0 ∨ k = 1 := by omega
  rcases this with rfl | rfl <;> rfl
theorem sel2_list {x y k : Int} (h0 : 0 ≤ k) (h1 : k < 2) : ([.int .i64 x, .int .i64 y] : List Value)[k.toNat]? = some (.int .i64 (sel3 x y 0 k)) := by
  have : k = 0 ∨ k = 1 := by omega
  rcases this with rfl | rfl <;> rfl
theorem sel3_get {x y z k : Int} (h0 : 0 ≤ k) (h1 : k < 3) (h : k.toNat < ([.int .i64 x, .int .i64 y, .int .i64 z] : List Value).length) : ([.int .i64 x, .int .i64 y, .int .i64 z] : List Value)[k.toNat] = .int .i64 (sel3 x y z k) := by
  have := sel3_list (x := x) (y := y) (z := z) h0 h1
  rw [List.getElem?_eq_getElem h] at this
  exact Option.some.inj this
theorem sel2_get {x y k : Int} (h0 : 0 ≤ k) (h1 : k < 2) (h : k.toNat < ([.int .i64 x, .int .i64 y] : List Value).length) : ([.int .i64 x, .int .i64 y] : List Value)[k.toNat] = .int .i64 (sel3 x y 0 k) := by
  have := sel2_list (x := x) (y := y) h0 h1
  rw [List.getElem?_eq_getElem h] at this
  exact Option.some.inj this
theorem sel3_bd {x y z k : Int} (lo hi : Int) (hx : lo ≤ x ∧ x ≤ hi) (hy : lo ≤ y ∧ y ≤ hi) (hz : lo ≤ z ∧ z ≤ hi) : lo ≤ sel3 x y z k ∧ sel3 x y z k ≤ hi := by
  unfold sel3; split
  · exact hx
  · split
    · exact hy
    · exact hz

/-- a reader's step behind older memory -/
theorem below_gb {w W w1 : World} {B : Nat} (h : Below w.heap.size w W) (hg : W.grownBy w1 (some B)) (hB : w.heap.size ≤ B) : Below w.heap.size w w1 :=
  h.grown hg h.size (fun k hk => by injection hk with hk; omega)

def DrewAbove (w : World) (e : Ending) (w' : World) : Prop :=
  ∃ (s : Int) (b : Bool) (k : Int) (c : Bool), e = .returned (.tuple #[.agg #[.int .i64 s, .bool b], .int .i64 k, .bool c]) ∧ -1 ≤ s ∧ s ≤ 21 ∧ -9223372036854775808 ≤ k ∧ k ≤ 9223372036854775807 ∧ Below w.heap.size w w'
end Go.Proofs.Ytcmcdomfmmjogaa
