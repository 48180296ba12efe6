/-
  The contracts of the functions on hexachords.
-/
import Derived.Test.YthnofdkkocpjhaaDoorTones
namespace Go.Proofs.YthnofdkkocpjhaaDoor
open Go.RowKit
set_option maxRecDepth 100000
set_option linter.unusedVariables false

/-- the table's cells -/
def hexTbl : Array Value := #[.int .i64 0, .string ⟨#[104, 97, 114, 100]⟩, .int .i64 3, .string ⟨#[110, 97, 116, 117, 114, 97, 108]⟩, .int .i64 6, .string ⟨#[115, 111, 102, 116]⟩,
  .int .i64 7, .string ⟨#[104, 97, 114, 100]⟩, .int .i64 10, .string ⟨#[110, 97, 116, 117, 114, 97, 108]⟩, .int .i64 13, .string ⟨#[115, 111, 102, 116]⟩, .int .i64 14, .string ⟨#[104, 97, 114, 100]⟩]

theorem newHex_any (w : World) :
    Calls Tryd.prog 42 #[] w fun e w' => e = .returned (.pointer (some ⟨w.heap.size, 0, none⟩)) ∧ w.alloc (.cells hexTbl 86) = w' := by
  go_enter Tryd.func42, Tryd.ntmps42
  go_wp2
  go_ret
  exact ⟨rfl, rfl⟩

/-- block B holds the table -/
def HexAt (w : World) (B : Nat) : Prop := ∀ i v, hexTbl[i]? = some v → w.cell? ⟨B, i, none⟩ = some v
theorem HexAt.new (w : World) : HexAt (w.alloc (.cells hexTbl 86)) w.heap.size := fun i v h => by rw [World.cell?_alloc_new]; exact h
theorem HexAt.new' {w : World} {B : Nat} (h : w.heap.size = B) : HexAt (w.alloc (.cells hexTbl 86)) B := h ▸ HexAt.new w
theorem HexAt.below {w w' : World} {B : Nat} (h : HexAt w B) (hb : Below w.heap.size w w') (hB : B < w.heap.size) : HexAt w' B := fun i v hv => (hb.cell (p := ⟨B, i, none⟩) hB).trans (h i v hv)
theorem HexAt.firsts {w : World} {B : Nat} (h : HexAt w B) : w.cell? ⟨B, 0, none⟩ = some (.int .i64 0) ∧ w.cell? ⟨B, 2, none⟩ = some (.int .i64 3) ∧ w.cell? ⟨B, 4, none⟩ = some (.int .i64 6) ∧
    w.cell? ⟨B, 6, none⟩ = some (.int .i64 7) ∧ w.cell? ⟨B, 8, none⟩ = some (.int .i64 10) ∧ w.cell? ⟨B, 10, none⟩ = some (.int .i64 13) ∧ w.cell? ⟨B, 12, none⟩ = some (.int .i64 14) :=
  ⟨h _ _ rfl, h _ _ rfl, h _ _ rfl, h _ _ rfl, h _ _ rfl, h _ _ rfl, h _ _ rfl⟩
theorem HexAt.row {w : World} {B : Nat} (h : HexAt w B) {n : Int} (hn : hxv n = true) : w.cell? ⟨B, 2 * hix n, none⟩ = some (.int .i64 n) ∧ w.cell? ⟨B, 2 * hix n + 1, none⟩ = some (.string (hkd n)) := by
  rcases hxv_cases hn with rfl | rfl | rfl | rfl | rfl | rfl | rfl <;> exact ⟨h _ _ rfl, h _ _ rfl⟩

set_option maxHeartbeats 1000000 in
theorem at_no (B : Nat) (n : Int) (hn : hxv n = false) (w : World) (h : HexAt w B) :
    Calls Tryd.prog 47 #[.pointer (some ⟨B, 0, none⟩), .int .i64 n] w fun e w' => e = .returned (.pointer none) ∧ w = w' := by
  obtain ⟨c0, c1, c2, c3, c4, c5, c6⟩ := h.firsts
  obtain ⟨n0, n1, n2, n3, n4, n5, n6⟩ := hxv_not hn
  have e0 : ((0 : Int) == n) = false := by simp; omega
  have e1 : ((3 : Int) == n) = false := by simp; omega
  have e2 : ((6 : Int) == n) = false := by simp; omega
  have e3 : ((7 : Int) == n) = false := by simp; omega
  have e4 : ((10 : Int) == n) = false := by simp; omega
  have e5 : ((13 : Int) == n) = false := by simp; omega
  have e6 : ((14 : Int) == n) = false := by simp; omega
  clear n0 n1 n2 n3 n4 n5 n6 h
  go_enter Tryd.func47, Tryd.ntmps47
  go_wp2
  go_rounds 8
  go_ret
  exact ⟨rfl, rfl⟩

set_option maxHeartbeats 1000000 in
theorem at_yes (B : Nat) (n : Int) (hn : hxv n = true) (w : World) (h : HexAt w B) :
    Calls Tryd.prog 47 #[.pointer (some ⟨B, 0, none⟩), .int .i64 n] w fun e w' => e = .returned (.pointer (some ⟨B, 2 * hix n, none⟩)) ∧ w = w' := by
  obtain ⟨c0, c1, c2, c3, c4, c5, c6⟩ := h.firsts
  clear h
  rcases hxv_cases hn with rfl | rfl | rfl | rfl | rfl | rfl | rfl
  all_goals
    go_enter Tryd.func47, Tryd.ntmps47
    go_wp2
    go_rounds 8
    go_ret
    exact ⟨rfl, rfl⟩
end Go.Proofs.YthnofdkkocpjhaaDoor
