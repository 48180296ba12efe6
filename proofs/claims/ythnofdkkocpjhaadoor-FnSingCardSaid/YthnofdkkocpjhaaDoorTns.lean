/-
  The names of a tone in all its hexachords, in the model.
-/
import Derived.Test.YthnofdkkocpjhaaDoorTnm
import Derived.Deep.RegionWith
import Derived.Laws.Concat
import Derived.Laws.IdiomStrings
import Derived.IntWalk
namespace Go.Proofs.YthnofdkkocpjhaaDoor
open Go.RowKit
set_option maxRecDepth 100000
set_option linter.unusedVariables false

theorem six_arr {y : Nat} (hy : y < 6) : (#[.string ⟨#[117, 116]⟩, .string ⟨#[114, 101]⟩, .string ⟨#[109, 105]⟩, .string ⟨#[102, 97]⟩, .string ⟨#[115, 111, 108]⟩, .string ⟨#[108, 97]⟩] : Array Value)[y]? = some (.string (syl y)) := by
  have : y = 0 ∨ y = 1 ∨ y = 2 ∨ y = 3 ∨ y = 4 ∨ y = 5 := by omega
  rcases this with rfl | rfl | rfl | rfl | rfl | rfl <;> rfl
theorem six_list {y : Nat} (hy : y < 6) : ([.string ⟨#[117, 116]⟩, .string ⟨#[114, 101]⟩, .string ⟨#[109, 105]⟩, .string ⟨#[102, 97]⟩, .string ⟨#[115, 111, 108]⟩, .string ⟨#[108, 97]⟩] : List Value)[y]? = some (.string (syl y)) := by
  have : y = 0 ∨ y = 1 ∨ y = 2 ∨ y = 3 ∨ y = 4 ∨ y = 5 := by omega
  rcases this with rfl | rfl | rfl | rfl | rfl | rfl <;> rfl
theorem six_get {y : Nat} (hy : y < 6) : ∀ h, ([.string ⟨#[117, 116]⟩, .string ⟨#[114, 101]⟩, .string ⟨#[109, 105]⟩, .string ⟨#[102, 97]⟩, .string ⟨#[115, 111, 108]⟩, .string ⟨#[108, 97]⟩] : List Value)[y]'h = .string (syl y) := by
  intro h
  have := six_list hy
  rw [List.getElem?_eq_getElem h] at this
  exact Option.some.inj this
theorem six_cell (W : World) (t : TypeId) {y : Nat} (hy : y < 6) : (W.alloc (.cells #[.string ⟨#[117, 116]⟩, .string ⟨#[114, 101]⟩, .string ⟨#[109, 105]⟩, .string ⟨#[102, 97]⟩, .string ⟨#[115, 111, 108]⟩, .string ⟨#[108, 97]⟩] t)).cell? ⟨W.heap.size, y, none⟩ = some (.string (syl y)) := by
  rw [World.cell?_alloc_new]; exact six_arr hy
end Go.Proofs.YthnofdkkocpjhaaDoor
