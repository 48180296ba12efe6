/-
  A small table of numbers, read at a drawn place.
-/
import Derived.Test.YtmipkodgkldmbaaDoorBase
namespace Go.Proofs.YtmipkodgkldmbaaDoor
open Go.RowKit
set_option maxRecDepth 100000
set_option linter.unusedVariables false

def sl (l : List Int) (k : Int) : Int := l.getD k.toNat 0
theorem sl_list {l : List Int} {k : Int} (h0 : 0 ≤ k) (h1 : k < l.length) : (l.map (Value.int .i64))[k.toNat]? = some (.int .i64 (sl l k)) := by
  have h : k.toNat < l.length := by omega
  simp [sl, List.getD_eq_getElem?_getD, h]
theorem sl_arr {l : List Int} {k : Int} (h0 : 0 ≤ k) (h1 : k < l.length) : ((l.map (Value.int .i64)).toArray)[k.toNat]? = some (.int .i64 (sl l k)) := by
  rw [List.getElem?_toArray]; exact sl_list h0 h1
theorem sl_get {l : List Int} {k : Int} (h0 : 0 ≤ k) (h1 : k < l.length) (h : k.toNat < (l.map (Value.int .i64)).length) : (l.map (Value.int .i64))[k.toNat] = .int .i64 (sl l k) := by
  have e := sl_list h0 h1
  rw [List.getElem?_eq_getElem h] at e
  exact Option.some.inj e
theorem sl_cell {w : World} {b : Nat} {l : List Int} {k : Int} (h0 : 0 ≤ k) (h1 : k < l.length) (c : ∀ j, j < l.length → w.cell? ⟨b, j, none⟩ = some (.int .i64 (l.getD j 0))) : w.cell? ⟨b, k.toNat, none⟩ = some (.int .i64 (sl l k)) := c _ (by omega)
theorem sl_bd {l : List Int} {k : Int} (h : ∀ x, x ∈ l → -9223372036854775808 ≤ x ∧ x ≤ 9223372036854775807) : -9223372036854775808 ≤ sl l k ∧ sl l k ≤ 9223372036854775807 := by
  unfold sl
  rw [List.getD_eq_getElem?_getD]
  cases e : l[k.toNat]? with
  | none => exact ⟨by decide, by decide⟩
  | some x => exact h x (List.mem_of_getElem? e)
theorem ten_cell {w : World} {b : Nat} {k : Int} {x0 x1 x2 x3 x4 x5 x6 x7 x8 x9 : Int} (h0 : 0 ≤ k) (h1 : k < 10) (c0 : w.cell? ⟨b, 0, none⟩ = some (.int .i64 x0)) (c1 : w.cell? ⟨b, 1, none⟩ = some (.int .i64 x1)) (c2 : w.cell? ⟨b, 2, none⟩ = some (.int .i64 x2)) (c3 : w.cell? ⟨b, 3, none⟩ = some (.int .i64 x3)) (c4 : w.cell? ⟨b, 4, none⟩ = some (.int .i64 x4)) (c5 : w.cell? ⟨b, 5, none⟩ = some (.int .i64 x5)) (c6 : w.cell? ⟨b, 6, none⟩ = some (.int .i64 x6)) (c7 : w.cell? ⟨b, 7, none⟩ = some (.int .i64 x7)) (c8 : w.cell? ⟨b, 8, none⟩ = some (.int .i64 x8)) (c9 : w.cell? ⟨b, 9, none⟩ = some (.int .i64 x9)) : w.cell? ⟨b, k.toNat, none⟩ = some (.int .i64 (sl [x0, x1, x2, x3, x4, x5, x6, x7, x8, x9] k)) := by
  refine sl_cell h0 (by simpa using h1) fun j hj => ?_
  match j, hj with
  | 0, _ => exact c0
  | 1, _ => exact c1
  | 2, _ => exact c2
  | 3, _ => exact c3
  | 4, _ => exact c4
  | 5, _ => exact c5
  | 6, _ => exact c6
  | 7, _ => exact c7
  | 8, _ => exact c8
  | 9, _ => exact c9
end Go.Proofs.YtmipkodgkldmbaaDoor
