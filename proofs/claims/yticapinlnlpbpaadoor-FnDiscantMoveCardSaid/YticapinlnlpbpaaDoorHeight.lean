/-
  The height of a tone: the program reads its table, the model a list of its own.
-/
import Derived.Test.YticapinlnlpbpaaDoorTones
import Derived.IntWalk
import Derived.Deep.QuietTactic
import Derived.BigQuiet
import Derived.Deep.RegionWith
namespace Go.Proofs.YticapinlnlpbpaaDoor
open Go.RowKit
set_option maxRecDepth 100000
set_option linter.unusedVariables false

theorem bl_drewN {B : Nat} {a w : World} (h : Below B a w) (n : Nat) : Below B a (w.drewN n) := ⟨h.os, h.tape, h.output, h.size, h.block⟩

/-- the height of a step within its octave -/
def hT (i : Nat) : Int := ([0, 2, 4, 5, 7, 9, 10] : List Int).getD i 0
def hgt (s : Int) (b : Bool) : Int := hT (s % 7).toNat + s / 7 * 12 - (if b then 1 else 0)
theorem hT_bd (i : Nat) (h : i < 7) : 0 ≤ hT i ∧ hT i ≤ 10 := by
  have : i = 0 ∨ i = 1 ∨ i = 2 ∨ i = 3 ∨ i = 4 ∨ i = 5 ∨ i = 6 := by omega
  rcases this with rfl | rfl | rfl | rfl | rfl | rfl | rfl <;> decide
/-- the height that is told, 0 for no tone -/
def hgv (s : Int) (b : Bool) : Int := if vd s b then hgt s b else 0
theorem hgv_no {s : Int} {b : Bool} (h : vd s b = false) : hgv s b = 0 := by simp [hgv, h]
theorem hgv_yes {s : Int} {b : Bool} (h : vd s b = true) : hgv s b = hgt s b := by simp [hgv, h]

/-- the program's table stands in memory -/
def StepTab (w : World) : Prop := ∀ i, i < 7 → w.cell? ⟨1, i, none⟩ = some (.int .i64 (hT i))
theorem StepTab.below {w w' : World} (h : StepTab w) (hb : Below w.heap.size w w') : StepTab w' := fun i hi => by
  have h0 := h i hi
  exact (hb.cell (p := ⟨1, i, none⟩) (World.block_lt_of_cell? w ⟨1, i, none⟩ h0)).trans h0

theorem seven (s : Int) (h0 : 0 ≤ s) (h1 : s ≤ 20) : ∃ i q : Nat, s.tmod 7 = (i : Int) ∧ s.tdiv 7 = (q : Int) ∧ s % 7 = (i : Int) ∧ s / 7 = (q : Int) ∧ i < 7 ∧ q ≤ 2 :=
  ⟨(s % 7).toNat, (s / 7).toNat, by rw [Int.tmod_eq_emod_of_nonneg h0]; omega, by rw [Int.tdiv_eq_ediv_of_nonneg h0]; omega, by omega, by omega, by omega, by omega⟩

set_option maxHeartbeats 1000000 in
theorem height_any (s : Int) (b : Bool) (h0 : 0 ≤ s) (h1 : s ≤ 20) (w : World) (ht : StepTab w) :
    Calls Tryd.prog 69 #[.agg #[.int .i64 s, .bool b]] w fun e w' => e = .returned (.int .i64 (hgt s b)) ∧ Below w.heap.size w w' := by
  obtain ⟨i, q, e1, e2, e3, e4, hi, hq⟩ := seven s h0 h1
  have ct := ht.below ((Below.refl _ _).alloc (Nat.le_refl _) (.cells #[.int .i64 s, .bool b] 41)) i hi
  obtain ⟨z0, z1⟩ := hT_bd i hi
  have HV : Hid (hgt s b = hT i + (q : Int) * 12 - (if b then 1 else 0)) := by unfold hgt; rw [e3, e4]; rfl
  generalize hT i = z at ct z0 z1 HV
  have i0 : (0 : Int) ≤ (i : Int) := by omega
  have i1 : (i : Int) < 7 := by omega
  have s1 : IntKind.i64.wrap (q : Int) = (q : Int) := IntWalk.i64_in _ (by omega)
  have s2 : IntKind.i64.wrap ((q : Int) * 12) = (q : Int) * 12 := IntWalk.i64_in _ (by omega)
  have s3 : IntKind.i64.wrap (z + (q : Int) * 12) = z + (q : Int) * 12 := IntWalk.i64_in _ (by omega)
  clear ht
  cases b
  · go_enter Tryd.func69, Tryd.ntmps69
    go_wp2
    go_quiet (fail)
    go_wp2
    go_ret
    exact ⟨by rw [HV.out]; simp, bl_drewN (by (repeat' (first | (with_reducible exact Below.refl _ _) | (with_reducible refine Below.alloc ?_ ?_ _) | (with_reducible refine Below.drew ?_) | (with_reducible refine Below.setCell ?_ ?_ _) | (with_reducible refine bl_step ?_ (by assumption)) | go_size))) _⟩
  · go_enter Tryd.func69, Tryd.ntmps69
    go_wp2
    go_quiet (fail)
    go_wp2
    go_ret
    exact ⟨by rw [HV.out]; simp, bl_drewN (by (repeat' (first | (with_reducible exact Below.refl _ _) | (with_reducible refine Below.alloc ?_ ?_ _) | (with_reducible refine Below.drew ?_) | (with_reducible refine Below.setCell ?_ ?_ _) | (with_reducible refine bl_step ?_ (by assumption)) | go_size))) _⟩

theorem hT_arr (i : Nat) (h : i < 7) : (#[.int .i64 0, .int .i64 2, .int .i64 4, .int .i64 5, .int .i64 7, .int .i64 9, .int .i64 10] : Array Value)[i]? = some (.int .i64 (hT i)) := by
  have : i = 0 ∨ i = 1 ∨ i = 2 ∨ i = 3 ∨ i = 4 ∨ i = 5 ∨ i = 6 := by omega
  rcases this with rfl | rfl | rfl | rfl | rfl | rfl | rfl <;> rfl
theorem hT_list (i : Nat) (h : i < 7) : ([.int .i64 0, .int .i64 2, .int .i64 4, .int .i64 5, .int .i64 7, .int .i64 9, .int .i64 10] : List Value)[i]? = some (.int .i64 (hT i)) := by
  have : i = 0 ∨ i = 1 ∨ i = 2 ∨ i = 3 ∨ i = 4 ∨ i = 5 ∨ i = 6 := by omega
  rcases this with rfl | rfl | rfl | rfl | rfl | rfl | rfl <;> rfl
theorem hT_get (i : Nat) (h : i < 7) (h' : i < ([.int .i64 0, .int .i64 2, .int .i64 4, .int .i64 5, .int .i64 7, .int .i64 9, .int .i64 10] : List Value).length) :
    ([.int .i64 0, .int .i64 2, .int .i64 4, .int .i64 5, .int .i64 7, .int .i64 9, .int .i64 10] : List Value)[i] = .int .i64 (hT i) := by
  have := hT_list i h
  rw [List.getElem?_eq_getElem h'] at this
  exact Option.some.inj this

set_option maxHeartbeats 4000000 in
theorem l1Height_any (s : Int) (b : Bool) (h0 : 0 ≤ s) (h1 : s ≤ 20) (w : World) :
    Calls Tryd.prog 88 #[.agg #[.int .i64 s, .bool b]] w fun e w' => e = .returned (.int .i64 (hgt s b)) ∧ Below w.heap.size w w' := by
  obtain ⟨i, q, e1, e2, e3, e4, hi, hq⟩ := seven s h0 h1
  have x1 := hT_arr i hi
  have x2 := hT_list i hi
  have x3 := hT_get i hi
  obtain ⟨z0, z1⟩ := hT_bd i hi
  have HV : Hid (hgt s b = hT i + (q : Int) * 12 - (if b then 1 else 0)) := by unfold hgt; rw [e3, e4]; rfl
  generalize hT i = z at x1 x2 x3 z0 z1 HV
  have i0 : (0 : Int) ≤ (i : Int) := by omega
  have i1 : (i : Int) < 7 := by omega
  have s1 : IntKind.i64.wrap (q : Int) = (q : Int) := IntWalk.i64_in _ (by omega)
  have s2 : IntKind.i64.wrap (12 * (q : Int)) = 12 * (q : Int) := IntWalk.i64_in _ (by omega)
  have s3 : IntKind.i64.wrap (12 * (q : Int) + z) = 12 * (q : Int) + z := IntWalk.i64_in _ (by omega)
  cases b
  · go_enter Tryd.func88, Tryd.ntmps88
    go_wp2
    go_region_with (go_at_call 93; refine (l1Letter_any _ h0 _).mono ?_; rintro e wx ⟨rfl, rfl⟩)
    all_goals go_wp2
    all_goals go_ret
    all_goals exact ⟨by rw [HV.out]; simp; omega, by (repeat' (first | (with_reducible exact Below.refl _ _) | (with_reducible refine Below.alloc ?_ ?_ _) | (with_reducible refine Below.drew ?_) | (with_reducible refine Below.setCell ?_ ?_ _) | (with_reducible refine bl_step ?_ (by assumption)) | go_size))⟩
  · go_enter Tryd.func88, Tryd.ntmps88
    go_wp2
    go_region_with (go_at_call 93; refine (l1Letter_any _ h0 _).mono ?_; rintro e wx ⟨rfl, rfl⟩)
    all_goals go_wp2
    all_goals go_ret
    all_goals exact ⟨by rw [HV.out]; simp; omega, by (repeat' (first | (with_reducible exact Below.refl _ _) | (with_reducible refine Below.alloc ?_ ?_ _) | (with_reducible refine Below.drew ?_) | (with_reducible refine Below.setCell ?_ ?_ _) | (with_reducible refine bl_step ?_ (by assumption)) | go_size))⟩
end Go.Proofs.YticapinlnlpbpaaDoor
