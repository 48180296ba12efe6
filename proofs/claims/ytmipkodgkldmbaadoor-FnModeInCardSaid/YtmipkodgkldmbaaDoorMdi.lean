/-
  Modes in the program: their steps, and what is told of one.
-/
import Derived.Test.YtmipkodgkldmbaaDoorMdm
import Derived.Test.YtmipkodgkldmbaaDoorTones
import Derived.Deep.QuietTactic
import Derived.BigQuiet
import Derived.IntWalk
namespace Go.Proofs.YtmipkodgkldmbaaDoor
open Go.RowKit
set_option maxRecDepth 100000
set_option linter.unusedVariables false

/-- the program's table of the tenors stands in memory -/
def TenTab (w : World) : Prop := ∀ i, i < 8 → w.cell? ⟨0, i, none⟩ = some (.int .i64 (tnr i))
theorem TenTab.below {w w' : World} (h : TenTab w) (hb : Below w.heap.size w w') : TenTab w' := fun i hi => by
  have h0 := h i hi
  exact (hb.cell (p := ⟨0, i, none⟩) (World.block_lt_of_cell? w ⟨0, i, none⟩ h0)).trans h0

/-- the world in which the table is read -/
abbrev mdW (w : World) : World := w.alloc (.cells #[.int .i64 0, .int .i64 0, .int .i64 0, .int .i64 0] 55)
def mdTup (k : Int) : Value := .tuple #[.agg #[.int .i64 (nF k), .int .i64 (nT k), .int .i64 (mdL k), .int .i64 (mdH k)], .bool (mdv k)]

set_option maxHeartbeats 2000000 in
theorem newMode_1 (w : World) (ht : TenTab w) :
    Calls Tryd.prog 49 #[.int .i64 1] w fun e w' => e = .returned (mdTup 1) ∧ Below w.heap.size w w' := by
  have c0 : (mdW w).cell? ⟨0, 0, none⟩ = some (.int .i64 8) := ht.below ((Below.refl _ _).alloc (Nat.le_refl _) _) 0 (by omega)
  clear ht
  go_enter Tryd.func49, Tryd.ntmps49
  go_wp2
  refine bodyPost_ret (v := .tuple #[.agg #[.int .i64 4, .int .i64 8, .int .i64 3, .int .i64 12], .bool true]) (by simp only [results, Tryd.results49]; go_simp) rfl ⟨by kernel_rfl, ?_⟩
  (repeat' (first | (with_reducible assumption) | (with_reducible exact Below.refl _ _) | (with_reducible refine Below.alloc ?_ ?_ _) | (with_reducible refine Below.drew ?_) | (with_reducible refine bl_drewN ?_ _) | (with_reducible refine Below.setCell ?_ ?_ _) | (with_reducible refine bl_step ?_ (by assumption)) | go_size))

set_option maxHeartbeats 2000000 in
theorem newMode_2 (w : World) (ht : TenTab w) :
    Calls Tryd.prog 49 #[.int .i64 2] w fun e w' => e = .returned (mdTup 2) ∧ Below w.heap.size w w' := by
  have c0 : (mdW w).cell? ⟨0, 1, none⟩ = some (.int .i64 6) := ht.below ((Below.refl _ _).alloc (Nat.le_refl _) _) 1 (by omega)
  clear ht
  go_enter Tryd.func49, Tryd.ntmps49
  go_wp2
  refine bodyPost_ret (v := .tuple #[.agg #[.int .i64 4, .int .i64 6, .int .i64 0, .int .i64 9], .bool true]) (by simp only [results, Tryd.results49]; go_simp) rfl ⟨by kernel_rfl, ?_⟩
  (repeat' (first | (with_reducible assumption) | (with_reducible exact Below.refl _ _) | (with_reducible refine Below.alloc ?_ ?_ _) | (with_reducible refine Below.drew ?_) | (with_reducible refine bl_drewN ?_ _) | (with_reducible refine Below.setCell ?_ ?_ _) | (with_reducible refine bl_step ?_ (by assumption)) | go_size))

set_option maxHeartbeats 2000000 in
theorem newMode_3 (w : World) (ht : TenTab w) :
    Calls Tryd.prog 49 #[.int .i64 3] w fun e w' => e = .returned (mdTup 3) ∧ Below w.heap.size w w' := by
  have c0 : (mdW w).cell? ⟨0, 2, none⟩ = some (.int .i64 10) := ht.below ((Below.refl _ _).alloc (Nat.le_refl _) _) 2 (by omega)
  clear ht
  go_enter Tryd.func49, Tryd.ntmps49
  go_wp2
  refine bodyPost_ret (v := .tuple #[.agg #[.int .i64 5, .int .i64 10, .int .i64 4, .int .i64 13], .bool true]) (by simp only [results, Tryd.results49]; go_simp) rfl ⟨by kernel_rfl, ?_⟩
  (repeat' (first | (with_reducible assumption) | (with_reducible exact Below.refl _ _) | (with_reducible refine Below.alloc ?_ ?_ _) | (with_reducible refine Below.drew ?_) | (with_reducible refine bl_drewN ?_ _) | (with_reducible refine Below.setCell ?_ ?_ _) | (with_reducible refine bl_step ?_ (by assumption)) | go_size))

set_option maxHeartbeats 2000000 in
theorem newMode_4 (w : World) (ht : TenTab w) :
    Calls Tryd.prog 49 #[.int .i64 4] w fun e w' => e = .returned (mdTup 4) ∧ Below w.heap.size w w' := by
  have c0 : (mdW w).cell? ⟨0, 3, none⟩ = some (.int .i64 8) := ht.below ((Below.refl _ _).alloc (Nat.le_refl _) _) 3 (by omega)
  clear ht
  go_enter Tryd.func49, Tryd.ntmps49
  go_wp2
  refine bodyPost_ret (v := .tuple #[.agg #[.int .i64 5, .int .i64 8, .int .i64 1, .int .i64 10], .bool true]) (by simp only [results, Tryd.results49]; go_simp) rfl ⟨by kernel_rfl, ?_⟩
  (repeat' (first | (with_reducible assumption) | (with_reducible exact Below.refl _ _) | (with_reducible refine Below.alloc ?_ ?_ _) | (with_reducible refine Below.drew ?_) | (with_reducible refine bl_drewN ?_ _) | (with_reducible refine Below.setCell ?_ ?_ _) | (with_reducible refine bl_step ?_ (by assumption)) | go_size))

set_option maxHeartbeats 2000000 in
theorem newMode_5 (w : World) (ht : TenTab w) :
    Calls Tryd.prog 49 #[.int .i64 5] w fun e w' => e = .returned (mdTup 5) ∧ Below w.heap.size w w' := by
  have c0 : (mdW w).cell? ⟨0, 4, none⟩ = some (.int .i64 10) := ht.below ((Below.refl _ _).alloc (Nat.le_refl _) _) 4 (by omega)
  clear ht
  go_enter Tryd.func49, Tryd.ntmps49
  go_wp2
  refine bodyPost_ret (v := .tuple #[.agg #[.int .i64 6, .int .i64 10, .int .i64 5, .int .i64 14], .bool true]) (by simp only [results, Tryd.results49]; go_simp) rfl ⟨by kernel_rfl, ?_⟩
  (repeat' (first | (with_reducible assumption) | (with_reducible exact Below.refl _ _) | (with_reducible refine Below.alloc ?_ ?_ _) | (with_reducible refine Below.drew ?_) | (with_reducible refine bl_drewN ?_ _) | (with_reducible refine Below.setCell ?_ ?_ _) | (with_reducible refine bl_step ?_ (by assumption)) | go_size))

set_option maxHeartbeats 2000000 in
theorem newMode_6 (w : World) (ht : TenTab w) :
    Calls Tryd.prog 49 #[.int .i64 6] w fun e w' => e = .returned (mdTup 6) ∧ Below w.heap.size w w' := by
  have c0 : (mdW w).cell? ⟨0, 5, none⟩ = some (.int .i64 8) := ht.below ((Below.refl _ _).alloc (Nat.le_refl _) _) 5 (by omega)
  clear ht
  go_enter Tryd.func49, Tryd.ntmps49
  go_wp2
  refine bodyPost_ret (v := .tuple #[.agg #[.int .i64 6, .int .i64 8, .int .i64 2, .int .i64 11], .bool true]) (by simp only [results, Tryd.results49]; go_simp) rfl ⟨by kernel_rfl, ?_⟩
  (repeat' (first | (with_reducible assumption) | (with_reducible exact Below.refl _ _) | (with_reducible refine Below.alloc ?_ ?_ _) | (with_reducible refine Below.drew ?_) | (with_reducible refine bl_drewN ?_ _) | (with_reducible refine Below.setCell ?_ ?_ _) | (with_reducible refine bl_step ?_ (by assumption)) | go_size))

set_option maxHeartbeats 2000000 in
theorem newMode_7 (w : World) (ht : TenTab w) :
    Calls Tryd.prog 49 #[.int .i64 7] w fun e w' => e = .returned (mdTup 7) ∧ Below w.heap.size w w' := by
  have c0 : (mdW w).cell? ⟨0, 6, none⟩ = some (.int .i64 11) := ht.below ((Below.refl _ _).alloc (Nat.le_refl _) _) 6 (by omega)
  clear ht
  go_enter Tryd.func49, Tryd.ntmps49
  go_wp2
  refine bodyPost_ret (v := .tuple #[.agg #[.int .i64 7, .int .i64 11, .int .i64 6, .int .i64 15], .bool true]) (by simp only [results, Tryd.results49]; go_simp) rfl ⟨by kernel_rfl, ?_⟩
  (repeat' (first | (with_reducible assumption) | (with_reducible exact Below.refl _ _) | (with_reducible refine Below.alloc ?_ ?_ _) | (with_reducible refine Below.drew ?_) | (with_reducible refine bl_drewN ?_ _) | (with_reducible refine Below.setCell ?_ ?_ _) | (with_reducible refine bl_step ?_ (by assumption)) | go_size))

set_option maxHeartbeats 2000000 in
theorem newMode_8 (w : World) (ht : TenTab w) :
    Calls Tryd.prog 49 #[.int .i64 8] w fun e w' => e = .returned (mdTup 8) ∧ Below w.heap.size w w' := by
  have c0 : (mdW w).cell? ⟨0, 7, none⟩ = some (.int .i64 10) := ht.below ((Below.refl _ _).alloc (Nat.le_refl _) _) 7 (by omega)
  clear ht
  go_enter Tryd.func49, Tryd.ntmps49
  go_wp2
  refine bodyPost_ret (v := .tuple #[.agg #[.int .i64 7, .int .i64 10, .int .i64 3, .int .i64 12], .bool true]) (by simp only [results, Tryd.results49]; go_simp) rfl ⟨by kernel_rfl, ?_⟩
  (repeat' (first | (with_reducible assumption) | (with_reducible exact Below.refl _ _) | (with_reducible refine Below.alloc ?_ ?_ _) | (with_reducible refine Below.drew ?_) | (with_reducible refine bl_drewN ?_ _) | (with_reducible refine Below.setCell ?_ ?_ _) | (with_reducible refine bl_step ?_ (by assumption)) | go_size))

set_option maxHeartbeats 4000000 in
theorem newMode_no (k : Int) (w : World) (h : mdv k = false) :
    Calls Tryd.prog 49 #[.int .i64 k] w fun e w' => e = .returned (mdTup k) ∧ Below w.heap.size w w' := by
  obtain ⟨_, _, e1, e2, e3, e4, _⟩ := md_no h
  unfold mdTup
  rw [e1, e2, e3, e4, h]
  clear e1 e2 e3 e4
  by_cases h0 : k < 1
  · go_enter Tryd.func49, Tryd.ntmps49
    go_wp2
    refine bodyPost_ret (v := .tuple #[.agg #[.int .i64 0, .int .i64 0, .int .i64 0, .int .i64 0], .bool false]) (by simp only [results, Tryd.results49]; go_simp) rfl ⟨rfl, ?_⟩
    (repeat' (first | (with_reducible assumption) | (with_reducible exact Below.refl _ _) | (with_reducible refine Below.alloc ?_ ?_ _) | (with_reducible refine Below.drew ?_) | (with_reducible refine bl_drewN ?_ _) | (with_reducible refine Below.setCell ?_ ?_ _) | (with_reducible refine bl_step ?_ (by assumption)) | go_size))
  have h1 : 8 < k := by
    rcases Int.lt_or_le 8 k with g | g
    · exact g
    · rw [mdv_yes (by omega) g] at h; cases h
  go_enter Tryd.func49, Tryd.ntmps49
  go_wp2
  refine bodyPost_ret (v := .tuple #[.agg #[.int .i64 0, .int .i64 0, .int .i64 0, .int .i64 0], .bool false]) (by simp only [results, Tryd.results49]; go_simp) rfl ⟨rfl, ?_⟩
  (repeat' (first | (with_reducible assumption) | (with_reducible exact Below.refl _ _) | (with_reducible refine Below.alloc ?_ ?_ _) | (with_reducible refine Below.drew ?_) | (with_reducible refine bl_drewN ?_ _) | (with_reducible refine Below.setCell ?_ ?_ _) | (with_reducible refine bl_step ?_ (by assumption)) | go_size))

theorem newMode_any (k : Int) (w : World) (ht : TenTab w) :
    Calls Tryd.prog 49 #[.int .i64 k] w fun e w' => e = .returned (.tuple #[.agg #[.int .i64 (nF k), .int .i64 (nT k), .int .i64 (mdL k), .int .i64 (mdH k)], .bool (mdv k)]) ∧ Below w.heap.size w w' := by
  by_cases h : mdv k = false
  · exact newMode_no k w h
  rw [Bool.not_eq_false] at h
  obtain ⟨h0, h1⟩ := mdv_in h
  rcases eight h0 h1 with rfl | rfl | rfl | rfl | rfl | rfl | rfl | rfl
  · exact newMode_1 w ht
  · exact newMode_2 w ht
  · exact newMode_3 w ht
  · exact newMode_4 w ht
  · exact newMode_5 w ht
  · exact newMode_6 w ht
  · exact newMode_7 w ht
  · exact newMode_8 w ht
end Go.Proofs.YtmipkodgkldmbaaDoor
