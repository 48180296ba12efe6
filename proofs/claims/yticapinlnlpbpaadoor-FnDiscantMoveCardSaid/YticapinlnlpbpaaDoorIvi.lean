/-
  The interval of two tones in the program: its letter and the order of the two.
-/
import Derived.Test.YticapinlnlpbpaaDoorHeights
import Derived.Test.YticapinlnlpbpaaDoorIvs
import Derived.Test.YticapinlnlpbpaaDoorTxi
namespace Go.Proofs.YticapinlnlpbpaaDoor
open Go.RowKit
set_option maxRecDepth 100000
set_option linter.unusedVariables false

/-- the program's table of the least semitones stands in memory -/
def LeastTab (w : World) : Prop := ∀ i, i < 7 → w.cell? ⟨0, i, none⟩ = some (.int .i64 (lS i))
theorem LeastTab.below {w w' : World} (h : LeastTab w) (hb : Below w.heap.size w w') : LeastTab w' := fun i hi => by
  have h0 := h i hi
  exact (hb.cell (p := ⟨0, i, none⟩) (World.block_lt_of_cell? w ⟨0, i, none⟩ h0)).trans h0

set_option maxHeartbeats 4000000 in
theorem intervalLetter_any (n x : Int) (h0 : 0 ≤ n) (h1 : n ≤ 20) (x0 : -100 ≤ x) (x1 : x ≤ 100) (w : World) (ht : LeastTab w) :
    Calls Tryd.prog 68 #[.int .i64 n, .int .i64 x] w fun e w' => e = .returned (.string ⟨#[ivl n x]⟩) ∧ Below w.heap.size w w' := by
  obtain ⟨i, q, e1, e2, e3, e4, hi, hq⟩ := seven n h0 h1
  have ct := ht i hi
  obtain ⟨z0, z1⟩ := lS_bd i hi
  have HV : Hid (ovr n x = x - (q : Int) * 12 - lS i) := by show ovr n x = _; unfold ovr; rw [e3, e4]; rfl
  have HP : Hid (pur n = ((i : Int) == 0 || (i : Int) == 3 || (i : Int) == 4)) := by show pur n = _; unfold pur; rw [e3]
  generalize lS i = z at ct z0 z1 HV
  have i0 : (0 : Int) ≤ (i : Int) := by omega
  have i1 : (i : Int) < 7 := by omega
  have s1 : IntKind.i64.wrap (q : Int) = (q : Int) := IntWalk.i64_in _ (by omega)
  have s2 : IntKind.i64.wrap ((q : Int) * 12) = (q : Int) * 12 := IntWalk.i64_in _ (by omega)
  have s3 : IntKind.i64.wrap (x - (q : Int) * 12) = x - (q : Int) * 12 := IntWalk.i64_in _ (by omega)
  obtain ⟨o, ho⟩ : ∃ o : Int, x - (q : Int) * 12 - z = o := ⟨_, rfl⟩
  have s4 : IntKind.i64.wrap o = o := IntWalk.i64_in _ (by omega)
  have HO : Hid (ovr n x = o) := by show ovr n x = _; rw [HV.out]; omega
  have hp : (((i : Int) == 0) = true ∧ pur n = true) ∨ (((i : Int) == 0) = false ∧ ((i : Int) == 3) = true ∧ pur n = true) ∨ (((i : Int) == 0) = false ∧ ((i : Int) == 3) = false ∧ ((i : Int) == 4) = true ∧ pur n = true) ∨ (((i : Int) == 0) = false ∧ ((i : Int) == 3) = false ∧ ((i : Int) == 4) = false ∧ pur n = false) := by
    rw [HP.out]
    cases ((i : Int) == 0) <;> cases ((i : Int) == 3) <;> cases ((i : Int) == 4) <;> simp
  have hc : o < 0 ∨ o = 0 ∨ o = 1 ∨ 1 < o := by omega
  clear HV z0 z1 hi hq ht
  rcases hp with ⟨p1, HPo⟩ | ⟨p1, p2, HPo⟩ | ⟨p1, p2, p3, HPo⟩ | ⟨p1, p2, p3, HPo⟩
  all_goals
    rcases hc with o1 | o1 | o1 | o1
    all_goals
      have HOo := HO.out
      first
        | (have HR := Lib.hid (ivl_d (n := n) (x := x) (by omega)))
        | (have HR := Lib.hid (ivl_p (n := n) (x := x) (by omega) HPo))
        | (have HR := Lib.hid (ivl_s (n := n) (x := x) (by omega) HPo))
        | (have HR := Lib.hid (ivl_g (n := n) (x := x) (by omega) HPo))
        | (have HR := Lib.hid (ivl_a (n := n) (x := x) (.inl (by omega))))
        | (have HR := Lib.hid (ivl_a (n := n) (x := x) (.inr ⟨by omega, HPo⟩)))
      clear HPo HOo HP HO
      have d0 : decide (o < 0) = decide (o < 0) := rfl
      have b0 : (o == 0) = (o == 0) := rfl
      have b1 : (o == 1) = (o == 1) := rfl
      go_enter Tryd.func68, Tryd.ntmps68
      go_wp2
      all_goals (try (go_quiet (fail); go_wp2))
      all_goals (try (go_quiet (fail); go_wp2))
      all_goals (try (go_quiet (fail); go_wp2))
      all_goals go_ret
      all_goals exact ⟨by rw [HR.out]; rfl, by (repeat' (first | (with_reducible assumption) | (with_reducible exact Below.refl _ _) | (with_reducible refine Below.alloc ?_ ?_ _) | (with_reducible refine Below.drew ?_) | (with_reducible refine bl_drewN ?_ _) | (with_reducible refine Below.setCell ?_ ?_ _) | (with_reducible refine bl_step ?_ (by assumption)) | go_size))⟩

theorem swp_ne {s t : Int} {b c : Bool} (h : t ≠ s) : swp s b t c = decide (t < s) := by simp [swp, h]
theorem swp_eq {s : Int} {b c : Bool} : swp s b s c = decide (hgt s c < hgt s b) := by simp [swp]; rfl

set_option maxHeartbeats 4000000 in
theorem below_any (t : Int) (c : Bool) (s : Int) (b : Bool) (hv : vd t c = true) (hu : vd s b = true) (w : World) (ht : StepTab w) :
    Calls Tryd.prog 66 #[.agg #[.int .i64 t, .bool c], .agg #[.int .i64 s, .bool b]] w fun e w' => e = .returned (.bool (swp s b t c)) ∧ Below w.heap.size w w' := by
  obtain ⟨h0, h1⟩ := vd_in hv
  obtain ⟨h2, h3⟩ := vd_in hu
  by_cases he : t = s
  · subst he
    rw [swp_eq]
    have HT := Lib.hid ht
    clear ht
    have hbw0 : Below w.heap.size w ((w.alloc (.cells #[.int .i64 t, .bool c] 41)).alloc (.cells #[.int .i64 t, .bool b] 41)) := by (repeat' (first | (with_reducible exact Below.refl _ _) | (with_reducible refine Below.alloc ?_ ?_ _) | (with_reducible refine Below.drew ?_) | (with_reducible refine Below.setCell ?_ ?_ _) | (with_reducible refine bl_step ?_ (by assumption)) | go_size))
    have HT1 := Lib.hid (HT.out.below hbw0)
    go_enter Tryd.func66, Tryd.ntmps66
    go_wp2
    all_goals (try (go_quiet (fail); go_wp2))
    go_region_held3 (fun wx => wx.cell? ⟨w.heap.size, 0, none⟩ = some (.int .i64 t) ∧ wx.cell? ⟨w.heap.size, 1, none⟩ = some (.bool c) ∧ wx.cell? ⟨w.heap.size + 1, 0, none⟩ = some (.int .i64 t) ∧ wx.cell? ⟨w.heap.size + 1, 1, none⟩ = some (.bool b)) (go_keep)
      (first | (go_at_call_of 69 (Value.agg #[Value.int .i64 t, Value.bool c]); refine (height_any _ _ h0 h1 _ (HT.out.below (by (repeat' (first | (with_reducible assumption) | (with_reducible exact Below.refl _ _) | (with_reducible refine Below.alloc ?_ ?_ _) | (with_reducible refine Below.drew ?_) | (with_reducible refine bl_drewN ?_ _) | (with_reducible refine Below.setCell ?_ ?_ _) | (with_reducible refine bl_step ?_ (by assumption)) | go_size))))).mono ?_; rintro e w3 ⟨rfl, hb3⟩; obtain ⟨hc3, hf3, hz3⟩ := bl hb3; (try simp at hz3); have c3a : w3.cell? ⟨w.heap.size, 0, none⟩ = some (.int .i64 t) := (hc3 w.heap.size 0 (by go_size)).trans (by go_simp); have c3b : w3.cell? ⟨w.heap.size, 1, none⟩ = some (.bool c) := (hc3 w.heap.size 1 (by go_size)).trans (by go_simp); have c3c : w3.cell? ⟨w.heap.size + 1, 0, none⟩ = some (.int .i64 t) := (hc3 (w.heap.size + 1) 0 (by go_size)).trans (by go_simp); have c3d : w3.cell? ⟨w.heap.size + 1, 1, none⟩ = some (.bool b) := (hc3 (w.heap.size + 1) 1 (by go_size)).trans (by go_simp); clear hc3 hf3) | (go_at_call 69; refine (height_any _ _ h2 h3 _ (HT.out.below (by (repeat' (first | (with_reducible assumption) | (with_reducible exact Below.refl _ _) | (with_reducible refine Below.alloc ?_ ?_ _) | (with_reducible refine Below.drew ?_) | (with_reducible refine bl_drewN ?_ _) | (with_reducible refine Below.setCell ?_ ?_ _) | (with_reducible refine bl_step ?_ (by assumption)) | go_size))))).mono ?_; rintro e w4 ⟨rfl, hb4⟩; obtain ⟨hc4, hf4, hz4⟩ := bl hb4; (try simp at hz4); have c4a := (hc4 w.heap.size 0 (by omega)).trans c3a; have c4b := (hc4 w.heap.size 1 (by omega)).trans c3b; have c4c := (hc4 (w.heap.size + 1) 0 (by omega)).trans c3c; have c4d := (hc4 (w.heap.size + 1) 1 (by omega)).trans c3d; clear hc4 hf4))
    go_wp2
    go_ret
    exact ⟨rfl, by (repeat' (first | (with_reducible assumption) | (with_reducible exact Below.refl _ _) | (with_reducible refine Below.alloc ?_ ?_ _) | (with_reducible refine Below.drew ?_) | (with_reducible refine bl_drewN ?_ _) | (with_reducible refine Below.setCell ?_ ?_ _) | (with_reducible refine bl_step ?_ (by assumption)) | go_size))⟩
  · have g : (t != s) = true := by simpa using he
    rw [swp_ne he]
    clear ht
    go_enter Tryd.func66, Tryd.ntmps66
    go_wp2
    all_goals (try (go_quiet (fail); go_wp2))
    all_goals (try (go_quiet (fail); go_wp2))
    go_ret
    exact ⟨rfl, by (repeat' (first | (with_reducible assumption) | (with_reducible exact Below.refl _ _) | (with_reducible refine Below.alloc ?_ ?_ _) | (with_reducible refine Below.drew ?_) | (with_reducible refine bl_drewN ?_ _) | (with_reducible refine Below.setCell ?_ ?_ _) | (with_reducible refine bl_step ?_ (by assumption)) | go_size))⟩
end Go.Proofs.YticapinlnlpbpaaDoor
