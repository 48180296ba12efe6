/-
  ToneHeight in both programs.
-/
import Derived.Test.YtjodcaeohkjlnaaDoorHeight
import Derived.Deep.RegionHeld3
namespace Go.Proofs.YtjodcaeohkjlnaaDoor
open Go.RowKit
set_option maxRecDepth 100000
set_option linter.unusedVariables false

/-- the semitones between two tones, 0 if they are none -/
def sem (s : Int) (b : Bool) (t : Int) (c : Bool) : Int := if vd s b && vd t c then hgt t c - hgt s b else 0
theorem sem_no1 {s t : Int} {b c : Bool} (h : vd s b = false) : sem s b t c = 0 := by simp [sem, h]
theorem sem_no2 {s t : Int} {b c : Bool} (h : vd t c = false) : sem s b t c = 0 := by simp [sem, h]
theorem sem_yes {s t : Int} {b c : Bool} (h : vd s b = true) (k : vd t c = true) : sem s b t c = hgt t c - hgt s b := by simp [sem, h, k]
theorem hgt_bd {s : Int} {b : Bool} (h0 : 0 ≤ s) (h1 : s ≤ 20) : -1 ≤ hgt s b ∧ hgt s b ≤ 34 := by
  have h := hT_bd (s % 7).toNat (by omega)
  unfold hgt
  cases b <;> simp <;> omega

set_option maxHeartbeats 2000000 in
theorem toneSemis_any (s t : Int) (b c : Bool) (w : World) (ht : StepTab w) :
    Calls Tryd.prog 32 #[.agg #[.int .i64 s, .bool b], .agg #[.int .i64 t, .bool c]] w fun e w' =>
      e = .returned (.tuple #[.int .i64 (sem s b t c), .bool (both s b t c)]) ∧ Below w.heap.size w w' := by
  by_cases hv : vd s b = false
  · rw [sem_no1 hv, both_no1 hv]
    clear ht
    go_enter Tryd.func32, Tryd.ntmps32
    go_wp2_with (go_at_call 78; refine (valid_any _ _ _).mono ?_; rintro e w1 ⟨rfl, hb1⟩; obtain ⟨hc1, hf1, hz1⟩ := bl hb1; (try simp at hz1); (try (refine got (p := w.heap.size < w1.heap.size) ?_ ?_; (focus (go_size; done)); intro q1_w0)); (try (refine got (p := w1.cell? ⟨w.heap.size, 0, none⟩ = some (.int .i64 s)) ?_ ?_; (focus (refine (hc1 _ _ ?_).trans ?_; (focus (go_size; done)); go_simp; done)); intro c1_w0_0)); (try (refine got (p := w1.cell? ⟨w.heap.size, 1, none⟩ = some (.bool b)) ?_ ?_; (focus (refine (hc1 _ _ ?_).trans ?_; (focus (go_size; done)); go_simp; done)); intro c1_w0_1)); (try (refine got (p := ∀ o, w1.frozen? ⟨w.heap.size, o, none⟩ = false) ?_ ?_; (focus (intro o; refine (hf1 _ _ ?_).trans ?_; (focus (go_size; done)); go_simp; done)); intro f1_w0)); (try (refine got (p := w.heap.size + 1 < w1.heap.size) ?_ ?_; (focus (go_size; done)); intro q1_w1)); (try (refine got (p := w1.cell? ⟨w.heap.size + 1, 0, none⟩ = some (.int .i64 t)) ?_ ?_; (focus (refine (hc1 _ _ ?_).trans ?_; (focus (go_size; done)); go_simp; done)); intro c1_w1_0)); (try (refine got (p := w1.cell? ⟨w.heap.size + 1, 1, none⟩ = some (.bool c)) ?_ ?_; (focus (refine (hc1 _ _ ?_).trans ?_; (focus (go_size; done)); go_simp; done)); intro c1_w1_1)); (try (refine got (p := ∀ o, w1.frozen? ⟨w.heap.size + 1, o, none⟩ = false) ?_ ?_; (focus (intro o; refine (hf1 _ _ ?_).trans ?_; (focus (go_size; done)); go_simp; done)); intro f1_w1)); clear hc1 hf1)
    go_ret2
    exact ⟨rfl, by (repeat' (first | (with_reducible exact Below.refl _ _) | (with_reducible refine Below.alloc ?_ ?_ _) | (with_reducible refine Below.drew ?_) | (with_reducible refine Below.setCell ?_ ?_ _) | (with_reducible refine bl_step ?_ (by assumption)) | go_size))⟩
  rw [Bool.not_eq_false] at hv
  by_cases hu : vd t c = false
  · rw [sem_no2 hu, both_no2 hu]
    clear ht
    go_enter Tryd.func32, Tryd.ntmps32
    go_wp2_with (go_at_call 78; refine (valid_any _ _ _).mono ?_; rintro e w1 ⟨rfl, hb1⟩; obtain ⟨hc1, hf1, hz1⟩ := bl hb1; (try simp at hz1); (try (refine got (p := w.heap.size < w1.heap.size) ?_ ?_; (focus (go_size; done)); intro q1_w0)); (try (refine got (p := w1.cell? ⟨w.heap.size, 0, none⟩ = some (.int .i64 s)) ?_ ?_; (focus (refine (hc1 _ _ ?_).trans ?_; (focus (go_size; done)); go_simp; done)); intro c1_w0_0)); (try (refine got (p := w1.cell? ⟨w.heap.size, 1, none⟩ = some (.bool b)) ?_ ?_; (focus (refine (hc1 _ _ ?_).trans ?_; (focus (go_size; done)); go_simp; done)); intro c1_w0_1)); (try (refine got (p := ∀ o, w1.frozen? ⟨w.heap.size, o, none⟩ = false) ?_ ?_; (focus (intro o; refine (hf1 _ _ ?_).trans ?_; (focus (go_size; done)); go_simp; done)); intro f1_w0)); (try (refine got (p := w.heap.size + 1 < w1.heap.size) ?_ ?_; (focus (go_size; done)); intro q1_w1)); (try (refine got (p := w1.cell? ⟨w.heap.size + 1, 0, none⟩ = some (.int .i64 t)) ?_ ?_; (focus (refine (hc1 _ _ ?_).trans ?_; (focus (go_size; done)); go_simp; done)); intro c1_w1_0)); (try (refine got (p := w1.cell? ⟨w.heap.size + 1, 1, none⟩ = some (.bool c)) ?_ ?_; (focus (refine (hc1 _ _ ?_).trans ?_; (focus (go_size; done)); go_simp; done)); intro c1_w1_1)); (try (refine got (p := ∀ o, w1.frozen? ⟨w.heap.size + 1, o, none⟩ = false) ?_ ?_; (focus (intro o; refine (hf1 _ _ ?_).trans ?_; (focus (go_size; done)); go_simp; done)); intro f1_w1)); clear hc1 hf1)
    go_ret2
    exact ⟨rfl, by (repeat' (first | (with_reducible exact Below.refl _ _) | (with_reducible refine Below.alloc ?_ ?_ _) | (with_reducible refine Below.drew ?_) | (with_reducible refine Below.setCell ?_ ?_ _) | (with_reducible refine bl_step ?_ (by assumption)) | go_size))⟩
  rw [Bool.not_eq_false] at hu
  rw [sem_yes hv hu, both_yes hv hu]
  obtain ⟨h0, h1⟩ := vd_in hv
  obtain ⟨h2, h3⟩ := vd_in hu
  have HT := Lib.hid ht
  clear ht
  obtain ⟨g0, g1⟩ := hgt_bd (b := b) h0 h1
  obtain ⟨g2, g3⟩ := hgt_bd (b := c) h2 h3
  have sw : IntKind.i64.wrap (hgt t c - hgt s b) = hgt t c - hgt s b := IntWalk.i64_in _ (by omega)
  go_enter Tryd.func32, Tryd.ntmps32
  go_wp2_with (fail)
  (go_at_call 78; refine (valid_any _ _ _).mono ?_; rintro e w1 ⟨rfl, hb1⟩; obtain ⟨hc1, hf1, hz1⟩ := bl hb1; (try simp at hz1); (try (refine got (p := w.heap.size < w1.heap.size) ?_ ?_; (focus (go_size; done)); intro q1_w0)); (try (refine got (p := w1.cell? ⟨w.heap.size, 0, none⟩ = some (.int .i64 s)) ?_ ?_; (focus (refine (hc1 _ _ ?_).trans ?_; (focus (go_size; done)); go_simp; done)); intro c1_w0_0)); (try (refine got (p := w1.cell? ⟨w.heap.size, 1, none⟩ = some (.bool b)) ?_ ?_; (focus (refine (hc1 _ _ ?_).trans ?_; (focus (go_size; done)); go_simp; done)); intro c1_w0_1)); (try (refine got (p := ∀ o, w1.frozen? ⟨w.heap.size, o, none⟩ = false) ?_ ?_; (focus (intro o; refine (hf1 _ _ ?_).trans ?_; (focus (go_size; done)); go_simp; done)); intro f1_w0)); (try (refine got (p := w.heap.size + 1 < w1.heap.size) ?_ ?_; (focus (go_size; done)); intro q1_w1)); (try (refine got (p := w1.cell? ⟨w.heap.size + 1, 0, none⟩ = some (.int .i64 t)) ?_ ?_; (focus (refine (hc1 _ _ ?_).trans ?_; (focus (go_size; done)); go_simp; done)); intro c1_w1_0)); (try (refine got (p := w1.cell? ⟨w.heap.size + 1, 1, none⟩ = some (.bool c)) ?_ ?_; (focus (refine (hc1 _ _ ?_).trans ?_; (focus (go_size; done)); go_simp; done)); intro c1_w1_1)); (try (refine got (p := ∀ o, w1.frozen? ⟨w.heap.size + 1, o, none⟩ = false) ?_ ?_; (focus (intro o; refine (hf1 _ _ ?_).trans ?_; (focus (go_size; done)); go_simp; done)); intro f1_w1)); clear hc1 hf1)
  go_wp2_with (fail)
  (go_at_call 78; refine (valid_any _ _ _).mono ?_; rintro e w2 ⟨rfl, hb2⟩; obtain ⟨hc2, hf2, hz2⟩ := bl hb2; (try simp at hz2); (try (refine got (p := w.heap.size < w2.heap.size) ?_ ?_; (focus (go_size; done)); intro q2_w0)); (try (refine got (p := w2.cell? ⟨w.heap.size, 0, none⟩ = some (.int .i64 s)) ?_ ?_; (focus (refine (hc2 _ _ ?_).trans ?_; (focus (go_size; done)); go_simp; done)); intro c2_w0_0)); (try (refine got (p := w2.cell? ⟨w.heap.size, 1, none⟩ = some (.bool b)) ?_ ?_; (focus (refine (hc2 _ _ ?_).trans ?_; (focus (go_size; done)); go_simp; done)); intro c2_w0_1)); (try (refine got (p := ∀ o, w2.frozen? ⟨w.heap.size, o, none⟩ = false) ?_ ?_; (focus (intro o; refine (hf2 _ _ ?_).trans ?_; (focus (go_size; done)); go_simp; done)); intro f2_w0)); (try (refine got (p := w.heap.size + 1 < w2.heap.size) ?_ ?_; (focus (go_size; done)); intro q2_w1)); (try (refine got (p := w2.cell? ⟨w.heap.size + 1, 0, none⟩ = some (.int .i64 t)) ?_ ?_; (focus (refine (hc2 _ _ ?_).trans ?_; (focus (go_size; done)); go_simp; done)); intro c2_w1_0)); (try (refine got (p := w2.cell? ⟨w.heap.size + 1, 1, none⟩ = some (.bool c)) ?_ ?_; (focus (refine (hc2 _ _ ?_).trans ?_; (focus (go_size; done)); go_simp; done)); intro c2_w1_1)); (try (refine got (p := ∀ o, w2.frozen? ⟨w.heap.size + 1, o, none⟩ = false) ?_ ?_; (focus (intro o; refine (hf2 _ _ ?_).trans ?_; (focus (go_size; done)); go_simp; done)); intro f2_w1)); clear hc2 hf2)
  have hbw : Below w.heap.size w w2 := by (repeat' (first | (with_reducible exact Below.refl _ _) | (with_reducible refine Below.alloc ?_ ?_ _) | (with_reducible refine Below.drew ?_) | (with_reducible refine Below.setCell ?_ ?_ _) | (with_reducible refine bl_step ?_ (by assumption)) | go_size))
  have HT2 := Lib.hid (HT.out.below hbw)
  have HT3 : Hid (StepTab w2.drew) := HT2
  go_wp2
  go_region_held3 (fun wx => wx.cell? ⟨w.heap.size, 0, none⟩ = some (.int .i64 s) ∧ wx.cell? ⟨w.heap.size, 1, none⟩ = some (.bool b) ∧ wx.cell? ⟨w.heap.size + 1, 0, none⟩ = some (.int .i64 t) ∧ wx.cell? ⟨w.heap.size + 1, 1, none⟩ = some (.bool c)) (go_keep)
    (first | (go_at_call_of 92 (Value.agg #[Value.int .i64 t, Value.bool c]); refine (height_any _ _ h2 h3 _ HT3.out).mono ?_; rintro e w3 ⟨rfl, hb3⟩; have HT4 := Lib.hid (HT3.out.below hb3); obtain ⟨hc3, hf3, hz3⟩ := bl hb3; (try simp at hz3); have c3a := (hc3 w.heap.size 0 (by first | exact q2_w0 | (simp; exact q2_w0))).trans c2_w0_0; have c3b := (hc3 w.heap.size 1 (by first | exact q2_w0 | (simp; exact q2_w0))).trans c2_w0_1; have c3c := (hc3 (w.heap.size + 1) 0 (by first | exact q2_w1 | (simp; exact q2_w1))).trans c2_w1_0; have c3d := (hc3 (w.heap.size + 1) 1 (by first | exact q2_w1 | (simp; exact q2_w1))).trans c2_w1_1; clear hc3 hf3) | (go_at_call 92; refine (height_any _ _ h0 h1 _ HT4.out).mono ?_; rintro e w4 ⟨rfl, hb4⟩; obtain ⟨hc4, hf4, hz4⟩ := bl hb4; (try simp at hz4); have c4a := (hc4 w.heap.size 0 (by omega)).trans c3a; have c4b := (hc4 w.heap.size 1 (by omega)).trans c3b; have c4c := (hc4 (w.heap.size + 1) 0 (by omega)).trans c3c; have c4d := (hc4 (w.heap.size + 1) 1 (by omega)).trans c3d; clear hc4 hf4))
  go_wp2
  go_ret2
  exact ⟨rfl, bl_step (bl_step hbw.drew hb3) hb4⟩
end Go.Proofs.YtjodcaeohkjlnaaDoor
