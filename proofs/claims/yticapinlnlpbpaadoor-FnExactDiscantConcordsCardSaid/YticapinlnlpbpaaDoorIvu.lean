/-
  The interval of two tones in the program.
-/
import Derived.Test.YticapinlnlpbpaaDoorIvt
namespace Go.Proofs.YticapinlnlpbpaaDoor
open Go.RowKit
set_option maxRecDepth 100000
set_option linter.unusedVariables false

theorem itoaN (k : Nat) (h : k < 22) (w : World) : Calls Tryd.prog 67 #[.int .i64 (k : Int)] w fun e w' => e = .returned (.string (decS (k : Int))) ∧ w = w' :=
  (Tryd.strconv_Itoa_small k (by omega) w).mono fun e w' ⟨h1, h2⟩ => ⟨h1.trans (by rw [decd k h]; rfl), h2.symm⟩
theorem iv_swp {s t : Int} {b c : Bool} (h : swp s b t c = true) : ivN s t = s - t ∧ ivX s b t c = hgt s b - hgt t c ∧ 0 ≤ s - t := by
  unfold ivX
  rw [if_pos h]
  unfold ivN
  by_cases e : t = s
  · subst e
    rw [if_neg (by omega)]
    exact ⟨rfl, rfl, by omega⟩
  · have h2 : t < s := by rw [swp_ne e] at h; simpa using h
    rw [if_pos h2]
    exact ⟨rfl, rfl, by omega⟩
theorem iv_nswp {s t : Int} {b c : Bool} (h : swp s b t c = false) : ivN s t = t - s ∧ ivX s b t c = hgt t c - hgt s b ∧ 0 ≤ t - s := by
  unfold ivX
  rw [if_neg (by simp [h])]
  unfold ivN
  by_cases e : t = s
  · subst e
    rw [if_neg (by omega)]
    exact ⟨rfl, rfl, by omega⟩
  · have h2 : ¬ t < s := by rw [swp_ne e] at h; simpa using h
    rw [if_neg h2]
    exact ⟨rfl, rfl, by omega⟩

set_option maxHeartbeats 4000000 in
theorem toneInterval_any (s t : Int) (b c : Bool) (w : World) (ht : StepTab w) (hl : LeastTab w) :
    Calls Tryd.prog 31 #[.agg #[.int .i64 s, .bool b], .agg #[.int .i64 t, .bool c]] w fun e w' => e = .returned (.string (ivt s b t c)) ∧ Below w.heap.size w w' := by
  by_cases hv : vd s b = false
  · rw [ivt_no1 hv]
    clear ht hl
    go_enter Tryd.func31, Tryd.ntmps31
    go_wp2_with (go_at_call 65; refine (valid_any _ _ _).mono ?_; rintro e w1 ⟨rfl, hb1⟩; obtain ⟨hc1, hf1, hz1⟩ := bl hb1; (try simp at hz1); (try (refine got (p := w.heap.size < w1.heap.size) ?_ ?_; (focus (go_size; done)); intro q1_w0)); (try (refine got (p := w1.cell? ⟨w.heap.size, 0, none⟩ = some (.int .i64 s)) ?_ ?_; (focus (refine (hc1 _ _ ?_).trans ?_; (focus (go_size; done)); go_simp; done)); intro c1_w0_0)); (try (refine got (p := w1.cell? ⟨w.heap.size, 1, none⟩ = some (.bool b)) ?_ ?_; (focus (refine (hc1 _ _ ?_).trans ?_; (focus (go_size; done)); go_simp; done)); intro c1_w0_1)); (try (refine got (p := ∀ o, w1.frozen? ⟨w.heap.size, o, none⟩ = false) ?_ ?_; (focus (intro o; refine (hf1 _ _ ?_).trans ?_; (focus (go_size; done)); go_simp; done)); intro f1_w0)); (try (refine got (p := w.heap.size + 1 < w1.heap.size) ?_ ?_; (focus (go_size; done)); intro q1_w1)); (try (refine got (p := w1.cell? ⟨w.heap.size + 1, 0, none⟩ = some (.int .i64 t)) ?_ ?_; (focus (refine (hc1 _ _ ?_).trans ?_; (focus (go_size; done)); go_simp; done)); intro c1_w1_0)); (try (refine got (p := w1.cell? ⟨w.heap.size + 1, 1, none⟩ = some (.bool c)) ?_ ?_; (focus (refine (hc1 _ _ ?_).trans ?_; (focus (go_size; done)); go_simp; done)); intro c1_w1_1)); (try (refine got (p := ∀ o, w1.frozen? ⟨w.heap.size + 1, o, none⟩ = false) ?_ ?_; (focus (intro o; refine (hf1 _ _ ?_).trans ?_; (focus (go_size; done)); go_simp; done)); intro f1_w1)); clear hc1 hf1)
    go_ret
    exact ⟨rfl, by (repeat' (first | (with_reducible exact Below.refl _ _) | (with_reducible refine Below.alloc ?_ ?_ _) | (with_reducible refine Below.drew ?_) | (with_reducible refine Below.setCell ?_ ?_ _) | (with_reducible refine bl_step ?_ (by assumption)) | go_size))⟩
  rw [Bool.not_eq_false] at hv
  by_cases hu : vd t c = false
  · rw [ivt_no2 hu]
    clear ht hl
    go_enter Tryd.func31, Tryd.ntmps31
    go_wp2_with (go_at_call 65; refine (valid_any _ _ _).mono ?_; rintro e w1 ⟨rfl, hb1⟩; obtain ⟨hc1, hf1, hz1⟩ := bl hb1; (try simp at hz1); (try (refine got (p := w.heap.size < w1.heap.size) ?_ ?_; (focus (go_size; done)); intro q1_w0)); (try (refine got (p := w1.cell? ⟨w.heap.size, 0, none⟩ = some (.int .i64 s)) ?_ ?_; (focus (refine (hc1 _ _ ?_).trans ?_; (focus (go_size; done)); go_simp; done)); intro c1_w0_0)); (try (refine got (p := w1.cell? ⟨w.heap.size, 1, none⟩ = some (.bool b)) ?_ ?_; (focus (refine (hc1 _ _ ?_).trans ?_; (focus (go_size; done)); go_simp; done)); intro c1_w0_1)); (try (refine got (p := ∀ o, w1.frozen? ⟨w.heap.size, o, none⟩ = false) ?_ ?_; (focus (intro o; refine (hf1 _ _ ?_).trans ?_; (focus (go_size; done)); go_simp; done)); intro f1_w0)); (try (refine got (p := w.heap.size + 1 < w1.heap.size) ?_ ?_; (focus (go_size; done)); intro q1_w1)); (try (refine got (p := w1.cell? ⟨w.heap.size + 1, 0, none⟩ = some (.int .i64 t)) ?_ ?_; (focus (refine (hc1 _ _ ?_).trans ?_; (focus (go_size; done)); go_simp; done)); intro c1_w1_0)); (try (refine got (p := w1.cell? ⟨w.heap.size + 1, 1, none⟩ = some (.bool c)) ?_ ?_; (focus (refine (hc1 _ _ ?_).trans ?_; (focus (go_size; done)); go_simp; done)); intro c1_w1_1)); (try (refine got (p := ∀ o, w1.frozen? ⟨w.heap.size + 1, o, none⟩ = false) ?_ ?_; (focus (intro o; refine (hf1 _ _ ?_).trans ?_; (focus (go_size; done)); go_simp; done)); intro f1_w1)); clear hc1 hf1)
    go_ret
    exact ⟨rfl, by (repeat' (first | (with_reducible exact Below.refl _ _) | (with_reducible refine Below.alloc ?_ ?_ _) | (with_reducible refine Below.drew ?_) | (with_reducible refine Below.setCell ?_ ?_ _) | (with_reducible refine bl_step ?_ (by assumption)) | go_size))⟩
  rw [Bool.not_eq_false] at hu
  rw [ivt_yes hv hu]
  obtain ⟨h0, h1⟩ := vd_in hv
  obtain ⟨h2, h3⟩ := vd_in hu
  obtain ⟨g0, g1⟩ := hgt_bd (b := b) h0 h1
  obtain ⟨g2, g3⟩ := hgt_bd (b := c) h2 h3
  have HT := Lib.hid ht
  have HL := Lib.hid hl
  clear ht hl
  have KB := Lib.hid (below_any t c s b hu hv)
  have KS := Lib.hid (height_any s b h0 h1)
  have KT := Lib.hid (height_any t c h2 h3)
  by_cases hsw : swp s b t c = true
  · obtain ⟨e1, e2, e3⟩ := iv_swp hsw
    rw [hsw] at KB
    rw [e1, e2]
    obtain ⟨n, hn⟩ : ∃ n : Nat, s - t = (n : Int) := ⟨(s - t).toNat, by omega⟩
    generalize hgt s b = P at KS g0 g1 e2
    generalize hgt t c = R at KT g2 g3 e2
    obtain ⟨x, hx⟩ : ∃ x, P - R = x := ⟨_, rfl⟩
    have hadd := iv_add (n : Int) x
    have hn1 : n < 21 := by omega
    have m1 : IntKind.i64.wrap (n : Int) = (n : Int) := IntWalk.i64_in _ (by omega)
    have m2 : IntKind.i64.wrap ((n : Int) + 1) = (n : Int) + 1 := IntWalk.i64_in _ (by omega)
    have m3 : IntKind.i64.wrap x = x := IntWalk.i64_in _ (by omega)
    have KI := Lib.hid (itoaN (n + 1) (by omega))
    rw [show ((n + 1 : Nat) : Int) = (n : Int) + 1 by omega] at KI
    have KL := Lib.hid (intervalLetter_any (n : Int) x (by omega) (by omega) (by omega) (by omega))
    have k1 : n ≤ 20 := by omega
    rw [hn, hx]
    clear e1 e2 e3 hsw
    go_enter Tryd.func31, Tryd.ntmps31
    go_wp2_with (fail)
    (go_at_call 65; refine (valid_any _ _ _).mono ?_; rintro e w1 ⟨rfl, hb1⟩; obtain ⟨hc1, hf1, hz1⟩ := bl hb1; (try simp at hz1); (try (refine got (p := w.heap.size < w1.heap.size) ?_ ?_; (focus (go_size; done)); intro q1_w0)); (try (refine got (p := w1.cell? ⟨w.heap.size, 0, none⟩ = some (.int .i64 s)) ?_ ?_; (focus (refine (hc1 _ _ ?_).trans ?_; (focus (go_size; done)); go_simp; done)); intro c1_w0_0)); (try (refine got (p := w1.cell? ⟨w.heap.size, 1, none⟩ = some (.bool b)) ?_ ?_; (focus (refine (hc1 _ _ ?_).trans ?_; (focus (go_size; done)); go_simp; done)); intro c1_w0_1)); (try (refine got (p := ∀ o, w1.frozen? ⟨w.heap.size, o, none⟩ = false) ?_ ?_; (focus (intro o; refine (hf1 _ _ ?_).trans ?_; (focus (go_size; done)); go_simp; done)); intro f1_w0)); (try (refine got (p := w.heap.size + 1 < w1.heap.size) ?_ ?_; (focus (go_size; done)); intro q1_w1)); (try (refine got (p := w1.cell? ⟨w.heap.size + 1, 0, none⟩ = some (.int .i64 t)) ?_ ?_; (focus (refine (hc1 _ _ ?_).trans ?_; (focus (go_size; done)); go_simp; done)); intro c1_w1_0)); (try (refine got (p := w1.cell? ⟨w.heap.size + 1, 1, none⟩ = some (.bool c)) ?_ ?_; (focus (refine (hc1 _ _ ?_).trans ?_; (focus (go_size; done)); go_simp; done)); intro c1_w1_1)); (try (refine got (p := ∀ o, w1.frozen? ⟨w.heap.size + 1, o, none⟩ = false) ?_ ?_; (focus (intro o; refine (hf1 _ _ ?_).trans ?_; (focus (go_size; done)); go_simp; done)); intro f1_w1)); clear hc1 hf1)
    go_wp2_with (fail)
    (go_at_call 65; refine (valid_any _ _ _).mono ?_; rintro e w2 ⟨rfl, hb2⟩; obtain ⟨hc2, hf2, hz2⟩ := bl hb2; (try simp at hz2); (try (refine got (p := w.heap.size < w2.heap.size) ?_ ?_; (focus (go_size; done)); intro q2_w0)); (try (refine got (p := w2.cell? ⟨w.heap.size, 0, none⟩ = some (.int .i64 s)) ?_ ?_; (focus (refine (hc2 _ _ ?_).trans ?_; (focus (go_size; done)); go_simp; done)); intro c2_w0_0)); (try (refine got (p := w2.cell? ⟨w.heap.size, 1, none⟩ = some (.bool b)) ?_ ?_; (focus (refine (hc2 _ _ ?_).trans ?_; (focus (go_size; done)); go_simp; done)); intro c2_w0_1)); (try (refine got (p := ∀ o, w2.frozen? ⟨w.heap.size, o, none⟩ = false) ?_ ?_; (focus (intro o; refine (hf2 _ _ ?_).trans ?_; (focus (go_size; done)); go_simp; done)); intro f2_w0)); (try (refine got (p := w.heap.size + 1 < w2.heap.size) ?_ ?_; (focus (go_size; done)); intro q2_w1)); (try (refine got (p := w2.cell? ⟨w.heap.size + 1, 0, none⟩ = some (.int .i64 t)) ?_ ?_; (focus (refine (hc2 _ _ ?_).trans ?_; (focus (go_size; done)); go_simp; done)); intro c2_w1_0)); (try (refine got (p := w2.cell? ⟨w.heap.size + 1, 1, none⟩ = some (.bool c)) ?_ ?_; (focus (refine (hc2 _ _ ?_).trans ?_; (focus (go_size; done)); go_simp; done)); intro c2_w1_1)); (try (refine got (p := ∀ o, w2.frozen? ⟨w.heap.size + 1, o, none⟩ = false) ?_ ?_; (focus (intro o; refine (hf2 _ _ ?_).trans ?_; (focus (go_size; done)); go_simp; done)); intro f2_w1)); clear hc2 hf2)
    go_wp2_with (fail)
    (go_at_call 66; refine (KB.out _ (HT.out.below (by (repeat' (first | (with_reducible exact Below.refl _ _) | (with_reducible refine Below.alloc ?_ ?_ _) | (with_reducible refine Below.drew ?_) | (with_reducible refine Below.setCell ?_ ?_ _) | (with_reducible refine bl_step ?_ (by assumption)) | go_size))))).mono ?_; rintro e w3 ⟨rfl, hb3⟩; obtain ⟨hc3, hf3, hz3⟩ := bl hb3; (try simp at hz3); (try (refine got (p := w.heap.size < w3.heap.size) ?_ ?_; (focus (go_size; done)); intro q3_w0)); (try (refine got (p := w3.cell? ⟨w.heap.size, 0, none⟩ = some (.int .i64 s)) ?_ ?_; (focus (refine (hc3 _ _ ?_).trans ?_; (focus (go_size; done)); go_simp; done)); intro c3_w0_0)); (try (refine got (p := w3.cell? ⟨w.heap.size, 1, none⟩ = some (.bool b)) ?_ ?_; (focus (refine (hc3 _ _ ?_).trans ?_; (focus (go_size; done)); go_simp; done)); intro c3_w0_1)); (try (refine got (p := ∀ o, w3.frozen? ⟨w.heap.size, o, none⟩ = false) ?_ ?_; (focus (intro o; refine (hf3 _ _ ?_).trans ?_; (focus (go_size; done)); go_simp; done)); intro f3_w0)); (try (refine got (p := w.heap.size + 1 < w3.heap.size) ?_ ?_; (focus (go_size; done)); intro q3_w1)); (try (refine got (p := w3.cell? ⟨w.heap.size + 1, 0, none⟩ = some (.int .i64 t)) ?_ ?_; (focus (refine (hc3 _ _ ?_).trans ?_; (focus (go_size; done)); go_simp; done)); intro c3_w1_0)); (try (refine got (p := w3.cell? ⟨w.heap.size + 1, 1, none⟩ = some (.bool c)) ?_ ?_; (focus (refine (hc3 _ _ ?_).trans ?_; (focus (go_size; done)); go_simp; done)); intro c3_w1_1)); (try (refine got (p := ∀ o, w3.frozen? ⟨w.heap.size + 1, o, none⟩ = false) ?_ ?_; (focus (intro o; refine (hf3 _ _ ?_).trans ?_; (focus (go_size; done)); go_simp; done)); intro f3_w1)); clear hc3 hf3)
    have hbw : Below w.heap.size w w3 := by (repeat' (first | (with_reducible exact Below.refl _ _) | (with_reducible refine Below.alloc ?_ ?_ _) | (with_reducible refine Below.drew ?_) | (with_reducible refine Below.setCell ?_ ?_ _) | (with_reducible refine bl_step ?_ (by assumption)) | go_size))
    have p0 : ((((w3.setCell ⟨w.heap.size, 0, none⟩ (.int .i64 t)).setCell ⟨w.heap.size, 1, none⟩ (.bool c)).setCell ⟨w.heap.size + 1, 0, none⟩ (.int .i64 s)).setCell ⟨w.heap.size + 1, 1, none⟩ (.bool b)).cell? ⟨w.heap.size, 0, none⟩ = some (.int .i64 t) := by go_simp
    have p1 : ((((w3.setCell ⟨w.heap.size, 0, none⟩ (.int .i64 t)).setCell ⟨w.heap.size, 1, none⟩ (.bool c)).setCell ⟨w.heap.size + 1, 0, none⟩ (.int .i64 s)).setCell ⟨w.heap.size + 1, 1, none⟩ (.bool b)).cell? ⟨w.heap.size, 1, none⟩ = some (.bool c) := by go_simp
    have p2 : ((((w3.setCell ⟨w.heap.size, 0, none⟩ (.int .i64 t)).setCell ⟨w.heap.size, 1, none⟩ (.bool c)).setCell ⟨w.heap.size + 1, 0, none⟩ (.int .i64 s)).setCell ⟨w.heap.size + 1, 1, none⟩ (.bool b)).cell? ⟨w.heap.size + 1, 0, none⟩ = some (.int .i64 s) := by go_simp
    have p3 : ((((w3.setCell ⟨w.heap.size, 0, none⟩ (.int .i64 t)).setCell ⟨w.heap.size, 1, none⟩ (.bool c)).setCell ⟨w.heap.size + 1, 0, none⟩ (.int .i64 s)).setCell ⟨w.heap.size + 1, 1, none⟩ (.bool b)).cell? ⟨w.heap.size + 1, 1, none⟩ = some (.bool b) := by go_simp
    have hbw4 : Below w.heap.size w ((((w3.setCell ⟨w.heap.size, 0, none⟩ (.int .i64 t)).setCell ⟨w.heap.size, 1, none⟩ (.bool c)).setCell ⟨w.heap.size + 1, 0, none⟩ (.int .i64 s)).setCell ⟨w.heap.size + 1, 1, none⟩ (.bool b)) := by (repeat' (first | (with_reducible exact Below.refl _ _) | (with_reducible refine Below.alloc ?_ ?_ _) | (with_reducible refine Below.drew ?_) | (with_reducible refine Below.setCell ?_ ?_ _) | (with_reducible refine bl_step ?_ (by assumption)) | go_size))
    have z4 : w.heap.size + 1 < ((((w3.setCell ⟨w.heap.size, 0, none⟩ (.int .i64 t)).setCell ⟨w.heap.size, 1, none⟩ (.bool c)).setCell ⟨w.heap.size + 1, 0, none⟩ (.int .i64 s)).setCell ⟨w.heap.size + 1, 1, none⟩ (.bool b)).heap.size := by go_size
    go_wp2
    generalize ((((w3.setCell ⟨w.heap.size, 0, none⟩ (.int .i64 t)).setCell ⟨w.heap.size, 1, none⟩ (.bool c)).setCell ⟨w.heap.size + 1, 0, none⟩ (.int .i64 s)).setCell ⟨w.heap.size + 1, 1, none⟩ (.bool b)) = W4 at p0 p1 p2 p3 hbw4 z4 ⊢
    have z5 : w.heap.size < W4.heap.size := by omega
    go_region_held3 (fun wx => wx.cell? ⟨w.heap.size, 0, none⟩ = some (.int .i64 t) ∧ wx.cell? ⟨w.heap.size, 1, none⟩ = some (.bool c) ∧ wx.cell? ⟨w.heap.size + 1, 0, none⟩ = some (.int .i64 s) ∧ wx.cell? ⟨w.heap.size + 1, 1, none⟩ = some (.bool b)) (go_keep)
      (first | (go_at_call 67; refine (KI.out _).mono ?_; rintro e wy ⟨rfl, rfl⟩) | (go_at_call_of 69 (Value.agg #[Value.int .i64 s, Value.bool b]); refine (KS.out _ (HT.out.below (by (repeat' (first | (with_reducible assumption) | (with_reducible exact Below.refl _ _) | (with_reducible refine Below.alloc ?_ ?_ _) | (with_reducible refine Below.drew ?_) | (with_reducible refine bl_drewN ?_ _) | (with_reducible refine Below.setCell ?_ ?_ _) | (with_reducible refine bl_step ?_ (by assumption)) | go_size))))).mono ?_; rintro e w4 ⟨rfl, hb4⟩; obtain ⟨hc4, hf4, hz4⟩ := bl hb4; (try simp at hz4); have c4a : w4.cell? ⟨w.heap.size, 0, none⟩ = some (.int .i64 t) := (hc4 w.heap.size 0 (by exact z5)).trans p0; have c4b : w4.cell? ⟨w.heap.size, 1, none⟩ = some (.bool c) := (hc4 w.heap.size 1 (by exact z5)).trans p1; have c4c : w4.cell? ⟨w.heap.size + 1, 0, none⟩ = some (.int .i64 s) := (hc4 (w.heap.size + 1) 0 (by exact z4)).trans p2; have c4d : w4.cell? ⟨w.heap.size + 1, 1, none⟩ = some (.bool b) := (hc4 (w.heap.size + 1) 1 (by exact z4)).trans p3; clear hc4 hf4) | (go_at_call 69; refine (KT.out _ (HT.out.below (by (repeat' (first | (with_reducible assumption) | (with_reducible exact Below.refl _ _) | (with_reducible refine Below.alloc ?_ ?_ _) | (with_reducible refine Below.drew ?_) | (with_reducible refine bl_drewN ?_ _) | (with_reducible refine Below.setCell ?_ ?_ _) | (with_reducible refine bl_step ?_ (by assumption)) | go_size))))).mono ?_; rintro e w5 ⟨rfl, hb5⟩; obtain ⟨hc5, hf5, hz5⟩ := bl hb5; (try simp at hz5); have c5a := (hc5 w.heap.size 0 (by omega)).trans c4a; have c5b := (hc5 w.heap.size 1 (by omega)).trans c4b; have c5c := (hc5 (w.heap.size + 1) 0 (by omega)).trans c4c; have c5d := (hc5 (w.heap.size + 1) 1 (by omega)).trans c4d; clear hc5 hf5) | (go_at_call 68; refine (KL.out _ (HL.out.below (by (repeat' (first | (with_reducible assumption) | (with_reducible exact Below.refl _ _) | (with_reducible refine Below.alloc ?_ ?_ _) | (with_reducible refine Below.drew ?_) | (with_reducible refine bl_drewN ?_ _) | (with_reducible refine Below.setCell ?_ ?_ _) | (with_reducible refine bl_step ?_ (by assumption)) | go_size))))).mono ?_; rintro e w6 ⟨rfl, hb6⟩; obtain ⟨hc6, hf6, hz6⟩ := bl hb6; (try simp at hz6); have c6a := (hc6 w.heap.size 0 (by omega)).trans c5a; have c6b := (hc6 w.heap.size 1 (by omega)).trans c5b; have c6c := (hc6 (w.heap.size + 1) 0 (by omega)).trans c5c; have c6d := (hc6 (w.heap.size + 1) 1 (by omega)).trans c5d; clear hc6 hf6))
    go_wp2
    go_ret
    exact ⟨rfl, by (repeat' (first | (with_reducible assumption) | (with_reducible exact Below.refl _ _) | (with_reducible refine Below.alloc ?_ ?_ _) | (with_reducible refine Below.drew ?_) | (with_reducible refine bl_drewN ?_ _) | (with_reducible refine Below.setCell ?_ ?_ _) | (with_reducible refine bl_step ?_ (by assumption)) | go_size))⟩
  · rw [Bool.not_eq_true] at hsw
    obtain ⟨e1, e2, e3⟩ := iv_nswp hsw
    rw [hsw] at KB
    rw [e1, e2]
    obtain ⟨n, hn⟩ : ∃ n : Nat, t - s = (n : Int) := ⟨(t - s).toNat, by omega⟩
    generalize hgt s b = P at KS g0 g1 e2
    generalize hgt t c = R at KT g2 g3 e2
    obtain ⟨x, hx⟩ : ∃ x, R - P = x := ⟨_, rfl⟩
    have hadd := iv_add (n : Int) x
    have hn1 : n < 21 := by omega
    have m1 : IntKind.i64.wrap (n : Int) = (n : Int) := IntWalk.i64_in _ (by omega)
    have m2 : IntKind.i64.wrap ((n : Int) + 1) = (n : Int) + 1 := IntWalk.i64_in _ (by omega)
    have m3 : IntKind.i64.wrap x = x := IntWalk.i64_in _ (by omega)
    have KI := Lib.hid (itoaN (n + 1) (by omega))
    rw [show ((n + 1 : Nat) : Int) = (n : Int) + 1 by omega] at KI
    have KL := Lib.hid (intervalLetter_any (n : Int) x (by omega) (by omega) (by omega) (by omega))
    have k1 : n ≤ 20 := by omega
    rw [hn, hx]
    clear e1 e2 e3 hsw
    go_enter Tryd.func31, Tryd.ntmps31
    go_wp2_with (fail)
    (go_at_call 65; refine (valid_any _ _ _).mono ?_; rintro e w1 ⟨rfl, hb1⟩; obtain ⟨hc1, hf1, hz1⟩ := bl hb1; (try simp at hz1); (try (refine got (p := w.heap.size < w1.heap.size) ?_ ?_; (focus (go_size; done)); intro q1_w0)); (try (refine got (p := w1.cell? ⟨w.heap.size, 0, none⟩ = some (.int .i64 s)) ?_ ?_; (focus (refine (hc1 _ _ ?_).trans ?_; (focus (go_size; done)); go_simp; done)); intro c1_w0_0)); (try (refine got (p := w1.cell? ⟨w.heap.size, 1, none⟩ = some (.bool b)) ?_ ?_; (focus (refine (hc1 _ _ ?_).trans ?_; (focus (go_size; done)); go_simp; done)); intro c1_w0_1)); (try (refine got (p := ∀ o, w1.frozen? ⟨w.heap.size, o, none⟩ = false) ?_ ?_; (focus (intro o; refine (hf1 _ _ ?_).trans ?_; (focus (go_size; done)); go_simp; done)); intro f1_w0)); (try (refine got (p := w.heap.size + 1 < w1.heap.size) ?_ ?_; (focus (go_size; done)); intro q1_w1)); (try (refine got (p := w1.cell? ⟨w.heap.size + 1, 0, none⟩ = some (.int .i64 t)) ?_ ?_; (focus (refine (hc1 _ _ ?_).trans ?_; (focus (go_size; done)); go_simp; done)); intro c1_w1_0)); (try (refine got (p := w1.cell? ⟨w.heap.size + 1, 1, none⟩ = some (.bool c)) ?_ ?_; (focus (refine (hc1 _ _ ?_).trans ?_; (focus (go_size; done)); go_simp; done)); intro c1_w1_1)); (try (refine got (p := ∀ o, w1.frozen? ⟨w.heap.size + 1, o, none⟩ = false) ?_ ?_; (focus (intro o; refine (hf1 _ _ ?_).trans ?_; (focus (go_size; done)); go_simp; done)); intro f1_w1)); clear hc1 hf1)
    go_wp2_with (fail)
    (go_at_call 65; refine (valid_any _ _ _).mono ?_; rintro e w2 ⟨rfl, hb2⟩; obtain ⟨hc2, hf2, hz2⟩ := bl hb2; (try simp at hz2); (try (refine got (p := w.heap.size < w2.heap.size) ?_ ?_; (focus (go_size; done)); intro q2_w0)); (try (refine got (p := w2.cell? ⟨w.heap.size, 0, none⟩ = some (.int .i64 s)) ?_ ?_; (focus (refine (hc2 _ _ ?_).trans ?_; (focus (go_size; done)); go_simp; done)); intro c2_w0_0)); (try (refine got (p := w2.cell? ⟨w.heap.size, 1, none⟩ = some (.bool b)) ?_ ?_; (focus (refine (hc2 _ _ ?_).trans ?_; (focus (go_size; done)); go_simp; done)); intro c2_w0_1)); (try (refine got (p := ∀ o, w2.frozen? ⟨w.heap.size, o, none⟩ = false) ?_ ?_; (focus (intro o; refine (hf2 _ _ ?_).trans ?_; (focus (go_size; done)); go_simp; done)); intro f2_w0)); (try (refine got (p := w.heap.size + 1 < w2.heap.size) ?_ ?_; (focus (go_size; done)); intro q2_w1)); (try (refine got (p := w2.cell? ⟨w.heap.size + 1, 0, none⟩ = some (.int .i64 t)) ?_ ?_; (focus (refine (hc2 _ _ ?_).trans ?_; (focus (go_size; done)); go_simp; done)); intro c2_w1_0)); (try (refine got (p := w2.cell? ⟨w.heap.size + 1, 1, none⟩ = some (.bool c)) ?_ ?_; (focus (refine (hc2 _ _ ?_).trans ?_; (focus (go_size; done)); go_simp; done)); intro c2_w1_1)); (try (refine got (p := ∀ o, w2.frozen? ⟨w.heap.size + 1, o, none⟩ = false) ?_ ?_; (focus (intro o; refine (hf2 _ _ ?_).trans ?_; (focus (go_size; done)); go_simp; done)); intro f2_w1)); clear hc2 hf2)
    go_wp2_with (fail)
    (go_at_call 66; refine (KB.out _ (HT.out.below (by (repeat' (first | (with_reducible exact Below.refl _ _) | (with_reducible refine Below.alloc ?_ ?_ _) | (with_reducible refine Below.drew ?_) | (with_reducible refine Below.setCell ?_ ?_ _) | (with_reducible refine bl_step ?_ (by assumption)) | go_size))))).mono ?_; rintro e w3 ⟨rfl, hb3⟩; obtain ⟨hc3, hf3, hz3⟩ := bl hb3; (try simp at hz3); (try (refine got (p := w.heap.size < w3.heap.size) ?_ ?_; (focus (go_size; done)); intro q3_w0)); (try (refine got (p := w3.cell? ⟨w.heap.size, 0, none⟩ = some (.int .i64 s)) ?_ ?_; (focus (refine (hc3 _ _ ?_).trans ?_; (focus (go_size; done)); go_simp; done)); intro c3_w0_0)); (try (refine got (p := w3.cell? ⟨w.heap.size, 1, none⟩ = some (.bool b)) ?_ ?_; (focus (refine (hc3 _ _ ?_).trans ?_; (focus (go_size; done)); go_simp; done)); intro c3_w0_1)); (try (refine got (p := ∀ o, w3.frozen? ⟨w.heap.size, o, none⟩ = false) ?_ ?_; (focus (intro o; refine (hf3 _ _ ?_).trans ?_; (focus (go_size; done)); go_simp; done)); intro f3_w0)); (try (refine got (p := w.heap.size + 1 < w3.heap.size) ?_ ?_; (focus (go_size; done)); intro q3_w1)); (try (refine got (p := w3.cell? ⟨w.heap.size + 1, 0, none⟩ = some (.int .i64 t)) ?_ ?_; (focus (refine (hc3 _ _ ?_).trans ?_; (focus (go_size; done)); go_simp; done)); intro c3_w1_0)); (try (refine got (p := w3.cell? ⟨w.heap.size + 1, 1, none⟩ = some (.bool c)) ?_ ?_; (focus (refine (hc3 _ _ ?_).trans ?_; (focus (go_size; done)); go_simp; done)); intro c3_w1_1)); (try (refine got (p := ∀ o, w3.frozen? ⟨w.heap.size + 1, o, none⟩ = false) ?_ ?_; (focus (intro o; refine (hf3 _ _ ?_).trans ?_; (focus (go_size; done)); go_simp; done)); intro f3_w1)); clear hc3 hf3)
    have hbw : Below w.heap.size w w3 := by (repeat' (first | (with_reducible exact Below.refl _ _) | (with_reducible refine Below.alloc ?_ ?_ _) | (with_reducible refine Below.drew ?_) | (with_reducible refine Below.setCell ?_ ?_ _) | (with_reducible refine bl_step ?_ (by assumption)) | go_size))
    go_wp2
    go_region_held3 (fun wx => wx.cell? ⟨w.heap.size, 0, none⟩ = some (.int .i64 s) ∧ wx.cell? ⟨w.heap.size, 1, none⟩ = some (.bool b) ∧ wx.cell? ⟨w.heap.size + 1, 0, none⟩ = some (.int .i64 t) ∧ wx.cell? ⟨w.heap.size + 1, 1, none⟩ = some (.bool c)) (go_keep)
      (first | (go_at_call 67; refine (KI.out _).mono ?_; rintro e wy ⟨rfl, rfl⟩) | (go_at_call_of 69 (Value.agg #[Value.int .i64 t, Value.bool c]); refine (KT.out _ (HT.out.below (by (repeat' (first | (with_reducible assumption) | (with_reducible exact Below.refl _ _) | (with_reducible refine Below.alloc ?_ ?_ _) | (with_reducible refine Below.drew ?_) | (with_reducible refine bl_drewN ?_ _) | (with_reducible refine Below.setCell ?_ ?_ _) | (with_reducible refine bl_step ?_ (by assumption)) | go_size))))).mono ?_; rintro e w4 ⟨rfl, hb4⟩; obtain ⟨hc4, hf4, hz4⟩ := bl hb4; (try simp at hz4); have c4a : w4.cell? ⟨w.heap.size, 0, none⟩ = some (.int .i64 s) := (hc4 w.heap.size 0 (by go_size)).trans c3_w0_0; have c4b : w4.cell? ⟨w.heap.size, 1, none⟩ = some (.bool b) := (hc4 w.heap.size 1 (by go_size)).trans c3_w0_1; have c4c : w4.cell? ⟨w.heap.size + 1, 0, none⟩ = some (.int .i64 t) := (hc4 (w.heap.size + 1) 0 (by go_size)).trans c3_w1_0; have c4d : w4.cell? ⟨w.heap.size + 1, 1, none⟩ = some (.bool c) := (hc4 (w.heap.size + 1) 1 (by go_size)).trans c3_w1_1; clear hc4 hf4) | (go_at_call 69; refine (KS.out _ (HT.out.below (by (repeat' (first | (with_reducible assumption) | (with_reducible exact Below.refl _ _) | (with_reducible refine Below.alloc ?_ ?_ _) | (with_reducible refine Below.drew ?_) | (with_reducible refine bl_drewN ?_ _) | (with_reducible refine Below.setCell ?_ ?_ _) | (with_reducible refine bl_step ?_ (by assumption)) | go_size))))).mono ?_; rintro e w5 ⟨rfl, hb5⟩; obtain ⟨hc5, hf5, hz5⟩ := bl hb5; (try simp at hz5); have c5a := (hc5 w.heap.size 0 (by omega)).trans c4a; have c5b := (hc5 w.heap.size 1 (by omega)).trans c4b; have c5c := (hc5 (w.heap.size + 1) 0 (by omega)).trans c4c; have c5d := (hc5 (w.heap.size + 1) 1 (by omega)).trans c4d; clear hc5 hf5) | (go_at_call 68; refine (KL.out _ (HL.out.below (by (repeat' (first | (with_reducible assumption) | (with_reducible exact Below.refl _ _) | (with_reducible refine Below.alloc ?_ ?_ _) | (with_reducible refine Below.drew ?_) | (with_reducible refine bl_drewN ?_ _) | (with_reducible refine Below.setCell ?_ ?_ _) | (with_reducible refine bl_step ?_ (by assumption)) | go_size))))).mono ?_; rintro e w6 ⟨rfl, hb6⟩; obtain ⟨hc6, hf6, hz6⟩ := bl hb6; (try simp at hz6); have c6a := (hc6 w.heap.size 0 (by omega)).trans c5a; have c6b := (hc6 w.heap.size 1 (by omega)).trans c5b; have c6c := (hc6 (w.heap.size + 1) 0 (by omega)).trans c5c; have c6d := (hc6 (w.heap.size + 1) 1 (by omega)).trans c5d; clear hc6 hf6))
    go_wp2
    go_ret
    exact ⟨rfl, by (repeat' (first | (with_reducible assumption) | (with_reducible exact Below.refl _ _) | (with_reducible refine Below.alloc ?_ ?_ _) | (with_reducible refine Below.drew ?_) | (with_reducible refine bl_drewN ?_ _) | (with_reducible refine Below.setCell ?_ ?_ _) | (with_reducible refine bl_step ?_ (by assumption)) | go_size))⟩
end Go.Proofs.YticapinlnlpbpaaDoor
