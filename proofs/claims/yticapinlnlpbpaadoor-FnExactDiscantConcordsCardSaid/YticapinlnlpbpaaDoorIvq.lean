/-
  The interval of two tones in the model.
-/
import Derived.Test.YticapinlnlpbpaaDoorIvt
namespace Go.Proofs.YticapinlnlpbpaaDoor
open Go.RowKit
set_option maxRecDepth 100000
set_option linter.unusedVariables false

set_option maxHeartbeats 1000000 in
theorem sToneInterval_any (s t : Int) (b c : Bool) (w : World) :
    Calls Tryd.prog 79 #[.agg #[.int .i64 s, .bool b], .agg #[.int .i64 t, .bool c]] w fun e w' => e = .returned (.string (ivt s b t c)) ∧ Below w.heap.size w w' := by
  by_cases hb : both s b t c = false
  · have e1 : ivt s b t c = ⟨#[]⟩ := by simp [ivt, hb]
    rw [e1]
    go_enter Tryd.func79, Tryd.ntmps79
    go_wp2_with (fail)
    (go_at_call 95; refine (sToneSteps_any _ _ _ _ _).mono ?_; rintro e w1 ⟨rfl, hb1⟩; obtain ⟨hc1, hf1, hz1⟩ := bl hb1; (try simp at hz1); (try (refine got (p := w.heap.size < w1.heap.size) ?_ ?_; (focus (go_size; done)); intro q1_w0)); (try (refine got (p := w1.cell? ⟨w.heap.size, 0, none⟩ = some (.int .i64 s)) ?_ ?_; (focus (refine (hc1 _ _ ?_).trans ?_; (focus (go_size; done)); go_simp; done)); intro c1_w0_0)); (try (refine got (p := w1.cell? ⟨w.heap.size, 1, none⟩ = some (.bool b)) ?_ ?_; (focus (refine (hc1 _ _ ?_).trans ?_; (focus (go_size; done)); go_simp; done)); intro c1_w0_1)); (try (refine got (p := ∀ o, w1.frozen? ⟨w.heap.size, o, none⟩ = false) ?_ ?_; (focus (intro o; refine (hf1 _ _ ?_).trans ?_; (focus (go_size; done)); go_simp; done)); intro f1_w0)); (try (refine got (p := w.heap.size + 1 < w1.heap.size) ?_ ?_; (focus (go_size; done)); intro q1_w1)); (try (refine got (p := w1.cell? ⟨w.heap.size + 1, 0, none⟩ = some (.int .i64 t)) ?_ ?_; (focus (refine (hc1 _ _ ?_).trans ?_; (focus (go_size; done)); go_simp; done)); intro c1_w1_0)); (try (refine got (p := w1.cell? ⟨w.heap.size + 1, 1, none⟩ = some (.bool c)) ?_ ?_; (focus (refine (hc1 _ _ ?_).trans ?_; (focus (go_size; done)); go_simp; done)); intro c1_w1_1)); (try (refine got (p := ∀ o, w1.frozen? ⟨w.heap.size + 1, o, none⟩ = false) ?_ ?_; (focus (intro o; refine (hf1 _ _ ?_).trans ?_; (focus (go_size; done)); go_simp; done)); intro f1_w1)); clear hc1 hf1)
    go_wp2
    go_ret
    exact ⟨rfl, by (repeat' (first | (with_reducible exact Below.refl _ _) | (with_reducible refine Below.alloc ?_ ?_ _) | (with_reducible refine Below.drew ?_) | (with_reducible refine Below.setCell ?_ ?_ _) | (with_reducible refine bl_step ?_ (by assumption)) | go_size))⟩
  rw [Bool.not_eq_false] at hb
  have hv : vd s b = true := by simp [both] at hb; exact hb.1
  have hu : vd t c = true := by simp [both] at hb; exact hb.2
  rw [ivt_yes hv hu]
  obtain ⟨h0, h1⟩ := vd_in hv
  obtain ⟨h2, h3⟩ := vd_in hu
  obtain ⟨g0, g1⟩ := hgt_bd (b := b) h0 h1
  obtain ⟨g2, g3⟩ := hgt_bd (b := c) h2 h3
  have HDN := Lib.hid (iv_down (s := s) (t := t) (b := b) (c := c))
  have HUP := Lib.hid (iv_up (s := s) (t := t) (b := b) (c := c))
  have hst := stp_yes hv hu
  have KP := Lib.hid (l1Height_any t c h2 h3)
  have KR := Lib.hid (l1Height_any s b h0 h1)
  have KS := Lib.hid (sToneSteps_any s t b c)
  rw [hst, hb] at KS
  obtain ⟨δ, hδ⟩ : ∃ δ, t - s = δ := ⟨_, rfl⟩
  obtain ⟨p, hp⟩ : ∃ p, hgt t c = p := ⟨_, rfl⟩
  obtain ⟨r, hr⟩ : ∃ r, hgt s b = r := ⟨_, rfl⟩
  have hδ0 : -20 ≤ δ := by omega
  have hδ1 : δ ≤ 20 := by omega
  rw [hδ, hp, hr] at HDN HUP
  rw [hδ] at KS
  rw [hp] at KP g2 g3
  rw [hr] at KR g0 g1
  obtain ⟨D, hD⟩ : ∃ D, p - r = D := ⟨_, rfl⟩
  have hD0 : -40 ≤ D := by omega
  have hD1 : D ≤ 40 := by omega
  rw [hD] at HDN HUP
  have u1 : IntKind.i64.wrap D = D := IntWalk.i64_in _ (by omega)
  clear hst hδ hp hr hv hu
  generalize ivN s t = n at HDN HUP
  generalize ivX s b t c = x at HDN HUP
  go_enter Tryd.func79, Tryd.ntmps79
  go_wp2_with (fail)
  (go_at_call 95; refine (KS.out _).mono ?_; rintro e w1 ⟨rfl, hb1⟩; obtain ⟨hc1, hf1, hz1⟩ := bl hb1; (try simp at hz1); have q1 : w.heap.size < w1.heap.size := by omega
   have q2 : w.heap.size + 1 < w1.heap.size := by omega
   have c1a : w1.cell? ⟨w.heap.size, 0, none⟩ = some (.int .i64 s) := (hc1 w.heap.size 0 (by go_size)).trans (by go_simp)
   have c1b : w1.cell? ⟨w.heap.size, 1, none⟩ = some (.bool b) := (hc1 w.heap.size 1 (by go_size)).trans (by go_simp)
   have c1c : w1.cell? ⟨w.heap.size + 1, 0, none⟩ = some (.int .i64 t) := (hc1 (w.heap.size + 1) 0 (by go_size)).trans (by go_simp)
   have c1d : w1.cell? ⟨w.heap.size + 1, 1, none⟩ = some (.bool c) := (hc1 (w.heap.size + 1) 1 (by go_size)).trans (by go_simp))
  have hbw : Below w.heap.size w w1 := by (repeat' (first | (with_reducible exact Below.refl _ _) | (with_reducible refine Below.alloc ?_ ?_ _) | (with_reducible refine Below.drew ?_) | (with_reducible refine Below.setCell ?_ ?_ _) | (with_reducible refine bl_step ?_ (by assumption)) | go_size))
  clear hc1 hf1
  go_wp2
  go_region_held3 (fun wx => wx.cell? ⟨w.heap.size, 0, none⟩ = some (.int .i64 s) ∧ wx.cell? ⟨w.heap.size, 1, none⟩ = some (.bool b) ∧ wx.cell? ⟨w.heap.size + 1, 0, none⟩ = some (.int .i64 t) ∧ wx.cell? ⟨w.heap.size + 1, 1, none⟩ = some (.bool c)) (go_keep)
    (first | (go_at_call_of 88 (Value.agg #[Value.int .i64 t, Value.bool c]); refine (KP.out _).mono ?_; rintro e w3 ⟨rfl, hb3⟩; obtain ⟨hc3, hf3, hz3⟩ := bl hb3; (try simp at hz3); have c3a := (hc3 w.heap.size 0 (by first | exact q1 | (simp; exact q1))).trans c1a; have c3b := (hc3 w.heap.size 1 (by first | exact q1 | (simp; exact q1))).trans c1b; have c3c := (hc3 (w.heap.size + 1) 0 (by first | exact q2 | (simp; exact q2))).trans c1c; have c3d := (hc3 (w.heap.size + 1) 1 (by first | exact q2 | (simp; exact q2))).trans c1d; clear hc3 hf3) | (go_at_call 88; refine (KR.out _).mono ?_; rintro e w4 ⟨rfl, hb4⟩; obtain ⟨hc4, hf4, hz4⟩ := bl hb4; (try simp at hz4); have c4a := (hc4 w.heap.size 0 (by omega)).trans c3a; have c4b := (hc4 w.heap.size 1 (by omega)).trans c3b; have c4c := (hc4 (w.heap.size + 1) 0 (by omega)).trans c3c; have c4d := (hc4 (w.heap.size + 1) 1 (by omega)).trans c3d; clear hc4 hf4))
  have hbw4 : Below w.heap.size w w4 := bl_step (bl_step hbw.drew hb3) hb4
  have hcs : δ < 0 ∨ (δ = 0 ∧ D < 0) ∨ 0 < δ ∨ (δ = 0 ∧ 0 ≤ D) := by omega
  rcases hcs with hd | ⟨rfl, hd⟩ | hd | ⟨rfl, hd⟩
  · obtain ⟨e1, e2⟩ := HDN.out (.inl hd)
    replace e1 := e1.symm
    replace e2 := e2.symm
    have m1 : IntKind.i64.wrap n = n := IntWalk.i64_in _ (by omega)
    have m2 : IntKind.i64.wrap x = x := IntWalk.i64_in _ (by omega)
    obtain ⟨k, hk⟩ : ∃ k, n + 1 = k := ⟨_, rfl⟩
    have m3 : IntKind.i64.wrap k = k := IntWalk.i64_in _ (by omega)
    have hadd := iv_add n x
    have KD := Lib.hid (l6DecN_any (n + 1) (by omega) (by omega))
    have KQ := Lib.hid (l1Quality_any n x (by omega) (by omega) (by omega) (by omega))
    rw [hk] at hadd KD
    clear HDN HUP hδ0 hδ1 hD0 hD1 g0 g1 g2 g3
    go_wp2_with (fail)
    (go_at_call 96; refine (KD.out _).mono ?_; rintro e w5 ⟨rfl, hb5⟩)
    go_wp2_with (fail)
    (go_at_call 97; refine (KQ.out _).mono ?_; rintro e w6 ⟨rfl, hb6⟩)
    go_wp2
    go_ret
    exact ⟨rfl, bl_step (bl_step hbw4 hb5) hb6⟩
  · obtain ⟨e1, e2⟩ := HDN.out (.inr ⟨rfl, hd⟩)
    obtain rfl : n = 0 := by omega
    replace e2 := e2.symm
    have m2 : IntKind.i64.wrap x = x := IntWalk.i64_in _ (by omega)
    have hadd : ∀ W : World, (Op.stringOp .add (decS 1) ⟨#[ivl 0 x]⟩).run Tryd.prog W = .ok (.string (ivw 0 x)) W := iv_add 0 x
    have KD := Lib.hid (l6DecN_any 1 (by omega) (by omega))
    have KQ := Lib.hid (l1Quality_any 0 x (by omega) (by omega) (by omega) (by omega))
    clear HDN HUP hδ0 hδ1 hD0 hD1 g0 g1 g2 g3 e1
    go_wp2_with (fail)
    (go_at_call 96; refine (KD.out _).mono ?_; rintro e w5 ⟨rfl, hb5⟩)
    go_wp2_with (fail)
    (go_at_call 97; refine (KQ.out _).mono ?_; rintro e w6 ⟨rfl, hb6⟩)
    go_wp2
    go_ret
    exact ⟨rfl, bl_step (bl_step hbw4 hb5) hb6⟩
  · obtain ⟨rfl, rfl⟩ := HUP.out (.inl hd)
    obtain ⟨k, hk⟩ : ∃ k, n + 1 = k := ⟨_, rfl⟩
    have m3 : IntKind.i64.wrap k = k := IntWalk.i64_in _ (by omega)
    have hadd := iv_add n x
    have KD := Lib.hid (l6DecN_any (n + 1) (by omega) (by omega))
    have KQ := Lib.hid (l1Quality_any n x (by omega) (by omega) (by omega) (by omega))
    rw [hk] at hadd KD
    clear HDN HUP hδ0 hδ1 hD0 hD1 g0 g1 g2 g3
    go_wp2_with (fail)
    (go_at_call 96; refine (KD.out _).mono ?_; rintro e w5 ⟨rfl, hb5⟩)
    go_wp2_with (fail)
    (go_at_call 97; refine (KQ.out _).mono ?_; rintro e w6 ⟨rfl, hb6⟩)
    go_wp2
    go_ret
    exact ⟨rfl, bl_step (bl_step hbw4 hb5) hb6⟩
  · obtain ⟨e1, e2⟩ := HUP.out (.inr ⟨rfl, hd⟩)
    subst e1 e2
    have hadd : ∀ W : World, (Op.stringOp .add (decS 1) ⟨#[ivl 0 x]⟩).run Tryd.prog W = .ok (.string (ivw 0 x)) W := iv_add 0 x
    have KD := Lib.hid (l6DecN_any 1 (by omega) (by omega))
    have KQ := Lib.hid (l1Quality_any 0 x (by omega) (by omega) (by omega) (by omega))
    clear HDN HUP hδ0 hδ1 hD0 hD1 g0 g1 g2 g3
    go_wp2_with (fail)
    (go_at_call 96; refine (KD.out _).mono ?_; rintro e w5 ⟨rfl, hb5⟩)
    go_wp2_with (fail)
    (go_at_call 97; refine (KQ.out _).mono ?_; rintro e w6 ⟨rfl, hb6⟩)
    go_wp2
    go_ret
    exact ⟨rfl, bl_step (bl_step hbw4 hb5) hb6⟩
end Go.Proofs.YticapinlnlpbpaaDoor
