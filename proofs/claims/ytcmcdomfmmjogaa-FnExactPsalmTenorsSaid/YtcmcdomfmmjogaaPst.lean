/-
  PsalmTenors in the model.
-/
import Derived.Test.YtcmcdomfmmjogaaPsr
namespace Go.Proofs.Ytcmcdomfmmjogaa
open Go.RowKit
set_option maxRecDepth 100000
set_option linter.unusedVariables false

set_option maxHeartbeats 4000000 in
theorem sPsalmTenors_any (v : Value) (p : Psa) (s : ByteArray) (hs : s.size ≤ 1048577) (w : World) (h : PV w v p) :
    Calls Try.prog 22 #[v, .string s] w fun e w' => e = .returned (.int .i64 (psT p s)) ∧ Below w.heap.size w w' := by
  have KF := Lib.hid (fun W (hb : Below w.heap.size w W) => sPsalmFits_any v p s hs W (h.below hb))
  have KS := Lib.hid (sVerseSyllables_any s (by omega))
  obtain ⟨v0, v1, v2, rfl, h0, h1, h2⟩ := h
  obtain ⟨a0, c0, rfl, l0, m0⟩ := h0.sl
  obtain ⟨a1, c1, rfl, l1, m1⟩ := h1.sl
  obtain ⟨a2, c2, rfl, l2, m2⟩ := h2.sl
  clear h0 h1 h2
  cases hok : pfit p s with
  | false =>
    have HN := Lib.hid (psT_no hok)
    rw [hok] at KF
    rw [HN.out]
    clear hok
    generalize p.st.length = n0 at *
    generalize p.mi.length = n1 at *
    generalize p.en.length = n2 at *
    go_enter Try.func22, Try.ntmps22
    go_wp2_with (fail)
    (go_at_call 26; refine (KF.out _ (by (repeat' (first | (with_reducible exact Below.refl _ _) | (with_reducible refine Below.alloc ?_ ?_ _) | (with_reducible refine Below.drew ?_) | (with_reducible refine Below.setCell ?_ ?_ _) | (with_reducible refine bl_step ?_ (by assumption)) | go_size)))).mono ?_; rintro e w1 ⟨rfl, hb1⟩)
    go_wp2
    go_ret
    exact ⟨rfl, by (repeat' (first | (with_reducible exact Below.refl _ _) | (with_reducible refine Below.alloc ?_ ?_ _) | (with_reducible refine Below.drew ?_) | (with_reducible refine Below.setCell ?_ ?_ _) | (with_reducible refine bl_step ?_ (by assumption)) | go_size))⟩
  | true =>
    obtain ⟨hpv, hvv, h3, h4⟩ := pfit_in hok
    obtain ⟨_, pa, pb, pc⟩ := pv_in hpv
    have s0 := (partV_in pa).2.1
    have s1 := (partV_in pb).2.1
    have s2 := (partV_in pc).2.1
    obtain ⟨e1, e2⟩ := vFst_yes hvv
    have hXs := vhalf_size s
    have hsy : vsyl s = (((vFst s).size + (vSnd s).size : Nat) : Int) := by unfold vsyl; rw [hvv, e1, e2, mk_size, mk_size]; rfl
    have HP := Lib.hid (psT_yes hok)
    rw [hok] at KF
    rw [hsy] at KS
    clear hok hpv hvv pa pb pc e1 e2 hsy
    generalize psT p s = r at *
    generalize (vFst s).size = X at *
    generalize (vSnd s).size = Y at *
    generalize p.st.length = n0 at *
    generalize p.mi.length = n1 at *
    generalize p.en.length = n2 at *
    have x1 : IntKind.i64.wrap (((X + Y : Nat) : Int) - (n0 : Int)) = ((X + Y - n0 : Nat) : Int) := by rw [IntWalk.i64_in _ (by omega)]; omega
    have x2 : IntKind.i64.wrap (((X + Y - n0 : Nat) : Int) - (n1 : Int)) = ((X + Y - n0 - n1 : Nat) : Int) := by rw [IntWalk.i64_in _ (by omega)]; omega
    have x3 : IntKind.i64.wrap (((X + Y - n0 - n1 : Nat) : Int) - (n2 : Int)) = r := by rw [IntWalk.i64_in _ (by omega), HP.out]; omega
    generalize X + Y - n0 - n1 = q2 at *
    generalize X + Y - n0 = q1 at *
    generalize X + Y = q0 at *
    clear HP h3 h4 hXs
    go_enter Try.func22, Try.ntmps22
    go_wp2_with (fail)
    (go_at_call 26; refine (KF.out _ (by (repeat' (first | (with_reducible exact Below.refl _ _) | (with_reducible refine Below.alloc ?_ ?_ _) | (with_reducible refine Below.drew ?_) | (with_reducible refine Below.setCell ?_ ?_ _) | (with_reducible refine bl_step ?_ (by assumption)) | go_size)))).mono ?_; rintro e w1 ⟨rfl, hb1⟩; obtain ⟨hc1, hf1, hz1⟩ := bl hb1; (try simp at hz1); (try (refine got (p := w.heap.size < w1.heap.size) ?_ ?_; (focus (go_size; done)); intro q1_w0)); (try (refine got (p := w1.cell? ⟨w.heap.size, 0, none⟩ = some (.slice a0 n0 c0)) ?_ ?_; (focus (refine (hc1 _ _ ?_).trans ?_; (focus (go_size; done)); go_simp; done)); intro c1_w0_0)); (try (refine got (p := w1.cell? ⟨w.heap.size, 1, none⟩ = some (.int .i64 p.tn.1)) ?_ ?_; (focus (refine (hc1 _ _ ?_).trans ?_; (focus (go_size; done)); go_simp; done)); intro c1_w0_1)); (try (refine got (p := w1.cell? ⟨w.heap.size, 2, none⟩ = some (.bool p.tn.2)) ?_ ?_; (focus (refine (hc1 _ _ ?_).trans ?_; (focus (go_size; done)); go_simp; done)); intro c1_w0_2)); (try (refine got (p := w1.cell? ⟨w.heap.size, 3, none⟩ = some (.slice a1 n1 c1)) ?_ ?_; (focus (refine (hc1 _ _ ?_).trans ?_; (focus (go_size; done)); go_simp; done)); intro c1_w0_3)); (try (refine got (p := w1.cell? ⟨w.heap.size, 4, none⟩ = some (.slice a2 n2 c2)) ?_ ?_; (focus (refine (hc1 _ _ ?_).trans ?_; (focus (go_size; done)); go_simp; done)); intro c1_w0_4)); (try (refine got (p := ∀ o, w1.frozen? ⟨w.heap.size, o, none⟩ = false) ?_ ?_; (focus (intro o; refine (hf1 _ _ ?_).trans ?_; (focus (go_size; done)); go_simp; done)); intro f1_w0)); clear hc1 hf1)
    go_wp2_with (fail)
    have hbw1 : Below w.heap.size w w1 := by (repeat' (first | (with_reducible exact Below.refl _ _) | (with_reducible refine Below.alloc ?_ ?_ _) | (with_reducible refine Below.drew ?_) | (with_reducible refine Below.setCell ?_ ?_ _) | (with_reducible refine bl_step ?_ (by assumption)) | go_size))
    go_region_held3 (fun wx => wx.cell? ⟨w.heap.size, 0, none⟩ = some (.slice a0 n0 c0) ∧ wx.cell? ⟨w.heap.size, 3, none⟩ = some (.slice a1 n1 c1) ∧ wx.cell? ⟨w.heap.size, 4, none⟩ = some (.slice a2 n2 c2)) (go_keep)
      (first | (go_at_call 54; refine (KS.out _).mono ?_; rintro e w2 ⟨rfl, hb2⟩; have k0 := (hb2.cell (p := ⟨w.heap.size, 0, none⟩) q1_w0).trans c1_w0_0; have k3 := (hb2.cell (p := ⟨w.heap.size, 3, none⟩) q1_w0).trans c1_w0_3; have k4 := (hb2.cell (p := ⟨w.heap.size, 4, none⟩) q1_w0).trans c1_w0_4))
    go_wp2
    go_ret
    exact ⟨rfl, bl_step hbw1 (bl_step (Below.refl _ _).drew hb2)⟩
end Go.Proofs.Ytcmcdomfmmjogaa
